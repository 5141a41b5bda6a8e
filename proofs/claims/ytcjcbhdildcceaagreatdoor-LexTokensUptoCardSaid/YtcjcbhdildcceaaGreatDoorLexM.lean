/- Contract of the reader's method measure of package lex. No conditions but those in the statement. -/
import Derived.Test.YtcjcbhdildcceaaGreatDoorLexE
namespace Go.Proofs.YtcjcbhdildcceaaGreatDoor
open Go.RowKit

theorem beq_byte (b : UInt8) (n : Nat) (x : UInt8) (h : x.toNat = n) : ((b.toNat : Int) == (n : Int)) = (b == x) := by
  rw [Bool.eq_iff_iff, beq_iff_eq, beq_iff_eq]
  exact ⟨fun e => UInt8.toNat_inj.1 (by omega), fun e => by rw [e]; omega⟩

def Lx.measureF (lt e95 dg e39 op e46 jn sg : Bool) (wd nm qt oper : Lx.M) : Lx.M :=
  if lt || e95 then wd else if dg then nm else if e39 then qt else if op then oper else if e46 && jn then .ok 9 1 else if sg then .ok 8 1 else .bad 10
theorem Lx.measure_eq (s : List UInt8) (ix k t : Nat) : Lx.measure s ix k t = Lx.measureF (Lx.letter (s[ix]?.getD 0)) (s[ix]?.getD 0 == 95) (Lx.digit (s[ix]?.getD 0)) (s[ix]?.getD 0 == 39)
    (Lx.operator (s[ix]?.getD 0)) (s[ix]?.getD 0 == 46) (Lx.joins s ix k t) (Lx.sign (s[ix]?.getD 0)) (Lx.word (s.drop ix)) (Lx.number (s.drop ix)) (Lx.quoted (s.drop ix)) (Lx.operation (s.drop ix)) := rfl

set_option maxHeartbeats 4000000 in
set_option maxRecDepth 100000 in
theorem measure_c (B T cap : Nat) (s : List UInt8) (p : Lx.Place) (last : Lx.Sp) (w : World) (h : Rdr B T cap s p last w) (hin : p.ix < s.length) :
    Calls Tryz.prog 50 #[.pointer (some ⟨B, 0, none⟩)] w fun e w' => e = (Lx.measure s p.ix last.kind last.to).ends p.ix ∧ Below w.heap.size w w' := by
  have hD := Lx.measure_eq s p.ix last.kind last.to
  have c0 := h.ix
  have tx := h.tx
  have hcc := h.tc p.ix hin
  have k2 : w.cell? ⟨B, 5, none⟩ = some (.func (.func 83) #[] #[]) := h.ks.2.2.1
  have k3 : w.cell? ⟨B, 6, none⟩ = some (.func (.func 84) #[] #[]) := h.ks.2.2.2.1
  have k4 : w.cell? ⟨B, 7, none⟩ = some (.func (.func 86) #[] #[]) := h.ks.2.2.2.2.1
  have hsz : ∀ q, (w.drewN q).heap.size = w.heap.size := fun q => by simp
  have hwd := fun q => word_c B T cap s p last (w.drewN q) (h.drewN q) hin
  have hnm := fun q => number_c B T cap s p last (w.drewN q) (h.drewN q)
  have hqt := fun q => quoted_c B T cap s p last (w.drewN q) (h.drewN q) hin
  have hop := fun q => operation_c B T cap s p last (w.drewN q) (h.drewN q)
  have hjn := fun q => joins_c B T cap s p last (w.drewN q) (h.drewN q)
  have hlt := fun q => letter_c (s[p.ix]?.getD 0) B 3 (w.drewN q) (h.drewN q).ks
  have hdg := fun W => digit_c (s[p.ix]?.getD 0) W
  have hor := fun W => operator_c (s[p.ix]?.getD 0) W
  have hsg := fun W => sign_c (s[p.ix]?.getD 0) W
  have e95 := beq_byte (s[p.ix]?.getD 0) 95 95 rfl
  have e39 := beq_byte (s[p.ix]?.getD 0) 39 39 rfl
  have e46 := beq_byte (s[p.ix]?.getD 0) 46 46 rfl
  have hqe : Lx.quoted (s.drop p.ix) = (match Lx.quotedN (s.drop (p.ix + 1)) with | some n => .ok 6 (n + 1) | none => .bad 11) := by
    unfold Lx.quoted; rw [List.tail_drop]; cases Lx.quotedN (s.drop (p.ix + 1)) <;> rfl
  have hini : (p.ix : Int) < (s.length : Int) := by omega
  have hcap := h.cap_le
  have hsm := h.small
  clear h
  generalize Lx.joins s p.ix last.kind last.to = jn at hD hjn
  generalize Lx.letter (s[p.ix]?.getD 0) = lt at hD hlt
  generalize Lx.digit (s[p.ix]?.getD 0) = dg at hD hdg
  generalize Lx.operator (s[p.ix]?.getD 0) = op at hD hor
  generalize Lx.sign (s[p.ix]?.getD 0) = sg at hD hsg
  generalize Lx.word (s.drop p.ix) = wd at hD hwd
  generalize Lx.number (s.drop p.ix) = nm at hD hnm
  generalize Lx.operation (s.drop p.ix) = oper at hD hop
  generalize Lx.quoted (s.drop p.ix) = qt at hD hqe
  generalize Lx.quotedN (s.drop (p.ix + 1)) = qn at hqe hqt
  generalize (s[p.ix]?.getD 0 == 95) = b95 at hD e95
  generalize (s[p.ix]?.getD 0 == 39) = b39 at hD e39
  generalize (s[p.ix]?.getD 0 == 46) = b46 at hD e46
  generalize s[p.ix]?.getD 0 = b at *
  have f95 : ((b.toNat : Int) == 95) = b95 := e95
  have f39 : ((b.toNat : Int) == 39) = b39 := e39
  have f46 : ((b.toNat : Int) == 46) = b46 := e46
  have b0 : Below w.heap.size w w := Below.refl _ _
  have HD := Lib.hid hD
  have HWD := Lib.hid hwd
  have HNM := Lib.hid hnm
  have HQT := Lib.hid hqt
  have HOP := Lib.hid hop
  have HJN := Lib.hid hjn
  have HLT := Lib.hid hlt
  have HDG := Lib.hid hdg
  have HOR := Lib.hid hor
  have HSG := Lib.hid hsg
  have HQE := Lib.hid hqe
  have HB0 := Lib.hid b0
  clear hD hwd hnm hqt hop hjn hlt hdg hor hsg hqe b0 e95 e39 e46 hsz
  cases lt with
  | true =>
    cases wd with
    | ok k n =>
      have hw := HWD.out
      simp only [Lx.M.ends] at hw
      have HWD := Lib.hid hw
      clear hw
      go_enter Tryz.func50, Tryz.ntmps50
      go_wp2
      go_quiet (fail)
      go_wp2_with (first
        | (go_at_call 69; refine (HLT.out _).mono ?_; rintro e w' ⟨rfl, rfl⟩)
        | (go_at_call 83; refine (HDG.out _).mono ?_; rintro e w' ⟨rfl, rfl⟩)
        | (go_at_call 84; refine (HOR.out _).mono ?_; rintro e w' ⟨rfl, rfl⟩)
        | (go_at_call 86; refine (HSG.out _).mono ?_; rintro e w' ⟨rfl, rfl⟩)
        | (go_at_call 74; refine (HJN.out _).mono ?_; rintro e w' ⟨rfl, q, rfl⟩)
        | (go_at_call 70; refine (HWD.out _).mono ?_; rintro e w' ⟨rfl, hbw⟩; have HBW := Lib.hid hbw; clear hbw)
        | (go_at_call 71; refine (HNM.out _).mono ?_; rintro e w' ⟨rfl, q, rfl⟩)
        | (go_at_call 73; refine (HOP.out _).mono ?_; rintro e w' ⟨rfl, q, rfl⟩)
        | (go_at_call 72; refine (HQT.out _).mono ?_; rintro e w' ⟨rfl, q, rfl⟩))
      go_ret2
      exact ⟨by rw [HD.out]; rfl, below_of_dn HBW.out (Nat.le_refl _)⟩
    | bad e =>
      have hw := HWD.out
      simp only [Lx.M.ends, panicE] at hw
      have HWD := Lib.hid hw
      clear hw
      go_enter Tryz.func50, Tryz.ntmps50
      go_wp2
      go_quiet (fail)
      go_wp2_with (first
        | (go_at_call 69; refine (HLT.out _).mono ?_; rintro e w' ⟨rfl, rfl⟩)
        | (go_at_call 83; refine (HDG.out _).mono ?_; rintro e w' ⟨rfl, rfl⟩)
        | (go_at_call 84; refine (HOR.out _).mono ?_; rintro e w' ⟨rfl, rfl⟩)
        | (go_at_call 86; refine (HSG.out _).mono ?_; rintro e w' ⟨rfl, rfl⟩)
        | (go_at_call 74; refine (HJN.out _).mono ?_; rintro e w' ⟨rfl, q, rfl⟩)
        | (go_at_call 70; refine (HWD.out _).mono ?_; rintro e w' ⟨rfl, hbw⟩; have HBW := Lib.hid hbw; clear hbw)
        | (go_at_call 71; refine (HNM.out _).mono ?_; rintro e w' ⟨rfl, q, rfl⟩)
        | (go_at_call 73; refine (HOP.out _).mono ?_; rintro e w' ⟨rfl, q, rfl⟩)
        | (go_at_call 72; refine (HQT.out _).mono ?_; rintro e w' ⟨rfl, q, rfl⟩))
      exact ⟨rfl, by rw [HD.out]; rfl, below_of_dn HBW.out (Nat.le_refl _)⟩
  | false =>
    cases b95 with
    | true =>
      cases wd with
      | ok k n =>
        have hw := HWD.out
        simp only [Lx.M.ends] at hw
        have HWD := Lib.hid hw
        clear hw
        go_enter Tryz.func50, Tryz.ntmps50
        go_wp2
        go_quiet (fail)
        go_wp2_with (first
          | (go_at_call 69; refine (HLT.out _).mono ?_; rintro e w' ⟨rfl, rfl⟩)
          | (go_at_call 83; refine (HDG.out _).mono ?_; rintro e w' ⟨rfl, rfl⟩)
          | (go_at_call 84; refine (HOR.out _).mono ?_; rintro e w' ⟨rfl, rfl⟩)
          | (go_at_call 86; refine (HSG.out _).mono ?_; rintro e w' ⟨rfl, rfl⟩)
          | (go_at_call 74; refine (HJN.out _).mono ?_; rintro e w' ⟨rfl, q, rfl⟩)
          | (go_at_call 70; refine (HWD.out _).mono ?_; rintro e w' ⟨rfl, hbw⟩; have HBW := Lib.hid hbw; clear hbw)
          | (go_at_call 71; refine (HNM.out _).mono ?_; rintro e w' ⟨rfl, q, rfl⟩)
          | (go_at_call 73; refine (HOP.out _).mono ?_; rintro e w' ⟨rfl, q, rfl⟩)
          | (go_at_call 72; refine (HQT.out _).mono ?_; rintro e w' ⟨rfl, q, rfl⟩))
        go_ret2
        exact ⟨by rw [HD.out]; rfl, below_of_dn HBW.out (Nat.le_refl _)⟩
      | bad e =>
        have hw := HWD.out
        simp only [Lx.M.ends, panicE] at hw
        have HWD := Lib.hid hw
        clear hw
        go_enter Tryz.func50, Tryz.ntmps50
        go_wp2
        go_quiet (fail)
        go_wp2_with (first
          | (go_at_call 69; refine (HLT.out _).mono ?_; rintro e w' ⟨rfl, rfl⟩)
          | (go_at_call 83; refine (HDG.out _).mono ?_; rintro e w' ⟨rfl, rfl⟩)
          | (go_at_call 84; refine (HOR.out _).mono ?_; rintro e w' ⟨rfl, rfl⟩)
          | (go_at_call 86; refine (HSG.out _).mono ?_; rintro e w' ⟨rfl, rfl⟩)
          | (go_at_call 74; refine (HJN.out _).mono ?_; rintro e w' ⟨rfl, q, rfl⟩)
          | (go_at_call 70; refine (HWD.out _).mono ?_; rintro e w' ⟨rfl, hbw⟩; have HBW := Lib.hid hbw; clear hbw)
          | (go_at_call 71; refine (HNM.out _).mono ?_; rintro e w' ⟨rfl, q, rfl⟩)
          | (go_at_call 73; refine (HOP.out _).mono ?_; rintro e w' ⟨rfl, q, rfl⟩)
          | (go_at_call 72; refine (HQT.out _).mono ?_; rintro e w' ⟨rfl, q, rfl⟩))
        exact ⟨rfl, by rw [HD.out]; rfl, below_of_dn HBW.out (Nat.le_refl _)⟩
    | false =>
      cases dg with
      | true =>
        cases nm with
        | ok k n =>
          have hw := HNM.out
          simp only [Lx.M.ends] at hw
          have HNM := Lib.hid hw
          clear hw
          go_enter Tryz.func50, Tryz.ntmps50
          go_wp2
          go_quiet (fail)
          go_wp2_with (first
            | (go_at_call 69; refine (HLT.out _).mono ?_; rintro e w' ⟨rfl, rfl⟩)
            | (go_at_call 83; refine (HDG.out _).mono ?_; rintro e w' ⟨rfl, rfl⟩)
            | (go_at_call 84; refine (HOR.out _).mono ?_; rintro e w' ⟨rfl, rfl⟩)
            | (go_at_call 86; refine (HSG.out _).mono ?_; rintro e w' ⟨rfl, rfl⟩)
            | (go_at_call 74; refine (HJN.out _).mono ?_; rintro e w' ⟨rfl, q, rfl⟩)
            | (go_at_call 70; refine (HWD.out _).mono ?_; rintro e w' ⟨rfl, hbw⟩; have HBW := Lib.hid hbw; clear hbw)
            | (go_at_call 71; refine (HNM.out _).mono ?_; rintro e w' ⟨rfl, q, rfl⟩)
            | (go_at_call 73; refine (HOP.out _).mono ?_; rintro e w' ⟨rfl, q, rfl⟩)
            | (go_at_call 72; refine (HQT.out _).mono ?_; rintro e w' ⟨rfl, q, rfl⟩))
          go_ret2
          exact ⟨by rw [HD.out]; rfl, (by first | exact below_dn HB0.out _ | exact below_dn (below_dn HB0.out _) _)⟩
        | bad e =>
          have hw := HNM.out
          simp only [Lx.M.ends, panicE] at hw
          have HNM := Lib.hid hw
          clear hw
          go_enter Tryz.func50, Tryz.ntmps50
          go_wp2
          go_quiet (fail)
          go_wp2_with (first
            | (go_at_call 69; refine (HLT.out _).mono ?_; rintro e w' ⟨rfl, rfl⟩)
            | (go_at_call 83; refine (HDG.out _).mono ?_; rintro e w' ⟨rfl, rfl⟩)
            | (go_at_call 84; refine (HOR.out _).mono ?_; rintro e w' ⟨rfl, rfl⟩)
            | (go_at_call 86; refine (HSG.out _).mono ?_; rintro e w' ⟨rfl, rfl⟩)
            | (go_at_call 74; refine (HJN.out _).mono ?_; rintro e w' ⟨rfl, q, rfl⟩)
            | (go_at_call 70; refine (HWD.out _).mono ?_; rintro e w' ⟨rfl, hbw⟩; have HBW := Lib.hid hbw; clear hbw)
            | (go_at_call 71; refine (HNM.out _).mono ?_; rintro e w' ⟨rfl, q, rfl⟩)
            | (go_at_call 73; refine (HOP.out _).mono ?_; rintro e w' ⟨rfl, q, rfl⟩)
            | (go_at_call 72; refine (HQT.out _).mono ?_; rintro e w' ⟨rfl, q, rfl⟩))
          exact ⟨rfl, by rw [HD.out]; rfl, (by first | exact below_dn HB0.out _ | exact below_dn (below_dn HB0.out _) _)⟩
      | false =>
        cases b39 with
        | true =>
          cases qn with
          | some n =>
            have hw := HQT.out
            simp only [quotedEnds] at hw
            have HQT := Lib.hid hw
            clear hw
            go_enter Tryz.func50, Tryz.ntmps50
            go_wp2
            go_quiet (fail)
            go_wp2_with (first
              | (go_at_call 69; refine (HLT.out _).mono ?_; rintro e w' ⟨rfl, rfl⟩)
              | (go_at_call 83; refine (HDG.out _).mono ?_; rintro e w' ⟨rfl, rfl⟩)
              | (go_at_call 84; refine (HOR.out _).mono ?_; rintro e w' ⟨rfl, rfl⟩)
              | (go_at_call 86; refine (HSG.out _).mono ?_; rintro e w' ⟨rfl, rfl⟩)
              | (go_at_call 74; refine (HJN.out _).mono ?_; rintro e w' ⟨rfl, q, rfl⟩)
              | (go_at_call 70; refine (HWD.out _).mono ?_; rintro e w' ⟨rfl, hbw⟩; have HBW := Lib.hid hbw; clear hbw)
              | (go_at_call 71; refine (HNM.out _).mono ?_; rintro e w' ⟨rfl, q, rfl⟩)
              | (go_at_call 73; refine (HOP.out _).mono ?_; rintro e w' ⟨rfl, q, rfl⟩)
              | (go_at_call 72; refine (HQT.out _).mono ?_; rintro e w' ⟨rfl, q, rfl⟩))
            go_ret2
            exact ⟨by rw [HD.out, show qt = _ from HQE.out]; exact ret_pair rfl (by simp), (by first | exact below_dn HB0.out _ | exact below_dn (below_dn HB0.out _) _)⟩
          | none =>
            have hw := HQT.out
            simp only [quotedEnds, panicE] at hw
            have HQT := Lib.hid hw
            clear hw
            go_enter Tryz.func50, Tryz.ntmps50
            go_wp2
            go_quiet (fail)
            go_wp2_with (first
              | (go_at_call 69; refine (HLT.out _).mono ?_; rintro e w' ⟨rfl, rfl⟩)
              | (go_at_call 83; refine (HDG.out _).mono ?_; rintro e w' ⟨rfl, rfl⟩)
              | (go_at_call 84; refine (HOR.out _).mono ?_; rintro e w' ⟨rfl, rfl⟩)
              | (go_at_call 86; refine (HSG.out _).mono ?_; rintro e w' ⟨rfl, rfl⟩)
              | (go_at_call 74; refine (HJN.out _).mono ?_; rintro e w' ⟨rfl, q, rfl⟩)
              | (go_at_call 70; refine (HWD.out _).mono ?_; rintro e w' ⟨rfl, hbw⟩; have HBW := Lib.hid hbw; clear hbw)
              | (go_at_call 71; refine (HNM.out _).mono ?_; rintro e w' ⟨rfl, q, rfl⟩)
              | (go_at_call 73; refine (HOP.out _).mono ?_; rintro e w' ⟨rfl, q, rfl⟩)
              | (go_at_call 72; refine (HQT.out _).mono ?_; rintro e w' ⟨rfl, q, rfl⟩))
            exact ⟨rfl, by rw [HD.out, show qt = _ from HQE.out]; rfl, (by first | exact below_dn HB0.out _ | exact below_dn (below_dn HB0.out _) _)⟩
        | false =>
          cases op with
          | true =>
            cases oper with
            | ok k n =>
              have hw := HOP.out
              simp only [Lx.M.ends] at hw
              have HOP := Lib.hid hw
              clear hw
              go_enter Tryz.func50, Tryz.ntmps50
              go_wp2
              go_quiet (fail)
              go_wp2_with (first
                | (go_at_call 69; refine (HLT.out _).mono ?_; rintro e w' ⟨rfl, rfl⟩)
                | (go_at_call 83; refine (HDG.out _).mono ?_; rintro e w' ⟨rfl, rfl⟩)
                | (go_at_call 84; refine (HOR.out _).mono ?_; rintro e w' ⟨rfl, rfl⟩)
                | (go_at_call 86; refine (HSG.out _).mono ?_; rintro e w' ⟨rfl, rfl⟩)
                | (go_at_call 74; refine (HJN.out _).mono ?_; rintro e w' ⟨rfl, q, rfl⟩)
                | (go_at_call 70; refine (HWD.out _).mono ?_; rintro e w' ⟨rfl, hbw⟩; have HBW := Lib.hid hbw; clear hbw)
                | (go_at_call 71; refine (HNM.out _).mono ?_; rintro e w' ⟨rfl, q, rfl⟩)
                | (go_at_call 73; refine (HOP.out _).mono ?_; rintro e w' ⟨rfl, q, rfl⟩)
                | (go_at_call 72; refine (HQT.out _).mono ?_; rintro e w' ⟨rfl, q, rfl⟩))
              go_ret2
              exact ⟨by rw [HD.out]; rfl, (by first | exact below_dn HB0.out _ | exact below_dn (below_dn HB0.out _) _)⟩
            | bad e =>
              have hw := HOP.out
              simp only [Lx.M.ends, panicE] at hw
              have HOP := Lib.hid hw
              clear hw
              go_enter Tryz.func50, Tryz.ntmps50
              go_wp2
              go_quiet (fail)
              go_wp2_with (first
                | (go_at_call 69; refine (HLT.out _).mono ?_; rintro e w' ⟨rfl, rfl⟩)
                | (go_at_call 83; refine (HDG.out _).mono ?_; rintro e w' ⟨rfl, rfl⟩)
                | (go_at_call 84; refine (HOR.out _).mono ?_; rintro e w' ⟨rfl, rfl⟩)
                | (go_at_call 86; refine (HSG.out _).mono ?_; rintro e w' ⟨rfl, rfl⟩)
                | (go_at_call 74; refine (HJN.out _).mono ?_; rintro e w' ⟨rfl, q, rfl⟩)
                | (go_at_call 70; refine (HWD.out _).mono ?_; rintro e w' ⟨rfl, hbw⟩; have HBW := Lib.hid hbw; clear hbw)
                | (go_at_call 71; refine (HNM.out _).mono ?_; rintro e w' ⟨rfl, q, rfl⟩)
                | (go_at_call 73; refine (HOP.out _).mono ?_; rintro e w' ⟨rfl, q, rfl⟩)
                | (go_at_call 72; refine (HQT.out _).mono ?_; rintro e w' ⟨rfl, q, rfl⟩))
              exact ⟨rfl, by rw [HD.out]; rfl, (by first | exact below_dn HB0.out _ | exact below_dn (below_dn HB0.out _) _)⟩
          | false =>
            cases b46 with
            | true =>
              cases jn with
              | true =>
                go_enter Tryz.func50, Tryz.ntmps50
                go_wp2
                go_quiet (fail)
                go_wp2_with (first
                  | (go_at_call 69; refine (HLT.out _).mono ?_; rintro e w' ⟨rfl, rfl⟩)
                  | (go_at_call 83; refine (HDG.out _).mono ?_; rintro e w' ⟨rfl, rfl⟩)
                  | (go_at_call 84; refine (HOR.out _).mono ?_; rintro e w' ⟨rfl, rfl⟩)
                  | (go_at_call 86; refine (HSG.out _).mono ?_; rintro e w' ⟨rfl, rfl⟩)
                  | (go_at_call 74; refine (HJN.out _).mono ?_; rintro e w' ⟨rfl, q, rfl⟩)
                  | (go_at_call 70; refine (HWD.out _).mono ?_; rintro e w' ⟨rfl, hbw⟩; have HBW := Lib.hid hbw; clear hbw)
                  | (go_at_call 71; refine (HNM.out _).mono ?_; rintro e w' ⟨rfl, q, rfl⟩)
                  | (go_at_call 73; refine (HOP.out _).mono ?_; rintro e w' ⟨rfl, q, rfl⟩)
                  | (go_at_call 72; refine (HQT.out _).mono ?_; rintro e w' ⟨rfl, q, rfl⟩))
                go_ret2
                exact ⟨by rw [HD.out]; rfl, (by first | exact below_dn HB0.out _ | exact below_dn (below_dn HB0.out _) _)⟩
              | false =>
                cases sg with
                | true =>
                  go_enter Tryz.func50, Tryz.ntmps50
                  go_wp2
                  go_quiet (fail)
                  go_wp2_with (first
                    | (go_at_call 69; refine (HLT.out _).mono ?_; rintro e w' ⟨rfl, rfl⟩)
                    | (go_at_call 83; refine (HDG.out _).mono ?_; rintro e w' ⟨rfl, rfl⟩)
                    | (go_at_call 84; refine (HOR.out _).mono ?_; rintro e w' ⟨rfl, rfl⟩)
                    | (go_at_call 86; refine (HSG.out _).mono ?_; rintro e w' ⟨rfl, rfl⟩)
                    | (go_at_call 74; refine (HJN.out _).mono ?_; rintro e w' ⟨rfl, q, rfl⟩)
                    | (go_at_call 70; refine (HWD.out _).mono ?_; rintro e w' ⟨rfl, hbw⟩; have HBW := Lib.hid hbw; clear hbw)
                    | (go_at_call 71; refine (HNM.out _).mono ?_; rintro e w' ⟨rfl, q, rfl⟩)
                    | (go_at_call 73; refine (HOP.out _).mono ?_; rintro e w' ⟨rfl, q, rfl⟩)
                    | (go_at_call 72; refine (HQT.out _).mono ?_; rintro e w' ⟨rfl, q, rfl⟩))
                  go_ret2
                  exact ⟨by rw [HD.out]; rfl, (by first | exact below_dn HB0.out _ | exact below_dn (below_dn HB0.out _) _)⟩
                | false =>
                  go_enter Tryz.func50, Tryz.ntmps50
                  go_wp2
                  go_quiet (fail)
                  go_wp2_with (first
                    | (go_at_call 69; refine (HLT.out _).mono ?_; rintro e w' ⟨rfl, rfl⟩)
                    | (go_at_call 83; refine (HDG.out _).mono ?_; rintro e w' ⟨rfl, rfl⟩)
                    | (go_at_call 84; refine (HOR.out _).mono ?_; rintro e w' ⟨rfl, rfl⟩)
                    | (go_at_call 86; refine (HSG.out _).mono ?_; rintro e w' ⟨rfl, rfl⟩)
                    | (go_at_call 74; refine (HJN.out _).mono ?_; rintro e w' ⟨rfl, q, rfl⟩)
                    | (go_at_call 70; refine (HWD.out _).mono ?_; rintro e w' ⟨rfl, hbw⟩; have HBW := Lib.hid hbw; clear hbw)
                    | (go_at_call 71; refine (HNM.out _).mono ?_; rintro e w' ⟨rfl, q, rfl⟩)
                    | (go_at_call 73; refine (HOP.out _).mono ?_; rintro e w' ⟨rfl, q, rfl⟩)
                    | (go_at_call 72; refine (HQT.out _).mono ?_; rintro e w' ⟨rfl, q, rfl⟩))
                  exact ⟨rfl, by rw [HD.out]; rfl, (by first | exact below_dn HB0.out _ | exact below_dn (below_dn HB0.out _) _)⟩
            | false =>
              cases sg with
              | true =>
                go_enter Tryz.func50, Tryz.ntmps50
                go_wp2
                go_quiet (fail)
                go_wp2_with (first
                  | (go_at_call 69; refine (HLT.out _).mono ?_; rintro e w' ⟨rfl, rfl⟩)
                  | (go_at_call 83; refine (HDG.out _).mono ?_; rintro e w' ⟨rfl, rfl⟩)
                  | (go_at_call 84; refine (HOR.out _).mono ?_; rintro e w' ⟨rfl, rfl⟩)
                  | (go_at_call 86; refine (HSG.out _).mono ?_; rintro e w' ⟨rfl, rfl⟩)
                  | (go_at_call 74; refine (HJN.out _).mono ?_; rintro e w' ⟨rfl, q, rfl⟩)
                  | (go_at_call 70; refine (HWD.out _).mono ?_; rintro e w' ⟨rfl, hbw⟩; have HBW := Lib.hid hbw; clear hbw)
                  | (go_at_call 71; refine (HNM.out _).mono ?_; rintro e w' ⟨rfl, q, rfl⟩)
                  | (go_at_call 73; refine (HOP.out _).mono ?_; rintro e w' ⟨rfl, q, rfl⟩)
                  | (go_at_call 72; refine (HQT.out _).mono ?_; rintro e w' ⟨rfl, q, rfl⟩))
                go_ret2
                exact ⟨by rw [HD.out]; rfl, (by first | exact below_dn HB0.out _ | exact below_dn (below_dn HB0.out _) _)⟩
              | false =>
                go_enter Tryz.func50, Tryz.ntmps50
                go_wp2
                go_quiet (fail)
                go_wp2_with (first
                  | (go_at_call 69; refine (HLT.out _).mono ?_; rintro e w' ⟨rfl, rfl⟩)
                  | (go_at_call 83; refine (HDG.out _).mono ?_; rintro e w' ⟨rfl, rfl⟩)
                  | (go_at_call 84; refine (HOR.out _).mono ?_; rintro e w' ⟨rfl, rfl⟩)
                  | (go_at_call 86; refine (HSG.out _).mono ?_; rintro e w' ⟨rfl, rfl⟩)
                  | (go_at_call 74; refine (HJN.out _).mono ?_; rintro e w' ⟨rfl, q, rfl⟩)
                  | (go_at_call 70; refine (HWD.out _).mono ?_; rintro e w' ⟨rfl, hbw⟩; have HBW := Lib.hid hbw; clear hbw)
                  | (go_at_call 71; refine (HNM.out _).mono ?_; rintro e w' ⟨rfl, q, rfl⟩)
                  | (go_at_call 73; refine (HOP.out _).mono ?_; rintro e w' ⟨rfl, q, rfl⟩)
                  | (go_at_call 72; refine (HQT.out _).mono ?_; rintro e w' ⟨rfl, q, rfl⟩))
                exact ⟨rfl, by rw [HD.out]; rfl, (by first | exact below_dn HB0.out _ | exact below_dn (below_dn HB0.out _) _)⟩
end Go.Proofs.YtcjcbhdildcceaaGreatDoor
