/- Contracts of the reader's small methods of package lex. No conditions but those in each statement. -/
import Derived.Test.YtcjcbhdildcceaaGreatDoorLexA
import Derived.Deep.RegionHeld3
import Derived.WalkSmall
import Derived.Deep.RegionWith
namespace Go.Proofs.YtcjcbhdildcceaaGreatDoor
open Go.RowKit

/-- What lies in a reader: block B; the text's bytes in block T. -/
structure Rdr (B T cap : Nat) (s : List UInt8) (p : Lx.Place) (last : Lx.Sp) (w : World) : Prop where
  ks : KindsAt w B 3
  ix : w.cell? ⟨B, 0, none⟩ = some (.int .i64 p.ix)
  ln : w.cell? ⟨B, 1, none⟩ = some (.int .i64 p.ln)
  bg : w.cell? ⟨B, 2, none⟩ = some (.int .i64 p.bg)
  tx : w.cell? ⟨B, 10, none⟩ = some (.slice (some ⟨T, 0, none⟩) s.length cap)
  lk : w.cell? ⟨B, 11, none⟩ = some (.int .i64 last.kind)
  lt : w.cell? ⟨B, 12, none⟩ = some (.string ⟨last.text.toArray⟩)
  ll : w.cell? ⟨B, 13, none⟩ = some (.int .i64 last.line)
  lc : w.cell? ⟨B, 14, none⟩ = some (.int .i64 last.col)
  lf : w.cell? ⟨B, 15, none⟩ = some (.int .i64 last.frm)
  lto : w.cell? ⟨B, 16, none⟩ = some (.int .i64 last.to)
  fz : ∀ o, w.frozen? ⟨B, o, none⟩ = false
  tc : ∀ j, j < s.length → w.cell? ⟨T, j, none⟩ = some (.int .u8 (s[j]?.getD 0).toNat)
  ne : T ≠ B
  small : s.length ≤ 20000
  cap_le : s.length ≤ cap
  inside : p.ix ≤ s.length
  pat : p = Lx.placeAt s p.ix

theorem KindsAt.drewN {w : World} {b o : Nat} (h : KindsAt w b o) (q : Nat) : KindsAt (w.drewN q) b o := by
  simpa [KindsAt] using h

theorem Rdr.drewN {B T cap : Nat} {s : List UInt8} {p : Lx.Place} {last : Lx.Sp} {w : World} (h : Rdr B T cap s p last w) (q : Nat) : Rdr B T cap s p last (w.drewN q) where
  ks := h.ks.drewN q
  ix := by simpa using h.ix
  ln := by simpa using h.ln
  bg := by simpa using h.bg
  tx := by simpa using h.tx
  lk := by simpa using h.lk
  lt := by simpa using h.lt
  ll := by simpa using h.ll
  lc := by simpa using h.lc
  lf := by simpa using h.lf
  lto := by simpa using h.lto
  fz := by simpa using h.fz
  tc := by simpa using h.tc
  ne := h.ne
  small := h.small
  cap_le := h.cap_le
  inside := h.inside
  pat := h.pat

/-- The value that reading panics with. -/
def faultV (e at_ : Nat) : Value := .iface 94 (.agg #[.int .i64 e, .int .i64 at_])
def panicE (e at_ : Nat) : Ending := .panicked [{ v := faultV e at_, recovered := false }]
def Lx.M.ends (m : Lx.M) (at_ : Nat) : Ending :=
  match m with
  | .ok k n => .returned (.tuple #[.int .i64 k, .int .i64 n])
  | .bad e => panicE e at_

theorem ret_pair {a b c d : Int} (h : a = c) (h' : b = d) : Ending.returned (.tuple #[.int .i64 a, .int .i64 b]) = .returned (.tuple #[.int .i64 c, .int .i64 d]) := by rw [h, h']

/-- Where the rest of a text begins in its array. -/
def restO (cap ix : Nat) : Nat := if cap = ix then 0 else ix
theorem restO_lt {cap ix : Nat} (h : ix < cap) : restO cap ix = ix := by unfold restO; rw [if_neg (by omega)]

set_option maxHeartbeats 400000 in
theorem rest_c (B T cap ix n : Nat) (w : World) (c0 : w.cell? ⟨B, 0, none⟩ = some (.int .i64 ix)) (tx : w.cell? ⟨B, 10, none⟩ = some (.slice (some ⟨T, 0, none⟩) n cap))
    (hix : ix ≤ n) (hcap : n ≤ cap) :
    Calls Tryz.prog 92 #[.pointer (some ⟨B, 0, none⟩)] w fun e w' =>
      e = .returned (.slice (some ⟨T, restO cap ix, none⟩) (n - ix) (cap - ix)) ∧ ∃ q, w' = w.drewN q := by
  go_enter Tryz.func92, Tryz.ntmps92
  go_wp2
  go_quiet (fail)
  go_wp2
  all_goals go_ret
  all_goals refine ⟨?_, _, rfl⟩
  all_goals simp_all [restO]

set_option maxHeartbeats 400000 in
theorem lineAndCol_c (B : Nat) (p : Lx.Place) (w : World) (c0 : w.cell? ⟨B, 0, none⟩ = some (.int .i64 p.ix)) (c1 : w.cell? ⟨B, 1, none⟩ = some (.int .i64 p.ln)) (c2 : w.cell? ⟨B, 2, none⟩ = some (.int .i64 p.bg))
    (h0 : p.ix ≤ 20000) (h1 : p.ln ≤ 20000) (h2 : p.bg ≤ p.ix) :
    Calls Tryz.prog 34 #[.pointer (some ⟨B, 0, none⟩)] w fun e w' =>
      e = .returned (.tuple #[.int .i64 ((p.ln + 1 : Nat) : Int), .int .i64 ((p.ix - p.bg + 1 : Nat) : Int)]) ∧ ∃ q, w' = w.drewN q := by
  go_enter Tryz.func34, Tryz.ntmps34
  go_wp2
  go_quiet (fail)
  go_wp2
  go_ret2
  exact ⟨ret_pair (by omega) (by omega), _, rfl⟩

/-- The cells of the rest of a text. -/
theorem rest_cells {T cap ix : Nat} {s : List UInt8} {w : World} (h : ∀ j, j < s.length → w.cell? ⟨T, j, none⟩ = some (.int .u8 (s[j]?.getD 0).toNat)) (hcap : s.length ≤ cap) :
    ∀ j, j < (s.drop ix).length → w.cell? ⟨T, restO cap ix + j, none⟩ = some (.int .u8 ((s.drop ix)[j]?.getD 0).toNat) := by
  intro j hj
  rw [List.length_drop] at hj
  rw [restO_lt (by omega), h (ix + j) (by omega), List.getElem?_drop]

theorem eg_digit : ∀ args w, (callFunc 83 args).run Tryz.prog w = .ok (.enter 83 args) w := enters_of Tryz.func83 (by kernel_rfl) rfl
theorem eg_operator : ∀ args w, (callFunc 84 args).run Tryz.prog w = .ok (.enter 84 args) w := enters_of Tryz.func84 (by kernel_rfl) rfl
theorem eg_blank : ∀ args w, (callFunc 87 args).run Tryz.prog w = .ok (.enter 87 args) w := enters_of Tryz.func87 (by kernel_rfl) rfl
theorem eg_shown : ∀ args w, (callFunc 88 args).run Tryz.prog w = .ok (.enter 88 args) w := enters_of Tryz.func88 (by kernel_rfl) rfl
theorem eg_wordByte : ∀ args w, (callFunc 93 args).run Tryz.prog w = .ok (.enter 93 args) w := enters_of Tryz.func93 (by kernel_rfl) rfl
theorem eg_inString : ∀ args w, (callFunc 95 args).run Tryz.prog w = .ok (.enter 95 args) w := enters_of Tryz.func95 (by kernel_rfl) rfl

set_option maxHeartbeats 1000000 in
theorem operation_c (B T cap : Nat) (s : List UInt8) (p : Lx.Place) (last : Lx.Sp) (w : World) (h : Rdr B T cap s p last w) :
    Calls Tryz.prog 73 #[.pointer (some ⟨B, 0, none⟩)] w fun e w' => e = (Lx.operation (s.drop p.ix)).ends p.ix ∧ ∃ q, w' = w.drewN q := by
  have hr := fun q => rest_c B T cap p.ix s.length (w.drewN q) (h.drewN q).ix (h.drewN q).tx h.inside h.cap_le
  have hn := fun q => run_byte_c 84 #[] #[] Lx.operator T (restO cap p.ix) (s.length - p.ix) (cap - p.ix) (s.drop p.ix) (w.drewN q) (by simp) (by have := h.small; omega) eg_operator (rest_cells (h.drewN q).tc h.cap_le) (fun b => operator_c b _)
  have c0 := h.ix
  have k3 : w.cell? ⟨B, 6, none⟩ = some (.func (.func 84) #[] #[]) := h.ks.2.2.2.1
  have HR := Lib.hid hr
  have HN := Lib.hid hn
  have hle := tw_le Lx.operator (s.drop p.ix)
  have hsm := h.small
  have HD := Lib.hid (show Lx.operation (s.drop p.ix) = if 3 < Lx.runN Lx.operator (s.drop p.ix) then .bad 12 else .ok 7 (Lx.runN Lx.operator (s.drop p.ix)) from rfl)
  clear hr hn h
  by_cases hc : 3 < ((s.drop p.ix).takeWhile Lx.operator).length
  all_goals
    go_enter Tryz.func73, Tryz.ntmps73
    go_wp2
    go_quiet ((first | (go_at_call 92; exact Calls.quiet_of (HR.out _)) | (go_at_call 91; exact Calls.quiet_of_same (HN.out _))))
    go_wp2
  · exact ⟨rfl, by rw [HD.out]; simp [Lx.runN, hc, Lx.M.ends, panicE, faultV], _, rfl⟩
  · go_ret2
    exact ⟨by rw [HD.out]; simp [Lx.runN, hc, Lx.M.ends], _, rfl⟩

set_option maxHeartbeats 1000000 in
theorem number_c (B T cap : Nat) (s : List UInt8) (p : Lx.Place) (last : Lx.Sp) (w : World) (h : Rdr B T cap s p last w) :
    Calls Tryz.prog 71 #[.pointer (some ⟨B, 0, none⟩)] w fun e w' => e = (Lx.number (s.drop p.ix)).ends p.ix ∧ ∃ q, w' = w.drewN q := by
  have hr := fun q => rest_c B T cap p.ix s.length (w.drewN q) (h.drewN q).ix (h.drewN q).tx h.inside h.cap_le
  have hn := fun q => run_byte_c 83 #[] #[] Lx.digit T (restO cap p.ix) (s.length - p.ix) (cap - p.ix) (s.drop p.ix) (w.drewN q) (by simp) (by have := h.small; omega) eg_digit (rest_cells (h.drewN q).tc h.cap_le) (fun b => digit_c b _)
  have c0 := h.ix
  have tx := h.tx
  have k3 : w.cell? ⟨B, 5, none⟩ = some (.func (.func 83) #[] #[]) := h.ks.2.2.1
  have HR := Lib.hid hr
  have hle := tw_le Lx.digit (s.drop p.ix)
  have hsm := h.small
  have htc := h.tc p.ix
  clear hr h
  have HD := Lib.hid (show Lx.number (s.drop p.ix) = if 400 < Lx.runN Lx.digit (s.drop p.ix) ∨ (1 < Lx.runN Lx.digit (s.drop p.ix) ∧ (s.drop p.ix).head? = some 48) then .bad 12 else .ok 5 (Lx.runN Lx.digit (s.drop p.ix)) from rfl)
  rw [List.head?_drop] at HD
  unfold Lx.runN at HD
  rw [List.length_drop] at hle
  generalize ((s.drop p.ix).takeWhile Lx.digit).length = n at hn hle HD
  have HN := Lib.hid hn
  clear hn
  by_cases hA : 400 < n
  · have dA : decide ((400 : Int) < (n : Int)) = true := decide_eq_true (by omega)
    clear htc
    go_enter Tryz.func71, Tryz.ntmps71
    go_wp2
    go_quiet ((first | (go_at_call 92; exact Calls.quiet_of (HR.out _)) | (go_at_call 91; exact Calls.quiet_of_same (HN.out _))))
    go_wp2
    go_quiet (fail)
    go_wp2
    exact ⟨rfl, by rw [HD.out]; simp [hA, Lx.M.ends, panicE, faultV], _, rfl⟩
  · have dA : decide ((400 : Int) < (n : Int)) = false := decide_eq_false (by omega)
    by_cases hB : 1 < n
    · have dB : decide ((1 : Int) < (n : Int)) = true := decide_eq_true (by omega)
      have hix : p.ix < s.length := by omega
      have htc := htc hix
      have hi : s[p.ix]? = some s[p.ix] := List.getElem?_eq_getElem hix
      rw [hi] at HD
      simp only [hi, Option.getD_some] at htc
      by_cases hC : s[p.ix] = 48
      · have dC : ((s[p.ix].toNat : Int) == 48) = true := by rw [hC]; rfl
        have HC := Lib.hid hC
        clear hC hi
        go_enter Tryz.func71, Tryz.ntmps71
        go_wp2
        go_quiet ((first | (go_at_call 92; exact Calls.quiet_of (HR.out _)) | (go_at_call 91; exact Calls.quiet_of_same (HN.out _))))
        go_wp2
        go_quiet (fail)
        go_wp2
        exact ⟨rfl, by rw [HD.out]; simp [hB, HC.out, Lx.M.ends, panicE, faultV], _, rfl⟩
      · have dC : ((s[p.ix].toNat : Int) == 48) = false := by
          rw [beq_eq_false_iff_ne]
          intro e
          exact hC (UInt8.toNat_inj.1 (by have : (48 : UInt8).toNat = 48 := rfl; omega))
        have HC := Lib.hid hC
        clear hC hi
        go_enter Tryz.func71, Tryz.ntmps71
        go_wp2
        go_quiet ((first | (go_at_call 92; exact Calls.quiet_of (HR.out _)) | (go_at_call 91; exact Calls.quiet_of_same (HN.out _))))
        go_wp2
        go_quiet (fail)
        go_wp2
        go_ret2
        exact ⟨by rw [HD.out]; simp [hA, HC.out, Lx.M.ends], _, by rw [World.drewN_drewN]⟩
    · have dB : decide ((1 : Int) < (n : Int)) = false := decide_eq_false (by omega)
      clear htc
      go_enter Tryz.func71, Tryz.ntmps71
      go_wp2
      go_quiet ((first | (go_at_call 92; exact Calls.quiet_of (HR.out _)) | (go_at_call 91; exact Calls.quiet_of_same (HN.out _))))
      go_wp2
      go_quiet (fail)
      go_wp2
      go_ret2
      exact ⟨by rw [HD.out]; simp [hA, hB, Lx.M.ends], _, by rw [World.drewN_drewN]⟩

set_option maxHeartbeats 1000000 in
theorem joins_c (B T cap : Nat) (s : List UInt8) (p : Lx.Place) (last : Lx.Sp) (w : World) (h : Rdr B T cap s p last w) :
    Calls Tryz.prog 74 #[.pointer (some ⟨B, 0, none⟩)] w fun e w' => e = .returned (.bool (Lx.joins s p.ix last.kind last.to)) ∧ ∃ q, w' = w.drewN q := by
  have c0 := h.ix
  have tx := h.tx
  have lk := h.lk
  have lto := h.lto
  have hsm := h.small
  have hin := h.inside
  have htc := h.tc (p.ix + 1)
  have HK := Lib.hid (fun q => (h.drewN q).ks)
  clear h
  have HD := Lib.hid (show Lx.joins s p.ix last.kind last.to = (last.kind == 1 && last.to == p.ix && decide (p.ix + 1 < s.length) && Lx.joined (s[p.ix + 1]?.getD 0)) from rfl)
  by_cases hA : last.kind = 1
  · have dA : ((last.kind : Int) == 1) = true := beq_iff_eq.2 (by omega)
    by_cases hB : last.to = p.ix
    · have dB : ((last.to : Int) == (p.ix : Int)) = true := beq_iff_eq.2 (by omega)
      have HA := Lib.hid hA
      have HB := Lib.hid hB
      clear hA hB
      by_cases hC : p.ix + 1 < s.length
      · have dC : decide ((p.ix : Int) + 1 < (s.length : Int)) = true := decide_eq_true (by omega)
        have hbc := htc hC
        clear htc
        generalize s[p.ix + 1]?.getD 0 = b at hbc HD
        go_enter Tryz.func74, Tryz.ntmps74
        go_wp2
        go_quiet ((go_at_call 61; exact Calls.quiet_of_same (joined_c _ _ _ _ (HK.out _))))
        go_wp2
        go_ret
        exact ⟨ret_bool (by rw [HD.out]; simp [HA.out, HB.out, hC]), _, rfl⟩
      · have dC : decide ((p.ix : Int) + 1 < (s.length : Int)) = false := decide_eq_false (by omega)
        clear htc
        go_enter Tryz.func74, Tryz.ntmps74
        go_wp2
        go_quiet (fail)
        go_wp2
        go_ret
        exact ⟨ret_bool (by rw [HD.out]; simp [HA.out, HB.out, hC]), _, rfl⟩
    · have dB : ((last.to : Int) == (p.ix : Int)) = false := beq_eq_false_iff_ne.2 (by omega)
      have HA := Lib.hid hA
      clear hA htc
      go_enter Tryz.func74, Tryz.ntmps74
      go_wp2
      go_quiet (fail)
      go_wp2
      go_ret
      exact ⟨ret_bool (by rw [HD.out]; simp [HA.out, hB]), _, rfl⟩
  · have dA : ((last.kind : Int) == 1) = false := beq_eq_false_iff_ne.2 (by omega)
    clear htc
    go_enter Tryz.func74, Tryz.ntmps74
    go_wp2
    go_quiet (fail)
    go_wp2
    go_ret
    exact ⟨ret_bool (by rw [HD.out]; simp [hA]), _, rfl⟩

theorem makeFunc_run : ∀ (fn : Fn) (first cap : Array Value) (w : World), (Instr.makeFunc fn first cap).run Tryz.prog w = .ok (.func fn first cap) w := fun _ _ _ _ => rfl

end Go.Proofs.YtcjcbhdildcceaaGreatDoor
