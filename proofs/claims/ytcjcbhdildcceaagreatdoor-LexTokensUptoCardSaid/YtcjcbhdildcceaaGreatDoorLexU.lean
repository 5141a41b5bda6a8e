/- Contract of the reader's method spans of package lex, at every loop's body that keeps what it must. Conditions: those in the statement. -/
import Derived.Test.YtcjcbhdildcceaaGreatDoorLexPd
import Derived.Test.YtcjcbhdildcceaaGreatDoorLexN
import Derived.RangeFuncNested
import Derived.RangeFuncCalls
import Derived.RangeFuncLeaves
import Derived.Shelf.Abstract
import Derived.OwnWalkIn
import Derived.TacticsInMore
import Derived.LoopIn
import Derived.Sort.LoopGhostIn
namespace Go.Proofs.YtcjcbhdildcceaaGreatDoor
open Go.RowKit

/-- What a range over the tokens leaves. -/
def spansEnd (r : List Lx.Sp × Option (Nat × Nat)) (J : List Lx.Sp → World → Prop) (pre : List Lx.Sp) (e : Ending) (w' : World) : Prop :=
  J (pre ++ r.1) w' ∧ match r.2 with
    | none => e = .returned (.tuple #[])
    | some x => e = panicE x.1 x.2

/-- The reader's field last written. -/
def putLast (w : World) (B : Nat) (t : Lx.Sp) : World :=
  (((((w.setCell ⟨B, 11, none⟩ (.int .i64 t.kind)).setCell ⟨B, 12, none⟩ (.string ⟨t.text.toArray⟩)).setCell ⟨B, 13, none⟩ (.int .i64 t.line)).setCell ⟨B, 14, none⟩ (.int .i64 t.col)).setCell ⟨B, 15, none⟩ (.int .i64 t.frm)).setCell ⟨B, 16, none⟩ (.int .i64 t.to)
theorem putLast_other (w : World) (B : Nat) (t : Lx.Sp) (b o : Nat) (h : b ≠ B ∨ o < 11) : (putLast w B t).cell? ⟨b, o, none⟩ = w.cell? ⟨b, o, none⟩ := by
  unfold putLast
  rw [World.cell?_setCell_other _ _ _ _ (fun e => by injection e; omega), World.cell?_setCell_other _ _ _ _ (fun e => by injection e; omega),
    World.cell?_setCell_other _ _ _ _ (fun e => by injection e; omega), World.cell?_setCell_other _ _ _ _ (fun e => by injection e; omega),
    World.cell?_setCell_other _ _ _ _ (fun e => by injection e; omega), World.cell?_setCell_other _ _ _ _ (fun e => by injection e; omega)]
theorem putLast_frozen (w : World) (B : Nat) (t : Lx.Sp) (a : Addr) : (putLast w B t).frozen? a = w.frozen? a := by
  unfold putLast; simp only [World.frozen?_setCell]
theorem putLast_grown (w : World) (B : Nat) (t : Lx.Sp) : w.grownBy (putLast w B t) (some B) := by
  unfold putLast
  exact grown_trans (grown_trans (grown_trans (grown_trans (grown_trans (grown_set _ _ _ _) (grown_set _ _ _ _)) (grown_set _ _ _ _)) (grown_set _ _ _ _)) (grown_set _ _ _ _)) (grown_set _ _ _ _)
theorem Rdr.putLast {B T cap : Nat} {s : List UInt8} {p : Lx.Place} {last : Lx.Sp} {w : World} (h : Rdr B T cap s p last w) (t : Lx.Sp) : Rdr B T cap s p t (putLast w B t) := by
  have c : ∀ {o x}, o < 11 → w.cell? ⟨B, o, none⟩ = some x → (Go.Proofs.YtcjcbhdildcceaaGreatDoor.putLast w B t).cell? ⟨B, o, none⟩ = some x := fun ho e => (putLast_other _ _ _ _ _ (.inr ho)).trans e
  have d : ∀ {W : World} {o x} (v : Value) (k : Nat), k ≠ o → W.cell? ⟨B, o, none⟩ = some x → (W.setCell ⟨B, k, none⟩ v).cell? ⟨B, o, none⟩ = some x := fun v k hk e => (World.cell?_setCell_other _ _ _ _ (fun e => by injection e; omega)).trans e
  have z : ∀ {W : World} {o x} (v : Value), W.cell? ⟨B, o, none⟩ = some x → (W.setCell ⟨B, o, none⟩ v).cell? ⟨B, o, none⟩ = some v := fun v e => World.cell?_setCell_same' _ _ _ (by rw [e]; rfl)
  obtain ⟨k0, k1, k2, k3, k4, k5, k6⟩ := h.ks
  have e : (4:Nat) < 11 := by decide
  refine { ks := ⟨c (by decide) k0, c (by decide) k1, c (by decide) k2, c (by decide) k3, c (by decide) k4, c (by decide) k5, c (by decide) k6⟩, ix := c (by decide) h.ix, ln := c (by decide) h.ln, bg := c (by decide) h.bg, tx := c (by decide) h.tx, lk := ?_, lt := ?_, ll := ?_, lc := ?_, lf := ?_, lto := ?_, fz := fun o => (putLast_frozen _ _ _ _).trans (h.fz o), tc := fun j hj => (putLast_other _ _ _ _ _ (.inl h.ne)).trans (h.tc j hj), ne := h.ne, small := h.small, cap_le := h.cap_le, inside := h.inside, pat := h.pat }
  · unfold Go.Proofs.YtcjcbhdildcceaaGreatDoor.putLast
    exact d _ _ (by decide) (d _ _ (by decide) (d _ _ (by decide) (d _ _ (by decide) (d _ _ (by decide) (z _ h.lk)))))
  · unfold Go.Proofs.YtcjcbhdildcceaaGreatDoor.putLast
    exact d _ _ (by decide) (d _ _ (by decide) (d _ _ (by decide) (d _ _ (by decide) (z _ (d _ _ (by decide) h.lt)))))
  · unfold Go.Proofs.YtcjcbhdildcceaaGreatDoor.putLast
    exact d _ _ (by decide) (d _ _ (by decide) (d _ _ (by decide) (z _ (d _ _ (by decide) (d _ _ (by decide) h.ll)))))
  · unfold Go.Proofs.YtcjcbhdildcceaaGreatDoor.putLast
    exact d _ _ (by decide) (d _ _ (by decide) (z _ (d _ _ (by decide) (d _ _ (by decide) (d _ _ (by decide) h.lc)))))
  · unfold Go.Proofs.YtcjcbhdildcceaaGreatDoor.putLast
    exact d _ _ (by decide) (z _ (d _ _ (by decide) (d _ _ (by decide) (d _ _ (by decide) (d _ _ (by decide) h.lf)))))
  · unfold Go.Proofs.YtcjcbhdildcceaaGreatDoor.putLast
    exact z _ (d _ _ (by decide) (d _ _ (by decide) (d _ _ (by decide) (d _ _ (by decide) (d _ _ (by decide) h.lto)))))

attribute [local go_sem] Oper.semAt_some

set_option maxHeartbeats 4000000 in
set_option maxRecDepth 100000 in
theorem spans_in (l B T cap f N : Nat) (s : List UInt8) (p₀ : Lx.Place) (last₀ : Lx.Sp) (m : Int) (J : List Lx.Sp → World → Prop) (hgB : 0 ≠ B)
    (hJ : ∀ pre W W', J pre W → W.grownBy W' (some B) → J pre W')
    (hJm : ∀ pre W, J pre W → W.cell? ⟨0, 0, none⟩ = some (.int .i64 m))
    (hY : ∀ pre t p W, J pre W → Rdr B T cap s p t W → pre.length < N → YieldAt Fence.wide 2 Tryz.prog l #[t.val] W fun e W' =>
      e = .returned (.bool true) ∧ J (pre ++ [t]) W' ∧ Rdr B T cap s p t W')
    (pre₀ : List Lx.Sp) (w : World) (h₀ : Rdr B T cap s p₀ last₀ w) (h0 : J pre₀ w) (hf : s.length - p₀.ix ≤ f)
    (hN : pre₀.length + (Lx.spansN s (f + 1) p₀.ix last₀).1.length ≤ N) :
    CallsIn Fence.wide 3 Tryz.prog 57 #[.pointer (some ⟨B, 0, none⟩), .func (.yield l) #[] #[]] w (spansEnd (Lx.spansN s (f + 1) p₀.ix last₀) J pre₀) := by
  have HJ := Lib.hid hJ
  have HJm := Lib.hid hJm
  have HY := Lib.hid hY
  have H0 := Lib.hid h₀
  have H1 := Lib.hid h0
  have HG := Lib.hid hgB
  have HN := Lib.hid hN
  clear hJ hJm hY h₀ h0 hgB hN
  obtain ⟨R, hR⟩ : ∃ r, Lx.spansN s (f + 1) p₀.ix last₀ = r := ⟨_, rfl⟩
  rw [hR] at HN
  rw [hR]
  have hR := hR.symm
  rw [spansN_succ] at hR
  have HPB := passBlanks_c B T cap s p₀ last₀ w H0.out
  cases hBL : Lx.blanks none p₀.ix (s.drop p₀.ix) with
  | «open» c =>
    rw [hBL] at HPB hR
    have HR := Lib.hid hR
    have HPB := Lib.hid HPB
    clear hR hBL
    refine callsIn_of_wp Tryz.func57 rfl trivial ?_ rfl
    simp only [Tryz.ntmps57, List.size_toArray, List.length_cons, List.length_nil, Nat.reduceAdd, Nat.reduceSub, Array.replicate_succ, Array.replicate_zero, List.push_toArray, List.append_toArray, List.nil_append, List.cons_append]
    gi_wp2_with fail
    refine ⟨trivial, (callsIn_wide.2 HPB.out).mono ?_⟩
    rintro e w' ⟨rfl, hg⟩
    refine ⟨rfl, ?_⟩
    rw [HR.out]
    exact ⟨by rw [List.append_nil]; exact HJ.out _ _ _ H1.out hg, rfl⟩
  | «at» j₀ =>
    rw [hBL] at HPB hR
    have HR := Lib.hid hR
    have HPB := Lib.hid HPB
    have hjge : p₀.ix ≤ j₀ := blanks_ge _ _ _ _ hBL
    clear hR hBL
    refine callsIn_of_wp Tryz.func57 rfl trivial ?_ rfl
    simp only [Tryz.ntmps57, List.size_toArray, List.length_cons, List.length_nil, Nat.reduceAdd, Nat.reduceSub, Array.replicate_succ, Array.replicate_zero, List.push_toArray, List.append_toArray, List.nil_append, List.cons_append]
    gi_wp2_with fail
    refine ⟨trivial, (callsIn_wide.2 HPB.out).mono ?_⟩
    rintro e w1 ⟨rfl, hr1, hg1, hj1⟩
    have HA := Lib.hid hr1
    have HB := Lib.hid (HJ.out _ _ _ H1.out hg1)
    have HC := Lib.hid (show pre₀.length + R.1.length ≤ N ∧ pre₀ ++ R.1 = pre₀ ++ (tailN s f j₀ last₀).1 ∧ R.2 = (tailN s f j₀ last₀).2 ∧ s.length - j₀ ≤ f ∧ j₀ ≤ s.length from ⟨HN.out, by rw [HR.out], by rw [HR.out], by omega, hj1⟩)
    clear hr1 hg1 HPB H0 H1 HR HN
    gi_wp2_with fail
    gi_loopg [] f (fun g wr => ∃ j last pre, Hid (Rdr B T cap s (Lx.placeAt s j) last wr) ∧ Hid (J pre wr) ∧ Hid (pre₀.length + R.1.length ≤ N ∧ pre₀ ++ R.1 = pre ++ (tailN s g j last).1 ∧ R.2 = (tailN s g j last).2 ∧ s.length - j ≤ g ∧ j ≤ s.length))
    case atStart => exact ⟨j₀, last₀, pre₀, HA, HB, HC⟩
    case round =>
      clear HA HB HC
      obtain ⟨j, last, pre, HA, HB, HC⟩ := hrel
      obtain ⟨hC1, hC2, hC3, hC4, hC5⟩ := HC.out
      have hix : (Lx.placeAt s j).ix = j := placeAt_ix _ _ hC5
      have c0 := HA.out.ix
      rw [hix] at c0
      have tx := HA.out.tx
      by_cases hE : j = s.length
      · have dE : decide ((j : Int) < (s.length : Int)) = false := decide_eq_false (by omega)
        have HT := Lib.hid (show tailN s gk j last = ([], none) by unfold tailN; rw [if_pos hE])
        have HC2 := Lib.hid hC2
        have HC3 := Lib.hid hC3
        clear hC1 hC2 hC3 hC4 hC5 hE HC hix hjge
        gi_wp2_with fail
        refine wpIn_wide.2 ?_
        go_quiet (fail)
        gi_wp2_with fail
        · exfalso
          have := of_decide_eq_false dE
          omega
        go_end0
        have e1 : pre₀ ++ R.1 = pre := by rw [HC2.out, HT.out, List.append_nil]
        have e2 : R.2 = none := by rw [HC3.out, HT.out]
        refine ⟨?_, by rw [e2]⟩
        rw [e1]
        exact HJ.out _ _ _ HB.out (grown_drewN _ _ _)
      · have dE : decide ((j : Int) < (s.length : Int)) = true := decide_eq_true (by omega)
        have hlt : j < s.length := by omega
        have HNX := Lib.hid (next_c B T cap s (Lx.placeAt s j) last m)
        rw [hix] at HNX
        cases hX : Lx.next s j last with
        | error c =>
          have HT := Lib.hid (show tailN s gk j last = ([], some (c, j)) by unfold tailN; rw [if_neg hE, hX])
          have HC2 := Lib.hid hC2
          have HC3 := Lib.hid hC3
          have HX := Lib.hid hX
          clear hC1 hC2 hC3 hC4 hC5 hE HC hix hjge hX
          gi_wp2_with fail
          refine wpIn_wide.2 ?_
          go_quiet (fail)
          gi_wp2_with fail
          have hrd := HA.out.drewN nq
          refine ⟨trivial, (callsIn_wide.2 (HNX.out _ hrd hlt (HJm.out _ _ (HJ.out _ _ _ HB.out (grown_drewN _ _ _))) HG.out)).mono ?_⟩
          clear hrd
          rw [HX.out]
          rintro e w2 ⟨rfl, hg2⟩
          refine ⟨rfl, ?_⟩
          have e1 : pre₀ ++ R.1 = pre := by rw [HC2.out, HT.out, List.append_nil]
          have e2 : R.2 = some (c, j) := by rw [HC3.out, HT.out]
          refine ⟨?_, by rw [e2]; rfl⟩
          rw [e1]
          exact HJ.out _ _ _ HB.out (grown_trans (grown_drewN _ _ _) hg2)
        | ok t =>
          have HT := Lib.hid (show tailN s gk j last = (t :: (Lx.spansN s gk t.to t).1, (Lx.spansN s gk t.to t).2) by unfold tailN; rw [if_neg hE, hX])
          have HC2 := Lib.hid hC2
          have HC3 := Lib.hid hC3
          have HX := Lib.hid hX
          clear hC2 hC3 hE HC hix hjge hX
          gi_wp2_with fail
          refine wpIn_wide.2 ?_
          go_quiet (fail)
          gi_wp2_with fail
          have hrd := HA.out.drewN nq
          have hjj := HJ.out _ _ _ HB.out (grown_drewN _ nq _)
          refine ⟨trivial, (callsIn_wide.2 (HNX.out _ hrd hlt (HJm.out _ _ hjj) HG.out)).mono ?_⟩
          clear hrd
          rw [HX.out]
          rintro e w2 ⟨rfl, hr2, hg2, ht1, ht2⟩
          have HA2 := Lib.hid hr2
          have HB2 := Lib.hid (HJ.out _ _ _ hjj hg2)
          clear hjj hr2 hg2 HA HB HNX HX c0 tx dE
          have x0 := HA2.out.lk
          have x1 := HA2.out.lt
          have x2 := HA2.out.ll
          have x3 := HA2.out.lc
          have x4 := HA2.out.lf
          have x5 := HA2.out.lto
          have xf := HA2.out.fz
          have hj3 := HJ.out _ _ _ HB2.out (putLast_grown w2 B t)
          have hr3 := HA2.out.putLast t
          have hpl : pre.length < N := by
            have := congrArg List.length HC2.out
            rw [HT.out] at this
            simp only [List.length_append, List.length_cons] at this
            omega
          obtain ⟨fn, tmps, assign, body, hy, hR⟩ := HY.out pre t _ _ hj3 hr3 hpl
          have HRD := Lib.hid hR
          clear hR hj3 hr3 hpl
          unfold putLast at HRD
          simp only [Lx.Sp.val, putLast] at hy ⊢
          obtain ⟨g', rfl⟩ : ∃ g', gk = g' + 1 := ⟨gk - 1, by omega⟩
          rw [spansN_succ] at HT
          gi_wp2_with fail
          refine HRD.out.mono ?_
          rintro e w4 ⟨rfl, hj4, hr4⟩
          have HPB := passBlanks_c B T cap s _ _ w4 hr4
          have HB4 := Lib.hid hj4
          rw [placeAt_ix _ _ ht1] at HPB
          clear hy hr4 hj4 HRD HA2 HB2 x0 x1 x2 x3 x4 x5 xf
          cases hBL : Lx.blanks none t.to (s.drop t.to) with
          | «open» c =>
            rw [hBL] at HT HPB
            have HPB := Lib.hid HPB
            clear hBL
            gi_wp2_with fail
            refine ⟨trivial, (callsIn_wide.2 HPB.out).mono ?_⟩
            rintro e w' ⟨rfl, hg⟩
            refine ⟨rfl, ?_⟩
            have e1 : pre₀ ++ R.1 = pre ++ [t] := by rw [HC2.out, HT.out]
            have e2 : R.2 = some (11, c) := by rw [HC3.out, HT.out]
            refine ⟨?_, by rw [e2]; rfl⟩
            rw [e1]
            exact HJ.out _ _ _ HB4.out hg
          | «at» j' =>
            have hge2 := blanks_ge _ _ _ _ hBL
            rw [hBL] at HT HPB
            have HPB := Lib.hid HPB
            clear hBL
            gi_wp2_with fail
            refine ⟨trivial, (callsIn_wide.2 HPB.out).mono ?_⟩
            rintro e w5 ⟨rfl, hr5, hg5, hj5⟩
            have HA5 := Lib.hid hr5
            have HB5 := Lib.hid (HJ.out _ _ _ HB4.out hg5)
            have HC5 := Lib.hid (show pre₀.length + R.1.length ≤ N ∧ pre₀ ++ R.1 = (pre ++ [t]) ++ (tailN s g' j' t).1 ∧ R.2 = (tailN s g' j' t).2 ∧ s.length - j' ≤ g' ∧ j' ≤ s.length from
              ⟨hC1, by rw [HC2.out, HT.out]; simp, by rw [HC3.out, HT.out], by omega, hj5⟩)
            clear hr5 hg5 HPB HB4 HT HC2 HC3
            gi_wp2_with fail
            gi_roundg g'
            case rel => exact ⟨j', t, pre ++ [t], HA5, HB5, HC5⟩
            case measure => omega
end Go.Proofs.YtcjcbhdildcceaaGreatDoor
