/- Contracts, joined of several texts: Rv, Wt, Tk, At. Conditions: those in the statements. -/
import Derived.Test.YtcjcbhdildcceaaGreatDoorLexRz
import Derived.Test.YtcjcbhdildcceaaGreatDoorLexRp
import Derived.Test.YtcjcbhdildcceaaGreatDoorLexPw
import Derived.Test.YtcjcbhdildcceaaGreatDoorLexCk
import Derived.Test.YtcjcbhdildcceaaGreatDoorLexX
/- Contract of Divide of the specification's package. Conditions: those in the statement. -/
namespace Go.Proofs.YtcjcbhdildcceaaGreatDoor
open Go.RowKit
set_option linter.unusedVariables false
set_option linter.unusedSimpArgs false

theorem info_piece : (Tryz.prog.info? 58).map (fun i => (i.zero, i.size, i.bytes)) = some (some (.agg #[.int .i64 0, .string ⟨#[]⟩, .int .i64 0, .int .i64 0, .int .i64 0, .int .i64 0]), 6, 56) := by kernel_rfl
theorem spRowP_cell {w : World} {b g c : Nat} {l : List Lx.Sp} (h : w.ownsRow b 58 6 (.slice (some ⟨g, 0, none⟩) l.length c) l.length (spCells l)) (k j : Nat) (t : Lx.Sp) (hk : l[k]? = some t) (hj : j < 6) :
    w.cell? ⟨g, k * 6 + j, none⟩ = t.cells[j]? := by
  have h1 := spCells_at l k j t hk hj
  have hjl : j < t.cells.length := by simpa [Lx.Sp.cells] using hj
  rw [List.getElem?_eq_getElem hjl] at h1 ⊢
  have := h.cells (g := g) rfl (k * 6 + j) _ h1
  rwa [show (⟨g, 0, none⟩ : Addr).add (k * 6 + j) = ⟨g, k * 6 + j, none⟩ from by unfold Addr.add; split <;> simp_all] at this
theorem meas_small {s : List UInt8} {ix e : Nat} (h : Lx.measure s ix 0 0 = .bad e) : e ≤ 12 := by
  unfold Lx.measure at h
  simp only at h
  split at h
  · unfold Lx.word at h; simp only at h; split at h <;> cases h; omega
  · split at h
    · unfold Lx.number at h; split at h <;> cases h; omega
    · split at h
      · unfold Lx.quoted at h; split at h <;> cases h; omega
      · split at h
        · unfold Lx.operation at h; split at h <;> cases h; omega
        · split at h
          · cases h
          · split at h <;> cases h; omega
theorem place_bg (s : List UInt8) : ∀ i, i ≤ s.length → (Lx.placeAt s i).bg ≤ i ∧ (Lx.placeAt s i).ln ≤ i
  | 0, _ => ⟨Nat.le_refl _, Nat.le_refl _⟩
  | i + 1, h => by
    obtain ⟨h1, h2⟩ := place_bg s i (by omega)
    have hix : (Lx.placeAt s i).ix = i := by unfold Lx.placeAt; rw [pass_ix]; simp only [List.length_take]; omega
    rw [placeAt_step s i (by omega)]
    unfold Lx.Place.step
    simp only [hix]
    split <;> exact ⟨by omega, by omega⟩
theorem row_set {W : World} {base n : Nat} {e : TypeId} {size : Nat} {v : Value} {xs : List Value} (h : W.ownsRow base e size v n xs) (B i : Nat) (hB : W.heap.size ≤ B ∨ ∀ g, v.ownBlock = some g → g ≠ B) (y : Value) : (W.setCell ⟨B, i, none⟩ y).ownsRow base e size v n xs := by
  refine ⟨h.1, ?_⟩
  rcases h.2 with hn | ⟨g, cap, cur, rfl, hbg, hg, rest⟩
  · exact .inl hn
  · refine .inr ⟨g, cap, cur, rfl, hbg, (Below.heap_setCell W ⟨B, i, none⟩ y g (fun e => ?_)).trans hg, rest⟩
    have hlt := (Array.getElem?_eq_some_iff.1 hg).1
    rcases hB with hB | hB
    · have : g = B := e
      omega
    · exact hB g rfl e
theorem row_below {W W' : World} {base : Nat} {e : TypeId} {size : Nat} {v : Value} {k : Nat} {xs : List Value} (h : W.ownsRow base e size v k xs) (hb : Below W.heap.size W W') : W'.ownsRow base e size v k xs := by
  refine ⟨h.1, ?_⟩
  rcases h.2 with hn | ⟨g, cap, cur, rfl, hbg, hg, rest⟩
  · exact .inl hn
  · exact .inr ⟨g, cap, cur, rfl, hbg, (hb.block g (Array.getElem?_eq_some_iff.1 hg).1).trans hg, rest⟩
theorem meas_kind {s : List UInt8} {ix k n : Nat} (h : Lx.measure s ix 0 0 = .ok k n) : k ≤ 9 := by
  unfold Lx.measure at h
  simp only at h
  split at h
  · unfold Lx.word at h; simp only at h
    split at h
    · cases h
    · cases h
      unfold Lx.wordKind
      simp only
      repeat' split
      all_goals decide
  · split at h
    · unfold Lx.number at h; split at h <;> cases h; decide
    · split at h
      · unfold Lx.quoted at h; split at h <;> cases h; decide
      · split at h
        · unfold Lx.operation at h; split at h <;> cases h; decide
        · split at h
          · cases h; decide
          · split at h <;> cases h; decide
theorem txt_dot {s : List UInt8} {j : Nat} {b : UInt8} (hb : s[j]? = some b) : Lx.txt s j 8 1 = [b] := by
  unfold Lx.txt
  rw [if_neg (by decide), drop_some s j b hb]; rfl
theorem txt_is_dot {s : List UInt8} {j : Nat} (hj : j < s.length) (h : (⟨(Lx.txt s j 8 1).toArray⟩ : ByteArray) = ⟨#[46]⟩) : s[j]? = some 46 := by
  obtain ⟨b, hb⟩ : ∃ b, s[j]? = some b := ⟨_, List.getElem?_eq_getElem hj⟩
  rw [txt_dot hb] at h
  injection h with h
  have h2 := congrArg Array.toList h
  have h3 : b = 46 := by simpa using h2
  rw [hb, h3]
theorem dot_eqs (tx : ByteArray) (b : Bool) (h : tx = ⟨#[46]⟩ ↔ b = true) : (tx.toList == (⟨#[46]⟩ : ByteArray).toList) = b ∧ (tx.toList == [46]) = b ∧ (tx.data.toList == [46]) = b := by
  have k : tx.data.toList = [46] ↔ tx = ⟨#[46]⟩ := ⟨fun h => ByteArray.ext (Array.ext' h), fun h => by rw [h]⟩
  have e : (tx.data.toList == [46]) = b := by rw [Bool.eq_iff_iff, beq_iff_eq, k, h]
  exact ⟨by rw [ByteArray.toList_eq, ByteArray.toList_eq]; exact e, by rw [ByteArray.toList_eq]; exact e, e⟩
theorem spAt_below {w W : World} {o : Option Addr} {l : List Lx.Sp} (hb : Below w.heap.size w W) (h : SpAt w o l) : SpAt W o l := by
  intro k t ht
  obtain ⟨g, e, hg, hc⟩ := h k t ht
  exact ⟨g, e, Nat.lt_of_lt_of_le hg hb.size, fun i hi => (hb.cell (p := ⟨g, k * 6 + i, none⟩) hg).trans (hc i hi)⟩
theorem spAt_piece {w : World} {b : Nat} {o : Option Addr} {c : Nat} {l : List Lx.Sp} (h : w.ownsRow b 58 6 (.slice o l.length c) l.length (spCells l)) : SpAt w o l := by
  intro k t ht
  have hk : k < l.length := (List.getElem?_eq_some_iff.1 ht).1
  rcases h.2 with ⟨_, h0⟩ | ⟨g, c', cur, e, _⟩
  · omega
  · injection e with e1 e2 e3
    subst e1
    exact ⟨g, rfl, (h.lt g rfl).2, fun j hj => spRowP_cell h k j t ht hj⟩
theorem row_piece {w : World} {base n : Nat} {v : Value} {l : List Lx.Sp} (hn : l.length = n) (h : w.ownsRow base 58 6 v n (spCells l)) : ∃ o c, v = .slice o l.length c ∧ SpAt w o l := by
  subst hn
  rcases h.2 with ⟨rfl, h0⟩ | ⟨g, c, cur, rfl, _⟩
  · rw [h0]; exact ⟨none, 0, rfl, spAt_piece (c := 0) (by rw [h0]; rw [h0] at h; exact h)⟩
  · exact ⟨_, c, rfl, spAt_piece h⟩
theorem meas_bad {s : List UInt8} {ix E : Nat} (lk lt : Nat) (h : Lx.measure s ix 0 0 = .bad E) : Lx.measure s ix lk lt = .bad E := by
  rw [measure_L] at h ⊢
  unfold Lx.measureL at h ⊢
  simp only [show ((0 : Nat) == 1) = false from rfl, Bool.false_and] at h
  have hj : Lx.joinsL (s.drop ix) false = false := rfl
  rw [hj, Bool.and_false] at h
  dsimp only
  split
  · rename_i h1; rw [if_pos h1] at h; exact h
  · rename_i h1; rw [if_neg h1] at h
    split
    · rename_i h2; rw [if_pos h2] at h; exact h
    · rename_i h2; rw [if_neg h2] at h
      split
      · rename_i h3; rw [if_pos h3] at h; exact h
      · rename_i h3; rw [if_neg h3] at h
        split
        · rename_i h4; rw [if_pos h4] at h; exact h
        · rename_i h4; rw [if_neg h4] at h
          simp only [Bool.false_eq_true, if_false] at h
          split
          · rename_i h5
            exfalso
            have hb : ((s.drop ix)[0]?.getD 0) = 46 := by
              simp only [Bool.and_eq_true, beq_iff_eq] at h5; exact h5.1
            rw [hb, if_pos (by decide)] at h
            cases h
          · exact h
theorem meas_ok {s : List UInt8} {ix k n : Nat} (lk lt : Nat) (h : Lx.measure s ix 0 0 = .ok k n) :
    (k = 8 → n = 1) ∧ ((k = 8 ∧ s[ix]? = some 46 ∧ Lx.joins s ix lk lt = true ∧ Lx.measure s ix lk lt = .ok 9 1) ∨ (¬ (k = 8 ∧ s[ix]? = some 46 ∧ Lx.joins s ix lk lt = true) ∧ Lx.measure s ix lk lt = .ok k n)) := by
  unfold Lx.measure at h ⊢
  simp only at h ⊢
  rw [show Lx.joins s ix 0 0 = false from rfl, Bool.and_false] at h
  have nw : ∀ m : Lx.M, (∀ k n, m = .ok k n → k ≠ 8) → m = .ok k n → k ≠ 8 := fun m hm e => hm k n e
  split
  · rename_i h1; rw [if_pos h1] at h
    have h8 : k ≠ 8 := by
      unfold Lx.word at h
      simp only at h
      split at h
      · cases h
      · cases h
        unfold Lx.wordKind
        simp only
        repeat' split
        all_goals decide
    exact ⟨fun e => absurd e h8, .inr ⟨fun e => h8 e.1, h⟩⟩
  · rename_i h1; rw [if_neg h1] at h
    split
    · rename_i h2; rw [if_pos h2] at h
      have h8 : k ≠ 8 := by
        unfold Lx.number at h
        split at h
        · cases h
        · cases h; decide
      exact ⟨fun e => absurd e h8, .inr ⟨fun e => h8 e.1, h⟩⟩
    · rename_i h2; rw [if_neg h2] at h
      split
      · rename_i h3; rw [if_pos h3] at h
        have h8 : k ≠ 8 := by
          unfold Lx.quoted at h
          split at h
          · cases h; decide
          · cases h
        exact ⟨fun e => absurd e h8, .inr ⟨fun e => h8 e.1, h⟩⟩
      · rename_i h3; rw [if_neg h3] at h
        split
        · rename_i h4; rw [if_pos h4] at h
          have h8 : k ≠ 8 := by
            unfold Lx.operation at h
            split at h
            · cases h
            · cases h; decide
          exact ⟨fun e => absurd e h8, .inr ⟨fun e => h8 e.1, h⟩⟩
        · rename_i h4; rw [if_neg h4] at h
          simp only [Bool.false_eq_true, if_false] at h
          split at h
          · rename_i h6
            cases h
            refine ⟨fun _ => rfl, ?_⟩
            by_cases hc : (s[ix]?.getD 0 == 46 && Lx.joins s ix lk lt) = true
            · left
              simp only [Bool.and_eq_true, beq_iff_eq] at hc
              refine ⟨rfl, ?_, hc.2, by rw [if_pos (by simp [hc.1, hc.2])]⟩
              cases hx : s[ix]? with
              | none => rw [hx] at hc; exact absurd hc.1 (by decide)
              | some c => rw [hx] at hc; rw [show c = 46 from hc.1]
            · right
              refine ⟨fun e => hc ?_, by rw [if_neg hc, if_pos h6]⟩
              rw [e.2.1, e.2.2]; rfl
          · cases h
theorem piece_new (W : World) (t : Lx.Sp) (B : Nat) (hB : B = W.heap.size) : ∀ j u, t.cells[j]? = some u → (W.alloc (.cells #[.int .i64 t.kind, .string ⟨t.text.toArray⟩, .int .i64 t.line, .int .i64 t.col, .int .i64 t.frm, .int .i64 t.to] 58)).cell? ((⟨B, 0, none⟩ : Addr).add j) = some u := by
  intro j u hj
  subst hB
  rw [show ((⟨W.heap.size, 0, none⟩ : Addr).add j) = ⟨W.heap.size, j, none⟩ from by unfold Addr.add; split <;> simp_all, Lib.cell_of_heap (World.alloc_heap_new _ _)]
  simpa [Lx.Sp.cells] using hj
theorem cells_one (t : Lx.Sp) : ∀ u ∈ t.cells, u.oneCell' = true := by simp [Lx.Sp.cells, Value.oneCell']
/-- What Divide answers. -/
def RetDiv (s : List UInt8) (w : World) (e : Ending) (w' : World) : Prop := ∃ o c, e = .returned (.tuple #[.slice o (Lx.divide s).1.length c, .int .i64 ((Lx.divide s).2.1 : Nat), .int .i64 ((Lx.divide s).2.2 : Nat)]) ∧ SpAt w' o (Lx.divide s).1 ∧ Below w.heap.size w w'
theorem retDiv_bad {s : List UInt8} {w w' : World} {E i : Nat} (h : Lx.divide s = ([], E, i)) (hb : Below w.heap.size w w') : RetDiv s w (.returned (.tuple #[.slice none 0 0, .int .i64 (E : Nat), .int .i64 (i : Nat)])) w' := by
  refine ⟨none, 0, by rw [h]; rfl, ?_, hb⟩
  rw [h]; intro k t ht; simp at ht
theorem divide_at {s : List UInt8} {l : List Lx.Sp} (hl : s.length ≤ 20000) (h : Lx.spans s = (l, none)) : Lx.divide s = (l, 0, 0) := divide_of_spans s l hl h

set_option maxHeartbeats 1000000 in
theorem refDivide_long (s : List UInt8) (w : World) (h : 20000 < s.length) : Calls Tryz.prog 30 #[.string ⟨s.toArray⟩] w (RetDiv s w) := by
  have hss : (⟨s.toArray⟩ : ByteArray).size = s.length := by simp [ByteArray.size]
  have d1 : decide ((20000 : Int) < (s.length : Int)) = true := decide_eq_true (by omega)
  have HD := Lib.hid (show Lx.divide s = ([], 2, 0) by unfold Lx.divide; rw [if_pos h])
  clear h
  go_enter Tryz.func30, Tryz.ntmps30
  go_wp2_with fail
  refine bodyPost_ret (v := .tuple #[.slice none 0 0, .int .i64 2, .int .i64 0]) ?_ rfl (retDiv_bad HD.out (Below.refl _ _))
  simp [results, Tryz.results30, go_sem]

set_option maxHeartbeats 4000000 in
set_option maxRecDepth 100000 in
theorem refDivide_c (s : List UInt8) (w : World) (hs : s.length ≤ 20000) (h6 : (Lx.spans s).1.length ≤ 6000) : Calls Tryz.prog 30 #[.string ⟨s.toArray⟩] w (RetDiv s w) := by
  have hss : (⟨s.toArray⟩ : ByteArray).size = s.length := by simp [ByteArray.size]
  have d1 : decide ((20000 : Int) < (s.length : Int)) = false := decide_eq_false (by omega)
  have H6 := Lib.hid h6
  have HFi := Lib.hid (fun (ix : Nat) (h : ix < s.length) (W : World) => refFirst_c s ix W (by omega) h)
  have HPa := Lib.hid (fun (ix : Nat) (h : ix ≤ s.length) (W : World) => refPassed_c s ix W h (by omega))
  clear h6
  go_enter Tryz.func30, Tryz.ntmps30
  go_wp2_with fail
  go_loopg [5, 6, 7, 8, 9, 10, 11, 12, 13, 14, 15] s.length (fun g ov av lv cv x9 x10 x11 x12 x13 x14 x15 wr => ∃ (ix f ln cl : Nat) (pre : List Lx.Sp) (last : Lx.Sp), ix ≤ s.length ∧ av = .int .i64 ix ∧ lv = .int .i64 (ln : Nat) ∧ cv = .int .i64 (cl : Nat) ∧ ln ≤ 20001 ∧ cl ≤ 20001 ∧ Hid (ln = (Lx.placeAt s ix).ln + 1 ∧ cl = ix - (Lx.placeAt s ix).bg + 1) ∧ Hid (s.length - ix < f) ∧
      Hid (Lx.spans s = (pre ++ (Lx.spansN s f ix last).1, (Lx.spansN s f ix last).2)) ∧ Hid ((pre = [] ∧ last = Lx.noSp) ∨ pre.getLast? = some last) ∧ Hid (wr.ownsRow w.heap.size 58 6 ov pre.length (spCells pre)) ∧ Hid (Below w.heap.size w wr) ∧ g = s.length - ix)
  case atStart => exact ⟨0, s.length + 1, 1, 1, [], Lx.noSp, Nat.zero_le _, rfl, rfl, rfl, by omega, by omega, Lib.hid ⟨rfl, rfl⟩, Lib.hid (by omega), Lib.hid rfl, Lib.hid (.inl ⟨rfl, rfl⟩), Lib.hid (World.ownsRow_nil _ _ _ _), Lib.hid (Below.refl _ _), rfl⟩
  case round =>
    obtain ⟨ix, f, ln, cl, pre, last, hix, rfl, rfl, rfl, hln, hcl, HPl, HF, HSp, HLa, HR, HW, hg⟩ := hrel
    have HP := Lib.hid (HPa.out ix hix wr)
    obtain ⟨f', hf'⟩ : ∃ f', f = f' + 1 := ⟨f - 1, by have := HF.out; omega⟩
    have hsp := HSp.out
    rw [hf', spansN_succ] at hsp
    obtain ⟨o, c, rfl, hat⟩ := row_piece rfl HR.out
    have HAt := Lib.hid hat
    have hpl6 : pre.length ≤ 6000 := by
      have h := H6.out
      rw [HSp.out] at h
      simp only [List.length_append] at h
      omega
    clear hat HSp
    cases hB : Lx.blanks none ix (s.drop ix) with
    | «open» q =>
      rw [hB] at hsp HP
      have HD := Lib.hid (show Lx.divide s = ([], 11, q) from divide_of_bad s _ 11 q hs (by rw [hsp]))
      clear hB hsp hf'
      unfold Lx.B.told at HP
      go_wp2_with fail
      refine HP.out.mono ?_
      rintro e w1 ⟨rfl, hw1⟩
      rw [hw1]
      clear hw1
      go_wp2_with fail
      refine bodyPost_ret (v := .tuple #[.slice none 0 0, .int .i64 11, .int .i64 (q : Nat)]) ?_ rfl (retDiv_bad HD.out HW.out)
      simp [results, Tryz.results30, go_sem]
    | «at» j =>
      have hj1 := blanks_ge _ _ _ _ hB
      have hj2 := blanks_le _ _ _ _ hB
      rw [List.length_drop] at hj2
      rw [hB] at hsp HP
      unfold Lx.B.told at HP
      simp only at hsp HP
      unfold tailN at hsp
      by_cases hje : j = s.length
      · rw [if_pos hje] at hsp
        have HD := Lib.hid (show Lx.divide s = (pre, 0, 0) from divide_at hs (by rw [hsp]; simp))
        have dj : ((j : Int) == (s.length : Int)) = true := by rw [hje]; simp
        have HJ := Lib.hid hje
        clear hB hsp hf' hje
        go_wp2_with fail
        refine HP.out.mono ?_
        rintro e w1 ⟨rfl, hw1⟩
        rw [hw1]
        clear hw1
        go_wp2_with fail
        all_goals first
          | (refine bodyPost_ret (v := .tuple #[.slice o pre.length c, .int .i64 0, .int .i64 0]) ?_ rfl ⟨o, c, by rw [HD.out]; rfl, by rw [HD.out]; exact HAt.out, HW.out⟩
             simp [results, Tryz.results30, go_sem])
          | (exfalso; have := HJ.out; omega)
      · have hjl : j < s.length := by omega
        rw [if_neg hje] at hsp
        have dj : ((j : Int) == (s.length : Int)) = false := beq_eq_false_iff_ne.2 (by omega)
        have HF1 := Lib.hid (HFi.out j hjl wr)
        have HJl := Lib.hid hjl
        clear hB hje
        go_wp2_with fail
        refine HP.out.mono ?_
        rintro e w1 ⟨rfl, hw1⟩
        rw [hw1]
        clear hw1
        go_wp2_with fail
        refine HF1.out.mono ?_
        rintro e w2 ⟨hb2, hcase⟩
        have hW2 := HW.out.trans (hb2.mono HW.out.size)
        rcases hcase with ⟨E, hm, k, x, p, q, n, rfl⟩ | ⟨k, n, hm, rfl⟩
        · have hE10 := measure_code s j 0 0 E hm
          have hE99 : E ≤ 100 := Nat.le_trans (meas_small hm) (by decide)
          have hnx : Lx.next s j last = .error E := by unfold Lx.next; rw [meas_bad last.kind last.to hm]
          rw [hnx] at hsp
          have HD := Lib.hid (show Lx.divide s = ([], E, j) from divide_of_bad s _ E j hs (by rw [hsp]))
          have dE : ((E : Int) == 0) = false := beq_eq_false_iff_ne.2 (by omega)
          have dEn : (E == 0) = false := beq_eq_false_iff_ne.2 (by omega)
          have dE2 : ((E : Int) != 0) = true := bne_iff_ne.2 (by omega)
          have HW2 := Lib.hid (hW2.alloc hW2.size (.cells #[.int .i64 k, .string x, .int .i64 p, .int .i64 q] 45))
          clear hm hnx hsp hf' hE10 hb2 hW2
          go_wp2_with fail
          refine bodyPost_ret (v := .tuple #[.slice none 0 0, .int .i64 (E : Nat), .int .i64 (j : Nat)]) ?_ rfl (retDiv_bad HD.out HW2.out)
          simp [results, Tryz.results30, go_sem]
        · have hjl2 := HJl.out
          have hml := measure_len s j 0 0 k n hjl2 hm
          have hk9 : k ≤ 9 := meas_kind hm
          obtain ⟨h8, hmo⟩ := meas_ok last.kind last.to hm
          have hflat : ∀ q c, q < n → s[j + q]? = some c → c ≠ 10 := fun q c hq hc => by
            have hm2 := hm
            rw [measure_L] at hm2
            exact measure_flat _ _ k n hm2 q c hq (by rw [List.getElem?_drop]; exact hc)
          obtain ⟨p1, p2, p3⟩ := place_go s ix j hj1 (by omega)
          obtain ⟨pf1, pf2⟩ := place_flat s j n hml.2.1 hflat
          have pb := place_bg s ix hix
          have pbj := place_bg s j (by omega)
          obtain ⟨m, hmm⟩ : ∃ m, j - ix = m := ⟨_, rfl⟩
          have hxl : ((s.take j).drop ix).length = m := by rw [List.length_drop, List.length_take]; omega
          have pbx := place_bg ((s.take j).drop ix) m (by omega)
          have HPc := Lib.hid (fun W => refPlaced_c ((s.take j).drop ix) m W (by omega) (by omega))
          rw [hmm] at p1 p2 p3
          rw [← ba_slice s ix j] at HPc
          generalize (Lx.placeAt ((s.take j).drop ix) m).ln = l0 at *
          generalize (Lx.placeAt ((s.take j).drop ix) m).bg = b0 at *
          obtain ⟨hpl1, hpl2⟩ := HPl.out
          obtain ⟨ln2, hln2⟩ : ∃ z : Nat, (Lx.placeAt s j).ln + 1 = z := ⟨_, rfl⟩
          obtain ⟨cl2, hcl2⟩ : ∃ z : Nat, j - (Lx.placeAt s j).bg + 1 = z := ⟨_, rfl⟩
          obtain ⟨Lz, hLz⟩ : ∃ z : Int, ((l0 + 1 : Nat) : Int) = z := ⟨_, rfl⟩
          obtain ⟨Cz, hCz⟩ : ∃ z : Int, ((m - b0 + 1 : Nat) : Int) = z := ⟨_, rfl⟩
          rw [hLz, hCz] at HPc
          have s1 : (j : Int) - (ix : Int) = (m : Int) := by omega
          obtain ⟨L0, s2⟩ : ∃ z : Int, Lz - 1 = z := ⟨_, rfl⟩
          have s3 : (ln : Int) + L0 = (ln2 : Int) := by omega
          have hL00 : 0 ≤ L0 := by omega
          have hL01 : L0 ≤ 20000 := by omega
          have hLz0 : 0 ≤ Lz := by omega
          have hLz1 : Lz ≤ 20001 := by omega
          have hCz0 : 0 ≤ Cz := by omega
          have hCz1 : Cz ≤ 20001 := by omega
          have hln21 : ln2 ≤ 20001 := by omega
          have hcl21 : cl2 ≤ 20001 := by omega
          have hcl22 : cl2 + n ≤ 20001 := by omega
          have HPn := Lib.hid (show ln2 = (Lx.placeAt s (j + n)).ln + 1 ∧ cl2 + n = (j + n) - (Lx.placeAt s (j + n)).bg + 1 from ⟨by omega, by omega⟩)
          have HCol := Lib.hid (show (l0 = 0 → (cl : Int) + (Cz - 1) = (cl2 : Int)) ∧ (l0 ≠ 0 → Cz = (cl2 : Int)) from ⟨fun h0 => by have := (p2 h0).1; have := (p2 h0).2; omega, fun h0 => by have := p3 h0; omega⟩)
          have HL0 := Lib.hid hLz
          obtain ⟨jn, hjn⟩ : ∃ z, j + n = z := ⟨_, rfl⟩
          obtain ⟨cn, hcn⟩ : ∃ z, cl2 + n = z := ⟨_, rfl⟩
          rw [hjn, hcn] at HPn
          have hjnl : jn ≤ s.length := by omega
          have hjn1 : j < jn := by omega
          have hcnl : cn ≤ 20001 := by omega
          obtain ⟨C0, s4⟩ : ∃ z : Int, Cz - 1 = z := ⟨_, rfl⟩
          rw [s4] at HCol
          have v1 : IntKind.i64.wrap ((j : Int) - (ix : Int)) = (m : Int) := by rw [s1]; exact IntWalk.i64_in _ (by omega)
          have v2 : IntKind.i64.wrap (Lz - 1) = L0 := by rw [s2]; exact IntWalk.i64_in _ (by omega)
          have v3 : IntKind.i64.wrap ((ln : Int) + L0) = (ln2 : Int) := by rw [s3]; exact IntWalk.i64_in _ (by omega)
          have v4 : IntKind.i64.wrap (Cz - 1) = C0 := by rw [s4]; exact IntWalk.i64_in _ (by omega)
          have v6 : IntKind.i64.wrap ((j : Int) + (n : Int)) = (jn : Int) := by rw [show (j : Int) + (n : Int) = (jn : Int) by omega]; exact IntWalk.i64_in _ (by omega)
          have v7 : IntKind.i64.wrap ((cl2 : Int) + (n : Int)) = (cn : Int) := by rw [show (cl2 : Int) + (n : Int) = (cn : Int) by omega]; exact IntWalk.i64_in _ (by omega)
          have b1 : (0 : Int) ≤ (ix : Int) := Int.natCast_nonneg _
          have b2 : (ix : Int) ≤ (j : Int) := by omega
          have b3 : (j : Int) ≤ (s.length : Int) := by omega
          have s6' : (j : Int) + (n : Int) = (jn : Int) := by omega
          have s7' : (cl2 : Int) + (n : Int) = (cn : Int) := by omega
          obtain ⟨i0, hi, hz0, hz1, hz2⟩ := info_parts info_piece
          have hwz : w.heap.size ≤ w2.heap.size := hW2.size
          obtain ⟨tx, htx⟩ : ∃ z : ByteArray, (⟨(Lx.txt s j k n).toArray⟩ : ByteArray) = z := ⟨_, rfl⟩
          rw [htx]
          have HTx := Lib.hid htx
          have HR2 := Lib.hid (row_below HR.out hb2)
          have HB2' := Lib.hid hb2
          have HW2 := Lib.hid hW2
          have HFl := Lib.hid (show s.length - jn < f' by have := HF.out; omega)
          have hh8 := h8
          have hln2' := hln2
          have hcl2' := hcl2
          clear hLz hCz HPl hpl1 hpl2 p1 p2 p3 pf1 pf2 pb pbj pbx hxl hmm hflat hml hln2 hcl2 h8 HFi HPa HP HF1 HR HF HW hb2 hW2 htx
          rcases hmo with ⟨hk8, h46, hjo, hm9⟩ | ⟨hno, hmk⟩
          · skip
            have hnx : Lx.next s j last = .ok ⟨9, Lx.txt s j k n, ln2, cl2, j, jn⟩ := by
              unfold Lx.next
              rw [hm9, ← hjn]
              show Except.ok (_ : Lx.Sp) = _
              rw [← hcl2', ← hln2']
              rw [hk8, hh8 hk8]
              rfl
            have hk0 := hk8
            have hn1 := hh8 hk8
            have hdt : tx = ⟨#[46]⟩ := by rw [← HTx.out, hk8, hn1, txt_dot h46]
            obtain ⟨e1, e2, e3⟩ := dot_eqs tx true ⟨fun _ => rfl, fun _ => hdt⟩
            have d8 : ((k : Int) == 8) = true := by rw [hk8]; rfl
            have d8n : (k == 8) = true := by rw [hk8]; rfl
            have HAt2 : Hid (∀ W : World, Below w2.heap.size w2 W → SpAt W o pre) := Lib.hid (fun W hb => spAt_below hb (spAt_below HB2'.out HAt.out))
            have HJo := Lib.hid (fun (W : World) (hb : Below w2.heap.size w2 W) => refJoins_c s j W pre last o c (by omega) HJl.out (by omega) (HAt2.out W hb) HLa.out)
            have hjo2 : Lx.joins s j last.kind last.to = true := hjo
            rw [hjo2] at HJo
            clear hln2' hcl2' hm hk8 hh8 hdt hn1 hk0 hjo hjo2 h46
            clear hm9
            obtain ⟨T, hT⟩ : ∃ T : Lx.Sp, T = ⟨9, Lx.txt s j k n, ln2, cl2, j, jn⟩ := ⟨_, rfl⟩
            have hnx2 : Lx.next s j last = .ok T := hnx.trans (by rw [hT])
            rw [hnx2] at hsp
            have HSp2 := Lib.hid (show Lx.spans s = ((pre ++ [T]) ++ (Lx.spansN s f' jn T).1, (Lx.spansN s f' jn T).2) by rw [hsp, hT, List.append_assoc]; rfl)
            have hpl : pre.length + 1 ≤ 6000 := by
              have h := H6.out
              rw [HSp2.out] at h
              simp only [List.length_append, List.length_cons, List.length_nil] at h
              omega
            have d6 : ((pre.length : Int) == 6000) = false := beq_eq_false_iff_ne.2 (by omega)
            have d6n : (pre.length == 6000) = false := beq_eq_false_iff_ne.2 (by omega)
            have hTc : T.cells = [.int .i64 9, .string tx, .int .i64 ln2, .int .i64 cl2, .int .i64 j, .int .i64 jn] := by rw [hT, ← HTx.out]; rfl
            have HTc := Lib.hid hTc
            have H1c := Lib.hid (cells_one T)
            have HCn : Hid (∀ W : World, ∀ B, B = W.heap.size → ∀ i u, T.cells[i]? = some u → (W.alloc (.cells #[.int .i64 9, .string tx, .int .i64 ln2, .int .i64 cl2, .int .i64 j, .int .i64 jn] 58)).cell? ((⟨B, 0, none⟩ : Addr).add i) = some u) := Lib.hid (by
              have h := fun W B hB => piece_new W T B hB
              rw [hT] at h ⊢
              rw [← HTx.out]
              exact h)
            have HTt := Lib.hid (show T.to = jn by rw [hT])
            rw [show T.cells = [.int .i64 9, .string tx, .int .i64 ln2, .int .i64 cl2, .int .i64 j, .int .i64 jn] from hTc] at H1c HCn
            clear hsp hnx hnx2 hT hTc
            go_wp2_with fail
            refine (HJo.out _ ((Below.refl _ _).alloc (Nat.le_refl _) _)).mono ?_
            rintro e w3 ⟨rfl, hb3⟩
            have hT3 : TB w3 w2.heap.size k tx 0 0 := (TB.new w2 k tx 0 0).below hb3 (by simp)
            have HR3 := Lib.hid (row_below (HR2.out.alloc (.cells #[.int .i64 k, .string tx, .int .i64 0, .int .i64 0] 45)) hb3)
            have HB3 := Lib.hid ((HW2.out.alloc hwz (.cells #[.int .i64 k, .string tx, .int .i64 0, .int .i64 0] 45)).trans (hb3.mono (by simp; omega)))
            have hz3 : w2.heap.size + 1 ≤ w3.heap.size := by have := hb3.size; simpa using this
            have c0 := hT3.c0
            have c1 := hT3.c1
            have c2 := hT3.c2
            have c3 := hT3.c3
            have f0 := hT3.fz 0
            have f1 := hT3.fz 1
            have f2 := hT3.fz 2
            have f3 := hT3.fz 3
            clear hT3 hb3 HJo HAt2
            by_cases hl0 : l0 = 0
            · have dL : decide ((1 : Int) < Lz) = false := decide_eq_false (by have := HL0.out; omega)
              have v5 : IntKind.i64.wrap ((cl : Int) + C0) = (cl2 : Int) := by rw [HCol.out.1 hl0]; exact IntWalk.i64_in _ (by omega)
              have s5 : (cl : Int) + C0 = (cl2 : Int) := HCol.out.1 hl0
              clear hl0 HCol
              go_wp2_with fail
              refine (HPc.out _).mono ?_
              rintro e w5 ⟨rfl, hw5⟩
              rw [hw5]
              clear hw5
              go_wp2_with (at_builtin; refine wpList_append_own _ rfl _ _ 54 rfl w.heap.size 58 i0 _ 6 56 Tryz.underlying54 hi hz0 hz1 hz2 rfl (by decide) (.slice o pre.length c) pre.length (spCells pre) rfl ((row_set (row_set (row_set HR3.out w2.heap.size 0 (.inr (fun g e he => by have := (HR2.out.lt g e).2; omega)) _) w2.heap.size 2 (.inr (fun g e he => by have := (HR2.out.lt g e).2; omega)) _) w2.heap.size 3 (.inr (fun g e he => by have := (HR2.out.lt g e).2; omega)) _).alloc _) ⟨w3.heap.size, 0, none⟩ 1 1 _ rfl rfl (HCn.out _ _ (by simp)) H1c.out (by show _ ≤ 9223372036854775807; omega) (by omega) (by simp; omega) ?_; intro v' w4 hown' hgrow _; have HOw := Lib.hid hown'; have HGw := Lib.hid hgrow; clear hown' hgrow)
              have HR4 : Hid (w4.ownsRow w.heap.size 58 6 v' (pre ++ [T]).length (spCells (pre ++ [T]))) := Lib.hid (by
                rw [spCells_snoc, HTc.out, List.length_append]
                exact HOw.out)
              have HB4 : Hid (Below w.heap.size w w4) := Lib.hid (((((HB3.out.setCell (p := ⟨w2.heap.size, 0, none⟩) hwz _).setCell (p := ⟨w2.heap.size, 2, none⟩) hwz _).setCell (p := ⟨w2.heap.size, 3, none⟩) hwz _).alloc (by simp; omega) _).grown HGw.out (by simp; omega) (fun b e => (HR2.out.lt b e).1))
              clear HOw HGw HCn H1c
              go_roundg (s.length - jn)
              case rel => exact ⟨jn, f', ln2, cn, pre ++ [T], T, hjnl, rfl, rfl, rfl, hln21, hcnl, HPn, HFl, HSp2, Lib.hid (.inr (by simp)), HR4, HB4, rfl⟩
              case measure => omega
            · have dL : decide ((1 : Int) < Lz) = true := decide_eq_true (by have := HL0.out; omega)
              have s5 : Cz = (cl2 : Int) := HCol.out.2 hl0
              clear hl0 HCol
              go_wp2_with fail
              refine (HPc.out _).mono ?_
              rintro e w5 ⟨rfl, hw5⟩
              rw [hw5]
              clear hw5
              go_wp2_with (at_builtin; refine wpList_append_own _ rfl _ _ 54 rfl w.heap.size 58 i0 _ 6 56 Tryz.underlying54 hi hz0 hz1 hz2 rfl (by decide) (.slice o pre.length c) pre.length (spCells pre) rfl ((row_set (row_set (row_set HR3.out w2.heap.size 0 (.inr (fun g e he => by have := (HR2.out.lt g e).2; omega)) _) w2.heap.size 2 (.inr (fun g e he => by have := (HR2.out.lt g e).2; omega)) _) w2.heap.size 3 (.inr (fun g e he => by have := (HR2.out.lt g e).2; omega)) _).alloc _) ⟨w3.heap.size, 0, none⟩ 1 1 _ rfl rfl (HCn.out _ _ (by simp)) H1c.out (by show _ ≤ 9223372036854775807; omega) (by omega) (by simp; omega) ?_; intro v' w4 hown' hgrow _; have HOw := Lib.hid hown'; have HGw := Lib.hid hgrow; clear hown' hgrow)
              have HR4 : Hid (w4.ownsRow w.heap.size 58 6 v' (pre ++ [T]).length (spCells (pre ++ [T]))) := Lib.hid (by
                rw [spCells_snoc, HTc.out, List.length_append]
                exact HOw.out)
              have HB4 : Hid (Below w.heap.size w w4) := Lib.hid (((((HB3.out.setCell (p := ⟨w2.heap.size, 0, none⟩) hwz _).setCell (p := ⟨w2.heap.size, 2, none⟩) hwz _).setCell (p := ⟨w2.heap.size, 3, none⟩) hwz _).alloc (by simp; omega) _).grown HGw.out (by simp; omega) (fun b e => (HR2.out.lt b e).1))
              clear HOw HGw HCn H1c
              go_roundg (s.length - jn)
              case rel => exact ⟨jn, f', ln2, cn, pre ++ [T], T, hjnl, rfl, rfl, rfl, hln21, hcnl, HPn, HFl, HSp2, Lib.hid (.inr (by simp)), HR4, HB4, rfl⟩
              case measure => omega
          · by_cases hk8 : k = 8
            · by_cases h46 : s[j]? = some 46
              · have hjo : Lx.joins s j last.kind last.to = false := by
                  cases hh : Lx.joins s j last.kind last.to with
                  | false => rfl
                  | true => exact absurd ⟨hk8, h46, hh⟩ hno
                have hnx : Lx.next s j last = .ok ⟨k, Lx.txt s j k n, ln2, cl2, j, jn⟩ := by
                  unfold Lx.next
                  rw [hmk, ← hjn]
                  show Except.ok (_ : Lx.Sp) = _
                  rw [← hcl2', ← hln2']
                  rfl
                have hk0 := hk8
                have hn1 := hh8 hk8
                have hdt : tx = ⟨#[46]⟩ := by rw [← HTx.out, hk8, hn1, txt_dot h46]
                obtain ⟨e1, e2, e3⟩ := dot_eqs tx true ⟨fun _ => rfl, fun _ => hdt⟩
                have d8 : ((k : Int) == 8) = true := by rw [hk8]; rfl
                have d8n : (k == 8) = true := by rw [hk8]; rfl
                have HAt2 : Hid (∀ W : World, Below w2.heap.size w2 W → SpAt W o pre) := Lib.hid (fun W hb => spAt_below hb (spAt_below HB2'.out HAt.out))
                have HJo := Lib.hid (fun (W : World) (hb : Below w2.heap.size w2 W) => refJoins_c s j W pre last o c (by omega) HJl.out (by omega) (HAt2.out W hb) HLa.out)
                have hjo2 : Lx.joins s j last.kind last.to = false := hjo
                rw [hjo2] at HJo
                clear hln2' hcl2' hm hk8 hh8 hdt hn1 hk0 hjo hjo2 h46
                clear hmk hno
                obtain ⟨T, hT⟩ : ∃ T : Lx.Sp, T = ⟨k, Lx.txt s j k n, ln2, cl2, j, jn⟩ := ⟨_, rfl⟩
                have hnx2 : Lx.next s j last = .ok T := hnx.trans (by rw [hT])
                rw [hnx2] at hsp
                have HSp2 := Lib.hid (show Lx.spans s = ((pre ++ [T]) ++ (Lx.spansN s f' jn T).1, (Lx.spansN s f' jn T).2) by rw [hsp, hT, List.append_assoc]; rfl)
                have hpl : pre.length + 1 ≤ 6000 := by
                  have h := H6.out
                  rw [HSp2.out] at h
                  simp only [List.length_append, List.length_cons, List.length_nil] at h
                  omega
                have d6 : ((pre.length : Int) == 6000) = false := beq_eq_false_iff_ne.2 (by omega)
                have d6n : (pre.length == 6000) = false := beq_eq_false_iff_ne.2 (by omega)
                have hTc : T.cells = [.int .i64 k, .string tx, .int .i64 ln2, .int .i64 cl2, .int .i64 j, .int .i64 jn] := by rw [hT, ← HTx.out]; rfl
                have HTc := Lib.hid hTc
                have H1c := Lib.hid (cells_one T)
                have HCn : Hid (∀ W : World, ∀ B, B = W.heap.size → ∀ i u, T.cells[i]? = some u → (W.alloc (.cells #[.int .i64 k, .string tx, .int .i64 ln2, .int .i64 cl2, .int .i64 j, .int .i64 jn] 58)).cell? ((⟨B, 0, none⟩ : Addr).add i) = some u) := Lib.hid (by
                  have h := fun W B hB => piece_new W T B hB
                  rw [hT] at h ⊢
                  rw [← HTx.out]
                  exact h)
                have HTt := Lib.hid (show T.to = jn by rw [hT])
                rw [show T.cells = [.int .i64 k, .string tx, .int .i64 ln2, .int .i64 cl2, .int .i64 j, .int .i64 jn] from hTc] at H1c HCn
                clear hsp hnx hnx2 hT hTc
                go_wp2_with fail
                refine (HJo.out _ ((Below.refl _ _).alloc (Nat.le_refl _) _)).mono ?_
                rintro e w3 ⟨rfl, hb3⟩
                have hT3 : TB w3 w2.heap.size k tx 0 0 := (TB.new w2 k tx 0 0).below hb3 (by simp)
                have HR3 := Lib.hid (row_below (HR2.out.alloc (.cells #[.int .i64 k, .string tx, .int .i64 0, .int .i64 0] 45)) hb3)
                have HB3 := Lib.hid ((HW2.out.alloc hwz (.cells #[.int .i64 k, .string tx, .int .i64 0, .int .i64 0] 45)).trans (hb3.mono (by simp; omega)))
                have hz3 : w2.heap.size + 1 ≤ w3.heap.size := by have := hb3.size; simpa using this
                have c0 := hT3.c0
                have c1 := hT3.c1
                have c2 := hT3.c2
                have c3 := hT3.c3
                have f0 := hT3.fz 0
                have f1 := hT3.fz 1
                have f2 := hT3.fz 2
                have f3 := hT3.fz 3
                clear hT3 hb3 HJo HAt2
                by_cases hl0 : l0 = 0
                · have dL : decide ((1 : Int) < Lz) = false := decide_eq_false (by have := HL0.out; omega)
                  have v5 : IntKind.i64.wrap ((cl : Int) + C0) = (cl2 : Int) := by rw [HCol.out.1 hl0]; exact IntWalk.i64_in _ (by omega)
                  have s5 : (cl : Int) + C0 = (cl2 : Int) := HCol.out.1 hl0
                  clear hl0 HCol
                  go_wp2_with fail
                  refine (HPc.out _).mono ?_
                  rintro e w5 ⟨rfl, hw5⟩
                  rw [hw5]
                  clear hw5
                  go_wp2_with (at_builtin; refine wpList_append_own _ rfl _ _ 54 rfl w.heap.size 58 i0 _ 6 56 Tryz.underlying54 hi hz0 hz1 hz2 rfl (by decide) (.slice o pre.length c) pre.length (spCells pre) rfl ((row_set (row_set HR3.out w2.heap.size 2 (.inr (fun g e he => by have := (HR2.out.lt g e).2; omega)) _) w2.heap.size 3 (.inr (fun g e he => by have := (HR2.out.lt g e).2; omega)) _).alloc _) ⟨w3.heap.size, 0, none⟩ 1 1 _ rfl rfl (HCn.out _ _ (by simp)) H1c.out (by show _ ≤ 9223372036854775807; omega) (by omega) (by simp; omega) ?_; intro v' w4 hown' hgrow _; have HOw := Lib.hid hown'; have HGw := Lib.hid hgrow; clear hown' hgrow)
                  have HR4 : Hid (w4.ownsRow w.heap.size 58 6 v' (pre ++ [T]).length (spCells (pre ++ [T]))) := Lib.hid (by
                    rw [spCells_snoc, HTc.out, List.length_append]
                    exact HOw.out)
                  have HB4 : Hid (Below w.heap.size w w4) := Lib.hid ((((HB3.out.setCell (p := ⟨w2.heap.size, 2, none⟩) hwz _).setCell (p := ⟨w2.heap.size, 3, none⟩) hwz _).alloc (by simp; omega) _).grown HGw.out (by simp; omega) (fun b e => (HR2.out.lt b e).1))
                  clear HOw HGw HCn H1c
                  go_roundg (s.length - jn)
                  case rel => exact ⟨jn, f', ln2, cn, pre ++ [T], T, hjnl, rfl, rfl, rfl, hln21, hcnl, HPn, HFl, HSp2, Lib.hid (.inr (by simp)), HR4, HB4, rfl⟩
                  case measure => omega
                · have dL : decide ((1 : Int) < Lz) = true := decide_eq_true (by have := HL0.out; omega)
                  have s5 : Cz = (cl2 : Int) := HCol.out.2 hl0
                  clear hl0 HCol
                  go_wp2_with fail
                  refine (HPc.out _).mono ?_
                  rintro e w5 ⟨rfl, hw5⟩
                  rw [hw5]
                  clear hw5
                  go_wp2_with (at_builtin; refine wpList_append_own _ rfl _ _ 54 rfl w.heap.size 58 i0 _ 6 56 Tryz.underlying54 hi hz0 hz1 hz2 rfl (by decide) (.slice o pre.length c) pre.length (spCells pre) rfl ((row_set (row_set HR3.out w2.heap.size 2 (.inr (fun g e he => by have := (HR2.out.lt g e).2; omega)) _) w2.heap.size 3 (.inr (fun g e he => by have := (HR2.out.lt g e).2; omega)) _).alloc _) ⟨w3.heap.size, 0, none⟩ 1 1 _ rfl rfl (HCn.out _ _ (by simp)) H1c.out (by show _ ≤ 9223372036854775807; omega) (by omega) (by simp; omega) ?_; intro v' w4 hown' hgrow _; have HOw := Lib.hid hown'; have HGw := Lib.hid hgrow; clear hown' hgrow)
                  have HR4 : Hid (w4.ownsRow w.heap.size 58 6 v' (pre ++ [T]).length (spCells (pre ++ [T]))) := Lib.hid (by
                    rw [spCells_snoc, HTc.out, List.length_append]
                    exact HOw.out)
                  have HB4 : Hid (Below w.heap.size w w4) := Lib.hid ((((HB3.out.setCell (p := ⟨w2.heap.size, 2, none⟩) hwz _).setCell (p := ⟨w2.heap.size, 3, none⟩) hwz _).alloc (by simp; omega) _).grown HGw.out (by simp; omega) (fun b e => (HR2.out.lt b e).1))
                  clear HOw HGw HCn H1c
                  go_roundg (s.length - jn)
                  case rel => exact ⟨jn, f', ln2, cn, pre ++ [T], T, hjnl, rfl, rfl, rfl, hln21, hcnl, HPn, HFl, HSp2, Lib.hid (.inr (by simp)), HR4, HB4, rfl⟩
                  case measure => omega
              · skip
                have hnx : Lx.next s j last = .ok ⟨k, Lx.txt s j k n, ln2, cl2, j, jn⟩ := by
                  unfold Lx.next
                  rw [hmk, ← hjn]
                  show Except.ok (_ : Lx.Sp) = _
                  rw [← hcl2', ← hln2']
                  rfl
                have d8 : ((k : Int) == 8) = true := by rw [hk8]; rfl
                have d8n : (k == 8) = true := by rw [hk8]; rfl
                have hdt : tx ≠ ⟨#[46]⟩ := fun e => h46 (txt_is_dot hjl2 (by rw [← hk8, ← hh8 hk8, HTx.out, e]))
                obtain ⟨e1, e2, e3⟩ := dot_eqs tx false ⟨fun e => absurd e hdt, fun e => absurd e (by decide)⟩
                clear hln2' hcl2' hmk hm hno hk8 hh8 h46 hdt
                obtain ⟨T, hT⟩ : ∃ T : Lx.Sp, T = ⟨k, Lx.txt s j k n, ln2, cl2, j, jn⟩ := ⟨_, rfl⟩
                have hnx2 : Lx.next s j last = .ok T := hnx.trans (by rw [hT])
                rw [hnx2] at hsp
                have HSp2 := Lib.hid (show Lx.spans s = ((pre ++ [T]) ++ (Lx.spansN s f' jn T).1, (Lx.spansN s f' jn T).2) by rw [hsp, hT, List.append_assoc]; rfl)
                have hpl : pre.length + 1 ≤ 6000 := by
                  have h := H6.out
                  rw [HSp2.out] at h
                  simp only [List.length_append, List.length_cons, List.length_nil] at h
                  omega
                have d6 : ((pre.length : Int) == 6000) = false := beq_eq_false_iff_ne.2 (by omega)
                have d6n : (pre.length == 6000) = false := beq_eq_false_iff_ne.2 (by omega)
                have hTc : T.cells = [.int .i64 k, .string tx, .int .i64 ln2, .int .i64 cl2, .int .i64 j, .int .i64 jn] := by rw [hT, ← HTx.out]; rfl
                have HTc := Lib.hid hTc
                have H1c := Lib.hid (cells_one T)
                have HCn : Hid (∀ W : World, ∀ B, B = W.heap.size → ∀ i u, T.cells[i]? = some u → (W.alloc (.cells #[.int .i64 k, .string tx, .int .i64 ln2, .int .i64 cl2, .int .i64 j, .int .i64 jn] 58)).cell? ((⟨B, 0, none⟩ : Addr).add i) = some u) := Lib.hid (by
                  have h := fun W B hB => piece_new W T B hB
                  rw [hT] at h ⊢
                  rw [← HTx.out]
                  exact h)
                have HTt := Lib.hid (show T.to = jn by rw [hT])
                rw [show T.cells = [.int .i64 k, .string tx, .int .i64 ln2, .int .i64 cl2, .int .i64 j, .int .i64 jn] from hTc] at H1c HCn
                clear hsp hnx hnx2 hT hTc
                by_cases hl0 : l0 = 0
                · have dL : decide ((1 : Int) < Lz) = false := decide_eq_false (by have := HL0.out; omega)
                  have v5 : IntKind.i64.wrap ((cl : Int) + C0) = (cl2 : Int) := by rw [HCol.out.1 hl0]; exact IntWalk.i64_in _ (by omega)
                  have s5 : (cl : Int) + C0 = (cl2 : Int) := HCol.out.1 hl0
                  clear hl0 HCol
                  go_wp2_with fail
                  refine (HPc.out _).mono ?_
                  rintro e w3 ⟨rfl, hw3⟩
                  rw [hw3]
                  clear hw3
                  go_wp2_with (at_builtin; refine wpList_append_own _ rfl _ _ 54 rfl w.heap.size 58 i0 _ 6 56 Tryz.underlying54 hi hz0 hz1 hz2 rfl (by decide) (.slice o pre.length c) pre.length (spCells pre) rfl ((HR2.out.alloc _).alloc _) ⟨w2.heap.size + 1, 0, none⟩ 1 1 _ rfl rfl (HCn.out _ _ (by simp)) H1c.out (by show _ ≤ 9223372036854775807; omega) (by omega) (by simp; omega) ?_; intro v' w4 hown' hgrow _; have HOw := Lib.hid hown'; have HGw := Lib.hid hgrow; clear hown' hgrow)
                  have HR4 : Hid (w4.ownsRow w.heap.size 58 6 v' (pre ++ [T]).length (spCells (pre ++ [T]))) := Lib.hid (by
                    rw [spCells_snoc, HTc.out, List.length_append]
                    exact HOw.out)
                  have HB4 : Hid (Below w.heap.size w w4) := Lib.hid (((HW2.out.alloc hwz _).alloc (by simp; omega) _).grown HGw.out (by simp; omega) (fun b e => (HR2.out.lt b e).1))
                  clear HOw HGw HCn H1c
                  go_roundg (s.length - jn)
                  case rel => exact ⟨jn, f', ln2, cn, pre ++ [T], T, hjnl, rfl, rfl, rfl, hln21, hcnl, HPn, HFl, HSp2, Lib.hid (.inr (by simp)), HR4, HB4, rfl⟩
                  case measure => omega
                · have dL : decide ((1 : Int) < Lz) = true := decide_eq_true (by have := HL0.out; omega)
                  have s5 : Cz = (cl2 : Int) := HCol.out.2 hl0
                  clear hl0 HCol
                  go_wp2_with fail
                  refine (HPc.out _).mono ?_
                  rintro e w3 ⟨rfl, hw3⟩
                  rw [hw3]
                  clear hw3
                  go_wp2_with (at_builtin; refine wpList_append_own _ rfl _ _ 54 rfl w.heap.size 58 i0 _ 6 56 Tryz.underlying54 hi hz0 hz1 hz2 rfl (by decide) (.slice o pre.length c) pre.length (spCells pre) rfl ((HR2.out.alloc _).alloc _) ⟨w2.heap.size + 1, 0, none⟩ 1 1 _ rfl rfl (HCn.out _ _ (by simp)) H1c.out (by show _ ≤ 9223372036854775807; omega) (by omega) (by simp; omega) ?_; intro v' w4 hown' hgrow _; have HOw := Lib.hid hown'; have HGw := Lib.hid hgrow; clear hown' hgrow)
                  have HR4 : Hid (w4.ownsRow w.heap.size 58 6 v' (pre ++ [T]).length (spCells (pre ++ [T]))) := Lib.hid (by
                    rw [spCells_snoc, HTc.out, List.length_append]
                    exact HOw.out)
                  have HB4 : Hid (Below w.heap.size w w4) := Lib.hid (((HW2.out.alloc hwz _).alloc (by simp; omega) _).grown HGw.out (by simp; omega) (fun b e => (HR2.out.lt b e).1))
                  clear HOw HGw HCn H1c
                  go_roundg (s.length - jn)
                  case rel => exact ⟨jn, f', ln2, cn, pre ++ [T], T, hjnl, rfl, rfl, rfl, hln21, hcnl, HPn, HFl, HSp2, Lib.hid (.inr (by simp)), HR4, HB4, rfl⟩
                  case measure => omega
            · skip
              have hnx : Lx.next s j last = .ok ⟨k, Lx.txt s j k n, ln2, cl2, j, jn⟩ := by
                unfold Lx.next
                rw [hmk, ← hjn]
                show Except.ok (_ : Lx.Sp) = _
                rw [← hcl2', ← hln2']
                rfl
              have d8 : ((k : Int) == 8) = false := beq_eq_false_iff_ne.2 (by omega)
              have d8n : (k == 8) = false := beq_eq_false_iff_ne.2 hk8
              clear hln2' hcl2' hmk hm hno hk8 hh8
              obtain ⟨T, hT⟩ : ∃ T : Lx.Sp, T = ⟨k, Lx.txt s j k n, ln2, cl2, j, jn⟩ := ⟨_, rfl⟩
              have hnx2 : Lx.next s j last = .ok T := hnx.trans (by rw [hT])
              rw [hnx2] at hsp
              have HSp2 := Lib.hid (show Lx.spans s = ((pre ++ [T]) ++ (Lx.spansN s f' jn T).1, (Lx.spansN s f' jn T).2) by rw [hsp, hT, List.append_assoc]; rfl)
              have hpl : pre.length + 1 ≤ 6000 := by
                have h := H6.out
                rw [HSp2.out] at h
                simp only [List.length_append, List.length_cons, List.length_nil] at h
                omega
              have d6 : ((pre.length : Int) == 6000) = false := beq_eq_false_iff_ne.2 (by omega)
              have d6n : (pre.length == 6000) = false := beq_eq_false_iff_ne.2 (by omega)
              have hTc : T.cells = [.int .i64 k, .string tx, .int .i64 ln2, .int .i64 cl2, .int .i64 j, .int .i64 jn] := by rw [hT, ← HTx.out]; rfl
              have HTc := Lib.hid hTc
              have H1c := Lib.hid (cells_one T)
              have HCn : Hid (∀ W : World, ∀ B, B = W.heap.size → ∀ i u, T.cells[i]? = some u → (W.alloc (.cells #[.int .i64 k, .string tx, .int .i64 ln2, .int .i64 cl2, .int .i64 j, .int .i64 jn] 58)).cell? ((⟨B, 0, none⟩ : Addr).add i) = some u) := Lib.hid (by
                have h := fun W B hB => piece_new W T B hB
                rw [hT] at h ⊢
                rw [← HTx.out]
                exact h)
              have HTt := Lib.hid (show T.to = jn by rw [hT])
              rw [show T.cells = [.int .i64 k, .string tx, .int .i64 ln2, .int .i64 cl2, .int .i64 j, .int .i64 jn] from hTc] at H1c HCn
              clear hsp hnx hnx2 hT hTc
              by_cases hl0 : l0 = 0
              · have dL : decide ((1 : Int) < Lz) = false := decide_eq_false (by have := HL0.out; omega)
                have v5 : IntKind.i64.wrap ((cl : Int) + C0) = (cl2 : Int) := by rw [HCol.out.1 hl0]; exact IntWalk.i64_in _ (by omega)
                have s5 : (cl : Int) + C0 = (cl2 : Int) := HCol.out.1 hl0
                clear hl0 HCol
                go_wp2_with fail
                refine (HPc.out _).mono ?_
                rintro e w3 ⟨rfl, hw3⟩
                rw [hw3]
                clear hw3
                go_wp2_with (at_builtin; refine wpList_append_own _ rfl _ _ 54 rfl w.heap.size 58 i0 _ 6 56 Tryz.underlying54 hi hz0 hz1 hz2 rfl (by decide) (.slice o pre.length c) pre.length (spCells pre) rfl ((HR2.out.alloc _).alloc _) ⟨w2.heap.size + 1, 0, none⟩ 1 1 _ rfl rfl (HCn.out _ _ (by simp)) H1c.out (by show _ ≤ 9223372036854775807; omega) (by omega) (by simp; omega) ?_; intro v' w4 hown' hgrow _; have HOw := Lib.hid hown'; have HGw := Lib.hid hgrow; clear hown' hgrow)
                have HR4 : Hid (w4.ownsRow w.heap.size 58 6 v' (pre ++ [T]).length (spCells (pre ++ [T]))) := Lib.hid (by
                  rw [spCells_snoc, HTc.out, List.length_append]
                  exact HOw.out)
                have HB4 : Hid (Below w.heap.size w w4) := Lib.hid (((HW2.out.alloc hwz _).alloc (by simp; omega) _).grown HGw.out (by simp; omega) (fun b e => (HR2.out.lt b e).1))
                clear HOw HGw HCn H1c
                go_roundg (s.length - jn)
                case rel => exact ⟨jn, f', ln2, cn, pre ++ [T], T, hjnl, rfl, rfl, rfl, hln21, hcnl, HPn, HFl, HSp2, Lib.hid (.inr (by simp)), HR4, HB4, rfl⟩
                case measure => omega
              · have dL : decide ((1 : Int) < Lz) = true := decide_eq_true (by have := HL0.out; omega)
                have s5 : Cz = (cl2 : Int) := HCol.out.2 hl0
                clear hl0 HCol
                go_wp2_with fail
                refine (HPc.out _).mono ?_
                rintro e w3 ⟨rfl, hw3⟩
                rw [hw3]
                clear hw3
                go_wp2_with (at_builtin; refine wpList_append_own _ rfl _ _ 54 rfl w.heap.size 58 i0 _ 6 56 Tryz.underlying54 hi hz0 hz1 hz2 rfl (by decide) (.slice o pre.length c) pre.length (spCells pre) rfl ((HR2.out.alloc _).alloc _) ⟨w2.heap.size + 1, 0, none⟩ 1 1 _ rfl rfl (HCn.out _ _ (by simp)) H1c.out (by show _ ≤ 9223372036854775807; omega) (by omega) (by simp; omega) ?_; intro v' w4 hown' hgrow _; have HOw := Lib.hid hown'; have HGw := Lib.hid hgrow; clear hown' hgrow)
                have HR4 : Hid (w4.ownsRow w.heap.size 58 6 v' (pre ++ [T]).length (spCells (pre ++ [T]))) := Lib.hid (by
                  rw [spCells_snoc, HTc.out, List.length_append]
                  exact HOw.out)
                have HB4 : Hid (Below w.heap.size w w4) := Lib.hid (((HW2.out.alloc hwz _).alloc (by simp; omega) _).grown HGw.out (by simp; omega) (fun b e => (HR2.out.lt b e).1))
                clear HOw HGw HCn H1c
                go_roundg (s.length - jn)
                case rel => exact ⟨jn, f', ln2, cn, pre ++ [T], T, hjnl, rfl, rfl, rfl, hln21, hcnl, HPn, HFl, HSp2, Lib.hid (.inr (by simp)), HR4, HB4, rfl⟩
                case measure => omega
end Go.Proofs.YtcjcbhdildcceaaGreatDoor
/- Contracts of weight and brief of the laws' package. Conditions: those in the statements. -/
namespace Go.Proofs.YtcjcbhdildcceaaGreatDoor
open Go.RowKit

def Lx.brief (n : Nat) : Bool := decide (n ≤ 3000) || (decide (20000 < n) && decide (n ≤ 40000))
theorem brief_c (s : List UInt8) (w : World) :
    Calls Tryz.prog 6 #[.string ⟨s.toArray⟩] w fun e w' => e = .returned (.bool (Lx.brief s.length)) ∧ ∃ q, w' = w.drewN q := by
  have hss : (⟨s.toArray⟩ : ByteArray).size = s.length := by simp [ByteArray.size]
  go_enter Tryz.func6, Tryz.ntmps6
  generalize s.length = n at *
  by_cases h1 : n ≤ 3000
  · have d1 : decide ((n : Int) ≤ 3000) = true := decide_eq_true (by omega)
    have hb : Lx.brief n = true := by unfold Lx.brief; rw [decide_eq_true h1]; rfl
    clear h1
    go_wp2_with fail
    refine bodyPost_ret (v := .bool true) ?_ rfl ⟨by rw [hb], 0, rfl⟩
    simp [results, Tryz.results6, go_sem]
  · have d1 : decide ((n : Int) ≤ 3000) = false := decide_eq_false (by omega)
    by_cases h2 : 20000 < n
    · have d2 : decide ((20000 : Int) < (n : Int)) = true := decide_eq_true (by omega)
      by_cases h3 : n ≤ 40000
      · have d3 : decide ((n : Int) ≤ 40000) = true := decide_eq_true (by omega)
        have hb : Lx.brief n = true := by unfold Lx.brief; rw [decide_eq_true h2, decide_eq_true h3, decide_eq_false h1]; rfl
        clear h1 h2 h3
        go_wp2_with fail
        refine bodyPost_ret (v := .bool true) ?_ rfl ⟨by rw [hb], 0, rfl⟩
        simp [results, Tryz.results6, go_sem]
      · have d3 : decide ((n : Int) ≤ 40000) = false := decide_eq_false (by omega)
        have hb : Lx.brief n = false := by unfold Lx.brief; rw [decide_eq_true h2, decide_eq_false h3, decide_eq_false h1]; rfl
        clear h1 h2 h3
        go_wp2_with fail
        refine bodyPost_ret (v := .bool false) ?_ rfl ⟨by rw [hb], 0, rfl⟩
        simp [results, Tryz.results6, go_sem]
    · have d2 : decide ((20000 : Int) < (n : Int)) = false := decide_eq_false (by omega)
      have hb : Lx.brief n = false := by unfold Lx.brief; rw [decide_eq_false h2, decide_eq_false h1]; rfl
      clear h1 h2
      go_wp2_with fail
      refine bodyPost_ret (v := .bool false) ?_ rfl ⟨by rw [hb], 0, rfl⟩
      simp [results, Tryz.results6, go_sem]

/-- How many bytes the texts of tokens have, counted up to more than 30000. -/
def Lx.wgt : List Tk → Nat → Nat
  | [], n => n
  | t :: r, n => if n ≤ 30000 then wgt r (n + t.text.length) else n
theorem wgt_ge : ∀ (l : List Lx.Tk) (n : Nat), n ≤ Lx.wgt l n
  | [], n => Nat.le_refl _
  | t :: r, n => by
    unfold Lx.wgt
    split
    · have := wgt_ge r (n + t.text.length); omega
    · exact Nat.le_refl _
theorem wgt_le : ∀ (l : List Lx.Tk) (n : Nat), Lx.wgt l n ≤ 30000 → ∀ t ∈ l, t.text.length ≤ 30000
  | [], n, h, t, ht => by cases ht
  | a :: r, n, h, t, ht => by
    unfold Lx.wgt at h
    split at h
    · rcases List.mem_cons.1 ht with rfl | ht
      · have := wgt_ge r (n + t.text.length); omega
      · exact wgt_le r _ h t ht
    · omega
theorem wgt_more (l : List Lx.Tk) (k n : Nat) (t : Lx.Tk) (h : l[k]? = some t) (hn : n ≤ 30000) : Lx.wgt (l.drop k) n = Lx.wgt (l.drop (k + 1)) (n + t.text.length) := by
  rw [List.drop_eq_getElem_cons (List.getElem?_eq_some_iff.1 h).1, (List.getElem?_eq_some_iff.1 h).2]
  conv => lhs; unfold Lx.wgt
  rw [if_pos hn]
theorem wgt_stop (l : List Lx.Tk) (n : Nat) (hn : ¬ n ≤ 30000) : Lx.wgt l n = n := by
  cases l with
  | nil => rfl
  | cons a r => unfold Lx.wgt; rw [if_neg hn]

set_option maxHeartbeats 4000000 in
set_option maxRecDepth 100000 in
theorem weight_c (l : List Lx.Tk) (o : Option Addr) (c : Nat) (w : World) (h : TokAt w o l) (hn : l.length ≤ 1000000) (hl : ∀ t ∈ l, t.text.length ≤ 140737488355328) :
    Calls Tryz.prog 17 #[.slice o l.length c] w fun e w' => e = .returned (.int .i64 (Lx.wgt l 0)) ∧ ∃ q, w' = w.drewN q := by
  have HA := Lib.hid h
  have HL := Lib.hid hl
  clear h hl
  go_enter Tryz.func17, Tryz.ntmps17
  go_wp2_with fail
  go_loopg [3, 4] l.length (fun g n i wr => ∃ k nn : Nat, k ≤ l.length ∧ i = .int .i64 k ∧ n = .int .i64 nn ∧ nn ≤ 140737488400000 ∧ Hid (Lx.wgt (l.drop k) nn = Lx.wgt l 0) ∧ Hid (∃ q, wr = w.drewN q) ∧ g = l.length - k)
  case atStart => exact ⟨0, 0, Nat.zero_le _, rfl, rfl, by omega, Lib.hid rfl, Lib.hid ⟨0, rfl⟩, rfl⟩
  case round =>
    obtain ⟨k, nn, hk, rfl, rfl, hnn, HK, HW, hg⟩ := hrel
    by_cases hE : k = l.length
    · have dE : decide ((k : Int) < (l.length : Int)) = false := decide_eq_false (by omega)
      have HE := Lib.hid hE
      clear hE
      go_wp2_with fail
      all_goals (try (exfalso; have := HE.out; omega))
      refine bodyPost_ret (v := .int .i64 nn) ?_ rfl ⟨by have := HK.out; rw [HE.out, List.drop_length] at this; rw [← this]; rfl, HW.out⟩
      simp [results, Tryz.results17, go_sem]
    · have hlt : k < l.length := by omega
      have dE : decide ((k : Int) < (l.length : Int)) = true := decide_eq_true (by omega)
      by_cases h3 : nn ≤ 30000
      · have d3 : decide ((nn : Int) ≤ 30000) = true := decide_eq_true (by omega)
        obtain ⟨t, ht⟩ : ∃ t, l[k]? = some t := ⟨_, List.getElem?_eq_getElem hlt⟩
        obtain ⟨b, a, rfl, hb, x0, x1, -, -⟩ := HA.out k t ht
        replace x1 := ((dn_below HW.out).cell (p := ⟨b, _, none⟩) hb).trans x1
        have htl := HL.out t (List.mem_of_getElem? ht)
        have htz : (⟨t.text.toArray⟩ : ByteArray).size = t.text.length := by simp [ByteArray.size]
        have hwr : IntKind.i64.wrap ((nn : Int) + (t.text.length : Int)) = (nn : Int) + (t.text.length : Int) := IntWalk.i64_in _ (by omega)
        have HNK := Lib.hid ((wgt_more l k nn t ht h3).symm.trans HK.out)
        have H3 := Lib.hid h3
        clear ht h3 hE
        go_wp2_with fail
        go_roundg (l.length - (k + 1))
        case rel => exact ⟨k + 1, nn + t.text.length, by omega, rfl, rfl, by have := H3.out; omega, HNK, HW, rfl⟩
        case measure => omega
      · have d3 : decide ((nn : Int) ≤ 30000) = false := decide_eq_false (by omega)
        have H3 := Lib.hid h3
        clear h3 hE
        go_wp2_with fail
        refine bodyPost_ret (v := .int .i64 nn) ?_ rfl ⟨by rw [← HK.out, wgt_stop _ _ H3.out], HW.out⟩
        simp [results, Tryz.results17, go_sem]
end Go.Proofs.YtcjcbhdildcceaaGreatDoor
/- Contract of Token of package lex. Conditions: those in the statement. -/
namespace Go.Proofs.YtcjcbhdildcceaaGreatDoor
open Go.RowKit

set_option maxHeartbeats 4000000 in
set_option maxRecDepth 100000 in
theorem token_c (s : List UInt8) (index : Int) (m : Int) (w : World) (hm : w.cell? ⟨0, 0, none⟩ = some (.int .i64 m)) (h6 : s.length ≤ 20000 → (Lx.spans s).1.length ≤ 6000) :
    Calls Tryz.prog 13 #[.string ⟨s.toArray⟩, .int .i64 index] w fun e w' =>
      e = .returned (.tuple #[.int .i64 (Lx.tokenOf (Lx.divide s) s.length index).1, .int .i64 (Lx.tokenOf (Lx.divide s) s.length index).2.1, .int .i64 (Lx.tokenOf (Lx.divide s) s.length index).2.2]) ∧ Below w.heap.size w w' := by
  have hsz : (⟨s.toArray⟩ : ByteArray).size = s.length := by simp [ByteArray.size]
  have mf := makeFunc_run
  have hg : 0 < w.heap.size := World.block_lt_of_cell? _ _ hm
  have hb1 : Below w.heap.size w (w.alloc (.cells #[.int .i64 index] 3)) := (Below.refl _ w).alloc (Nat.le_refl _) _
  have hx1 := World.alloc_heap_new w (.cells #[.int .i64 index] 3)
  have hz1 : (w.alloc (.cells #[.int .i64 index] 3)).heap.size = w.heap.size + 1 := by simp
  have hD := divide_c s m (w.alloc (.cells #[.int .i64 index] 3)) ((hb1.cell hg).trans hm) h6
  have hdl := divide_len s h6
  unfold divLeft at hD
  generalize Lx.divide s = R at *
  obtain ⟨l, c, ix⟩ := R
  dsimp only at hD hdl
  have HD := Lib.hid hD
  have HB1 := Lib.hid hb1
  have HX1 := Lib.hid hx1
  have HZ1 := Lib.hid hz1
  clear hD hm h6 hb1 hx1 hz1
  by_cases hc : c = 0
  · subst hc
    by_cases h0 : index < 0
    · have d0 : decide (index < 0) = true := decide_eq_true h0
      have HX := Lib.hid (show Lx.tokenOf (l, 0, ix) s.length index = (0, 1, 0) by unfold Lx.tokenOf; rw [if_neg (by simp), if_pos (.inl h0)])
      clear h0
      go_enter Tryz.func13, Tryz.ntmps13
      go_wp2_with fail
      refine HD.out.mono ?_
      rintro e w1 ⟨v, rfl, hb, -⟩
      have ci := (Lib.cell_of_heap ((hb.block w.heap.size (by rw [HZ1.out]; omega)).trans HX1.out) 0).trans rfl
      have HB2 := Lib.hid (HB1.out.trans (hb.mono (by rw [HZ1.out]; omega)))
      clear hb HD
      go_wp2_with fail
      refine bodyPost_ret (v := .tuple #[.int .i64 0, .int .i64 1, .int .i64 0]) ?_ rfl ⟨by rw [HX.out]; rfl, HB2.out⟩
      simp [results, Tryz.results13, go_sem]
    · have d0 : decide (index < 0) = false := decide_eq_false h0
      obtain ⟨i, rfl⟩ : ∃ i : Nat, index = i := ⟨index.toNat, by omega⟩
      by_cases h1 : s.length ≤ i
      · have d1 : decide ((s.length : Int) ≤ (i : Int)) = true := decide_eq_true (by omega)
        have HX := Lib.hid (show Lx.tokenOf (l, 0, ix) s.length (i : Int) = (0, 1, 0) by unfold Lx.tokenOf; rw [if_neg (by simp), if_pos (.inr (by omega))])
        go_enter Tryz.func13, Tryz.ntmps13
        go_wp2_with fail
        refine HD.out.mono ?_
        rintro e w1 ⟨v, rfl, hb, -⟩
        have ci := (Lib.cell_of_heap ((hb.block w.heap.size (by rw [HZ1.out]; omega)).trans HX1.out) 0).trans rfl
        have HB2 := Lib.hid (HB1.out.trans (hb.mono (by rw [HZ1.out]; omega)))
        clear hb HD
        go_wp2_with fail
        refine bodyPost_ret (v := .tuple #[.int .i64 0, .int .i64 1, .int .i64 0]) ?_ rfl ⟨by rw [HX.out]; rfl, HB2.out⟩
        simp [results, Tryz.results13, go_sem]
      · have d1 : decide ((s.length : Int) ≤ (i : Int)) = false := decide_eq_false (by omega)
        have HL := Lib.hid (show Lx.tokenOf (l, 0, ix) s.length (i : Int) = if (l.takeWhile fun t => decide ((t.to : Int) ≤ (i : Int))).length = l.length then (0, 3, 0) else ((l.takeWhile fun t => decide ((t.to : Int) ≤ (i : Int))).length, 0, 0) by
          unfold Lx.tokenOf; rw [if_neg (by simp), if_neg (by omega)])
        go_enter Tryz.func13, Tryz.ntmps13
        go_wp2_with fail
        refine HD.out.mono ?_
        rintro e w1 ⟨v, rfl, hb, ho⟩
        obtain ⟨o, cp, rfl⟩ : ∃ o cp, v = .slice o l.length cp := by
          rcases ho.2 with ⟨rfl, h0⟩ | ⟨g, cp, cur, rfl, _⟩
          · exact ⟨none, 0, by rw [h0]⟩
          · exact ⟨_, _, rfl⟩
        have ci := (Lib.cell_of_heap ((hb.block w.heap.size (by rw [HZ1.out]; omega)).trans HX1.out) 0).trans rfl
        have hFs : w.heap.size < w1.heap.size := by have := hb.size; have := HZ1.out; omega
        have HRn := Lib.hid (runSpan_c 32 #[] #[.pointer (some ⟨w.heap.size, 0, none⟩)] (fun t => decide ((t.to : Int) ≤ (i : Int))) l o cp w1 (by omega) (spAt_of_owns ho)
          (enters_of Tryz.func32 (by kernel_rfl) rfl) (fun t W hW => token1_c t w.heap.size i W ((hW.cell (p := ⟨w.heap.size, 0, none⟩) hFs).trans ci)))
        have HB2 := Lib.hid (HB1.out.trans (hb.mono (by rw [HZ1.out]; omega)))
        clear hb HD ho
        generalize (l.takeWhile fun t => decide ((t.to : Int) ≤ (i : Int))).length = q at *
        by_cases hq : q = l.length
        · have dq : ((q : Int) == (l.length : Int)) = true := beq_iff_eq.2 (by omega)
          have HX := Lib.hid (HL.out.trans (if_pos hq))
          clear hq
          go_wp2_with (go_at_call 31; refine HRn.out.mono ?_; rintro e w2 ⟨rfl, hb5⟩)
          refine bodyPost_ret (v := .tuple #[.int .i64 0, .int .i64 3, .int .i64 0]) ?_ rfl ⟨by rw [HX.out]; rfl, HB2.out.trans (hb5.mono HB2.out.size)⟩
          simp [results, Tryz.results13, go_sem]
        · have dq : ((q : Int) == (l.length : Int)) = false := beq_eq_false_iff_ne.2 (by omega)
          have HX := Lib.hid (HL.out.trans (if_neg hq))
          clear hq
          go_wp2_with (go_at_call 31; refine HRn.out.mono ?_; rintro e w2 ⟨rfl, hb5⟩)
          refine bodyPost_ret (v := .tuple #[.int .i64 q, .int .i64 0, .int .i64 0]) ?_ rfl ⟨by rw [HX.out]; rfl, HB2.out.trans (hb5.mono HB2.out.size)⟩
          simp [results, Tryz.results13, go_sem]
  · have dc : ((c : Int) != 0) = true := bne_iff_ne.2 (by omega)
    have HX := Lib.hid (show Lx.tokenOf (l, c, ix) s.length index = (0, c, ix) from if_pos hc)
    clear hc
    go_enter Tryz.func13, Tryz.ntmps13
    go_wp2_with fail
    refine HD.out.mono ?_
    rintro e w1 ⟨v, rfl, hb, -⟩
    have HB2 := Lib.hid (HB1.out.trans (hb.mono (by rw [HZ1.out]; omega)))
    clear hb HD
    go_wp2_with fail
    refine bodyPost_ret (v := .tuple #[.int .i64 0, .int .i64 c, .int .i64 ix]) ?_ rfl ⟨by rw [HX.out]; rfl, HB2.out⟩
    simp [results, Tryz.results13, go_sem]
end Go.Proofs.YtcjcbhdildcceaaGreatDoor
/- Contract of At of package lex. Conditions: those in the statement. -/
namespace Go.Proofs.YtcjcbhdildcceaaGreatDoor
open Go.RowKit

theorem lineAndCol_big (B : Nat) (p : Lx.Place) (w : World) (c0 : w.cell? ⟨B, 0, none⟩ = some (.int .i64 p.ix)) (c1 : w.cell? ⟨B, 1, none⟩ = some (.int .i64 p.ln)) (c2 : w.cell? ⟨B, 2, none⟩ = some (.int .i64 p.bg))
    (h0 : p.ix ≤ 1000000) (h1 : p.ln ≤ 1000000) (h2 : p.bg ≤ p.ix) :
    Calls Tryz.prog 34 #[.pointer (some ⟨B, 0, none⟩)] w fun e w' =>
      e = .returned (.tuple #[.int .i64 ((p.ln + 1 : Nat) : Int), .int .i64 ((p.ix - p.bg + 1 : Nat) : Int)]) ∧ ∃ q, w' = w.drewN q := by
  go_enter Tryz.func34, Tryz.ntmps34
  go_wp2
  go_quiet (fail)
  go_wp2
  go_ret2
  exact ⟨ret_pair (by omega) (by omega), _, rfl⟩


set_option maxHeartbeats 4000000 in
set_option maxRecDepth 100000 in
theorem at_c (s : List UInt8) (index : Int) (w : World) (hs : s.length ≤ 100000) :
    Calls Tryz.prog 15 #[.string ⟨s.toArray⟩, .int .i64 index] w fun e w' =>
      e = .returned (.tuple #[.int .i64 (Lx.at_ s index).1, .int .i64 (Lx.at_ s index).2.1, .int .i64 (Lx.at_ s index).2.2]) ∧ Below w.heap.size w w' := by
  have hsz : (⟨s.toArray⟩ : ByteArray).size = s.length := by simp [ByteArray.size]
  by_cases h0 : index < 0
  · have d0 : decide (index < 0) = true := decide_eq_true h0
    have HX := Lib.hid (show Lx.at_ s index = (0, 0, 1) by unfold Lx.at_; rw [if_pos (.inl h0)])
    clear h0
    go_enter Tryz.func15, Tryz.ntmps15
    go_wp2_with fail
    refine bodyPost_ret (v := .tuple #[.int .i64 0, .int .i64 0, .int .i64 1]) ?_ rfl ?_
    · simp [results, Tryz.results15, go_sem]
    · exact ⟨by rw [HX.out]; rfl, Below.refl _ _⟩
  · by_cases h1 : (s.length : Int) < index
    · have d0 : decide (index < 0) = false := decide_eq_false h0
      have d1 : decide ((s.length : Int) < index) = true := decide_eq_true h1
      have HX := Lib.hid (show Lx.at_ s index = (0, 0, 1) by unfold Lx.at_; rw [if_pos (.inr h1)])
      clear h0 h1
      go_enter Tryz.func15, Tryz.ntmps15
      go_wp2_with fail
      refine bodyPost_ret (v := .tuple #[.int .i64 0, .int .i64 0, .int .i64 1]) ?_ rfl ?_
      · simp [results, Tryz.results15, go_sem]
      · exact ⟨by rw [HX.out]; rfl, Below.refl _ _⟩
    · have d0 : decide (index < 0) = false := decide_eq_false h0
      have d1 : decide ((s.length : Int) < index) = false := decide_eq_false h1
      obtain ⟨i, rfl⟩ : ∃ i : Nat, index = i := ⟨index.toNat, by omega⟩
      have hil : i ≤ s.length := by omega
      have HX := Lib.hid (show Lx.at_ s (i : Int) = ((Lx.placeAt s i).ln + 1, i - (Lx.placeAt s i).bg + 1, 0) by unfold Lx.at_; rw [if_neg (by omega)]; rfl)
      clear h0 h1
      go_enter Tryz.func15, Tryz.ntmps15
      go_wp2_with fail
      have hex : (⟨s.toArray⟩ : ByteArray).extract 0 i = ⟨(s.take i).toArray⟩ := by
        apply ByteArray.ext
        rw [ByteArray.data_extract]
        show s.toArray.extract 0 i = _
        rw [List.extract_toArray, List.extract_eq_take_drop]
        simp
      rw [hex]
      have hl : (s.take i).length = i := by rw [List.length_take]; omega
      have hsz2 : (⟨(s.take i).toArray⟩ : ByteArray).size = i := by show (s.take i).toArray.size = i; rw [List.size_toArray]; exact hl
      have hcv := Lib.run_convert_string_bytes (P := Tryz.prog) (w.alloc (.cells #[.int .i64 0, .int .i64 0, .int .i64 0] 62)) 9 64 5 ⟨(s.take i).toArray⟩ Tryz.underlying9 Tryz.underlying64 Tryz.underlying5
      have hb1 : Below w.heap.size w (w.alloc (.cells #[.int .i64 0, .int .i64 0, .int .i64 0] 62)) := (Below.refl _ w).alloc (Nat.le_refl _) _
      have hx1 : (w.alloc (.cells #[.int .i64 0, .int .i64 0, .int .i64 0] 62)).heap[w.heap.size]? = some (.cells #[.int .i64 0, .int .i64 0, .int .i64 0] 62) := World.alloc_heap_new _ _
      have hz1 : (w.alloc (.cells #[.int .i64 0, .int .i64 0, .int .i64 0] 62)).heap.size = w.heap.size + 1 := by simp
      generalize (w.alloc (.cells #[.int .i64 0, .int .i64 0, .int .i64 0] 62)) = w1 at *
      have hg2 := bytesWorld_grown w1 5 ⟨(s.take i).toArray⟩
      have hT2 := Lib.bytesWorld_cell w1 5 ⟨(s.take i).toArray⟩
      rw [hsz2] at hcv hT2
      generalize grownCap w1 i 0 5 = cap at *
      generalize Lib.bytesWorld w1 5 ⟨(s.take i).toArray⟩ = w2 at *
      rw [hz1] at hcv hT2
      have hx2 := (hg2.block w.heap.size (by omega) (fun e => by cases e)).trans hx1
      have hb2 : Below w.heap.size w w2 := hb1.grown hg2 (by omega) (fun k e => by cases e)
      have hp : PassRel w.heap.size w2 w2 ⟨0, 0, 0⟩ := ⟨(Lib.cell_of_heap hx2 0).trans rfl, (Lib.cell_of_heap hx2 1).trans rfl, (Lib.cell_of_heap hx2 2).trans rfl, fun _ => rfl, fun _ _ => rfl, grown_refl _ _⟩
      have hpc := pass_c w.heap.size (w.heap.size + 1) 0 i cap ⟨0, 0, 0⟩ (s.take i) w2 hl hp (fun o => Lib.frozen_of_heap hx2 o)
        (fun j hj => by rw [Nat.zero_add]; exact (hT2 j (by omega)).trans (by simp [List.getD])) (by omega) (by simp; omega) (by simp; omega)
      change Calls _ _ _ _ (fun e w' => e = .returned (.tuple #[]) ∧ PassRel w.heap.size w2 w' (Lx.placeAt s i)) at hpc
      have HPC := Lib.hid hpc
      have HB2 := Lib.hid hb2
      clear hpc hp hx2 hb2 hT2 hg2 hx1 hb1 hz1 hex
      generalize s.take i = li at *
      rw [hcv]
      simp only [Result.andThen]
      go_wp2_with fail
      refine HPC.out.mono ?_
      rintro e w3 ⟨rfl, h3⟩
      have h3i := placeAt_ix s i hil
      have hlb := placeAt_ln s i
      have hbb := placeAt_bg s i
      have HLC := Lib.hid (lineAndCol_big w.heap.size _ w3 h3.c0 h3.c1 h3.c2 (by omega) (by omega) (by omega))
      have HB3 := Lib.hid (HB2.out.grown h3.gr HB2.out.size (fun k e => by cases e; exact Nat.le_refl _))
      rw [h3i] at HLC
      clear h3 h3i HPC HB2 hlb hbb
      go_wp2_with fail
      refine HLC.out.mono ?_
      rintro e w4 ⟨rfl, q, rfl⟩
      go_wp2_with fail
      refine bodyPost_ret (v := .tuple #[.int .i64 ((Lx.placeAt s i).ln + 1), .int .i64 (((i - (Lx.placeAt s i).bg : Nat) : Int) + 1), .int .i64 0]) ?_ rfl ?_
      · simp [results, Tryz.results15, go_sem]
      · exact ⟨by rw [HX.out]; rfl, HB3.out.grown (grown_drewN _ _ none) HB3.out.size (fun k e => by cases e)⟩
end Go.Proofs.YtcjcbhdildcceaaGreatDoor
