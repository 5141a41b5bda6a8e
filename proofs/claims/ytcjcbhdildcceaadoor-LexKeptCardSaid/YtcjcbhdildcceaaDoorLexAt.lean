/- Contract of At of package lex. Conditions: those in the statement. -/
import Derived.Test.YtcjcbhdildcceaaDoorLexX
namespace Go.Proofs.YtcjcbhdildcceaaDoor
open Go.RowKit

theorem lineAndCol_big (B : Nat) (p : Lx.Place) (w : World) (c0 : w.cell? ⟨B, 0, none⟩ = some (.int .i64 p.ix)) (c1 : w.cell? ⟨B, 1, none⟩ = some (.int .i64 p.ln)) (c2 : w.cell? ⟨B, 2, none⟩ = some (.int .i64 p.bg))
    (h0 : p.ix ≤ 1000000) (h1 : p.ln ≤ 1000000) (h2 : p.bg ≤ p.ix) :
    Calls Tryd.prog 47 #[.pointer (some ⟨B, 0, none⟩)] w fun e w' =>
      e = .returned (.tuple #[.int .i64 ((p.ln + 1 : Nat) : Int), .int .i64 ((p.ix - p.bg + 1 : Nat) : Int)]) ∧ ∃ q, w' = w.drewN q := by
  go_enter Tryd.func47, Tryd.ntmps47
  go_wp2
  go_quiet (fail)
  go_wp2
  go_ret2
  exact ⟨ret_pair (by omega) (by omega), _, rfl⟩


set_option maxHeartbeats 4000000 in
set_option maxRecDepth 100000 in
theorem at_c (s : List UInt8) (index : Int) (w : World) (hs : s.length ≤ 100000) :
    Calls Tryd.prog 24 #[.string ⟨s.toArray⟩, .int .i64 index] w fun e w' =>
      e = .returned (.tuple #[.int .i64 (Lx.at_ s index).1, .int .i64 (Lx.at_ s index).2.1, .int .i64 (Lx.at_ s index).2.2]) ∧ Below w.heap.size w w' := by
  have hsz : (⟨s.toArray⟩ : ByteArray).size = s.length := by simp [ByteArray.size]
  by_cases h0 : index < 0
  · have d0 : decide (index < 0) = true := decide_eq_true h0
    have HX := Lib.hid (show Lx.at_ s index = (0, 0, 1) by unfold Lx.at_; rw [if_pos (.inl h0)])
    clear h0
    go_enter Tryd.func24, Tryd.ntmps24
    go_wp2_with fail
    refine bodyPost_ret (v := .tuple #[.int .i64 0, .int .i64 0, .int .i64 1]) ?_ rfl ?_
    · simp [results, Tryd.results24, go_sem]
    · exact ⟨by rw [HX.out]; rfl, Below.refl _ _⟩
  · by_cases h1 : (s.length : Int) < index
    · have d0 : decide (index < 0) = false := decide_eq_false h0
      have d1 : decide ((s.length : Int) < index) = true := decide_eq_true h1
      have HX := Lib.hid (show Lx.at_ s index = (0, 0, 1) by unfold Lx.at_; rw [if_pos (.inr h1)])
      clear h0 h1
      go_enter Tryd.func24, Tryd.ntmps24
      go_wp2_with fail
      refine bodyPost_ret (v := .tuple #[.int .i64 0, .int .i64 0, .int .i64 1]) ?_ rfl ?_
      · simp [results, Tryd.results24, go_sem]
      · exact ⟨by rw [HX.out]; rfl, Below.refl _ _⟩
    · have d0 : decide (index < 0) = false := decide_eq_false h0
      have d1 : decide ((s.length : Int) < index) = false := decide_eq_false h1
      obtain ⟨i, rfl⟩ : ∃ i : Nat, index = i := ⟨index.toNat, by omega⟩
      have hil : i ≤ s.length := by omega
      have HX := Lib.hid (show Lx.at_ s (i : Int) = ((Lx.placeAt s i).ln + 1, i - (Lx.placeAt s i).bg + 1, 0) by unfold Lx.at_; rw [if_neg (by omega)]; rfl)
      clear h0 h1
      go_enter Tryd.func24, Tryd.ntmps24
      go_wp2_with fail
      have hex : (⟨s.toArray⟩ : ByteArray).extract 0 i = ⟨(s.take i).toArray⟩ := by
        apply ByteArray.ext
        rw [ByteArray.data_extract]
        show s.toArray.extract 0 i = _
        rw [List.extract_toArray, List.extract_eq_take_drop]
        simp
      rw [hex]
      have hl : (s.take i).length = i := by rw [List.length_take]; omega
      have hsz2 : (⟨(s.take i).toArray⟩ : ByteArray).size = i := by show (s.take i).toArray.size = i; rw [List.size_toArray]; exact hl
      have hcv := Lib.run_convert_string_bytes (P := Tryd.prog) (w.alloc (.cells #[.int .i64 0, .int .i64 0, .int .i64 0] 89)) 9 75 5 ⟨(s.take i).toArray⟩ Tryd.underlying9 Tryd.underlying75 Tryd.underlying5
      have hb1 : Below w.heap.size w (w.alloc (.cells #[.int .i64 0, .int .i64 0, .int .i64 0] 89)) := (Below.refl _ w).alloc (Nat.le_refl _) _
      have hx1 : (w.alloc (.cells #[.int .i64 0, .int .i64 0, .int .i64 0] 89)).heap[w.heap.size]? = some (.cells #[.int .i64 0, .int .i64 0, .int .i64 0] 89) := World.alloc_heap_new _ _
      have hz1 : (w.alloc (.cells #[.int .i64 0, .int .i64 0, .int .i64 0] 89)).heap.size = w.heap.size + 1 := by simp
      generalize (w.alloc (.cells #[.int .i64 0, .int .i64 0, .int .i64 0] 89)) = w1 at *
      have hg2 := bytesWorld_grown w1 5 ⟨(s.take i).toArray⟩
      have hT2 := Lib.bytesWorld_cell w1 5 ⟨(s.take i).toArray⟩
      rw [hsz2] at hcv hT2
      generalize grownCap w1 i 0 5 = cap at *
      generalize Lib.bytesWorld w1 5 ⟨(s.take i).toArray⟩ = w2 at *
      rw [hz1] at hcv hT2
      have hx2 := (hg2.block w.heap.size (by omega) (fun e => by cases e)).trans hx1
      have hb2 : Below w.heap.size w w2 := hb1.grown hg2 (by omega) (fun k e => by cases e)
      have hp : PassRel w.heap.size w2 w2 ⟨0, 0, 0⟩ := ⟨(Lib.cell_of_heap hx2 0).trans rfl, (Lib.cell_of_heap hx2 1).trans rfl, (Lib.cell_of_heap hx2 2).trans rfl, fun _ => rfl, fun _ _ => rfl, grown_refl _ _⟩
      have hpc := pass_c w.heap.size (w.heap.size + 1) 0 i cap ⟨0, 0, 0⟩ (s.take i) w2 hl hp (fun o => Lib.frozen_of_heap hx2 o)
        (fun j hj => by rw [Nat.zero_add]; exact (hT2 j (by omega)).trans (by simp [List.getD])) (by omega) (by simp; omega) (by simp; omega)
      change Calls _ _ _ _ (fun e w' => e = .returned (.tuple #[]) ∧ PassRel w.heap.size w2 w' (Lx.placeAt s i)) at hpc
      have HPC := Lib.hid hpc
      have HB2 := Lib.hid hb2
      clear hpc hp hx2 hb2 hT2 hg2 hx1 hb1 hz1 hex
      generalize s.take i = li at *
      rw [hcv]
      simp only [Result.andThen]
      go_wp2_with fail
      refine HPC.out.mono ?_
      rintro e w3 ⟨rfl, h3⟩
      have h3i := placeAt_ix s i hil
      have hlb := placeAt_ln s i
      have hbb := placeAt_bg s i
      have HLC := Lib.hid (lineAndCol_big w.heap.size _ w3 h3.c0 h3.c1 h3.c2 (by omega) (by omega) (by omega))
      have HB3 := Lib.hid (HB2.out.grown h3.gr HB2.out.size (fun k e => by cases e; exact Nat.le_refl _))
      rw [h3i] at HLC
      clear h3 h3i HPC HB2 hlb hbb
      go_wp2_with fail
      refine HLC.out.mono ?_
      rintro e w4 ⟨rfl, q, rfl⟩
      go_wp2_with fail
      refine bodyPost_ret (v := .tuple #[.int .i64 ((Lx.placeAt s i).ln + 1), .int .i64 (((i - (Lx.placeAt s i).bg : Nat) : Int) + 1), .int .i64 0]) ?_ rfl ?_
      · simp [results, Tryd.results24, go_sem]
      · exact ⟨by rw [HX.out]; rfl, HB3.out.grown (grown_drewN _ _ none) HB3.out.size (fun k e => by cases e)⟩
end Go.Proofs.YtcjcbhdildcceaaDoor
