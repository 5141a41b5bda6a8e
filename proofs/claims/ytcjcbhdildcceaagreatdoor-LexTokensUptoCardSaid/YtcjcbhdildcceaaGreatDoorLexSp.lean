/- Contracts of mayBePlace, sameToken, spelling of package lex. Conditions: those in the statements. -/
import Derived.Test.YtcjcbhdildcceaaGreatDoorLexK
import Derived.Test.YtcjcbhdildcceaaGreatDoorLexR
namespace Go.Proofs.YtcjcbhdildcceaaGreatDoor
open Go.RowKit

def tokW (k : Int) (txt : List UInt8) (ln cl : Int) : Value := .agg #[.int .i64 k, .string ⟨txt.toArray⟩, .int .i64 ln, .int .i64 cl]
theorem mayBePlace_c (n : Int) (w : World) : Calls Tryz.prog 66 #[.int .i64 n] w fun e w' => e = .returned (.bool (decide (1 ≤ n) && decide (n ≤ 20001))) ∧ w' = w := by
  by_cases h1 : 1 ≤ n
  · have d1 : decide (1 ≤ n) = true := decide_eq_true h1
    rw [d1, Bool.true_and]
    clear h1
    go_enter Tryz.func66, Tryz.ntmps66
    go_wp2_with fail
    refine bodyPost_ret (v := .bool (decide (n ≤ 20001))) ?_ rfl ⟨rfl, rfl⟩
    simp [results, Tryz.results66, go_sem]
  · have d1 : decide (1 ≤ n) = false := decide_eq_false h1
    rw [d1, Bool.false_and]
    clear h1
    go_enter Tryz.func66, Tryz.ntmps66
    go_wp2_with fail
    refine bodyPost_ret (v := .bool false) ?_ rfl ⟨rfl, rfl⟩
    simp [results, Tryz.results66, go_sem]

set_option maxHeartbeats 1000000 in
theorem sameToken_c (k k' : Int) (txt txt' : List UInt8) (a b c d : Int) (w : World) :
    Calls Tryz.prog 52 #[tokW k txt a b, tokW k' txt' c d] w fun e w' => e = .returned (.bool (k == k' && txt == txt')) ∧ Below w.heap.size w w' := by
  unfold tokW
  have hb : ∀ o o' : Obj, Below w.heap.size w ((w.alloc o).alloc o') := fun o o' => ((Below.refl _ w).alloc (Nat.le_refl _) _).alloc (by simp) _
  by_cases h1 : k = k'
  · subst h1
    have d1 : (k == k) = true := beq_self_eq_true k
    rw [d1, Bool.true_and]
    go_enter Tryz.func52, Tryz.ntmps52
    go_wp2_with fail
    refine bodyPost_ret (v := .bool (txt == txt')) ?_ rfl ⟨rfl, hb _ _⟩
    simp [results, Tryz.results52, go_sem]
  · have d1 : (k == k') = false := beq_eq_false_iff_ne.2 h1
    rw [d1, Bool.false_and]
    clear h1
    go_enter Tryz.func52, Tryz.ntmps52
    go_wp2_with fail
    refine bodyPost_ret (v := .bool false) ?_ rfl ⟨rfl, hb _ _⟩
    simp [results, Tryz.results52, go_sem]

/-- The spelling of a token. -/
theorem dbl_len : ∀ l : List UInt8, (Lx.dbl l).length ≤ 2 * l.length
  | [] => by simp [Lx.dbl]
  | b :: r => by
    have := dbl_len r
    unfold Lx.dbl
    split <;> simp only [List.length_cons] <;> omega
set_option maxHeartbeats 1000000 in
theorem spelling_c (k : Int) (txt : List UInt8) (a b : Int) (m : Int) (w : World) (hl : txt.length < 1000000000) (hm : w.cell? ⟨0, 0, none⟩ = some (.int .i64 m)) :
    Calls Tryz.prog 39 #[tokW k txt a b] w fun e w' => e = .returned (.string ⟨(Lx.spell k txt).toArray⟩) ∧ Below w.heap.size w w' := by
  unfold tokW
  have hg : 0 < w.heap.size := World.block_lt_of_cell? _ _ hm
  have hm1 : ∀ o : Obj, (w.alloc o).cell? ⟨0, 0, none⟩ = some (.int .i64 m) := fun o => (World.cell?_alloc_past _ _ _ hg).trans hm
  have HM := Lib.hid hm1
  have hdl := dbl_len txt
  clear hm hm1
  by_cases h1 : k = 6
  · subst h1
    go_enter Tryz.func39, Tryz.ntmps39
    go_wp2_with (go_at_call 63; refine (replaceDbl_c txt m _ (by omega) (HM.out _)).mono ?_; rintro e w' ⟨rfl, hb⟩)
    refine bodyPost_ret (v := .string (⟨#[39]⟩ ++ ⟨(Lx.dbl txt).toArray⟩ ++ ⟨#[39]⟩)) ?_ rfl ⟨?_, ((Below.refl _ w).alloc (Nat.le_refl _) _).trans (hb.mono (by simp))⟩
    · simp [results, Tryz.results39, go_sem]
    · congr 2
  · have d1 : (k == 6) = false := beq_eq_false_iff_ne.2 h1
    have HX := Lib.hid (show Lx.spell k txt = txt from if_neg h1)
    clear h1
    go_enter Tryz.func39, Tryz.ntmps39
    go_wp2_with fail
    refine bodyPost_ret (v := .string ⟨txt.toArray⟩) ?_ rfl ⟨by rw [HX.out], (Below.refl _ w).alloc (Nat.le_refl _) _⟩
    simp [results, Tryz.results39, go_sem]
end Go.Proofs.YtcjcbhdildcceaaGreatDoor
