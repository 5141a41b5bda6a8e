/- Contracts of the laws' helpers number, short, negative of package proteuslaw03. Conditions: those in the statements. -/
import Derived.Test.YthbfbpbppjkoeaaGreatDoorBigAq
namespace Go.Proofs.YthbfbpbppjkoeaaGreatDoor
open Go.RowKit Go.Shelf
set_option maxRecDepth 100000

theorem number_c (n : Int) (w : World) :
    Calls Tryz.prog 43 #[.int .i64 n] w fun e w' => e = .returned (valV 1 n []) ∧ Below w.heap.size w w' := by
  unfold valV
  go_enter Tryz.func43, Tryz.ntmps43
  go_wp2_with fail
  exact ret_val rfl rfl rfl (VB.new w (.int .i64 1) (.int .i64 n) (.string ⟨#[]⟩)) ⟨rfl, (Below.refl _ w).alloc (Nat.le_refl _) _⟩

theorem short_c (K N : Int) (T : List UInt8) (w : World) :
    Calls Tryz.prog 16 #[valV K N T] w fun e w' => e = .returned (.bool (decide (T.length ≤ 800))) ∧ Below w.heap.size w w' := by
  have hsz : (⟨T.toArray⟩ : ByteArray).size = T.length := by simp [ByteArray.size]
  unfold valV
  go_enter Tryz.func16, Tryz.ntmps16
  go_wp2_with fail
  go_ret
  refine ⟨ret_bool ?_, (Below.refl _ w).alloc (Nat.le_refl _) _⟩
  first | rfl | (simp; done) | (simp; omega)

def negT (K N : Int) (T : List UInt8) : Bool := (decide (K = 1) && decide (N < 0)) || (decide (T.head? = some 45))
theorem head45 (b : UInt8) : ((b.toNat : Int) == 45) = decide (b = 45) := by
  by_cases h : b = 45
  · subst h; rfl
  · rw [decide_eq_false h]
    exact beq_eq_false_iff_ne.2 (fun e => h (UInt8.toNat_inj.1 (by have : (45 : UInt8).toNat = 45 := rfl; omega)))
set_option maxHeartbeats 1000000 in
theorem negative_c (K N : Int) (T : List UInt8) (w : World) (hT : T.length ≤ 1000) :
    Calls Tryz.prog 44 #[valV K N T] w fun e w' => e = .returned (.bool (negT K N T)) ∧ Below w.heap.size w w' := by
  unfold valV
  have hb0 := fun o : Obj => (Below.refl w.heap.size w).alloc (Nat.le_refl _) o
  cases T with
  | nil =>
    by_cases hK : K = 1
    · have dk : (K == 1) = true := beq_iff_eq.2 hK
      have hn : negT K N [] = decide (N < 0) := by unfold negT; simp [hK]
      have HN := Lib.hid hn
      clear hK hn
      go_enter Tryz.func44, Tryz.ntmps44
      go_wp2_with fail
      all_goals
        go_ret
        refine ⟨ret_bool ?_, hb0 _⟩
        rw [HN.out]
        try simp_all
    · have dk : (K == 1) = false := beq_eq_false_iff_ne.2 hK
      have hn : negT K N [] = false := by unfold negT; simp [hK]
      have HN := Lib.hid hn
      clear hK hn
      go_enter Tryz.func44, Tryz.ntmps44
      go_wp2_with fail
      all_goals
        go_ret
        refine ⟨ret_bool ?_, hb0 _⟩
        rw [HN.out]
        try simp_all
  | cons b r =>
    have hget : ∀ h, (⟨(b :: r).toArray⟩ : ByteArray)[0]'h = b := fun _ => rfl
    have hsz : (⟨(b :: r).toArray⟩ : ByteArray).size = r.length + 1 := by simp [ByteArray.size]
    have h45 := head45 b
    rw [List.length_cons] at hT
    by_cases hK : K = 1
    · have dk : (K == 1) = true := beq_iff_eq.2 hK
      have hn : negT K N (b :: r) = (decide (N < 0) || decide (b = 45)) := by unfold negT; simp [hK]
      generalize decide (b = 45) = d at *
      have HN := Lib.hid hn
      clear hK hn
      go_enter Tryz.func44, Tryz.ntmps44
      go_wp2_with fail
      all_goals
        go_ret
        refine ⟨ret_bool ?_, hb0 _⟩
        rw [HN.out]
        try simp_all
    · have dk : (K == 1) = false := beq_eq_false_iff_ne.2 hK
      have hn : negT K N (b :: r) = decide (b = 45) := by unfold negT; simp [hK]
      generalize decide (b = 45) = d at *
      have HN := Lib.hid hn
      clear hK hn
      go_enter Tryz.func44, Tryz.ntmps44
      go_wp2_with fail
      all_goals
        go_ret
        refine ⟨ret_bool ?_, hb0 _⟩
        rw [HN.out]
        try simp_all
/-- What negative says of a number. -/
theorem negT_num {K N z : Int} {T : List UInt8} (h : IsNum K N T z) : negT K N T = decide (z < 0) := by
  unfold negT
  rcases h.cells with ⟨_, h1, h2, h3⟩ | ⟨_, h1, h2, h3⟩
  · rw [h1, h2, h3]; simp
  · rw [h1, h3]
    have : (Lib.itoa z).head? = some 45 ↔ z < 0 := by
      unfold Lib.itoa
      split
      · rename_i hz; simp [hz]
      · rename_i hz
        have := Bg.head_dig z.toNat
        constructor
        · intro hh; exact absurd hh this
        · intro hh; omega
    simp [this]
end Go.Proofs.YthbfbpbppjkoeaaGreatDoor
