/- Contracts of count and compare of package big. Conditions: those in the statements. -/
import Derived.Test.YthbfbpbppjkoeaaGreatDoorBigD
namespace Go.Proofs.YthbfbpbppjkoeaaGreatDoor
open Go.RowKit Go.Shelf

set_option maxHeartbeats 1000000 in
theorem count_c (o : Option Addr) (c n : Nat) (w : World) (hw : Wd w) (h : IntAt w o (Bg.ds n)) (hl : (Bg.ds n).length ≤ 1000000) :
    Calls Tryz.prog 54 #[.slice o (Bg.ds n).length c] w fun e w' => e = .returned (.int .i64 (Lib.nDigits n)) ∧ Below w.heap.size w w' := by
  by_cases h0 : n = 0
  · subst h0
    rw [Bg.ds_zero, Lib.nDigits_small (by decide)]
    go_enter Tryz.func54, Tryz.ntmps54
    go_wp2
    go_ret
    exact ⟨rfl, Below.refl _ _⟩
  · obtain ⟨k, hk⟩ : ∃ k, (Bg.ds n).length = k + 1 := ⟨(Bg.ds n).length - 1, by have := mt Bg.ds_length_zero.1 h0; omega⟩
    have hd := Bg.ds_get k n
    rw [if_pos (by omega)] at hd
    obtain ⟨x, hx⟩ : ∃ x : Nat, n / 1000000 ^ k % 1000000 = x := ⟨_, rfl⟩
    have hcnt := Bg.count_eq n k hk
    rw [hx] at hd hcnt
    have hx1 : (x : Int) < 1000000 := by have := Nat.mod_lt (n / 1000000 ^ k) (by decide : 0 < 1000000); omega
    obtain ⟨b, rfl, hb, hcell⟩ := h k _ hd
    have hnd : Lib.nDigits x ≤ 6 := Bg.nDigits_le (by have : (10:Nat)^6 = 1000000 := by decide
                                                      omega) (by decide)
    have hlx : (Lib.itoa (x : Int)).length = Lib.nDigits x := by
      rw [Lib.itoa, if_neg (by omega), Lib.decDigits_length]; rfl
    rw [hk] at hl ⊢
    have hI := itoa_c (x : Int) (by omega) (by omega)
    have HI := Lib.hid hI
    have HC := Lib.hid hcnt
    have HL := Lib.hid hlx
    clear hI hcnt hlx hx hd hk h h0
    have dz : (((k + 1 : Nat) : Int) == 0) = false := beq_eq_false_iff_ne.2 (by omega)
    have dz2 : ((k : Int) + 1 == 0) = false := beq_eq_false_iff_ne.2 (by omega)
    have hk0 : (0 : Int) ≤ (k : Int) := by omega
    have hk1 : (k : Int) ≤ 1000000 := by omega
    go_enter Tryz.func54, Tryz.ntmps54
    go_wp2_with fail
    refine (HI.out _ hw).mono ?_
    rintro e w' ⟨rfl, hb'⟩
    have hl2 : (Lib.itoa (x : Int)).length ≤ 6 := by rw [HL.out]; exact hnd
    have HL2 := Lib.hid HL.out
    have HBB := Lib.hid hb'
    clear hb'
    go_wp2_with fail
    go_ret
    refine ⟨ret_int ?_, HBB.out⟩
    rw [HC.out, ← HL2.out]
    simp
end Go.Proofs.YthbfbpbppjkoeaaGreatDoor
