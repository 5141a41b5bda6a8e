/- Contract of guess of package big. Conditions: those in the statements. -/
import Derived.Test.YthbfbpbppjkoeaaGreatDoorBigH
namespace Go.Proofs.YthbfbpbppjkoeaaGreatDoor
open Go.RowKit Go.Shelf

theorem atDs_c (o : Option Addr) (c n k : Nat) (i : Int) (x : Nat) (w : World) (h : IntAt w o (Bg.ds n)) (hi : i = k) (hk : k ≤ 1000000) (hx : n / 1000000 ^ k % 1000000 = x) :
    Calls Tryz.prog 156 #[.slice o (Bg.ds n).length c, .int .i64 i] w fun e w' => e = .returned (.int .i64 (x : Int)) ∧ w' = w := by
  subst hi
  have := at_c o c (Bg.ds n) k w h (by omega) (by omega)
  rw [if_neg (by omega), Int.toNat_natCast, Bg.ds_getD, hx] at this
  exact this
theorem atNeg_c (o : Option Addr) (c n : Nat) (i : Int) (w : World) (h : IntAt w o (Bg.ds n)) (hi : i = -1) :
    Calls Tryz.prog 156 #[.slice o (Bg.ds n).length c, .int .i64 i] w fun e w' => e = .returned (.int .i64 0) ∧ w' = w := by
  subst hi
  have := at_c o c (Bg.ds n) (-1) w h (by omega) (by omega)
  rw [if_pos (by omega)] at this
  exact this

/-- A guess has been returned. -/
def GuessP (R E : Nat) (w : World) (e : Ending) (w' : World) : Prop := ∃ q : Nat, e = .returned (.int .i64 q) ∧ R / E ≤ q ∧ q ≤ 1000000 ∧ w' = w

set_option maxHeartbeats 2000000 in
theorem guess1_c (o o' : Option Addr) (c c' R E : Nat) (w : World) (h : IntAt w o (Bg.ds R)) (h' : IntAt w o' (Bg.ds E)) (hE : (Bg.ds E).length = 1) (hq : R / E < 1000000) :
    Calls Tryz.prog 142 #[.slice o (Bg.ds R).length c, .slice o' (Bg.ds E).length c'] w (GuessP R E w) := by
  have hE0 : E ≠ 0 := fun e => by rw [e, Bg.ds_zero] at hE; cases hE
  have hE1 : E < 1000000 := by have := Bg.lt_pow_len E; rw [hE] at this; simpa using this
  have hR : R < 1000000 * 1000000 := by
    have h1 := Nat.lt_mul_div_succ R (show 0 < E by omega)
    have h2 : E * (R / E + 1) ≤ 1000000 * 1000000 := Nat.mul_le_mul (by omega) hq
    omega
  obtain ⟨x1, hx1⟩ : ∃ x, R / 1000000 ^ 1 % 1000000 = x := ⟨_, rfl⟩
  obtain ⟨x0, hx0⟩ : ∃ x, R / 1000000 ^ 0 % 1000000 = x := ⟨_, rfl⟩
  have hx1' : (x1 : Int) < 1000000 := by have := Nat.mod_lt (R / 1000000 ^ 1) (by decide : 0 < 1000000); omega
  have hx0' : (x0 : Int) < 1000000 := by have := Nat.mod_lt (R / 1000000 ^ 0) (by decide : 0 < 1000000); omega
  have hsum : x1 * 1000000 + x0 = R := by
    rw [Nat.pow_one] at hx1
    rw [Nat.pow_zero, Nat.div_one] at hx0
    omega
  have he0 : E / 1000000 ^ 0 % 1000000 = E := by rw [Nat.pow_zero, Nat.div_one, Nat.mod_eq_of_lt hE1]
  have c1 := Lib.hid (fun (i : Int) (hi : i = (1 : Nat)) => atDs_c o c R 1 i x1 w h hi (by decide) hx1)
  have c0 := Lib.hid (fun (i : Int) (hi : i = (0 : Nat)) => atDs_c o c R 0 i x0 w h hi (by decide) hx0)
  have cn := Lib.hid (fun (i : Int) (hi : i = -1) => atNeg_c o c R i w h hi)
  have d0 := Lib.hid (fun (i : Int) (hi : i = (0 : Nat)) => atDs_c o' c' E 0 i E w h' hi (by decide) he0)
  have dn := Lib.hid (fun (i : Int) (hi : i = -1) => atNeg_c o' c' E i w h' hi)
  have hE0' : (1 : Int) ≤ (E : Int) := by omega
  have hE1' : (E : Int) < 1000000 := by omega
  have hres : ((x1 : Int) * 1000000 + x0) / (E : Int) = ((R / E : Nat) : Int) := by
    have e1 : (x1 : Int) * 1000000 + x0 = (R : Int) := by omega
    rw [e1, Int.natCast_ediv]
  have HR := Lib.hid hres
  have HQ := Lib.hid hq
  rw [hE] at d0 dn ⊢
  clear h h' hE hE0 hE1 hR hx1 hx0 hsum he0 hres hq
  generalize (Bg.ds R).length = L at *
  go_enter Tryz.func142, Tryz.ntmps142
  go_wp2_with fail
  refine (c1.out _ (by omega)).mono ?_
  rintro e w' ⟨rfl, rfl⟩
  go_wp2_with fail
  refine (c0.out _ (by omega)).mono ?_
  rintro e w' ⟨rfl, rfl⟩
  go_wp2_with fail
  refine (cn.out _ (by omega)).mono ?_
  rintro e w' ⟨rfl, rfl⟩
  go_wp2_with fail
  refine (d0.out _ (by omega)).mono ?_
  rintro e w' ⟨rfl, rfl⟩
  go_wp2_with fail
  refine (dn.out _ (by omega)).mono ?_
  rintro e w' ⟨rfl, rfl⟩
  go_wp2_with fail
  go_ret
  exact ⟨R / E, ret_int (by rw [← HR.out]), Nat.le_refl _, by have := HQ.out; omega, rfl⟩

set_option maxHeartbeats 2000000 in
theorem guess2_c (o o' : Option Addr) (c c' R E t : Nat) (w : World) (h : IntAt w o (Bg.ds R)) (h' : IntAt w o' (Bg.ds E)) (hE : (Bg.ds E).length = t + 2) (ht : t ≤ 1000) (hq : R / E < 1000000) :
    Calls Tryz.prog 142 #[.slice o (Bg.ds R).length c, .slice o' (Bg.ds E).length c'] w (GuessP R E w) := by
  have hE0 : E ≠ 0 := fun e => by rw [e, Bg.ds_zero] at hE; cases hE
  have hElt : E < 1000000 ^ (t + 2) := by have := Bg.lt_pow_len E; rwa [hE] at this
  have hEge : 1000000 ^ (t + 1) ≤ E := by have := Bg.pow_len_le E hE0; rwa [hE] at this
  have hR : R < 1000000 ^ (t + 3) := by
    have h1 := Nat.lt_mul_div_succ R (show 0 < E by omega)
    have h2 : E * (R / E + 1) ≤ 1000000 ^ (t + 2) * 1000000 := Nat.mul_le_mul (by omega) hq
    rw [← Nat.pow_succ] at h2
    exact Nat.lt_of_lt_of_le h1 h2
  have htop := Bg.top_pos E (t + 1) hE
  have h3 := Bg.three_ahead R t hR
  have h2 := Bg.two_ahead E t hElt
  have hg := Bg.guess_ok R E (1000000 ^ t) (Nat.pow_pos (by decide)) (by rw [Nat.mul_comm, ← Nat.pow_succ]; exact hEge) hq
  obtain ⟨x2, hx2⟩ : ∃ x, R / 1000000 ^ (t + 2) % 1000000 = x := ⟨_, rfl⟩
  obtain ⟨x1, hx1⟩ : ∃ x, R / 1000000 ^ (t + 1) % 1000000 = x := ⟨_, rfl⟩
  obtain ⟨x0, hx0⟩ : ∃ x, R / 1000000 ^ t % 1000000 = x := ⟨_, rfl⟩
  obtain ⟨y1, hy1⟩ : ∃ x, E / 1000000 ^ (t + 1) % 1000000 = x := ⟨_, rfl⟩
  obtain ⟨y0, hy0⟩ : ∃ x, E / 1000000 ^ t % 1000000 = x := ⟨_, rfl⟩
  have b2 : (x2 : Int) < 1000000 := by have := Nat.mod_lt (R / 1000000 ^ (t + 2)) (by decide : 0 < 1000000); omega
  have b1 : (x1 : Int) < 1000000 := by have := Nat.mod_lt (R / 1000000 ^ (t + 1)) (by decide : 0 < 1000000); omega
  have b0 : (x0 : Int) < 1000000 := by have := Nat.mod_lt (R / 1000000 ^ t) (by decide : 0 < 1000000); omega
  have f1 : (y1 : Int) < 1000000 := by have := Nat.mod_lt (E / 1000000 ^ (t + 1)) (by decide : 0 < 1000000); omega
  have f0 : (y0 : Int) < 1000000 := by have := Nat.mod_lt (E / 1000000 ^ t) (by decide : 0 < 1000000); omega
  have f1' : (1 : Int) ≤ (y1 : Int) := by omega
  rw [hx2, hx1, hx0] at h3
  rw [hy1, hy0] at h2
  have c2 := Lib.hid (fun (i : Int) (hi : i = (t + 2 : Nat)) => atDs_c o c R (t + 2) i x2 w h hi (by omega) hx2)
  have c1 := Lib.hid (fun (i : Int) (hi : i = (t + 1 : Nat)) => atDs_c o c R (t + 1) i x1 w h hi (by omega) hx1)
  have c0 := Lib.hid (fun (i : Int) (hi : i = (t : Nat)) => atDs_c o c R t i x0 w h hi (by omega) hx0)
  have d1 := Lib.hid (fun (i : Int) (hi : i = (t + 1 : Nat)) => atDs_c o' c' E (t + 1) i y1 w h' hi (by omega) hy1)
  have d0 := Lib.hid (fun (i : Int) (hi : i = (t : Nat)) => atDs_c o' c' E t i y0 w h' hi (by omega) hy0)
  have hres : ((((x2 : Int) * 1000000 + x1) * 1000000 + x0) / ((y1 : Int) * 1000000 + y0)) = ((R / 1000000 ^ t / (E / 1000000 ^ t) : Nat) : Int) := by
    rw [← h3, ← h2, Int.natCast_ediv]; rfl
  have HR := Lib.hid hres
  have HG := Lib.hid hg
  rw [hE] at d1 d0 ⊢
  have ht' : (t : Int) ≤ 1000 := by omega
  clear h h' hE hE0 hElt hEge hR htop h3 h2 hg hx2 hx1 hx0 hy1 hy0 hres hq
  generalize (Bg.ds R).length = L at *
  go_enter Tryz.func142, Tryz.ntmps142
  go_wp2_with fail
  refine (c2.out _ (by omega)).mono ?_
  rintro e w' ⟨rfl, rfl⟩
  go_wp2_with fail
  refine (c1.out _ (by omega)).mono ?_
  rintro e w' ⟨rfl, rfl⟩
  go_wp2_with fail
  refine (c0.out _ (by omega)).mono ?_
  rintro e w' ⟨rfl, rfl⟩
  go_wp2_with fail
  refine (d1.out _ (by omega)).mono ?_
  rintro e w' ⟨rfl, rfl⟩
  go_wp2_with fail
  refine (d0.out _ (by omega)).mono ?_
  rintro e w' ⟨rfl, rfl⟩
  go_wp2_with fail
  go_ret
  exact ⟨_, ret_int (by rw [← HR.out]), HG.out.1, HG.out.2, rfl⟩

theorem guess_c (o o' : Option Addr) (c c' R E : Nat) (w : World) (h : IntAt w o (Bg.ds R)) (h' : IntAt w o' (Bg.ds E)) (hE : E ≠ 0) (hl : (Bg.ds E).length ≤ 1000) (hq : R / E < 1000000) :
    Calls Tryz.prog 142 #[.slice o (Bg.ds R).length c, .slice o' (Bg.ds E).length c'] w (GuessP R E w) := by
  have h0 : (Bg.ds E).length ≠ 0 := fun e => hE (Bg.ds_length_zero.1 e)
  by_cases h1 : (Bg.ds E).length = 1
  · exact guess1_c o o' c c' R E w h h' h1 hq
  · exact guess2_c o o' c c' R E ((Bg.ds E).length - 2) w h h' (by omega) (by omega) hq
end Go.Proofs.YthbfbpbppjkoeaaGreatDoor
