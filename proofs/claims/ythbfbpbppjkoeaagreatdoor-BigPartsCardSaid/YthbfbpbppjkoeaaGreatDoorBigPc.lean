/- Plain facts of package big: texts of numbers; signs; quotients, roots, divisors. Nothing is said of the program here. -/
import Derived.Test.YthbfbpbppjkoeaaGreatDoorBigPb
import Derived.Lib.Strings
namespace Go.Proofs.YthbfbpbppjkoeaaGreatDoor.Bg
open Go

/-- What the text of a number is. -/
def okT (s : List UInt8) : Bool :=
  !(Lib.trimPrefix s [45]).isEmpty && decide ((Lib.trimPrefix s [45]).length ≤ 400) &&
    (if (Lib.trimPrefix s [45]).head? = some 48 then decide (s = [48]) else (Lib.trimPrefix s [45]).all isDig)
theorem trim_minus (r : List UInt8) : Lib.trimPrefix (45 :: r) [45] = r := by
  unfold Lib.trimPrefix Lib.hasPrefix; simp
theorem trim_other (s : List UInt8) (h : s.head? ≠ some 45) : Lib.trimPrefix s [45] = s := by
  unfold Lib.trimPrefix Lib.hasPrefix
  cases s with
  | nil => simp
  | cons b r =>
    rw [if_neg]
    simp at h ⊢
    exact fun e => h e.symm
theorem head_dig (u : Nat) : (Lib.decDigits u).head? ≠ some 45 := by
  intro h
  cases e : Lib.decDigits u with
  | nil => rw [e] at h; cases h
  | cons b r =>
    rw [e] at h
    have hb := isDig_not (decDigits_isDig u b (by rw [e]; simp))
    simp at h
    rw [h] at hb
    exact hb.2 rfl
theorem decDigits_ne (u : Nat) : Lib.decDigits u ≠ [] := fun e => by have := Lib.decDigits_length u; rw [e] at this; have := Lib.nDigits_pos u; simp at *; omega
theorem okT_itoa (z : Int) (h : Lib.nDigits z.natAbs ≤ 400) : okT (Lib.itoa z) = true := by
  have hall : ∀ u, (Lib.decDigits u).all isDig = true := fun u => List.all_eq_true.2 (decDigits_isDig u)
  by_cases hz : z < 0
  · rw [Lib.itoa, if_pos hz]
    unfold okT
    rw [trim_minus, Lib.decDigits_length]
    obtain ⟨b, r, e, hb⟩ := decDigits_head z.natAbs (by omega)
    have h1 : (Lib.decDigits z.natAbs).head? ≠ some 48 := by rw [e]; simpa using hb
    rw [if_neg h1, hall]
    simp [decDigits_ne, h]
  · have hn : z.toNat = z.natAbs := by omega
    rw [Lib.itoa, if_neg hz, hn]
    unfold okT
    rw [trim_other _ (head_dig _), Lib.decDigits_length]
    by_cases h0 : z.natAbs = 0
    · rw [h0, decDigits_zero, Lib.nDigits_small (by decide)]
      rfl
    · obtain ⟨b, r, e, hb⟩ := decDigits_head z.natAbs h0
      have h1 : (Lib.decDigits z.natAbs).head? ≠ some 48 := by rw [e]; simpa using hb
      rw [if_neg h1, hall]
      simp [decDigits_ne, h]
theorem itoa_okT (s : List UInt8) (h : okT s = true) : ∃ z : Int, s = Lib.itoa z ∧ Lib.nDigits z.natAbs ≤ 400 := by
  unfold okT at h
  simp only [Bool.and_eq_true, Bool.not_eq_true', decide_eq_true_eq] at h
  obtain ⟨⟨h1, h2⟩, h3⟩ := h
  have key : ∀ (d : List UInt8), d.isEmpty = false → d.length ≤ 400 → d.head? ≠ some 48 → d.all isDig = true → Lib.decDigits (dv d) = d ∧ Lib.nDigits (dv d) ≤ 400 ∧ dv d ≠ 0 := by
    intro d hd hl hh ha
    cases d with
    | nil => cases hd
    | cons b r =>
      have e := decDigits_dv (b :: r) (fun x hx => List.all_eq_true.1 ha x hx) b r rfl (.inl (by simpa using hh))
      refine ⟨e, ?_, fun h0 => ?_⟩
      · rw [← Lib.decDigits_length, e]; exact hl
      · rw [h0, decDigits_zero] at e
        injection e with e1 _
        exact hh (by rw [← e1]; rfl)
  by_cases hm : s.head? = some 45
  · obtain ⟨r, rfl⟩ : ∃ r, s = 45 :: r := by
      cases s with
      | nil => cases hm
      | cons b r => exact ⟨r, by simp at hm; rw [hm]⟩
    rw [trim_minus] at h1 h2 h3
    by_cases hh : r.head? = some 48
    · rw [if_pos hh] at h3; simp at h3
    · rw [if_neg hh] at h3
      obtain ⟨e1, e2, e3⟩ := key r h1 h2 hh h3
      refine ⟨-(dv r : Int), ?_, by simpa using e2⟩
      rw [Lib.itoa, if_pos (by omega)]
      simp [e1]
  · rw [trim_other s hm] at h1 h2 h3
    by_cases hh : s.head? = some 48
    · rw [if_pos hh] at h3
      exact ⟨0, by rw [of_decide_eq_true h3, Lib.itoa, if_neg (by decide)]; exact decDigits_zero.symm, by rw [show (0 : Int).natAbs = 0 from rfl, Lib.nDigits_small (by decide)]; decide⟩
    · rw [if_neg hh] at h3
      obtain ⟨e1, e2, _⟩ := key s h1 h2 hh h3
      refine ⟨(dv s : Int), ?_, by simpa using e2⟩
      rw [Lib.itoa, if_neg (by omega)]
      simp [e1]
theorem itoa_inj {a b : Int} (h : Lib.itoa a = Lib.itoa b) : a = b := by
  unfold Lib.itoa at h
  by_cases ha : a < 0 <;> by_cases hb : b < 0
  · rw [if_pos ha, if_pos hb] at h
    have := congrArg dv (List.cons.inj h).2
    rw [dv_decDigits, dv_decDigits] at this
    omega
  · rw [if_pos ha, if_neg hb] at h
    exact absurd (by rw [← h]; rfl) (head_dig b.toNat)
  · rw [if_neg ha, if_pos hb] at h
    exact absurd (by rw [h]; rfl) (head_dig a.toNat)
  · rw [if_neg ha, if_neg hb] at h
    have := congrArg dv h
    rw [dv_decDigits, dv_decDigits] at this
    omega

/-! Signs. -/
theorem plus_far (a b : Int) (h : b.natAbs ≤ a.natAbs) : a.sign * ((a.natAbs : Int) + a.sign * b.sign * b.natAbs) = a + b ∧ 0 ≤ (a.natAbs : Int) + a.sign * b.sign * b.natAbs := by
  rcases Int.lt_trichotomy a 0 with ha | ha | ha
  · rw [Int.sign_eq_neg_one_of_neg ha]
    rcases Int.lt_trichotomy b 0 with hb | hb | hb
    · rw [Int.sign_eq_neg_one_of_neg hb]; omega
    · subst hb; simp; omega
    · rw [Int.sign_eq_one_of_pos hb]; omega
  · subst ha; have : b = 0 := by omega
    subst this; simp
  · rw [Int.sign_eq_one_of_pos ha]
    rcases Int.lt_trichotomy b 0 with hb | hb | hb
    · rw [Int.sign_eq_neg_one_of_neg hb]; omega
    · subst hb; simp; omega
    · rw [Int.sign_eq_one_of_pos hb]; omega
theorem sign_natAbs (a : Int) : a.sign * a.natAbs = a := Int.sign_mul_natAbs a
theorem times_eq (a b : Int) : a.sign * b.sign * ((a.natAbs * b.natAbs : Nat) : Int) = a * b := by
  rw [Int.natCast_mul]
  have e1 := sign_natAbs a
  have e2 := sign_natAbs b
  calc a.sign * b.sign * ((a.natAbs : Int) * b.natAbs) = (a.sign * a.natAbs) * (b.sign * b.natAbs) := by
        rw [Int.mul_assoc, Int.mul_assoc, ← Int.mul_assoc b.sign, Int.mul_comm b.sign, Int.mul_assoc]
    _ = a * b := by rw [e1, e2]
theorem fdiv_unique {a b q r : Int} (h : a = b * q + r) (hr : (0 ≤ r ∧ r < b) ∨ (b < r ∧ r ≤ 0)) : a.fdiv b = q ∧ a.fmod b = r := by
  rcases hr with ⟨h1, h2⟩ | ⟨h1, h2⟩
  · exact (Int.fdiv_fmod_unique (by omega)).2 ⟨by omega, h1, h2⟩
  · exact (Int.fdiv_fmod_unique' (by omega)).2 ⟨by omega, h1, h2⟩
theorem fmod_range (a : Int) {b : Int} (hb : b ≠ 0) : (0 ≤ a.fmod b ∧ a.fmod b < b) ∨ (b < a.fmod b ∧ a.fmod b ≤ 0) := by
  rcases Int.lt_or_gt_of_ne hb with h | h
  · exact .inr ⟨((Int.fdiv_fmod_unique' h).1 ⟨rfl, rfl⟩).2.1, ((Int.fdiv_fmod_unique' h).1 ⟨rfl, rfl⟩).2.2⟩
  · exact .inl ⟨Int.fmod_nonneg_of_pos _ h, Int.fmod_lt_of_pos _ h⟩
/-- Quotient and rest, from those of the distances from 0. -/
theorem floor_eq (a b : Int) (hb : b ≠ 0) :
    if (a.sign * ((a.natAbs % b.natAbs : Nat) : Int)).sign * b.sign < 0 then
      a.fdiv b = a.sign * b.sign * ((a.natAbs / b.natAbs : Nat) : Int) - 1 ∧ a.fmod b = a.sign * ((a.natAbs % b.natAbs : Nat) : Int) + b
    else a.fdiv b = a.sign * b.sign * ((a.natAbs / b.natAbs : Nat) : Int) ∧ a.fmod b = a.sign * ((a.natAbs % b.natAbs : Nat) : Int) := by
  have hdm := Nat.div_add_mod a.natAbs b.natAbs
  have hlt := Nat.mod_lt a.natAbs (by omega : 0 < b.natAbs)
  generalize a.natAbs / b.natAbs = q at *
  generalize a.natAbs % b.natAbs = r at *
  have e : (a.natAbs : Int) = b.natAbs * q + r := by rw [← hdm]; simp
  have key : ∀ (sa sb : Int), a = sa * a.natAbs → b = sb * b.natAbs → sb * sb = 1 → a = b * (sa * sb * q) + sa * r := by
    intro sa sb h1 h2 h3
    have : b * (sa * sb * q) = sa * (sb * sb * (b.natAbs * q)) := by
      conv => lhs; rw [h2]
      ac_rfl
    rw [this, h3, Int.one_mul, ← Int.mul_add, ← e, ← h1]
  have hs : b.sign * b.sign = 1 := by
    rcases Int.lt_or_gt_of_ne hb with h | h
    · rw [Int.sign_eq_neg_one_of_neg h]; rfl
    · rw [Int.sign_eq_one_of_pos h]; rfl
  have hA := key a.sign b.sign (sign_natAbs a).symm (sign_natAbs b).symm hs
  by_cases hneg : (a.sign * (r : Int)).sign * b.sign < 0
  · rw [if_pos hneg]
    refine fdiv_unique (by rw [Int.mul_sub, Int.mul_one]; omega) ?_
    rcases Int.lt_or_gt_of_ne hb with h | h
    · rw [Int.sign_eq_neg_one_of_neg h] at hneg
      have hp : 0 < a.sign * (r : Int) := by
        apply Int.sign_pos_iff.1; omega
      have : a.sign * (r : Int) ≤ r := by
        rcases Int.lt_trichotomy a 0 with ha | ha | ha
        · rw [Int.sign_eq_neg_one_of_neg ha] at hp ⊢; omega
        · subst ha; simp
        · rw [Int.sign_eq_one_of_pos ha]; omega
      exact .inr (by omega)
    · rw [Int.sign_eq_one_of_pos h] at hneg
      have hp : a.sign * (r : Int) < 0 := by
        apply Int.sign_neg_iff.1; omega
      have : -(r : Int) ≤ a.sign * (r : Int) := by
        rcases Int.lt_trichotomy a 0 with ha | ha | ha
        · rw [Int.sign_eq_neg_one_of_neg ha]; omega
        · subst ha; simp
        · rw [Int.sign_eq_one_of_pos ha]; omega
      exact .inl (by omega)
  · rw [if_neg hneg]
    refine fdiv_unique hA ?_
    have hr2 : -(r : Int) ≤ a.sign * (r : Int) ∧ a.sign * (r : Int) ≤ r := by
      rcases Int.lt_trichotomy a 0 with ha | ha | ha
      · rw [Int.sign_eq_neg_one_of_neg ha]; omega
      · subst ha; simp
      · rw [Int.sign_eq_one_of_pos ha]; omega
    rcases Int.lt_or_gt_of_ne hb with h | h
    · rw [Int.sign_eq_neg_one_of_neg h] at hneg
      have hp : a.sign * (r : Int) ≤ 0 := by
        apply Int.not_lt.1; intro hc
        rw [Int.sign_eq_one_of_pos hc] at hneg; omega
      exact .inr (by omega)
    · rw [Int.sign_eq_one_of_pos h] at hneg
      have hp : 0 ≤ a.sign * (r : Int) := by
        apply Int.not_lt.1; intro hc
        rw [Int.sign_eq_neg_one_of_neg hc] at hneg; omega
      exact .inl (by omega)

/-! Divisors. -/
theorem gcd_step (a b : Int) : Int.gcd a b = Int.gcd b (a.fmod b) := by
  have h : a.fmod b = a - b * a.fdiv b := by have := Int.mul_fdiv_add_fmod a b; omega
  rw [h, Int.gcd_comm a b, Int.sub_eq_add_neg, ← Int.mul_neg, Int.gcd_add_mul_left_right]

/-! Roots. -/
theorem newton (N x : Nat) (hx : 0 < x) : N < ((x + N / x) / 2 + 1) * ((x + N / x) / 2 + 1) := by
  have h1 : N < x * (N / x + 1) := Nat.lt_mul_div_succ N hx
  generalize N / x = t at *
  have h2 : x + t ≤ 2 * ((x + t) / 2) + 1 := by omega
  generalize (x + t) / 2 = y at *
  -- 4 x (t + 1) ≤ (x + t + 1)^2 ≤ (2 y + 2)^2
  have h3 : 4 * (x * (t + 1)) ≤ (x + (t + 1)) * (x + (t + 1)) := by
    have h4 : (0 : Int) ≤ ((x : Int) - ((t : Int) + 1)) * ((x : Int) - ((t : Int) + 1)) := by
      rcases Int.le_total 0 ((x : Int) - ((t : Int) + 1)) with h | h
      · exact Int.mul_nonneg h h
      · exact Int.mul_nonneg_of_nonpos_of_nonpos h h
    have h5 : ((x : Int) + ((t : Int) + 1)) * ((x : Int) + ((t : Int) + 1)) = ((x : Int) - ((t : Int) + 1)) * ((x : Int) - ((t : Int) + 1)) + 4 * ((x : Int) * ((t : Int) + 1)) := by
      simp only [Int.add_mul, Int.mul_add, Int.sub_mul, Int.mul_sub, Int.mul_one, Int.one_mul]
      have : (t : Int) * x = x * t := Int.mul_comm _ _
      omega
    have h6 : (4 : Int) * ((x : Int) * ((t : Int) + 1)) ≤ ((x : Int) + ((t : Int) + 1)) * ((x : Int) + ((t : Int) + 1)) := by omega
    exact_mod_cast h6
  have h7 : (x + (t + 1)) * (x + (t + 1)) ≤ (2 * (y + 1)) * (2 * (y + 1)) := Nat.mul_le_mul (by omega) (by omega)
  have h8 : (2 * (y + 1)) * (2 * (y + 1)) = 4 * ((y + 1) * (y + 1)) := by
    rw [Nat.mul_assoc, Nat.mul_left_comm (y + 1) 2 (y + 1), ← Nat.mul_assoc]
  omega
theorem root_start (N : Nat) : N < (10 ^ ((Lib.nDigits N + 1) / 2) + 1) * (10 ^ ((Lib.nDigits N + 1) / 2) + 1) := by
  have h1 := Lib.lt_pow_nDigits N
  have h2 : 10 ^ Lib.nDigits N ≤ 10 ^ ((Lib.nDigits N + 1) / 2 + (Lib.nDigits N + 1) / 2) := Nat.pow_le_pow_right (by decide) (by omega)
  rw [Nat.pow_add] at h2
  have h3 := Nat.mul_le_mul (Nat.le_succ (10 ^ ((Lib.nDigits N + 1) / 2))) (Nat.le_succ (10 ^ ((Lib.nDigits N + 1) / 2)))
  have h4 := Nat.lt_of_lt_of_le h1 (Nat.le_trans h2 h3)
  exact h4
theorem newton_end (N x : Nat) (hx : 0 < x) (h : x ≤ (x + N / x) / 2) : x * x ≤ N := by
  have : x ≤ N / x := by omega
  exact (Nat.le_div_iff_mul_le hx).1 this
theorem newton_pos (N y : Nat) (hN : 0 < N) (h : N < (y + 1) * (y + 1)) : 0 < y := by
  cases y with
  | zero => simp at h; omega
  | succ y => omega
/-- The root, rounded down. -/
def IsRoot (N x : Nat) : Prop := x * x ≤ N ∧ N < (x + 1) * (x + 1)
theorem isRoot_unique {N x y : Nat} (h1 : IsRoot N x) (h2 : IsRoot N y) : x = y := by
  have key : ∀ {x y : Nat}, IsRoot N x → IsRoot N y → x ≤ y := by
    intro x y hx hy
    apply Nat.le_of_not_lt
    intro hc
    have := Nat.mul_le_mul hc hc
    have := hx.1
    have := hy.2
    simp only [Nat.succ_eq_add_one] at *
    omega
  exact Nat.le_antisymm (key h1 h2) (key h2 h1)
end Go.Proofs.YthbfbpbppjkoeaaGreatDoor.Bg
