/- Plain definitions and facts of package big: digits to the base of a million. Nothing is said of the program here. -/
import Derived.Lib.ItoaNum
namespace Go.Proofs.YthbfbpbppjkoeaaGreatDoor.Bg

/-- The digits to the base of a million, the lowest first, none of them superfluous. -/
def ds (n : Nat) : List Int := if h : n = 0 then [] else ((n % 1000000 : Nat) : Int) :: ds (n / 1000000)
termination_by n
decreasing_by omega

theorem ds_zero : ds 0 = [] := by rw [ds, dif_pos rfl]
theorem ds_pos {n : Nat} (h : n ≠ 0) : ds n = ((n % 1000000 : Nat) : Int) :: ds (n / 1000000) := by rw [ds, dif_neg h]
theorem ds_nil {n : Nat} : ds n = [] ↔ n = 0 := by
  refine ⟨fun h => ?_, fun h => by rw [h, ds_zero]⟩
  by_cases h0 : n = 0
  · exact h0
  · rw [ds_pos h0] at h; cases h
theorem ds_length_zero {n : Nat} : (ds n).length = 0 ↔ n = 0 := by rw [List.length_eq_zero_iff, ds_nil]

theorem lt_pow_len : ∀ (n : Nat), n < 1000000 ^ (ds n).length := fun n => by
  induction n using Nat.strongRecOn with
  | _ n ih =>
    by_cases h : n = 0
    · subst h; rw [ds_zero]; decide
    · rw [ds_pos h, List.length_cons, Nat.pow_succ]
      have := ih (n / 1000000) (by omega)
      omega
theorem pow_len_le : ∀ (n : Nat), n ≠ 0 → 1000000 ^ ((ds n).length - 1) ≤ n := fun n => by
  induction n using Nat.strongRecOn with
  | _ n ih =>
    intro h
    rw [ds_pos h, List.length_cons, Nat.add_sub_cancel]
    by_cases h0 : n / 1000000 = 0
    · rw [h0, ds_zero]; simp; omega
    · have := ih (n / 1000000) (by omega) h0
      have hl : (ds (n / 1000000)).length ≠ 0 := fun e => h0 (ds_length_zero.1 e)
      obtain ⟨k, hk⟩ : ∃ k, (ds (n / 1000000)).length = k + 1 := ⟨_, (Nat.succ_pred hl).symm⟩
      rw [hk] at this ⊢
      rw [Nat.pow_succ]
      simp only [Nat.add_sub_cancel] at this
      omega
theorem ds_len_le {n k : Nat} (h : n < 1000000 ^ k) : (ds n).length ≤ k := by
  by_cases h0 : n = 0
  · subst h0; rw [ds_zero]; exact Nat.zero_le _
  · have := pow_len_le n h0
    have h2 := Nat.lt_of_le_of_lt this h
    have := (Nat.pow_lt_pow_iff_right (a := 1000000) (by decide)).1 h2
    omega
theorem ds_len_mono {a b : Nat} (h : a ≤ b) : (ds a).length ≤ (ds b).length := ds_len_le (Nat.lt_of_le_of_lt h (lt_pow_len b))

theorem ds_get (i : Nat) : ∀ (n : Nat), (ds n)[i]? = if i < (ds n).length then some (((n / 1000000 ^ i % 1000000 : Nat) : Nat) : Int) else none := by
  induction i with
  | zero =>
    intro n
    by_cases h : n = 0
    · subst h; rw [ds_zero]; rfl
    · rw [ds_pos h]; simp
  | succ i ih =>
    intro n
    by_cases h : n = 0
    · subst h; rw [ds_zero]; rfl
    · rw [ds_pos h, List.getElem?_cons_succ, ih]
      simp only [List.length_cons, Nat.add_lt_add_iff_right]
      rw [Nat.pow_succ, Nat.mul_comm, ← Nat.div_div_eq_div_mul]
theorem ds_getD (n i : Nat) : (ds n)[i]?.getD 0 = ((n / 1000000 ^ i % 1000000 : Nat) : Int) := by
  rw [ds_get]
  by_cases h : i < (ds n).length
  · rw [if_pos h]; rfl
  · rw [if_neg h]
    have : n < 1000000 ^ i := Nat.lt_of_lt_of_le (lt_pow_len n) (Nat.pow_le_pow_right (by decide) (by omega))
    rw [Nat.div_eq_of_lt this]; rfl
theorem ds_mem {n : Nat} {x : Int} (h : x ∈ ds n) : 0 ≤ x ∧ x < 1000000 := by
  obtain ⟨i, hi, rfl⟩ := List.getElem_of_mem h
  have := ds_get i n
  rw [if_pos hi, List.getElem?_eq_getElem hi] at this
  have := Option.some.inj this
  omega

/-- The number that columns make. -/
def valI : List Int → Int
  | [] => 0
  | c :: cs => c + 1000000 * valI cs
theorem valI_ds (n : Nat) : valI (ds n) = n := by
  induction n using Nat.strongRecOn with
  | _ n ih =>
    by_cases h : n = 0
    · subst h; rw [ds_zero]; rfl
    · rw [ds_pos h, valI, ih _ (by omega)]; omega
theorem valI_drop (cs : List Int) (i : Nat) (h : i < cs.length) : valI (cs.drop i) = cs[i] + 1000000 * valI (cs.drop (i + 1)) := by
  rw [List.drop_eq_getElem_cons h, valI]
theorem valI_append : ∀ (a b : List Int), valI (a ++ b) = valI a + 1000000 ^ a.length * valI b
  | [], b => by simp [valI]
  | x :: a, b => by
    rw [List.cons_append, valI, valI, valI_append a b, List.length_cons, Int.pow_succ, Int.mul_add, ← Int.mul_assoc, Int.mul_comm 1000000 (1000000 ^ a.length), Int.add_assoc]
theorem valI_set : ∀ (l : List Int) (i : Nat) (x : Int), i < l.length → valI (l.set i (l[i]?.getD 0 + x)) = valI l + x * 1000000 ^ i
  | [], i, x, h => by simp at h
  | c :: cs, 0, x, _ => by simp [valI]; omega
  | c :: cs, i + 1, x, h => by
    rw [List.set_cons_succ, List.getElem?_cons_succ, valI, valI, valI_set cs i x (by simpa using h), Int.pow_succ, Int.mul_add]
    have e : 1000000 * (x * 1000000 ^ i) = x * (1000000 ^ i * 1000000) := by
      rw [← Int.mul_assoc, Int.mul_comm 1000000 x, Int.mul_assoc, Int.mul_comm 1000000]
    rw [e]; omega
theorem valI_replicate : ∀ (m : Nat), valI (List.replicate m 0) = 0
  | 0 => rfl
  | m + 1 => by rw [List.replicate_succ, valI, valI_replicate m]; rfl
theorem valI_zeros (a : List Int) (m : Nat) : valI (a ++ List.replicate m 0) = valI a := by rw [valI_append, valI_replicate]; simp
theorem valI_nonneg : ∀ (l : List Int), (∀ x ∈ l, 0 ≤ x) → 0 ≤ valI l
  | [], _ => by simp [valI]
  | c :: cs, h => by
    have := valI_nonneg cs (fun x hx => h x (by simp [hx]))
    have := h c (by simp)
    rw [valI]; omega
theorem valI_take (l : List Int) (i : Nat) (h : i < l.length) : valI (l.take (i + 1)) = valI (l.take i) + l[i] * 1000000 ^ i := by
  rw [List.take_succ_eq_append_getElem h, valI_append, List.length_take, Nat.min_eq_left (by omega)]
  simp [valI, Int.mul_comm]

theorem valI_le : ∀ (l : List Int), (∀ x ∈ l, -10000000000000000 ≤ x ∧ x ≤ 10000000000000000) → valI l + 20000000000000000 ≤ 20000000000000000 * 1000000 ^ l.length
  | [], _ => by simp [valI]
  | c :: cs, h => by
    have h1 := valI_le cs (fun x hx => h x (by simp [hx]))
    have h2 := h c (by simp)
    rw [valI, List.length_cons, Int.pow_succ]
    generalize (1000000 : Int) ^ cs.length = p at *
    omega
theorem ds_len_valI {l : List Int} {V : Nat} (hV : valI l = V) (h : ∀ x ∈ l, -10000000000000000 ≤ x ∧ x ≤ 10000000000000000) : (ds V).length ≤ l.length + 3 := by
  apply ds_len_le
  have h1 := valI_le l h
  rw [hV] at h1
  have h2 : ((1000000 ^ l.length : Nat) : Int) = (1000000 : Int) ^ l.length := by simp
  rw [← h2] at h1
  rw [Nat.pow_add]
  omega
/-- One step of a carry. -/
theorem carry_step (X : Nat) (c t : Int) (h : c + 1000000 * t = X) : (c % 1000000 = ((X % 1000000 : Nat) : Int)) ∧ c / 1000000 + t = ((X / 1000000 : Nat) : Int) := by omega
/-- Go's remainder and quotient by the base, of a carry. -/
theorem go_digit (c : Int) : (c.tmod 1000000 + 1000000).tmod 1000000 = c % 1000000 := by
  have h1 : 0 ≤ c.tmod 1000000 + 1000000 := by
    rw [Int.tmod_eq_emod]; split <;> simp <;> omega
  rw [Int.tmod_eq_emod_of_nonneg h1, Int.tmod_eq_emod]
  split
  · omega
  · simp
theorem tmod_bound (c : Int) : -1000000 < c.tmod 1000000 ∧ c.tmod 1000000 < 1000000 := by
  rw [Int.tmod_eq_emod]; split <;> simp <;> omega
theorem go_digit' (c : Int) : (c.tmod 1000000 + 1000000) % 1000000 = c % 1000000 := by
  rw [Int.tmod_eq_emod]
  split
  · omega
  · simp
theorem go_digit2 (c : Int) : c.tmod 1000000 % 1000000 = c % 1000000 := by
  rw [Int.tmod_eq_emod]
  split
  · omega
  · simp
theorem go_carry' (c : Int) : (c - c.tmod 1000000 % 1000000).tdiv 1000000 = c / 1000000 := by
  rw [go_digit2]
  have : c - c % 1000000 = 1000000 * (c / 1000000) := by omega
  rw [this, Int.mul_tdiv_cancel_left _ (by decide)]
theorem go_carry (c : Int) : (c - c % 1000000).tdiv 1000000 = c / 1000000 := by
  have : c - c % 1000000 = 1000000 * (c / 1000000) := by omega
  rw [this, Int.mul_tdiv_cancel_left _ (by decide)]

/-- The digits of V up to a place, superfluous ones too. -/
def outs (V M : Nat) : List Int := (List.range M).map fun j => ((V / 1000000 ^ j % 1000000 : Nat) : Int)
theorem outs_length (V M : Nat) : (outs V M).length = M := by simp [outs]
theorem outs_succ (V M : Nat) : outs V (M + 1) = outs V M ++ [((V / 1000000 ^ M % 1000000 : Nat) : Int)] := by simp [outs, List.range_succ]
theorem outs_ds (V : Nat) : outs V (ds V).length = ds V := by
  refine List.ext_getElem? fun i => ?_
  rw [ds_get]
  by_cases h : i < (ds V).length
  · rw [if_pos h]; simp [outs, List.getElem?_map, List.getElem?_range h]
  · rw [if_neg h, List.getElem?_eq_none (by rw [outs_length]; omega)]
theorem outs_take (V k M : Nat) (h : k ≤ M) : (outs V M).take k = outs V k := by
  rw [outs, outs, ← List.map_take, List.take_range, Nat.min_eq_left h]
theorem outs_get (V M i : Nat) (h : i < M) : (outs V M)[i]? = some ((V / 1000000 ^ i % 1000000 : Nat) : Int) := by
  simp [outs, List.getElem?_map, List.getElem?_range h]
/-- Above the highest digit all are 0, and this is not. -/
theorem top_zero (V k : Nat) (h : (ds V).length ≤ k) : V / 1000000 ^ k % 1000000 = 0 := by
  rw [Nat.div_eq_of_lt (Nat.lt_of_lt_of_le (lt_pow_len V) (Nat.pow_le_pow_right (by decide) h))]
theorem top_pos (V k : Nat) (h : (ds V).length = k + 1) : V / 1000000 ^ k % 1000000 ≠ 0 := by
  have h0 : V ≠ 0 := fun e => by rw [e, ds_zero] at h; cases h
  have h1 := pow_len_le V h0
  have h2 := lt_pow_len V
  rw [h, Nat.add_sub_cancel] at h1
  rw [h, Nat.pow_succ] at h2
  have hp : 0 < 1000000 ^ k := Nat.pow_pos (by decide)
  have h3 : 1 ≤ V / 1000000 ^ k := (Nat.le_div_iff_mul_le hp).2 (by omega)
  have h4 : V / 1000000 ^ k < 1000000 := Nat.div_lt_of_lt_mul (by omega)
  omega
theorem div_pow_pos (V i : Nat) : (0 : Int) < ((V / 1000000 ^ i : Nat) : Int) ↔ i < (ds V).length := by
  refine ⟨fun h => ?_, fun h => ?_⟩
  · apply Nat.lt_of_not_le
    intro hc
    rw [Nat.div_eq_of_lt (Nat.lt_of_lt_of_le (lt_pow_len V) (Nat.pow_le_pow_right (by decide) hc))] at h
    simp at h
  · have h0 : V ≠ 0 := fun e => by rw [e, ds_zero] at h; simp at h
    have h1 := pow_len_le V h0
    have h2 : 1000000 ^ i ≤ V := Nat.le_trans (Nat.pow_le_pow_right (by decide) (by omega)) h1
    have : 1 ≤ V / 1000000 ^ i := (Nat.le_div_iff_mul_le (Nat.pow_pos (by decide))).2 (by omega)
    omega

/-! Comparing. -/
theorem cmp_len {a b : Nat} (h : (ds a).length < (ds b).length) : a < b := by
  apply Nat.lt_of_not_le
  intro hc
  have := ds_len_mono hc
  omega
/-- Equal from a place on, and less at the place below: less. -/
theorem cmp_at {a b i : Nat} (h : a / 1000000 ^ (i + 1) = b / 1000000 ^ (i + 1)) (hl : a / 1000000 ^ i % 1000000 < b / 1000000 ^ i % 1000000) : a < b := by
  have ea : a / 1000000 ^ (i + 1) = a / 1000000 ^ i / 1000000 := by rw [Nat.pow_succ, ← Nat.div_div_eq_div_mul]
  have eb : b / 1000000 ^ (i + 1) = b / 1000000 ^ i / 1000000 := by rw [Nat.pow_succ, ← Nat.div_div_eq_div_mul]
  rw [ea, eb] at h
  have h1 : a / 1000000 ^ i < b / 1000000 ^ i := by omega
  apply Nat.lt_of_not_le
  intro hc
  have := Nat.div_le_div_right (c := 1000000 ^ i) hc
  omega
theorem cmp_on {a b i : Nat} (h : a / 1000000 ^ (i + 1) = b / 1000000 ^ (i + 1)) (hl : a / 1000000 ^ i % 1000000 = b / 1000000 ^ i % 1000000) : a / 1000000 ^ i = b / 1000000 ^ i := by
  rw [Nat.pow_succ, ← Nat.div_div_eq_div_mul, ← Nat.div_div_eq_div_mul] at h
  omega
theorem cmp_start {a b : Nat} (h : (ds a).length = (ds b).length) : a / 1000000 ^ (ds a).length = b / 1000000 ^ (ds a).length := by
  rw [Nat.div_eq_of_lt (lt_pow_len a), h, Nat.div_eq_of_lt (lt_pow_len b)]

/-- Alike from a place on. -/
theorem agree_above (a b L : Nat) (ha : a / 1000000 ^ L = b / 1000000 ^ L) : ∀ (k i : Nat), i + k = L → (∀ j, i ≤ j → j < L → a / 1000000 ^ j % 1000000 = b / 1000000 ^ j % 1000000) → a / 1000000 ^ i = b / 1000000 ^ i
  | 0, i, h, _ => by rw [show i = L by omega]; exact ha
  | k + 1, i, h, hj => by
    have := agree_above a b L ha k (i + 1) (by omega) (fun j h1 h2 => hj j (by omega) h2)
    exact cmp_on this (hj i (Nat.le_refl _) (by omega))
/-- The order of two numbers: -1, 0, 1. -/
def cmpN (a b : Nat) : Int := if a < b then -1 else if b < a then 1 else 0
theorem cmpN_len {a b : Nat} (h : (ds a).length ≠ (ds b).length) : (if ((ds a).length : Int) < (ds b).length then -1 else if ((ds a).length : Int) > (ds b).length then 1 else 0) = cmpN a b := by
  unfold cmpN
  rcases Nat.lt_or_gt_of_ne h with h | h
  · rw [if_pos (by omega), if_pos (cmp_len h)]
  · have := cmp_len h
    rw [if_neg (by omega), if_pos (by omega), if_neg (by omega), if_pos this]
theorem cmpN_at {a b i x y : Nat} (h : a / 1000000 ^ (i + 1) = b / 1000000 ^ (i + 1)) (hx : a / 1000000 ^ i % 1000000 = x) (hy : b / 1000000 ^ i % 1000000 = y) (hne : x ≠ y) : (if (x : Int) < y then -1 else if (x : Int) > y then 1 else 0) = cmpN a b := by
  unfold cmpN
  rcases Nat.lt_or_gt_of_ne hne with h1 | h1
  · rw [if_pos (by omega), if_pos (cmp_at h (by omega))]
  · have := cmp_at h.symm (show b / 1000000 ^ i % 1000000 < a / 1000000 ^ i % 1000000 by omega)
    rw [if_neg (by omega), if_pos (by omega), if_neg (by omega), if_pos this]
theorem cmpN_self (a : Nat) : cmpN a a = 0 := by unfold cmpN; simp
/-! Division, digit by digit. -/
theorem over_step (d e i : Nat) (he : 0 < e) :
    (d / 1000000 ^ (i + 1) % e) * 1000000 + d / 1000000 ^ i % 1000000 < e * 1000000 ∧
    ((d / 1000000 ^ (i + 1) % e) * 1000000 + d / 1000000 ^ i % 1000000) % e = d / 1000000 ^ i % e ∧
    1000000 * (d / 1000000 ^ (i + 1) / e) + ((d / 1000000 ^ (i + 1) % e) * 1000000 + d / 1000000 ^ i % 1000000) / e = d / 1000000 ^ i / e := by
  have ea : d / 1000000 ^ (i + 1) = d / 1000000 ^ i / 1000000 := by rw [Nat.pow_succ, ← Nat.div_div_eq_div_mul]
  rw [ea]
  generalize d / 1000000 ^ i = X
  have h1 : X = 1000000 * (X / 1000000) + X % 1000000 := by omega
  have h2 := Nat.div_add_mod (X / 1000000) e
  have h3 := Nat.mod_lt (X / 1000000) he
  have hx : X % 1000000 < 1000000 := Nat.mod_lt _ (by decide)
  generalize X / 1000000 = Y at *
  generalize X % 1000000 = x at *
  generalize Y / e = q at *
  generalize Y % e = r at *
  have h4 : X = (r * 1000000 + x) + e * (1000000 * q) := by
    rw [h1, ← h2, Nat.mul_add, ← Nat.mul_assoc, ← Nat.mul_assoc, Nat.mul_comm 1000000 e]; omega
  refine ⟨?_, ?_, ?_⟩
  · have : (r + 1) * 1000000 ≤ e * 1000000 := Nat.mul_le_mul_right _ (by omega)
    omega
  · rw [h4, Nat.add_mul_mod_self_left]
  · rw [h4, Nat.add_mul_div_left _ _ he]; omega

/-- The guess: from the highest digits. It is no less than the quotient, and no more than the base. -/
theorem guess_ok (R e s : Nat) (hs : 0 < s) (hD : 1000000 * s ≤ e) (hq : R / e < 1000000) :
    R / e ≤ R / s / (e / s) ∧ R / s / (e / s) ≤ 1000000 := by
  have he : 0 < e := by omega
  have hDB : 1000000 ≤ e / s := (Nat.le_div_iff_mul_le hs).2 hD
  have hD0 : 0 < e / s := by omega
  have e1 : e / s * s ≤ e := Nat.div_mul_le_self e s
  have e2 : e < (e / s + 1) * s := by have := Nat.lt_div_mul_add hs (a := e); rw [Nat.add_mul, Nat.one_mul]; omega
  constructor
  · rw [Nat.le_div_iff_mul_le hD0, Nat.le_div_iff_mul_le hs, Nat.mul_assoc]
    exact Nat.le_trans (Nat.mul_le_mul_left _ e1) (Nat.div_mul_le_self R e)
  · apply Nat.le_of_not_lt
    intro hc
    have h1 : 1000001 * (e / s) ≤ R / s := (Nat.le_div_iff_mul_le hD0).1 hc
    have h2 : 1000001 * (e / s) * s ≤ R := (Nat.le_div_iff_mul_le hs).1 h1
    have h3 : R < e * 1000000 := by
      have := Nat.lt_mul_div_succ R he
      have h5 : e * (R / e + 1) ≤ e * 1000000 := Nat.mul_le_mul_left _ hq
      omega
    have h4 : e * 1000000 < ((e / s + 1) * s) * 1000000 := Nat.mul_lt_mul_of_pos_right e2 (by decide)
    have h5 : 1000001 * (e / s) * s < ((e / s + 1) * s) * 1000000 := by omega
    have h6 : (1000001 * (e / s)) * s < ((e / s + 1) * 1000000) * s := by
      rw [Nat.mul_assoc (e / s + 1) s 1000000, Nat.mul_comm s 1000000, ← Nat.mul_assoc] at h5; exact h5
    have := Nat.lt_of_mul_lt_mul_right h6
    omega
/-- The three digits ahead, and the two of the divisor. -/
theorem three_ahead (R t : Nat) (h : R < 1000000 ^ (t + 3)) :
    (R / 1000000 ^ (t + 2) % 1000000 * 1000000 + R / 1000000 ^ (t + 1) % 1000000) * 1000000 + R / 1000000 ^ t % 1000000 = R / 1000000 ^ t := by
  have e2 : R / 1000000 ^ (t + 2) = R / 1000000 ^ t / 1000000 / 1000000 := by rw [Nat.pow_succ, Nat.pow_succ, ← Nat.div_div_eq_div_mul, ← Nat.div_div_eq_div_mul]
  have e1 : R / 1000000 ^ (t + 1) = R / 1000000 ^ t / 1000000 := by rw [Nat.pow_succ, ← Nat.div_div_eq_div_mul]
  have hl : R / 1000000 ^ t < 1000000 * 1000000 * 1000000 := Nat.div_lt_of_lt_mul (by rw [Nat.pow_succ, Nat.pow_succ, Nat.pow_succ] at h; simpa [Nat.mul_assoc] using h)
  rw [e2, e1]
  generalize R / 1000000 ^ t = X at *
  omega
theorem two_ahead (e t : Nat) (h : e < 1000000 ^ (t + 2)) : e / 1000000 ^ (t + 1) % 1000000 * 1000000 + e / 1000000 ^ t % 1000000 = e / 1000000 ^ t := by
  have e1 : e / 1000000 ^ (t + 1) = e / 1000000 ^ t / 1000000 := by rw [Nat.pow_succ, ← Nat.div_div_eq_div_mul]
  have hl : e / 1000000 ^ t < 1000000 * 1000000 := Nat.div_lt_of_lt_mul (by rw [Nat.pow_succ, Nat.pow_succ] at h; simpa [Nat.mul_assoc] using h)
  rw [e1]
  generalize e / 1000000 ^ t = X at *
  omega
end Go.Proofs.YthbfbpbppjkoeaaGreatDoor.Bg
