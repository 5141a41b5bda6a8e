/- Plain facts of package big: numbers in decimal. Nothing is said of the program here. -/
import Derived.Test.YthbfbpbppjkoeaaGreatDoorBigPa
import Derived.Lib.AtoiTie
import Derived.Lib.SlTrimSet
namespace Go.Proofs.YthbfbpbppjkoeaaGreatDoor.Bg
open Go

/-- k places in decimal. -/
def padN (k u : Nat) : List UInt8 := (List.range k).map fun t => Lib.dg u (k - 1 - t)
theorem padN_length (k u : Nat) : (padN k u).length = k := by simp [padN]
theorem padN_digits (u : Nat) : Lib.decDigits u = padN (Lib.nDigits u) u := Lib.decDigits_eq u
theorem dg_add (u v m j : Nat) (hj : j < m) : Lib.dg (u * 10 ^ m + v) j = Lib.dg v j := by
  unfold Lib.dg
  have e : u * 10 ^ m + v = v + 10 ^ j * (u * 10 ^ (m - 1 - j) * 10) := by
    have : 10 ^ m = 10 ^ j * (10 ^ (m - 1 - j) * 10) := by rw [← Nat.pow_succ, ← Nat.pow_add]; congr 1; omega
    rw [this, Nat.mul_left_comm, Nat.mul_assoc]; omega
  rw [e, Nat.add_mul_div_left _ _ (Nat.pow_pos (by decide)), Nat.add_mul_mod_self_right]
theorem dg_above (u v m j : Nat) (hv : v < 10 ^ m) : Lib.dg (u * 10 ^ m + v) (m + j) = Lib.dg u j := by
  unfold Lib.dg
  rw [Nat.pow_add, ← Nat.div_div_eq_div_mul, Nat.add_comm (u * 10 ^ m), Nat.add_mul_div_right _ _ (Nat.pow_pos (by decide)), Nat.div_eq_of_lt hv, Nat.zero_add]
theorem padN_append (k m u v : Nat) (hv : v < 10 ^ m) : padN k u ++ padN m v = padN (k + m) (u * 10 ^ m + v) := by
  refine List.ext_getElem? fun i => ?_
  unfold padN
  by_cases h1 : i < k
  · rw [List.getElem?_append_left (by simpa using h1), List.getElem?_map, List.getElem?_map, List.getElem?_range h1, List.getElem?_range (by omega)]
    simp only [Option.map_some]
    rw [show k + m - 1 - i = m + (k - 1 - i) by omega, dg_above u v m _ hv]
  · rw [List.getElem?_append_right (by simpa using h1)]
    by_cases h2 : i < k + m
    · rw [List.getElem?_map, List.getElem?_map, List.length_map, List.length_range, List.getElem?_range (by omega), List.getElem?_range h2]
      simp only [Option.map_some]
      rw [show k + m - 1 - i = m - 1 - (i - k) by omega, dg_add u v m _ (by omega)]
    · rw [List.getElem?_eq_none (by simp; omega), List.getElem?_eq_none (by simp; omega)]
theorem padN_zero (k : Nat) : padN k 0 = List.replicate k 48 := by
  refine List.ext_getElem? fun i => ?_
  unfold padN
  by_cases h : i < k
  · rw [List.getElem?_map, List.getElem?_range h, List.getElem?_replicate, if_pos h]; simp [Lib.dg]
  · rw [List.getElem?_eq_none (by simp; omega), List.getElem?_eq_none (by simp; omega)]
theorem nDigits_million {x : Nat} (h : x < 1000000) : Lib.nDigits (1000000 + x) = 7 := Lib.nDigits_unique 6 _ (by simp) (by simp; omega)
theorem pad6 (x : Nat) (h : x < 1000000) : (Lib.decDigits (1000000 + x)).drop 1 = padN 6 x := by
  rw [padN_digits, nDigits_million h, show 1000000 + x = 1 * 10 ^ 6 + x by simp, ← padN_append 1 6 1 x (by simpa using h)]
  rfl
theorem itoa_million (x : Nat) : Lib.itoa ((1000000 + x : Nat) : Int) = Lib.decDigits (1000000 + x) := by
  unfold Lib.itoa
  rw [if_neg (by omega)]
  rfl
theorem nDigits_div : ∀ (k n : Nat), n / 10 ^ k ≠ 0 → Lib.nDigits n = Lib.nDigits (n / 10 ^ k) + k
  | 0, n, _ => by simp
  | k + 1, n, h => by
    have e : n / 10 ^ (k + 1) = n / 10 / 10 ^ k := by rw [Nat.pow_succ, Nat.mul_comm, Nat.div_div_eq_div_mul]
    rw [e] at h ⊢
    have h10 : ¬ n < 10 := fun hc => h (by rw [Nat.div_eq_of_lt hc]; simp)
    rw [Lib.nDigits_big h10, nDigits_div k (n / 10) h]
    omega
theorem pow6 (k : Nat) : 1000000 ^ k = 10 ^ (6 * k) := by rw [Nat.pow_mul]
/-- How many digits, from the highest one to the base. -/
theorem count_eq (n k : Nat) (h : (ds n).length = k + 1) : Lib.nDigits n = k * 6 + Lib.nDigits (n / 1000000 ^ k % 1000000) := by
  have h0 := top_pos n k h
  have h2 := lt_pow_len n
  rw [h, Nat.pow_succ] at h2
  have h3 : n / 1000000 ^ k < 1000000 := Nat.div_lt_of_lt_mul (by rw [Nat.mul_comm] at h2; rw [Nat.mul_comm]; exact h2)
  rw [Nat.mod_eq_of_lt h3] at h0 ⊢
  rw [pow6] at h0 ⊢
  rw [nDigits_div (6 * k) n h0]
  omega

/-- A numeral begins with no zero, but that of 0. -/
theorem decDigits_head (u : Nat) (h : u ≠ 0) : ∃ b r, Lib.decDigits u = b :: r ∧ b ≠ 48 := by
  induction u using Nat.strongRecOn with
  | _ u ih =>
    by_cases h10 : u < 10
    · refine ⟨UInt8.ofNat (48 + u), [], by rw [Lib.decDigits, dif_pos h10], fun e => ?_⟩
      have := congrArg UInt8.toNat e
      simp at this
      omega
    · obtain ⟨b, r, e, hb⟩ := ih (u / 10) (by omega) (by omega)
      exact ⟨b, r ++ [UInt8.ofNat (48 + u % 10)], by rw [Lib.decDigits, dif_neg h10, e]; rfl, hb⟩
theorem pow_nDigits (u : Nat) (h : u ≠ 0) : 10 ^ (Lib.nDigits u - 1) ≤ u := by
  induction u using Nat.strongRecOn with
  | _ u ih =>
    by_cases h10 : u < 10
    · rw [Lib.nDigits_small h10]; simp; omega
    · rw [Lib.nDigits_big h10]
      have := ih (u / 10) (by omega) (by omega)
      have hp := Lib.nDigits_pos (u / 10)
      obtain ⟨k, hk⟩ : ∃ k, Lib.nDigits (u / 10) = k + 1 := ⟨Lib.nDigits (u / 10) - 1, by omega⟩
      rw [hk] at this ⊢
      simp only [Nat.add_sub_cancel] at this ⊢
      rw [Nat.pow_succ]; omega
theorem nDigits_le {u k : Nat} (h : u < 10 ^ k) (hk : 1 ≤ k) : Lib.nDigits u ≤ k := by
  by_cases h0 : u = 0
  · subst h0; rw [Lib.nDigits_small (by decide)]; exact hk
  · have h1 := Nat.lt_of_le_of_lt (pow_nDigits u h0) h
    have := (Nat.pow_lt_pow_iff_right (a := 10) (by decide)).1 h1
    omega
theorem lt_of_nDigits {u k : Nat} (h : Lib.nDigits u ≤ k) : u < 10 ^ k := Nat.lt_of_lt_of_le (Lib.lt_pow_nDigits u) (Nat.pow_le_pow_right (by decide) h)
/-- Without zeros ahead. -/
theorem trim_pad (k u : Nat) (h : u < 10 ^ k) : Lib.trimLeftS (padN k u) [48] = if u = 0 then [] else Lib.decDigits u := by
  have hz : ∀ (j : Nat) (l : List UInt8), Lib.trimLeftS (List.replicate j 48 ++ l) [48] = Lib.trimLeftS l [48] := by
    intro j l
    induction j with
    | zero => rfl
    | succ j ih => rw [List.replicate_succ, List.cons_append]; unfold Lib.trimLeftS at ih ⊢; rw [List.dropWhile_cons_of_pos (by rfl), ih]
  by_cases h0 : u = 0
  · subst h0
    rw [if_pos rfl, padN_zero, ← List.append_nil (List.replicate k 48), hz]; rfl
  · rw [if_neg h0]
    have hk : 1 ≤ k := by
      cases k with
      | zero => simp at h; omega
      | succ k => omega
    have hn := nDigits_le h hk
    have e : padN k u = List.replicate (k - Lib.nDigits u) 48 ++ Lib.decDigits u := by
      rw [padN_digits, ← padN_zero, padN_append _ _ 0 u (Lib.lt_pow_nDigits u), Nat.zero_mul, Nat.zero_add, Nat.sub_add_cancel hn]
    rw [e, hz]
    obtain ⟨b, r, e2, hb⟩ := decDigits_head u h0
    rw [e2]
    unfold Lib.trimLeftS
    rw [List.dropWhile_cons_of_neg (by rw [Lib.contains_one]; simpa using hb)]
theorem decDigits_zero : Lib.decDigits 0 = [48] := by rw [Lib.decDigits, dif_pos (by decide)]; rfl

/-! Reading. -/
def isDig (b : UInt8) : Bool := decide (48 ≤ b.toNat) && decide (b.toNat ≤ 57)
/-- What a row of digits spells, behind the number acc. -/
def dvF (acc : Nat) (l : List UInt8) : Nat := l.foldl (fun a b => a * 10 + (b.toNat - 48)) acc
theorem dvF_nil (acc : Nat) : dvF acc [] = acc := rfl
theorem dvF_cons (acc : Nat) (b : UInt8) (r : List UInt8) : dvF acc (b :: r) = dvF (acc * 10 + (b.toNat - 48)) r := by unfold dvF; rw [List.foldl_cons]
theorem dvF_append (a b : List UInt8) (acc : Nat) : dvF acc (a ++ b) = dvF (dvF acc a) b := by unfold dvF; rw [List.foldl_append]
def dv (l : List UInt8) : Nat := dvF 0 l
theorem dvF_eq : ∀ (l : List UInt8) (acc : Nat), dvF acc l = acc * 10 ^ l.length + dv l
  | [], acc => by rw [dv, dvF_nil, dvF_nil]; simp
  | b :: r, acc => by
    have e1 := dvF_eq r (acc * 10 + (b.toNat - 48))
    have e2 := dvF_eq r (0 * 10 + (b.toNat - 48))
    have e3 : dv (b :: r) = dvF (0 * 10 + (b.toNat - 48)) r := by unfold dv; rw [dvF_cons]
    rw [dvF_cons, e1, e3, e2, List.length_cons, Nat.pow_succ, Nat.add_mul, Nat.zero_mul, Nat.zero_add, Nat.mul_assoc, Nat.mul_comm 10]
    omega
theorem dv_append (a b : List UInt8) : dv (a ++ b) = dv a * 10 ^ b.length + dv b := by unfold dv; rw [dvF_append, dvF_eq]; rfl
theorem dv_snoc (a : List UInt8) (b : UInt8) : dv (a ++ [b]) = dv a * 10 + (b.toNat - 48) := by rw [dv_append]; unfold dv; rw [dvF_cons, dvF_nil]; simp
theorem dv_lt : ∀ (l : List UInt8), (∀ b ∈ l, isDig b = true) → dv l < 10 ^ l.length := by
  intro l
  induction l with
  | nil => intro _; decide
  | cons b r ih =>
    intro h
    have h1 := ih (fun x hx => h x (by simp [hx]))
    have h2 := h b (by simp)
    simp only [isDig, Bool.and_eq_true, decide_eq_true_eq] at h2
    unfold dv
    rw [dvF_cons, dvF_eq, List.length_cons, Nat.pow_succ]
    have : (0 * 10 + (b.toNat - 48)) * 10 ^ r.length ≤ 9 * 10 ^ r.length := Nat.mul_le_mul_right _ (by omega)
    omega
theorem dig_toNat (d : Nat) (h : d < 10) : (UInt8.ofNat (48 + d)).toNat = 48 + d := by simp; omega
theorem decDigits_isDig (u : Nat) : ∀ b ∈ Lib.decDigits u, isDig b = true := by
  rw [Lib.decDigits_eq]
  intro b hb
  obtain ⟨t, _, rfl⟩ := List.mem_map.1 hb
  unfold Lib.dg isDig
  rw [dig_toNat _ (Nat.mod_lt _ (by decide))]
  have := Nat.mod_lt (u / 10 ^ (Lib.nDigits u - 1 - t)) (by decide : 0 < 10)
  simp; omega
theorem dv_decDigits (u : Nat) : dv (Lib.decDigits u) = u := by
  induction u using Nat.strongRecOn with
  | _ u ih =>
    by_cases h : u < 10
    · rw [Lib.decDigits, dif_pos h]; unfold dv; rw [dvF_cons, dvF_nil, dig_toNat u h]; omega
    · rw [Lib.decDigits, dif_neg h, dv_snoc, ih _ (by omega), dig_toNat _ (by omega)]; omega
/-- What reads as a number without superfluous zeros is its numeral. -/
theorem decDigits_dv (l : List UInt8) (hd : ∀ b ∈ l, isDig b = true) (b0 : UInt8) (r : List UInt8) (hl : l = b0 :: r) (h0 : b0 ≠ 48 ∨ r = []) : Lib.decDigits (dv l) = l := by
  have key : ∀ (r : List UInt8), (∀ b ∈ b0 :: r, isDig b = true) → (b0 ≠ 48 ∨ r = []) → Lib.decDigits (dv (b0 :: r)) = b0 :: r := by
    intro r
    induction h : r.length generalizing r with
    | zero =>
      intro hd _
      obtain rfl := List.length_eq_zero_iff.1 h
      have h2 := hd b0 (by simp)
      simp only [isDig, Bool.and_eq_true, decide_eq_true_eq] at h2
      have e : dv [b0] = b0.toNat - 48 := by unfold dv; rw [dvF_cons, dvF_nil]; omega
      rw [e, Lib.decDigits, dif_pos (by omega)]
      congr 1
      apply UInt8.toNat_inj.1
      rw [dig_toNat _ (by omega)]
      omega
    | succ n ih =>
      intro hd h0
      have hne : r ≠ [] := fun e => by rw [e] at h; cases h
      have hb : b0 ≠ 48 := h0.resolve_right hne
      obtain ⟨r', x, rfl⟩ : ∃ r' x, r = r' ++ [x] := ⟨r.dropLast, r.getLast hne, (List.dropLast_concat_getLast hne).symm⟩
      have hx := hd x (by simp)
      simp only [isDig, Bool.and_eq_true, decide_eq_true_eq] at hx
      have ih' := ih r' (by simpa using h) (fun b hb => hd b (by simp at hb ⊢; rcases hb with hb | hb <;> simp [hb])) (.inl hb)
      rw [← List.cons_append, dv_snoc]
      have hpos : dv (b0 :: r') ≠ 0 := by
        intro e
        rw [e, decDigits_zero] at ih'
        injection ih' with e1 _
        exact hb e1.symm
      rw [Lib.decDigits, dif_neg (by omega), show (dv (b0 :: r') * 10 + (x.toNat - 48)) / 10 = dv (b0 :: r') by omega, ih', show (dv (b0 :: r') * 10 + (x.toNat - 48)) % 10 = x.toNat - 48 by omega]
      congr 2
      apply UInt8.toNat_inj.1
      rw [dig_toNat _ (by omega)]
      omega
  subst hl
  exact key r hd h0

/-! What Go's library reads. -/
theorem parse_eq : ∀ (l : List UInt8) (acc : Nat), (∀ b ∈ l, isDig b = true) → acc < 18446744073709551616 →
    Lib.parseUint10 acc l = if dvF acc l < 18446744073709551616 then .ok (dvF acc l) else .range
  | [], acc, _, ha => by rw [Lib.parseUint10, dvF_nil, if_pos ha]
  | c :: r, acc, hd, ha => by
    have hc := hd c (by simp)
    simp only [isDig, Bool.and_eq_true, decide_eq_true_eq] at hc
    have hge : (acc * 10 + (c.toNat - 48)) ≤ dvF (acc * 10 + (c.toNat - 48)) r := by
      rw [dvF_eq]
      have := Nat.mul_le_mul_left (acc * 10 + (c.toNat - 48)) (Nat.one_le_pow r.length 10 (by decide))
      omega
    rw [Lib.parseUint10, if_pos ⟨hc.1, hc.2⟩, dvF_cons]
    by_cases h1 : 1844674407370955162 ≤ acc
    · rw [if_pos h1, if_neg (by omega)]
    · rw [if_neg h1]
      by_cases h2 : 18446744073709551616 ≤ acc * 10 + (c.toNat - 48)
      · rw [if_pos h2, if_neg (by omega)]
      · rw [if_neg h2, parse_eq r _ (fun b hb => hd b (by simp [hb])) (by omega)]
theorem parseMag_digits (u : Nat) : Lib.parseMag (Lib.decDigits u) = if u < 18446744073709551616 then .ok u else .range := by
  have hne : Lib.decDigits u ≠ [] := fun e => by have := Lib.decDigits_length u; rw [e] at this; have := Lib.nDigits_pos u; simp at *; omega
  unfold Lib.parseMag
  rw [if_neg hne, parse_eq _ _ (decDigits_isDig u) (by decide)]
  have e : dvF 0 (Lib.decDigits u) = u := dv_decDigits u
  rw [e]
theorem isDig_not {b : UInt8} (h : isDig b = true) : b.toNat ≠ 43 ∧ b.toNat ≠ 45 := by
  simp only [isDig, Bool.and_eq_true, decide_eq_true_eq] at h; omega
/-- Atoi of the text of a number. -/
theorem atoi_itoa (z : Int) : Lib.atoiAll (Lib.itoa z) = if -9223372036854775808 ≤ z ∧ z ≤ 9223372036854775807 then .ok z else .range := by
  by_cases hz : z < 0
  · rw [Lib.itoa, if_pos hz, Lib.atoiAll_minus, parseMag_digits]
    by_cases h1 : z.natAbs < 18446744073709551616
    · rw [if_pos h1]
      unfold Lib.signed
      by_cases h2 : -9223372036854775808 ≤ z
      · rw [if_pos ⟨h2, by omega⟩]
        simp only
        rw [if_neg (by omega)]
        congr 1; omega
      · rw [if_neg (fun h => h2 h.1)]
        simp only
        rw [if_pos (by omega)]
    · rw [if_neg h1, if_neg (by omega)]; rfl
  · rw [Lib.itoa, if_neg hz]
    obtain ⟨b, r, e⟩ : ∃ b r, Lib.decDigits z.toNat = b :: r := by
      cases h : Lib.decDigits z.toNat with
      | nil => have := Lib.decDigits_length z.toNat; rw [h] at this; have := Lib.nDigits_pos z.toNat; simp at *; omega
      | cons b r => exact ⟨b, r, rfl⟩
    have hb := isDig_not (decDigits_isDig z.toNat b (by rw [e]; simp))
    have hp := parseMag_digits z.toNat
    rw [e] at hp ⊢
    rw [Lib.atoiAll_plain b r hb.1 hb.2, hp]
    by_cases h1 : z.toNat < 18446744073709551616
    · rw [if_pos h1]
      unfold Lib.signless
      by_cases h2 : z ≤ 9223372036854775807
      · rw [if_pos ⟨by omega, h2⟩]
        simp only
        rw [if_neg (by omega)]
        congr 1; omega
      · rw [if_neg (fun h => h2 h.2)]
        simp only
        rw [if_pos (by omega)]
    · rw [if_neg h1, if_neg (by omega)]; rfl
/-- Atoi of a few digits. -/
theorem atoi_few (l : List UInt8) (hd : ∀ b ∈ l, isDig b = true) (hne : l ≠ []) (hl : l.length ≤ 18) : Lib.atoiAll l = .ok (dv l : Int) := by
  obtain ⟨b, r, rfl⟩ : ∃ b r, l = b :: r := by
    cases l with
    | nil => exact absurd rfl hne
    | cons b r => exact ⟨b, r, rfl⟩
  have hb := isDig_not (hd b (by simp))
  have hlt := dv_lt _ hd
  have hp : 10 ^ (b :: r).length ≤ 10 ^ 18 := Nat.pow_le_pow_right (by decide) hl
  have e18 : (10 : Nat) ^ 18 = 1000000000000000000 := by decide
  rw [Lib.atoiAll_plain b r hb.1 hb.2]
  unfold Lib.parseMag
  rw [if_neg (by simp), parse_eq _ _ hd (by decide)]
  change Lib.signless (if dv (b :: r) < _ then .ok (dv (b :: r)) else _) = _
  rw [if_pos (by omega)]
  unfold Lib.signless
  simp only
  rw [if_neg (by omega)]

/-- The columns of a text, the lowest first: one more. -/
theorem chunk_step (s : List UInt8) (a e i : Nat) (hae : a ≤ e) (he : e ≤ s.length) (hi : s.length - e = 6 * i) :
    dv (s.drop a) = dv ((s.take e).drop a) * 1000000 ^ i + dv (s.drop e) := by
  have : s.drop a = (s.take e).drop a ++ s.drop e := by
    conv => lhs; rw [← List.take_append_drop e s]
    rw [List.drop_append_of_le_length (by rw [List.length_take]; omega)]
  rw [this, dv_append, List.length_drop, hi, pow6]

/-! Texts of numbers. -/
/-- The number that a text is of. -/
def txt (s : List UInt8) : Option Int :=
  match s with
  | 45 :: r => if (∀ b ∈ r, isDig b = true) ∧ r ≠ [] ∧ r.head? ≠ some 48 ∧ r.length ≤ 400 then some (-(dv r : Int)) else none
  | r => if (∀ b ∈ r, isDig b = true) ∧ r ≠ [] ∧ (r.head? ≠ some 48 ∨ r = [48]) ∧ r.length ≤ 400 then some (dv r : Int) else none
end Go.Proofs.YthbfbpbppjkoeaaGreatDoor.Bg
