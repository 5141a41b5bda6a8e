/- Contract of the laws' helper nines of package proteuslaw03: the rest by 9 of a number, from its text. Conditions: those in the statements. -/
import Derived.Test.YthbfbpbppjkoeaaGreatDoorBigLb
import Derived.IntWalk
namespace Go.Proofs.YthbfbpbppjkoeaaGreatDoor
open Go.RowKit Go.Shelf
set_option maxRecDepth 100000

/-- The sum of the digits of the first bytes. -/
def dsum (s : List UInt8) : Nat → Nat
  | 0 => 0
  | k + 1 => if s[k]? = some 45 then dsum s k else dsum s k + ((s[k]?.getD 48).toNat - 48)
def nine (s : List UInt8) : Nat := if s.head? = some 45 then (9 - dsum s s.length % 9) % 9 else dsum s s.length % 9
theorem dsum_le (s : List UInt8) (hd : ∀ b ∈ s, b = 45 ∨ Bg.isDig b = true) : ∀ k, k ≤ s.length → dsum s k ≤ 9 * k
  | 0, _ => Nat.le_refl _
  | k + 1, h => by
    have ih := dsum_le s hd k (by omega)
    unfold dsum
    have hk : s[k]? = some s[k] := List.getElem?_eq_getElem (by omega)
    rw [hk]
    rcases hd s[k] (List.getElem_mem _) with h1 | h1
    · rw [if_pos (by rw [h1])]; omega
    · simp only [Bg.isDig, Bool.and_eq_true, decide_eq_true_eq] at h1
      split
      · omega
      · simp only [Option.getD_some]; omega

set_option maxHeartbeats 1000000 in
theorem nines_c (s : List UInt8) (hd : ∀ b ∈ s, b = 45 ∨ Bg.isDig b = true) (hl : s.length ≤ 500) (w : World) :
    Calls Tryz.prog 45 #[.string ⟨s.toArray⟩] w fun e w' => e = .returned (.int .i64 (nine s)) ∧ w' = w := by
  have hss : (⟨s.toArray⟩ : ByteArray).size = s.length := by simp [ByteArray.size]
  have HDl := Lib.hid (dsum_le s hd)
  have HDg := Lib.hid hd
  clear hd
  go_enter Tryz.func45, Tryz.ntmps45
  go_wp2_with fail
  go_loopg [3, 4] s.length (fun g n i wr => ∃ k m : Nat, k ≤ s.length ∧ n = .int .i64 m ∧ i = .int .i64 k ∧ Hid (m = dsum s k) ∧ m ≤ 9 * k ∧ wr = w ∧ g = s.length - k)
  case atStart => exact ⟨0, 0, Nat.zero_le _, rfl, rfl, Lib.hid rfl, Nat.le_refl _, rfl, rfl⟩
  case round =>
    obtain ⟨k, m, hk, rfl, rfl, HM, hmk, rfl, hg⟩ := hrel
    by_cases hE : k = s.length
    · have dE : decide ((k : Int) < (s.length : Int)) = false := decide_eq_false (by omega)
      have dEn : decide (k < s.length) = false := decide_eq_false (by omega)
      have HE := Lib.hid hE
      clear hE
      have ht : (m : Int).tmod 9 = ((m % 9 : Nat) : Int) := by rw [Int.tmod_eq_emod_of_nonneg (by omega)]; rfl
      have hnine : nine s = if s.head? = some 45 then (9 - m % 9) % 9 else m % 9 := by unfold nine; rw [← HE.out, ← HM.out]
      obtain ⟨q, hq⟩ : ∃ q, m % 9 = q := ⟨_, rfl⟩
      have hq9 : q ≤ 8 := by omega
      rw [hq] at ht hnine
      have ht2 : ((9 : Int) - (q : Int)).tmod 9 = (((9 - q) % 9 : Nat) : Int) := by rw [Int.tmod_eq_emod_of_nonneg (by omega)]; omega
      have HNine := Lib.hid hnine
      clear hq hnine
      have hb9 : (q : Int) ≤ 8 := by omega
      by_cases h0 : s.length = 0
      · have d0 : decide ((0 : Int) < (s.length : Int)) = false := decide_eq_false (by omega)
        have d0n : decide (0 < s.length) = false := decide_eq_false (by omega)
        have hnil : s = [] := List.eq_nil_of_length_eq_zero h0
        have HR := Lib.hid (show nine s = q by rw [HNine.out, hnil]; rfl)
        clear h0 hnil
        go_wp2_with fail
        go_ret
        exact ⟨by rw [HR.out]; rfl, rfl⟩
      · have d0 : decide ((0 : Int) < (s.length : Int)) = true := decide_eq_true (by omega)
        have hlt : 0 < s.length := by omega
        clear h0
        obtain ⟨c, hc⟩ : ∃ c, s[0]? = some c := ⟨_, List.getElem?_eq_getElem hlt⟩
        have hget : (⟨s.toArray⟩ : ByteArray)[0]'(by rw [hss]; exact hlt) = c := by
          have := (List.getElem?_eq_some_iff.1 hc).2
          exact this
        have hhd : s.head? = some c := by rw [List.head?_eq_getElem?]; exact hc
        by_cases h45 : c = 45
        · have d45 : ((c.toNat : Int) == 45) = true := by rw [h45]; rfl
          have HR := Lib.hid (show nine s = (9 - q) % 9 by rw [HNine.out, hhd, if_pos (by rw [h45])])
          clear h45 hc hhd
          go_wp2_with fail
          go_ret
          exact ⟨by rw [HR.out]; rfl, rfl⟩
        · have d45 : ((c.toNat : Int) == 45) = false := beq_eq_false_iff_ne.2 (fun e => h45 (UInt8.toNat_inj.1 (by have : (45 : UInt8).toNat = 45 := rfl; omega)))
          have HR := Lib.hid (show nine s = q by rw [HNine.out, hhd, if_neg (fun e => h45 (Option.some.inj e))])
          clear h45 hc hhd
          go_wp2_with fail
          go_ret
          exact ⟨by rw [HR.out]; rfl, rfl⟩
    · have hlt : k < s.length := by omega
      have dE : decide ((k : Int) < (s.length : Int)) = true := decide_eq_true (by omega)
      clear hE
      obtain ⟨c, hc⟩ : ∃ c, s[k]? = some c := ⟨_, List.getElem?_eq_getElem hlt⟩
      have hget : (⟨s.toArray⟩ : ByteArray)[k]'(by rw [hss]; exact hlt) = c := by
        have := (List.getElem?_eq_some_iff.1 hc).2
        exact this
      have HCd := Lib.hid (HDg.out c (List.mem_of_getElem? hc))
      have hbs : dsum s (k + 1) = if s[k]? = some 45 then dsum s k else dsum s k + ((s[k]?.getD 48).toNat - 48) := rfl
      rw [hc] at hbs
      have HBS := Lib.hid hbs
      clear hc hbs
      by_cases h45 : c = 45
      · have d45 : ((c.toNat : Int) != 45) = false := by rw [h45]; rfl
        have HN := Lib.hid (HBS.out.trans (if_pos (by rw [h45])))
        clear h45 HBS HCd
        go_wp2_with fail
        go_roundg (s.length - (k + 1))
        case rel => exact ⟨k + 1, m, hlt, rfl, by simp, Lib.hid (by rw [HN.out]; exact HM.out), by omega, rfl, rfl⟩
        case measure => omega
      · obtain ⟨v, hv, hv9⟩ : ∃ v, c.toNat = v + 48 ∧ v ≤ 9 := by
          rcases HCd.out with h | h
          · exact absurd h h45
          · simp only [Bg.isDig, Bool.and_eq_true, decide_eq_true_eq] at h
            exact ⟨c.toNat - 48, by omega, by omega⟩
        have d45 : ((c.toNat : Int) != 45) = true := by rw [bne_iff_ne]; omega
        have HN := Lib.hid (HBS.out.trans (if_neg (fun e => h45 (Option.some.inj e))))
        have HV := Lib.hid hv
        have hw1 : IntKind.u8.wrap ((c.toNat : Int) - 48) = v := by rw [show (c.toNat : Int) - 48 = (v : Int) by omega]; exact IntWalk.u8_in _ (by omega)
        clear h45 HBS HCd hv
        go_wp2_with fail
        go_roundg (s.length - (k + 1))
        case rel => exact ⟨k + 1, m + v, hlt, by simp, by simp, Lib.hid (by rw [HN.out, HM.out, Option.getD_some, HV.out]; omega), by omega, rfl, rfl⟩
        case measure => omega

theorem dsum_minus (r : List UInt8) : ∀ k, dsum (45 :: r) (k + 1) = dsum r k
  | 0 => rfl
  | k + 1 => by
    have ih := dsum_minus r k
    show (if (45 :: r)[k + 1]? = some 45 then dsum (45 :: r) (k + 1) else dsum (45 :: r) (k + 1) + (((45 :: r)[k + 1]?.getD 48).toNat - 48)) = (if r[k]? = some 45 then dsum r k else dsum r k + ((r[k]?.getD 48).toNat - 48))
    rw [ih, List.getElem?_cons_succ]
theorem dsum_mod (r : List UInt8) (hd : ∀ b ∈ r, Bg.isDig b = true) : ∀ k, k ≤ r.length → dsum r k % 9 = Bg.dv (r.take k) % 9
  | 0, _ => by simp [dsum, Bg.dv, Bg.dvF]
  | k + 1, h => by
    have ih := dsum_mod r hd k (by omega)
    have hk : r[k]? = some r[k] := List.getElem?_eq_getElem (by omega)
    have hdig := hd r[k] (List.getElem_mem _)
    simp only [Bg.isDig, Bool.and_eq_true, decide_eq_true_eq] at hdig
    have hne : r[k] ≠ 45 := fun e => by rw [e] at hdig; have : (45 : UInt8).toNat = 45 := rfl; omega
    rw [List.take_add_one, hk, Option.toList_some, Bg.dv_snoc]
    unfold dsum
    rw [hk, if_neg (fun e => hne (Option.some.inj e)), Option.getD_some]
    omega
theorem itoa_bytes (z : Int) : ∀ b ∈ Lib.itoa z, b = 45 ∨ Bg.isDig b = true := by
  intro b hb
  unfold Lib.itoa at hb
  split at hb
  · rcases List.mem_cons.1 hb with h | h
    · exact .inl h
    · exact .inr (Bg.decDigits_isDig _ b h)
  · exact .inr (Bg.decDigits_isDig _ b hb)
theorem nine_itoa (z : Int) : ((nine (Lib.itoa z) : Nat) : Int) = z % 9 := by
  have key : ∀ u, dsum (Lib.decDigits u) (Lib.decDigits u).length % 9 = u % 9 := fun u => by
    rw [dsum_mod _ (Bg.decDigits_isDig u) _ (Nat.le_refl _), List.take_length, Bg.dv_decDigits]
  unfold nine Lib.itoa
  split
  · rename_i hz
    rw [List.head?_cons, if_pos rfl, List.length_cons, dsum_minus, key]
    omega
  · rename_i hz
    rw [if_neg (Bg.head_dig z.toNat), key]
    omega
/-- nines of a number's text. -/
theorem nines_num {z n : Int} {t : List UInt8} (hf : Few z) (ht : t = Lib.itoa z) (hn : z % 9 = n) (w : World) :
    Calls Tryz.prog 45 #[.string ⟨t.toArray⟩] w fun e w' => e = .returned (.int .i64 n) ∧ Below w.heap.size w w' := by
  subst ht hn
  have hl : (Lib.itoa z).length ≤ 500 := by
    unfold Few at hf
    unfold Lib.itoa
    split
    · rw [List.length_cons, Lib.decDigits_length]; omega
    · rw [Lib.decDigits_length, show z.toNat = z.natAbs by omega]; omega
  refine (nines_c (Lib.itoa z) (itoa_bytes z) hl w).mono ?_
  rintro e w' ⟨h, rfl⟩
  exact ⟨by rw [h, nine_itoa], Below.refl _ _⟩
end Go.Proofs.YthbfbpbppjkoeaaGreatDoor
