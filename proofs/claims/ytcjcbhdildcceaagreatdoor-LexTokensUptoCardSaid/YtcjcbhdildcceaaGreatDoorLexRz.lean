/- Contracts, joined of several texts: Px, Pn, Ra, Rc, Rd, Rw2, Rq, Rf, Rj. Conditions: those in the statements. -/
import Derived.Test.YtcjcbhdildcceaaGreatDoorLexPw
import Derived.Test.YtcjcbhdildcceaaGreatDoorLexPk
import Derived.Test.YtcjcbhdildcceaaGreatDoorLexRp
import Derived.Test.YtcjcbhdildcceaaGreatDoorLexPa
import Derived.Test.YtcjcbhdildcceaaGreatDoorLexPg
import Derived.Test.YtcjcbhdildcceaaGreatDoorLexAk
import Derived.Test.YtcjcbhdildcceaaGreatDoorLexRs
/- Plain: the Kind of a word from its parts, and a string's text byte by byte. Nothing is said of the program here. -/
namespace Go.Proofs.YtcjcbhdildcceaaGreatDoor

theorem take_run (p : UInt8 → Bool) (t : List UInt8) : t.take (Lx.runN p t) = t.takeWhile p :=
  (List.prefix_iff_eq_take.1 (List.takeWhile_prefix p (l := t))).symm
/-- The Kind of a word, from its first byte, its run, and whether a colon stands behind. -/
def Lx.kindOfW (b c : UInt8) (n : Nat) (colon : Bool) : Nat :=
  if n = 0 ∨ 24 < n then 0
  else if capital c && b == 95 then 4
  else if capital c && colon then 3
  else if small c && !(b == 95) && colon then 2
  else if small c && !(b == 95) then 1
  else 0
theorem word_take (b : UInt8) (t : List UInt8) : (b :: t).take (Lx.wordN (b :: t)) = (b :: t.take (Lx.runN Lx.wordByte t)) ++ (if t[Lx.runN Lx.wordByte t]? = some 58 then [58] else []) := by
  by_cases hc : t[Lx.runN Lx.wordByte t]? = some 58
  · rw [wordN_colon b t hc, if_pos hc, List.take_succ_cons, List.take_add_one, hc]
    rfl
  · rw [wordN_plain b t hc, if_neg hc, List.take_succ_cons, List.append_nil]
theorem word_kind (b : UInt8) (t : List UInt8) (hb : (Lx.letter b || b == 95) = true) :
    Lx.wordKind ((b :: t).take (Lx.wordN (b :: t))) = Lx.kindOfW b (if b == 95 then t.head?.getD 0 else b) (if b == 95 then Lx.runN Lx.wordByte t else Lx.runN Lx.wordByte t + 1) (t[Lx.runN Lx.wordByte t]? == some 58) := by
  have hb58 : b ≠ 58 := by rintro rfl; exact absurd hb (by decide)
  have hx : ∀ y ∈ b :: t.take (Lx.runN Lx.wordByte t), y ≠ 58 := by
    intro y hy
    rcases List.mem_cons.1 hy with rfl | hy
    · exact hb58
    · rw [take_run] at hy
      have := mem_tw hy
      rintro rfl
      exact absurd this (by decide)
  rw [word_take]
  have hlr : (t.take (Lx.runN Lx.wordByte t)).length = Lx.runN Lx.wordByte t := by
    rw [take_run]; rfl
  have hhd : Lx.runN Lx.wordByte t ≠ 0 → (t.take (Lx.runN Lx.wordByte t)).head? = t.head? := by
    intro h
    cases t with
    | nil => simp
    | cons a t =>
      obtain ⟨q, hq⟩ : ∃ q, Lx.runN Lx.wordByte (a :: t) = q + 1 := ⟨Lx.runN Lx.wordByte (a :: t) - 1, by omega⟩
      rw [hq]; simp
  generalize Lx.runN Lx.wordByte t = r at *
  have hcol : ((((b :: t.take r) ++ (if t[r]? = some 58 then [58] else [])).getLast?) == some 58) = (t[r]? == some 58) ∧
      (if (t[r]? == some 58) = true then ((b :: t.take r) ++ (if t[r]? = some 58 then [58] else [])).dropLast else (b :: t.take r) ++ (if t[r]? = some 58 then [58] else [])) = b :: t.take r := by
    by_cases hc : t[r]? = some 58
    · rw [if_pos hc, hc]
      simp only [beq_self_eq_true, if_true]
      exact ⟨by rw [List.getLast?_concat]; rfl, List.dropLast_concat⟩
    · rw [if_neg hc, List.append_nil]
      have h2 : (t[r]? == some 58) = false := by simpa using hc
      rw [h2]
      refine ⟨?_, by simp⟩
      cases hl : (b :: t.take r).getLast? with
      | none => rfl
      | some y =>
        have := hx y (List.mem_of_getLast? hl)
        simpa using this
  unfold Lx.wordKind
  simp only [hcol.1, hcol.2]
  unfold Lx.kindOfW
  by_cases h95 : b = 95
  · subst h95
    simp only [List.head?_cons, beq_self_eq_true, if_true, List.tail_cons, hlr]
    by_cases hr : r = 0
    · simp [hr]
    · rw [hhd hr]
  · have e1 : ((some b : Option UInt8) == some 95) = false := by simpa using h95
    have e2 : (b == 95) = false := by simpa using h95
    simp only [List.head?_cons, e1, e2, Bool.false_eq_true, if_false, List.length_cons, hlr, Option.getD_some]

/-- How many bytes a string has behind its first one, and its text. -/
def Lx.quotedT : List UInt8 → Option (Nat × List UInt8)
  | [] => none
  | 39 :: 39 :: r => (quotedT r).map fun x => (x.1 + 2, 39 :: x.2)
  | 39 :: _ => some (1, [])
  | b :: r => if shown b then (quotedT r).map (fun x => (x.1 + 1, b :: x.2)) else none
theorem quotedT_cons (b : UInt8) (r : List UInt8) (hb : b ≠ 39) : Lx.quotedT (b :: r) = if Lx.shown b then (Lx.quotedT r).map (fun x => (x.1 + 1, b :: x.2)) else none := by
  conv => lhs; unfold Lx.quotedT
  split <;> simp_all
theorem quotedT_one (r : List UInt8) (h : r.head? ≠ some 39) : Lx.quotedT (39 :: r) = some (1, []) := by
  cases r with
  | nil => rfl
  | cons a r =>
    have : a ≠ 39 := by simpa using h
    conv => lhs; unfold Lx.quotedT
    split <;> simp_all
theorem quotedT_two (r : List UInt8) : Lx.quotedT (39 :: 39 :: r) = (Lx.quotedT r).map fun x => (x.1 + 2, 39 :: x.2) := rfl
theorem undbl_plain (b : UInt8) (r : List UInt8) (hb : b ≠ 39) : Lx.undbl (b :: r) = b :: Lx.undbl r := by
  conv => lhs; unfold Lx.undbl
  split <;> simp_all
theorem quotedT_eq : ∀ (k : Nat) (l : List UInt8), l.length ≤ k → Lx.quotedT l = (Lx.quotedN l).map fun n => (n, Lx.undbl (l.take (n - 1)))
  | _, [], _ => rfl
  | 0, _ :: _, h => by simp at h
  | k + 1, b :: r, h => by
    rw [List.length_cons] at h
    have pos : ∀ (l : List UInt8) (n : Nat), Lx.quotedN l = some n → 1 ≤ n := by
      intro l n hn
      cases l with
      | nil => cases hn
      | cons a t =>
        by_cases ha : a = 39
        · subst ha
          by_cases ht : t.head? = some 39
          · cases t with
            | nil => cases ht
            | cons a2 t =>
              simp at ht; subst ht
              rw [quotedN_two] at hn
              obtain ⟨m, _, rfl⟩ := Option.map_eq_some_iff.1 hn
              omega
          · rw [quotedN_one t ht] at hn
            injection hn with hn; omega
        · rw [quotedN_cons a t ha] at hn
          split at hn
          · obtain ⟨m, _, rfl⟩ := Option.map_eq_some_iff.1 hn
            omega
          · cases hn
    by_cases hb : b = 39
    · subst hb
      by_cases hr : r.head? = some 39
      · cases r with
        | nil => cases hr
        | cons a r =>
          simp at hr; subst hr
          rw [quotedT_two, quotedN_two, quotedT_eq k r (by simp at h; omega)]
          cases hq : Lx.quotedN r with
          | none => rfl
          | some n =>
            have := pos r n hq
            obtain ⟨m, rfl⟩ : ∃ m, n = m + 1 := ⟨n - 1, by omega⟩
            rfl
      · rw [quotedT_one r hr, quotedN_one r hr]; rfl
    · rw [quotedT_cons b r hb, quotedN_cons b r hb]
      split
      · rw [quotedT_eq k r (by omega)]
        cases hq : Lx.quotedN r with
        | none => rfl
        | some n =>
          have := pos r n hq
          obtain ⟨m, rfl⟩ : ∃ m, n = m + 1 := ⟨n - 1, by omega⟩
          show some (m + 1 + 1, b :: Lx.undbl (r.take m)) = some (m + 1 + 1, Lx.undbl ((b :: r).take (m + 1)))
          rw [List.take_succ_cons, undbl_plain b _ hb]
      · rfl
end Go.Proofs.YtcjcbhdildcceaaGreatDoor
/- Plain truths: no token has a line feed; places go on token by token; the token that begins at an index, with and without what joins. Nothing is said of the program here. -/
namespace Go.Proofs.YtcjcbhdildcceaaGreatDoor
set_option linter.unusedVariables false

theorem runN_in (p : UInt8 → Bool) (l : List UInt8) (hp : p 10 = false) (q : Nat) (c : UInt8) (hq : q < Lx.runN p l) (hc : l[q]? = some c) : c ≠ 10 := by
  obtain ⟨b, hb, hpb⟩ := runN_at p l q hq
  rw [hc] at hb
  injection hb with hb
  subst hb
  rintro rfl
  rw [hp] at hpb
  cases hpb
theorem quoted_flat : ∀ (k : Nat) (l : List UInt8) (n : Nat), l.length ≤ k → Lx.quotedN l = some n → ∀ q c, q < n → l[q]? = some c → c ≠ 10 := by
  intro k
  induction k with
  | zero =>
    intro l n hl h
    obtain rfl : l = [] := List.eq_nil_of_length_eq_zero (by omega)
    simp [Lx.quotedN] at h
  | succ k ih =>
    intro l n hl h q c hq hc
    cases l with
    | nil => simp [Lx.quotedN] at h
    | cons b r =>
      simp only [List.length_cons] at hl
      by_cases hb : b = 39
      · subst hb
        cases r with
        | nil =>
          rw [quotedN_one [] (by simp)] at h
          injection h with h
          subst h
          obtain rfl : q = 0 := by omega
          simp at hc; subst hc; decide
        | cons d r =>
          by_cases hd : d = 39
          · subst hd
            rw [quotedN_two] at h
            obtain ⟨m, hm, rfl⟩ := Option.map_eq_some_iff.1 h
            match q, hq, hc with
            | 0, _, hc => simp at hc; subst hc; decide
            | 1, _, hc => simp at hc; subst hc; decide
            | q + 2, hq, hc => exact ih r m (by simp only [List.length_cons] at hl; omega) hm q c (by omega) (by simpa using hc)
          · rw [quotedN_one (d :: r) (by simpa using hd)] at h
            injection h with h
            subst h
            obtain rfl : q = 0 := by omega
            simp at hc; subst hc; decide
      · rw [quotedN_cons b r hb] at h
        split at h
        · rename_i hs
          obtain ⟨m, hm, rfl⟩ := Option.map_eq_some_iff.1 h
          cases q with
          | zero =>
            simp at hc; subst hc
            rintro rfl
            revert hs; decide
          | succ q => exact ih r m (by omega) hm q c (by omega) (by simpa using hc)
        · cases h
theorem measure_flat (l : List UInt8) (j : Bool) (k n : Nat) (h : Lx.measureL l j = .ok k n) (q : Nat) (c : UInt8) (hq : q < n) (hc : l[q]? = some c) : c ≠ 10 := by
  cases l with
  | nil => simp at hc
  | cons b t =>
    unfold Lx.measureL at h
    simp only [List.getElem?_cons_zero, Option.getD_some] at h
    split at h
    · rename_i hb
      unfold Lx.word at h
      simp only at h
      split at h
      · cases h
      · cases h
        have h0 : b ≠ 10 := by rintro rfl; revert hb; decide
        cases q with
        | zero => simp at hc; subst hc; exact h0
        | succ q =>
          simp only [List.getElem?_cons_succ] at hc
          by_cases h58 : t[Lx.runN Lx.wordByte t]? = some 58
          · rw [wordN_colon b t h58] at hq
            by_cases hqr : q < Lx.runN Lx.wordByte t
            · exact runN_in Lx.wordByte t (by decide) q c hqr hc
            · rw [show q = Lx.runN Lx.wordByte t by omega, h58] at hc
              injection hc with hc
              subst hc; decide
          · rw [wordN_plain b t h58] at hq
            exact runN_in Lx.wordByte t (by decide) q c (by omega) hc
    · split at h
      · unfold Lx.number at h
        split at h
        · cases h
        · cases h; exact runN_in Lx.digit (b :: t) (by decide) q c hq hc
      · split at h
        · rename_i _ _ hb
          unfold Lx.quoted at h
          simp only [List.tail_cons] at h
          split at h
          · rename_i m hm
            cases h
            cases q with
            | zero => simp at hc; subst hc; rintro rfl; revert hb; decide
            | succ q => exact quoted_flat t.length t m (Nat.le_refl _) hm q c (by omega) (by simpa using hc)
          · cases h
        · split at h
          · unfold Lx.operation at h
            split at h
            · cases h
            · cases h; exact runN_in Lx.operator (b :: t) (by decide) q c hq hc
          · split at h
            · rename_i hb
              cases h
              obtain rfl : q = 0 := by omega
              simp at hc; subst hc; rintro rfl; simp at hb
            · split at h
              · rename_i hb
                cases h
                obtain rfl : q = 0 := by omega
                simp at hc; subst hc; rintro rfl; revert hb; decide
              · cases h
theorem place_flat (s : List UInt8) (a : Nat) : ∀ n, a + n ≤ s.length → (∀ q c, q < n → s[a + q]? = some c → c ≠ 10) → (Lx.placeAt s (a + n)).ln = (Lx.placeAt s a).ln ∧ (Lx.placeAt s (a + n)).bg = (Lx.placeAt s a).bg
  | 0, _, _ => ⟨rfl, rfl⟩
  | n + 1, hn, h => by
    obtain ⟨h1, h2⟩ := place_flat s a n (by omega) (fun q c hq hc => h q c (by omega) hc)
    have hst := placeAt_step s (a + n) (by omega)
    have hc : s[a + n]?.getD 0 ≠ 10 := by
      rw [List.getElem?_eq_getElem (by omega), Option.getD_some]
      exact h n _ (by omega) (List.getElem?_eq_getElem (by omega))
    rw [show a + (n + 1) = a + n + 1 by omega, hst]
    unfold Lx.Place.step
    simp only [hc, if_false]
    exact ⟨h1, h2⟩
/-- The place goes on over a part of the text. -/
theorem place_go (s : List UInt8) (a b : Nat) (hab : a ≤ b) (hb : b ≤ s.length) :
    (Lx.placeAt s b).ln = (Lx.placeAt s a).ln + (Lx.placeAt ((s.take b).drop a) (b - a)).ln ∧
    ((Lx.placeAt ((s.take b).drop a) (b - a)).ln = 0 → (Lx.placeAt s b).bg = (Lx.placeAt s a).bg ∧ (Lx.placeAt ((s.take b).drop a) (b - a)).bg = 0) ∧
    ((Lx.placeAt ((s.take b).drop a) (b - a)).ln ≠ 0 → (Lx.placeAt s b).bg = a + (Lx.placeAt ((s.take b).drop a) (b - a)).bg) := by
  have hx : ((s.take b).drop a).length = b - a := by rw [List.length_drop, List.length_take]; omega
  have e : (s.take b) = s.take a ++ (s.take b).drop a := by
    conv => lhs; rw [← List.take_append_drop a (s.take b)]
    rw [List.take_take, Nat.min_eq_left hab]
  have e2 : Lx.placeAt s b = (Lx.placeAt s a).pass ((s.take b).drop a) := by
    unfold Lx.placeAt
    rw [e]
    unfold Lx.Place.pass
    rw [List.foldl_append]
    congr 1
    rw [← e]
  have e3 : Lx.placeAt ((s.take b).drop a) (b - a) = Lx.Place.pass ⟨0, 0, 0⟩ ((s.take b).drop a) := by
    unfold Lx.placeAt
    rw [List.take_of_length_le (by omega)]
  have hix : (Lx.placeAt s a).ix = a := by
    unfold Lx.placeAt
    rw [pass_ix]
    simp only [List.length_take]; omega
  rw [e2, e3]
  have := pass_from ((s.take b).drop a) (Lx.placeAt s a)
  rw [hix] at this
  exact this
end Go.Proofs.YtcjcbhdildcceaaGreatDoor
/- Contracts of the small functions of the specification's package: kinds of bytes, runs of bytes, places. Conditions: those in the statements. -/
namespace Go.Proofs.YtcjcbhdildcceaaGreatDoor
open Go.RowKit

set_option maxHeartbeats 400000 in
theorem refSmall_c (b : UInt8) (w : World) : Calls Tryz.prog 64 #[.int .u8 b.toNat] w fun e w' => e = .returned (.bool (Lx.small b)) ∧ w' = w := by
  go_enter Tryz.func64, Tryz.ntmps64
  go_wp2
  all_goals go_ret
  all_goals exact ⟨ret_bool (by rw [Bool.eq_iff_iff]; simp [Lx.small]; omega), rfl⟩
set_option maxHeartbeats 400000 in
theorem refCapital_c (b : UInt8) (w : World) : Calls Tryz.prog 65 #[.int .u8 b.toNat] w fun e w' => e = .returned (.bool (Lx.capital b)) ∧ w' = w := by
  go_enter Tryz.func65, Tryz.ntmps65
  go_wp2
  all_goals go_ret
  all_goals exact ⟨ret_bool (by rw [Bool.eq_iff_iff]; simp [Lx.capital]; omega), rfl⟩
set_option maxHeartbeats 400000 in
theorem refDigit_c (b : UInt8) (w : World) : Calls Tryz.prog 77 #[.int .u8 b.toNat] w fun e w' => e = .returned (.bool (Lx.digit b)) ∧ w' = w := by
  go_enter Tryz.func77, Tryz.ntmps77
  go_wp2
  all_goals go_ret
  all_goals exact ⟨ret_bool (by rw [Bool.eq_iff_iff]; simp [Lx.digit]; omega), rfl⟩
set_option maxHeartbeats 400000 in
theorem refLetter_c (b : UInt8) (w : World) : Calls Tryz.prog 43 #[.int .u8 b.toNat] w fun e w' => e = .returned (.bool (Lx.letter b)) ∧ w' = w := by
  go_enter Tryz.func43, Tryz.ntmps43
  go_wp2_with (first
    | (go_at_call 64; refine (refSmall_c b _).mono ?_; rintro e w' ⟨rfl, rfl⟩)
    | (go_at_call 65; refine (refCapital_c b _).mono ?_; rintro e w' ⟨rfl, rfl⟩))
  all_goals go_ret
  all_goals exact ⟨ret_bool (by simp_all [Lx.letter]), rfl⟩

/-- Whether a byte is one of some. -/
def Lx.inB (b : UInt8) (l : List UInt8) : Bool := decide (b ∈ l)
set_option maxHeartbeats 2000000 in
theorem refIn_c (b : UInt8) (l : List UInt8) (w : World) (hl : l.length ≤ 1000) :
    Calls Tryz.prog 44 #[.int .u8 b.toNat, .string ⟨l.toArray⟩] w fun e w' => e = .returned (.bool (Lx.inB b l)) ∧ w' = w := by
  have hss : (⟨l.toArray⟩ : ByteArray).size = l.length := by simp [ByteArray.size]
  go_enter Tryz.func44, Tryz.ntmps44
  go_wp2_with fail
  go_loopg [5] l.length (fun g i wr => ∃ k : Nat, k ≤ l.length ∧ i = .int .i64 k ∧ Hid (b ∉ l.take k) ∧ wr = w ∧ g = l.length - k)
  case atStart => exact ⟨0, Nat.zero_le _, rfl, Lib.hid (by simp), rfl, rfl⟩
  case round =>
    obtain ⟨k, hk, rfl, HN, rfl, hg⟩ := hrel
    by_cases hE : k = l.length
    · have dE : decide ((k : Int) < (l.length : Int)) = false := decide_eq_false (by omega)
      have HX := Lib.hid (show Lx.inB b l = false by
        have := HN.out
        rw [hE, List.take_length] at this
        exact decide_eq_false this)
      have HE := Lib.hid hE
      clear hE
      go_wp2_with fail
      all_goals (try (exfalso; have := HE.out; omega))
      refine bodyPost_ret (v := .bool false) ?_ rfl ⟨by rw [HX.out], rfl⟩
      simp [results, Tryz.results44, go_sem]
    · have hlt : k < l.length := by omega
      have dE : decide ((k : Int) < (l.length : Int)) = true := decide_eq_true (by omega)
      obtain ⟨c, hc⟩ : ∃ c, l[k]? = some c := ⟨_, List.getElem?_eq_getElem hlt⟩
      have hget : (⟨l.toArray⟩ : ByteArray)[k]'(by rw [hss]; exact hlt) = c := (List.getElem?_eq_some_iff.1 hc).2
      by_cases hcb : c = b
      · have d : ((c.toNat : Int) == (b.toNat : Int)) = true := by rw [hcb]; simp
        have HX := Lib.hid (show Lx.inB b l = true from decide_eq_true (hcb ▸ List.mem_of_getElem? hc))
        clear hE hc hcb
        go_wp2_with fail
        refine bodyPost_ret (v := .bool true) ?_ rfl ⟨by rw [HX.out], rfl⟩
        simp [results, Tryz.results44, go_sem]
      · have d : ((c.toNat : Int) == (b.toNat : Int)) = false := beq_eq_false_iff_ne.2 (fun e => hcb (UInt8.toNat_inj.1 (by omega)))
        have HNK := Lib.hid (show b ∉ l.take (k + 1) by
          rw [List.take_add_one, hc]
          intro h
          rcases List.mem_append.1 h with h | h
          · exact HN.out h
          · simp at h; exact hcb h.symm)
        clear hE hc hcb
        go_wp2_with fail
        go_roundg (l.length - (k + 1))
        case rel => exact ⟨k + 1, by omega, rfl, HNK, rfl, rfl⟩
        case measure => omega

set_option maxHeartbeats 2000000 in
theorem refWord_c (s : List UInt8) (at_ : Nat) (w : World) (h : at_ ≤ s.length) (hs : s.length ≤ 100000000) :
    Calls Tryz.prog 96 #[.string ⟨s.toArray⟩, .int .i64 at_] w fun e w' => e = .returned (.int .i64 (Lx.runN Lx.wordByte (s.drop at_))) ∧ w' = w := by
  have hss : (⟨s.toArray⟩ : ByteArray).size = s.length := by simp [ByteArray.size]
  have HA := Lib.hid (runN_at Lx.wordByte (s.drop at_))
  have HS := Lib.hid (runN_stop Lx.wordByte (s.drop at_))
  have hle : Lx.runN Lx.wordByte (s.drop at_) ≤ s.length - at_ := by
    have := (List.takeWhile_prefix Lx.wordByte (l := s.drop at_)).length_le
    rw [List.length_drop] at this
    exact this
  generalize Lx.runN Lx.wordByte (s.drop at_) = N at *
  go_enter Tryz.func96, Tryz.ntmps96
  go_wp2_with fail
  go_loopg [5] N (fun g i wr => ∃ k : Nat, k ≤ N ∧ i = .int .i64 k ∧ wr = w ∧ g = N - k)
  case atStart => exact ⟨0, Nat.zero_le _, rfl, rfl, rfl⟩
  case round =>
    obtain ⟨k, hk, rfl, rfl, hg⟩ := hrel
    have hwr : IntKind.i64.wrap ((at_ : Int) + (k : Int)) = (at_ : Int) + (k : Int) := IntWalk.i64_in _ (by omega)
    by_cases hE : at_ + k = s.length
    · have dE : decide ((at_ : Int) + (k : Int) < (s.length : Int)) = false := decide_eq_false (by omega)
      have dEn : decide (at_ + k < s.length) = false := decide_eq_false (by omega)
      have hkN : k = N := by omega
      subst hkN
      have HE := Lib.hid hE
      clear hE
      go_wp2_with fail
      refine bodyPost_ret (v := .int .i64 k) ?_ rfl ⟨rfl, rfl⟩
      simp [results, Tryz.results96, go_sem]
    · have hlt : at_ + k < s.length := by omega
      have dE : decide ((at_ : Int) + (k : Int) < (s.length : Int)) = true := decide_eq_true (by omega)
      have dEn : decide (at_ + k < s.length) = true := decide_eq_true hlt
      obtain ⟨c, hc⟩ : ∃ c, s[at_ + k]? = some c := ⟨_, List.getElem?_eq_getElem hlt⟩
      have hget : (⟨s.toArray⟩ : ByteArray)[at_ + k]'(by rw [hss]; exact hlt) = c := (List.getElem?_eq_some_iff.1 hc).2
      have HL := Lib.hid (refLetter_c c wr)
      have HD := Lib.hid (refDigit_c c wr)
      have HwB : Lx.wordByte c = (Lx.letter c || Lx.digit c) := rfl
      have HwB := Lib.hid HwB
      have hin : k < N → Lx.wordByte c = true := fun h => by
        obtain ⟨b, hb, hp⟩ := HA.out k h
        rw [List.getElem?_drop, hc] at hb
        injection hb with hb
        rw [hb]; exact hp
      have hout : k = N → Lx.wordByte c = false := fun h => HS.out c (by rw [List.getElem?_drop, ← h]; exact hc)
      have HI := Lib.hid hin
      have HO := Lib.hid hout
      clear hin hout hc hE
      generalize Lx.letter c = bl at *
      generalize Lx.digit c = bd at *
      cases bl
      · cases bd
        · have hkN : k = N := by
            rcases Nat.lt_or_ge k N with h | h
            · have := HI.out h; rw [HwB.out] at this; cases this
            · omega
          subst hkN
          go_wp2_with (first
            | (go_at_call 43; refine HL.out.mono ?_; rintro e w' ⟨rfl, rfl⟩)
            | (go_at_call 77; refine HD.out.mono ?_; rintro e w' ⟨rfl, rfl⟩))
          refine bodyPost_ret (v := .int .i64 k) ?_ rfl ⟨rfl, rfl⟩
          simp [results, Tryz.results96, go_sem]
        · have hkN : k < N := by
            rcases Nat.lt_or_ge k N with h | h
            · exact h
            · have := HO.out (by omega); rw [HwB.out] at this; cases this
          go_wp2_with (first
            | (go_at_call 43; refine HL.out.mono ?_; rintro e w' ⟨rfl, rfl⟩)
            | (go_at_call 77; refine HD.out.mono ?_; rintro e w' ⟨rfl, rfl⟩))
          go_roundg (N - (k + 1))
          case rel => exact ⟨k + 1, by omega, rfl, rfl, rfl⟩
          case measure => omega
      · have hkN : k < N := by
          rcases Nat.lt_or_ge k N with h | h
          · exact h
          · have := HO.out (by omega); rw [HwB.out] at this; cases this
        go_wp2_with (go_at_call 43; refine HL.out.mono ?_; rintro e w' ⟨rfl, rfl⟩)
        go_roundg (N - (k + 1))
        case rel => exact ⟨k + 1, by omega, rfl, rfl, rfl⟩
        case measure => omega
end Go.Proofs.YtcjcbhdildcceaaGreatDoor
/- Contracts of some, placed and passed of the specification's package. Conditions: those in the statements. -/
namespace Go.Proofs.YtcjcbhdildcceaaGreatDoor
open Go.RowKit

set_option maxHeartbeats 2000000 in
theorem refSome_c (s of_ : List UInt8) (at_ : Nat) (w : World) (h : at_ ≤ s.length) (hs : s.length ≤ 100000000) (ho : of_.length ≤ 1000) :
    Calls Tryz.prog 78 #[.string ⟨s.toArray⟩, .int .i64 at_, .string ⟨of_.toArray⟩] w fun e w' => e = .returned (.int .i64 (Lx.runN (fun b => Lx.inB b of_) (s.drop at_))) ∧ w' = w := by
  have hss : (⟨s.toArray⟩ : ByteArray).size = s.length := by simp [ByteArray.size]
  have HA := Lib.hid (runN_at (fun b => Lx.inB b of_) (s.drop at_))
  have HS := Lib.hid (runN_stop (fun b => Lx.inB b of_) (s.drop at_))
  have HIn := Lib.hid (fun c W => refIn_c c of_ W ho)
  have hle : Lx.runN (fun b => Lx.inB b of_) (s.drop at_) ≤ s.length - at_ := by
    have := (List.takeWhile_prefix (fun b => Lx.inB b of_) (l := s.drop at_)).length_le
    rw [List.length_drop] at this
    exact this
  generalize Lx.runN (fun b => Lx.inB b of_) (s.drop at_) = N at *
  go_enter Tryz.func78, Tryz.ntmps78
  go_wp2_with fail
  go_loopg [7] N (fun g i wr => ∃ k : Nat, k ≤ N ∧ i = .int .i64 k ∧ wr = w ∧ g = N - k)
  case atStart => exact ⟨0, Nat.zero_le _, rfl, rfl, rfl⟩
  case round =>
    obtain ⟨k, hk, rfl, rfl, hg⟩ := hrel
    have hwr : IntKind.i64.wrap ((at_ : Int) + (k : Int)) = (at_ : Int) + (k : Int) := IntWalk.i64_in _ (by omega)
    by_cases hE : at_ + k = s.length
    · have dE : decide ((at_ : Int) + (k : Int) < (s.length : Int)) = false := decide_eq_false (by omega)
      have dEn : decide (at_ + k < s.length) = false := decide_eq_false (by omega)
      have hkN : k = N := by omega
      subst hkN
      have HE := Lib.hid hE
      clear hE
      go_wp2_with fail
      refine bodyPost_ret (v := .int .i64 k) ?_ rfl ⟨rfl, rfl⟩
      simp [results, Tryz.results78, go_sem]
    · have hlt : at_ + k < s.length := by omega
      have dE : decide ((at_ : Int) + (k : Int) < (s.length : Int)) = true := decide_eq_true (by omega)
      have dEn : decide (at_ + k < s.length) = true := decide_eq_true hlt
      obtain ⟨c, hc⟩ : ∃ c, s[at_ + k]? = some c := ⟨_, List.getElem?_eq_getElem hlt⟩
      have hget : (⟨s.toArray⟩ : ByteArray)[at_ + k]'(by rw [hss]; exact hlt) = c := (List.getElem?_eq_some_iff.1 hc).2
      have HL := Lib.hid (HIn.out c wr)
      have hin : k < N → Lx.inB c of_ = true := fun h => by
        obtain ⟨b, hb, hp⟩ := HA.out k h
        rw [List.getElem?_drop, hc] at hb
        injection hb with hb
        rw [hb]; exact hp
      have hout : k = N → Lx.inB c of_ = false := fun h => HS.out c (by rw [List.getElem?_drop, ← h]; exact hc)
      have HI := Lib.hid hin
      have HO := Lib.hid hout
      clear hin hout hc hE
      generalize Lx.inB c of_ = bl at *
      cases bl
      · have hkN : k = N := by
          rcases Nat.lt_or_ge k N with h | h
          · have := HI.out h; cases this
          · omega
        subst hkN
        go_wp2_with (go_at_call 44; refine HL.out.mono ?_; rintro e w' ⟨rfl, rfl⟩)
        refine bodyPost_ret (v := .int .i64 k) ?_ rfl ⟨rfl, rfl⟩
        simp [results, Tryz.results78, go_sem]
      · have hkN : k < N := by
          rcases Nat.lt_or_ge k N with h | h
          · exact h
          · have := HO.out (by omega); cases this
        go_wp2_with (go_at_call 44; refine HL.out.mono ?_; rintro e w' ⟨rfl, rfl⟩)
        go_roundg (N - (k + 1))
        case rel => exact ⟨k + 1, by omega, rfl, rfl, rfl⟩
        case measure => omega

set_option maxHeartbeats 2000000 in
theorem refPlaced_c (x : List UInt8) (n : Nat) (w : World) (h : n ≤ x.length) (hs : x.length ≤ 100000000) :
    Calls Tryz.prog 35 #[.string ⟨x.toArray⟩, .int .i64 n] w fun e w' => e = .returned (.tuple #[.int .i64 ((Lx.placeAt x n).ln + 1 : Nat), .int .i64 (n - (Lx.placeAt x n).bg + 1 : Nat)]) ∧ w' = w := by
  have hss : (⟨x.toArray⟩ : ByteArray).size = x.length := by simp [ByteArray.size]
  go_enter Tryz.func35, Tryz.ntmps35
  go_wp2_with fail
  go_loopg [6, 7, 8] n (fun g li co i wr => ∃ k ln cl : Nat, k ≤ n ∧ i = .int .i64 k ∧ li = .int .i64 ln ∧ co = .int .i64 cl ∧ Hid (ln = (Lx.placeAt x k).ln + 1 ∧ cl = k - (Lx.placeAt x k).bg + 1) ∧ ln ≤ k + 1 ∧ cl ≤ k + 1 ∧ wr = w ∧ g = n - k)
  case atStart => exact ⟨0, 1, 1, Nat.zero_le _, rfl, rfl, rfl, Lib.hid ⟨rfl, rfl⟩, by omega, by omega, rfl, rfl⟩
  case round =>
    obtain ⟨k, ln, cl, hk, rfl, rfl, rfl, HP, hl1, hl2, rfl, hg⟩ := hrel
    by_cases hE : k = n
    · have dE : decide ((k : Int) < (n : Int)) = false := decide_eq_false (by omega)
      have HE := Lib.hid hE
      clear hE
      go_wp2_with fail
      all_goals (try (exfalso; have := HE.out; omega))
      refine bodyPost_ret (v := .tuple #[.int .i64 ln, .int .i64 cl]) ?_ rfl ⟨by rw [HP.out.1, HP.out.2, HE.out], rfl⟩
      simp [results, Tryz.results35, go_sem]
    · have hlt : k < n := by omega
      have hlx : k < x.length := by omega
      have dE : decide ((k : Int) < (n : Int)) = true := decide_eq_true (by omega)
      obtain ⟨c, hc⟩ : ∃ c, x[k]? = some c := ⟨_, List.getElem?_eq_getElem hlx⟩
      have hget : (⟨x.toArray⟩ : ByteArray)[k]'(by rw [hss]; exact hlx) = c := (List.getElem?_eq_some_iff.1 hc).2
      have hst := placeAt_step x k hlx
      rw [hc] at hst
      have hix := placeAt_ix x k (by omega)
      have hbg := placeAt_bg x k
      have HST := Lib.hid hst
      have HIX := Lib.hid hix
      have HBG := Lib.hid hbg
      clear hE hc hst hix hbg
      by_cases hcb : c = 10
      · have d : ((c.toNat : Int) == 10) = true := by rw [hcb]; rfl
        have HN : Hid (ln + 1 = (Lx.placeAt x (k + 1)).ln + 1 ∧ 1 = k + 1 - (Lx.placeAt x (k + 1)).bg + 1) := Lib.hid (by
          have h1 := HP.out.1
          rw [HST.out]
          simp only [Lx.Place.step, Option.getD_some, if_pos hcb]
          have h3 := HIX.out
          constructor
          · rw [h1]
          · omega)
        clear hcb
        go_wp2_with fail
        go_roundg (n - (k + 1))
        case rel => exact ⟨k + 1, ln + 1, 1, by omega, rfl, rfl, rfl, HN, by omega, by omega, rfl, rfl⟩
        case measure => omega
      · have d : ((c.toNat : Int) == 10) = false := beq_eq_false_iff_ne.2 (fun e => hcb (UInt8.toNat_inj.1 (by have : (10 : UInt8).toNat = 10 := rfl; omega)))
        have HN : Hid (ln = (Lx.placeAt x (k + 1)).ln + 1 ∧ cl + 1 = k + 1 - (Lx.placeAt x (k + 1)).bg + 1) := Lib.hid (by
          have h1 := HP.out.1
          have h2 := HP.out.2
          rw [HST.out]
          simp only [Lx.Place.step, Option.getD_some, if_neg hcb]
          have h3 := HIX.out
          have h4 := HBG.out
          constructor
          · rw [h1]
          · omega)
        clear hcb
        go_wp2_with fail
        go_roundg (n - (k + 1))
        case rel => exact ⟨k + 1, ln, cl + 1, by omega, rfl, rfl, rfl, HN, by omega, by omega, rfl, rfl⟩
        case measure => omega
end Go.Proofs.YtcjcbhdildcceaaGreatDoor
/- Contract of passed of the specification's package. Conditions: those in the statement. -/
namespace Go.Proofs.YtcjcbhdildcceaaGreatDoor
open Go.RowKit

theorem inB_blank (b : UInt8) : Lx.inB b [32, 9, 10] = Lx.blank b := by
  have key : ∀ n : UInt8, (b = n ↔ (b.toNat : Int) = (n.toNat : Int)) := fun n => by rw [← UInt8.toNat_inj]; omega
  have h1 := key 32
  have h2 := key 9
  have h3 := key 10
  have e1 : ((32 : UInt8).toNat : Int) = 32 := rfl
  have e2 : ((9 : UInt8).toNat : Int) = 9 := rfl
  have e3 : ((10 : UInt8).toNat : Int) = 10 := rfl
  rw [e1] at h1
  rw [e2] at h2
  rw [e3] at h3
  unfold Lx.inB Lx.blank
  rw [Bool.eq_iff_iff]
  simp only [decide_eq_true_eq, Bool.or_eq_true, beq_iff_eq, List.mem_cons, List.not_mem_nil, or_false, h1, h2, h3, or_assoc]
/-- Where what is passed over ends, and whether it does. -/
def Lx.B.told : Lx.B → Nat × Bool
  | .at j => (j, true)
  | .open c => (c, false)
theorem drop_some (s : List UInt8) (k : Nat) (c : UInt8) (h : s[k]? = some c) : s.drop k = c :: s.drop (k + 1) := by
  rw [List.drop_eq_getElem_cons (List.getElem?_eq_some_iff.1 h).1, (List.getElem?_eq_some_iff.1 h).2]

set_option maxHeartbeats 2000000 in
theorem refPassed_c (s : List UInt8) (at_ : Nat) (w : World) (h : at_ ≤ s.length) (hs : s.length ≤ 100000000) :
    Calls Tryz.prog 58 #[.string ⟨s.toArray⟩, .int .i64 at_] w fun e w' =>
      e = .returned (.tuple #[.int .i64 (Lx.blanks none at_ (s.drop at_)).told.1, .bool (Lx.blanks none at_ (s.drop at_)).told.2]) ∧ w' = w := by
  have hss : (⟨s.toArray⟩ : ByteArray).size = s.length := by simp [ByteArray.size]
  have HIn := Lib.hid (fun c W => refIn_c c [32, 9, 10] W (by decide))
  generalize hB : Lx.blanks none at_ (s.drop at_) = B
  have HB := Lib.hid hB
  clear hB
  go_enter Tryz.func58, Tryz.ntmps58
  go_wp2_with fail
  go_loopg [1, 6] (s.length - at_) (fun g i e wr => ∃ k : Nat, k ≤ s.length ∧ i = .int .i64 k ∧ Hid (Lx.blanks none k (s.drop k) = B) ∧ wr = w ∧ g = s.length - k)
  case atStart => exact ⟨at_, h, rfl, HB, rfl, rfl⟩
  case round =>
    obtain ⟨k, hk, rfl, HN, rfl, hg⟩ := hrel
    by_cases hE : k = s.length
    · have dE : decide ((k : Int) < (s.length : Int)) = false := decide_eq_false (by omega)
      have HX := Lib.hid (show B.told = (k, true) by
        rw [← HN.out, List.drop_eq_nil_of_le (by omega)]; rfl)
      have HE := Lib.hid hE
      clear hE
      go_wp2_with fail
      all_goals (try (exfalso; have := HE.out; omega))
      refine bodyPost_ret (v := .tuple #[.int .i64 k, .bool true]) ?_ rfl ⟨by rw [HX.out], rfl⟩
      simp [results, Tryz.results58, go_sem]
    · have hlt : k < s.length := by omega
      have dE : decide ((k : Int) < (s.length : Int)) = true := decide_eq_true (by omega)
      obtain ⟨c, hc⟩ : ∃ c, s[k]? = some c := ⟨_, List.getElem?_eq_getElem hlt⟩
      have hget : (⟨s.toArray⟩ : ByteArray)[k]'(by rw [hss]; exact hlt) = c := (List.getElem?_eq_some_iff.1 hc).2
      have hst := HN.out
      rw [drop_some s k c hc, blanks_n] at hst
      have HL := HIn.out c wr
      rw [inB_blank] at HL
      have HL := Lib.hid HL
      by_cases hbl : Lx.blank c = true
      · rw [if_pos hbl] at hst
        rw [hbl] at HL
        have HST := Lib.hid hst
        clear hE hc hst hbl
        go_wp2_with (go_at_call 44; refine HL.out.mono ?_; rintro e w' ⟨rfl, hw'⟩; rw [hw']; clear hw')
        go_roundg (s.length - (k + 1))
        case rel => exact ⟨k + 1, by omega, rfl, HST, rfl, rfl⟩
        case measure => omega
      · rw [if_neg hbl] at hst
        rw [show Lx.blank c = false by simpa using hbl] at HL
        by_cases hcq : c = 34
        · rw [if_pos hcq] at hst
          have d : ((c.toNat : Int) != 34) = false := by rw [hcq]; rfl
          have HST := Lib.hid hst
          clear hE hc hst hbl hcq
          go_wp2_with (go_at_call 44; refine HL.out.mono ?_; rintro e w' ⟨rfl, hw'⟩; rw [hw']; clear hw')
          go_loopg [6] (s.length - (k + 1)) (fun g2 e2 wr2 => ∃ q : Nat, k < q ∧ q ≤ s.length ∧ e2 = .int .i64 q ∧ Hid (Lx.blanks (some k) q (s.drop q) = B) ∧ wr2 = wr ∧ g2 = s.length - q)
          case atStart => exact ⟨k + 1, by omega, by omega, rfl, HST, rfl, rfl⟩
          case round =>
            obtain ⟨q, hq1, hq2, rfl, HQ, rfl, hg2⟩ := hrel
            by_cases hE2 : q = s.length
            · have dE2 : decide ((q : Int) < (s.length : Int)) = false := decide_eq_false (by omega)
              have dE3 : ((q : Int) == (s.length : Int)) = true := by rw [hE2]; simp
              have HX := Lib.hid (show B.told = (k, false) by
                rw [← HQ.out, List.drop_eq_nil_of_le (by omega)]; rfl)
              have HE2 := Lib.hid hE2
              clear hE2
              go_wp2_with fail
              all_goals (try (exfalso; have := HE2.out; omega))
              refine bodyPost_ret (v := .tuple #[.int .i64 k, .bool false]) ?_ rfl ⟨by rw [HX.out], rfl⟩
              simp [results, Tryz.results58, go_sem]
            · have hlt2 : q < s.length := by omega
              have dE2 : decide ((q : Int) < (s.length : Int)) = true := decide_eq_true (by omega)
              have dE3 : ((q : Int) == (s.length : Int)) = false := beq_eq_false_iff_ne.2 (by omega)
              obtain ⟨c2, hc2⟩ : ∃ c, s[q]? = some c := ⟨_, List.getElem?_eq_getElem hlt2⟩
              have hget2 : (⟨s.toArray⟩ : ByteArray)[q]'(by rw [hss]; exact hlt2) = c2 := (List.getElem?_eq_some_iff.1 hc2).2
              have hst2 := HQ.out
              rw [drop_some s q c2 hc2, blanks_s] at hst2
              by_cases hcq2 : c2 = 34
              · rw [if_pos hcq2] at hst2
                have d2 : ((c2.toNat : Int) != 34) = false := by rw [hcq2]; rfl
                have HST2 := Lib.hid hst2
                clear hE2 hc2 hst2 hcq2
                go_wp2_with fail
                go_roundg (s.length - (q + 1))
                case rel => exact ⟨q + 1, by omega, rfl, HST2, rfl, rfl⟩
                case measure => omega
              · rw [if_neg hcq2] at hst2
                have d2 : ((c2.toNat : Int) != 34) = true := bne_iff_ne.2 (fun e => hcq2 (UInt8.toNat_inj.1 (by have : (34 : UInt8).toNat = 34 := rfl; omega)))
                have HST2 := Lib.hid hst2
                clear hE2 hc2 hst2 hcq2
                go_wp2_with fail
                go_roundg (s.length - (q + 1))
                case rel => exact ⟨q + 1, by omega, by omega, rfl, HST2, rfl, rfl⟩
                case measure => omega
        · rw [if_neg hcq] at hst
          have d : ((c.toNat : Int) != 34) = true := bne_iff_ne.2 (fun e => hcq (UInt8.toNat_inj.1 (by have : (34 : UInt8).toNat = 34 := rfl; omega)))
          have HX := Lib.hid (show B.told = (k, true) by rw [← hst]; rfl)
          have HL := Lib.hid HL.out
          clear hE hc hst hbl hcq
          go_wp2_with (go_at_call 44; refine HL.out.mono ?_; rintro e w' ⟨rfl, hw'⟩; rw [hw']; clear hw')
          refine bodyPost_ret (v := .tuple #[.int .i64 k, .bool true]) ?_ rfl ⟨by rw [HX.out], rfl⟩
          simp [results, Tryz.results58, go_sem]
end Go.Proofs.YtcjcbhdildcceaaGreatDoor
/- Contract of wordly of the specification's package. Conditions: those in the statement. -/
namespace Go.Proofs.YtcjcbhdildcceaaGreatDoor
open Go.RowKit

theorem refWord_take (b : UInt8) (t s : List UInt8) (at_ n : Nat) (hd : s.drop at_ = b :: t) (hn : n = Lx.wordN (b :: t)) : (⟨s.toArray⟩ : ByteArray).extract at_ (at_ + n) = ⟨((b :: t).take (Lx.wordN (b :: t))).toArray⟩ := by
  rw [ba_slice s at_ (at_ + n), List.drop_take, hd, hn, Nat.add_sub_cancel_left]

theorem digit_others (c : UInt8) (h : Lx.digit c = true) : Lx.small c = false ∧ Lx.capital c = false := by
  unfold Lx.digit at h
  simp only [Bool.and_eq_true, decide_eq_true_eq] at h
  unfold Lx.small Lx.capital
  exact ⟨by simp; omega, by simp; omega⟩

set_option maxHeartbeats 8000000 in
set_option maxRecDepth 100000 in
theorem refWordly_c (s : List UInt8) (at_ : Nat) (b : UInt8) (t : List UInt8) (w : World) (E : Nat) (hs : s.length ≤ 100000000) (hd : s.drop at_ = b :: t) (hb : (Lx.letter b || b == 95) = true)
    (hE : E = if Lx.wordKind ((b :: t).take (Lx.wordN (b :: t))) = 0 then 12 else 0)
    (Q : Ending → World → Prop) (HQ : Hid (∀ W (k : Int) (x : ByteArray) (n : Int), Below w.heap.size w W → (E = 0 → k = Lx.wordKind ((b :: t).take (Lx.wordN (b :: t))) ∧ x = ⟨((b :: t).take (Lx.wordN (b :: t))).toArray⟩ ∧ n = Lx.wordN (b :: t)) →
      Q (.returned (.tuple #[.agg #[.int .i64 k, .string x, .int .i64 0, .int .i64 0], .int .i64 n, .int .i64 E])) W)) :
    Calls Tryz.prog 75 #[.string ⟨s.toArray⟩, .int .i64 at_] w Q := by
  have hss : (⟨s.toArray⟩ : ByteArray).size = s.length := by simp [ByteArray.size]
  have hat : at_ < s.length := by
    have := congrArg List.length hd
    rw [List.length_drop, List.length_cons] at this
    omega
  have hts : t = s.drop (at_ + 1) := by
    have := congrArg (List.drop 1) hd
    rw [List.drop_drop] at this
    exact this.symm
  have hb0 : s[at_]? = some b := by
    have := congrArg (fun l => l[0]?) hd
    simpa [List.getElem?_drop] using this
  have hget : (⟨s.toArray⟩ : ByteArray)[at_]'(by rw [hss]; exact hat) = b := (List.getElem?_eq_some_iff.1 hb0).2
  have hr : at_ + 1 + Lx.runN Lx.wordByte t ≤ s.length := by
    have h1 := (List.takeWhile_prefix Lx.wordByte (l := t)).length_le
    have h2 := congrArg List.length hts
    rw [List.length_drop] at h2
    unfold Lx.runN
    omega
  have HW0 := Lib.hid (fun W => refWord_c s at_ W (by omega) hs)
  have HW1 := Lib.hid (fun W => refWord_c s (at_ + 1) W (by omega) hs)
  have hrb : Lx.letter b = true → Lx.runN Lx.wordByte (b :: t) = Lx.runN Lx.wordByte t + 1 := fun h => by
    unfold Lx.runN
    rw [List.takeWhile_cons_of_pos (by unfold Lx.wordByte; rw [h]; rfl), List.length_cons]
  have hk := word_kind b t hb
  have hto : ∀ q, t[q]? = s[at_ + 1 + q]? := fun q => by rw [hts, List.getElem?_drop]
  have hrn : ∀ i, i < Lx.runN Lx.wordByte t → ∃ c, t[i]? = some c ∧ Lx.wordByte c = true := runN_at Lx.wordByte t
  have htk := fun n => refWord_take b t s at_ n hd
  have hwc := wordN_colon b t
  have hwp := wordN_plain b t
  rw [hd] at HW0
  rw [← hts] at HW1
  rw [hk] at hE HQ
  have HHD : Hid (t.head? = s[at_ + 1]?) := Lib.hid (by rw [List.head?_eq_getElem?, hto 0])
  generalize (b :: t).take (Lx.wordN (b :: t)) = X at *
  generalize Lx.wordN (b :: t) = N at *
  generalize hrr : Lx.runN Lx.wordByte t = r at *
  have HTO := Lib.hid (hto r)
  have HRN := Lib.hid (fun h => hrn 0 h)
  have HTK := Lib.hid htk
  have HWC := Lib.hid hwc
  have HWP := Lib.hid hwp
  have HE := Lib.hid hE
  have HT0 := Lib.hid (hto 0)
  clear hd hto hb0 hts hk hrn htk hwc hwp hE hrr
  by_cases h95 : b = 95
  · subst h95
    have HWd := Lib.hid HW1.out
    have hwr1 : IntKind.i64.wrap ((at_ : Int) + 1) = (at_ : Int) + 1 := IntWalk.i64_in _ (by omega)
    have hwr2 : IntKind.i64.wrap ((at_ : Int) + 1 + (r : Int)) = (at_ : Int) + 1 + (r : Int) := IntWalk.i64_in _ (by omega)
    have dF : decide ((at_ : Int) < (at_ : Int) + 1) = true := decide_eq_true (by omega)
    clear HW0 HW1 hrb hb
    by_cases hend : at_ + 1 + r = s.length
    · have dE : decide ((at_ : Int) + 1 + (r : Int) < (s.length : Int)) = false := decide_eq_false (by omega)
      have dEn : decide (at_ + 1 + r < s.length) = false := decide_eq_false (by omega)
      have hnone : t[r]? = none := by rw [HTO.out]; exact List.getElem?_eq_none (by omega)
      have HCO : Hid ((t[r]? == some 58) = false) := Lib.hid (by rw [hnone]; rfl)
      have HN : Hid (N = r + 1) := Lib.hid (HWP.out (by rw [hnone]; simp))
      have HTX : Hid ((⟨s.toArray⟩ : ByteArray).extract at_ (at_ + 1 + r) = ⟨X.toArray⟩) := Lib.hid (by rw [Nat.add_assoc]; exact HTK.out (1 + r) (by rw [HN.out]; omega))
      have hwr3 : IntKind.i64.wrap ((at_ : Int) + 1 + (r : Int) - (at_ : Int)) = (r : Int) + 1 := by rw [IntWalk.i64_in _ (by omega)]; omega
      have HEnd := Lib.hid hend
      clear hend hnone HTO HWC HWP HTK
      by_cases hr0 : r = 0
      · have dr : ((r : Int) == 0) = true := by rw [hr0]; rfl
        have drn : (r == 0) = true := by rw [hr0]; rfl
        have hEE : E = 12 := by rw [HE.out]; simp [Lx.kindOfW, hr0]
        have HR0 := Lib.hid hr0
        clear hr0
        subst hEE
        clear HE
        go_enter Tryz.func75, Tryz.ntmps75
        go_wp2_with (first
          | (go_at_call 96; refine (HWd.out _).mono ?_; rintro e w' ⟨rfl, hw'⟩; rw [hw']; clear hw')
          | (go_at_call 77; refine (HDc.out _).mono ?_; rintro e w' ⟨rfl, hw'⟩; rw [hw']; clear hw')
          | (go_at_call 65; refine (HCc.out _).mono ?_; rintro e w' ⟨rfl, hw'⟩; rw [hw']; clear hw'))
        refine bodyPost_ret (v := .tuple #[.agg #[.int .i64 0, .string ((⟨s.toArray⟩ : ByteArray).extract at_ (at_ + 1 + r)), .int .i64 0, .int .i64 0], .int .i64 ((r : Int) + 1), .int .i64 12]) ?_ rfl (HQ.out _ _ _ _ (((Below.refl _ w).alloc (Nat.le_refl _) _).alloc (by simp) _) (fun h => absurd h (by decide)))
        simp [results, Tryz.results75, go_sem]
      · have dr : ((r : Int) == 0) = false := beq_eq_false_iff_ne.2 (by omega)
        have drn : (r == 0) = false := beq_eq_false_iff_ne.2 hr0
        by_cases h24 : 24 < r
        · have d24 : decide ((24 : Int) < (r : Int)) = true := decide_eq_true (by omega)
          have d24n : decide (24 < r) = true := decide_eq_true h24
          have hEE : E = 12 := by rw [HE.out]; simp [Lx.kindOfW, h24]
          have HR0 := Lib.hid hr0
          clear hr0 h24
          subst hEE
          clear HE
          go_enter Tryz.func75, Tryz.ntmps75
          go_wp2_with (first
            | (go_at_call 96; refine (HWd.out _).mono ?_; rintro e w' ⟨rfl, hw'⟩; rw [hw']; clear hw')
            | (go_at_call 77; refine (HDc.out _).mono ?_; rintro e w' ⟨rfl, hw'⟩; rw [hw']; clear hw')
            | (go_at_call 65; refine (HCc.out _).mono ?_; rintro e w' ⟨rfl, hw'⟩; rw [hw']; clear hw'))
          refine bodyPost_ret (v := .tuple #[.agg #[.int .i64 0, .string ((⟨s.toArray⟩ : ByteArray).extract at_ (at_ + 1 + r)), .int .i64 0, .int .i64 0], .int .i64 ((r : Int) + 1), .int .i64 12]) ?_ rfl (HQ.out _ _ _ _ (((Below.refl _ w).alloc (Nat.le_refl _) _).alloc (by simp) _) (fun h => absurd h (by decide)))
          simp [results, Tryz.results75, go_sem]
        · have d24 : decide ((24 : Int) < (r : Int)) = false := decide_eq_false (by omega)
          have d24n : decide (24 < r) = false := decide_eq_false h24
          have hlt1 : at_ + 1 < s.length := by omega
          obtain ⟨c, hc, hcw⟩ := HRN.out (by omega)
          rw [HT0.out, Nat.add_zero] at hc
          have hget3 : (⟨s.toArray⟩ : ByteArray)[at_ + 1]'(by rw [hss]; exact hlt1) = c := (List.getElem?_eq_some_iff.1 hc).2
          have hE2 : E = if Lx.kindOfW 95 c r (t[r]? == some 58) = 0 then 12 else 0 := by rw [HE.out, HHD.out, hc]; rfl
          have hQ2 : Lx.kindOfW 95 (if ((95 : UInt8) == 95) = true then t.head?.getD 0 else 95) (if ((95 : UInt8) == 95) = true then r else r + 1) (t[r]? == some 58) = Lx.kindOfW 95 c r (t[r]? == some 58) := by rw [HHD.out, hc]; rfl
          rw [HCO.out] at hE2 hQ2
          have HDc := Lib.hid (refDigit_c c)
          have HCc := Lib.hid (refCapital_c c)
          have HWB := Lib.hid hcw
          have hdc := digit_others c
          clear hc
          cases hdg : Lx.digit c
          · rw [hdg] at HDc
            cases hcp : Lx.capital c
            · rw [hcp] at HCc
              have hEE : E = 12 := by rw [hE2]; simp [Lx.kindOfW, hcp]
              clear hE2 hQ2 hdc hr0 h24 hcw
              subst hEE
              clear HE
              go_enter Tryz.func75, Tryz.ntmps75
              go_wp2_with (first
                | (go_at_call 96; refine (HWd.out _).mono ?_; rintro e w' ⟨rfl, hw'⟩; rw [hw']; clear hw')
                | (go_at_call 77; refine (HDc.out _).mono ?_; rintro e w' ⟨rfl, hw'⟩; rw [hw']; clear hw')
                | (go_at_call 65; refine (HCc.out _).mono ?_; rintro e w' ⟨rfl, hw'⟩; rw [hw']; clear hw'))
              refine bodyPost_ret (v := .tuple #[.agg #[.int .i64 4, .string ((⟨s.toArray⟩ : ByteArray).extract at_ (at_ + 1 + r)), .int .i64 0, .int .i64 0], .int .i64 ((r : Int) + 1), .int .i64 12]) ?_ rfl (HQ.out _ _ _ _ (((Below.refl _ w).alloc (Nat.le_refl _) _).alloc (by simp) _) (fun h => absurd h (by decide)))
              simp [results, Tryz.results75, go_sem]
            · rw [hcp] at HCc
              have hK4 : Lx.kindOfW 95 c r false = 4 := by unfold Lx.kindOfW; rw [if_neg (by omega), hcp]; rfl
              have hEE : E = 0 := by rw [hE2, hK4]; rfl
              have HKK := Lib.hid (hQ2.trans hK4)
              clear hE2 hQ2 hdc hr0 h24 hcw hK4
              subst hEE
              clear HE
              go_enter Tryz.func75, Tryz.ntmps75
              go_wp2_with (first
                | (go_at_call 96; refine (HWd.out _).mono ?_; rintro e w' ⟨rfl, hw'⟩; rw [hw']; clear hw')
                | (go_at_call 77; refine (HDc.out _).mono ?_; rintro e w' ⟨rfl, hw'⟩; rw [hw']; clear hw')
                | (go_at_call 65; refine (HCc.out _).mono ?_; rintro e w' ⟨rfl, hw'⟩; rw [hw']; clear hw'))
              refine bodyPost_ret (v := .tuple #[.agg #[.int .i64 4, .string ((⟨s.toArray⟩ : ByteArray).extract at_ (at_ + 1 + r)), .int .i64 0, .int .i64 0], .int .i64 ((r : Int) + 1), .int .i64 0]) ?_ rfl (HQ.out _ _ _ _ (((Below.refl _ w).alloc (Nat.le_refl _) _).alloc (by simp) _) (fun _ => ⟨by rw [HCO.out, HKK.out]; rfl, HTX.out, by rw [HN.out]; rfl⟩))
              simp [results, Tryz.results75, go_sem]
          · rw [hdg] at HDc
            have hEE : E = 12 := by rw [hE2]; simp [Lx.kindOfW, (hdc hdg).2]
            clear hE2 hQ2 hdc hr0 h24 hcw
            subst hEE
            clear HE
            go_enter Tryz.func75, Tryz.ntmps75
            go_wp2_with (first
              | (go_at_call 96; refine (HWd.out _).mono ?_; rintro e w' ⟨rfl, hw'⟩; rw [hw']; clear hw')
              | (go_at_call 77; refine (HDc.out _).mono ?_; rintro e w' ⟨rfl, hw'⟩; rw [hw']; clear hw')
              | (go_at_call 65; refine (HCc.out _).mono ?_; rintro e w' ⟨rfl, hw'⟩; rw [hw']; clear hw'))
            refine bodyPost_ret (v := .tuple #[.agg #[.int .i64 0, .string ((⟨s.toArray⟩ : ByteArray).extract at_ (at_ + 1 + r)), .int .i64 0, .int .i64 0], .int .i64 ((r : Int) + 1), .int .i64 12]) ?_ rfl (HQ.out _ _ _ _ (((Below.refl _ w).alloc (Nat.le_refl _) _).alloc (by simp) _) (fun h => absurd h (by decide)))
            simp [results, Tryz.results75, go_sem]
    · have hlt : at_ + 1 + r < s.length := by omega
      have dE : decide ((at_ : Int) + 1 + (r : Int) < (s.length : Int)) = true := decide_eq_true (by omega)
      have dEn : decide (at_ + 1 + r < s.length) = true := decide_eq_true hlt
      obtain ⟨c2, hc2⟩ : ∃ c, s[at_ + 1 + r]? = some c := ⟨_, List.getElem?_eq_getElem hlt⟩
      have hget2 : (⟨s.toArray⟩ : ByteArray)[at_ + 1 + r]'(by rw [hss]; exact hlt) = c2 := (List.getElem?_eq_some_iff.1 hc2).2
      have htr : t[r]? = some c2 := by rw [HTO.out]; exact hc2
      clear hend hc2
      by_cases h58 : c2 = 58
      · have d58 : ((c2.toNat : Int) == 58) = true := by rw [h58]; rfl
        have HCO : Hid ((t[r]? == some 58) = true) := Lib.hid (by rw [htr, h58]; rfl)
        have HN : Hid (N = r + 2) := Lib.hid (HWC.out (by rw [htr, h58]))
        have HTX : Hid ((⟨s.toArray⟩ : ByteArray).extract at_ (at_ + 1 + r + 1) = ⟨X.toArray⟩) := Lib.hid (by rw [show at_ + 1 + r + 1 = at_ + (r + 2) by omega]; exact HTK.out (r + 2) (by rw [HN.out]))
        have hwr3 : IntKind.i64.wrap ((at_ : Int) + 1 + (r : Int) + 1 - (at_ : Int)) = (r : Int) + 2 := by rw [IntWalk.i64_in _ (by omega)]; omega
        have hwr4 : IntKind.i64.wrap ((at_ : Int) + 1 + (r : Int) + 1) = (at_ : Int) + 1 + (r : Int) + 1 := IntWalk.i64_in _ (by omega)
        clear h58 htr HTO HWC HWP HTK
        by_cases hr0 : r = 0
        · have dr : ((r : Int) == 0) = true := by rw [hr0]; rfl
          have drn : (r == 0) = true := by rw [hr0]; rfl
          have hEE : E = 12 := by rw [HE.out]; simp [Lx.kindOfW, hr0]
          have HR0 := Lib.hid hr0
          clear hr0
          subst hEE
          clear HE
          go_enter Tryz.func75, Tryz.ntmps75
          go_wp2_with (first
            | (go_at_call 96; refine (HWd.out _).mono ?_; rintro e w' ⟨rfl, hw'⟩; rw [hw']; clear hw')
            | (go_at_call 77; refine (HDc.out _).mono ?_; rintro e w' ⟨rfl, hw'⟩; rw [hw']; clear hw')
            | (go_at_call 65; refine (HCc.out _).mono ?_; rintro e w' ⟨rfl, hw'⟩; rw [hw']; clear hw'))
          refine bodyPost_ret (v := .tuple #[.agg #[.int .i64 0, .string ((⟨s.toArray⟩ : ByteArray).extract at_ (at_ + 1 + r + 1)), .int .i64 0, .int .i64 0], .int .i64 ((r : Int) + 2), .int .i64 12]) ?_ rfl (HQ.out _ _ _ _ (((Below.refl _ w).alloc (Nat.le_refl _) _).alloc (by simp) _) (fun h => absurd h (by decide)))
          simp [results, Tryz.results75, go_sem]
        · have dr : ((r : Int) == 0) = false := beq_eq_false_iff_ne.2 (by omega)
          have drn : (r == 0) = false := beq_eq_false_iff_ne.2 hr0
          by_cases h24 : 24 < r
          · have d24 : decide ((24 : Int) < (r : Int)) = true := decide_eq_true (by omega)
            have d24n : decide (24 < r) = true := decide_eq_true h24
            have hEE : E = 12 := by rw [HE.out]; simp [Lx.kindOfW, h24]
            have HR0 := Lib.hid hr0
            clear hr0 h24
            subst hEE
            clear HE
            go_enter Tryz.func75, Tryz.ntmps75
            go_wp2_with (first
              | (go_at_call 96; refine (HWd.out _).mono ?_; rintro e w' ⟨rfl, hw'⟩; rw [hw']; clear hw')
              | (go_at_call 77; refine (HDc.out _).mono ?_; rintro e w' ⟨rfl, hw'⟩; rw [hw']; clear hw')
              | (go_at_call 65; refine (HCc.out _).mono ?_; rintro e w' ⟨rfl, hw'⟩; rw [hw']; clear hw'))
            refine bodyPost_ret (v := .tuple #[.agg #[.int .i64 0, .string ((⟨s.toArray⟩ : ByteArray).extract at_ (at_ + 1 + r + 1)), .int .i64 0, .int .i64 0], .int .i64 ((r : Int) + 2), .int .i64 12]) ?_ rfl (HQ.out _ _ _ _ (((Below.refl _ w).alloc (Nat.le_refl _) _).alloc (by simp) _) (fun h => absurd h (by decide)))
            simp [results, Tryz.results75, go_sem]
          · have d24 : decide ((24 : Int) < (r : Int)) = false := decide_eq_false (by omega)
            have d24n : decide (24 < r) = false := decide_eq_false h24
            have hlt1 : at_ + 1 < s.length := by omega
            obtain ⟨c, hc, hcw⟩ := HRN.out (by omega)
            rw [HT0.out, Nat.add_zero] at hc
            have hget3 : (⟨s.toArray⟩ : ByteArray)[at_ + 1]'(by rw [hss]; exact hlt1) = c := (List.getElem?_eq_some_iff.1 hc).2
            have hE2 : E = if Lx.kindOfW 95 c r (t[r]? == some 58) = 0 then 12 else 0 := by rw [HE.out, HHD.out, hc]; rfl
            have hQ2 : Lx.kindOfW 95 (if ((95 : UInt8) == 95) = true then t.head?.getD 0 else 95) (if ((95 : UInt8) == 95) = true then r else r + 1) (t[r]? == some 58) = Lx.kindOfW 95 c r (t[r]? == some 58) := by rw [HHD.out, hc]; rfl
            rw [HCO.out] at hE2 hQ2
            have HDc := Lib.hid (refDigit_c c)
            have HCc := Lib.hid (refCapital_c c)
            have HWB := Lib.hid hcw
            have hdc := digit_others c
            clear hc
            cases hdg : Lx.digit c
            · rw [hdg] at HDc
              cases hcp : Lx.capital c
              · rw [hcp] at HCc
                have hEE : E = 12 := by rw [hE2]; simp [Lx.kindOfW, hcp]
                clear hE2 hQ2 hdc hr0 h24 hcw
                subst hEE
                clear HE
                go_enter Tryz.func75, Tryz.ntmps75
                go_wp2_with (first
                  | (go_at_call 96; refine (HWd.out _).mono ?_; rintro e w' ⟨rfl, hw'⟩; rw [hw']; clear hw')
                  | (go_at_call 77; refine (HDc.out _).mono ?_; rintro e w' ⟨rfl, hw'⟩; rw [hw']; clear hw')
                  | (go_at_call 65; refine (HCc.out _).mono ?_; rintro e w' ⟨rfl, hw'⟩; rw [hw']; clear hw'))
                refine bodyPost_ret (v := .tuple #[.agg #[.int .i64 4, .string ((⟨s.toArray⟩ : ByteArray).extract at_ (at_ + 1 + r + 1)), .int .i64 0, .int .i64 0], .int .i64 ((r : Int) + 2), .int .i64 12]) ?_ rfl (HQ.out _ _ _ _ (((Below.refl _ w).alloc (Nat.le_refl _) _).alloc (by simp) _) (fun h => absurd h (by decide)))
                simp [results, Tryz.results75, go_sem]
              · rw [hcp] at HCc
                have hK4 : Lx.kindOfW 95 c r true = 4 := by unfold Lx.kindOfW; rw [if_neg (by omega), hcp]; rfl
                have hEE : E = 0 := by rw [hE2, hK4]; rfl
                have HKK := Lib.hid (hQ2.trans hK4)
                clear hE2 hQ2 hdc hr0 h24 hcw hK4
                subst hEE
                clear HE
                go_enter Tryz.func75, Tryz.ntmps75
                go_wp2_with (first
                  | (go_at_call 96; refine (HWd.out _).mono ?_; rintro e w' ⟨rfl, hw'⟩; rw [hw']; clear hw')
                  | (go_at_call 77; refine (HDc.out _).mono ?_; rintro e w' ⟨rfl, hw'⟩; rw [hw']; clear hw')
                  | (go_at_call 65; refine (HCc.out _).mono ?_; rintro e w' ⟨rfl, hw'⟩; rw [hw']; clear hw'))
                refine bodyPost_ret (v := .tuple #[.agg #[.int .i64 4, .string ((⟨s.toArray⟩ : ByteArray).extract at_ (at_ + 1 + r + 1)), .int .i64 0, .int .i64 0], .int .i64 ((r : Int) + 2), .int .i64 0]) ?_ rfl (HQ.out _ _ _ _ (((Below.refl _ w).alloc (Nat.le_refl _) _).alloc (by simp) _) (fun _ => ⟨by rw [HCO.out, HKK.out]; rfl, HTX.out, by rw [HN.out]; rfl⟩))
                simp [results, Tryz.results75, go_sem]
            · rw [hdg] at HDc
              have hEE : E = 12 := by rw [hE2]; simp [Lx.kindOfW, (hdc hdg).2]
              clear hE2 hQ2 hdc hr0 h24 hcw
              subst hEE
              clear HE
              go_enter Tryz.func75, Tryz.ntmps75
              go_wp2_with (first
                | (go_at_call 96; refine (HWd.out _).mono ?_; rintro e w' ⟨rfl, hw'⟩; rw [hw']; clear hw')
                | (go_at_call 77; refine (HDc.out _).mono ?_; rintro e w' ⟨rfl, hw'⟩; rw [hw']; clear hw')
                | (go_at_call 65; refine (HCc.out _).mono ?_; rintro e w' ⟨rfl, hw'⟩; rw [hw']; clear hw'))
              refine bodyPost_ret (v := .tuple #[.agg #[.int .i64 0, .string ((⟨s.toArray⟩ : ByteArray).extract at_ (at_ + 1 + r + 1)), .int .i64 0, .int .i64 0], .int .i64 ((r : Int) + 2), .int .i64 12]) ?_ rfl (HQ.out _ _ _ _ (((Below.refl _ w).alloc (Nat.le_refl _) _).alloc (by simp) _) (fun h => absurd h (by decide)))
              simp [results, Tryz.results75, go_sem]
      · have d58 : ((c2.toNat : Int) == 58) = false := beq_eq_false_iff_ne.2 (fun e => h58 (UInt8.toNat_inj.1 (by have : (58 : UInt8).toNat = 58 := rfl; omega)))
        have HCO : Hid ((t[r]? == some 58) = false) := Lib.hid (by rw [htr]; simpa using h58)
        have HN : Hid (N = r + 1) := Lib.hid (HWP.out (by rw [htr]; simpa using h58))
        have HTX : Hid ((⟨s.toArray⟩ : ByteArray).extract at_ (at_ + 1 + r) = ⟨X.toArray⟩) := Lib.hid (by rw [Nat.add_assoc]; exact HTK.out (1 + r) (by rw [HN.out]; omega))
        have hwr3 : IntKind.i64.wrap ((at_ : Int) + 1 + (r : Int) - (at_ : Int)) = (r : Int) + 1 := by rw [IntWalk.i64_in _ (by omega)]; omega
        clear h58 htr HTO HWC HWP HTK
        by_cases hr0 : r = 0
        · have dr : ((r : Int) == 0) = true := by rw [hr0]; rfl
          have drn : (r == 0) = true := by rw [hr0]; rfl
          have hEE : E = 12 := by rw [HE.out]; simp [Lx.kindOfW, hr0]
          have HR0 := Lib.hid hr0
          clear hr0
          subst hEE
          clear HE
          go_enter Tryz.func75, Tryz.ntmps75
          go_wp2_with (first
            | (go_at_call 96; refine (HWd.out _).mono ?_; rintro e w' ⟨rfl, hw'⟩; rw [hw']; clear hw')
            | (go_at_call 77; refine (HDc.out _).mono ?_; rintro e w' ⟨rfl, hw'⟩; rw [hw']; clear hw')
            | (go_at_call 65; refine (HCc.out _).mono ?_; rintro e w' ⟨rfl, hw'⟩; rw [hw']; clear hw'))
          refine bodyPost_ret (v := .tuple #[.agg #[.int .i64 0, .string ((⟨s.toArray⟩ : ByteArray).extract at_ (at_ + 1 + r)), .int .i64 0, .int .i64 0], .int .i64 ((r : Int) + 1), .int .i64 12]) ?_ rfl (HQ.out _ _ _ _ (((Below.refl _ w).alloc (Nat.le_refl _) _).alloc (by simp) _) (fun h => absurd h (by decide)))
          simp [results, Tryz.results75, go_sem]
        · have dr : ((r : Int) == 0) = false := beq_eq_false_iff_ne.2 (by omega)
          have drn : (r == 0) = false := beq_eq_false_iff_ne.2 hr0
          by_cases h24 : 24 < r
          · have d24 : decide ((24 : Int) < (r : Int)) = true := decide_eq_true (by omega)
            have d24n : decide (24 < r) = true := decide_eq_true h24
            have hEE : E = 12 := by rw [HE.out]; simp [Lx.kindOfW, h24]
            have HR0 := Lib.hid hr0
            clear hr0 h24
            subst hEE
            clear HE
            go_enter Tryz.func75, Tryz.ntmps75
            go_wp2_with (first
              | (go_at_call 96; refine (HWd.out _).mono ?_; rintro e w' ⟨rfl, hw'⟩; rw [hw']; clear hw')
              | (go_at_call 77; refine (HDc.out _).mono ?_; rintro e w' ⟨rfl, hw'⟩; rw [hw']; clear hw')
              | (go_at_call 65; refine (HCc.out _).mono ?_; rintro e w' ⟨rfl, hw'⟩; rw [hw']; clear hw'))
            refine bodyPost_ret (v := .tuple #[.agg #[.int .i64 0, .string ((⟨s.toArray⟩ : ByteArray).extract at_ (at_ + 1 + r)), .int .i64 0, .int .i64 0], .int .i64 ((r : Int) + 1), .int .i64 12]) ?_ rfl (HQ.out _ _ _ _ (((Below.refl _ w).alloc (Nat.le_refl _) _).alloc (by simp) _) (fun h => absurd h (by decide)))
            simp [results, Tryz.results75, go_sem]
          · have d24 : decide ((24 : Int) < (r : Int)) = false := decide_eq_false (by omega)
            have d24n : decide (24 < r) = false := decide_eq_false h24
            have hlt1 : at_ + 1 < s.length := by omega
            obtain ⟨c, hc, hcw⟩ := HRN.out (by omega)
            rw [HT0.out, Nat.add_zero] at hc
            have hget3 : (⟨s.toArray⟩ : ByteArray)[at_ + 1]'(by rw [hss]; exact hlt1) = c := (List.getElem?_eq_some_iff.1 hc).2
            have hE2 : E = if Lx.kindOfW 95 c r (t[r]? == some 58) = 0 then 12 else 0 := by rw [HE.out, HHD.out, hc]; rfl
            have hQ2 : Lx.kindOfW 95 (if ((95 : UInt8) == 95) = true then t.head?.getD 0 else 95) (if ((95 : UInt8) == 95) = true then r else r + 1) (t[r]? == some 58) = Lx.kindOfW 95 c r (t[r]? == some 58) := by rw [HHD.out, hc]; rfl
            rw [HCO.out] at hE2 hQ2
            have HDc := Lib.hid (refDigit_c c)
            have HCc := Lib.hid (refCapital_c c)
            have HWB := Lib.hid hcw
            have hdc := digit_others c
            clear hc
            cases hdg : Lx.digit c
            · rw [hdg] at HDc
              cases hcp : Lx.capital c
              · rw [hcp] at HCc
                have hEE : E = 12 := by rw [hE2]; simp [Lx.kindOfW, hcp]
                clear hE2 hQ2 hdc hr0 h24 hcw
                subst hEE
                clear HE
                go_enter Tryz.func75, Tryz.ntmps75
                go_wp2_with (first
                  | (go_at_call 96; refine (HWd.out _).mono ?_; rintro e w' ⟨rfl, hw'⟩; rw [hw']; clear hw')
                  | (go_at_call 77; refine (HDc.out _).mono ?_; rintro e w' ⟨rfl, hw'⟩; rw [hw']; clear hw')
                  | (go_at_call 65; refine (HCc.out _).mono ?_; rintro e w' ⟨rfl, hw'⟩; rw [hw']; clear hw'))
                refine bodyPost_ret (v := .tuple #[.agg #[.int .i64 4, .string ((⟨s.toArray⟩ : ByteArray).extract at_ (at_ + 1 + r)), .int .i64 0, .int .i64 0], .int .i64 ((r : Int) + 1), .int .i64 12]) ?_ rfl (HQ.out _ _ _ _ (((Below.refl _ w).alloc (Nat.le_refl _) _).alloc (by simp) _) (fun h => absurd h (by decide)))
                simp [results, Tryz.results75, go_sem]
              · rw [hcp] at HCc
                have hK4 : Lx.kindOfW 95 c r false = 4 := by unfold Lx.kindOfW; rw [if_neg (by omega), hcp]; rfl
                have hEE : E = 0 := by rw [hE2, hK4]; rfl
                have HKK := Lib.hid (hQ2.trans hK4)
                clear hE2 hQ2 hdc hr0 h24 hcw hK4
                subst hEE
                clear HE
                go_enter Tryz.func75, Tryz.ntmps75
                go_wp2_with (first
                  | (go_at_call 96; refine (HWd.out _).mono ?_; rintro e w' ⟨rfl, hw'⟩; rw [hw']; clear hw')
                  | (go_at_call 77; refine (HDc.out _).mono ?_; rintro e w' ⟨rfl, hw'⟩; rw [hw']; clear hw')
                  | (go_at_call 65; refine (HCc.out _).mono ?_; rintro e w' ⟨rfl, hw'⟩; rw [hw']; clear hw'))
                refine bodyPost_ret (v := .tuple #[.agg #[.int .i64 4, .string ((⟨s.toArray⟩ : ByteArray).extract at_ (at_ + 1 + r)), .int .i64 0, .int .i64 0], .int .i64 ((r : Int) + 1), .int .i64 0]) ?_ rfl (HQ.out _ _ _ _ (((Below.refl _ w).alloc (Nat.le_refl _) _).alloc (by simp) _) (fun _ => ⟨by rw [HCO.out, HKK.out]; rfl, HTX.out, by rw [HN.out]; rfl⟩))
                simp [results, Tryz.results75, go_sem]
            · rw [hdg] at HDc
              have hEE : E = 12 := by rw [hE2]; simp [Lx.kindOfW, (hdc hdg).2]
              clear hE2 hQ2 hdc hr0 h24 hcw
              subst hEE
              clear HE
              go_enter Tryz.func75, Tryz.ntmps75
              go_wp2_with (first
                | (go_at_call 96; refine (HWd.out _).mono ?_; rintro e w' ⟨rfl, hw'⟩; rw [hw']; clear hw')
                | (go_at_call 77; refine (HDc.out _).mono ?_; rintro e w' ⟨rfl, hw'⟩; rw [hw']; clear hw')
                | (go_at_call 65; refine (HCc.out _).mono ?_; rintro e w' ⟨rfl, hw'⟩; rw [hw']; clear hw'))
              refine bodyPost_ret (v := .tuple #[.agg #[.int .i64 0, .string ((⟨s.toArray⟩ : ByteArray).extract at_ (at_ + 1 + r)), .int .i64 0, .int .i64 0], .int .i64 ((r : Int) + 1), .int .i64 12]) ?_ rfl (HQ.out _ _ _ _ (((Below.refl _ w).alloc (Nat.le_refl _) _).alloc (by simp) _) (fun h => absurd h (by decide)))
              simp [results, Tryz.results75, go_sem]
  · have he95 : (b == 95) = false := by simpa using h95
    have d95 : ((b.toNat : Int) == 95) = false := beq_eq_false_iff_ne.2 (fun e => h95 (UInt8.toNat_inj.1 (by have : (95 : UInt8).toNat = 95 := rfl; omega)))
    have hlb : Lx.letter b = true := by rw [he95, Bool.or_false] at hb; exact hb
    have hwd := HW0.out
    simp only [hrb hlb] at hwd
    have HWd := Lib.hid hwd
    have hwr2 : IntKind.i64.wrap ((at_ : Int) + ((r : Int) + 1)) = (at_ : Int) + 1 + (r : Int) := by rw [IntWalk.i64_in _ (by omega)]; omega
    have dr : (((r : Int) + 1) == 0) = false := beq_eq_false_iff_ne.2 (by omega)
    have drn : ((r + 1) == 0) = false := beq_eq_false_iff_ne.2 (by omega)
    have hdb : Lx.digit b = false := by
      cases h : Lx.digit b
      · rfl
      · have h2 := digit_others b h
        unfold Lx.letter at hlb
        rw [h2.1, h2.2] at hlb
        cases hlb
    have HDc := refDigit_c b
    rw [hdb] at HDc
    have HDc := Lib.hid HDc
    have HCc := Lib.hid (refCapital_c b)
    have hsm : Lx.capital b = false → Lx.small b = true := fun h => by unfold Lx.letter at hlb; rw [h, Bool.or_false] at hlb; exact hlb
    have hcs : Lx.capital b = true → Lx.small b = false := fun h => by
      unfold Lx.capital at h
      simp only [Bool.and_eq_true, decide_eq_true_eq] at h
      unfold Lx.small
      simp; omega
    clear HW0 HW1 hrb hb hwd hdb hlb
    by_cases hend : at_ + 1 + r = s.length
    · have dE : decide ((at_ : Int) + 1 + (r : Int) < (s.length : Int)) = false := decide_eq_false (by omega)
      have dEn : decide (at_ + 1 + r < s.length) = false := decide_eq_false (by omega)
      have hnone : t[r]? = none := by rw [HTO.out]; exact List.getElem?_eq_none (by omega)
      have HCO : Hid ((t[r]? == some 58) = false) := Lib.hid (by rw [hnone]; rfl)
      have HN : Hid (N = r + 1) := Lib.hid (HWP.out (by rw [hnone]; simp))
      have HTX : Hid ((⟨s.toArray⟩ : ByteArray).extract at_ (at_ + 1 + r) = ⟨X.toArray⟩) := Lib.hid (by rw [Nat.add_assoc]; exact HTK.out (1 + r) (by rw [HN.out]; omega))
      have hwr3 : IntKind.i64.wrap ((at_ : Int) + 1 + (r : Int) - (at_ : Int)) = (r : Int) + 1 := by rw [IntWalk.i64_in _ (by omega)]; omega
      have HEnd := Lib.hid hend
      clear hend hnone HTO HWC HWP HTK
      have hE2 : E = if Lx.kindOfW b b (r + 1) (t[r]? == some 58) = 0 then 12 else 0 := by rw [HE.out, he95]; rfl
      have hQ2 : Lx.kindOfW b (if (b == 95) = true then t.head?.getD 0 else b) (if (b == 95) = true then r else r + 1) (t[r]? == some 58) = Lx.kindOfW b b (r + 1) (t[r]? == some 58) := by rw [he95]; rfl
      rw [HCO.out] at hE2 hQ2
      by_cases h24 : 24 < r + 1
      · have d24 : decide ((24 : Int) < (r : Int) + 1) = true := decide_eq_true (by omega)
        have d24n : decide (24 < r + 1) = true := decide_eq_true h24
        have hEE : E = 12 := by
          rw [hE2, if_pos]
          unfold Lx.kindOfW
          rw [if_pos (Or.inr h24)]
        have HR0 := Lib.hid h24
        clear h24 hE2 hQ2 hsm hcs
        subst hEE
        clear HE
        go_enter Tryz.func75, Tryz.ntmps75
        go_wp2_with (first
          | (go_at_call 96; refine (HWd.out _).mono ?_; rintro e w' ⟨rfl, hw'⟩; rw [hw']; clear hw')
          | (go_at_call 77; refine (HDc.out _).mono ?_; rintro e w' ⟨rfl, hw'⟩; rw [hw']; clear hw')
          | (go_at_call 65; refine (HCc.out _).mono ?_; rintro e w' ⟨rfl, hw'⟩; rw [hw']; clear hw'))
        refine bodyPost_ret (v := .tuple #[.agg #[.int .i64 0, .string ((⟨s.toArray⟩ : ByteArray).extract at_ (at_ + 1 + r)), .int .i64 0, .int .i64 0], .int .i64 ((r : Int) + 1), .int .i64 12]) ?_ rfl (HQ.out _ _ _ _ (((Below.refl _ w).alloc (Nat.le_refl _) _).alloc (by simp) _) (fun h => absurd h (by decide)))
        simp [results, Tryz.results75, go_sem]
      · have d24 : decide ((24 : Int) < (r : Int) + 1) = false := decide_eq_false (by omega)
        have d24n : decide (24 < r + 1) = false := decide_eq_false h24
        cases hcp : Lx.capital b
        · have hK : Lx.kindOfW b b (r + 1) false = 1 := by unfold Lx.kindOfW; rw [if_neg (by omega), hcp, hsm hcp, he95]; rfl
          have hEE : E = 0 := by rw [hE2, hK]; rfl
          have HKK := Lib.hid (hQ2.trans hK)
          rw [hcp] at HCc
          clear h24 hE2 hQ2 hK hsm hcs hcp
          subst hEE
          clear HE
          go_enter Tryz.func75, Tryz.ntmps75
          go_wp2_with (first
            | (go_at_call 96; refine (HWd.out _).mono ?_; rintro e w' ⟨rfl, hw'⟩; rw [hw']; clear hw')
            | (go_at_call 77; refine (HDc.out _).mono ?_; rintro e w' ⟨rfl, hw'⟩; rw [hw']; clear hw')
            | (go_at_call 65; refine (HCc.out _).mono ?_; rintro e w' ⟨rfl, hw'⟩; rw [hw']; clear hw'))
          refine bodyPost_ret (v := .tuple #[.agg #[.int .i64 1, .string ((⟨s.toArray⟩ : ByteArray).extract at_ (at_ + 1 + r)), .int .i64 0, .int .i64 0], .int .i64 ((r : Int) + 1), .int .i64 0]) ?_ rfl (HQ.out _ _ _ _ (((Below.refl _ w).alloc (Nat.le_refl _) _).alloc (by simp) _) (fun _ => ⟨by rw [HCO.out, HKK.out]; rfl, HTX.out, by rw [HN.out]; rfl⟩))
          simp [results, Tryz.results75, go_sem]
        · have hK : Lx.kindOfW b b (r + 1) false = 0 := by unfold Lx.kindOfW; rw [if_neg (by omega), hcp, hcs hcp, he95]; rfl
          have hEE : E = 12 := by rw [hE2, hK]; rfl
          rw [hcp] at HCc
          clear h24 hE2 hQ2 hK hsm hcs hcp
          subst hEE
          clear HE
          go_enter Tryz.func75, Tryz.ntmps75
          go_wp2_with (first
            | (go_at_call 96; refine (HWd.out _).mono ?_; rintro e w' ⟨rfl, hw'⟩; rw [hw']; clear hw')
            | (go_at_call 77; refine (HDc.out _).mono ?_; rintro e w' ⟨rfl, hw'⟩; rw [hw']; clear hw')
            | (go_at_call 65; refine (HCc.out _).mono ?_; rintro e w' ⟨rfl, hw'⟩; rw [hw']; clear hw'))
          refine bodyPost_ret (v := .tuple #[.agg #[.int .i64 3, .string ((⟨s.toArray⟩ : ByteArray).extract at_ (at_ + 1 + r)), .int .i64 0, .int .i64 0], .int .i64 ((r : Int) + 1), .int .i64 12]) ?_ rfl (HQ.out _ _ _ _ (((Below.refl _ w).alloc (Nat.le_refl _) _).alloc (by simp) _) (fun h => absurd h (by decide)))
          simp [results, Tryz.results75, go_sem]
    · have hlt : at_ + 1 + r < s.length := by omega
      have dE : decide ((at_ : Int) + 1 + (r : Int) < (s.length : Int)) = true := decide_eq_true (by omega)
      have dEn : decide (at_ + 1 + r < s.length) = true := decide_eq_true hlt
      obtain ⟨c2, hc2⟩ : ∃ c, s[at_ + 1 + r]? = some c := ⟨_, List.getElem?_eq_getElem hlt⟩
      have hget2 : (⟨s.toArray⟩ : ByteArray)[at_ + 1 + r]'(by rw [hss]; exact hlt) = c2 := (List.getElem?_eq_some_iff.1 hc2).2
      have htr : t[r]? = some c2 := by rw [HTO.out]; exact hc2
      clear hend hc2
      by_cases h58 : c2 = 58
      · have d58 : ((c2.toNat : Int) == 58) = true := by rw [h58]; rfl
        have HCO : Hid ((t[r]? == some 58) = true) := Lib.hid (by rw [htr, h58]; rfl)
        have HN : Hid (N = r + 2) := Lib.hid (HWC.out (by rw [htr, h58]))
        have HTX : Hid ((⟨s.toArray⟩ : ByteArray).extract at_ (at_ + 1 + r + 1) = ⟨X.toArray⟩) := Lib.hid (by rw [show at_ + 1 + r + 1 = at_ + (r + 2) by omega]; exact HTK.out (r + 2) (by rw [HN.out]))
        have hwr3 : IntKind.i64.wrap ((at_ : Int) + 1 + (r : Int) + 1 - (at_ : Int)) = (r : Int) + 2 := by rw [IntWalk.i64_in _ (by omega)]; omega
        have hwr4 : IntKind.i64.wrap ((at_ : Int) + 1 + (r : Int) + 1) = (at_ : Int) + 1 + (r : Int) + 1 := IntWalk.i64_in _ (by omega)
        clear h58 htr HTO HWC HWP HTK
        have hE2 : E = if Lx.kindOfW b b (r + 1) (t[r]? == some 58) = 0 then 12 else 0 := by rw [HE.out, he95]; rfl
        have hQ2 : Lx.kindOfW b (if (b == 95) = true then t.head?.getD 0 else b) (if (b == 95) = true then r else r + 1) (t[r]? == some 58) = Lx.kindOfW b b (r + 1) (t[r]? == some 58) := by rw [he95]; rfl
        rw [HCO.out] at hE2 hQ2
        by_cases h24 : 24 < r + 1
        · have d24 : decide ((24 : Int) < (r : Int) + 1) = true := decide_eq_true (by omega)
          have d24n : decide (24 < r + 1) = true := decide_eq_true h24
          have hEE : E = 12 := by
            rw [hE2, if_pos]
            unfold Lx.kindOfW
            rw [if_pos (Or.inr h24)]
          have HR0 := Lib.hid h24
          clear h24 hE2 hQ2 hsm hcs
          subst hEE
          clear HE
          go_enter Tryz.func75, Tryz.ntmps75
          go_wp2_with (first
            | (go_at_call 96; refine (HWd.out _).mono ?_; rintro e w' ⟨rfl, hw'⟩; rw [hw']; clear hw')
            | (go_at_call 77; refine (HDc.out _).mono ?_; rintro e w' ⟨rfl, hw'⟩; rw [hw']; clear hw')
            | (go_at_call 65; refine (HCc.out _).mono ?_; rintro e w' ⟨rfl, hw'⟩; rw [hw']; clear hw'))
          refine bodyPost_ret (v := .tuple #[.agg #[.int .i64 0, .string ((⟨s.toArray⟩ : ByteArray).extract at_ (at_ + 1 + r + 1)), .int .i64 0, .int .i64 0], .int .i64 ((r : Int) + 2), .int .i64 12]) ?_ rfl (HQ.out _ _ _ _ (((Below.refl _ w).alloc (Nat.le_refl _) _).alloc (by simp) _) (fun h => absurd h (by decide)))
          simp [results, Tryz.results75, go_sem]
        · have d24 : decide ((24 : Int) < (r : Int) + 1) = false := decide_eq_false (by omega)
          have d24n : decide (24 < r + 1) = false := decide_eq_false h24
          cases hcp : Lx.capital b
          · have hK : Lx.kindOfW b b (r + 1) true = 2 := by unfold Lx.kindOfW; rw [if_neg (by omega), hcp, hsm hcp, he95]; rfl
            have hEE : E = 0 := by rw [hE2, hK]; rfl
            have HKK := Lib.hid (hQ2.trans hK)
            rw [hcp] at HCc
            clear h24 hE2 hQ2 hK hsm hcs hcp
            subst hEE
            clear HE
            go_enter Tryz.func75, Tryz.ntmps75
            go_wp2_with (first
              | (go_at_call 96; refine (HWd.out _).mono ?_; rintro e w' ⟨rfl, hw'⟩; rw [hw']; clear hw')
              | (go_at_call 77; refine (HDc.out _).mono ?_; rintro e w' ⟨rfl, hw'⟩; rw [hw']; clear hw')
              | (go_at_call 65; refine (HCc.out _).mono ?_; rintro e w' ⟨rfl, hw'⟩; rw [hw']; clear hw'))
            refine bodyPost_ret (v := .tuple #[.agg #[.int .i64 2, .string ((⟨s.toArray⟩ : ByteArray).extract at_ (at_ + 1 + r + 1)), .int .i64 0, .int .i64 0], .int .i64 ((r : Int) + 2), .int .i64 0]) ?_ rfl (HQ.out _ _ _ _ (((Below.refl _ w).alloc (Nat.le_refl _) _).alloc (by simp) _) (fun _ => ⟨by rw [HCO.out, HKK.out]; rfl, HTX.out, by rw [HN.out]; rfl⟩))
            simp [results, Tryz.results75, go_sem]
          · have hK : Lx.kindOfW b b (r + 1) true = 3 := by unfold Lx.kindOfW; rw [if_neg (by omega), hcp, he95]; rfl
            have hEE : E = 0 := by rw [hE2, hK]; rfl
            have HKK := Lib.hid (hQ2.trans hK)
            rw [hcp] at HCc
            clear h24 hE2 hQ2 hK hsm hcs hcp
            subst hEE
            clear HE
            go_enter Tryz.func75, Tryz.ntmps75
            go_wp2_with (first
              | (go_at_call 96; refine (HWd.out _).mono ?_; rintro e w' ⟨rfl, hw'⟩; rw [hw']; clear hw')
              | (go_at_call 77; refine (HDc.out _).mono ?_; rintro e w' ⟨rfl, hw'⟩; rw [hw']; clear hw')
              | (go_at_call 65; refine (HCc.out _).mono ?_; rintro e w' ⟨rfl, hw'⟩; rw [hw']; clear hw'))
            refine bodyPost_ret (v := .tuple #[.agg #[.int .i64 3, .string ((⟨s.toArray⟩ : ByteArray).extract at_ (at_ + 1 + r + 1)), .int .i64 0, .int .i64 0], .int .i64 ((r : Int) + 2), .int .i64 0]) ?_ rfl (HQ.out _ _ _ _ (((Below.refl _ w).alloc (Nat.le_refl _) _).alloc (by simp) _) (fun _ => ⟨by rw [HCO.out, HKK.out]; rfl, HTX.out, by rw [HN.out]; rfl⟩))
            simp [results, Tryz.results75, go_sem]
      · have d58 : ((c2.toNat : Int) == 58) = false := beq_eq_false_iff_ne.2 (fun e => h58 (UInt8.toNat_inj.1 (by have : (58 : UInt8).toNat = 58 := rfl; omega)))
        have HCO : Hid ((t[r]? == some 58) = false) := Lib.hid (by rw [htr]; simpa using h58)
        have HN : Hid (N = r + 1) := Lib.hid (HWP.out (by rw [htr]; simpa using h58))
        have HTX : Hid ((⟨s.toArray⟩ : ByteArray).extract at_ (at_ + 1 + r) = ⟨X.toArray⟩) := Lib.hid (by rw [Nat.add_assoc]; exact HTK.out (1 + r) (by rw [HN.out]; omega))
        have hwr3 : IntKind.i64.wrap ((at_ : Int) + 1 + (r : Int) - (at_ : Int)) = (r : Int) + 1 := by rw [IntWalk.i64_in _ (by omega)]; omega
        clear h58 htr HTO HWC HWP HTK
        have hE2 : E = if Lx.kindOfW b b (r + 1) (t[r]? == some 58) = 0 then 12 else 0 := by rw [HE.out, he95]; rfl
        have hQ2 : Lx.kindOfW b (if (b == 95) = true then t.head?.getD 0 else b) (if (b == 95) = true then r else r + 1) (t[r]? == some 58) = Lx.kindOfW b b (r + 1) (t[r]? == some 58) := by rw [he95]; rfl
        rw [HCO.out] at hE2 hQ2
        by_cases h24 : 24 < r + 1
        · have d24 : decide ((24 : Int) < (r : Int) + 1) = true := decide_eq_true (by omega)
          have d24n : decide (24 < r + 1) = true := decide_eq_true h24
          have hEE : E = 12 := by
            rw [hE2, if_pos]
            unfold Lx.kindOfW
            rw [if_pos (Or.inr h24)]
          have HR0 := Lib.hid h24
          clear h24 hE2 hQ2 hsm hcs
          subst hEE
          clear HE
          go_enter Tryz.func75, Tryz.ntmps75
          go_wp2_with (first
            | (go_at_call 96; refine (HWd.out _).mono ?_; rintro e w' ⟨rfl, hw'⟩; rw [hw']; clear hw')
            | (go_at_call 77; refine (HDc.out _).mono ?_; rintro e w' ⟨rfl, hw'⟩; rw [hw']; clear hw')
            | (go_at_call 65; refine (HCc.out _).mono ?_; rintro e w' ⟨rfl, hw'⟩; rw [hw']; clear hw'))
          refine bodyPost_ret (v := .tuple #[.agg #[.int .i64 0, .string ((⟨s.toArray⟩ : ByteArray).extract at_ (at_ + 1 + r)), .int .i64 0, .int .i64 0], .int .i64 ((r : Int) + 1), .int .i64 12]) ?_ rfl (HQ.out _ _ _ _ (((Below.refl _ w).alloc (Nat.le_refl _) _).alloc (by simp) _) (fun h => absurd h (by decide)))
          simp [results, Tryz.results75, go_sem]
        · have d24 : decide ((24 : Int) < (r : Int) + 1) = false := decide_eq_false (by omega)
          have d24n : decide (24 < r + 1) = false := decide_eq_false h24
          cases hcp : Lx.capital b
          · have hK : Lx.kindOfW b b (r + 1) false = 1 := by unfold Lx.kindOfW; rw [if_neg (by omega), hcp, hsm hcp, he95]; rfl
            have hEE : E = 0 := by rw [hE2, hK]; rfl
            have HKK := Lib.hid (hQ2.trans hK)
            rw [hcp] at HCc
            clear h24 hE2 hQ2 hK hsm hcs hcp
            subst hEE
            clear HE
            go_enter Tryz.func75, Tryz.ntmps75
            go_wp2_with (first
              | (go_at_call 96; refine (HWd.out _).mono ?_; rintro e w' ⟨rfl, hw'⟩; rw [hw']; clear hw')
              | (go_at_call 77; refine (HDc.out _).mono ?_; rintro e w' ⟨rfl, hw'⟩; rw [hw']; clear hw')
              | (go_at_call 65; refine (HCc.out _).mono ?_; rintro e w' ⟨rfl, hw'⟩; rw [hw']; clear hw'))
            refine bodyPost_ret (v := .tuple #[.agg #[.int .i64 1, .string ((⟨s.toArray⟩ : ByteArray).extract at_ (at_ + 1 + r)), .int .i64 0, .int .i64 0], .int .i64 ((r : Int) + 1), .int .i64 0]) ?_ rfl (HQ.out _ _ _ _ (((Below.refl _ w).alloc (Nat.le_refl _) _).alloc (by simp) _) (fun _ => ⟨by rw [HCO.out, HKK.out]; rfl, HTX.out, by rw [HN.out]; rfl⟩))
            simp [results, Tryz.results75, go_sem]
          · have hK : Lx.kindOfW b b (r + 1) false = 0 := by unfold Lx.kindOfW; rw [if_neg (by omega), hcp, hcs hcp, he95]; rfl
            have hEE : E = 12 := by rw [hE2, hK]; rfl
            rw [hcp] at HCc
            clear h24 hE2 hQ2 hK hsm hcs hcp
            subst hEE
            clear HE
            go_enter Tryz.func75, Tryz.ntmps75
            go_wp2_with (first
              | (go_at_call 96; refine (HWd.out _).mono ?_; rintro e w' ⟨rfl, hw'⟩; rw [hw']; clear hw')
              | (go_at_call 77; refine (HDc.out _).mono ?_; rintro e w' ⟨rfl, hw'⟩; rw [hw']; clear hw')
              | (go_at_call 65; refine (HCc.out _).mono ?_; rintro e w' ⟨rfl, hw'⟩; rw [hw']; clear hw'))
            refine bodyPost_ret (v := .tuple #[.agg #[.int .i64 3, .string ((⟨s.toArray⟩ : ByteArray).extract at_ (at_ + 1 + r)), .int .i64 0, .int .i64 0], .int .i64 ((r : Int) + 1), .int .i64 12]) ?_ rfl (HQ.out _ _ _ _ (((Below.refl _ w).alloc (Nat.le_refl _) _).alloc (by simp) _) (fun h => absurd h (by decide)))
            simp [results, Tryz.results75, go_sem]
end Go.Proofs.YtcjcbhdildcceaaGreatDoor
/- Contract of quoted of the specification's package. Conditions: those in the statement. -/
namespace Go.Proofs.YtcjcbhdildcceaaGreatDoor
open Go.RowKit
set_option linter.unusedVariables false
set_option linter.unusedSimpArgs false

/-- A box that holds a token's four cells. -/
def TB (W : World) (B : Nat) (k : Int) (t : ByteArray) (a b : Int) : Prop := W.heap[B]? = some (.cells #[.int .i64 k, .string t, .int .i64 a, .int .i64 b] 45 (0, 0))
theorem TB.lt {W : World} {B : Nat} {k : Int} {t : ByteArray} {a b : Int} (h : TB W B k t a b) : B < W.heap.size := (Array.getElem?_eq_some_iff.1 h).1
theorem TB.c0 {W : World} {B : Nat} {k : Int} {t : ByteArray} {a b : Int} (h : TB W B k t a b) : W.cell? ⟨B, 0, none⟩ = some (.int .i64 k) := (Lib.cell_of_heap h 0).trans rfl
theorem TB.c1 {W : World} {B : Nat} {k : Int} {t : ByteArray} {a b : Int} (h : TB W B k t a b) : W.cell? ⟨B, 1, none⟩ = some (.string t) := (Lib.cell_of_heap h 1).trans rfl
theorem TB.c2 {W : World} {B : Nat} {k : Int} {t : ByteArray} {a b : Int} (h : TB W B k t a b) : W.cell? ⟨B, 2, none⟩ = some (.int .i64 a) := (Lib.cell_of_heap h 2).trans rfl
theorem TB.c3 {W : World} {B : Nat} {k : Int} {t : ByteArray} {a b : Int} (h : TB W B k t a b) : W.cell? ⟨B, 3, none⟩ = some (.int .i64 b) := (Lib.cell_of_heap h 3).trans rfl
theorem TB.fz {W : World} {B : Nat} {k : Int} {t : ByteArray} {a b : Int} (h : TB W B k t a b) (i : Nat) : W.frozen? ⟨B, i, none⟩ = false := Lib.frozen_of_heap h i
theorem TB.new (W : World) (k : Int) (t : ByteArray) (a b : Int) : TB (W.alloc (.cells #[.int .i64 k, .string t, .int .i64 a, .int .i64 b] 45)) W.heap.size k t a b := World.alloc_heap_new W _
theorem TB.below {W W' : World} {n B : Nat} {k : Int} {t : ByteArray} {a b : Int} (h : TB W B k t a b) (hb : Below n W W') (hn : B < n) : TB W' B k t a b := (hb.block B hn).trans h
theorem TB.alloc {W : World} {B : Nat} {k : Int} {t : ByteArray} {a b : Int} (h : TB W B k t a b) (o : Obj) : TB (W.alloc o) B k t a b := (Below.alloc (Below.refl W.heap.size W) (Nat.le_refl _) o).block B h.lt |>.trans h
theorem TB.other {W : World} {B : Nat} {k : Int} {t : ByteArray} {a b : Int} (h : TB W B k t a b) (p : Addr) (hp : p.block ≠ B) (y : Value) : TB (W.setCell p y) B k t a b :=
  (Below.heap_setCell W p y B (fun e => hp e.symm)).trans h
theorem TB.st {W : World} {B : Nat} {cs : Array Value} (i : Nat) (y : Value) (h : W.heap[B]? = some (.cells cs 45 (0, 0))) : (W.setCell ⟨B, i, none⟩ y).heap[B]? = some (.cells (cs.setIfInBounds i y) 45 (0, 0)) := by
  obtain ⟨hlt, hk⟩ := Array.getElem?_eq_some_iff.1 h
  show (W.heap.modify B _)[B]? = _
  rw [Array.getElem?_eq_getElem (by rw [Array.size_modify]; exact hlt), Array.getElem_modify_self, hk]
  rfl
theorem TB.put0 {W : World} {B : Nat} {k : Int} {t : ByteArray} {a b : Int} (h : TB W B k t a b) (k' : Int) : TB (W.setCell ⟨B, 0, none⟩ (.int .i64 k')) B k' t a b := TB.st 0 _ h
theorem TB.put1 {W : World} {B : Nat} {k : Int} {t : ByteArray} {a b : Int} (h : TB W B k t a b) (t' : ByteArray) : TB (W.setCell ⟨B, 1, none⟩ (.string t')) B k t' a b := TB.st 1 _ h
theorem TB.put2 {W : World} {B : Nat} {k : Int} {t : ByteArray} {a b : Int} (h : TB W B k t a b) (a' : Int) : TB (W.setCell ⟨B, 2, none⟩ (.int .i64 a')) B k t a' b := TB.st 2 _ h
theorem TB.put3 {W : World} {B : Nat} {k : Int} {t : ByteArray} {a b : Int} (h : TB W B k t a b) (b' : Int) : TB (W.setCell ⟨B, 3, none⟩ (.int .i64 b')) B k t a b' := TB.st 3 _ h
theorem TB.put {W : World} {B : Nat} {k : Int} {t : ByteArray} {a b : Int} (h : TB W B k t a b) (k' : Int) (t' : ByteArray) (a' b' : Int) : TB ((((W.setCell ⟨B, 0, none⟩ (.int .i64 k')).setCell ⟨B, 1, none⟩ (.string t')).setCell ⟨B, 2, none⟩ (.int .i64 a')).setCell ⟨B, 3, none⟩ (.int .i64 b')) B k' t' a' b' := (((h.put0 k').put1 t').put2 a').put3 b'
theorem ret_tb {f : Func} {R : Ending → World → Prop} {a : Act} {W : World} {B : Nat} {t s u : Tmp} {k : Int} {x : ByteArray} {p q : Int} {y z : Value} (hres : f.results = #[.cell t 45, .tmp s, .tmp u]) (hB : a.tmps.getD t undef = .pointer (some ⟨B, 0, none⟩)) (hy : a.tmps.getD s undef = y) (hz : a.tmps.getD u undef = z) (hd : a.defers = [])
    (hN : TB W B k x p q) (hR : R (.returned (.tuple #[.agg #[.int .i64 k, .string x, .int .i64 p, .int .i64 q], y, z])) W) : bodyPost Tryz.prog f R .ret a W := by
  have c0 := hN.c0
  have c1 := hN.c1
  have c2 := hN.c2
  have c3 := hN.c3
  rw [Array.getD_eq_getD_getElem?] at hB hy hz
  refine bodyPost_ret (v := .tuple #[.agg #[.int .i64 k, .string x, .int .i64 p, .int .i64 q], y, z]) ?_ hd hR
  simp [results, hres, hB, hy, hz, go_sem, c0, c1, c2, c3]
theorem below_put4 {n B : Nat} {w W : World} (h : Below n w W) (hB : n ≤ B) (x y z u : Value) : Below n w ((((W.setCell ⟨B, 0, none⟩ x).setCell ⟨B, 1, none⟩ y).setCell ⟨B, 2, none⟩ z).setCell ⟨B, 3, none⟩ u) := (((h.setCell (p := ⟨B, 0, none⟩) hB x).setCell (p := ⟨B, 1, none⟩) hB y).setCell (p := ⟨B, 2, none⟩) hB z).setCell (p := ⟨B, 3, none⟩) hB u
theorem boxesT2 (w : World) (k k' : Int) (t t' : ByteArray) : TB ((w.alloc (.cells #[.int .i64 k, .string t, .int .i64 0, .int .i64 0] 45)).alloc (.cells #[.int .i64 k', .string t', .int .i64 0, .int .i64 0] 45)) w.heap.size k t 0 0 ∧
    TB ((w.alloc (.cells #[.int .i64 k, .string t, .int .i64 0, .int .i64 0] 45)).alloc (.cells #[.int .i64 k', .string t', .int .i64 0, .int .i64 0] 45)) (w.heap.size + 1) k' t' 0 0 ∧
    Below w.heap.size w ((w.alloc (.cells #[.int .i64 k, .string t, .int .i64 0, .int .i64 0] 45)).alloc (.cells #[.int .i64 k', .string t', .int .i64 0, .int .i64 0] 45)) := by
  refine ⟨(TB.new w k t 0 0).alloc _, ?_, ((Below.refl _ w).alloc (Nat.le_refl _) _).alloc (by simp) _⟩
  have := TB.new (w.alloc (.cells #[.int .i64 k, .string t, .int .i64 0, .int .i64 0] 45)) k' t' 0 0
  rwa [World.size_alloc] at this
theorem rs_slice (s : List UInt8) (i j : Nat) : (⟨s.toArray⟩ : ByteArray).extract i j = ⟨((s.take j).drop i).toArray⟩ := by
  apply ByteArray.ext
  rw [ByteArray.data_extract]
  show s.toArray.extract i j = _
  rw [List.extract_toArray, List.extract_eq_take_drop]
  congr 1
  rw [List.drop_take]
theorem ba_one (s : List UInt8) (k : Nat) (c : UInt8) (h : s[k]? = some c) (acc : List UInt8) : (⟨acc.toArray⟩ : ByteArray) ++ (⟨s.toArray⟩ : ByteArray).extract k (k + 1) = ⟨(acc ++ [c]).toArray⟩ := by
  have e : (s.take (k + 1)).drop k = [c] := by
    rw [List.drop_take, drop_some s k c h, Nat.add_sub_cancel_left]; rfl
  rw [rs_slice s k (k + 1), e]
  apply ByteArray.ext
  simp [ByteArray.data_append]
theorem ba_lit (acc : List UInt8) : (⟨acc.toArray⟩ : ByteArray) ++ ⟨#[39]⟩ = ⟨(acc ++ [39]).toArray⟩ := by
  apply ByteArray.ext
  simp [ByteArray.data_append]
/-- What quoted answers. -/
def RetQ (R : Option (Nat × List UInt8)) (w : World) (e : Ending) (w' : World) : Prop := Below w.heap.size w w' ∧
  ((R = none ∧ ∃ k x a b n, e = .returned (.tuple #[.agg #[.int .i64 k, .string x, .int .i64 a, .int .i64 b], .int .i64 n, .int .i64 11])) ∨
   (∃ m y, R = some (m, y) ∧ e = .returned (.tuple #[.agg #[.int .i64 6, .string ⟨y.toArray⟩, .int .i64 0, .int .i64 0], .int .i64 ((m : Int) + 1), .int .i64 0])))

set_option maxHeartbeats 2000000 in
set_option maxRecDepth 100000 in
theorem refQuoted_c (s : List UInt8) (at_ : Nat) (w : World) (R : Option (Nat × List UInt8)) (hs : s.length ≤ 100000000) (hat : at_ < s.length) (hR : Lx.quotedT (s.drop (at_ + 1)) = R) :
    Calls Tryz.prog 76 #[.string ⟨s.toArray⟩, .int .i64 at_] w (RetQ R w) := by
  have hss : (⟨s.toArray⟩ : ByteArray).size = s.length := by simp [ByteArray.size]
  have HR := Lib.hid hR
  have HBx := Lib.hid (boxesT2 w 0 6 ⟨#[]⟩ ⟨#[]⟩)
  have hwr0 : IntKind.i64.wrap ((at_ : Int) + 1) = (at_ : Int) + 1 := IntWalk.i64_in _ (by omega)
  clear hR
  go_enter Tryz.func76, Tryz.ntmps76
  go_wp2_with fail
  go_loopg [8] (s.length - (at_ + 1)) (fun g i wr => ∃ (k : Nat) (acc : List UInt8), at_ + 1 ≤ k ∧ k ≤ s.length ∧ i = .int .i64 k ∧ acc.length ≤ k ∧ Hid (R = (Lx.quotedT (s.drop k)).map (fun x => (x.1 + (k - (at_ + 1)), acc ++ x.2))) ∧ Hid (TB wr w.heap.size 0 ⟨#[]⟩ 0 0) ∧ Hid (TB wr (w.heap.size + 1) 6 ⟨acc.toArray⟩ 0 0) ∧ Hid (Below w.heap.size w wr) ∧ g = s.length - k)
  case atStart => exact ⟨at_ + 1, [], Nat.le_refl _, by omega, rfl, by simp, Lib.hid (by rw [← HR.out]; simp), Lib.hid HBx.out.1, Lib.hid HBx.out.2.1, Lib.hid HBx.out.2.2, rfl⟩
  case round =>
    clear HBx HR
    obtain ⟨k, acc, hk1, hk2, rfl, hal, HN, HT0, HT1, HB, hg⟩ := hrel
    have z0 := HT1.out.c0
    have z1 := HT1.out.c1
    have z2 := HT1.out.c2
    have z3 := HT1.out.c3
    have y0 := HT0.out.c0
    have y1 := HT0.out.c1
    have y2 := HT0.out.c2
    have y3 := HT0.out.c3
    have f0 := HT0.out.fz 0
    have f1 := HT0.out.fz 1
    have f2 := HT0.out.fz 2
    have f3 := HT0.out.fz 3
    have hwr1 : IntKind.i64.wrap ((k : Int) + 1) = (k : Int) + 1 := IntWalk.i64_in _ (by omega)
    by_cases hE : k = s.length
    · have dE : decide ((k : Int) < (s.length : Int)) = false := decide_eq_false (by omega)
      have dEn : decide (k < s.length) = false := decide_eq_false (by omega)
      have HX := Lib.hid (show R = none by
        rw [HN.out, List.drop_eq_nil_of_le (by omega)]; rfl)
      clear hE
      go_wp2_with fail
      exact ret_tb rfl rfl rfl rfl rfl (HT0.out.put _ _ _ _) ⟨below_put4 HB.out (Nat.le_refl _) _ _ _ _, .inl ⟨HX.out, _, _, _, _, _, rfl⟩⟩
    · have hlt : k < s.length := by omega
      have dE : decide ((k : Int) < (s.length : Int)) = true := decide_eq_true (by omega)
      have dEn : decide (k < s.length) = true := decide_eq_true hlt
      obtain ⟨c, hc⟩ : ∃ c, s[k]? = some c := ⟨_, List.getElem?_eq_getElem hlt⟩
      have hget : (⟨s.toArray⟩ : ByteArray)[k]'(by rw [hss]; exact hlt) = c := (List.getElem?_eq_some_iff.1 hc).2
      have hn := HN.out
      rw [drop_some s k c hc] at hn
      have hcc : (c.toNat : Int) < 256 := by have := c.toNat_lt; omega
      by_cases hsh : Lx.shown c = true
      · have hsh2 := hsh
        unfold Lx.shown at hsh2
        simp only [Bool.and_eq_true, decide_eq_true_eq] at hsh2
        have d32 : decide ((c.toNat : Int) < 32) = false := decide_eq_false (by omega)
        have d126 : decide ((126 : Int) < (c.toNat : Int)) = false := decide_eq_false (by omega)
        by_cases h39 : c = 39
        · have d39 : ((c.toNat : Int) != 39) = false := by rw [h39]; rfl
          rw [h39] at hn
          by_cases hE2 : k + 1 = s.length
          · have dX : ((k : Int) + 1 == (s.length : Int)) = true := beq_iff_eq.2 (by omega)
            have dX2 : (k + 1 == s.length) = true := beq_iff_eq.2 hE2
            rw [List.drop_eq_nil_of_le (show s.length ≤ k + 1 by omega), quotedT_one [] (by simp)] at hn
            have HX := Lib.hid (show R = some (k - at_, acc) by rw [hn]; simp; omega)
            have hwr2 : IntKind.i64.wrap ((k : Int) + 1 - (at_ : Int)) = ((k - at_ : Nat) : Int) + 1 := by rw [IntWalk.i64_in _ (by omega)]; omega
            clear hn hc hE hE2 hsh hsh2 h39
            go_wp2_with fail
            all_goals first
              | exact ret_tb rfl rfl rfl rfl rfl (HT0.out.put _ _ _ _) ⟨below_put4 HB.out (Nat.le_refl _) _ _ _ _, .inr ⟨_, _, HX.out, rfl⟩⟩
              | (exfalso; omega)
          · have hlt2 : k + 1 < s.length := by omega
            have dX : ((k : Int) + 1 == (s.length : Int)) = false := beq_eq_false_iff_ne.2 (by omega)
            have dX2 : (k + 1 == s.length) = false := beq_eq_false_iff_ne.2 hE2
            obtain ⟨c2, hc2⟩ : ∃ c, s[k + 1]? = some c := ⟨_, List.getElem?_eq_getElem hlt2⟩
            have hget2 : (⟨s.toArray⟩ : ByteArray)[k + 1]'(by rw [hss]; exact hlt2) = c2 := (List.getElem?_eq_some_iff.1 hc2).2
            rw [drop_some s (k + 1) c2 hc2] at hn
            have hk0 : (0 : Int) ≤ (k : Int) := Int.natCast_nonneg _
            have hk3 : (k : Int) + 1 < (s.length : Int) := by omega
            by_cases h392 : c2 = 39
            · have d392 : ((c2.toNat : Int) != 39) = false := by rw [h392]; rfl
              rw [h392, quotedT_two] at hn
              have HN2 : Hid (R = (Lx.quotedT (s.drop (k + 1 + 1))).map (fun x => (x.1 + (k + 1 + 1 - (at_ + 1)), (acc ++ [39]) ++ x.2))) := Lib.hid (by
                rw [hn, Option.map_map]
                congr 1
                funext x
                show (x.1 + 2 + (k - (at_ + 1)), acc ++ 39 :: x.2) = _
                rw [show x.1 + 2 + (k - (at_ + 1)) = x.1 + (k + 1 + 1 - (at_ + 1)) by omega, List.append_assoc]; rfl)
              have HL := Lib.hid (ba_lit acc)
              have haz : (⟨acc.toArray⟩ : ByteArray).size = acc.length := by simp [ByteArray.size]
              have halm : acc.length ≤ 100000000 := by omega
              have g1 := HT1.out.fz 1
              have hwr3 : IntKind.i64.wrap ((k : Int) + 1 + 1) = (k : Int) + 1 + 1 := IntWalk.i64_in _ (by omega)
              clear hn hc hE hE2 hsh hsh2 h39 hc2 h392
              go_wp2_with fail
              (try rw [HL.out])
              go_wp2_with fail
              go_roundg (s.length - (k + 1 + 1))
              case rel => exact ⟨k + 1 + 1, acc ++ [39], by omega, by omega, by go_num, by simp; omega, HN2, Lib.hid (HT0.out.other ⟨w.heap.size + 1, 1, none⟩ (by simp) _), Lib.hid (HT1.out.put1 _), Lib.hid (HB.out.setCell (p := ⟨w.heap.size + 1, 1, none⟩) (Nat.le_succ _) _), rfl⟩
              case measure => omega
            · have d392 : ((c2.toNat : Int) != 39) = true := bne_iff_ne.2 (fun e => h392 (UInt8.toNat_inj.1 (by have : (39 : UInt8).toNat = 39 := rfl; omega)))
              rw [quotedT_one (c2 :: s.drop (k + 1 + 1)) (by simpa using h392)] at hn
              have HX := Lib.hid (show R = some (k - at_, acc) by rw [hn]; simp; omega)
              have hwr2 : IntKind.i64.wrap ((k : Int) + 1 - (at_ : Int)) = ((k - at_ : Nat) : Int) + 1 := by rw [IntWalk.i64_in _ (by omega)]; omega
              clear hn hc hE hE2 hsh hsh2 h39 hc2 h392
              go_wp2_with fail
              all_goals first
                | exact ret_tb rfl rfl rfl rfl rfl (HT0.out.put _ _ _ _) ⟨below_put4 HB.out (Nat.le_refl _) _ _ _ _, .inr ⟨_, _, HX.out, rfl⟩⟩
                | (exfalso; omega)
        · rw [quotedT_cons c _ h39, if_pos hsh] at hn
          have d39 : ((c.toNat : Int) != 39) = true := bne_iff_ne.2 (fun e => h39 (UInt8.toNat_inj.1 (by have : (39 : UInt8).toNat = 39 := rfl; omega)))
          have HN2 : Hid (R = (Lx.quotedT (s.drop (k + 1))).map (fun x => (x.1 + (k + 1 - (at_ + 1)), (acc ++ [c]) ++ x.2))) := Lib.hid (by
            rw [hn, Option.map_map]
            congr 1
            funext x
            show (x.1 + 1 + (k - (at_ + 1)), acc ++ c :: x.2) = _
            rw [show x.1 + 1 + (k - (at_ + 1)) = x.1 + (k + 1 - (at_ + 1)) by omega, List.append_assoc]; rfl)
          have HBa := Lib.hid (ba_one s k c hc acc)
          have haz : (⟨acc.toArray⟩ : ByteArray).size = acc.length := by simp [ByteArray.size]
          have hez : ((⟨s.toArray⟩ : ByteArray).extract k (k + 1)).size = 1 := by simp [ByteArray.size_extract, hss]; omega
          have halm : acc.length ≤ 100000000 := by omega
          have g1 := HT1.out.fz 1
          have hk0 : (0 : Int) ≤ (k : Int) := Int.natCast_nonneg _
          have hk3 : (k : Int) + 1 ≤ (s.length : Int) := by omega
          clear hn hc hE hsh hsh2 h39
          go_wp2_with fail
          go_region
          all_goals
            (try rw [HBa.out])
            go_wp2_with fail
            go_roundg (s.length - (k + 1))
            case rel => exact ⟨k + 1, acc ++ [c], by omega, by omega, by go_num, by simp; omega, HN2, Lib.hid (HT0.out.other ⟨w.heap.size + 1, 1, none⟩ (by simp) _), Lib.hid (HT1.out.put1 _), Lib.hid ((HB.out.setCell (p := ⟨w.heap.size + 1, 1, none⟩) (Nat.le_succ _) _).drew), rfl⟩
            case measure => omega
      · have h39 : c ≠ 39 := by rintro rfl; exact hsh (by decide)
        rw [quotedT_cons c _ h39, if_neg hsh] at hn
        have HX := Lib.hid (show R = none from hn)
        have hd : (c.toNat : Int) < 32 ∨ (126 : Int) < (c.toNat : Int) := by
          unfold Lx.shown at hsh
          simp only [Bool.and_eq_true, decide_eq_true_eq] at hsh
          omega
        clear hn hc hE hsh h39
        by_cases h32 : (c.toNat : Int) < 32
        · have d32 : decide ((c.toNat : Int) < 32) = true := decide_eq_true h32
          clear hd h32
          go_wp2_with fail
          exact ret_tb rfl rfl rfl rfl rfl (HT0.out.put _ _ _ _) ⟨below_put4 HB.out (Nat.le_refl _) _ _ _ _, .inl ⟨HX.out, _, _, _, _, _, rfl⟩⟩
        · have d32 : decide ((c.toNat : Int) < 32) = false := decide_eq_false h32
          have d126 : decide ((126 : Int) < (c.toNat : Int)) = true := decide_eq_true (by omega)
          clear hd h32
          go_wp2_with fail
          exact ret_tb rfl rfl rfl rfl rfl (HT0.out.put _ _ _ _) ⟨below_put4 HB.out (Nat.le_refl _) _ _ _ _, .inl ⟨HX.out, _, _, _, _, _, rfl⟩⟩
end Go.Proofs.YtcjcbhdildcceaaGreatDoor
/- Contract of first of the specification's package. Conditions: those in the statement. -/
namespace Go.Proofs.YtcjcbhdildcceaaGreatDoor
open Go.RowKit
set_option linter.unusedVariables false
set_option linter.unusedSimpArgs false

theorem indexByte_mem (c : UInt8) : ∀ l : List UInt8, 0 ≤ Lib.indexByte l c ↔ c ∈ l
  | [] => by simp [Lib.indexByte]
  | b :: l => by
    have ih := indexByte_mem c l
    have hge := Lib.indexByte_ge l c
    unfold Lib.indexByte
    by_cases h : b = c
    · subst h; simp
    · have h' : ¬ c = b := fun e => h e.symm
      simp only [List.mem_cons, h', false_or]
      rw [← ih]
      simp only [beq_iff_eq, h, if_false]
      split <;> omega
theorem inB_operator (b : UInt8) : Lx.inB b Lx.operators = Lx.operator b := by
  unfold Lx.inB Lx.operator
  rw [decide_eq_decide]; exact (indexByte_mem b _).symm
theorem inB_sign (b : UInt8) : Lx.inB b Lx.signs = Lx.sign b := by
  unfold Lx.inB Lx.sign
  rw [decide_eq_decide]; exact (indexByte_mem b _).symm
theorem inB_digit (b : UInt8) : Lx.inB b [48, 49, 50, 51, 52, 53, 54, 55, 56, 57] = Lx.digit b := by
  have key : ∀ n : UInt8, (b = n ↔ (b.toNat : Int) = (n.toNat : Int)) := fun n => by rw [← UInt8.toNat_inj]; omega
  have h48 := key 48
  rw [show ((48 : UInt8).toNat : Int) = 48 from rfl] at h48
  have h49 := key 49
  rw [show ((49 : UInt8).toNat : Int) = 49 from rfl] at h49
  have h50 := key 50
  rw [show ((50 : UInt8).toNat : Int) = 50 from rfl] at h50
  have h51 := key 51
  rw [show ((51 : UInt8).toNat : Int) = 51 from rfl] at h51
  have h52 := key 52
  rw [show ((52 : UInt8).toNat : Int) = 52 from rfl] at h52
  have h53 := key 53
  rw [show ((53 : UInt8).toNat : Int) = 53 from rfl] at h53
  have h54 := key 54
  rw [show ((54 : UInt8).toNat : Int) = 54 from rfl] at h54
  have h55 := key 55
  rw [show ((55 : UInt8).toNat : Int) = 55 from rfl] at h55
  have h56 := key 56
  rw [show ((56 : UInt8).toNat : Int) = 56 from rfl] at h56
  have h57 := key 57
  rw [show ((57 : UInt8).toNat : Int) = 57 from rfl] at h57
  unfold Lx.inB Lx.digit
  rw [Bool.eq_iff_iff]
  simp only [decide_eq_true_eq, Bool.and_eq_true, List.mem_cons, List.not_mem_nil, or_false, h48, h49, h50, h51, h52, h53, h54, h55, h56, h57]
  omega
theorem runN_digit (l : List UInt8) : Lx.runN (fun b => Lx.inB b [48, 49, 50, 51, 52, 53, 54, 55, 56, 57]) l = Lx.runN Lx.digit l := by rw [show (fun b => Lx.inB b [48, 49, 50, 51, 52, 53, 54, 55, 56, 57]) = Lx.digit from funext inB_digit]
theorem runN_operator (l : List UInt8) : Lx.runN (fun b => Lx.inB b Lx.operators) l = Lx.runN Lx.operator l := by rw [show (fun b => Lx.inB b Lx.operators) = Lx.operator from funext inB_operator]
/-- The text of a token that begins at an index. -/
def Lx.txt (s : List UInt8) (ix k n : Nat) : List UInt8 := if k = 6 then undbl ((((s.drop ix).take n).drop 1).take (n - 2)) else (s.drop ix).take n
/-- What first answers. -/
def RetFst (s : List UInt8) (ix : Nat) (w : World) (e : Ending) (w' : World) : Prop := Below w.heap.size w w' ∧
  ((∃ E, Lx.measure s ix 0 0 = .bad E ∧ ∃ k x a b n, e = .returned (.tuple #[.agg #[.int .i64 k, .string x, .int .i64 a, .int .i64 b], .int .i64 n, .int .i64 (E : Nat)])) ∨
   (∃ k n : Nat, Lx.measure s ix 0 0 = .ok k n ∧ e = .returned (.tuple #[.agg #[.int .i64 k, .string ⟨(Lx.txt s ix k n).toArray⟩, .int .i64 0, .int .i64 0], .int .i64 (n : Nat), .int .i64 0])))
theorem ext_take (s : List UInt8) (at_ n : Nat) : (⟨s.toArray⟩ : ByteArray).extract at_ (at_ + n) = ⟨((s.drop at_).take n).toArray⟩ := by
  rw [ba_slice s at_ (at_ + n), List.drop_take, Nat.add_sub_cancel_left]
theorem box1T (w : World) : TB (w.alloc (.cells #[.int .i64 0, .string ⟨#[]⟩, .int .i64 0, .int .i64 0] 45)) w.heap.size 0 ⟨#[]⟩ 0 0 ∧ Below w.heap.size w (w.alloc (.cells #[.int .i64 0, .string ⟨#[]⟩, .int .i64 0, .int .i64 0] 45)) := ⟨TB.new w 0 ⟨#[]⟩ 0 0, (Below.refl _ w).alloc (Nat.le_refl _) _⟩

set_option maxHeartbeats 600000 in
set_option maxRecDepth 100000 in
theorem first_word (s : List UInt8) (at_ : Nat) (b : UInt8) (t : List UInt8) (w : World) (hs : s.length ≤ 100000000) (hd : s.drop at_ = b :: t) (hl : Lx.letter b = true) :
    Calls Tryz.prog 51 #[.string ⟨s.toArray⟩, .int .i64 at_] w (RetFst s at_ w) := by
  have hss : (⟨s.toArray⟩ : ByteArray).size = s.length := by simp [ByteArray.size]
  have hat : at_ < s.length := by
    have := congrArg List.length hd
    rw [List.length_drop, List.length_cons] at this
    omega
  have hts : t = s.drop (at_ + 1) := by
    have := congrArg (List.drop 1) hd
    rw [List.drop_drop] at this
    exact this.symm
  have hb0 : s[at_]? = some b := by
    have := congrArg (fun l => l[0]?) hd
    simpa [List.getElem?_drop] using this
  have hget : (⟨s.toArray⟩ : ByteArray)[at_]'(by rw [hss]; exact hat) = b := (List.getElem?_eq_some_iff.1 hb0).2
  have ha0 : (0 : Int) ≤ (at_ : Int) := Int.natCast_nonneg _
  have ha1 : (at_ : Int) < (s.length : Int) := by omega
  have HBx := Lib.hid (box1T w)
  have HLc := Lib.hid (fun W => refLetter_c b W)
  have HMs := Lib.hid (measure_L s at_ 0 0)
  rw [hd] at HMs
  have hb : (Lx.letter b || b == 95) = true := by rw [hl]; rfl
  have hms : Lx.measure s at_ 0 0 = Lx.word (b :: t) := by
    rw [HMs.out]; unfold Lx.measureL; simp only [List.getElem?_cons_zero, Option.getD_some]; rw [if_pos hb]
  obtain ⟨E, hE⟩ : ∃ E, E = if Lx.wordKind ((b :: t).take (Lx.wordN (b :: t))) = 0 then 12 else 0 := ⟨_, rfl⟩
  have HWd := Lib.hid (fun (W : World) (Q : Ending → World → Prop) (HQ : Hid (∀ W' (k : Int) (x : ByteArray) (n : Int), Below W.heap.size W W' → (E = 0 → k = Lx.wordKind ((b :: t).take (Lx.wordN (b :: t))) ∧ x = ⟨((b :: t).take (Lx.wordN (b :: t))).toArray⟩ ∧ n = Lx.wordN (b :: t)) → Q (.returned (.tuple #[.agg #[.int .i64 k, .string x, .int .i64 0, .int .i64 0], .int .i64 n, .int .i64 E])) W')) => refWordly_c s at_ b t W E hs hd hb hE Q HQ)
  rw [hl] at HLc
  have HMm := Lib.hid hms
  have HE := Lib.hid hE
  have HD := Lib.hid hd
  skip
  clear hms hE hd hb hts hb0 HMs hl
  go_enter Tryz.func51, Tryz.ntmps51
  go_wp2_with (go_at_call 43; refine (HLc.out _).mono ?_; rintro e w' ⟨rfl, hw'⟩; rw [hw']; clear hw')
  refine HWd.out _ _ (Lib.hid fun W k x n hB hk => ?_)
  have HT := Lib.hid (HBx.out.1.below hB HBx.out.1.lt)
  have HB := Lib.hid (HBx.out.2.trans (hB.mono HBx.out.2.size))
  have HK := Lib.hid hk
  have c0 := HT.out.c0
  have c1 := HT.out.c1
  have c2 := HT.out.c2
  have c3 := HT.out.c3
  have f0 := HT.out.fz 0
  have f1 := HT.out.fz 1
  have f2 := HT.out.fz 2
  have f3 := HT.out.fz 3
  clear hB hk
  go_wp2_with fail
  refine ret_tb rfl rfl rfl rfl rfl (HT.out.put _ _ _ _) ⟨below_put4 HB.out (Nat.le_refl _) _ _ _ _, ?_⟩
  unfold Lx.word at HMm
  by_cases h0 : Lx.wordKind ((b :: t).take (Lx.wordN (b :: t))) = 0
  · have hE := HE.out
    rw [if_pos h0] at hE
    subst hE
    refine .inl ⟨12, by rw [HMm.out]; simp [h0], _, _, _, _, _, rfl⟩
  · have hE := HE.out
    rw [if_neg h0] at hE
    obtain ⟨e1, e2, e3⟩ := HK.out hE
    refine .inr ⟨Lx.wordKind ((b :: t).take (Lx.wordN (b :: t))), Lx.wordN (b :: t), by rw [HMm.out]; simp [h0], ?_⟩
    have h6 : Lx.wordKind ((b :: t).take (Lx.wordN (b :: t))) ≠ 6 := by
      unfold Lx.wordKind
      simp only
      repeat' split
      all_goals decide
    unfold Lx.txt
    rw [if_neg h6, HD.out, e1, e2, e3, hE]
    rfl

set_option maxHeartbeats 600000 in
set_option maxRecDepth 100000 in
theorem first_under (s : List UInt8) (at_ : Nat) (b : UInt8) (t : List UInt8) (w : World) (hs : s.length ≤ 100000000) (hd : s.drop at_ = b :: t) (hl : Lx.letter b = false) (h95 : b = 95) :
    Calls Tryz.prog 51 #[.string ⟨s.toArray⟩, .int .i64 at_] w (RetFst s at_ w) := by
  have hss : (⟨s.toArray⟩ : ByteArray).size = s.length := by simp [ByteArray.size]
  have hat : at_ < s.length := by
    have := congrArg List.length hd
    rw [List.length_drop, List.length_cons] at this
    omega
  have hts : t = s.drop (at_ + 1) := by
    have := congrArg (List.drop 1) hd
    rw [List.drop_drop] at this
    exact this.symm
  have hb0 : s[at_]? = some b := by
    have := congrArg (fun l => l[0]?) hd
    simpa [List.getElem?_drop] using this
  have hget : (⟨s.toArray⟩ : ByteArray)[at_]'(by rw [hss]; exact hat) = b := (List.getElem?_eq_some_iff.1 hb0).2
  have ha0 : (0 : Int) ≤ (at_ : Int) := Int.natCast_nonneg _
  have ha1 : (at_ : Int) < (s.length : Int) := by omega
  have HBx := Lib.hid (box1T w)
  have HLc := Lib.hid (fun W => refLetter_c b W)
  have HMs := Lib.hid (measure_L s at_ 0 0)
  rw [hd] at HMs
  have hb : (Lx.letter b || b == 95) = true := by rw [h95]; rfl
  have hms : Lx.measure s at_ 0 0 = Lx.word (b :: t) := by
    rw [HMs.out]; unfold Lx.measureL; simp only [List.getElem?_cons_zero, Option.getD_some]; rw [if_pos hb]
  obtain ⟨E, hE⟩ : ∃ E, E = if Lx.wordKind ((b :: t).take (Lx.wordN (b :: t))) = 0 then 12 else 0 := ⟨_, rfl⟩
  have HWd := Lib.hid (fun (W : World) (Q : Ending → World → Prop) (HQ : Hid (∀ W' (k : Int) (x : ByteArray) (n : Int), Below W.heap.size W W' → (E = 0 → k = Lx.wordKind ((b :: t).take (Lx.wordN (b :: t))) ∧ x = ⟨((b :: t).take (Lx.wordN (b :: t))).toArray⟩ ∧ n = Lx.wordN (b :: t)) → Q (.returned (.tuple #[.agg #[.int .i64 k, .string x, .int .i64 0, .int .i64 0], .int .i64 n, .int .i64 E])) W')) => refWordly_c s at_ b t W E hs hd hb hE Q HQ)
  rw [hl] at HLc
  have HMm := Lib.hid hms
  have HE := Lib.hid hE
  have HD := Lib.hid hd
  have d95 : ((b.toNat : Int) == 95) = true := by rw [h95]; rfl
  clear hms hE hd hb hts hb0 HMs hl h95
  go_enter Tryz.func51, Tryz.ntmps51
  go_wp2_with (go_at_call 43; refine (HLc.out _).mono ?_; rintro e w' ⟨rfl, hw'⟩; rw [hw']; clear hw')
  refine HWd.out _ _ (Lib.hid fun W k x n hB hk => ?_)
  have HT := Lib.hid (HBx.out.1.below hB HBx.out.1.lt)
  have HB := Lib.hid (HBx.out.2.trans (hB.mono HBx.out.2.size))
  have HK := Lib.hid hk
  have c0 := HT.out.c0
  have c1 := HT.out.c1
  have c2 := HT.out.c2
  have c3 := HT.out.c3
  have f0 := HT.out.fz 0
  have f1 := HT.out.fz 1
  have f2 := HT.out.fz 2
  have f3 := HT.out.fz 3
  clear hB hk
  go_wp2_with fail
  refine ret_tb rfl rfl rfl rfl rfl (HT.out.put _ _ _ _) ⟨below_put4 HB.out (Nat.le_refl _) _ _ _ _, ?_⟩
  unfold Lx.word at HMm
  by_cases h0 : Lx.wordKind ((b :: t).take (Lx.wordN (b :: t))) = 0
  · have hE := HE.out
    rw [if_pos h0] at hE
    subst hE
    refine .inl ⟨12, by rw [HMm.out]; simp [h0], _, _, _, _, _, rfl⟩
  · have hE := HE.out
    rw [if_neg h0] at hE
    obtain ⟨e1, e2, e3⟩ := HK.out hE
    refine .inr ⟨Lx.wordKind ((b :: t).take (Lx.wordN (b :: t))), Lx.wordN (b :: t), by rw [HMm.out]; simp [h0], ?_⟩
    have h6 : Lx.wordKind ((b :: t).take (Lx.wordN (b :: t))) ≠ 6 := by
      unfold Lx.wordKind
      simp only
      repeat' split
      all_goals decide
    unfold Lx.txt
    rw [if_neg h6, HD.out, e1, e2, e3, hE]
    rfl

set_option maxHeartbeats 600000 in
set_option maxRecDepth 100000 in
theorem first_quote (s : List UInt8) (at_ : Nat) (b : UInt8) (t : List UInt8) (w : World) (hs : s.length ≤ 100000000) (hd : s.drop at_ = b :: t) (hl : Lx.letter b = false) (h95 : b ≠ 95) (h39 : b = 39) :
    Calls Tryz.prog 51 #[.string ⟨s.toArray⟩, .int .i64 at_] w (RetFst s at_ w) := by
  have hss : (⟨s.toArray⟩ : ByteArray).size = s.length := by simp [ByteArray.size]
  have hat : at_ < s.length := by
    have := congrArg List.length hd
    rw [List.length_drop, List.length_cons] at this
    omega
  have hts : t = s.drop (at_ + 1) := by
    have := congrArg (List.drop 1) hd
    rw [List.drop_drop] at this
    exact this.symm
  have hb0 : s[at_]? = some b := by
    have := congrArg (fun l => l[0]?) hd
    simpa [List.getElem?_drop] using this
  have hget : (⟨s.toArray⟩ : ByteArray)[at_]'(by rw [hss]; exact hat) = b := (List.getElem?_eq_some_iff.1 hb0).2
  have ha0 : (0 : Int) ≤ (at_ : Int) := Int.natCast_nonneg _
  have ha1 : (at_ : Int) < (s.length : Int) := by omega
  have HBx := Lib.hid (box1T w)
  have HLc := Lib.hid (fun W => refLetter_c b W)
  have HMs := Lib.hid (measure_L s at_ 0 0)
  rw [hd] at HMs
  have hb : (Lx.letter b || b == 95) = false := by rw [hl]; simpa using h95
  have d95 : ((b.toNat : Int) == 95) = false := beq_eq_false_iff_ne.2 (fun e => h95 (UInt8.toNat_inj.1 (by have : (95 : UInt8).toNat = 95 := rfl; omega)))
  rw [hl] at HLc
  have hms : Lx.measure s at_ 0 0 = Lx.quoted (b :: t) := by
    rw [HMs.out]; unfold Lx.measureL; simp only [List.getElem?_cons_zero, Option.getD_some]
    rw [if_neg (by rw [hb]; simp), if_neg (by rw [h39]; decide), if_pos (by rw [h39]; rfl)]
  have d39 : ((b.toNat : Int) == 39) = true := by rw [h39]; rfl
  obtain ⟨R, hR⟩ : ∃ R, Lx.quotedT (s.drop (at_ + 1)) = R := ⟨_, rfl⟩
  have HQ := Lib.hid (fun W => refQuoted_c s at_ W R hs hat hR)
  rw [← hts, quotedT_eq t.length t (Nat.le_refl _)] at hR
  have HR := Lib.hid hR
  have HMm := Lib.hid hms
  have HD := Lib.hid hd
  clear hms hd hb hts hb0 HMs hl h95 h39 hR
  go_enter Tryz.func51, Tryz.ntmps51
  go_wp2_with (go_at_call 43; refine (HLc.out _).mono ?_; rintro e w' ⟨rfl, hw'⟩; rw [hw']; clear hw')
  refine (HQ.out _).mono ?_
  rintro e W ⟨hB, hcase⟩
  have HT := Lib.hid (HBx.out.1.below hB HBx.out.1.lt)
  have HB := Lib.hid (HBx.out.2.trans (hB.mono HBx.out.2.size))
  have c0 := HT.out.c0
  have c1 := HT.out.c1
  have c2 := HT.out.c2
  have c3 := HT.out.c3
  have f0 := HT.out.fz 0
  have f1 := HT.out.fz 1
  have f2 := HT.out.fz 2
  have f3 := HT.out.fz 3
  clear hB
  unfold Lx.quoted at HMm
  simp only [List.tail_cons] at HMm
  rcases hcase with ⟨hn, k, x, p, q, n, rfl⟩ | ⟨m, y, hsm, rfl⟩
  · have hq : Lx.quotedN t = none := by have := HR.out; rw [hn] at this; simpa using this
    have HQn := Lib.hid hq
    clear hn hq
    go_wp2_with fail
    refine ret_tb rfl rfl rfl rfl rfl (HT.out.put _ _ _ _) ⟨below_put4 HB.out (Nat.le_refl _) _ _ _ _, .inl ⟨11, by rw [HMm.out, HQn.out], _, _, _, _, _, rfl⟩⟩
  · have hq := HR.out
    rw [hsm] at hq
    obtain ⟨n, hn, e⟩ := Option.map_eq_some_iff.1 hq
    injection e with e1 e2
    subst e1 e2
    have HQn := Lib.hid hn
    clear hsm hq hn
    go_wp2_with fail
    refine ret_tb rfl rfl rfl rfl rfl (HT.out.put _ _ _ _) ⟨below_put4 HB.out (Nat.le_refl _) _ _ _ _, .inr ⟨6, n + 1, by rw [HMm.out, HQn.out], ?_⟩⟩
    unfold Lx.txt
    rw [if_pos rfl, HD.out]
    simp [List.take_take, Nat.min_eq_left (Nat.sub_le n 1)]

set_option maxHeartbeats 600000 in
set_option maxRecDepth 100000 in
theorem first_num1 (s : List UInt8) (at_ : Nat) (b : UInt8) (t : List UInt8) (w : World) (hs : s.length ≤ 100000000) (hd : s.drop at_ = b :: t) (hl : Lx.letter b = false) (h95 : b ≠ 95) (h39 : b ≠ 39) (hdg : Lx.digit b = true) (hn : 400 < Lx.runN Lx.digit (b :: t)) :
    Calls Tryz.prog 51 #[.string ⟨s.toArray⟩, .int .i64 at_] w (RetFst s at_ w) := by
  have hss : (⟨s.toArray⟩ : ByteArray).size = s.length := by simp [ByteArray.size]
  have hat : at_ < s.length := by
    have := congrArg List.length hd
    rw [List.length_drop, List.length_cons] at this
    omega
  have hts : t = s.drop (at_ + 1) := by
    have := congrArg (List.drop 1) hd
    rw [List.drop_drop] at this
    exact this.symm
  have hb0 : s[at_]? = some b := by
    have := congrArg (fun l => l[0]?) hd
    simpa [List.getElem?_drop] using this
  have hget : (⟨s.toArray⟩ : ByteArray)[at_]'(by rw [hss]; exact hat) = b := (List.getElem?_eq_some_iff.1 hb0).2
  have ha0 : (0 : Int) ≤ (at_ : Int) := Int.natCast_nonneg _
  have ha1 : (at_ : Int) < (s.length : Int) := by omega
  have HBx := Lib.hid (box1T w)
  have HLc := Lib.hid (fun W => refLetter_c b W)
  have HMs := Lib.hid (measure_L s at_ 0 0)
  rw [hd] at HMs
  have hb : (Lx.letter b || b == 95) = false := by rw [hl]; simpa using h95
  have d95 : ((b.toNat : Int) == 95) = false := beq_eq_false_iff_ne.2 (fun e => h95 (UInt8.toNat_inj.1 (by have : (95 : UInt8).toNat = 95 := rfl; omega)))
  rw [hl] at HLc
  have d39 : ((b.toNat : Int) == 39) = false := beq_eq_false_iff_ne.2 (fun e => h39 (UInt8.toNat_inj.1 (by have : (39 : UInt8).toNat = 39 := rfl; omega)))
  have HDc := Lib.hid (fun W => refDigit_c b W)
  rw [hdg] at HDc
  have HSo := Lib.hid (fun W => refSome_c s [48, 49, 50, 51, 52, 53, 54, 55, 56, 57] at_ W (by omega) hs (by decide))
  rw [runN_digit, hd] at HSo
  have hms : Lx.measure s at_ 0 0 = Lx.number (b :: t) := by
    rw [HMs.out]; unfold Lx.measureL; simp only [List.getElem?_cons_zero, Option.getD_some]
    rw [if_neg (by rw [hb]; simp), if_pos hdg]
  unfold Lx.number at hms
  have hrl : at_ + Lx.runN Lx.digit (b :: t) ≤ s.length := by
    have h1 := (List.takeWhile_prefix Lx.digit (l := b :: t)).length_le
    have h2 := congrArg List.length hd
    rw [List.length_drop] at h2
    unfold Lx.runN
    omega
  generalize Lx.runN Lx.digit (b :: t) = n at *
  rw [if_pos (.inl hn)] at hms
  have e1 : decide ((400 : Int) < (n : Int)) = true := decide_eq_true (by omega)
  have e2 : decide (400 < n) = true := decide_eq_true hn
  have HMm := Lib.hid hms
  have hn0 : (0 : Int) ≤ (n : Int) := Int.natCast_nonneg _
  have hrl2 : (at_ : Int) + (n : Int) ≤ (s.length : Int) := by omega
  clear hms hd hb hts hb0 HMs hl h95 h39
  have hN := HBx.out.1
  have c0 := hN.c0
  have c1 := hN.c1
  have c2 := hN.c2
  have c3 := hN.c3
  have f0 := hN.fz 0
  have f1 := hN.fz 1
  have f2 := hN.fz 2
  have f3 := hN.fz 3
  clear hN
  go_enter Tryz.func51, Tryz.ntmps51
  go_wp2_with (first
    | (go_at_call 43; refine (HLc.out _).mono ?_; rintro e w' ⟨rfl, hw'⟩; rw [hw']; clear hw')
    | (go_at_call 77; refine (HDc.out _).mono ?_; rintro e w' ⟨rfl, hw'⟩; rw [hw']; clear hw')
    | (go_at_call 78; refine (HSo.out _).mono ?_; rintro e w' ⟨rfl, hw'⟩; rw [hw']; clear hw')
    | (go_at_call 44; refine (HIn.out _).mono ?_; rintro e w' ⟨rfl, hw'⟩; rw [hw']; clear hw'))
  exact ret_tb rfl rfl rfl rfl rfl HBx.out.1 ⟨HBx.out.2, .inl ⟨12, HMm.out, _, _, _, _, _, rfl⟩⟩

set_option maxHeartbeats 600000 in
set_option maxRecDepth 100000 in
theorem first_num2 (s : List UInt8) (at_ : Nat) (b : UInt8) (t : List UInt8) (w : World) (hs : s.length ≤ 100000000) (hd : s.drop at_ = b :: t) (hl : Lx.letter b = false) (h95 : b ≠ 95) (h39 : b ≠ 39) (hdg : Lx.digit b = true) (hn : Lx.runN Lx.digit (b :: t) ≤ 400) (hn1 : 1 < Lx.runN Lx.digit (b :: t)) (h48 : b = 48) :
    Calls Tryz.prog 51 #[.string ⟨s.toArray⟩, .int .i64 at_] w (RetFst s at_ w) := by
  have hss : (⟨s.toArray⟩ : ByteArray).size = s.length := by simp [ByteArray.size]
  have hat : at_ < s.length := by
    have := congrArg List.length hd
    rw [List.length_drop, List.length_cons] at this
    omega
  have hts : t = s.drop (at_ + 1) := by
    have := congrArg (List.drop 1) hd
    rw [List.drop_drop] at this
    exact this.symm
  have hb0 : s[at_]? = some b := by
    have := congrArg (fun l => l[0]?) hd
    simpa [List.getElem?_drop] using this
  have hget : (⟨s.toArray⟩ : ByteArray)[at_]'(by rw [hss]; exact hat) = b := (List.getElem?_eq_some_iff.1 hb0).2
  have ha0 : (0 : Int) ≤ (at_ : Int) := Int.natCast_nonneg _
  have ha1 : (at_ : Int) < (s.length : Int) := by omega
  have HBx := Lib.hid (box1T w)
  have HLc := Lib.hid (fun W => refLetter_c b W)
  have HMs := Lib.hid (measure_L s at_ 0 0)
  rw [hd] at HMs
  have hb : (Lx.letter b || b == 95) = false := by rw [hl]; simpa using h95
  have d95 : ((b.toNat : Int) == 95) = false := beq_eq_false_iff_ne.2 (fun e => h95 (UInt8.toNat_inj.1 (by have : (95 : UInt8).toNat = 95 := rfl; omega)))
  rw [hl] at HLc
  have d39 : ((b.toNat : Int) == 39) = false := beq_eq_false_iff_ne.2 (fun e => h39 (UInt8.toNat_inj.1 (by have : (39 : UInt8).toNat = 39 := rfl; omega)))
  have HDc := Lib.hid (fun W => refDigit_c b W)
  rw [hdg] at HDc
  have HSo := Lib.hid (fun W => refSome_c s [48, 49, 50, 51, 52, 53, 54, 55, 56, 57] at_ W (by omega) hs (by decide))
  rw [runN_digit, hd] at HSo
  have hms : Lx.measure s at_ 0 0 = Lx.number (b :: t) := by
    rw [HMs.out]; unfold Lx.measureL; simp only [List.getElem?_cons_zero, Option.getD_some]
    rw [if_neg (by rw [hb]; simp), if_pos hdg]
  unfold Lx.number at hms
  have hrl : at_ + Lx.runN Lx.digit (b :: t) ≤ s.length := by
    have h1 := (List.takeWhile_prefix Lx.digit (l := b :: t)).length_le
    have h2 := congrArg List.length hd
    rw [List.length_drop] at h2
    unfold Lx.runN
    omega
  generalize Lx.runN Lx.digit (b :: t) = n at *
  have h48h : (b :: t).head? = some b := rfl
  rw [h48h] at hms
  rw [if_pos (.inr ⟨hn1, by rw [h48]⟩)] at hms
  have e1 : decide ((400 : Int) < (n : Int)) = false := decide_eq_false (by omega)
  have e2 : decide (400 < n) = false := decide_eq_false (by omega)
  have e3 : decide ((1 : Int) < (n : Int)) = true := decide_eq_true (by omega)
  have e4 : decide (1 < n) = true := decide_eq_true hn1
  have e5 : ((b.toNat : Int) == 48) = true := by rw [h48]; rfl
  clear h48
  have HMm := Lib.hid hms
  have hn0 : (0 : Int) ≤ (n : Int) := Int.natCast_nonneg _
  have hrl2 : (at_ : Int) + (n : Int) ≤ (s.length : Int) := by omega
  clear hms hd hb hts hb0 HMs hl h95 h39
  have hN := HBx.out.1
  have c0 := hN.c0
  have c1 := hN.c1
  have c2 := hN.c2
  have c3 := hN.c3
  have f0 := hN.fz 0
  have f1 := hN.fz 1
  have f2 := hN.fz 2
  have f3 := hN.fz 3
  clear hN
  go_enter Tryz.func51, Tryz.ntmps51
  go_wp2_with (first
    | (go_at_call 43; refine (HLc.out _).mono ?_; rintro e w' ⟨rfl, hw'⟩; rw [hw']; clear hw')
    | (go_at_call 77; refine (HDc.out _).mono ?_; rintro e w' ⟨rfl, hw'⟩; rw [hw']; clear hw')
    | (go_at_call 78; refine (HSo.out _).mono ?_; rintro e w' ⟨rfl, hw'⟩; rw [hw']; clear hw')
    | (go_at_call 44; refine (HIn.out _).mono ?_; rintro e w' ⟨rfl, hw'⟩; rw [hw']; clear hw'))
  exact ret_tb rfl rfl rfl rfl rfl HBx.out.1 ⟨HBx.out.2, .inl ⟨12, HMm.out, _, _, _, _, _, rfl⟩⟩

set_option maxHeartbeats 600000 in
set_option maxRecDepth 100000 in
theorem first_num3 (s : List UInt8) (at_ : Nat) (b : UInt8) (t : List UInt8) (w : World) (hs : s.length ≤ 100000000) (hd : s.drop at_ = b :: t) (hl : Lx.letter b = false) (h95 : b ≠ 95) (h39 : b ≠ 39) (hdg : Lx.digit b = true) (hn : Lx.runN Lx.digit (b :: t) ≤ 400) (hn1 : ¬ 1 < Lx.runN Lx.digit (b :: t)) :
    Calls Tryz.prog 51 #[.string ⟨s.toArray⟩, .int .i64 at_] w (RetFst s at_ w) := by
  have hss : (⟨s.toArray⟩ : ByteArray).size = s.length := by simp [ByteArray.size]
  have hat : at_ < s.length := by
    have := congrArg List.length hd
    rw [List.length_drop, List.length_cons] at this
    omega
  have hts : t = s.drop (at_ + 1) := by
    have := congrArg (List.drop 1) hd
    rw [List.drop_drop] at this
    exact this.symm
  have hb0 : s[at_]? = some b := by
    have := congrArg (fun l => l[0]?) hd
    simpa [List.getElem?_drop] using this
  have hget : (⟨s.toArray⟩ : ByteArray)[at_]'(by rw [hss]; exact hat) = b := (List.getElem?_eq_some_iff.1 hb0).2
  have ha0 : (0 : Int) ≤ (at_ : Int) := Int.natCast_nonneg _
  have ha1 : (at_ : Int) < (s.length : Int) := by omega
  have HBx := Lib.hid (box1T w)
  have HLc := Lib.hid (fun W => refLetter_c b W)
  have HMs := Lib.hid (measure_L s at_ 0 0)
  rw [hd] at HMs
  have hb : (Lx.letter b || b == 95) = false := by rw [hl]; simpa using h95
  have d95 : ((b.toNat : Int) == 95) = false := beq_eq_false_iff_ne.2 (fun e => h95 (UInt8.toNat_inj.1 (by have : (95 : UInt8).toNat = 95 := rfl; omega)))
  rw [hl] at HLc
  have d39 : ((b.toNat : Int) == 39) = false := beq_eq_false_iff_ne.2 (fun e => h39 (UInt8.toNat_inj.1 (by have : (39 : UInt8).toNat = 39 := rfl; omega)))
  have HDc := Lib.hid (fun W => refDigit_c b W)
  rw [hdg] at HDc
  have HSo := Lib.hid (fun W => refSome_c s [48, 49, 50, 51, 52, 53, 54, 55, 56, 57] at_ W (by omega) hs (by decide))
  rw [runN_digit, hd] at HSo
  have hms : Lx.measure s at_ 0 0 = Lx.number (b :: t) := by
    rw [HMs.out]; unfold Lx.measureL; simp only [List.getElem?_cons_zero, Option.getD_some]
    rw [if_neg (by rw [hb]; simp), if_pos hdg]
  unfold Lx.number at hms
  have hrl : at_ + Lx.runN Lx.digit (b :: t) ≤ s.length := by
    have h1 := (List.takeWhile_prefix Lx.digit (l := b :: t)).length_le
    have h2 := congrArg List.length hd
    rw [List.length_drop] at h2
    unfold Lx.runN
    omega
  generalize Lx.runN Lx.digit (b :: t) = n at *
  rw [if_neg (by omega)] at hms
  have e1 : decide ((400 : Int) < (n : Int)) = false := decide_eq_false (by omega)
  have e2 : decide (400 < n) = false := decide_eq_false (by omega)
  have e3 : decide ((1 : Int) < (n : Int)) = false := decide_eq_false (by omega)
  have e4 : decide (1 < n) = false := decide_eq_false hn1
  have HMm := Lib.hid hms
  have hn0 : (0 : Int) ≤ (n : Int) := Int.natCast_nonneg _
  have hrl2 : (at_ : Int) + (n : Int) ≤ (s.length : Int) := by omega
  clear hms hd hb hts hb0 HMs hl h95 h39
  have hN := HBx.out.1
  have c0 := hN.c0
  have c1 := hN.c1
  have c2 := hN.c2
  have c3 := hN.c3
  have f0 := hN.fz 0
  have f1 := hN.fz 1
  have f2 := hN.fz 2
  have f3 := hN.fz 3
  clear hN
  go_enter Tryz.func51, Tryz.ntmps51
  go_wp2_with (first
    | (go_at_call 43; refine (HLc.out _).mono ?_; rintro e w' ⟨rfl, hw'⟩; rw [hw']; clear hw')
    | (go_at_call 77; refine (HDc.out _).mono ?_; rintro e w' ⟨rfl, hw'⟩; rw [hw']; clear hw')
    | (go_at_call 78; refine (HSo.out _).mono ?_; rintro e w' ⟨rfl, hw'⟩; rw [hw']; clear hw')
    | (go_at_call 44; refine (HIn.out _).mono ?_; rintro e w' ⟨rfl, hw'⟩; rw [hw']; clear hw'))
  refine ret_tb rfl rfl rfl rfl rfl (TB.new _ _ _ _ _) ⟨(Below.refl _ _).alloc (Nat.le_refl _) _, .inr ⟨5, n, HMm.out, ?_⟩⟩
  unfold Lx.txt
  rw [if_neg (by decide), ext_take]
  rfl

set_option maxHeartbeats 600000 in
set_option maxRecDepth 100000 in
theorem first_num4 (s : List UInt8) (at_ : Nat) (b : UInt8) (t : List UInt8) (w : World) (hs : s.length ≤ 100000000) (hd : s.drop at_ = b :: t) (hl : Lx.letter b = false) (h95 : b ≠ 95) (h39 : b ≠ 39) (hdg : Lx.digit b = true) (hn : Lx.runN Lx.digit (b :: t) ≤ 400) (hn1 : 1 < Lx.runN Lx.digit (b :: t)) (h48 : b ≠ 48) :
    Calls Tryz.prog 51 #[.string ⟨s.toArray⟩, .int .i64 at_] w (RetFst s at_ w) := by
  have hss : (⟨s.toArray⟩ : ByteArray).size = s.length := by simp [ByteArray.size]
  have hat : at_ < s.length := by
    have := congrArg List.length hd
    rw [List.length_drop, List.length_cons] at this
    omega
  have hts : t = s.drop (at_ + 1) := by
    have := congrArg (List.drop 1) hd
    rw [List.drop_drop] at this
    exact this.symm
  have hb0 : s[at_]? = some b := by
    have := congrArg (fun l => l[0]?) hd
    simpa [List.getElem?_drop] using this
  have hget : (⟨s.toArray⟩ : ByteArray)[at_]'(by rw [hss]; exact hat) = b := (List.getElem?_eq_some_iff.1 hb0).2
  have ha0 : (0 : Int) ≤ (at_ : Int) := Int.natCast_nonneg _
  have ha1 : (at_ : Int) < (s.length : Int) := by omega
  have HBx := Lib.hid (box1T w)
  have HLc := Lib.hid (fun W => refLetter_c b W)
  have HMs := Lib.hid (measure_L s at_ 0 0)
  rw [hd] at HMs
  have hb : (Lx.letter b || b == 95) = false := by rw [hl]; simpa using h95
  have d95 : ((b.toNat : Int) == 95) = false := beq_eq_false_iff_ne.2 (fun e => h95 (UInt8.toNat_inj.1 (by have : (95 : UInt8).toNat = 95 := rfl; omega)))
  rw [hl] at HLc
  have d39 : ((b.toNat : Int) == 39) = false := beq_eq_false_iff_ne.2 (fun e => h39 (UInt8.toNat_inj.1 (by have : (39 : UInt8).toNat = 39 := rfl; omega)))
  have HDc := Lib.hid (fun W => refDigit_c b W)
  rw [hdg] at HDc
  have HSo := Lib.hid (fun W => refSome_c s [48, 49, 50, 51, 52, 53, 54, 55, 56, 57] at_ W (by omega) hs (by decide))
  rw [runN_digit, hd] at HSo
  have hms : Lx.measure s at_ 0 0 = Lx.number (b :: t) := by
    rw [HMs.out]; unfold Lx.measureL; simp only [List.getElem?_cons_zero, Option.getD_some]
    rw [if_neg (by rw [hb]; simp), if_pos hdg]
  unfold Lx.number at hms
  have hrl : at_ + Lx.runN Lx.digit (b :: t) ≤ s.length := by
    have h1 := (List.takeWhile_prefix Lx.digit (l := b :: t)).length_le
    have h2 := congrArg List.length hd
    rw [List.length_drop] at h2
    unfold Lx.runN
    omega
  generalize Lx.runN Lx.digit (b :: t) = n at *
  have h48h : (b :: t).head? = some b := rfl
  rw [h48h] at hms
  rw [if_neg (by simp [h48]; omega)] at hms
  have e1 : decide ((400 : Int) < (n : Int)) = false := decide_eq_false (by omega)
  have e2 : decide (400 < n) = false := decide_eq_false (by omega)
  have e3 : decide ((1 : Int) < (n : Int)) = true := decide_eq_true (by omega)
  have e4 : decide (1 < n) = true := decide_eq_true hn1
  have e5 : ((b.toNat : Int) == 48) = false := beq_eq_false_iff_ne.2 (fun e => h48 (UInt8.toNat_inj.1 (by have : (48 : UInt8).toNat = 48 := rfl; omega)))
  clear h48
  have HMm := Lib.hid hms
  have hn0 : (0 : Int) ≤ (n : Int) := Int.natCast_nonneg _
  have hrl2 : (at_ : Int) + (n : Int) ≤ (s.length : Int) := by omega
  clear hms hd hb hts hb0 HMs hl h95 h39
  have hN := HBx.out.1
  have c0 := hN.c0
  have c1 := hN.c1
  have c2 := hN.c2
  have c3 := hN.c3
  have f0 := hN.fz 0
  have f1 := hN.fz 1
  have f2 := hN.fz 2
  have f3 := hN.fz 3
  clear hN
  go_enter Tryz.func51, Tryz.ntmps51
  go_wp2_with (first
    | (go_at_call 43; refine (HLc.out _).mono ?_; rintro e w' ⟨rfl, hw'⟩; rw [hw']; clear hw')
    | (go_at_call 77; refine (HDc.out _).mono ?_; rintro e w' ⟨rfl, hw'⟩; rw [hw']; clear hw')
    | (go_at_call 78; refine (HSo.out _).mono ?_; rintro e w' ⟨rfl, hw'⟩; rw [hw']; clear hw')
    | (go_at_call 44; refine (HIn.out _).mono ?_; rintro e w' ⟨rfl, hw'⟩; rw [hw']; clear hw'))
  refine ret_tb rfl rfl rfl rfl rfl (TB.new _ _ _ _ _) ⟨(Below.refl _ _).alloc (Nat.le_refl _) _, .inr ⟨5, n, HMm.out, ?_⟩⟩
  unfold Lx.txt
  rw [if_neg (by decide), ext_take]
  rfl

set_option maxHeartbeats 600000 in
set_option maxRecDepth 100000 in
theorem first_op1 (s : List UInt8) (at_ : Nat) (b : UInt8) (t : List UInt8) (w : World) (hs : s.length ≤ 100000000) (hd : s.drop at_ = b :: t) (hl : Lx.letter b = false) (h95 : b ≠ 95) (h39 : b ≠ 39) (hdg : Lx.digit b = false) (hop : Lx.operator b = true) (hn : 3 < Lx.runN Lx.operator (b :: t)) :
    Calls Tryz.prog 51 #[.string ⟨s.toArray⟩, .int .i64 at_] w (RetFst s at_ w) := by
  have hss : (⟨s.toArray⟩ : ByteArray).size = s.length := by simp [ByteArray.size]
  have hat : at_ < s.length := by
    have := congrArg List.length hd
    rw [List.length_drop, List.length_cons] at this
    omega
  have hts : t = s.drop (at_ + 1) := by
    have := congrArg (List.drop 1) hd
    rw [List.drop_drop] at this
    exact this.symm
  have hb0 : s[at_]? = some b := by
    have := congrArg (fun l => l[0]?) hd
    simpa [List.getElem?_drop] using this
  have hget : (⟨s.toArray⟩ : ByteArray)[at_]'(by rw [hss]; exact hat) = b := (List.getElem?_eq_some_iff.1 hb0).2
  have ha0 : (0 : Int) ≤ (at_ : Int) := Int.natCast_nonneg _
  have ha1 : (at_ : Int) < (s.length : Int) := by omega
  have HBx := Lib.hid (box1T w)
  have HLc := Lib.hid (fun W => refLetter_c b W)
  have HMs := Lib.hid (measure_L s at_ 0 0)
  rw [hd] at HMs
  have hb : (Lx.letter b || b == 95) = false := by rw [hl]; simpa using h95
  have d95 : ((b.toNat : Int) == 95) = false := beq_eq_false_iff_ne.2 (fun e => h95 (UInt8.toNat_inj.1 (by have : (95 : UInt8).toNat = 95 := rfl; omega)))
  rw [hl] at HLc
  have d39 : ((b.toNat : Int) == 39) = false := beq_eq_false_iff_ne.2 (fun e => h39 (UInt8.toNat_inj.1 (by have : (39 : UInt8).toNat = 39 := rfl; omega)))
  have HDc := Lib.hid (fun W => refDigit_c b W)
  rw [hdg] at HDc
  have HIn := Lib.hid (fun W => refIn_c b Lx.operators W (by decide))
  rw [inB_operator, hop] at HIn
  have HSo := Lib.hid (fun W => refSome_c s Lx.operators at_ W (by omega) hs (by decide))
  rw [runN_operator, hd] at HSo
  have hms : Lx.measure s at_ 0 0 = Lx.operation (b :: t) := by
    rw [HMs.out]; unfold Lx.measureL; simp only [List.getElem?_cons_zero, Option.getD_some]
    rw [if_neg (by rw [hb]; simp), if_neg (by rw [hdg]; simp), if_neg (by simpa using h39), if_pos hop]
  unfold Lx.operation at hms
  have hrl : at_ + Lx.runN Lx.operator (b :: t) ≤ s.length := by
    have h1 := (List.takeWhile_prefix Lx.operator (l := b :: t)).length_le
    have h2 := congrArg List.length hd
    rw [List.length_drop] at h2
    unfold Lx.runN
    omega
  generalize Lx.runN Lx.operator (b :: t) = n at *
  rw [if_pos hn] at hms
  have e1 : decide ((3 : Int) < (n : Int)) = true := decide_eq_true (by omega)
  have e2 : decide (3 < n) = true := decide_eq_true hn
  have HMm := Lib.hid hms
  have hn0 : (0 : Int) ≤ (n : Int) := Int.natCast_nonneg _
  have hrl2 : (at_ : Int) + (n : Int) ≤ (s.length : Int) := by omega
  clear hms hd hb hts hb0 HMs hl h95 h39 hop
  have hN := HBx.out.1
  have c0 := hN.c0
  have c1 := hN.c1
  have c2 := hN.c2
  have c3 := hN.c3
  have f0 := hN.fz 0
  have f1 := hN.fz 1
  have f2 := hN.fz 2
  have f3 := hN.fz 3
  clear hN
  go_enter Tryz.func51, Tryz.ntmps51
  go_wp2_with (first
    | (go_at_call 43; refine (HLc.out _).mono ?_; rintro e w' ⟨rfl, hw'⟩; rw [hw']; clear hw')
    | (go_at_call 77; refine (HDc.out _).mono ?_; rintro e w' ⟨rfl, hw'⟩; rw [hw']; clear hw')
    | (go_at_call 78; refine (HSo.out _).mono ?_; rintro e w' ⟨rfl, hw'⟩; rw [hw']; clear hw')
    | (go_at_call 44; refine (HIn.out _).mono ?_; rintro e w' ⟨rfl, hw'⟩; rw [hw']; clear hw'))
  exact ret_tb rfl rfl rfl rfl rfl HBx.out.1 ⟨HBx.out.2, .inl ⟨12, HMm.out, _, _, _, _, _, rfl⟩⟩

set_option maxHeartbeats 600000 in
set_option maxRecDepth 100000 in
theorem first_op2 (s : List UInt8) (at_ : Nat) (b : UInt8) (t : List UInt8) (w : World) (hs : s.length ≤ 100000000) (hd : s.drop at_ = b :: t) (hl : Lx.letter b = false) (h95 : b ≠ 95) (h39 : b ≠ 39) (hdg : Lx.digit b = false) (hop : Lx.operator b = true) (hn : ¬ 3 < Lx.runN Lx.operator (b :: t)) :
    Calls Tryz.prog 51 #[.string ⟨s.toArray⟩, .int .i64 at_] w (RetFst s at_ w) := by
  have hss : (⟨s.toArray⟩ : ByteArray).size = s.length := by simp [ByteArray.size]
  have hat : at_ < s.length := by
    have := congrArg List.length hd
    rw [List.length_drop, List.length_cons] at this
    omega
  have hts : t = s.drop (at_ + 1) := by
    have := congrArg (List.drop 1) hd
    rw [List.drop_drop] at this
    exact this.symm
  have hb0 : s[at_]? = some b := by
    have := congrArg (fun l => l[0]?) hd
    simpa [List.getElem?_drop] using this
  have hget : (⟨s.toArray⟩ : ByteArray)[at_]'(by rw [hss]; exact hat) = b := (List.getElem?_eq_some_iff.1 hb0).2
  have ha0 : (0 : Int) ≤ (at_ : Int) := Int.natCast_nonneg _
  have ha1 : (at_ : Int) < (s.length : Int) := by omega
  have HBx := Lib.hid (box1T w)
  have HLc := Lib.hid (fun W => refLetter_c b W)
  have HMs := Lib.hid (measure_L s at_ 0 0)
  rw [hd] at HMs
  have hb : (Lx.letter b || b == 95) = false := by rw [hl]; simpa using h95
  have d95 : ((b.toNat : Int) == 95) = false := beq_eq_false_iff_ne.2 (fun e => h95 (UInt8.toNat_inj.1 (by have : (95 : UInt8).toNat = 95 := rfl; omega)))
  rw [hl] at HLc
  have d39 : ((b.toNat : Int) == 39) = false := beq_eq_false_iff_ne.2 (fun e => h39 (UInt8.toNat_inj.1 (by have : (39 : UInt8).toNat = 39 := rfl; omega)))
  have HDc := Lib.hid (fun W => refDigit_c b W)
  rw [hdg] at HDc
  have HIn := Lib.hid (fun W => refIn_c b Lx.operators W (by decide))
  rw [inB_operator, hop] at HIn
  have HSo := Lib.hid (fun W => refSome_c s Lx.operators at_ W (by omega) hs (by decide))
  rw [runN_operator, hd] at HSo
  have hms : Lx.measure s at_ 0 0 = Lx.operation (b :: t) := by
    rw [HMs.out]; unfold Lx.measureL; simp only [List.getElem?_cons_zero, Option.getD_some]
    rw [if_neg (by rw [hb]; simp), if_neg (by rw [hdg]; simp), if_neg (by simpa using h39), if_pos hop]
  unfold Lx.operation at hms
  have hrl : at_ + Lx.runN Lx.operator (b :: t) ≤ s.length := by
    have h1 := (List.takeWhile_prefix Lx.operator (l := b :: t)).length_le
    have h2 := congrArg List.length hd
    rw [List.length_drop] at h2
    unfold Lx.runN
    omega
  generalize Lx.runN Lx.operator (b :: t) = n at *
  rw [if_neg hn] at hms
  have e1 : decide ((3 : Int) < (n : Int)) = false := decide_eq_false (by omega)
  have e2 : decide (3 < n) = false := decide_eq_false hn
  have HMm := Lib.hid hms
  have hn0 : (0 : Int) ≤ (n : Int) := Int.natCast_nonneg _
  have hrl2 : (at_ : Int) + (n : Int) ≤ (s.length : Int) := by omega
  clear hms hd hb hts hb0 HMs hl h95 h39 hop
  have hN := HBx.out.1
  have c0 := hN.c0
  have c1 := hN.c1
  have c2 := hN.c2
  have c3 := hN.c3
  have f0 := hN.fz 0
  have f1 := hN.fz 1
  have f2 := hN.fz 2
  have f3 := hN.fz 3
  clear hN
  go_enter Tryz.func51, Tryz.ntmps51
  go_wp2_with (first
    | (go_at_call 43; refine (HLc.out _).mono ?_; rintro e w' ⟨rfl, hw'⟩; rw [hw']; clear hw')
    | (go_at_call 77; refine (HDc.out _).mono ?_; rintro e w' ⟨rfl, hw'⟩; rw [hw']; clear hw')
    | (go_at_call 78; refine (HSo.out _).mono ?_; rintro e w' ⟨rfl, hw'⟩; rw [hw']; clear hw')
    | (go_at_call 44; refine (HIn.out _).mono ?_; rintro e w' ⟨rfl, hw'⟩; rw [hw']; clear hw'))
  refine ret_tb rfl rfl rfl rfl rfl (TB.new _ _ _ _ _) ⟨(Below.refl _ _).alloc (Nat.le_refl _) _, .inr ⟨7, n, HMm.out, ?_⟩⟩
  unfold Lx.txt
  rw [if_neg (by decide), ext_take]
  rfl

set_option maxHeartbeats 600000 in
set_option maxRecDepth 100000 in
theorem first_sign (s : List UInt8) (at_ : Nat) (b : UInt8) (t : List UInt8) (w : World) (hs : s.length ≤ 100000000) (hd : s.drop at_ = b :: t) (hl : Lx.letter b = false) (h95 : b ≠ 95) (h39 : b ≠ 39) (hdg : Lx.digit b = false) (hop : Lx.operator b = false) (hsg : Lx.sign b = true) :
    Calls Tryz.prog 51 #[.string ⟨s.toArray⟩, .int .i64 at_] w (RetFst s at_ w) := by
  have hss : (⟨s.toArray⟩ : ByteArray).size = s.length := by simp [ByteArray.size]
  have hat : at_ < s.length := by
    have := congrArg List.length hd
    rw [List.length_drop, List.length_cons] at this
    omega
  have hts : t = s.drop (at_ + 1) := by
    have := congrArg (List.drop 1) hd
    rw [List.drop_drop] at this
    exact this.symm
  have hb0 : s[at_]? = some b := by
    have := congrArg (fun l => l[0]?) hd
    simpa [List.getElem?_drop] using this
  have hget : (⟨s.toArray⟩ : ByteArray)[at_]'(by rw [hss]; exact hat) = b := (List.getElem?_eq_some_iff.1 hb0).2
  have ha0 : (0 : Int) ≤ (at_ : Int) := Int.natCast_nonneg _
  have ha1 : (at_ : Int) < (s.length : Int) := by omega
  have HBx := Lib.hid (box1T w)
  have HLc := Lib.hid (fun W => refLetter_c b W)
  have HMs := Lib.hid (measure_L s at_ 0 0)
  rw [hd] at HMs
  have hb : (Lx.letter b || b == 95) = false := by rw [hl]; simpa using h95
  have d95 : ((b.toNat : Int) == 95) = false := beq_eq_false_iff_ne.2 (fun e => h95 (UInt8.toNat_inj.1 (by have : (95 : UInt8).toNat = 95 := rfl; omega)))
  rw [hl] at HLc
  have d39 : ((b.toNat : Int) == 39) = false := beq_eq_false_iff_ne.2 (fun e => h39 (UInt8.toNat_inj.1 (by have : (39 : UInt8).toNat = 39 := rfl; omega)))
  have HDc := Lib.hid (fun W => refDigit_c b W)
  rw [hdg] at HDc
  have HIn := Lib.hid (fun W => refIn_c b Lx.operators W (by decide))
  rw [inB_operator, hop] at HIn
  have HIs := Lib.hid (fun W => refIn_c b Lx.signs W (by decide))
  rw [inB_sign, hsg] at HIs
  have hms : Lx.measure s at_ 0 0 = .ok 8 1 := by
    rw [HMs.out]; unfold Lx.measureL; simp only [List.getElem?_cons_zero, Option.getD_some]
    rw [if_neg (by rw [hb]; simp), if_neg (by rw [hdg]; simp), if_neg (by simpa using h39), if_neg (by rw [hop]; simp), if_neg (by unfold Lx.joinsL; simp), if_pos hsg]
  have HMm := Lib.hid hms
  have hrl2 : (at_ : Int) + 1 ≤ (s.length : Int) := by omega
  clear hms hd hb hts hb0 HMs hl h95 h39 hop hsg
  have hN := HBx.out.1
  have c0 := hN.c0
  have c1 := hN.c1
  have c2 := hN.c2
  have c3 := hN.c3
  have f0 := hN.fz 0
  have f1 := hN.fz 1
  have f2 := hN.fz 2
  have f3 := hN.fz 3
  clear hN
  go_enter Tryz.func51, Tryz.ntmps51
  go_wp2_with (first
    | (go_at_call 43; refine (HLc.out _).mono ?_; rintro e w' ⟨rfl, hw'⟩; rw [hw']; clear hw')
    | (go_at_call 77; refine (HDc.out _).mono ?_; rintro e w' ⟨rfl, hw'⟩; rw [hw']; clear hw')
    | (go_at_call 44; (first | (refine (HIn.out _).mono ?_; clear HIn) | (refine (HIs.out _).mono ?_)); rintro e w' ⟨rfl, hw'⟩; rw [hw']; clear hw'))
  refine ret_tb rfl rfl rfl rfl rfl (TB.new _ _ _ _ _) ⟨(Below.refl _ _).alloc (Nat.le_refl _) _, .inr ⟨8, 1, HMm.out, ?_⟩⟩
  unfold Lx.txt
  rw [if_neg (by decide), ext_take]
  rfl

set_option maxHeartbeats 600000 in
set_option maxRecDepth 100000 in
theorem first_bad (s : List UInt8) (at_ : Nat) (b : UInt8) (t : List UInt8) (w : World) (hs : s.length ≤ 100000000) (hd : s.drop at_ = b :: t) (hl : Lx.letter b = false) (h95 : b ≠ 95) (h39 : b ≠ 39) (hdg : Lx.digit b = false) (hop : Lx.operator b = false) (hsg : Lx.sign b = false) :
    Calls Tryz.prog 51 #[.string ⟨s.toArray⟩, .int .i64 at_] w (RetFst s at_ w) := by
  have hss : (⟨s.toArray⟩ : ByteArray).size = s.length := by simp [ByteArray.size]
  have hat : at_ < s.length := by
    have := congrArg List.length hd
    rw [List.length_drop, List.length_cons] at this
    omega
  have hts : t = s.drop (at_ + 1) := by
    have := congrArg (List.drop 1) hd
    rw [List.drop_drop] at this
    exact this.symm
  have hb0 : s[at_]? = some b := by
    have := congrArg (fun l => l[0]?) hd
    simpa [List.getElem?_drop] using this
  have hget : (⟨s.toArray⟩ : ByteArray)[at_]'(by rw [hss]; exact hat) = b := (List.getElem?_eq_some_iff.1 hb0).2
  have ha0 : (0 : Int) ≤ (at_ : Int) := Int.natCast_nonneg _
  have ha1 : (at_ : Int) < (s.length : Int) := by omega
  have HBx := Lib.hid (box1T w)
  have HLc := Lib.hid (fun W => refLetter_c b W)
  have HMs := Lib.hid (measure_L s at_ 0 0)
  rw [hd] at HMs
  have hb : (Lx.letter b || b == 95) = false := by rw [hl]; simpa using h95
  have d95 : ((b.toNat : Int) == 95) = false := beq_eq_false_iff_ne.2 (fun e => h95 (UInt8.toNat_inj.1 (by have : (95 : UInt8).toNat = 95 := rfl; omega)))
  rw [hl] at HLc
  have d39 : ((b.toNat : Int) == 39) = false := beq_eq_false_iff_ne.2 (fun e => h39 (UInt8.toNat_inj.1 (by have : (39 : UInt8).toNat = 39 := rfl; omega)))
  have HDc := Lib.hid (fun W => refDigit_c b W)
  rw [hdg] at HDc
  have HIn := Lib.hid (fun W => refIn_c b Lx.operators W (by decide))
  rw [inB_operator, hop] at HIn
  have HIs := Lib.hid (fun W => refIn_c b Lx.signs W (by decide))
  rw [inB_sign, hsg] at HIs
  have hms : Lx.measure s at_ 0 0 = .bad 10 := by
    rw [HMs.out]; unfold Lx.measureL; simp only [List.getElem?_cons_zero, Option.getD_some]
    rw [if_neg (by rw [hb]; simp), if_neg (by rw [hdg]; simp), if_neg (by simpa using h39), if_neg (by rw [hop]; simp), if_neg (by unfold Lx.joinsL; simp), if_neg (by rw [hsg]; simp)]
  have HMm := Lib.hid hms
  have hrl2 : (at_ : Int) + 1 ≤ (s.length : Int) := by omega
  clear hms hd hb hts hb0 HMs hl h95 h39 hop hsg
  have hN := HBx.out.1
  have c0 := hN.c0
  have c1 := hN.c1
  have c2 := hN.c2
  have c3 := hN.c3
  have f0 := hN.fz 0
  have f1 := hN.fz 1
  have f2 := hN.fz 2
  have f3 := hN.fz 3
  clear hN
  go_enter Tryz.func51, Tryz.ntmps51
  go_wp2_with (first
    | (go_at_call 43; refine (HLc.out _).mono ?_; rintro e w' ⟨rfl, hw'⟩; rw [hw']; clear hw')
    | (go_at_call 77; refine (HDc.out _).mono ?_; rintro e w' ⟨rfl, hw'⟩; rw [hw']; clear hw')
    | (go_at_call 44; (first | (refine (HIn.out _).mono ?_; clear HIn) | (refine (HIs.out _).mono ?_)); rintro e w' ⟨rfl, hw'⟩; rw [hw']; clear hw'))
  exact ret_tb rfl rfl rfl rfl rfl HBx.out.1 ⟨HBx.out.2, .inl ⟨10, HMm.out, _, _, _, _, _, rfl⟩⟩

theorem refFirst_c (s : List UInt8) (at_ : Nat) (w : World) (hs : s.length ≤ 100000000) (hat : at_ < s.length) :
    Calls Tryz.prog 51 #[.string ⟨s.toArray⟩, .int .i64 at_] w (RetFst s at_ w) := by
  obtain ⟨b, hb⟩ : ∃ b, s[at_]? = some b := ⟨_, List.getElem?_eq_getElem hat⟩
  have hd := drop_some s at_ b hb
  cases hl : Lx.letter b with
  | true => exact first_word s at_ b _ w hs hd hl
  | false =>
    by_cases h95 : b = 95
    · exact first_under s at_ b _ w hs hd hl h95
    · by_cases h39 : b = 39
      · exact first_quote s at_ b _ w hs hd hl h95 h39
      · cases hdg : Lx.digit b with
        | true =>
          by_cases hn : 400 < Lx.runN Lx.digit (b :: s.drop (at_ + 1))
          · exact first_num1 s at_ b _ w hs hd hl h95 h39 hdg hn
          · by_cases hn1 : 1 < Lx.runN Lx.digit (b :: s.drop (at_ + 1))
            · by_cases h48 : b = 48
              · exact first_num2 s at_ b _ w hs hd hl h95 h39 hdg (by omega) hn1 h48
              · exact first_num4 s at_ b _ w hs hd hl h95 h39 hdg (by omega) hn1 h48
            · exact first_num3 s at_ b _ w hs hd hl h95 h39 hdg (by omega) hn1
        | false =>
          cases hop : Lx.operator b with
          | true =>
            by_cases hn : 3 < Lx.runN Lx.operator (b :: s.drop (at_ + 1))
            · exact first_op1 s at_ b _ w hs hd hl h95 h39 hdg hop hn
            · exact first_op2 s at_ b _ w hs hd hl h95 h39 hdg hop hn
          | false =>
            cases hsg : Lx.sign b with
            | true => exact first_sign s at_ b _ w hs hd hl h95 h39 hdg hop hsg
            | false => exact first_bad s at_ b _ w hs hd hl h95 h39 hdg hop hsg
end Go.Proofs.YtcjcbhdildcceaaGreatDoor
/- Contract of joins of the specification's package. Conditions: those in the statement. -/
namespace Go.Proofs.YtcjcbhdildcceaaGreatDoor
open Go.RowKit
set_option linter.unusedVariables false
set_option linter.unusedSimpArgs false

theorem joins_none (s : List UInt8) (ix : Nat) : Lx.joins s ix 0 0 = false := rfl
set_option maxHeartbeats 1000000 in
theorem refJoins_nil (s : List UInt8) (at_ : Nat) (w : World) (o : Option Addr) (c : Nat) : Calls Tryz.prog 59 #[.string ⟨s.toArray⟩, .int .i64 at_, .slice o 0 c] w fun e w' => e = .returned (.bool false) ∧ Below w.heap.size w w' := by
  go_enter Tryz.func59, Tryz.ntmps59
  go_wp2_with fail
  go_ret
  exact ⟨rfl, Below.refl _ _⟩
set_option maxHeartbeats 1000000 in
theorem refJoins_end (s : List UInt8) (at_ m : Nat) (w : World) (o : Option Addr) (c : Nat) (hs : s.length ≤ 100000000) (hat : at_ < s.length) (hend : at_ + 1 = s.length) (hm : m ≤ 100000) : Calls Tryz.prog 59 #[.string ⟨s.toArray⟩, .int .i64 at_, .slice o (m + 1) c] w fun e w' => e = .returned (.bool false) ∧ Below w.heap.size w w' := by
  have hss : (⟨s.toArray⟩ : ByteArray).size = s.length := by simp [ByteArray.size]
  have d1 : decide ((s.length : Int) ≤ (at_ : Int) + 1) = true := decide_eq_true (by omega)
  have hwr : IntKind.i64.wrap ((at_ : Int) + 1) = (at_ : Int) + 1 := IntWalk.i64_in _ (by omega)
  have HE := Lib.hid hend
  clear hend
  have d0 : (((m : Int) + 1) == 0) = false := beq_eq_false_iff_ne.2 (by omega)
  go_enter Tryz.func59, Tryz.ntmps59
  go_wp2_with fail
  all_goals first
    | (go_ret; exact ⟨rfl, Below.refl _ _⟩)
    | (exfalso; have := HE.out; omega)

set_option maxHeartbeats 2000000 in
set_option maxRecDepth 100000 in
theorem refJoins_some (s : List UInt8) (at_ m : Nat) (w : World) (l : List Lx.Sp) (t : Lx.Sp) (o : Option Addr) (c : Nat) (hs : s.length ≤ 100000000) (hat : at_ < s.length) (hend : at_ + 1 < s.length) (hm : m ≤ 100000) (hL : SpAt w o l) (hlast : l[m]? = some t) :
    Calls Tryz.prog 59 #[.string ⟨s.toArray⟩, .int .i64 at_, .slice o (m + 1) c] w fun e w' => e = .returned (.bool (Lx.joins s at_ t.kind t.to)) ∧ Below w.heap.size w w' := by
  have hss : (⟨s.toArray⟩ : ByteArray).size = s.length := by simp [ByteArray.size]
  have d1 : decide ((s.length : Int) ≤ (at_ : Int) + 1) = false := decide_eq_false (by omega)
  have hwr : IntKind.i64.wrap ((at_ : Int) + 1) = (at_ : Int) + 1 := IntWalk.i64_in _ (by omega)
  have d0 : (((m : Int) + 1) == 0) = false := beq_eq_false_iff_ne.2 (by omega)
  obtain ⟨g, rfl, hg, hcell⟩ := hL m t hlast
  have x0 := hcell 0 (by decide)
  have x1 := hcell 1 (by decide)
  have x2 := hcell 2 (by decide)
  have x3 := hcell 3 (by decide)
  have x4 := hcell 4 (by decide)
  have x5 := hcell 5 (by decide)
  simp only [Lx.Sp.cells, List.getElem?_cons_succ, List.getElem?_cons_zero, Nat.add_zero] at x0 x1 x2 x3 x4 x5
  obtain ⟨b, hb⟩ : ∃ b, s[at_ + 1]? = some b := ⟨_, List.getElem?_eq_getElem hend⟩
  have hget : (⟨s.toArray⟩ : ByteArray)[at_ + 1]'(by rw [hss]; exact hend) = b := (List.getElem?_eq_some_iff.1 hb).2
  have hj : Lx.joins s at_ t.kind t.to = ((t.kind == 1) && (t.to == at_) && Lx.joined b) := by
    unfold Lx.joins
    rw [hb, Option.getD_some, decide_eq_true hend, Bool.and_true]
  have HB : Hid (Below w.heap.size w (w.alloc (.cells #[.int .i64 t.kind, .string ⟨t.text.toArray⟩, .int .i64 t.line, .int .i64 t.col, .int .i64 t.frm, .int .i64 t.to] 58))) := Lib.hid ((Below.refl _ w).alloc (Nat.le_refl _) _)
  have HLc := Lib.hid (fun W => refLetter_c b W)
  have HIn := Lib.hid (fun W => refIn_c b Lx.operators W (by decide))
  rw [inB_operator] at HIn
  have ha0 : (0 : Int) ≤ (at_ : Int) := Int.natCast_nonneg _
  have ha1 : (at_ : Int) + 1 < (s.length : Int) := by omega
  have hm0 : (0 : Int) ≤ (m : Int) := Int.natCast_nonneg _
  have hm1 : (m : Int) ≤ 100000 := by omega
  clear hcell hb hlast hL
  by_cases h1 : t.kind = 1
  · have k1 : ((t.kind : Int) == 1) = true := by rw [h1]; rfl
    have k1n : (t.kind == 1) = true := by rw [h1]; rfl
    by_cases h2 : t.to = at_
    · have k2 : ((t.to : Int) == (at_ : Int)) = true := by rw [h2]; simp
      have k2n : (t.to == at_) = true := by rw [h2]; simp
      rw [k1n, k2n] at hj
      have HJ := Lib.hid hj
      clear hj h1 h2
      cases hl : Lx.letter b with
      | true =>
        rw [hl] at HLc
        have HJ2 := Lib.hid (show Lx.joins s at_ t.kind t.to = true by rw [HJ.out]; unfold Lx.joined; rw [hl]; rfl)
        clear hl HJ
        go_enter Tryz.func59, Tryz.ntmps59
        go_wp2_with (first
          | (go_at_call 43; refine (HLc.out _).mono ?_; rintro e w' ⟨rfl, hw'⟩; rw [hw']; clear hw')
          | (go_at_call 44; refine (HIn.out _).mono ?_; rintro e w' ⟨rfl, hw'⟩; rw [hw']; clear hw'))
        go_ret
        exact ⟨by rw [HJ2.out]; rfl, HB.out⟩
      | false =>
        rw [hl] at HLc
        have HJ2 := Lib.hid (show Lx.joins s at_ t.kind t.to = Lx.operator b by rw [HJ.out]; unfold Lx.joined; rw [hl]; rfl)
        clear hl HJ
        generalize Lx.operator b = op at *
        go_enter Tryz.func59, Tryz.ntmps59
        go_wp2_with (first
          | (go_at_call 43; refine (HLc.out _).mono ?_; rintro e w' ⟨rfl, hw'⟩; rw [hw']; clear hw')
          | (go_at_call 44; refine (HIn.out _).mono ?_; rintro e w' ⟨rfl, hw'⟩; rw [hw']; clear hw'))
        go_ret
        exact ⟨by rw [HJ2.out]; rfl, HB.out⟩
    · have k2 : ((t.to : Int) == (at_ : Int)) = false := beq_eq_false_iff_ne.2 (by omega)
      have k2n : (t.to == at_) = false := beq_eq_false_iff_ne.2 h2
      have HJ2 := Lib.hid (show Lx.joins s at_ t.kind t.to = false by rw [hj, k2n, Bool.and_false, Bool.false_and])
      clear hj h1 h2
      go_enter Tryz.func59, Tryz.ntmps59
      go_wp2_with fail
      go_ret
      exact ⟨by rw [HJ2.out]; rfl, HB.out⟩
  · have k1 : ((t.kind : Int) == 1) = false := beq_eq_false_iff_ne.2 (by omega)
    have k1n : (t.kind == 1) = false := beq_eq_false_iff_ne.2 h1
    have HJ2 := Lib.hid (show Lx.joins s at_ t.kind t.to = false by rw [hj, k1n, Bool.false_and, Bool.false_and])
    clear hj h1
    go_enter Tryz.func59, Tryz.ntmps59
    go_wp2_with fail
    go_ret
    exact ⟨by rw [HJ2.out]; rfl, HB.out⟩
/-- Whether a dot at an index joins, behind some tokens. -/
theorem refJoins_c (s : List UInt8) (at_ : Nat) (w : World) (l : List Lx.Sp) (last : Lx.Sp) (o : Option Addr) (c : Nat) (hs : s.length ≤ 100000000) (hat : at_ < s.length) (hn : l.length ≤ 100000) (hL : SpAt w o l) (hlast : (l = [] ∧ last = Lx.noSp) ∨ l.getLast? = some last) :
    Calls Tryz.prog 59 #[.string ⟨s.toArray⟩, .int .i64 at_, .slice o l.length c] w fun e w' => e = .returned (.bool (Lx.joins s at_ last.kind last.to)) ∧ Below w.heap.size w w' := by
  rcases hlast with ⟨rfl, rfl⟩ | hlast
  · exact refJoins_nil s at_ w o c
  · have hne : l ≠ [] := by rintro rfl; simp at hlast
    obtain ⟨m, hm⟩ : ∃ m, l.length = m + 1 := ⟨l.length - 1, by have := List.length_pos_iff.2 hne; omega⟩
    have hl2 : l[m]? = some last := by rw [List.getLast?_eq_getElem?, hm] at hlast; simpa using hlast
    rw [hm]
    by_cases hend : at_ + 1 < s.length
    · exact refJoins_some s at_ m w l last o c hs hat hend (by omega) hL hl2
    · have hj : Lx.joins s at_ last.kind last.to = false := by unfold Lx.joins; rw [decide_eq_false hend, Bool.and_false, Bool.false_and]
      rw [hj]
      exact refJoins_end s at_ m w o c hs hat (by omega) (by omega)
end Go.Proofs.YtcjcbhdildcceaaGreatDoor
