/- Contracts of the small functions of package lex: the kinds of bytes, and how many bytes of a kind stand at the head of a slice. No conditions but those in each statement. -/
import Derived.Test.YtcjcbhdildcceaaGreatDoorRows
import Derived.Test.YtcjcbhdildcceaaGreatDoorLexS
import Derived.Test.YtcjcbhdildcceaaGreatDoorShelf
import Derived.WalkKit
import Derived.WalkSpells
import Derived.BigQuiet
import Derived.Deep.QuietTactic
import Derived.Lib.Hide
import Derived.Shelf.Abstract
namespace Go.Proofs.YtcjcbhdildcceaaGreatDoor
open Go.RowKit


theorem ret_bool {a b : Bool} (h : a = b) : Ending.returned (.bool a) = .returned (.bool b) := by rw [h]
theorem ret_int {k : IntKind} {a b : Int} (h : a = b) : Ending.returned (.int k a) = .returned (.int k b) := by rw [h]

set_option maxHeartbeats 400000 in
theorem small_c (b : UInt8) (w : World) : Calls Tryz.prog 81 #[.int .u8 b.toNat] w fun e w' => e = .returned (.bool (Lx.small b)) ∧ w' = w := by
  go_enter Tryz.func81, Tryz.ntmps81
  go_wp2
  all_goals go_ret
  all_goals exact ⟨ret_bool (by rw [Bool.eq_iff_iff]; simp [Lx.small]; omega), rfl⟩
set_option maxHeartbeats 400000 in
theorem capital_c (b : UInt8) (w : World) : Calls Tryz.prog 82 #[.int .u8 b.toNat] w fun e w' => e = .returned (.bool (Lx.capital b)) ∧ w' = w := by
  go_enter Tryz.func82, Tryz.ntmps82
  go_wp2
  all_goals go_ret
  all_goals exact ⟨ret_bool (by rw [Bool.eq_iff_iff]; simp [Lx.capital]; omega), rfl⟩
set_option maxHeartbeats 400000 in
theorem digit_c (b : UInt8) (w : World) : Calls Tryz.prog 83 #[.int .u8 b.toNat] w fun e w' => e = .returned (.bool (Lx.digit b)) ∧ w' = w := by
  go_enter Tryz.func83, Tryz.ntmps83
  go_wp2
  all_goals go_ret
  all_goals exact ⟨ret_bool (by rw [Bool.eq_iff_iff]; simp [Lx.digit]; omega), rfl⟩
set_option maxHeartbeats 400000 in
theorem blank_c (b : UInt8) (w : World) : Calls Tryz.prog 87 #[.int .u8 b.toNat] w fun e w' => e = .returned (.bool (Lx.blank b)) ∧ w' = w := by
  go_enter Tryz.func87, Tryz.ntmps87
  go_wp2
  all_goals go_ret
  all_goals exact ⟨ret_bool (by rw [Bool.eq_iff_iff]; simp [Lx.blank] <;> omega), rfl⟩
set_option maxHeartbeats 400000 in
theorem shown_c (b : UInt8) (w : World) : Calls Tryz.prog 88 #[.int .u8 b.toNat] w fun e w' => e = .returned (.bool (Lx.shown b)) ∧ w' = w := by
  go_enter Tryz.func88, Tryz.ntmps88
  go_wp2
  all_goals go_ret
  all_goals exact ⟨ret_bool (by rw [Bool.eq_iff_iff]; simp [Lx.shown]; omega), rfl⟩

set_option maxHeartbeats 400000 in
theorem operator_c (b : UInt8) (w : World) : Calls Tryz.prog 84 #[.int .u8 b.toNat] w fun e w' => e = .returned (.bool (Lx.operator b)) ∧ w' = w := by
  go_enter Tryz.func84, Tryz.ntmps84
  go_wp2_with (go_at_call 85; refine (Tryz.strings_IndexByte _ _ _).mono ?_; rintro e w' ⟨rfl, rfl⟩)
  all_goals go_ret
  all_goals exact ⟨ret_bool (by rw [Bool.eq_iff_iff]; simp [Lx.operator]), rfl⟩

set_option maxHeartbeats 400000 in
theorem sign_c (b : UInt8) (w : World) : Calls Tryz.prog 86 #[.int .u8 b.toNat] w fun e w' => e = .returned (.bool (Lx.sign b)) ∧ w' = w := by
  go_enter Tryz.func86, Tryz.ntmps86
  go_wp2_with (go_at_call 85; refine (Tryz.strings_IndexByte _ _ _).mono ?_; rintro e w' ⟨rfl, rfl⟩)
  all_goals go_ret
  all_goals exact ⟨ret_bool (by rw [Bool.eq_iff_iff]; simp [Lx.sign]), rfl⟩

/-- The seven functions that tell kinds of bytes, in the cells of a block from a place on. -/
def KindsAt (w : World) (b o : Nat) : Prop :=
  w.cell? ⟨b, o, none⟩ = some (.func (.func 81) #[] #[]) ∧ w.cell? ⟨b, o + 1, none⟩ = some (.func (.func 82) #[] #[]) ∧
  w.cell? ⟨b, o + 2, none⟩ = some (.func (.func 83) #[] #[]) ∧ w.cell? ⟨b, o + 3, none⟩ = some (.func (.func 84) #[] #[]) ∧
  w.cell? ⟨b, o + 4, none⟩ = some (.func (.func 86) #[] #[]) ∧ w.cell? ⟨b, o + 5, none⟩ = some (.func (.func 87) #[] #[]) ∧
  w.cell? ⟨b, o + 6, none⟩ = some (.func (.func 88) #[] #[])

set_option maxHeartbeats 400000 in
theorem letter_c (b : UInt8) (k o : Nat) (w : World) (hk : KindsAt w k o) :
    Calls Tryz.prog 69 #[.pointer (some ⟨k, o, none⟩), .int .u8 b.toNat] w fun e w' => e = .returned (.bool (Lx.letter b)) ∧ w' = w := by
  obtain ⟨k0, k1, k2, k3, k4, k5, k6⟩ := hk
  go_enter Tryz.func69, Tryz.ntmps69
  go_wp2_with (first
    | (go_at_call 81; refine (small_c b _).mono ?_; rintro e w' ⟨rfl, rfl⟩)
    | (go_at_call 82; refine (capital_c b _).mono ?_; rintro e w' ⟨rfl, rfl⟩))
  all_goals go_ret
  all_goals exact ⟨ret_bool (by simp_all [Lx.letter]), rfl⟩

set_option maxHeartbeats 400000 in
theorem wordByte_c (b : UInt8) (k o : Nat) (w : World) (hk : KindsAt w k o) :
    Calls Tryz.prog 93 #[.pointer (some ⟨k, o, none⟩), .int .u8 b.toNat] w fun e w' => e = .returned (.bool (Lx.wordByte b)) ∧ w' = w := by
  have hk' := hk
  obtain ⟨k0, k1, k2, k3, k4, k5, k6⟩ := hk'
  go_enter Tryz.func93, Tryz.ntmps93
  go_wp2_with (first
    | (go_at_call 69; refine (letter_c b _ _ _ hk).mono ?_; rintro e w' ⟨rfl, rfl⟩)
    | (go_at_call 83; refine (digit_c b _).mono ?_; rintro e w' ⟨rfl, rfl⟩))
  all_goals go_ret
  all_goals exact ⟨ret_bool (by simp_all [Lx.wordByte]), rfl⟩

set_option maxHeartbeats 400000 in
theorem inString_c (b : UInt8) (k o : Nat) (w : World) (hk : KindsAt w k o) :
    Calls Tryz.prog 95 #[.pointer (some ⟨k, o, none⟩), .int .u8 b.toNat] w fun e w' => e = .returned (.bool (Lx.inString b)) ∧ w' = w := by
  obtain ⟨k0, k1, k2, k3, k4, k5, k6⟩ := hk
  go_enter Tryz.func95, Tryz.ntmps95
  go_wp2_with (go_at_call 88; refine (shown_c b _).mono ?_; rintro e w' ⟨rfl, rfl⟩)
  all_goals go_ret
  all_goals exact ⟨ret_bool (by simp_all [Lx.inString]), rfl⟩

set_option maxHeartbeats 400000 in
theorem joined_c (b : UInt8) (k o : Nat) (w : World) (hk : KindsAt w k o) :
    Calls Tryz.prog 61 #[.pointer (some ⟨k, o, none⟩), .int .u8 b.toNat] w fun e w' => e = .returned (.bool (Lx.joined b)) ∧ w' = w := by
  have hk' := hk
  obtain ⟨k0, k1, k2, k3, k4, k5, k6⟩ := hk'
  go_enter Tryz.func61, Tryz.ntmps61
  go_wp2_with (first
    | (go_at_call 69; refine (letter_c b _ _ _ hk).mono ?_; rintro e w' ⟨rfl, rfl⟩)
    | (go_at_call 84; refine (operator_c b _).mono ?_; rintro e w' ⟨rfl, rfl⟩))
  all_goals go_ret
  all_goals exact ⟨ret_bool (by simp_all [Lx.joined]), rfl⟩

theorem tw_step (p : UInt8 → Bool) : ∀ (l : List UInt8) (k : Nat) (hk : k < l.length), k ≤ (l.takeWhile p).length → p l[k] = true → k + 1 ≤ (l.takeWhile p).length
  | x :: l, 0, _, _, h => by simp at h; simp [h]
  | x :: l, k + 1, hk, hle, h => by
    cases hx : p x
    · simp [hx] at hle
    · simp [hx] at hle ⊢
      exact tw_step p l k (by simpa using hk) hle (by simpa using h)
theorem tw_stop (p : UInt8 → Bool) : ∀ (l : List UInt8) (k : Nat) (hk : k < l.length), k ≤ (l.takeWhile p).length → p l[k] = false → k = (l.takeWhile p).length
  | x :: l, 0, _, _, h => by simp at h; simp [h]
  | x :: l, k + 1, hk, hle, h => by
    cases hx : p x
    · simp [hx] at hle
    · simp [hx] at hle ⊢
      exact tw_stop p l k (by simpa using hk) hle (by simpa using h)
theorem tw_le (p : UInt8 → Bool) (l : List UInt8) : (l.takeWhile p).length ≤ l.length := (List.takeWhile_prefix p).length_le

/-- How many bytes at the head of a slice are of a kind that a function value tells. -/
theorem run_byte_c (g : FuncId) (fst cpt : Array Value) (p : UInt8 → Bool) (T a n cap : Nat) (l : List UInt8) (w : World) (hn : l.length = n) (hm : n ≤ 20000)
    (eg : ∀ args w, (callFunc g args).run Tryz.prog w = .ok (.enter g args) w)
    (hc : ∀ j, j < l.length → w.cell? ⟨T, a + j, none⟩ = some (.int .u8 (l[j]?.getD 0).toNat))
    (hf : ∀ b : UInt8, Calls Tryz.prog g (fst ++ #[.int .u8 b.toNat] ++ cpt) w fun e w' => e = .returned (.bool (p b)) ∧ w' = w) :
    Calls Tryz.prog 91 #[.slice (some ⟨T, a, none⟩) n cap, .func (.func g) fst cpt] w fun e w' =>
      e = .returned (.int .i64 (l.takeWhile p).length) ∧ w' = w := by
  subst hn
  have HF := Lib.hid hf
  clear hf
  have HC := Lib.hid hc
  clear hc
  go_enter Tryz.func91, Tryz.ntmps91
  go_wp2
  go_loop [9] (fun i => ∃ k : Nat, k ≤ (l.takeWhile p).length ∧ i = .int .i64 k) (fun i => l.length - (intOf i).toNat)
  case atStart => exact ⟨0, Nat.zero_le _, rfl⟩
  case round =>
    obtain ⟨k, hk, rfl⟩ := hrel
    have hle := tw_le p l
    by_cases hlt : k < l.length
    · have hcell := HC.out k hlt
      go_wp2_with (go_at_fn g; refine (HF.out _).mono ?_; rintro e w' ⟨rfl, rfl⟩)
      · have hp : p l[k] = false := by have : (!p l[k]) = true := by assumption
                                       simpa using this
        go_ret
        exact ⟨ret_int (by rw [tw_stop p l k hlt hk hp]), rfl⟩
      · have hp : p l[k] = true := by have : (!p l[k]) = false := by assumption
                                      simpa using this
        exact ⟨⟨k + 1, tw_step p l k hlt hk hp, by go_num⟩, by simp [intOf]; omega⟩
    · go_wp2
      go_ret
      exact ⟨ret_int (by omega), rfl⟩
end Go.Proofs.YtcjcbhdildcceaaGreatDoor
