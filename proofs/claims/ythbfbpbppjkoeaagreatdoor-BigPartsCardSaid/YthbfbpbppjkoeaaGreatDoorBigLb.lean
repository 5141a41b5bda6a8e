/- The calls that the laws of package big make, as they answer where numbers are told by letters. Conditions: those in the statements. -/
import Derived.Test.YthbfbpbppjkoeaaGreatDoorBigLa
import Derived.Test.YthbfbpbppjkoeaaGreatDoorBigAw
import Derived.Test.YthbfbpbppjkoeaaGreatDoorBigLe
namespace Go.Proofs.YthbfbpbppjkoeaaGreatDoor
open Go.RowKit Go.Shelf
set_option exponentiation.threshold 500
set_option maxRecDepth 100000

/-- What a call that answers a number hands back. -/
def RetN (A B : Int) (S : List UInt8) (E : Int) (w : World) (e : Ending) (w' : World) : Prop := e = .returned (.tuple #[valV A B S, .int .i64 E]) ∧ Below w.heap.size w w'
theorem RetLim.num {z A B : Int} {S : List UInt8} {w w' : World} {e : Ending} (h : RetLim z w e w') (hn : IsNum A B S z) : RetN A B S 0 w e w' := by
  refine ⟨?_, h.2⟩
  rw [h.eq]; unfold retLimV; rw [if_pos hn.1, hn.2]
theorem RetLim.lim {z : Int} {w w' : World} {e : Ending} (h : RetLim z w e w') (hf : ¬ Few z) : RetN 0 0 [] 2 w e w' := by
  refine ⟨?_, h.2⟩
  rw [h.eq]; unfold retLimV; rw [if_neg hf]
theorem isNum_few {z : Int} (hf : Few z) : ∃ K N T, IsNum K N T z := by obtain ⟨K, N, T, _, h⟩ := isNum_canon hf; exact ⟨K, N, T, h⟩
theorem isNum_zero : IsNum 1 0 [] 0 := isNum_int (in64 (by decide) (by decide))
theorem isNum_one : IsNum 1 1 [] 1 := isNum_int (in64 (by decide) (by decide))
/-- Equal values are equal numbers. -/
theorem IsNum.eq_iff {K N K' N' x y : Int} {T T' : List UInt8} (h : IsNum K N T x) (h' : IsNum K' N' T' y) : (K = K' ∧ N = N' ∧ T = T') ↔ x = y := by
  constructor
  · rintro ⟨rfl, rfl, rfl⟩; exact isNum_unique h h'
  · rintro rfl
    have e := h.2.trans h'.2.symm
    unfold valV at e
    simpa using e
theorem IsNum.len {K N z : Int} {T : List UInt8} (h : IsNum K N T z) : T.length ≤ 401 := by
  rcases h.cells with ⟨_, _, _, h3⟩ | ⟨_, _, _, h3⟩
  · rw [h3]; simp
  · rw [h3]
    have hf := h.1
    unfold Few at hf
    unfold Lib.itoa
    split
    · rw [List.length_cons, Lib.decDigits_length]; omega
    · rw [Lib.decDigits_length, show z.toNat = z.natAbs by omega]; omega
theorem short_yes (K N : Int) (T : List UInt8) (h : T.length ≤ 800) (w : World) :
    Calls Tryz.prog 16 #[valV K N T] w fun e w' => e = .returned (.bool true) ∧ Below w.heap.size w w' := by
  have := short_c K N T w; rwa [decide_eq_true h] at this
theorem short_not (K N : Int) (T : List UInt8) (h : ¬ T.length ≤ 800) (w : World) :
    Calls Tryz.prog 16 #[valV K N T] w fun e w' => e = .returned (.bool false) ∧ Below w.heap.size w w' := by
  have := short_c K N T w; rwa [decide_eq_false h] at this
theorem negative_num {K N z : Int} {T : List UInt8} (h : IsNum K N T z) (b : Bool) (hb : decide (z < 0) = b) (w : World) :
    Calls Tryz.prog 44 #[valV K N T] w fun e w' => e = .returned (.bool b) ∧ Below w.heap.size w w' := by
  have := negative_c K N T w (by have := h.len; omega); rwa [negT_num h, hb] at this
theorem Less_num {K N x K' N' y : Int} {T T' : List UInt8} (h : IsNum K N T x) (h' : IsNum K' N' T' y) (b : Bool) (hb : decide (x < y) = b) (w : World) (hw : Wd w) :
    Calls Tryz.prog 31 #[valV K N T, valV K' N' T'] w fun e w' => e = .returned (.tuple #[.bool b, .int .i64 0]) ∧ Below w.heap.size w w' := by
  have := Less_ok K N x K' N' y T T' h h' w hw; rwa [hb] at this
theorem Root_num {K N z A B : Int} {T S : List UInt8} (h : IsNum K N T z) (r : Nat) (hz : 0 ≤ z) (hx : Bg.IsRoot z.natAbs r) (hn : IsNum A B S (r : Int)) (w : World) (hw : Wd w) :
    Calls Tryz.prog 41 #[valV K N T] w fun e w' => e = .returned (.tuple #[valV A B S, .int .i64 0]) ∧ Below w.heap.size w w' := by
  have := Root_ok K N z T h r hz hx w hw; rw [← hn.2] at this; exact this
theorem Pow_num {K N z A B p : Int} {T S : List UInt8} (h : IsNum K N T z) (n : Nat) (hn : n ≤ 2000) (hp : z ^ n = p) (hr : IsNum A B S p) (w : World) (hw : Wd w) :
    Calls Tryz.prog 37 #[valV K N T, .int .i64 n] w fun e w' => e = .returned (.tuple #[valV A B S, .int .i64 0]) ∧ Below w.heap.size w w' := (Pow_ok K N z T h n hn w hw).mono fun _ _ hh => by rw [hp] at hh; exact hh.num hr
theorem Pow_lim {K N z : Int} {T : List UInt8} (h : IsNum K N T z) (n : Nat) (hn : n ≤ 2000) (hf : ¬ Few (z ^ n)) (w : World) (hw : Wd w) :
    Calls Tryz.prog 37 #[valV K N T, .int .i64 n] w fun e w' => e = .returned (.tuple #[valV 0 0 [], .int .i64 2]) ∧ Below w.heap.size w w' := (Pow_ok K N z T h n hn w hw).mono fun _ _ hh => hh.lim hf
theorem Add_num {K N x K' N' y A B z : Int} {T T' S : List UInt8} (h : IsNum K N T x) (h' : IsNum K' N' T' y) (hz : x + y = z) (hr : IsNum A B S z) (w : World) (hw : Wd w) :
    Calls Tryz.prog 25 #[valV K N T, valV K' N' T'] w fun e w' => e = .returned (.tuple #[valV A B S, .int .i64 0]) ∧ Below w.heap.size w w' := (Add_ok K N x K' N' y T T' h h' w hw).mono fun _ _ hh => by rw [hz] at hh; exact hh.num hr
theorem Add_lim {K N x K' N' y : Int} {T T' : List UInt8} (h : IsNum K N T x) (h' : IsNum K' N' T' y) (hf : ¬ Few (x + y)) (w : World) (hw : Wd w) :
    Calls Tryz.prog 25 #[valV K N T, valV K' N' T'] w fun e w' => e = .returned (.tuple #[valV 0 0 [], .int .i64 2]) ∧ Below w.heap.size w w' := (Add_ok K N x K' N' y T T' h h' w hw).mono fun _ _ hh => hh.lim hf
theorem Sub_num {K N x K' N' y A B z : Int} {T T' S : List UInt8} (h : IsNum K N T x) (h' : IsNum K' N' T' y) (hz : x - y = z) (hr : IsNum A B S z) (w : World) (hw : Wd w) :
    Calls Tryz.prog 27 #[valV K N T, valV K' N' T'] w fun e w' => e = .returned (.tuple #[valV A B S, .int .i64 0]) ∧ Below w.heap.size w w' := (Sub_ok K N x K' N' y T T' h h' w hw).mono fun _ _ hh => by rw [hz] at hh; exact hh.num hr
theorem Sub_lim {K N x K' N' y : Int} {T T' : List UInt8} (h : IsNum K N T x) (h' : IsNum K' N' T' y) (hf : ¬ Few (x - y)) (w : World) (hw : Wd w) :
    Calls Tryz.prog 27 #[valV K N T, valV K' N' T'] w fun e w' => e = .returned (.tuple #[valV 0 0 [], .int .i64 2]) ∧ Below w.heap.size w w' := (Sub_ok K N x K' N' y T T' h h' w hw).mono fun _ _ hh => hh.lim hf
theorem Mul_num {K N x K' N' y A B z : Int} {T T' S : List UInt8} (h : IsNum K N T x) (h' : IsNum K' N' T' y) (hz : x * y = z) (hr : IsNum A B S z) (w : World) (hw : Wd w) :
    Calls Tryz.prog 29 #[valV K N T, valV K' N' T'] w fun e w' => e = .returned (.tuple #[valV A B S, .int .i64 0]) ∧ Below w.heap.size w w' := (Mul_ok K N x K' N' y T T' h h' w hw).mono fun _ _ hh => by rw [hz] at hh; exact hh.num hr
theorem Mul_lim {K N x K' N' y : Int} {T T' : List UInt8} (h : IsNum K N T x) (h' : IsNum K' N' T' y) (hf : ¬ Few (x * y)) (w : World) (hw : Wd w) :
    Calls Tryz.prog 29 #[valV K N T, valV K' N' T'] w fun e w' => e = .returned (.tuple #[valV 0 0 [], .int .i64 2]) ∧ Below w.heap.size w w' := (Mul_ok K N x K' N' y T T' h h' w hw).mono fun _ _ hh => hh.lim hf
theorem Div_num {K N x K' N' y A B z : Int} {T T' S : List UInt8} (h : IsNum K N T x) (h' : IsNum K' N' T' y) (hy0 : y ≠ 0) (hz : x.fdiv y = z) (hr : IsNum A B S z) (w : World) (hw : Wd w) :
    Calls Tryz.prog 33 #[valV K N T, valV K' N' T'] w fun e w' => e = .returned (.tuple #[valV A B S, .int .i64 0]) ∧ Below w.heap.size w w' := (Div_ok K N x K' N' y T T' h h' hy0 w hw).mono fun _ _ hh => by rw [hz] at hh; exact hh.num hr
theorem Div_lim {K N x K' N' y : Int} {T T' : List UInt8} (h : IsNum K N T x) (h' : IsNum K' N' T' y) (hy0 : y ≠ 0) (hf : ¬ Few (x.fdiv y)) (w : World) (hw : Wd w) :
    Calls Tryz.prog 33 #[valV K N T, valV K' N' T'] w fun e w' => e = .returned (.tuple #[valV 0 0 [], .int .i64 2]) ∧ Below w.heap.size w w' := (Div_ok K N x K' N' y T T' h h' hy0 w hw).mono fun _ _ hh => hh.lim hf
theorem Mod_num {K N x K' N' y A B z : Int} {T T' S : List UInt8} (h : IsNum K N T x) (h' : IsNum K' N' T' y) (hy0 : y ≠ 0) (hz : x.fmod y = z) (hr : IsNum A B S z) (w : World) (hw : Wd w) :
    Calls Tryz.prog 35 #[valV K N T, valV K' N' T'] w fun e w' => e = .returned (.tuple #[valV A B S, .int .i64 0]) ∧ Below w.heap.size w w' := (Mod_ok K N x K' N' y T T' h h' hy0 w hw).mono fun _ _ hh => by rw [hz] at hh; exact hh.num hr
theorem Mod_lim {K N x K' N' y : Int} {T T' : List UInt8} (h : IsNum K N T x) (h' : IsNum K' N' T' y) (hy0 : y ≠ 0) (hf : ¬ Few (x.fmod y)) (w : World) (hw : Wd w) :
    Calls Tryz.prog 35 #[valV K N T, valV K' N' T'] w fun e w' => e = .returned (.tuple #[valV 0 0 [], .int .i64 2]) ∧ Below w.heap.size w w' := (Mod_ok K N x K' N' y T T' h h' hy0 w hw).mono fun _ _ hh => hh.lim hf
theorem Gcd_num {K N x K' N' y A B z : Int} {T T' S : List UInt8} (h : IsNum K N T x) (h' : IsNum K' N' T' y) (hz : (Int.gcd x y : Int) = z) (hr : IsNum A B S z) (w : World) (hw : Wd w) :
    Calls Tryz.prog 39 #[valV K N T, valV K' N' T'] w fun e w' => e = .returned (.tuple #[valV A B S, .int .i64 0]) ∧ Below w.heap.size w w' := (Gcd_ok K N x K' N' y T T' h h' w hw).mono fun _ _ hh => by rw [hz] at hh; exact hh.num hr
theorem Gcd_lim {K N x K' N' y : Int} {T T' : List UInt8} (h : IsNum K N T x) (h' : IsNum K' N' T' y) (hf : ¬ Few ((Int.gcd x y : Int))) (w : World) (hw : Wd w) :
    Calls Tryz.prog 39 #[valV K N T, valV K' N' T'] w fun e w' => e = .returned (.tuple #[valV 0 0 [], .int .i64 2]) ∧ Below w.heap.size w w' := (Gcd_ok K N x K' N' y T T' h h' w hw).mono fun _ _ hh => hh.lim hf
/-- What is answered where a number is to be made: the number, or that it is too large. -/
def Ans (A B : Int) (S : List UInt8) (E z : Int) : Prop := (E = 0 ∧ IsNum A B S z) ∨ (E = 2 ∧ A = 0 ∧ B = 0 ∧ S = [] ∧ ¬ Few z)
theorem Ans.same {A B E A' B' E' z : Int} {S S' : List UInt8} (h : Ans A B S E z) (h' : Ans A' B' S' E' z) : A' = A ∧ B' = B ∧ S' = S ∧ E' = E := by
  rcases h with ⟨rfl, h1⟩ | ⟨rfl, rfl, rfl, rfl, h1⟩ <;> rcases h' with ⟨rfl, h2⟩ | ⟨rfl, rfl, rfl, rfl, h2⟩
  · obtain ⟨a, b, c⟩ := (h2.eq_iff h1).2 rfl; exact ⟨a, b, c, rfl⟩
  · exact absurd h1.1 h2
  · exact absurd h2.1 h1
  · exact ⟨rfl, rfl, rfl, rfl⟩
theorem Ans.ok {A B z : Int} {S : List UInt8} (h : Ans A B S 0 z) : IsNum A B S z := by
  rcases h with ⟨_, h⟩ | ⟨h, _⟩
  · exact h
  · cases h
theorem Ans.lim {A B z : Int} {S : List UInt8} (h : Ans A B S 2 z) : ¬ Few z := by
  rcases h with ⟨h, _⟩ | ⟨_, _, _, _, h⟩
  · cases h
  · exact h
theorem Ans.two {A B E z : Int} {S : List UInt8} (h : Ans A B S E z) : E = 0 ∨ E = 2 := by
  rcases h with ⟨h, _⟩ | ⟨h, _⟩
  · exact .inl h
  · exact .inr h
theorem Ans.num {A B z : Int} {S : List UInt8} (h : IsNum A B S z) : Ans A B S 0 z := .inl ⟨rfl, h⟩
theorem ans_ex (z : Int) : ∃ A B S E, Ans A B S E z := by
  by_cases hf : Few z
  · obtain ⟨A, B, S, hn⟩ := isNum_few hf; exact ⟨A, B, S, 0, .inl ⟨rfl, hn⟩⟩
  · exact ⟨0, 0, [], 2, .inr ⟨rfl, rfl, rfl, rfl, hf⟩⟩
/-- Two numbers that differ are two values. -/
theorem IsNum.ne {K N K' N' x y : Int} {T T' : List UInt8} (h : IsNum K N T x) (h' : IsNum K' N' T' y) (hxy : x ≠ y) : ¬ (K = K' ∧ N = N' ∧ T = T') := fun e => hxy ((h.eq_iff h').1 e)
/-- Add of two numbers, its answer in letters. -/
theorem Add_any {K N x K' N' y A B E z : Int} {T T' S : List UInt8} (h : IsNum K N T x) (h' : IsNum K' N' T' y) (ha : Ans A B S E z) (hz : x + y = z) (w : World) (hw : Wd w) :
    Calls Tryz.prog 25 #[valV K N T, valV K' N' T'] w fun e w' => e = .returned (.tuple #[valV A B S, .int .i64 E]) ∧ Below w.heap.size w w' := by
  subst hz
  rcases ha with ⟨rfl, hn⟩ | ⟨rfl, rfl, rfl, rfl, hf⟩
  · exact Add_num h h' rfl hn w hw
  · exact Add_lim h h' hf w hw
/-- Sub of two numbers, its answer in letters. -/
theorem Sub_any {K N x K' N' y A B E z : Int} {T T' S : List UInt8} (h : IsNum K N T x) (h' : IsNum K' N' T' y) (ha : Ans A B S E z) (hz : x - y = z) (w : World) (hw : Wd w) :
    Calls Tryz.prog 27 #[valV K N T, valV K' N' T'] w fun e w' => e = .returned (.tuple #[valV A B S, .int .i64 E]) ∧ Below w.heap.size w w' := by
  subst hz
  rcases ha with ⟨rfl, hn⟩ | ⟨rfl, rfl, rfl, rfl, hf⟩
  · exact Sub_num h h' rfl hn w hw
  · exact Sub_lim h h' hf w hw
/-- Mul of two numbers, its answer in letters. -/
theorem Mul_any {K N x K' N' y A B E z : Int} {T T' S : List UInt8} (h : IsNum K N T x) (h' : IsNum K' N' T' y) (ha : Ans A B S E z) (hz : x * y = z) (w : World) (hw : Wd w) :
    Calls Tryz.prog 29 #[valV K N T, valV K' N' T'] w fun e w' => e = .returned (.tuple #[valV A B S, .int .i64 E]) ∧ Below w.heap.size w w' := by
  subst hz
  rcases ha with ⟨rfl, hn⟩ | ⟨rfl, rfl, rfl, rfl, hf⟩
  · exact Mul_num h h' rfl hn w hw
  · exact Mul_lim h h' hf w hw
theorem Pow_any {K N z A B E p : Int} {T S : List UInt8} (h : IsNum K N T z) (n : Nat) (hn : n ≤ 2000) (ha : Ans A B S E p) (hp : z ^ n = p) (w : World) (hw : Wd w) :
    Calls Tryz.prog 37 #[valV K N T, .int .i64 n] w fun e w' => e = .returned (.tuple #[valV A B S, .int .i64 E]) ∧ Below w.heap.size w w' := by
  subst hp
  rcases ha with ⟨rfl, hr⟩ | ⟨rfl, rfl, rfl, rfl, hf⟩
  · exact Pow_num h n hn rfl hr w hw
  · exact Pow_lim h n hn hf w hw
end Go.Proofs.YthbfbpbppjkoeaaGreatDoor
