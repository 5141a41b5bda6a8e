/- Contracts, joined of several texts: Rp, Sa, Sb, Sc, Sd, Se, Sf, Sg, Sh. Conditions: those in the statements. -/
import Derived.Test.YthbfbpbppjkoeaaGreatDoorBigPb
import Derived.Test.YthbfbpbppjkoeaaGreatDoorBigV
import Derived.Test.YthbfbpbppjkoeaaGreatDoorBigC
import Derived.IntWalk
import Derived.Test.YthbfbpbppjkoeaaGreatDoorBigN
import Derived.Test.YthbfbpbppjkoeaaGreatDoorBigRc
import Derived.Test.YthbfbpbppjkoeaaGreatDoorBigLb
/- Plain definitions and facts of the specification of package big: decimal digits. Nothing is said of the program here. -/
namespace Go.Proofs.YthbfbpbppjkoeaaGreatDoor.Rf

/-- The decimal digits, the lowest first, none of them superfluous. -/
def tens (n : Nat) : List Int := if h : n = 0 then [] else ((n % 10 : Nat) : Int) :: tens (n / 10)
termination_by n
decreasing_by omega
theorem tens_zero : tens 0 = [] := by rw [tens, dif_pos rfl]
theorem tens_pos {n : Nat} (h : n ≠ 0) : tens n = ((n % 10 : Nat) : Int) :: tens (n / 10) := by rw [tens, dif_neg h]
theorem tens_nil {n : Nat} : tens n = [] ↔ n = 0 := by
  refine ⟨fun h => ?_, fun h => by rw [h, tens_zero]⟩
  by_cases h0 : n = 0
  · exact h0
  · rw [tens_pos h0] at h; cases h
theorem tens_length_zero {n : Nat} : (tens n).length = 0 ↔ n = 0 := by rw [List.length_eq_zero_iff, tens_nil]
theorem tens_length (n : Nat) (h : n ≠ 0) : (tens n).length = Lib.nDigits n := by
  induction n using Nat.strongRecOn with
  | _ n ih =>
    rw [tens_pos h, List.length_cons]
    by_cases h1 : n < 10
    · rw [Lib.nDigits_small h1, show n / 10 = 0 by omega, tens_zero]; rfl
    · rw [Lib.nDigits_big h1, ih (n / 10) (by omega) (by omega)]
theorem tens_len_le (n : Nat) : (tens n).length ≤ Lib.nDigits n := by
  by_cases h : n = 0
  · subst h; rw [tens_zero]; exact Nat.zero_le _
  · rw [tens_length n h]; exact Nat.le_refl _
theorem tens_mem {n : Nat} {x : Int} (h : x ∈ tens n) : 0 ≤ x ∧ x < 10 := by
  induction n using Nat.strongRecOn with
  | _ n ih =>
    by_cases h0 : n = 0
    · subst h0; rw [tens_zero] at h; cases h
    · rw [tens_pos h0] at h
      rcases List.mem_cons.1 h with rfl | h
      · omega
      · exact ih _ (by omega) h
/-- The number that digits make. -/
def valT : List Int → Int
  | [] => 0
  | x :: l => x + 10 * valT l
theorem valT_tens (n : Nat) : valT (tens n) = n := by
  induction n using Nat.strongRecOn with
  | _ n ih =>
    by_cases h : n = 0
    · subst h; rw [tens_zero]; rfl
    · rw [tens_pos h, valT, ih (n / 10) (by omega)]; omega
theorem valT_append (a b : List Int) : valT (a ++ b) = valT a + 10 ^ a.length * valT b := by
  induction a with
  | nil => simp [valT]
  | cons x a ih => rw [List.cons_append, valT, valT, ih, List.length_cons, Int.pow_succ, Int.mul_add, Int.add_assoc, Int.mul_comm (10 ^ a.length) 10, Int.mul_assoc]
def Digs (l : List Int) : Prop := ∀ x ∈ l, 0 ≤ x ∧ x < 10
theorem digs_tens (n : Nat) : Digs (tens n) := fun _ h => tens_mem h
theorem valT_nonneg {l : List Int} (h : Digs l) : 0 ≤ valT l := by
  induction l with
  | nil => exact Int.le_refl _
  | cons x l ih =>
    have h1 := h x (List.mem_cons_self ..)
    have h2 := ih (fun y hy => h y (List.mem_cons_of_mem _ hy))
    rw [valT]; omega
theorem valT_zero {l : List Int} (h : Digs l) (h0 : valT l = 0) : ∀ x ∈ l, x = 0 := by
  induction l with
  | nil => intro x hx; cases hx
  | cons y l ih =>
    intro x hx
    have h1 := h y (List.mem_cons_self ..)
    have h2 := valT_nonneg (l := l) (fun z hz => h z (List.mem_cons_of_mem _ hz))
    rw [valT] at h0
    rcases List.mem_cons.1 hx with rfl | hx
    · omega
    · exact ih (fun z hz => h z (List.mem_cons_of_mem _ hz)) (by omega) x hx
/-- Digits without 0 at the end are those of the number. -/
theorem tens_unique : ∀ (l : List Int), Digs l → (∀ x, l.getLast? = some x → x ≠ 0) → l = tens (valT l).toNat
  | [], _, _ => by simp [valT, tens_zero]
  | x :: l, h, hl => by
    have h1 := h x (List.mem_cons_self ..)
    have hd : Digs l := fun z hz => h z (List.mem_cons_of_mem _ hz)
    have h2 := valT_nonneg hd
    have hll : ∀ y, l.getLast? = some y → y ≠ 0 := fun y hy => hl y (by cases l with | nil => simp at hy | cons a r => rw [List.getLast?_cons_cons]; exact hy)
    have ih := tens_unique l hd hll
    have hne : (valT (x :: l)).toNat ≠ 0 := by
      intro e
      have e0 : valT (x :: l) = 0 := by
        have := valT_nonneg h; omega
      have hz := valT_zero h e0
      have hlast := List.getLast?_eq_some_getLast (List.cons_ne_nil x l)
      exact hl _ hlast (hz _ (List.getLast_mem _))
    rw [tens_pos hne]
    have e1 : (((valT (x :: l)).toNat % 10 : Nat) : Int) = x := by rw [valT]; omega
    have e2 : (valT (x :: l)).toNat / 10 = (valT l).toNat := by rw [valT]; omega
    rw [e1, e2, ← ih]
/-- How many digits are left without 0 at the end. -/
def cut : List Int → Nat → Nat
  | _, 0 => 0
  | l, n + 1 => if l[n]? = some 0 then cut l n else n + 1
theorem cut_le (l : List Int) : ∀ n, cut l n ≤ n
  | 0 => Nat.le_refl _
  | n + 1 => by
    unfold cut
    split
    · have := cut_le l n; omega
    · exact Nat.le_refl _
theorem valT_take_cut (l : List Int) : ∀ n, valT (l.take (cut l n)) = valT (l.take n)
  | 0 => rfl
  | n + 1 => by
    unfold cut
    split
    · rename_i h
      rw [valT_take_cut l n, List.take_add_one, h, valT_append]
      simp [valT]
    · rfl
theorem cut_last (l : List Int) : ∀ n, n ≤ l.length → ∀ x, (l.take (cut l n)).getLast? = some x → x ≠ 0
  | 0, _, x, h => by simp [cut] at h
  | n + 1, hn, x, h => by
    unfold cut at h
    split at h
    · exact cut_last l n (by omega) x h
    · rename_i h0
      rw [List.getLast?_take, if_neg (by omega)] at h
      simp only [Nat.add_sub_cancel] at h
      have hk : l[n]? = some l[n] := List.getElem?_eq_getElem (by omega)
      rw [hk] at h h0
      simp only [Option.some_or, Option.some.injEq] at h
      intro e
      exact h0 (by rw [h, e])
theorem trim_eq (l : List Int) (h : Digs l) : l.take (cut l l.length) = tens (valT l).toNat := by
  have h1 := tens_unique (l.take (cut l l.length)) (fun x hx => h x (List.mem_of_mem_take hx)) (cut_last l l.length (Nat.le_refl _))
  rw [valT_take_cut, List.take_length] at h1
  exact h1
end Go.Proofs.YthbfbpbppjkoeaaGreatDoor.Rf
/- Contracts of trimmed and signed of package proteusref03. Conditions: those in the statements. -/
namespace Go.Proofs.YthbfbpbppjkoeaaGreatDoor
open Go.RowKit Go.Shelf
set_option maxRecDepth 100000

/-- A box that holds a number's two cells. -/
def RB (W : World) (B : Nat) (u v : Value) : Prop := W.heap[B]? = some (.cells #[u, v] 52 (0, 0))
theorem RB.lt {W : World} {B : Nat} {u v : Value} (h : RB W B u v) : B < W.heap.size := (Array.getElem?_eq_some_iff.1 h).1
theorem RB.c0 {W : World} {B : Nat} {u v : Value} (h : RB W B u v) : W.cell? ⟨B, 0, none⟩ = some u := (Lib.cell_of_heap h 0).trans rfl
theorem RB.c1 {W : World} {B : Nat} {u v : Value} (h : RB W B u v) : W.cell? ⟨B, 1, none⟩ = some v := (Lib.cell_of_heap h 1).trans rfl
theorem RB.fz {W : World} {B : Nat} {u v : Value} (h : RB W B u v) (i : Nat) : W.frozen? ⟨B, i, none⟩ = false := Lib.frozen_of_heap h i
theorem RB.new (W : World) (u v : Value) : RB (W.alloc (.cells #[u, v] 52)) W.heap.size u v := World.alloc_heap_new W _
theorem RB.below {W W' : World} {n B : Nat} {u v : Value} (h : RB W B u v) (hb : Below n W W') (hn : B < n) : RB W' B u v := (hb.block B hn).trans h
theorem RB.alloc {W : World} {B : Nat} {u v : Value} (h : RB W B u v) (o : Obj) : RB (W.alloc o) B u v := (Below.alloc (Below.refl W.heap.size W) (Nat.le_refl _) o).block B h.lt |>.trans h
theorem RB.put {W : World} {B : Nat} {u v : Value} (h : RB W B u v) (a b : Value) : RB ((W.setCell ⟨B, 0, none⟩ a).setCell ⟨B, 1, none⟩ b) B a b := by
  have st : ∀ {W : World} {u v : Value} (i : Nat) (y : Value), RB W B u v → (W.setCell ⟨B, i, none⟩ y).heap[B]? = some (.cells (#[u, v].setIfInBounds i y) 52 (0, 0)) := fun {W u v} i y h => by
    obtain ⟨hlt, hk⟩ := Array.getElem?_eq_some_iff.1 h
    show (W.heap.modify B _)[B]? = _
    rw [Array.getElem?_eq_getElem (by rw [Array.size_modify]; exact hlt), Array.getElem_modify_self, hk]
    rfl
  have h1 : RB (W.setCell ⟨B, 0, none⟩ a) B a v := st 0 a h
  exact st 1 b h1
theorem RB.other {W : World} {B : Nat} {u v : Value} (h : RB W B u v) (p : Addr) (hp : p.block ≠ B) (y : Value) : RB (W.setCell p y) B u v :=
  (Below.heap_setCell W p y B (fun e => hp e.symm)).trans h
theorem ret_rb {f : Func} {R : Ending → World → Prop} {a : Act} {W : World} {B : Nat} {t : Tmp} {u v : Value} (hres : f.results = #[.cell t 52]) (hB : a.tmps.getD t undef = .pointer (some ⟨B, 0, none⟩)) (hd : a.defers = [])
    (hN : RB W B u v) (hR : R (.returned (.agg #[u, v])) W) : bodyPost Tryz.prog f R .ret a W := by
  have c0 := hN.c0
  have c1 := hN.c1
  rw [Array.getD_eq_getD_getElem?] at hB
  refine bodyPost_ret (v := .agg #[u, v]) ?_ hd hR
  simp [results, hres, hB, go_sem, c0, c1]
theorem ret_rb_ok {f : Func} {R : Ending → World → Prop} {a : Act} {W : World} {B : Nat} {t t' : Tmp} {u v y : Value} (hres : f.results = #[.cell t 52, .tmp t']) (hB : a.tmps.getD t undef = .pointer (some ⟨B, 0, none⟩)) (hy : a.tmps.getD t' undef = y) (hd : a.defers = [])
    (hN : RB W B u v) (hR : R (.returned (.tuple #[.agg #[u, v], y])) W) : bodyPost Tryz.prog f R .ret a W := by
  have c0 := hN.c0
  have c1 := hN.c1
  rw [Array.getD_eq_getD_getElem?] at hB hy
  refine bodyPost_ret (v := .tuple #[.agg #[u, v], y]) ?_ hd hR
  simp [results, hres, hB, hy, go_sem, c0, c1]

/-- The value of a number of the specification's. -/
def rnV (z : Int) (o : Option Addr) (c : Nat) : Value := .agg #[.bool (decide (z < 0)), .slice o (Rf.tens z.natAbs).length c]
def RAt (w : World) (o : Option Addr) (c : Nat) (z : Int) : Prop := (Rf.tens z.natAbs).length ≤ c ∧ IntAt w o (Rf.tens z.natAbs)
theorem RAt.mono {w w' : World} {o : Option Addr} {c : Nat} {z : Int} (h : RAt w o c z) (hb : Below w.heap.size w w') : RAt w' o c z := ⟨h.1, h.2.mono hb⟩
def RetR (z : Int) (w : World) (e : Ending) (w' : World) : Prop := ∃ o c, e = .returned (rnV z o c) ∧ RAt w' o c z ∧ Below w.heap.size w w'

set_option maxHeartbeats 1000000 in
theorem trimmed_c (o : Option Addr) (c : Nat) (l : List Int) (w : World) (h : IntAt w o l) (hc : l.length ≤ c) (hl : l.length ≤ 100000) :
    Calls Tryz.prog 82 #[.slice o l.length c] w fun e w' => e = .returned (.slice o (Rf.cut l l.length) c) ∧ w' = w := by
  have HI := Lib.hid h
  clear h
  go_enter Tryz.func82, Tryz.ntmps82
  go_wp2_with fail
  go_loopg [3] l.length (fun g n wr => ∃ k : Nat, k ≤ l.length ∧ n = .int .i64 k ∧ Hid (Rf.cut l k = Rf.cut l l.length) ∧ wr = w ∧ g = k)
  case atStart => exact ⟨l.length, Nat.le_refl _, rfl, Lib.hid rfl, rfl, rfl⟩
  case round =>
    obtain ⟨k, hk, rfl, HC, rfl, hg⟩ := hrel
    cases k with
    | zero =>
      have hcut : Rf.cut l l.length = 0 := by rw [← HC.out]; rfl
      have HCut := Lib.hid hcut
      clear hcut
      go_wp2_with fail
      go_ret
      exact ⟨by rw [HCut.out]; rfl, rfl⟩
    | succ k =>
      have hlt : k < l.length := by omega
      obtain ⟨b, rfl, hb, hcell⟩ := HI.out.get hlt
      have hstep : Rf.cut l (k + 1) = if l[k]? = some 0 then Rf.cut l k else k + 1 := rfl
      rw [List.getElem?_eq_getElem hlt] at hstep
      generalize l[k] = x at *
      have HS := Lib.hid hstep
      clear hstep
      by_cases hx : x = 0
      · have dx : (x == 0) = true := beq_iff_eq.2 hx
        have HN := Lib.hid ((HS.out.trans (if_pos (by rw [hx]))).symm.trans HC.out)
        clear hx HS
        go_wp2_with fail
        go_roundg k
        case rel => exact ⟨k, by omega, by simp, HN, rfl, rfl⟩
        case measure => omega
      · have dx : (x == 0) = false := beq_eq_false_iff_ne.2 hx
        have HN := Lib.hid ((HS.out.trans (if_neg (fun e => hx (Option.some.inj e)))).symm.trans HC.out)
        clear HS
        go_wp2_with fail
        go_ret
        exact ⟨by rw [← HN.out]; rfl, rfl⟩

theorem cut_len {l : List Int} {n : Nat} (hd : Rf.Digs l) (hn : Rf.valT l = n) : l.take (Rf.cut l l.length) = Rf.tens n ∧ Rf.cut l l.length = (Rf.tens n).length := by
  have h := Rf.trim_eq l hd
  rw [hn, Int.toNat_natCast] at h
  refine ⟨h, ?_⟩
  rw [← h, List.length_take]
  have := Rf.cut_le l l.length
  omega
set_option maxHeartbeats 1000000 in
theorem signed_ref (b : Bool) (o : Option Addr) (c : Nat) (l : List Int) (n : Nat) (z : Int) (w : World) (h : IntAt w o l) (hc : l.length ≤ c) (hl : l.length ≤ 100000) (hd : Rf.Digs l) (hn : Rf.valT l = n) (hz : z = if b then -(n : Int) else (n : Int)) :
    Calls Tryz.prog 59 #[.bool b, .slice o l.length c] w (RetR z w) := by
  obtain ⟨e1, e2⟩ := cut_len hd hn
  have hab : z.natAbs = n := by rw [hz]; split <;> omega
  have hi2 : IntAt w o (Rf.tens n) := by rw [← e1]; exact h.take _
  have hcc : (Rf.tens n).length ≤ c := by rw [← e2]; exact Nat.le_trans (Rf.cut_le _ _) hc
  have hsg : decide (z < 0) = (b && decide (0 < (Rf.tens n).length)) := by
    have h0 := Rf.tens_length_zero (n := n)
    rw [hz]
    cases b <;> simp <;> omega
  have hT := fun (W : World) (hW : IntAt W o l) => trimmed_c o c l W hW hc hl
  rw [e2] at hT
  have HT := Lib.hid hT
  have HI := Lib.hid h
  have HR := Lib.hid hi2
  have HS := Lib.hid hsg
  have HA := Lib.hid hab
  have HCC := Lib.hid hcc
  have hb0 : Below w.heap.size w (w.alloc (.cells #[.bool false, .slice none 0 0] 52)) := (Below.refl _ _).alloc (Nat.le_refl _) _
  have HB0 := Lib.hid hb0
  have hN := RB.new w (.bool false) (.slice none 0 0)
  have c0 := hN.c0
  have c1 := hN.c1
  have f0 := hN.fz 0
  have f1 := hN.fz 1
  have HN := Lib.hid hN
  clear hT h hi2 hsg hab hcc hb0 e1 e2 hn hz hd hN
  generalize hk : (Rf.tens n).length = k at *
  have HK := Lib.hid hk
  clear hk
  have fin : ∀ s : Bool, decide (z < 0) = s → RetR z w (.returned (.agg #[.bool s, .slice o k c])) (w.alloc (.cells #[.bool s, .slice o k c] 52)) := by
    intro s hs
    refine ⟨o, c, ?_, ⟨?_, ?_⟩, (Below.refl _ _).alloc (Nat.le_refl _) _⟩
    · unfold rnV; rw [HA.out, hs, HK.out]
    · rw [HA.out, HK.out]; exact HCC.out
    · rw [HA.out]; exact HR.out.mono ((Below.refl _ _).alloc (Nat.le_refl _) _)
  have HF := Lib.hid fin
  clear fin
  cases b with
  | false =>
    have hs : decide (z < 0) = false := by rw [HS.out]; rfl
    have HSF := Lib.hid hs
    clear hs
    go_enter Tryz.func59, Tryz.ntmps59
    go_wp2_with fail
    refine (HT.out _ (HI.out.mono HB0.out)).mono ?_
    rintro e w1 ⟨rfl, rfl⟩
    go_wp2_with fail
    exact ret_rb rfl rfl rfl (RB.new w _ _) (HF.out false HSF.out)
  | true =>
    by_cases h0 : 0 < k
    · have hs : decide (z < 0) = true := by rw [HS.out, decide_eq_true h0]; rfl
      have HSF := Lib.hid hs
      have d1 : decide ((0 : Int) < (k : Int)) = true := decide_eq_true (by omega)
      clear hs
      go_enter Tryz.func59, Tryz.ntmps59
      go_wp2_with fail
      refine (HT.out _ (HI.out.mono HB0.out)).mono ?_
      rintro e w1 ⟨rfl, rfl⟩
      go_wp2_with fail
      exact ret_rb rfl rfl rfl (RB.new w _ _) (HF.out true HSF.out)
    · have hs : decide (z < 0) = false := by rw [HS.out, decide_eq_false h0]; rfl
      have HSF := Lib.hid hs
      have hk0 : k = 0 := by omega
      have d1 : decide ((0 : Int) < (k : Int)) = false := decide_eq_false (by omega)
      have d2 : decide (0 < k) = false := decide_eq_false h0
      clear hs hk0
      go_enter Tryz.func59, Tryz.ntmps59
      go_wp2_with fail
      refine (HT.out _ (HI.out.mono HB0.out)).mono ?_
      rintro e w1 ⟨rfl, rfl⟩
      go_wp2_with fail
      exact ret_rb rfl rfl rfl (RB.new w _ _) (HF.out false HSF.out)
end Go.Proofs.YthbfbpbppjkoeaaGreatDoor
/- Contract of small of package proteusref03. Conditions: those in the statements. -/
namespace Go.Proofs.YthbfbpbppjkoeaaGreatDoor
open Go.RowKit Go.Shelf
set_option maxRecDepth 100000

theorem intAt_put_rb {W : World} {B : Nat} {p : Bool} {v : Value} {o : Option Addr} {l : List Int} (hB : RB W B (.bool p) v) (h : IntAt W o l) (x y : Value) : IntAt ((W.setCell ⟨B, 0, none⟩ x).setCell ⟨B, 1, none⟩ y) o l := by
  intro k n hn
  obtain ⟨b, e, hb, hc⟩ := h k n hn
  have hne : b ≠ B := by
    rintro rfl
    have hk : 0 < l.length := by have := (List.getElem?_eq_some_iff.1 hn).1; omega
    obtain ⟨b', e', _, hc'⟩ := h.get hk
    rw [e] at e'
    injection e' with e'
    injection e' with e'
    subst e'
    have := hB.c0
    rw [this] at hc'
    cases hc'
  refine ⟨b, e, by simpa [World.setCell] using hb, ?_⟩
  rw [World.cell?_setCell_far _ _ _ _ (by simpa using fun e => hne e.symm), World.cell?_setCell_far _ _ _ _ (by simpa using fun e => hne e.symm)]
  exact hc
theorem tmod10 (m : Int) : m.tmod 10 = if m < 0 then -((m.natAbs % 10 : Nat) : Int) else ((m.natAbs % 10 : Nat) : Int) := by
  by_cases h : m < 0
  · rw [if_pos h]
    obtain ⟨a, ha⟩ : ∃ a : Nat, m = -(a : Int) := ⟨m.natAbs, by omega⟩
    rw [ha, Int.neg_tmod, Int.tmod_eq_emod_of_nonneg (by omega)]; omega
  · rw [if_neg h, Int.tmod_eq_emod_of_nonneg (by omega)]; omega
theorem tdiv10 (m : Int) : m.tdiv 10 = if m < 0 then -((m.natAbs / 10 : Nat) : Int) else ((m.natAbs / 10 : Nat) : Int) := by
  have h := Int.mul_tdiv_add_tmod m 10
  rw [tmod10] at h
  split <;> rename_i h0 <;> simp only [h0, if_true, if_false] at h <;> omega
set_option maxHeartbeats 2000000 in
theorem small_ref (n : Int) (hn : In64Z n) (w : World) :
    Calls Tryz.prog 68 #[.int .i64 n] w (RetR n w) := by
  obtain ⟨i0, hi, hz0, hz1, hz2⟩ := info_parts info_int
  have hN0 := Lib.hid (RB.new w (.bool false) (.slice none 0 0))
  have hlen : (Rf.tens n.natAbs).length ≤ 20 := by
    refine Nat.le_trans (Rf.tens_len_le _) (Bg.nDigits_le ?_ (by decide))
    have : (10 : Nat) ^ 20 = 100000000000000000000 := by decide
    unfold In64Z at hn; omega
  obtain ⟨b0, hb0⟩ : ∃ b, decide (n < 0) = b := ⟨_, rfl⟩
  have HB0 := Lib.hid hb0
  go_enter Tryz.func68, Tryz.ntmps68
  go_wp2_with fail
  clear hb0
  go_loopg [0, 4, 5] n.natAbs (fun g u v x wr => ∃ (k : Nat) (m : Int) (cols : List Int), cols.length = k ∧ k ≤ 20 ∧ u = .int .i64 m ∧ -9223372036854775808 ≤ m ∧ m ≤ 9223372036854775807 ∧ Hid (cols = (Rf.tens n.natAbs).take k) ∧ Hid (Rf.tens m.natAbs = (Rf.tens n.natAbs).drop k) ∧ Hid (wr.ownsRow (w.heap.size + 1) 3 1 v k (cols.map (Value.int .i64))) ∧ Hid (Below (w.heap.size + 1) (w.alloc (.cells #[.bool false, .slice none 0 0] 52)) wr) ∧ g = m.natAbs)
  case atStart => exact ⟨0, n, [], rfl, by omega, rfl, hn.1, hn.2, Lib.hid (by simp), Lib.hid (by simp), Lib.hid (World.ownsRow_nil _ _ _ _), Lib.hid (Below.refl _ _), rfl⟩
  case round =>
    obtain ⟨k, m, cols, hck, hk20, rfl, hm1, hm2, HC, HM, HR, HW, hg⟩ := hrel
    by_cases hE : m = 0
    · subst hE
      have hcols : cols = Rf.tens n.natAbs := by
        have h1 := HM.out
        have h2 := HC.out
        rw [show (0 : Int).natAbs = 0 by rfl, Rf.tens_zero] at h1
        rw [h2]
        apply List.take_of_length_le
        have := congrArg List.length h1
        rw [List.length_drop] at this
        simp at this
        omega
      obtain ⟨o, c, rfl, hkc⟩ : ∃ o c, u4 = .slice o cols.length c ∧ cols.length ≤ c := by
        rcases HR.out.2 with ⟨rfl, h0⟩ | ⟨g, c, cur, rfl, _, _, hle, _⟩
        · exact ⟨none, 0, by rw [hck, h0], by omega⟩
        · exact ⟨_, _, by rw [hck], by omega⟩
      have hrow := HR.out
      rw [← hck] at hrow
      have hint := intAt_owns hrow
      have hN := hN0.out.below HW.out (Nat.lt_succ_self _)
      have c0 := hN.c0
      have c1 := hN.c1
      have f0 := hN.fz 0
      have f1 := hN.fz 1
      have HN := Lib.hid hN
      have HI := Lib.hid hint
      have HCo := Lib.hid hcols
      clear hN hint hcols hrow
      go_wp2_with fail
      refine ret_rb rfl rfl rfl (HN.out.put _ _) ⟨o, c, ?_, ⟨?_, ?_⟩, ?_⟩
      · unfold rnV; rw [HB0.out, ← HCo.out, hck]
      · rw [← HCo.out]; exact hkc
      · rw [← HCo.out]; exact intAt_put_rb HN.out HI.out _ _
      · exact below_put (((Below.refl _ w).alloc (Nat.le_refl _) _).trans (HW.out.mono (Nat.le_succ _))) (Nat.le_refl _) _ _
    · have dE : (m != 0) = true := by rw [bne_iff_ne]; exact hE
      have hm0 : m.natAbs ≠ 0 := by omega
      obtain ⟨q, hq⟩ : ∃ q, m.natAbs % 10 = q := ⟨_, rfl⟩
      have htm := tmod10 m
      have htd := tdiv10 m
      have hstep := Rf.tens_pos hm0
      rw [hq] at htm hstep
      have hq9 : q ≤ 9 := by omega
      obtain ⟨p, hp⟩ : ∃ p, m.tdiv 10 = p := ⟨_, rfl⟩
      rw [hp] at htd
      have hpa : p.natAbs = m.natAbs / 10 := by split at htd <;> omega
      have hp1 : -9223372036854775808 ≤ p := by omega
      have hp2 : p ≤ 9223372036854775807 := by omega
      have hpm : p.natAbs < m.natAbs := by omega
      have hk1 : k + 1 ≤ 20 := by
        have h1 := congrArg List.length HM.out
        rw [hstep, List.length_cons, List.length_drop] at h1
        omega
      have hdrop : (Rf.tens n.natAbs).drop k = (q : Int) :: Rf.tens (m.natAbs / 10) := by rw [← HM.out, hstep]
      have hget : (Rf.tens n.natAbs)[k]? = some (q : Int) := by
        have := congrArg (fun l => l[0]?) hdrop
        simpa using this
      have HC2 : Hid (cols ++ [(q : Int)] = (Rf.tens n.natAbs).take (k + 1)) := Lib.hid (by rw [List.take_add_one, hget, ← HC.out]; rfl)
      have HM2 : Hid (Rf.tens p.natAbs = (Rf.tens n.natAbs).drop (k + 1)) := Lib.hid (by
        rw [hpa, ← List.drop_drop, hdrop]; rfl)
      have hw1 : wrap64 p = p := by unfold wrap64; omega
      have hwz := HW.out.size
      rw [World.size_alloc] at hwz
      clear hstep hdrop hget hpa
      have hq0 : (0 : Int) ≤ (q : Int) := by omega
      by_cases hneg : m < 0
      · rw [if_pos hneg] at htm htd
        by_cases hqz : q = 0
        · have t1 : m.tmod 10 = (q : Int) := by rw [htm, hqz]; rfl
          have d1 : decide ((q : Int) < 0) = false := decide_eq_false (by omega)
          clear htm htd hqz hq
          go_wp2_with (at_builtin; refine wpList_append_own _ rfl _ _ 50 rfl (w.heap.size + 1) 3 i0 (.int .i64 0) 1 8 Tryz.underlying50 hi hz0 hz1 hz2 rfl (by decide) _ k _ rfl (HR.out.alloc _) ⟨wr.heap.size, 0, none⟩ 1 1 [.int .i64 q] rfl rfl (cell_one_new _ _ _) (by simp [Value.oneCell']) (by show _ ≤ 9223372036854775807; omega) (by omega) (by simp; omega) ?_; intro v' w2 hown' hgrow _; have HOw := Lib.hid hown'; have HGw := Lib.hid hgrow; clear hown' hgrow)
          have HB2 : Hid (Below (w.heap.size + 1) (w.alloc (.cells #[.bool false, .slice none 0 0] 52)) w2) := Lib.hid ((HW.out.alloc hwz _).grown HGw.out (by simp; omega) (fun b e => (HR.out.lt b e).1))
          have HR2 : Hid (w2.ownsRow (w.heap.size + 1) 3 1 v' (k + 1) ((cols ++ [(q : Int)]).map (Value.int .i64))) := Lib.hid (by rw [List.map_append]; exact HOw.out)
          go_roundg (p.natAbs)
          case rel => exact ⟨k + 1, p, cols ++ [(q : Int)], by simp [hck], hk1, rfl, hp1, hp2, HC2, HM2, HR2, HB2, rfl⟩
          case measure => omega
        · obtain ⟨x0, hx0⟩ : ∃ x, -(q : Int) = x := ⟨_, rfl⟩
          have t1 : m.tmod 10 = x0 := by rw [htm, hx0]
          have d1 : decide (x0 < 0) = true := decide_eq_true (by omega)
          have n2 : -x0 = (q : Int) := by omega
          have n1 : wrap64 (-x0) = (q : Int) := by rw [n2]; unfold wrap64; omega
          have hx9 : -9 ≤ x0 := by omega
          clear htm htd hx0 hq
          go_wp2_with (at_builtin; refine wpList_append_own _ rfl _ _ 50 rfl (w.heap.size + 1) 3 i0 (.int .i64 0) 1 8 Tryz.underlying50 hi hz0 hz1 hz2 rfl (by decide) _ k _ rfl (HR.out.alloc _) ⟨wr.heap.size, 0, none⟩ 1 1 [.int .i64 q] rfl rfl (cell_one_new _ _ _) (by simp [Value.oneCell']) (by show _ ≤ 9223372036854775807; omega) (by omega) (by simp; omega) ?_; intro v' w2 hown' hgrow _; have HOw := Lib.hid hown'; have HGw := Lib.hid hgrow; clear hown' hgrow)
          have HB2 : Hid (Below (w.heap.size + 1) (w.alloc (.cells #[.bool false, .slice none 0 0] 52)) w2) := Lib.hid ((HW.out.alloc hwz _).grown HGw.out (by simp; omega) (fun b e => (HR.out.lt b e).1))
          have HR2 : Hid (w2.ownsRow (w.heap.size + 1) 3 1 v' (k + 1) ((cols ++ [(q : Int)]).map (Value.int .i64))) := Lib.hid (by rw [List.map_append]; exact HOw.out)
          go_roundg (p.natAbs)
          case rel => exact ⟨k + 1, p, cols ++ [(q : Int)], by simp [hck], hk1, rfl, hp1, hp2, HC2, HM2, HR2, HB2, rfl⟩
          case measure => omega
      · rw [if_neg hneg] at htm htd
        have t1 : m.tmod 10 = (q : Int) := htm
        have d1 : decide ((q : Int) < 0) = false := decide_eq_false (by omega)
        clear htm htd hq
        go_wp2_with (at_builtin; refine wpList_append_own _ rfl _ _ 50 rfl (w.heap.size + 1) 3 i0 (.int .i64 0) 1 8 Tryz.underlying50 hi hz0 hz1 hz2 rfl (by decide) _ k _ rfl (HR.out.alloc _) ⟨wr.heap.size, 0, none⟩ 1 1 [.int .i64 q] rfl rfl (cell_one_new _ _ _) (by simp [Value.oneCell']) (by show _ ≤ 9223372036854775807; omega) (by omega) (by simp; omega) ?_; intro v' w2 hown' hgrow _; have HOw := Lib.hid hown'; have HGw := Lib.hid hgrow; clear hown' hgrow)
        have HB2 : Hid (Below (w.heap.size + 1) (w.alloc (.cells #[.bool false, .slice none 0 0] 52)) w2) := Lib.hid ((HW.out.alloc hwz _).grown HGw.out (by simp; omega) (fun b e => (HR.out.lt b e).1))
        have HR2 : Hid (w2.ownsRow (w.heap.size + 1) 3 1 v' (k + 1) ((cols ++ [(q : Int)]).map (Value.int .i64))) := Lib.hid (by rw [List.map_append]; exact HOw.out)
        go_roundg (p.natAbs)
        case rel => exact ⟨k + 1, p, cols ++ [(q : Int)], by simp [hck], hk1, rfl, hp1, hp2, HC2, HM2, HR2, HB2, rfl⟩
        case measure => omega
end Go.Proofs.YthbfbpbppjkoeaaGreatDoor
/- Contract of read of package proteusref03. Conditions: those in the statements. -/
namespace Go.Proofs.YthbfbpbppjkoeaaGreatDoor
open Go.RowKit Go.Shelf
set_option maxRecDepth 100000
set_option linter.unusedVariables false

/-- The digits that bytes stand for, the last one first. -/
def backT (t : List UInt8) : List Int := t.reverse.map fun b => ((b.toNat - 48 : Nat) : Int)
theorem backT_cons (b : UInt8) (t : List UInt8) : backT (b :: t) = backT t ++ [((b.toNat - 48 : Nat) : Int)] := by simp [backT]
theorem backT_length (t : List UInt8) : (backT t).length = t.length := by simp [backT]
theorem backT_digs {t : List UInt8} (h : ∀ b ∈ t, Bg.isDig b = true) : Rf.Digs (backT t) := by
  intro x hx
  unfold backT at hx
  obtain ⟨b, hb, rfl⟩ := List.mem_map.1 hx
  have := h b (by simpa using hb)
  simp only [Bg.isDig, Bool.and_eq_true, decide_eq_true_eq] at this
  omega
theorem valT_back : ∀ (t : List UInt8), Rf.valT (backT t) = (Bg.dv t : Int)
  | [] => rfl
  | b :: t => by
    rw [backT_cons, Rf.valT_append, valT_back t, backT_length]
    have e : Bg.dv (b :: t) = (b.toNat - 48) * 10 ^ t.length + Bg.dv t := by
      unfold Bg.dv
      rw [Bg.dvF_cons, Bg.dvF_eq]
      unfold Bg.dv
      rw [Nat.zero_mul, Nat.zero_add]
    rw [e]
    simp only [Rf.valT]
    rw [Int.natCast_add, Int.natCast_mul, Int.natCast_pow]
    rw [Int.mul_zero, Int.add_zero, Int.mul_comm, Int.add_comm]
    rfl
/-- What read answers. -/
def ReadR (s : List UInt8) (w : World) (e : Ending) (w' : World) : Prop :=
  (∃ z o c, Few z ∧ s = Lib.itoa z ∧ e = .returned (.tuple #[rnV z o c, .bool true]) ∧ RAt w' o c z ∧ Below w.heap.size w w') ∨
  (Bg.okT s = false ∧ e = .returned (.tuple #[.agg #[.bool false, .slice none 0 0], .bool false]) ∧ Below w.heap.size w w')
theorem okT_parts (s d : List UInt8) (hd : Lib.trimPrefix s [45] = d) : Bg.okT s = (!d.isEmpty && decide (d.length ≤ 400) && (if d.head? = some 48 then decide (s = [48]) else d.all Bg.isDig)) := by subst hd; rfl
theorem itoa_neg {z : Int} {t : List UInt8} (h : 45 :: t = Lib.itoa z) : z = -((Bg.dv t : Nat) : Int) := by
  unfold Lib.itoa at h
  split at h
  · injection h with _ h; rw [h, Bg.dv_decDigits]; omega
  · exact absurd (by rw [← h]; rfl) (Bg.head_dig z.toNat)
theorem itoa_pos {z : Int} {t : List UInt8} (h : t = Lib.itoa z) (h0 : t.head? ≠ some 45) : z = ((Bg.dv t : Nat) : Int) := by
  unfold Lib.itoa at h
  split at h
  · rw [h] at h0; exact absurd rfl h0
  · rw [h, Bg.dv_decDigits]; omega
theorem below_new_rb (w : World) (u v : Value) : Below w.heap.size w (w.alloc (.cells #[u, v] 52)) := (Below.refl _ _).alloc (Nat.le_refl _) _

set_option maxHeartbeats 1000000 in
theorem read_empty (w : World) : Calls Tryz.prog 48 #[.string ⟨([] : List UInt8).toArray⟩] w (ReadR [] w) := by
  have HNk := Lib.hid (show Bg.okT [] = false by decide)
  go_enter Tryz.func48, Tryz.ntmps48
  go_wp2_with fail
  exact ret_rb_ok rfl rfl rfl rfl (RB.new w _ _) (.inr ⟨HNk.out, rfl, below_new_rb w _ _⟩)

set_option maxHeartbeats 400000 in
theorem read_neg_nil (s r : List UInt8) (w : World) (hs : s = 45 :: r) (hl : s.length ≤ 1000) (hr : r = []) : Calls Tryz.prog 48 #[.string ⟨s.toArray⟩] w (ReadR s w) := by
  obtain ⟨i0, hi, hz0, hz1, hz2⟩ := info_parts info_int
  have hN0 := Lib.hid (RB.new w (.bool false) (.slice none 0 0))
  have hok := okT_parts s r (by rw [hs]; exact Bg.trim_minus r)
  have hszS : (⟨(45 :: r).toArray⟩ : ByteArray).size = r.length + 1 := by simp [ByteArray.size]
  have hszT : (⟨r.toArray⟩ : ByteArray).size = r.length := by simp [ByteArray.size]
  have hgS : ∀ h, (⟨((45 : UInt8) :: r).toArray⟩ : ByteArray)[0]'h = 45 := fun _ => rfl
  have hcut : (⟨((45 : UInt8) :: r).toArray⟩ : ByteArray).extract 1 (r.length + 1) = ⟨r.toArray⟩ := by rw [ba_chunk]; simp
  have hrl : r.length ≤ 1000 := by rw [hs, List.length_cons] at hl; omega
  have HNk := Lib.hid (show Bg.okT s = false by rw [hok, hr]; rfl)
  have d0 : ((r.length : Int) == 0) = true := by rw [hr]; rfl
  have d0n : (r.length == 0) = true := by rw [hr]; rfl
  clear hr
  have HSv := Lib.hid hs
  clear hok hl
  have e0 : (⟨s.toArray⟩ : ByteArray) = ⟨(45 :: r).toArray⟩ := by rw [hs]
  rw [e0]
  clear e0 hs
  go_enter Tryz.func48, Tryz.ntmps48
  go_wp2_with fail
  exact ret_rb_ok rfl rfl rfl rfl (RB.new w _ _) (.inr ⟨HNk.out, rfl, below_new_rb w _ _⟩)

set_option maxHeartbeats 400000 in
theorem read_neg_long (s r : List UInt8) (w : World) (hs : s = 45 :: r) (hl : s.length ≤ 1000) (hlong : 400 < r.length) : Calls Tryz.prog 48 #[.string ⟨s.toArray⟩] w (ReadR s w) := by
  obtain ⟨i0, hi, hz0, hz1, hz2⟩ := info_parts info_int
  have hN0 := Lib.hid (RB.new w (.bool false) (.slice none 0 0))
  have hok := okT_parts s r (by rw [hs]; exact Bg.trim_minus r)
  have hszS : (⟨(45 :: r).toArray⟩ : ByteArray).size = r.length + 1 := by simp [ByteArray.size]
  have hszT : (⟨r.toArray⟩ : ByteArray).size = r.length := by simp [ByteArray.size]
  have hgS : ∀ h, (⟨((45 : UInt8) :: r).toArray⟩ : ByteArray)[0]'h = 45 := fun _ => rfl
  have hcut : (⟨((45 : UInt8) :: r).toArray⟩ : ByteArray).extract 1 (r.length + 1) = ⟨r.toArray⟩ := by rw [ba_chunk]; simp
  have hrl : r.length ≤ 1000 := by rw [hs, List.length_cons] at hl; omega
  have hpos : 0 < r.length := by omega
  have hT0 : 0 < r.length := hpos
  have d0 : ((r.length : Int) == 0) = false := beq_eq_false_iff_ne.2 (by omega)
  have d0n : (r.length == 0) = false := beq_eq_false_iff_ne.2 (by omega)
  have dl : decide ((400 : Int) < (r.length : Int)) = true := decide_eq_true (by omega)
  have dln : decide (400 < r.length) = true := decide_eq_true (by omega)
  have HNk := Lib.hid (show Bg.okT s = false by rw [hok, decide_eq_false (show ¬ r.length ≤ 400 by omega)]; simp)
  clear hlong
  have HSv := Lib.hid hs
  clear hok hl
  have e0 : (⟨s.toArray⟩ : ByteArray) = ⟨(45 :: r).toArray⟩ := by rw [hs]
  rw [e0]
  clear e0 hs
  go_enter Tryz.func48, Tryz.ntmps48
  go_wp2_with fail
  exact ret_rb_ok rfl rfl rfl rfl (RB.new w _ _) (.inr ⟨HNk.out, rfl, below_new_rb w _ _⟩)

set_option maxHeartbeats 400000 in
theorem read_neg_nought0 (s r : List UInt8) (w : World) (hs : s = 45 :: r) (hl : s.length ≤ 1000) (hpos : 0 < r.length) (hsh : r.length ≤ 400) (h48 : r.head? = some 48) (h1 : 1 < r.length) : Calls Tryz.prog 48 #[.string ⟨s.toArray⟩] w (ReadR s w) := by
  obtain ⟨i0, hi, hz0, hz1, hz2⟩ := info_parts info_int
  have hN0 := Lib.hid (RB.new w (.bool false) (.slice none 0 0))
  have hok := okT_parts s r (by rw [hs]; exact Bg.trim_minus r)
  have hszS : (⟨(45 :: r).toArray⟩ : ByteArray).size = r.length + 1 := by simp [ByteArray.size]
  have hszT : (⟨r.toArray⟩ : ByteArray).size = r.length := by simp [ByteArray.size]
  have hgS : ∀ h, (⟨((45 : UInt8) :: r).toArray⟩ : ByteArray)[0]'h = 45 := fun _ => rfl
  have hcut : (⟨((45 : UInt8) :: r).toArray⟩ : ByteArray).extract 1 (r.length + 1) = ⟨r.toArray⟩ := by rw [ba_chunk]; simp
  have hrl : r.length ≤ 1000 := by rw [hs, List.length_cons] at hl; omega
  have hT0 : 0 < r.length := hpos
  have d0 : ((r.length : Int) == 0) = false := beq_eq_false_iff_ne.2 (by omega)
  have d0n : (r.length == 0) = false := beq_eq_false_iff_ne.2 (by omega)
  have dl : decide ((400 : Int) < (r.length : Int)) = false := decide_eq_false (by omega)
  have dln : decide (400 < r.length) = false := decide_eq_false (by omega)
  obtain ⟨c, hc⟩ : ∃ c, r[0]? = some c := ⟨_, List.getElem?_eq_getElem hT0⟩
  have hg0 : (⟨r.toArray⟩ : ByteArray)[0]'(by rw [hszT]; exact hT0) = c := by
    have := (List.getElem?_eq_some_iff.1 hc).2
    exact this
  have hh : r.head? = some c := by rw [List.head?_eq_getElem?]; exact hc
  have hc48 : c = 48 := by rw [h48] at hh; exact (Option.some.inj hh).symm
  have d48 : ((c.toNat : Int) == 48) = true := by rw [hc48]; rfl
  have d1 : decide ((1 : Int) < (r.length : Int)) = true := decide_eq_true (by omega)
  have d1n : decide (1 < r.length) = true := decide_eq_true (by omega)
  have HNk := Lib.hid (show Bg.okT s = false by rw [hok, if_pos h48, decide_eq_false (show ¬ s = [48] from fun e => by rw [hs] at e; injection e with e _; exact absurd e (by decide))]; simp)
  clear hc hh hc48
  have HSv := Lib.hid hs
  clear hok hl
  have e0 : (⟨s.toArray⟩ : ByteArray) = ⟨(45 :: r).toArray⟩ := by rw [hs]
  rw [e0]
  clear e0 hs
  go_enter Tryz.func48, Tryz.ntmps48
  go_wp2_with fail
  exact ret_rb_ok rfl rfl rfl rfl (RB.new w _ _) (.inr ⟨HNk.out, rfl, below_new_rb w _ _⟩)

set_option maxHeartbeats 400000 in
theorem read_neg_nought1 (s r : List UInt8) (w : World) (hs : s = 45 :: r) (hl : s.length ≤ 1000) (hpos : 0 < r.length) (hsh : r.length ≤ 400) (h48 : r.head? = some 48) (h1 : r.length = 1) : Calls Tryz.prog 48 #[.string ⟨s.toArray⟩] w (ReadR s w) := by
  obtain ⟨i0, hi, hz0, hz1, hz2⟩ := info_parts info_int
  have hN0 := Lib.hid (RB.new w (.bool false) (.slice none 0 0))
  have hok := okT_parts s r (by rw [hs]; exact Bg.trim_minus r)
  have hszS : (⟨(45 :: r).toArray⟩ : ByteArray).size = r.length + 1 := by simp [ByteArray.size]
  have hszT : (⟨r.toArray⟩ : ByteArray).size = r.length := by simp [ByteArray.size]
  have hgS : ∀ h, (⟨((45 : UInt8) :: r).toArray⟩ : ByteArray)[0]'h = 45 := fun _ => rfl
  have hcut : (⟨((45 : UInt8) :: r).toArray⟩ : ByteArray).extract 1 (r.length + 1) = ⟨r.toArray⟩ := by rw [ba_chunk]; simp
  have hrl : r.length ≤ 1000 := by rw [hs, List.length_cons] at hl; omega
  have hT0 : 0 < r.length := hpos
  have d0 : ((r.length : Int) == 0) = false := beq_eq_false_iff_ne.2 (by omega)
  have d0n : (r.length == 0) = false := beq_eq_false_iff_ne.2 (by omega)
  have dl : decide ((400 : Int) < (r.length : Int)) = false := decide_eq_false (by omega)
  have dln : decide (400 < r.length) = false := decide_eq_false (by omega)
  obtain ⟨c, hc⟩ : ∃ c, r[0]? = some c := ⟨_, List.getElem?_eq_getElem hT0⟩
  have hg0 : (⟨r.toArray⟩ : ByteArray)[0]'(by rw [hszT]; exact hT0) = c := by
    have := (List.getElem?_eq_some_iff.1 hc).2
    exact this
  have hh : r.head? = some c := by rw [List.head?_eq_getElem?]; exact hc
  have hc48 : c = 48 := by rw [h48] at hh; exact (Option.some.inj hh).symm
  have d48 : ((c.toNat : Int) == 48) = true := by rw [hc48]; rfl
  have d1 : decide ((1 : Int) < (r.length : Int)) = false := decide_eq_false (by omega)
  have d1n : decide (1 < r.length) = false := decide_eq_false (by omega)
  have HNk := Lib.hid (show Bg.okT s = false by rw [hok, if_pos h48, decide_eq_false (show ¬ s = [48] from fun e => by rw [hs] at e; injection e with e _; exact absurd e (by decide))]; simp)
  clear hc hh hc48 h1
  have HSv := Lib.hid hs
  clear hok hl
  have e0 : (⟨s.toArray⟩ : ByteArray) = ⟨(45 :: r).toArray⟩ := by rw [hs]
  rw [e0]
  clear e0 hs
  go_enter Tryz.func48, Tryz.ntmps48
  go_wp2_with fail
  exact ret_rb_ok rfl rfl rfl rfl (RB.new w _ _) (.inr ⟨HNk.out, rfl, below_new_rb w _ _⟩)

set_option maxHeartbeats 400000 in
theorem read_neg_loop (s r : List UInt8) (w : World) (hs : s = 45 :: r) (hl : s.length ≤ 1000) (hpos : 0 < r.length) (hsh : r.length ≤ 400) (h48 : r.head? ≠ some 48) : Calls Tryz.prog 48 #[.string ⟨s.toArray⟩] w (ReadR s w) := by
  obtain ⟨i0, hi, hz0, hz1, hz2⟩ := info_parts info_int
  have hN0 := Lib.hid (RB.new w (.bool false) (.slice none 0 0))
  have hok := okT_parts s r (by rw [hs]; exact Bg.trim_minus r)
  have hszS : (⟨(45 :: r).toArray⟩ : ByteArray).size = r.length + 1 := by simp [ByteArray.size]
  have hszT : (⟨r.toArray⟩ : ByteArray).size = r.length := by simp [ByteArray.size]
  have hgS : ∀ h, (⟨((45 : UInt8) :: r).toArray⟩ : ByteArray)[0]'h = 45 := fun _ => rfl
  have hcut : (⟨((45 : UInt8) :: r).toArray⟩ : ByteArray).extract 1 (r.length + 1) = ⟨r.toArray⟩ := by rw [ba_chunk]; simp
  have hrl : r.length ≤ 1000 := by rw [hs, List.length_cons] at hl; omega
  have hT0 : 0 < r.length := hpos
  have d0 : ((r.length : Int) == 0) = false := beq_eq_false_iff_ne.2 (by omega)
  have d0n : (r.length == 0) = false := beq_eq_false_iff_ne.2 (by omega)
  have dl : decide ((400 : Int) < (r.length : Int)) = false := decide_eq_false (by omega)
  have dln : decide (400 < r.length) = false := decide_eq_false (by omega)
  obtain ⟨c, hc⟩ : ∃ c, r[0]? = some c := ⟨_, List.getElem?_eq_getElem hT0⟩
  have hg0 : (⟨r.toArray⟩ : ByteArray)[0]'(by rw [hszT]; exact hT0) = c := by
    have := (List.getElem?_eq_some_iff.1 hc).2
    exact this
  have hh : r.head? = some c := by rw [List.head?_eq_getElem?]; exact hc
  have hc48 : c ≠ 48 := fun e => h48 (by rw [hh, e])
  have d48 : ((c.toNat : Int) == 48) = false := beq_eq_false_iff_ne.2 (fun e => hc48 (UInt8.toNat_inj.1 (by have : (48 : UInt8).toNat = 48 := rfl; omega)))
  have HOk := Lib.hid (show Bg.okT s = r.all Bg.isDig by rw [hok, if_neg h48, decide_eq_true hsh, show r.isEmpty = false by cases r with | nil => cases hpos | cons a q => rfl]; rfl)
  clear hc hh hc48
  have HSv := Lib.hid hs
  clear hok hl
  have e0 : (⟨s.toArray⟩ : ByteArray) = ⟨(45 :: r).toArray⟩ := by rw [hs]
  rw [e0]
  clear e0 hs
  go_enter Tryz.func48, Tryz.ntmps48
  go_wp2_with fail
  go_loopg [5, 6] r.length (fun g v i wr => ∃ m : Nat, m ≤ r.length ∧ i = .int .i64 ((m : Int) - 1) ∧ Hid (∀ b ∈ r.drop m, Bg.isDig b = true) ∧ Hid (wr.ownsRow (w.heap.size + 1) 3 1 v (r.length - m) ((backT (r.drop m)).map (Value.int .i64))) ∧ Hid (Below (w.heap.size + 1) (w.alloc (.cells #[.bool false, .slice none 0 0] 52)) wr) ∧ g = m)
  case atStart => exact ⟨r.length, Nat.le_refl _, rfl, Lib.hid (by simp), Lib.hid (by simpa [backT] using World.ownsRow_nil _ _ _ _), Lib.hid (Below.refl _ _), rfl⟩
  case round =>
    obtain ⟨m, hm, rfl, HD, HR, HW, hg⟩ := hrel
    have hN := hN0.out.below HW.out (Nat.lt_succ_self _)
    have HN := Lib.hid hN
    have hwz := HW.out.size
    rw [World.size_alloc] at hwz
    cases m with
    | zero =>
      have dE : decide ((0 : Int) ≤ ((0 : Nat) : Int) - 1) = false := by decide
      have hall : Bg.okT s = true := by rw [HOk.out, List.all_eq_true]; simpa using HD.out
      obtain ⟨z, hz, hf⟩ := Bg.itoa_okT s hall
      obtain ⟨o, c, rfl, hkc⟩ : ∃ o c, u5 = .slice o (backT r).length c ∧ (backT r).length ≤ c := by
        rw [backT_length]
        rcases HR.out.2 with ⟨rfl, h0⟩ | ⟨g, c, cur, rfl, _, _, hle, _⟩
        · exact ⟨none, 0, by rw [show r.length = 0 by omega], by omega⟩
        · exact ⟨some ⟨g, 0, none⟩, c, by simp, by omega⟩
      have hrow := HR.out
      rw [List.drop_zero] at hrow
      have hlb : r.length - 0 = (backT r).length := by rw [backT_length]; omega
      rw [hlb] at hrow
      have hint := intAt_owns hrow
      have hz2 : z = if true then -((Bg.dv r : Nat) : Int) else ((Bg.dv r : Nat) : Int) := by
        exact itoa_neg (HSv.out.symm.trans hz)
      have hS := signed_ref true o c (backT r) (Bg.dv r) z wr hint hkc (by rw [backT_length]; omega) (backT_digs (by have := HD.out; simpa using this)) (valT_back r) hz2
      have HSg := Lib.hid hS
      have HZ := Lib.hid hz
      clear hint hrow hlb hS hall hz2 hN hz
      rw [backT_length] at HSg
      rw [backT_length]
      go_wp2_with fail
      refine HSg.out.mono ?_
      rintro e w1 ⟨o1, c1, rfl, hra, hb1⟩
      have hN1 := HN.out.below hb1 HN.out.lt
      have c0 := hN1.c0
      have c1' := hN1.c1
      have f0 := hN1.fz 0
      have f1 := hN1.fz 1
      have HN1 := Lib.hid hN1
      have HRA := Lib.hid hra
      have HB1 := Lib.hid ((((Below.refl _ w).alloc (Nat.le_refl _) _).trans (HW.out.mono (Nat.le_succ _))).trans (hb1.mono (by omega)))
      clear hN1 hra hb1
      unfold rnV
      go_wp2_with fail
      refine ret_rb_ok rfl rfl rfl rfl (HN1.out.put _ _) (.inl ⟨z, o1, c1, hf, HZ.out, rfl, ⟨HRA.out.1, intAt_put_rb HN1.out HRA.out.2 _ _⟩, below_put HB1.out (Nat.le_refl _) _ _⟩)
    | succ k =>
      have dE : decide ((0 : Int) ≤ ((k + 1 : Nat) : Int) - 1) = true := decide_eq_true (by omega)
      have hlt : k < r.length := by omega
      have e1 : ((k + 1 : Nat) : Int) - 1 = (k : Int) := by omega
      obtain ⟨x, hx⟩ : ∃ x, r[k]? = some x := ⟨_, List.getElem?_eq_getElem hlt⟩
      have hget : (⟨r.toArray⟩ : ByteArray)[k]'(by rw [hszT]; exact hlt) = x := by
        have := (List.getElem?_eq_some_iff.1 hx).2
        exact this
      have hdrop : r.drop k = x :: r.drop (k + 1) := by
        rw [List.drop_eq_getElem_cons hlt, (List.getElem?_eq_some_iff.1 hx).2]
      have hmem : x ∈ r := List.mem_of_getElem? hx
      by_cases hdg : Bg.isDig x = true
      · have hdg2 := hdg
        simp only [Bg.isDig, Bool.and_eq_true, decide_eq_true_eq] at hdg2
        obtain ⟨v, hv, hv9⟩ : ∃ v, x.toNat = v + 48 ∧ v ≤ 9 := ⟨x.toNat - 48, by omega, by omega⟩
        have d1 : decide ((x.toNat : Int) < 48) = false := decide_eq_false (by omega)
        have d2 : decide ((57 : Int) < (x.toNat : Int)) = false := decide_eq_false (by omega)
        have d1n : decide (x.toNat < 48) = false := decide_eq_false (by omega)
        have d2n : decide (57 < x.toNat) = false := decide_eq_false (by omega)
        have hw1 : IntKind.u8.wrap ((x.toNat : Int) - 48) = v := by rw [show (x.toNat : Int) - 48 = (v : Int) by omega]; exact IntWalk.u8_in _ (by omega)
        have hbk : backT (r.drop k) = backT (r.drop (k + 1)) ++ [(v : Int)] := by rw [hdrop, backT_cons, show x.toNat - 48 = v by omega]
        have HBk := Lib.hid hbk
        have HD2 : Hid (∀ b ∈ r.drop k, Bg.isDig b = true) := Lib.hid (by
          rw [hdrop]
          intro b hb
          rcases List.mem_cons.1 hb with rfl | hb
          · exact hdg
          · exact HD.out b hb)
        have hln : r.length - (k + 1) + 1 = r.length - k := by omega
        have HLn := Lib.hid hln
        have hll : r.length - (k + 1) ≤ 400 := by omega
        obtain ⟨j, hj⟩ : ∃ j, r.length - (k + 1) = j := ⟨_, rfl⟩
        rw [hj] at HR hll HLn
        clear hdg hdg2 hv hdrop hmem hbk hx hln hj hN
        rw [e1]
        go_wp2_with (at_builtin; refine wpList_append_own _ rfl _ _ 50 rfl (w.heap.size + 1) 3 i0 (.int .i64 0) 1 8 Tryz.underlying50 hi hz0 hz1 hz2 rfl (by decide) _ j _ rfl (HR.out.alloc _) ⟨wr.heap.size, 0, none⟩ 1 1 [.int .i64 v] rfl rfl (cell_one_new _ _ _) (by simp [Value.oneCell']) (by show _ ≤ 9223372036854775807; omega) (by omega) (by simp; omega) ?_; intro v' w2 hown' hgrow _; have HOw := Lib.hid hown'; have HGw := Lib.hid hgrow; clear hown' hgrow)
        have HB2 : Hid (Below (w.heap.size + 1) (w.alloc (.cells #[.bool false, .slice none 0 0] 52)) w2) := Lib.hid ((HW.out.alloc hwz _).grown HGw.out (by simp; omega) (fun b e => (HR.out.lt b e).1))
        have HR2 : Hid (w2.ownsRow (w.heap.size + 1) 3 1 v' (r.length - k) ((backT (r.drop k)).map (Value.int .i64))) := Lib.hid (by rw [HBk.out, List.map_append, ← HLn.out]; exact HOw.out)
        go_roundg k
        case rel => exact ⟨k, by omega, by simp, HD2, HR2, HB2, rfl⟩
        case measure => omega
      · have hno : Bg.okT s = false := by
          rw [HOk.out, Bool.eq_false_iff]
          intro h
          exact hdg (List.all_eq_true.1 h x hmem)
        have HNk := Lib.hid hno
        have c0 := hN.c0
        have c1 := hN.c1
        have f0 := hN.fz 0
        have f1 := hN.fz 1
        have HB1 := Lib.hid (((Below.refl _ w).alloc (Nat.le_refl _) (.cells #[.bool false, .slice none 0 0] 52)).trans (HW.out.mono (Nat.le_succ _)))
        have hcs : (decide (x.toNat < 48) = true) ∨ (decide (x.toNat < 48) = false ∧ decide (57 < x.toNat) = true) := by
          by_cases h : x.toNat < 48
          · exact .inl (decide_eq_true h)
          · refine .inr ⟨decide_eq_false h, decide_eq_true ?_⟩
            have : ¬ (48 ≤ x.toNat ∧ x.toNat ≤ 57) := fun h2 => hdg (by simp only [Bg.isDig, Bool.and_eq_true, decide_eq_true_eq]; exact h2)
            omega
        clear hno hdrop hmem hx hN hdg
        rw [e1]
        rcases hcs with h | ⟨h, h2⟩
        · have g1 : decide ((x.toNat : Int) < 48) = true := decide_eq_true (by have := of_decide_eq_true h; omega)
          go_wp2_with fail
          exact ret_rb_ok rfl rfl rfl rfl (HN.out.put _ _) (.inr ⟨HNk.out, rfl, below_put HB1.out (Nat.le_refl _) _ _⟩)
        · have g1 : decide ((x.toNat : Int) < 48) = false := decide_eq_false (by have := of_decide_eq_false h; omega)
          have g2 : decide ((57 : Int) < (x.toNat : Int)) = true := decide_eq_true (by have := of_decide_eq_true h2; omega)
          go_wp2_with fail
          exact ret_rb_ok rfl rfl rfl rfl (HN.out.put _ _) (.inr ⟨HNk.out, rfl, below_put HB1.out (Nat.le_refl _) _ _⟩)

set_option maxHeartbeats 400000 in
theorem read_pos_long (s : List UInt8) (w : World) (hpos : 0 < s.length) (h45 : s.head? ≠ some 45) (hl : s.length ≤ 1000) (hlong : 400 < s.length) : Calls Tryz.prog 48 #[.string ⟨s.toArray⟩] w (ReadR s w) := by
  obtain ⟨i0, hi, hz0, hz1, hz2⟩ := info_parts info_int
  have hN0 := Lib.hid (RB.new w (.bool false) (.slice none 0 0))
  have hok := okT_parts s s (Bg.trim_other s h45)
  have hszT : (⟨s.toArray⟩ : ByteArray).size = s.length := by simp [ByteArray.size]
  have hT0 : 0 < s.length := hpos
  have d0 : ((s.length : Int) == 0) = false := beq_eq_false_iff_ne.2 (by omega)
  have d0n : (s.length == 0) = false := beq_eq_false_iff_ne.2 (by omega)
  have dl : decide ((400 : Int) < (s.length : Int)) = true := decide_eq_true (by omega)
  have dln : decide (400 < s.length) = true := decide_eq_true (by omega)
  obtain ⟨c, hc⟩ : ∃ c, s[0]? = some c := ⟨_, List.getElem?_eq_getElem hT0⟩
  have hg0 : (⟨s.toArray⟩ : ByteArray)[0]'(by rw [hszT]; exact hT0) = c := by
    have := (List.getElem?_eq_some_iff.1 hc).2
    exact this
  have hh : s.head? = some c := by rw [List.head?_eq_getElem?]; exact hc
  have HNk := Lib.hid (show Bg.okT s = false by rw [hok, decide_eq_false (show ¬ s.length ≤ 400 by omega)]; simp)
  have HSv := Lib.hid (rfl : s = s)
  have HNo := Lib.hid h45
  have hc45 : c ≠ 45 := fun e => h45 (by rw [hh, e])
  have d45 : ((c.toNat : Int) == 45) = false := beq_eq_false_iff_ne.2 (fun e => hc45 (UInt8.toNat_inj.1 (by have : (45 : UInt8).toNat = 45 := rfl; omega)))
  have dp : decide ((0 : Int) < (s.length : Int)) = true := decide_eq_true (by omega)
  clear hok h45 hc45 hc hh hl
  go_enter Tryz.func48, Tryz.ntmps48
  go_wp2_with fail
  exact ret_rb_ok rfl rfl rfl rfl (RB.new w _ _) (.inr ⟨HNk.out, rfl, below_new_rb w _ _⟩)

set_option maxHeartbeats 400000 in
theorem read_pos_nought (s : List UInt8) (w : World) (hpos : 0 < s.length) (h45 : s.head? ≠ some 45) (hl : s.length ≤ 1000) (hsh : s.length ≤ 400) (h48 : s.head? = some 48) (h1 : 1 < s.length) : Calls Tryz.prog 48 #[.string ⟨s.toArray⟩] w (ReadR s w) := by
  obtain ⟨i0, hi, hz0, hz1, hz2⟩ := info_parts info_int
  have hN0 := Lib.hid (RB.new w (.bool false) (.slice none 0 0))
  have hok := okT_parts s s (Bg.trim_other s h45)
  have hszT : (⟨s.toArray⟩ : ByteArray).size = s.length := by simp [ByteArray.size]
  have hT0 : 0 < s.length := hpos
  have d0 : ((s.length : Int) == 0) = false := beq_eq_false_iff_ne.2 (by omega)
  have d0n : (s.length == 0) = false := beq_eq_false_iff_ne.2 (by omega)
  have dl : decide ((400 : Int) < (s.length : Int)) = false := decide_eq_false (by omega)
  have dln : decide (400 < s.length) = false := decide_eq_false (by omega)
  obtain ⟨c, hc⟩ : ∃ c, s[0]? = some c := ⟨_, List.getElem?_eq_getElem hT0⟩
  have hg0 : (⟨s.toArray⟩ : ByteArray)[0]'(by rw [hszT]; exact hT0) = c := by
    have := (List.getElem?_eq_some_iff.1 hc).2
    exact this
  have hh : s.head? = some c := by rw [List.head?_eq_getElem?]; exact hc
  have hc48 : c = 48 := by rw [h48] at hh; exact (Option.some.inj hh).symm
  have d48 : ((c.toNat : Int) == 48) = true := by rw [hc48]; rfl
  have d1 : decide ((1 : Int) < (s.length : Int)) = true := decide_eq_true (by omega)
  have d1n : decide (1 < s.length) = true := decide_eq_true (by omega)
  have HNk := Lib.hid (show Bg.okT s = false by rw [hok, if_pos h48, decide_eq_false (show ¬ s = [48] from fun e => by rw [e] at h1; exact absurd h1 (by decide))]; simp)
  clear hc48
  have HSv := Lib.hid (rfl : s = s)
  have HNo := Lib.hid h45
  have hc45 : c ≠ 45 := fun e => h45 (by rw [hh, e])
  have d45 : ((c.toNat : Int) == 45) = false := beq_eq_false_iff_ne.2 (fun e => hc45 (UInt8.toNat_inj.1 (by have : (45 : UInt8).toNat = 45 := rfl; omega)))
  have dp : decide ((0 : Int) < (s.length : Int)) = true := decide_eq_true (by omega)
  clear hok h45 hc45 hc hh hl
  go_enter Tryz.func48, Tryz.ntmps48
  go_wp2_with fail
  exact ret_rb_ok rfl rfl rfl rfl (RB.new w _ _) (.inr ⟨HNk.out, rfl, below_new_rb w _ _⟩)

set_option maxHeartbeats 400000 in
theorem read_pos_zero (s : List UInt8) (w : World) (hpos : 0 < s.length) (h45 : s.head? ≠ some 45) (hl : s.length ≤ 1000) (hsh : s.length ≤ 400) (h48 : s.head? = some 48) (h1 : s.length = 1) : Calls Tryz.prog 48 #[.string ⟨s.toArray⟩] w (ReadR s w) := by
  obtain ⟨i0, hi, hz0, hz1, hz2⟩ := info_parts info_int
  have hN0 := Lib.hid (RB.new w (.bool false) (.slice none 0 0))
  have hok := okT_parts s s (Bg.trim_other s h45)
  have hszT : (⟨s.toArray⟩ : ByteArray).size = s.length := by simp [ByteArray.size]
  have hT0 : 0 < s.length := hpos
  have d0 : ((s.length : Int) == 0) = false := beq_eq_false_iff_ne.2 (by omega)
  have d0n : (s.length == 0) = false := beq_eq_false_iff_ne.2 (by omega)
  have dl : decide ((400 : Int) < (s.length : Int)) = false := decide_eq_false (by omega)
  have dln : decide (400 < s.length) = false := decide_eq_false (by omega)
  obtain ⟨c, hc⟩ : ∃ c, s[0]? = some c := ⟨_, List.getElem?_eq_getElem hT0⟩
  have hg0 : (⟨s.toArray⟩ : ByteArray)[0]'(by rw [hszT]; exact hT0) = c := by
    have := (List.getElem?_eq_some_iff.1 hc).2
    exact this
  have hh : s.head? = some c := by rw [List.head?_eq_getElem?]; exact hc
  have hc48 : c = 48 := by rw [h48] at hh; exact (Option.some.inj hh).symm
  have d48 : ((c.toNat : Int) == 48) = true := by rw [hc48]; rfl
  have d1 : decide ((1 : Int) < (s.length : Int)) = false := decide_eq_false (by omega)
  have d1n : decide (1 < s.length) = false := decide_eq_false (by omega)
  have HOk := Lib.hid (show Bg.okT s = s.all Bg.isDig by
    have e : s = [48] := by
      cases s with
      | nil => cases hpos
      | cons a q =>
        have : q = [] := List.eq_nil_of_length_eq_zero (by simpa using h1)
        rw [this] at h48 ⊢
        simpa using h48
    rw [e]; decide)
  clear hc48 h1
  have HSv := Lib.hid (rfl : s = s)
  have HNo := Lib.hid h45
  have hc45 : c ≠ 45 := fun e => h45 (by rw [hh, e])
  have d45 : ((c.toNat : Int) == 45) = false := beq_eq_false_iff_ne.2 (fun e => hc45 (UInt8.toNat_inj.1 (by have : (45 : UInt8).toNat = 45 := rfl; omega)))
  have dp : decide ((0 : Int) < (s.length : Int)) = true := decide_eq_true (by omega)
  clear hok h45 hc45 hc hh hl
  go_enter Tryz.func48, Tryz.ntmps48
  go_wp2_with fail
  go_loopg [5, 6] s.length (fun g v i wr => ∃ m : Nat, m ≤ s.length ∧ i = .int .i64 ((m : Int) - 1) ∧ Hid (∀ b ∈ s.drop m, Bg.isDig b = true) ∧ Hid (wr.ownsRow (w.heap.size + 1) 3 1 v (s.length - m) ((backT (s.drop m)).map (Value.int .i64))) ∧ Hid (Below (w.heap.size + 1) (w.alloc (.cells #[.bool false, .slice none 0 0] 52)) wr) ∧ g = m)
  case atStart => exact ⟨s.length, Nat.le_refl _, rfl, Lib.hid (by simp), Lib.hid (by simpa [backT] using World.ownsRow_nil _ _ _ _), Lib.hid (Below.refl _ _), rfl⟩
  case round =>
    obtain ⟨m, hm, rfl, HD, HR, HW, hg⟩ := hrel
    have hN := hN0.out.below HW.out (Nat.lt_succ_self _)
    have HN := Lib.hid hN
    have hwz := HW.out.size
    rw [World.size_alloc] at hwz
    cases m with
    | zero =>
      have dE : decide ((0 : Int) ≤ ((0 : Nat) : Int) - 1) = false := by decide
      have hall : Bg.okT s = true := by rw [HOk.out, List.all_eq_true]; simpa using HD.out
      obtain ⟨z, hz, hf⟩ := Bg.itoa_okT s hall
      obtain ⟨o, c, rfl, hkc⟩ : ∃ o c, u5 = .slice o (backT s).length c ∧ (backT s).length ≤ c := by
        rw [backT_length]
        rcases HR.out.2 with ⟨rfl, h0⟩ | ⟨g, c, cur, rfl, _, _, hle, _⟩
        · exact ⟨none, 0, by rw [show s.length = 0 by omega], by omega⟩
        · exact ⟨some ⟨g, 0, none⟩, c, by simp, by omega⟩
      have hrow := HR.out
      rw [List.drop_zero] at hrow
      have hlb : s.length - 0 = (backT s).length := by rw [backT_length]; omega
      rw [hlb] at hrow
      have hint := intAt_owns hrow
      have hz2 : z = if false then -((Bg.dv s : Nat) : Int) else ((Bg.dv s : Nat) : Int) := by
        exact itoa_pos hz HNo.out
      have hS := signed_ref false o c (backT s) (Bg.dv s) z wr hint hkc (by rw [backT_length]; omega) (backT_digs (by have := HD.out; simpa using this)) (valT_back s) hz2
      have HSg := Lib.hid hS
      have HZ := Lib.hid hz
      clear hint hrow hlb hS hall hz2 hN hz
      rw [backT_length] at HSg
      rw [backT_length]
      go_wp2_with fail
      refine HSg.out.mono ?_
      rintro e w1 ⟨o1, c1, rfl, hra, hb1⟩
      have hN1 := HN.out.below hb1 HN.out.lt
      have c0 := hN1.c0
      have c1' := hN1.c1
      have f0 := hN1.fz 0
      have f1 := hN1.fz 1
      have HN1 := Lib.hid hN1
      have HRA := Lib.hid hra
      have HB1 := Lib.hid ((((Below.refl _ w).alloc (Nat.le_refl _) _).trans (HW.out.mono (Nat.le_succ _))).trans (hb1.mono (by omega)))
      clear hN1 hra hb1
      unfold rnV
      go_wp2_with fail
      refine ret_rb_ok rfl rfl rfl rfl (HN1.out.put _ _) (.inl ⟨z, o1, c1, hf, HZ.out, rfl, ⟨HRA.out.1, intAt_put_rb HN1.out HRA.out.2 _ _⟩, below_put HB1.out (Nat.le_refl _) _ _⟩)
    | succ k =>
      have dE : decide ((0 : Int) ≤ ((k + 1 : Nat) : Int) - 1) = true := decide_eq_true (by omega)
      have hlt : k < s.length := by omega
      have e1 : ((k + 1 : Nat) : Int) - 1 = (k : Int) := by omega
      obtain ⟨x, hx⟩ : ∃ x, s[k]? = some x := ⟨_, List.getElem?_eq_getElem hlt⟩
      have hget : (⟨s.toArray⟩ : ByteArray)[k]'(by rw [hszT]; exact hlt) = x := by
        have := (List.getElem?_eq_some_iff.1 hx).2
        exact this
      have hdrop : s.drop k = x :: s.drop (k + 1) := by
        rw [List.drop_eq_getElem_cons hlt, (List.getElem?_eq_some_iff.1 hx).2]
      have hmem : x ∈ s := List.mem_of_getElem? hx
      by_cases hdg : Bg.isDig x = true
      · have hdg2 := hdg
        simp only [Bg.isDig, Bool.and_eq_true, decide_eq_true_eq] at hdg2
        obtain ⟨v, hv, hv9⟩ : ∃ v, x.toNat = v + 48 ∧ v ≤ 9 := ⟨x.toNat - 48, by omega, by omega⟩
        have d1 : decide ((x.toNat : Int) < 48) = false := decide_eq_false (by omega)
        have d2 : decide ((57 : Int) < (x.toNat : Int)) = false := decide_eq_false (by omega)
        have d1n : decide (x.toNat < 48) = false := decide_eq_false (by omega)
        have d2n : decide (57 < x.toNat) = false := decide_eq_false (by omega)
        have hw1 : IntKind.u8.wrap ((x.toNat : Int) - 48) = v := by rw [show (x.toNat : Int) - 48 = (v : Int) by omega]; exact IntWalk.u8_in _ (by omega)
        have hbk : backT (s.drop k) = backT (s.drop (k + 1)) ++ [(v : Int)] := by rw [hdrop, backT_cons, show x.toNat - 48 = v by omega]
        have HBk := Lib.hid hbk
        have HD2 : Hid (∀ b ∈ s.drop k, Bg.isDig b = true) := Lib.hid (by
          rw [hdrop]
          intro b hb
          rcases List.mem_cons.1 hb with rfl | hb
          · exact hdg
          · exact HD.out b hb)
        have hln : s.length - (k + 1) + 1 = s.length - k := by omega
        have HLn := Lib.hid hln
        have hll : s.length - (k + 1) ≤ 400 := by omega
        obtain ⟨j, hj⟩ : ∃ j, s.length - (k + 1) = j := ⟨_, rfl⟩
        rw [hj] at HR hll HLn
        clear hdg hdg2 hv hdrop hmem hbk hx hln hj hN
        rw [e1]
        go_wp2_with (at_builtin; refine wpList_append_own _ rfl _ _ 50 rfl (w.heap.size + 1) 3 i0 (.int .i64 0) 1 8 Tryz.underlying50 hi hz0 hz1 hz2 rfl (by decide) _ j _ rfl (HR.out.alloc _) ⟨wr.heap.size, 0, none⟩ 1 1 [.int .i64 v] rfl rfl (cell_one_new _ _ _) (by simp [Value.oneCell']) (by show _ ≤ 9223372036854775807; omega) (by omega) (by simp; omega) ?_; intro v' w2 hown' hgrow _; have HOw := Lib.hid hown'; have HGw := Lib.hid hgrow; clear hown' hgrow)
        have HB2 : Hid (Below (w.heap.size + 1) (w.alloc (.cells #[.bool false, .slice none 0 0] 52)) w2) := Lib.hid ((HW.out.alloc hwz _).grown HGw.out (by simp; omega) (fun b e => (HR.out.lt b e).1))
        have HR2 : Hid (w2.ownsRow (w.heap.size + 1) 3 1 v' (s.length - k) ((backT (s.drop k)).map (Value.int .i64))) := Lib.hid (by rw [HBk.out, List.map_append, ← HLn.out]; exact HOw.out)
        go_roundg k
        case rel => exact ⟨k, by omega, by simp, HD2, HR2, HB2, rfl⟩
        case measure => omega
      · have hno : Bg.okT s = false := by
          rw [HOk.out, Bool.eq_false_iff]
          intro h
          exact hdg (List.all_eq_true.1 h x hmem)
        have HNk := Lib.hid hno
        have c0 := hN.c0
        have c1 := hN.c1
        have f0 := hN.fz 0
        have f1 := hN.fz 1
        have HB1 := Lib.hid (((Below.refl _ w).alloc (Nat.le_refl _) (.cells #[.bool false, .slice none 0 0] 52)).trans (HW.out.mono (Nat.le_succ _)))
        have hcs : (decide (x.toNat < 48) = true) ∨ (decide (x.toNat < 48) = false ∧ decide (57 < x.toNat) = true) := by
          by_cases h : x.toNat < 48
          · exact .inl (decide_eq_true h)
          · refine .inr ⟨decide_eq_false h, decide_eq_true ?_⟩
            have : ¬ (48 ≤ x.toNat ∧ x.toNat ≤ 57) := fun h2 => hdg (by simp only [Bg.isDig, Bool.and_eq_true, decide_eq_true_eq]; exact h2)
            omega
        clear hno hdrop hmem hx hN hdg
        rw [e1]
        rcases hcs with h | ⟨h, h2⟩
        · have g1 : decide ((x.toNat : Int) < 48) = true := decide_eq_true (by have := of_decide_eq_true h; omega)
          go_wp2_with fail
          exact ret_rb_ok rfl rfl rfl rfl (HN.out.put _ _) (.inr ⟨HNk.out, rfl, below_put HB1.out (Nat.le_refl _) _ _⟩)
        · have g1 : decide ((x.toNat : Int) < 48) = false := decide_eq_false (by have := of_decide_eq_false h; omega)
          have g2 : decide ((57 : Int) < (x.toNat : Int)) = true := decide_eq_true (by have := of_decide_eq_true h2; omega)
          go_wp2_with fail
          exact ret_rb_ok rfl rfl rfl rfl (HN.out.put _ _) (.inr ⟨HNk.out, rfl, below_put HB1.out (Nat.le_refl _) _ _⟩)

set_option maxHeartbeats 400000 in
theorem read_pos_loop (s : List UInt8) (w : World) (hpos : 0 < s.length) (h45 : s.head? ≠ some 45) (hl : s.length ≤ 1000) (hsh : s.length ≤ 400) (h48 : s.head? ≠ some 48) : Calls Tryz.prog 48 #[.string ⟨s.toArray⟩] w (ReadR s w) := by
  obtain ⟨i0, hi, hz0, hz1, hz2⟩ := info_parts info_int
  have hN0 := Lib.hid (RB.new w (.bool false) (.slice none 0 0))
  have hok := okT_parts s s (Bg.trim_other s h45)
  have hszT : (⟨s.toArray⟩ : ByteArray).size = s.length := by simp [ByteArray.size]
  have hT0 : 0 < s.length := hpos
  have d0 : ((s.length : Int) == 0) = false := beq_eq_false_iff_ne.2 (by omega)
  have d0n : (s.length == 0) = false := beq_eq_false_iff_ne.2 (by omega)
  have dl : decide ((400 : Int) < (s.length : Int)) = false := decide_eq_false (by omega)
  have dln : decide (400 < s.length) = false := decide_eq_false (by omega)
  obtain ⟨c, hc⟩ : ∃ c, s[0]? = some c := ⟨_, List.getElem?_eq_getElem hT0⟩
  have hg0 : (⟨s.toArray⟩ : ByteArray)[0]'(by rw [hszT]; exact hT0) = c := by
    have := (List.getElem?_eq_some_iff.1 hc).2
    exact this
  have hh : s.head? = some c := by rw [List.head?_eq_getElem?]; exact hc
  have hc48 : c ≠ 48 := fun e => h48 (by rw [hh, e])
  have d48 : ((c.toNat : Int) == 48) = false := beq_eq_false_iff_ne.2 (fun e => hc48 (UInt8.toNat_inj.1 (by have : (48 : UInt8).toNat = 48 := rfl; omega)))
  have HOk := Lib.hid (show Bg.okT s = s.all Bg.isDig by rw [hok, if_neg h48, decide_eq_true hsh, show s.isEmpty = false by cases s with | nil => cases hpos | cons a q => rfl]; rfl)
  clear hc48
  have HSv := Lib.hid (rfl : s = s)
  have HNo := Lib.hid h45
  have hc45 : c ≠ 45 := fun e => h45 (by rw [hh, e])
  have d45 : ((c.toNat : Int) == 45) = false := beq_eq_false_iff_ne.2 (fun e => hc45 (UInt8.toNat_inj.1 (by have : (45 : UInt8).toNat = 45 := rfl; omega)))
  have dp : decide ((0 : Int) < (s.length : Int)) = true := decide_eq_true (by omega)
  clear hok h45 hc45 hc hh hl
  go_enter Tryz.func48, Tryz.ntmps48
  go_wp2_with fail
  go_loopg [5, 6] s.length (fun g v i wr => ∃ m : Nat, m ≤ s.length ∧ i = .int .i64 ((m : Int) - 1) ∧ Hid (∀ b ∈ s.drop m, Bg.isDig b = true) ∧ Hid (wr.ownsRow (w.heap.size + 1) 3 1 v (s.length - m) ((backT (s.drop m)).map (Value.int .i64))) ∧ Hid (Below (w.heap.size + 1) (w.alloc (.cells #[.bool false, .slice none 0 0] 52)) wr) ∧ g = m)
  case atStart => exact ⟨s.length, Nat.le_refl _, rfl, Lib.hid (by simp), Lib.hid (by simpa [backT] using World.ownsRow_nil _ _ _ _), Lib.hid (Below.refl _ _), rfl⟩
  case round =>
    obtain ⟨m, hm, rfl, HD, HR, HW, hg⟩ := hrel
    have hN := hN0.out.below HW.out (Nat.lt_succ_self _)
    have HN := Lib.hid hN
    have hwz := HW.out.size
    rw [World.size_alloc] at hwz
    cases m with
    | zero =>
      have dE : decide ((0 : Int) ≤ ((0 : Nat) : Int) - 1) = false := by decide
      have hall : Bg.okT s = true := by rw [HOk.out, List.all_eq_true]; simpa using HD.out
      obtain ⟨z, hz, hf⟩ := Bg.itoa_okT s hall
      obtain ⟨o, c, rfl, hkc⟩ : ∃ o c, u5 = .slice o (backT s).length c ∧ (backT s).length ≤ c := by
        rw [backT_length]
        rcases HR.out.2 with ⟨rfl, h0⟩ | ⟨g, c, cur, rfl, _, _, hle, _⟩
        · exact ⟨none, 0, by rw [show s.length = 0 by omega], by omega⟩
        · exact ⟨some ⟨g, 0, none⟩, c, by simp, by omega⟩
      have hrow := HR.out
      rw [List.drop_zero] at hrow
      have hlb : s.length - 0 = (backT s).length := by rw [backT_length]; omega
      rw [hlb] at hrow
      have hint := intAt_owns hrow
      have hz2 : z = if false then -((Bg.dv s : Nat) : Int) else ((Bg.dv s : Nat) : Int) := by
        exact itoa_pos hz HNo.out
      have hS := signed_ref false o c (backT s) (Bg.dv s) z wr hint hkc (by rw [backT_length]; omega) (backT_digs (by have := HD.out; simpa using this)) (valT_back s) hz2
      have HSg := Lib.hid hS
      have HZ := Lib.hid hz
      clear hint hrow hlb hS hall hz2 hN hz
      rw [backT_length] at HSg
      rw [backT_length]
      go_wp2_with fail
      refine HSg.out.mono ?_
      rintro e w1 ⟨o1, c1, rfl, hra, hb1⟩
      have hN1 := HN.out.below hb1 HN.out.lt
      have c0 := hN1.c0
      have c1' := hN1.c1
      have f0 := hN1.fz 0
      have f1 := hN1.fz 1
      have HN1 := Lib.hid hN1
      have HRA := Lib.hid hra
      have HB1 := Lib.hid ((((Below.refl _ w).alloc (Nat.le_refl _) _).trans (HW.out.mono (Nat.le_succ _))).trans (hb1.mono (by omega)))
      clear hN1 hra hb1
      unfold rnV
      go_wp2_with fail
      refine ret_rb_ok rfl rfl rfl rfl (HN1.out.put _ _) (.inl ⟨z, o1, c1, hf, HZ.out, rfl, ⟨HRA.out.1, intAt_put_rb HN1.out HRA.out.2 _ _⟩, below_put HB1.out (Nat.le_refl _) _ _⟩)
    | succ k =>
      have dE : decide ((0 : Int) ≤ ((k + 1 : Nat) : Int) - 1) = true := decide_eq_true (by omega)
      have hlt : k < s.length := by omega
      have e1 : ((k + 1 : Nat) : Int) - 1 = (k : Int) := by omega
      obtain ⟨x, hx⟩ : ∃ x, s[k]? = some x := ⟨_, List.getElem?_eq_getElem hlt⟩
      have hget : (⟨s.toArray⟩ : ByteArray)[k]'(by rw [hszT]; exact hlt) = x := by
        have := (List.getElem?_eq_some_iff.1 hx).2
        exact this
      have hdrop : s.drop k = x :: s.drop (k + 1) := by
        rw [List.drop_eq_getElem_cons hlt, (List.getElem?_eq_some_iff.1 hx).2]
      have hmem : x ∈ s := List.mem_of_getElem? hx
      by_cases hdg : Bg.isDig x = true
      · have hdg2 := hdg
        simp only [Bg.isDig, Bool.and_eq_true, decide_eq_true_eq] at hdg2
        obtain ⟨v, hv, hv9⟩ : ∃ v, x.toNat = v + 48 ∧ v ≤ 9 := ⟨x.toNat - 48, by omega, by omega⟩
        have d1 : decide ((x.toNat : Int) < 48) = false := decide_eq_false (by omega)
        have d2 : decide ((57 : Int) < (x.toNat : Int)) = false := decide_eq_false (by omega)
        have d1n : decide (x.toNat < 48) = false := decide_eq_false (by omega)
        have d2n : decide (57 < x.toNat) = false := decide_eq_false (by omega)
        have hw1 : IntKind.u8.wrap ((x.toNat : Int) - 48) = v := by rw [show (x.toNat : Int) - 48 = (v : Int) by omega]; exact IntWalk.u8_in _ (by omega)
        have hbk : backT (s.drop k) = backT (s.drop (k + 1)) ++ [(v : Int)] := by rw [hdrop, backT_cons, show x.toNat - 48 = v by omega]
        have HBk := Lib.hid hbk
        have HD2 : Hid (∀ b ∈ s.drop k, Bg.isDig b = true) := Lib.hid (by
          rw [hdrop]
          intro b hb
          rcases List.mem_cons.1 hb with rfl | hb
          · exact hdg
          · exact HD.out b hb)
        have hln : s.length - (k + 1) + 1 = s.length - k := by omega
        have HLn := Lib.hid hln
        have hll : s.length - (k + 1) ≤ 400 := by omega
        obtain ⟨j, hj⟩ : ∃ j, s.length - (k + 1) = j := ⟨_, rfl⟩
        rw [hj] at HR hll HLn
        clear hdg hdg2 hv hdrop hmem hbk hx hln hj hN
        rw [e1]
        go_wp2_with (at_builtin; refine wpList_append_own _ rfl _ _ 50 rfl (w.heap.size + 1) 3 i0 (.int .i64 0) 1 8 Tryz.underlying50 hi hz0 hz1 hz2 rfl (by decide) _ j _ rfl (HR.out.alloc _) ⟨wr.heap.size, 0, none⟩ 1 1 [.int .i64 v] rfl rfl (cell_one_new _ _ _) (by simp [Value.oneCell']) (by show _ ≤ 9223372036854775807; omega) (by omega) (by simp; omega) ?_; intro v' w2 hown' hgrow _; have HOw := Lib.hid hown'; have HGw := Lib.hid hgrow; clear hown' hgrow)
        have HB2 : Hid (Below (w.heap.size + 1) (w.alloc (.cells #[.bool false, .slice none 0 0] 52)) w2) := Lib.hid ((HW.out.alloc hwz _).grown HGw.out (by simp; omega) (fun b e => (HR.out.lt b e).1))
        have HR2 : Hid (w2.ownsRow (w.heap.size + 1) 3 1 v' (s.length - k) ((backT (s.drop k)).map (Value.int .i64))) := Lib.hid (by rw [HBk.out, List.map_append, ← HLn.out]; exact HOw.out)
        go_roundg k
        case rel => exact ⟨k, by omega, by simp, HD2, HR2, HB2, rfl⟩
        case measure => omega
      · have hno : Bg.okT s = false := by
          rw [HOk.out, Bool.eq_false_iff]
          intro h
          exact hdg (List.all_eq_true.1 h x hmem)
        have HNk := Lib.hid hno
        have c0 := hN.c0
        have c1 := hN.c1
        have f0 := hN.fz 0
        have f1 := hN.fz 1
        have HB1 := Lib.hid (((Below.refl _ w).alloc (Nat.le_refl _) (.cells #[.bool false, .slice none 0 0] 52)).trans (HW.out.mono (Nat.le_succ _)))
        have hcs : (decide (x.toNat < 48) = true) ∨ (decide (x.toNat < 48) = false ∧ decide (57 < x.toNat) = true) := by
          by_cases h : x.toNat < 48
          · exact .inl (decide_eq_true h)
          · refine .inr ⟨decide_eq_false h, decide_eq_true ?_⟩
            have : ¬ (48 ≤ x.toNat ∧ x.toNat ≤ 57) := fun h2 => hdg (by simp only [Bg.isDig, Bool.and_eq_true, decide_eq_true_eq]; exact h2)
            omega
        clear hno hdrop hmem hx hN hdg
        rw [e1]
        rcases hcs with h | ⟨h, h2⟩
        · have g1 : decide ((x.toNat : Int) < 48) = true := decide_eq_true (by have := of_decide_eq_true h; omega)
          go_wp2_with fail
          exact ret_rb_ok rfl rfl rfl rfl (HN.out.put _ _) (.inr ⟨HNk.out, rfl, below_put HB1.out (Nat.le_refl _) _ _⟩)
        · have g1 : decide ((x.toNat : Int) < 48) = false := decide_eq_false (by have := of_decide_eq_false h; omega)
          have g2 : decide ((57 : Int) < (x.toNat : Int)) = true := decide_eq_true (by have := of_decide_eq_true h2; omega)
          go_wp2_with fail
          exact ret_rb_ok rfl rfl rfl rfl (HN.out.put _ _) (.inr ⟨HNk.out, rfl, below_put HB1.out (Nat.le_refl _) _ _⟩)

/-- read of any text. -/
theorem readRef_c (s : List UInt8) (hl : s.length ≤ 1000) (w : World) : Calls Tryz.prog 48 #[.string ⟨s.toArray⟩] w (ReadR s w) := by
  by_cases h0 : s = []
  · subst h0; exact read_empty w
  · have hpos : 0 < s.length := List.length_pos_iff.2 h0
    by_cases h45 : s.head? = some 45
    · obtain ⟨r, rfl⟩ : ∃ r, s = 45 :: r := by
        cases s with
        | nil => exact absurd rfl h0
        | cons a q => exact ⟨q, by simpa using h45⟩
      by_cases hr : r = []
      · exact read_neg_nil _ r w rfl hl hr
      · have hrp : 0 < r.length := List.length_pos_iff.2 hr
        by_cases hlg : 400 < r.length
        · exact read_neg_long _ r w rfl hl hlg
        · by_cases h48 : r.head? = some 48
          · by_cases h1 : 1 < r.length
            · exact read_neg_nought0 _ r w rfl hl hrp (by omega) h48 h1
            · exact read_neg_nought1 _ r w rfl hl hrp (by omega) h48 (by omega)
          · exact read_neg_loop _ r w rfl hl hrp (by omega) h48
    · by_cases hlg : 400 < s.length
      · exact read_pos_long s w hpos h45 hl hlg
      · by_cases h48 : s.head? = some 48
        · by_cases h1 : 1 < s.length
          · exact read_pos_nought s w hpos h45 hl (by omega) h48 h1
          · exact read_pos_zero s w hpos h45 hl (by omega) h48 (by omega)
        · exact read_pos_loop s w hpos h45 hl (by omega) h48
end Go.Proofs.YthbfbpbppjkoeaaGreatDoor
/- Contract of text of package proteusref03. Conditions: those in the statements. -/
namespace Go.Proofs.YthbfbpbppjkoeaaGreatDoor
open Go.RowKit Go.Shelf
set_option maxRecDepth 100000

/-- Digits as they are written. -/
def decT (l : List Int) : List UInt8 := l.reverse.map fun d => UInt8.ofNat (48 + d.toNat)
theorem decT_cons (x : Int) (l : List Int) : decT (x :: l) = decT l ++ [UInt8.ofNat (48 + x.toNat)] := by simp [decT]
theorem decT_tens (n : Nat) (h : n ≠ 0) : decT (Rf.tens n) = Lib.decDigits n := by
  induction n using Nat.strongRecOn with
  | _ n ih =>
    rw [Rf.tens_pos h, decT_cons]
    by_cases h1 : n < 10
    · rw [show n / 10 = 0 by omega, Rf.tens_zero, Lib.decDigits, dif_pos h1, Int.toNat_natCast, Nat.mod_eq_of_lt h1]
      rfl
    · rw [ih (n / 10) (by omega) (by omega), Int.toNat_natCast]
      rw [show Lib.decDigits n = Lib.decDigits (n / 10) ++ [UInt8.ofNat (48 + n % 10)] by rw [Lib.decDigits, dif_neg h1]]
theorem decT_length (l : List Int) : (decT l).length = l.length := by simp [decT]
theorem ext_digit (q : Nat) (h : q ≤ 9) : (⟨#[48, 49, 50, 51, 52, 53, 54, 55, 56, 57]⟩ : ByteArray).extract q (q + 1) = ⟨#[UInt8.ofNat (48 + q)]⟩ := by
  have key : ∀ k : Fin 10, (⟨#[48, 49, 50, 51, 52, 53, 54, 55, 56, 57]⟩ : ByteArray).extract k.val (k.val + 1) = ⟨#[UInt8.ofNat (48 + k.val)]⟩ := by decide
  exact key ⟨q, by omega⟩

set_option maxHeartbeats 400000 in
theorem text_ref (z : Int) (o : Option Addr) (c : Nat) (w : World) (h : RAt w o c z) (hl : (Rf.tens z.natAbs).length ≤ 1000) :
    Calls Tryz.prog 52 #[rnV z o c] w fun e w' => e = .returned (.string ⟨(Lib.itoa z).toArray⟩) ∧ Below w.heap.size w w' := by
  obtain ⟨b0, hb0⟩ : ∃ b, decide (z < 0) = b := ⟨_, rfl⟩
  unfold rnV
  by_cases hz : z = 0
  · subst hz
    have e1 : (Rf.tens (0 : Int).natAbs).length = 0 := by rw [show (0 : Int).natAbs = 0 by rfl, Rf.tens_zero]; rfl
    rw [e1]
    have HI0 := Lib.hid (show Lib.itoa 0 = [48] by unfold Lib.itoa; rw [if_neg (by decide)]; exact Bg.decDigits_zero)
    clear hl h hb0
    go_enter Tryz.func52, Tryz.ntmps52
    go_wp2_with fail
    go_ret
    exact ⟨by rw [HI0.out]; rfl, (Below.refl _ _).alloc (Nat.le_refl _) _⟩
  · have hz0 : z.natAbs ≠ 0 := by omega
    have hpos : 0 < (Rf.tens z.natAbs).length := by have := mt Rf.tens_length_zero.1 hz0; omega
    have hfin : Lib.itoa z = (if b0 = true then [45] else []) ++ decT (Rf.tens z.natAbs) := by
      rw [decT_tens _ hz0, ← hb0]
      unfold Lib.itoa
      by_cases hneg : z < 0
      · rw [if_pos hneg, if_pos (decide_eq_true hneg)]; rfl
      · rw [if_neg hneg, if_neg (by simp [hneg]), show z.toNat = z.natAbs by omega]; rfl
    have hds : ∀ x ∈ Rf.tens z.natAbs, 0 ≤ x ∧ x < 10 := fun x hx => Rf.tens_mem hx
    rw [hb0]
    have HIt := Lib.hid hfin
    have HI := Lib.hid h.2
    have HDs := Lib.hid hds
    clear hfin h hds hb0 hz hz0
    generalize Rf.tens z.natAbs = l at *
    have hN0 := Lib.hid (RB.new w (.bool b0) (.slice o l.length c))
    have d0 : ((l.length : Int) == 0) = false := beq_eq_false_iff_ne.2 (by omega)
    have d0n : (l.length == 0) = false := beq_eq_false_iff_ne.2 (by omega)
    go_enter Tryz.func52, Tryz.ntmps52
    cases b0 with
    | false =>
      go_wp2_with fail
      go_loopg [3, 4] l.length (fun g u i wr => ∃ (m : Nat) (T : List UInt8), m ≤ l.length ∧ i = .int .i64 ((m : Int) - 1) ∧ u = .string ⟨T.toArray⟩ ∧ T.length ≤ 1 + (l.length - m) ∧ Hid (T = ([] : List UInt8) ++ decT (l.drop m)) ∧ Hid (Below (w.heap.size + 1) (w.alloc (.cells #[.bool false, .slice o l.length c] 52)) wr) ∧ g = m)
      case atStart => exact ⟨l.length, ([] : List UInt8), Nat.le_refl _, rfl, rfl, by simp, Lib.hid (by simp [decT]), Lib.hid (Below.refl _ _), rfl⟩
      case round =>
        obtain ⟨m, T, hm, rfl, rfl, hTl, HT, HW, hg⟩ := hrel
        have hN := hN0.out.below HW.out (Nat.lt_succ_self _)
        cases m with
        | zero =>
          have dE : decide ((0 : Int) ≤ ((0 : Nat) : Int) - 1) = false := by decide
          have hres : Lib.itoa z = T := by rw [HIt.out, HT.out, List.drop_zero]; rfl
          have HRes := Lib.hid hres
          clear hres hN
          go_wp2_with fail
          go_ret
          exact ⟨by rw [HRes.out]; rfl, ((Below.refl _ w).alloc (Nat.le_refl _) _).trans (HW.out.mono (Nat.le_succ _))⟩
        | succ k =>
          have dE : decide ((0 : Int) ≤ ((k + 1 : Nat) : Int) - 1) = true := decide_eq_true (by omega)
          have hlt : k < l.length := by omega
          have e1 : ((k + 1 : Nat) : Int) - 1 = (k : Int) := by omega
          have hIw := HI.out.mono (((Below.refl _ w).alloc (Nat.le_refl _) (.cells #[.bool false, .slice o l.length c] 52)).trans (HW.out.mono (Nat.le_succ _)))
          obtain ⟨b, hob, hb, hcell⟩ := hIw.get hlt
          have hx := HDs.out l[k] (List.getElem_mem hlt)
          have hdrop : l.drop k = l[k] :: l.drop (k + 1) := List.drop_eq_getElem_cons hlt
          generalize l[k] = x at *
          obtain ⟨q, rfl⟩ := Int.eq_ofNat_of_zero_le hx.1
          have hq9 : q ≤ 9 := by omega
          have hext := ext_digit q hq9
          have hT2 := (show T ++ [UInt8.ofNat (48 + q)] = ([] : List UInt8) ++ decT (l.drop k) by rw [hdrop, decT_cons, HT.out, List.append_assoc, Int.toNat_natCast])
          generalize UInt8.ofNat (48 + q) = y at hext hT2
          have HT2 := Lib.hid hT2
          have c0 := hN.c0
          have c1 := hN.c1
          have w1 : IntKind.i64.wrap ((q : Int) + 1) = (q : Int) + 1 := IntWalk.i64_in _ (by omega)
          have hq0 : (0 : Int) ≤ (q : Int) := by omega
          have hq1 : (q : Int) ≤ 9 := by omega
          have hTl2 : T.length ≤ 1001 := by omega
          have HOb := Lib.hid hob
          clear hIw hx hdrop hN hT2
          subst hob
          rw [e1]
          go_wp2_with fail
          go_quiet (fail)
          go_wp2_with fail
          go_roundg k
          case rel => exact ⟨k, T ++ [y], by omega, by simp, by rw [ByteArray.mk_append_mk], by simp; omega, HT2, Lib.hid (below_dn HW.out _), rfl⟩
          case measure => omega
    | true =>
      go_wp2_with fail
      go_loopg [3, 4] l.length (fun g u i wr => ∃ (m : Nat) (T : List UInt8), m ≤ l.length ∧ i = .int .i64 ((m : Int) - 1) ∧ u = .string ⟨T.toArray⟩ ∧ T.length ≤ 1 + (l.length - m) ∧ Hid (T = ([45] : List UInt8) ++ decT (l.drop m)) ∧ Hid (Below (w.heap.size + 1) (w.alloc (.cells #[.bool true, .slice o l.length c] 52)) wr) ∧ g = m)
      case atStart => exact ⟨l.length, ([45] : List UInt8), Nat.le_refl _, rfl, rfl, by simp, Lib.hid (by simp [decT]), Lib.hid (Below.refl _ _), rfl⟩
      case round =>
        obtain ⟨m, T, hm, rfl, rfl, hTl, HT, HW, hg⟩ := hrel
        have hN := hN0.out.below HW.out (Nat.lt_succ_self _)
        cases m with
        | zero =>
          have dE : decide ((0 : Int) ≤ ((0 : Nat) : Int) - 1) = false := by decide
          have hres : Lib.itoa z = T := by rw [HIt.out, HT.out, List.drop_zero]; rfl
          have HRes := Lib.hid hres
          clear hres hN
          go_wp2_with fail
          go_ret
          exact ⟨by rw [HRes.out]; rfl, ((Below.refl _ w).alloc (Nat.le_refl _) _).trans (HW.out.mono (Nat.le_succ _))⟩
        | succ k =>
          have dE : decide ((0 : Int) ≤ ((k + 1 : Nat) : Int) - 1) = true := decide_eq_true (by omega)
          have hlt : k < l.length := by omega
          have e1 : ((k + 1 : Nat) : Int) - 1 = (k : Int) := by omega
          have hIw := HI.out.mono (((Below.refl _ w).alloc (Nat.le_refl _) (.cells #[.bool true, .slice o l.length c] 52)).trans (HW.out.mono (Nat.le_succ _)))
          obtain ⟨b, hob, hb, hcell⟩ := hIw.get hlt
          have hx := HDs.out l[k] (List.getElem_mem hlt)
          have hdrop : l.drop k = l[k] :: l.drop (k + 1) := List.drop_eq_getElem_cons hlt
          generalize l[k] = x at *
          obtain ⟨q, rfl⟩ := Int.eq_ofNat_of_zero_le hx.1
          have hq9 : q ≤ 9 := by omega
          have hext := ext_digit q hq9
          have hT2 := (show T ++ [UInt8.ofNat (48 + q)] = ([45] : List UInt8) ++ decT (l.drop k) by rw [hdrop, decT_cons, HT.out, List.append_assoc, Int.toNat_natCast])
          generalize UInt8.ofNat (48 + q) = y at hext hT2
          have HT2 := Lib.hid hT2
          have c0 := hN.c0
          have c1 := hN.c1
          have w1 : IntKind.i64.wrap ((q : Int) + 1) = (q : Int) + 1 := IntWalk.i64_in _ (by omega)
          have hq0 : (0 : Int) ≤ (q : Int) := by omega
          have hq1 : (q : Int) ≤ 9 := by omega
          have hTl2 : T.length ≤ 1001 := by omega
          have HOb := Lib.hid hob
          clear hIw hx hdrop hN hT2
          subst hob
          rw [e1]
          go_wp2_with fail
          go_quiet (fail)
          go_wp2_with fail
          go_roundg k
          case rel => exact ⟨k, T ++ [y], by omega, by simp, by rw [ByteArray.mk_append_mk], by simp; omega, HT2, Lib.hid (below_dn HW.out _), rfl⟩
          case measure => omega
end Go.Proofs.YthbfbpbppjkoeaaGreatDoor
/- Contracts of order and below of package proteusref03. Conditions: those in the statements. -/
namespace Go.Proofs.YthbfbpbppjkoeaaGreatDoor
open Go.RowKit Go.Shelf
set_option maxRecDepth 100000
set_option linter.unusedVariables false

/-- How two numbers are ordered. -/
def cmpN (a b : Nat) : Int := if a < b then -1 else if b < a then 1 else 0
theorem Rf.valT_lt {l : List Int} (h : Rf.Digs l) : Rf.valT l < 10 ^ l.length := by
  induction l with
  | nil => simp [Rf.valT]
  | cons x l ih =>
    have h1 := h x (List.mem_cons_self ..)
    have h2 := ih (fun y hy => h y (List.mem_cons_of_mem _ hy))
    rw [Rf.valT, List.length_cons, Int.pow_succ]
    omega
/-- Where the digits above differ first, the greater digit tells. -/
theorem Rf.top (la lb : List Int) (ha : Rf.Digs la) (hb : Rf.Digs lb) (k : Nat) (hka : k < la.length) (hkb : k < lb.length) (hl : la.length = lb.length) (hd : la.drop (k + 1) = lb.drop (k + 1)) (hlt : la[k] < lb[k]) : Rf.valT la < Rf.valT lb := by
  have e1 := List.take_append_drop k la
  have e2 := List.take_append_drop k lb
  rw [← e1, ← e2, Rf.valT_append, Rf.valT_append, List.drop_eq_getElem_cons hka, List.drop_eq_getElem_cons hkb, hd]
  rw [List.length_take, List.length_take, Nat.min_eq_left (by omega), Nat.min_eq_left (by omega)]
  have h1 := Rf.valT_lt (l := la.take k) (fun x hx => ha x (List.mem_of_mem_take hx))
  have h2 := Rf.valT_nonneg (l := lb.take k) (fun x hx => hb x (List.mem_of_mem_take hx))
  rw [List.length_take, Nat.min_eq_left (by omega)] at h1
  simp only [Rf.valT]
  generalize Rf.valT (lb.drop (k + 1)) = r at *
  generalize la[k] = x at *
  generalize lb[k] = y at *
  have h3 : (10 : Int) ^ k * (x + 10 * r) + 10 ^ k ≤ 10 ^ k * (y + 10 * r) := by
    have : (10 : Int) ^ k * (x + 10 * r) + 10 ^ k = 10 ^ k * (x + 1 + 10 * r) := by rw [Int.mul_add, Int.mul_add, Int.mul_add, Int.mul_one]; omega
    rw [this]
    exact Int.mul_le_mul_of_nonneg_left (by omega) (Int.pow_nonneg (by decide))
  omega
theorem cmp_len {a b : Nat} (h : (Rf.tens a).length < (Rf.tens b).length) : a < b := by
  rcases Nat.lt_or_ge a b with h1 | h1
  · exact h1
  · exfalso
    have hb0 : b ≠ 0 := fun e => by rw [e, Rf.tens_zero] at h; simp at h
    have ha0 : a ≠ 0 := by omega
    rw [Rf.tens_length a ha0, Rf.tens_length b hb0] at h
    have := Bg.nDigits_le (u := b) (k := Lib.nDigits a) (Nat.lt_of_le_of_lt h1 (Lib.lt_pow_nDigits a)) (Lib.nDigits_pos a)
    omega
theorem cmp_top (a b k : Nat) (hka : k < (Rf.tens a).length) (hkb : k < (Rf.tens b).length) (hl : (Rf.tens a).length = (Rf.tens b).length) (hd : (Rf.tens a).drop (k + 1) = (Rf.tens b).drop (k + 1)) (hlt : (Rf.tens a)[k] < (Rf.tens b)[k]) : a < b := by
  have := Rf.top _ _ (Rf.digs_tens a) (Rf.digs_tens b) k hka hkb hl hd hlt
  rw [Rf.valT_tens, Rf.valT_tens] at this
  omega
theorem cmp_same (a b : Nat) (h : Rf.tens a = Rf.tens b) : a = b := by
  have := congrArg Rf.valT h
  rw [Rf.valT_tens, Rf.valT_tens] at this
  omega

set_option maxHeartbeats 400000 in
theorem order_ref (a b : Nat) (o o' : Option Addr) (c c' : Nat) (w : World) (h : IntAt w o (Rf.tens a)) (h' : IntAt w o' (Rf.tens b)) (hl : (Rf.tens a).length ≤ 100000) (hl' : (Rf.tens b).length ≤ 100000) :
    Calls Tryz.prog 73 #[.slice o (Rf.tens a).length c, .slice o' (Rf.tens b).length c'] w fun e w' => e = .returned (.int .i64 (cmpN a b)) ∧ Below w.heap.size w w' := by
  have HTop := Lib.hid (fun k h1 h2 h3 h4 h5 => cmp_top a b k h1 h2 h3 h4 h5)
  have HTop' := Lib.hid (fun k h1 h2 h3 h4 h5 => cmp_top b a k h1 h2 h3 h4 h5)
  have HSame := Lib.hid (cmp_same a b)
  have HI := Lib.hid h
  have HI' := Lib.hid h'
  have HL1 := Lib.hid (@cmp_len a b)
  have HL2 := Lib.hid (@cmp_len b a)
  clear h h'
  generalize Rf.tens a = la at *
  generalize Rf.tens b = lb at *
  by_cases hlen : la.length = lb.length
  · have HLen := Lib.hid hlen
    rw [← hlen] at hl' ⊢
    have dne : ((la.length : Int) != (la.length : Int)) = false := by simp
    clear hlen
    go_enter Tryz.func73, Tryz.ntmps73
    go_wp2_with fail
    go_loopg [5] la.length (fun g i wr => ∃ m : Nat, m ≤ la.length ∧ i = .int .i64 ((m : Int) - 1) ∧ Hid (la.drop m = lb.drop m) ∧ Hid (Below w.heap.size w wr) ∧ g = m)
    case atStart => exact ⟨la.length, Nat.le_refl _, rfl, Lib.hid (by rw [List.drop_eq_nil_of_le (Nat.le_refl _), List.drop_eq_nil_of_le (by rw [← HLen.out]; exact Nat.le_refl _)]), Lib.hid (Below.refl _ _), rfl⟩
    case round =>
      obtain ⟨m, hm, rfl, HD, HW, hg⟩ := hrel
      cases m with
      | zero =>
        have dE : decide ((0 : Int) ≤ ((0 : Nat) : Int) - 1) = false := by decide
        have hab : cmpN a b = 0 := by
          have := HSame.out (by simpa using HD.out)
          unfold cmpN; rw [this]; simp
        have HAB := Lib.hid hab
        clear hab
        go_wp2_with fail
        go_ret
        exact ⟨by rw [HAB.out]; rfl, HW.out⟩
      | succ k =>
        have dE : decide ((0 : Int) ≤ ((k + 1 : Nat) : Int) - 1) = true := decide_eq_true (by omega)
        have e1 : ((k + 1 : Nat) : Int) - 1 = (k : Int) := by omega
        have hlt : k < la.length := by omega
        have hlt' : k < lb.length := by rw [← HLen.out]; exact hlt
        have hx := (HI.out.mono HW.out).get hlt
        have hy := (HI'.out.mono HW.out).get hlt'
        obtain ⟨bx, hox, hbx, hcx⟩ := hx
        obtain ⟨by', hoy, hby, hcy⟩ := hy
        have hT := HTop.out k hlt hlt' HLen.out HD.out
        have hT' := HTop'.out k hlt' hlt HLen.out.symm HD.out.symm
        have hda : la.drop k = la[k] :: la.drop (k + 1) := List.drop_eq_getElem_cons hlt
        have hdb : lb.drop k = lb[k] :: lb.drop (k + 1) := List.drop_eq_getElem_cons hlt'
        generalize la[k] = x at *
        generalize lb[k] = y at *
        subst hox hoy
        have HHx := Lib.hid hT
        have HHy := Lib.hid hT'
        have HDa := Lib.hid hda
        have HDb := Lib.hid hdb
        clear hT hT' hda hdb
        rcases Int.lt_trichotomy x y with hxy | hxy | hxy
        · have d1 : decide (x < y) = true := decide_eq_true hxy
          have hab : cmpN a b = -1 := by unfold cmpN; rw [if_pos (HHx.out hxy)]
          have HAB := Lib.hid hab
          clear hab
          rw [e1]
          go_wp2_with fail
          go_quiet (fail)
          go_wp2_with fail
          go_ret
          exact ⟨by rw [HAB.out]; rfl, below_dn HW.out _⟩
        · subst hxy
          have HD2 := Lib.hid (show la.drop k = lb.drop k by rw [HDa.out, HDb.out, HD.out])
          rw [e1]
          go_wp2_with fail
          go_quiet (fail)
          go_wp2_with fail
          go_quiet (fail)
          go_wp2_with fail
          go_roundg k
          case rel => exact ⟨k, by omega, by simp, HD2, Lib.hid (by first | exact below_dn HW.out _ | exact below_dn (below_dn HW.out _) _), rfl⟩
          case measure => omega
        · have d1 : decide (x < y) = false := decide_eq_false (by omega)
          have d2 : decide (y < x) = true := decide_eq_true hxy
          have hab : cmpN a b = 1 := by unfold cmpN; have := HHy.out hxy; rw [if_neg (by omega), if_pos this]
          have HAB := Lib.hid hab
          clear hab
          rw [e1]
          go_wp2_with fail
          go_quiet (fail)
          go_wp2_with fail
          go_quiet (fail)
          go_wp2_with fail
          go_ret
          exact ⟨by rw [HAB.out]; rfl, by first | exact below_dn HW.out _ | exact below_dn (below_dn HW.out _) _⟩
  · have dne : ((la.length : Int) != (lb.length : Int)) = true := by rw [bne_iff_ne]; omega
    have dnen : (la.length != lb.length) = true := by rw [bne_iff_ne]; omega
    by_cases hc : la.length < lb.length
    · have d1 : decide ((la.length : Int) < (lb.length : Int)) = true := decide_eq_true (by omega)
      have hab : cmpN a b = -1 := by unfold cmpN; rw [if_pos (HL1.out hc)]
      have HAB := Lib.hid hab
      clear hab
      go_enter Tryz.func73, Tryz.ntmps73
      go_wp2_with fail
      go_ret
      exact ⟨by rw [HAB.out]; rfl, Below.refl _ _⟩
    · have d1 : decide ((la.length : Int) < (lb.length : Int)) = false := decide_eq_false (by omega)
      have d1n : decide (la.length < lb.length) = false := decide_eq_false hc
      have hab : cmpN a b = 1 := by unfold cmpN; have := HL2.out (by omega); rw [if_neg (by omega), if_pos this]
      have HAB := Lib.hid hab
      clear hab
      go_enter Tryz.func73, Tryz.ntmps73
      go_wp2_with fail
      go_ret
      exact ⟨by rw [HAB.out]; rfl, Below.refl _ _⟩

theorem below_two_rb (w : World) (u v u' v' : Value) : Below w.heap.size w ((w.alloc (.cells #[u, v] 52)).alloc (.cells #[u', v'] 52)) := ((Below.refl _ w).alloc (Nat.le_refl _) _).alloc (by simp) _
set_option maxHeartbeats 400000 in
theorem below_ref (x y : Int) (o o' : Option Addr) (c c' : Nat) (w : World) (h : RAt w o c x) (h' : RAt w o' c' y) (hl : (Rf.tens x.natAbs).length ≤ 100000) (hl' : (Rf.tens y.natAbs).length ≤ 100000) :
    Calls Tryz.prog 63 #[rnV x o c, rnV y o' c'] w fun e w' => e = .returned (.bool (decide (x < y))) ∧ Below w.heap.size w w' := by
  have HB := Lib.hid (fun u v u' v' => below_two_rb w u v u' v')
  have HO := Lib.hid (fun (W : World) (hb : Below w.heap.size w W) => order_ref x.natAbs y.natAbs o o' c c' W (h.2.mono hb) (h'.2.mono hb) hl hl')
  obtain ⟨bx, hbx⟩ : ∃ b, decide (x < 0) = b := ⟨_, rfl⟩
  obtain ⟨b', hby⟩ : ∃ b, decide (y < 0) = b := ⟨_, rfl⟩
  obtain ⟨r, hr⟩ : ∃ r, cmpN x.natAbs y.natAbs = r := ⟨_, rfl⟩
  have hcs : decide (x < y) = if bx = b' then (if bx = true then decide (0 < r) else decide (r < 0)) else bx := by
    rw [← hr, ← hbx, ← hby]
    unfold cmpN
    by_cases h1 : x < 0 <;> by_cases h2 : y < 0 <;> by_cases h3 : x.natAbs < y.natAbs <;> by_cases h4 : y.natAbs < x.natAbs <;> simp [h1, h2, h3, h4] <;> omega
  have HC := Lib.hid hcs
  rw [hr] at HO
  unfold rnV
  rw [hbx, hby]
  clear h h' hl hl' hbx hby hr hcs
  generalize (Rf.tens x.natAbs).length = n at *
  generalize (Rf.tens y.natAbs).length = n' at *
  cases bx <;> cases b'
  all_goals
    go_enter Tryz.func63, Tryz.ntmps63
    go_wp2_with fail
  · refine (HO.out _ (HB.out _ _ _ _)).mono ?_
    rintro e w1 ⟨rfl, hb1⟩
    have HB1 := Lib.hid ((HB.out (.bool false) (.slice o n c) (.bool false) (.slice o' n' c')).trans (hb1.mono (HB.out (.bool false) (.slice o n c) (.bool false) (.slice o' n' c')).size))
    clear hb1
    go_wp2_with fail
    go_ret
    exact ⟨by rw [HC.out]; rfl, HB1.out⟩
  · go_ret
    exact ⟨by rw [HC.out]; rfl, HB.out _ _ _ _⟩
  · go_ret
    exact ⟨by rw [HC.out]; rfl, HB.out _ _ _ _⟩
  · refine (HO.out _ (HB.out _ _ _ _)).mono ?_
    rintro e w1 ⟨rfl, hb1⟩
    have HB1 := Lib.hid ((HB.out (.bool true) (.slice o n c) (.bool true) (.slice o' n' c')).trans (hb1.mono (HB.out (.bool true) (.slice o n c) (.bool true) (.slice o' n' c')).size))
    clear hb1
    go_wp2_with fail
    go_ret
    exact ⟨by rw [HC.out]; rfl, HB1.out⟩
end Go.Proofs.YthbfbpbppjkoeaaGreatDoor
/- Contract of value of package proteusref03. Conditions: those in the statements. -/
namespace Go.Proofs.YthbfbpbppjkoeaaGreatDoor
open Go.RowKit Go.Shelf
set_option maxRecDepth 100000
set_option linter.unusedVariables false
set_option exponentiation.threshold 500

theorem few_tens (z : Int) : Few z ↔ (Rf.tens z.natAbs).length ≤ 400 := by
  unfold Few
  by_cases h : z.natAbs = 0
  · rw [h, Rf.tens_zero, Lib.nDigits_small (by decide)]; simp
  · rw [Rf.tens_length _ h]
theorem tens_digit (n k : Nat) (hk : k < (Rf.tens n).length) : (Rf.tens n)[k] = ((n / 10 ^ k % 10 : Nat) : Int) := by
  induction k generalizing n with
  | zero =>
    by_cases h : n = 0
    · subst h; rw [show (Rf.tens 0).length = 0 by rw [Rf.tens_zero]; rfl] at hk; cases hk
    · simp only [Rf.tens_pos h, List.getElem_cons_zero, Nat.pow_zero, Nat.div_one]
  | succ k ih =>
    by_cases h : n = 0
    · subst h; rw [show (Rf.tens 0).length = 0 by rw [Rf.tens_zero]; rfl] at hk; cases hk
    · have h2 : k < (Rf.tens (n / 10)).length := by rw [Rf.tens_pos h, List.length_cons] at hk; omega
      simp only [Rf.tens_pos h, List.getElem_cons_succ]
      rw [ih (n / 10) h2, Nat.div_div_eq_div_mul, Nat.pow_succ, Nat.mul_comm 10]
theorem tens_above (n : Nat) : n / 10 ^ (Rf.tens n).length = 0 := by
  apply Nat.div_eq_of_lt
  have h := Rf.valT_lt (Rf.digs_tens n)
  rw [Rf.valT_tens] at h
  have : ((10 ^ (Rf.tens n).length : Nat) : Int) = (10 : Int) ^ (Rf.tens n).length := by rw [Int.natCast_pow]; rfl
  omega
/-- What the first digits make. -/
def upTo (z : Int) (m : Nat) : Int := if z < 0 then -((z.natAbs / 10 ^ m : Nat) : Int) else ((z.natAbs / 10 ^ m : Nat) : Int)
theorem upTo_end (z : Int) : upTo z 0 = z := by unfold upTo; rw [Nat.pow_zero, Nat.div_one]; split <;> omega
theorem upTo_start (z : Int) : upTo z (Rf.tens z.natAbs).length = 0 := by unfold upTo; rw [tens_above]; simp
theorem upTo_step (z : Int) (k : Nat) : upTo z k = if z < 0 then 10 * upTo z (k + 1) - ((z.natAbs / 10 ^ k % 10 : Nat) : Int) else 10 * upTo z (k + 1) + ((z.natAbs / 10 ^ k % 10 : Nat) : Int) := by
  unfold upTo
  rw [Nat.pow_succ, ← Nat.div_div_eq_div_mul]
  generalize z.natAbs / 10 ^ k = q
  split <;> omega
theorem upTo_le (z : Int) (k : Nat) (h : In64Z z) : In64Z (upTo z k) ∧ In64Z (10 * upTo z (k + 1)) := by
  have h1 := Nat.div_le_self z.natAbs (10 ^ k)
  unfold upTo
  rw [Nat.pow_succ, ← Nat.div_div_eq_div_mul]
  generalize z.natAbs / 10 ^ k = q at *
  unfold In64Z at *
  split <;> omega

theorem boxesRV (w : World) (u v : Value) : RB ((w.alloc (.cells #[u, v] 52)).alloc (.cells #[.int .i64 0, .int .i64 0, .string ⟨#[]⟩] 23)) w.heap.size u v ∧ VB ((w.alloc (.cells #[u, v] 52)).alloc (.cells #[.int .i64 0, .int .i64 0, .string ⟨#[]⟩] 23)) (w.heap.size + 1) (.int .i64 0) (.int .i64 0) (.string ⟨#[]⟩) ∧ Below w.heap.size w ((w.alloc (.cells #[u, v] 52)).alloc (.cells #[.int .i64 0, .int .i64 0, .string ⟨#[]⟩] 23)) := by
  refine ⟨(RB.new w u v).alloc _, ?_, ((Below.refl _ w).alloc (Nat.le_refl _) _).alloc (by simp) _⟩
  have := VB.new (w.alloc (.cells #[u, v] 52)) (.int .i64 0) (.int .i64 0) (.string ⟨#[]⟩)
  rwa [World.size_alloc] at this
set_option maxHeartbeats 400000 in
theorem value_lim (z : Int) (o : Option Addr) (c : Nat) (w : World) (hf : ¬ Few z) (hl : (Rf.tens z.natAbs).length ≤ 100000) :
    Calls Tryz.prog 49 #[rnV z o c] w fun e w' => e = .returned (.tuple #[valV 0 0 [], .int .i64 2]) ∧ Below w.heap.size w w' := by
  have hgt : 400 < (Rf.tens z.natAbs).length := by have := mt (few_tens z).2 hf; omega
  obtain ⟨b0, hb0⟩ : ∃ b, decide (z < 0) = b := ⟨_, rfl⟩
  unfold rnV valV
  rw [hb0]
  clear hf hb0
  generalize (Rf.tens z.natAbs).length = n at *
  have d1 : decide ((400 : Int) < (n : Int)) = true := decide_eq_true (by omega)
  have HBx := Lib.hid (boxesRV w (.bool b0) (.slice o n c))
  go_enter Tryz.func49, Tryz.ntmps49
  go_wp2_with fail
  exact ret_val_err rfl rfl rfl rfl HBx.out.2.1 ⟨rfl, HBx.out.2.2⟩
theorem small_lit (n k : Int) (hk : n = k) (hn : In64Z n) (w : World) : Calls Tryz.prog 68 #[.int .i64 k] w (RetR n w) := by
  subst hk; exact small_ref n hn w
theorem len64 {z : Int} (h : In64Z z) : (Rf.tens z.natAbs).length ≤ 100000 := by
  refine Nat.le_trans (Rf.tens_len_le _) (Nat.le_trans (Bg.nDigits_le (k := 20) ?_ (by decide)) (by decide))
  have : (10 : Nat) ^ 20 = 100000000000000000000 := by decide
  unfold In64Z at h; omega

set_option maxHeartbeats 1000000 in
theorem value_low (z : Int) (o : Option Addr) (c : Nat) (w : World) (h : RAt w o c z) (hf : Few z) (hz : z < -9223372036854775808) :
    Calls Tryz.prog 49 #[rnV z o c] w fun e w' => e = .returned (.tuple #[valV 2 0 (Lib.itoa z), .int .i64 0]) ∧ Below w.heap.size w w' := by
  have hlen : (Rf.tens z.natAbs).length ≤ 400 := (few_tens z).1 hf
  obtain ⟨lo, hlo⟩ : ∃ n : Int, n = -9223372036854775808 := ⟨_, rfl⟩
  obtain ⟨hi, hhi⟩ : ∃ n : Int, n = 9223372036854775807 := ⟨_, rfl⟩
  have HS1 := Lib.hid (fun W => small_lit lo _ hlo (by rw [hlo]; exact ⟨by decide, by decide⟩) W)
  have HS2 := Lib.hid (fun W => small_lit hi _ hhi (by rw [hhi]; exact ⟨by decide, by decide⟩) W)
  have hl1 : (Rf.tens lo.natAbs).length ≤ 100000 := len64 (by rw [hlo]; exact ⟨by decide, by decide⟩)
  have hl2 : (Rf.tens hi.natAbs).length ≤ 100000 := len64 (by rw [hhi]; exact ⟨by decide, by decide⟩)
  have hd1 : decide (z < lo) = true := decide_eq_true (by omega)
  have hd2 : decide (hi < z) = false := decide_eq_false (by omega)
  have HB1 := Lib.hid (fun (W : World) (hb : Below w.heap.size w W) (o1 : Option Addr) (c1 : Nat) (h1 : RAt W o1 c1 lo) => below_ref z lo o o1 c c1 W (h.mono hb) h1 (by omega) hl1)
  have HB2 := Lib.hid (fun (W : World) (hb : Below w.heap.size w W) (o1 : Option Addr) (c1 : Nat) (h1 : RAt W o1 c1 hi) => below_ref hi z o1 o c1 c W h1 (h.mono hb) hl2 (by omega))
  have HRA := Lib.hid h
  rw [hd1] at HB1
  rw [hd2] at HB2
  clear hl1 hl2 hlo hhi hd1 hd2 h
  unfold rnV at *
  have d4 : decide ((400 : Int) < ((Rf.tens z.natAbs).length : Int)) = false := decide_eq_false (by omega)
  have d4n : decide (400 < (Rf.tens z.natAbs).length) = false := decide_eq_false (by omega)
  have HBx := Lib.hid (boxesRV w (.bool (decide (z < 0))) (.slice o (Rf.tens z.natAbs).length c))
  go_enter Tryz.func49, Tryz.ntmps49
  go_wp2_with fail
  refine (HS1.out _).mono ?_
  rintro e w1 ⟨o1, c1, rfl, hr1, hb1⟩
  have HX1 := Lib.hid (HBx.out.1.below hb1 HBx.out.1.lt)
  have HV1 := Lib.hid (HBx.out.2.1.below hb1 HBx.out.2.1.lt)
  have H1 := Lib.hid (HBx.out.2.2.trans (hb1.mono HBx.out.2.2.size))
  have HR1 := Lib.hid hr1
  clear hb1 hr1
  unfold rnV
  have HL0 := Lib.hid (RB.new w1 (.bool (decide (lo < 0))) (.slice o1 (Rf.tens lo.natAbs).length c1))
  have hba : Below w1.heap.size w1 (w1.alloc (.cells #[.bool (decide (lo < 0)), .slice o1 (Rf.tens lo.natAbs).length c1] 52)) := (Below.refl _ _).alloc (Nat.le_refl _) _
  have HX2 := Lib.hid (HX1.out.below hba HX1.out.lt)
  have HV2 := Lib.hid (HV1.out.below hba HV1.out.lt)
  have H2 := Lib.hid (H1.out.trans (hba.mono H1.out.size))
  have HR2 := Lib.hid (HR1.out.mono hba)
  clear hba HX1 HV1 H1 HR1
  go_wp2_with fail
  refine (HS2.out _).mono ?_
  rintro e w2 ⟨o2, c2, rfl, hr2, hb2⟩
  have HX3 := Lib.hid (HX2.out.below hb2 HX2.out.lt)
  have HV3 := Lib.hid (HV2.out.below hb2 HV2.out.lt)
  have HL3 := Lib.hid (HL0.out.below hb2 HL0.out.lt)
  have H3 := Lib.hid (H2.out.trans (hb2.mono H2.out.size))
  have HR3 := Lib.hid (HR2.out.mono hb2)
  have HQ3 := Lib.hid hr2
  clear hb2 hr2 HX2 HV2 HL0 H2 HR2
  unfold rnV
  have hbb : Below w2.heap.size w2 (w2.alloc (.cells #[.bool (decide (hi < 0)), .slice o2 (Rf.tens hi.natAbs).length c2] 52)) := (Below.refl _ _).alloc (Nat.le_refl _) _
  have HM4 := Lib.hid (RB.new w2 (.bool (decide (hi < 0))) (.slice o2 (Rf.tens hi.natAbs).length c2))
  have HX4 := Lib.hid (HX3.out.below hbb HX3.out.lt)
  have HV4 := Lib.hid (HV3.out.below hbb HV3.out.lt)
  have HL4 := Lib.hid (HL3.out.below hbb HL3.out.lt)
  have H4 := Lib.hid (H3.out.trans (hbb.mono H3.out.size))
  have HR4 := Lib.hid (HR3.out.mono hbb)
  have HQ4 := Lib.hid (HQ3.out.mono hbb)
  clear hbb HX3 HV3 HL3 H3 HR3 HQ3
  have x0 := HX4.out.c0
  have x1 := HX4.out.c1
  have l0 := HL4.out.c0
  have l1 := HL4.out.c1
  go_wp2_with fail
  have hc := HB1.out _ H4.out o1 c1 HR4.out
  refine hc.mono ?_
  rintro e w5 ⟨rfl, hb5⟩
  clear hc x0 x1 l0 l1
  have HX5 := Lib.hid (HX4.out.below hb5 HX4.out.lt)
  have HV5 := Lib.hid (HV4.out.below hb5 HV4.out.lt)
  have HM5 := Lib.hid (HM4.out.below hb5 HM4.out.lt)
  have H5 := Lib.hid (H4.out.trans (hb5.mono H4.out.size))
  have HQ5 := Lib.hid (HQ4.out.mono hb5)
  clear hb5 HX4 HV4 HL4 HM4 H4 HR4 HQ4
  have x0 := HX5.out.c0
  have x1 := HX5.out.c1
  go_wp2_with fail
  have hc := text_ref z o c w5 (HRA.out.mono H5.out) (by omega)
  unfold rnV at hc
  refine hc.mono ?_
  rintro e w7 ⟨rfl, hb7⟩
  clear hc x0 x1
  have HV7 := Lib.hid (HV5.out.below hb7 HV5.out.lt)
  have H7 := Lib.hid (H5.out.trans (hb7.mono H5.out.size))
  clear hb7
  have v0 := HV7.out.c0
  have v1 := HV7.out.c1
  have v2 := HV7.out.c2
  have f0 := HV7.out.fz 0
  have f1 := HV7.out.fz 1
  have f2 := HV7.out.fz 2
  go_wp2_with fail
  exact ret_val_err rfl rfl rfl rfl (HV7.out.put _ _ _) ⟨rfl, below_put3 H7.out (Nat.le_succ _) _ _ _⟩

set_option maxHeartbeats 1000000 in
theorem value_high (z : Int) (o : Option Addr) (c : Nat) (w : World) (h : RAt w o c z) (hf : Few z) (hz : 9223372036854775807 < z) :
    Calls Tryz.prog 49 #[rnV z o c] w fun e w' => e = .returned (.tuple #[valV 2 0 (Lib.itoa z), .int .i64 0]) ∧ Below w.heap.size w w' := by
  have hlen : (Rf.tens z.natAbs).length ≤ 400 := (few_tens z).1 hf
  obtain ⟨lo, hlo⟩ : ∃ n : Int, n = -9223372036854775808 := ⟨_, rfl⟩
  obtain ⟨hi, hhi⟩ : ∃ n : Int, n = 9223372036854775807 := ⟨_, rfl⟩
  have HS1 := Lib.hid (fun W => small_lit lo _ hlo (by rw [hlo]; exact ⟨by decide, by decide⟩) W)
  have HS2 := Lib.hid (fun W => small_lit hi _ hhi (by rw [hhi]; exact ⟨by decide, by decide⟩) W)
  have hl1 : (Rf.tens lo.natAbs).length ≤ 100000 := len64 (by rw [hlo]; exact ⟨by decide, by decide⟩)
  have hl2 : (Rf.tens hi.natAbs).length ≤ 100000 := len64 (by rw [hhi]; exact ⟨by decide, by decide⟩)
  have hd1 : decide (z < lo) = false := decide_eq_false (by omega)
  have hd2 : decide (hi < z) = true := decide_eq_true (by omega)
  have HB1 := Lib.hid (fun (W : World) (hb : Below w.heap.size w W) (o1 : Option Addr) (c1 : Nat) (h1 : RAt W o1 c1 lo) => below_ref z lo o o1 c c1 W (h.mono hb) h1 (by omega) hl1)
  have HB2 := Lib.hid (fun (W : World) (hb : Below w.heap.size w W) (o1 : Option Addr) (c1 : Nat) (h1 : RAt W o1 c1 hi) => below_ref hi z o1 o c1 c W h1 (h.mono hb) hl2 (by omega))
  have HRA := Lib.hid h
  rw [hd1] at HB1
  rw [hd2] at HB2
  clear hl1 hl2 hlo hhi hd1 hd2 h
  unfold rnV at *
  have d4 : decide ((400 : Int) < ((Rf.tens z.natAbs).length : Int)) = false := decide_eq_false (by omega)
  have d4n : decide (400 < (Rf.tens z.natAbs).length) = false := decide_eq_false (by omega)
  have HBx := Lib.hid (boxesRV w (.bool (decide (z < 0))) (.slice o (Rf.tens z.natAbs).length c))
  go_enter Tryz.func49, Tryz.ntmps49
  go_wp2_with fail
  refine (HS1.out _).mono ?_
  rintro e w1 ⟨o1, c1, rfl, hr1, hb1⟩
  have HX1 := Lib.hid (HBx.out.1.below hb1 HBx.out.1.lt)
  have HV1 := Lib.hid (HBx.out.2.1.below hb1 HBx.out.2.1.lt)
  have H1 := Lib.hid (HBx.out.2.2.trans (hb1.mono HBx.out.2.2.size))
  have HR1 := Lib.hid hr1
  clear hb1 hr1
  unfold rnV
  have HL0 := Lib.hid (RB.new w1 (.bool (decide (lo < 0))) (.slice o1 (Rf.tens lo.natAbs).length c1))
  have hba : Below w1.heap.size w1 (w1.alloc (.cells #[.bool (decide (lo < 0)), .slice o1 (Rf.tens lo.natAbs).length c1] 52)) := (Below.refl _ _).alloc (Nat.le_refl _) _
  have HX2 := Lib.hid (HX1.out.below hba HX1.out.lt)
  have HV2 := Lib.hid (HV1.out.below hba HV1.out.lt)
  have H2 := Lib.hid (H1.out.trans (hba.mono H1.out.size))
  have HR2 := Lib.hid (HR1.out.mono hba)
  clear hba HX1 HV1 H1 HR1
  go_wp2_with fail
  refine (HS2.out _).mono ?_
  rintro e w2 ⟨o2, c2, rfl, hr2, hb2⟩
  have HX3 := Lib.hid (HX2.out.below hb2 HX2.out.lt)
  have HV3 := Lib.hid (HV2.out.below hb2 HV2.out.lt)
  have HL3 := Lib.hid (HL0.out.below hb2 HL0.out.lt)
  have H3 := Lib.hid (H2.out.trans (hb2.mono H2.out.size))
  have HR3 := Lib.hid (HR2.out.mono hb2)
  have HQ3 := Lib.hid hr2
  clear hb2 hr2 HX2 HV2 HL0 H2 HR2
  unfold rnV
  have hbb : Below w2.heap.size w2 (w2.alloc (.cells #[.bool (decide (hi < 0)), .slice o2 (Rf.tens hi.natAbs).length c2] 52)) := (Below.refl _ _).alloc (Nat.le_refl _) _
  have HM4 := Lib.hid (RB.new w2 (.bool (decide (hi < 0))) (.slice o2 (Rf.tens hi.natAbs).length c2))
  have HX4 := Lib.hid (HX3.out.below hbb HX3.out.lt)
  have HV4 := Lib.hid (HV3.out.below hbb HV3.out.lt)
  have HL4 := Lib.hid (HL3.out.below hbb HL3.out.lt)
  have H4 := Lib.hid (H3.out.trans (hbb.mono H3.out.size))
  have HR4 := Lib.hid (HR3.out.mono hbb)
  have HQ4 := Lib.hid (HQ3.out.mono hbb)
  clear hbb HX3 HV3 HL3 H3 HR3 HQ3
  have x0 := HX4.out.c0
  have x1 := HX4.out.c1
  have l0 := HL4.out.c0
  have l1 := HL4.out.c1
  go_wp2_with fail
  have hc := HB1.out _ H4.out o1 c1 HR4.out
  refine hc.mono ?_
  rintro e w5 ⟨rfl, hb5⟩
  clear hc x0 x1 l0 l1
  have HX5 := Lib.hid (HX4.out.below hb5 HX4.out.lt)
  have HV5 := Lib.hid (HV4.out.below hb5 HV4.out.lt)
  have HM5 := Lib.hid (HM4.out.below hb5 HM4.out.lt)
  have H5 := Lib.hid (H4.out.trans (hb5.mono H4.out.size))
  have HQ5 := Lib.hid (HQ4.out.mono hb5)
  clear hb5 HX4 HV4 HL4 HM4 H4 HR4 HQ4
  have x0 := HX5.out.c0
  have x1 := HX5.out.c1
  have m0 := HM5.out.c0
  have m1 := HM5.out.c1
  go_wp2_with fail
  have hc := HB2.out _ H5.out o2 c2 HQ5.out
  refine hc.mono ?_
  rintro e w6 ⟨rfl, hb6⟩
  clear hc x0 x1 m0 m1
  have HX6 := Lib.hid (HX5.out.below hb6 HX5.out.lt)
  have HV6 := Lib.hid (HV5.out.below hb6 HV5.out.lt)
  have H6 := Lib.hid (H5.out.trans (hb6.mono H5.out.size))
  clear hb6 HX5 HV5 HM5 H5 HQ5
  have x0 := HX6.out.c0
  have x1 := HX6.out.c1
  go_wp2_with fail
  have hc := text_ref z o c w6 (HRA.out.mono H6.out) (by omega)
  unfold rnV at hc
  refine hc.mono ?_
  rintro e w7 ⟨rfl, hb7⟩
  clear hc x0 x1
  have HV7 := Lib.hid (HV6.out.below hb7 HV6.out.lt)
  have H7 := Lib.hid (H6.out.trans (hb7.mono H6.out.size))
  clear hb7
  have v0 := HV7.out.c0
  have v1 := HV7.out.c1
  have v2 := HV7.out.c2
  have f0 := HV7.out.fz 0
  have f1 := HV7.out.fz 1
  have f2 := HV7.out.fz 2
  go_wp2_with fail
  exact ret_val_err rfl rfl rfl rfl (HV7.out.put _ _ _) ⟨rfl, below_put3 H7.out (Nat.le_succ _) _ _ _⟩

set_option maxHeartbeats 1000000 in
theorem value_in (z : Int) (o : Option Addr) (c : Nat) (w : World) (h : RAt w o c z) (hf : Few z) (hz : In64Z z) :
    Calls Tryz.prog 49 #[rnV z o c] w fun e w' => e = .returned (.tuple #[valV 1 z [], .int .i64 0]) ∧ Below w.heap.size w w' := by
  have hlen : (Rf.tens z.natAbs).length ≤ 400 := (few_tens z).1 hf
  obtain ⟨lo, hlo⟩ : ∃ n : Int, n = -9223372036854775808 := ⟨_, rfl⟩
  obtain ⟨hi, hhi⟩ : ∃ n : Int, n = 9223372036854775807 := ⟨_, rfl⟩
  have HS1 := Lib.hid (fun W => small_lit lo _ hlo (by rw [hlo]; exact ⟨by decide, by decide⟩) W)
  have HS2 := Lib.hid (fun W => small_lit hi _ hhi (by rw [hhi]; exact ⟨by decide, by decide⟩) W)
  have hl1 : (Rf.tens lo.natAbs).length ≤ 100000 := len64 (by rw [hlo]; exact ⟨by decide, by decide⟩)
  have hl2 : (Rf.tens hi.natAbs).length ≤ 100000 := len64 (by rw [hhi]; exact ⟨by decide, by decide⟩)
  have hd1 : decide (z < lo) = false := decide_eq_false (by have := hz.1; omega)
  have hd2 : decide (hi < z) = false := decide_eq_false (by have := hz.2; omega)
  have HB1 := Lib.hid (fun (W : World) (hb : Below w.heap.size w W) (o1 : Option Addr) (c1 : Nat) (h1 : RAt W o1 c1 lo) => below_ref z lo o o1 c c1 W (h.mono hb) h1 (by omega) hl1)
  have HB2 := Lib.hid (fun (W : World) (hb : Below w.heap.size w W) (o1 : Option Addr) (c1 : Nat) (h1 : RAt W o1 c1 hi) => below_ref hi z o1 o c1 c W h1 (h.mono hb) hl2 (by omega))
  have HRA := Lib.hid h
  rw [hd1] at HB1
  rw [hd2] at HB2
  clear hl1 hl2 hlo hhi hd1 hd2 h
  unfold rnV at *
  have d4 : decide ((400 : Int) < ((Rf.tens z.natAbs).length : Int)) = false := decide_eq_false (by omega)
  have d4n : decide (400 < (Rf.tens z.natAbs).length) = false := decide_eq_false (by omega)
  have HBx := Lib.hid (boxesRV w (.bool (decide (z < 0))) (.slice o (Rf.tens z.natAbs).length c))
  go_enter Tryz.func49, Tryz.ntmps49
  go_wp2_with fail
  refine (HS1.out _).mono ?_
  rintro e w1 ⟨o1, c1, rfl, hr1, hb1⟩
  have HX1 := Lib.hid (HBx.out.1.below hb1 HBx.out.1.lt)
  have HV1 := Lib.hid (HBx.out.2.1.below hb1 HBx.out.2.1.lt)
  have H1 := Lib.hid (HBx.out.2.2.trans (hb1.mono HBx.out.2.2.size))
  have HR1 := Lib.hid hr1
  clear hb1 hr1
  unfold rnV
  have HL0 := Lib.hid (RB.new w1 (.bool (decide (lo < 0))) (.slice o1 (Rf.tens lo.natAbs).length c1))
  have hba : Below w1.heap.size w1 (w1.alloc (.cells #[.bool (decide (lo < 0)), .slice o1 (Rf.tens lo.natAbs).length c1] 52)) := (Below.refl _ _).alloc (Nat.le_refl _) _
  have HX2 := Lib.hid (HX1.out.below hba HX1.out.lt)
  have HV2 := Lib.hid (HV1.out.below hba HV1.out.lt)
  have H2 := Lib.hid (H1.out.trans (hba.mono H1.out.size))
  have HR2 := Lib.hid (HR1.out.mono hba)
  clear hba HX1 HV1 H1 HR1
  go_wp2_with fail
  refine (HS2.out _).mono ?_
  rintro e w2 ⟨o2, c2, rfl, hr2, hb2⟩
  have HX3 := Lib.hid (HX2.out.below hb2 HX2.out.lt)
  have HV3 := Lib.hid (HV2.out.below hb2 HV2.out.lt)
  have HL3 := Lib.hid (HL0.out.below hb2 HL0.out.lt)
  have H3 := Lib.hid (H2.out.trans (hb2.mono H2.out.size))
  have HR3 := Lib.hid (HR2.out.mono hb2)
  have HQ3 := Lib.hid hr2
  clear hb2 hr2 HX2 HV2 HL0 H2 HR2
  unfold rnV
  have hbb : Below w2.heap.size w2 (w2.alloc (.cells #[.bool (decide (hi < 0)), .slice o2 (Rf.tens hi.natAbs).length c2] 52)) := (Below.refl _ _).alloc (Nat.le_refl _) _
  have HM4 := Lib.hid (RB.new w2 (.bool (decide (hi < 0))) (.slice o2 (Rf.tens hi.natAbs).length c2))
  have HX4 := Lib.hid (HX3.out.below hbb HX3.out.lt)
  have HV4 := Lib.hid (HV3.out.below hbb HV3.out.lt)
  have HL4 := Lib.hid (HL3.out.below hbb HL3.out.lt)
  have H4 := Lib.hid (H3.out.trans (hbb.mono H3.out.size))
  have HR4 := Lib.hid (HR3.out.mono hbb)
  have HQ4 := Lib.hid (HQ3.out.mono hbb)
  clear hbb HX3 HV3 HL3 H3 HR3 HQ3
  have x0 := HX4.out.c0
  have x1 := HX4.out.c1
  have l0 := HL4.out.c0
  have l1 := HL4.out.c1
  go_wp2_with fail
  have hc := HB1.out _ H4.out o1 c1 HR4.out
  refine hc.mono ?_
  rintro e w5 ⟨rfl, hb5⟩
  clear hc x0 x1 l0 l1
  have HX5 := Lib.hid (HX4.out.below hb5 HX4.out.lt)
  have HV5 := Lib.hid (HV4.out.below hb5 HV4.out.lt)
  have HM5 := Lib.hid (HM4.out.below hb5 HM4.out.lt)
  have H5 := Lib.hid (H4.out.trans (hb5.mono H4.out.size))
  have HQ5 := Lib.hid (HQ4.out.mono hb5)
  clear hb5 HX4 HV4 HL4 HM4 H4 HR4 HQ4
  have x0 := HX5.out.c0
  have x1 := HX5.out.c1
  have m0 := HM5.out.c0
  have m1 := HM5.out.c1
  go_wp2_with fail
  have hc := HB2.out _ H5.out o2 c2 HQ5.out
  refine hc.mono ?_
  rintro e w6 ⟨rfl, hb6⟩
  clear hc x0 x1 m0 m1
  have HX6 := Lib.hid (HX5.out.below hb6 HX5.out.lt)
  have HV6 := Lib.hid (HV5.out.below hb6 HV5.out.lt)
  have H6 := Lib.hid (H5.out.trans (hb6.mono H5.out.size))
  clear hb6 HX5 HV5 HM5 H5 HQ5
  have HZ := Lib.hid hz
  clear hz
  by_cases hneg : z < 0
  · skip
    have dz : decide (z < 0) = true := decide_eq_true hneg
    have HN := Lib.hid hneg
    clear hneg
    have x0 := HX6.out.c0
    have x1 := HX6.out.c1
    rw [dz] at x0
    go_wp2_with fail
    go_loopg [6, 7] (Rf.tens z.natAbs).length (fun g n i wr => ∃ (m : Nat) (v : Int), m ≤ (Rf.tens z.natAbs).length ∧ i = .int .i64 ((m : Int) - 1) ∧ n = .int .i64 v ∧ Hid (v = upTo z m) ∧ w6 = wr ∧ g = m)
    case atStart => exact ⟨_, 0, Nat.le_refl _, rfl, rfl, Lib.hid (upTo_start z).symm, rfl, rfl⟩
    case round =>
      obtain ⟨m, v, hm, rfl, rfl, HV, rfl, hg⟩ := hrel
      cases m with
      | zero =>
        have dE : decide ((0 : Int) ≤ ((0 : Nat) : Int) - 1) = false := by decide
        have hv : v = z := by rw [HV.out, upTo_end]
        have HVz := Lib.hid hv
        clear hv x0 x1
        have v0 := HV6.out.c0
        have v1 := HV6.out.c1
        have v2 := HV6.out.c2
        have f0 := HV6.out.fz 0
        have f1 := HV6.out.fz 1
        have f2 := HV6.out.fz 2
        go_wp2_with fail
        refine ret_val_err rfl rfl rfl rfl (HV6.out.put _ _ _) ⟨?_, below_put3 H6.out (Nat.le_succ _) _ _ _⟩
        rw [HVz.out]; rfl
      | succ k =>
        have dE : decide ((0 : Int) ≤ ((k + 1 : Nat) : Int) - 1) = true := decide_eq_true (by omega)
        have e1 : ((k + 1 : Nat) : Int) - 1 = (k : Int) := by omega
        have hlt : k < (Rf.tens z.natAbs).length := by omega
        obtain ⟨b, hob, hb, hcell⟩ := (HRA.out.mono H6.out).2.get hlt
        rw [tens_digit] at hcell
        have hst := upTo_step z k
        have hle := upTo_le z k HZ.out
        rw [if_pos HN.out, ← HV.out] at hst
        rw [← HV.out] at hle
        rw [hst] at hle
        obtain ⟨q, hq⟩ : ∃ q, z.natAbs / 10 ^ k % 10 = q := ⟨_, rfl⟩
        have hq9 : q ≤ 9 := by omega
        rw [hq] at hcell hst hle
        obtain ⟨⟨l1, l2⟩, l3, l4⟩ := hle
        have HSt := Lib.hid hst
        have HRB := Lib.hid HRA.out
        have hq0 : (0 : Int) ≤ (q : Int) := by omega
        have hq1 : (q : Int) ≤ 9 := by omega
        clear hst hq
        subst hob
        rw [e1]
        go_wp2_with fail
        go_roundg k
        case rel => exact ⟨k, 10 * v - (q : Int), by omega, by simp, rfl, Lib.hid HSt.out.symm, rfl, rfl⟩
        case measure => omega
  · skip
    have dz : decide (z < 0) = false := decide_eq_false hneg
    have HN := Lib.hid hneg
    clear hneg
    have x0 := HX6.out.c0
    have x1 := HX6.out.c1
    rw [dz] at x0
    go_wp2_with fail
    go_loopg [6, 7] (Rf.tens z.natAbs).length (fun g n i wr => ∃ (m : Nat) (v : Int), m ≤ (Rf.tens z.natAbs).length ∧ i = .int .i64 ((m : Int) - 1) ∧ n = .int .i64 v ∧ Hid (v = upTo z m) ∧ w6 = wr ∧ g = m)
    case atStart => exact ⟨_, 0, Nat.le_refl _, rfl, rfl, Lib.hid (upTo_start z).symm, rfl, rfl⟩
    case round =>
      obtain ⟨m, v, hm, rfl, rfl, HV, rfl, hg⟩ := hrel
      cases m with
      | zero =>
        have dE : decide ((0 : Int) ≤ ((0 : Nat) : Int) - 1) = false := by decide
        have hv : v = z := by rw [HV.out, upTo_end]
        have HVz := Lib.hid hv
        clear hv x0 x1
        have v0 := HV6.out.c0
        have v1 := HV6.out.c1
        have v2 := HV6.out.c2
        have f0 := HV6.out.fz 0
        have f1 := HV6.out.fz 1
        have f2 := HV6.out.fz 2
        go_wp2_with fail
        refine ret_val_err rfl rfl rfl rfl (HV6.out.put _ _ _) ⟨?_, below_put3 H6.out (Nat.le_succ _) _ _ _⟩
        rw [HVz.out]; rfl
      | succ k =>
        have dE : decide ((0 : Int) ≤ ((k + 1 : Nat) : Int) - 1) = true := decide_eq_true (by omega)
        have e1 : ((k + 1 : Nat) : Int) - 1 = (k : Int) := by omega
        have hlt : k < (Rf.tens z.natAbs).length := by omega
        obtain ⟨b, hob, hb, hcell⟩ := (HRA.out.mono H6.out).2.get hlt
        rw [tens_digit] at hcell
        have hst := upTo_step z k
        have hle := upTo_le z k HZ.out
        rw [if_neg (by have := HN.out; omega), ← HV.out] at hst
        rw [← HV.out] at hle
        rw [hst] at hle
        obtain ⟨q, hq⟩ : ∃ q, z.natAbs / 10 ^ k % 10 = q := ⟨_, rfl⟩
        have hq9 : q ≤ 9 := by omega
        rw [hq] at hcell hst hle
        obtain ⟨⟨l1, l2⟩, l3, l4⟩ := hle
        have HSt := Lib.hid hst
        have HRB := Lib.hid HRA.out
        have hq0 : (0 : Int) ≤ (q : Int) := by omega
        have hq1 : (q : Int) ≤ 9 := by omega
        clear hst hq
        subst hob
        rw [e1]
        go_wp2_with fail
        go_roundg k
        case rel => exact ⟨k, 10 * v + (q : Int), by omega, by simp, rfl, Lib.hid HSt.out.symm, rfl, rfl⟩
        case measure => omega


theorem value_ref (z : Int) (o : Option Addr) (c : Nat) (w : World) (h : RAt w o c z) (hl : (Rf.tens z.natAbs).length ≤ 100000) :
    Calls Tryz.prog 49 #[rnV z o c] w (RetLim z w) := by
  by_cases hf : Few z
  · by_cases h64 : In64Z z
    · exact (value_in z o c w h hf h64).mono fun e w' hr => RetLim.mk (by rw [hr.1]; unfold retLimV; rw [if_pos hf]; unfold canonV; rw [if_pos h64]) hr.2
    · by_cases hlow : z < -9223372036854775808
      · exact (value_low z o c w h hf hlow).mono fun e w' hr => RetLim.mk (by rw [hr.1]; unfold retLimV; rw [if_pos hf]; unfold canonV; rw [if_neg h64]) hr.2
      · exact (value_high z o c w h hf (by unfold In64Z at h64; omega)).mono fun e w' hr => RetLim.mk (by rw [hr.1]; unfold retLimV; rw [if_pos hf]; unfold canonV; rw [if_neg h64]) hr.2
  · exact (value_lim z o c w hf hl).mono fun e w' hr => RetLim.mk (by rw [hr.1]; unfold retLimV; rw [if_neg hf]) hr.2
end Go.Proofs.YthbfbpbppjkoeaaGreatDoor
/- Contracts of of, Check, Of, Text, Digits of package proteusref03. Conditions: those in the statements. -/
namespace Go.Proofs.YthbfbpbppjkoeaaGreatDoor
open Go.RowKit Go.Shelf
set_option maxRecDepth 100000
set_option linter.unusedVariables false
set_option exponentiation.threshold 500

theorem few_len {z : Int} (h : Few z) : (Rf.tens z.natAbs).length ≤ 100000 := by have := (few_tens z).1 h; omega
theorem boxesVR (w : World) (u v x : Value) : VB ((w.alloc (.cells #[u, v, x] 23)).alloc (.cells #[.bool false, .slice none 0 0] 52)) w.heap.size u v x ∧ RB ((w.alloc (.cells #[u, v, x] 23)).alloc (.cells #[.bool false, .slice none 0 0] 52)) (w.heap.size + 1) (.bool false) (.slice none 0 0) ∧ Below w.heap.size w ((w.alloc (.cells #[u, v, x] 23)).alloc (.cells #[.bool false, .slice none 0 0] 52)) := by
  refine ⟨(VB.new w u v x).alloc _, ?_, ((Below.refl _ w).alloc (Nat.le_refl _) _).alloc (by simp) _⟩
  have := RB.new (w.alloc (.cells #[u, v, x] 23)) (.bool false) (.slice none 0 0)
  rwa [World.size_alloc] at this
/-- What of answers of a number, and of what is none. -/
def OfOk (z : Int) (w : World) (e : Ending) (w' : World) : Prop := ∃ o c, e = .returned (.tuple #[rnV z o c, .bool true]) ∧ RAt w' o c z ∧ Below w.heap.size w w'
def OfNo (w : World) (e : Ending) (w' : World) : Prop := ∃ b o n c, e = .returned (.tuple #[.agg #[.bool b, .slice o n c], .bool false]) ∧ Below w.heap.size w w'

set_option maxHeartbeats 400000 in
theorem of_small (K N : Int) (T : List UInt8) (w : World) (hK : K = 1) (hN : In64Z N) (hT : T = []) :
    Calls Tryz.prog 51 #[valV K N T] w (OfOk N w) := by
  have HBx := Lib.hid (boxesVR w (.int .i64 K) (.int .i64 N) (.string ⟨T.toArray⟩))
  subst hK hT
  have HS := Lib.hid (fun W => small_ref N hN W)
  unfold valV
  go_enter Tryz.func51, Tryz.ntmps51
  go_wp2_with fail
  refine (HS.out _).mono ?_
  rintro e w1 ⟨o1, c1, rfl, hr1, hb1⟩
  have hR := HBx.out.2.1.below hb1 HBx.out.2.1.lt
  have H1 := Lib.hid (HBx.out.2.2.trans (hb1.mono HBx.out.2.2.size))
  have c0 := hR.c0
  have c1' := hR.c1
  have f0 := hR.fz 0
  have f1 := hR.fz 1
  have HR := Lib.hid hR
  have HA := Lib.hid hr1
  clear hR hb1 hr1
  unfold rnV
  go_wp2_with fail
  exact ret_rb_ok rfl rfl rfl rfl (HR.out.put _ _) ⟨o1, c1, rfl, ⟨HA.out.1, intAt_put_rb HR.out HA.out.2 _ _⟩, below_put H1.out (Nat.le_succ _) _ _⟩

set_option maxHeartbeats 400000 in
theorem of_no1 (K N : Int) (T : List UInt8) (w : World) (hK : K = 1) (hT : T ≠ []) :
    Calls Tryz.prog 51 #[valV K N T] w (OfNo w) := by
  have HBx := Lib.hid (boxesVR w (.int .i64 K) (.int .i64 N) (.string ⟨T.toArray⟩))
  subst hK
  obtain ⟨a, r, rfl⟩ : ∃ a r, T = a :: r := by
    cases T with
    | nil => exact absurd rfl hT
    | cons a r => exact ⟨a, r, rfl⟩
  clear hT
  unfold valV
  go_enter Tryz.func51, Tryz.ntmps51
  go_wp2_with fail
  exact ret_rb_ok rfl rfl rfl rfl HBx.out.2.1 ⟨_, _, _, _, rfl, HBx.out.2.2⟩

set_option maxHeartbeats 400000 in
theorem of_no2 (K N : Int) (T : List UInt8) (w : World) (hK : K ≠ 1) (hK2 : K ≠ 2) :
    Calls Tryz.prog 51 #[valV K N T] w (OfNo w) := by
  have HBx := Lib.hid (boxesVR w (.int .i64 K) (.int .i64 N) (.string ⟨T.toArray⟩))
  have k1 : (K == 1) = false := beq_eq_false_iff_ne.2 hK
  have k2 : (K != 2) = true := by rw [bne_iff_ne]; exact hK2
  clear hK hK2
  unfold valV
  go_enter Tryz.func51, Tryz.ntmps51
  go_wp2_with fail
  exact ret_rb_ok rfl rfl rfl rfl HBx.out.2.1 ⟨_, _, _, _, rfl, HBx.out.2.2⟩

set_option maxHeartbeats 400000 in
theorem of_no3 (K N : Int) (T : List UInt8) (w : World) (hK : K = 2) (hN : N ≠ 0) :
    Calls Tryz.prog 51 #[valV K N T] w (OfNo w) := by
  have HBx := Lib.hid (boxesVR w (.int .i64 K) (.int .i64 N) (.string ⟨T.toArray⟩))
  subst hK
  have k2 : (N != 0) = true := by rw [bne_iff_ne]; exact hN
  unfold valV
  go_enter Tryz.func51, Tryz.ntmps51
  go_wp2_with fail
  exact ret_rb_ok rfl rfl rfl rfl HBx.out.2.1 ⟨_, _, _, _, rfl, HBx.out.2.2⟩

set_option maxHeartbeats 400000 in
theorem of_no4 (K N : Int) (T : List UInt8) (w : World) (hK : K = 2) (hN : N = 0) (hT : T.length ≤ 1000) (hno : Bg.okT T = false) :
    Calls Tryz.prog 51 #[valV K N T] w (OfNo w) := by
  have HBx := Lib.hid (boxesVR w (.int .i64 K) (.int .i64 N) (.string ⟨T.toArray⟩))
  subst hK hN
  have HRd := Lib.hid (fun W => readRef_c T hT W)
  have HNo := Lib.hid hno
  clear hno
  unfold valV
  go_enter Tryz.func51, Tryz.ntmps51
  go_wp2_with fail
  refine (HRd.out _).mono ?_
  rintro e w1 hrd
  rcases hrd with ⟨z, o1, c1, hf, hz, -⟩ | ⟨_, rfl, hb1⟩
  · exfalso
    have := Bg.okT_itoa z hf
    rw [← hz, HNo.out] at this
    cases this
  · have hR := HBx.out.2.1.below hb1 HBx.out.2.1.lt
    have H1 := Lib.hid (HBx.out.2.2.trans (hb1.mono HBx.out.2.2.size))
    have hR2 := hR.alloc (.cells #[.bool false, .slice none 0 0] 52)
    have H2 := Lib.hid (H1.out.alloc H1.out.size (.cells #[.bool false, .slice none 0 0] 52))
    have c0 := hR2.c0
    have c1 := hR2.c1
    have f0 := hR2.fz 0
    have f1 := hR2.fz 1
    have HR := Lib.hid hR2
    clear hR hR2 hb1
    go_wp2_with fail
    exact ret_rb_ok rfl rfl rfl rfl (HR.out.put _ _) ⟨_, _, _, _, rfl, below_put H2.out (Nat.le_succ _) _ _⟩

set_option maxHeartbeats 1000000 in
theorem of_big (K N : Int) (T : List UInt8) (w : World) (hK : K = 2) (hN : N = 0) (hT : T.length ≤ 1000) (z : Int) (hf : Few z) (hz : T = Lib.itoa z) (h64 : ¬ In64Z z) :
    Calls Tryz.prog 51 #[valV K N T] w (OfOk z w) := by
  have HBx := Lib.hid (boxesVR w (.int .i64 K) (.int .i64 N) (.string ⟨T.toArray⟩))
  subst hK hN
  have HRd := Lib.hid (fun W => readRef_c T hT W)
  have HZ := Lib.hid hz
  obtain ⟨A, B, S, hn⟩ := isNum_few hf
  have hA : A = 2 := by
    rcases hn.cells with ⟨h1, h2, _, _⟩ | ⟨h1, h2, _, _⟩
    · exact absurd h1 h64
    · exact h2
  subst hA
  have HVl := Lib.hid (fun (W : World) (o : Option Addr) (c : Nat) (h : RAt W o c z) => (value_ref z o c W h (few_len hf)).mono fun _ _ hh => hh.num hn)
  have HF := Lib.hid hf
  clear hz hn
  unfold valV
  go_enter Tryz.func51, Tryz.ntmps51
  go_wp2_with fail
  refine (HRd.out _).mono ?_
  rintro e w1 hrd
  rcases hrd with ⟨z', o1, c1, hf', hz', rfl, hr1, hb1⟩ | ⟨hno, _⟩
  · obtain rfl : z' = z := Bg.itoa_inj (hz'.symm.trans HZ.out)
    have hR := HBx.out.2.1.below hb1 HBx.out.2.1.lt
    have hba : Below w1.heap.size w1 (w1.alloc (.cells #[.bool (decide (z' < 0)), .slice o1 (Rf.tens z'.natAbs).length c1] 52)) := (Below.refl _ _).alloc (Nat.le_refl _) _
    have HR2 := Lib.hid (hR.below hba hR.lt)
    have H1 := HBx.out.2.2.trans (hb1.mono HBx.out.2.2.size)
    have H2 := Lib.hid (H1.trans (hba.mono H1.size))
    have HX2 := Lib.hid (RB.new w1 (.bool (decide (z' < 0))) (.slice o1 (Rf.tens z'.natAbs).length c1))
    have HA2 := Lib.hid (hr1.mono hba)
    have hlt : w.heap.size + 1 < w1.heap.size := hR.lt
    clear hb1 hr1 hR H1 hba hz' hf'
    unfold rnV
    have x0 := HX2.out.c0
    have x1 := HX2.out.c1
    go_wp2_with fail
    have hc := HVl.out _ o1 c1 HA2.out
    unfold rnV at hc
    refine hc.mono ?_
    rintro e w3 ⟨rfl, hb3⟩
    clear hc x0 x1
    unfold valV
    have hbb : Below w3.heap.size w3 (w3.alloc (.cells #[.int .i64 2, .int .i64 B, .string ⟨S.toArray⟩] 23)) := (Below.refl _ _).alloc (Nat.le_refl _) _
    have HR3 := Lib.hid ((HR2.out.below hb3 HR2.out.lt).below hbb (HR2.out.below hb3 HR2.out.lt).lt)
    have HX3 := Lib.hid ((HX2.out.below hb3 HX2.out.lt).below hbb (HX2.out.below hb3 HX2.out.lt).lt)
    have HA3 := Lib.hid ((HA2.out.mono hb3).mono hbb)
    have H3 := Lib.hid ((H2.out.trans (hb3.mono H2.out.size)).trans (hbb.mono (H2.out.trans (hb3.mono H2.out.size)).size))
    have HV3 := Lib.hid (VB.new w3 (.int .i64 2) (.int .i64 B) (.string ⟨S.toArray⟩))
    have hlt3 : w.heap.size + 1 < w3.heap.size := (HR2.out.below hb3 HR2.out.lt).lt
    clear hb3 hbb HR2 HX2 HA2 H2
    have x0 := HX3.out.c0
    have x1 := HX3.out.c1
    have v0 := HV3.out.c0
    have r0 := HR3.out.c0
    have r1 := HR3.out.c1
    have f0 := HR3.out.fz 0
    have f1 := HR3.out.fz 1
    have s0 := ((HV3.out.other ⟨w.heap.size + 1, 0, none⟩ (by simp; omega) (.bool (decide (z' < 0)))).other ⟨w.heap.size + 1, 1, none⟩ (by simp; omega) (.slice o1 (Rf.tens z'.natAbs).length c1)).c0
    clear hlt3 hlt
    go_wp2_with fail
    generalize w3.alloc (.cells #[.int .i64 2, .int .i64 B, .string ⟨S.toArray⟩] 23) = V3 at *
    go_region
    all_goals
      go_wp2_with fail
      refine ret_rb_ok rfl rfl rfl rfl (HR3.out.put _ _) ?_
      exact ⟨o1, c1, rfl, ⟨HA3.out.1, intAt_put_rb HR3.out HA3.out.2 _ _⟩, (below_put H3.out (Nat.le_succ _) _ _).drew⟩
  · exfalso
    have := Bg.okT_itoa z HF.out
    rw [← HZ.out, hno] at this
    cases this

set_option maxHeartbeats 1000000 in
theorem of_no5 (K N : Int) (T : List UInt8) (w : World) (hK : K = 2) (hN : N = 0) (hT : T.length ≤ 1000) (z : Int) (hf : Few z) (hz : T = Lib.itoa z) (h64 : In64Z z) :
    Calls Tryz.prog 51 #[valV K N T] w (OfNo w) := by
  have HBx := Lib.hid (boxesVR w (.int .i64 K) (.int .i64 N) (.string ⟨T.toArray⟩))
  subst hK hN
  have HRd := Lib.hid (fun W => readRef_c T hT W)
  have HZ := Lib.hid hz
  obtain ⟨A, B, S, hn⟩ := isNum_few hf
  have hA : A = 1 := by
    rcases hn.cells with ⟨h1, h2, _, _⟩ | ⟨h1, h2, _, _⟩
    · exact h2
    · exact absurd h64 h1
  subst hA
  have HVl := Lib.hid (fun (W : World) (o : Option Addr) (c : Nat) (h : RAt W o c z) => (value_ref z o c W h (few_len hf)).mono fun _ _ hh => hh.num hn)
  have HF := Lib.hid hf
  clear hz hn
  unfold valV
  go_enter Tryz.func51, Tryz.ntmps51
  go_wp2_with fail
  refine (HRd.out _).mono ?_
  rintro e w1 hrd
  rcases hrd with ⟨z', o1, c1, hf', hz', rfl, hr1, hb1⟩ | ⟨hno, _⟩
  · obtain rfl : z' = z := Bg.itoa_inj (hz'.symm.trans HZ.out)
    have hR := HBx.out.2.1.below hb1 HBx.out.2.1.lt
    have hba : Below w1.heap.size w1 (w1.alloc (.cells #[.bool (decide (z' < 0)), .slice o1 (Rf.tens z'.natAbs).length c1] 52)) := (Below.refl _ _).alloc (Nat.le_refl _) _
    have HR2 := Lib.hid (hR.below hba hR.lt)
    have H1 := HBx.out.2.2.trans (hb1.mono HBx.out.2.2.size)
    have H2 := Lib.hid (H1.trans (hba.mono H1.size))
    have HX2 := Lib.hid (RB.new w1 (.bool (decide (z' < 0))) (.slice o1 (Rf.tens z'.natAbs).length c1))
    have HA2 := Lib.hid (hr1.mono hba)
    have hlt : w.heap.size + 1 < w1.heap.size := hR.lt
    clear hb1 hr1 hR H1 hba hz' hf'
    unfold rnV
    have x0 := HX2.out.c0
    have x1 := HX2.out.c1
    go_wp2_with fail
    have hc := HVl.out _ o1 c1 HA2.out
    unfold rnV at hc
    refine hc.mono ?_
    rintro e w3 ⟨rfl, hb3⟩
    clear hc x0 x1
    unfold valV
    have hbb : Below w3.heap.size w3 (w3.alloc (.cells #[.int .i64 1, .int .i64 B, .string ⟨S.toArray⟩] 23)) := (Below.refl _ _).alloc (Nat.le_refl _) _
    have HR3 := Lib.hid ((HR2.out.below hb3 HR2.out.lt).below hbb (HR2.out.below hb3 HR2.out.lt).lt)
    have HX3 := Lib.hid ((HX2.out.below hb3 HX2.out.lt).below hbb (HX2.out.below hb3 HX2.out.lt).lt)
    have HA3 := Lib.hid ((HA2.out.mono hb3).mono hbb)
    have H3 := Lib.hid ((H2.out.trans (hb3.mono H2.out.size)).trans (hbb.mono (H2.out.trans (hb3.mono H2.out.size)).size))
    have HV3 := Lib.hid (VB.new w3 (.int .i64 1) (.int .i64 B) (.string ⟨S.toArray⟩))
    have hlt3 : w.heap.size + 1 < w3.heap.size := (HR2.out.below hb3 HR2.out.lt).lt
    clear hb3 hbb HR2 HX2 HA2 H2
    have x0 := HX3.out.c0
    have x1 := HX3.out.c1
    have v0 := HV3.out.c0
    have r0 := HR3.out.c0
    have r1 := HR3.out.c1
    have f0 := HR3.out.fz 0
    have f1 := HR3.out.fz 1
    have s0 := ((HV3.out.other ⟨w.heap.size + 1, 0, none⟩ (by simp; omega) (.bool (decide (z' < 0)))).other ⟨w.heap.size + 1, 1, none⟩ (by simp; omega) (.slice o1 (Rf.tens z'.natAbs).length c1)).c0
    clear hlt3 hlt
    go_wp2_with fail
    generalize w3.alloc (.cells #[.int .i64 1, .int .i64 B, .string ⟨S.toArray⟩] 23) = V3 at *
    go_region
    all_goals
      go_wp2_with fail
      refine ret_rb_ok rfl rfl rfl rfl (HR3.out.put _ _) ?_
      exact ⟨_, _, _, _, rfl, (below_put H3.out (Nat.le_succ _) _ _).drew⟩
  · exfalso
    have := Bg.okT_itoa z HF.out
    rw [← HZ.out, hno] at this
    cases this

theorem ofRef_ok (K N z : Int) (T : List UInt8) (h : IsNum K N T z) (w : World) : Calls Tryz.prog 51 #[valV K N T] w (OfOk z w) := by
  rcases h.cells with ⟨h64, h1, h2, h3⟩ | ⟨h64, h1, h2, h3⟩
  · subst h2
    exact of_small K N T w h1 h64 h3
  · exact of_big K N T w h1 h2 (by have := h.len; omega) z h.1 h3 h64
theorem ofRef_no (K N : Int) (T : List UInt8) (h : ∀ z, ¬ IsNum K N T z) (hN : In64Z N) (hT : T.length ≤ 1000) (w : World) : Calls Tryz.prog 51 #[valV K N T] w (OfNo w) := by
  by_cases h1 : K = 1
  · by_cases hT0 : T = []
    · exact absurd (by rw [h1, hT0]; exact isNum_int hN) (h N)
    · exact of_no1 K N T w h1 hT0
  · by_cases h2 : K = 2
    · by_cases h3 : N = 0
      · by_cases hk : Bg.okT T = true
        · obtain ⟨z, hz, hf⟩ := Bg.itoa_okT T hk
          by_cases h64 : In64Z z
          · exact of_no5 K N T w h2 h3 hT z hf hz h64
          · exact absurd (by rw [h2, h3, hz]; exact isNum_big hf h64) (h z)
        · exact of_no4 K N T w h2 h3 hT (Bool.eq_false_iff.2 hk)
      · exact of_no3 K N T w h2 h3
    · exact of_no2 K N T w h1 h2
end Go.Proofs.YthbfbpbppjkoeaaGreatDoor
/- Contracts of Check, Of, Text, Digits of package proteusref03. Conditions: those in the statements. -/
namespace Go.Proofs.YthbfbpbppjkoeaaGreatDoor
open Go.RowKit Go.Shelf
set_option maxRecDepth 100000
set_option linter.unusedVariables false
set_option exponentiation.threshold 500

theorem max_len (z : Int) : max (((Rf.tens z.natAbs).length : Nat) : Int) 1 = (Lib.nDigits z.natAbs : Int) := by
  by_cases h : z.natAbs = 0
  · rw [h, Rf.tens_zero, Lib.nDigits_small (by decide)]; rfl
  · rw [Rf.tens_length _ h]
    have := Lib.nDigits_pos z.natAbs
    omega

set_option maxHeartbeats 400000 in
theorem CheckRef_ok (K N z : Int) (T : List UInt8) (h : IsNum K N T z) (w : World) :
    Calls Tryz.prog 24 #[valV K N T] w fun e w' => e = .returned (.int .i64 0) ∧ Below w.heap.size w w' := by
  have HO := Lib.hid (fun W => ofRef_ok K N z T h W)
  have HL := Lib.hid (few_len h.1)
  unfold valV at *
  have H0 := Lib.hid ((Below.refl w.heap.size w).alloc (Nat.le_refl _) (.cells #[.int .i64 K, .int .i64 N, .string ⟨T.toArray⟩] 23))
  clear h
  go_enter Tryz.func24, Tryz.ntmps24
  go_wp2_with fail
  refine (HO.out _).mono ?_
  rintro e w1 ⟨o1, c1, rfl, hr1, hb1⟩
  have H1 := H0.out.trans (hb1.mono H0.out.size)
  have hba : Below w1.heap.size w1 (w1.alloc (.cells #[.bool (decide (z < 0)), .slice o1 (Rf.tens z.natAbs).length c1] 52)) := (Below.refl _ _).alloc (Nat.le_refl _) _
  have HX := Lib.hid (RB.new w1 (.bool (decide (z < 0))) (.slice o1 (Rf.tens z.natAbs).length c1))
  have HA := Lib.hid (hr1.mono hba)
  have H2 := Lib.hid (H1.trans (hba.mono H1.size))
  clear hb1 hr1 H1 hba
  unfold rnV
  have x0 := HX.out.c0
  have x1 := HX.out.c1
  go_wp2_with fail
  go_ret
  exact ⟨rfl, H2.out⟩

set_option maxHeartbeats 400000 in
theorem CheckRef_no (K N : Int) (T : List UInt8) (h : ∀ z, ¬ IsNum K N T z) (hN : In64Z N) (hT : T.length ≤ 1000) (w : World) :
    Calls Tryz.prog 24 #[valV K N T] w fun e w' => e = .returned (.int .i64 31) ∧ Below w.heap.size w w' := by
  have HO := Lib.hid (fun W => ofRef_no K N T h hN hT W)
  unfold valV at *
  have H0 := Lib.hid ((Below.refl w.heap.size w).alloc (Nat.le_refl _) (.cells #[.int .i64 K, .int .i64 N, .string ⟨T.toArray⟩] 23))
  clear h hN hT
  go_enter Tryz.func24, Tryz.ntmps24
  go_wp2_with fail
  refine (HO.out _).mono ?_
  rintro e w1 ⟨b1, o1, n1, c1, rfl, hb1⟩
  have H1 := H0.out.trans (hb1.mono H0.out.size)
  have hba : Below w1.heap.size w1 (w1.alloc (.cells #[.bool b1, .slice o1 n1 c1] 52)) := (Below.refl _ _).alloc (Nat.le_refl _) _
  have H2 := Lib.hid (H1.trans (hba.mono H1.size))
  clear hb1 H1 hba
  go_wp2_with fail
  go_ret
  exact ⟨rfl, H2.out⟩

set_option maxHeartbeats 400000 in
theorem TextRef_no (K N : Int) (T : List UInt8) (h : ∀ z, ¬ IsNum K N T z) (hN : In64Z N) (hT : T.length ≤ 1000) (w : World) :
    Calls Tryz.prog 20 #[valV K N T] w fun e w' => e = .returned (.tuple #[.string ⟨#[]⟩, .int .i64 31]) ∧ Below w.heap.size w w' := by
  have HO := Lib.hid (fun W => ofRef_no K N T h hN hT W)
  unfold valV at *
  have H0 := Lib.hid ((Below.refl w.heap.size w).alloc (Nat.le_refl _) (.cells #[.int .i64 K, .int .i64 N, .string ⟨T.toArray⟩] 23))
  clear h hN hT
  go_enter Tryz.func20, Tryz.ntmps20
  go_wp2_with fail
  refine (HO.out _).mono ?_
  rintro e w1 ⟨b1, o1, n1, c1, rfl, hb1⟩
  have H1 := H0.out.trans (hb1.mono H0.out.size)
  have hba : Below w1.heap.size w1 (w1.alloc (.cells #[.bool b1, .slice o1 n1 c1] 52)) := (Below.refl _ _).alloc (Nat.le_refl _) _
  have H2 := Lib.hid (H1.trans (hba.mono H1.size))
  clear hb1 H1 hba
  go_wp2_with fail
  go_ret2
  exact ⟨rfl, H2.out⟩

set_option maxHeartbeats 400000 in
theorem TextRef_ok (K N z : Int) (T : List UInt8) (h : IsNum K N T z) (t : List UInt8) (ht : t = Lib.itoa z) (w : World) :
    Calls Tryz.prog 20 #[valV K N T] w fun e w' => e = .returned (.tuple #[.string ⟨t.toArray⟩, .int .i64 0]) ∧ Below w.heap.size w w' := by
  have HTt := Lib.hid (fun W o c hr => text_ref z o c W hr (by have := (few_tens z).1 h.1; omega))
  rw [← ht] at HTt
  clear ht
  have HO := Lib.hid (fun W => ofRef_ok K N z T h W)
  have HL := Lib.hid (few_len h.1)
  unfold valV at *
  have H0 := Lib.hid ((Below.refl w.heap.size w).alloc (Nat.le_refl _) (.cells #[.int .i64 K, .int .i64 N, .string ⟨T.toArray⟩] 23))
  clear h
  go_enter Tryz.func20, Tryz.ntmps20
  go_wp2_with fail
  refine (HO.out _).mono ?_
  rintro e w1 ⟨o1, c1, rfl, hr1, hb1⟩
  have H1 := H0.out.trans (hb1.mono H0.out.size)
  have hba : Below w1.heap.size w1 (w1.alloc (.cells #[.bool (decide (z < 0)), .slice o1 (Rf.tens z.natAbs).length c1] 52)) := (Below.refl _ _).alloc (Nat.le_refl _) _
  have HX := Lib.hid (RB.new w1 (.bool (decide (z < 0))) (.slice o1 (Rf.tens z.natAbs).length c1))
  have HA := Lib.hid (hr1.mono hba)
  have H2 := Lib.hid (H1.trans (hba.mono H1.size))
  clear hb1 hr1 H1 hba
  unfold rnV
  have x0 := HX.out.c0
  have x1 := HX.out.c1
  go_wp2_with fail
  have hc := HTt.out _ o1 c1 HA.out
  unfold rnV at hc
  refine hc.mono ?_
  rintro e w3 ⟨rfl, hb3⟩
  clear hc x0 x1
  have H3 := Lib.hid (H2.out.trans (hb3.mono H2.out.size))
  clear hb3
  go_wp2_with fail
  go_ret2
  exact ⟨rfl, H3.out⟩

set_option maxHeartbeats 400000 in
theorem DigitsRef_no (K N : Int) (T : List UInt8) (h : ∀ z, ¬ IsNum K N T z) (hN : In64Z N) (hT : T.length ≤ 1000) (w : World) :
    Calls Tryz.prog 22 #[valV K N T] w fun e w' => e = .returned (.tuple #[.int .i64 0, .int .i64 31]) ∧ Below w.heap.size w w' := by
  have HO := Lib.hid (fun W => ofRef_no K N T h hN hT W)
  unfold valV at *
  have H0 := Lib.hid ((Below.refl w.heap.size w).alloc (Nat.le_refl _) (.cells #[.int .i64 K, .int .i64 N, .string ⟨T.toArray⟩] 23))
  clear h hN hT
  go_enter Tryz.func22, Tryz.ntmps22
  go_wp2_with fail
  refine (HO.out _).mono ?_
  rintro e w1 ⟨b1, o1, n1, c1, rfl, hb1⟩
  have H1 := H0.out.trans (hb1.mono H0.out.size)
  have hba : Below w1.heap.size w1 (w1.alloc (.cells #[.bool b1, .slice o1 n1 c1] 52)) := (Below.refl _ _).alloc (Nat.le_refl _) _
  have H2 := Lib.hid (H1.trans (hba.mono H1.size))
  clear hb1 H1 hba
  go_wp2_with fail
  go_ret2
  exact ⟨rfl, H2.out⟩

set_option maxHeartbeats 400000 in
theorem DigitsRef_ok (K N z : Int) (T : List UInt8) (h : IsNum K N T z) (d : Nat) (hd : Lib.nDigits z.natAbs = d) (w : World) :
    Calls Tryz.prog 22 #[valV K N T] w fun e w' => e = .returned (.tuple #[.int .i64 d, .int .i64 0]) ∧ Below w.heap.size w w' := by
  have hmx := max_len z
  rw [hd] at hmx
  clear hd
  have HO := Lib.hid (fun W => ofRef_ok K N z T h W)
  have HL := Lib.hid (few_len h.1)
  unfold valV at *
  have H0 := Lib.hid ((Below.refl w.heap.size w).alloc (Nat.le_refl _) (.cells #[.int .i64 K, .int .i64 N, .string ⟨T.toArray⟩] 23))
  clear h
  go_enter Tryz.func22, Tryz.ntmps22
  go_wp2_with fail
  refine (HO.out _).mono ?_
  rintro e w1 ⟨o1, c1, rfl, hr1, hb1⟩
  have H1 := H0.out.trans (hb1.mono H0.out.size)
  have hba : Below w1.heap.size w1 (w1.alloc (.cells #[.bool (decide (z < 0)), .slice o1 (Rf.tens z.natAbs).length c1] 52)) := (Below.refl _ _).alloc (Nat.le_refl _) _
  have HX := Lib.hid (RB.new w1 (.bool (decide (z < 0))) (.slice o1 (Rf.tens z.natAbs).length c1))
  have HA := Lib.hid (hr1.mono hba)
  have H2 := Lib.hid (H1.trans (hba.mono H1.size))
  clear hb1 hr1 H1 hba
  unfold rnV
  have x0 := HX.out.c0
  have x1 := HX.out.c1
  go_wp2_with fail
  go_ret2
  exact ⟨rfl, H2.out⟩

set_option maxHeartbeats 400000 in
theorem OfRef_no (s : List UInt8) (hs : s.length ≤ 1000) (hno : Bg.okT s = false) (w : World) :
    Calls Tryz.prog 18 #[.string ⟨s.toArray⟩] w fun e w' => e = .returned (.tuple #[valV 0 0 [], .int .i64 31]) ∧ Below w.heap.size w w' := by
  have HR := Lib.hid (fun W => readRef_c s hs W)
  have HNo := Lib.hid hno
  have HV0 := Lib.hid (VB.new w (.int .i64 0) (.int .i64 0) (.string ⟨#[]⟩))
  have H0 := Lib.hid ((Below.refl w.heap.size w).alloc (Nat.le_refl _) (.cells #[.int .i64 0, .int .i64 0, .string ⟨#[]⟩] 23))
  clear hno
  unfold valV
  go_enter Tryz.func18, Tryz.ntmps18
  go_wp2_with fail
  refine (HR.out _).mono ?_
  rintro e w1 hrd
  rcases hrd with ⟨z, o1, c1, hf, hz, -⟩ | ⟨_, rfl, hb1⟩
  · exfalso
    have := Bg.okT_itoa z hf
    rw [← hz, HNo.out] at this
    cases this
  · have hba : Below w1.heap.size w1 (w1.alloc (.cells #[.bool false, .slice none 0 0] 52)) := (Below.refl _ _).alloc (Nat.le_refl _) _
    have hV := (HV0.out.below hb1 HV0.out.lt).below hba (HV0.out.below hb1 HV0.out.lt).lt
    have H1 := H0.out.trans (hb1.mono H0.out.size)
    have H2 := Lib.hid (H1.trans (hba.mono H1.size))
    have v0 := hV.c0
    have v1 := hV.c1
    have v2 := hV.c2
    have f0 := hV.fz 0
    have f1 := hV.fz 1
    have f2 := hV.fz 2
    have HV := Lib.hid hV
    clear hb1 hba hV H1
    go_wp2_with fail
    exact ret_val_err rfl rfl rfl rfl (HV.out.put _ _ _) ⟨rfl, below_put3 H2.out (Nat.le_refl _) _ _ _⟩
set_option maxHeartbeats 400000 in
theorem OfRef_ok (s : List UInt8) (hs : s.length ≤ 1000) (A B z : Int) (S : List UInt8) (hz : s = Lib.itoa z) (hn : IsNum A B S z) (w : World) :
    Calls Tryz.prog 18 #[.string ⟨s.toArray⟩] w fun e w' => e = .returned (.tuple #[valV A B S, .int .i64 0]) ∧ Below w.heap.size w w' := by
  have HR := Lib.hid (fun W => readRef_c s hs W)
  have HZ := Lib.hid hz
  have HF := Lib.hid hn.1
  have HVl := Lib.hid (fun (W : World) (o : Option Addr) (c : Nat) (h : RAt W o c z) => (value_ref z o c W h (few_len hn.1)).mono fun _ _ hh => hh.num hn)
  have HV0 := Lib.hid (VB.new w (.int .i64 0) (.int .i64 0) (.string ⟨#[]⟩))
  have H0 := Lib.hid ((Below.refl w.heap.size w).alloc (Nat.le_refl _) (.cells #[.int .i64 0, .int .i64 0, .string ⟨#[]⟩] 23))
  clear hn hz
  unfold valV
  go_enter Tryz.func18, Tryz.ntmps18
  go_wp2_with fail
  refine (HR.out _).mono ?_
  rintro e w1 hrd
  rcases hrd with ⟨z', o1, c1, hf, hz, rfl, hr1, hb1⟩ | ⟨hno, _⟩
  · obtain rfl : z' = z := Bg.itoa_inj (hz.symm.trans HZ.out)
    have hba : Below w1.heap.size w1 (w1.alloc (.cells #[.bool (decide (z' < 0)), .slice o1 (Rf.tens z'.natAbs).length c1] 52)) := (Below.refl _ _).alloc (Nat.le_refl _) _
    have HV := Lib.hid ((HV0.out.below hb1 HV0.out.lt).below hba (HV0.out.below hb1 HV0.out.lt).lt)
    have H1 := H0.out.trans (hb1.mono H0.out.size)
    have H2 := Lib.hid (H1.trans (hba.mono H1.size))
    have HX := Lib.hid (RB.new w1 (.bool (decide (z' < 0))) (.slice o1 (Rf.tens z'.natAbs).length c1))
    have HA := Lib.hid (hr1.mono hba)
    clear hb1 hba H1 hr1 hz hf
    unfold rnV
    have x0 := HX.out.c0
    have x1 := HX.out.c1
    go_wp2_with fail
    have hc := HVl.out _ o1 c1 HA.out
    unfold rnV at hc
    refine hc.mono ?_
    rintro e w3 ⟨rfl, hb3⟩
    clear hc x0 x1
    unfold valV
    have hV := HV.out.below hb3 HV.out.lt
    have H3 := Lib.hid (H2.out.trans (hb3.mono H2.out.size))
    have v0 := hV.c0
    have v1 := hV.c1
    have v2 := hV.c2
    have f0 := hV.fz 0
    have f1 := hV.fz 1
    have f2 := hV.fz 2
    have HV3 := Lib.hid hV
    clear hb3 hV
    go_wp2_with fail
    exact ret_val_err rfl rfl rfl rfl (HV3.out.put _ _ _) ⟨rfl, below_put3 H3.out (Nat.le_refl _) _ _ _⟩
  · exfalso
    have := Bg.okT_itoa z HF.out
    rw [← HZ.out, hno] at this
    cases this
end Go.Proofs.YthbfbpbppjkoeaaGreatDoor
