/- Contracts of numbers of package big: signed, small, text. Conditions: those in the statements. -/
import Derived.Test.YthbfbpbppjkoeaaGreatDoorBigN
import Derived.Test.YthbfbpbppjkoeaaGreatDoorBigPc
namespace Go.Proofs.YthbfbpbppjkoeaaGreatDoor
open Go.RowKit Go.Shelf
set_option exponentiation.threshold 500
set_option maxRecDepth 100000

/-- A number has no more digits than it may have. -/
def Few (z : Int) : Prop := Lib.nDigits z.natAbs ≤ 400
instance (z : Int) : Decidable (Few z) := inferInstanceAs (Decidable (_ ≤ _))
theorem few_ds {n : Nat} (h : Lib.nDigits n ≤ 400) : (Bg.ds n).length ≤ 67 := by
  refine Bg.ds_len_le (Nat.lt_of_lt_of_le (Bg.lt_of_nDigits h) ?_)
  rw [Bg.pow6]
  exact Nat.pow_le_pow_right (by decide) (by decide)
theorem Few.len {z : Int} (h : Few z) : (Bg.ds z.natAbs).length ≤ 67 := few_ds h
theorem few_of_le {a b : Nat} (h : a ≤ b) (hb : Lib.nDigits b ≤ 400) : Lib.nDigits a ≤ 400 := Bg.nDigits_le (Nat.lt_of_le_of_lt h (Bg.lt_of_nDigits hb)) (by decide)
theorem few_lt {n : Nat} (h : n < 10 ^ 400) : Lib.nDigits n ≤ 400 := Bg.nDigits_le h (by decide)

/-- The value of a number. -/
def numV (z : Int) (o : Option Addr) (c : Nat) : Value := .agg #[.int .i64 z.sign, .slice o (Bg.ds z.natAbs).length c]
/-- A number lies in a world. -/
structure NumAt (w : World) (o : Option Addr) (z : Int) : Prop where
  few : Few z
  at_ : IntAt w o (Bg.ds z.natAbs)
theorem NumAt.mono {w w' : World} {o : Option Addr} {z : Int} (h : NumAt w o z) (hb : Below w.heap.size w w') : NumAt w' o z := ⟨h.few, h.at_.mono hb⟩
def tooE : Ending := .panicked [{ v := .iface 102 (.agg #[]), recovered := false }]
/-- A slice lies in new memory. -/
def New (w : World) (o : Option Addr) : Prop := ∀ b, o = some ⟨b, 0, none⟩ → w.heap.size ≤ b
theorem New.of_le {w w' : World} {o : Option Addr} (h : New w' o) (hs : w.heap.size ≤ w'.heap.size) : New w o := fun b e => Nat.le_trans hs (h b e)
/-- A number is returned. -/
def RetNum (z : Int) (w : World) (e : Ending) (w' : World) : Prop := ∃ o c, e = .returned (numV z o c) ∧ NumAt w' o z ∧ Below w.heap.size w w' ∧ New w o
/-- A number is returned, unless it is too large. -/
def RetZ (z : Int) (w : World) (e : Ending) (w' : World) : Prop := (Few z → RetNum z w e w') ∧ (¬ Few z → e = tooE ∧ Below w.heap.size w w')
theorem RetZ.num {z : Int} {w : World} {e : Ending} {w' : World} (h : RetZ z w e w') (hf : Few z) : RetNum z w e w' := h.1 hf
/-- A number with these digits is returned, unless it is too large. -/
def RetS (z : Int) (o : Option Addr) (c : Nat) (w : World) (e : Ending) (w' : World) : Prop := (Few z → e = .returned (numV z o c) ∧ Below w.heap.size w w') ∧ (¬ Few z → e = tooE ∧ Below w.heap.size w w')
theorem callsS {P : Program} {f : Nat} {args : Array Value} {w : World} {z : Int} {o : Option Addr} {c : Nat} (h1 : Few z → Calls P f args w fun e w' => e = .returned (numV z o c) ∧ Below w.heap.size w w') (h2 : ¬ Few z → Calls P f args w fun e w' => e = tooE ∧ Below w.heap.size w w') : Calls P f args w (RetS z o c w) := by
  by_cases h : Few z
  · exact (h1 h).mono fun e w' r => ⟨fun _ => r, fun n => absurd h n⟩
  · exact (h2 h).mono fun e w' r => ⟨fun n => absurd n h, fun _ => r⟩
theorem callsZ {P : Program} {f : Nat} {args : Array Value} {w : World} {z : Int} (h1 : Few z → Calls P f args w (RetNum z w)) (h2 : ¬ Few z → Calls P f args w fun e w' => e = tooE ∧ Below w.heap.size w w') : Calls P f args w (RetZ z w) := by
  by_cases h : Few z
  · exact (h1 h).mono fun e w' r => ⟨fun _ => r, fun n => absurd h n⟩
  · exact (h2 h).mono fun e w' r => ⟨fun n => absurd n h, fun _ => r⟩
theorem sign_zero_iff (z : Int) : (Bg.ds z.natAbs).length = 0 ↔ z = 0 := by rw [Bg.ds_length_zero]; omega

/-- A box that holds a number's two cells. -/
def NB (W : World) (B : Nat) (u v : Value) : Prop := W.heap[B]? = some (.cells #[u, v] 61 (0, 0))
theorem NB.lt {W : World} {B : Nat} {u v : Value} (h : NB W B u v) : B < W.heap.size := (Array.getElem?_eq_some_iff.1 h).1
theorem NB.c0 {W : World} {B : Nat} {u v : Value} (h : NB W B u v) : W.cell? ⟨B, 0, none⟩ = some u := (Lib.cell_of_heap h 0).trans rfl
theorem NB.c1 {W : World} {B : Nat} {u v : Value} (h : NB W B u v) : W.cell? ⟨B, 1, none⟩ = some v := (Lib.cell_of_heap h 1).trans rfl
theorem NB.f0 {W : World} {B : Nat} {u v : Value} (h : NB W B u v) : W.frozen? ⟨B, 0, none⟩ = false := Lib.frozen_of_heap h 0
theorem NB.f1 {W : World} {B : Nat} {u v : Value} (h : NB W B u v) : W.frozen? ⟨B, 1, none⟩ = false := Lib.frozen_of_heap h 1
theorem NB.new (W : World) (u v : Value) : NB (W.alloc (.cells #[u, v] 61)) W.heap.size u v := World.alloc_heap_new W _
theorem NB.below {W W' : World} {n B : Nat} {u v : Value} (h : NB W B u v) (hb : Below n W W') (hn : B < n) : NB W' B u v := (hb.block B hn).trans h
theorem NB.alloc {W : World} {B : Nat} {u v : Value} (h : NB W B u v) (o : Obj) : NB (W.alloc o) B u v := (Below.alloc (Below.refl W.heap.size W) (Nat.le_refl _) o).block B h.lt |>.trans h
theorem NB.drew {W : World} {B : Nat} {u v : Value} (h : NB W B u v) : NB W.drew B u v := h
theorem NB.set0 {W : World} {B : Nat} {u v : Value} (h : NB W B u v) (x : Value) : NB (W.setCell ⟨B, 0, none⟩ x) B x v := by
  obtain ⟨hlt, hk⟩ := Array.getElem?_eq_some_iff.1 h
  show (W.heap.modify B _)[B]? = _
  rw [Array.getElem?_eq_getElem (by rw [Array.size_modify]; exact hlt), Array.getElem_modify_self, hk]
  rfl
theorem NB.set1 {W : World} {B : Nat} {u v : Value} (h : NB W B u v) (x : Value) : NB (W.setCell ⟨B, 1, none⟩ x) B u x := by
  obtain ⟨hlt, hk⟩ := Array.getElem?_eq_some_iff.1 h
  show (W.heap.modify B _)[B]? = _
  rw [Array.getElem?_eq_getElem (by rw [Array.size_modify]; exact hlt), Array.getElem_modify_self, hk]
  rfl
theorem NB.other {W : World} {B : Nat} {u v : Value} (h : NB W B u v) (p : Addr) (hp : p.block ≠ B) (x : Value) : NB (W.setCell p x) B u v :=
  (Below.heap_setCell W p x B (fun e => hp e.symm)).trans h
theorem NB.put {W : World} {B : Nat} {u v : Value} (h : NB W B u v) (x y : Value) : NB ((W.setCell ⟨B, 0, none⟩ x).setCell ⟨B, 1, none⟩ y) B x y := (h.set0 x).set1 y
theorem NB.others {W : World} {B : Nat} {u v : Value} (h : NB W B u v) (B' : Nat) (hp : B' ≠ B) (x y : Value) : NB ((W.setCell ⟨B', 0, none⟩ x).setCell ⟨B', 1, none⟩ y) B u v := (h.other ⟨B', 0, none⟩ hp x).other ⟨B', 1, none⟩ hp y
theorem below_put {n B : Nat} {w W : World} (h : Below n w W) (hB : n ≤ B) (x y : Value) : Below n w ((W.setCell ⟨B, 0, none⟩ x).setCell ⟨B, 1, none⟩ y) := (h.setCell (p := ⟨B, 0, none⟩) hB x).setCell (p := ⟨B, 1, none⟩) hB y
theorem IntAt.put {W : World} {o : Option Addr} {l : List Int} (h : IntAt W o l) (B : Nat) (hB : ∀ b, o = some ⟨b, 0, none⟩ → b ≠ B) (x y : Value) : IntAt ((W.setCell ⟨B, 0, none⟩ x).setCell ⟨B, 1, none⟩ y) o l := fun k n hk => by
  obtain ⟨b, e, hb, hc⟩ := h k n hk
  refine ⟨b, e, by simpa [World.setCell] using hb, ?_⟩
  rw [World.cell?_of_block (w := W.setCell ⟨B, 0, none⟩ x) (Below.heap_setCell _ ⟨B, 1, none⟩ _ b (fun h => hB b e h)), World.cell?_of_block (w := W) (Below.heap_setCell _ ⟨B, 0, none⟩ _ b (fun h => hB b e h))]
  exact hc
theorem NumAt.put {W : World} {o : Option Addr} {z : Int} (h : NumAt W o z) (B : Nat) (hB : ∀ b, o = some ⟨b, 0, none⟩ → b ≠ B) (x y : Value) : NumAt ((W.setCell ⟨B, 0, none⟩ x).setCell ⟨B, 1, none⟩ y) o z := ⟨h.few, h.at_.put B hB x y⟩
/-- A function that answers with what lies in its box. -/
theorem ret_box {f : Func} {R : Ending → World → Prop} {a : Act} {W : World} {B : Nat} {t : Tmp} {u v : Value} (hres : f.results = #[.cell t 61]) (hB : a.tmps.getD t undef = .pointer (some ⟨B, 0, none⟩)) (hd : a.defers = [])
    (hN : NB W B u v) (hR : R (.returned (.agg #[u, v])) W) : bodyPost Tryz.prog f R .ret a W := by
  have c0 := hN.c0
  have c1 := hN.c1
  rw [Array.getD_eq_getD_getElem?] at hB
  refine bodyPost_ret (v := .agg #[u, v]) ?_ hd hR
  simp [results, hres, hB, go_sem, c0, c1]
theorem heap2 (w : World) (a b : Obj) : ((w.alloc a).alloc b).heap[w.heap.size + 1]? = some b := by
  have := World.alloc_heap_new (w.alloc a) b
  rwa [World.size_alloc] at this
theorem ba_append (a b : List UInt8) : (⟨a.toArray⟩ ++ ⟨b.toArray⟩ : ByteArray) = ⟨(a ++ b).toArray⟩ := by
  apply ByteArray.ext
  simp [ByteArray.data_append]

set_option maxHeartbeats 1000000 in
theorem signed_c (sg z : Int) (hs : z ≠ 0 → sg = z.sign) (o : Option Addr) (c : Nat) (w : World) (hw : Wd w) (h : IntAt w o (Bg.ds z.natAbs)) (hl : (Bg.ds z.natAbs).length ≤ 1000000) :
    Calls Tryz.prog 99 #[.int .i64 sg, .slice o (Bg.ds z.natAbs).length c] w (RetS z o c w) := by
  have hcnt := fun (W : World) (hb : Below w.heap.size w W) => count_c o c z.natAbs W (hw.below hb) (h.mono hb) hl
  have HCN := Lib.hid hcnt
  clear hcnt
  refine callsS (fun hf => ?_) (fun hf => ?_)
  · have hd : decide ((400 : Int) < ((Lib.nDigits z.natAbs : Nat) : Int)) = false := decide_eq_false (by unfold Few at hf; omega)
    clear hf
    by_cases h0 : z = 0
    · have dz : (((Bg.ds z.natAbs).length : Int) == 0) = true := by rw [(sign_zero_iff z).2 h0]; rfl
      have HS := Lib.hid (show z.sign = 0 by rw [h0]; rfl)
      clear h0 hs
      generalize hnd : Lib.nDigits z.natAbs = nd at *
      clear hnd
      go_enter Tryz.func99, Tryz.ntmps99
      go_wp2_with fail
      refine (HCN.out _ ((Below.refl _ w).alloc (Nat.le_refl _) _)).mono ?_
      rintro e w1 ⟨rfl, hb1⟩
      have hN : NB w1 w.heap.size (.int .i64 0) (.slice none 0 0) := (NB.new w (.int .i64 0) (.slice none 0 0)).below hb1 (by simp)
      have c0 := hN.c0
      have c1 := hN.c1
      have f0 := hN.f0
      have f1 := hN.f1
      have HN := Lib.hid hN
      clear hN
      have HW1 := Lib.hid (((Below.refl _ w).alloc (Nat.le_refl _) (.cells #[.int .i64 0, .slice none 0 0] 61)).trans (hb1.mono (by simp)))
      clear hb1
      go_wp2_with fail
      have hN2 := HN.out.put (.int .i64 0) (.slice o (Bg.ds z.natAbs).length c)
      have hb2 := below_put (B := w.heap.size) HW1.out (Nat.le_refl _) (.int .i64 0) (.slice o (Bg.ds z.natAbs).length c)
      refine ret_box rfl rfl rfl hN2 ⟨?_, hb2⟩
      unfold numV
      rw [HS.out]
    · obtain rfl := hs h0
      have dz : (((Bg.ds z.natAbs).length : Int) == 0) = false := beq_eq_false_iff_ne.2 (by have := mt (sign_zero_iff z).1 h0; omega)
      clear h0 hs
      generalize hnd : Lib.nDigits z.natAbs = nd at *
      clear hnd
      go_enter Tryz.func99, Tryz.ntmps99
      go_wp2_with fail
      refine (HCN.out _ ((Below.refl _ w).alloc (Nat.le_refl _) _)).mono ?_
      rintro e w1 ⟨rfl, hb1⟩
      have hN : NB w1 w.heap.size (.int .i64 0) (.slice none 0 0) := (NB.new w (.int .i64 0) (.slice none 0 0)).below hb1 (by simp)
      have c0 := hN.c0
      have c1 := hN.c1
      have f0 := hN.f0
      have f1 := hN.f1
      have HN := Lib.hid hN
      clear hN
      have HW1 := Lib.hid (((Below.refl _ w).alloc (Nat.le_refl _) (.cells #[.int .i64 0, .slice none 0 0] 61)).trans (hb1.mono (by simp)))
      clear hb1
      go_wp2_with fail
      have hN2 := HN.out.put (.int .i64 z.sign) (.slice o (Bg.ds z.natAbs).length c)
      have hb2 := below_put (B := w.heap.size) HW1.out (Nat.le_refl _) (.int .i64 z.sign) (.slice o (Bg.ds z.natAbs).length c)
      exact ret_box rfl rfl rfl hN2 ⟨rfl, hb2⟩
  · have hd : decide ((400 : Int) < ((Lib.nDigits z.natAbs : Nat) : Int)) = true := decide_eq_true (by unfold Few at hf; omega)
    clear hf hs
    generalize hnd : Lib.nDigits z.natAbs = nd at *
    clear hnd
    go_enter Tryz.func99, Tryz.ntmps99
    go_wp2_with fail
    refine (HCN.out _ ((Below.refl _ w).alloc (Nat.le_refl _) _)).mono ?_
    rintro e w1 ⟨rfl, hb1⟩
    have HW1 := Lib.hid (((Below.refl _ w).alloc (Nat.le_refl _) (.cells #[.int .i64 0, .slice none 0 0] 61)).trans (hb1.mono (by simp)))
    clear hb1
    go_wp2_with fail
    exact ⟨rfl, rfl, HW1.out⟩

theorem small_c (n : Nat) (h0 : n ≠ 0) (h1 : n < 1000000) (w : World) :
    Calls Tryz.prog 86 #[.int .i64 n] w (RetNum n w) := by
  have hds : Bg.ds ((n : Int).natAbs) = [(n : Int)] := by
    rw [Int.natAbs_natCast, Bg.ds_pos h0, Nat.mod_eq_of_lt h1, Nat.div_eq_of_lt h1, Bg.ds_zero]
  have hs : (n : Int).sign = 1 := Int.sign_eq_one_of_pos (by omega)
  have hf : Few n := few_lt (Nat.lt_of_lt_of_le h1 (by rw [show (1000000 : Nat) = 10 ^ 6 by decide]; exact Nat.pow_le_pow_right (by decide) (by decide)))
  have HDs := Lib.hid hds
  have HS := Lib.hid hs
  have HF := Lib.hid hf
  clear hds hs hf
  go_enter Tryz.func86, Tryz.ntmps86
  go_wp2_with fail
  have hN := (NB.new w (.int .i64 1) (.slice (some ⟨w.heap.size + 1, 0, none⟩) 1 1)).alloc (.cells #[.int .i64 n] 3)
  have hb : Below w.heap.size w ((w.alloc (.cells #[.int .i64 1, .slice (some ⟨w.heap.size + 1, 0, none⟩) 1 1] 61)).alloc (.cells #[.int .i64 n] 3)) := ((Below.refl _ w).alloc (Nat.le_refl _) _).alloc (by simp) _
  refine ret_box rfl rfl rfl hN ⟨some ⟨w.heap.size + 1, 0, none⟩, 1, ?_, ⟨HF.out, ?_⟩, hb, fun b e => by cases e; omega⟩
  · unfold numV
    rw [HS.out, HDs.out]
    rfl
  · rw [HDs.out]
    intro k x hx
    cases k with
    | succ k => simp at hx
    | zero =>
      simp at hx
      subst hx
      exact ⟨w.heap.size + 1, rfl, by simp, (Lib.cell_of_heap (heap2 _ _ _) 0).trans rfl⟩

set_option maxHeartbeats 1000000 in
theorem text_c (z : Int) (o : Option Addr) (c : Nat) (w : World) (hw : Wd w) (h : NumAt w o z) :
    Calls Tryz.prog 85 #[numV z o c] w fun e w' => e = .returned (.string ⟨(Lib.itoa z).toArray⟩) ∧ Below w.heap.size w w' := by
  have hl := h.few.len
  have hdec := fun (W : World) (hb : Below w.heap.size w W) => decimal_c o c z.natAbs W (hw.below hb) (h.at_.mono hb) (by omega)
  have HD := Lib.hid hdec
  unfold numV
  have hI : Lib.itoa z = if z < 0 then 45 :: Lib.decDigits z.natAbs else Lib.decDigits z.natAbs := by
    unfold Lib.itoa; split
    · rfl
    · rw [show z.toNat = z.natAbs by omega]
  have HI := Lib.hid hI
  have hdl : (Lib.decDigits z.natAbs).length ≤ 1000 := by rw [Lib.decDigits_length]; have := h.few; unfold Few at this; omega
  have HL := Lib.hid hdl
  clear hdl
  generalize Lib.decDigits z.natAbs = dd at *
  generalize Lib.itoa z = it at *
  clear hdec hI
  by_cases hn : z < 0
  · have dn : decide (z.sign < 0) = true := decide_eq_true (Int.sign_neg_iff.2 hn)
    go_enter Tryz.func85, Tryz.ntmps85
    go_wp2_with fail
    refine (HD.out _ ((Below.refl _ w).alloc (Nat.le_refl _) _)).mono ?_
    rintro e w1 ⟨rfl, hb1⟩
    have HB1 := Lib.hid (((Below.refl _ w).alloc (Nat.le_refl _) (.cells #[.int .i64 z.sign, .slice o (Bg.ds z.natAbs).length c] 61)).trans (hb1.mono (by simp)))
    clear hb1
    go_wp2_with fail
    · exfalso
      have := HL.out
      simp at *
      omega
    refine bodyPost_ret (v := .string (⟨#[45]⟩ ++ ⟨dd.toArray⟩)) ?_ rfl ⟨?_, HB1.out⟩
    · simp [results, Tryz.results85, go_sem]
    · rw [HI.out, if_pos (by omega)]
      exact congrArg (fun t => Ending.returned (.string t)) (ba_append [45] dd)
  · have dn : decide (z.sign < 0) = false := decide_eq_false (fun h => hn (Int.sign_neg_iff.1 h))
    go_enter Tryz.func85, Tryz.ntmps85
    go_wp2_with fail
    refine (HD.out _ ((Below.refl _ w).alloc (Nat.le_refl _) _)).mono ?_
    rintro e w1 ⟨rfl, hb1⟩
    have HB1 := Lib.hid (((Below.refl _ w).alloc (Nat.le_refl _) (.cells #[.int .i64 z.sign, .slice o (Bg.ds z.natAbs).length c] 61)).trans (hb1.mono (by simp)))
    clear hb1
    go_wp2_with fail
    go_ret
    exact ⟨ret_str (by rw [HI.out, if_neg (by omega)]), HB1.out⟩
end Go.Proofs.YthbfbpbppjkoeaaGreatDoor
