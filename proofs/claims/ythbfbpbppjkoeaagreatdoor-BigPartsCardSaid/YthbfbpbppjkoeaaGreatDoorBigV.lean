/- Contracts of isText, textOf, valOf, Of of package big. Conditions: those in the statements. -/
import Derived.Test.YthbfbpbppjkoeaaGreatDoorBigQ
namespace Go.Proofs.YthbfbpbppjkoeaaGreatDoor
open Go.RowKit Go.Shelf
set_option exponentiation.threshold 500
set_option maxRecDepth 100000

theorem trim_digits (l : List UInt8) : (Lib.trimLeftS l [48, 49, 50, 51, 52, 53, 54, 55, 56, 57]).isEmpty = l.all Bg.isDig := by
  unfold Lib.trimLeftS
  induction l with
  | nil => rfl
  | cons b r ih =>
    rw [List.dropWhile_cons, List.all_cons]
    have hb : ([48, 49, 50, 51, 52, 53, 54, 55, 56, 57] : List UInt8).contains b = Bg.isDig b := by
      have key : ∀ n : Fin 256, ([48, 49, 50, 51, 52, 53, 54, 55, 56, 57] : List UInt8).contains (UInt8.ofFin n) = Bg.isDig (UInt8.ofFin n) := by decide
      exact key b.toFin
    rw [hb]
    by_cases h : Bg.isDig b = true
    · rw [if_pos h, ih, h, Bool.true_and]
    · rw [if_neg h, Bool.eq_false_iff.2 h]; rfl
theorem beq_decide (s t : List UInt8) : (s == t) = decide (s = t) := by
  rw [Bool.eq_iff_iff]; simp

set_option maxHeartbeats 1000000 in
theorem isText_c (s : List UInt8) (w : World) :
    Calls Tryz.prog 46 #[.string ⟨s.toArray⟩] w fun e w' => e = .returned (.bool (Bg.okT s)) ∧ Below w.heap.size w w' := by
  have htp := fun W => Tryz.strings_TrimPrefix ⟨s.toArray⟩ ⟨#[45]⟩ W
  have hok : Bg.okT s = (!(Lib.trimPrefix s [45]).isEmpty && decide ((Lib.trimPrefix s [45]).length ≤ 400) && (if (Lib.trimPrefix s [45]).head? = some 48 then decide (s = [48]) else (Lib.trimPrefix s [45]).all Bg.isDig)) := rfl
  have hdl : (Lib.trimPrefix s [45]).length ≤ s.length := by unfold Lib.trimPrefix; split <;> simp
  have e1 : (⟨s.toArray⟩ : ByteArray).data.toList = s := by simp
  have e2 : (⟨#[45]⟩ : ByteArray).data.toList = [45] := rfl
  rw [e1, e2] at htp
  generalize Lib.trimPrefix s [45] = d at *
  have HTp := Lib.hid htp
  have HOk := Lib.hid hok
  have HTl := Lib.hid (trimDigits_c d)
  have hsz : (⟨d.toArray⟩ : ByteArray).size = d.length := by simp [ByteArray.size]
  clear htp hok e1 e2
  by_cases h0 : d = []
  · subst h0
    go_enter Tryz.func46, Tryz.ntmps46
    go_wp2_with fail
    refine (HTp.out _).mono ?_
    rintro e w1 ⟨rfl, rfl⟩
    go_wp2_with fail
    go_ret
    exact ⟨ret_bool (by rw [HOk.out]; rfl), Below.refl _ _⟩
  · obtain ⟨b, r, rfl⟩ : ∃ b r, d = b :: r := by
      cases d with
      | nil => exact absurd rfl h0
      | cons b r => exact ⟨b, r, rfl⟩
    clear h0
    rw [List.length_cons] at hsz hdl
    have hget : ∀ h, (⟨(b :: r).toArray⟩ : ByteArray)[0]'h = b := fun _ => rfl
    by_cases hlong : 400 < r.length + 1
    · have dl : decide ((400 : Int) < ((r.length + 1 : Nat) : Int)) = true := decide_eq_true (by omega)
      have dl2 : decide ((400 : Int) < (r.length : Int) + 1) = true := decide_eq_true (by omega)
      have HL := Lib.hid hlong
      clear hlong
      go_enter Tryz.func46, Tryz.ntmps46
      go_wp2_with fail
      refine (HTp.out _).mono ?_
      rintro e w1 ⟨rfl, rfl⟩
      go_wp2_with fail
      go_ret
      exact ⟨ret_bool (by rw [HOk.out, List.length_cons, decide_eq_false (by have := HL.out; omega)]; simp), Below.refl _ _⟩
    · have dl : decide ((400 : Int) < ((r.length + 1 : Nat) : Int)) = false := decide_eq_false (by omega)
      have dl2 : decide ((400 : Int) < (r.length : Int) + 1) = false := decide_eq_false (by omega)
      have HL := Lib.hid hlong
      clear hlong
      by_cases hz : b = 48
      · have db : ((b.toNat : Int) == 48) = true := by rw [hz]; rfl
        have HZ := Lib.hid hz
        clear hz
        go_enter Tryz.func46, Tryz.ntmps46
        go_wp2_with fail
        refine (HTp.out _).mono ?_
        rintro e w1 ⟨rfl, rfl⟩
        go_wp2_with fail
        go_ret
        exact ⟨ret_bool (by rw [HOk.out, List.length_cons, decide_eq_true (by have := HL.out; omega), List.head?_cons, if_pos (by rw [HZ.out]), beq_decide]; rfl), Below.refl _ _⟩
      · have db : ((b.toNat : Int) == 48) = false := beq_eq_false_iff_ne.2 (fun e => hz (UInt8.toNat_inj.1 (by have : (48 : UInt8).toNat = 48 := rfl; omega)))
        have HZ := Lib.hid hz
        clear hz
        go_enter Tryz.func46, Tryz.ntmps46
        go_wp2_with fail
        refine (HTp.out _).mono ?_
        rintro e w1 ⟨rfl, rfl⟩
        go_wp2_with fail
        refine (HTl.out _).mono ?_
        rintro e w2 ⟨rfl, hb2⟩
        have HB2 := Lib.hid hb2
        clear hb2
        go_wp2_with fail
        go_ret
        exact ⟨ret_bool (by rw [HOk.out, List.length_cons, decide_eq_true (by have := HL.out; omega), List.head?_cons, if_neg (fun e => HZ.out (Option.some.inj e)), trim_digits]; rfl), HB2.out⟩

/-- The number fits 64 bits. -/
def In64Z (z : Int) : Prop := -9223372036854775808 ≤ z ∧ z ≤ 9223372036854775807
instance (z : Int) : Decidable (In64Z z) := inferInstanceAs (Decidable (_ ∧ _))
def valV (K N : Int) (T : List UInt8) : Value := .agg #[.int .i64 K, .int .i64 N, .string ⟨T.toArray⟩]
/-- The value of a number as it is told. -/
def canonV (z : Int) : Value := if In64Z z then valV 1 z [] else valV 2 0 (Lib.itoa z)
/-- The text of a value, if it is a number's. -/
def textV (K N : Int) (T : List UInt8) : List UInt8 := if K = 1 then Lib.itoa N else T

set_option maxHeartbeats 1000000 in
theorem textOf_c (K N : Int) (T : List UInt8) (hN : In64Z N) (w : World) (hw : Wd w) :
    Calls Tryz.prog 50 #[valV K N T] w fun e w' => e = .returned (.string ⟨(textV K N T).toArray⟩) ∧ Below w.heap.size w w' := by
  have hI := fun (W : World) (hB : Below w.heap.size w W) => itoa_c N hN.1 hN.2 W (hw.below hB)
  have HI := Lib.hid hI
  clear hI hw
  unfold valV textV
  by_cases hK : K = 1
  · have dk : (K == 1) = true := beq_iff_eq.2 hK
    rw [if_pos hK]
    clear hK
    generalize Lib.itoa N = t at *
    go_enter Tryz.func50, Tryz.ntmps50
    go_wp2_with fail
    refine (HI.out _ ((Below.refl _ w).alloc (Nat.le_refl _) _)).mono ?_
    rintro e w1 ⟨rfl, hb1⟩
    have HB1 := Lib.hid (((Below.refl _ w).alloc (Nat.le_refl _) (.cells #[.int .i64 K, .int .i64 N, .string ⟨T.toArray⟩] 23)).trans (hb1.mono (by simp)))
    clear hb1
    go_wp2_with fail
    go_ret
    exact ⟨rfl, HB1.out⟩
  · have dk : (K == 1) = false := beq_eq_false_iff_ne.2 hK
    rw [if_neg hK]
    clear hK
    go_enter Tryz.func50, Tryz.ntmps50
    go_wp2_with fail
    go_ret
    exact ⟨rfl, (Below.refl _ w).alloc (Nat.le_refl _) _⟩

/-- A box that holds a value's three cells. -/
def VB (W : World) (B : Nat) (u v x : Value) : Prop := W.heap[B]? = some (.cells #[u, v, x] 23 (0, 0))
theorem VB.lt {W : World} {B : Nat} {u v x : Value} (h : VB W B u v x) : B < W.heap.size := (Array.getElem?_eq_some_iff.1 h).1
theorem VB.c0 {W : World} {B : Nat} {u v x : Value} (h : VB W B u v x) : W.cell? ⟨B, 0, none⟩ = some u := (Lib.cell_of_heap h 0).trans rfl
theorem VB.c1 {W : World} {B : Nat} {u v x : Value} (h : VB W B u v x) : W.cell? ⟨B, 1, none⟩ = some v := (Lib.cell_of_heap h 1).trans rfl
theorem VB.c2 {W : World} {B : Nat} {u v x : Value} (h : VB W B u v x) : W.cell? ⟨B, 2, none⟩ = some x := (Lib.cell_of_heap h 2).trans rfl
theorem VB.fz {W : World} {B : Nat} {u v x : Value} (h : VB W B u v x) (i : Nat) : W.frozen? ⟨B, i, none⟩ = false := Lib.frozen_of_heap h i
theorem VB.new (W : World) (u v x : Value) : VB (W.alloc (.cells #[u, v, x] 23)) W.heap.size u v x := World.alloc_heap_new W _
theorem VB.below {W W' : World} {n B : Nat} {u v x : Value} (h : VB W B u v x) (hb : Below n W W') (hn : B < n) : VB W' B u v x := (hb.block B hn).trans h
theorem VB.alloc {W : World} {B : Nat} {u v x : Value} (h : VB W B u v x) (o : Obj) : VB (W.alloc o) B u v x := (Below.alloc (Below.refl W.heap.size W) (Nat.le_refl _) o).block B h.lt |>.trans h
theorem VB.put {W : World} {B : Nat} {u v x : Value} (h : VB W B u v x) (a b c : Value) : VB (((W.setCell ⟨B, 0, none⟩ a).setCell ⟨B, 1, none⟩ b).setCell ⟨B, 2, none⟩ c) B a b c := by
  have st : ∀ {W : World} {u v x : Value} (i : Nat) (y : Value), VB W B u v x → (W.setCell ⟨B, i, none⟩ y).heap[B]? = some (.cells (#[u, v, x].setIfInBounds i y) 23 (0, 0)) := fun {W u v x} i y h => by
    obtain ⟨hlt, hk⟩ := Array.getElem?_eq_some_iff.1 h
    show (W.heap.modify B _)[B]? = _
    rw [Array.getElem?_eq_getElem (by rw [Array.size_modify]; exact hlt), Array.getElem_modify_self, hk]
    rfl
  have h1 : VB (W.setCell ⟨B, 0, none⟩ a) B a v x := st 0 a h
  have h2 : VB ((W.setCell ⟨B, 0, none⟩ a).setCell ⟨B, 1, none⟩ b) B a b x := st 1 b h1
  exact st 2 c h2
theorem VB.other {W : World} {B : Nat} {u v x : Value} (h : VB W B u v x) (p : Addr) (hp : p.block ≠ B) (y : Value) : VB (W.setCell p y) B u v x :=
  (Below.heap_setCell W p y B (fun e => hp e.symm)).trans h
theorem below_put3 {n B : Nat} {w W : World} (h : Below n w W) (hB : n ≤ B) (x y z : Value) : Below n w (((W.setCell ⟨B, 0, none⟩ x).setCell ⟨B, 1, none⟩ y).setCell ⟨B, 2, none⟩ z) := (below_put h hB x y).setCell (p := ⟨B, 2, none⟩) hB z

theorem ret_val {f : Func} {R : Ending → World → Prop} {a : Act} {W : World} {B : Nat} {t : Tmp} {u v x : Value} (hres : f.results = #[.cell t 23]) (hB : a.tmps.getD t undef = .pointer (some ⟨B, 0, none⟩)) (hd : a.defers = [])
    (hN : VB W B u v x) (hR : R (.returned (.agg #[u, v, x])) W) : bodyPost Tryz.prog f R .ret a W := by
  have c0 := hN.c0
  have c1 := hN.c1
  have c2 := hN.c2
  rw [Array.getD_eq_getD_getElem?] at hB
  refine bodyPost_ret (v := .agg #[u, v, x]) ?_ hd hR
  simp [results, hres, hB, go_sem, c0, c1, c2]
theorem ret_val_err {f : Func} {R : Ending → World → Prop} {a : Act} {W : World} {B : Nat} {t t' : Tmp} {u v x y : Value} (hres : f.results = #[.cell t 23, .tmp t']) (hB : a.tmps.getD t undef = .pointer (some ⟨B, 0, none⟩)) (hy : a.tmps.getD t' undef = y) (hd : a.defers = [])
    (hN : VB W B u v x) (hR : R (.returned (.tuple #[.agg #[u, v, x], y])) W) : bodyPost Tryz.prog f R .ret a W := by
  have c0 := hN.c0
  have c1 := hN.c1
  have c2 := hN.c2
  rw [Array.getD_eq_getD_getElem?] at hB hy
  refine bodyPost_ret (v := .tuple #[.agg #[u, v, x], y]) ?_ hd hR
  simp [results, hres, hB, hy, go_sem, c0, c1, c2]

/-- The text of a number that has no 64 bits: what Atoi answers. -/
theorem atoi_num (z : Int) (hf : Few z) (w : World) (hw : Wd w) :
    Calls Tryz.prog 77 #[.string ⟨(Lib.itoa z).toArray⟩] w fun e w' => (if In64Z z then e = .returned (.tuple #[.int .i64 z, .nilIface]) else ∃ n N, e = .returned (.tuple #[.int .i64 n, .iface 137 (.pointer (some ⟨N, 0, none⟩))])) ∧ Below w.heap.size w w' := by
  have hl : (Lib.itoa z).length ≤ 1000 := by
    unfold Few at hf
    unfold Lib.itoa
    split
    · rw [List.length_cons, Lib.decDigits_length]; omega
    · rw [Lib.decDigits_length, show z.toNat = z.natAbs by omega]; omega
  have ha : Lib.atoiAll (Lib.itoa z) = if In64Z z then .ok z else .range := Bg.atoi_itoa z
  have e1 : (⟨(Lib.itoa z).toArray⟩ : ByteArray).data.toList = Lib.itoa z := by simp
  have e2 : (⟨(Lib.itoa z).toArray⟩ : ByteArray).size = (Lib.itoa z).length := by simp [ByteArray.size]
  by_cases h : In64Z z
  · rw [if_pos h] at ha
    simp only [if_pos h]
    refine (Tryz.strconv_Atoi_ok ⟨(Lib.itoa z).toArray⟩ (by rw [e2]; omega) z (by rw [e1]; exact ha) w).mono ?_
    rintro e w' ⟨rfl, rfl | ⟨t, rfl⟩⟩
    · exact ⟨rfl, Below.refl _ _⟩
    · exact ⟨rfl, Lib.bytesWorld_below _ _ _⟩
  · rw [if_neg h] at ha
    simp only [if_neg h]
    obtain ⟨ev, hv, hev⟩ := hw.rng
    refine (Tryz.strconv_Atoi_range ⟨(Lib.itoa z).toArray⟩ (by rw [e2]; omega) (by rw [e1]; exact ha) ev w hv hev).mono ?_
    rintro e w' ⟨N, rfl, _, _, hb⟩
    exact ⟨⟨_, N, rfl⟩, hb⟩

set_option maxHeartbeats 1000000 in
theorem valOf_c (z : Int) (hf : Few z) (w : World) (hw : Wd w) :
    Calls Tryz.prog 47 #[.string ⟨(Lib.itoa z).toArray⟩] w fun e w' => e = .returned (canonV z) ∧ Below w.heap.size w w' := by
  have HA := Lib.hid (fun (W : World) (hB : Below w.heap.size w W) => atoi_num z hf W (hw.below hB))
  clear hf hw
  unfold canonV valV
  by_cases h : In64Z z
  · simp only [if_pos h] at HA ⊢
    clear h
    generalize Lib.itoa z = t at *
    go_enter Tryz.func47, Tryz.ntmps47
    go_wp2_with fail
    refine (HA.out _ ((Below.refl _ w).alloc (Nat.le_refl _) _)).mono ?_
    rintro e w1 ⟨rfl, hb1⟩
    have hN := (VB.new w (.int .i64 0) (.int .i64 0) (.string ⟨#[]⟩)).below hb1 (by simp)
    have HB1 := Lib.hid (((Below.refl _ w).alloc (Nat.le_refl _) (.cells #[.int .i64 0, .int .i64 0, .string ⟨#[]⟩] 23)).trans (hb1.mono (by simp)))
    clear hb1
    have c0 := hN.c0
    have c1 := hN.c1
    have c2 := hN.c2
    have f0 := hN.fz 0
    have f1 := hN.fz 1
    have f2 := hN.fz 2
    have HN := Lib.hid hN
    clear hN
    go_wp2_with fail
    exact ret_val rfl rfl rfl (HN.out.put (.int .i64 1) (.int .i64 z) (.string ⟨#[]⟩)) ⟨rfl, below_put3 HB1.out (Nat.le_refl _) _ _ _⟩
  · simp only [if_neg h] at HA ⊢
    clear h
    generalize Lib.itoa z = t at *
    go_enter Tryz.func47, Tryz.ntmps47
    go_wp2_with fail
    refine (HA.out _ ((Below.refl _ w).alloc (Nat.le_refl _) _)).mono ?_
    rintro e w1 ⟨⟨n, N, rfl⟩, hb1⟩
    have hN := (VB.new w (.int .i64 0) (.int .i64 0) (.string ⟨#[]⟩)).below hb1 (by simp)
    have HB1 := Lib.hid (((Below.refl _ w).alloc (Nat.le_refl _) (.cells #[.int .i64 0, .int .i64 0, .string ⟨#[]⟩] 23)).trans (hb1.mono (by simp)))
    clear hb1
    have c0 := hN.c0
    have c1 := hN.c1
    have c2 := hN.c2
    have f0 := hN.fz 0
    have f1 := hN.fz 1
    have f2 := hN.fz 2
    have HN := Lib.hid hN
    clear hN
    go_wp2_with fail
    exact ret_val rfl rfl rfl (HN.out.put (.int .i64 2) (.int .i64 0) (.string ⟨t.toArray⟩)) ⟨rfl, below_put3 HB1.out (Nat.le_refl _) _ _ _⟩

theorem canon_agg (z : Int) : ∃ (K N : Int) (T : List UInt8), canonV z = .agg #[.int .i64 K, .int .i64 N, .string ⟨T.toArray⟩] := by
  unfold canonV valV; split <;> exact ⟨_, _, _, rfl⟩

set_option maxHeartbeats 1000000 in
theorem of_ok (z : Int) (hf : Few z) (w : World) (hw : Wd w) :
    Calls Tryz.prog 17 #[.string ⟨(Lib.itoa z).toArray⟩] w fun e w' => e = .returned (.tuple #[canonV z, .int .i64 0]) ∧ Below w.heap.size w w' := by
  have hi := isText_c (Lib.itoa z)
  rw [Bg.okT_itoa z hf] at hi
  have HI := Lib.hid hi
  have HV := Lib.hid (fun (W : World) (hB : Below w.heap.size w W) => valOf_c z hf W (hw.below hB))
  clear hi hf hw
  obtain ⟨K, N, T, hc⟩ := canon_agg z
  rw [hc] at HV ⊢
  clear hc
  generalize Lib.itoa z = t at *
  go_enter Tryz.func17, Tryz.ntmps17
  go_wp2_with fail
  refine (HI.out _).mono ?_
  rintro e w1 ⟨rfl, hb1⟩
  have hN1 := (VB.new w (.int .i64 0) (.int .i64 0) (.string ⟨#[]⟩)).below hb1 (by simp)
  have HN1 := Lib.hid hN1
  have HB1 := Lib.hid (((Below.refl _ w).alloc (Nat.le_refl _) (.cells #[.int .i64 0, .int .i64 0, .string ⟨#[]⟩] 23)).trans (hb1.mono (by simp)))
  clear hb1 hN1
  go_wp2_with fail
  refine (HV.out _ HB1.out).mono ?_
  rintro e w2 ⟨rfl, hb2⟩
  have hN := HN1.out.below hb2 HN1.out.lt
  have HB2 := Lib.hid (HB1.out.trans (hb2.mono HB1.out.size))
  clear hb2
  have c0 := hN.c0
  have c1 := hN.c1
  have c2 := hN.c2
  have f0 := hN.fz 0
  have f1 := hN.fz 1
  have f2 := hN.fz 2
  have HN := Lib.hid hN
  clear hN
  go_wp2_with fail
  exact ret_val_err rfl rfl rfl rfl (HN.out.put (.int .i64 K) (.int .i64 N) (.string ⟨T.toArray⟩)) ⟨rfl, below_put3 HB2.out (Nat.le_refl _) _ _ _⟩

set_option maxHeartbeats 1000000 in
theorem of_no (s : List UInt8) (hf : Bg.okT s = false) (w : World) :
    Calls Tryz.prog 17 #[.string ⟨s.toArray⟩] w fun e w' => e = .returned (.tuple #[valV 0 0 [], .int .i64 31]) ∧ Below w.heap.size w w' := by
  have hi := isText_c s
  rw [hf] at hi
  have HI := Lib.hid hi
  clear hi hf
  unfold valV
  go_enter Tryz.func17, Tryz.ntmps17
  go_wp2_with fail
  refine (HI.out _).mono ?_
  rintro e w1 ⟨rfl, hb1⟩
  have hN := (VB.new w (.int .i64 0) (.int .i64 0) (.string ⟨#[]⟩)).below hb1 (by simp)
  have HB1 := Lib.hid (((Below.refl _ w).alloc (Nat.le_refl _) (.cells #[.int .i64 0, .int .i64 0, .string ⟨#[]⟩] 23)).trans (hb1.mono (by simp)))
  clear hb1
  have c0 := hN.c0
  have c1 := hN.c1
  have c2 := hN.c2
  have f0 := hN.fz 0
  have f1 := hN.fz 1
  have f2 := hN.fz 2
  have HN := Lib.hid hN
  clear hN
  go_wp2_with fail
  exact ret_val_err rfl rfl rfl rfl (HN.out.put (.int .i64 0) (.int .i64 0) (.string ⟨#[]⟩)) ⟨rfl, below_put3 HB1.out (Nat.le_refl _) _ _ _⟩
end Go.Proofs.YthbfbpbppjkoeaaGreatDoor
