/- Contracts of limited and its deferred literal, of rules, of package big. Conditions: those in the statements. -/
import Derived.Test.YthbfbpbppjkoeaaGreatDoorBigV
import Derived.Test.YthbfbpbppjkoeaaGreatDoorBigRo
import Derived.Defers
import Derived.Recover
import Derived.Laws.EntriesVeiled
namespace Go.Proofs.YthbfbpbppjkoeaaGreatDoor
open Go.RowKit Go.Shelf
set_option exponentiation.threshold 500
set_option maxRecDepth 100000

theorem assert_hit (w : World) : (Instr.typeAssert (.iface 102 (.agg #[])) 20 102 true).run Tryz.prog w = .ok (.tuple #[.agg #[], .bool true]) w := by kernel_rfl
theorem assert_nil (w : World) : (Instr.typeAssert .nilIface 20 102 true).run Tryz.prog w = .ok (.tuple #[.agg #[], .bool false]) w := by kernel_rfl

theorem VB.set {W : World} {B : Nat} {u v x : Value} (h : VB W B u v x) (i : Nat) (y : Value) : (W.setCell ⟨B, i, none⟩ y).heap[B]? = some (.cells (#[u, v, x].setIfInBounds i y) 23 (0, 0)) := by
  obtain ⟨hlt, hk⟩ := Array.getElem?_eq_some_iff.1 h
  show (W.heap.modify B _)[B]? = _
  rw [Array.getElem?_eq_getElem (by rw [Array.size_modify]; exact hlt), Array.getElem_modify_self, hk]
  rfl
theorem VB.set0 {W : World} {B : Nat} {u v x : Value} (h : VB W B u v x) (y : Value) : VB (W.setCell ⟨B, 0, none⟩ y) B y v x := h.set 0 y
theorem VB.set1 {W : World} {B : Nat} {u v x : Value} (h : VB W B u v x) (y : Value) : VB (W.setCell ⟨B, 1, none⟩ y) B u y x := h.set 1 y
theorem boxed_other {W : World} {B : Nat} {t : TypeId} {v : Value} (h : Boxed W B t v) (p : Addr) (hp : p.block ≠ B) (y : Value) : Boxed (W.setCell p y) B t v := (Below.heap_setCell W p y B (fun e => hp e.symm)).trans h

set_option maxHeartbeats 1000000 in
theorem caught_c (Vb Eb : Nat) (u v x y : Value) (older : List PanicEntry) (w : World) (hV : VB w Vb u v x) (hE : Boxed w Eb 26 y) :
    CallsD Tryz.prog 84 #[.pointer (some ⟨Vb, 0, none⟩), .pointer (some ⟨Eb, 0, none⟩)] (.panicking ({ v := .iface 102 (.agg #[]), recovered := false } :: older)) w fun e u' w' =>
      e = .returned (.tuple #[]) ∧ u' = .panicking ({ v := .iface 102 (.agg #[]), recovered := true } :: older) ∧ VB w' Vb (.int .i64 0) (.int .i64 0) (.string ⟨#[]⟩) ∧ Boxed w' Eb 26 (.int .i64 2) ∧ (∀ n, n ≤ Vb → n ≤ Eb → n ≤ w.heap.size → Below n w w') := by
  refine callsD_of_wpS Tryz.func84 rfl fun c₀ cs hu => ?_
  simp only [Tryz.ntmps84, List.size_toArray, List.length_cons, List.length_nil, Nat.reduceAdd, Nat.reduceSub, Array.replicate_succ, Array.replicate_zero, List.push_toArray, List.append_toArray, List.nil_append, List.cons_append]
  apply wpS_seq
  apply wpS_region
  simp [wpOpsS, go_sem, recoverD, hu, Exit.thenS, assert_hit]
  refine wpS_of_wp ?_
  have v0 := fun o : Obj => (hV.alloc o).c0
  have v1 := fun o : Obj => (hV.alloc o).c1
  have v2 := fun o : Obj => (hV.alloc o).c2
  have g0 := fun o : Obj => (hV.alloc o).fz 0
  have g1 := fun o : Obj => (hV.alloc o).fz 1
  have g2 := fun o : Obj => (hV.alloc o).fz 2
  have e0 := fun o : Obj => (hE.alloc o).cell
  have e1 := fun o : Obj => (hE.alloc o).frozen
  have n1 : Vb ≠ Eb := fun e => by
    subst e
    have h1 := hV
    have h2 := hE
    unfold VB at h1
    rw [show w.heap[Vb]? = _ from h2] at h1
    cases h1
  have k1 := fun (o : Obj) (p : Value) => ((hV.set0 p).alloc o).c1
  have k2 := fun (o : Obj) (p : Value) => ((hV.set0 p).alloc o).fz 1
  have k3 := fun (o : Obj) (p q : Value) => (((hV.set0 p).set1 q).alloc o).c2
  have k4 := fun (o : Obj) (p q : Value) => (((hV.set0 p).set1 q).alloc o).fz 2
  have k5 := fun (o : Obj) (p q r : Value) => ((boxed_other (boxed_other (boxed_other hE ⟨Vb, 0, none⟩ n1 p) ⟨Vb, 1, none⟩ n1 q) ⟨Vb, 2, none⟩ n1 r).alloc o).cell
  have k6 := fun (o : Obj) (p q r : Value) => ((boxed_other (boxed_other (boxed_other hE ⟨Vb, 0, none⟩ n1 p) ⟨Vb, 1, none⟩ n1 q) ⟨Vb, 2, none⟩ n1 r).alloc o).frozen
  have hVl := hV.lt
  have hEl := hE.lt
  have HV := Lib.hid hV
  have HE := Lib.hid hE
  have hu := Lib.hid hu
  clear hV hE
  go_wp2_with fail
  refine ⟨rfl, _, rfl, .tuple #[], results_none rfl _ _ _, rfl, rfl, ?_, ?_, ?_⟩
  · exact ((HV.out.put _ _ _).other ⟨Eb, 0, none⟩ (fun e => n1 e.symm) _).alloc _
  · exact ((boxed_other (boxed_other (boxed_other HE.out ⟨Vb, 0, none⟩ n1 _) ⟨Vb, 1, none⟩ n1 _) ⟨Vb, 2, none⟩ n1 _).set (.int .i64 2)).alloc _
  · exact fun n h1 h2 h3 => ((below_put3 (Below.refl n w) h1 _ _ _).setCell (p := ⟨Eb, 0, none⟩) h2 _).alloc (by simpa [World.setCell] using h3) _

theorem idle_c (p q : Value) (w : World) :
    CallsD Tryz.prog 84 #[p, q] .returning w fun e u' w' => e = .returned (.tuple #[]) ∧ u' = .returning ∧ ∃ o, w' = w.alloc o := by
  refine callsD_of_wpS Tryz.func84 rfl fun c₀ cs hu => ?_
  simp only [Tryz.ntmps84, List.size_toArray, List.length_cons, List.length_nil, Nat.reduceAdd, Nat.reduceSub, Array.replicate_succ, Array.replicate_zero, List.push_toArray, List.append_toArray, List.nil_append, List.cons_append]
  apply wpS_seq
  apply wpS_region
  simp [wpOpsS, go_sem, recoverD, hu, Exit.thenS, assert_nil]
  refine wpS_of_wp ?_
  have hu0 := Lib.hid hu
  go_wp2_with fail
  refine ⟨rfl, .returning, ?_, .tuple #[], results_none rfl _ _ _, rfl, rfl, _, rfl⟩
  have := hu0.out
  cases c₀
  simp_all

/-- What a number makes that may be too large. -/
def RetLim (z : Int) (w : World) (e : Ending) (w' : World) : Prop := (if Few z then e = .returned (.tuple #[canonV z, .int .i64 0]) else e = .returned (.tuple #[valV 0 0 [], .int .i64 2])) ∧ Below w.heap.size w w'
/-- A number is returned, or reckoning ends. -/
def RetAny (z : Int) (w : World) (e : Ending) (w' : World) : Prop := (Few z → ∃ o c, e = .returned (numV z o c) ∧ NumAt w' o z ∧ Below w.heap.size w w') ∧ (¬ Few z → e = tooE ∧ Below w.heap.size w w')

set_option maxHeartbeats 1000000 in
theorem limited_c (z : Int) (fd : Nat) (caps : Array Value) (w : World) (hw : Wd w)
    (eg : ∀ args w, (callFunc fd args).run Tryz.prog w = .ok (.enter fd args) w)
    (hdo : ∀ W, Below w.heap.size w W → w.heap.size + 2 ≤ W.heap.size → Calls Tryz.prog fd caps W (RetAny z W)) :
    Calls Tryz.prog 65 #[.func (.func fd) #[] caps] w (RetLim z w) := by
  have hE0 := Boxed.new (w.alloc (.cells #[.int .i64 0, .int .i64 0, .string ⟨#[]⟩] 23)) 26 (.int .i64 0)
  rw [World.size_alloc] at hE0
  have HV0 := Lib.hid ((VB.new w (.int .i64 0) (.int .i64 0) (.string ⟨#[]⟩)).alloc (.cells #[.int .i64 0] 26))
  have HE0 := Lib.hid hE0
  have Hb0 := Lib.hid (((Below.refl _ w).alloc (Nat.le_refl _) (.cells #[.int .i64 0, .int .i64 0, .string ⟨#[]⟩] 23)).alloc (by simp) (.cells #[.int .i64 0] 26))
  have hdo1 := hdo _ Hb0.out (by simp)
  have HD := Lib.hid hdo1
  have HW := Lib.hid hw
  clear hE0 hdo hdo1 hw
  go_enter_defers Tryz.func65, Tryz.ntmps65
  go_wp2_with fail
  refine HD.out.mono ?_
  rintro e w1 hz
  by_cases hf : Few z
  · obtain ⟨o, c, rfl, hn, hb1⟩ := hz.1 hf
    have HV1 := Lib.hid (HV0.out.below hb1 HV0.out.lt)
    have HE1 := Lib.hid (show Boxed w1 (w.heap.size + 1) 26 (.int .i64 0) from (hb1.block _ (Boxed.lt HE0.out)).trans HE0.out)
    have Hb1 := Lib.hid (Hb0.out.trans (hb1.mono Hb0.out.size))
    have HT := Lib.hid (text_c z o c w1 (HW.out.below Hb1.out) hn)
    have HO := Lib.hid (fun (W : World) (hB : Below w.heap.size w W) => valOf_c z hf W (HW.out.below hB))
    have HF := Lib.hid hf
    obtain ⟨K, N, T, hc⟩ := canon_agg z
    rw [hc] at HO
    have HC := Lib.hid hc
    clear hz hb1 hn hf hc
    generalize numV z o c = nv at *
    generalize Lib.itoa z = t at *
    go_wp2_with fail
    refine HT.out.mono ?_
    rintro e w2 ⟨rfl, hb2⟩
    have HV2 := Lib.hid (HV1.out.below hb2 HV1.out.lt)
    have HE2 := Lib.hid (show Boxed w2 (w.heap.size + 1) 26 (.int .i64 0) from (hb2.block _ (Boxed.lt HE1.out)).trans HE1.out)
    have Hb2 := Lib.hid (Hb1.out.trans (hb2.mono Hb1.out.size))
    clear hb2
    go_wp2_with fail
    refine (HO.out _ Hb2.out).mono ?_
    rintro e w3 ⟨rfl, hb3⟩
    have hV3 := HV2.out.below hb3 HV2.out.lt
    have hE3 : Boxed w3 (w.heap.size + 1) 26 (.int .i64 0) := (hb3.block _ (Boxed.lt HE2.out)).trans HE2.out
    have Hb3 := Lib.hid (Hb2.out.trans (hb3.mono Hb2.out.size))
    have v0 := hV3.c0
    have v1 := hV3.c1
    have v2 := hV3.c2
    have g0 := hV3.fz 0
    have g1 := hV3.fz 1
    have g2 := hV3.fz 2
    have e0 := hE3.cell
    have e1 := hE3.frozen
    have HV3 := Lib.hid hV3
    have HE3 := Lib.hid hE3
    clear hb3 hV3 hE3
    go_wp2_with fail
    refine leaves_cons (f := 84) (args := #[.pointer (some ⟨w.heap.size, 0, none⟩), .pointer (some ⟨w.heap.size + 1, 0, none⟩)]) (by simp) (by simp [go_sem]) ?_
    refine (idle_c _ _ _).mono ?_
    rintro e u' w4 ⟨rfl, rfl, o', rfl⟩
    have hV4 := ((HV3.out.put (.int .i64 K) (.int .i64 N) (.string ⟨T.toArray⟩)).other ⟨w.heap.size + 1, 0, none⟩ (by simp) (.int .i64 0)).alloc o'
    have hE4 := ((boxed_other (boxed_other (boxed_other HE3.out ⟨w.heap.size, 0, none⟩ (by simp) (.int .i64 K)) ⟨w.heap.size, 1, none⟩ (by simp) (.int .i64 N)) ⟨w.heap.size, 2, none⟩ (by simp) (.string ⟨T.toArray⟩)).set (.int .i64 0)).alloc o'
    have hb4 := (((below_put3 (B := w.heap.size) Hb3.out (Nat.le_refl _) (.int .i64 K) (.int .i64 N) (.string ⟨T.toArray⟩)).setCell (p := ⟨w.heap.size + 1, 0, none⟩) (by simp) (.int .i64 0))).alloc (by have := Hb3.out.size; simpa [World.setCell] using this) o'
    have c0 := hV4.c0
    have c1 := hV4.c1
    have c2 := hV4.c2
    have c3 := hE4.cell
    refine ⟨.tuple #[.agg #[.int .i64 K, .int .i64 N, .string ⟨T.toArray⟩], .int .i64 0], ?_, ?_, hb4⟩
    · simp [results, Tryz.results65, go_sem, c0, c1, c2, c3]
    · rw [if_pos HF.out, HC.out]
  · obtain ⟨rfl, hb1⟩ := hz.2 hf
    have HV1 := Lib.hid (HV0.out.below hb1 HV0.out.lt)
    have HE1 := Lib.hid (show Boxed w1 (w.heap.size + 1) 26 (.int .i64 0) from (hb1.block _ (Boxed.lt HE0.out)).trans HE0.out)
    have Hb1 := Lib.hid (Hb0.out.trans (hb1.mono Hb0.out.size))
    have HF := Lib.hid hf
    clear hz hb1 hf
    unfold tooE
    go_wp2_with fail
    refine leaves_cons (f := 84) (args := #[.pointer (some ⟨w.heap.size, 0, none⟩), .pointer (some ⟨w.heap.size + 1, 0, none⟩)]) (by simp) (by simp [go_sem]) ?_
    refine (caught_c w.heap.size (w.heap.size + 1) _ _ _ _ [] w1 HV1.out HE1.out).mono ?_
    rintro e u' w4 ⟨rfl, rfl, hV4, hE4, hb4⟩
    have c0 := hV4.c0
    have c1 := hV4.c1
    have c2 := hV4.c2
    have c3 := hE4.cell
    refine ⟨.tuple #[.agg #[.int .i64 0, .int .i64 0, .string ⟨#[]⟩], .int .i64 2], ?_, ?_, Hb1.out.trans (hb4 _ (Nat.le_refl _) (by omega) Hb1.out.size)⟩
    · simp [results, Tryz.results65, go_sem, c0, c1, c2, c3]
    · rw [if_neg HF.out]; rfl
set_option maxHeartbeats 1000000 in
theorem limited_b (z : Int) (fd : Nat) (bd : Value) (w : World) (hw : Wd w)
    (eg : ∀ args w, (callFunc fd args).run Tryz.prog w = .ok (.enter fd args) w)
    (hdo : ∀ W, Below w.heap.size w W → w.heap.size + 2 ≤ W.heap.size → Calls Tryz.prog fd #[bd] W (RetAny z W)) :
    Calls Tryz.prog 65 #[.func (.func fd) #[bd] #[]] w (RetLim z w) := by
  have hE0 := Boxed.new (w.alloc (.cells #[.int .i64 0, .int .i64 0, .string ⟨#[]⟩] 23)) 26 (.int .i64 0)
  rw [World.size_alloc] at hE0
  have HV0 := Lib.hid ((VB.new w (.int .i64 0) (.int .i64 0) (.string ⟨#[]⟩)).alloc (.cells #[.int .i64 0] 26))
  have HE0 := Lib.hid hE0
  have Hb0 := Lib.hid (((Below.refl _ w).alloc (Nat.le_refl _) (.cells #[.int .i64 0, .int .i64 0, .string ⟨#[]⟩] 23)).alloc (by simp) (.cells #[.int .i64 0] 26))
  have hdo1 := hdo _ Hb0.out (by simp)
  have HD := Lib.hid hdo1
  have HW := Lib.hid hw
  clear hE0 hdo hdo1 hw
  go_enter_defers Tryz.func65, Tryz.ntmps65
  go_wp2_with fail
  refine HD.out.mono ?_
  rintro e w1 hz
  by_cases hf : Few z
  · obtain ⟨o, c, rfl, hn, hb1⟩ := hz.1 hf
    have HV1 := Lib.hid (HV0.out.below hb1 HV0.out.lt)
    have HE1 := Lib.hid (show Boxed w1 (w.heap.size + 1) 26 (.int .i64 0) from (hb1.block _ (Boxed.lt HE0.out)).trans HE0.out)
    have Hb1 := Lib.hid (Hb0.out.trans (hb1.mono Hb0.out.size))
    have HT := Lib.hid (text_c z o c w1 (HW.out.below Hb1.out) hn)
    have HO := Lib.hid (fun (W : World) (hB : Below w.heap.size w W) => valOf_c z hf W (HW.out.below hB))
    have HF := Lib.hid hf
    obtain ⟨K, N, T, hc⟩ := canon_agg z
    rw [hc] at HO
    have HC := Lib.hid hc
    clear hz hb1 hn hf hc
    generalize numV z o c = nv at *
    generalize Lib.itoa z = t at *
    go_wp2_with fail
    refine HT.out.mono ?_
    rintro e w2 ⟨rfl, hb2⟩
    have HV2 := Lib.hid (HV1.out.below hb2 HV1.out.lt)
    have HE2 := Lib.hid (show Boxed w2 (w.heap.size + 1) 26 (.int .i64 0) from (hb2.block _ (Boxed.lt HE1.out)).trans HE1.out)
    have Hb2 := Lib.hid (Hb1.out.trans (hb2.mono Hb1.out.size))
    clear hb2
    go_wp2_with fail
    refine (HO.out _ Hb2.out).mono ?_
    rintro e w3 ⟨rfl, hb3⟩
    have hV3 := HV2.out.below hb3 HV2.out.lt
    have hE3 : Boxed w3 (w.heap.size + 1) 26 (.int .i64 0) := (hb3.block _ (Boxed.lt HE2.out)).trans HE2.out
    have Hb3 := Lib.hid (Hb2.out.trans (hb3.mono Hb2.out.size))
    have v0 := hV3.c0
    have v1 := hV3.c1
    have v2 := hV3.c2
    have g0 := hV3.fz 0
    have g1 := hV3.fz 1
    have g2 := hV3.fz 2
    have e0 := hE3.cell
    have e1 := hE3.frozen
    have HV3 := Lib.hid hV3
    have HE3 := Lib.hid hE3
    clear hb3 hV3 hE3
    go_wp2_with fail
    refine leaves_cons (f := 84) (args := #[.pointer (some ⟨w.heap.size, 0, none⟩), .pointer (some ⟨w.heap.size + 1, 0, none⟩)]) (by simp) (by simp [go_sem]) ?_
    refine (idle_c _ _ _).mono ?_
    rintro e u' w4 ⟨rfl, rfl, o', rfl⟩
    have hV4 := ((HV3.out.put (.int .i64 K) (.int .i64 N) (.string ⟨T.toArray⟩)).other ⟨w.heap.size + 1, 0, none⟩ (by simp) (.int .i64 0)).alloc o'
    have hE4 := ((boxed_other (boxed_other (boxed_other HE3.out ⟨w.heap.size, 0, none⟩ (by simp) (.int .i64 K)) ⟨w.heap.size, 1, none⟩ (by simp) (.int .i64 N)) ⟨w.heap.size, 2, none⟩ (by simp) (.string ⟨T.toArray⟩)).set (.int .i64 0)).alloc o'
    have hb4 := (((below_put3 (B := w.heap.size) Hb3.out (Nat.le_refl _) (.int .i64 K) (.int .i64 N) (.string ⟨T.toArray⟩)).setCell (p := ⟨w.heap.size + 1, 0, none⟩) (by simp) (.int .i64 0))).alloc (by have := Hb3.out.size; simpa [World.setCell] using this) o'
    have c0 := hV4.c0
    have c1 := hV4.c1
    have c2 := hV4.c2
    have c3 := hE4.cell
    refine ⟨.tuple #[.agg #[.int .i64 K, .int .i64 N, .string ⟨T.toArray⟩], .int .i64 0], ?_, ?_, hb4⟩
    · simp [results, Tryz.results65, go_sem, c0, c1, c2, c3]
    · rw [if_pos HF.out, HC.out]
  · obtain ⟨rfl, hb1⟩ := hz.2 hf
    have HV1 := Lib.hid (HV0.out.below hb1 HV0.out.lt)
    have HE1 := Lib.hid (show Boxed w1 (w.heap.size + 1) 26 (.int .i64 0) from (hb1.block _ (Boxed.lt HE0.out)).trans HE0.out)
    have Hb1 := Lib.hid (Hb0.out.trans (hb1.mono Hb0.out.size))
    have HF := Lib.hid hf
    clear hz hb1 hf
    unfold tooE
    go_wp2_with fail
    refine leaves_cons (f := 84) (args := #[.pointer (some ⟨w.heap.size, 0, none⟩), .pointer (some ⟨w.heap.size + 1, 0, none⟩)]) (by simp) (by simp [go_sem]) ?_
    refine (caught_c w.heap.size (w.heap.size + 1) _ _ _ _ [] w1 HV1.out HE1.out).mono ?_
    rintro e u' w4 ⟨rfl, rfl, hV4, hE4, hb4⟩
    have c0 := hV4.c0
    have c1 := hV4.c1
    have c2 := hV4.c2
    have c3 := hE4.cell
    refine ⟨.tuple #[.agg #[.int .i64 0, .int .i64 0, .string ⟨#[]⟩], .int .i64 2], ?_, ?_, Hb1.out.trans (hb4 _ (Nat.le_refl _) (by omega) Hb1.out.size)⟩
    · simp [results, Tryz.results65, go_sem, c0, c1, c2, c3]
    · rw [if_neg HF.out]; rfl
end Go.Proofs.YthbfbpbppjkoeaaGreatDoor
