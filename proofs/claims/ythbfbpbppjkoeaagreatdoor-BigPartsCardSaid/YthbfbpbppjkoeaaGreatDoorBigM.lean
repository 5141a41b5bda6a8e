/- Contract of decimal of package big. Conditions: those in the statements. -/
import Derived.Test.YthbfbpbppjkoeaaGreatDoorBigL
namespace Go.Proofs.YthbfbpbppjkoeaaGreatDoor
open Go.RowKit Go.Shelf

attribute [local go_sem] Oper.semAt_some

theorem itoaM_c (d : Nat) (hd : d < 1000000) (w : World) (hw : Wd w) : Calls Tryz.prog 78 #[.int .i64 (1000000 + d)] w fun e w' => e = .returned (.string ⟨(49 :: Bg.padN 6 d).toArray⟩) ∧ Below w.heap.size w w' := by
  have := itoa_c (1000000 + d) (by omega) (by omega) w hw
  rw [Bg.itoa_mill d hd] at this
  exact this

theorem ba_cut1 (a : UInt8) (s : List UInt8) (j : Nat) (h : j = s.length + 1) : (⟨(a :: s).toArray⟩ : ByteArray).extract 1 j = ⟨s.toArray⟩ := by
  apply ByteArray.ext
  subst h
  simp [ByteArray.data_extract]

set_option maxRecDepth 100000 in
set_option maxHeartbeats 8000000 in
theorem decimal_in (o : Option Addr) (c n : Nat) (w : World) (hw : Wd w) (h : IntAt w o (Bg.ds n)) (hl : (Bg.ds n).length ≤ 1000) :
    CallsIn Fence.wide 8 Tryz.prog 106 #[.slice o (Bg.ds n).length c] w fun e w' => e = .returned (.string ⟨(Lib.decDigits n).toArray⟩) ∧ Below w.heap.size w w' := by
  have H1 := Lib.hid h
  have HW := Lib.hid hw
  clear h hw
  refine callsIn_of_wp_marks Tryz.func106 rfl trivial ?_ rfl
  simp only [Tryz.ntmps106, List.size_toArray, List.length_cons, List.length_nil, Nat.reduceAdd, Nat.reduceSub, Array.replicate_succ, Array.replicate_zero, List.push_toArray, List.append_toArray, List.nil_append, List.cons_append]
  gi_wp2_with fail
  refine ⟨trivial, (backward_in Fence.wide _ trivial rfl _ _ _ _).mono ?_⟩
  rintro e w' ⟨rfl, rfl⟩
  gi_wp2_with fail
  have bD : Lib.IsBuilderF 145 5 w.heap.size w.heap.size (Lib.byteCells []) ((w.alloc (.cells #[.pointer none, .slice none 0 0] 145)).alloc (.cells #[.slice o (Bg.ds n).length c] 59)) :=
    Lib.IsBuilderF.alloc (.inl ⟨Nat.le_refl _, .slice none 0 0, World.alloc_heap_new w _, World.ownsRowF_nil _ _ _ _, by simp [Value.ownBlock]⟩) _
  have bS := Boxed.new (w.alloc (.cells #[.pointer none, .slice none 0 0] 145)) 59 (.slice o (Bg.ds n).length c)
  rw [World.size_alloc] at bS
  have hB0 : Below w.heap.size w ((w.alloc (.cells #[.pointer none, .slice none 0 0] 145)).alloc (.cells #[.slice o (Bg.ds n).length c] 59)) := ((Below.refl _ w).alloc (Nat.le_refl _) _).alloc (by simp) _
  have hsz2 : ((w.alloc (.cells #[.pointer none, .slice none 0 0] 145)).alloc (.cells #[.slice o (Bg.ds n).length c] 59)).heap.size = w.heap.size + 2 := by simp
  generalize (w.alloc (.cells #[.pointer none, .slice none 0 0] 145)).alloc (.cells #[.slice o (Bg.ds n).length c] 59) = W2 at *
  have HJ0 : Hid (DS w.heap.size w.heap.size (w.heap.size + 1) (Bg.decF n (Bg.ds n).length []) (.slice o (Bg.ds n).length c) w W2 W2) :=
    Lib.hid { bd := bD, ne := by omega, bS := bS, below := hB0, k := KeepsOthers.refl _, kb := KeepB.refl _ _ _ }
  have HS := Lib.hid bS
  have HB0 := Lib.hid hB0
  clear bD bS hB0
  refine wpIn_rangeFunc_ownG rfl (by decide) (gf := 126) (lb := #[.pointer (some ⟨w.heap.size + 1, 0, none⟩)]) rfl trivial (enters_of Tryz.func126 (by kernel_rfl) rfl)
    (backward_stops Fence.wide (8 - 1) trivial rfl (by decide) (w.heap.size + 1) w.heap.size o c (Bg.ds n) (by omega) W2 HS.out.cell HS.out.lt (H1.out.mono HB0.out) H1.out.lt) (fun h k => h.trans k) (KeepB.b (by omega) (by omega)) (Below.refl _ _) (fun _ => rfl)
    (fun pre W => DS w.heap.size w.heap.size (w.heap.size + 1) (Bg.decF n (Bg.ds n).length pre) (.slice o (Bg.ds n).length c) w W W)
    (fun _ _ _ => False)
    (fun s A B row hs hg hr => hs.turn hg (fun r e => ⟨by have := (hr r e).1; omega, (hr r e).2⟩) (by have := hs.bS.lt; omega))
    (fun _ _ _ _ _ hs _ _ => hs)
    HJ0.out
    (fun x => { tmps := #[.slice o (Bg.ds n).length c, undef, .string ⟨#[]⟩, .pointer (some ⟨w.heap.size, 0, none⟩), undef, .int .i64 ((Bg.ds n)[x.val]?.getD 0), .slice o (Bg.ds n).length c, .func (.func 126) #[] #[.pointer (some ⟨w.heap.size + 1, 0, none⟩)], .int .i64 (x.val : Int), .int .i64 ((Bg.ds n)[x.val]?.getD 0),
      undef, undef, undef, undef, undef, undef, undef, undef, undef], defers := [] }) ?assign ?body ?done ?stop
  case assign =>
    intro l x W K hK
    simp only [bkv]
    generalize (Bg.ds n)[x.val]?.getD 0 = v at *
    gi_wp2
    exact hK
  case body =>
    rintro l pre ⟨i, hi2⟩ W hJ hpl
    have hd := Bg.ds_getD n i
    have hds := Nat.mod_lt (n / 1000000 ^ i) (by decide : 0 < 1000000)
    have hsn := Bg.decF_snoc n (Bg.ds n).length pre ⟨i, hi2⟩
    have hlen := Bg.decF_length n (Bg.ds n).length pre
    simp only [hd]
    dsimp only at hsn
    generalize Bg.decF n (Bg.ds n).length pre = txt at *
    generalize n / 1000000 ^ i % 1000000 = d at *
    have hWd := HW.out.below hJ.below
    have hIM := itoaM_c d hds W hWd
    have hp6 := Bg.padN_length 6 d
    generalize Bg.padN 6 d = pd at *
    have hd0 : (0 : Int) ≤ (d : Int) := by omega
    have hd1 : (d : Int) < 1000000 := by omega
    have HJ := Lib.hid hJ
    have HIM := Lib.hid hIM
    have HSN := Lib.hid hsn
    have HLen := Lib.hid hlen
    have HP6 := Lib.hid hp6
    clear hd hds hsn hlen hJ hIM hWd hp6
    gi_wp2_with fail
    refine ⟨trivial, (CallsIn.inRound l (callsIn_wide.2 HIM.out)).mono ?_⟩
    rintro e w3 ⟨rfl, hb3⟩
    have HJ3 := Lib.hid (HJ.out.next hb3 (by have := HJ.out.bS.lt; omega))
    clear hb3
    have hpl : pd.length ≤ 6 := by rw [HP6.out]; exact Nat.le_refl _
    gi_wp2_with fail
    rw [ba_cut1 49 pd _ rfl]
    refine ⟨trivial, (CallsIn.inRound l (callsIn_wide.2 (writeString_c w.heap.size w.heap.size txt pd _ HJ3.out.bd (by have := HLen.out; omega) (by have := HJ3.out.bS.lt; omega)))).mono ?_⟩
    rintro e w4 ⟨rfl, hbd, hb4, ho4⟩
    have HJ4 := Lib.hid (HJ3.out.write hbd hb4 ho4)
    clear hbd hb4 ho4
    gi_wp2_with fail
    refine ⟨HJ4.out.k.from _, HJ4.out.kb, ?_⟩
    have := HJ4.out
    show DS w.heap.size w.heap.size (w.heap.size + 1) (Bg.decF n (Bg.ds n).length (pre ++ [⟨i, hi2⟩])) _ _ _ _
    rw [HSN.out]
    exact { bd := this.bd, ne := this.ne, bS := this.bS, below := this.below, k := KeepsOthers.refl _, kb := KeepB.refl _ _ _ }
  case done =>
    rintro Dd ys W hD rfl hJ hK
    have hall := Bg.decF_all n (Bg.ds n).length rfl (bk (Bg.ds n).length) (bk_length _) (bk_take _)
    generalize Bg.decF n (Bg.ds n).length (bk (Bg.ds n).length) = txt at *
    have HA := Lib.hid hall
    have HJ := Lib.hid hJ
    have HK := Lib.hid hK
    clear hall hJ hK
    have hbl := HJ.out.bS.lt
    gi_wp2_with fail
    refine ⟨trivial, (callsIn_wide.2 (Tryz.Builder_String_any_k w.heap.size w.heap.size txt W HJ.out.bd (by omega))).mono ?_⟩
    rintro e w3 ⟨rfl, hbd3, hb3, ho3⟩
    have HK3 := Lib.hid ((others_keep HJ.out.bd ho3 hb3.size).same Dd _ HK.out rfl)
    have HB3 := Lib.hid (HJ.out.below.trans hb3)
    have hsz3 := hb3.size
    clear hbd3 hb3 ho3
    gi_wp2_with fail
    refine ⟨trivial, (callsIn_wide.2 (trimZeros_c txt _)).mono ?_⟩
    rintro e w4 ⟨rfl, hb4⟩
    rw [HA.out]
    have HK4 := Lib.hid ((KeepsOthers.of_below hb4).same Dd _ HK3.out rfl)
    have HB4 := Lib.hid (HB3.out.trans (hb4.mono (by omega)))
    have hsz4 := hb4.size
    clear hb4
    have hres : (if (if n = 0 then [] else Lib.decDigits n) = [] then [48] else (if n = 0 then [] else Lib.decDigits n)) = Lib.decDigits n := by
      by_cases h0 : n = 0
      · rw [if_pos h0, if_pos rfl, h0, Bg.decDigits_zero]
      · rw [if_neg h0, if_neg (Bg.decDigits_ne n)]
    generalize (if n = 0 then [] else Lib.decDigits n) = a at *
    have HR := Lib.hid hres
    clear hres
    gi_wp2_with fail
    refine ⟨trivial, (callsIn_wide.2 (or_c w4.heap.size a _ ?_ ?_)).mono ?_⟩
    · exact (Lib.cell_of_heap (World.alloc_heap_new w4 _) 0).trans rfl
    · exact (Lib.cell_of_heap (World.alloc_heap_new w4 _) 1).trans rfl
    rintro e w5 ⟨rfl, rfl⟩
    rw [HR.out]
    have HK5 : Hid ((w4.alloc (.cells #[.string ⟨a.toArray⟩, .string ⟨#[48]⟩] 9)).heap[Dd]? = some (.deferred (some []))) := Lib.hid ((KeepsOthers.alloc w4 _).same Dd _ HK4.out rfl)
    gi_wp2_with fail
    refine ⟨by simp, .inl ⟨_, _, rfl, run_takeDeferred HK5.out, ?_⟩⟩
    refine ⟨.string ⟨(Lib.decDigits n).toArray⟩, ?_, rfl, ?_⟩
    · simp [results, Tryz.results106, go_sem]
    · exact (HB4.out.alloc (by omega) _).trans (belowK_b (w := w) (Nat.le_refl _) _ Dd _ _ (by omega) HK5.out rfl rfl)
  case stop =>
    rintro Dd c pre W _ _ h _
    exact h.elim
theorem decimal_c (o : Option Addr) (c n : Nat) (w : World) (hw : Wd w) (h : IntAt w o (Bg.ds n)) (hl : (Bg.ds n).length ≤ 1000) :
    Calls Tryz.prog 106 #[.slice o (Bg.ds n).length c] w fun e w' => e = .returned (.string ⟨(Lib.decDigits n).toArray⟩) ∧ Below w.heap.size w w' :=
  callsIn_wide.1 (decimal_in o c n w hw h hl)
end Go.Proofs.YthbfbpbppjkoeaaGreatDoor
