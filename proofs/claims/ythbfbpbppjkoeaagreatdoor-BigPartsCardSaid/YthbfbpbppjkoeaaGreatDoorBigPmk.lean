/- BigParts: for any two values and any number the law answers true: what is divided, left, raised to a power, the greatest common divisor and the root are as on paper. Conditions: those of the given row: the listed variables of the library hold what the program's text lays (tied by the card). -/
import Derived.Test.YthbfbpbppjkoeaaGreatDoorBigRw
import Derived.Test.YthbfbpbppjkoeaaGreatDoorBigPm
namespace Go.Proofs.YthbfbpbppjkoeaaGreatDoor
open Go.ChangeShapes Go.WideShapes Go.ChangeAt Go.RowKit Go.ChangeMaps Go.Joins

theorem in64Z_of_wf {x : Int} (h : (Lit.int .i64 x).wf = true) : In64Z x := by have h2 := in64_of_wf h; exact ⟨h2.1, h2.2⟩
set_option maxRecDepth 100000 in
theorem bigParts_lifted (os : Os) (started : os.Started) (H : Type) (enc : TypeId × Value → H) (F : Stop.Interp) :
    ReturnsInHanded {} Tryz.checked os 5 .any ((OpenSpec.ofChange Rows.bigPartsSpec).preRow enc Tryz.prog Tryz.f5 Rows.bigPartsRow.domain false laidR)
      (((OpenSpec.ofChange Rows.bigPartsSpec).at F).post enc Tryz.prog Tryz.f5 false true false false) := by
  refine returnsInHanded_of_row (C := Tryz.checked) (s := OpenSpec.ofChange Rows.bigPartsSpec) (F := F) ownOff started (by kernel_rfl) Tryz.func5
    (ChangeSpec.witness_shaped (enc := enc) (C := Tryz.checked) (os := os) (s := Rows.bigPartsSpec) (X := fun w _ => laidMetH Tryz.prog laidR w) false (World.laidAll Tryz.prog os laidR) #[.agg #[.int .i64 0, .int .i64 0, .string ⟨#[]⟩], .agg #[.int .i64 0, .int .i64 0, .string ⟨#[]⟩], .int .i64 0] 8 (World.laidAll_os _ _ _)
      (World.shaped_of_ZipB (by kernel_rfl) (by kernel_rfl)) (by kernel_rfl) (by kernel_rfl) (by kernel_rfl) (laid_met os _)) ?_
  intro W base args ds gs before hval0 hW _ _ _ hlaid _ _
  have hval : ∀ (j : Nat) t v, Tryz.f5.params[j]? = some t → args[j]? = some v → Value.okWide Tryz.prog W .any base t v := hval0
  have hW' := hW
  obtain ⟨p, q, hA0, hV, rfl, _, _⟩ := hW
  have hA : DataW.TrodAll enc Tryz.prog W 0 (fun _ => true) true Tryz.f5.params.toList args.toList ds p := hA0
  rw [Tryz.params5] at hA hval
  obtain ⟨v0, v1, v2, d0, d1, d2, p0, p1, p2, rfl, rfl, rfl, h0, h1, h2⟩ := trodAll_three hA
  obtain ⟨rfl, rfl⟩ := trodVars_none hV
  obtain ⟨a0, b0, c0, y0a, y0b, y0c, n0, rfl, rfl, rfl, hy0a, hy0b, hy0c⟩ := open_agg3 Tryz.underlying23 (by kernel_rfl) (by kernel_rfl) (hval 0 23 v0 rfl rfl) h0
  obtain ⟨k0, e0a, rfl, wk0⟩ := DataW.trod_int Tryz.underlying3 hy0a
  obtain ⟨m0, e0b, rfl, wm0⟩ := DataW.trod_int Tryz.underlying3 hy0b
  obtain ⟨t0, e0c, rfl, wt0⟩ := DataW.trod_string Tryz.underlying9 hy0c
  simp only [List.cons.injEq, and_true] at e0a e0b e0c
  subst e0a e0b e0c
  obtain ⟨l0, rfl⟩ := bytes_list t0
  obtain ⟨a1, b1, c1, y1a, y1b, y1c, n1, rfl, rfl, rfl, hy1a, hy1b, hy1c⟩ := open_agg3 Tryz.underlying23 (by kernel_rfl) (by kernel_rfl) (hval 1 23 v1 rfl rfl) h1
  obtain ⟨k1, e1a, rfl, wk1⟩ := DataW.trod_int Tryz.underlying3 hy1a
  obtain ⟨m1, e1b, rfl, wm1⟩ := DataW.trod_int Tryz.underlying3 hy1b
  obtain ⟨t1, e1c, rfl, wt1⟩ := DataW.trod_string Tryz.underlying9 hy1c
  simp only [List.cons.injEq, and_true] at e1a e1b e1c
  subst e1a e1b e1c
  obtain ⟨l1, rfl⟩ := bytes_list t1
  obtain ⟨x2, rfl, rfl, rfl, wx2⟩ := open_int Tryz.underlying3 (hval 2 3 v2 rfl rfl) h2
  have hwd : Wd W := laid_wd W hlaid
  clear hA0 hval0 hval
  simp only [List.append_nil] at hW'
  refine (parts_c k0 m0 l0 k1 m1 l1 x2 (in64Z_of_wf wm0) (in64Z_of_wf wm1) (in64Z_of_wf wx2) W hwd).mono fun e W' ⟨he, hb⟩ => ?_
  subst he
  have hT0 : DataW.Trod enc Tryz.prog W' 0 (fun b => decide (b < W.heap.size)) true 23 (.agg #[.int .i64 k0, .int .i64 m0, .string ⟨l0.toArray⟩]) (.agg [.lit (.int .i64 k0), .lit (.int .i64 m0), .lit (.string l0)]) [] :=
    shut_agg3 (y0 := (.lit (.int .i64 k0), [])) (y1 := (.lit (.int .i64 m0), [])) (y2 := (.lit (.string l0), [])) Tryz.underlying23 (by kernel_rfl) (by kernel_rfl)
      ⟨1, by simp [DataW.trod, Tryz.underlying3, wk0]⟩ ⟨1, by simp [DataW.trod, Tryz.underlying3, wm0]⟩ ⟨1, by simp [DataW.trod, Tryz.underlying9, wt0]⟩
  have hT1 : DataW.Trod enc Tryz.prog W' 0 (fun b => decide (b < W.heap.size)) true 23 (.agg #[.int .i64 k1, .int .i64 m1, .string ⟨l1.toArray⟩]) (.agg [.lit (.int .i64 k1), .lit (.int .i64 m1), .lit (.string l1)]) [] :=
    shut_agg3 (y0 := (.lit (.int .i64 k1), [])) (y1 := (.lit (.int .i64 m1), [])) (y2 := (.lit (.string l1), [])) Tryz.underlying23 (by kernel_rfl) (by kernel_rfl)
      ⟨1, by simp [DataW.trod, Tryz.underlying3, wk1]⟩ ⟨1, by simp [DataW.trod, Tryz.underlying3, wm1]⟩ ⟨1, by simp [DataW.trod, Tryz.underlying9, wt1]⟩
  refine ⟨_, rfl, _, _, _, [], [], [], hW', trodAll_mk1 (shut_bool Tryz.underlying4 _), ?_, rfl, hb.frame _, fun h => by cases h⟩
  exact trodAll_mk3 hT0 hT1 (shut_int Tryz.underlying3 wx2)

theorem bigParts_holds : Rows.BigPartsSaid :=
  OpenClaim.holds_of_cond 5 Tryz.f5 rfl rfl rfl rfl rfl rfl rfl ⟨rfl, rfl, rfl, rfl, rfl⟩ rfl rfl rfl rfl rfl (by kernel_rfl) Tryz.func5 (by kernel_rfl)
    (of_decide_eq_true (by kernel_rfl)) (by unfold Func.isWrapper; first | (rw [if_pos (by decide +kernel)]; kernel_rfl) | (rw [if_neg (by decide +kernel)]; exact ⟨rfl, rfl⟩))
    (fun os started H enc _ F0 => by rw [OpenClaim.pre_eq_preRow]; exact bigParts_lifted os started H enc F0)
theorem bigParts_card : Rows.BigPartsCardSaid :=
  Claim7.holds_tied_plain_at .later [] [.data, .data, .data, .data, .sentinel, .sentinel, .pinned] true Rows.bigPartsCard.stood.harness true bigParts_holds (fun _ h => by cases h) (by kernel_rfl) (fun _ h => by cases h) bigParts_row_tie rfl ⟨rfl, rfl⟩ (by kernel_rfl) rfl
    (fun f fn hf hfn => by
      obtain rfl : f = 5 := Option.some.inj ((show Tryz.prog.funcNamed "proteus/proteuslaw03.BigParts" = some 5 by kernel_rfl).symm.trans hf) |>.symm
      obtain rfl : fn = Tryz.f5 := (Option.some.inj (Tryz.func5.symm.trans hfn)).symm
      exact ⟨by kernel_rfl, fun j t ht => by
        rw [Tryz.params5] at ht
        have hm : t ∈ [23, 23, 3] := by simpa using Array.mem_of_getElem? ht
        have hall : ([23, 23, 3].all fun u => !Tryz.prog.wantsStandIn u) = true := by kernel_rfl
        exact (show Tryz.prog.wantsStandIn t = false by simpa using List.all_eq_true.1 hall t hm)⟩)
    (by kernel_rfl)
#print axioms bigParts_card
end Go.Proofs.YthbfbpbppjkoeaaGreatDoor
