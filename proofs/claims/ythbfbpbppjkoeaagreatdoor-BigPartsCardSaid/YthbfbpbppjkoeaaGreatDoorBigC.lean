/- Contract of settled of package big: the digits of the number that columns make. Conditions: those in the statement. -/
import Derived.Test.YthbfbpbppjkoeaaGreatDoorBigB
import Derived.Maps.AppendAt
import Derived.Sort.LoopGhostIn
namespace Go.Proofs.YthbfbpbppjkoeaaGreatDoor
open Go.RowKit Go.Shelf

attribute [local go_sem] Oper.semAt_some

set_option maxRecDepth 100000 in
set_option maxHeartbeats 4000000 in
theorem settled_in (a : Option Addr) (cap : Nat) (cs : List Int) (V : Nat) (hV : Bg.valI cs = V)
    (hB : ∀ c ∈ cs, -10000000000000000 ≤ c ∧ c ≤ 10000000000000000) (hlen : cs.length ≤ 1000000) (w : World) (hc : IntAt w a cs) :
    CallsIn Fence.wide 6 Tryz.prog 123 #[.slice a cs.length cap] w (RetInts (Bg.ds V) w) := by
  have hds := Bg.ds_len_valI hV hB
  have HV := Lib.hid hV
  have HB := Lib.hid hB
  have HC := Lib.hid hc
  clear hV hB hc
  obtain ⟨i0, hi, hz0, hz1, hz2⟩ := info_parts info_int
  refine callsIn_of_wp_marks Tryz.func123 rfl trivial ?_ rfl
  simp only [Tryz.ntmps123, List.size_toArray, List.length_cons, List.length_nil, Nat.reduceAdd, Nat.reduceSub, Array.replicate_succ, Array.replicate_zero, List.push_toArray, List.append_toArray, List.nil_append, List.cons_append]
  gi_wp2_with (gi_at_make; refine wpListIn_make_own _ rfl _ _ 59 rfl w.heap.size 3 i0 (.int .i64 0) 1 Tryz.underlying59 hi hz0 hz1 .i64 .i64 _ (cs.length + 1) rfl rfl (by simp) (by rw [hz2]; omega) (by unfold maxLen; omega) (Nat.le_refl _) ?_; intro w1 hown1 hgrow1; have HO1 := Lib.hid hown1; have HG1 := Lib.hid hgrow1; clear hown1 hgrow1)
  refine ⟨trivial, (carried_in Fence.wide _ trivial rfl _ _ _ _).mono ?_⟩
  rintro e w' ⟨rfl, rfl⟩
  gi_wp2_with fail
  have hsz1 : w.heap.size ≤ w1.heap.size := HG1.out.size
  have hb1 : Below w.heap.size w w1 := (Below.refl _ w).grown HG1.out (Nat.le_refl _) (fun k e => by cases e)
  have bD := Boxed.new w1 59 (.slice (some ⟨w.heap.size, 0, none⟩) 0 (cs.length + 1))
  have bS := Boxed.new (w1.alloc (.cells #[.slice (some ⟨w.heap.size, 0, none⟩) 0 (cs.length + 1)] 59)) 50 (.slice a cs.length cap)
  rw [World.size_alloc] at bS
  have bD2 := bD.alloc (.cells #[.slice a cs.length cap] 50)
  have hB0 : Below w.heap.size w ((w1.alloc (.cells #[.slice (some ⟨w.heap.size, 0, none⟩) 0 (cs.length + 1)] 59)).alloc (.cells #[.slice a cs.length cap] 50)) := (hb1.alloc hsz1 _).alloc (by simp; omega) _
  have hO2 := (HO1.out.alloc (.cells #[.slice (some ⟨w.heap.size, 0, none⟩) 0 (cs.length + 1)] 59)).alloc (.cells #[.slice a cs.length cap] 50)
  have hsz2 : ((w1.alloc (.cells #[.slice (some ⟨w.heap.size, 0, none⟩) 0 (cs.length + 1)] 59)).alloc (.cells #[.slice a cs.length cap] 50)).heap.size = w1.heap.size + 2 := by simp
  generalize (w1.alloc (.cells #[.slice (some ⟨w.heap.size, 0, none⟩) 0 (cs.length + 1)] 59)).alloc (.cells #[.slice a cs.length cap] 50) = W2 at *
  have HD2 := Lib.hid bD2
  have HS2 := Lib.hid bS
  have HB0 := Lib.hid hB0
  have HO2 := Lib.hid hO2
  clear bD bS bD2 hB0 hO2 hb1
  refine wpIn_rangeFunc_ownG rfl (by decide) (gf := 154) (lb := #[.pointer (some ⟨w1.heap.size + 1, 0, none⟩)]) rfl trivial (enters_of Tryz.func154 (by kernel_rfl) rfl)
    (carried_stops Fence.wide (6 - 1) trivial rfl (by decide) (w1.heap.size + 1) w.heap.size a cap cs V HV.out HB.out hlen W2 HS2.out.cell HS2.out.lt (HC.out.mono HB0.out) HC.out.lt) (fun h k => h.trans k) (KeepB.b (by omega) (by omega)) (Below.refl _ _) (fun _ => rfl)
    (fun pre W => ((∃ v, Boxed W w1.heap.size 59 v ∧ W.ownsRow w.heap.size 3 1 v pre.length (pre.map (Value.int .i64)) ∧ True) ∧ Boxed W (w1.heap.size + 1) 50 (.slice a cs.length cap)) ∧ Below w.heap.size w W)
    (fun _ _ _ => False)
    (OwnFrom.and (Own.from (fun s A B row hs hg hr => ⟨holdsRow_own w.heap.size w1.heap.size 59 3 1 (fun pre : List Int => pre.length) (fun pre => pre.map (Value.int .i64)) (fun _ _ => True) s A B row hs.1 hg hr, hs.2.kept hg (fun e => by obtain ⟨o, ho, hc⟩ := hr _ e.symm; rw [show A.heap[w1.heap.size + 1]? = _ from hs.2] at ho; cases ho; cases hc)⟩) _) (ownFrom_below (Nat.le_refl _) (by omega)))
    (fun _ _ _ _ _ hs _ _ => hs)
    ⟨⟨⟨_, HD2.out, HO2.out, trivial⟩, HS2.out⟩, HB0.out⟩
    (fun x => { tmps := #[.slice a cs.length cap, undef, .slice none 0 0, .pointer (some ⟨w1.heap.size, 0, none⟩), .int .i64 x, .slice a cs.length cap, .int .i64 cs.length, .int .i64 (cs.length + 1), .slice (some ⟨w.heap.size, 0, none⟩) 0 (cs.length + 1), .slice a cs.length cap, .func (.func 154) #[] #[.pointer (some ⟨w1.heap.size + 1, 0, none⟩)], .int .i64 x, undef, undef, undef, undef, undef, undef, undef, undef, undef, undef, undef, undef, undef, undef, undef, undef, undef, undef, undef, undef, undef, undef], defers := [] }) ?assign ?body ?done ?stop
  case assign =>
    intro l x W K hK
    gi_wp2
    exact hK
  case body =>
    rintro l pre x W ⟨⟨⟨v, hv, hrow, _⟩, hS⟩, hB⟩ hlt
    have hl1 : pre.length + 1 ≤ 9223372036854775807 := by omega
    have hl2 : (pre.length + 1) * 8 ≤ 140737488355328 := by omega
    have hvc := hv.cell
    have HV1 := Lib.hid hv
    have HR1 := Lib.hid hrow
    have HS1 := Lib.hid hS
    have HB1 := Lib.hid hB
    clear hv hrow hS hB
    gi_wp2_with (gi_at_builtin; refine wpListIn_append_own _ rfl _ _ 59 rfl w.heap.size 3 i0 (.int .i64 0) 1 8 Tryz.underlying59 hi hz0 hz1 hz2 rfl (by decide) _ _ _ rfl (HR1.out.alloc _) ⟨W.heap.size, 0, none⟩ 1 1 [.int .i64 x] rfl rfl (cell_one_new _ _ _) (by simp [Value.oneCell']) hl1 hl2 (by have := HB1.out.size; simp; omega) ?_; intro v' w3 hown' hgrow _; obtain ⟨g', cap', rfl⟩ := ownsRow_succ hown'; obtain ⟨hv1, hv2, hr2, hk2, hb2⟩ := HV1.out.appended (by decide) HR1.out HB1.out.size hsz1 hown' hgrow; have hS2 := ((HS1.out.alloc _).kept hgrow (HS1.out.not_row (by decide) HR1.out)).kept (grownBy_setCell' w3 w1.heap.size (.slice (some ⟨g', 0, none⟩) (pre.length + 1) cap')) (fun e => by have := Option.some.inj e; omega); have hc1 := hv1.cell; have hf1 := hv1.frozen; have HV2 := Lib.hid hv2; have HR2 := Lib.hid hr2; have HK2 := Lib.hid hk2; have HB2 := Lib.hid hb2; have HS3 := Lib.hid hS2; clear hv1 hv2 hr2 hk2 hb2 hS2 hown' hgrow)
    refine ⟨HK2.out.from _, ?_, ⟨⟨_, HV2.out, ?_, trivial⟩, HS3.out⟩, HB1.out.trans HB2.out⟩
    · rintro b (hb | rfl)
      · exact HB2.out.block b hb
      · exact HS3.out.trans HS1.out.symm
    · rw [List.length_append, List.map_append]
      exact HR2.out
  case done =>
    rintro D ys W hD rfl ⟨⟨⟨v, hv, hrow, _⟩, hS⟩, hB⟩ hK
    rw [Bg.outs_length] at hrow
    have hM : (Bg.ds V).length ≤ max cs.length (Bg.ds V).length := by omega
    have hM2 : max cs.length (Bg.ds V).length ≤ 1000003 := by omega
    generalize max cs.length (Bg.ds V).length = M at *
    obtain ⟨o, c, rfl⟩ : ∃ o c, v = .slice o M c := by
      rcases hrow.2 with ⟨rfl, h0⟩ | ⟨g, c, cur, rfl, _⟩
      · exact ⟨none, 0, by rw [h0]⟩
      · exact ⟨_, _, rfl⟩
    have hDw : D ≠ w1.heap.size := by omega
    have hB3 := Lib.hid hB
    have HVa := Lib.hid hv
    have HRa := Lib.hid hrow
    have HK := Lib.hid hK
    clear hv hrow hS hB hK HV HB HC HO1 HG1 HD2 HS2 HB0 HO2
    gi_wp2_with fail
    gi_loopg [] M (fun k wr => k ≤ M ∧ (Bg.ds V).length ≤ k ∧ ∃ o c, Hid (Boxed wr w1.heap.size 59 (.slice o k c)) ∧ Hid (wr.ownsRow w.heap.size 3 1 (.slice o k c) k ((Bg.outs V k).map (Value.int .i64))) ∧ Hid (Below w.heap.size w wr) ∧ Hid (wr.heap[D]? = some (.deferred (some []))))
    case atStart => exact ⟨Nat.le_refl _, hM, o, c, HVa, HRa, hB3, HK⟩
    case round =>
      clear HVa HRa hB3 HK
      obtain ⟨hk1, hk2, o, c, HVb, HRb, HBb, HKb⟩ := hrel
      have hvc := HVb.out.cell
      have hvf := HVb.out.frozen
      have fin : (Bg.ds V).length = gk → RetInts (Bg.ds V) w (.returned (.slice o gk c)) (wr.putObj D (.deferred none)) := fun e => by
        have h1 := intAt_owns (ownsRow_putObj HRb.out (.deferred none) HKb.out rfl)
        rw [← e, Bg.outs_ds] at h1
        exact ⟨o, c, by rw [e], h1, HBb.out.trans (belowK_b (w := w) (Nat.le_refl _) wr D _ _ (by omega) HKb.out rfl rfl), fun b eb => (HRb.out.lt b (by rw [eb]; rfl)).1⟩
      have FIN := Lib.hid fin
      clear fin
      by_cases h0 : gk = 0
      · subst h0
        have HZ := Lib.hid (show (Bg.ds V).length = 0 by omega)
        clear hk1 hk2
        gi_wp2_with fail
        refine ⟨by simp, .inl ⟨_, _, rfl, run_takeDeferred HKb.out, ?_⟩⟩
        refine ⟨.slice o 0 c, ?_, FIN.out HZ.out⟩
        simp [results, Tryz.results123, go_sem]
      · obtain ⟨j, rfl⟩ : ∃ j, gk = j + 1 := ⟨gk - 1, by omega⟩
        have hrow := HRb.out
        obtain ⟨g, cap', e⟩ := ownsRow_succ hrow
        injection e with e1 e2 e3
        subst e1 e3
        have hcj := hrow.cellAt j (by omega)
        rw [List.getElem?_map, Bg.outs_get V (j + 1) j (by omega)] at hcj
        have hcap : j + 1 ≤ c := by
          rcases hrow.2 with ⟨h1, _⟩ | ⟨g', cap2, cur, h1, _, _, h2, _⟩
          · cases h1
          · injection h1 with _ _ h3; omega
        have hcap2 : (c : Int) ≤ 9223372036854775807 := by
          rcases hrow.2 with ⟨h1, _⟩ | ⟨g', cap2, cur, h1, _, _, _, h2, _⟩
          · cases h1
          · injection h1 with _ _ h3; unfold maxLen at h2; omega
        have hj0 : (0 : Int) ≤ (j : Int) := by omega
        have hpos : decide ((0 : Int) < ((j + 1 : Nat) : Int)) = true := decide_eq_true (by omega)
        have hpop := ownsRow_pop (xs := (Bg.outs V j).map (Value.int .i64)) (last := [.int .i64 ((V / 1000000 ^ j % 1000000 : Nat) : Int)]) (by rw [List.length_map, Bg.outs_length, Nat.mul_one]) (by rw [Bg.outs_succ, List.map_append] at hrow; exact hrow)
        have HPOP := Lib.hid hpop
        clear hrow hpop h0
        by_cases htop : (Bg.ds V).length = j + 1
        · have hne := Bg.top_pos V j htop
          obtain ⟨x, hx⟩ : ∃ x : Nat, V / 1000000 ^ j % 1000000 = x := ⟨_, rfl⟩
          rw [hx] at hcj hne
          have dX : ((x : Int) == 0) = false := beq_eq_false_iff_ne.2 (by omega)
          have HT := Lib.hid htop
          clear htop hx
          gi_wp2_with fail
          refine ⟨by simp, .inl ⟨_, _, rfl, run_takeDeferred HKb.out, ?_⟩⟩
          refine ⟨.slice (some ⟨g, 0, none⟩) (j + 1) c, ?_, FIN.out HT.out⟩
          simp [results, Tryz.results123, go_sem]
        · rw [Bg.top_zero V j (by omega)] at hcj
          have hcj : wr.cell? ⟨g, j, none⟩ = some (.int .i64 0) := hcj
          have hk2' : (Bg.ds V).length ≤ j := by omega
          have hD3 := Lib.hid ((KeepsOthers.setCell wr ⟨w1.heap.size, 0, none⟩ (.slice (some ⟨g, 0, none⟩) j c)).same D _ HKb.out rfl)
          have hV3 := Lib.hid (HVb.out.set (.slice (some ⟨g, 0, none⟩) j c))
          have hR3 := Lib.hid (HPOP.out.kept (grownBy_setCell' wr w1.heap.size (.slice (some ⟨g, 0, none⟩) j c)) (.inr (HVb.out.not_row (by decide) HPOP.out).symm))
          have hB4 := Lib.hid (HBb.out.setCell (p := ⟨w1.heap.size, 0, none⟩) hsz1 (.slice (some ⟨g, 0, none⟩) j c))
          gi_wp2_with fail
          go_roundg j
          case rel => exact ⟨by omega, hk2', some ⟨g, 0, none⟩, c, hV3, hR3, hB4, hD3⟩
          case measure => omega
  case stop =>
    rintro D c pre W _ _ h _
    exact h.elim
theorem settled_c (a : Option Addr) (cap : Nat) (cs : List Int) (V : Nat) (hV : Bg.valI cs = V)
    (hB : ∀ c ∈ cs, -10000000000000000 ≤ c ∧ c ≤ 10000000000000000) (hlen : cs.length ≤ 1000000) (w : World) (hc : IntAt w a cs) :
    Calls Tryz.prog 123 #[.slice a cs.length cap] w (RetInts (Bg.ds V) w) :=
  callsIn_wide.1 (settled_in a cap cs V hV hB hlen w hc)
end Go.Proofs.YthbfbpbppjkoeaaGreatDoor
