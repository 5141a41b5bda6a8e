/- Contract of over of package big: the quotient and the rest. Conditions: those in the statements. -/
import Derived.Test.YthbfbpbppjkoeaaGreatDoorBigJ
import Derived.Test.YthbfbpbppjkoeaaGreatDoorBigPd
import Derived.Sort.LoopGhostIn
import Derived.Laws.OwnMore
import Derived.Maps.AppendAt
namespace Go.Proofs.YthbfbpbppjkoeaaGreatDoor
open Go.RowKit Go.Shelf

attribute [local go_sem] Oper.semAt_some

theorem not_cells {W : World} {B : Nat} {t : TypeId} {v : Value} (h : Boxed W B t v) {row : Option Nat} (hr : ∀ r, row = some r → ∃ o : Obj, W.heap[r]? = some o ∧ o.isCells = false) : some B ≠ row := by
  intro e
  obtain ⟨o, ho, hc⟩ := hr B e.symm
  rw [show W.heap[B]? = _ from h] at ho
  cases ho; cases hc
theorem row_not_cells {W : World} {base e g L : Nat} {xs : List Value} (h : W.ownsRow base e 1 (.slice (some ⟨g, 0, none⟩) L L) L xs) {row : Option Nat} (hr : ∀ r, row = some r → ∃ o : Obj, W.heap[r]? = some o ∧ o.isCells = false) : (Value.slice (some ⟨g, 0, none⟩) L L).ownBlock ≠ row := by
  intro e
  obtain ⟨o, ho, hc⟩ := hr g e.symm
  rw [owns_heap h] at ho
  cases ho; cases hc

theorem IntAt.setBox {W : World} {B : Nat} {t : TypeId} {v : Value} {o : Option Addr} {l : List Int} (h : IntAt W o l) (hb : Boxed W B t v) (hv : ∀ n, v ≠ .int .i64 n) (u : Value) : IntAt (W.setCell ⟨B, 0, none⟩ u) o l := by
  intro k n hn
  obtain ⟨b, e, hlt, hc⟩ := h k n hn
  refine ⟨b, e, by simpa [World.setCell] using hlt, ?_⟩
  by_cases hbB : b = B
  · subst hbB
    exfalso
    simp only [World.cell?, show W.heap[b]? = _ from hb] at hc
    cases k with
    | zero => simp at hc; exact hv n hc
    | succ k => simp at hc
  · rw [World.cell?_setCell_other _ _ _ _ (fun e => by injection e; omega)]
    exact hc
theorem IntAt.setRow {W : World} {g i : Nat} {o : Option Addr} {l : List Int} (h : IntAt W o l) (hne : ∀ b, o = some ⟨b, 0, none⟩ → 0 < l.length → b ≠ g) (u : Value) : IntAt (W.setCell ⟨g, i, none⟩ u) o l := by
  intro k n hn
  obtain ⟨b, e, hlt, hc⟩ := h k n hn
  refine ⟨b, e, by simpa [World.setCell] using hlt, ?_⟩
  have := hne b e (by have := (List.getElem?_eq_some_iff.1 hn).1; omega)
  rw [World.cell?_setCell_other _ _ _ _ (fun e => by injection e; omega)]
  exact hc

/-- Within a round: the state, and what has been kept since its start. -/
structure OS (B n1 L E : Nat) (vE : Value) (s : Nat × List Int) (o3 : Option Addr) (c3 : Nat) (w Ws W : World) : Prop where
  hn : B + 1 ≤ n1
  e : Boxed W B 59 vE
  q : Boxed W n1 50 (.slice (some ⟨B + 1, 0, none⟩) L L)
  row : W.ownsRow B 3 1 (.slice (some ⟨B + 1, 0, none⟩) L L) L (s.2.map (Value.int .i64))
  r : Boxed W (n1 + 1) 59 (.slice o3 (Bg.ds s.1).length c3)
  ri : IntAt W o3 (Bg.ds s.1)
  rne : ∀ b, o3 = some ⟨b, 0, none⟩ → 0 < (Bg.ds s.1).length → b ≠ B + 1
  rfr : ∀ b, o3 = some ⟨b, 0, none⟩ → B ≤ b
  below : Below B w W
  k : KeepsOthers Ws W
  kb : KeepB B (n1 + 1 + 1) Ws W
  bs : n1 + 1 + 1 < W.heap.size
theorem OS.next {B n1 L E : Nat} {vE : Value} {s : Nat × List Int} {o3 : Option Addr} {c3 : Nat} {w Ws W W' : World} (h : OS B n1 L E vE s o3 c3 w Ws W) (hb : Below W.heap.size W W') : OS B n1 L E vE s o3 c3 w Ws W' where
  hn := h.hn
  e := boxed_below h.e hb
  q := boxed_below h.q hb
  row := ownsRow_below h.row hb
  r := boxed_below h.r hb
  ri := h.ri.mono hb
  rne := h.rne
  rfr := h.rfr
  below := h.below.trans (hb.mono (by have := h.e.lt; omega))
  k := h.k.trans (KeepsOthers.of_below hb)
  kb := h.kb.trans (fun b hb' => hb.block b (by rcases hb' with h1 | h1; exact Nat.lt_trans h1 h.e.lt; rw [h1]; exact h.bs))
  bs := Nat.lt_of_lt_of_le h.bs hb.size
theorem OS.setR {B n1 L E : Nat} {vE : Value} {s : Nat × List Int} {o3 o4 : Option Addr} {c3 c4 R : Nat} {w Ws W : World} (h : OS B n1 L E vE s o3 c3 w Ws W) (hi : IntAt W o4 (Bg.ds R)) (hne : ∀ b, o4 = some ⟨b, 0, none⟩ → 0 < (Bg.ds R).length → b ≠ B + 1) (hfr : ∀ b, o4 = some ⟨b, 0, none⟩ → B ≤ b) :
    OS B n1 L E vE (R, s.2) o4 c4 w Ws (W.setCell ⟨n1 + 1, 0, none⟩ (.slice o4 (Bg.ds R).length c4)) where
  hn := h.hn
  e := h.e.kept (grownBy_setCell' _ _ _) (fun e => by have := Option.some.inj e; have := h.hn; omega)
  q := h.q.kept (grownBy_setCell' _ _ _) (fun e => by have := Option.some.inj e; omega)
  row := h.row.kept (grownBy_setCell' _ _ _) (.inr (fun e => by have : B + 1 = n1 + 1 := Option.some.inj e; have := h.hn; omega))
  r := h.r.set _
  ri := hi.setBox h.r (fun n e => by cases e) _
  rne := hne
  rfr := hfr
  below := h.below.setCell (p := ⟨n1 + 1, 0, none⟩) (by have := h.hn; simp; omega) _
  k := h.k.trans (KeepsOthers.setCell _ _ _)
  kb := h.kb.trans (fun b hb' => Below.heap_setCell _ _ _ _ (by have := h.hn; simp; omega))
  bs := by simpa [World.setCell] using h.bs
theorem OS.setQ {B n1 L E : Nat} {vE : Value} {s : Nat × List Int} {o3 : Option Addr} {c3 : Nat} {w Ws W : World} (h : OS B n1 L E vE s o3 c3 w Ws W) (i : Nat) (x : Int) :
    OS B n1 L E vE (s.1, s.2.set i x) o3 c3 w Ws (W.setCell ⟨B + 1, i, none⟩ (.int .i64 x)) where
  hn := h.hn
  e := h.e.kept (h.row.stored i (.int .i64 x)).2 (fun e => by have := Option.some.inj e; omega)
  q := h.q.kept (h.row.stored i (.int .i64 x)).2 (fun e => by
    have h1 := h.q
    have h2 := owns_heap h.row
    have := Option.some.inj e
    subst this
    rw [show W.heap[B + 1]? = _ from h1] at h2
    injection h2 with h2
    injection h2 with h3 h4
    exact absurd h4 (by decide))
  row := by
    have := (h.row.stored i (.int .i64 x)).1
    rwa [← List.map_set] at this
  r := h.r.kept (h.row.stored i (.int .i64 x)).2 (fun e => by have := Option.some.inj e; have := h.hn; omega)
  ri := h.ri.setRow h.rne _
  rne := h.rne
  rfr := h.rfr
  below := h.below.setCell (p := ⟨B + 1, i, none⟩) (by simp) _
  k := h.k.trans (KeepsOthers.setCell _ _ _)
  kb := h.kb.trans (fun b hb' => Below.heap_setCell _ _ _ _ (by have := h.hn; simp; omega))
  bs := by simpa [World.setCell] using h.bs

theorem OS.turn {B n1 L E : Nat} {vE : Value} {s : Nat × List Int} {o3 : Option Addr} {c3 : Nat} {w W W' : World} (h : OS B n1 L E vE s o3 c3 w W W) {row : Option Nat} (hg : W.grownBy W' row) (hr : ∀ r, row = some r → B ≤ r ∧ ∃ o : Obj, W.heap[r]? = some o ∧ o.isCells = false) : OS B n1 L E vE s o3 c3 w W' W' :=
  have hr2 := fun r e => (hr r e).2
  { hn := h.hn, e := h.e.kept hg (not_cells h.e hr2), q := h.q.kept hg (not_cells h.q hr2), row := h.row.kept hg (.inr (row_not_cells h.row hr2)), r := h.r.kept hg (not_cells h.r hr2), ri := h.ri.kept hg hr2, rne := h.rne, rfr := h.rfr, below := h.below.grown hg (by have := h.e.lt; omega) (fun k e => (hr k e).1), k := KeepsOthers.refl _, kb := KeepB.refl _ _ _, bs := Nat.lt_of_lt_of_le h.bs hg.size }
theorem OS.fresh {B n1 L E : Nat} {vE : Value} {s : Nat × List Int} {o3 : Option Addr} {c3 : Nat} {w Ws W : World} (h : OS B n1 L E vE s o3 c3 w Ws W) : OS B n1 L E vE s o3 c3 w W W :=
  { hn := h.hn, e := h.e, q := h.q, row := h.row, r := h.r, ri := h.ri, rne := h.rne, rfr := h.rfr, below := h.below, k := KeepsOthers.refl _, kb := KeepB.refl _ _ _, bs := h.bs }

theorem product1_c (o : Option Addr) (c X E q : Nat) (w : World) (h : IntAt w o (Bg.ds E)) (hX : IntAt w (some ⟨X, 0, none⟩) [(q : Int)]) (hl : (Bg.ds E).length ≤ 90) (hq : q ≤ 1000000) :
    Calls Tryz.prog 107 #[.slice o (Bg.ds E).length c, .slice (some ⟨X, 0, none⟩) 1 1] w (RetInts (Bg.ds (E * q)) w) :=
  product_c o (some ⟨X, 0, none⟩) c 1 (Bg.ds E) [(q : Int)] (E * q) w h hX (fun x hx => by have := Bg.ds_mem hx; omega) (fun x hx => by obtain rfl := List.mem_singleton.1 hx; omega) hl (by simp) (by rw [Bg.valI_ds]; simp [Bg.valI])
theorem intAt_lit (w : World) (x : Int) : IntAt (w.alloc (.cells #[.int .i64 x] 3)) (some ⟨w.heap.size, 0, none⟩) [x] := by
  intro k n hn
  cases k with
  | zero =>
    simp at hn
    subst hn
    refine ⟨w.heap.size, rfl, by simp, ?_⟩
    exact (Lib.cell_of_heap (World.alloc_heap_new w _) 0).trans rfl
  | succ k => simp at hn
theorem cmpN_lt {a b : Nat} (h : a < b) : Bg.cmpN a b = -1 := by unfold Bg.cmpN; rw [if_pos h]
theorem cmpN_ge {a b : Nat} (h : b ≤ a) : 0 ≤ Bg.cmpN a b := by
  unfold Bg.cmpN; rw [if_neg (by omega)]; split <;> omega

set_option maxRecDepth 100000 in
set_option maxHeartbeats 8000000 in
theorem over_in (o o' : Option Addr) (c c' D E : Nat) (w : World) (h : IntAt w o (Bg.ds D)) (h' : IntAt w o' (Bg.ds E)) (hE : 0 < E) (hl : (Bg.ds D).length ≤ 80) (hl' : (Bg.ds E).length ≤ 80) :
    CallsIn Fence.wide 8 Tryz.prog 130 #[.slice o (Bg.ds D).length c, .slice o' (Bg.ds E).length c'] w fun e w' =>
      ∃ o1 c1 o2 c2, e = .returned (.tuple #[.slice o1 (Bg.ds (D / E)).length c1, .slice o2 (Bg.ds (D % E)).length c2]) ∧ IntAt w' o1 (Bg.ds (D / E)) ∧ IntAt w' o2 (Bg.ds (D % E)) ∧ Below w.heap.size w w' ∧ (∀ b, o1 = some ⟨b, 0, none⟩ → w.heap.size ≤ b) ∧ (∀ b, o2 = some ⟨b, 0, none⟩ → w.heap.size ≤ b) := by
  obtain ⟨i0, hi, hz0, hz1, hz2⟩ := info_parts info_int
  have H1 := Lib.hid h
  have H2 := Lib.hid h'
  clear h h'
  refine callsIn_of_wp_marks Tryz.func130 rfl trivial ?_ rfl
  simp only [Tryz.ntmps130, List.size_toArray, List.length_cons, List.length_nil, Nat.reduceAdd, Nat.reduceSub, Array.replicate_succ, Array.replicate_zero, List.push_toArray, List.append_toArray, List.nil_append, List.cons_append]
  gi_wp2_with (gi_at_make; refine wpListIn_make_full _ rfl _ _ 50 rfl w.heap.size 3 i0 (.int .i64 0) 1 Tryz.underlying50 hi hz0 hz1 .i64 .i64 _ _ (Bg.ds D).length rfl rfl rfl rfl (by rw [hz2]; omega) (by unfold maxLen; omega) (by simp) ?_; intro w1 hown1 hgrow1; have HO1 := Lib.hid hown1; have HG1 := Lib.hid hgrow1; clear hown1 hgrow1)
  refine ⟨trivial, (backward_in Fence.wide _ trivial rfl _ _ _ _).mono ?_⟩
  rintro e w' ⟨rfl, rfl⟩
  gi_wp2_with fail
  have hsz1 : w.heap.size + 1 ≤ w1.heap.size := by have := HG1.out.size; simpa using this
  have hb1 : Below w.heap.size w w1 := ((Below.refl _ w).alloc (Nat.le_refl _) _).grown HG1.out (by simp) (fun k e => by cases e)
  have hE1 := (Boxed.new w 59 (.slice o' (Bg.ds E).length c')).kept HG1.out (by simp)
  have hrow0 : w1.ownsRow w.heap.size 3 1 (.slice (some ⟨w.heap.size + 1, 0, none⟩) (Bg.ds D).length (Bg.ds D).length) (Bg.ds D).length ((List.replicate (Bg.ds D).length 0).map (Value.int .i64)) := by
    have := HO1.out
    rwa [show (Value.int IntKind.i64 0).cells = #[.int .i64 0] from rfl, Nat.mul_one, toList_madeCells_one, ← List.map_replicate, World.size_alloc] at this
  have bQ := ((Boxed.new w1 50 (.slice (some ⟨w.heap.size + 1, 0, none⟩) (Bg.ds D).length (Bg.ds D).length)).alloc (.cells #[.slice none 0 0] 59)).alloc (.cells #[.slice o (Bg.ds D).length c] 59)
  have bR := (Boxed.new (w1.alloc (.cells #[.slice (some ⟨w.heap.size + 1, 0, none⟩) (Bg.ds D).length (Bg.ds D).length] 50)) 59 (.slice none 0 0)).alloc (.cells #[.slice o (Bg.ds D).length c] 59)
  have bS := Boxed.new ((w1.alloc (.cells #[.slice (some ⟨w.heap.size + 1, 0, none⟩) (Bg.ds D).length (Bg.ds D).length] 50)).alloc (.cells #[.slice none 0 0] 59)) 59 (.slice o (Bg.ds D).length c)
  have bE := ((hE1.alloc (.cells #[.slice (some ⟨w.heap.size + 1, 0, none⟩) (Bg.ds D).length (Bg.ds D).length] 50)).alloc (.cells #[.slice none 0 0] 59)).alloc (.cells #[.slice o (Bg.ds D).length c] 59)
  have hrow := ((hrow0.alloc (.cells #[.slice (some ⟨w.heap.size + 1, 0, none⟩) (Bg.ds D).length (Bg.ds D).length] 50)).alloc (.cells #[.slice none 0 0] 59)).alloc (.cells #[.slice o (Bg.ds D).length c] 59)
  rw [World.size_alloc] at bR
  rw [World.size_alloc, World.size_alloc] at bS
  have hB0 : Below w.heap.size w (((w1.alloc (.cells #[.slice (some ⟨w.heap.size + 1, 0, none⟩) (Bg.ds D).length (Bg.ds D).length] 50)).alloc (.cells #[.slice none 0 0] 59)).alloc (.cells #[.slice o (Bg.ds D).length c] 59)) := ((hb1.alloc (by omega) _).alloc (by simp; omega) _).alloc (by simp; omega) _
  have hsz2 : (((w1.alloc (.cells #[.slice (some ⟨w.heap.size + 1, 0, none⟩) (Bg.ds D).length (Bg.ds D).length] 50)).alloc (.cells #[.slice none 0 0] 59)).alloc (.cells #[.slice o (Bg.ds D).length c] 59)).heap.size = w1.heap.size + 3 := by simp
  generalize ((w1.alloc (.cells #[.slice (some ⟨w.heap.size + 1, 0, none⟩) (Bg.ds D).length (Bg.ds D).length] 50)).alloc (.cells #[.slice none 0 0] 59)).alloc (.cells #[.slice o (Bg.ds D).length c] 59) = W2 at *
  have hn1 : w.heap.size + 1 ≤ w1.heap.size := hsz1
  have HJ0 : Hid (OS w.heap.size w1.heap.size (Bg.ds D).length E (.slice o' (Bg.ds E).length c') (Bg.quoF D E (Bg.ds D).length []) none 0 w W2 W2) :=
    Lib.hid { hn := hn1, e := bE, q := bQ, row := by rw [Bg.quoF_nil]; exact hrow, r := by rw [Bg.quoF_nil, Bg.ds_zero]; exact bR, ri := by rw [Bg.quoF_nil, Bg.ds_zero]; exact IntAt.nil _ _, rne := (fun b e => by cases e), rfr := (fun b e => by cases e), below := hB0, k := KeepsOthers.refl _, kb := KeepB.refl _ _ _, bs := by omega }
  have HS := Lib.hid bS
  have HB0 := Lib.hid hB0
  have HW1 := Lib.hid hb1
  clear bQ bR bE hrow hB0 hrow0 hE1 bS HO1 HG1 hb1
  generalize hw1 : w1.heap.size = n1 at *
  clear HW1 hw1
  refine wpIn_rangeFunc_ownG rfl (by decide) (gf := 126) (lb := #[.pointer (some ⟨n1 + 1 + 1, 0, none⟩)]) rfl trivial (enters_of Tryz.func126 (by kernel_rfl) rfl)
    (backward_stops Fence.wide (8 - 1) trivial rfl (by decide) (n1 + 1 + 1) w.heap.size o c (Bg.ds D) (by omega) W2 HS.out.cell HS.out.lt (H1.out.mono HB0.out) H1.out.lt) (fun h k => h.trans k) (KeepB.b (by omega) (by omega)) (Below.refl _ _) (fun _ => rfl)
    (fun pre W => ∃ o3 c3, OS w.heap.size n1 (Bg.ds D).length E (.slice o' (Bg.ds E).length c') (Bg.quoF D E (Bg.ds D).length pre) o3 c3 w W W)
    (fun _ _ _ => False)
    (fun s A B row hs hg hr => by
      obtain ⟨o3, c3, hs⟩ := hs
      exact ⟨o3, c3, hs.turn hg (fun r e => ⟨by have := (hr r e).1; omega, (hr r e).2⟩)⟩)
    (fun _ _ _ _ _ hs _ _ => hs)
    ⟨none, 0, HJ0.out⟩
    (fun x => { tmps := #[.slice o (Bg.ds D).length c, .slice o' (Bg.ds E).length c', undef, .pointer (some ⟨w.heap.size, 0, none⟩), .slice none 0 0, .slice none 0 0, .pointer (some ⟨n1, 0, none⟩), .pointer (some ⟨n1 + 1, 0, none⟩), .int .i64 (x.val : Int), .int .i64 ((Bg.ds D)[x.val]?.getD 0), undef,
      .slice o (Bg.ds D).length c, .int .i64 ((Bg.ds D).length : Int), .slice (some ⟨w.heap.size + 1, 0, none⟩) (Bg.ds D).length (Bg.ds D).length, .slice o (Bg.ds D).length c, .func (.func 126) #[] #[.pointer (some ⟨n1 + 1 + 1, 0, none⟩)], .int .i64 (x.val : Int), .int .i64 ((Bg.ds D)[x.val]?.getD 0),
      undef, undef, undef, undef, undef, undef, undef, undef, undef, undef, undef, undef, undef, undef, undef, undef, undef, undef, undef, undef, undef, undef, undef, undef, undef, undef, undef, undef, undef], defers := [] }) ?assign ?body ?done ?stop
  case assign =>
    intro l x W K hK
    simp only [bkv]
    generalize (Bg.ds D)[x.val]?.getD 0 = v at *
    gi_wp2
    exact hK
  case body =>
    rintro l pre ⟨i, hi2⟩ W ⟨o3, c3, hJ⟩ hpl
    have hqlt := Bg.quoF_lt D E (Bg.ds D).length hE pre
    have hql := Bg.quoF_len D E (Bg.ds D).length pre
    have hd := Bg.ds_getD D i
    have hsn := Bg.quoF_snoc D E (Bg.ds D).length pre ⟨i, hi2⟩
    simp only [hd]
    have hds := Bg.digit_small D i
    have hcc : (Bg.ds (Bg.quoF D E (Bg.ds D).length pre).1).length ≤ 81 := by
      have h1 := Bg.ds_len_mono (Nat.le_of_lt hqlt)
      omega
    unfold Bg.stepQ at hsn
    generalize Bg.quoF D E (Bg.ds D).length pre = s at *
    obtain ⟨r, qs⟩ := s
    dsimp only at hJ hqlt hql hcc hsn
    generalize D / 1000000 ^ i % 1000000 = d at *
    have hval : Bg.valI ((d : Int) :: Bg.ds r) = ((r * 1000000 + d : Nat) : Int) := by
      rw [Bg.valI, Bg.valI_ds]; omega
    have hRq := Bg.quot_small hqlt hds
    obtain ⟨R, hR⟩ : ∃ R, r * 1000000 + d = R := ⟨_, rfl⟩
    rw [hR] at hval hRq hsn
    have HSN := Lib.hid hsn
    have hRlen : (Bg.ds R).length ≤ 81 := by
      have := Bg.rest_len hE hRq
      omega
    have HJ := Lib.hid hJ
    have hRb := hJ.r.lt
    have xR : ∀ o : Obj, (W.alloc o).cell? ⟨n1 + 1, 0, none⟩ = some (.slice o3 (Bg.ds r).length c3) := fun o => (World.cell?_alloc_past _ _ _ hRb).trans hJ.r.cell
    have hlit := World.ownsRow_lit (e := 3) (size := 1) (base := W.heap.size) W #[.int .i64 (d : Int)] 1 (Nat.le_refl _) (by decide) rfl
    have HLit := Lib.hid hlit
    have HCe := Lib.hid (cells_of_intAt (hJ.ri.mono ((Below.refl W.heap.size W).alloc (Nat.le_refl _) (.cells #[.int .i64 (d : Int)] 3))))
    have HV := Lib.hid hval
    have HRQ := Lib.hid hRq
    have HR := Lib.hid hR
    have HD := Lib.hid hds
    have HQL := Lib.hid hql
    have HQLT := Lib.hid hqlt
    clear hJ hlit hval hRq hR hd hsn hds hql hqlt
    gi_wp2_with (gi_at_builtin; refine wpListIn_append_any _ rfl _ _ 50 59 rfl W.heap.size 3 3 i0 (.int .i64 0) 1 8 Tryz.underlying50 Tryz.underlying59 hi hz0 hz1 hz2 rfl (by decide) W.heap.size 1 1 [.int .i64 (d : Int)] rfl HLit.out o3 (Bg.ds r).length c3 rfl ((Bg.ds r).map (Value.int .i64)) HCe.out (by simp [Value.oneCell']) (by unfold maxLen; omega) (by omega) (by simp) ?_; intro v' w3 hown' hgrow'; rw [Nat.add_comm] at hown'; obtain ⟨g', cap', rfl⟩ := ownsRow_succ hown'; have HOw := Lib.hid hown'; have HGw := Lib.hid hgrow'; clear hown' hgrow')
    have hset := settled_c (some ⟨g', 0, none⟩) cap' ((d : Int) :: Bg.ds r) R HV.out (fun x hx => by
      rcases List.mem_cons.1 hx with rfl | hx
      · have := HD.out; omega
      · have := Bg.ds_mem hx; omega) (by simp; omega) w3 (intAt_owns (l := (d : Int) :: Bg.ds r) HOw.out)
    rw [List.length_cons] at hset
    refine ⟨trivial, (CallsIn.inRound l (callsIn_wide.2 hset)).mono ?_⟩
    rintro e w4 ⟨o4, c4, rfl, hi4, hb4, hf4⟩
    clear hset
    have hW3 : Below W.heap.size W w3 := ((Below.refl _ W).alloc (Nat.le_refl _) _).grown HGw.out (by simp) (fun k e => by cases e; exact Nat.le_refl _)
    have hW4 := hW3.trans (hb4.mono hW3.size)
    have hJ4 := HJ.out.next hW4
    have hJ5 := hJ4.setR (c4 := c4) hi4 (fun b e _ => by have h1 := hf4 b e; have h2 := hW3.size; have h3 := HJ.out.bs; have h4 := HJ.out.hn; omega) (fun b e => by have h1 := hf4 b e; have h2 := hW3.size; have h3 := HJ.out.bs; have h4 := HJ.out.hn; omega)
    have hc4 := hJ4.r.cell
    have hf4' := hJ4.r.frozen
    have hc4e := hJ4.e.cell
    have HJ5 := Lib.hid hJ5
    clear hi4 hb4 hf4 hW3 hW4 hJ4 hJ5 HOw HGw HLit HCe xR
    gi_wp2_with fail
    obtain ⟨W5, hW5⟩ : ∃ W5, w4.setCell ⟨n1 + 1, 0, none⟩ (.slice o4 (Bg.ds R).length c4) = W5 := ⟨_, rfl⟩
    rw [hW5] at HJ5 ⊢
    clear hW5 hc4 hf4' hc4e w4
    have hE5 := H2.out.mono HJ5.out.below
    refine ⟨trivial, (CallsIn.inRound l (callsIn_wide.2 (guess_c o4 o' c4 c' R E W5 HJ5.out.ri hE5 (by omega) (by omega) HRQ.out))).mono ?_⟩
    rintro e w6 ⟨q0, rfl, hq1, hq2, rfl⟩
    clear hE5
    have HQ1 := Lib.hid hq1
    clear hq1
    gi_wp2_with fail
    gi_loopg [10] q0 (fun g v wr => v = .int .i64 (g : Nat) ∧ g ≤ 1000000 ∧ Hid (R / E ≤ g) ∧ Hid (OS w.heap.size n1 (Bg.ds D).length E (.slice o' (Bg.ds E).length c') (R, qs) o4 c4 w W wr))
    case atStart => exact ⟨rfl, hq2, HQ1, HJ5⟩
    case round =>
      clear HJ5 HQ1 hq2
      obtain ⟨rfl, hg, HG, HK⟩ := hrel
      have hc7 := HK.out.r.cell
      have he7 := HK.out.e.cell
      have hlR := HK.out.r.lt
      have hlE := HK.out.e.lt
      have hAl : Below wr.heap.size wr (wr.alloc (.cells #[.int .i64 (gk : Int)] 3)).drew := ((Below.refl wr.heap.size wr).alloc (Nat.le_refl _) _).drew
      have HP := Lib.hid (product1_c o' c' wr.heap.size E gk (wr.alloc (.cells #[.int .i64 (gk : Int)] 3)).drew ((H2.out.mono HK.out.below).mono hAl) ((intAt_lit wr gk).mono (Below.refl _ _).drew) (by omega) hg)
      have xR : ∀ ob : Obj, (wr.alloc ob).cell? ⟨n1 + 1, 0, none⟩ = some (.slice o4 (Bg.ds R).length c4) := fun ob => (World.cell?_alloc_past _ _ _ hlR).trans hc7
      have xE : ∀ ob : Obj, (wr.alloc ob).cell? ⟨w.heap.size, 0, none⟩ = some (.slice o' (Bg.ds E).length c') := fun ob => (World.cell?_alloc_past _ _ _ hlE).trans he7
      by_cases hgt : R / E < gk
      · have hlt : R < E * gk := by
          have := Nat.lt_mul_div_succ R hE
          exact Nat.lt_of_lt_of_le this (Nat.mul_le_mul_left _ hgt)
        have hcm := cmpN_lt hlt
        have HCM := Lib.hid hcm
        have HGT := Lib.hid hgt
        clear hcm hlt hgt
        gi_wp2_with fail
        gi_cut [32, 35, 36, 37, 38, 39, 40, 41, 42, 43, 44, 45, 46] from 26 (fun t a35 a36 a37 a38 a39 a40 a41 a42 a43 a44 a45 a46 wx => t = .bool true ∧ (a35 = undef ∧ a36 = undef ∧ a37 = undef ∧ a38 = undef ∧ a39 = undef ∧ a40 = undef ∧ a41 = undef ∧ a42 = undef ∧ a43 = undef ∧ a44 = undef ∧ a45 = undef ∧ a46 = undef) ∧ Hid (OS w.heap.size n1 (Bg.ds D).length E (.slice o' (Bg.ds E).length c') (R, qs) o4 c4 w W wx))
        case first =>
          rename_i J K' hJm hKm
          gi_region_with (first
            | (refine ⟨trivial, ?_⟩; gi_at_call 107; refine (CallsIn.inRound l (callsIn_wide.2 HP.out)).mono ?_; rintro e w7 ⟨o7, c7, rfl, hi7, hb7, hf7⟩; have hK7 := HK.out.next (hAl.trans (hb7.mono hAl.size)); have hc8 := hK7.r.cell; have HC8 := Lib.hid (compare_c o4 o7 c4 c7 R (E * gk) w7 (by omega) hK7.ri hi7); rw [HCM.out] at HC8; have HK7 := Lib.hid hK7; clear hi7 hb7 hf7 hK7)
            | (refine ⟨trivial, ?_⟩; gi_at_call 83; refine (CallsIn.inRound l (callsIn_wide.2 HC8.out)).mono ?_; rintro e w8 ⟨rfl, hb8⟩; have HK8 := Lib.hid (HK7.out.next hb8); clear hb8))
          all_goals
            refine (show K' _ _ from hKm _ _ (Met.intro (hJm _ _ ?_)))
            (repeat apply Exists.intro)
            exact ⟨⟨by simp, ⟨rfl, rfl, rfl, rfl, rfl, rfl, rfl, rfl, rfl, rfl, rfl, rfl⟩, HK8⟩, rfl⟩
        case rest =>
          obtain ⟨rfl, ⟨rfl, rfl, rfl, rfl, rfl, rfl, rfl, rfl, rfl, rfl, rfl, rfl⟩, HKc⟩ := hcut
          clear HP xR xE hAl
          have hg1 : (1 : Int) ≤ (gk : Int) := by have := Nat.lt_of_le_of_lt (Nat.zero_le _) HGT.out; omega
          have hg2 : (gk : Int) ≤ 1000000 := by omega
          gi_wp2_with fail
          go_roundg (gk - 1)
          case rel => exact ⟨by congr 1; omega, by omega, Lib.hid (by have := HGT.out; omega), HKc⟩
          case measure => omega
      · have hqe : gk = R / E := by have := HG.out; omega
        have hle : E * gk ≤ R := by rw [hqe]; exact Nat.mul_div_le R E
        obtain ⟨t, ht⟩ : ∃ t, Bg.cmpN R (E * gk) = t := ⟨_, rfl⟩
        have ht0 : 0 ≤ t := by rw [← ht]; exact cmpN_ge hle
        have dt : decide (t < 0) = false := decide_eq_false (by omega)
        have HT := Lib.hid ht
        have HQE := Lib.hid hqe
        clear ht hqe hle hgt
        gi_wp2_with fail
        gi_cut [32, 35, 36, 37, 38, 39, 40, 41, 42, 43, 44, 45, 46] from 26 (fun t a35 a36 a37 a38 a39 a40 a41 a42 a43 a44 a45 a46 wx => t = .bool false ∧ (a35 = undef ∧ a36 = undef ∧ a37 = undef ∧ a38 = undef ∧ a39 = undef ∧ a40 = undef ∧ a41 = undef ∧ a42 = undef ∧ a43 = undef ∧ a44 = undef ∧ a45 = undef ∧ a46 = undef) ∧ Hid (OS w.heap.size n1 (Bg.ds D).length E (.slice o' (Bg.ds E).length c') (R, qs) o4 c4 w W wx))
        case first =>
          rename_i J K' hJm hKm
          gi_region_with (first
            | (refine ⟨trivial, ?_⟩; gi_at_call 107; refine (CallsIn.inRound l (callsIn_wide.2 HP.out)).mono ?_; rintro e w7 ⟨o7, c7, rfl, hi7, hb7, hf7⟩; have hK7 := HK.out.next (hAl.trans (hb7.mono hAl.size)); have hc8 := hK7.r.cell; have HC8 := Lib.hid (compare_c o4 o7 c4 c7 R (E * gk) w7 (by omega) hK7.ri hi7); rw [HT.out] at HC8; have HK7 := Lib.hid hK7; clear hi7 hb7 hf7 hK7)
            | (refine ⟨trivial, ?_⟩; gi_at_call 83; refine (CallsIn.inRound l (callsIn_wide.2 HC8.out)).mono ?_; rintro e w8 ⟨rfl, hb8⟩; have HK8 := Lib.hid (HK7.out.next hb8); clear hb8))
          all_goals
            refine (show K' _ _ from hKm _ _ (Met.intro (hJm _ _ ?_)))
            (repeat apply Exists.intro)
            exact ⟨⟨by simp, ⟨rfl, rfl, rfl, rfl, rfl, rfl, rfl, rfl, rfl, rfl, rfl, rfl⟩, HK8⟩, rfl⟩
        case rest =>
          obtain ⟨rfl, ⟨rfl, rfl, rfl, rfl, rfl, rfl, rfl, rfl, rfl, rfl, rfl, rfl⟩, HKc⟩ := hcut
          clear HP xR xE hAl hc7 he7
          have hcq := HKc.out.q.cell
          have hcf := HKc.out.row.frozenAt i
          have hcw : ∃ y, wc.cell? ⟨w.heap.size + 1, i, none⟩ = some y := by
            have h1 := HKc.out.row.cellAt i (by omega)
            have h2 : i < qs.length := by have := HQL.out; omega
            rw [List.getElem?_map, show (R, qs).2[i]? = some qs[i] from List.getElem?_eq_getElem h2] at h1
            exact ⟨_, h1⟩
          obtain ⟨y, hcy⟩ := hcw
          have hi0 : (0 : Int) ≤ (i : Int) := by omega
          have hi1 : (i : Int) < ((Bg.ds D).length : Int) := by omega
          have hQ := HKc.out.setQ i (gk : Int)
          have hQr := hQ.r.cell
          have hQe := hQ.e.cell
          have hQf := hQ.r.frozen
          have HQS := Lib.hid hQ
          clear hQ
          gi_wp2_with fail
          have hsum : Bg.valI (Bg.ds R) + (-(gk : Int)) * Bg.valI (Bg.ds E) = ((R % E : Nat) : Int) := by
            rw [Bg.valI_ds, Bg.valI_ds, HQE.out]
            have := Nat.div_add_mod R E
            generalize R / E = t1 at *
            generalize R % E = t2 at *
            rw [← this, Int.neg_mul, Int.natCast_add, Int.natCast_mul, Int.mul_comm (E : Int)]
            omega
          have hpt := plusTimes_c o4 o' c4 c' (Bg.ds R) (Bg.ds E) (-(gk : Int)) (R % E) _ HQS.out.ri (H2.out.mono HQS.out.below) (fun x hx => by have := Bg.ds_mem hx; omega) (fun x hx => by have := Bg.ds_mem hx; omega) (by omega) (by omega) (by omega) (by omega) hsum
          refine ⟨trivial, (CallsIn.inRound l (callsIn_wide.2 hpt)).mono ?_⟩
          rintro e w9 ⟨o9, c9, rfl, hi9, hb9, hf9⟩
          clear hpt hsum
          have hN := HQS.out.next hb9
          have hNc := hN.r.cell
          have hNf := hN.r.frozen
          have hM := hN.setR (c4 := c9) hi9 (fun b e _ => by have h1 := hf9 b e; have h3 := HQS.out.bs; have h4 := HQS.out.hn; omega) (fun b e => by have h1 := hf9 b e; have h3 := HQS.out.bs; have h4 := HQS.out.hn; omega)
          have HM := Lib.hid hM
          clear hN hM hi9 hb9 hf9
          gi_wp2_with fail
          have hfin := HM.out.fresh
          rw [HQE.out] at hfin
          refine ⟨HM.out.k.from _, HM.out.kb, o9, c9, ?_⟩
          rw [HSN.out]
          exact hfin
  case done =>
    rintro Dd ys W hD rfl ⟨o3, c3, hJ⟩ hK
    have hq := Bg.quoF_take D E (Bg.ds D).length hE (Bg.lt_pow_len D) (bk (Bg.ds D).length) (bk_take _) (Bg.ds D).length (Nat.le_refl _)
    rw [List.take_of_length_le (by rw [bk_length]; exact Nat.le_refl _), Nat.sub_self, Nat.pow_zero, Nat.div_one, Nat.one_mul] at hq
    obtain ⟨hq1, hq2, _⟩ := hq
    have hbd := Bg.quoF_bd D E (Bg.ds D).length hE (bk (Bg.ds D).length)
    have hql := Bg.quoF_len D E (Bg.ds D).length (bk (Bg.ds D).length)
    generalize Bg.quoF D E (Bg.ds D).length (bk (Bg.ds D).length) = s at *
    obtain ⟨r, qs⟩ := s
    dsimp only at hq1 hq2 hbd hql
    subst hq1
    have hset := settled_c (some ⟨w.heap.size + 1, 0, none⟩) (Bg.ds D).length qs (D / E) hq2 (fun x hx => by have := hbd x hx; omega) (by omega) W.drew (intAt_owns hJ.row)
    rw [hql] at hset
    have hcq := hJ.q.cell
    have hcr := hJ.r.cell
    have HS2 := Lib.hid hset
    have HJ := Lib.hid hJ
    have HK := Lib.hid hK
    clear hset hJ hK hq2 hbd hql
    gi_wp2_with fail
    refine wpIn_wide.2 (wp_region_noPanic ?_)
    go_region_with (go_at_call 123; refine HS2.out.mono ?_; rintro e w8 ⟨o8, c8, rfl, hi8, hb8, hf8⟩; have hJ8 := HJ.out.next ((Below.refl _ W).drew.trans hb8); have hc8 := hJ8.r.cell; have HJ8 := Lib.hid hJ8; have HI8 := Lib.hid hi8; have HB8 := Lib.hid hb8; have HF8 := Lib.hid hf8; clear hi8 hb8 hf8 hJ8)
    all_goals
      refine NoPanic.normal ?_
      gi_wp2_with fail
      have hK8 := HJ8.out.k.same Dd _ HK.out rfl
      refine ⟨by simp, .inl ⟨_, _, rfl, run_takeDeferred hK8, ?_⟩⟩
      refine ⟨.tuple #[.slice o8 (Bg.ds (D / E)).length c8, .slice o3 (Bg.ds (D % E)).length c3], ?_, o8, c8, o3, c3, rfl, ?_, ?_, ?_, fun b e => Nat.le_trans HJ.out.below.size (HF8.out b e), HJ.out.rfr⟩
      · simp [results, Tryz.results130, go_sem, Act.put]
      · exact HI8.out.kept (grownBy_putObj' _ Dd _) (fun r e => by cases e; exact ⟨_, hK8, rfl⟩)
      · exact HJ8.out.ri.kept (grownBy_putObj' _ Dd _) (fun r e => by cases e; exact ⟨_, hK8, rfl⟩)
      · exact HJ8.out.below.trans (belowK_b (w := w) (Nat.le_refl _) _ Dd _ _ (by omega) hK8 rfl rfl)
  case stop =>
    rintro Dd c pre W _ _ h _
    exact h.elim
/-- A quotient and a rest have been returned. -/
def RetTwo (a b : List Int) (w : World) (e : Ending) (w' : World) : Prop := ∃ o1 c1 o2 c2, e = .returned (.tuple #[.slice o1 a.length c1, .slice o2 b.length c2]) ∧ IntAt w' o1 a ∧ IntAt w' o2 b ∧ Below w.heap.size w w' ∧ (∀ b, o1 = some ⟨b, 0, none⟩ → w.heap.size ≤ b) ∧ (∀ b, o2 = some ⟨b, 0, none⟩ → w.heap.size ≤ b)
theorem over_c (o o' : Option Addr) (c c' D E : Nat) (w : World) (h : IntAt w o (Bg.ds D)) (h' : IntAt w o' (Bg.ds E)) (hE : 0 < E) (hl : (Bg.ds D).length ≤ 80) (hl' : (Bg.ds E).length ≤ 80) :
    Calls Tryz.prog 130 #[.slice o (Bg.ds D).length c, .slice o' (Bg.ds E).length c'] w (RetTwo (Bg.ds (D / E)) (Bg.ds (D % E)) w) :=
  callsIn_wide.1 (over_in o o' c c' D E w h h' hE hl hl')
end Go.Proofs.YthbfbpbppjkoeaaGreatDoor
