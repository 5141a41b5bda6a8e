/- The statements' common first step holds. Conditions: those in the statement. -/
import Derived.Test.YtcjcbhdildcceaaGreatDoorLexSi
import Derived.Test.YtcjcbhdildcceaaGreatDoorLexEd
import Derived.Test.YtcjcbhdildcceaaGreatDoorLexAw
namespace Go.Proofs.YtcjcbhdildcceaaGreatDoor
open Go.RowKit

def aw1l : List Lx.Sp := [⟨2, [97, 58], 1, 1, 0, 2⟩, ⟨5, [51], 1, 4, 3, 4⟩, ⟨7, [43], 1, 6, 5, 6⟩, ⟨1, [120], 1, 8, 7, 8⟩, ⟨6, [121], 1, 9, 8, 11⟩]
def aw2l : List Lx.Sp := [⟨1, [97], 1, 1, 0, 1⟩, ⟨9, [46], 1, 2, 1, 2⟩, ⟨1, [98], 1, 3, 2, 3⟩, ⟨1, [97], 1, 5, 4, 5⟩, ⟨8, [46], 1, 6, 5, 6⟩, ⟨1, [98], 1, 8, 7, 8⟩, ⟨6, [105, 116, 39, 115], 1, 10, 9, 16⟩]
theorem aw1_d : Lx.divide [97, 58, 32, 51, 32, 43, 32, 120, 39, 121, 39] = (aw1l, 0, 0) := aw1_divide
theorem aw2_d : Lx.divide [97, 46, 98, 32, 97, 46, 32, 98, 32, 39, 105, 116, 39, 39, 115, 39, 32, 34, 110, 111, 34] = (aw2l, 0, 0) := aw2_divide
theorem aw3_d : Lx.divide [97, 32, 35, 32, 98] = ([], 10, 2) := aw3_divide
theorem aw4_d : Lx.divide [97, 32, 39, 98, 39, 32] = ([⟨1, [97], 1, 1, 0, 1⟩, ⟨6, [98], 1, 3, 2, 5⟩], 0, 0) := by rfl
theorem aw2_print : Lx.printed (Lx.toks aw2l) = ([97, 46, 98, 32, 97, 32, 46, 32, 98, 32, 39, 105, 116, 39, 39, 115, 39], 0) := by rfl
theorem aw_edit : Lx.editOf [97, 98, 32, 99, 100, 32, 101, 102] 3 5 [120] = ([97, 98, 32, 120, 32, 101, 102], 1, 1, 0, 0) := by rfl
theorem aw_kind1 : Lx.kindTold [97, 116, 58, 80, 117, 116, 58] = 0 := by rfl
theorem aw_kind2 : Lx.kindTold [39, 97, 39] = 6 := by rfl
theorem aw_kind3 : Lx.kindTold [45] = 7 := by rfl
theorem few (s : List UInt8) (h : s.length ≤ 6000) : s.length ≤ 20000 → (Lx.spans s).1.length ≤ 6000 := fun _ => Nat.le_trans (spans_len s) h
theorem few_edited (s wi : List UInt8) (h : s.length + wi.length ≤ 6000) (a b : Nat) (hab : a ≤ b) (hb : b ≤ s.length) : (Lx.edited s wi a b).length ≤ 20000 → (Lx.spans (Lx.edited s wi a b)).1.length ≤ 6000 := by
  refine few _ ?_
  unfold Lx.edited
  rw [List.length_append, List.length_append, List.length_take, List.length_drop]; omega
theorem tok_at {w : World} {g : Nat} {l : List Lx.Tk} (h : TokAt w (some ⟨g, 0, none⟩) l) (k : Nat) (t : Lx.Tk) (ht : l[k]? = some t) :
    w.cell? ⟨g, k * 4, none⟩ = some (.int .i64 t.kind) ∧ w.cell? ⟨g, k * 4 + 1, none⟩ = some (.string ⟨t.text.toArray⟩) ∧ w.cell? ⟨g, k * 4 + 2, none⟩ = some (.int .i64 t.line) ∧ w.cell? ⟨g, k * 4 + 3, none⟩ = some (.int .i64 t.col) := by
  obtain ⟨b, a, e, _, x0, x1, x2, x3⟩ := h k t ht
  injection e with e
  injection e with e1 e2
  subst e1 e2
  rw [Nat.zero_add] at x0 x1 x2 x3
  exact ⟨x0, x1, x2, x3⟩

set_option maxHeartbeats 4000000 in
set_option maxRecDepth 100000 in
theorem awake_c (m : Int) (w : World) (hm : w.cell? ⟨0, 0, none⟩ = some (.int .i64 m)) :
    Calls Tryz.prog 5 #[] w fun e w' => e = .returned (.bool true) ∧ Below w.heap.size w w' := by
  have hg : 0 < w.heap.size := World.block_lt_of_cell? _ _ hm
  have HM := Lib.hid hm
  have h1 := lex_c [97, 58, 32, 51, 32, 43, 32, 120, 39, 121, 39] m w hm (few _ (by decide))
  unfold lexLeft at h1
  rw [aw1_d] at h1
  have H1 := Lib.hid h1
  clear h1 hm
  go_enter Tryz.func5, Tryz.ntmps5
  go_wp2_with fail
  refine H1.out.mono ?_
  rintro e w1 ⟨v1, rfl, hb1, ho1⟩
  obtain ⟨o1, c1, rfl, ht1, -, -, hs1⟩ := slice_of_lex ho1
  obtain ⟨g1, rfl, -, hg1⟩ : ∃ g, o1 = some ⟨g, 0, none⟩ ∧ w.heap.size ≤ g ∧ g < w1.heap.size := by
    rcases hs1 with ⟨rfl, rfl⟩ | h
    · obtain ⟨b, a, e, _⟩ := ht1 0 _ rfl
      cases e
    · exact h
  have HB1 := Lib.hid hb1
  have HT1 := Lib.hid ht1
  have h2 := lex_c [97, 46, 98, 32, 97, 46, 32, 98, 32, 39, 105, 116, 39, 39, 115, 39, 32, 34, 110, 111, 34] m w1 ((hb1.cell hg).trans HM.out) (few _ (by decide))
  unfold lexLeft at h2
  rw [aw2_d] at h2
  have H2 := Lib.hid h2
  clear H1 hb1 ho1 ht1 hs1 h2
  go_wp2_with fail
  refine H2.out.mono ?_
  rintro e w2 ⟨v2, rfl, hb2, ho2⟩
  obtain ⟨o2, c2, rfl, ht2, -, -, hs2⟩ := slice_of_lex ho2
  obtain ⟨g2, rfl, -, hg2⟩ : ∃ g, o2 = some ⟨g, 0, none⟩ ∧ w1.heap.size ≤ g ∧ g < w2.heap.size := by
    rcases hs2 with ⟨rfl, rfl⟩ | h
    · obtain ⟨b, a, e, _⟩ := ht2 0 _ rfl
      cases e
    · exact h
  have HB2 := Lib.hid (HB1.out.trans (hb2.mono HB1.out.size))
  have HT1 := Lib.hid (tokAt_mono HT1.out hb2)
  have HT2 := Lib.hid ht2
  have h3 := lex_c [97, 32, 35, 32, 98] m w2 ((HB2.out.cell hg).trans HM.out) (few _ (by decide))
  unfold lexLeft at h3
  rw [aw3_d] at h3
  have H3 := Lib.hid h3
  clear H2 hb2 ho2 ht2 hs2 h3 HB1
  go_wp2_with fail
  refine H3.out.mono ?_
  rintro e w3 ⟨v3, rfl, hb3, -⟩
  have HB3 := Lib.hid (HB2.out.trans (hb3.mono HB2.out.size))
  have HT1 := Lib.hid (tokAt_mono HT1.out hb3)
  have HT2 := Lib.hid (tokAt_mono HT2.out hb3)
  have h4 := print_c (Lx.toks aw2l) (some ⟨g2, 0, none⟩) c2 m w3 HT2.out ((HB3.out.cell hg).trans HM.out) (by decide) (by decide)
  rw [aw2_print] at h4
  have H4 := Lib.hid h4
  clear H3 hb3 h4 HB2
  go_wp2_with fail
  refine H4.out.mono ?_
  rintro e w4 ⟨rfl, hb4⟩
  have HB4 := Lib.hid (HB3.out.trans (hb4.mono HB3.out.size))
  have HT1 := Lib.hid (tokAt_mono HT1.out hb4)
  have HT2 := Lib.hid (tokAt_mono HT2.out hb4)
  have h5 := edit_c [97, 98, 32, 99, 100, 32, 101, 102] [120] 3 5 m w4 ((HB4.out.cell hg).trans HM.out) (few _ (by decide)) (by decide) (by decide) (fun a b _ _ => few_edited _ _ (by decide) a b)
  rw [aw_edit] at h5
  have H5 := Lib.hid h5
  clear H4 hb4 h5 HB3
  go_wp2_with fail
  refine H5.out.mono ?_
  rintro e w5 ⟨rfl, hb5⟩
  have HB5 := Lib.hid (HB4.out.trans (hb5.mono HB4.out.size))
  have HT1 := Lib.hid (tokAt_mono HT1.out hb5)
  have HT2 := Lib.hid (tokAt_mono HT2.out hb5)
  have h6 := ends_c [97, 32, 39, 98, 39, 32] m w5 ((HB5.out.cell hg).trans HM.out) (few _ (by decide))
  unfold endsLeft at h6
  rw [aw4_d] at h6
  have H6 := Lib.hid h6
  clear H5 hb5 h6 HB4
  go_wp2_with fail
  refine H6.out.mono ?_
  rintro e w6 ⟨v6, rfl, hb6, ho6⟩
  obtain ⟨o6, c6, rfl, hi6⟩ := slice_of_ends ho6
  have HB6 := Lib.hid (HB5.out.trans (hb6.mono HB5.out.size))
  have HT1 := Lib.hid (tokAt_mono HT1.out hb6)
  have HT2 := Lib.hid (tokAt_mono HT2.out hb6)
  have HI6 := Lib.hid hi6
  clear H6 hb6 ho6 hi6 HB5
  obtain ⟨l0, l1, l2, l3⟩ := tok_at HT1.out 0 _ rfl
  obtain ⟨l16, l17, l18, l19⟩ := tok_at HT1.out 4 _ rfl
  obtain ⟨m4, -, -, -⟩ := tok_at HT2.out 1 _ rfl
  obtain ⟨m16, -, -, -⟩ := tok_at HT2.out 4 _ rfl
  obtain ⟨-, m25, -, -⟩ := tok_at HT2.out 6 _ rfl
  go_wp2_with fail
  have hn7 := World.alloc_heap_new w6 (.cells #[.int .i64 1, .int .i64 5] 3)
  have hb7 : Below w6.heap.size w6 (w6.alloc (.cells #[.int .i64 1, .int .i64 5] 3)) := (Below.refl _ w6).alloc (Nat.le_refl _) _
  have hz7 : (w6.alloc (.cells #[.int .i64 1, .int .i64 5] 3)).heap.size = w6.heap.size + 1 := by simp
  generalize (w6.alloc (.cells #[.int .i64 1, .int .i64 5] 3)) = w7 at *
  have hi7 : IntAt w7 (some ⟨w6.heap.size, 0, none⟩) [1, 5] := by
    intro k n hn
    refine ⟨w6.heap.size, 0, rfl, by omega, ?_⟩
    match k, hn with
    | 0, hn => simp at hn; subst hn; exact (Lib.cell_of_heap hn7 0).trans rfl
    | 1, hn => simp at hn; subst hn; exact (Lib.cell_of_heap hn7 1).trans rfl
  have h7 := sameInts_c (Lx.endsOf [⟨1, [97], 1, 1, 0, 1⟩, ⟨6, [98], 1, 3, 2, 5⟩]) [1, 5] o6 (some ⟨w6.heap.size, 0, none⟩) c6 2 w7 (intAt_mono HI6.out hb7) hi7 (by decide)
  rw [show decide (Lx.endsOf [⟨1, [97], 1, 1, 0, 1⟩, ⟨6, [98], 1, 3, 2, 5⟩] = [1, 5]) = true from by decide] at h7
  have HB7 := Lib.hid (HB6.out.trans (hb7.mono HB6.out.size))
  refine h7.mono ?_
  rintro e w8 ⟨rfl, hb8⟩
  have HB8 := Lib.hid (HB7.out.trans (hb8.mono HB7.out.size))
  have h9 := kind_c [97, 116, 58, 80, 117, 116, 58] w8
  rw [aw_kind1] at h9
  have H9 := Lib.hid h9
  clear h7 hb8 h9 hi7 hn7 hb7 hz7 HI6 HT1 HT2 l0 l1 l2 l3 l16 l17 l18 l19 m4 m16 m25 HB6
  go_wp2_with fail
  refine H9.out.mono ?_
  rintro e w9 ⟨rfl, hb9⟩
  have HB9 := Lib.hid (HB8.out.trans (hb9.mono HB8.out.size))
  have h10 := kind_c [39, 97, 39] w9
  rw [aw_kind2] at h10
  have H10 := Lib.hid h10
  clear hb9 h10 H9
  go_wp2_with fail
  refine H10.out.mono ?_
  rintro e w10 ⟨rfl, hb10⟩
  have HB10 := Lib.hid (HB9.out.trans (hb10.mono HB9.out.size))
  have h11 := kind_c [45] w10
  rw [aw_kind3] at h11
  have H11 := Lib.hid h11
  clear hb10 h11 H10
  go_wp2_with fail
  refine H11.out.mono ?_
  rintro e w11 ⟨rfl, hb11⟩
  have HB11 := Lib.hid (HB10.out.trans (hb11.mono HB10.out.size))
  clear hb11 H11
  go_wp2_with fail
  refine bodyPost_ret (v := .bool true) ?_ rfl ⟨rfl, HB11.out⟩
  simp [results, Tryz.results5, go_sem]
end Go.Proofs.YtcjcbhdildcceaaGreatDoor
