/- Contracts, joined of several texts: Wt, Qs, Qr, Qp, Ts. Conditions: those in the statements. -/
import Derived.Test.YtcjcbhdildcceaaGreatDoorLexRp
import Derived.Test.YtcjcbhdildcceaaGreatDoorLexPw
import Derived.Test.YtcjcbhdildcceaaGreatDoorLexRz
import Derived.Lib.AppendStr
import Derived.Test.YtcjcbhdildcceaaGreatDoorLexAk
/- Contracts of weight and brief of the laws' package. Conditions: those in the statements. -/
namespace Go.Proofs.YtcjcbhdildcceaaGreatDoor
open Go.RowKit

def Lx.brief (n : Nat) : Bool := decide (n ≤ 3000) || (decide (20000 < n) && decide (n ≤ 40000))
theorem brief_c (s : List UInt8) (w : World) :
    Calls Tryz.prog 6 #[.string ⟨s.toArray⟩] w fun e w' => e = .returned (.bool (Lx.brief s.length)) ∧ ∃ q, w' = w.drewN q := by
  have hss : (⟨s.toArray⟩ : ByteArray).size = s.length := by simp [ByteArray.size]
  go_enter Tryz.func6, Tryz.ntmps6
  generalize s.length = n at *
  by_cases h1 : n ≤ 3000
  · have d1 : decide ((n : Int) ≤ 3000) = true := decide_eq_true (by omega)
    have hb : Lx.brief n = true := by unfold Lx.brief; rw [decide_eq_true h1]; rfl
    clear h1
    go_wp2_with fail
    refine bodyPost_ret (v := .bool true) ?_ rfl ⟨by rw [hb], 0, rfl⟩
    simp [results, Tryz.results6, go_sem]
  · have d1 : decide ((n : Int) ≤ 3000) = false := decide_eq_false (by omega)
    by_cases h2 : 20000 < n
    · have d2 : decide ((20000 : Int) < (n : Int)) = true := decide_eq_true (by omega)
      by_cases h3 : n ≤ 40000
      · have d3 : decide ((n : Int) ≤ 40000) = true := decide_eq_true (by omega)
        have hb : Lx.brief n = true := by unfold Lx.brief; rw [decide_eq_true h2, decide_eq_true h3, decide_eq_false h1]; rfl
        clear h1 h2 h3
        go_wp2_with fail
        refine bodyPost_ret (v := .bool true) ?_ rfl ⟨by rw [hb], 0, rfl⟩
        simp [results, Tryz.results6, go_sem]
      · have d3 : decide ((n : Int) ≤ 40000) = false := decide_eq_false (by omega)
        have hb : Lx.brief n = false := by unfold Lx.brief; rw [decide_eq_true h2, decide_eq_false h3, decide_eq_false h1]; rfl
        clear h1 h2 h3
        go_wp2_with fail
        refine bodyPost_ret (v := .bool false) ?_ rfl ⟨by rw [hb], 0, rfl⟩
        simp [results, Tryz.results6, go_sem]
    · have d2 : decide ((20000 : Int) < (n : Int)) = false := decide_eq_false (by omega)
      have hb : Lx.brief n = false := by unfold Lx.brief; rw [decide_eq_false h2, decide_eq_false h1]; rfl
      clear h1 h2
      go_wp2_with fail
      refine bodyPost_ret (v := .bool false) ?_ rfl ⟨by rw [hb], 0, rfl⟩
      simp [results, Tryz.results6, go_sem]

/-- How many bytes the texts of tokens have, counted up to more than 30000. -/
def Lx.wgt : List Tk → Nat → Nat
  | [], n => n
  | t :: r, n => if n ≤ 30000 then wgt r (n + t.text.length) else n
theorem wgt_ge : ∀ (l : List Lx.Tk) (n : Nat), n ≤ Lx.wgt l n
  | [], n => Nat.le_refl _
  | t :: r, n => by
    unfold Lx.wgt
    split
    · have := wgt_ge r (n + t.text.length); omega
    · exact Nat.le_refl _
theorem wgt_le : ∀ (l : List Lx.Tk) (n : Nat), Lx.wgt l n ≤ 30000 → ∀ t ∈ l, t.text.length ≤ 30000
  | [], n, h, t, ht => by cases ht
  | a :: r, n, h, t, ht => by
    unfold Lx.wgt at h
    split at h
    · rcases List.mem_cons.1 ht with rfl | ht
      · have := wgt_ge r (n + t.text.length); omega
      · exact wgt_le r _ h t ht
    · omega
theorem wgt_more (l : List Lx.Tk) (k n : Nat) (t : Lx.Tk) (h : l[k]? = some t) (hn : n ≤ 30000) : Lx.wgt (l.drop k) n = Lx.wgt (l.drop (k + 1)) (n + t.text.length) := by
  rw [List.drop_eq_getElem_cons (List.getElem?_eq_some_iff.1 h).1, (List.getElem?_eq_some_iff.1 h).2]
  conv => lhs; unfold Lx.wgt
  rw [if_pos hn]
theorem wgt_stop (l : List Lx.Tk) (n : Nat) (hn : ¬ n ≤ 30000) : Lx.wgt l n = n := by
  cases l with
  | nil => rfl
  | cons a r => unfold Lx.wgt; rw [if_neg hn]

set_option maxHeartbeats 4000000 in
set_option maxRecDepth 100000 in
theorem weight_c (l : List Lx.Tk) (o : Option Addr) (c : Nat) (w : World) (h : TokAt w o l) (hn : l.length ≤ 1000000) (hl : ∀ t ∈ l, t.text.length ≤ 140737488355328) :
    Calls Tryz.prog 17 #[.slice o l.length c] w fun e w' => e = .returned (.int .i64 (Lx.wgt l 0)) ∧ ∃ q, w' = w.drewN q := by
  have HA := Lib.hid h
  have HL := Lib.hid hl
  clear h hl
  go_enter Tryz.func17, Tryz.ntmps17
  go_wp2_with fail
  go_loopg [3, 4] l.length (fun g n i wr => ∃ k nn : Nat, k ≤ l.length ∧ i = .int .i64 k ∧ n = .int .i64 nn ∧ nn ≤ 140737488400000 ∧ Hid (Lx.wgt (l.drop k) nn = Lx.wgt l 0) ∧ Hid (∃ q, wr = w.drewN q) ∧ g = l.length - k)
  case atStart => exact ⟨0, 0, Nat.zero_le _, rfl, rfl, by omega, Lib.hid rfl, Lib.hid ⟨0, rfl⟩, rfl⟩
  case round =>
    obtain ⟨k, nn, hk, rfl, rfl, hnn, HK, HW, hg⟩ := hrel
    by_cases hE : k = l.length
    · have dE : decide ((k : Int) < (l.length : Int)) = false := decide_eq_false (by omega)
      have HE := Lib.hid hE
      clear hE
      go_wp2_with fail
      all_goals (try (exfalso; have := HE.out; omega))
      refine bodyPost_ret (v := .int .i64 nn) ?_ rfl ⟨by have := HK.out; rw [HE.out, List.drop_length] at this; rw [← this]; rfl, HW.out⟩
      simp [results, Tryz.results17, go_sem]
    · have hlt : k < l.length := by omega
      have dE : decide ((k : Int) < (l.length : Int)) = true := decide_eq_true (by omega)
      by_cases h3 : nn ≤ 30000
      · have d3 : decide ((nn : Int) ≤ 30000) = true := decide_eq_true (by omega)
        obtain ⟨t, ht⟩ : ∃ t, l[k]? = some t := ⟨_, List.getElem?_eq_getElem hlt⟩
        obtain ⟨b, a, rfl, hb, x0, x1, -, -⟩ := HA.out k t ht
        replace x1 := ((dn_below HW.out).cell (p := ⟨b, _, none⟩) hb).trans x1
        have htl := HL.out t (List.mem_of_getElem? ht)
        have htz : (⟨t.text.toArray⟩ : ByteArray).size = t.text.length := by simp [ByteArray.size]
        have hwr : IntKind.i64.wrap ((nn : Int) + (t.text.length : Int)) = (nn : Int) + (t.text.length : Int) := IntWalk.i64_in _ (by omega)
        have HNK := Lib.hid ((wgt_more l k nn t ht h3).symm.trans HK.out)
        have H3 := Lib.hid h3
        clear ht h3 hE
        go_wp2_with fail
        go_roundg (l.length - (k + 1))
        case rel => exact ⟨k + 1, nn + t.text.length, by omega, rfl, rfl, by have := H3.out; omega, HNK, HW, rfl⟩
        case measure => omega
      · have d3 : decide ((nn : Int) ≤ 30000) = false := decide_eq_false (by omega)
        have H3 := Lib.hid h3
        clear h3 hE
        go_wp2_with fail
        refine bodyPost_ret (v := .int .i64 nn) ?_ rfl ⟨by rw [← HK.out, wgt_stop _ _ H3.out], HW.out⟩
        simp [results, Tryz.results17, go_sem]
end Go.Proofs.YtcjcbhdildcceaaGreatDoor
/- Contracts of spelled and Kind of the specification's package. Conditions: those in the statements. -/
namespace Go.Proofs.YtcjcbhdildcceaaGreatDoor
open Go.RowKit
set_option linter.unusedVariables false
set_option linter.unusedSimpArgs false

theorem info_u8 : (Tryz.prog.info? 5).map (fun i => (i.zero, i.size, i.bytes)) = some (some (.int .u8 0), 1, 1) := by kernel_rfl
theorem u8_new (W : World) (n : Int) : ∀ j u, ([.int .u8 n] : List Value)[j]? = some u → (W.alloc (.cells #[.int .u8 n] 5)).cell? ((⟨W.heap.size, 0, none⟩ : Addr).add j) = some u := by
  intro j u hj
  rw [add_plain, Lib.cell_of_heap (World.alloc_heap_new _ _)]
  simpa using hj
theorem u8_one (n : Int) : ∀ u ∈ ([.int .u8 n] : List Value), u.oneCell' = true := by simp [Value.oneCell']
/-- A row of bytes as a text. -/
theorem conv_row {W : World} {base n : Nat} {v : Value} {l : List UInt8} (hn : l.length = n) (h : W.ownsRow base 5 1 v n (Lib.byteCells l)) :
    (convert 64 9 v).run Tryz.prog W = .ok (.string ⟨l.toArray⟩) W := by
  have hc := h
  rcases h.2 with ⟨rfl, h0⟩ | ⟨g, c, cur, rfl, -⟩
  · have hl : l = [] := List.eq_nil_of_length_eq_zero (by omega)
    subst hl
    exact run_convert_bytes_nil W 64 5 Tryz.underlying64 Tryz.underlying5 0 0 9 Tryz.underlying9
  · subst hn
    refine run_convert_bytes_back W 64 9 5 ⟨g, 0, none⟩ c l Tryz.underlying64 Tryz.underlying5 Tryz.underlying9 (fun j hj => ?_)
    exact hc.cells (g := g) rfl j _ (by unfold Lib.byteCells; rw [List.getElem?_map, List.getElem?_eq_getElem hj]; rfl)
theorem dbl_snoc (b : UInt8) : ∀ l : List UInt8, Lx.dbl (l ++ [b]) = Lx.dbl l ++ (if b = 39 then [39, 39] else [b])
  | [] => by show Lx.dbl [b] = _; by_cases h : b = 39 <;> simp [Lx.dbl, h]
  | a :: l => by
    have ih := dbl_snoc b l
    rw [List.cons_append]
    conv => lhs; unfold Lx.dbl
    conv => rhs; unfold Lx.dbl
    split <;> simp [ih]
theorem byteCells_snoc (l m : List UInt8) : Lib.byteCells (l ++ m) = Lib.byteCells l ++ Lib.byteCells m := by unfold Lib.byteCells; rw [List.map_append]

set_option maxHeartbeats 4000000 in
set_option maxRecDepth 100000 in
theorem refSpelled_c (k : Int) (txt : List UInt8) (ln cl : Int) (w : World) (hl : txt.length ≤ 100000000) :
    Calls Tryz.prog 42 #[tokW k txt ln cl] w fun e w' => e = .returned (.string ⟨(Lx.spell k txt).toArray⟩) ∧ Below w.heap.size w w' := by
  have hsz : (⟨txt.toArray⟩ : ByteArray).size = txt.length := by simp [ByteArray.size]
  have hb1 : Below w.heap.size w (w.alloc (.cells #[.int .i64 k, .string ⟨txt.toArray⟩, .int .i64 ln, .int .i64 cl] 45)) := (Below.refl _ w).alloc (Nat.le_refl _) _
  unfold tokW
  by_cases h6 : k = 6
  · subst h6
    have hx := World.alloc_heap_new w (.cells #[.int .i64 6, .string ⟨txt.toArray⟩, .int .i64 ln, .int .i64 cl] 45)
    have HX := Lib.hid (show Lx.spell 6 txt = 39 :: (Lx.dbl txt ++ [39]) from if_pos rfl)
    have HDL := Lib.hid (dbl_len)
    obtain ⟨i0, hi, hz0, hz1, hz2⟩ := info_parts info_u8
    have hwz : (w.alloc (.cells #[.int .i64 6, .string ⟨txt.toArray⟩, .int .i64 ln, .int .i64 cl] 45)).heap.size = w.heap.size + 1 := by simp
    have HB1 := Lib.hid hb1
    have HXb := Lib.hid hx
    have HWZ := Lib.hid hwz
    clear hb1 hx
    have hCn := u8_new (w.alloc (.cells #[.int .i64 6, .string ⟨txt.toArray⟩, .int .i64 ln, .int .i64 cl] 45)) 39
    rw [hwz] at hCn
    have HCn := Lib.hid hCn
    have H1c := Lib.hid (u8_one 39)
    have HBx := Lib.hid (Below.refl (w.heap.size + 1) (w.alloc (.cells #[.int .i64 6, .string ⟨txt.toArray⟩, .int .i64 ln, .int .i64 cl] 45)))
    clear hCn hwz
    go_enter Tryz.func42, Tryz.ntmps42
    go_wp2_with (at_builtin; refine wpList_append_own _ rfl _ _ 64 rfl (w.heap.size + 1) 5 i0 _ 1 1 Tryz.underlying64 hi hz0 hz1 hz2 rfl (by decide) (.slice none 0 0) 0 [] rfl (World.ownsRow_nil _ _ _ _) ⟨w.heap.size + 1, 0, none⟩ 1 1 [.int .u8 39] rfl rfl HCn.out H1c.out (by decide) (by decide) (by simp) ?_; intro v' w2 hown' hgrow _; have HOw := Lib.hid hown'; have HGw := Lib.hid hgrow; clear hown' hgrow)
    have HV0 : Hid (w2.ownsRow (w.heap.size + 1) 5 1 v' [(39 : UInt8)].length (Lib.byteCells [39])) := Lib.hid HOw.out
    have HB2 : Hid (Below (w.heap.size + 1) (w.alloc (.cells #[.int .i64 6, .string ⟨txt.toArray⟩, .int .i64 ln, .int .i64 cl] 45)) w2) := Lib.hid ((HBx.out.alloc (by rw [HWZ.out]; omega) _).grown HGw.out (by simp) (fun b e => by cases e))
    have HC1 := Lib.hid (show w2.cell? ⟨w.heap.size, 1, none⟩ = some (.string ⟨txt.toArray⟩) from (Lib.cell_of_heap ((HB2.out.block w.heap.size (by omega)).trans HXb.out) 1).trans rfl)
    have HB0 := Lib.hid (HB1.out.trans (HB2.out.mono (by omega)))
    have h2z : w.heap.size + 1 ≤ w2.heap.size := by have := HB2.out.size; rw [HWZ.out] at this; exact this
    clear HOw HGw HBx HXb HWZ HCn HB1 HB2 H1c
    go_loopg [3, 4] txt.length (fun g bv iv wr => ∃ (k : Nat) (acc : List UInt8), k ≤ txt.length ∧ iv = .int .i64 k ∧ Hid (acc = 39 :: Lx.dbl (txt.take k)) ∧ Hid (wr.ownsRow (w.heap.size + 1) 5 1 bv acc.length (Lib.byteCells acc)) ∧ Hid (Below (w.heap.size + 1) w2 wr) ∧ g = txt.length - k)
    case atStart => exact ⟨0, [39], Nat.zero_le _, rfl, Lib.hid rfl, HV0, Lib.hid (Below.refl _ _), rfl⟩
    case round =>
      obtain ⟨k, acc, hk, rfl, HAC, HV, HW, hg⟩ := hrel
      have hwz := HW.out.size
      have hal : acc.length ≤ 2 * k + 1 := by
        have := HDL.out (txt.take k)
        rw [List.length_take] at this
        rw [HAC.out, List.length_cons]; omega
      have y1 : wr.cell? ⟨w.heap.size, 1, none⟩ = some (.string ⟨txt.toArray⟩) := (HW.out.cell (p := ⟨w.heap.size, 1, none⟩) (by show w.heap.size < _; omega)).trans HC1.out
      by_cases hE : k = txt.length
      · have dE : decide ((k : Int) < (txt.length : Int)) = false := decide_eq_false (by omega)
        have dEn : decide (k < txt.length) = false := decide_eq_false (by omega)
        have HXX := Lib.hid (show Lx.spell 6 txt = acc ++ [39] by rw [HX.out, HAC.out, hE, List.take_length]; rfl)
        have HE := Lib.hid hE
        clear hE
        go_wp2_with (at_builtin; refine wpList_append_own _ rfl _ _ 64 rfl (w.heap.size + 1) 5 i0 _ 1 1 Tryz.underlying64 hi hz0 hz1 hz2 rfl (by decide) u3 acc.length (Lib.byteCells acc) rfl (HV.out.alloc _) ⟨wr.heap.size, 0, none⟩ 1 1 [.int .u8 39] rfl rfl (u8_new wr 39) (u8_one 39) (by show _ ≤ 9223372036854775807; omega) (by omega) (by simp; omega) ?_;  intro v9 w9 hown hgrow _; have HO9 := Lib.hid hown; have HG9 := Lib.hid hgrow; clear hown hgrow)
        all_goals (try (exfalso; have := HE.out; omega))
        have hrow : w9.ownsRow (w.heap.size + 1) 5 1 v9 (acc.length + 1) (Lib.byteCells (acc ++ [39])) := by rw [byteCells_snoc]; exact HO9.out
        rw [conv_row (by rw [List.length_append]; rfl) hrow]
        simp only [Result.andThen]
        have HB9 := Lib.hid (HB0.out.trans (((HW.out.alloc (by omega) _).grown HG9.out (by simp; omega) (fun b e => (HV.out.lt b e).1)).mono (by omega)))
        go_wp2_with fail
        refine bodyPost_ret (v := .string ⟨(acc ++ [39]).toArray⟩) ?_ rfl ⟨by rw [HXX.out], HB9.out⟩
        simp [results, Tryz.results42, go_sem]
      · have hlt : k < txt.length := by omega
        have dE : decide ((k : Int) < (txt.length : Int)) = true := decide_eq_true (by omega)
        have dEn : decide (k < txt.length) = true := decide_eq_true (by omega)
        obtain ⟨c, hc⟩ : ∃ c, txt[k]? = some c := ⟨_, List.getElem?_eq_getElem hlt⟩
        have hget : (⟨txt.toArray⟩ : ByteArray)[k]'(by rw [hsz]; exact hlt) = c := (List.getElem?_eq_some_iff.1 hc).2
        have htk : txt.take (k + 1) = txt.take k ++ [c] := by rw [List.take_add_one, hc]; rfl
        by_cases hq : c = 39
        · have hAC2 : acc ++ [39, 39] = 39 :: Lx.dbl (txt.take (k + 1)) := by rw [htk, dbl_snoc, if_pos hq, HAC.out]; rfl
          have d : ((c.toNat : Int) == 39) = true := by rw [hq]; rfl
          have HAC2 := Lib.hid hAC2
          have HQ := Lib.hid hq
          clear hc hE htk hAC2 hq
          go_wp2_with (first
            | (at_builtin; refine wpList_append_own _ rfl _ _ 64 rfl (w.heap.size + 1) 5 i0 _ 1 1 Tryz.underlying64 hi hz0 hz1 hz2 rfl (by decide) u3 acc.length (Lib.byteCells acc) rfl (HV.out.alloc _) ⟨wr.heap.size, 0, none⟩ 1 1 [.int .u8 39] rfl rfl (u8_new wr 39) (u8_one 39) (by show _ ≤ 9223372036854775807; omega) (by omega) (by simp; omega) ?_;  intro v3 w3 hown hgrow _; have HO3 := Lib.hid hown; have HG3 := Lib.hid hgrow; have h3z : wr.heap.size ≤ w3.heap.size := Nat.le_trans (by simp) hgrow.size; have HB3 := Lib.hid ((HW.out.alloc (by omega) _).grown hgrow (by simp; omega) (fun b e => (HV.out.lt b e).1)); have y3 : w3.cell? ⟨w.heap.size, 1, none⟩ = some (.string ⟨txt.toArray⟩) := (HB3.out.cell (p := ⟨w.heap.size, 1, none⟩) (by show w.heap.size < _; omega)).trans HC1.out; clear hown hgrow)
            | (at_builtin; refine wpList_append_own _ rfl _ _ 64 rfl (w.heap.size + 1) 5 i0 _ 1 1 Tryz.underlying64 hi hz0 hz1 hz2 rfl (by decide) v3 (acc.length + 1) (Lib.byteCells acc ++ [.int .u8 39]) rfl (HO3.out.alloc _) ⟨w3.heap.size, 0, none⟩ 1 1 [.int .u8 (c.toNat : Int)] rfl rfl (u8_new w3 (c.toNat : Int)) (u8_one (c.toNat : Int)) (by show _ ≤ 9223372036854775807; omega) (by omega) (by simp; omega) ?_;  intro v4 w4 hown hgrow _; have HO4 := Lib.hid hown; have HG4 := Lib.hid hgrow; clear hown hgrow))
          have HB4 := Lib.hid ((HB3.out.alloc (by omega) _).grown HG4.out (by simp; omega) (fun b e => (HO3.out.lt b e).1))
          have HR4 : Hid (w4.ownsRow (w.heap.size + 1) 5 1 v4 (acc ++ [39, 39]).length (Lib.byteCells (acc ++ [39, 39]))) := Lib.hid (by
            rw [byteCells_snoc, List.length_append]
            have := HO4.out
            rw [List.append_assoc] at this
            rw [HQ.out] at this
            exact this)
          clear HB3 HO3 HO4 HG3 HG4
          go_roundg (txt.length - (k + 1))
          case rel => exact ⟨k + 1, acc ++ [39, 39], by omega, rfl, HAC2, HR4, HB4, rfl⟩
          case measure => omega
        · have hAC2 : acc ++ [c] = 39 :: Lx.dbl (txt.take (k + 1)) := by rw [htk, dbl_snoc, if_neg hq, HAC.out]; rfl
          have d : ((c.toNat : Int) == 39) = false := beq_eq_false_iff_ne.2 (fun e => hq (UInt8.toNat_inj.1 (show c.toNat = 39 by omega)))
          have HAC2 := Lib.hid hAC2
          clear hc hE htk hAC2 hq
          go_wp2_with (at_builtin; refine wpList_append_own _ rfl _ _ 64 rfl (w.heap.size + 1) 5 i0 _ 1 1 Tryz.underlying64 hi hz0 hz1 hz2 rfl (by decide) u3 acc.length (Lib.byteCells acc) rfl (HV.out.alloc _) ⟨wr.heap.size, 0, none⟩ 1 1 [.int .u8 (c.toNat : Int)] rfl rfl (u8_new wr (c.toNat : Int)) (u8_one (c.toNat : Int)) (by show _ ≤ 9223372036854775807; omega) (by omega) (by simp; omega) ?_;  intro v3 w3 hown hgrow _; have HO3 := Lib.hid hown; have HG3 := Lib.hid hgrow; clear hown hgrow)
          have HB3 := Lib.hid ((HW.out.alloc (by omega) _).grown HG3.out (by simp; omega) (fun b e => (HV.out.lt b e).1))
          have HR3 : Hid (w3.ownsRow (w.heap.size + 1) 5 1 v3 (acc ++ [c]).length (Lib.byteCells (acc ++ [c]))) := Lib.hid (by
            rw [byteCells_snoc, List.length_append]
            exact HO3.out)
          clear HO3 HG3
          go_roundg (txt.length - (k + 1))
          case rel => exact ⟨k + 1, acc ++ [c], by omega, rfl, HAC2, HR3, HB3, rfl⟩
          case measure => omega
  · have d6 : (k != 6) = true := bne_iff_ne.2 h6
    have HX := Lib.hid (show Lx.spell k txt = txt from if_neg h6)
    have HB := Lib.hid hb1
    clear h6 hb1
    go_enter Tryz.func42, Tryz.ntmps42
    go_wp2_with fail
    refine bodyPost_ret (v := .string ⟨txt.toArray⟩) ?_ rfl ⟨by rw [HX.out], HB.out⟩
    simp [results, Tryz.results42, go_sem]

theorem kind_blank (s : List UInt8) (b : UInt8) (hb : s[0]? = some b) (h : Lx.blank b = true ∨ b = 34) : Lx.kindTold s = 0 := by
  have hlen : 0 < s.length := (List.getElem?_eq_some_iff.1 hb).1
  unfold Lx.kindTold
  split
  · rfl
  · unfold Lx.soleKind
    split
    · rename_i k n hm
      rw [measure_L, List.drop_zero] at hm
      obtain ⟨c, hc, h1, h2⟩ := measureL_first s _ k n hlen hm
      rw [hb] at hc; injection hc with hc; subst hc
      rcases h with h | h
      · rw [h] at h1; cases h1
      · exact absurd h h2
    · rfl

set_option maxHeartbeats 4000000 in
set_option maxRecDepth 100000 in
theorem refKind_c (s : List UInt8) (w : World) :
    Calls Tryz.prog 23 #[.string ⟨s.toArray⟩] w fun e w' => e = .returned (.int .i64 (Lx.kindTold s)) ∧ Below w.heap.size w w' := by
  have hss : (⟨s.toArray⟩ : ByteArray).size = s.length := by simp [ByteArray.size]
  by_cases h0 : s = []
  · subst h0
    go_enter Tryz.func23, Tryz.ntmps23
    go_wp2_with fail
    refine bodyPost_ret (v := .int .i64 0) ?_ rfl ⟨rfl, Below.refl _ w⟩
    simp [results, Tryz.results23, go_sem]
  · have hp : 0 < s.length := List.length_pos_iff.2 h0
    obtain ⟨b, hb⟩ : ∃ b, s[0]? = some b := ⟨_, List.getElem?_eq_getElem hp⟩
    have hget : (⟨s.toArray⟩ : ByteArray)[0]'(by rw [hss]; exact hp) = b := (List.getElem?_eq_some_iff.1 hb).2
    have hel : (s == []) = false := beq_eq_false_iff_ne.2 h0
    have hem : s.isEmpty = false := by cases s with | nil => exact absurd rfl h0 | cons _ _ => rfl
    have HI := Lib.hid (fun W => refIn_c b [32, 9, 10, 34] W (by decide))
    have hin : Lx.inB b [32, 9, 10, 34] = (Lx.blank b || b == 34) := by
      rw [← inB_blank]; unfold Lx.inB; simp only [List.mem_cons, List.not_mem_nil, or_false]
      rw [Bool.eq_iff_iff]; simp only [decide_eq_true_eq, Bool.or_eq_true, beq_iff_eq, or_assoc]
    rw [hin] at HI
    have HKB := Lib.hid (kind_blank s b hb)
    by_cases hbl : (Lx.blank b || b == 34) = true
    · rw [hbl] at HI
      have HX := Lib.hid (HKB.out (by simpa using hbl))
      clear hbl hin hb HKB h0
      go_enter Tryz.func23, Tryz.ntmps23
      go_wp2_with (go_at_call 44; refine (HI.out _).mono ?_; rintro e w' ⟨rfl, rfl⟩)
      refine bodyPost_ret (v := .int .i64 0) ?_ rfl ⟨by rw [HX.out]; rfl, Below.refl _ _⟩
      simp [results, Tryz.results23, go_sem]
    · rw [show (Lx.blank b || b == 34) = false by simpa using hbl] at HI
      by_cases h1 : 20000 < s.length
      · have d1 : decide ((20000 : Int) < (s.length : Int)) = true := decide_eq_true (by omega)
        have d1n : decide (20000 < s.length) = true := decide_eq_true h1
        have HX := Lib.hid (show Lx.kindTold s = 0 by unfold Lx.kindTold; rw [if_pos (.inr h1)])
        clear hbl hin hb HKB h0 h1
        go_enter Tryz.func23, Tryz.ntmps23
        go_wp2_with (go_at_call 44; refine (HI.out _).mono ?_; rintro e w' ⟨rfl, rfl⟩)
        refine bodyPost_ret (v := .int .i64 0) ?_ rfl ⟨by rw [HX.out]; rfl, Below.refl _ _⟩
        simp [results, Tryz.results23, go_sem]
      · have d1 : decide ((20000 : Int) < (s.length : Int)) = false := decide_eq_false (by omega)
        have d1n : decide (20000 < s.length) = false := decide_eq_false h1
        have HX := Lib.hid (show Lx.kindTold s = Lx.soleKind s by unfold Lx.kindTold; rw [if_neg (by rintro (h | h); exact h0 h; exact h1 h)])
        have HF := Lib.hid (fun W => refFirst_c s 0 W (by omega) hp)
        clear hbl hin hb HKB h0
        go_enter Tryz.func23, Tryz.ntmps23
        go_wp2_with (go_at_call 44; refine (HI.out _).mono ?_; rintro e w' ⟨rfl, rfl⟩)
        refine (HF.out _).mono ?_
        rintro e w1 ⟨hb1, ⟨E, hm, k, x, a, q, n, rfl⟩ | ⟨k, n, hm, rfl⟩⟩
        · have HS := Lib.hid (show Lx.soleKind s = 0 by unfold Lx.soleKind; rw [hm])
          have hE := measure_code s 0 0 0 E hm
          have dE : ((E : Int) != 0) = true := bne_iff_ne.2 (by omega)
          have HB1 := Lib.hid hb1
          clear hb1 hm HF HI
          go_wp2_with fail
          refine bodyPost_ret (v := .int .i64 0) ?_ rfl ⟨by rw [HX.out, HS.out]; rfl, HB1.out.alloc HB1.out.size _⟩
          simp [results, Tryz.results23, go_sem]
        · by_cases hn : n = s.length
          · have HS := Lib.hid (show Lx.soleKind s = k by unfold Lx.soleKind; rw [hm]; exact if_pos hn)
            have dn : ((n : Int) != (s.length : Int)) = false := by rw [hn]; simp
            have dnn : (n != s.length) = false := by rw [hn]; simp
            have HB1 := Lib.hid hb1
            clear hb1 hm HF HI hn
            go_wp2_with fail
            refine bodyPost_ret (v := .int .i64 k) ?_ rfl ⟨by rw [HX.out, HS.out], HB1.out.alloc HB1.out.size _⟩
            simp [results, Tryz.results23, go_sem]
          · have HS := Lib.hid (show Lx.soleKind s = 0 by unfold Lx.soleKind; rw [hm]; exact if_neg hn)
            have dn : ((n : Int) != (s.length : Int)) = true := bne_iff_ne.2 (by omega)
            have dnn : (n != s.length) = true := bne_iff_ne.2 hn
            have HB1 := Lib.hid hb1
            clear hb1 hm HF HI hn
            go_wp2_with fail
            refine bodyPost_ret (v := .int .i64 0) ?_ rfl ⟨by rw [HX.out, HS.out]; rfl, HB1.out.alloc HB1.out.size _⟩
            simp [results, Tryz.results23, go_sem]
end Go.Proofs.YtcjcbhdildcceaaGreatDoor
/- Contracts of right, Check and Spell of the specification's package. Conditions: those in the statements. -/
namespace Go.Proofs.YtcjcbhdildcceaaGreatDoor
open Go.RowKit
set_option linter.unusedVariables false
set_option linter.unusedSimpArgs false

theorem tw_stepQ {α : Type} (p : α → Bool) (l : List α) (k : Nat) (t : α) (hk : k ≤ (l.takeWhile p).length) (ht : l[k]? = some t) : (p t = true → k + 1 ≤ (l.takeWhile p).length) ∧ (p t = false → (l.takeWhile p).length = k) := by
  rcases Nat.lt_or_eq_of_le hk with h | h
  · exact ⟨fun _ => h, fun hf => by rw [tw_at p l k t h ht] at hf; cases hf⟩
  · subst h
    exact ⟨fun hp => (by rw [tw_end p l t ht] at hp; cases hp), fun _ => rfl⟩
theorem kind_nine (s : List UInt8) : Lx.kindTold s ≤ 9 := by
  unfold Lx.kindTold
  split
  · omega
  · unfold Lx.soleKind
    split
    · rename_i k n hm
      rw [measure_L] at hm
      have := (measureL_kind _ _ _ _ hm).2.1
      split <;> omega
    · omega
theorem text_low (k : Int) (txt : List UInt8) (h : k < 1) : Lx.rightText k txt = false := by
  unfold Lx.rightText
  rw [if_neg (by omega), if_neg (by omega)]
  split
  · rfl
  · exact beq_eq_false_iff_ne.2 (by omega)
theorem text_high (k : Int) (txt : List UInt8) (h : 8 < k) (h9 : k ≠ 9) : Lx.rightText k txt = false := by
  have := kind_nine txt
  unfold Lx.rightText
  rw [if_neg (by omega), if_neg h9, if_neg (by omega)]
  exact beq_eq_false_iff_ne.2 (by omega)
theorem text_str (txt : List UInt8) : Lx.rightText 6 txt = decide ((txt.takeWhile Lx.shown).length = txt.length) := by
  unfold Lx.rightText; rw [if_pos rfl]; unfold Lx.runN; rw [Bool.eq_iff_iff]; simp
theorem shown_bounds (c : UInt8) : Lx.shown c = (decide (32 ≤ c.toNat) && decide (c.toNat ≤ 126)) := by
  unfold Lx.shown; rw [Bool.eq_iff_iff]; simp only [Bool.and_eq_true, decide_eq_true_eq]; omega


set_option maxHeartbeats 4000000 in
set_option maxRecDepth 100000 in
theorem right_a (k : Int) (txt : List UInt8) (ln cl : Int) (w : World) (hl : txt.length ≤ 100000000) (l1 : 1 ≤ ln) (l2 : ln ≤ 20001) (c1_ : 1 ≤ cl) (c2_ : cl ≤ 20001) :
    Calls Tryz.prog 47 #[tokW k txt ln cl] w fun e w' => e = .returned (.bool (Lx.right k txt ln cl)) ∧ Below w.heap.size w w' := by
  have hsz : (⟨txt.toArray⟩ : ByteArray).size = txt.length := by simp [ByteArray.size]
  have HB : Hid (Below w.heap.size w (w.alloc (.cells #[.int .i64 k, .string ⟨txt.toArray⟩, .int .i64 ln, .int .i64 cl] 45))) := Lib.hid ((Below.refl _ w).alloc (Nat.le_refl _) _)
  unfold tokW
  have f1 : decide (1 ≤ ln) = true := decide_eq_true l1
  have f2 : decide (ln ≤ 20001) = true := decide_eq_true l2
  have f3 : decide (1 ≤ cl) = true := decide_eq_true c1_
  have f4 : decide (cl ≤ 20001) = true := decide_eq_true c2_
  have HP := Lib.hid (show (((ln == 0) && (cl == 0)) || (Lx.place? ln && Lx.place? cl)) = true by unfold Lx.place?; rw [f1, f2, f3, f4]; simp)
  clear l1 l2 c1_ c2_
  by_cases k9 : k = 9
  · subst k9
    have HR := Lib.hid (show Lx.right 9 txt ln cl = (txt == [46]) by unfold Lx.right; rw [HP.out, Bool.true_and]; rfl)
    go_enter Tryz.func47, Tryz.ntmps47
    go_wp2_with fail
    refine bodyPost_ret (v := .bool (txt == [46])) ?_ rfl ⟨by rw [HR.out], HB.out⟩
    simp [results, Tryz.results47, go_sem]
  · have d9 : (k == 9) = false := beq_eq_false_iff_ne.2 k9
    by_cases k1 : k < 1
    · have e1 : decide (k < 1) = true := decide_eq_true k1
      have HX := Lib.hid (show Lx.right k txt ln cl = false by unfold Lx.right; rw [HP.out, Bool.true_and]; exact text_low k txt k1)
      clear k9 k1
      go_enter Tryz.func47, Tryz.ntmps47
      go_wp2_with fail
      refine bodyPost_ret (v := .bool false) ?_ rfl ⟨by rw [HX.out], HB.out⟩
      simp [results, Tryz.results47, go_sem]
    · have e1 : decide (k < 1) = false := decide_eq_false k1
      by_cases k8 : 8 < k
      · have e8 : decide (8 < k) = true := decide_eq_true k8
        have HX := Lib.hid (show Lx.right k txt ln cl = false by unfold Lx.right; rw [HP.out, Bool.true_and]; exact text_high k txt k8 k9)
        clear k9 k1 k8
        go_enter Tryz.func47, Tryz.ntmps47
        go_wp2_with fail
        refine bodyPost_ret (v := .bool false) ?_ rfl ⟨by rw [HX.out], HB.out⟩
        simp [results, Tryz.results47, go_sem]
      · have e8 : decide (8 < k) = false := decide_eq_false k8
        by_cases k6 : k = 6
        · subst k6
          have hR : Lx.right 6 txt ln cl = decide ((txt.takeWhile Lx.shown).length = txt.length) := by unfold Lx.right; rw [HP.out, Bool.true_and]; exact text_str txt
          have hTW := fun j c => tw_stepQ Lx.shown txt j c
          have hTL : (txt.takeWhile Lx.shown).length ≤ txt.length := (List.takeWhile_prefix _).length_le
          generalize (txt.takeWhile Lx.shown).length = T at *
          have HR := Lib.hid hR
          have HTW := Lib.hid hTW
          have HTL := Lib.hid hTL
          clear hR hTW hTL k1 k8 k9
          go_enter Tryz.func47, Tryz.ntmps47
          go_wp2_with fail
          have hx := World.alloc_heap_new w (.cells #[.int .i64 6, .string ⟨txt.toArray⟩, .int .i64 ln, .int .i64 cl] 45)
          generalize (w.alloc (.cells #[.int .i64 6, .string ⟨txt.toArray⟩, .int .i64 ln, .int .i64 cl] 45)) = w1 at *
          have c1 : w1.cell? ⟨w.heap.size, 1, none⟩ = some (.string ⟨txt.toArray⟩) := (Lib.cell_of_heap hx 1).trans rfl
          clear hx
          go_loopg [4] txt.length (fun g v wr => ∃ j : Nat, Hid (j ≤ T) ∧ j ≤ txt.length ∧ v = .int .i64 j ∧ wr = w1 ∧ g = txt.length - j)
          case atStart => exact ⟨0, Lib.hid (Nat.zero_le _), Nat.zero_le _, rfl, rfl, rfl⟩
          case round =>
            obtain ⟨j, HjT, hj, rfl, rfl, hg⟩ := hrel
            by_cases hE : j = txt.length
            · have dE : decide ((j : Int) < (txt.length : Int)) = false := decide_eq_false (by omega)
              have dEn : decide (j < txt.length) = false := decide_eq_false (by omega)
              have HX := Lib.hid (HR.out.trans (decide_eq_true (by have := HjT.out; have := HTL.out; omega)))
              have HE := Lib.hid hE
              clear hE
              go_wp2_with fail
              all_goals (try (exfalso; have := HE.out; omega))
              refine bodyPost_ret (v := .bool true) ?_ rfl ⟨by rw [HX.out], HB.out⟩
              simp [results, Tryz.results47, go_sem]
            · have hlt : j < txt.length := by omega
              have dE : decide ((j : Int) < (txt.length : Int)) = true := decide_eq_true (by omega)
              have dEn : decide (j < txt.length) = true := decide_eq_true (by omega)
              obtain ⟨c, hc⟩ : ∃ c, txt[j]? = some c := ⟨_, List.getElem?_eq_getElem hlt⟩
              have hget : (⟨txt.toArray⟩ : ByteArray)[j]'(by rw [hsz]; exact hlt) = c := (List.getElem?_eq_some_iff.1 hc).2
              obtain ⟨ha, hbn⟩ := HTW.out j c HjT.out hc
              have HE := Lib.hid hE
              clear hE hc
              rw [shown_bounds] at ha hbn
              by_cases s1 : c.toNat < 32
              · have g1 : decide ((c.toNat : Int) < 32) = true := decide_eq_true (by omega)
                have g1n : decide (c.toNat < 32) = true := decide_eq_true s1
                have HX := Lib.hid (HR.out.trans (decide_eq_false (by have := hbn (by rw [decide_eq_false (by omega : ¬ 32 ≤ c.toNat), Bool.false_and]); have := HE.out; omega)))
                clear ha hbn s1
                go_wp2_with fail
                all_goals (try (exfalso; omega))
                refine bodyPost_ret (v := .bool false) ?_ rfl ⟨by rw [HX.out], HB.out⟩
                simp [results, Tryz.results47, go_sem]
              · have g1 : decide ((c.toNat : Int) < 32) = false := decide_eq_false (by omega)
                have g1n : decide (c.toNat < 32) = false := decide_eq_false s1
                by_cases s2 : 126 < c.toNat
                · have g2 : decide ((126 : Int) < (c.toNat : Int)) = true := decide_eq_true (by omega)
                  have g2n : decide (126 < c.toNat) = true := decide_eq_true s2
                  have HX := Lib.hid (HR.out.trans (decide_eq_false (by have := hbn (by rw [decide_eq_false (by omega : ¬ c.toNat ≤ 126), Bool.and_false]); have := HE.out; omega)))
                  clear ha hbn s1 s2
                  go_wp2_with fail
                  all_goals (try (exfalso; omega))
                  refine bodyPost_ret (v := .bool false) ?_ rfl ⟨by rw [HX.out], HB.out⟩
                  simp [results, Tryz.results47, go_sem]
                · have g2 : decide ((126 : Int) < (c.toNat : Int)) = false := decide_eq_false (by omega)
                  have g2n : decide (126 < c.toNat) = false := decide_eq_false s2
                  have HN := Lib.hid (ha (by rw [decide_eq_true (by omega : 32 ≤ c.toNat), decide_eq_true (by omega : c.toNat ≤ 126)]; rfl))
                  clear ha hbn s1 s2
                  go_wp2_with fail
                  go_roundg (txt.length - (j + 1))
                  case rel => exact ⟨j + 1, HN, by omega, rfl, rfl, rfl⟩
                  case measure => omega
        · have d6 : (k == 6) = false := beq_eq_false_iff_ne.2 k6
          have HX := Lib.hid (show Lx.right k txt ln cl = ((Lx.kindTold txt : Int) == k) by unfold Lx.right; rw [HP.out, Bool.true_and]; unfold Lx.rightText; rw [if_neg k6, if_neg k9, if_neg (by omega)])
          clear k1 k8 k9 k6
          go_enter Tryz.func47, Tryz.ntmps47
          go_wp2_with fail
          have hx := World.alloc_heap_new w (.cells #[.int .i64 k, .string ⟨txt.toArray⟩, .int .i64 ln, .int .i64 cl] 45)
          generalize (w.alloc (.cells #[.int .i64 k, .string ⟨txt.toArray⟩, .int .i64 ln, .int .i64 cl] 45)) = w1 at *
          have c0 : w1.cell? ⟨w.heap.size, 0, none⟩ = some (.int .i64 k) := (Lib.cell_of_heap hx 0).trans rfl
          have c1 : w1.cell? ⟨w.heap.size, 1, none⟩ = some (.string ⟨txt.toArray⟩) := (Lib.cell_of_heap hx 1).trans rfl
          have hz1 : w.heap.size < w1.heap.size := (Array.getElem?_eq_some_iff.1 hx).1
          clear hx
          go_region_with (go_at_call 23; refine (refKind_c txt _).mono ?_; rintro e w' ⟨rfl, hb⟩; have e0 := (hb.cell (p := ⟨w.heap.size, 0, none⟩) (by simpa using hz1)).trans (show _ = some (Value.int .i64 k) by simpa using c0); have HBb := Lib.hid hb; clear hb)
          all_goals
            have hbz : Below w1.heap.size w1 w' := by first | exact (below_dn (Below.refl _ _) 1).trans HBb.out | exact HBb.out
            go_wp2_with fail
            refine bodyPost_ret (v := .bool ((Lx.kindTold txt : Int) == k)) ?_ rfl ⟨by rw [HX.out], HB.out.trans (hbz.mono (by omega))⟩
            simp [results, Tryz.results47, go_sem]

set_option maxHeartbeats 4000000 in
set_option maxRecDepth 100000 in
theorem right_b (k : Int) (txt : List UInt8) (w : World) (hl : txt.length ≤ 100000000) :
    Calls Tryz.prog 47 #[tokW k txt 0 0] w fun e w' => e = .returned (.bool (Lx.right k txt 0 0)) ∧ Below w.heap.size w w' := by
  have hsz : (⟨txt.toArray⟩ : ByteArray).size = txt.length := by simp [ByteArray.size]
  have HB : Hid (Below w.heap.size w (w.alloc (.cells #[.int .i64 k, .string ⟨txt.toArray⟩, .int .i64 0, .int .i64 0] 45))) := Lib.hid ((Below.refl _ w).alloc (Nat.le_refl _) _)
  unfold tokW
  have HP := Lib.hid (show ((((0 : Int) == 0) && ((0 : Int) == 0)) || (Lx.place? 0 && Lx.place? 0)) = true by rfl)
  by_cases k9 : k = 9
  · subst k9
    have HR := Lib.hid (show Lx.right 9 txt 0 0 = (txt == [46]) by unfold Lx.right; rw [HP.out, Bool.true_and]; rfl)
    go_enter Tryz.func47, Tryz.ntmps47
    go_wp2_with fail
    refine bodyPost_ret (v := .bool (txt == [46])) ?_ rfl ⟨by rw [HR.out], HB.out⟩
    simp [results, Tryz.results47, go_sem]
  · have d9 : (k == 9) = false := beq_eq_false_iff_ne.2 k9
    by_cases k1 : k < 1
    · have e1 : decide (k < 1) = true := decide_eq_true k1
      have HX := Lib.hid (show Lx.right k txt 0 0 = false by unfold Lx.right; rw [HP.out, Bool.true_and]; exact text_low k txt k1)
      clear k9 k1
      go_enter Tryz.func47, Tryz.ntmps47
      go_wp2_with fail
      refine bodyPost_ret (v := .bool false) ?_ rfl ⟨by rw [HX.out], HB.out⟩
      simp [results, Tryz.results47, go_sem]
    · have e1 : decide (k < 1) = false := decide_eq_false k1
      by_cases k8 : 8 < k
      · have e8 : decide (8 < k) = true := decide_eq_true k8
        have HX := Lib.hid (show Lx.right k txt 0 0 = false by unfold Lx.right; rw [HP.out, Bool.true_and]; exact text_high k txt k8 k9)
        clear k9 k1 k8
        go_enter Tryz.func47, Tryz.ntmps47
        go_wp2_with fail
        refine bodyPost_ret (v := .bool false) ?_ rfl ⟨by rw [HX.out], HB.out⟩
        simp [results, Tryz.results47, go_sem]
      · have e8 : decide (8 < k) = false := decide_eq_false k8
        by_cases k6 : k = 6
        · subst k6
          have hR : Lx.right 6 txt 0 0 = decide ((txt.takeWhile Lx.shown).length = txt.length) := by unfold Lx.right; rw [HP.out, Bool.true_and]; exact text_str txt
          have hTW := fun j c => tw_stepQ Lx.shown txt j c
          have hTL : (txt.takeWhile Lx.shown).length ≤ txt.length := (List.takeWhile_prefix _).length_le
          generalize (txt.takeWhile Lx.shown).length = T at *
          have HR := Lib.hid hR
          have HTW := Lib.hid hTW
          have HTL := Lib.hid hTL
          clear hR hTW hTL k1 k8 k9
          go_enter Tryz.func47, Tryz.ntmps47
          go_wp2_with fail
          have hx := World.alloc_heap_new w (.cells #[.int .i64 6, .string ⟨txt.toArray⟩, .int .i64 0, .int .i64 0] 45)
          generalize (w.alloc (.cells #[.int .i64 6, .string ⟨txt.toArray⟩, .int .i64 0, .int .i64 0] 45)) = w1 at *
          have c1 : w1.cell? ⟨w.heap.size, 1, none⟩ = some (.string ⟨txt.toArray⟩) := (Lib.cell_of_heap hx 1).trans rfl
          clear hx
          go_loopg [4] txt.length (fun g v wr => ∃ j : Nat, Hid (j ≤ T) ∧ j ≤ txt.length ∧ v = .int .i64 j ∧ wr = w1 ∧ g = txt.length - j)
          case atStart => exact ⟨0, Lib.hid (Nat.zero_le _), Nat.zero_le _, rfl, rfl, rfl⟩
          case round =>
            obtain ⟨j, HjT, hj, rfl, rfl, hg⟩ := hrel
            by_cases hE : j = txt.length
            · have dE : decide ((j : Int) < (txt.length : Int)) = false := decide_eq_false (by omega)
              have dEn : decide (j < txt.length) = false := decide_eq_false (by omega)
              have HX := Lib.hid (HR.out.trans (decide_eq_true (by have := HjT.out; have := HTL.out; omega)))
              have HE := Lib.hid hE
              clear hE
              go_wp2_with fail
              all_goals (try (exfalso; have := HE.out; omega))
              refine bodyPost_ret (v := .bool true) ?_ rfl ⟨by rw [HX.out], HB.out⟩
              simp [results, Tryz.results47, go_sem]
            · have hlt : j < txt.length := by omega
              have dE : decide ((j : Int) < (txt.length : Int)) = true := decide_eq_true (by omega)
              have dEn : decide (j < txt.length) = true := decide_eq_true (by omega)
              obtain ⟨c, hc⟩ : ∃ c, txt[j]? = some c := ⟨_, List.getElem?_eq_getElem hlt⟩
              have hget : (⟨txt.toArray⟩ : ByteArray)[j]'(by rw [hsz]; exact hlt) = c := (List.getElem?_eq_some_iff.1 hc).2
              obtain ⟨ha, hbn⟩ := HTW.out j c HjT.out hc
              have HE := Lib.hid hE
              clear hE hc
              rw [shown_bounds] at ha hbn
              by_cases s1 : c.toNat < 32
              · have g1 : decide ((c.toNat : Int) < 32) = true := decide_eq_true (by omega)
                have g1n : decide (c.toNat < 32) = true := decide_eq_true s1
                have HX := Lib.hid (HR.out.trans (decide_eq_false (by have := hbn (by rw [decide_eq_false (by omega : ¬ 32 ≤ c.toNat), Bool.false_and]); have := HE.out; omega)))
                clear ha hbn s1
                go_wp2_with fail
                all_goals (try (exfalso; omega))
                refine bodyPost_ret (v := .bool false) ?_ rfl ⟨by rw [HX.out], HB.out⟩
                simp [results, Tryz.results47, go_sem]
              · have g1 : decide ((c.toNat : Int) < 32) = false := decide_eq_false (by omega)
                have g1n : decide (c.toNat < 32) = false := decide_eq_false s1
                by_cases s2 : 126 < c.toNat
                · have g2 : decide ((126 : Int) < (c.toNat : Int)) = true := decide_eq_true (by omega)
                  have g2n : decide (126 < c.toNat) = true := decide_eq_true s2
                  have HX := Lib.hid (HR.out.trans (decide_eq_false (by have := hbn (by rw [decide_eq_false (by omega : ¬ c.toNat ≤ 126), Bool.and_false]); have := HE.out; omega)))
                  clear ha hbn s1 s2
                  go_wp2_with fail
                  all_goals (try (exfalso; omega))
                  refine bodyPost_ret (v := .bool false) ?_ rfl ⟨by rw [HX.out], HB.out⟩
                  simp [results, Tryz.results47, go_sem]
                · have g2 : decide ((126 : Int) < (c.toNat : Int)) = false := decide_eq_false (by omega)
                  have g2n : decide (126 < c.toNat) = false := decide_eq_false s2
                  have HN := Lib.hid (ha (by rw [decide_eq_true (by omega : 32 ≤ c.toNat), decide_eq_true (by omega : c.toNat ≤ 126)]; rfl))
                  clear ha hbn s1 s2
                  go_wp2_with fail
                  go_roundg (txt.length - (j + 1))
                  case rel => exact ⟨j + 1, HN, by omega, rfl, rfl, rfl⟩
                  case measure => omega
        · have d6 : (k == 6) = false := beq_eq_false_iff_ne.2 k6
          have HX := Lib.hid (show Lx.right k txt 0 0 = ((Lx.kindTold txt : Int) == k) by unfold Lx.right; rw [HP.out, Bool.true_and]; unfold Lx.rightText; rw [if_neg k6, if_neg k9, if_neg (by omega)])
          clear k1 k8 k9 k6
          go_enter Tryz.func47, Tryz.ntmps47
          go_wp2_with fail
          have hx := World.alloc_heap_new w (.cells #[.int .i64 k, .string ⟨txt.toArray⟩, .int .i64 0, .int .i64 0] 45)
          generalize (w.alloc (.cells #[.int .i64 k, .string ⟨txt.toArray⟩, .int .i64 0, .int .i64 0] 45)) = w1 at *
          have c0 : w1.cell? ⟨w.heap.size, 0, none⟩ = some (.int .i64 k) := (Lib.cell_of_heap hx 0).trans rfl
          have c1 : w1.cell? ⟨w.heap.size, 1, none⟩ = some (.string ⟨txt.toArray⟩) := (Lib.cell_of_heap hx 1).trans rfl
          have hz1 : w.heap.size < w1.heap.size := (Array.getElem?_eq_some_iff.1 hx).1
          clear hx
          go_region_with (go_at_call 23; refine (refKind_c txt _).mono ?_; rintro e w' ⟨rfl, hb⟩; have e0 := (hb.cell (p := ⟨w.heap.size, 0, none⟩) (by simpa using hz1)).trans (show _ = some (Value.int .i64 k) by simpa using c0); have HBb := Lib.hid hb; clear hb)
          all_goals
            have hbz : Below w1.heap.size w1 w' := by first | exact (below_dn (Below.refl _ _) 1).trans HBb.out | exact HBb.out
            go_wp2_with fail
            refine bodyPost_ret (v := .bool ((Lx.kindTold txt : Int) == k)) ?_ rfl ⟨by rw [HX.out], HB.out.trans (hbz.mono (by omega))⟩
            simp [results, Tryz.results47, go_sem]

set_option maxHeartbeats 4000000 in
set_option maxRecDepth 100000 in
theorem right_f1 (k : Int) (txt : List UInt8) (ln cl : Int) (w : World) (hl : txt.length ≤ 100000000) (l1 : ln < 1) (l0 : ln ≠ 0) :
    Calls Tryz.prog 47 #[tokW k txt ln cl] w fun e w' => e = .returned (.bool (Lx.right k txt ln cl)) ∧ Below w.heap.size w w' := by
  have hsz : (⟨txt.toArray⟩ : ByteArray).size = txt.length := by simp [ByteArray.size]
  have HB : Hid (Below w.heap.size w (w.alloc (.cells #[.int .i64 k, .string ⟨txt.toArray⟩, .int .i64 ln, .int .i64 cl] 45))) := Lib.hid ((Below.refl _ w).alloc (Nat.le_refl _) _)
  unfold tokW
  have f1 : decide (1 ≤ ln) = false := decide_eq_false (by omega)
  have f0 : (ln != 0) = true := bne_iff_ne.2 l0
  have hP : (((ln == 0) && (cl == 0)) || (Lx.place? ln && Lx.place? cl)) = false := by unfold Lx.place?; rw [f1, beq_eq_false_iff_ne.2 l0]; simp
  have HX := Lib.hid (show Lx.right k txt ln cl = false by unfold Lx.right; rw [hP, Bool.false_and])
  clear hP l1 l0
  go_enter Tryz.func47, Tryz.ntmps47
  go_wp2_with fail
  refine bodyPost_ret (v := .bool false) ?_ rfl ⟨by rw [HX.out], HB.out⟩
  simp [results, Tryz.results47, go_sem]

set_option maxHeartbeats 4000000 in
set_option maxRecDepth 100000 in
theorem right_f2 (k : Int) (txt : List UInt8) (cl : Int) (w : World) (hl : txt.length ≤ 100000000) (l0 : cl ≠ 0) :
    Calls Tryz.prog 47 #[tokW k txt 0 cl] w fun e w' => e = .returned (.bool (Lx.right k txt 0 cl)) ∧ Below w.heap.size w w' := by
  have hsz : (⟨txt.toArray⟩ : ByteArray).size = txt.length := by simp [ByteArray.size]
  have HB : Hid (Below w.heap.size w (w.alloc (.cells #[.int .i64 k, .string ⟨txt.toArray⟩, .int .i64 0, .int .i64 cl] 45))) := Lib.hid ((Below.refl _ w).alloc (Nat.le_refl _) _)
  unfold tokW
  have f0 : (cl != 0) = true := bne_iff_ne.2 l0
  have hP : ((((0 : Int) == 0) && (cl == 0)) || (Lx.place? 0 && Lx.place? cl)) = false := by unfold Lx.place?; rw [beq_eq_false_iff_ne.2 l0]; rfl
  have HX := Lib.hid (show Lx.right k txt 0 cl = false by unfold Lx.right; rw [hP, Bool.false_and])
  clear hP l0
  go_enter Tryz.func47, Tryz.ntmps47
  go_wp2_with fail
  refine bodyPost_ret (v := .bool false) ?_ rfl ⟨by rw [HX.out], HB.out⟩
  simp [results, Tryz.results47, go_sem]

set_option maxHeartbeats 4000000 in
set_option maxRecDepth 100000 in
theorem right_f3 (k : Int) (txt : List UInt8) (ln cl : Int) (w : World) (hl : txt.length ≤ 100000000) (l1 : 1 ≤ ln) (l2 : 20001 < ln) :
    Calls Tryz.prog 47 #[tokW k txt ln cl] w fun e w' => e = .returned (.bool (Lx.right k txt ln cl)) ∧ Below w.heap.size w w' := by
  have hsz : (⟨txt.toArray⟩ : ByteArray).size = txt.length := by simp [ByteArray.size]
  have HB : Hid (Below w.heap.size w (w.alloc (.cells #[.int .i64 k, .string ⟨txt.toArray⟩, .int .i64 ln, .int .i64 cl] 45))) := Lib.hid ((Below.refl _ w).alloc (Nat.le_refl _) _)
  unfold tokW
  have f1 : decide (1 ≤ ln) = true := decide_eq_true l1
  have f2 : decide (ln ≤ 20001) = false := decide_eq_false (by omega)
  have f0 : (ln != 0) = true := bne_iff_ne.2 (by omega)
  have hP : (((ln == 0) && (cl == 0)) || (Lx.place? ln && Lx.place? cl)) = false := by unfold Lx.place?; rw [f2, beq_eq_false_iff_ne.2 (by omega)]; simp
  have HX := Lib.hid (show Lx.right k txt ln cl = false by unfold Lx.right; rw [hP, Bool.false_and])
  clear hP l1 l2
  go_enter Tryz.func47, Tryz.ntmps47
  go_wp2_with fail
  refine bodyPost_ret (v := .bool false) ?_ rfl ⟨by rw [HX.out], HB.out⟩
  simp [results, Tryz.results47, go_sem]

set_option maxHeartbeats 4000000 in
set_option maxRecDepth 100000 in
theorem right_f4 (k : Int) (txt : List UInt8) (ln cl : Int) (w : World) (hl : txt.length ≤ 100000000) (l1 : 1 ≤ ln) (l2 : ln ≤ 20001) (c1_ : cl < 1) :
    Calls Tryz.prog 47 #[tokW k txt ln cl] w fun e w' => e = .returned (.bool (Lx.right k txt ln cl)) ∧ Below w.heap.size w w' := by
  have hsz : (⟨txt.toArray⟩ : ByteArray).size = txt.length := by simp [ByteArray.size]
  have HB : Hid (Below w.heap.size w (w.alloc (.cells #[.int .i64 k, .string ⟨txt.toArray⟩, .int .i64 ln, .int .i64 cl] 45))) := Lib.hid ((Below.refl _ w).alloc (Nat.le_refl _) _)
  unfold tokW
  have f1 : decide (1 ≤ ln) = true := decide_eq_true l1
  have f2 : decide (ln ≤ 20001) = true := decide_eq_true l2
  have f3 : decide (1 ≤ cl) = false := decide_eq_false (by omega)
  have f0 : (ln != 0) = true := bne_iff_ne.2 (by omega)
  have hP : (((ln == 0) && (cl == 0)) || (Lx.place? ln && Lx.place? cl)) = false := by unfold Lx.place?; rw [f3, beq_eq_false_iff_ne.2 (by omega)]; simp
  have HX := Lib.hid (show Lx.right k txt ln cl = false by unfold Lx.right; rw [hP, Bool.false_and])
  clear hP l1 l2 c1_
  go_enter Tryz.func47, Tryz.ntmps47
  go_wp2_with fail
  refine bodyPost_ret (v := .bool false) ?_ rfl ⟨by rw [HX.out], HB.out⟩
  simp [results, Tryz.results47, go_sem]

set_option maxHeartbeats 4000000 in
set_option maxRecDepth 100000 in
theorem right_f5 (k : Int) (txt : List UInt8) (ln cl : Int) (w : World) (hl : txt.length ≤ 100000000) (l1 : 1 ≤ ln) (l2 : ln ≤ 20001) (c1_ : 1 ≤ cl) (c2_ : 20001 < cl) :
    Calls Tryz.prog 47 #[tokW k txt ln cl] w fun e w' => e = .returned (.bool (Lx.right k txt ln cl)) ∧ Below w.heap.size w w' := by
  have hsz : (⟨txt.toArray⟩ : ByteArray).size = txt.length := by simp [ByteArray.size]
  have HB : Hid (Below w.heap.size w (w.alloc (.cells #[.int .i64 k, .string ⟨txt.toArray⟩, .int .i64 ln, .int .i64 cl] 45))) := Lib.hid ((Below.refl _ w).alloc (Nat.le_refl _) _)
  unfold tokW
  have f1 : decide (1 ≤ ln) = true := decide_eq_true l1
  have f2 : decide (ln ≤ 20001) = true := decide_eq_true l2
  have f3 : decide (1 ≤ cl) = true := decide_eq_true c1_
  have f4 : decide (cl ≤ 20001) = false := decide_eq_false (by omega)
  have f0 : (ln != 0) = true := bne_iff_ne.2 (by omega)
  have hP : (((ln == 0) && (cl == 0)) || (Lx.place? ln && Lx.place? cl)) = false := by unfold Lx.place?; rw [f4, beq_eq_false_iff_ne.2 (by omega)]; simp
  have HX := Lib.hid (show Lx.right k txt ln cl = false by unfold Lx.right; rw [hP, Bool.false_and])
  clear hP l1 l2 c1_ c2_
  go_enter Tryz.func47, Tryz.ntmps47
  go_wp2_with fail
  refine bodyPost_ret (v := .bool false) ?_ rfl ⟨by rw [HX.out], HB.out⟩
  simp [results, Tryz.results47, go_sem]

theorem refRight_c (k : Int) (txt : List UInt8) (ln cl : Int) (w : World) (hl : txt.length ≤ 100000000) :
    Calls Tryz.prog 47 #[tokW k txt ln cl] w fun e w' => e = .returned (.bool (Lx.right k txt ln cl)) ∧ Below w.heap.size w w' := by
  by_cases l0 : ln = 0
  · subst l0
    by_cases c0 : cl = 0
    · subst c0; exact right_b k txt w hl
    · exact right_f2 k txt cl w hl c0
  · by_cases l1 : ln < 1
    · exact right_f1 k txt ln cl w hl l1 l0
    · by_cases l2 : 20001 < ln
      · exact right_f3 k txt ln cl w hl (by omega) l2
      · by_cases c1 : cl < 1
        · exact right_f4 k txt ln cl w hl (by omega) (by omega) c1
        · by_cases c2 : 20001 < cl
          · exact right_f5 k txt ln cl w hl (by omega) (by omega) (by omega) c2
          · exact right_a k txt ln cl w hl (by omega) (by omega) (by omega) (by omega)

set_option maxHeartbeats 4000000 in
set_option maxRecDepth 100000 in
theorem refCheck_c (l : List Lx.Tk) (o : Option Addr) (c : Nat) (w : World) (h : TokAt w o l) (hn : l.length ≤ 1000000) (hl : ∀ t ∈ l, t.text.length ≤ 100000000) :
    Calls Tryz.prog 21 #[.slice o l.length c] w fun e w' => e = .returned (.int .i64 (Lx.check l)) ∧ Below w.heap.size w w' := by
  have HA := Lib.hid h
  by_cases h6 : 6000 < l.length
  · have d6 : decide ((6000 : Int) < (l.length : Int)) = true := decide_eq_true (by omega)
    have HX := Lib.hid (show Lx.check l = 2 from if_pos h6)
    clear h6 hl
    go_enter Tryz.func21, Tryz.ntmps21
    go_wp2_with fail
    all_goals (try (exfalso; have := of_decide_eq_true d6; omega))
    refine bodyPost_ret (v := .int .i64 2) ?_ rfl ⟨by rw [HX.out]; rfl, Below.refl _ _⟩
    simp [results, Tryz.results21, go_sem]
  · have d6 : decide ((6000 : Int) < (l.length : Int)) = false := decide_eq_false (by omega)
    have hL : Lx.check l = if (l.takeWhile Lx.Tk.right).length < l.length then 13 else 0 := by unfold Lx.check; rw [if_neg h6]
    have hTW := fun j c => tw_stepQ Lx.Tk.right l j c
    have hTL : (l.takeWhile Lx.Tk.right).length ≤ l.length := (List.takeWhile_prefix _).length_le
    generalize (l.takeWhile Lx.Tk.right).length = T at *
    have HL := Lib.hid hL
    have HTW := Lib.hid hTW
    have HTL := Lib.hid hTL
    have HLe := Lib.hid hl
    clear hL hTW hTL hl h
    have h6' : l.length ≤ 6000 := by omega
    clear h6
    go_enter Tryz.func21, Tryz.ntmps21
    go_wp2_with fail
    all_goals (try (exfalso; have := of_decide_eq_false d6; omega))
    go_loopg [3] l.length (fun g v wr => ∃ j : Nat, Hid (j ≤ T) ∧ j ≤ l.length ∧ v = .int .i64 j ∧ Hid (Below w.heap.size w wr) ∧ g = l.length - j)
    case atStart => exact ⟨0, Lib.hid (Nat.zero_le _), Nat.zero_le _, rfl, Lib.hid (Below.refl _ _), rfl⟩
    case round =>
      obtain ⟨j, HjT, hj, rfl, HW, hg⟩ := hrel
      by_cases hE : j = l.length
      · have dE : decide ((j : Int) < (l.length : Int)) = false := decide_eq_false (by omega)
        have HX := Lib.hid (HL.out.trans (if_neg (by have := HjT.out; have := HTL.out; omega)))
        have HE := Lib.hid hE
        clear hE
        go_wp2_with fail
        all_goals (try (exfalso; have := HE.out; omega))
        refine bodyPost_ret (v := .int .i64 0) ?_ rfl ⟨by rw [HX.out]; rfl, HW.out⟩
        simp [results, Tryz.results21, go_sem]
      · have hlt : j < l.length := by omega
        have dE : decide ((j : Int) < (l.length : Int)) = true := decide_eq_true (by omega)
        obtain ⟨t, ht⟩ : ∃ t, l[j]? = some t := ⟨_, List.getElem?_eq_getElem hlt⟩
        obtain ⟨b, a, rfl, hb, x0, x1, x2, x3⟩ := HA.out j t ht
        have hx : ∀ {q v}, w.cell? ⟨b, q, none⟩ = some v → wr.cell? ⟨b, q, none⟩ = some v := fun e => (HW.out.cell (p := ⟨b, _, none⟩) hb).trans e
        replace x0 := hx x0
        replace x1 := hx x1
        replace x2 := hx x2
        replace x3 := hx x3
        have hR := fun W => refRight_c t.kind t.text t.line t.col W (HLe.out t (List.mem_of_getElem? ht))
        obtain ⟨ha, hbn⟩ := HTW.out j t HjT.out ht
        have HE := Lib.hid hE
        change ∀ W, Calls _ _ _ W (fun e w' => e = .returned (.bool (Lx.Tk.right t)) ∧ Below W.heap.size W w') at hR
        unfold tokW at hR
        have HR := Lib.hid hR
        clear hR hx ht hE
        cases hr : Lx.Tk.right t with
        | true =>
          rw [hr] at HR
          have HN := Lib.hid (ha hr)
          clear ha hbn hr
          go_wp2_with fail
          refine (HR.out _).mono ?_
          rintro e w2 ⟨rfl, hb2⟩
          have HW2 := Lib.hid (HW.out.trans (hb2.mono HW.out.size))
          clear hb2 HR
          go_wp2_with fail
          go_roundg (l.length - (j + 1))
          case rel => exact ⟨j + 1, HN, by omega, rfl, HW2, rfl⟩
          case measure => omega
        | false =>
          rw [hr] at HR
          have HX := Lib.hid (HL.out.trans (if_pos (by have := hbn hr; have := HE.out; omega)))
          clear ha hbn hr
          go_wp2_with fail
          refine (HR.out _).mono ?_
          rintro e w2 ⟨rfl, hb2⟩
          have HW2 := Lib.hid (HW.out.trans (hb2.mono HW.out.size))
          clear hb2 HR
          go_wp2_with fail
          refine bodyPost_ret (v := .int .i64 13) ?_ rfl ⟨by rw [HX.out]; rfl, HW2.out⟩
          simp [results, Tryz.results21, go_sem]

set_option maxHeartbeats 2000000 in
theorem refSpell_c (k : Int) (txt : List UInt8) (ln cl : Int) (w : World) (hl : txt.length ≤ 100000000) :
    Calls Tryz.prog 27 #[tokW k txt ln cl] w fun e w' => e = .returned (.tuple #[.string ⟨(Lx.spelled k txt ln cl).1.toArray⟩, .int .i64 (Lx.spelled k txt ln cl).2]) ∧ Below w.heap.size w w' := by
  have hb1 : Below w.heap.size w (w.alloc (.cells #[.int .i64 k, .string ⟨txt.toArray⟩, .int .i64 ln, .int .i64 cl] 45)) := (Below.refl _ w).alloc (Nat.le_refl _) _
  have hx := World.alloc_heap_new w (.cells #[.int .i64 k, .string ⟨txt.toArray⟩, .int .i64 ln, .int .i64 cl] 45)
  have hR := refRight_c k txt ln cl (w.alloc (.cells #[.int .i64 k, .string ⟨txt.toArray⟩, .int .i64 ln, .int .i64 cl] 45)) hl
  have hS := fun W => refSpelled_c k txt ln cl W hl
  unfold tokW at hR hS ⊢
  have HR := Lib.hid hR
  have HSp := Lib.hid hS
  have HX := Lib.hid hx
  have HB1 := Lib.hid hb1
  unfold Lx.spelled
  clear hR hS hx hb1 hl
  generalize Lx.right k txt ln cl = r at *
  cases r with
  | false =>
    go_enter Tryz.func27, Tryz.ntmps27
    go_wp2_with (go_at_call 47; refine HR.out.mono ?_; rintro e w' ⟨rfl, hb⟩)
    refine bodyPost_ret (v := .tuple #[.string ⟨#[]⟩, .int .i64 13]) ?_ rfl ⟨rfl, HB1.out.trans (hb.mono (by simp))⟩
    simp [results, Tryz.results27, go_sem]
  | true =>
    go_enter Tryz.func27, Tryz.ntmps27
    go_wp2_with fail
    refine HR.out.mono ?_
    rintro e w' ⟨rfl, hb⟩
    have hy := (hb.block w.heap.size (by simp)).trans HX.out
    have c0 : w'.cell? ⟨w.heap.size, 0, none⟩ = some (.int .i64 k) := (Lib.cell_of_heap hy 0).trans rfl
    have c1 : w'.cell? ⟨w.heap.size, 1, none⟩ = some (.string ⟨txt.toArray⟩) := (Lib.cell_of_heap hy 1).trans rfl
    have c2 : w'.cell? ⟨w.heap.size, 2, none⟩ = some (.int .i64 ln) := (Lib.cell_of_heap hy 2).trans rfl
    have c3 : w'.cell? ⟨w.heap.size, 3, none⟩ = some (.int .i64 cl) := (Lib.cell_of_heap hy 3).trans rfl
    have HB2 := Lib.hid (HB1.out.trans (hb.mono (by simp)))
    have HS2 := Lib.hid (HSp.out w')
    clear hb hy HR HX HSp
    go_wp2_with fail
    refine HS2.out.mono ?_
    rintro e w2 ⟨rfl, hb2⟩
    have HB3 := Lib.hid (HB2.out.trans (hb2.mono HB2.out.size))
    clear hb2 HS2
    go_wp2_with fail
    refine bodyPost_ret (v := .tuple #[.string ⟨(Lx.spell k txt).toArray⟩, .int .i64 0]) ?_ rfl ⟨rfl, HB3.out⟩
    simp [results, Tryz.results27, go_sem]
end Go.Proofs.YtcjcbhdildcceaaGreatDoor
/- Contract of Print of the specification's package. Conditions: those in the statement. -/
namespace Go.Proofs.YtcjcbhdildcceaaGreatDoor
open Go.RowKit
set_option linter.unusedVariables false
set_option linter.unusedSimpArgs false

theorem strCells_bytes (l : List UInt8) : Lib.strCells ⟨l.toArray⟩ = Lib.byteCells l := by simp [Lib.strCells, Lib.byteCells]
theorem row_u8 {w : World} {base n : Nat} {v : Value} {xs : List Value} (h : w.ownsRow base 5 1 v n xs) : ∃ o c, v = .slice o n c := by
  rcases h.2 with ⟨rfl, h0⟩ | ⟨g, cp, cur, rfl, _⟩
  · exact ⟨none, 0, by rw [h0]⟩
  · exact ⟨_, _, rfl⟩
theorem ba_space (s : List UInt8) : (⟨#[32]⟩ : ByteArray) ++ ⟨s.toArray⟩ = ⟨(32 :: s).toArray⟩ := by
  apply ByteArray.ext
  simp [ByteArray.data_append]
theorem row_mono {W W' : World} {base : Nat} {v : Value} {k : Nat} {xs : List Value} (h : W.ownsRow base 5 1 v k xs) (hb : Below W.heap.size W W') : W'.ownsRow base 5 1 v k xs := by
  refine ⟨h.1, ?_⟩
  rcases h.2 with hn | ⟨g, cap, cur, rfl, hbg, hg, rest⟩
  · exact .inl hn
  · exact .inr ⟨g, cap, cur, rfl, hbg, (hb.block g (Array.getElem?_eq_some_iff.1 hg).1).trans hg, rest⟩

set_option maxHeartbeats 8000000 in
set_option maxRecDepth 100000 in
theorem refPrint_c (l : List Lx.Tk) (o : Option Addr) (c : Nat) (w : World) (h : TokAt w o l) (hn : l.length ≤ 1000000) (hl : ∀ t ∈ l, t.text.length ≤ 1000000) :
    Calls Tryz.prog 19 #[.slice o l.length c] w fun e w' => e = .returned (.tuple #[.string ⟨(Lx.printed l).1.toArray⟩, .int .i64 (Lx.printed l).2]) ∧ Below w.heap.size w w' := by
  have HC := Lib.hid (refCheck_c l o c w h hn (fun t ht => by have := hl t ht; omega))
  have HCA := Lib.hid (check_all l)
  have HT := Lib.hid h
  have HL := Lib.hid hl
  clear h hl
  obtain ⟨i0, hi, hz0, hz1, hz2⟩ := info_parts info_u8
  by_cases hc : Lx.check l = 0
  · have HX := Lib.hid (show Lx.printed l = Lx.printEnd (Lx.printN l l.length) by unfold Lx.printed; rw [if_neg (by simpa using hc)])
    obtain ⟨hn6, hr⟩ := HCA.out hc
    have HR := Lib.hid hr
    rw [hc] at HC
    clear hc hr HCA
    go_enter Tryz.func19, Tryz.ntmps19
    go_wp2_with fail
    refine HC.out.mono ?_
    rintro e w1 ⟨rfl, hb⟩
    have HB1 := Lib.hid hb
    clear hb HC
    go_wp2_with fail
    have hw1 := HB1.out.size
    go_loopg [5, 6, 7, 8, 9] l.length (fun g bv lv iv sv nv wr => ∃ (k : Nat) (acc : List UInt8), k ≤ l.length ∧ iv = .int .i64 k ∧ Hid (lv = .bool (decide (20000 < acc.length))) ∧ Hid (Lx.printN l k = some acc) ∧ Hid (acc.length ≤ 20000 → wr.ownsRow w1.heap.size 5 1 bv acc.length (Lib.byteCells acc)) ∧ Hid (Below w1.heap.size w1 wr) ∧ g = l.length - k)
    case atStart => exact ⟨0, [], Nat.zero_le _, rfl, Lib.hid rfl, Lib.hid rfl, Lib.hid (fun _ => World.ownsRow_nil _ _ _ _), Lib.hid (Below.refl _ _), rfl⟩
    case round =>
      obtain ⟨k, acc, hk, rfl, HLV, HP, HV, HW, hg⟩ := hrel
      by_cases hE : k = l.length
      · have dE : decide ((k : Int) < (l.length : Int)) = false := decide_eq_false (by omega)
        have HE := Lib.hid hE
        have HX := Lib.hid (HX.out.trans (by rw [← hE, HP.out]; rfl : _ = if 20000 < acc.length then ([], 2) else (acc, 0)))
        clear hE
        by_cases hb2 : 20000 < acc.length
        · have HX := Lib.hid (HX.out.trans (if_pos hb2))
          obtain rfl : u6 = .bool true := by rw [HLV.out, decide_eq_true hb2]
          clear hb2 HLV
          go_wp2_with fail
          all_goals (try (exfalso; have := HE.out; omega))
          refine bodyPost_ret (v := .tuple #[.string ⟨#[]⟩, .int .i64 2]) ?_ rfl ⟨by rw [HX.out]; rfl, HB1.out.trans (HW.out.mono hw1)⟩
          simp [results, Tryz.results19, go_sem]
        · have HX := Lib.hid (HX.out.trans (if_neg hb2))
          obtain rfl : u6 = .bool false := by rw [HLV.out, decide_eq_false hb2]
          have hv := HV.out (by omega)
          have hcv := conv_row rfl hv
          obtain ⟨ob, cb, rfl⟩ := row_u8 hv
          have HCV := Lib.hid hcv
          clear hb2 HLV hv hcv
          go_wp2_with fail
          all_goals (try (exfalso; have := HE.out; omega))
          rw [HCV.out]
          simp only [Result.andThen]
          go_wp2_with fail
          refine bodyPost_ret (v := .tuple #[.string ⟨acc.toArray⟩, .int .i64 0]) ?_ rfl ⟨by rw [HX.out]; rfl, HB1.out.trans (HW.out.mono hw1)⟩
          simp [results, Tryz.results19, go_sem]
      · have hlt : k < l.length := by omega
        have dE : decide ((k : Int) < (l.length : Int)) = true := decide_eq_true (by omega)
        obtain ⟨t, ht⟩ : ∃ t, l[k]? = some t := ⟨_, List.getElem?_eq_getElem hlt⟩
        have HTk := Lib.hid ht
        obtain ⟨b, a, rfl, hbl, x0, x1, x2, x3⟩ := HT.out k t ht
        have hbm : Below w.heap.size w wr := HB1.out.trans (HW.out.mono hw1)
        have HXc := Lib.hid (fun (W : World) (hW : Below wr.heap.size wr W) (q : Nat) (v : Value) (e : w.cell? ⟨b, q, none⟩ = some v) => ((hbm.trans (hW.mono hbm.size)).cell (p := ⟨b, q, none⟩) hbl).trans e)
        have y0 := HXc.out wr (Below.refl _ _) _ _ x0
        have y1 := HXc.out wr (Below.refl _ _) _ _ x1
        have y2 := HXc.out wr (Below.refl _ _) _ _ x2
        have y3 := HXc.out wr (Below.refl _ _) _ _ x3
        have htl : t.text.length ≤ 1000000 := HL.out t (List.mem_of_getElem? ht)
        have hsl := spell_len t.kind t.text
        have HSp := fun W => refSpelled_c t.kind t.text t.line t.col W (by omega)
        unfold tokW at HSp
        have HSp := Lib.hid HSp
        have hwr := hbm.size
        have HBM := Lib.hid hbm
        have X0 := Lib.hid x0
        clear hE ht hbm x0 x1 x2 x3
        by_cases h9 : t.kind = 9
        · have d9 : (t.kind == 9) = true := by rw [h9]; rfl
          have d9b : (t.kind != 9) = false := by rw [h9]; rfl
          have HNt := Lib.hid (fun hd : Lx.dotMay l k = true => (printN_dot l k t acc HP.out HTk.out h9).trans (if_pos hd))
          have HNf := Lib.hid (fun hd : Lx.dotMay l k = false => (printN_dot l k t acc HP.out HTk.out h9).trans (if_neg (by rw [hd]; simp)))
          clear h9
          generalize Lx.spell t.kind t.text = sp at *
          by_cases hk0 : k = 0
          · have dk0 : ((k : Int) == 0) = true := beq_iff_eq.2 (by omega)
            have HX := Lib.hid (HX.out.trans (by rw [printN_end l (k + 1) (by omega) (HNf.out (if_pos (.inl hk0)))]; rfl : _ = ([], 13)))
            clear hk0
            go_wp2_with fail
            refine (HSp.out _).mono ?_
            rintro e w2 ⟨rfl, hb2⟩
            have z0 := HXc.out w2 hb2 _ _ X0.out
            have HB2 := Lib.hid hb2
            clear hb2 HSp y0 y1 y2 y3
            go_wp2_with fail
            refine bodyPost_ret (v := .tuple #[.string ⟨#[]⟩, .int .i64 13]) ?_ rfl ⟨by rw [HX.out]; rfl, HBM.out.trans ((HB2.out).mono hwr)⟩
            simp [results, Tryz.results19, go_sem]
          · obtain ⟨p, rfl⟩ : ∃ p, k = p + 1 := ⟨k - 1, by omega⟩
            have dk0 : ((p : Int) + 1 == 0) = false := beq_eq_false_iff_ne.2 (by omega)
            have hs1 : IntKind.i64.wrap (((p + 1 : Nat) : Int) - 1) = (p : Int) := by rw [show (((p + 1 : Nat) : Int) - 1) = (p : Int) by omega]; exact IntWalk.i64_in _ (by omega)
            obtain ⟨q, hq⟩ : ∃ q, l[p]? = some q := ⟨_, List.getElem?_eq_getElem (by omega)⟩
            obtain ⟨b', a', e', -, q0, -, -, -⟩ := HT.out p q hq
            injection e' with e'
            injection e' with e1 e2 e3
            subst e1 e2
            have Q0 := Lib.hid q0
            have HQ := Lib.hid hq
            clear hk0 q0 hq
            by_cases hq1 : q.kind = 1
            · have dq : (q.kind != 1) = false := by rw [hq1]; rfl
              by_cases hend : p + 1 + 1 = l.length
              · have de : ((p : Int) + 1 + 1 == (l.length : Int)) = true := beq_iff_eq.2 (by omega)
                have HX := Lib.hid (HX.out.trans (by rw [printN_end l (p + 1 + 1) (by omega) (HNf.out (if_pos (.inr hend)))]; rfl : _ = ([], 13)))
                clear hend
                go_wp2_with fail
                refine (HSp.out _).mono ?_
                rintro e w2 ⟨rfl, hb2⟩
                have z0 := HXc.out w2 hb2 _ _ X0.out
                have HB2 := Lib.hid hb2
                clear hb2 HSp y0 y1 y2 y3
                have z1 := HXc.out w2 HB2.out _ _ Q0.out
                go_wp2_with fail
                refine bodyPost_ret (v := .tuple #[.string ⟨#[]⟩, .int .i64 13]) ?_ rfl ⟨by rw [HX.out]; rfl, HBM.out.trans ((HB2.out).mono hwr)⟩
                simp [results, Tryz.results19, go_sem]
              · have de : ((p : Int) + 1 + 1 == (l.length : Int)) = false := beq_eq_false_iff_ne.2 (by omega)
                have hi2 : p + 1 + 1 < l.length := by omega
                obtain ⟨u, hu⟩ : ∃ u, l[p + 1 + 1]? = some u := ⟨_, List.getElem?_eq_getElem hi2⟩
                have hdm : Lx.dotMay l (p + 1) = Lx.joined ((Lx.spell u.kind u.text).headD 0) := by unfold Lx.dotMay; rw [if_neg (by omega), Nat.add_sub_cancel, HQ.out, hu]; simp only [hq1]; rfl
                obtain ⟨b', a', e', -, v0, v1, v2, v3⟩ := HT.out (p + 1 + 1) u hu
                injection e' with e'
                injection e' with e1 e2 e3
                subst e1 e2
                have V0 := Lib.hid v0
                have V1 := Lib.hid v1
                have V2 := Lib.hid v2
                have V3 := Lib.hid v3
                have hutl : u.text.length ≤ 1000000 := HL.out u (List.mem_of_getElem? hu)
                have hne := right_spell_ne u (HR.out u (List.mem_of_getElem? hu))
                have HSu := fun W => refSpelled_c u.kind u.text u.line u.col W (by omega)
                unfold tokW at HSu
                clear v0 v1 v2 v3 hu hend
                generalize Lx.spell u.kind u.text = su at *
                have HSu := Lib.hid HSu
                cases su with
                | nil => exact absurd rfl hne
                | cons b0 r =>
                  simp only [List.headD_cons] at hdm
                  clear hne
                  have hg0 : (⟨(b0 :: r).toArray⟩ : ByteArray)[0]'(by simp [ByteArray.size]) = b0 := rfl
                  have HLt := Lib.hid (fun W => refLetter_c b0 W)
                  have HIn := Lib.hid (fun W => refIn_c b0 Lx.operators W (by decide))
                  rw [inB_operator] at HIn
                  have hj : Lx.joined b0 = (Lx.letter b0 || Lx.operator b0) := rfl
                  rw [hj] at hdm
                  have HDM := Lib.hid hdm
                  clear hj hdm
                  go_wp2_with fail
                  refine (HSp.out _).mono ?_
                  rintro e w2 ⟨rfl, hb2⟩
                  have z0 := HXc.out w2 hb2 _ _ X0.out
                  have HB2 := Lib.hid hb2
                  clear hb2 HSp y0 y1 y2 y3
                  have z1 := HXc.out w2 HB2.out _ _ Q0.out
                  have t0 := HXc.out w2 HB2.out _ _ V0.out
                  have t1 := HXc.out w2 HB2.out _ _ V1.out
                  have t2 := HXc.out w2 HB2.out _ _ V2.out
                  have t3 := HXc.out w2 HB2.out _ _ V3.out
                  go_wp2_with fail
                  refine (HSu.out _).mono ?_
                  rintro e w3 ⟨rfl, hb3⟩
                  have HB3 := Lib.hid (HB2.out.trans (hb3.mono HB2.out.size))
                  have z0 := HXc.out w3 HB3.out _ _ X0.out
                  have z1 := HXc.out w3 HB3.out _ _ Q0.out
                  clear hb3 HSu t0 t1 t2 t3
                  go_wp2_with fail
                  change Calls _ _ #[.int .u8 (b0.toNat : Int)] _ _
                  refine (HLt.out _).mono ?_
                  rintro e w' ⟨rfl, hw'⟩
                  rw [hw']
                  clear hw'
                  cases hlt0 : Lx.letter b0 with
                  | false =>
                    have HDM := Lib.hid (HDM.out.trans (by rw [hlt0, Bool.false_or]))
                    go_wp2_with fail
                    change Calls _ _ #[.int .u8 (b0.toNat : Int), _] _ _
                    refine (HIn.out _).mono ?_
                    rintro e w' ⟨rfl, hw'⟩
                    rw [hw']
                    clear hw'
                    cases hop0 : Lx.operator b0 with
                    | false =>
                      have HX := Lib.hid (HX.out.trans (by rw [printN_end l (p + 1 + 1) (by omega) (HNf.out (HDM.out.trans hop0))]; rfl : _ = ([], 13)))
                      clear HNt HNf HDM
                      go_wp2_with fail
                      refine bodyPost_ret (v := .tuple #[.string ⟨#[]⟩, .int .i64 13]) ?_ rfl ⟨by rw [HX.out]; rfl, HBM.out.trans ((HB3.out).mono hwr)⟩
                      simp [results, Tryz.results19, go_sem]
                    | true =>
                      have HP2 := Lib.hid (HNt.out (HDM.out.trans hop0))
                      clear HNt HNf HDM
                      obtain ⟨S, hS⟩ : ∃ S, S = sp := ⟨_, rfl⟩
                      rw [← hS] at HP2
                      have hSl : S.length ≤ 3000003 := by rw [hS]; omega
                      have hSz : (⟨S.toArray⟩ : ByteArray).size = S.length := by simp [ByteArray.size]
                      subst hS
                      have HWB := Lib.hid (HW.out.trans (HB3.out.mono (by have := HW.out.size; omega)))
                      by_cases hlg : 20000 < acc.length
                      · obtain rfl : u6 = .bool true := by rw [HLV.out, decide_eq_true hlg]
                        have HL2 : Hid ((.bool true : Value) = .bool (decide (20000 < (acc ++ S).length))) := Lib.hid (by rw [decide_eq_true (by rw [List.length_append]; omega)])
                        have HV2 : Hid ((acc ++ S).length ≤ 20000 → w3.ownsRow w1.heap.size 5 1 u5 (acc ++ S).length (Lib.byteCells (acc ++ S))) := Lib.hid (fun h => by rw [List.length_append] at h; omega)
                        clear hlg HLV HV
                        go_wp2_with fail
                        go_roundg (l.length - (p + 1 + 1))
                        case rel => exact ⟨p + 1 + 1, acc ++ S, by omega, rfl, HL2, HP2, HV2, HWB, rfl⟩
                        case measure => omega
                      · obtain rfl : u6 = .bool false := by rw [HLV.out, decide_eq_false hlg]
                        have hv := row_mono (HV.out (by omega)) HB3.out
                        have HVr := Lib.hid hv
                        obtain ⟨ob, cb, rfl⟩ := row_u8 hv
                        clear hv HV HLV
                        by_cases hl2 : 20000 < acc.length + S.length
                        · have dL : decide ((20000 : Int) < (acc.length : Int) + (S.length : Int)) = true := decide_eq_true (by omega)
                          have dLn : decide (20000 < acc.length + S.length) = true := decide_eq_true (by omega)
                          have HL2 : Hid ((.bool true : Value) = .bool (decide (20000 < (acc ++ S).length))) := Lib.hid (by rw [decide_eq_true (by rw [List.length_append]; omega)])
                          have HV2 : Hid ((acc ++ S).length ≤ 20000 → w3.ownsRow w1.heap.size 5 1 (.slice ob acc.length cb) (acc ++ S).length (Lib.byteCells (acc ++ S))) := Lib.hid (fun h => by rw [List.length_append] at h; omega)
                          clear hl2
                          go_wp2_with fail
                          go_roundg (l.length - (p + 1 + 1))
                          case rel => exact ⟨p + 1 + 1, acc ++ S, by omega, rfl, HL2, HP2, HV2, HWB, rfl⟩
                          case measure => omega
                        · have dL : decide ((20000 : Int) < (acc.length : Int) + (S.length : Int)) = false := decide_eq_false (by omega)
                          have dLn : decide (20000 < acc.length + S.length) = false := decide_eq_false (by omega)
                          have HL2 : Hid ((.bool false : Value) = .bool (decide (20000 < (acc ++ S).length))) := Lib.hid (by rw [decide_eq_false (by rw [List.length_append]; omega)])
                          have HAL := Lib.hid (show acc.length + S.length ≤ 20000 by omega)
                          clear hl2
                          go_wp2_with (at_builtin; refine Lib.wpList_append_own_string _ rfl _ _ 64 9 rfl w1.heap.size 5 i0 Tryz.underlying64 Tryz.underlying9 hi hz0 hz1 hz2 (.slice ob acc.length cb) acc.length (Lib.byteCells acc) rfl HVr.out ⟨S.toArray⟩ rfl (by rw [hSz]; have := HAL.out; show _ ≤ 9223372036854775807; omega) (by rw [hSz]; have := HAL.out; omega) (by have := HWB.out.size; omega) ?_; intro v' w9 hown' hgrow _; rw [strCells_bytes, ← byteCells_snoc, hSz, ← List.length_append] at hown'; have HOw := Lib.hid hown'; have HGw := Lib.hid hgrow; clear hown' hgrow)
                          have HB9 : Hid (Below w1.heap.size w1 w9) := Lib.hid (HWB.out.grown HGw.out (by have := HWB.out.size; omega) (fun b e => (HVr.out.lt b e).1))
                          have HV2 : Hid ((acc ++ S).length ≤ 20000 → w9.ownsRow w1.heap.size 5 1 v' (acc ++ S).length (Lib.byteCells (acc ++ S))) := Lib.hid (fun _ => HOw.out)
                          clear HGw HOw HVr
                          go_roundg (l.length - (p + 1 + 1))
                          case rel => exact ⟨p + 1 + 1, acc ++ S, by omega, rfl, HL2, HP2, HV2, HB9, rfl⟩
                          case measure => omega
                  | true =>
                    have HP2 := Lib.hid (HNt.out (HDM.out.trans (by rw [hlt0, Bool.true_or])))
                    clear HNt HNf HDM
                    obtain ⟨S, hS⟩ : ∃ S, S = sp := ⟨_, rfl⟩
                    rw [← hS] at HP2
                    have hSl : S.length ≤ 3000003 := by rw [hS]; omega
                    have hSz : (⟨S.toArray⟩ : ByteArray).size = S.length := by simp [ByteArray.size]
                    subst hS
                    have HWB := Lib.hid (HW.out.trans (HB3.out.mono (by have := HW.out.size; omega)))
                    by_cases hlg : 20000 < acc.length
                    · obtain rfl : u6 = .bool true := by rw [HLV.out, decide_eq_true hlg]
                      have HL2 : Hid ((.bool true : Value) = .bool (decide (20000 < (acc ++ S).length))) := Lib.hid (by rw [decide_eq_true (by rw [List.length_append]; omega)])
                      have HV2 : Hid ((acc ++ S).length ≤ 20000 → w3.ownsRow w1.heap.size 5 1 u5 (acc ++ S).length (Lib.byteCells (acc ++ S))) := Lib.hid (fun h => by rw [List.length_append] at h; omega)
                      clear hlg HLV HV
                      go_wp2_with fail
                      go_roundg (l.length - (p + 1 + 1))
                      case rel => exact ⟨p + 1 + 1, acc ++ S, by omega, rfl, HL2, HP2, HV2, HWB, rfl⟩
                      case measure => omega
                    · obtain rfl : u6 = .bool false := by rw [HLV.out, decide_eq_false hlg]
                      have hv := row_mono (HV.out (by omega)) HB3.out
                      have HVr := Lib.hid hv
                      obtain ⟨ob, cb, rfl⟩ := row_u8 hv
                      clear hv HV HLV
                      by_cases hl2 : 20000 < acc.length + S.length
                      · have dL : decide ((20000 : Int) < (acc.length : Int) + (S.length : Int)) = true := decide_eq_true (by omega)
                        have dLn : decide (20000 < acc.length + S.length) = true := decide_eq_true (by omega)
                        have HL2 : Hid ((.bool true : Value) = .bool (decide (20000 < (acc ++ S).length))) := Lib.hid (by rw [decide_eq_true (by rw [List.length_append]; omega)])
                        have HV2 : Hid ((acc ++ S).length ≤ 20000 → w3.ownsRow w1.heap.size 5 1 (.slice ob acc.length cb) (acc ++ S).length (Lib.byteCells (acc ++ S))) := Lib.hid (fun h => by rw [List.length_append] at h; omega)
                        clear hl2
                        go_wp2_with fail
                        go_roundg (l.length - (p + 1 + 1))
                        case rel => exact ⟨p + 1 + 1, acc ++ S, by omega, rfl, HL2, HP2, HV2, HWB, rfl⟩
                        case measure => omega
                      · have dL : decide ((20000 : Int) < (acc.length : Int) + (S.length : Int)) = false := decide_eq_false (by omega)
                        have dLn : decide (20000 < acc.length + S.length) = false := decide_eq_false (by omega)
                        have HL2 : Hid ((.bool false : Value) = .bool (decide (20000 < (acc ++ S).length))) := Lib.hid (by rw [decide_eq_false (by rw [List.length_append]; omega)])
                        have HAL := Lib.hid (show acc.length + S.length ≤ 20000 by omega)
                        clear hl2
                        go_wp2_with (at_builtin; refine Lib.wpList_append_own_string _ rfl _ _ 64 9 rfl w1.heap.size 5 i0 Tryz.underlying64 Tryz.underlying9 hi hz0 hz1 hz2 (.slice ob acc.length cb) acc.length (Lib.byteCells acc) rfl HVr.out ⟨S.toArray⟩ rfl (by rw [hSz]; have := HAL.out; show _ ≤ 9223372036854775807; omega) (by rw [hSz]; have := HAL.out; omega) (by have := HWB.out.size; omega) ?_; intro v' w9 hown' hgrow _; rw [strCells_bytes, ← byteCells_snoc, hSz, ← List.length_append] at hown'; have HOw := Lib.hid hown'; have HGw := Lib.hid hgrow; clear hown' hgrow)
                        have HB9 : Hid (Below w1.heap.size w1 w9) := Lib.hid (HWB.out.grown HGw.out (by have := HWB.out.size; omega) (fun b e => (HVr.out.lt b e).1))
                        have HV2 : Hid ((acc ++ S).length ≤ 20000 → w9.ownsRow w1.heap.size 5 1 v' (acc ++ S).length (Lib.byteCells (acc ++ S))) := Lib.hid (fun _ => HOw.out)
                        clear HGw HOw HVr
                        go_roundg (l.length - (p + 1 + 1))
                        case rel => exact ⟨p + 1 + 1, acc ++ S, by omega, rfl, HL2, HP2, HV2, HB9, rfl⟩
                        case measure => omega
            · have dq : (q.kind != 1) = true := bne_iff_ne.2 hq1
              have hdm : Lx.dotMay l (p + 1) = false := by unfold Lx.dotMay; split; rfl; rw [Nat.add_sub_cancel, HQ.out]; cases l[p + 1 + 1]? with | none => rfl | some u => (show (q.kind == 1 && _) = false; rw [beq_eq_false_iff_ne.2 hq1, Bool.false_and])
              have HX := Lib.hid (HX.out.trans (by rw [printN_end l (p + 1 + 1) (by omega) (HNf.out hdm)]; rfl : _ = ([], 13)))
              clear hdm hq1
              go_wp2_with fail
              refine (HSp.out _).mono ?_
              rintro e w2 ⟨rfl, hb2⟩
              have z0 := HXc.out w2 hb2 _ _ X0.out
              have HB2 := Lib.hid hb2
              clear hb2 HSp y0 y1 y2 y3
              have z1 := HXc.out w2 HB2.out _ _ Q0.out
              go_wp2_with fail
              refine bodyPost_ret (v := .tuple #[.string ⟨#[]⟩, .int .i64 13]) ?_ rfl ⟨by rw [HX.out]; rfl, HBM.out.trans ((HB2.out).mono hwr)⟩
              simp [results, Tryz.results19, go_sem]
        · have d9 : (t.kind == 9) = false := beq_eq_false_iff_ne.2 h9
          have d9b : (t.kind != 9) = true := bne_iff_ne.2 h9
          by_cases hk0 : k = 0
          · have dk0 : decide ((0 : Int) < (k : Int)) = false := decide_eq_false (by omega)
            have dk0n : decide (0 < k) = false := decide_eq_false (by omega)
            have HP2 := Lib.hid (printN_joined l k t acc HP.out HTk.out h9 (.inl hk0))
            clear h9 hk0
            generalize Lx.spell t.kind t.text = sp at *
            go_wp2_with fail
            refine (HSp.out _).mono ?_
            rintro e w2 ⟨rfl, hb2⟩
            have z0 := HXc.out w2 hb2 _ _ X0.out
            have HB2 := Lib.hid hb2
            clear hb2 HSp y0 y1 y2 y3
            obtain ⟨S, hS⟩ : ∃ S, S = sp := ⟨_, rfl⟩
            rw [← hS] at HP2
            have hSl : S.length ≤ 3000003 := by rw [hS]; omega
            have hSz : (⟨S.toArray⟩ : ByteArray).size = S.length := by simp [ByteArray.size]
            subst hS
            have HWB := Lib.hid (HW.out.trans (HB2.out.mono (by have := HW.out.size; omega)))
            by_cases hlg : 20000 < acc.length
            · obtain rfl : u6 = .bool true := by rw [HLV.out, decide_eq_true hlg]
              have HL2 : Hid ((.bool true : Value) = .bool (decide (20000 < (acc ++ S).length))) := Lib.hid (by rw [decide_eq_true (by rw [List.length_append]; omega)])
              have HV2 : Hid ((acc ++ S).length ≤ 20000 → w2.ownsRow w1.heap.size 5 1 u5 (acc ++ S).length (Lib.byteCells (acc ++ S))) := Lib.hid (fun h => by rw [List.length_append] at h; omega)
              clear hlg HLV HV
              go_wp2_with fail
              go_roundg (l.length - (k + 1))
              case rel => exact ⟨k + 1, acc ++ S, by omega, rfl, HL2, HP2, HV2, HWB, rfl⟩
              case measure => omega
            · obtain rfl : u6 = .bool false := by rw [HLV.out, decide_eq_false hlg]
              have hv := row_mono (HV.out (by omega)) HB2.out
              have HVr := Lib.hid hv
              obtain ⟨ob, cb, rfl⟩ := row_u8 hv
              clear hv HV HLV
              by_cases hl2 : 20000 < acc.length + S.length
              · have dL : decide ((20000 : Int) < (acc.length : Int) + (S.length : Int)) = true := decide_eq_true (by omega)
                have dLn : decide (20000 < acc.length + S.length) = true := decide_eq_true (by omega)
                have HL2 : Hid ((.bool true : Value) = .bool (decide (20000 < (acc ++ S).length))) := Lib.hid (by rw [decide_eq_true (by rw [List.length_append]; omega)])
                have HV2 : Hid ((acc ++ S).length ≤ 20000 → w2.ownsRow w1.heap.size 5 1 (.slice ob acc.length cb) (acc ++ S).length (Lib.byteCells (acc ++ S))) := Lib.hid (fun h => by rw [List.length_append] at h; omega)
                clear hl2
                go_wp2_with fail
                go_roundg (l.length - (k + 1))
                case rel => exact ⟨k + 1, acc ++ S, by omega, rfl, HL2, HP2, HV2, HWB, rfl⟩
                case measure => omega
              · have dL : decide ((20000 : Int) < (acc.length : Int) + (S.length : Int)) = false := decide_eq_false (by omega)
                have dLn : decide (20000 < acc.length + S.length) = false := decide_eq_false (by omega)
                have HL2 : Hid ((.bool false : Value) = .bool (decide (20000 < (acc ++ S).length))) := Lib.hid (by rw [decide_eq_false (by rw [List.length_append]; omega)])
                have HAL := Lib.hid (show acc.length + S.length ≤ 20000 by omega)
                clear hl2
                go_wp2_with (at_builtin; refine Lib.wpList_append_own_string _ rfl _ _ 64 9 rfl w1.heap.size 5 i0 Tryz.underlying64 Tryz.underlying9 hi hz0 hz1 hz2 (.slice ob acc.length cb) acc.length (Lib.byteCells acc) rfl HVr.out ⟨S.toArray⟩ rfl (by rw [hSz]; have := HAL.out; show _ ≤ 9223372036854775807; omega) (by rw [hSz]; have := HAL.out; omega) (by have := HWB.out.size; omega) ?_; intro v' w9 hown' hgrow _; rw [strCells_bytes, ← byteCells_snoc, hSz, ← List.length_append] at hown'; have HOw := Lib.hid hown'; have HGw := Lib.hid hgrow; clear hown' hgrow)
                have HB9 : Hid (Below w1.heap.size w1 w9) := Lib.hid (HWB.out.grown HGw.out (by have := HWB.out.size; omega) (fun b e => (HVr.out.lt b e).1))
                have HV2 : Hid ((acc ++ S).length ≤ 20000 → w9.ownsRow w1.heap.size 5 1 v' (acc ++ S).length (Lib.byteCells (acc ++ S))) := Lib.hid (fun _ => HOw.out)
                clear HGw HOw HVr
                go_roundg (l.length - (k + 1))
                case rel => exact ⟨k + 1, acc ++ S, by omega, rfl, HL2, HP2, HV2, HB9, rfl⟩
                case measure => omega
          · obtain ⟨p, rfl⟩ : ∃ p, k = p + 1 := ⟨k - 1, by omega⟩
            have dk0 : decide ((0 : Int) < (p : Int) + 1) = true := decide_eq_true (by omega)
            have hs1 : IntKind.i64.wrap (((p + 1 : Nat) : Int) - 1) = (p : Int) := by rw [show (((p + 1 : Nat) : Int) - 1) = (p : Int) by omega]; exact IntWalk.i64_in _ (by omega)
            obtain ⟨q, hq⟩ : ∃ q, l[p]? = some q := ⟨_, List.getElem?_eq_getElem (by omega)⟩
            obtain ⟨b', a', e', -, q0, -, -, -⟩ := HT.out p q hq
            injection e' with e'
            injection e' with e1 e2 e3
            subst e1 e2
            have Q0 := Lib.hid q0
            clear hk0 q0
            by_cases hq9 : q.kind = 9
            · have dq : (q.kind != 9) = false := by rw [hq9]; rfl
              have HP2 := Lib.hid (printN_joined l (p + 1) t acc HP.out HTk.out h9 (.inr ⟨q, by rw [Nat.add_sub_cancel]; exact hq, hq9⟩))
              clear h9 hq hq9
              generalize Lx.spell t.kind t.text = sp at *
              go_wp2_with fail
              refine (HSp.out _).mono ?_
              rintro e w2 ⟨rfl, hb2⟩
              have z0 := HXc.out w2 hb2 _ _ X0.out
              have HB2 := Lib.hid hb2
              clear hb2 HSp y0 y1 y2 y3
              have z1 := HXc.out w2 HB2.out _ _ Q0.out
              obtain ⟨S, hS⟩ : ∃ S, S = sp := ⟨_, rfl⟩
              rw [← hS] at HP2
              have hSl : S.length ≤ 3000003 := by rw [hS]; omega
              have hSz : (⟨S.toArray⟩ : ByteArray).size = S.length := by simp [ByteArray.size]
              subst hS
              have HWB := Lib.hid (HW.out.trans (HB2.out.mono (by have := HW.out.size; omega)))
              by_cases hlg : 20000 < acc.length
              · obtain rfl : u6 = .bool true := by rw [HLV.out, decide_eq_true hlg]
                have HL2 : Hid ((.bool true : Value) = .bool (decide (20000 < (acc ++ S).length))) := Lib.hid (by rw [decide_eq_true (by rw [List.length_append]; omega)])
                have HV2 : Hid ((acc ++ S).length ≤ 20000 → w2.ownsRow w1.heap.size 5 1 u5 (acc ++ S).length (Lib.byteCells (acc ++ S))) := Lib.hid (fun h => by rw [List.length_append] at h; omega)
                clear hlg HLV HV
                go_wp2_with fail
                go_roundg (l.length - (p + 1 + 1))
                case rel => exact ⟨p + 1 + 1, acc ++ S, by omega, rfl, HL2, HP2, HV2, HWB, rfl⟩
                case measure => omega
              · obtain rfl : u6 = .bool false := by rw [HLV.out, decide_eq_false hlg]
                have hv := row_mono (HV.out (by omega)) HB2.out
                have HVr := Lib.hid hv
                obtain ⟨ob, cb, rfl⟩ := row_u8 hv
                clear hv HV HLV
                by_cases hl2 : 20000 < acc.length + S.length
                · have dL : decide ((20000 : Int) < (acc.length : Int) + (S.length : Int)) = true := decide_eq_true (by omega)
                  have dLn : decide (20000 < acc.length + S.length) = true := decide_eq_true (by omega)
                  have HL2 : Hid ((.bool true : Value) = .bool (decide (20000 < (acc ++ S).length))) := Lib.hid (by rw [decide_eq_true (by rw [List.length_append]; omega)])
                  have HV2 : Hid ((acc ++ S).length ≤ 20000 → w2.ownsRow w1.heap.size 5 1 (.slice ob acc.length cb) (acc ++ S).length (Lib.byteCells (acc ++ S))) := Lib.hid (fun h => by rw [List.length_append] at h; omega)
                  clear hl2
                  go_wp2_with fail
                  go_roundg (l.length - (p + 1 + 1))
                  case rel => exact ⟨p + 1 + 1, acc ++ S, by omega, rfl, HL2, HP2, HV2, HWB, rfl⟩
                  case measure => omega
                · have dL : decide ((20000 : Int) < (acc.length : Int) + (S.length : Int)) = false := decide_eq_false (by omega)
                  have dLn : decide (20000 < acc.length + S.length) = false := decide_eq_false (by omega)
                  have HL2 : Hid ((.bool false : Value) = .bool (decide (20000 < (acc ++ S).length))) := Lib.hid (by rw [decide_eq_false (by rw [List.length_append]; omega)])
                  have HAL := Lib.hid (show acc.length + S.length ≤ 20000 by omega)
                  clear hl2
                  go_wp2_with (at_builtin; refine Lib.wpList_append_own_string _ rfl _ _ 64 9 rfl w1.heap.size 5 i0 Tryz.underlying64 Tryz.underlying9 hi hz0 hz1 hz2 (.slice ob acc.length cb) acc.length (Lib.byteCells acc) rfl HVr.out ⟨S.toArray⟩ rfl (by rw [hSz]; have := HAL.out; show _ ≤ 9223372036854775807; omega) (by rw [hSz]; have := HAL.out; omega) (by have := HWB.out.size; omega) ?_; intro v' w9 hown' hgrow _; rw [strCells_bytes, ← byteCells_snoc, hSz, ← List.length_append] at hown'; have HOw := Lib.hid hown'; have HGw := Lib.hid hgrow; clear hown' hgrow)
                  have HB9 : Hid (Below w1.heap.size w1 w9) := Lib.hid (HWB.out.grown HGw.out (by have := HWB.out.size; omega) (fun b e => (HVr.out.lt b e).1))
                  have HV2 : Hid ((acc ++ S).length ≤ 20000 → w9.ownsRow w1.heap.size 5 1 v' (acc ++ S).length (Lib.byteCells (acc ++ S))) := Lib.hid (fun _ => HOw.out)
                  clear HGw HOw HVr
                  go_roundg (l.length - (p + 1 + 1))
                  case rel => exact ⟨p + 1 + 1, acc ++ S, by omega, rfl, HL2, HP2, HV2, HB9, rfl⟩
                  case measure => omega
            · have dq : (q.kind != 9) = true := bne_iff_ne.2 hq9
              have HP2 := Lib.hid ((printN_space l (p + 1) t q acc HP.out HTk.out h9 (by omega) (by rw [Nat.add_sub_cancel]; exact hq) hq9).trans (by rw [List.append_assoc]; rfl : _ = some (acc ++ (32 :: Lx.spell t.kind t.text))))
              clear h9 hq hq9
              generalize Lx.spell t.kind t.text = sp at *
              go_wp2_with fail
              refine (HSp.out _).mono ?_
              rintro e w2 ⟨rfl, hb2⟩
              have z0 := HXc.out w2 hb2 _ _ X0.out
              have HB2 := Lib.hid hb2
              clear hb2 HSp y0 y1 y2 y3
              have z1 := HXc.out w2 HB2.out _ _ Q0.out
              obtain ⟨S, hS⟩ : ∃ S, S = 32 :: sp := ⟨_, rfl⟩
              rw [← hS] at HP2
              have hSl : S.length ≤ 3000003 := by rw [hS, List.length_cons]; omega
              have hSz : (⟨S.toArray⟩ : ByteArray).size = S.length := by simp [ByteArray.size]
              have HSS := Lib.hid (show (⟨#[32]⟩ : ByteArray) ++ ⟨sp.toArray⟩ = ⟨S.toArray⟩ by rw [hS]; exact ba_space sp)
              have hS1 : S.length = 1 + sp.length := by rw [hS, List.length_cons]; omega
              clear hS
              have HSZ := Lib.hid hSz
              have HS1 := Lib.hid hS1
              clear hSz
              have HWB := Lib.hid (HW.out.trans (HB2.out.mono (by have := HW.out.size; omega)))
              by_cases hlg : 20000 < acc.length
              · obtain rfl : u6 = .bool true := by rw [HLV.out, decide_eq_true hlg]
                have HL2 : Hid ((.bool true : Value) = .bool (decide (20000 < (acc ++ S).length))) := Lib.hid (by rw [decide_eq_true (by rw [List.length_append]; omega)])
                have HV2 : Hid ((acc ++ S).length ≤ 20000 → w2.ownsRow w1.heap.size 5 1 u5 (acc ++ S).length (Lib.byteCells (acc ++ S))) := Lib.hid (fun h => by rw [List.length_append] at h; omega)
                clear hlg HLV HV hS1 hSl
                go_wp2_with fail
                go_roundg (l.length - (p + 1 + 1))
                case rel => exact ⟨p + 1 + 1, acc ++ S, by omega, rfl, HL2, HP2, HV2, HWB, rfl⟩
                case measure => omega
              · obtain rfl : u6 = .bool false := by rw [HLV.out, decide_eq_false hlg]
                have hv := row_mono (HV.out (by omega)) HB2.out
                have HVr := Lib.hid hv
                obtain ⟨ob, cb, rfl⟩ := row_u8 hv
                clear hv HV HLV
                by_cases hl2 : 20000 < acc.length + S.length
                · have dL : decide ((20000 : Int) < (acc.length : Int) + (1 + (sp.length : Int))) = true := decide_eq_true (by omega)
                  have dLn : decide (20000 < acc.length + (1 + sp.length)) = true := decide_eq_true (by omega)
                  have HL2 : Hid ((.bool true : Value) = .bool (decide (20000 < (acc ++ S).length))) := Lib.hid (by rw [decide_eq_true (by rw [List.length_append]; omega)])
                  have HV2 : Hid ((acc ++ S).length ≤ 20000 → w2.ownsRow w1.heap.size 5 1 (.slice ob acc.length cb) (acc ++ S).length (Lib.byteCells (acc ++ S))) := Lib.hid (fun h => by rw [List.length_append] at h; omega)
                  clear hl2 hS1 hSl
                  go_wp2_with fail
                  go_roundg (l.length - (p + 1 + 1))
                  case rel => exact ⟨p + 1 + 1, acc ++ S, by omega, rfl, HL2, HP2, HV2, HWB, rfl⟩
                  case measure => omega
                · have dL : decide ((20000 : Int) < (acc.length : Int) + (1 + (sp.length : Int))) = false := decide_eq_false (by omega)
                  have dLn : decide (20000 < acc.length + (1 + sp.length)) = false := decide_eq_false (by omega)
                  have HL2 : Hid ((.bool false : Value) = .bool (decide (20000 < (acc ++ S).length))) := Lib.hid (by rw [decide_eq_false (by rw [List.length_append]; omega)])
                  have HAL := Lib.hid (show acc.length + S.length ≤ 20000 by omega)
                  clear hl2 hS1 hSl
                  go_wp2_with (at_builtin; refine Lib.wpList_append_own_string _ rfl _ _ 64 9 rfl w1.heap.size 5 i0 Tryz.underlying64 Tryz.underlying9 hi hz0 hz1 hz2 (.slice ob acc.length cb) acc.length (Lib.byteCells acc) rfl HVr.out (⟨#[32]⟩ ++ ⟨sp.toArray⟩) rfl (by rw [HSS.out, HSZ.out]; have := HAL.out; show _ ≤ 9223372036854775807; omega) (by rw [HSS.out, HSZ.out]; have := HAL.out; omega) (by have := HWB.out.size; omega) ?_; intro v' w9 hown' hgrow _; rw [HSS.out, strCells_bytes, ← byteCells_snoc, HSZ.out, ← List.length_append] at hown'; have HOw := Lib.hid hown'; have HGw := Lib.hid hgrow; clear hown' hgrow)
                  have HB9 : Hid (Below w1.heap.size w1 w9) := Lib.hid (HWB.out.grown HGw.out (by have := HWB.out.size; omega) (fun b e => (HVr.out.lt b e).1))
                  have HV2 : Hid ((acc ++ S).length ≤ 20000 → w9.ownsRow w1.heap.size 5 1 v' (acc ++ S).length (Lib.byteCells (acc ++ S))) := Lib.hid (fun _ => HOw.out)
                  clear HGw HOw HVr
                  go_roundg (l.length - (p + 1 + 1))
                  case rel => exact ⟨p + 1 + 1, acc ++ S, by omega, rfl, HL2, HP2, HV2, HB9, rfl⟩
                  case measure => omega
  · have dc : ((Lx.check l : Int) != 0) = true := bne_iff_ne.2 (by omega)
    have HX := Lib.hid (show Lx.printed l = ([], Lx.check l) by unfold Lx.printed; rw [if_pos hc])
    clear hc HCA
    generalize Lx.check l = E at *
    go_enter Tryz.func19, Tryz.ntmps19
    go_wp2_with fail
    refine HC.out.mono ?_
    rintro e w1 ⟨rfl, hb⟩
    have HB1 := Lib.hid hb
    clear hb HC
    go_wp2_with fail
    refine bodyPost_ret (v := .tuple #[.string ⟨#[]⟩, .int .i64 (E : Nat)]) ?_ rfl ⟨by rw [HX.out], HB1.out⟩
    simp [results, Tryz.results19, go_sem]
end Go.Proofs.YtcjcbhdildcceaaGreatDoor
/- The law LexTokens, from the contracts. Conditions: the cell of internal/bytealg.MaxLen is an int; the lists have at most 1000000 tokens, with texts of at most 100000000 bytes. -/
namespace Go.Proofs.YtcjcbhdildcceaaGreatDoor
open Go.RowKit
set_option linter.unusedVariables false
set_option linter.unusedSimpArgs false

theorem toList_selfT (x : ByteArray) : (x.toList == x.toList) = true := by simp
set_option maxHeartbeats 8000000 in
set_option maxRecDepth 100000 in
theorem lexTokens_c (l l' : List Lx.Tk) (o o' : Option Addr) (c c' : Nat) (s : List UInt8) (m : Int) (w : World) (h : TokAt w o l) (h' : TokAt w o' l') (hn : l.length ≤ 1000000) (hn' : l'.length ≤ 1000000)
    (hl : ∀ t ∈ l, t.text.length ≤ 100000000) (hl' : ∀ t ∈ l', t.text.length ≤ 100000000) (hm : w.cell? ⟨0, 0, none⟩ = some (.int .i64 m)) :
    Calls Tryz.prog 4 #[.slice o l.length c, .slice o' l'.length c', .string ⟨s.toArray⟩] w fun e w' => e = .returned (.bool true) ∧ Below w.heap.size w w' := by
  have hg : 0 < w.heap.size := World.block_lt_of_cell? _ _ hm
  have hss : (⟨s.toArray⟩ : ByteArray).size = s.length := by simp [ByteArray.size]
  have HM := Lib.hid hm
  have HA := Lib.hid (awake_c m w hm)
  have HT0 := Lib.hid h
  have HU0 := Lib.hid h'
  have HLt := Lib.hid hl
  have HLu := Lib.hid hl'
  clear hm h h' hl hl'
  go_enter Tryz.func4, Tryz.ntmps4
  go_wp2_with fail
  refine HA.out.mono ?_
  rintro e w1 ⟨rfl, hb1⟩
  have HB1 := Lib.hid hb1
  have HT1 := Lib.hid (tokAt_mono HT0.out hb1)
  have HU1 := Lib.hid (tokAt_mono HU0.out hb1)
  clear hb1 HA HT0 HU0
  have HBr := Lib.hid (brief_c s)
  generalize Lx.brief s.length = br at *
  by_cases hA : 500 < l.length ∧ l.length ≤ 6000
  · have dL : decide ((500 : Int) < (l.length : Int)) = true := decide_eq_true (by omega)
    have dLn : decide (500 < l.length) = true := decide_eq_true (by omega)
    have dM : decide ((l.length : Int) ≤ 6000) = true := decide_eq_true (by omega)
    have dMn : decide (l.length ≤ 6000) = true := decide_eq_true (by omega)
    clear hA
    go_wp2_with fail
    refine bodyPost_ret (v := .bool true) ?_ rfl ⟨rfl, HB1.out⟩
    simp [results, Tryz.results4, go_sem]
  · by_cases hB : 500 < l.length
    · have dL : decide ((500 : Int) < (l.length : Int)) = true := decide_eq_true (by omega)
      have dLn : decide (500 < l.length) = true := decide_eq_true hB
      have dM : decide ((l.length : Int) ≤ 6000) = false := decide_eq_false (by omega)
      have dMn : decide (l.length ≤ 6000) = false := decide_eq_false (by omega)
      clear hA hB
      by_cases hU : 500 < l'.length
      · have dU : decide ((500 : Int) < (l'.length : Int)) = true := decide_eq_true (by omega)
        have dUn : decide (500 < l'.length) = true := decide_eq_true hU
        clear hU
        go_wp2_with fail
        refine bodyPost_ret (v := .bool true) ?_ rfl ⟨rfl, HB1.out⟩
        simp [results, Tryz.results4, go_sem]
      · have dU : decide ((500 : Int) < (l'.length : Int)) = false := decide_eq_false (by omega)
        have dUn : decide (500 < l'.length) = false := decide_eq_false hU
        have hU5 : l'.length ≤ 500 := by omega
        clear hU
        go_wp2_with fail
        refine (HBr.out w1).mono ?_
        rintro e w2 ⟨rfl, hq2⟩
        have HB2 := Lib.hid (HB1.out.trans ((dn_below hq2).mono HB1.out.size))
        have HT2 := Lib.hid (tokAt_mono HT1.out (dn_below hq2))
        have HU2 := Lib.hid (tokAt_mono HU1.out (dn_below hq2))
        clear hq2 HBr HT1 HU1
        cases br
        · go_wp2_with fail
          refine bodyPost_ret (v := .bool true) ?_ rfl ⟨rfl, HB2.out⟩
          simp [results, Tryz.results4, go_sem]
        · have HWt := Lib.hid (weight_c l o c w2 HT2.out hn (fun t ht => Nat.le_trans (HLt.out t ht) (by decide)))
          have HWl := Lib.hid (wgt_le l 0)
          generalize Lx.wgt l 0 = W at *
          go_wp2_with fail
          refine HWt.out.mono ?_
          rintro e w3 ⟨rfl, hq3⟩
          have HB3 := Lib.hid (HB2.out.trans ((dn_below hq3).mono HB2.out.size))
          have HT3 := Lib.hid (tokAt_mono HT2.out (dn_below hq3))
          have HU3 := Lib.hid (tokAt_mono HU2.out (dn_below hq3))
          clear hq3 HWt HT2 HU2
          by_cases hW : 30000 < W
          · have dW : decide ((30000 : Int) < (W : Int)) = true := decide_eq_true (by omega)
            have dWn : decide (30000 < W) = true := decide_eq_true hW
            clear hW
            go_wp2_with fail
            refine bodyPost_ret (v := .bool true) ?_ rfl ⟨rfl, HB3.out⟩
            simp [results, Tryz.results4, go_sem]
          · have dW : decide ((30000 : Int) < (W : Int)) = false := decide_eq_false (by omega)
            have dWn : decide (30000 < W) = false := decide_eq_false hW
            have HTl := Lib.hid (HWl.out (by omega))
            clear hW HWl
            have HP1 := Lib.hid (print_c l o c m w3 HT3.out ((HB3.out.cell hg).trans HM.out) hn (fun t ht => by have := HTl.out t ht; omega))
            have HP2 := Lib.hid (fun W hW => refPrint_c l o c W hW hn (fun t ht => by have := HTl.out t ht; omega))
            have HC1 := Lib.hid (fun W hW => check_c l o c W hW hn HLt.out)
            have HC2 := Lib.hid (fun W hW => refCheck_c l o c W hW hn HLt.out)
            have HK1 := Lib.hid (fun W => kind_c s W)
            have HK2 := Lib.hid (fun W => refKind_c s W)
            have HS1 := Lib.hid (fun W hW hV => same_c l l' o o' c c' W hW hV hn)
            have HS2 := Lib.hid (fun W hW hV => refSame_c l l' o o' c c' W hW hV hn)
            have hS3 := fun W hW => same_c l l o o c c W hW hW hn
            rw [show Lx.same l l = true from decide_eq_true rfl] at hS3
            have HS3 := Lib.hid hS3
            have HSp := Lib.hid (fun (t : Lx.Tk) (ht : t ∈ l') W hW => spell_c t.kind t.text t.line t.col m W (HLu.out t ht) hW)
            have HRp := Lib.hid (fun (t : Lx.Tk) (ht : t ∈ l') W => refSpell_c t.kind t.text t.line t.col W (HLu.out t ht))
            clear hS3 HTl HLt HLu
            generalize Lx.printed l = P at *
            obtain ⟨x, pe⟩ := P
            generalize Lx.check l = CK at *
            generalize Lx.kindTold s = KD at *
            generalize Lx.same l l' = SM at *
            dsimp only at HP1 HP2
            have tx := toList_selfT ⟨x.toArray⟩
            go_wp2_with fail
            refine HP1.out.mono ?_
            rintro e w4 ⟨rfl, hb4⟩
            have HB4 := Lib.hid (HB3.out.trans (hb4.mono HB3.out.size))
            have HT4 := Lib.hid (tokAt_mono HT3.out hb4)
            have HU4 := Lib.hid (tokAt_mono HU3.out hb4)
            clear hb4 HP1 HT3 HU3 HB3
            go_wp2_with fail
            refine (HP2.out w4 HT4.out).mono ?_
            rintro e w5 ⟨rfl, hb5⟩
            have HB5 := Lib.hid (HB4.out.trans (hb5.mono HB4.out.size))
            have HT5 := Lib.hid (tokAt_mono HT4.out hb5)
            have HU5 := Lib.hid (tokAt_mono HU4.out hb5)
            clear hb5 HP2 HT4 HU4 HB4
            go_wp2_with fail
            refine (HC1.out w5 HT5.out).mono ?_
            rintro e w6 ⟨rfl, hb6⟩
            have HB6 := Lib.hid (HB5.out.trans (hb6.mono HB5.out.size))
            have HT6 := Lib.hid (tokAt_mono HT5.out hb6)
            have HU6 := Lib.hid (tokAt_mono HU5.out hb6)
            clear hb6 HC1 HT5 HU5 HB5
            go_wp2_with fail
            refine (HC2.out w6 HT6.out).mono ?_
            rintro e w7 ⟨rfl, hb7⟩
            have HB7 := Lib.hid (HB6.out.trans (hb7.mono HB6.out.size))
            have HT7 := Lib.hid (tokAt_mono HT6.out hb7)
            have HU7 := Lib.hid (tokAt_mono HU6.out hb7)
            clear hb7 HC2 HT6 HU6 HB6
            go_wp2_with fail
            refine (HK1.out w7).mono ?_
            rintro e w8 ⟨rfl, hb8⟩
            have HB8 := Lib.hid (HB7.out.trans (hb8.mono HB7.out.size))
            have HT8 := Lib.hid (tokAt_mono HT7.out hb8)
            have HU8 := Lib.hid (tokAt_mono HU7.out hb8)
            clear hb8 HK1 HT7 HU7 HB7
            go_wp2_with fail
            refine (HK2.out w8).mono ?_
            rintro e w9 ⟨rfl, hb9⟩
            have HB9 := Lib.hid (HB8.out.trans (hb9.mono HB8.out.size))
            have HT9 := Lib.hid (tokAt_mono HT8.out hb9)
            have HU9 := Lib.hid (tokAt_mono HU8.out hb9)
            clear hb9 HK2 HT8 HU8 HB8
            go_wp2_with fail
            refine (HS1.out w9 HT9.out HU9.out).mono ?_
            rintro e w10 ⟨rfl, hb10⟩
            have HB10 := Lib.hid (HB9.out.trans (hb10.mono HB9.out.size))
            have HT10 := Lib.hid (tokAt_mono HT9.out hb10)
            have HU10 := Lib.hid (tokAt_mono HU9.out hb10)
            clear hb10 HS1 HT9 HU9 HB9
            go_wp2_with fail
            refine (HS2.out w10 HT10.out HU10.out).mono ?_
            rintro e w11 ⟨rfl, hq11⟩
            have HB11 := Lib.hid (HB10.out.trans ((dn_below hq11).mono HB10.out.size))
            have HT11 := Lib.hid (tokAt_mono HT10.out (dn_below hq11))
            have HU11 := Lib.hid (tokAt_mono HU10.out (dn_below hq11))
            clear hq11 HS2 HT10 HU10 HB10
            cases SM
            all_goals
              go_wp2_with fail
              refine (HS3.out w11 HT11.out).mono ?_
              rintro e w12 ⟨rfl, hb12⟩
              have HB12 := Lib.hid (HB11.out.trans (hb12.mono HB11.out.size))
              have HU12 := Lib.hid (tokAt_mono HU11.out hb12)
              clear hb12 HS3 HT11 HU11 HB11
              go_wp2_with fail
              go_loopg [12, 13, 14, 15, 16] l'.length (fun g iv v13 v14 v15 v16 wr => ∃ k : Nat, k ≤ l'.length ∧ iv = .int .i64 k ∧ Hid (Below w12.heap.size w12 wr) ∧ g = l'.length - k)
              case atStart => exact ⟨0, Nat.zero_le _, rfl, Lib.hid (Below.refl _ _), rfl⟩
              case round =>
                obtain ⟨k, hk, rfl, HW, hgk⟩ := hrel
                by_cases hE : k = l'.length
                · have dE : decide ((k : Int) < (l'.length : Int)) = false := decide_eq_false (by omega)
                  have HE := Lib.hid hE
                  clear hE
                  go_wp2_with fail
                  all_goals (try (exfalso; have := HE.out; omega))
                  refine bodyPost_ret (v := .bool true) ?_ rfl ⟨rfl, HB12.out.trans (HW.out.mono HB12.out.size)⟩
                  simp [results, Tryz.results4, go_sem]
                · have hlt : k < l'.length := by omega
                  have dE : decide ((k : Int) < (l'.length : Int)) = true := decide_eq_true (by omega)
                  obtain ⟨t, ht⟩ : ∃ t, l'[k]? = some t := ⟨_, List.getElem?_eq_getElem hlt⟩
                  obtain ⟨b, a, rfl, hbl, x0, x1, x2, x3⟩ := HU12.out k t ht
                  have hmem := List.mem_of_getElem? ht
                  have HXc := Lib.hid (fun (W : World) (hW : Below w12.heap.size w12 W) (q : Nat) (v : Value) (e : w12.cell? ⟨b, q, none⟩ = some v) => (hW.cell (p := ⟨b, q, none⟩) hbl).trans e)
                  have X0 := Lib.hid x0
                  have X1 := Lib.hid x1
                  have X2 := Lib.hid x2
                  have X3 := Lib.hid x3
                  have y0 := HXc.out wr HW.out _ _ x0
                  have y1 := HXc.out wr HW.out _ _ x1
                  have y2 := HXc.out wr HW.out _ _ x2
                  have y3 := HXc.out wr HW.out _ _ x3
                  have hA := HSp.out t hmem wr (((HB12.out.trans (HW.out.mono HB12.out.size)).cell hg).trans HM.out)
                  have hB := HRp.out t hmem
                  unfold tokW at hA hB
                  generalize Lx.spelled t.kind t.text t.line t.col = Z at *
                  obtain ⟨z, ze⟩ := Z
                  dsimp only at hA hB
                  have tz := toList_selfT ⟨z.toArray⟩
                  have HA' := Lib.hid hA
                  have HB' := Lib.hid hB
                  clear hA hB x0 x1 x2 x3 ht hmem hE
                  go_wp2_with fail
                  refine HA'.out.mono ?_
                  rintro e w13 ⟨rfl, hb13⟩
                  have HW13 := Lib.hid (HW.out.trans (hb13.mono HW.out.size))
                  have y0 := HXc.out w13 HW13.out _ _ X0.out
                  have y1 := HXc.out w13 HW13.out _ _ X1.out
                  have y2 := HXc.out w13 HW13.out _ _ X2.out
                  have y3 := HXc.out w13 HW13.out _ _ X3.out
                  clear hb13 HA'
                  go_wp2_with fail
                  refine (HB'.out w13).mono ?_
                  rintro e w14 ⟨rfl, hb14⟩
                  have HW14 := Lib.hid (HW13.out.trans (hb14.mono HW13.out.size))
                  clear hb14 HB' y0 y1 y2 y3
                  go_wp2_with fail
                  go_roundg (l'.length - (k + 1))
                  case rel => exact ⟨k + 1, by omega, rfl, HW14, rfl⟩
                  case measure => omega
    · have dL : decide ((500 : Int) < (l.length : Int)) = false := decide_eq_false (by omega)
      have dLn : decide (500 < l.length) = false := decide_eq_false hB
      clear hA hB
      by_cases hU : 500 < l'.length
      · have dU : decide ((500 : Int) < (l'.length : Int)) = true := decide_eq_true (by omega)
        have dUn : decide (500 < l'.length) = true := decide_eq_true hU
        clear hU
        go_wp2_with fail
        refine bodyPost_ret (v := .bool true) ?_ rfl ⟨rfl, HB1.out⟩
        simp [results, Tryz.results4, go_sem]
      · have dU : decide ((500 : Int) < (l'.length : Int)) = false := decide_eq_false (by omega)
        have dUn : decide (500 < l'.length) = false := decide_eq_false hU
        have hU5 : l'.length ≤ 500 := by omega
        clear hU
        go_wp2_with fail
        refine (HBr.out w1).mono ?_
        rintro e w2 ⟨rfl, hq2⟩
        have HB2 := Lib.hid (HB1.out.trans ((dn_below hq2).mono HB1.out.size))
        have HT2 := Lib.hid (tokAt_mono HT1.out (dn_below hq2))
        have HU2 := Lib.hid (tokAt_mono HU1.out (dn_below hq2))
        clear hq2 HBr HT1 HU1
        cases br
        · go_wp2_with fail
          refine bodyPost_ret (v := .bool true) ?_ rfl ⟨rfl, HB2.out⟩
          simp [results, Tryz.results4, go_sem]
        · have HWt := Lib.hid (weight_c l o c w2 HT2.out hn (fun t ht => Nat.le_trans (HLt.out t ht) (by decide)))
          have HWl := Lib.hid (wgt_le l 0)
          generalize Lx.wgt l 0 = W at *
          go_wp2_with fail
          refine HWt.out.mono ?_
          rintro e w3 ⟨rfl, hq3⟩
          have HB3 := Lib.hid (HB2.out.trans ((dn_below hq3).mono HB2.out.size))
          have HT3 := Lib.hid (tokAt_mono HT2.out (dn_below hq3))
          have HU3 := Lib.hid (tokAt_mono HU2.out (dn_below hq3))
          clear hq3 HWt HT2 HU2
          by_cases hW : 30000 < W
          · have dW : decide ((30000 : Int) < (W : Int)) = true := decide_eq_true (by omega)
            have dWn : decide (30000 < W) = true := decide_eq_true hW
            clear hW
            go_wp2_with fail
            refine bodyPost_ret (v := .bool true) ?_ rfl ⟨rfl, HB3.out⟩
            simp [results, Tryz.results4, go_sem]
          · have dW : decide ((30000 : Int) < (W : Int)) = false := decide_eq_false (by omega)
            have dWn : decide (30000 < W) = false := decide_eq_false hW
            have HTl := Lib.hid (HWl.out (by omega))
            clear hW HWl
            have HP1 := Lib.hid (print_c l o c m w3 HT3.out ((HB3.out.cell hg).trans HM.out) hn (fun t ht => by have := HTl.out t ht; omega))
            have HP2 := Lib.hid (fun W hW => refPrint_c l o c W hW hn (fun t ht => by have := HTl.out t ht; omega))
            have HC1 := Lib.hid (fun W hW => check_c l o c W hW hn HLt.out)
            have HC2 := Lib.hid (fun W hW => refCheck_c l o c W hW hn HLt.out)
            have HK1 := Lib.hid (fun W => kind_c s W)
            have HK2 := Lib.hid (fun W => refKind_c s W)
            have HS1 := Lib.hid (fun W hW hV => same_c l l' o o' c c' W hW hV hn)
            have HS2 := Lib.hid (fun W hW hV => refSame_c l l' o o' c c' W hW hV hn)
            have hS3 := fun W hW => same_c l l o o c c W hW hW hn
            rw [show Lx.same l l = true from decide_eq_true rfl] at hS3
            have HS3 := Lib.hid hS3
            have HSp := Lib.hid (fun (t : Lx.Tk) (ht : t ∈ l') W hW => spell_c t.kind t.text t.line t.col m W (HLu.out t ht) hW)
            have HRp := Lib.hid (fun (t : Lx.Tk) (ht : t ∈ l') W => refSpell_c t.kind t.text t.line t.col W (HLu.out t ht))
            clear hS3 HTl HLt HLu
            generalize Lx.printed l = P at *
            obtain ⟨x, pe⟩ := P
            generalize Lx.check l = CK at *
            generalize Lx.kindTold s = KD at *
            generalize Lx.same l l' = SM at *
            dsimp only at HP1 HP2
            have tx := toList_selfT ⟨x.toArray⟩
            go_wp2_with fail
            refine HP1.out.mono ?_
            rintro e w4 ⟨rfl, hb4⟩
            have HB4 := Lib.hid (HB3.out.trans (hb4.mono HB3.out.size))
            have HT4 := Lib.hid (tokAt_mono HT3.out hb4)
            have HU4 := Lib.hid (tokAt_mono HU3.out hb4)
            clear hb4 HP1 HT3 HU3 HB3
            go_wp2_with fail
            refine (HP2.out w4 HT4.out).mono ?_
            rintro e w5 ⟨rfl, hb5⟩
            have HB5 := Lib.hid (HB4.out.trans (hb5.mono HB4.out.size))
            have HT5 := Lib.hid (tokAt_mono HT4.out hb5)
            have HU5 := Lib.hid (tokAt_mono HU4.out hb5)
            clear hb5 HP2 HT4 HU4 HB4
            go_wp2_with fail
            refine (HC1.out w5 HT5.out).mono ?_
            rintro e w6 ⟨rfl, hb6⟩
            have HB6 := Lib.hid (HB5.out.trans (hb6.mono HB5.out.size))
            have HT6 := Lib.hid (tokAt_mono HT5.out hb6)
            have HU6 := Lib.hid (tokAt_mono HU5.out hb6)
            clear hb6 HC1 HT5 HU5 HB5
            go_wp2_with fail
            refine (HC2.out w6 HT6.out).mono ?_
            rintro e w7 ⟨rfl, hb7⟩
            have HB7 := Lib.hid (HB6.out.trans (hb7.mono HB6.out.size))
            have HT7 := Lib.hid (tokAt_mono HT6.out hb7)
            have HU7 := Lib.hid (tokAt_mono HU6.out hb7)
            clear hb7 HC2 HT6 HU6 HB6
            go_wp2_with fail
            refine (HK1.out w7).mono ?_
            rintro e w8 ⟨rfl, hb8⟩
            have HB8 := Lib.hid (HB7.out.trans (hb8.mono HB7.out.size))
            have HT8 := Lib.hid (tokAt_mono HT7.out hb8)
            have HU8 := Lib.hid (tokAt_mono HU7.out hb8)
            clear hb8 HK1 HT7 HU7 HB7
            go_wp2_with fail
            refine (HK2.out w8).mono ?_
            rintro e w9 ⟨rfl, hb9⟩
            have HB9 := Lib.hid (HB8.out.trans (hb9.mono HB8.out.size))
            have HT9 := Lib.hid (tokAt_mono HT8.out hb9)
            have HU9 := Lib.hid (tokAt_mono HU8.out hb9)
            clear hb9 HK2 HT8 HU8 HB8
            go_wp2_with fail
            refine (HS1.out w9 HT9.out HU9.out).mono ?_
            rintro e w10 ⟨rfl, hb10⟩
            have HB10 := Lib.hid (HB9.out.trans (hb10.mono HB9.out.size))
            have HT10 := Lib.hid (tokAt_mono HT9.out hb10)
            have HU10 := Lib.hid (tokAt_mono HU9.out hb10)
            clear hb10 HS1 HT9 HU9 HB9
            go_wp2_with fail
            refine (HS2.out w10 HT10.out HU10.out).mono ?_
            rintro e w11 ⟨rfl, hq11⟩
            have HB11 := Lib.hid (HB10.out.trans ((dn_below hq11).mono HB10.out.size))
            have HT11 := Lib.hid (tokAt_mono HT10.out (dn_below hq11))
            have HU11 := Lib.hid (tokAt_mono HU10.out (dn_below hq11))
            clear hq11 HS2 HT10 HU10 HB10
            cases SM
            all_goals
              go_wp2_with fail
              refine (HS3.out w11 HT11.out).mono ?_
              rintro e w12 ⟨rfl, hb12⟩
              have HB12 := Lib.hid (HB11.out.trans (hb12.mono HB11.out.size))
              have HU12 := Lib.hid (tokAt_mono HU11.out hb12)
              clear hb12 HS3 HT11 HU11 HB11
              go_wp2_with fail
              go_loopg [12, 13, 14, 15, 16] l'.length (fun g iv v13 v14 v15 v16 wr => ∃ k : Nat, k ≤ l'.length ∧ iv = .int .i64 k ∧ Hid (Below w12.heap.size w12 wr) ∧ g = l'.length - k)
              case atStart => exact ⟨0, Nat.zero_le _, rfl, Lib.hid (Below.refl _ _), rfl⟩
              case round =>
                obtain ⟨k, hk, rfl, HW, hgk⟩ := hrel
                by_cases hE : k = l'.length
                · have dE : decide ((k : Int) < (l'.length : Int)) = false := decide_eq_false (by omega)
                  have HE := Lib.hid hE
                  clear hE
                  go_wp2_with fail
                  all_goals (try (exfalso; have := HE.out; omega))
                  refine bodyPost_ret (v := .bool true) ?_ rfl ⟨rfl, HB12.out.trans (HW.out.mono HB12.out.size)⟩
                  simp [results, Tryz.results4, go_sem]
                · have hlt : k < l'.length := by omega
                  have dE : decide ((k : Int) < (l'.length : Int)) = true := decide_eq_true (by omega)
                  obtain ⟨t, ht⟩ : ∃ t, l'[k]? = some t := ⟨_, List.getElem?_eq_getElem hlt⟩
                  obtain ⟨b, a, rfl, hbl, x0, x1, x2, x3⟩ := HU12.out k t ht
                  have hmem := List.mem_of_getElem? ht
                  have HXc := Lib.hid (fun (W : World) (hW : Below w12.heap.size w12 W) (q : Nat) (v : Value) (e : w12.cell? ⟨b, q, none⟩ = some v) => (hW.cell (p := ⟨b, q, none⟩) hbl).trans e)
                  have X0 := Lib.hid x0
                  have X1 := Lib.hid x1
                  have X2 := Lib.hid x2
                  have X3 := Lib.hid x3
                  have y0 := HXc.out wr HW.out _ _ x0
                  have y1 := HXc.out wr HW.out _ _ x1
                  have y2 := HXc.out wr HW.out _ _ x2
                  have y3 := HXc.out wr HW.out _ _ x3
                  have hA := HSp.out t hmem wr (((HB12.out.trans (HW.out.mono HB12.out.size)).cell hg).trans HM.out)
                  have hB := HRp.out t hmem
                  unfold tokW at hA hB
                  generalize Lx.spelled t.kind t.text t.line t.col = Z at *
                  obtain ⟨z, ze⟩ := Z
                  dsimp only at hA hB
                  have tz := toList_selfT ⟨z.toArray⟩
                  have HA' := Lib.hid hA
                  have HB' := Lib.hid hB
                  clear hA hB x0 x1 x2 x3 ht hmem hE
                  go_wp2_with fail
                  refine HA'.out.mono ?_
                  rintro e w13 ⟨rfl, hb13⟩
                  have HW13 := Lib.hid (HW.out.trans (hb13.mono HW.out.size))
                  have y0 := HXc.out w13 HW13.out _ _ X0.out
                  have y1 := HXc.out w13 HW13.out _ _ X1.out
                  have y2 := HXc.out w13 HW13.out _ _ X2.out
                  have y3 := HXc.out w13 HW13.out _ _ X3.out
                  clear hb13 HA'
                  go_wp2_with fail
                  refine (HB'.out w13).mono ?_
                  rintro e w14 ⟨rfl, hb14⟩
                  have HW14 := Lib.hid (HW13.out.trans (hb14.mono HW13.out.size))
                  clear hb14 HB' y0 y1 y2 y3
                  go_wp2_with fail
                  go_roundg (l'.length - (k + 1))
                  case rel => exact ⟨k + 1, by omega, rfl, HW14, rfl⟩
                  case measure => omega
end Go.Proofs.YtcjcbhdildcceaaGreatDoor
