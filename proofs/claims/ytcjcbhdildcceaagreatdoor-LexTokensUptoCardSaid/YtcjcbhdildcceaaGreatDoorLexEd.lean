/- Contract of Edit of package lex. Conditions: those in the statement. -/
import Derived.Test.YtcjcbhdildcceaaGreatDoorLexSe
import Derived.Test.YtcjcbhdildcceaaGreatDoorLexPk
namespace Go.Proofs.YtcjcbhdildcceaaGreatDoor
open Go.RowKit

theorem ba_append (a b : List UInt8) : (⟨a.toArray⟩ ++ ⟨b.toArray⟩ : ByteArray) = ⟨(a ++ b).toArray⟩ := by
  apply ByteArray.ext
  rw [ByteArray.data_append]
  simp
theorem ba_take (s : List UInt8) (i : Nat) : (⟨s.toArray⟩ : ByteArray).extract 0 i = ⟨(s.take i).toArray⟩ := by
  apply ByteArray.ext
  rw [ByteArray.data_extract]
  show s.toArray.extract 0 i = _
  rw [List.extract_toArray, List.extract_eq_take_drop]
  simp
theorem ba_slice (s : List UInt8) (i j : Nat) : (⟨s.toArray⟩ : ByteArray).extract i j = ⟨((s.take j).drop i).toArray⟩ := by
  apply ByteArray.ext
  rw [ByteArray.data_extract]
  show s.toArray.extract i j = _
  rw [List.extract_toArray, List.extract_eq_take_drop]
  congr 1
  rw [List.drop_take]
theorem ba_drop (s : List UInt8) (i : Nat) : (⟨s.toArray⟩ : ByteArray).extract i s.length = ⟨(s.drop i).toArray⟩ := by
  rw [ba_slice, List.take_length]

theorem spAtO_of_owns {w : World} {b : Nat} {o : Option Addr} {c : Nat} {l : List Lx.Sp} (h : w.ownsRow b 53 6 (.slice o l.length c) l.length (spCells l)) : SpAtO w o l := by
  intro k t ht
  obtain ⟨g, e, hg, hc⟩ := spAt_of_owns h k t ht
  exact ⟨g, 0, e, hg, fun j hj => by rw [Nat.zero_add]; exact hc j hj⟩
theorem spAtO_drop {w : World} {g : Nat} {l : List Lx.Sp} (h : SpAt w (some ⟨g, 0, none⟩) l) (a : Nat) : SpAtO w (some ⟨g, a * 6, none⟩) (l.drop a) := by
  intro k t ht
  rw [List.getElem?_drop] at ht
  obtain ⟨g', e, hg, hc⟩ := h (a + k) t ht
  injection e with e
  injection e with e1
  subst e1
  exact ⟨g, a * 6, rfl, hg, fun j hj => by rw [show a * 6 + k * 6 + j = (a + k) * 6 + j by omega]; exact hc j hj⟩
theorem spAt_mono {w w' : World} {o : Option Addr} {l : List Lx.Sp} (h : SpAt w o l) (hb : Below w.heap.size w w') : SpAt w' o l := by
  intro k t ht
  obtain ⟨g, e, hg, hc⟩ := h k t ht
  exact ⟨g, e, Nat.lt_of_lt_of_le hg hb.size, fun j hj => (hb.cell (p := ⟨g, _, none⟩) hg).trans (hc j hj)⟩

theorem spAtO_mono {w w' : World} {o : Option Addr} {l : List Lx.Sp} (h : SpAtO w o l) (hb : Below w.heap.size w w') : SpAtO w' o l := by
  intro k t ht
  obtain ⟨g, q, e, hg, hc⟩ := h k t ht
  exact ⟨g, q, e, Nat.lt_of_lt_of_le hg hb.size, fun j hj => (hb.cell (p := ⟨g, _, none⟩) hg).trans (hc j hj)⟩

set_option maxHeartbeats 4000000 in
set_option maxRecDepth 100000 in
theorem edit_c (s wi : List UInt8) (from_ to_ : Int) (m : Int) (w : World) (hm : w.cell? ⟨0, 0, none⟩ = some (.int .i64 m))
    (h6 : s.length ≤ 20000 → (Lx.spans s).1.length ≤ 6000) (hsl : s.length ≤ 1000000) (hwl : wi.length ≤ 1000000)
    (he : ∀ a b : Nat, from_ = (a : Int) → to_ = (b : Int) → a ≤ b → b ≤ s.length → (Lx.edited s wi a b).length ≤ 20000 → (Lx.spans (Lx.edited s wi a b)).1.length ≤ 6000) :
    Calls Tryz.prog 28 #[.string ⟨s.toArray⟩, .int .i64 from_, .int .i64 to_, .string ⟨wi.toArray⟩] w fun e w' =>
      e = .returned (.tuple #[.string ⟨(Lx.editOf s from_ to_ wi).1.toArray⟩, .int .i64 (Lx.editOf s from_ to_ wi).2.1, .int .i64 (Lx.editOf s from_ to_ wi).2.2.1, .int .i64 (Lx.editOf s from_ to_ wi).2.2.2.1, .int .i64 (Lx.editOf s from_ to_ wi).2.2.2.2]) ∧ Below w.heap.size w w' := by
  have hsz : (⟨s.toArray⟩ : ByteArray).size = s.length := by simp [ByteArray.size]
  have mf := makeFunc_run
  have hg : 0 < w.heap.size := World.block_lt_of_cell? _ _ hm
  have hb1 : Below w.heap.size w ((w.alloc (.cells #[.int .i64 from_] 3)).alloc (.cells #[.int .i64 to_] 3)) := ((Below.refl _ w).alloc (Nat.le_refl _) _).alloc (by simp) _
  have hx1 := heap_two_fst w (.cells #[.int .i64 from_] 3) (.cells #[.int .i64 to_] 3)
  have hx2 := heap_two_snd w (.cells #[.int .i64 from_] 3) (.cells #[.int .i64 to_] 3)
  have hz1 : ((w.alloc (.cells #[.int .i64 from_] 3)).alloc (.cells #[.int .i64 to_] 3)).heap.size = w.heap.size + 2 := by simp
  have c1 : ((w.alloc (.cells #[.int .i64 from_] 3)).alloc (.cells #[.int .i64 to_] 3)).cell? ⟨w.heap.size, 0, none⟩ = some (.int .i64 from_) := (Lib.cell_of_heap hx1 0).trans rfl
  have c2 : ((w.alloc (.cells #[.int .i64 from_] 3)).alloc (.cells #[.int .i64 to_] 3)).cell? ⟨w.heap.size + 1, 0, none⟩ = some (.int .i64 to_) := (Lib.cell_of_heap hx2 0).trans rfl
  have HM := Lib.hid hm
  have HB1 := Lib.hid hb1
  have HX1 := Lib.hid hx1
  have HX2 := Lib.hid hx2
  have HZ1 := Lib.hid hz1
  have H6 := Lib.hid h6
  have HE := Lib.hid he
  clear hm hb1 hx1 hx2 hz1 h6 he c1 c2
  by_cases h0 : from_ < 0 ∨ to_ < from_ ∨ (s.length : Int) < to_
  · have HX := Lib.hid (show Lx.editOf s from_ to_ wi = ([], 0, 0, 1, 0) by unfold Lx.editOf; rw [if_pos h0])
    by_cases d0 : from_ < 0
    · have e0 : decide (from_ < 0) = true := decide_eq_true d0
      clear h0 d0
      go_enter Tryz.func28, Tryz.ntmps28
      go_wp2_with fail
      refine bodyPost_ret (v := .tuple #[.string ⟨#[]⟩, .int .i64 0, .int .i64 0, .int .i64 1, .int .i64 0]) ?_ rfl ⟨by rw [HX.out]; rfl, HB1.out⟩
      simp [results, Tryz.results28, go_sem]
    · have e0 : decide (from_ < 0) = false := decide_eq_false d0
      by_cases d1 : to_ < from_
      · have e1 : decide (to_ < from_) = true := decide_eq_true d1
        clear h0 d0 d1
        go_enter Tryz.func28, Tryz.ntmps28
        go_wp2_with fail
        refine bodyPost_ret (v := .tuple #[.string ⟨#[]⟩, .int .i64 0, .int .i64 0, .int .i64 1, .int .i64 0]) ?_ rfl ⟨by rw [HX.out]; rfl, HB1.out⟩
        simp [results, Tryz.results28, go_sem]
      · have e1 : decide (to_ < from_) = false := decide_eq_false d1
        have e2 : decide ((s.length : Int) < to_) = true := decide_eq_true (by omega)
        clear h0 d0 d1
        go_enter Tryz.func28, Tryz.ntmps28
        go_wp2_with fail
        refine bodyPost_ret (v := .tuple #[.string ⟨#[]⟩, .int .i64 0, .int .i64 0, .int .i64 1, .int .i64 0]) ?_ rfl ⟨by rw [HX.out]; rfl, HB1.out⟩
        simp [results, Tryz.results28, go_sem]
  · have e0 : decide (from_ < 0) = false := decide_eq_false (by omega)
    have e1 : decide (to_ < from_) = false := decide_eq_false (by omega)
    have e2 : decide ((s.length : Int) < to_) = false := decide_eq_false (by omega)
    obtain ⟨a, rfl⟩ : ∃ a : Nat, from_ = a := ⟨from_.toNat, by omega⟩
    obtain ⟨b, rfl⟩ : ∃ b : Nat, to_ = b := ⟨to_.toNat, by omega⟩
    have hab : a ≤ b := by omega
    have hbs : b ≤ s.length := by omega
    have has : a ≤ s.length := by omega
    have HX := Lib.hid (show Lx.editOf s (a : Int) (b : Int) wi = _ from by unfold Lx.editOf; rw [if_neg h0])
    simp only [Int.toNat_natCast] at HX
    have HED := HE.out a b rfl rfl hab hbs
    have hD := divide_c s m _ ((HB1.out.cell hg).trans HM.out) H6.out
    have hdl := divide_len s H6.out
    have hok := divide_ok s
    have hdf := divide_frm s
    unfold divLeft at hD
    clear h0
    generalize Lx.divide s = R at *
    obtain ⟨l, c, ix⟩ := R
    dsimp only at hD hdl HX hok hdf
    have HD := Lib.hid hD
    clear hD
    by_cases hc : c = 0
    · subst hc
      have hok := (hok rfl).1
      have HDF := Lib.hid (hdf rfl)
      rw [if_neg (by simp)] at HX
      have HDE := Lib.hid (fun W hW => divide_c (Lx.edited s wi a b) m W hW HED)
      have HDL := Lib.hid (divide_len _ HED)
      have HOK := Lib.hid (fun h => (divide_ok (Lx.edited s wi a b) h).1)
      have hex : (⟨s.toArray⟩ : ByteArray).extract 0 a ++ ⟨wi.toArray⟩ ++ (⟨s.toArray⟩ : ByteArray).extract b s.length = ⟨(Lx.edited s wi a b).toArray⟩ := by
        rw [ba_take, ba_drop, ba_append, ba_append]; unfold Lx.edited; rw [List.append_assoc]
      have HEX := Lib.hid hex
      have HEL := Lib.hid (edited_len s wi a b hab hbs)
      unfold divLeft at HDE
      clear hex HED HE hdf H6
      go_enter Tryz.func28, Tryz.ntmps28
      go_wp2_with fail
      refine HD.out.mono ?_
      rintro e w1 ⟨v, rfl, hb, ho⟩
      obtain ⟨o, cp, rfl, hcp, hcm, hsh⟩ : ∃ o cp, v = .slice o l.length cp ∧ l.length ≤ cp ∧ cp ≤ maxLen ∧ ((o = none ∧ cp = 0) ∨ ∃ g, o = some ⟨g, 0, none⟩) := by
        rcases ho.2 with ⟨rfl, h0⟩ | ⟨g, cp, cur, rfl, _, _, h3, h4, _⟩
        · exact ⟨none, 0, by rw [h0], by omega, by simp, .inl ⟨rfl, rfl⟩⟩
        · exact ⟨_, _, rfl, h3, h4, .inr ⟨g, rfl⟩⟩
      have ci1 := (Lib.cell_of_heap ((hb.block w.heap.size (by rw [HZ1.out]; omega)).trans HX1.out) 0).trans rfl
      have ci2 := (Lib.cell_of_heap ((hb.block (w.heap.size + 1) (by rw [HZ1.out]; omega)).trans HX2.out) 0).trans rfl
      have hw1 : w.heap.size + 2 ≤ w1.heap.size := by have := hb.size; have := HZ1.out; omega
      have HB2 := Lib.hid (HB1.out.trans (hb.mono (by rw [HZ1.out]; omega)))
      have HSP := Lib.hid (spAt_of_owns ho)
      clear hb HD ho
      go_wp2_with fail
      go_quiet (fail)
      go_wp2_with fail
      rw [HEX.out]
      have hq : Below w1.heap.size w1 (w1.drewN nq) := below_dn (Below.refl _ w1) nq
      have hg1 : 0 < w1.heap.size := by omega
      refine (HDE.out (w1.drewN nq) ((hq.cell hg1).trans ((HB2.out.cell hg).trans HM.out))).mono ?_
      rintro e w2 ⟨v2, rfl, hb2, ho2⟩
      have hb3 : Below w1.heap.size w1 w2 := hq.trans (hb2.mono hq.size)
      have HB3 := Lib.hid (HB2.out.trans (hb3.mono (by omega)))
      have HSP3 := Lib.hid (spAt_mono HSP.out hb3)
      have ci1' := (hb3.cell (p := ⟨w.heap.size, 0, none⟩) (by show w.heap.size < _; omega)).trans ci1
      have ci2' := (hb3.cell (p := ⟨w.heap.size + 1, 0, none⟩) (by show w.heap.size + 1 < _; omega)).trans ci2
      have hw2 := hb3.size
      clear hb2 hb3 hq HSP ci1 ci2 HDE HEX
      generalize Lx.divide (Lx.edited s wi a b) = R2 at *
      obtain ⟨l2, c2, ix2⟩ := R2
      dsimp only at HX HDL HOK ho2
      by_cases hc2 : c2 = 0
      · subst hc2
        rw [if_neg (by simp)] at HX
        have hel := HOK.out rfl
        have hl2 := HDL.out
        have hEL := HEL.out
        obtain ⟨o2, cp2, rfl⟩ : ∃ o2 cp2, v2 = .slice o2 l2.length cp2 := by
          rcases ho2.2 with ⟨rfl, h0⟩ | ⟨g, cp, cur, rfl, _⟩
          · exact ⟨none, 0, by rw [h0]⟩
          · exact ⟨_, _, rfl⟩
        have HSO2 := Lib.hid (spAtO_of_owns ho2)
        have HR1 := Lib.hid (runSpan_c 53 #[] #[.pointer (some ⟨w.heap.size, 0, none⟩)] (fun t => decide ((t.to : Int) < (a : Int))) l o cp w2 (by omega) HSP3.out
          (enters_of Tryz.func53 (by kernel_rfl) rfl) (fun t W hW => edit1_c t w.heap.size a W ((hW.cell (p := ⟨w.heap.size, 0, none⟩) (by show w.heap.size < _; omega)).trans ci1')))
        clear ho2 HDL HOK
        generalize (l.takeWhile fun t => decide ((t.to : Int) < (a : Int))).length = hd at *
        go_wp2_with fail
        refine HR1.out.mono ?_
        rintro e w3 ⟨rfl, hb3⟩
        have HB4 := Lib.hid (HB3.out.trans (hb3.mono (by omega)))
        have HSP4 := Lib.hid (spAt_mono HSP3.out hb3)
        have HSO4 := Lib.hid (spAtO_mono HSO2.out hb3)
        have ci2'' := (hb3.cell (p := ⟨w.heap.size + 1, 0, none⟩) (by show w.heap.size + 1 < _; omega)).trans ci2'
        have hw3 := hb3.size
        have HR2 := Lib.hid (runSpan_c 54 #[] #[.pointer (some ⟨w.heap.size + 1, 0, none⟩)] (fun t => decide ((t.frm : Int) < (b : Int))) l o cp w3 (by omega) HSP4.out
          (enters_of Tryz.func54 (by kernel_rfl) rfl) (fun t W hW => edit2_c t (w.heap.size + 1) b W ((hW.cell (p := ⟨w.heap.size + 1, 0, none⟩) (by show w.heap.size + 1 < _; omega)).trans ci2'')))
        clear hb3 HR1 HSP3 HSO2 ci1' ci2'
        go_wp2_with fail
        refine HR2.out.mono ?_
        rintro e w4 ⟨rfl, hb4⟩
        have HB5 := Lib.hid (HB4.out.trans (hb4.mono (by omega)))
        have HSP5 := Lib.hid (spAt_mono HSP4.out hb4)
        have HSO5 := Lib.hid (spAtO_mono HSO4.out hb4)
        have hw4 := hb4.size
        clear hb4 HR2 HSP4 HSO4 ci2''
        have hahl : (l.takeWhile fun t => decide ((t.frm : Int) < (b : Int))).length ≤ l.length := (List.takeWhile_prefix _).length_le
        generalize hga : (l.takeWhile fun t => decide ((t.frm : Int) < (b : Int))).length = ah at *
        generalize hge : Lx.edited s wi a b = ed at *
        have hse : (⟨ed.toArray⟩ : ByteArray).size = ed.length := by simp [ByteArray.size]
        have hsub : IntKind.i64.wrap ((ed.length : Int) - (s.length : Int)) = (ed.length : Int) - (s.length : Int) := IntWalk.i64_in _ (by omega)
        have hdr : (l.drop ah).length = l.length - ah := List.length_drop
        have hcast : ((l.length - ah : Nat) : Int) = (l.length : Int) - (ah : Int) := by omega
        have HDF2 := Lib.hid (fun t (ht : t ∈ l.drop ah) => HDF.out t (List.mem_of_mem_drop ht))
        have HGA := Lib.hid hga
        have HGE := Lib.hid hge
        have HDR := Lib.hid hdr
        have HCAST := Lib.hid hcast
        clear hga hge hdr hcast
        rcases hsh with ⟨rfl, rfl⟩ | ⟨g, rfl⟩
        · have h0 : ah = 0 := by omega
          have hl0 : l.length = 0 := by omega
          subst h0
          have HSE := sameEnd_c (l.drop 0) l2 none o2 0 cp2 ((ed.length : Int) - (s.length : Int)) w4 (fun k t h => by rw [List.eq_nil_of_length_eq_zero hl0] at h; simp at h) HSO5.out (by rw [HDR.out]; omega) (by omega) (by omega) (fun t ht => by have := HDF2.out t ht; omega)
          rw [HDR.out, hl0] at HSE
          have HSE := Lib.hid HSE
          clear HSP5 HSO5 HDF2 hl0
          go_wp2_with fail
          refine HSE.out.mono ?_
          rintro e w5 ⟨rfl, hb5⟩
          have HB6 := Lib.hid (HB5.out.trans (hb5.mono (by omega)))
          clear hb5 HSE
          go_wp2_with fail
          refine bodyPost_ret (v := .tuple #[.string ⟨ed.toArray⟩, .int .i64 hd, .int .i64 (Lx.sameEnd (l.drop 0) l2 ((ed.length : Int) - (s.length : Int))), .int .i64 0, .int .i64 0]) ?_ rfl ⟨by rw [HX.out]; rfl, HB6.out⟩
          simp [results, Tryz.results28, go_sem]
        · by_cases hca : cp = ah
          · have HSE := sameEnd_c (l.drop ah) l2 (some ⟨g, 0, none⟩) o2 0 cp2 ((ed.length : Int) - (s.length : Int)) w4 (fun k t h => by rw [List.drop_eq_nil_of_le (by omega)] at h; simp at h) HSO5.out (by rw [HDR.out]; omega) (by omega) (by omega) (fun t ht => by have := HDF2.out t ht; omega)
            rw [HDR.out] at HSE
            have HSE := Lib.hid HSE
            clear HSP5 HSO5 HDF2
            go_wp2_with fail
            refine HSE.out.mono ?_
            rintro e w5 ⟨rfl, hb5⟩
            have HB6 := Lib.hid (HB5.out.trans (hb5.mono (by omega)))
            clear hb5 HSE
            go_wp2_with fail
            refine bodyPost_ret (v := .tuple #[.string ⟨ed.toArray⟩, .int .i64 hd, .int .i64 (Lx.sameEnd (l.drop ah) l2 ((ed.length : Int) - (s.length : Int))), .int .i64 0, .int .i64 0]) ?_ rfl ⟨by rw [HX.out]; rfl, HB6.out⟩
            simp [results, Tryz.results28, go_sem]
          · have HSE := sameEnd_c (l.drop ah) l2 (some ⟨g, ah * 6, none⟩) o2 (cp - ah) cp2 ((ed.length : Int) - (s.length : Int)) w4 (spAtO_drop HSP5.out ah) HSO5.out (by rw [HDR.out]; omega) (by omega) (by omega) (fun t ht => by have := HDF2.out t ht; omega)
            rw [HDR.out] at HSE
            have HSE := Lib.hid HSE
            clear HSP5 HSO5 HDF2
            go_wp2_with fail
            refine HSE.out.mono ?_
            rintro e w5 ⟨rfl, hb5⟩
            have HB6 := Lib.hid (HB5.out.trans (hb5.mono (by omega)))
            clear hb5 HSE
            go_wp2_with fail
            refine bodyPost_ret (v := .tuple #[.string ⟨ed.toArray⟩, .int .i64 hd, .int .i64 (Lx.sameEnd (l.drop ah) l2 ((ed.length : Int) - (s.length : Int))), .int .i64 0, .int .i64 0]) ?_ rfl ⟨by rw [HX.out]; rfl, HB6.out⟩
            simp [results, Tryz.results28, go_sem]
      · have dc : ((c2 : Int) != 0) = true := bne_iff_ne.2 (by omega)
        rw [if_pos hc2] at HX
        clear hc2
        go_wp2_with fail
        refine bodyPost_ret (v := .tuple #[.string ⟨#[]⟩, .int .i64 0, .int .i64 0, .int .i64 c2, .int .i64 ix2]) ?_ rfl ⟨by rw [HX.out]; rfl, HB3.out⟩
        simp [results, Tryz.results28, go_sem]
    · have dc : ((c : Int) != 0) = true := bne_iff_ne.2 (by omega)
      rw [if_pos hc] at HX
      clear hc HE HED hok hdf
      go_enter Tryz.func28, Tryz.ntmps28
      go_wp2_with fail
      refine HD.out.mono ?_
      rintro e w1 ⟨v, rfl, hb, -⟩
      have HB2 := Lib.hid (HB1.out.trans (hb.mono (by rw [HZ1.out]; omega)))
      clear hb HD
      go_wp2_with fail
      refine bodyPost_ret (v := .tuple #[.string ⟨#[]⟩, .int .i64 0, .int .i64 0, .int .i64 c, .int .i64 ix]) ?_ rfl ⟨by rw [HX.out]; rfl, HB2.out⟩
      simp [results, Tryz.results28, go_sem]
end Go.Proofs.YtcjcbhdildcceaaGreatDoor
