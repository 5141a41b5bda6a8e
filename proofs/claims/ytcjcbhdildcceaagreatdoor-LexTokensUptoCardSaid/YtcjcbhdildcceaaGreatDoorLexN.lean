/- Contract of the reader's method next of package lex: the token that begins here, or a panic that tells what is wrong. Conditions: those in the statement. -/
import Derived.Test.YtcjcbhdildcceaaGreatDoorLexG
import Derived.Test.YtcjcbhdildcceaaGreatDoorLexM
import Derived.Test.YtcjcbhdildcceaaGreatDoorLexR
import Derived.Test.YtcjcbhdildcceaaGreatDoorLexT
namespace Go.Proofs.YtcjcbhdildcceaaGreatDoor
open Go.RowKit

def Lx.Sp.val (t : Lx.Sp) : Value := .agg #[.int .i64 t.kind, .string ⟨t.text.toArray⟩, .int .i64 t.line, .int .i64 t.col, .int .i64 t.frm, .int .i64 t.to]
/-- What the next token leaves. -/
def nextLeft (r : Except Nat Lx.Sp) (ix B T cap : Nat) (s : List UInt8) (last : Lx.Sp) (w : World) (e : Ending) (w' : World) : Prop :=
  match r with
  | .error c => e = panicE c ix ∧ w.grownBy w' (some B)
  | .ok t => e = .returned t.val ∧ Rdr B T cap s (Lx.placeAt s t.to) last w' ∧ w.grownBy w' (some B) ∧ t.to ≤ s.length ∧ ix < t.to

def zeroSpan : Obj := .cells #[.int .i64 0, .string ⟨#[]⟩, .int .i64 0, .int .i64 0, .int .i64 0, .int .i64 0] 53
/-- The world within next: the reader; the result's variable; the token's variable, the next block, and what it holds. -/
structure NS (B T cap : Nat) (s : List UInt8) (p : Lx.Place) (last : Lx.Sp) (m : Int) (w W : World) (cs : List Value) : Prop where
  rd : Rdr B T cap s p last W
  z0 : W.heap[w.heap.size]? = some zeroSpan
  z1 : W.heap[w.heap.size + 1]? = some (.cells cs.toArray 53)
  gr : w.grownBy W (some B)
  sz : w.heap.size + 2 ≤ W.heap.size
  lt : B < w.heap.size
  gm : W.cell? ⟨0, 0, none⟩ = some (.int .i64 m)

theorem NS.below {B T cap : Nat} {s : List UInt8} {p : Lx.Place} {last : Lx.Sp} {m : Int} {w W W' : World} {cs : List Value} (h : NS B T cap s p last m w W cs) (hb : Below W.heap.size W W') : NS B T cap s p last m w W' cs where
  rd := h.rd.below hb
  z0 := (hb.block _ (by have := h.sz; omega)).trans h.z0
  z1 := (hb.block _ (by have := h.sz; omega)).trans h.z1
  gr := grown_trans h.gr (grown_of_below hb _)
  sz := Nat.le_trans h.sz hb.size
  lt := h.lt
  gm := (hb.cell (World.block_lt_of_cell? _ _ h.gm)).trans h.gm
theorem NS.drewN {B T cap : Nat} {s : List UInt8} {p : Lx.Place} {last : Lx.Sp} {m : Int} {w W : World} {cs : List Value} (h : NS B T cap s p last m w W cs) (q : Nat) : NS B T cap s p last m w (W.drewN q) cs :=
  h.below (below_dn (Below.refl _ _) q)
theorem NS.grown {B T cap : Nat} {s : List UInt8} {p p' : Lx.Place} {last : Lx.Sp} {m : Int} {w W W' : World} {cs : List Value} (h : NS B T cap s p last m w W cs) (hg : W.grownBy W' (some B)) (hr : Rdr B T cap s p' last W') (hgB : 0 ≠ B) : NS B T cap s p' last m w W' cs where
  rd := hr
  z0 := (hg.block _ (by have := h.sz; omega) (fun e => by have := h.lt; have := Option.some.inj e; omega)).trans h.z0
  z1 := (hg.block _ (by have := h.sz; omega) (fun e => by have := h.lt; have := Option.some.inj e; omega)).trans h.z1
  gr := grown_trans h.gr hg
  sz := Nat.le_trans h.sz hg.size
  lt := h.lt
  gm := grown_cell hg h.gm hgB
theorem NS.cell {B T cap : Nat} {s : List UInt8} {p : Lx.Place} {last : Lx.Sp} {m : Int} {w W : World} {cs : List Value} (h : NS B T cap s p last m w W cs) (k : Nat) : W.cell? ⟨w.heap.size + 1, k, none⟩ = cs[k]? := by
  rw [Lib.cell_of_heap h.z1]; simp
theorem NS.frozen {B T cap : Nat} {s : List UInt8} {p : Lx.Place} {last : Lx.Sp} {m : Int} {w W : World} {cs : List Value} (h : NS B T cap s p last m w W cs) (k : Nat) : W.frozen? ⟨w.heap.size + 1, k, none⟩ = false := Lib.frozen_of_heap h.z1 k
theorem heap_two_fst (w : World) (o o' : Obj) : ((w.alloc o).alloc o').heap[w.heap.size]? = some o := by
  show ((w.heap.push o).push o')[w.heap.size]? = _
  rw [Array.getElem?_push, if_neg (by simp), Array.getElem?_push, if_pos rfl]
theorem heap_two_snd (w : World) (o o' : Obj) : ((w.alloc o).alloc o').heap[w.heap.size + 1]? = some o' := by
  show ((w.heap.push o).push o')[w.heap.size + 1]? = _
  rw [Array.getElem?_push, if_pos (by simp)]
theorem heap_set (W : World) (b k : Nat) (v : Value) (cs : List Value) (t : TypeId) (h : W.heap[b]? = some (.cells cs.toArray t)) : (W.setCell ⟨b, k, none⟩ v).heap[b]? = some (.cells (cs.set k v).toArray t) := by
  simp [World.setCell, Array.getElem?_modify, h]
theorem Rdr.setOther {B T cap : Nat} {s : List UInt8} {p : Lx.Place} {last : Lx.Sp} {W : World} (h : Rdr B T cap s p last W) (b k : Nat) (v : Value) (hB : b ≠ B) (hT : b ≠ T) : Rdr B T cap s p last (W.setCell ⟨b, k, none⟩ v) := by
  have c : ∀ {o x}, W.cell? ⟨B, o, none⟩ = some x → (W.setCell ⟨b, k, none⟩ v).cell? ⟨B, o, none⟩ = some x := fun e => (World.cell?_setCell_other _ _ _ _ (fun e => hB (by injection e))).trans e
  obtain ⟨k0, k1, k2, k3, k4, k5, k6⟩ := h.ks
  exact { ks := ⟨c k0, c k1, c k2, c k3, c k4, c k5, c k6⟩, ix := c h.ix, ln := c h.ln, bg := c h.bg, tx := c h.tx, lk := c h.lk, lt := c h.lt, ll := c h.ll, lc := c h.lc, lf := c h.lf, lto := c h.lto,
          fz := fun o => (World.frozen?_setCell _ _ _ _).trans (h.fz o),
          tc := fun j hj => (World.cell?_setCell_other _ _ _ _ (fun e => hT (by injection e))).trans (h.tc j hj),
          ne := h.ne, small := h.small, cap_le := h.cap_le, inside := h.inside, pat := h.pat }
theorem Rdr.T_lt {B T cap : Nat} {s : List UInt8} {p : Lx.Place} {last : Lx.Sp} {W : World} (h : Rdr B T cap s p last W) (hs : 0 < s.length) : T < W.heap.size := World.block_lt_of_cell? _ _ (h.tc 0 hs)
theorem NS.set {B T cap : Nat} {s : List UInt8} {p : Lx.Place} {last : Lx.Sp} {m : Int} {w W : World} {cs : List Value} (h : NS B T cap s p last m w W cs) (k : Nat) (v : Value) (hT : T < w.heap.size) (hg : 0 < w.heap.size) :
    NS B T cap s p last m w (W.setCell ⟨w.heap.size + 1, k, none⟩ v) (cs.set k v) where
  rd := h.rd.setOther _ _ _ (by have := h.lt; omega) (by omega)
  z0 := (Below.heap_setCell _ _ _ _ (by show w.heap.size ≠ w.heap.size + 1; omega)).trans h.z0
  z1 := heap_set _ _ _ _ _ _ h.z1
  gr := ⟨h.gr.os, h.gr.tape, h.gr.output, by simpa [World.setCell] using h.gr.size, fun k hk hr => (Below.heap_setCell _ _ _ _ (by show k ≠ w.heap.size + 1; omega)).trans (h.gr.block k hk hr)⟩
  sz := by simpa [World.setCell] using h.sz
  lt := h.lt
  gm := (World.cell?_setCell_other _ _ _ _ (fun e => by injection e; omega)).trans h.gm

/-- What of it is left when the result is written. -/
structure NO (B T cap : Nat) (s : List UInt8) (p : Lx.Place) (last : Lx.Sp) (w W : World) : Prop where
  rd : Rdr B T cap s p last W
  gr : w.grownBy W (some B)
  lt : B < w.heap.size
theorem NS.toOut {B T cap : Nat} {s : List UInt8} {p : Lx.Place} {last : Lx.Sp} {m : Int} {w W : World} {cs : List Value} (h : NS B T cap s p last m w W cs) : NO B T cap s p last w W := ⟨h.rd, h.gr, h.lt⟩
theorem NO.set {B T cap : Nat} {s : List UInt8} {p : Lx.Place} {last : Lx.Sp} {w W : World} (h : NO B T cap s p last w W) (k : Nat) (v : Value) (hT : T < w.heap.size) : NO B T cap s p last w (W.setCell ⟨w.heap.size, k, none⟩ v) where
  rd := h.rd.setOther _ _ _ (by have := h.lt; omega) (by omega)
  gr := ⟨h.gr.os, h.gr.tape, h.gr.output, by simpa [World.setCell] using h.gr.size, fun k hk hr => (Below.heap_setCell _ _ _ _ (by show k ≠ w.heap.size; omega)).trans (h.gr.block k hk hr)⟩
  lt := h.lt

set_option maxHeartbeats 4000000 in
set_option maxRecDepth 100000 in
theorem next_c (B T cap : Nat) (s : List UInt8) (p : Lx.Place) (last : Lx.Sp) (m : Int) (w : World) (h : Rdr B T cap s p last w) (hin : p.ix < s.length)
    (hm : w.cell? ⟨0, 0, none⟩ = some (.int .i64 m)) (hgB : 0 ≠ B) :
    Calls Tryz.prog 80 #[.pointer (some ⟨B, 0, none⟩)] w (nextLeft (Lx.next s p.ix last) p.ix B T cap s last w) := by
  have hB : B < w.heap.size := World.block_lt_of_cell? _ _ h.ix
  have hT : T < w.heap.size := h.T_lt (by omega)
  have hg0 : 0 < w.heap.size := World.block_lt_of_cell? _ _ hm
  have c0a : ∀ o : Obj, (w.alloc o).cell? ⟨B, 0, none⟩ = some (.int .i64 p.ix) := fun o => (World.cell?_alloc_past _ _ _ hB).trans h.ix
  have n0 : NS B T cap s p last m w ((w.alloc zeroSpan).alloc (.cells #[.int .i64 0, .string ⟨#[]⟩, .int .i64 0, .int .i64 0, .int .i64 p.ix, .int .i64 0] 53)) [.int .i64 0, .string ⟨#[]⟩, .int .i64 0, .int .i64 0, .int .i64 p.ix, .int .i64 0] := by
    have hb : Below w.heap.size w ((w.alloc zeroSpan).alloc (.cells #[.int .i64 0, .string ⟨#[]⟩, .int .i64 0, .int .i64 0, .int .i64 p.ix, .int .i64 0] 53)) := ((Below.refl _ w).alloc (Nat.le_refl _) _).alloc (by simp) _
    exact { rd := h.below hb, z0 := heap_two_fst _ _ _, z1 := heap_two_snd _ _ _,
            gr := grown_of_below hb _, sz := by simp, lt := hB, gm := (hb.cell hg0).trans hm }
  have hix := h.ix
  have HP := Lib.hid h.pat
  have HN0 := Lib.hid n0
  have HG := Lib.hid hgB
  have hsm := h.small
  have hln := h.ln_le
  have hbg := h.bg_le
  clear h hm n0 hgB
  go_enter Tryz.func80, Tryz.ntmps80
  go_wp2_with fail
  refine (lineAndCol_c B p _ HN0.out.rd.ix HN0.out.rd.ln HN0.out.rd.bg (by omega) (by omega) hbg).mono ?_
  rintro e w' ⟨rfl, q, rfl⟩
  have n1 := HN0.out.drewN q
  clear HN0 c0a
  have n2 := (n1.set 2 (.int .i64 ((p.ln : Int) + 1)) hT hg0).set 3 (.int .i64 (((p.ix - p.bg : Nat) : Int) + 1)) hT hg0
  have d2 := n1.cell 2
  have d3 := n1.cell 3
  have f2 := n1.frozen 2
  have f3 := n1.frozen 3
  simp only [List.getElem?_cons_succ, List.getElem?_cons_zero] at d2 d3
  simp only [List.set_cons_succ, List.set_cons_zero] at n2
  have HN2 := Lib.hid n2
  clear n1 n2
  have HM := Lib.hid (measure_c B T cap s p last _ HN2.out.rd hin)
  cases hM : Lx.measure s p.ix last.kind last.to with
  | bad ec =>
    have hmc := HM.out
    rw [hM] at hmc
    simp only [Lx.M.ends, panicE] at hmc
    have HM := Lib.hid hmc
    have HX := Lib.hid (show Lx.next s p.ix last = .error ec by unfold Lx.next; rw [hM])
    clear hmc hM
    go_wp2_with fail
    refine HM.out.mono ?_
    rintro e w2 ⟨rfl, hbw⟩
    refine ⟨rfl, ?_⟩
    rw [HX.out]
    exact ⟨rfl, (HN2.out.below hbw).gr⟩
  | ok k n =>
    have hmc := HM.out
    rw [hM] at hmc
    simp only [Lx.M.ends] at hmc
    have HM := Lib.hid hmc
    obtain ⟨hn1, hn2, hn3⟩ := measure_len s p.ix _ _ k n hin hM
    have HX := Lib.hid (show Lx.next s p.ix last = .ok ⟨k, if k = 6 then Lx.undbl ((((s.drop p.ix).take n).drop 1).take (n - 2)) else (s.drop p.ix).take n, (Lx.placeAt s p.ix).ln + 1, p.ix - (Lx.placeAt s p.ix).bg + 1, p.ix, p.ix + n⟩ by unfold Lx.next; rw [hM])
    clear hmc hM
    go_wp2_with fail
    clear d2 d3 f2 f3
    refine HM.out.mono ?_
    rintro e w2 ⟨rfl, hbw⟩
    have HN3 := Lib.hid (HN2.out.below hbw)
    clear HN2 hbw
    go_wp2_with fail
    refine (rest_rdr B T cap s p last _ HN3.out.rd).mono ?_
    rintro e w' ⟨rfl, q2, rfl⟩
    have HN4 := Lib.hid (HN3.out.drewN q2)
    clear HN3
    generalize w2.drewN q2 = w3 at *
    have hcp := HN4.out.rd.cap_le
    have hni : (n : Int) ≤ ((cap - p.ix : Nat) : Int) := by omega
    go_wp2_with fail
    refine (pass_rdr B T cap s p last w3 n HN4.out.rd hn2).mono ?_
    rintro e w4 ⟨rfl, hrd, hgr⟩
    have HN5 := Lib.hid (HN4.out.grown hgr hrd HG.out)
    clear HN4 hrd hgr
    have hpx : p.pass ((s.drop p.ix).take n) = Lx.placeAt s (p.ix + n) := by
      conv => lhs; rw [HP.out]
      rw [placeAt_ix _ _ (by omega), placeAt_pass]
    rw [hpx] at HN5
    have c5 : w4.cell? ⟨B, 0, none⟩ = some (.int .i64 ((p.ix + n : Nat) : Int)) := by
      have := HN5.out.rd.ix
      rw [placeAt_ix _ _ hn2] at this
      exact this
    have hconv : ∀ W : World, (∀ j, j < n → W.cell? ⟨T, restO cap p.ix + j, none⟩ = some (.int .u8 (((s.drop p.ix).take n)[j]?.getD 0).toNat)) →
        (convert 64 9 (.slice (some ⟨T, restO cap p.ix, none⟩) n (cap - p.ix))).run Tryz.prog W = .ok (.string ⟨((s.drop p.ix).take n).toArray⟩) W := by
      intro W hW
      have hl : ((s.drop p.ix).take n).length = n := by rw [List.length_take, List.length_drop]; omega
      have := run_convert_bytes_back (P := Tryz.prog) W 64 9 5 ⟨T, restO cap p.ix, none⟩ (cap - p.ix) ((s.drop p.ix).take n) Tryz.underlying64 Tryz.underlying5 Tryz.underlying9 ?_
      · rw [hl] at this; exact this
      · intro j hj
        rw [show (⟨T, restO cap p.ix, none⟩ : Addr).add j = ⟨T, restO cap p.ix + j, none⟩ from by unfold Addr.add; split <;> simp_all]
        rw [hW j (by omega), List.getElem?_eq_getElem hj]; rfl
    have hcells : ∀ j, j < n → w4.cell? ⟨T, restO cap p.ix + j, none⟩ = some (.int .u8 (((s.drop p.ix).take n)[j]?.getD 0).toNat) := fun j hj => by
      rw [rest_cells HN5.out.rd.tc hcp j (by rw [List.length_drop]; omega), List.getElem?_take, if_pos hj]
    have hne : ∀ (W : World) (k j : Nat) (v : Value), (W.setCell ⟨w.heap.size + 1, k, none⟩ v).cell? ⟨T, restO cap p.ix + j, none⟩ = W.cell? ⟨T, restO cap p.ix + j, none⟩ :=
      fun W k j v => World.cell?_setCell_other _ _ _ _ (fun e => by injection e; omega)
    have hcv0 := hconv w4.drew (fun j hj => by rw [World.cell?_drew]; exact hcells j hj)
    have hcv1 := hconv (w4.setCell ⟨w.heap.size + 1, 0, none⟩ (.int .i64 k)).drew (fun j hj => by rw [World.cell?_drew, hne]; exact hcells j hj)
    have hcv2 := hconv (w4.setCell ⟨w.heap.size + 1, 5, none⟩ (.int .i64 ((p.ix : Int) + (n : Int)))).drew (fun j hj => by rw [World.cell?_drew, hne]; exact hcells j hj)
    have hcv3 := hconv ((w4.setCell ⟨w.heap.size + 1, 0, none⟩ (.int .i64 k)).setCell ⟨w.heap.size + 1, 5, none⟩ (.int .i64 ((p.ix : Int) + (n : Int)))).drew (fun j hj => by rw [World.cell?_drew, hne, hne]; exact hcells j hj)
    have hcv4 := hconv ((w4.setCell ⟨w.heap.size + 1, 5, none⟩ (.int .i64 ((p.ix : Int) + (n : Int)))).setCell ⟨w.heap.size + 1, 0, none⟩ (.int .i64 k)).drew (fun j hj => by rw [World.cell?_drew, hne, hne]; exact hcells j hj)
    clear hcells hne
    have d0 := HN5.out.cell 0
    have d1 := HN5.out.cell 1
    have d5 := HN5.out.cell 5
    have f0 := HN5.out.frozen 0
    have f1 := HN5.out.frozen 1
    have f5 := HN5.out.frozen 5
    simp only [List.getElem?_cons_succ, List.getElem?_cons_zero] at d0 d1 d5
    clear hconv hpx
    go_wp2_with fail
    go_region
    have n6 := (((HN5.out.set 0 (.int .i64 k) hT hg0).set 1 (.string ⟨((s.drop p.ix).take n).toArray⟩) hT hg0).set 5 (.int .i64 ((p.ix : Int) + (n : Int))) hT hg0).drewN 1
    simp only [List.set_cons_succ, List.set_cons_zero] at n6
    have HN6 := Lib.hid n6
    clear n6 HN5 d0 d1 d5 f0 f1 f5 hcv0 hcv1 hcv2 hcv3 hcv4 c5
    change Exit.then _ _ _ _ (World.drewN (((w4.setCell _ _).setCell _ _).setCell _ _) 1)
    generalize (World.drewN (((w4.setCell _ _).setCell _ _).setCell _ _) 1) = w5 at *
    have d0 := HN6.out.cell 0
    have d1 := HN6.out.cell 1
    have d2 := HN6.out.cell 2
    have d3 := HN6.out.cell 3
    have d4 := HN6.out.cell 4
    have d5 := HN6.out.cell 5
    have f0 := HN6.out.frozen 0
    have f1 := HN6.out.frozen 1
    simp only [List.getElem?_cons_succ, List.getElem?_cons_zero] at d0 d1 d2 d3 d4 d5
    have e0 : w5.cell? ⟨w.heap.size, 0, none⟩ = some (.int .i64 0) := (Lib.cell_of_heap HN6.out.z0 0).trans rfl
    have e1 : w5.cell? ⟨w.heap.size, 1, none⟩ = some (.string ⟨#[]⟩) := (Lib.cell_of_heap HN6.out.z0 1).trans rfl
    have e2 : w5.cell? ⟨w.heap.size, 2, none⟩ = some (.int .i64 0) := (Lib.cell_of_heap HN6.out.z0 2).trans rfl
    have e3 : w5.cell? ⟨w.heap.size, 3, none⟩ = some (.int .i64 0) := (Lib.cell_of_heap HN6.out.z0 3).trans rfl
    have e4 : w5.cell? ⟨w.heap.size, 4, none⟩ = some (.int .i64 0) := (Lib.cell_of_heap HN6.out.z0 4).trans rfl
    have e5 : w5.cell? ⟨w.heap.size, 5, none⟩ = some (.int .i64 0) := (Lib.cell_of_heap HN6.out.z0 5).trans rfl
    have g0 : ∀ j, w5.frozen? ⟨w.heap.size, j, none⟩ = false := fun j => Lib.frozen_of_heap HN6.out.z0 j
    by_cases hk : k = 6
    · have HX' := HX
      rw [if_pos hk] at HX'
      have hn4 := hn3 hk
      subst hk
      have hl : ((s.drop p.ix).take n).length = n := by rw [List.length_take, List.length_drop]; omega
      have f1 := HN6.out.frozen 1
      have hw1 : IntKind.i64.wrap ((n : Int) - 1) = (n : Int) - 1 := IntWalk.i64_in _ (by omega)
      have ha : (⟨((s.drop p.ix).take n).toArray⟩ : ByteArray).extract 1 (n - 1) = ⟨((((s.drop p.ix).take n).drop 1).take (n - 2)).toArray⟩ := by
        apply ByteArray.ext
        rw [ByteArray.data_extract]
        show (((s.drop p.ix).take n).toArray).extract 1 (n - 1) = _
        rw [List.extract_toArray, List.extract_eq_take_drop, show n - 1 - 1 = n - 2 from by omega]
      have hl2 : ((((s.drop p.ix).take n).drop 1).take (n - 2)).length < 4294967281 := by rw [List.length_take]; omega
      have hl := Lib.hid hl
      have hl2 := Lib.hid hl2
      have HA := Lib.hid ha
      clear ha
      go_wp2_with fail
      rw [HA.out]
      refine (replaceUndbl_c _ m w5 hl2.out HN6.out.gm).mono ?_
      rintro e w6 ⟨rfl, hb6⟩
      generalize Lx.undbl ((((s.drop p.ix).take n).drop 1).take (n - 2)) = tx at *
      have HN7 := Lib.hid (HN6.out.below hb6)
      clear HN6 hb6 d0 d1 d2 d3 d4 d5 e0 e1 e2 e3 e4 e5 g0 f0 f1
      have d0 := HN7.out.cell 0
      have d1 := HN7.out.cell 1
      have d2 := HN7.out.cell 2
      have d3 := HN7.out.cell 3
      have d4 := HN7.out.cell 4
      have d5 := HN7.out.cell 5
      have f1 := HN7.out.frozen 1
      simp only [List.getElem?_cons_succ, List.getElem?_cons_zero] at d0 d1 d2 d3 d4 d5
      have e0 : w6.cell? ⟨w.heap.size, 0, none⟩ = some (.int .i64 0) := (Lib.cell_of_heap HN7.out.z0 0).trans rfl
      have e1 : w6.cell? ⟨w.heap.size, 1, none⟩ = some (.string ⟨#[]⟩) := (Lib.cell_of_heap HN7.out.z0 1).trans rfl
      have e2 : w6.cell? ⟨w.heap.size, 2, none⟩ = some (.int .i64 0) := (Lib.cell_of_heap HN7.out.z0 2).trans rfl
      have e3 : w6.cell? ⟨w.heap.size, 3, none⟩ = some (.int .i64 0) := (Lib.cell_of_heap HN7.out.z0 3).trans rfl
      have e4 : w6.cell? ⟨w.heap.size, 4, none⟩ = some (.int .i64 0) := (Lib.cell_of_heap HN7.out.z0 4).trans rfl
      have e5 : w6.cell? ⟨w.heap.size, 5, none⟩ = some (.int .i64 0) := (Lib.cell_of_heap HN7.out.z0 5).trans rfl
      have g0 : ∀ j, w6.frozen? ⟨w.heap.size, j, none⟩ = false := fun j => Lib.frozen_of_heap HN7.out.z0 j
      have o5 := (((((((HN7.out.set 1 (.string ⟨tx.toArray⟩) hT hg0).toOut.set 0 (.int .i64 6) hT).set 1 (.string ⟨tx.toArray⟩) hT).set 2 (.int .i64 ((p.ln : Int) + 1)) hT).set 3 (.int .i64 (((p.ix - p.bg : Nat) : Int) + 1)) hT).set 4 (.int .i64 (p.ix : Int)) hT).set 5 (.int .i64 ((p.ix : Int) + (n : Int))) hT)
      have o5 := Lib.hid o5
      go_wp2_with fail
      refine bodyPost_ret (v := .agg #[.int .i64 6, .string ⟨tx.toArray⟩, .int .i64 ((p.ln : Int) + 1), .int .i64 (((p.ix - p.bg : Nat) : Int) + 1), .int .i64 (p.ix : Int), .int .i64 ((p.ix : Int) + (n : Int))]) ?_ rfl ?_
      · simp [results, Tryz.results80, go_sem, e0, e1, e2, e3, e4, e5]
      · rw [HX'.out]
        refine ⟨?_, o5.out.rd, o5.out.gr, ?_, ?_⟩
        · rw [← HP.out]; rfl
        · exact hn2
        · show p.ix < p.ix + n
          omega
    · have HX' := HX
      rw [if_neg hk] at HX'
      go_wp2_with fail
      have o5 := ((((((HN6.out.toOut.set 0 (.int .i64 k) hT).set 1 (.string ⟨((s.drop p.ix).take n).toArray⟩) hT).set 2 (.int .i64 ((p.ln : Int) + 1)) hT).set 3 (.int .i64 (((p.ix - p.bg : Nat) : Int) + 1)) hT).set 4 (.int .i64 (p.ix : Int)) hT).set 5 (.int .i64 ((p.ix : Int) + (n : Int))) hT)
      refine bodyPost_ret (v := .agg #[.int .i64 k, .string ⟨((s.drop p.ix).take n).toArray⟩, .int .i64 ((p.ln : Int) + 1), .int .i64 (((p.ix - p.bg : Nat) : Int) + 1), .int .i64 (p.ix : Int), .int .i64 ((p.ix : Int) + (n : Int))]) ?_ rfl ?_
      · simp [results, Tryz.results80, go_sem, e0, e1, e2, e3, e4, e5]
      · rw [HX'.out]
        refine ⟨?_, o5.rd, o5.gr, ?_, ?_⟩
        · rw [← HP.out]; rfl
        · exact hn2
        · show p.ix < p.ix + n
          omega
end Go.Proofs.YtcjcbhdildcceaaGreatDoor
