import Derived.Test.YtcjcbhdildcceaaGreatDoorLexCk
namespace Go.Proofs.YtcjcbhdildcceaaGreatDoor
open Go.RowKit

/-- A slice's address, anywhere in its block, at which a list of spans lies. -/
def SpAtO (w : World) (o : Option Addr) (l : List Lx.Sp) : Prop :=
  ∀ k t, l[k]? = some t → ∃ g q, o = some ⟨g, q, none⟩ ∧ g < w.heap.size ∧ ∀ j, j < 6 → w.cell? ⟨g, q + k * 6 + j, none⟩ = t.cells[j]?
set_option maxHeartbeats 4000000 in
set_option maxRecDepth 100000 in
theorem sameEnd_c (a b : List Lx.Sp) (o o' : Option Addr) (c c' : Nat) (moved : Int) (w : World) (ha : SpAtO w o a) (hb : SpAtO w o' b) (hn : a.length ≤ 6000) (hn' : b.length ≤ 6000) (hm : -100000 ≤ moved ∧ moved ≤ 100000) (hfr : ∀ t ∈ a, t.frm ≤ 100000) :
    Calls Tryz.prog 55 #[.slice o a.length c, .slice o' b.length c', .int .i64 moved] w fun e w' => e = .returned (.int .i64 (Lx.sameEnd a b moved)) ∧ Below w.heap.size w w' := by
  have HA := Lib.hid ha
  have HB := Lib.hid hb
  clear ha hb
  go_enter Tryz.func55, Tryz.ntmps55
  go_wp2_with fail
  go_loopg [7] a.length (fun g i wr => ∃ k : Nat, k ≤ a.length ∧ k ≤ b.length ∧ i = .int .i64 k ∧ Hid (((a.reverse.zip b.reverse).take k).all (Lx.pairSame moved) = true) ∧ Hid (Below w.heap.size w wr) ∧ g = a.length - k)
  case atStart => exact ⟨0, Nat.zero_le _, Nat.zero_le _, rfl, Lib.hid (by simp), Lib.hid (Below.refl _ _), rfl⟩
  case round =>
    obtain ⟨k, hka, hkb, rfl, HK, HW, hg⟩ := hrel
    by_cases hE : k < a.length ∧ k < b.length
    · have dA : decide ((k : Int) < (a.length : Int)) = true := decide_eq_true (by omega)
      have dB : decide ((k : Int) < (b.length : Int)) = true := decide_eq_true (by omega)
      obtain ⟨ka, hka'⟩ : ∃ ka, a.length = ka + k + 1 := ⟨a.length - k - 1, by omega⟩
      obtain ⟨kb, hkb'⟩ : ∃ kb, b.length = kb + k + 1 := ⟨b.length - k - 1, by omega⟩
      obtain ⟨x, hx⟩ : ∃ x, a[ka]? = some x := ⟨_, List.getElem?_eq_getElem (by omega)⟩
      obtain ⟨y, hy⟩ : ∃ y, b[kb]? = some y := ⟨_, List.getElem?_eq_getElem (by omega)⟩
      obtain ⟨ga, qa, rfl, hga, hca⟩ := HA.out ka x hx
      obtain ⟨gb, qb, rfl, hgb, hcb⟩ := HB.out kb y hy
      replace hca : ∀ j, j < 6 → wr.cell? ⟨ga, qa + ka * 6 + j, none⟩ = x.cells[j]? := fun j hj => (HW.out.cell (p := ⟨ga, _, none⟩) hga).trans (hca j hj)
      replace hcb : ∀ j, j < 6 → wr.cell? ⟨gb, qb + kb * 6 + j, none⟩ = y.cells[j]? := fun j hj => (HW.out.cell (p := ⟨gb, _, none⟩) hgb).trans (hcb j hj)
      have x0 := hca 0 (by decide)
      have x1 := hca 1 (by decide)
      have x2 := hca 2 (by decide)
      have x3 := hca 3 (by decide)
      have x4 := hca 4 (by decide)
      have x5 := hca 5 (by decide)
      have y0 := hcb 0 (by decide)
      have y1 := hcb 1 (by decide)
      have y2 := hcb 2 (by decide)
      have y3 := hcb 3 (by decide)
      have y4 := hcb 4 (by decide)
      have y5 := hcb 5 (by decide)
      simp only [Lx.Sp.cells, List.getElem?_cons_succ, List.getElem?_cons_zero, Nat.add_zero] at x0 x1 x2 x3 x4 x5 y0 y1 y2 y3 y4 y5
      have s1 : IntKind.i64.wrap ((a.length : Int) - 1) = (a.length : Int) - 1 := IntWalk.i64_in _ (by omega)
      have s2 : IntKind.i64.wrap ((a.length : Int) - 1 - (k : Int)) = (ka : Int) := by rw [show (a.length : Int) - 1 - (k : Int) = (ka : Int) by omega]; exact IntWalk.i64_in _ (by omega)
      have s3 : IntKind.i64.wrap ((b.length : Int) - 1) = (b.length : Int) - 1 := IntWalk.i64_in _ (by omega)
      have s4 : IntKind.i64.wrap ((b.length : Int) - 1 - (k : Int)) = (kb : Int) := by rw [show (b.length : Int) - 1 - (k : Int) = (kb : Int) by omega]; exact IntWalk.i64_in _ (by omega)
      have hla : ka < a.length := by omega
      have hlb : kb < b.length := by omega
      have hwz := HW.out.size
      have hzp := zip_at hka' hkb' hx hy
      have HZ := Lib.hid hzp
      have hxf : x.frm ≤ 100000 := hfr x (List.mem_of_getElem? hx)
      have hsf : IntKind.i64.wrap ((x.frm : Int) + moved) = (x.frm : Int) + moved := IntWalk.i64_in _ (by omega)
      have hk1 : k + 1 ≤ a.length := by omega
      have hk2 : k + 1 ≤ b.length := by omega
      clear hca hcb hx hy hE hzp hfr hka' hkb'
      have hgar : ga < wr.heap.size := Nat.lt_of_lt_of_le hga hwz
      have hgbr : gb < wr.heap.size := Nat.lt_of_lt_of_le hgb hwz
      have x0a : ∀ ob : Obj, (wr.alloc ob).cell? ⟨ga, qa + ka * 6, none⟩ = some (.int .i64 x.kind) := fun ob => (World.cell?_alloc_past _ _ _ hgar).trans x0
      have x0b : ∀ ob oc : Obj, ((wr.alloc ob).alloc oc).cell? ⟨ga, qa + ka * 6, none⟩ = some (.int .i64 x.kind) := fun ob oc => (World.cell?_alloc_past _ _ _ (by rw [World.size_alloc]; show ga < _; omega)).trans (x0a ob)
      have x1a : ∀ ob : Obj, (wr.alloc ob).cell? ⟨ga, qa + ka * 6 + 1, none⟩ = some (.string ⟨x.text.toArray⟩) := fun ob => (World.cell?_alloc_past _ _ _ hgar).trans x1
      have x1b : ∀ ob oc : Obj, ((wr.alloc ob).alloc oc).cell? ⟨ga, qa + ka * 6 + 1, none⟩ = some (.string ⟨x.text.toArray⟩) := fun ob oc => (World.cell?_alloc_past _ _ _ (by rw [World.size_alloc]; show ga < _; omega)).trans (x1a ob)
      have x2a : ∀ ob : Obj, (wr.alloc ob).cell? ⟨ga, qa + ka * 6 + 2, none⟩ = some (.int .i64 x.line) := fun ob => (World.cell?_alloc_past _ _ _ hgar).trans x2
      have x2b : ∀ ob oc : Obj, ((wr.alloc ob).alloc oc).cell? ⟨ga, qa + ka * 6 + 2, none⟩ = some (.int .i64 x.line) := fun ob oc => (World.cell?_alloc_past _ _ _ (by rw [World.size_alloc]; show ga < _; omega)).trans (x2a ob)
      have x3a : ∀ ob : Obj, (wr.alloc ob).cell? ⟨ga, qa + ka * 6 + 3, none⟩ = some (.int .i64 x.col) := fun ob => (World.cell?_alloc_past _ _ _ hgar).trans x3
      have x3b : ∀ ob oc : Obj, ((wr.alloc ob).alloc oc).cell? ⟨ga, qa + ka * 6 + 3, none⟩ = some (.int .i64 x.col) := fun ob oc => (World.cell?_alloc_past _ _ _ (by rw [World.size_alloc]; show ga < _; omega)).trans (x3a ob)
      have x4a : ∀ ob : Obj, (wr.alloc ob).cell? ⟨ga, qa + ka * 6 + 4, none⟩ = some (.int .i64 x.frm) := fun ob => (World.cell?_alloc_past _ _ _ hgar).trans x4
      have x4b : ∀ ob oc : Obj, ((wr.alloc ob).alloc oc).cell? ⟨ga, qa + ka * 6 + 4, none⟩ = some (.int .i64 x.frm) := fun ob oc => (World.cell?_alloc_past _ _ _ (by rw [World.size_alloc]; show ga < _; omega)).trans (x4a ob)
      have x5a : ∀ ob : Obj, (wr.alloc ob).cell? ⟨ga, qa + ka * 6 + 5, none⟩ = some (.int .i64 x.to) := fun ob => (World.cell?_alloc_past _ _ _ hgar).trans x5
      have x5b : ∀ ob oc : Obj, ((wr.alloc ob).alloc oc).cell? ⟨ga, qa + ka * 6 + 5, none⟩ = some (.int .i64 x.to) := fun ob oc => (World.cell?_alloc_past _ _ _ (by rw [World.size_alloc]; show ga < _; omega)).trans (x5a ob)
      have y0a : ∀ ob : Obj, (wr.alloc ob).cell? ⟨gb, qb + kb * 6, none⟩ = some (.int .i64 y.kind) := fun ob => (World.cell?_alloc_past _ _ _ hgbr).trans y0
      have y0b : ∀ ob oc : Obj, ((wr.alloc ob).alloc oc).cell? ⟨gb, qb + kb * 6, none⟩ = some (.int .i64 y.kind) := fun ob oc => (World.cell?_alloc_past _ _ _ (by rw [World.size_alloc]; show gb < _; omega)).trans (y0a ob)
      have y1a : ∀ ob : Obj, (wr.alloc ob).cell? ⟨gb, qb + kb * 6 + 1, none⟩ = some (.string ⟨y.text.toArray⟩) := fun ob => (World.cell?_alloc_past _ _ _ hgbr).trans y1
      have y1b : ∀ ob oc : Obj, ((wr.alloc ob).alloc oc).cell? ⟨gb, qb + kb * 6 + 1, none⟩ = some (.string ⟨y.text.toArray⟩) := fun ob oc => (World.cell?_alloc_past _ _ _ (by rw [World.size_alloc]; show gb < _; omega)).trans (y1a ob)
      have y2a : ∀ ob : Obj, (wr.alloc ob).cell? ⟨gb, qb + kb * 6 + 2, none⟩ = some (.int .i64 y.line) := fun ob => (World.cell?_alloc_past _ _ _ hgbr).trans y2
      have y2b : ∀ ob oc : Obj, ((wr.alloc ob).alloc oc).cell? ⟨gb, qb + kb * 6 + 2, none⟩ = some (.int .i64 y.line) := fun ob oc => (World.cell?_alloc_past _ _ _ (by rw [World.size_alloc]; show gb < _; omega)).trans (y2a ob)
      have y3a : ∀ ob : Obj, (wr.alloc ob).cell? ⟨gb, qb + kb * 6 + 3, none⟩ = some (.int .i64 y.col) := fun ob => (World.cell?_alloc_past _ _ _ hgbr).trans y3
      have y3b : ∀ ob oc : Obj, ((wr.alloc ob).alloc oc).cell? ⟨gb, qb + kb * 6 + 3, none⟩ = some (.int .i64 y.col) := fun ob oc => (World.cell?_alloc_past _ _ _ (by rw [World.size_alloc]; show gb < _; omega)).trans (y3a ob)
      have y4a : ∀ ob : Obj, (wr.alloc ob).cell? ⟨gb, qb + kb * 6 + 4, none⟩ = some (.int .i64 y.frm) := fun ob => (World.cell?_alloc_past _ _ _ hgbr).trans y4
      have y4b : ∀ ob oc : Obj, ((wr.alloc ob).alloc oc).cell? ⟨gb, qb + kb * 6 + 4, none⟩ = some (.int .i64 y.frm) := fun ob oc => (World.cell?_alloc_past _ _ _ (by rw [World.size_alloc]; show gb < _; omega)).trans (y4a ob)
      have y5a : ∀ ob : Obj, (wr.alloc ob).cell? ⟨gb, qb + kb * 6 + 5, none⟩ = some (.int .i64 y.to) := fun ob => (World.cell?_alloc_past _ _ _ hgbr).trans y5
      have y5b : ∀ ob oc : Obj, ((wr.alloc ob).alloc oc).cell? ⟨gb, qb + kb * 6 + 5, none⟩ = some (.int .i64 y.to) := fun ob oc => (World.cell?_alloc_past _ _ _ (by rw [World.size_alloc]; show gb < _; omega)).trans (y5a ob)
      go_wp2_with fail
      go_region
      · have hX : (((wr.alloc (.cells #[.int .i64 x.kind, .string ⟨x.text.toArray⟩, .int .i64 x.line, .int .i64 x.col, .int .i64 x.frm, .int .i64 x.to] 53)).alloc (.cells #[.int .i64 y.kind, .string ⟨y.text.toArray⟩, .int .i64 y.line, .int .i64 y.col, .int .i64 y.frm, .int .i64 y.to] 53)).drew).heap[wr.heap.size]? = some (.cells #[.int .i64 x.kind, .string ⟨x.text.toArray⟩, .int .i64 x.line, .int .i64 x.col, .int .i64 x.frm, .int .i64 x.to] 53) := heap_two_fst wr _ _
        have hY : (((wr.alloc (.cells #[.int .i64 x.kind, .string ⟨x.text.toArray⟩, .int .i64 x.line, .int .i64 x.col, .int .i64 x.frm, .int .i64 x.to] 53)).alloc (.cells #[.int .i64 y.kind, .string ⟨y.text.toArray⟩, .int .i64 y.line, .int .i64 y.col, .int .i64 y.frm, .int .i64 y.to] 53)).drew).heap[wr.heap.size + 1]? = some (.cells #[.int .i64 y.kind, .string ⟨y.text.toArray⟩, .int .i64 y.line, .int .i64 y.col, .int .i64 y.frm, .int .i64 y.to] 53) := heap_two_snd wr _ _
        have hbW : Below wr.heap.size wr (((wr.alloc (.cells #[.int .i64 x.kind, .string ⟨x.text.toArray⟩, .int .i64 x.line, .int .i64 x.col, .int .i64 x.frm, .int .i64 x.to] 53)).alloc (.cells #[.int .i64 y.kind, .string ⟨y.text.toArray⟩, .int .i64 y.line, .int .i64 y.col, .int .i64 y.frm, .int .i64 y.to] 53)).drew) := below_dn (((Below.refl _ wr).alloc (Nat.le_refl _) _).alloc (by simp) _) 1
        generalize (((wr.alloc (.cells #[.int .i64 x.kind, .string ⟨x.text.toArray⟩, .int .i64 x.line, .int .i64 x.col, .int .i64 x.frm, .int .i64 x.to] 53)).alloc (.cells #[.int .i64 y.kind, .string ⟨y.text.toArray⟩, .int .i64 y.line, .int .i64 y.col, .int .i64 y.frm, .int .i64 y.to] 53)).drew) = w3 at *
        have p0 : w3.cell? ⟨wr.heap.size, 0, none⟩ = some (.int .i64 x.kind) := (Lib.cell_of_heap hX 0).trans rfl
        have p1 : w3.cell? ⟨wr.heap.size, 1, none⟩ = some (.string ⟨x.text.toArray⟩) := (Lib.cell_of_heap hX 1).trans rfl
        have p2 : w3.cell? ⟨wr.heap.size, 2, none⟩ = some (.int .i64 x.line) := (Lib.cell_of_heap hX 2).trans rfl
        have p3 : w3.cell? ⟨wr.heap.size, 3, none⟩ = some (.int .i64 x.col) := (Lib.cell_of_heap hX 3).trans rfl
        have p4 : w3.cell? ⟨wr.heap.size, 4, none⟩ = some (.int .i64 x.frm) := (Lib.cell_of_heap hX 4).trans rfl
        have p5 : w3.cell? ⟨wr.heap.size, 5, none⟩ = some (.int .i64 x.to) := (Lib.cell_of_heap hX 5).trans rfl
        have r0 : w3.cell? ⟨wr.heap.size + 1, 0, none⟩ = some (.int .i64 y.kind) := (Lib.cell_of_heap hY 0).trans rfl
        have r1 : w3.cell? ⟨wr.heap.size + 1, 1, none⟩ = some (.string ⟨y.text.toArray⟩) := (Lib.cell_of_heap hY 1).trans rfl
        have r2 : w3.cell? ⟨wr.heap.size + 1, 2, none⟩ = some (.int .i64 y.line) := (Lib.cell_of_heap hY 2).trans rfl
        have r3 : w3.cell? ⟨wr.heap.size + 1, 3, none⟩ = some (.int .i64 y.col) := (Lib.cell_of_heap hY 3).trans rfl
        have r4 : w3.cell? ⟨wr.heap.size + 1, 4, none⟩ = some (.int .i64 y.frm) := (Lib.cell_of_heap hY 4).trans rfl
        have r5 : w3.cell? ⟨wr.heap.size + 1, 5, none⟩ = some (.int .i64 y.to) := (Lib.cell_of_heap hY 5).trans rfl
        have HB3 := Lib.hid (HW.out.trans (hbW.mono hwz))
        have hXl : wr.heap.size < w3.heap.size := (Array.getElem?_eq_some_iff.1 hX).1
        have hYl : wr.heap.size + 1 < w3.heap.size := (Array.getElem?_eq_some_iff.1 hY).1
        have HSm := sameToken_c (x.kind : Int) (y.kind : Int) x.text y.text x.line x.col y.line y.col w3
        unfold tokW at HSm
        clear hX hY hbW
        generalize hs : (((x.kind : Int) == (y.kind : Int)) && (x.text == y.text)) = sm at HSm
        have HSm := Lib.hid HSm
        cases sm with
        | false =>
          have HX := Lib.hid (show Lx.sameEnd a b moved = k from twk_stop (Lx.pairSame moved) _ k (x, y) HZ.out HK.out (by unfold Lx.pairSame; rw [hs]; rfl))
          clear hs
          go_wp2_with (go_at_call 52; refine HSm.out.mono ?_; rintro e w4 ⟨rfl, hb4⟩)
          refine bodyPost_ret (v := .int .i64 k) ?_ rfl ⟨by rw [HX.out], HB3.out.trans (hb4.mono HB3.out.size)⟩
          simp [results, Tryz.results55, go_sem]
        | true =>
          by_cases hf : (x.frm : Int) + moved = (y.frm : Int)
          · have df : ((x.frm : Int) + moved != (y.frm : Int)) = false := by rw [hf]; simp
            have HKn := Lib.hid (twk_step (Lx.pairSame moved) _ k (x, y) HZ.out HK.out (by unfold Lx.pairSame; rw [hs, beq_iff_eq.2 hf]; rfl))
            clear hs hf
            go_wp2_with fail
            refine HSm.out.mono ?_
            rintro e w4 ⟨rfl, hb4⟩
            have p4' : w4.cell? ⟨wr.heap.size, 4, none⟩ = some (.int .i64 x.frm) := (hb4.cell (p := ⟨wr.heap.size, 4, none⟩) hXl).trans p4
            have r4' : w4.cell? ⟨wr.heap.size + 1, 4, none⟩ = some (.int .i64 y.frm) := (hb4.cell (p := ⟨wr.heap.size + 1, 4, none⟩) hYl).trans r4
            have HB4 := Lib.hid (HB3.out.trans (hb4.mono HB3.out.size))
            clear hb4 HSm
            go_wp2_with fail
            go_roundg (a.length - (k + 1))
            case rel => exact ⟨k + 1, by omega, by omega, rfl, HKn, HB4, rfl⟩
            case measure => omega
          · have df : ((x.frm : Int) + moved != (y.frm : Int)) = true := bne_iff_ne.2 hf
            have HX := Lib.hid (show Lx.sameEnd a b moved = k from twk_stop (Lx.pairSame moved) _ k (x, y) HZ.out HK.out (by unfold Lx.pairSame; rw [hs, beq_eq_false_iff_ne.2 hf]; rfl))
            clear hs hf
            go_wp2_with fail
            refine HSm.out.mono ?_
            rintro e w4 ⟨rfl, hb4⟩
            have p4' : w4.cell? ⟨wr.heap.size, 4, none⟩ = some (.int .i64 x.frm) := (hb4.cell (p := ⟨wr.heap.size, 4, none⟩) hXl).trans p4
            have r4' : w4.cell? ⟨wr.heap.size + 1, 4, none⟩ = some (.int .i64 y.frm) := (hb4.cell (p := ⟨wr.heap.size + 1, 4, none⟩) hYl).trans r4
            have HB4 := Lib.hid (HB3.out.trans (hb4.mono HB3.out.size))
            clear hb4 HSm
            go_wp2_with fail
            refine bodyPost_ret (v := .int .i64 k) ?_ rfl ⟨by rw [HX.out], HB4.out⟩
            simp [results, Tryz.results55, go_sem]
      · have hX : (((wr.alloc (.cells #[.int .i64 y.kind, .string ⟨y.text.toArray⟩, .int .i64 y.line, .int .i64 y.col, .int .i64 y.frm, .int .i64 y.to] 53)).alloc (.cells #[.int .i64 x.kind, .string ⟨x.text.toArray⟩, .int .i64 x.line, .int .i64 x.col, .int .i64 x.frm, .int .i64 x.to] 53)).drew).heap[wr.heap.size + 1]? = some (.cells #[.int .i64 x.kind, .string ⟨x.text.toArray⟩, .int .i64 x.line, .int .i64 x.col, .int .i64 x.frm, .int .i64 x.to] 53) := heap_two_snd wr _ _
        have hY : (((wr.alloc (.cells #[.int .i64 y.kind, .string ⟨y.text.toArray⟩, .int .i64 y.line, .int .i64 y.col, .int .i64 y.frm, .int .i64 y.to] 53)).alloc (.cells #[.int .i64 x.kind, .string ⟨x.text.toArray⟩, .int .i64 x.line, .int .i64 x.col, .int .i64 x.frm, .int .i64 x.to] 53)).drew).heap[wr.heap.size]? = some (.cells #[.int .i64 y.kind, .string ⟨y.text.toArray⟩, .int .i64 y.line, .int .i64 y.col, .int .i64 y.frm, .int .i64 y.to] 53) := heap_two_fst wr _ _
        have hbW : Below wr.heap.size wr (((wr.alloc (.cells #[.int .i64 y.kind, .string ⟨y.text.toArray⟩, .int .i64 y.line, .int .i64 y.col, .int .i64 y.frm, .int .i64 y.to] 53)).alloc (.cells #[.int .i64 x.kind, .string ⟨x.text.toArray⟩, .int .i64 x.line, .int .i64 x.col, .int .i64 x.frm, .int .i64 x.to] 53)).drew) := below_dn (((Below.refl _ wr).alloc (Nat.le_refl _) _).alloc (by simp) _) 1
        generalize (((wr.alloc (.cells #[.int .i64 y.kind, .string ⟨y.text.toArray⟩, .int .i64 y.line, .int .i64 y.col, .int .i64 y.frm, .int .i64 y.to] 53)).alloc (.cells #[.int .i64 x.kind, .string ⟨x.text.toArray⟩, .int .i64 x.line, .int .i64 x.col, .int .i64 x.frm, .int .i64 x.to] 53)).drew) = w3 at *
        have p0 : w3.cell? ⟨wr.heap.size + 1, 0, none⟩ = some (.int .i64 x.kind) := (Lib.cell_of_heap hX 0).trans rfl
        have p1 : w3.cell? ⟨wr.heap.size + 1, 1, none⟩ = some (.string ⟨x.text.toArray⟩) := (Lib.cell_of_heap hX 1).trans rfl
        have p2 : w3.cell? ⟨wr.heap.size + 1, 2, none⟩ = some (.int .i64 x.line) := (Lib.cell_of_heap hX 2).trans rfl
        have p3 : w3.cell? ⟨wr.heap.size + 1, 3, none⟩ = some (.int .i64 x.col) := (Lib.cell_of_heap hX 3).trans rfl
        have p4 : w3.cell? ⟨wr.heap.size + 1, 4, none⟩ = some (.int .i64 x.frm) := (Lib.cell_of_heap hX 4).trans rfl
        have p5 : w3.cell? ⟨wr.heap.size + 1, 5, none⟩ = some (.int .i64 x.to) := (Lib.cell_of_heap hX 5).trans rfl
        have r0 : w3.cell? ⟨wr.heap.size, 0, none⟩ = some (.int .i64 y.kind) := (Lib.cell_of_heap hY 0).trans rfl
        have r1 : w3.cell? ⟨wr.heap.size, 1, none⟩ = some (.string ⟨y.text.toArray⟩) := (Lib.cell_of_heap hY 1).trans rfl
        have r2 : w3.cell? ⟨wr.heap.size, 2, none⟩ = some (.int .i64 y.line) := (Lib.cell_of_heap hY 2).trans rfl
        have r3 : w3.cell? ⟨wr.heap.size, 3, none⟩ = some (.int .i64 y.col) := (Lib.cell_of_heap hY 3).trans rfl
        have r4 : w3.cell? ⟨wr.heap.size, 4, none⟩ = some (.int .i64 y.frm) := (Lib.cell_of_heap hY 4).trans rfl
        have r5 : w3.cell? ⟨wr.heap.size, 5, none⟩ = some (.int .i64 y.to) := (Lib.cell_of_heap hY 5).trans rfl
        have HB3 := Lib.hid (HW.out.trans (hbW.mono hwz))
        have hXl : wr.heap.size + 1 < w3.heap.size := (Array.getElem?_eq_some_iff.1 hX).1
        have hYl : wr.heap.size < w3.heap.size := (Array.getElem?_eq_some_iff.1 hY).1
        have HSm := sameToken_c (x.kind : Int) (y.kind : Int) x.text y.text x.line x.col y.line y.col w3
        unfold tokW at HSm
        clear hX hY hbW
        generalize hs : (((x.kind : Int) == (y.kind : Int)) && (x.text == y.text)) = sm at HSm
        have HSm := Lib.hid HSm
        cases sm with
        | false =>
          have HX := Lib.hid (show Lx.sameEnd a b moved = k from twk_stop (Lx.pairSame moved) _ k (x, y) HZ.out HK.out (by unfold Lx.pairSame; rw [hs]; rfl))
          clear hs
          go_wp2_with (go_at_call 52; refine HSm.out.mono ?_; rintro e w4 ⟨rfl, hb4⟩)
          refine bodyPost_ret (v := .int .i64 k) ?_ rfl ⟨by rw [HX.out], HB3.out.trans (hb4.mono HB3.out.size)⟩
          simp [results, Tryz.results55, go_sem]
        | true =>
          by_cases hf : (x.frm : Int) + moved = (y.frm : Int)
          · have df : ((x.frm : Int) + moved != (y.frm : Int)) = false := by rw [hf]; simp
            have HKn := Lib.hid (twk_step (Lx.pairSame moved) _ k (x, y) HZ.out HK.out (by unfold Lx.pairSame; rw [hs, beq_iff_eq.2 hf]; rfl))
            clear hs hf
            go_wp2_with fail
            refine HSm.out.mono ?_
            rintro e w4 ⟨rfl, hb4⟩
            have p4' : w4.cell? ⟨wr.heap.size + 1, 4, none⟩ = some (.int .i64 x.frm) := (hb4.cell (p := ⟨wr.heap.size + 1, 4, none⟩) hXl).trans p4
            have r4' : w4.cell? ⟨wr.heap.size, 4, none⟩ = some (.int .i64 y.frm) := (hb4.cell (p := ⟨wr.heap.size, 4, none⟩) hYl).trans r4
            have HB4 := Lib.hid (HB3.out.trans (hb4.mono HB3.out.size))
            clear hb4 HSm
            go_wp2_with fail
            go_roundg (a.length - (k + 1))
            case rel => exact ⟨k + 1, by omega, by omega, rfl, HKn, HB4, rfl⟩
            case measure => omega
          · have df : ((x.frm : Int) + moved != (y.frm : Int)) = true := bne_iff_ne.2 hf
            have HX := Lib.hid (show Lx.sameEnd a b moved = k from twk_stop (Lx.pairSame moved) _ k (x, y) HZ.out HK.out (by unfold Lx.pairSame; rw [hs, beq_eq_false_iff_ne.2 hf]; rfl))
            clear hs hf
            go_wp2_with fail
            refine HSm.out.mono ?_
            rintro e w4 ⟨rfl, hb4⟩
            have p4' : w4.cell? ⟨wr.heap.size + 1, 4, none⟩ = some (.int .i64 x.frm) := (hb4.cell (p := ⟨wr.heap.size + 1, 4, none⟩) hXl).trans p4
            have r4' : w4.cell? ⟨wr.heap.size, 4, none⟩ = some (.int .i64 y.frm) := (hb4.cell (p := ⟨wr.heap.size, 4, none⟩) hYl).trans r4
            have HB4 := Lib.hid (HB3.out.trans (hb4.mono HB3.out.size))
            clear hb4 HSm
            go_wp2_with fail
            refine bodyPost_ret (v := .int .i64 k) ?_ rfl ⟨by rw [HX.out], HB4.out⟩
            simp [results, Tryz.results55, go_sem]
    · have HX := Lib.hid (show Lx.sameEnd a b moved = k by
        have hz : (a.reverse.zip b.reverse).length = k := by rw [List.length_zip, List.length_reverse, List.length_reverse]; omega
        have := twk_all (Lx.pairSame moved) (a.reverse.zip b.reverse) (by have := HK.out; rwa [List.take_of_length_le (by omega)] at this)
        exact this.trans hz)
      by_cases h1 : k = a.length
      · have dA : decide ((k : Int) < (a.length : Int)) = false := decide_eq_false (by omega)
        clear hE hfr
        go_wp2_with fail
        refine bodyPost_ret (v := .int .i64 k) ?_ rfl ⟨by rw [HX.out], HW.out⟩
        simp [results, Tryz.results55, go_sem]
      · have dA : decide ((k : Int) < (a.length : Int)) = true := decide_eq_true (by omega)
        have dB : decide ((k : Int) < (b.length : Int)) = false := decide_eq_false (by omega)
        clear hE hfr
        go_wp2_with fail
        · exfalso
          have := of_decide_eq_false dB
          omega
        refine bodyPost_ret (v := .int .i64 k) ?_ rfl ⟨by rw [HX.out], HW.out⟩
        simp [results, Tryz.results55, go_sem]
end Go.Proofs.YtcjcbhdildcceaaGreatDoor
