/- Contract of Same of package lex. Conditions: those in the statement. -/
import Derived.Test.YtcjcbhdildcceaaGreatDoorLexSp
import Derived.Deep.LoopGhost
namespace Go.Proofs.YtcjcbhdildcceaaGreatDoor
open Go.RowKit

/-- A slice's address at which a list of tokens lies. -/
def TokAt (w : World) (o : Option Addr) (l : List Lx.Tk) : Prop :=
  ∀ k t, l[k]? = some t → ∃ b a, o = some ⟨b, a, none⟩ ∧ b < w.heap.size ∧ w.cell? ⟨b, a + k * 4, none⟩ = some (.int .i64 t.kind) ∧ w.cell? ⟨b, a + k * 4 + 1, none⟩ = some (.string ⟨t.text.toArray⟩) ∧
    w.cell? ⟨b, a + k * 4 + 2, none⟩ = some (.int .i64 t.line) ∧ w.cell? ⟨b, a + k * 4 + 3, none⟩ = some (.int .i64 t.col)
set_option maxHeartbeats 4000000 in
set_option maxRecDepth 100000 in
theorem same_c (l l' : List Lx.Tk) (o o' : Option Addr) (c c' : Nat) (w : World) (h : TokAt w o l) (h' : TokAt w o' l') (hn : l.length ≤ 1000000) :
    Calls Tryz.prog 24 #[.slice o l.length c, .slice o' l'.length c'] w fun e w' => e = .returned (.bool (Lx.same l l')) ∧ Below w.heap.size w w' := by
  have HA := Lib.hid h
  have HB := Lib.hid h'
  clear h h'
  by_cases hl : l.length = l'.length
  · have dl : ((l.length : Int) != (l'.length : Int)) = false := by rw [hl]; simp
    have HL := Lib.hid hl
    clear hl
    go_enter Tryz.func24, Tryz.ntmps24
    go_wp2_with fail
    go_loopg [14] l.length (fun g i wr => ∃ k : Nat, k ≤ l.length ∧ i = .int .i64 k ∧ Hid ((l.take k).map Lx.Tk.key = (l'.take k).map Lx.Tk.key) ∧ Hid (Below w.heap.size w wr) ∧ g = l.length - k)
    case atStart => exact ⟨0, Nat.zero_le _, rfl, Lib.hid rfl, Lib.hid (Below.refl _ _), rfl⟩
    case round =>
      obtain ⟨k, hk, rfl, HK, HW, hg⟩ := hrel
      by_cases hE : k = l.length
      · have dE : decide ((k : Int) < (l.length : Int)) = false := decide_eq_false (by omega)
        have HX := Lib.hid (show Lx.same l l' = true by
          have := HK.out
          rw [hE, List.take_length] at this
          rw [HL.out, List.take_length] at this
          exact decide_eq_true this)
        have HE := Lib.hid hE
        clear hE
        go_wp2_with fail
        · exfalso
          have := HE.out
          omega
        refine bodyPost_ret (v := .bool true) ?_ rfl ⟨by rw [HX.out], HW.out⟩
        simp [results, Tryz.results24, go_sem]
      · have hlt : k < l.length := by omega
        have hlt2 : k < l'.length := by have := HL.out; omega
        have dE : decide ((k : Int) < (l.length : Int)) = true := decide_eq_true (by omega)
        obtain ⟨t, ht⟩ : ∃ t, l[k]? = some t := ⟨_, List.getElem?_eq_getElem hlt⟩
        obtain ⟨t', ht'⟩ : ∃ t', l'[k]? = some t' := ⟨_, List.getElem?_eq_getElem hlt2⟩
        obtain ⟨b, a, rfl, hb, x0, x1, x2, x3⟩ := HA.out k t ht
        obtain ⟨b', a', rfl, hb', y0, y1, y2, y3⟩ := HB.out k t' ht'
        have hx : ∀ {q v}, w.cell? ⟨b, q, none⟩ = some v → wr.cell? ⟨b, q, none⟩ = some v := fun e => (HW.out.cell (p := ⟨b, _, none⟩) hb).trans e
        have hy : ∀ {q v}, w.cell? ⟨b', q, none⟩ = some v → wr.cell? ⟨b', q, none⟩ = some v := fun e => (HW.out.cell (p := ⟨b', _, none⟩) hb').trans e
        replace x0 := hx x0
        replace x1 := hx x1
        replace x2 := hx x2
        replace x3 := hx x3
        replace y0 := hy y0
        replace y1 := hy y1
        replace y2 := hy y2
        replace y3 := hy y3
        have hbr : b' < wr.heap.size := Nat.lt_of_lt_of_le hb' HW.out.size
        have HT := Lib.hid ht
        have HT' := Lib.hid ht'
        clear hx hy ht ht' hE
        generalize hs : (t.kind == t'.kind && t.text == t'.text) = sm
        have HS := Lib.hid hs
        have HSm := fun W => sameToken_c t.kind t'.kind t.text t'.text t.line t.col t'.line t'.col W
        rw [hs] at HSm
        unfold tokW at HSm
        have HSm := Lib.hid HSm
        clear hs
        go_wp2_with fail
        have hzx := World.alloc_heap_new wr (.cells #[.int .i64 t.kind, .string ⟨t.text.toArray⟩, .int .i64 t.line, .int .i64 t.col] 45)
        have hbw : Below wr.heap.size wr (wr.alloc (.cells #[.int .i64 t.kind, .string ⟨t.text.toArray⟩, .int .i64 t.line, .int .i64 t.col] 45)) := (Below.refl _ wr).alloc (Nat.le_refl _) _
        generalize (wr.alloc (.cells #[.int .i64 t.kind, .string ⟨t.text.toArray⟩, .int .i64 t.line, .int .i64 t.col] 45)) = w2 at *
        have z0 : w2.cell? ⟨wr.heap.size, 0, none⟩ = some (.int .i64 t.kind) := (Lib.cell_of_heap hzx 0).trans rfl
        have z1 : w2.cell? ⟨wr.heap.size, 1, none⟩ = some (.string ⟨t.text.toArray⟩) := (Lib.cell_of_heap hzx 1).trans rfl
        have z2 : w2.cell? ⟨wr.heap.size, 2, none⟩ = some (.int .i64 t.line) := (Lib.cell_of_heap hzx 2).trans rfl
        have z3 : w2.cell? ⟨wr.heap.size, 3, none⟩ = some (.int .i64 t.col) := (Lib.cell_of_heap hzx 3).trans rfl
        replace y0 := (hbw.cell (p := ⟨b', _, none⟩) hbr).trans y0
        replace y1 := (hbw.cell (p := ⟨b', _, none⟩) hbr).trans y1
        replace y2 := (hbw.cell (p := ⟨b', _, none⟩) hbr).trans y2
        replace y3 := (hbw.cell (p := ⟨b', _, none⟩) hbr).trans y3
        have HW2 := Lib.hid (HW.out.trans (hbw.mono HW.out.size))
        have hz2 := HW2.out.size
        clear hbw hzx x0 x1 x2 x3
        cases sm with
        | true =>
          have HNK := Lib.hid (same_step HT.out HT'.out HS.out HK.out)
          clear HK HS
          go_region_with (go_at_call 52; refine (HSm.out _).mono ?_; rintro e w' ⟨rfl, hb5⟩)
          all_goals
            have hb6 : Below w.heap.size w w' := HW2.out.trans (((below_dn (Below.refl w2.heap.size w2) 1).trans hb5).mono hz2)
            have HB6 := Lib.hid hb6
            clear hb6 hb5
            go_wp2_with fail
            go_roundg (l.length - (k + 1))
            case rel => exact ⟨k + 1, by omega, rfl, HNK, HB6, rfl⟩
            case measure => omega
        | false =>
          have HX := Lib.hid (same_false_at HT.out HT'.out HS.out)
          clear HK HS
          go_region_with (go_at_call 52; refine (HSm.out _).mono ?_; rintro e w' ⟨rfl, hb5⟩)
          all_goals
            have hb6 : Below w.heap.size w w' := HW2.out.trans (((below_dn (Below.refl w2.heap.size w2) 1).trans hb5).mono hz2)
            have HB6 := Lib.hid hb6
            clear hb6 hb5
            go_wp2_with fail
            refine bodyPost_ret (v := .bool false) ?_ rfl ⟨by rw [HX.out], HB6.out⟩
            simp [results, Tryz.results24, go_sem]
  · have dl : ((l.length : Int) != (l'.length : Int)) = true := bne_iff_ne.2 (by omega)
    have HX := Lib.hid (same_false_len hl)
    clear hl
    go_enter Tryz.func24, Tryz.ntmps24
    go_wp2_with fail
    refine bodyPost_ret (v := .bool false) ?_ rfl ⟨by rw [HX.out], Below.refl _ _⟩
    simp [results, Tryz.results24, go_sem]
end Go.Proofs.YtcjcbhdildcceaaGreatDoor
