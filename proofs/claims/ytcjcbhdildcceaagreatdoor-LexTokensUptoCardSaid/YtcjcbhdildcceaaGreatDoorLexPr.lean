/- Contract of Print of package lex. Conditions: those in the statement. -/
import Derived.Test.YtcjcbhdildcceaaGreatDoorLexDm
import Derived.Test.YtcjcbhdildcceaaGreatDoorLexCk
import Derived.Test.YtcjcbhdildcceaaGreatDoorLexPp
import Derived.Shelf.Strings.BuilderK
namespace Go.Proofs.YtcjcbhdildcceaaGreatDoor
open Go.RowKit

theorem builderF_below {T e : TypeId} {B b : Nat} {bs : List Value} {w w' : World} (h : Lib.IsBuilderF T e B b bs w) (hb : Below w.heap.size w w') : Lib.IsBuilderF T e B b bs w' := by
  have key : ∀ p, Lib.BuilderAtF T e B b p bs w → Lib.BuilderAtF T e B b p bs w' := by
    rintro p ⟨h1, v, h2, h3, h4⟩
    refine ⟨h1, v, (hb.block b (Array.getElem?_eq_some_iff.1 h2).1).trans h2, ⟨h3.1, ?_⟩, h4⟩
    rcases h3.2 with h5 | ⟨g, c, cur, fz, e1, e2, e3, e4⟩
    · exact .inl h5
    · exact .inr ⟨g, c, cur, fz, e1, e2, (hb.block g (Array.getElem?_eq_some_iff.1 e3).1).trans e3, e4⟩
  exact h.imp (key _) (key _)
abbrev IsB (B b : Nat) (l : List UInt8) (w : World) : Prop := Lib.IsBuilderF 70 5 B b (Lib.byteCells l) w
theorem writeByteK_c (B b : Nat) (l : List UInt8) (c : UInt8) (w : World) (h : IsB B b l w) (hlen : l.length + 1 ≤ 140737488355328) (hBw : B ≤ w.heap.size) :
    Calls Tryz.prog 37 #[.pointer (some ⟨b, 0, none⟩), .int .u8 c.toNat] w fun e w' =>
      e = .returned .nilIface ∧ IsB B b (l ++ [c]) w' ∧ Below B w w' ∧ Lib.OthersKept 5 (some b) w w' := by
  refine (Any.Builder_WriteByte_k wbLays wbExtra B b (Lib.byteCells l) c.toNat w h (by rw [Lib.byteCells_length]; exact hlen) hBw).mono ?_
  rintro e w' ⟨rfl, hb, hbw, hk⟩
  refine ⟨rfl, .inr ?_, hbw, hk⟩
  have e1 : Lib.byteCells (l ++ [c]) = Lib.byteCells l ++ [.int .u8 c.toNat] := by rw [Lib.byteCells_append]; rfl
  rw [e1]
  exact hb
theorem writeStringK_c (B b : Nat) (l m : List UInt8) (w : World) (h : IsB B b l w) (hlen : l.length + m.length ≤ 140737488355328) (hBw : B ≤ w.heap.size) :
    Calls Tryz.prog 38 #[.pointer (some ⟨b, 0, none⟩), .string ⟨m.toArray⟩] w fun e w' =>
      e = .returned (.tuple #[.int .i64 m.length, .nilIface]) ∧ IsB B b (l ++ m) w' ∧ Below B w w' ∧ Lib.OthersKept 5 (some b) w w' := by
  have hsz : (⟨m.toArray⟩ : ByteArray).size = m.length := by simp [ByteArray.size]
  refine (Any.Builder_WriteString_k { Tryz.lays154 with } Tryz.Builder_Extra_154 B b (Lib.byteCells l) ⟨m.toArray⟩ w h (by rw [Lib.byteCells_length, hsz]; exact hlen) hBw).mono ?_
  rintro e w' ⟨rfl, hb, hbw, hk⟩
  refine ⟨by rw [hsz], .inr ?_, hbw, hk⟩
  rw [Lib.strCells_eq, ← Lib.byteCells_append] at hb
  exact hb
theorem builderLen_c (B b : Nat) (l : List UInt8) (w : World) (h : IsB B b l w) :
    Calls Tryz.prog 40 #[.pointer (some ⟨b, 0, none⟩)] w fun e w' => e = .returned (.int .i64 l.length) ∧ w' = w := by
  have := Tryz.Builder_Len_f B b (Lib.byteCells l) w h
  rwa [Lib.byteCells_length] at this
theorem kept_cell {b k : Nat} {w w' : World} {cs : Array Value} {T : TypeId} (h : Lib.OthersKept 5 (some b) w w') (hk : w.heap[k]? = some (.cells cs T)) (hb : k ≠ b) (hT : T ≠ 5) : w'.heap[k]? = some (.cells cs T) :=
  h k _ hk (fun e => hb (Option.some.inj e)) (fun c fz e => by injection e with e1 e2; exact hT e2)
theorem tokAt_mono {w w' : World} {o : Option Addr} {l : List Lx.Tk} (h : TokAt w o l) (hb : Below w.heap.size w w') : TokAt w' o l := by
  intro k t ht
  obtain ⟨b, a, e, hl, x0, x1, x2, x3⟩ := h k t ht
  have hx : ∀ {q v}, w.cell? ⟨b, q, none⟩ = some v → w'.cell? ⟨b, q, none⟩ = some v := fun e => (hb.cell (p := ⟨b, _, none⟩) hl).trans e
  exact ⟨b, a, e, Nat.lt_of_lt_of_le hl hb.size, hx x0, hx x1, hx x2, hx x3⟩

set_option maxHeartbeats 4000000 in
set_option maxRecDepth 100000 in
theorem print_c (l : List Lx.Tk) (o : Option Addr) (c : Nat) (m : Int) (w : World) (h : TokAt w o l) (hm : w.cell? ⟨0, 0, none⟩ = some (.int .i64 m)) (hn : l.length ≤ 1000000)
    (hl : ∀ t ∈ l, t.text.length ≤ 1000000) :
    Calls Tryz.prog 18 #[.slice o l.length c] w fun e w' =>
      e = .returned (.tuple #[.string ⟨(Lx.printed l).1.toArray⟩, .int .i64 (Lx.printed l).2]) ∧ Below w.heap.size w w' := by
  have hgm : 0 < w.heap.size := World.block_lt_of_cell? _ _ hm
  have HC := Lib.hid (check_c l o c w h hn (fun t ht => by have := hl t ht; omega))
  have HCA := Lib.hid (check_all l)
  have HT := Lib.hid h
  have HM := Lib.hid hm
  have HL := Lib.hid hl
  clear h hm hl
  by_cases hc : Lx.check l = 0
  · have HX := Lib.hid (show Lx.printed l = Lx.printEnd (Lx.printN l l.length) by unfold Lx.printed; rw [if_neg (by simpa using hc)])
    obtain ⟨hn6, hr⟩ := HCA.out hc
    have HR := Lib.hid hr
    rw [hc] at HC
    clear hc hr HCA
    go_enter Tryz.func18, Tryz.ntmps18
    go_wp2_with fail
    refine HC.out.mono ?_
    rintro e w1 ⟨rfl, hb⟩
    have HB1 := Lib.hid hb
    clear hb HC
    go_wp2_with fail
    have hw1 := HB1.out.size
    go_loopg [15] l.length (fun g i wr => ∃ (k : Nat) (acc : List UInt8), k ≤ l.length ∧ i = .int .i64 k ∧ Hid (Lx.printN l k = some acc) ∧ Hid (IsB w1.heap.size w1.heap.size acc wr) ∧ Hid (Below w1.heap.size w1 wr) ∧ Hid (w1.heap.size < wr.heap.size) ∧ acc.length ≤ k * 3000003 ∧ g = l.length - k)
    case atStart => exact ⟨0, [], Nat.zero_le _, rfl, Lib.hid rfl, Lib.hid (Lib.IsBuilderF.of (Lib.fresh_isBuilder 70 5 w1)), Lib.hid ((Below.refl _ w1).alloc (Nat.le_refl _) _), Lib.hid (by simp), by simp, rfl⟩
    case round =>
      obtain ⟨k, acc, hk, rfl, HP, HI, HW, HWs, hal, hg⟩ := hrel
      by_cases hE : k = l.length
      · have dE : decide ((k : Int) < (l.length : Int)) = false := decide_eq_false (by omega)
        have HE := Lib.hid hE
        have HX := Lib.hid (HX.out.trans (by rw [← hE, HP.out]; rfl : _ = if 20000 < acc.length then ([], 2) else (acc, 0)))
        clear hE
        have HLn := Lib.hid (builderLen_c w1.heap.size w1.heap.size acc wr HI.out)
        have HSt := Lib.hid (Tryz.Builder_String_any_f w1.heap.size w1.heap.size acc wr HI.out (by have := HWs.out; omega))
        by_cases hb2 : 20000 < acc.length
        · have d2 : decide ((20000 : Int) < (acc.length : Int)) = true := decide_eq_true (by omega)
          have HX := Lib.hid (HX.out.trans (if_pos hb2))
          clear hb2
          go_wp2_with (go_at_call 40; refine HLn.out.mono ?_; rintro e w' ⟨rfl, rfl⟩)
          all_goals (try (exfalso; have := HE.out; omega))
          refine bodyPost_ret (v := .tuple #[.string ⟨#[]⟩, .int .i64 2]) ?_ rfl ⟨by rw [HX.out]; rfl, HB1.out.trans (HW.out.mono hw1)⟩
          simp [results, Tryz.results18, go_sem]
        · have d2 : decide ((20000 : Int) < (acc.length : Int)) = false := decide_eq_false (by omega)
          have HX := Lib.hid (HX.out.trans (if_neg hb2))
          clear hb2
          go_wp2_with (first | (go_at_call 40; refine HLn.out.mono ?_; rintro e w' ⟨rfl, rfl⟩) | (go_at_call 41; refine HSt.out.mono ?_; rintro e w' ⟨rfl, -, hb5⟩))
          all_goals (try (exfalso; have := HE.out; omega))
          refine bodyPost_ret (v := .tuple #[.string ⟨acc.toArray⟩, .int .i64 0]) ?_ rfl ⟨by rw [HX.out]; rfl, HB1.out.trans ((HW.out.trans hb5).mono hw1)⟩
          simp [results, Tryz.results18, go_sem]
      · have hlt : k < l.length := by omega
        have dE : decide ((k : Int) < (l.length : Int)) = true := decide_eq_true (by omega)
        obtain ⟨t, ht⟩ : ∃ t, l[k]? = some t := ⟨_, List.getElem?_eq_getElem hlt⟩
        have HTk := Lib.hid ht
        obtain ⟨b, a, ho, hbl, x0, x1, x2, x3⟩ := HT.out k t ht
        have hb1 : b < w1.heap.size := Nat.lt_of_lt_of_le hbl hw1
        have hbm : Below w.heap.size w wr := HB1.out.trans (HW.out.mono hw1)
        have hx : ∀ {q v}, w.cell? ⟨b, q, none⟩ = some v → wr.cell? ⟨b, q, none⟩ = some v := fun e => (hbm.cell (p := ⟨b, _, none⟩) hbl).trans e
        replace x0 := hx x0
        replace x1 := hx x1
        replace x2 := hx x2
        replace x3 := hx x3
        subst ho
        have HWr := Lib.hid hbm
        have htl : t.text.length ≤ 1000000 := HL.out t (List.mem_of_getElem? ht)
        have hsl := spell_len t.kind t.text
        have hW2 : Below wr.heap.size wr (wr.alloc (.cells #[.int .i64 t.kind, .string ⟨t.text.toArray⟩, .int .i64 t.line, .int .i64 t.col] 45)) := (Below.refl _ wr).alloc (Nat.le_refl _) _
        have hY2 := World.alloc_heap_new wr (.cells #[.int .i64 t.kind, .string ⟨t.text.toArray⟩, .int .i64 t.line, .int .i64 t.col] 45)
        have HW2 := Lib.hid hW2
        have HY2 := Lib.hid hY2
        have hwr := hbm.size
        have hz2 : (wr.alloc (.cells #[.int .i64 t.kind, .string ⟨t.text.toArray⟩, .int .i64 t.line, .int .i64 t.col] 45)).heap.size = wr.heap.size + 1 := by simp
        have HZ2 := Lib.hid hz2
        have hws := HWs.out
        clear hx hE ht hbm hW2 hY2 hz2
        by_cases h9 : t.kind = 9
        · have d9 : (t.kind == 9) = true := by rw [h9]; rfl
          have HN := Lib.hid (printN_dot l k t acc HP.out HTk.out h9)
          have HDot := dot_c l (some ⟨b, a, none⟩) c k m _ (tokAt_mono HT.out (HWr.out.trans (HW2.out.mono hwr))) (((HWr.out.trans (HW2.out.mono hwr)).cell (p := ⟨0, 0, none⟩) hgm).trans HM.out) hlt hn (fun t ht => by have := HL.out t ht; omega) (fun t ht => right_spell_ne t (HR.out t (List.mem_of_getElem? ht)))
          have HDot := Lib.hid HDot
          clear h9
          go_wp2_with fail
          refine HDot.out.mono ?_
          rintro e w3 ⟨rfl, hb3⟩
          have HY := Lib.hid ((hb3.block wr.heap.size (by rw [HZ2.out]; omega)).trans HY2.out)
          have hb3' : Below wr.heap.size wr w3 := HW2.out.trans (hb3.mono (by rw [HZ2.out]; omega))
          have HI3 := Lib.hid (builderF_below HI.out hb3')
          have HWb3 := Lib.hid (HWr.out.trans (hb3'.mono hwr))
          have HB3 := Lib.hid (HW.out.trans (hb3'.mono (by omega)))
          have HWs3 : Hid (w1.heap.size < w3.heap.size) := Lib.hid (by have := hb3'.size; omega)
          clear hb3 hb3' HDot
          cases hdm : Lx.dotMay l k with
          | false =>
            rw [hdm] at HN
            have HX := Lib.hid (HX.out.trans (by rw [printN_end l (k + 1) (by omega) HN.out]; rfl : _ = ([], 13)))
            clear hdm
            go_wp2_with fail
            refine bodyPost_ret (v := .tuple #[.string ⟨#[]⟩, .int .i64 13]) ?_ rfl ⟨by rw [HX.out]; rfl, HWb3.out⟩
            simp [results, Tryz.results18, go_sem]
          | true =>
            rw [hdm] at HN
            have HP2 := Lib.hid (HN.out.trans (if_pos rfl))
            have HAL := Lib.hid (Nat.le_trans hal (Nat.le_add_right (k * 3000003) 1))
            clear hdm HN
            have hm3 := ((HWb3.out.cell (p := ⟨0, 0, none⟩) hgm).trans HM.out)
            have y0 : w3.cell? ⟨wr.heap.size, 0, none⟩ = some (.int .i64 t.kind) := (Lib.cell_of_heap HY.out 0).trans rfl
            have y1 : w3.cell? ⟨wr.heap.size, 1, none⟩ = some (.string ⟨t.text.toArray⟩) := (Lib.cell_of_heap HY.out 1).trans rfl
            have y2 : w3.cell? ⟨wr.heap.size, 2, none⟩ = some (.int .i64 t.line) := (Lib.cell_of_heap HY.out 2).trans rfl
            have y3 : w3.cell? ⟨wr.heap.size, 3, none⟩ = some (.int .i64 t.col) := (Lib.cell_of_heap HY.out 3).trans rfl
            have HSp := Lib.hid (spelling_c t.kind t.text t.line t.col m w3 (by omega) hm3)
            unfold tokW at HSp
            clear hm3
            go_wp2_with fail
            refine HSp.out.mono ?_
            rintro e w4 ⟨rfl, hb4⟩
            have HI4 := Lib.hid (builderF_below HI3.out hb4)
            have HWt := Lib.hid (writeStringK_c w1.heap.size w1.heap.size acc (Lx.spell t.kind t.text) w4 HI4.out (by have := HAL.out; omega) (by have := hb4.size; have := HWs3.out; omega))
            have HB4 := Lib.hid (HB3.out.trans (hb4.mono (by have := HWs3.out; omega)))
            have HS4 := Lib.hid (Nat.lt_of_lt_of_le HWs3.out hb4.size)
            clear hb4 HSp HI4
            go_wp2_with fail
            refine HWt.out.mono ?_
            rintro e w5 ⟨rfl, hI5, hb5, -⟩
            have HI5 := Lib.hid hI5
            have HB5 := Lib.hid (HB4.out.trans hb5)
            have HS5 := Lib.hid (Nat.lt_of_lt_of_le HS4.out hb5.size)
            have hal5 : (acc ++ Lx.spell t.kind t.text).length ≤ (k + 1) * 3000003 := by rw [List.length_append]; have := HAL.out; omega
            clear hI5 hb5 HWt
            go_wp2_with fail
            go_roundg (l.length - (k + 1))
            case rel => exact ⟨k + 1, _, by omega, rfl, HP2, HI5, HB5, HS5, hal5, rfl⟩
            case measure => omega
        · have d9 : (t.kind == 9) = false := beq_eq_false_iff_ne.2 h9
          by_cases h0 : k = 0 ∨ ∃ p, l[k - 1]? = some p ∧ p.kind = 9
          · have HP2 := Lib.hid (printN_joined l k t acc HP.out HTk.out h9 h0)
            have HAL := Lib.hid (Nat.le_trans hal (Nat.le_add_right (k * 3000003) 1))
            have HY := HY2
            have HI3 := Lib.hid (builderF_below HI.out HW2.out)
            have HWb3 := Lib.hid (HWr.out.trans (HW2.out.mono hwr))
            have HB3 := Lib.hid (HW.out.trans (HW2.out.mono (by omega)))
            have HWs3 : Hid (w1.heap.size < (wr.alloc (.cells #[.int .i64 t.kind, .string ⟨t.text.toArray⟩, .int .i64 t.line, .int .i64 t.col] 45)).heap.size) := Lib.hid (by rw [HZ2.out]; omega)
            rcases h0 with h0 | ⟨p, hp, hp9⟩
            · have dk0 : decide ((0 : Int) < (k : Int)) = false := decide_eq_false (by omega)
              have dk1 : decide (0 < k) = false := decide_eq_false (by omega)
              clear h0 h9
              go_wp2_with fail
              generalize (wr.alloc (.cells #[.int .i64 t.kind, .string ⟨t.text.toArray⟩, .int .i64 t.line, .int .i64 t.col] 45)) = w3 at *
              have hm3 := ((HWb3.out.cell (p := ⟨0, 0, none⟩) hgm).trans HM.out)
              have y0 : w3.cell? ⟨wr.heap.size, 0, none⟩ = some (.int .i64 t.kind) := (Lib.cell_of_heap HY.out 0).trans rfl
              have y1 : w3.cell? ⟨wr.heap.size, 1, none⟩ = some (.string ⟨t.text.toArray⟩) := (Lib.cell_of_heap HY.out 1).trans rfl
              have y2 : w3.cell? ⟨wr.heap.size, 2, none⟩ = some (.int .i64 t.line) := (Lib.cell_of_heap HY.out 2).trans rfl
              have y3 : w3.cell? ⟨wr.heap.size, 3, none⟩ = some (.int .i64 t.col) := (Lib.cell_of_heap HY.out 3).trans rfl
              have HSp := Lib.hid (spelling_c t.kind t.text t.line t.col m w3 (by omega) hm3)
              unfold tokW at HSp
              clear hm3
              refine HSp.out.mono ?_
              rintro e w4 ⟨rfl, hb4⟩
              have HI4 := Lib.hid (builderF_below HI3.out hb4)
              have HWt := Lib.hid (writeStringK_c w1.heap.size w1.heap.size acc (Lx.spell t.kind t.text) w4 HI4.out (by have := HAL.out; omega) (by have := hb4.size; have := HWs3.out; omega))
              have HB4 := Lib.hid (HB3.out.trans (hb4.mono (by have := HWs3.out; omega)))
              have HS4 := Lib.hid (Nat.lt_of_lt_of_le HWs3.out hb4.size)
              clear hb4 HSp HI4
              go_wp2_with fail
              refine HWt.out.mono ?_
              rintro e w5 ⟨rfl, hI5, hb5, -⟩
              have HI5 := Lib.hid hI5
              have HB5 := Lib.hid (HB4.out.trans hb5)
              have HS5 := Lib.hid (Nat.lt_of_lt_of_le HS4.out hb5.size)
              have hal5 : (acc ++ Lx.spell t.kind t.text).length ≤ (k + 1) * 3000003 := by rw [List.length_append]; have := HAL.out; omega
              clear hI5 hb5 HWt
              go_wp2_with fail
              go_roundg (l.length - (k + 1))
              case rel => exact ⟨k + 1, _, by omega, rfl, HP2, HI5, HB5, HS5, hal5, rfl⟩
              case measure => omega
            · have hkp : 0 < k := by
                rcases Nat.eq_zero_or_pos k with h | h
                · subst h; rw [HTk.out] at hp; injection hp with hp; subst hp; exact absurd hp9 h9
                · exact h
              have dk0 : decide ((0 : Int) < (k : Int)) = true := decide_eq_true (by omega)
              have dk1 : decide (0 < k) = true := decide_eq_true hkp
              obtain ⟨b', a', e', hbl', p0, -, -, -⟩ := HT.out (k - 1) p hp
              injection e' with e'
              injection e' with e1 e2 e3
              subst e1 e2
              rw [hp9] at p0
              have p0a : ∀ ob : Obj, (wr.alloc ob).cell? ⟨b, a + (k - 1) * 4, none⟩ = some (.int .i64 9) := fun ob => (World.cell?_alloc_past _ _ _ (by show b < _; omega)).trans ((HWr.out.cell (p := ⟨b, _, none⟩) hbl).trans p0)
              clear h9 hp hp9 p0
              go_wp2_with fail
              generalize (wr.alloc (.cells #[.int .i64 t.kind, .string ⟨t.text.toArray⟩, .int .i64 t.line, .int .i64 t.col] 45)) = w3 at *
              have hm3 := ((HWb3.out.cell (p := ⟨0, 0, none⟩) hgm).trans HM.out)
              have y0 : w3.cell? ⟨wr.heap.size, 0, none⟩ = some (.int .i64 t.kind) := (Lib.cell_of_heap HY.out 0).trans rfl
              have y1 : w3.cell? ⟨wr.heap.size, 1, none⟩ = some (.string ⟨t.text.toArray⟩) := (Lib.cell_of_heap HY.out 1).trans rfl
              have y2 : w3.cell? ⟨wr.heap.size, 2, none⟩ = some (.int .i64 t.line) := (Lib.cell_of_heap HY.out 2).trans rfl
              have y3 : w3.cell? ⟨wr.heap.size, 3, none⟩ = some (.int .i64 t.col) := (Lib.cell_of_heap HY.out 3).trans rfl
              have HSp := Lib.hid (spelling_c t.kind t.text t.line t.col m w3 (by omega) hm3)
              unfold tokW at HSp
              clear hm3
              refine HSp.out.mono ?_
              rintro e w4 ⟨rfl, hb4⟩
              have HI4 := Lib.hid (builderF_below HI3.out hb4)
              have HWt := Lib.hid (writeStringK_c w1.heap.size w1.heap.size acc (Lx.spell t.kind t.text) w4 HI4.out (by have := HAL.out; omega) (by have := hb4.size; have := HWs3.out; omega))
              have HB4 := Lib.hid (HB3.out.trans (hb4.mono (by have := HWs3.out; omega)))
              have HS4 := Lib.hid (Nat.lt_of_lt_of_le HWs3.out hb4.size)
              clear hb4 HSp HI4
              go_wp2_with fail
              refine HWt.out.mono ?_
              rintro e w5 ⟨rfl, hI5, hb5, -⟩
              have HI5 := Lib.hid hI5
              have HB5 := Lib.hid (HB4.out.trans hb5)
              have HS5 := Lib.hid (Nat.lt_of_lt_of_le HS4.out hb5.size)
              have hal5 : (acc ++ Lx.spell t.kind t.text).length ≤ (k + 1) * 3000003 := by rw [List.length_append]; have := HAL.out; omega
              clear hI5 hb5 HWt
              go_wp2_with fail
              go_roundg (l.length - (k + 1))
              case rel => exact ⟨k + 1, _, by omega, rfl, HP2, HI5, HB5, HS5, hal5, rfl⟩
              case measure => omega
          · have hkp : 0 < k := Nat.pos_of_ne_zero (fun e => h0 (.inl e))
            obtain ⟨p, hp⟩ : ∃ p, l[k - 1]? = some p := ⟨_, List.getElem?_eq_getElem (by omega)⟩
            have hp9 : p.kind ≠ 9 := fun e => h0 (.inr ⟨p, hp, e⟩)
            have HP2 := Lib.hid (printN_space l k t p acc HP.out HTk.out h9 hkp hp hp9)
            have HAL : Hid ((acc ++ [32]).length ≤ k * 3000003 + 1) := Lib.hid (by rw [List.length_append]; simp; omega)
            have dk0 : decide ((0 : Int) < (k : Int)) = true := decide_eq_true (by omega)
            have dk1 : decide (0 < k) = true := decide_eq_true hkp
            obtain ⟨b', a', e', hbl', p0, -, -, -⟩ := HT.out (k - 1) p hp
            injection e' with e'
            injection e' with e1 e2 e3
            subst e1 e2
            have p0a : ∀ ob : Obj, (wr.alloc ob).cell? ⟨b, a + (k - 1) * 4, none⟩ = some (.int .i64 p.kind) := fun ob => (World.cell?_alloc_past _ _ _ (by show b < _; omega)).trans ((HWr.out.cell (p := ⟨b, _, none⟩) hbl).trans p0)
            have dp : (p.kind != 9) = true := bne_iff_ne.2 hp9
            have hwb := writeByteK_c w1.heap.size w1.heap.size acc 32 (wr.alloc (.cells #[.int .i64 t.kind, .string ⟨t.text.toArray⟩, .int .i64 t.line, .int .i64 t.col] 45)) (builderF_below HI.out HW2.out) (by omega) (by rw [HZ2.out]; omega)
            change Calls _ _ #[_, .int .u8 32] _ _ at hwb
            have HWB := Lib.hid hwb
            clear h0 h9 hp hp9 p0 hwb
            go_wp2_with fail
            refine HWB.out.mono ?_
            rintro e w3 ⟨rfl, hI3, hb3, hk3⟩
            have HY := Lib.hid (kept_cell hk3 HY2.out (by omega) (by decide))
            have HI3 := Lib.hid hI3
            have HB3 := Lib.hid ((HW.out.trans (HW2.out.mono (by omega))).trans hb3)
            have HWb3 := Lib.hid ((HWr.out.trans (HW2.out.mono hwr)).trans (hb3.mono hw1))
            have HWs3 : Hid (w1.heap.size < w3.heap.size) := Lib.hid (by have := hb3.size; rw [HZ2.out] at this; omega)
            clear hI3 hb3 hk3 HWB
            have hm3 := ((HWb3.out.cell (p := ⟨0, 0, none⟩) hgm).trans HM.out)
            have y0 : w3.cell? ⟨wr.heap.size, 0, none⟩ = some (.int .i64 t.kind) := (Lib.cell_of_heap HY.out 0).trans rfl
            have y1 : w3.cell? ⟨wr.heap.size, 1, none⟩ = some (.string ⟨t.text.toArray⟩) := (Lib.cell_of_heap HY.out 1).trans rfl
            have y2 : w3.cell? ⟨wr.heap.size, 2, none⟩ = some (.int .i64 t.line) := (Lib.cell_of_heap HY.out 2).trans rfl
            have y3 : w3.cell? ⟨wr.heap.size, 3, none⟩ = some (.int .i64 t.col) := (Lib.cell_of_heap HY.out 3).trans rfl
            have HSp := Lib.hid (spelling_c t.kind t.text t.line t.col m w3 (by omega) hm3)
            unfold tokW at HSp
            clear hm3
            go_wp2_with fail
            refine HSp.out.mono ?_
            rintro e w4 ⟨rfl, hb4⟩
            have HI4 := Lib.hid (builderF_below HI3.out hb4)
            have HWt := Lib.hid (writeStringK_c w1.heap.size w1.heap.size (acc ++ [32]) (Lx.spell t.kind t.text) w4 HI4.out (by have := HAL.out; omega) (by have := hb4.size; have := HWs3.out; omega))
            have HB4 := Lib.hid (HB3.out.trans (hb4.mono (by have := HWs3.out; omega)))
            have HS4 := Lib.hid (Nat.lt_of_lt_of_le HWs3.out hb4.size)
            clear hb4 HSp HI4
            go_wp2_with fail
            refine HWt.out.mono ?_
            rintro e w5 ⟨rfl, hI5, hb5, -⟩
            have HI5 := Lib.hid hI5
            have HB5 := Lib.hid (HB4.out.trans hb5)
            have HS5 := Lib.hid (Nat.lt_of_lt_of_le HS4.out hb5.size)
            have hal5 : ((acc ++ [32]) ++ Lx.spell t.kind t.text).length ≤ (k + 1) * 3000003 := by rw [List.length_append]; have := HAL.out; omega
            clear hI5 hb5 HWt
            go_wp2_with fail
            go_roundg (l.length - (k + 1))
            case rel => exact ⟨k + 1, _, by omega, rfl, HP2, HI5, HB5, HS5, hal5, rfl⟩
            case measure => omega
  · have d0 : ((Lx.check l : Int) != 0) = true := bne_iff_ne.2 (by omega)
    have HX := Lib.hid (show Lx.printed l = ([], Lx.check l) by unfold Lx.printed; rw [if_pos hc])
    clear hc HCA
    generalize Lx.check l = q at *
    go_enter Tryz.func18, Tryz.ntmps18
    go_wp2_with fail
    refine HC.out.mono ?_
    rintro e w1 ⟨rfl, hb⟩
    go_wp2_with fail
    refine bodyPost_ret (v := .tuple #[.string ⟨#[]⟩, .int .i64 q]) ?_ rfl ⟨by rw [HX.out], hb⟩
    simp [results, Tryz.results18, go_sem]
end Go.Proofs.YtcjcbhdildcceaaGreatDoor
