/- Contracts, joined of several texts: Nx, Dv. Conditions: those in the statements. -/
import Derived.Test.YtcjcbhdildcceaaGreatDoorLexRvz
/- Contracts of Lex, Ends, At and Token of the specification's package. Conditions: those in the statements. -/
namespace Go.Proofs.YtcjcbhdildcceaaGreatDoor
open Go.RowKit
set_option linter.unusedVariables false
set_option linter.unusedSimpArgs false

theorem refDivN (s : List UInt8) (w : World) (h6 : s.length ≤ 20000 → (Lx.spans s).1.length ≤ 6000) : Calls Tryz.prog 30 #[.string ⟨s.toArray⟩] w (RetDiv s w) := by
  by_cases h : s.length ≤ 20000
  · exact refDivide_c s w h (h6 h)
  · exact refDivide_long s w (by omega)
theorem tok_new (W : World) (t : Lx.Sp) : ∀ j u, t.tk[j]? = some u → (W.alloc (.cells #[.int .i64 t.kind, .string ⟨t.text.toArray⟩, .int .i64 t.line, .int .i64 t.col] 45)).cell? ((⟨W.heap.size, 0, none⟩ : Addr).add j) = some u := by
  intro j u hj
  rw [add_plain, Lib.cell_of_heap (World.alloc_heap_new _ _)]
  simpa [Lx.Sp.tk] using hj
theorem tk_one (t : Lx.Sp) : ∀ u ∈ t.tk, u.oneCell' = true := by simp [Lx.Sp.tk, Value.oneCell']
theorem int_new (W : World) (n : Int) : ∀ j u, ([.int .i64 n] : List Value)[j]? = some u → (W.alloc (.cells #[.int .i64 n] 3)).cell? ((⟨W.heap.size, 0, none⟩ : Addr).add j) = some u := by
  intro j u hj
  rw [add_plain, Lib.cell_of_heap (World.alloc_heap_new _ _)]
  simpa using hj
theorem int_one (n : Int) : ∀ u ∈ ([.int .i64 n] : List Value), u.oneCell' = true := by simp [Value.oneCell']

set_option maxHeartbeats 4000000 in
set_option maxRecDepth 100000 in
theorem refLex_c (s : List UInt8) (w : World) (h6 : s.length ≤ 20000 → (Lx.spans s).1.length ≤ 6000) :
    Calls Tryz.prog 8 #[.string ⟨s.toArray⟩] w (lexLeft s w) := by
  have hD := refDivN s w h6
  have hdl := divide_len s h6
  unfold lexLeft
  unfold RetDiv at hD
  generalize Lx.divide s = R at *
  obtain ⟨l, c, ix⟩ := R
  dsimp only at hD hdl ⊢
  have HD := Lib.hid hD
  clear hD h6
  obtain ⟨i0, hi, hz0, hz1, hz2⟩ := info_parts info_token
  go_enter Tryz.func8, Tryz.ntmps8
  go_wp2_with fail
  refine HD.out.mono ?_
  rintro e w1 ⟨o, cp, rfl, hs1, hb⟩
  have HS := Lib.hid hs1
  have HB := Lib.hid hb
  clear hs1 hb HD
  go_wp2_with fail
  go_loopg [8, 9] l.length (fun g v i wr => ∃ k : Nat, k ≤ l.length ∧ i = .int .i64 k ∧ Hid (wr.ownsRow w1.heap.size 45 4 v k (tkCells (l.take k))) ∧ Hid (Below w1.heap.size w1 wr) ∧ g = l.length - k)
  case atStart => exact ⟨0, Nat.zero_le _, rfl, Lib.hid (World.ownsRow_nil _ _ _ _), Lib.hid (Below.refl _ _), rfl⟩
  case round =>
    obtain ⟨k, hk, rfl, HV, HW, hg⟩ := hrel
    by_cases hE : k = l.length
    · have dE : decide ((k : Int) < (l.length : Int)) = false := decide_eq_false (by omega)
      have HE := Lib.hid hE
      clear hE
      go_wp2_with fail
      all_goals (try (exfalso; have := HE.out; omega))
      refine bodyPost_ret (v := .tuple #[u8, .int .i64 c, .int .i64 ix]) ?_ rfl ?_
      · simp [results, Tryz.results8, go_sem]
      · refine ⟨u8, rfl, HB.out.trans (HW.out.mono HB.out.size), ?_⟩
        have := HV.out
        rw [HE.out, List.take_length] at this
        exact ownsRow_mono this HB.out.size
    · have hlt : k < l.length := by omega
      have dE : decide ((k : Int) < (l.length : Int)) = true := decide_eq_true (by omega)
      obtain ⟨t, ht⟩ : ∃ t, l[k]? = some t := ⟨_, List.getElem?_eq_getElem hlt⟩
      obtain ⟨g, rfl, hgl, hc6⟩ := HS.out k t ht
      have hcell : ∀ j, j < 6 → wr.cell? ⟨g, k * 6 + j, none⟩ = t.cells[j]? := fun j hj => (HW.out.cell (p := ⟨g, k * 6 + j, none⟩) hgl).trans (hc6 j hj)
      have x0 := hcell 0 (by decide)
      have x1 := hcell 1 (by decide)
      have x2 := hcell 2 (by decide)
      have x3 := hcell 3 (by decide)
      simp only [Lx.Sp.cells, List.getElem?_cons_succ, List.getElem?_cons_zero, Nat.add_zero] at x0 x1 x2 x3
      clear hcell hc6
      have HT := Lib.hid ht
      clear ht hE
      have hwz := HW.out.size
      have HCn := Lib.hid (tok_new wr t)
      have H1c := Lib.hid (tk_one t)
      go_wp2_with (at_builtin; refine wpList_append_own _ rfl _ _ 24 rfl w1.heap.size 45 i0 _ 4 40 Tryz.underlying24 hi hz0 hz1 hz2 rfl (by decide) u8 k (tkCells (l.take k)) rfl (HV.out.alloc _) ⟨wr.heap.size, 0, none⟩ 1 1 t.tk rfl rfl HCn.out H1c.out (by show _ ≤ 9223372036854775807; omega) (by omega) (by simp; omega) ?_; intro v' w2 hown' hgrow _; have HOw := Lib.hid hown'; have HGw := Lib.hid hgrow; clear hown' hgrow)
      have hlt' : k < l.length := hlt
      have HR : Hid (w2.ownsRow w1.heap.size 45 4 v' (k + 1) (tkCells (l.take (k + 1)))) := by
        refine Lib.hid ?_
        rw [List.take_add_one, HT.out]
        show w2.ownsRow _ _ _ _ _ (tkCells (l.take k ++ [t]))
        rw [tkCells_snoc]
        exact HOw.out
      have HB2 : Hid (Below w1.heap.size w1 w2) := Lib.hid ((HW.out.alloc hwz _).grown HGw.out (by simp; omega) (fun b e => (HV.out.lt b e).1))
      clear HOw HGw HCn H1c
      go_roundg (l.length - (k + 1))
      case rel => exact ⟨k + 1, by omega, rfl, HR, HB2, rfl⟩
      case measure => omega

set_option maxHeartbeats 4000000 in
set_option maxRecDepth 100000 in
theorem refEnds_c (s : List UInt8) (w : World) (h6 : s.length ≤ 20000 → (Lx.spans s).1.length ≤ 6000) :
    Calls Tryz.prog 10 #[.string ⟨s.toArray⟩] w (endsLeft s w) := by
  have hD := refDivN s w h6
  have hdl := divide_len s h6
  unfold endsLeft
  unfold RetDiv at hD
  generalize Lx.divide s = R at *
  obtain ⟨l, c, ix⟩ := R
  dsimp only at hD hdl ⊢
  have HD := Lib.hid hD
  clear hD h6
  obtain ⟨i0, hi, hz0, hz1, hz2⟩ := info_parts info_int
  go_enter Tryz.func10, Tryz.ntmps10
  go_wp2_with fail
  refine HD.out.mono ?_
  rintro e w1 ⟨o, cp, rfl, hs1, hb⟩
  have HS := Lib.hid hs1
  have HB := Lib.hid hb
  clear hs1 hb HD
  go_wp2_with fail
  go_loopg [8, 9] l.length (fun g v i wr => ∃ k : Nat, k ≤ l.length ∧ i = .int .i64 k ∧ Hid (wr.ownsRow w1.heap.size 3 1 v k (endCells (l.take k))) ∧ Hid (Below w1.heap.size w1 wr) ∧ g = l.length - k)
  case atStart => exact ⟨0, Nat.zero_le _, rfl, Lib.hid (World.ownsRow_nil _ _ _ _), Lib.hid (Below.refl _ _), rfl⟩
  case round =>
    obtain ⟨k, hk, rfl, HV, HW, hg⟩ := hrel
    by_cases hE : k = l.length
    · have dE : decide ((k : Int) < (l.length : Int)) = false := decide_eq_false (by omega)
      have HE := Lib.hid hE
      clear hE
      go_wp2_with fail
      all_goals (try (exfalso; have := HE.out; omega))
      refine bodyPost_ret (v := .tuple #[u8, .int .i64 c, .int .i64 ix]) ?_ rfl ?_
      · simp [results, Tryz.results10, go_sem]
      · refine ⟨u8, rfl, HB.out.trans (HW.out.mono HB.out.size), ?_⟩
        have := HV.out
        rw [HE.out, List.take_length] at this
        exact ownsRow_mono this HB.out.size
    · have hlt : k < l.length := by omega
      have dE : decide ((k : Int) < (l.length : Int)) = true := decide_eq_true (by omega)
      obtain ⟨t, ht⟩ : ∃ t, l[k]? = some t := ⟨_, List.getElem?_eq_getElem hlt⟩
      obtain ⟨g, rfl, hgl, hc6⟩ := HS.out k t ht
      have x5 : wr.cell? ⟨g, k * 6 + 5, none⟩ = t.cells[5]? := (HW.out.cell (p := ⟨g, k * 6 + 5, none⟩) hgl).trans (hc6 5 (by decide))
      simp only [Lx.Sp.cells, List.getElem?_cons_succ, List.getElem?_cons_zero, Nat.add_zero] at x5
      clear hc6
      have HT := Lib.hid ht
      clear ht hE
      have hwz := HW.out.size
      have HCn := Lib.hid (int_new wr (t.to : Int))
      have H1c := Lib.hid (int_one (t.to : Int))
      go_wp2_with (at_builtin; refine wpList_append_own _ rfl _ _ 28 rfl w1.heap.size 3 i0 _ 1 8 Tryz.underlying28 hi hz0 hz1 hz2 rfl (by decide) u8 k (endCells (l.take k)) rfl (HV.out.alloc _) ⟨wr.heap.size, 0, none⟩ 1 1 [.int .i64 t.to] rfl rfl HCn.out H1c.out (by show _ ≤ 9223372036854775807; omega) (by omega) (by simp; omega) ?_; intro v' w2 hown' hgrow _; have HOw := Lib.hid hown'; have HGw := Lib.hid hgrow; clear hown' hgrow)
      have hlt' : k < l.length := hlt
      have HR : Hid (w2.ownsRow w1.heap.size 3 1 v' (k + 1) (endCells (l.take (k + 1)))) := by
        refine Lib.hid ?_
        rw [List.take_add_one, HT.out]
        show w2.ownsRow _ _ _ _ _ (endCells (l.take k ++ [t]))
        rw [endCells_snoc]
        exact HOw.out
      have HB2 : Hid (Below w1.heap.size w1 w2) := Lib.hid ((HW.out.alloc hwz _).grown HGw.out (by simp; omega) (fun b e => (HV.out.lt b e).1))
      clear HOw HGw HCn H1c
      go_roundg (l.length - (k + 1))
      case rel => exact ⟨k + 1, by omega, rfl, HR, HB2, rfl⟩
      case measure => omega

set_option maxHeartbeats 1000000 in
theorem refAt_c (s : List UInt8) (index : Int) (w : World) (hs : s.length ≤ 100000) :
    Calls Tryz.prog 16 #[.string ⟨s.toArray⟩, .int .i64 index] w fun e w' =>
      e = .returned (.tuple #[.int .i64 (Lx.at_ s index).1, .int .i64 (Lx.at_ s index).2.1, .int .i64 (Lx.at_ s index).2.2]) ∧ Below w.heap.size w w' := by
  have hsz : (⟨s.toArray⟩ : ByteArray).size = s.length := by simp [ByteArray.size]
  by_cases h0 : index < 0
  · have d0 : decide (index < 0) = true := decide_eq_true h0
    have HX := Lib.hid (show Lx.at_ s index = (0, 0, 1) by unfold Lx.at_; rw [if_pos (.inl h0)])
    clear h0
    go_enter Tryz.func16, Tryz.ntmps16
    go_wp2_with fail
    refine bodyPost_ret (v := .tuple #[.int .i64 0, .int .i64 0, .int .i64 1]) ?_ rfl ?_
    · simp [results, Tryz.results16, go_sem]
    · exact ⟨by rw [HX.out]; rfl, Below.refl _ _⟩
  · by_cases h1 : (s.length : Int) < index
    · have d0 : decide (index < 0) = false := decide_eq_false h0
      have d1 : decide ((s.length : Int) < index) = true := decide_eq_true h1
      have HX := Lib.hid (show Lx.at_ s index = (0, 0, 1) by unfold Lx.at_; rw [if_pos (.inr h1)])
      clear h0 h1
      go_enter Tryz.func16, Tryz.ntmps16
      go_wp2_with fail
      refine bodyPost_ret (v := .tuple #[.int .i64 0, .int .i64 0, .int .i64 1]) ?_ rfl ?_
      · simp [results, Tryz.results16, go_sem]
      · exact ⟨by rw [HX.out]; rfl, Below.refl _ _⟩
    · have d0 : decide (index < 0) = false := decide_eq_false h0
      have d1 : decide ((s.length : Int) < index) = false := decide_eq_false h1
      obtain ⟨i, rfl⟩ : ∃ i : Nat, index = i := ⟨index.toNat, by omega⟩
      have hil : i ≤ s.length := by omega
      have hX : Lx.at_ s (i : Int) = ((Lx.placeAt s i).ln + 1, i - (Lx.placeAt s i).bg + 1, 0) := by unfold Lx.at_; rw [if_neg (by omega)]; rfl
      have hP := fun W => refPlaced_c s i W hil (by omega)
      generalize (Lx.placeAt s i).ln + 1 = L at *
      generalize i - (Lx.placeAt s i).bg + 1 = C at *
      have HX := Lib.hid hX
      have HP := Lib.hid hP
      clear hX hP h0 h1
      go_enter Tryz.func16, Tryz.ntmps16
      go_wp2_with fail
      refine (HP.out _).mono ?_
      rintro e w1 ⟨rfl, rfl⟩
      go_wp2_with fail
      refine bodyPost_ret (v := .tuple #[.int .i64 L, .int .i64 C, .int .i64 0]) ?_ rfl ?_
      · simp [results, Tryz.results16, go_sem]
      · exact ⟨by rw [HX.out]; rfl, Below.refl _ _⟩

theorem tw_round {α : Type} (p : α → Bool) (l : List α) (k : Nat) (t : α) (hk : k ≤ (l.takeWhile p).length) (ht : l[k]? = some t) : (p t = true → k + 1 ≤ (l.takeWhile p).length) ∧ (p t = false → (l.takeWhile p).length = k) := by
  rcases Nat.lt_or_eq_of_le hk with h | h
  · exact ⟨fun _ => h, fun hf => by rw [tw_at p l k t h ht] at hf; cases hf⟩
  · subst h
    exact ⟨fun hp => (by rw [tw_end p l t ht] at hp; cases hp), fun _ => rfl⟩

set_option maxHeartbeats 2000000 in
set_option maxRecDepth 100000 in
theorem refToken_c (s : List UInt8) (index : Int) (w : World) (hs : s.length ≤ 100000) (h6 : s.length ≤ 20000 → (Lx.spans s).1.length ≤ 6000) :
    Calls Tryz.prog 14 #[.string ⟨s.toArray⟩, .int .i64 index] w fun e w' =>
      e = .returned (.tuple #[.int .i64 (Lx.tokenOf (Lx.divide s) s.length index).1, .int .i64 (Lx.tokenOf (Lx.divide s) s.length index).2.1, .int .i64 (Lx.tokenOf (Lx.divide s) s.length index).2.2]) ∧ Below w.heap.size w w' := by
  have hsz : (⟨s.toArray⟩ : ByteArray).size = s.length := by simp [ByteArray.size]
  have hD := refDivN s w h6
  have hdl := divide_len s h6
  unfold RetDiv at hD
  generalize Lx.divide s = R at *
  obtain ⟨l, c, ix⟩ := R
  dsimp only at hD hdl
  have HD := Lib.hid hD
  clear hD h6
  by_cases hc : c = 0
  · subst hc
    by_cases h0 : index < 0
    · have d0 : decide (index < 0) = true := decide_eq_true h0
      have HX := Lib.hid (show Lx.tokenOf (l, 0, ix) s.length index = (0, 1, 0) by unfold Lx.tokenOf; rw [if_neg (by simp), if_pos (.inl h0)])
      clear h0
      go_enter Tryz.func14, Tryz.ntmps14
      go_wp2_with fail
      refine HD.out.mono ?_
      rintro e w1 ⟨o, cp, rfl, hs1, hb⟩
      have HB2 := Lib.hid hb
      clear hb hs1 HD
      go_wp2_with fail
      refine bodyPost_ret (v := .tuple #[.int .i64 0, .int .i64 1, .int .i64 0]) ?_ rfl ⟨by rw [HX.out]; rfl, HB2.out⟩
      simp [results, Tryz.results14, go_sem]
    · have d0 : decide (index < 0) = false := decide_eq_false h0
      obtain ⟨i, rfl⟩ : ∃ i : Nat, index = i := ⟨index.toNat, by omega⟩
      by_cases h1 : s.length ≤ i
      · have d1 : decide ((s.length : Int) ≤ (i : Int)) = true := decide_eq_true (by omega)
        have d1n : decide (s.length ≤ i) = true := decide_eq_true (by omega)
        have HX := Lib.hid (show Lx.tokenOf (l, 0, ix) s.length (i : Int) = (0, 1, 0) by unfold Lx.tokenOf; rw [if_neg (by simp), if_pos (.inr (by omega))])
        clear h0 h1
        go_enter Tryz.func14, Tryz.ntmps14
        go_wp2_with fail
        refine HD.out.mono ?_
        rintro e w1 ⟨o, cp, rfl, hs1, hb⟩
        have HB2 := Lib.hid hb
        clear hb hs1 HD
        go_wp2_with fail
        refine bodyPost_ret (v := .tuple #[.int .i64 0, .int .i64 1, .int .i64 0]) ?_ rfl ⟨by rw [HX.out]; rfl, HB2.out⟩
        simp [results, Tryz.results14, go_sem]
      · have d1 : decide ((s.length : Int) ≤ (i : Int)) = false := decide_eq_false (by omega)
        have d1n : decide (s.length ≤ i) = false := decide_eq_false (by omega)
        have hL : Lx.tokenOf (l, 0, ix) s.length (i : Int) = if (l.takeWhile fun t => decide ((t.to : Int) ≤ (i : Int))).length = l.length then (0, 3, 0) else ((l.takeWhile fun t => decide ((t.to : Int) ≤ (i : Int))).length, 0, 0) := by
          unfold Lx.tokenOf; rw [if_neg (by simp), if_neg (by omega)]
        have hTW := fun k t => tw_round (fun t : Lx.Sp => decide ((t.to : Int) ≤ (i : Int))) l k t
        have hTL : (l.takeWhile fun t => decide ((t.to : Int) ≤ (i : Int))).length ≤ l.length := (List.takeWhile_prefix _).length_le
        generalize (l.takeWhile fun t => decide ((t.to : Int) ≤ (i : Int))).length = T at *
        have HL := Lib.hid hL
        have HTW := Lib.hid hTW
        have HTL := Lib.hid hTL
        clear hL hTW hTL h0 h1
        go_enter Tryz.func14, Tryz.ntmps14
        go_wp2_with fail
        refine HD.out.mono ?_
        rintro e w1 ⟨o, cp, rfl, hs1, hb⟩
        have HS := Lib.hid hs1
        have HB2 := Lib.hid hb
        clear hb hs1 HD
        go_wp2_with fail
        go_loopg [10] l.length (fun g v wr => ∃ k : Nat, Hid (k ≤ T) ∧ k ≤ l.length ∧ v = .int .i64 k ∧ wr = w1 ∧ g = l.length - k)
        case atStart => exact ⟨0, Lib.hid (Nat.zero_le _), Nat.zero_le _, rfl, rfl, rfl⟩
        case round =>
          obtain ⟨k, HkT, hk, rfl, rfl, hg⟩ := hrel
          by_cases hE : k = l.length
          · have dE : decide ((k : Int) < (l.length : Int)) = false := decide_eq_false (by omega)
            have HE := Lib.hid hE
            have HX := Lib.hid (HL.out.trans (if_pos (by have := HkT.out; have := HTL.out; omega)))
            clear hE
            go_wp2_with fail
            all_goals (try (exfalso; have := HE.out; omega))
            refine bodyPost_ret (v := .tuple #[.int .i64 0, .int .i64 3, .int .i64 0]) ?_ rfl ⟨by rw [HX.out]; rfl, HB2.out⟩
            simp [results, Tryz.results14, go_sem]
          · have hlt : k < l.length := by omega
            have dE : decide ((k : Int) < (l.length : Int)) = true := decide_eq_true (by omega)
            obtain ⟨t, ht⟩ : ∃ t, l[k]? = some t := ⟨_, List.getElem?_eq_getElem hlt⟩
            obtain ⟨g, rfl, hgl, hc6⟩ := HS.out k t ht
            have x5 := hc6 5 (by decide)
            simp only [Lx.Sp.cells, List.getElem?_cons_succ, List.getElem?_cons_zero, Nat.add_zero] at x5
            obtain ⟨ha, hbn⟩ := HTW.out k t HkT.out ht
            have HE := Lib.hid hE
            clear hc6 ht hE
            by_cases hto : (t.to : Int) ≤ (i : Int)
            · have dt : decide ((i : Int) < (t.to : Int)) = false := decide_eq_false (by omega)
              have dtn : decide (i < t.to) = false := decide_eq_false (by omega)
              have HN := Lib.hid (ha (decide_eq_true hto))
              clear ha hbn hto
              go_wp2_with fail
              go_roundg (l.length - (k + 1))
              case rel => exact ⟨k + 1, HN, by omega, rfl, rfl, rfl⟩
              case measure => omega
            · have dt : decide ((i : Int) < (t.to : Int)) = true := decide_eq_true (by omega)
              have dtn : decide (i < t.to) = true := decide_eq_true (by omega)
              have hTk := hbn (decide_eq_false hto)
              have HX := Lib.hid (HL.out.trans (if_neg (by have := HE.out; omega)))
              have HTk := Lib.hid hTk
              clear ha hbn hto hTk
              go_wp2_with fail
              refine bodyPost_ret (v := .tuple #[.int .i64 k, .int .i64 0, .int .i64 0]) ?_ rfl ⟨by rw [HX.out, HTk.out]; rfl, HB2.out⟩
              simp [results, Tryz.results14, go_sem]
  · have dc : ((c : Int) != 0) = true := bne_iff_ne.2 (by omega)
    have HX := Lib.hid (show Lx.tokenOf (l, c, ix) s.length index = (0, c, ix) from if_pos hc)
    clear hc
    go_enter Tryz.func14, Tryz.ntmps14
    go_wp2_with fail
    refine HD.out.mono ?_
    rintro e w1 ⟨o, cp, rfl, hs1, hb⟩
    have HB2 := Lib.hid hb
    clear hb hs1 HD
    go_wp2_with fail
    refine bodyPost_ret (v := .tuple #[.int .i64 0, .int .i64 c, .int .i64 ix]) ?_ rfl ⟨by rw [HX.out]; rfl, HB2.out⟩
    simp [results, Tryz.results14, go_sem]
end Go.Proofs.YtcjcbhdildcceaaGreatDoor
/- The law LexDivides, from the contracts. Conditions: the cell of internal/bytealg.MaxLen is an int. -/
namespace Go.Proofs.YtcjcbhdildcceaaGreatDoor
open Go.RowKit
set_option linter.unusedVariables false
set_option linter.unusedSimpArgs false

theorem brief_lenD (n : Nat) (h : Lx.brief n = true) : n ≤ 3000 ∨ 20000 < n ∧ n ≤ 40000 := by
  unfold Lx.brief at h
  simp only [Bool.or_eq_true, Bool.and_eq_true, decide_eq_true_eq] at h
  exact h
set_option maxHeartbeats 4000000 in
set_option maxRecDepth 100000 in
theorem lexDivides_c (s : List UInt8) (index : Int) (m : Int) (w : World) (hm : w.cell? ⟨0, 0, none⟩ = some (.int .i64 m)) :
    Calls Tryz.prog 3 #[.string ⟨s.toArray⟩, .int .i64 index] w fun e w' => e = .returned (.bool true) ∧ Below w.heap.size w w' := by
  have hg : 0 < w.heap.size := World.block_lt_of_cell? _ _ hm
  have HM := Lib.hid hm
  have HA := Lib.hid (awake_c m w hm)
  have HBs := Lib.hid (brief_c s)
  have HLs := Lib.hid (brief_lenD s.length)
  clear hm
  go_enter Tryz.func3, Tryz.ntmps3
  go_wp2_with fail
  refine HA.out.mono ?_
  rintro e w1 ⟨rfl, hb1⟩
  have HB1 := Lib.hid hb1
  clear hb1 HA
  generalize hbr : Lx.brief s.length = br at *
  clear hbr
  go_wp2_with fail
  refine (HBs.out _).mono ?_
  rintro e w2 ⟨rfl, hq2⟩
  have HB2 := Lib.hid (HB1.out.trans ((dn_below hq2).mono HB1.out.size))
  clear hq2 HBs HB1
  cases br with
  | false =>
    go_wp2_with fail
    refine bodyPost_ret (v := .bool true) ?_ rfl ⟨rfl, HB2.out⟩
    simp [results, Tryz.results3, go_sem]
  | true =>
    have hls := HLs.out (by trivial)
    have h6 : s.length ≤ 20000 → (Lx.spans s).1.length ≤ 6000 := fun h => few s (by omega) h
    have hL := lex_c s m w2 ((HB2.out.cell hg).trans HM.out) h6
    have hRL := fun W => refLex_c s W h6
    have hE := fun W hW => ends_c s m W hW h6
    have hRE := fun W => refEnds_c s W h6
    have hT := fun W hW => token_c s index m W hW h6
    have hRT := fun W => refToken_c s index W (by omega) h6
    have hAt := fun W => at_c s index W (by omega)
    have hRAt := fun W => refAt_c s index W (by omega)
    have hdl := divide_len s h6
    unfold lexLeft at hL hRL
    unfold endsLeft at hE hRE
    generalize Lx.tokenOf (Lx.divide s) s.length index = TO at *
    generalize Lx.at_ s index = AT at *
    generalize Lx.divide s = R at *
    obtain ⟨l, c, ix⟩ := R
    obtain ⟨t1, t2, t3⟩ := TO
    obtain ⟨a1, a2, a3⟩ := AT
    dsimp only at hL hRL hE hRE hT hRT hAt hRAt hdl
    have HL := Lib.hid hL
    have HRL := Lib.hid hRL
    have HE := Lib.hid hE
    have HRE := Lib.hid hRE
    have HT := Lib.hid hT
    have HRT := Lib.hid hRT
    have HAt := Lib.hid hAt
    have HRAt := Lib.hid hRAt
    have htl : (Lx.toks l).length ≤ 1000000 := by rw [toks_len]; omega
    have hel : (Lx.endsOf l).length ≤ 1000000 := by rw [endsOf_len]; omega
    have HTL := Lib.hid htl
    have HEL := Lib.hid hel
    clear hL hRL hE hRE hT hRT hAt hRAt hls h6 htl hel hdl HLs
    go_wp2_with fail
    refine HL.out.mono ?_
    rintro e w3 ⟨v3, rfl, hb3, ho3⟩
    obtain ⟨o3, cp3, rfl, ht3, -, -, -⟩ := slice_of_lex ho3
    have HB3 := Lib.hid (HB2.out.trans (hb3.mono HB2.out.size))
    have HT3 := Lib.hid ht3
    clear hb3 ho3 ht3 HL HB2
    go_wp2_with fail
    refine (HRL.out _).mono ?_
    rintro e w4 ⟨v4, rfl, hb4, ho4⟩
    obtain ⟨o4, cp4, rfl, ht4, -, -, -⟩ := slice_of_lex ho4
    have HB4 := Lib.hid (HB3.out.trans (hb4.mono HB3.out.size))
    have HT3b := Lib.hid (tokAt_mono HT3.out hb4)
    have HT4 := Lib.hid ht4
    clear hb4 ho4 ht4 HRL HB3 HT3
    go_wp2_with fail
    refine (HE.out w4 ((HB4.out.cell hg).trans HM.out)).mono ?_
    rintro e w5 ⟨v5, rfl, hb5, ho5⟩
    obtain ⟨o5, cp5, rfl, ht5⟩ := slice_of_ends ho5
    have HB5 := Lib.hid (HB4.out.trans (hb5.mono HB4.out.size))
    have HT3c := Lib.hid (tokAt_mono HT3b.out hb5)
    have HT4c := Lib.hid (tokAt_mono HT4.out hb5)
    have HT5 := Lib.hid ht5
    clear hb5 ho5 ht5 HE HB4 HT3b HT4
    go_wp2_with fail
    refine (HRE.out w5).mono ?_
    rintro e w6 ⟨v6, rfl, hb6, ho6⟩
    obtain ⟨o6, cp6, rfl, ht6⟩ := slice_of_ends ho6
    have HB6 := Lib.hid (HB5.out.trans (hb6.mono HB5.out.size))
    have HPl := Lib.hid (placed_c (Lx.toks l) o3 o4 cp3 cp4 w6 (tokAt_mono HT3c.out hb6) (tokAt_mono HT4c.out hb6) HTL.out)
    have hSI := fun W (hW : Below w6.heap.size w6 W) => sameInts_c (Lx.endsOf l) (Lx.endsOf l) o5 o6 cp5 cp6 W (intAt_mono (intAt_mono HT5.out hb6) hW) (intAt_mono ht6 hW) HEL.out
    rw [show decide (Lx.endsOf l = Lx.endsOf l) = true from decide_eq_true rfl] at hSI
    have HSI := Lib.hid hSI
    clear hb6 ho6 ht6 HRE HB5 HT3c HT4c HT5 hSI
    go_wp2_with fail
    refine HPl.out.mono ?_
    rintro e w7 ⟨rfl, hq7⟩
    have HQ7 := Lib.hid (dn_below hq7)
    clear hq7 HPl
    go_wp2_with fail
    refine (HSI.out w7 HQ7.out).mono ?_
    rintro e w8 ⟨rfl, hb8⟩
    have HB8 := Lib.hid ((HB6.out.trans (HQ7.out.mono HB6.out.size)).trans (hb8.mono (Nat.le_trans HB6.out.size HQ7.out.size)))
    clear hb8 HSI HQ7 HB6
    go_wp2_with fail
    refine (HT.out w8 ((HB8.out.cell hg).trans HM.out)).mono ?_
    rintro e w9 ⟨rfl, hb9⟩
    have HB9 := Lib.hid (HB8.out.trans (hb9.mono HB8.out.size))
    clear hb9 HT HB8
    go_wp2_with fail
    refine (HRT.out w9).mono ?_
    rintro e w10 ⟨rfl, hb10⟩
    have HB10 := Lib.hid (HB9.out.trans (hb10.mono HB9.out.size))
    clear hb10 HRT HB9
    go_wp2_with fail
    refine (HAt.out w10).mono ?_
    rintro e w11 ⟨rfl, hb11⟩
    have HB11 := Lib.hid (HB10.out.trans (hb11.mono HB10.out.size))
    clear hb11 HAt HB10
    go_wp2_with fail
    refine (HRAt.out w11).mono ?_
    rintro e w12 ⟨rfl, hb12⟩
    have HB12 := Lib.hid (HB11.out.trans (hb12.mono HB11.out.size))
    clear hb12 HRAt HB11
    go_wp2_with fail
    refine bodyPost_ret (v := .bool true) ?_ rfl ⟨rfl, HB12.out⟩
    simp [results, Tryz.results3, go_sem]
end Go.Proofs.YtcjcbhdildcceaaGreatDoor
