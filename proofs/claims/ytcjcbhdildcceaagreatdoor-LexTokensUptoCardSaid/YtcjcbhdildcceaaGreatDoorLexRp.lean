/- Contracts of Same and Placed of the specification's package. Conditions: those in the statements. -/
import Derived.Test.YtcjcbhdildcceaaGreatDoorLexSi
namespace Go.Proofs.YtcjcbhdildcceaaGreatDoor
open Go.RowKit

theorem dn_below {w wr : World} (h : ∃ q, wr = w.drewN q) : Below w.heap.size w wr := by
  obtain ⟨q, rfl⟩ := h
  exact below_dn (Below.refl _ _) q
theorem dn_more {w wr : World} (h : ∃ q, wr = w.drewN q) (n : Nat) : ∃ q, wr.drewN n = w.drewN q := by
  obtain ⟨q, rfl⟩ := h
  exact ⟨q + n, by rw [World.drewN_drewN]⟩

set_option maxHeartbeats 4000000 in
set_option maxRecDepth 100000 in
theorem refSame_c (l l' : List Lx.Tk) (o o' : Option Addr) (c c' : Nat) (w : World) (h : TokAt w o l) (h' : TokAt w o' l') (hn : l.length ≤ 1000000) :
    Calls Tryz.prog 25 #[.slice o l.length c, .slice o' l'.length c'] w fun e w' => e = .returned (.bool (Lx.same l l')) ∧ ∃ q, w' = w.drewN q := by
  have HA := Lib.hid h
  have HB := Lib.hid h'
  clear h h'
  by_cases hl : l.length = l'.length
  · have dl : ((l.length : Int) != (l'.length : Int)) = false := by rw [hl]; simp
    have HL := Lib.hid hl
    clear hl
    go_enter Tryz.func25, Tryz.ntmps25
    go_wp2_with fail
    go_loopg [5] l.length (fun g i wr => ∃ k : Nat, k ≤ l.length ∧ i = .int .i64 k ∧ Hid ((l.take k).map Lx.Tk.key = (l'.take k).map Lx.Tk.key) ∧ Hid (∃ q, wr = w.drewN q) ∧ g = l.length - k)
    case atStart => exact ⟨0, Nat.zero_le _, rfl, Lib.hid rfl, Lib.hid ⟨0, rfl⟩, rfl⟩
    case round =>
      obtain ⟨k, hk, rfl, HK, HW, hg⟩ := hrel
      by_cases hE : k = l.length
      · have dE : decide ((k : Int) < (l.length : Int)) = false := decide_eq_false (by omega)
        have HX := Lib.hid (show Lx.same l l' = true by
          have := HK.out
          rw [hE, List.take_length] at this
          rw [HL.out, List.take_length] at this
          exact decide_eq_true this)
        have HE := Lib.hid hE
        clear hE
        go_wp2_with fail
        all_goals (try (exfalso; have := HE.out; omega))
        refine bodyPost_ret (v := .bool true) ?_ rfl ⟨by rw [HX.out], HW.out⟩
        simp [results, Tryz.results25, go_sem]
      · have hlt : k < l.length := by omega
        have hlt2 : k < l'.length := by have := HL.out; omega
        have dE : decide ((k : Int) < (l.length : Int)) = true := decide_eq_true (by omega)
        obtain ⟨t, ht⟩ : ∃ t, l[k]? = some t := ⟨_, List.getElem?_eq_getElem hlt⟩
        obtain ⟨t', ht'⟩ : ∃ t', l'[k]? = some t' := ⟨_, List.getElem?_eq_getElem hlt2⟩
        obtain ⟨b, a, rfl, hb, x0, x1, -, -⟩ := HA.out k t ht
        obtain ⟨b', a', rfl, hb', y0, y1, -, -⟩ := HB.out k t' ht'
        replace x0 := ((dn_below HW.out).cell (p := ⟨b, _, none⟩) hb).trans x0
        replace x1 := ((dn_below HW.out).cell (p := ⟨b, _, none⟩) hb).trans x1
        replace y0 := ((dn_below HW.out).cell (p := ⟨b', _, none⟩) hb').trans y0
        replace y1 := ((dn_below HW.out).cell (p := ⟨b', _, none⟩) hb').trans y1
        by_cases hkd : t.kind = t'.kind
        · have dk : (t.kind != t'.kind) = false := by rw [hkd]; simp
          by_cases htx : t.text = t'.text
          · have dt : (t.text != t'.text) = false := by rw [htx]; simp
            have dt2 : (t.text == t'.text) = true := by rw [htx]; simp
            have HNK := Lib.hid (same_step ht ht' (by rw [hkd, htx]; simp) HK.out)
            clear ht ht' hE hkd htx
            go_wp2_with fail
            go_quiet (fail)
            have HW2 := Lib.hid (dn_more HW.out nq)
            go_wp2_with fail
            go_roundg (l.length - (k + 1))
            case rel => exact ⟨k + 1, by omega, rfl, HNK, HW2, rfl⟩
            case measure => omega
          · have dt : (t.text != t'.text) = true := bne_iff_ne.2 htx
            have dt2 : (t.text == t'.text) = false := beq_eq_false_iff_ne.2 htx
            have HX := Lib.hid (same_false_at ht ht' (by rw [dt2, Bool.and_false]))
            clear ht ht' hE hkd htx
            go_wp2_with fail
            go_quiet (fail)
            have HW2 := Lib.hid (dn_more HW.out nq)
            go_wp2_with fail
            refine bodyPost_ret (v := .bool false) ?_ rfl ⟨by rw [HX.out], HW2.out⟩
            simp [results, Tryz.results25, go_sem]
        · have dk : (t.kind != t'.kind) = true := bne_iff_ne.2 hkd
          have HX := Lib.hid (same_false_at ht ht' (by rw [beq_eq_false_iff_ne.2 hkd, Bool.false_and]))
          clear ht ht' hE hkd
          go_wp2_with fail
          go_quiet (fail)
          have HW2 := Lib.hid (dn_more HW.out nq)
          go_wp2_with fail
          refine bodyPost_ret (v := .bool false) ?_ rfl ⟨by rw [HX.out], HW2.out⟩
          simp [results, Tryz.results25, go_sem]
  · have dl : ((l.length : Int) != (l'.length : Int)) = true := bne_iff_ne.2 (by omega)
    have HX := Lib.hid (same_false_len hl)
    clear hl
    go_enter Tryz.func25, Tryz.ntmps25
    go_wp2_with fail
    refine bodyPost_ret (v := .bool false) ?_ rfl ⟨by rw [HX.out], 0, rfl⟩
    simp [results, Tryz.results25, go_sem]

set_option maxHeartbeats 4000000 in
set_option maxRecDepth 100000 in
/-- Placed, where the lists are equal. -/
theorem placed_c (l : List Lx.Tk) (o o' : Option Addr) (c c' : Nat) (w : World) (h : TokAt w o l) (h' : TokAt w o' l) (hn : l.length ≤ 1000000) :
    Calls Tryz.prog 11 #[.slice o l.length c, .slice o' l.length c'] w fun e w' => e = .returned (.bool true) ∧ ∃ q, w' = w.drewN q := by
  have hsm := refSame_c l l o o' c c' w h h' hn
  rw [show Lx.same l l = true from decide_eq_true rfl] at hsm
  have HSm := Lib.hid hsm
  have HA := Lib.hid h
  have HB := Lib.hid h'
  clear h h' hsm
  go_enter Tryz.func11, Tryz.ntmps11
  go_wp2_with fail
  refine HSm.out.mono ?_
  rintro e w1 ⟨rfl, hb1⟩
  have HB1 := Lib.hid hb1
  clear hb1 HSm
  go_wp2_with fail
  go_loopg [5] l.length (fun g i wr => ∃ k : Nat, k ≤ l.length ∧ i = .int .i64 k ∧ Hid (∃ q, wr = w.drewN q) ∧ g = l.length - k)
  case atStart => exact ⟨0, Nat.zero_le _, rfl, HB1, rfl⟩
  case round =>
    obtain ⟨k, hk, rfl, HW, hg⟩ := hrel
    by_cases hE : k = l.length
    · have dE : decide ((k : Int) < (l.length : Int)) = false := decide_eq_false (by omega)
      have HE := Lib.hid hE
      clear hE
      go_wp2_with fail
      all_goals (try (exfalso; have := HE.out; omega))
      refine bodyPost_ret (v := .bool true) ?_ rfl ⟨rfl, HW.out⟩
      simp [results, Tryz.results11, go_sem]
    · have hlt : k < l.length := by omega
      have dE : decide ((k : Int) < (l.length : Int)) = true := decide_eq_true (by omega)
      obtain ⟨t, ht⟩ : ∃ t, l[k]? = some t := ⟨_, List.getElem?_eq_getElem hlt⟩
      obtain ⟨b, a, rfl, hb, -, -, x2, x3⟩ := HA.out k t ht
      obtain ⟨b', a', rfl, hb', -, -, y2, y3⟩ := HB.out k t ht
      replace x2 := ((dn_below HW.out).cell (p := ⟨b, _, none⟩) hb).trans x2
      replace x3 := ((dn_below HW.out).cell (p := ⟨b, _, none⟩) hb).trans x3
      replace y2 := ((dn_below HW.out).cell (p := ⟨b', _, none⟩) hb').trans y2
      replace y3 := ((dn_below HW.out).cell (p := ⟨b', _, none⟩) hb').trans y3
      clear ht hE
      have d2 : (t.line != t.line) = false := by simp
      have d3 : (t.col != t.col) = false := by simp
      go_wp2_with fail
      go_quiet (fail)
      have HW2 := Lib.hid (dn_more HW.out nq)
      go_wp2_with fail
      go_roundg (l.length - (k + 1))
      case rel => exact ⟨k + 1, by omega, rfl, HW2, rfl⟩
      case measure => omega
end Go.Proofs.YtcjcbhdildcceaaGreatDoor
