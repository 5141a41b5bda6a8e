/- Contract of dotMayStand of package lex. Conditions: those in the statement. -/
import Derived.Test.YtcjcbhdildcceaaGreatDoorLexSm
import Derived.Test.YtcjcbhdildcceaaGreatDoorLexW
namespace Go.Proofs.YtcjcbhdildcceaaGreatDoor
open Go.RowKit

set_option maxHeartbeats 4000000 in
set_option maxRecDepth 100000 in
theorem dot_c (l : List Lx.Tk) (o : Option Addr) (c i : Nat) (m : Int) (w : World) (h : TokAt w o l) (hm : w.cell? ⟨0, 0, none⟩ = some (.int .i64 m)) (hi : i < l.length) (hn : l.length ≤ 1000000)
    (hl : ∀ t ∈ l, t.text.length < 1000000000) (hne : ∀ t, l[i + 1]? = some t → Lx.spell t.kind t.text ≠ []) :
    Calls Tryz.prog 36 #[.slice o l.length c, .int .i64 i] w fun e w' => e = .returned (.bool (Lx.dotMay l i)) ∧ Below w.heap.size w w' := by
  have hg : 0 < w.heap.size := World.block_lt_of_cell? _ _ hm
  by_cases h0 : i = 0
  · have HX := Lib.hid (show Lx.dotMay l i = false from if_pos (.inl h0))
    subst h0
    go_enter Tryz.func36, Tryz.ntmps36
    go_wp2_with fail
    refine bodyPost_ret (v := .bool false) ?_ rfl ⟨by rw [HX.out], Below.refl _ _⟩
    simp [results, Tryz.results36, go_sem]
  · have d0 : ((i : Int) == 0) = false := beq_eq_false_iff_ne.2 (by omega)
    by_cases h1 : i + 1 = l.length
    · have d1 : ((i : Int) + 1 == (l.length : Int)) = true := beq_iff_eq.2 (by omega)
      have HX := Lib.hid (show Lx.dotMay l i = false from if_pos (.inr h1))
      clear h1 h0
      go_enter Tryz.func36, Tryz.ntmps36
      go_wp2_with fail
      refine bodyPost_ret (v := .bool false) ?_ rfl ⟨by rw [HX.out], Below.refl _ _⟩
      simp [results, Tryz.results36, go_sem]
    · have d1 : ((i : Int) + 1 == (l.length : Int)) = false := beq_eq_false_iff_ne.2 (by omega)
      obtain ⟨a, ha⟩ : ∃ a, l[i - 1]? = some a := ⟨_, List.getElem?_eq_getElem (by omega)⟩
      obtain ⟨t, ht⟩ : ∃ t, l[i + 1]? = some t := ⟨_, List.getElem?_eq_getElem (by omega)⟩
      have HX := Lib.hid (show Lx.dotMay l i = (a.kind == 1 && Lx.joined ((Lx.spell t.kind t.text).headD 0)) by unfold Lx.dotMay; rw [if_neg (by omega), ha, ht])
      obtain ⟨b, q, rfl, hb, x0, -, -, -⟩ := h _ a ha
      obtain ⟨b', q', e', hb', y0, y1, y2, y3⟩ := h _ t ht
      injection e' with e'
      injection e' with e1 e2 e3
      subst e1 e2
      obtain ⟨k, rfl⟩ : ∃ k, i = k + 1 := ⟨i - 1, by omega⟩
      rw [Nat.add_sub_cancel] at x0
      replace d0 : ((k : Int) + 1 == 0) = false := beq_eq_false_iff_ne.2 (by omega)
      replace d1 : ((k : Int) + 1 + 1 == (l.length : Int)) = false := beq_eq_false_iff_ne.2 (by omega)
      have hs1 : IntKind.i64.wrap (((k + 1 : Nat) : Int) - 1) = (k : Int) := by
        rw [show (((k + 1 : Nat) : Int) - 1) = (k : Int) by omega]
        exact IntWalk.i64_in _ (by omega)
      have hi2 : k + 1 + 1 < l.length := by omega
      have HNE := Lib.hid (hne t ht)
      have HLt := Lib.hid (hl t (List.mem_of_getElem? ht))
      have HM := Lib.hid hm
      clear h0 h1 h hm hl hne ha ht
      by_cases hk : a.kind = 1
      · have dk : (a.kind != 1) = false := by rw [hk]; rfl
        go_enter Tryz.func36, Tryz.ntmps36
        go_wp2_with (go_at_call 60; refine (byteKinds_c _).mono ?_; rintro e w' ⟨rfl, oo, rfl⟩; unfold kindsV)
        have hx := heap_two_snd w oo (.cells #[.func (.func 81) #[] #[], .func (.func 82) #[] #[], .func (.func 83) #[] #[], .func (.func 84) #[] #[], .func (.func 86) #[] #[], .func (.func 87) #[] #[], .func (.func 88) #[] #[]] 100)
        have hb2 : Below w.heap.size w ((w.alloc oo).alloc (.cells #[.func (.func 81) #[] #[], .func (.func 82) #[] #[], .func (.func 83) #[] #[], .func (.func 84) #[] #[], .func (.func 86) #[] #[], .func (.func 87) #[] #[], .func (.func 88) #[] #[]] 100)) := ((Below.refl _ w).alloc (Nat.le_refl _) _).alloc (by simp) _
        generalize ((w.alloc oo).alloc (.cells #[.func (.func 81) #[] #[], .func (.func 82) #[] #[], .func (.func 83) #[] #[], .func (.func 84) #[] #[], .func (.func 86) #[] #[], .func (.func 87) #[] #[], .func (.func 88) #[] #[]] 100)) = w3 at *
        refine (spelling_c t.kind t.text t.line t.col m w3 HLt.out ((hb2.cell (p := ⟨0, 0, none⟩) hg).trans HM.out)).mono ?_
        rintro e w4 ⟨rfl, hb4⟩
        have hx4 := (hb4.block (w.heap.size + 1) (Array.getElem?_eq_some_iff.1 hx).1).trans hx
        have hks : KindsAt w4 (w.heap.size + 1) 0 := ⟨(Lib.cell_of_heap hx4 0).trans rfl, (Lib.cell_of_heap hx4 1).trans rfl, (Lib.cell_of_heap hx4 2).trans rfl, (Lib.cell_of_heap hx4 3).trans rfl, (Lib.cell_of_heap hx4 4).trans rfl, (Lib.cell_of_heap hx4 5).trans rfl, (Lib.cell_of_heap hx4 6).trans rfl⟩
        have HB4 := Lib.hid (hb2.trans (hb4.mono hb2.size))
        have HX := Lib.hid (HX.out.trans (by rw [hk]; rfl : _ = Lx.joined ((Lx.spell t.kind t.text).headD 0)))
        have hne := HNE.out
        generalize Lx.spell t.kind t.text = sp at *
        cases sp with
        | nil => exact absurd rfl hne
        | cons b0 r =>
          have HJ := Lib.hid (joined_c b0 (w.heap.size + 1) 0 w4 hks)
          simp only [List.headD_cons] at HX
          clear hx hb2 hb4 hx4 hks hne HNE
          go_wp2_with fail
          change Calls _ _ #[_, .int .u8 (b0.toNat : Int)] _ _
          refine HJ.out.mono ?_
          rintro e w5 ⟨rfl, rfl⟩
          go_wp2_with fail
          refine bodyPost_ret (v := .bool (Lx.joined b0)) ?_ rfl ⟨by rw [HX.out], HB4.out⟩
          simp [results, Tryz.results36, go_sem]
      · have dk : (a.kind != 1) = true := bne_iff_ne.2 hk
        have HX := Lib.hid (HX.out.trans (by rw [beq_eq_false_iff_ne.2 hk, Bool.false_and] : _ = false))
        clear hk
        go_enter Tryz.func36, Tryz.ntmps36
        go_wp2_with fail
        refine bodyPost_ret (v := .bool false) ?_ rfl ⟨by rw [HX.out], Below.refl _ _⟩
        simp [results, Tryz.results36, go_sem]
end Go.Proofs.YtcjcbhdildcceaaGreatDoor
