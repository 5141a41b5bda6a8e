/- Contract of compare of package big. Conditions: those in the statements. -/
import Derived.Test.YthbfbpbppjkoeaaGreatDoorBigE
namespace Go.Proofs.YthbfbpbppjkoeaaGreatDoor
open Go.RowKit Go.Shelf

set_option maxHeartbeats 1000000 in
theorem compare_len (o o' : Option Addr) (c c' n m : Nat) (w : World) (hne : (Bg.ds n).length ≠ (Bg.ds m).length) :
    Calls Tryz.prog 83 #[.slice o (Bg.ds n).length c, .slice o' (Bg.ds m).length c'] w fun e w' => e = .returned (.int .i64 (Bg.cmpN n m)) ∧ Below w.heap.size w w' := by
  have hc := Bg.cmpN_len hne
  have d : (((Bg.ds n).length : Int) != ((Bg.ds m).length : Int)) = true := by rw [bne_iff_ne]; omega
  have HC := Lib.hid hc
  have hcp : Lib.compareInt ((Bg.ds n).length : Int) ((Bg.ds m).length : Int) = Bg.cmpN n m := hc
  have HP := Lib.hid hcp
  generalize (Bg.ds n).length = x at *
  generalize (Bg.ds m).length = y at *
  clear hc hcp hne HC
  go_enter Tryz.func83, Tryz.ntmps83
  go_wp2_with (go_at_call 104; refine (Tryz.cmp_Compare_int _ _ _).mono ?_; rintro e w' ⟨rfl, rfl⟩)
  refine bodyPost_ret (v := .int .i64 (Bg.cmpN n m)) ?_ rfl ⟨rfl, ?_⟩
  · rw [HP.out]; simp [results, Tryz.results83, go_sem]
  · exact ((Below.refl _ w).alloc (Nat.le_refl _) _).alloc (by simp) _

attribute [local go_sem] Oper.semAt_some

theorem bk_mem (n k : Nat) (j : Fin n) (h : n ≤ j.val + k) : j ∈ (bk n).take k := by
  refine List.mem_of_getElem? (i := n - 1 - j.val) ?_
  rw [List.getElem?_take, if_pos (by have := j.isLt; omega), bk_get n _ (by have := j.isLt; omega)]
  congr 1
  apply Fin.ext
  have := j.isLt
  simp
  omega
/-- Digits that have come are alike. -/
def Alike (n m : Nat) (pre : List (Fin (Bg.ds n).length)) : Prop := ∀ i ∈ pre, n / 1000000 ^ i.val % 1000000 = m / 1000000 ^ i.val % 1000000

set_option maxRecDepth 100000 in
set_option maxHeartbeats 4000000 in
theorem compare_in (o o' : Option Addr) (c c' n m : Nat) (w : World) (hL : (Bg.ds n).length = (Bg.ds m).length) (hl : (Bg.ds n).length ≤ 1000000) (h : IntAt w o (Bg.ds n)) (h' : IntAt w o' (Bg.ds m)) :
    CallsIn Fence.wide 6 Tryz.prog 83 #[.slice o (Bg.ds n).length c, .slice o' (Bg.ds n).length c'] w fun e w' => e = .returned (.int .i64 (Bg.cmpN n m)) ∧ Below w.heap.size w w' := by
  have HL := Lib.hid hL
  have H1 := Lib.hid h
  have H2 := Lib.hid h'
  clear hL h h'
  refine callsIn_of_wp_marks Tryz.func83 rfl trivial ?_ rfl
  simp only [Tryz.ntmps83, List.size_toArray, List.length_cons, List.length_nil, Nat.reduceAdd, Nat.reduceSub, Array.replicate_succ, Array.replicate_zero, List.push_toArray, List.append_toArray, List.nil_append, List.cons_append]
  have d0 : (((Bg.ds n).length : Int) != ((Bg.ds n).length : Int)) = false := by simp
  gi_wp2_with fail
  refine ⟨trivial, (backward_in Fence.wide _ trivial rfl _ _ _ _).mono ?_⟩
  rintro e w' ⟨rfl, rfl⟩
  gi_wp2_with fail
  have bE := ((Boxed.new w 59 (.slice o' (Bg.ds n).length c')).alloc (.cells #[.int .i64 0] 3)).alloc (.cells #[.slice o (Bg.ds n).length c] 59)
  have bR := (Boxed.new (w.alloc (.cells #[.slice o' (Bg.ds n).length c'] 59)) 3 (.int .i64 0)).alloc (.cells #[.slice o (Bg.ds n).length c] 59)
  have bS := Boxed.new ((w.alloc (.cells #[.slice o' (Bg.ds n).length c'] 59)).alloc (.cells #[.int .i64 0] 3)) 59 (.slice o (Bg.ds n).length c)
  rw [World.size_alloc] at bR
  rw [World.size_alloc, World.size_alloc] at bS
  have hB0 : Below w.heap.size w (((w.alloc (.cells #[.slice o' (Bg.ds n).length c'] 59)).alloc (.cells #[.int .i64 0] 3)).alloc (.cells #[.slice o (Bg.ds n).length c] 59)) := (((Below.refl _ w).alloc (Nat.le_refl _) _).alloc (by simp) _).alloc (by simp; omega) _
  have hsz2 : (((w.alloc (.cells #[.slice o' (Bg.ds n).length c'] 59)).alloc (.cells #[.int .i64 0] 3)).alloc (.cells #[.slice o (Bg.ds n).length c] 59)).heap.size = w.heap.size + 3 := by simp
  generalize ((w.alloc (.cells #[.slice o' (Bg.ds n).length c'] 59)).alloc (.cells #[.int .i64 0] 3)).alloc (.cells #[.slice o (Bg.ds n).length c] 59) = W2 at *
  have HE := Lib.hid bE
  have HR := Lib.hid bR
  have HS := Lib.hid bS
  have HB0 := Lib.hid hB0
  clear bE bR bS hB0
  refine wpIn_rangeFunc_ownG rfl (by decide) (gf := 126) (lb := #[.pointer (some ⟨w.heap.size + 1 + 1, 0, none⟩)]) rfl trivial (enters_of Tryz.func126 (by kernel_rfl) rfl)
    (backward_stops Fence.wide (6 - 1) trivial rfl (by decide) (w.heap.size + 1 + 1) w.heap.size o c (Bg.ds n) hl W2 HS.out.cell HS.out.lt (H1.out.mono HB0.out) H1.out.lt) (fun h k => h.trans k) (KeepB.b (by omega) (by omega)) (Below.refl _ _) (fun _ => rfl)
    (fun pre W => ((Boxed W w.heap.size 59 (.slice o' (Bg.ds n).length c') ∧ Boxed W (w.heap.size + 1) 3 (.int .i64 0)) ∧ Alike n m pre) ∧ Below w.heap.size w W)
    (fun c pre W => (c = .ret ∧ ∃ ini last, pre = ini ++ [last] ∧ Alike n m ini ∧ n / 1000000 ^ last.val % 1000000 ≠ m / 1000000 ^ last.val % 1000000 ∧ Boxed W (w.heap.size + 1) 3 (.int .i64 (Lib.compareInt ((n / 1000000 ^ last.val % 1000000 : Nat) : Int) ((m / 1000000 ^ last.val % 1000000 : Nat) : Int)))) ∧ Below w.heap.size w W)
    (OwnFrom.and (Own.from (fun s A B row hs hg hr => ⟨⟨hs.1.1.kept hg (fun e => by obtain ⟨o, ho, hc⟩ := hr _ e.symm; rw [show A.heap[w.heap.size]? = _ from hs.1.1] at ho; cases ho; cases hc), hs.1.2.kept hg (fun e => by obtain ⟨o, ho, hc⟩ := hr _ e.symm; rw [show A.heap[w.heap.size + 1]? = _ from hs.1.2] at ho; cases ho; cases hc)⟩, hs.2⟩) _) (ownFrom_below (Nat.le_refl _) (by omega)))
    (fun c => OwnFrom.and (Own.from (fun s A B row hs hg hr => by obtain ⟨hc, ini, last, e1, e2, e3, e4⟩ := hs; exact ⟨hc, ini, last, e1, e2, e3, e4.kept hg (fun e => by obtain ⟨o, ho, hc⟩ := hr _ e.symm; rw [show A.heap[w.heap.size + 1]? = _ from e4] at ho; cases ho; cases hc)⟩) _) (ownFrom_below (Nat.le_refl _) (by omega)))
    ⟨⟨⟨HE.out, HR.out⟩, fun i hi => by cases hi⟩, HB0.out⟩
    (fun x => { tmps := #[.slice o (Bg.ds n).length c, .slice o' (Bg.ds n).length c', undef, .pointer (some ⟨w.heap.size, 0, none⟩), .pointer (some ⟨w.heap.size + 1, 0, none⟩), .int .i64 (x.val : Int), .int .i64 ((Bg.ds n)[x.val]?.getD 0), .slice o (Bg.ds n).length c, .int .i64 ((Bg.ds n).length : Int), .slice o' (Bg.ds n).length c', .int .i64 ((Bg.ds n).length : Int), .bool false, undef, undef, undef, undef, undef, .slice o (Bg.ds n).length c, .func (.func 126) #[] #[.pointer (some ⟨w.heap.size + 1 + 1, 0, none⟩)], .int .i64 (x.val : Int), .int .i64 ((Bg.ds n)[x.val]?.getD 0), undef, undef, undef, undef, undef, undef, undef, undef, undef, undef, undef, undef], defers := [] }) ?assign ?body ?done ?stop
  case assign =>
    intro l x W K hK
    simp only [bkv]
    generalize (Bg.ds n)[x.val]?.getD 0 = v at *
    gi_wp2
    exact hK
  case body =>
    rintro l pre ⟨i, hi⟩ W ⟨⟨⟨hE, hR⟩, hA⟩, hB⟩ _
    have hd := Bg.ds_getD n i
    have hm := Bg.ds_get i m
    rw [if_pos (by have := HL.out; omega)] at hm
    obtain ⟨b', rfl, hb', hcell⟩ := H2.out i _ hm
    replace hcell := (hB.cell (p := ⟨b', i, none⟩) hb').trans hcell
    simp only [hd]
    obtain ⟨p, hp⟩ : ∃ p : Nat, n / 1000000 ^ i % 1000000 = p := ⟨_, rfl⟩
    obtain ⟨q, hq⟩ : ∃ q : Nat, m / 1000000 ^ i % 1000000 = q := ⟨_, rfl⟩
    rw [hq] at hcell
    rw [hp]
    have hi0 : (0 : Int) ≤ (i : Int) := by omega
    have hil : (i : Int) < ((Bg.ds n).length : Int) := by omega
    have hEc := hE.cell
    have hRf := hR.frozen
    have hRc := hR.cell
    have HP := Lib.hid hp
    have HQ := Lib.hid hq
    have HAl := Lib.hid hA
    have HBd := Lib.hid hB
    have HRb := Lib.hid hR
    have HEb := Lib.hid hE
    clear hd hm hp hq hA hB hR hE
    by_cases hpq : p = q
    · subst hpq
      have d1 : ((p : Int) != (p : Int)) = false := by simp
      gi_wp2
      refine ⟨KeepsFrom.refl _ _, KeepB.refl _ _ _, ⟨⟨HEb.out, HRb.out⟩, ?_⟩, HBd.out⟩
      intro j hj
      rcases List.mem_append.1 hj with hj | hj
      · exact HAl.out j hj
      · obtain rfl : j = ⟨i, hi⟩ := by simpa using hj
        exact HP.out.trans HQ.out.symm
    · have d1 : ((p : Int) != (q : Int)) = true := by rw [bne_iff_ne]; omega
      have HN := Lib.hid hpq
      clear hpq
      gi_wp2_with fail
      refine ⟨trivial, (CallsIn.inRound l (callsIn_wide.2 (Tryz.cmp_Compare_int _ _ _))).mono ?_⟩
      rintro e w' ⟨rfl, rfl⟩
      gi_wp2_with fail
      refine ⟨(KeepsOthers.setCell _ _ _).from _, ⟨rfl, pre, ⟨i, hi⟩, rfl, HAl.out, ?_, ?_⟩, HBd.out.setCell (p := ⟨w.heap.size + 1, 0, none⟩) (by simp) _⟩
      · have := HN.out; rw [HP.out, HQ.out]; exact this
      · rw [HP.out, HQ.out]; exact HRb.out.set _
  case done =>
    rintro D ys W hD rfl ⟨⟨⟨hE, hR⟩, hA⟩, hB⟩ hK
    have hRf := hR.frozen
    have hRc := hR.cell
    have HAl := Lib.hid hA
    have HBd := Lib.hid hB
    have HRb := Lib.hid hR
    have HK := Lib.hid hK
    have heq : Bg.cmpN n m = 0 := by
      have := Bg.agree_above n m (Bg.ds n).length (Bg.cmp_start HL.out) (Bg.ds n).length 0 (by omega) (fun j _ hj => hA ⟨j, hj⟩ (by simp [bk]))
      simp at this
      rw [this, Bg.cmpN_self]
    have HEq := Lib.hid heq
    clear hA hB hR hE hK heq
    gi_wp2_with fail
    have hK2 := (KeepsOthers.setCell W ⟨w.heap.size + 1, 0, none⟩ (.int .i64 0)).same D _ HK.out rfl
    refine ⟨by simp, .inl ⟨_, _, rfl, run_takeDeferred hK2, ?_⟩⟩
    have hc5 := cell_kept (HRb.out.set (.int .i64 0)).cell (grownBy_putObj' _ D (.deferred none)) (fun r e => by cases e; exact ⟨_, hK2, rfl⟩)
    refine ⟨.int .i64 (Bg.cmpN n m), ?_, rfl, (HBd.out.setCell (p := ⟨w.heap.size + 1, 0, none⟩) (by simp) _).trans (belowK_b (w := w) (Nat.le_refl _) _ D _ _ (by omega) hK2 rfl rfl)⟩
    rw [HEq.out]
    simp [results, Tryz.results83, go_sem, hc5]
  case stop =>
    rintro D c pre W hD ⟨k, hk, rfl⟩ ⟨⟨rfl, ini, last, e1, e2, e3, hR⟩, hB⟩ hK
    have hcm : Lib.compareInt ((n / 1000000 ^ last.val % 1000000 : Nat) : Int) ((m / 1000000 ^ last.val % 1000000 : Nat) : Int) = Bg.cmpN n m := by
      obtain ⟨k', rfl⟩ : ∃ k', k = k' + 1 := by
        cases k with
        | zero => simp at e1
        | succ k' => exact ⟨k', rfl⟩
      rw [bk_take _ _ (by omega)] at e1
      obtain ⟨e4, e5⟩ := List.append_inj' e1 rfl
      have e5 : (⟨(Bg.ds n).length - 1 - k', by omega⟩ : Fin (Bg.ds n).length) = last := by simpa using e5
      subst e4 e5
      refine Bg.cmpN_at (i := (Bg.ds n).length - 1 - k') ?_ rfl rfl e3
      exact Bg.agree_above n m (Bg.ds n).length (Bg.cmp_start HL.out) k' _ (by omega) (fun j h1 h2 => e2 ⟨j, h2⟩ (bk_mem _ _ _ (by simp; omega)))
    rw [hcm] at hR
    have HR2 := Lib.hid hR
    have HB2 := Lib.hid hB
    have HK := Lib.hid hK
    clear hR hB hK e1 e2 e3 hcm hk
    gi_wp2
    refine ⟨by simp, .inl ⟨_, _, rfl, run_takeDeferred HK.out, ?_⟩⟩
    have hc5 := cell_kept HR2.out.cell (grownBy_putObj' _ D (.deferred none)) (fun r e => by cases e; exact ⟨_, HK.out, rfl⟩)
    refine ⟨.int .i64 (Bg.cmpN n m), ?_, rfl, HB2.out.trans (belowK_b (w := w) (Nat.le_refl _) W D _ _ (by omega) HK.out rfl rfl)⟩
    simp [results, Tryz.results83, go_sem, hc5]

theorem compare_c (o o' : Option Addr) (c c' n m : Nat) (w : World) (hl : (Bg.ds n).length ≤ 1000000) (h : IntAt w o (Bg.ds n)) (h' : IntAt w o' (Bg.ds m)) :
    Calls Tryz.prog 83 #[.slice o (Bg.ds n).length c, .slice o' (Bg.ds m).length c'] w fun e w' => e = .returned (.int .i64 (Bg.cmpN n m)) ∧ Below w.heap.size w w' := by
  by_cases hne : (Bg.ds n).length = (Bg.ds m).length
  · have := callsIn_wide.1 (compare_in o o' c c' n m w hne hl h h')
    rw [← hne]
    exact this
  · exact compare_len o o' c c' n m w hne
end Go.Proofs.YthbfbpbppjkoeaaGreatDoor
