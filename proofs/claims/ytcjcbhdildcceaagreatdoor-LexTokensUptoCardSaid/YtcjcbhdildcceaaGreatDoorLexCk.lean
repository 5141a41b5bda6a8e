/- Contracts of Check and of Edit's and Token's function literals of package lex. Conditions: those in the statements. -/
import Derived.Test.YtcjcbhdildcceaaGreatDoorLexRs
import Derived.Test.YtcjcbhdildcceaaGreatDoorLexRg
namespace Go.Proofs.YtcjcbhdildcceaaGreatDoor
open Go.RowKit

set_option maxHeartbeats 2000000 in
theorem check_c (l : List Lx.Tk) (o : Option Addr) (c : Nat) (w : World) (h : TokAt w o l) (hn : l.length ≤ 1000000) (hl : ∀ t ∈ l, t.text.length ≤ 100000000) :
    Calls Tryz.prog 20 #[.slice o l.length c] w fun e w' => e = .returned (.int .i64 (Lx.check l)) ∧ Below w.heap.size w w' := by
  have hr := runTok_c 46 #[] #[] Lx.Tk.right l o c w hn h (enters_of Tryz.func46 (by kernel_rfl) rfl) (fun t W ht _ => right_c t.kind t.text t.line t.col W (hl t ht))
  have HR := Lib.hid hr
  clear hr h hl
  by_cases h6 : 6000 < l.length
  · have d6 : decide ((6000 : Int) < (l.length : Int)) = true := decide_eq_true (by omega)
    have HX := Lib.hid (show Lx.check l = 2 from if_pos h6)
    clear h6
    go_enter Tryz.func20, Tryz.ntmps20
    go_wp2_with fail
    all_goals (try (exfalso; have := of_decide_eq_true d6; omega))
    refine bodyPost_ret (v := .int .i64 2) ?_ rfl ⟨by rw [HX.out]; rfl, Below.refl _ _⟩
    simp [results, Tryz.results20, go_sem]
  · have d6 : decide ((6000 : Int) < (l.length : Int)) = false := decide_eq_false (by omega)
    by_cases h7 : (l.takeWhile Lx.Tk.right).length < l.length
    · have HX := Lib.hid (show Lx.check l = 13 by unfold Lx.check; rw [if_neg h6, if_pos h7])
      generalize (l.takeWhile Lx.Tk.right).length = q at *
      clear h6
      go_enter Tryz.func20, Tryz.ntmps20
      go_wp2_with (go_at_call 45; refine HR.out.mono ?_; rintro e w' ⟨rfl, hb⟩)
      all_goals (try (exfalso; have := of_decide_eq_false d6; omega))
      refine bodyPost_ret (v := .int .i64 13) ?_ rfl ⟨by rw [HX.out]; rfl, hb⟩
      simp [results, Tryz.results20, go_sem]
    · have HX := Lib.hid (show Lx.check l = 0 by unfold Lx.check; rw [if_neg h6, if_neg h7])
      generalize (l.takeWhile Lx.Tk.right).length = q at *
      clear h6
      go_enter Tryz.func20, Tryz.ntmps20
      go_wp2_with (go_at_call 45; refine HR.out.mono ?_; rintro e w' ⟨rfl, hb⟩)
      all_goals (try (exfalso; have := of_decide_eq_false d6; omega))
      refine bodyPost_ret (v := .int .i64 0) ?_ rfl ⟨by rw [HX.out]; rfl, hb⟩
      simp [results, Tryz.results20, go_sem]

theorem edit1_c (t : Lx.Sp) (F : Nat) (from_ : Int) (w : World) (h : w.cell? ⟨F, 0, none⟩ = some (.int .i64 from_)) :
    Calls Tryz.prog 53 #[t.val, .pointer (some ⟨F, 0, none⟩)] w fun e w' => e = .returned (.bool (decide ((t.to : Int) < from_))) ∧ Below w.heap.size w w' := by
  have hF : F < w.heap.size := World.block_lt_of_cell? _ _ h
  have hF1 : ∀ o : Obj, (w.alloc o).cell? ⟨F, 0, none⟩ = some (.int .i64 from_) := fun o => (World.cell?_alloc_past _ _ _ hF).trans h
  unfold Lx.Sp.val
  go_enter Tryz.func53, Tryz.ntmps53
  go_wp2_with fail
  refine bodyPost_ret (v := .bool (decide ((t.to : Int) < from_))) ?_ rfl ⟨rfl, (Below.refl _ w).alloc (Nat.le_refl _) _⟩
  simp [results, Tryz.results53, go_sem]
theorem edit2_c (t : Lx.Sp) (F : Nat) (to_ : Int) (w : World) (h : w.cell? ⟨F, 0, none⟩ = some (.int .i64 to_)) :
    Calls Tryz.prog 54 #[t.val, .pointer (some ⟨F, 0, none⟩)] w fun e w' => e = .returned (.bool (decide ((t.frm : Int) < to_))) ∧ Below w.heap.size w w' := by
  have hF : F < w.heap.size := World.block_lt_of_cell? _ _ h
  have hF1 : ∀ o : Obj, (w.alloc o).cell? ⟨F, 0, none⟩ = some (.int .i64 to_) := fun o => (World.cell?_alloc_past _ _ _ hF).trans h
  unfold Lx.Sp.val
  go_enter Tryz.func54, Tryz.ntmps54
  go_wp2_with fail
  refine bodyPost_ret (v := .bool (decide ((t.frm : Int) < to_))) ?_ rfl ⟨rfl, (Below.refl _ w).alloc (Nat.le_refl _) _⟩
  simp [results, Tryz.results54, go_sem]
theorem token1_c (t : Lx.Sp) (F : Nat) (ix : Int) (w : World) (h : w.cell? ⟨F, 0, none⟩ = some (.int .i64 ix)) :
    Calls Tryz.prog 32 #[t.val, .pointer (some ⟨F, 0, none⟩)] w fun e w' => e = .returned (.bool (decide ((t.to : Int) ≤ ix))) ∧ Below w.heap.size w w' := by
  have hF : F < w.heap.size := World.block_lt_of_cell? _ _ h
  have hF1 : ∀ o : Obj, (w.alloc o).cell? ⟨F, 0, none⟩ = some (.int .i64 ix) := fun o => (World.cell?_alloc_past _ _ _ hF).trans h
  unfold Lx.Sp.val
  go_enter Tryz.func32, Tryz.ntmps32
  go_wp2_with fail
  refine bodyPost_ret (v := .bool (decide ((t.to : Int) ≤ ix))) ?_ rfl ⟨rfl, (Below.refl _ w).alloc (Nat.le_refl _) _⟩
  simp [results, Tryz.results32, go_sem]
end Go.Proofs.YtcjcbhdildcceaaGreatDoor
