/- Contracts of reading's deferred literal and of byteKinds of package lex. Conditions: those in the statements. -/
import Derived.Test.YtcjcbhdildcceaaGreatDoorLexV
import Derived.Defers
import Derived.Recover
import Derived.Laws.EntriesVeiled
namespace Go.Proofs.YtcjcbhdildcceaaGreatDoor
open Go.RowKit

theorem assert_hit (T : TypeId) (v : Value) (w : World) : (Instr.typeAssert (.iface 94 v) T 94 true).run Tryz.prog w = .ok (.tuple #[v, .bool true]) w := by kernel_rfl
theorem assert_nil (T : TypeId) (w : World) : (Instr.typeAssert .nilIface T 94 true).run Tryz.prog w = .ok (.tuple #[.agg #[.int .i64 0, .int .i64 0], .bool false]) w := by kernel_rfl

/-- Two variables have been written; the blocks below stay but for those two. -/
structure Two (Eb Ib : Nat) (c ix : Nat) (w w' : World) : Prop where
  c0 : w'.cell? ⟨Eb, 0, none⟩ = some (.int .i64 c)
  c1 : w'.cell? ⟨Ib, 0, none⟩ = some (.int .i64 ix)
  os : w'.os = w.os
  tape : w'.tape = w.tape
  output : w'.output = w.output
  size : w.heap.size ≤ w'.heap.size
  block : ∀ k, k < w.heap.size → k ≠ Eb → k ≠ Ib → w'.heap[k]? = w.heap[k]?

set_option maxHeartbeats 4000000 in
set_option maxRecDepth 100000 in
theorem caught_c (Eb Ib c ix : Nat) (x y : Value) (older : List PanicEntry) (w : World) (hE : w.cell? ⟨Eb, 0, none⟩ = some x) (hI : w.cell? ⟨Ib, 0, none⟩ = some y)
    (hEf : w.frozen? ⟨Eb, 0, none⟩ = false) (hIf : w.frozen? ⟨Ib, 0, none⟩ = false) (hne : Eb ≠ Ib) :
    CallsD Tryz.prog 68 #[.pointer (some ⟨Eb, 0, none⟩), .pointer (some ⟨Ib, 0, none⟩)] (.panicking ({ v := faultV c ix, recovered := false } :: older)) w fun e u' w' =>
      e = .returned (.tuple #[]) ∧ u' = .panicking ({ v := faultV c ix, recovered := true } :: older) ∧ Two Eb Ib c ix w w' := by
  refine callsD_of_wpS Tryz.func68 rfl fun c₀ cs hu => ?_
  unfold faultV at hu ⊢
  simp only [Tryz.ntmps68, List.size_toArray, List.length_cons, List.length_nil, Nat.reduceAdd, Nat.reduceSub, Array.replicate_succ, Array.replicate_zero, List.push_toArray, List.append_toArray, List.nil_append, List.cons_append]
  apply wpS_seq
  apply wpS_region
  simp [wpOpsS, go_sem, recoverD, hu, Exit.thenS, assert_hit]
  refine wpS_of_wp ?_
  have hEb : Eb < w.heap.size := World.block_lt_of_cell? _ _ hE
  have hIb : Ib < w.heap.size := World.block_lt_of_cell? _ _ hI
  have xE : ∀ o : Obj, (w.alloc o).cell? ⟨Eb, 0, none⟩ = some x := fun o => (World.cell?_alloc_past _ _ _ hEb).trans hE
  have xI : ∀ o : Obj, (w.alloc o).cell? ⟨Ib, 0, none⟩ = some y := fun o => (World.cell?_alloc_past _ _ _ hIb).trans hI
  have fE : ∀ o : Obj, (w.alloc o).frozen? ⟨Eb, 0, none⟩ = false := fun o => (((Below.refl w.heap.size w).alloc (Nat.le_refl _) o).frozen hEb).trans hEf
  have fI : ∀ o : Obj, (w.alloc o).frozen? ⟨Ib, 0, none⟩ = false := fun o => (((Below.refl w.heap.size w).alloc (Nat.le_refl _) o).frozen hIb).trans hIf
  have n1 : (⟨Eb, 0, none⟩ : Addr) ≠ ⟨Ib, 0, none⟩ := fun e => hne (by injection e)
  have n2 : (⟨Eb, 0, none⟩ : Addr) ≠ ⟨w.heap.size, 0, none⟩ := fun e => by injection e; omega
  have n3 : (⟨Ib, 0, none⟩ : Addr) ≠ ⟨w.heap.size, 0, none⟩ := fun e => by injection e; omega
  have n4 : (⟨Eb, 0, none⟩ : Addr) ≠ ⟨w.heap.size, 1, none⟩ := fun e => by injection e; omega
  have n5 : (⟨Ib, 0, none⟩ : Addr) ≠ ⟨w.heap.size, 1, none⟩ := fun e => by injection e; omega
  have hu := Lib.hid hu
  go_wp2_with fail
  go_region
  refine ⟨rfl, _, rfl, .tuple #[], results_none rfl _ _ _, rfl, rfl, ?_⟩
  refine ⟨?_, ?_, rfl, rfl, rfl, ?_, ?_⟩
  · rw [World.cell?_drew, World.cell?_alloc_past _ _ _ (by simpa [World.setCell] using hEb), World.cell?_setCell_other _ _ _ _ (Ne.symm n1), World.cell?_setCell_same' _ _ _ (by rw [hE]; rfl)]
  · rw [World.cell?_drew, World.cell?_alloc_past _ _ _ (by simpa [World.setCell] using hIb), World.cell?_setCell_same' _ _ _ (by rw [World.cell?_setCell_other _ _ _ _ n1, hI]; rfl)]
  · simp [World.setCell, World.drew]
  · intro k hk h1 h2
    have e1 : ∀ W : World, W.drew.heap = W.heap := fun _ => rfl
    rw [e1, Below.heap_alloc _ _ _ (by simpa [World.setCell] using hk), Below.heap_setCell _ _ _ _ (by show k ≠ Ib; exact h2), Below.heap_setCell _ _ _ _ (by show k ≠ Eb; exact h1)]

theorem idle_c (p q : Value) (w : World) :
    CallsD Tryz.prog 68 #[p, q] .returning w fun e u' w' => e = .returned (.tuple #[]) ∧ u' = .returning ∧ ∃ o, w' = w.alloc o := by
  refine callsD_of_wpS Tryz.func68 rfl fun c₀ cs hu => ?_
  simp only [Tryz.ntmps68, List.size_toArray, List.length_cons, List.length_nil, Nat.reduceAdd, Nat.reduceSub, Array.replicate_succ, Array.replicate_zero, List.push_toArray, List.append_toArray, List.nil_append, List.cons_append]
  apply wpS_seq
  apply wpS_region
  simp [wpOpsS, go_sem, recoverD, hu, Exit.thenS, assert_nil]
  refine wpS_of_wp ?_
  have hu0 := Lib.hid hu
  go_wp2_with fail
  refine ⟨rfl, .returning, ?_, .tuple #[], results_none rfl _ _ _, rfl, rfl, _, rfl⟩
  have := hu0.out
  cases c₀
  simp_all

def kindsV : Value := .agg #[.func (.func 81) #[] #[], .func (.func 82) #[] #[], .func (.func 83) #[] #[], .func (.func 84) #[] #[], .func (.func 86) #[] #[], .func (.func 87) #[] #[], .func (.func 88) #[] #[]]
theorem byteKinds_c (w : World) : Calls Tryz.prog 60 #[] w fun e w' => e = .returned kindsV ∧ ∃ o, w' = w.alloc o := by
  go_enter Tryz.func60, Tryz.ntmps60
  go_wp2_with fail
  refine bodyPost_ret (v := kindsV) ?_ rfl ⟨rfl, _, rfl⟩
  simp [kindsV, results, Tryz.results60, go_sem]
end Go.Proofs.YtcjcbhdildcceaaGreatDoor
