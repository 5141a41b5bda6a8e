/- Contract of divide's function literal of package lex: it collects the tokens. Conditions: those in the statement. -/
import Derived.Test.YtcjcbhdildcceaaGreatDoorLexU
import Derived.OwnWalk
import Derived.Maps.OwnIn
import Derived.Maps.AppendAt
namespace Go.Proofs.YtcjcbhdildcceaaGreatDoor
open Go.RowKit

theorem info_span : (Tryz.prog.info? 53).map (fun i => (i.zero, i.size, i.bytes)) = some (some (.agg #[.int .i64 0, .string ⟨#[]⟩, .int .i64 0, .int .i64 0, .int .i64 0, .int .i64 0]), 6, 56) := by kernel_rfl

def Lx.Sp.cells (t : Lx.Sp) : List Value := [.int .i64 t.kind, .string ⟨t.text.toArray⟩, .int .i64 t.line, .int .i64 t.col, .int .i64 t.frm, .int .i64 t.to]
/-- The cells of a list of tokens. -/
def spCells (l : List Lx.Sp) : List Value := l.flatMap Lx.Sp.cells
theorem spCells_snoc (l : List Lx.Sp) (t : Lx.Sp) : spCells (l ++ [t]) = spCells l ++ t.cells := by simp [spCells]

/-- A world but for two blocks that it had. -/
structure K2 (B L : Nat) (w w' : World) : Prop where
  os : w'.os = w.os
  tape : w'.tape = w.tape
  output : w'.output = w.output
  size : w.heap.size ≤ w'.heap.size
  block : ∀ k, k < w.heap.size → k ≠ B → k ≠ L → w'.heap[k]? = w.heap[k]?
theorem K2.grown {B L : Nat} {w W W' : World} (h : K2 B L w W) {row : Option Nat} (hg : W.grownBy W' row) (hr : ∀ b, row = some b → b = B ∨ b = L ∨ w.heap.size ≤ b) : K2 B L w W' where
  os := hg.os.trans h.os
  tape := hg.tape.trans h.tape
  output := hg.output.trans h.output
  size := Nat.le_trans h.size hg.size
  block := fun k hk h1 h2 => (hg.block k (Nat.lt_of_lt_of_le hk h.size) (fun e => by rcases hr k e.symm with h3 | h3 | h3 <;> omega)).trans (h.block k hk h1 h2)
theorem K2.of_below {B L : Nat} {w W : World} (h : Below w.heap.size w W) : K2 B L w W :=
  have g := grown_of_below h none
  ⟨g.os, g.tape, g.output, g.size, fun k hk _ _ => g.block k hk (fun e => by cases e)⟩

/-- Between two rounds: the loop's record and its block of deferred calls; the collected list. -/
structure DJ (B L l D base : Nat) (m : Int) (r : Loop) (w₀ : World) (pre : List Lx.Sp) (W : World) : Prop where
  loop : W.heap[l]? = some (.loop r)
  dfd : W.heap[D]? = some (.deferred (some []))
  gm : W.cell? ⟨0, 0, none⟩ = some (.int .i64 m)
  kept : K2 B L w₀ W
  row : ∃ v, W.cell? ⟨L, 0, none⟩ = some v ∧ W.ownsRow base 53 6 v pre.length (spCells pre)
  fz : W.frozen? ⟨L, 0, none⟩ = false
  size : base ≤ W.heap.size

theorem DJ.grownO {B L l D base : Nat} {m : Int} {r : Loop} {w₀ : World} {pre : List Lx.Sp} {W W' : World} (h : DJ B L l D base m r w₀ pre W) {row : Option Nat} (hg : W.grownBy W' row)
    (hr : ∀ b, row = some b → l ≠ b ∧ D ≠ b ∧ 0 ≠ b ∧ L ≠ b ∧ (b = B ∨ b = L ∨ w₀.heap.size ≤ b) ∧ b < base) : DJ B L l D base m r w₀ pre W' where
  loop := (hg.block _ (Array.getElem?_eq_some_iff.1 h.loop).1 (fun e => (hr _ e.symm).1 rfl)).trans h.loop
  dfd := (hg.block _ (Array.getElem?_eq_some_iff.1 h.dfd).1 (fun e => (hr _ e.symm).2.1 rfl)).trans h.dfd
  gm := hg.cell h.gm (fun e => (hr _ e.symm).2.2.1 rfl)
  kept := h.kept.grown hg (fun k e => (hr k e).2.2.2.2.1)
  row := by
    obtain ⟨v, hv, ho⟩ := h.row
    refine ⟨v, hg.cell hv (fun e => (hr _ e.symm).2.2.2.1 rfl), ho.kept hg ?_⟩
    cases hb : v.ownBlock with
    | none => exact .inl rfl
    | some g => exact .inr (fun e => by have := (ho.lt g hb).1; have := (hr g e.symm).2.2.2.2.2; omega)
  fz := by
    obtain ⟨v, hv, _⟩ := h.row
    exact (World.frozen?_of_block (hg.block L (World.block_lt_of_cell? _ _ hv) (fun e => (hr _ e.symm).2.2.2.1 rfl))).trans h.fz
  size := Nat.le_trans h.size hg.size
theorem DJ.grown {B L l D base : Nat} {m : Int} {r : Loop} {w₀ : World} {pre : List Lx.Sp} {W W' : World} (h : DJ B L l D base m r w₀ pre W) (hg : W.grownBy W' (some B))
    (h1 : l ≠ B) (h2 : D ≠ B) (h3 : 0 ≠ B) (h4 : L ≠ B) (h6 : B < base) : DJ B L l D base m r w₀ pre W' :=
  h.grownO hg (fun b e => by cases e; exact ⟨h1, h2, h3, h4, .inl rfl, h6⟩)
theorem DJ.below' {B L l D base : Nat} {m : Int} {r : Loop} {w₀ : World} {pre : List Lx.Sp} {W W' : World} (h : DJ B L l D base m r w₀ pre W) (hb : Below W.heap.size W W') : DJ B L l D base m r w₀ pre W' :=
  h.grownO (row := none) (grown_of_below hb _) (fun b e => by cases e)
theorem grown_put (w : World) (l : Nat) (o : Obj) : w.grownBy (w.putObj l o) (some l) :=
  ⟨rfl, rfl, rfl, by simp [World.putObj], fun k _ hk => World.putObj_heap_other (fun e => hk (by rw [e]))⟩
/-- The record turned. -/
theorem DJ.turn {B L l D base : Nat} {m : Int} {r : Loop} {w₀ : World} {pre : List Lx.Sp} {W : World} (h : DJ B L l D base m r w₀ pre W) (r' : Loop)
    (h2 : D ≠ l) (h3 : 0 ≠ l) (h4 : L ≠ l) (h5 : w₀.heap.size ≤ l) (h6 : l < base) : DJ B L l D base m r' w₀ pre (W.putObj l (.loop r')) := by
  have hg := grown_put W l (.loop r')
  exact { loop := World.putObj_heap_same (Array.getElem?_eq_some_iff.1 h.loop).1,
          dfd := (hg.block _ (Array.getElem?_eq_some_iff.1 h.dfd).1 (fun e => h2 (Option.some.inj e))).trans h.dfd,
          gm := hg.cell h.gm (fun e => h3 (Option.some.inj e)),
          kept := h.kept.grown hg (fun k e => by cases e; exact .inr (.inr h5)),
          row := by
            obtain ⟨v, hv, ho⟩ := h.row
            refine ⟨v, hg.cell hv (fun e => h4 (Option.some.inj e)), ho.kept hg ?_⟩
            cases hb : v.ownBlock with
            | none => exact .inl rfl
            | some g => exact .inr (fun e => by have := (ho.lt g hb).1; have := Option.some.inj e; omega)
          fz := by
            obtain ⟨v, hv, _⟩ := h.row
            exact (World.frozen?_of_block (hg.block L (World.block_lt_of_cell? _ _ hv) (fun e => h4 (Option.some.inj e)))).trans h.fz
          size := Nat.le_trans h.size hg.size }
theorem Rdr.grownO {B T cap : Nat} {s : List UInt8} {p : Lx.Place} {last : Lx.Sp} {W W' : World} (h : Rdr B T cap s p last W) {row : Option Nat} (hg : W.grownBy W' row) (h1 : row ≠ some B) (h2 : row ≠ some T) : Rdr B T cap s p last W' := by
  have c : ∀ {o x}, W.cell? ⟨B, o, none⟩ = some x → W'.cell? ⟨B, o, none⟩ = some x := fun e => hg.cell e (fun e => h1 e.symm)
  obtain ⟨k0, k1, k2, k3, k4, k5, k6⟩ := h.ks
  exact { ks := ⟨c k0, c k1, c k2, c k3, c k4, c k5, c k6⟩, ix := c h.ix, ln := c h.ln, bg := c h.bg, tx := c h.tx, lk := c h.lk, lt := c h.lt, ll := c h.ll, lc := c h.lc, lf := c h.lf, lto := c h.lto,
          fz := fun o => (World.frozen?_of_block (hg.block B (World.block_lt_of_cell? _ _ h.ix) (fun e => h1 e.symm))).trans (h.fz o),
          tc := fun j hj => hg.cell (h.tc j hj) (fun e => h2 e.symm),
          ne := h.ne, small := h.small, cap_le := h.cap_le, inside := h.inside, pat := h.pat }

theorem DJ.tail {B L l D base : Nat} {m : Int} {r : Loop} {w₀ : World} {pre : List Lx.Sp} {W : World} (h : DJ B L l D base m r w₀ pre W) (o : Obj)
    (h4 : L ≠ D) (h5 : w₀.heap.size ≤ D) (h6 : D < base) :
    K2 B L w₀ (W.putObj D o) ∧ ∃ v, (W.putObj D o).cell? ⟨L, 0, none⟩ = some v ∧ (W.putObj D o).ownsRow base 53 6 v pre.length (spCells pre) := by
  have hg := grown_put W D o
  refine ⟨h.kept.grown hg (fun k e => by cases e; exact .inr (.inr h5)), ?_⟩
  obtain ⟨v, hv, ho⟩ := h.row
  refine ⟨v, hg.cell hv (fun e => h4 (Option.some.inj e)), ho.kept hg ?_⟩
  cases hb : v.ownBlock with
  | none => exact .inl rfl
  | some g => exact .inr (fun e => by have := (ho.lt g hb).1; have := Option.some.inj e; omega)
/-- What divide's literal leaves. -/
def divEnd (r : List Lx.Sp × Option (Nat × Nat)) (B L base : Nat) (w₀ : World) (e : Ending) (w' : World) : Prop :=
  (match r.2 with
    | none => e = .returned (.tuple #[])
    | some x => e = panicE x.1 x.2) ∧ K2 B L w₀ w' ∧ ∃ v, w'.cell? ⟨L, 0, none⟩ = some v ∧ w'.ownsRow base 53 6 v r.1.length (spCells r.1)

/-- A range over a function at the wide fence, outermost, whose function may pass a panic up: what is left to show of the one call. -/
theorem range_law {F : Fence} {n : Nat} {P : Program} {g : Operand} {ps : Array Tmp} {assign body : Code} {Q : Exit → Act → World → Prop} {a : Act} {w : World} {gf : Nat} {recv : Array Value}
    (hro : F.round = none) (h1 : 1 ≤ n) (hg : a.eval g = .func (.func gf) recv #[]) (hFg : F.fn gf) (eg : ∀ args w, (callFunc gf args).run P w = .ok (.enter gf args) w)
    (hcall : ∀ (fn : FuncId) (rec : LoopState → Option Code → Loop), rec = (fun st pe => { state := st, pending := pe, fn, tmps := a.tmps, params := ps, assign, body, defers := w.heap.size }) →
      CallsIn F (n - 1) P gf (recv ++ #[.func (.yield (w.heap.size + 1)) #[] #[]]) ((w.alloc (.deferred (some []))).alloc (.loop (rec .ready none)))
        (rangePost F n P (w.heap.size + 1) Q { a with defers := { target := .collected w.heap.size, args := #[] } :: a.defers })) :
    (Code.rangeFunc g ps assign body).wpIn F n P Q a w := by
  refine wpIn_rangeFunc ?_
  intro fn hfn
  rw [hro]
  obtain ⟨rec, hrec⟩ : ∃ rec : LoopState → Option Code → Loop, rec = fun st pe => { state := st, pending := pe, fn, tmps := a.tmps, params := ps, assign, body, defers := w.heap.size } := ⟨_, rfl⟩
  have hc := hcall fn rec hrec
  obtain ⟨W1, hW1⟩ : ∃ W1, (w.alloc (.deferred (some []))).alloc (.loop (rec .ready none)) = W1 := ⟨_, rfl⟩
  rw [hW1] at hc
  refine ⟨w.heap.size + 1, [{ target := .collected w.heap.size, args := #[] }], W1, { target := .fn (.func gf) #[], args := recv ++ #[.func (.yield (w.heap.size + 1)) #[] #[]] }, W1, gf,
    recv ++ #[.func (.yield (w.heap.size + 1)) #[] #[]], W1, ?_, ?_, ?_, ?_, ?_, ?_⟩
  rotate_left 4
  · exact fun _ => h1
  · exact hc
  · rw [← hW1, hrec]; exact run_enterLoop_outer _ _ _ _ _
  · simp only [resolve, hg]
    simp [go_sem]
  · intro f' hf'; simp [Target.leads] at hf'; subst hf'; exact hFg
  · simp [invoke, go_sem, eg]

attribute [local go_sem] Oper.semAt_some

set_option maxHeartbeats 4000000 in
set_option maxRecDepth 100000 in
theorem divide1_c (B T L cap : Nat) (s : List UInt8) (m : Int) (w : World) (h : Rdr B T cap s (Lx.placeAt s 0) Lx.noSp w)
    (hm : w.cell? ⟨0, 0, none⟩ = some (.int .i64 m)) (hL : w.cell? ⟨L, 0, none⟩ = some (.slice none 0 0)) (hLf : w.frozen? ⟨L, 0, none⟩ = false)
    (hLB : L ≠ B) (hLT : L ≠ T) (hTs : T < w.heap.size) (hgB : 0 ≠ B) (hgL : 0 ≠ L)
    (h6 : (Lx.spans s).1.length ≤ 6000) :
    CallsIn Fence.wide 4 Tryz.prog 56 #[.pointer (some ⟨B, 0, none⟩), .pointer (some ⟨L, 0, none⟩)] w (divEnd (Lx.spans s) B L (w.heap.size + 2) w) := by
  have hBs : B < w.heap.size := World.block_lt_of_cell? _ _ h.ix
  have hLs : L < w.heap.size := World.block_lt_of_cell? _ _ hL
  have HR := Lib.hid h
  have HM := Lib.hid hm
  have HL := Lib.hid hL
  have HF := Lib.hid hLf
  have hgw : 0 < w.heap.size := World.block_lt_of_cell? _ _ hm
  clear h hm hL hLf
  refine callsIn_of_wp_marks Tryz.func56 rfl trivial ?_ rfl
  simp only [Tryz.ntmps56, List.size_toArray, List.length_cons, List.length_nil, Nat.reduceAdd, Nat.reduceSub, Array.replicate_succ, Array.replicate_zero, List.push_toArray, List.append_toArray, List.nil_append, List.cons_append]
  gi_wp2_with fail
  refine range_law (gf := 57) (recv := #[.pointer (some ⟨B, 0, none⟩)]) rfl (by decide) rfl trivial (enters_of Tryz.func57 (by kernel_rfl) rfl) ?_
  intro fn rec hrec
  have hb1 : Below w.heap.size w ((w.alloc (.deferred (some []))).alloc (.loop (rec .ready none))) := (((Below.refl _ w).alloc (Nat.le_refl _) _).alloc (by simp) _)
  have hR1 := HR.out.below hb1
  have hJ0 : DJ B L (w.heap.size + 1) w.heap.size (w.heap.size + 2) m (rec .ready none) w [] ((w.alloc (.deferred (some []))).alloc (.loop (rec .ready none))) :=
    { loop := heap_two_snd _ _ _, dfd := heap_two_fst _ _ _, gm := (hb1.cell (World.block_lt_of_cell? _ _ HM.out)).trans HM.out,
      kept := K2.of_below hb1,
      row := ⟨_, (hb1.cell hLs).trans HL.out, World.ownsRow_nil _ _ _ _⟩,
      fz := (hb1.frozen hLs).trans HF.out, size := by simp }
  have rA := congrArg Loop.assign (show rec .ready none = rec .ready none from rfl)
  have rB := congrArg Loop.body (show rec .ready none = rec .ready none from rfl)
  have rT := congrArg Loop.tmps (show rec .ready none = rec .ready none from rfl)
  have rP := congrArg Loop.params (show rec .ready none = rec .ready none from rfl)
  have rS := congrArg Loop.state (show rec .ready none = rec .ready none from rfl)
  have rN := congrArg Loop.pending (show rec .ready none = rec .ready none from rfl)
  conv at rA => lhs; rw [hrec]
  conv at rB => lhs; rw [hrec]
  conv at rT => lhs; rw [hrec]
  conv at rP => lhs; rw [hrec]
  conv at rS => lhs; rw [hrec]
  conv at rN => lhs; rw [hrec]
  dsimp only at rA rB rT rP rS rN
  generalize rec .ready none = r at *
  clear hrec
  generalize (w.alloc (.deferred (some []))).alloc (.loop r) = W1 at *
  have HA := Lib.hid rA
  have HBd := Lib.hid rB
  have HT := Lib.hid rT
  have HP := Lib.hid rP
  have HS := Lib.hid rS
  have HN := Lib.hid rN
  clear rA rB rT rP rS rN
  refine (spans_in (w.heap.size + 1) B T cap s.length 6000 s (Lx.placeAt s 0) Lx.noSp m (DJ B L (w.heap.size + 1) w.heap.size (w.heap.size + 2) m r w) hgB
    (fun pre W W' hj hg => hj.grown hg (by omega) (by omega) hgB hLB (by omega)) (fun pre W hj => hj.gm) ?round [] W1 hR1 hJ0 (Nat.le_trans (Nat.sub_le _ _) (Nat.le_refl _)) ?len).mono ?behind
  case len =>
    rw [placeAt_ix _ _ (Nat.zero_le _)]
    rw [List.length_nil, Nat.zero_add]
    exact h6
  case behind =>
    rw [placeAt_ix _ _ (Nat.zero_le _)]
    rintro e W2 ⟨hj, he⟩
    rw [List.nil_append] at hj
    change DJ B L (w.heap.size + 1) w.heap.size (w.heap.size + 2) m r w (Lx.spans s).1 W2 at hj
    change (match (Lx.spans s).2 with | none => e = .returned (.tuple #[]) | some x => e = panicE x.1 x.2) at he
    unfold divEnd
    cases hR : (Lx.spans s).2 with
    | none =>
      rw [hR] at he
      obtain rfl : e = .returned (.tuple #[]) := he
      have hS := HS.out
      have hk := hj.turn { r with state := .exhausted, pending := none } (by omega) (by omega) (by omega) (by omega) (by omega)
      refine ⟨none, _, (run_endLoop hj.loop (by rw [← hS]; simp)).trans (by rw [← HN.out]), ?_⟩
      refine ⟨by simp, .inl ⟨_, _, rfl, run_takeDeferred hk.dfd, ?_⟩⟩
      exact ⟨_, results_none rfl _ _ _, rfl, hk.tail _ (by omega) (by omega) (by omega)⟩
    | some x =>
      rw [hR] at he
      obtain rfl : e = panicE x.1 x.2 := he
      refine ⟨by simp, .inl ⟨_, _, rfl, run_takeDeferred hj.dfd, ?_⟩⟩
      exact ⟨rfl, hj.tail _ (by omega) (by omega) (by omega)⟩
  case round =>
    intro pre t p W hj hr hlen
    refine ⟨_, _, _, _, run_yield (args := #[t.val]) hj.loop (by rw [← HP.out]; rfl), ?_⟩
    rw [← HA.out, ← HBd.out, ← HT.out, ← HP.out]
    refine roundIn_of_wpIn trivial ?_
    have HJ := Lib.hid hj
    have HRd := Lib.hid hr
    clear hj hr hR1 hJ0
    have HV := Lib.hid (show t.val = _ from rfl)
    simp only [Lx.Sp.val] at HV ⊢
    gi_wp2_with fail
    have hB2 := HJ.out.size
    have hba : Below W.heap.size W (W.alloc (.cells #[.int .i64 t.kind, .string ⟨t.text.toArray⟩, .int .i64 t.line, .int .i64 t.col, .int .i64 t.frm, .int .i64 t.to] 53)) := (Below.refl _ W).alloc (Nat.le_refl _) _
    have hja := HJ.out.below' hba
    have hra := HRd.out.below hba
    have hxa : (W.alloc (.cells #[.int .i64 t.kind, .string ⟨t.text.toArray⟩, .int .i64 t.line, .int .i64 t.col, .int .i64 t.frm, .int .i64 t.to] 53)).heap[W.heap.size]? = some (.cells #[.int .i64 t.kind, .string ⟨t.text.toArray⟩, .int .i64 t.line, .int .i64 t.col, .int .i64 t.frm, .int .i64 t.to] 53) := World.alloc_heap_new _ _
    refine ⟨_, run_beginRound hja.loop HS.out.symm, ?_⟩
    have hjb := hja.turn { r with state := .busy } (by omega) (by omega) (by omega) (by omega) (by omega)
    have hrb := hra.grownO (grown_put _ (w.heap.size + 1) (.loop { r with state := .busy })) (fun e => by have := Option.some.inj e; omega) (fun e => by have := Option.some.inj e; omega)
    have hxb := ((grown_put _ (w.heap.size + 1) (.loop { r with state := .busy })).block W.heap.size (by simp) (fun e => by have := Option.some.inj e; omega)).trans hxa
    clear hja hra hxa hba
    have HNa : W.heap.size < ((W.alloc (.cells #[.int .i64 t.kind, .string ⟨t.text.toArray⟩, .int .i64 t.line, .int .i64 t.col, .int .i64 t.frm, .int .i64 t.to] 53)).putObj (w.heap.size + 1) (.loop { r with state := .busy })).heap.size := by simp
    generalize (W.alloc (.cells #[.int .i64 t.kind, .string ⟨t.text.toArray⟩, .int .i64 t.line, .int .i64 t.col, .int .i64 t.frm, .int .i64 t.to] 53)).putObj (w.heap.size + 1) (.loop { r with state := .busy }) = Wb at *
    obtain ⟨v, hv, ho⟩ := hjb.row
    obtain ⟨o, c, rfl⟩ : ∃ o c, v = .slice o pre.length c := by
      rcases ho.2 with ⟨rfl, h0⟩ | ⟨g, c, cur, rfl, _⟩
      · exact ⟨none, 0, by rw [h0]⟩
      · exact ⟨_, _, rfl⟩
    have hob : ∀ g, (Value.slice o pre.length c).ownBlock = some g → w.heap.size + 2 ≤ g := fun g e => (ho.lt g e).1
    have hfz := hjb.fz
    have d6 : ((pre.length : Int) == 6000) = false := beq_eq_false_iff_ne.2 (by omega)
    have e0 : Wb.cell? ⟨W.heap.size, 0, none⟩ = some (.int .i64 t.kind) := (Lib.cell_of_heap hxb 0).trans rfl
    have e1 : Wb.cell? ⟨W.heap.size, 1, none⟩ = some (.string ⟨t.text.toArray⟩) := (Lib.cell_of_heap hxb 1).trans rfl
    have e2 : Wb.cell? ⟨W.heap.size, 2, none⟩ = some (.int .i64 t.line) := (Lib.cell_of_heap hxb 2).trans rfl
    have e3 : Wb.cell? ⟨W.heap.size, 3, none⟩ = some (.int .i64 t.col) := (Lib.cell_of_heap hxb 3).trans rfl
    have e4 : Wb.cell? ⟨W.heap.size, 4, none⟩ = some (.int .i64 t.frm) := (Lib.cell_of_heap hxb 4).trans rfl
    have e5 : Wb.cell? ⟨W.heap.size, 5, none⟩ = some (.int .i64 t.to) := (Lib.cell_of_heap hxb 5).trans rfl
    have HJb := Lib.hid hjb
    have HRb := Lib.hid hrb
    have HOb := Lib.hid hob
    have HO := Lib.hid ho
    clear hjb hrb hxb hob ho HJ HRd
    obtain ⟨i0, hi, hz0, hz1, hz2⟩ := info_parts info_span
    have HCn : ∀ j u, t.cells[j]? = some u → (Wb.alloc (.cells #[.int .i64 t.kind, .string ⟨t.text.toArray⟩, .int .i64 t.line, .int .i64 t.col, .int .i64 t.frm, .int .i64 t.to] 53)).cell? ((⟨Wb.heap.size, 0, none⟩ : Addr).add j) = some u := by
      intro j u hj
      rw [show ((⟨Wb.heap.size, 0, none⟩ : Addr).add j) = ⟨Wb.heap.size, j, none⟩ from by unfold Addr.add; split <;> simp_all, Lib.cell_of_heap (World.alloc_heap_new _ _)]
      simpa [Lx.Sp.cells] using hj
    have HCn := Lib.hid HCn
    have H1c : ∀ u ∈ t.cells, u.oneCell' = true := by simp [Lx.Sp.cells, Value.oneCell']
    have H1c := Lib.hid H1c
    gi_wp2_with (gi_at_builtin; refine wpListIn_append_own _ rfl _ _ 49 rfl (w.heap.size + 2) 53 i0 _ 6 56 Tryz.underlying49 hi hz0 hz1 hz2 rfl (by decide) (.slice o pre.length c) pre.length (spCells pre) rfl (HO.out.alloc _) ⟨Wb.heap.size, 0, none⟩ 1 1 t.cells rfl rfl HCn.out H1c.out (by show _ ≤ 9223372036854775807; omega) (by omega) (by have := HJb.out.size; simp; omega) ?_; intro v' w1 hown' hgrow _; obtain ⟨g', cap', rfl⟩ := ownsRow_succ hown'; have hcL1 := hgrow.cell ((World.cell?_alloc_past _ _ _ (World.block_lt_of_cell? _ _ hv)).trans hv) (fun e => by have := HOb.out L e.symm; omega); have hfL1 : w1.frozen? ⟨L, 0, none⟩ = false := (World.frozen?_of_block (hgrow.block L (by have := World.block_lt_of_cell? _ _ hv; simp; omega) (fun e => by have := HOb.out L e.symm; omega))).trans ((((Below.refl Wb.heap.size Wb).alloc (Nat.le_refl _) _).frozen (World.block_lt_of_cell? _ _ hv)).trans hfz); have HOw := Lib.hid hown'; have HGw := Lib.hid hgrow; clear hown' hgrow)
    have hjd := HJb.out.below' ((Below.refl Wb.heap.size Wb).alloc (Nat.le_refl _) (.cells #[.int .i64 t.kind, .string ⟨t.text.toArray⟩, .int .i64 t.line, .int .i64 t.col, .int .i64 t.frm, .int .i64 t.to] 53))
    have hrd := HRb.out.below ((Below.refl Wb.heap.size Wb).alloc (Nat.le_refl _) (.cells #[.int .i64 t.kind, .string ⟨t.text.toArray⟩, .int .i64 t.line, .int .i64 t.col, .int .i64 t.frm, .int .i64 t.to] 53))
    have hg := HGw.out
    have hne : ∀ b, b < w.heap.size + 2 → some b ≠ (Value.slice o pre.length c).ownBlock := fun b hb e => by have := HOb.out b e.symm; omega
    have hg2 := grown_set w1 L 0 (Value.slice (some ⟨g', 0, none⟩) (pre.length + 1) cap')
    have hr1 := (hrd.grownO hg (fun e => hne B (by omega) e.symm) (fun e => hne T (by omega) e.symm)).grownO hg2 (fun e => hLB (Option.some.inj e)) (fun e => hLT (Option.some.inj e))
    have hgL' : g' ≠ L := by have := (HOw.out.lt g' rfl).1; omega
    have hj3 : DJ B L (w.heap.size + 1) w.heap.size (w.heap.size + 2) m { r with state := .busy } w (pre ++ [t]) (w1.setCell ⟨L, 0, none⟩ (Value.slice (some ⟨g', 0, none⟩) (pre.length + 1) cap')) :=
      { loop := (hg2.block _ (Nat.lt_of_lt_of_le (Array.getElem?_eq_some_iff.1 hjd.loop).1 hg.size) (fun e => by have := Option.some.inj e; omega)).trans ((hg.block _ (Array.getElem?_eq_some_iff.1 hjd.loop).1 (hne _ (by omega))).trans hjd.loop),
        dfd := (hg2.block _ (Nat.lt_of_lt_of_le (Array.getElem?_eq_some_iff.1 hjd.dfd).1 hg.size) (fun e => by have := Option.some.inj e; omega)).trans ((hg.block _ (Array.getElem?_eq_some_iff.1 hjd.dfd).1 (hne _ (by omega))).trans hjd.dfd),
        gm := hg2.cell (hg.cell hjd.gm (hne _ (by show 0 < _; omega))) (fun e => hgL (Option.some.inj e)),
        kept := (hjd.kept.grown hg (fun k e => by have := HOb.out k e; exact .inr (.inr (by omega)))).grown hg2 (fun k e => by cases e; exact .inr (.inl rfl)),
        row := ⟨_, World.cell?_setCell_same' _ _ _ (by rw [hcL1]; rfl), by
          rw [spCells_snoc, List.length_append]
          exact HOw.out.kept hg2 (.inr (fun e => hgL' (Option.some.inj e)))⟩,
        fz := (World.frozen?_setCell _ _ _ _).trans hfL1,
        size := Nat.le_trans hjd.size (Nat.le_trans hg.size hg2.size) }
    have hrr : ({ ({ r with state := .busy } : Loop) with state := .ready, pending := none } : Loop) = r := by
      have h1 := HS.out
      have h2 := HN.out
      cases r
      simp at h1 h2
      subst h1 h2
      rfl
    refine ⟨_, _, run_endRound none hj3.loop, rfl, ?_, ?_⟩
    · show DJ _ _ _ _ _ _ _ _ _ (World.putObj _ _ (.loop { ({ r with state := .busy } : Loop) with state := .ready, pending := none }))
      rw [hrr]
      exact hj3.turn r (by omega) (by omega) (by omega) (by omega) (by omega)
    · exact hr1.grownO (grown_put _ _ _) (fun e => by have := Option.some.inj e; omega) (fun e => by have := Option.some.inj e; omega)
end Go.Proofs.YtcjcbhdildcceaaGreatDoor
