/- An argument that is a list of tokens, opened, with what its bulk says. Conditions: those in the statement. -/
import Derived.Test.YtcjcbhdildcceaaGreatDoorLexRw
import Derived.Test.YtcjcbhdildcceaaGreatDoorLexSm
import Derived.SizedLaws
import Derived.Deep.Slices
namespace Go.Proofs.YtcjcbhdildcceaaGreatDoor
open Go.ChangeShapes Go.WideShapes Go.ChangeAt Go.RowKit Go.ChangeMaps

theorem bulk_part {H : Type} {d : DataW H} : ∀ {l : List (DataW H)}, d ∈ l → Rows.uptoBulk d ≤ Rows.uptoBulkAll l
  | a :: l, h => by
    simp only [Rows.uptoBulkAll]
    rcases List.mem_cons.1 h with rfl | h
    · omega
    · have := bulk_part h; omega
theorem bulk_two {H : Type} : ∀ {l : List (DataW H)}, (∀ d ∈ l, 2 ≤ Rows.uptoBulk d) → 2 * l.length ≤ Rows.uptoBulkAll l
  | [], _ => by simp
  | a :: l, h => by
    have h1 := h a List.mem_cons_self
    have h2 := bulk_two (l := l) (fun d hd => h d (List.mem_cons_of_mem _ hd))
    simp only [Rows.uptoBulkAll, List.length_cons]; omega

/-- What lies at the places of one token of a list, and how it reads. -/
def TokOpen {H : Type} (W : World) (a : Addr) (i : Nat) (d : DataW H) (t : Lx.Tk) : Prop :=
  W.cell? (a.add (i * 4)) = some (.int .i64 t.kind) ∧ W.cell? (a.add (i * 4 + 1)) = some (.string ⟨t.text.toArray⟩) ∧ W.cell? (a.add (i * 4 + 2)) = some (.int .i64 t.line) ∧ W.cell? (a.add (i * 4 + 3)) = some (.int .i64 t.col) ∧
    d = .agg [.lit (.int .i64 t.kind), .lit (.string t.text), .lit (.int .i64 t.line), .lit (.int .i64 t.col)]
set_option maxRecDepth 100000 in
theorem toks_opened {H : Type} {enc : TypeId × Value → H} {W : World} {sp : Nat → Bool} {a0 : Option Addr} {len cap : Nat} {d : DataW H} {ps : List MemPlace} (h : DataW.Trod enc Tryz.prog W 0 sp true 24 (.slice a0 len cap) d ps) :
    ∃ l : List Lx.Tk, len = l.length ∧ TokAt W a0 l ∧ (∀ t ∈ l, t.text.length ≤ Rows.uptoBulk d) ∧ 2 * l.length ≤ Rows.uptoBulk d := by
  obtain ⟨fuel, hf⟩ := h
  have ce : Tryz.prog.cellsOf 45 = 4 := by kernel_rfl
  have c1 : Tryz.prog.cellsOf 3 = 1 := by kernel_rfl
  have c2 : Tryz.prog.cellsOf 9 = 1 := by kernel_rfl
  rcases Deep.open_slice Tryz.underlying24 hf with ⟨hcs, hx⟩ | ⟨a, len', cap', m, n, D, Pl, hcs, hb, hl, hm, hmm, hx, hi⟩
  · have hcs : [Value.slice a0 len cap] = [.slice none 0 0] := by simpa [Value.cells] using hcs
    injection hcs with hcs _
    injection hcs with h1 h2 h3
    subst h1 h2 h3
    exact ⟨[], rfl, fun k t ht => (by simp at ht), fun t ht => (by cases ht), by simp⟩
  · have hcs : [Value.slice a0 len cap] = [.slice (some a) len' cap'] := by simpa [Value.cells] using hcs
    injection hcs with hcs _
    injection hcs with h1 h2 h3
    subst h1 h2 h3
    have hlm : len ≤ m := by rw [hmm]; split <;> omega
    have each : ∀ i, i < len → ∃ t : Lx.Tk, TokOpen W a i (D i) t := by
      intro i hil
      obtain ⟨cs', g1, g2⟩ := hi i (by omega)
      rw [ce] at g1
      obtain ⟨_, hlen, hcell⟩ := World.cells?_some g1
      obtain ⟨xs, k, hk, hxy, _, hxl, hfld⟩ := DataW.trod_struct Tryz.underlying45 g2
      match xs, hxl, cs', hlen with
      | [y0, y1, y2, y3], _, [v0, v1, v2, v3], _ =>
        have f0 := hfld 0 _ rfl
        have f1 := hfld 1 _ rfl
        have f2 := hfld 2 _ rfl
        have f3 := hfld 3 _ rfl
        simp [c1, c2] at f0 f1 f2 f3
        have e0 := hcell 0 (by omega)
        have e1 := hcell 1 (by omega)
        have e2 := hcell 2 (by omega)
        have e3 := hcell 3 (by omega)
        rw [Deep.add_add] at e0 e1 e2 e3
        obtain ⟨kd, x0, rfl, _⟩ := DataW.trod_int Tryz.underlying3 f0
        obtain ⟨tx, x1, rfl, _⟩ := DataW.trod_string Tryz.underlying9 f1
        obtain ⟨ln, x2, rfl, _⟩ := DataW.trod_int Tryz.underlying3 f2
        obtain ⟨cl, x3, rfl, _⟩ := DataW.trod_int Tryz.underlying3 f3
        simp only [List.cons.injEq, and_true] at x0 x1 x2 x3
        subst x0 x1 x2 x3
        obtain ⟨tl, rfl⟩ := bytes_list tx
        simp only [Prod.mk.injEq] at hxy
        exact ⟨⟨kd, tl, ln, cl⟩, by simpa using e0, by simpa using e1, by simpa using e2, by simpa using e3, by simpa using hxy.1⟩
    obtain ⟨q, hq⟩ : ∃ q : Nat → Lx.Tk, ∀ i, i < len → TokOpen W a i (D i) (q i) :=
      ⟨fun i => if h : i < len then (each i h).choose else ⟨0, [], 0, 0⟩, fun i h => by simp only [dif_pos h]; exact (each i h).choose_spec⟩
    have hat : ∀ k t, ((List.range len).map q)[k]? = some t → k < len ∧ t = q k := by
      intro k t ht
      rw [List.getElem?_map] at ht
      obtain ⟨j, hj, rfl⟩ := Option.map_eq_some_iff.1 ht
      have hjl := (List.getElem?_eq_some_iff.1 hj).1
      rw [List.length_range] at hjl
      rw [List.getElem?_range hjl] at hj
      injection hj with hj
      subst hj
      exact ⟨hjl, rfl⟩
    refine ⟨(List.range len).map q, by simp, fun k t ht => ?_, fun t ht => ?_, ?_⟩
    · obtain ⟨hk, rfl⟩ := hat k t ht
      obtain ⟨b, off, spot⟩ := a
      have hspot : spot = none := by
        have h0 := (hq 0 (by omega)).1
        rw [Nat.zero_mul] at h0
        have h0 : W.cell? ⟨b, off, spot⟩ = some (.int .i64 (q 0).kind) := h0
        cases spot with
        | none => rfl
        | some z =>
          exfalso
          unfold World.cell? at h0
          simp only [Option.isSome_some, if_true] at h0
          split at h0 <;> cases h0
      subst hspot
      obtain ⟨x0, x1, x2, x3, _⟩ := hq k hk
      rw [add_plain] at x0 x1 x2 x3
      exact ⟨b, off, rfl, World.block_lt_of_cell? _ _ x0, x0, by rw [Nat.add_assoc]; exact x1, by rw [Nat.add_assoc]; exact x2, by rw [Nat.add_assoc]; exact x3⟩
    · obtain ⟨i, hi1, rfl⟩ := List.mem_map.1 ht
      have hil : i < len := List.mem_range.1 hi1
      simp only [Prod.mk.injEq] at hx
      rw [hx.1]
      have h1 : (q i).text.length + 1 ≤ Rows.uptoBulk (D i) := by
        rw [(hq i hil).2.2.2.2]
        simp only [Rows.uptoBulk, Rows.uptoBulkAll]; omega
      have h2 := bulk_part (List.mem_map.2 ⟨i, hi1, rfl⟩ : D i ∈ (List.range len).map D)
      simp only [Rows.uptoBulk]; omega
    · simp only [Prod.mk.injEq] at hx
      rw [hx.1]
      have h2 := bulk_two (l := (List.range len).map D) (fun d hd => by
        obtain ⟨i, hi1, rfl⟩ := List.mem_map.1 hd
        rw [(hq i (List.mem_range.1 hi1)).2.2.2.2]
        simp only [Rows.uptoBulk, Rows.uptoBulkAll]; omega)
      simp only [List.length_map, List.length_range] at h2 ⊢
      simp only [Rows.uptoBulk]; omega
end Go.Proofs.YtcjcbhdildcceaaGreatDoor
