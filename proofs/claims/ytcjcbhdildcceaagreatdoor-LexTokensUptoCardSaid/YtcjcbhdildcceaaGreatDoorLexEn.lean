/- Contract of Ends of package lex. Conditions: those in the statement. -/
import Derived.Test.YtcjcbhdildcceaaGreatDoorLexL
namespace Go.Proofs.YtcjcbhdildcceaaGreatDoor
open Go.RowKit

theorem info_int : (Tryz.prog.info? 3).map (fun i => (i.zero, i.size, i.bytes)) = some (some (.int .i64 0), 1, 8) := by kernel_rfl
/-- The indices behind the tokens of a list. -/
def endCells (l : List Lx.Sp) : List Value := l.map (fun t => .int .i64 t.to)
theorem endCells_snoc (l : List Lx.Sp) (t : Lx.Sp) : endCells (l ++ [t]) = endCells l ++ [.int .i64 t.to] := by simp [endCells]
/-- What Ends leaves. -/
def endsLeft (s : List UInt8) (w : World) (e : Ending) (w' : World) : Prop :=
  ∃ v, e = .returned (.tuple #[v, .int .i64 (Lx.divide s).2.1, .int .i64 (Lx.divide s).2.2]) ∧ Below w.heap.size w w' ∧ w'.ownsRow w.heap.size 3 1 v (Lx.divide s).1.length (endCells (Lx.divide s).1)

set_option maxHeartbeats 4000000 in
set_option maxRecDepth 100000 in
theorem ends_c (s : List UInt8) (m : Int) (w : World) (hm : w.cell? ⟨0, 0, none⟩ = some (.int .i64 m)) (h6 : s.length ≤ 20000 → (Lx.spans s).1.length ≤ 6000) :
    Calls Tryz.prog 9 #[.string ⟨s.toArray⟩] w (endsLeft s w) := by
  have hD := divide_c s m w hm h6
  have hdl := divide_len s h6
  unfold endsLeft
  unfold divLeft at hD
  generalize Lx.divide s = R at *
  obtain ⟨l, c, ix⟩ := R
  dsimp only at hD hdl ⊢
  have HD := Lib.hid hD
  clear hD hm h6
  obtain ⟨i0, hi, hz0, hz1, hz2⟩ := info_parts info_int
  go_enter Tryz.func9, Tryz.ntmps9
  go_wp2_with fail
  refine HD.out.mono ?_
  rintro e w1 ⟨v, rfl, hb, ho⟩
  clear HD
  obtain ⟨o, cp, rfl⟩ : ∃ o cp, v = .slice o l.length cp := by
    rcases ho.2 with ⟨rfl, h0⟩ | ⟨g, cp, cur, rfl, _⟩
    · exact ⟨none, 0, by rw [h0]⟩
    · exact ⟨_, _, rfl⟩
  have HB := Lib.hid hb
  have HO := Lib.hid ho
  clear hb ho
  go_wp2_with fail
  go_loopg [8, 19] l.length (fun g v i wr => ∃ k : Nat, k ≤ l.length ∧ i = .int .i64 k ∧ Hid (wr.ownsRow w1.heap.size 3 1 v k (endCells (l.take k))) ∧ Hid (Below w1.heap.size w1 wr) ∧ g = l.length - k)
  case atStart => exact ⟨0, Nat.zero_le _, rfl, Lib.hid (World.ownsRow_nil _ _ _ _), Lib.hid (Below.refl _ _), rfl⟩
  case round =>
    obtain ⟨k, hk, rfl, HV, HW, hg⟩ := hrel
    by_cases hE : k = l.length
    · have dE : decide ((k : Int) < (l.length : Int)) = false := decide_eq_false (by omega)
      have HE := Lib.hid hE
      clear hE
      go_wp2_with fail
      · exfalso
        have := HE.out
        omega
      refine bodyPost_ret (v := .tuple #[u8, .int .i64 c, .int .i64 ix]) ?_ rfl ?_
      · simp [results, Tryz.results9, go_sem]
      · refine ⟨u8, rfl, HB.out.trans (HW.out.mono HB.out.size), ?_⟩
        have := HV.out
        rw [HE.out, List.take_length] at this
        exact ownsRow_mono this HB.out.size
    · have hlt : k < l.length := by omega
      have dE : decide ((k : Int) < (l.length : Int)) = true := decide_eq_true (by omega)
      obtain ⟨t, ht⟩ : ∃ t, l[k]? = some t := ⟨_, List.getElem?_eq_getElem hlt⟩
      obtain ⟨g, rfl⟩ : ∃ g, o = some ⟨g, 0, none⟩ := by
        rcases HO.out.2 with ⟨h1, h0⟩ | ⟨g, cp, cur, h1, _⟩
        · omega
        · injection h1 with h1; exact ⟨g, h1⟩
      have hgl : g < w1.heap.size := (HO.out.lt g rfl).2
      have hcell : ∀ j, j < 6 → wr.cell? ⟨g, k * 6 + j, none⟩ = t.cells[j]? := fun j hj => (HW.out.cell (p := ⟨g, k * 6 + j, none⟩) hgl).trans (spRow_cell HO.out k j t ht hj)
      have x0 := hcell 0 (by decide)
      have x1 := hcell 1 (by decide)
      have x2 := hcell 2 (by decide)
      have x3 := hcell 3 (by decide)
      have x4 := hcell 4 (by decide)
      have x5 := hcell 5 (by decide)
      simp only [Lx.Sp.cells, List.getElem?_cons_succ, List.getElem?_cons_zero, Nat.add_zero] at x0 x1 x2 x3 x4 x5
      clear hcell
      have HT := Lib.hid ht
      clear ht hE
      have hwz := HW.out.size
      have HCn : ∀ j u, ([.int .i64 t.to] : List Value)[j]? = some u → ((wr.alloc (.cells #[.int .i64 t.kind, .string ⟨t.text.toArray⟩, .int .i64 t.line, .int .i64 t.col, .int .i64 t.frm, .int .i64 t.to] 53)).alloc (.cells #[.int .i64 t.to] 3)).cell? ((⟨wr.heap.size + 1, 0, none⟩ : Addr).add j) = some u := by
        intro j u hj
        rw [show ((⟨wr.heap.size + 1, 0, none⟩ : Addr).add j) = ⟨wr.heap.size + 1, j, none⟩ from by unfold Addr.add; split <;> simp_all, Lib.cell_of_heap (heap_two_snd _ _ _)]
        simpa using hj
      have HCn := Lib.hid HCn
      have H1c : ∀ u ∈ ([.int .i64 t.to] : List Value), u.oneCell' = true := by simp [Value.oneCell']
      have H1c := Lib.hid H1c
      go_wp2_with (at_builtin; refine wpList_append_own _ rfl _ _ 28 rfl w1.heap.size 3 i0 _ 1 8 Tryz.underlying28 hi hz0 hz1 hz2 rfl (by decide) u8 k (endCells (l.take k)) rfl ((HV.out.alloc _).alloc _) ⟨wr.heap.size + 1, 0, none⟩ 1 1 [.int .i64 t.to] rfl rfl HCn.out H1c.out (by show _ ≤ 9223372036854775807; omega) (by omega) (by simp; omega) ?_; intro v' w2 hown' hgrow _; have HOw := Lib.hid hown'; have HGw := Lib.hid hgrow; clear hown' hgrow)
      have hlt' : k < l.length := hlt
      have HR : Hid (w2.ownsRow w1.heap.size 3 1 v' (k + 1) (endCells (l.take (k + 1)))) := by
        refine Lib.hid ?_
        rw [List.take_add_one, HT.out]
        show w2.ownsRow _ _ _ _ _ (endCells (l.take k ++ [t]))
        rw [endCells_snoc]
        exact HOw.out
      have HB2 : Hid (Below w1.heap.size w1 w2) := Lib.hid (((HW.out.alloc hwz _).alloc (by simp; omega) _).grown HGw.out (by simp; omega) (fun b e => (HV.out.lt b e).1))
      clear HOw HGw HCn H1c
      go_roundg (l.length - (k + 1))
      case rel => exact ⟨k + 1, by omega, rfl, HR, HB2, rfl⟩
      case measure => omega
end Go.Proofs.YtcjcbhdildcceaaGreatDoor
