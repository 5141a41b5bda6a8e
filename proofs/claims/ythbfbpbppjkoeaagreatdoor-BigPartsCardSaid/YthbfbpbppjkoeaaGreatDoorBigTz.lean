/- Contracts, joined of several texts: Ta, Tm, Tb, Tc, Td, Te, Tf. Conditions: those in the statements. -/
import Derived.Test.YthbfbpbppjkoeaaGreatDoorBigSz
/- Contracts of plus and minus of package proteusref03. Conditions: those in the statements. -/
namespace Go.Proofs.YthbfbpbppjkoeaaGreatDoor
open Go.RowKit Go.Shelf
set_option maxRecDepth 100000
set_option linter.unusedVariables false

/-- Digits that make a number. -/
def RetD (n : Nat) (m : Nat) (w : World) (e : Ending) (w' : World) : Prop := ∃ o l c, e = .returned (.slice o l.length c) ∧ l.length ≤ c ∧ IntAt w' o l ∧ Rf.Digs l ∧ Rf.valT l = (n : Int) ∧ l.length ≤ m ∧ Below w.heap.size w w'
theorem Rf.valT_drop (l : List Int) (k : Nat) (h : k < l.length) : Rf.valT (l.drop k) = l[k] + 10 * Rf.valT (l.drop (k + 1)) := by rw [List.drop_eq_getElem_cons h, Rf.valT]
theorem Rf.valT_over (l : List Int) (k : Nat) (h : l.length ≤ k) : Rf.valT (l.drop k) = 0 := by rw [List.drop_eq_nil_of_le h]; rfl
theorem Rf.valT_snoc (l : List Int) (x : Int) (k : Nat) (h : l.length = k) : Rf.valT (l ++ [x]) = Rf.valT l + 10 ^ k * x := by rw [Rf.valT_append, h]; simp [Rf.valT]
theorem Rf.digs_snoc {l : List Int} {x : Int} (h : Rf.Digs l) (h0 : 0 ≤ x) (h1 : x < 10) : Rf.Digs (l ++ [x]) := by
  intro y hy
  rcases List.mem_append.1 hy with hy | hy
  · exact h y hy
  · rw [List.mem_singleton.1 hy]; exact ⟨h0, h1⟩
theorem dig_step (x : Int) (h0 : 0 ≤ x) (h : x ≤ 1000) : ∃ d c : Int, x = d + 10 * c ∧ 0 ≤ d ∧ d < 10 ∧ 0 ≤ c ∧ x.tmod 10 = d ∧ x.tdiv 10 = c ∧ wrap64 c = c := by
  refine ⟨x % 10, x / 10, by omega, by omega, by omega, by omega, Int.tmod_eq_emod_of_nonneg h0, Int.tdiv_eq_ediv_of_nonneg h0, ?_⟩
  unfold wrap64; omega
theorem pow_step (k : Nat) (u v d c r : Int) (h : v = d + 10 * c) : (10 : Int) ^ k * (v + 10 * r) = 10 ^ k * d + 10 ^ (k + 1) * (c + r) := by
  rw [h, Int.pow_succ, Int.mul_assoc, ← Int.mul_add]; congr 1; omega
theorem plus_num (cols : List Int) (k n : Nat) (x d c : Int) (a b a' b' cr : Int) (hk : cols.length = k) (hv : Rf.valT cols + 10 ^ k * (cr + a + b) = (n : Int)) (hx : cr + a + b = x + 10 * (a' + b')) (hd : x = d + 10 * c) : Rf.valT (cols ++ [d]) + 10 ^ (k + 1) * (c + a' + b') = (n : Int) := by
  rw [Rf.valT_snoc _ _ k hk, ← hv, hx, pow_step k 0 _ d c _ hd, Int.add_assoc c]
  omega
theorem row_forms {w : World} {base e k : Nat} {v : Value} {cols : List Int} (hck : cols.length = k) (h : w.ownsRow base e 1 v k (cols.map (Value.int .i64))) : ∃ o c, v = .slice o cols.length c ∧ cols.length ≤ c ∧ IntAt w o cols := by
  have hrow := h
  rcases h.2 with ⟨rfl, h0⟩ | ⟨g, c, cur, rfl, _, _, hle, _⟩
  · subst h0; exact ⟨none, 0, by rw [hck], by omega, intAt_owns hrow⟩
  · exact ⟨some ⟨g, 0, none⟩, c, by rw [hck], by omega, intAt_owns hrow⟩

set_option maxHeartbeats 200000 in
theorem plus_ref (la lb : List Int) (o o' : Option Addr) (c c' n : Nat) (w : World) (ha : IntAt w o la) (hb : IntAt w o' lb) (da : Rf.Digs la) (db : Rf.Digs lb) (hla : la.length ≤ 2000) (hlb : lb.length ≤ 2000) (hn : Rf.valT la + Rf.valT lb = n) :
    Calls Tryz.prog 72 #[.slice o la.length c, .slice o' lb.length c'] w (RetD n (max la.length lb.length + 1) w) := by
  obtain ⟨i0, hi, hz0, hz1, hz2⟩ := info_parts info_int
  have HA := Lib.hid ha
  have HB := Lib.hid hb
  have HDa := Lib.hid da
  have HDb := Lib.hid db
  have HN := Lib.hid hn
  clear ha hb da db hn
  obtain ⟨M, hM⟩ : ∃ M, max la.length lb.length = M := ⟨_, rfl⟩
  have hMa : la.length ≤ M := by omega
  have hMb : lb.length ≤ M := by omega
  have hM2 : M ≤ 2000 := by omega
  rw [hM]
  have HMx := Lib.hid hM
  clear hM
  go_enter Tryz.func72, Tryz.ntmps72
  go_wp2_with fail
  go_loopg [5, 6, 7, 8] (M + 2) (fun g v cv iv xv wr => ∃ (k : Nat) (cr : Int) (cols : List Int), cols.length = k ∧ (k : Int) + cr ≤ (M : Int) + 1 ∧ 0 ≤ cr ∧ cr ≤ 1 ∧ iv = .int .i64 k ∧ cv = .int .i64 cr ∧ Hid (Rf.valT cols + 10 ^ k * (cr + Rf.valT (la.drop k) + Rf.valT (lb.drop k)) = n) ∧ Hid (Rf.Digs cols) ∧ Hid (wr.ownsRow w.heap.size 3 1 v k (cols.map (Value.int .i64))) ∧ Hid (Below w.heap.size w wr) ∧ g = M + 2 - k)
  case atStart => exact ⟨0, 0, [], rfl, by omega, by omega, by omega, rfl, rfl, Lib.hid (by have := HN.out; simp [Rf.valT]; omega), Lib.hid (fun x hx => by cases hx), Lib.hid (World.ownsRow_nil _ _ _ _), Lib.hid (Below.refl _ _), rfl⟩
  case round =>
    obtain ⟨k, cr, cols, hck, hkc, hcr0, hcr1, rfl, rfl, HV, HD, HR, HW, hg⟩ := hrel
    have hwz := HW.out.size
    have hIa := HA.out.mono HW.out
    have hIb := HB.out.mono HW.out
    have HCk := Lib.hid hck
    clear hck
    have hs1 : k + 1 ≤ maxLen := by show _ ≤ 9223372036854775807; omega
    have hs2 : (k + 1) * 8 ≤ 140737488355328 := by omega
    have hs3 : w.heap.size ≤ wr.heap.size + 1 := by omega
    by_cases hka : k < la.length
    · by_cases hkb : k < lb.length
      · skip
        have dA : decide ((k : Int) < (la.length : Int)) = true := decide_eq_true (by omega)
        have dAn : decide (k < la.length) = true := decide_eq_true (by omega)
        have dB : decide ((k : Int) < (lb.length : Int)) = true := decide_eq_true (by omega)
        have dBn : decide (k < lb.length) = true := decide_eq_true (by omega)
        obtain ⟨ba, hoa, hba, hca⟩ := hIa.get hka
        obtain ⟨hda0, hda1⟩ := HDa.out la[k] (List.getElem_mem hka)
        have hva := Rf.valT_drop la k hka
        generalize la[k] = xa at *
        obtain ⟨bb, hob, hbb, hcb⟩ := hIb.get hkb
        obtain ⟨hdb0, hdb1⟩ := HDb.out lb[k] (List.getElem_mem hkb)
        have hvb := Rf.valT_drop lb k hkb
        generalize lb[k] = xb at *
        obtain ⟨y1, s1⟩ : ∃ y, cr + xa = y := ⟨_, rfl⟩
        obtain ⟨x0, s2⟩ : ∃ x, y1 + xb = x := ⟨_, rfl⟩
        have hy10 : 0 ≤ y1 := by omega
        have hy11 : y1 ≤ 10 := by omega
        have hx0 : 0 ≤ x0 := by omega
        have hx19 : x0 ≤ 19 := by omega
        have hnum : cr + Rf.valT (la.drop k) + Rf.valT (lb.drop k) = x0 + 10 * (Rf.valT (la.drop (k + 1)) + Rf.valT (lb.drop (k + 1))) := by omega
        obtain ⟨dg, c2, hdc, hg0, hg9, hc20, t1, t2, t3⟩ := dig_step x0 (by omega) (by omega)
        have hc21 : c2 ≤ 1 := by clear t1 t2 t3 hnum; omega
        have hkc2 : ((k + 1 : Nat) : Int) + c2 ≤ (M : Int) + 1 := by clear t1 t2 t3 hnum; omega
        have HV2 := Lib.hid (plus_num cols k n x0 dg c2 _ _ _ _ cr HCk.out HV.out hnum hdc)
        have HD2 := Lib.hid (Rf.digs_snoc HD.out hg0 hg9)
        have hki : (0 : Int) ≤ (k : Int) := Int.natCast_nonneg _
        have hkj : (k : Int) ≤ 2001 := by clear t1 t2 t3 hnum; omega
        clear hnum hdc hva hvb hIa hIb
        subst hoa
        subst hob
        go_wp2_with (at_builtin; refine wpList_append_own _ rfl _ _ 50 rfl w.heap.size 3 i0 (.int .i64 0) 1 8 Tryz.underlying50 hi hz0 hz1 hz2 rfl (by decide) _ k _ rfl (HR.out.alloc _) ⟨wr.heap.size, 0, none⟩ 1 1 [.int .i64 dg] rfl rfl (cell_one_new _ _ _) (by simp [Value.oneCell']) hs1 hs2 (by rw [World.size_alloc]; exact hs3) ?_; intro v' w2 hown' hgrow hnil; have HOw := Lib.hid hown'; have HGw := Lib.hid hgrow; clear hown' hgrow hnil)
        have HB2 : Hid (Below w.heap.size w w2) := Lib.hid ((HW.out.alloc hwz _).grown HGw.out (by rw [World.size_alloc]; exact hs3) (fun b e => (HR.out.lt b e).1))
        have HR2 : Hid (w2.ownsRow w.heap.size 3 1 v' (k + 1) ((cols ++ [dg]).map (Value.int .i64))) := Lib.hid (by rw [List.map_append]; exact HOw.out)
        clear t1 s1 s2
        go_roundg (M + 2 - (k + 1))
        case rel => exact ⟨k + 1, c2, cols ++ [dg], by simp [HCk.out], hkc2, hc20, hc21, by simp, rfl, HV2, HD2, HR2, HB2, rfl⟩
        case measure => (clear t2 t3; omega)
      · skip
        have dA : decide ((k : Int) < (la.length : Int)) = true := decide_eq_true (by omega)
        have dAn : decide (k < la.length) = true := decide_eq_true (by omega)
        have dB : decide ((k : Int) < (lb.length : Int)) = false := decide_eq_false (by omega)
        have dBn : decide (k < lb.length) = false := decide_eq_false (by omega)
        obtain ⟨ba, hoa, hba, hca⟩ := hIa.get hka
        obtain ⟨hda0, hda1⟩ := HDa.out la[k] (List.getElem_mem hka)
        have hva := Rf.valT_drop la k hka
        generalize la[k] = xa at *
        have hvb := Rf.valT_over lb k (by omega)
        have hvb2 := Rf.valT_over lb (k + 1) (by omega)
        obtain ⟨x0, s1⟩ : ∃ x, cr + xa = x := ⟨_, rfl⟩
        have hx0 : 0 ≤ x0 := by omega
        have hx19 : x0 ≤ 19 := by omega
        have hnum : cr + Rf.valT (la.drop k) + Rf.valT (lb.drop k) = x0 + 10 * (Rf.valT (la.drop (k + 1)) + Rf.valT (lb.drop (k + 1))) := by omega
        obtain ⟨dg, c2, hdc, hg0, hg9, hc20, t1, t2, t3⟩ := dig_step x0 (by omega) (by omega)
        have hc21 : c2 ≤ 1 := by clear t1 t2 t3 hnum; omega
        have hkc2 : ((k + 1 : Nat) : Int) + c2 ≤ (M : Int) + 1 := by clear t1 t2 t3 hnum; omega
        have HV2 := Lib.hid (plus_num cols k n x0 dg c2 _ _ _ _ cr HCk.out HV.out hnum hdc)
        have HD2 := Lib.hid (Rf.digs_snoc HD.out hg0 hg9)
        have hki : (0 : Int) ≤ (k : Int) := Int.natCast_nonneg _
        have hkj : (k : Int) ≤ 2001 := by clear t1 t2 t3 hnum; omega
        clear hnum hdc hva hvb hIa hIb hvb2
        subst hoa
        go_wp2_with (at_builtin; refine wpList_append_own _ rfl _ _ 50 rfl w.heap.size 3 i0 (.int .i64 0) 1 8 Tryz.underlying50 hi hz0 hz1 hz2 rfl (by decide) _ k _ rfl (HR.out.alloc _) ⟨wr.heap.size, 0, none⟩ 1 1 [.int .i64 dg] rfl rfl (cell_one_new _ _ _) (by simp [Value.oneCell']) hs1 hs2 (by rw [World.size_alloc]; exact hs3) ?_; intro v' w2 hown' hgrow hnil; have HOw := Lib.hid hown'; have HGw := Lib.hid hgrow; clear hown' hgrow hnil)
        have HB2 : Hid (Below w.heap.size w w2) := Lib.hid ((HW.out.alloc hwz _).grown HGw.out (by rw [World.size_alloc]; exact hs3) (fun b e => (HR.out.lt b e).1))
        have HR2 : Hid (w2.ownsRow w.heap.size 3 1 v' (k + 1) ((cols ++ [dg]).map (Value.int .i64))) := Lib.hid (by rw [List.map_append]; exact HOw.out)
        clear t1 s1
        go_roundg (M + 2 - (k + 1))
        case rel => exact ⟨k + 1, c2, cols ++ [dg], by simp [HCk.out], hkc2, hc20, hc21, by simp, rfl, HV2, HD2, HR2, HB2, rfl⟩
        case measure => (clear t2 t3; omega)
    · by_cases hkb : k < lb.length
      · skip
        have dA : decide ((k : Int) < (la.length : Int)) = false := decide_eq_false (by omega)
        have dAn : decide (k < la.length) = false := decide_eq_false (by omega)
        have dB : decide ((k : Int) < (lb.length : Int)) = true := decide_eq_true (by omega)
        have dBn : decide (k < lb.length) = true := decide_eq_true (by omega)
        have hva := Rf.valT_over la k (by omega)
        have hva2 := Rf.valT_over la (k + 1) (by omega)
        obtain ⟨bb, hob, hbb, hcb⟩ := hIb.get hkb
        obtain ⟨hdb0, hdb1⟩ := HDb.out lb[k] (List.getElem_mem hkb)
        have hvb := Rf.valT_drop lb k hkb
        generalize lb[k] = xb at *
        obtain ⟨x0, s1⟩ : ∃ x, cr + xb = x := ⟨_, rfl⟩
        have hx0 : 0 ≤ x0 := by omega
        have hx19 : x0 ≤ 19 := by omega
        have hnum : cr + Rf.valT (la.drop k) + Rf.valT (lb.drop k) = x0 + 10 * (Rf.valT (la.drop (k + 1)) + Rf.valT (lb.drop (k + 1))) := by omega
        obtain ⟨dg, c2, hdc, hg0, hg9, hc20, t1, t2, t3⟩ := dig_step x0 (by omega) (by omega)
        have hc21 : c2 ≤ 1 := by clear t1 t2 t3 hnum; omega
        have hkc2 : ((k + 1 : Nat) : Int) + c2 ≤ (M : Int) + 1 := by clear t1 t2 t3 hnum; omega
        have HV2 := Lib.hid (plus_num cols k n x0 dg c2 _ _ _ _ cr HCk.out HV.out hnum hdc)
        have HD2 := Lib.hid (Rf.digs_snoc HD.out hg0 hg9)
        have hki : (0 : Int) ≤ (k : Int) := Int.natCast_nonneg _
        have hkj : (k : Int) ≤ 2001 := by clear t1 t2 t3 hnum; omega
        clear hnum hdc hva hvb hIa hIb hva2
        subst hob
        go_wp2_with (at_builtin; refine wpList_append_own _ rfl _ _ 50 rfl w.heap.size 3 i0 (.int .i64 0) 1 8 Tryz.underlying50 hi hz0 hz1 hz2 rfl (by decide) _ k _ rfl (HR.out.alloc _) ⟨wr.heap.size, 0, none⟩ 1 1 [.int .i64 dg] rfl rfl (cell_one_new _ _ _) (by simp [Value.oneCell']) hs1 hs2 (by rw [World.size_alloc]; exact hs3) ?_; intro v' w2 hown' hgrow hnil; have HOw := Lib.hid hown'; have HGw := Lib.hid hgrow; clear hown' hgrow hnil)
        have HB2 : Hid (Below w.heap.size w w2) := Lib.hid ((HW.out.alloc hwz _).grown HGw.out (by rw [World.size_alloc]; exact hs3) (fun b e => (HR.out.lt b e).1))
        have HR2 : Hid (w2.ownsRow w.heap.size 3 1 v' (k + 1) ((cols ++ [dg]).map (Value.int .i64))) := Lib.hid (by rw [List.map_append]; exact HOw.out)
        clear t1 s1
        go_roundg (M + 2 - (k + 1))
        case rel => exact ⟨k + 1, c2, cols ++ [dg], by simp [HCk.out], hkc2, hc20, hc21, by simp, rfl, HV2, HD2, HR2, HB2, rfl⟩
        case measure => (clear t2 t3; omega)
      · by_cases hc0 : cr = 0
        · subst hc0
          have dA : decide ((k : Int) < (la.length : Int)) = false := decide_eq_false (by omega)
          have dAn : decide (k < la.length) = false := decide_eq_false (by omega)
          have dB : decide ((k : Int) < (lb.length : Int)) = false := decide_eq_false (by omega)
          have dBn : decide (k < lb.length) = false := decide_eq_false (by omega)
          have dC : decide ((0 : Int) < 0) = false := rfl
          have hval : Rf.valT cols = (n : Int) := by
            have := HV.out
            rw [Rf.valT_over la k (by omega), Rf.valT_over lb k (by omega)] at this
            simpa using this
          obtain ⟨oo, cc, rfl, hle, hint⟩ := row_forms HCk.out HR.out
          have HI := Lib.hid hint
          have HVal := Lib.hid hval
          clear hint hval hIa hIb
          go_wp2_with fail
          go_ret
          exact ⟨oo, cols, cc, rfl, hle, HI.out, HD.out, HVal.out, by rw [HCk.out]; omega, HW.out⟩
        · skip
          have dA : decide ((k : Int) < (la.length : Int)) = false := decide_eq_false (by omega)
          have dAn : decide (k < la.length) = false := decide_eq_false (by omega)
          have dB : decide ((k : Int) < (lb.length : Int)) = false := decide_eq_false (by omega)
          have dBn : decide (k < lb.length) = false := decide_eq_false (by omega)
          have hva := Rf.valT_over la k (by omega)
          have hva2 := Rf.valT_over la (k + 1) (by omega)
          have hvb := Rf.valT_over lb k (by omega)
          have hvb2 := Rf.valT_over lb (k + 1) (by omega)
          have dC : decide ((0 : Int) < cr) = true := decide_eq_true (by omega)
          obtain ⟨x0, s1⟩ : ∃ x, cr = x := ⟨_, rfl⟩
          subst s1
          have hx0 : 0 ≤ cr := by omega
          have hx19 : cr ≤ 19 := by omega
          have hnum : cr + Rf.valT (la.drop k) + Rf.valT (lb.drop k) = cr + 10 * (Rf.valT (la.drop (k + 1)) + Rf.valT (lb.drop (k + 1))) := by omega
          obtain ⟨dg, c2, hdc, hg0, hg9, hc20, t1, t2, t3⟩ := dig_step cr (by omega) (by omega)
          have hc21 : c2 ≤ 1 := by clear t1 t2 t3 hnum; omega
          have hkc2 : ((k + 1 : Nat) : Int) + c2 ≤ (M : Int) + 1 := by clear t1 t2 t3 hnum; omega
          have HV2 := Lib.hid (plus_num cols k n cr dg c2 _ _ _ _ cr HCk.out HV.out hnum hdc)
          have HD2 := Lib.hid (Rf.digs_snoc HD.out hg0 hg9)
          have hki : (0 : Int) ≤ (k : Int) := Int.natCast_nonneg _
          have hkj : (k : Int) ≤ 2001 := by clear t1 t2 t3 hnum; omega
          clear hnum hdc hva hvb hIa hIb hva2 hvb2
          go_wp2_with (at_builtin; refine wpList_append_own _ rfl _ _ 50 rfl w.heap.size 3 i0 (.int .i64 0) 1 8 Tryz.underlying50 hi hz0 hz1 hz2 rfl (by decide) _ k _ rfl (HR.out.alloc _) ⟨wr.heap.size, 0, none⟩ 1 1 [.int .i64 dg] rfl rfl (cell_one_new _ _ _) (by simp [Value.oneCell']) hs1 hs2 (by rw [World.size_alloc]; exact hs3) ?_; intro v' w2 hown' hgrow hnil; have HOw := Lib.hid hown'; have HGw := Lib.hid hgrow; clear hown' hgrow hnil)
          have HB2 : Hid (Below w.heap.size w w2) := Lib.hid ((HW.out.alloc hwz _).grown HGw.out (by rw [World.size_alloc]; exact hs3) (fun b e => (HR.out.lt b e).1))
          have HR2 : Hid (w2.ownsRow w.heap.size 3 1 v' (k + 1) ((cols ++ [dg]).map (Value.int .i64))) := Lib.hid (by rw [List.map_append]; exact HOw.out)
          clear t1
          go_roundg (M + 2 - (k + 1))
          case rel => exact ⟨k + 1, c2, cols ++ [dg], by simp [HCk.out], hkc2, hc20, hc21, by simp, rfl, HV2, HD2, HR2, HB2, rfl⟩
          case measure => (clear t2 t3; omega)
end Go.Proofs.YthbfbpbppjkoeaaGreatDoor
/- Plain facts of digits for products, of the specification of package big. Nothing is said of the program here. -/
namespace Go.Proofs.YthbfbpbppjkoeaaGreatDoor.Rf
set_option linter.unusedVariables false

theorem valT_set (l : List Int) (k : Nat) (y : Int) (z : Int) (h : l[k]? = some z) : valT (l.set k y) = valT l + 10 ^ k * (y - z) := by
  induction l generalizing k with
  | nil => simp at h
  | cons x l ih =>
    cases k with
    | zero =>
      simp only [List.getElem?_cons_zero, Option.some.injEq] at h
      subst h
      rw [List.set_cons_zero, valT, valT, Int.pow_zero]; omega
    | succ k =>
      rw [List.getElem?_cons_succ] at h
      rw [List.set_cons_succ, valT, valT, ih k h, Int.pow_succ, Int.mul_add, ← Int.mul_assoc, Int.mul_comm 10 (10 ^ k), Int.add_assoc]
theorem valT_zeros (n : Nat) : valT (List.replicate n 0) = 0 := by
  induction n with
  | zero => rfl
  | succ n ih => rw [List.replicate_succ, valT, ih]; rfl
theorem digs_zeros (n : Nat) : Digs (List.replicate n 0) := fun x h => by obtain ⟨_, rfl⟩ := List.mem_replicate.1 h; decide
theorem digs_set {l : List Int} {k : Nat} {y : Int} (h : Digs l) (h0 : 0 ≤ y) (h1 : y < 10) : Digs (l.set k y) := by
  intro x hx
  rcases List.mem_or_eq_of_mem_set hx with hx | rfl
  · exact h x hx
  · exact ⟨h0, h1⟩
theorem valT_take (l : List Int) (k : Nat) (x : Int) (h : l[k]? = some x) : valT (l.take (k + 1)) = valT (l.take k) + 10 ^ k * x := by
  have hk : k < l.length := (List.getElem?_eq_some_iff.1 h).1
  rw [List.take_add_one, h, valT_append, List.length_take, Nat.min_eq_left (Nat.le_of_lt hk)]
  simp [valT]
/-- From an index on there are zeros. -/
def Nul (l : List Int) (j : Nat) : Prop := ∀ (t : Nat) x, l[t]? = some x → j ≤ t → x = 0
theorem nul_zeros (n j : Nat) : Nul (List.replicate n 0) j := fun t x h _ => (List.mem_replicate.1 (List.mem_of_getElem? h)).2
theorem Nul.mono {l : List Int} {j j' : Nat} (h : Nul l j) (hj : j ≤ j') : Nul l j' := fun t x ht hle => h t x ht (by omega)
theorem Nul.set {l : List Int} {j k : Nat} {y : Int} (h : Nul l j) (hk : k < j) : Nul (l.set k y) j := by
  intro t x ht hle
  rw [List.getElem?_set] at ht
  rw [if_neg (by omega)] at ht
  exact h t x ht hle
/-- One step of a row of a product. -/
theorem times_step {cols la lb : List Int} {i k n : Nat} {xa xb z d c2 cr : Int} (hz : cols[i + k]? = some z) (hb : lb[k]? = some xb)
    (hv : valT cols + 10 ^ (i + k) * cr = valT (la.take i) * valT lb + xa * 10 ^ i * valT (lb.take k)) (hx : z + cr + xa * xb = d + 10 * c2) :
    valT (cols.set (i + k) d) + 10 ^ (i + (k + 1)) * c2 = valT (la.take i) * valT lb + xa * 10 ^ i * valT (lb.take (k + 1)) := by
  rw [valT_set _ _ _ _ hz, valT_take lb k xb hb, Int.mul_add, ← Int.add_assoc, ← hv, ← Nat.add_assoc, Int.pow_succ, Int.mul_assoc (10 ^ (i + k)), Int.add_assoc, ← Int.mul_add]
  have e : d - z + 10 * c2 = cr + xa * xb := by omega
  have e2 : xa * 10 ^ i * (10 ^ k * xb) = 10 ^ (i + k) * (xa * xb) := by rw [Int.pow_add]; ac_rfl
  rw [e, e2, Int.mul_add, ← Int.add_assoc]
/-- The last step of a row of a product. -/
theorem times_last {cols la lb : List Int} {i k : Nat} {xa z d c2 cr : Int} (hz : cols[i + k]? = some z)
    (hv : valT cols + 10 ^ (i + k) * cr = valT (la.take i) * valT lb + xa * 10 ^ i * valT lb) (hx : z + cr = d + 10 * c2) :
    valT (cols.set (i + k) d) + 10 ^ (i + (k + 1)) * c2 = valT (la.take i) * valT lb + xa * 10 ^ i * valT lb := by
  rw [valT_set _ _ _ _ hz, ← hv, ← Nat.add_assoc, Int.pow_succ, Int.mul_assoc (10 ^ (i + k)), Int.add_assoc, ← Int.mul_add]
  have e : d - z + 10 * c2 = cr := by omega
  rw [e]
theorem times_next {la lb : List Int} {i : Nat} {xa : Int} (h : la[i]? = some xa) : valT (la.take i) * valT lb + xa * 10 ^ i * valT lb = valT (la.take (i + 1)) * valT lb := by
  rw [valT_take la i xa h, Int.add_mul, Int.mul_comm xa]
theorem dig_mul {x y : Int} (h1 : 0 ≤ x) (h2 : x ≤ 9) (h3 : 0 ≤ y) (h4 : y ≤ 9) : 0 ≤ x * y ∧ x * y ≤ 81 :=
  ⟨Int.mul_nonneg h1 h3, by have := Int.mul_le_mul h2 h4 h3 (by decide : (0 : Int) ≤ 9); omega⟩
end Go.Proofs.YthbfbpbppjkoeaaGreatDoor.Rf
/- Contract of minus of package proteusref03. Conditions: those in the statements. -/
namespace Go.Proofs.YthbfbpbppjkoeaaGreatDoor
open Go.RowKit Go.Shelf
set_option maxRecDepth 100000
set_option linter.unusedVariables false

/-- The digits of a number. -/
def RetT (n : Nat) (w : World) (e : Ending) (w' : World) : Prop := ∃ o c, e = .returned (.slice o (Rf.tens n).length c) ∧ (Rf.tens n).length ≤ c ∧ IntAt w' o (Rf.tens n) ∧ Below w.heap.size w w'
theorem retT_cut {w w' : World} {o : Option Addr} {l : List Int} {c n : Nat} (h : IntAt w' o l) (hc : l.length ≤ c) (hd : Rf.Digs l) (hn : Rf.valT l = n) (hb : Below w.heap.size w w') : RetT n w (.returned (.slice o (Rf.cut l l.length) c)) w' := by
  obtain ⟨e1, e2⟩ := cut_len hd hn
  exact ⟨o, c, by rw [e2], by rw [← e2]; exact Nat.le_trans (Rf.cut_le _ _) hc, by rw [← e1]; exact h.take _, hb⟩
theorem minus_num (cols : List Int) (k n : Nat) (d b2 a b a' b' br : Int) (hk : cols.length = k) (hv : Rf.valT cols + 10 ^ k * (a - b - br) = (n : Int)) (hx : a - b - br = d + 10 * (a' - b' - b2)) : Rf.valT (cols ++ [d]) + 10 ^ (k + 1) * (a' - b' - b2) = (n : Int) := by
  rw [Rf.valT_snoc _ _ k hk, ← hv, hx, Int.pow_succ, Int.mul_assoc, Int.add_assoc, ← Int.mul_add]
theorem minus_end (cols : List Int) (k n : Nat) (b br : Int) (hk : cols.length = k) (hd : Rf.Digs cols) (hb : 0 ≤ b) (hr : 0 ≤ br) (hv : Rf.valT cols + 10 ^ k * (0 - b - br) = (n : Int)) : Rf.valT cols = (n : Int) := by
  have hlt := Rf.valT_lt hd
  rw [hk] at hlt
  by_cases h0 : b + br = 0
  · have e : 0 - b - br = 0 := by omega
    rw [e, Int.mul_zero, Int.add_zero] at hv
    exact hv
  · exfalso
    have hp : (0 : Int) < 10 ^ k := Int.pow_pos (by decide)
    have h1 : (10 : Int) ^ k * 1 ≤ 10 ^ k * (b + br) := Int.mul_le_mul_of_nonneg_left (by omega) (Int.le_of_lt hp)
    have e : 0 - b - br = -(b + br) := by omega
    rw [e, Int.mul_neg] at hv
    omega

set_option maxHeartbeats 200000 in
theorem minus_ref (la lb : List Int) (o o' : Option Addr) (c c' n : Nat) (w : World) (ha : IntAt w o la) (hb : IntAt w o' lb) (da : Rf.Digs la) (db : Rf.Digs lb) (hla : la.length ≤ 2000) (hlb : lb.length ≤ 2000) (hn : Rf.valT la - Rf.valT lb = n) :
    Calls Tryz.prog 74 #[.slice o la.length c, .slice o' lb.length c'] w (RetT n w) := by
  obtain ⟨i0, hi, hz0, hz1, hz2⟩ := info_parts info_int
  have HA := Lib.hid ha
  have HB := Lib.hid hb
  have HDa := Lib.hid da
  have HDb := Lib.hid db
  have HN := Lib.hid hn
  clear ha hb da db hn
  go_enter Tryz.func74, Tryz.ntmps74
  go_wp2_with fail
  go_loopg [5, 6, 7, 8] la.length (fun g v bv iv xv wr => ∃ (k : Nat) (br : Int) (cols : List Int), cols.length = k ∧ k ≤ la.length ∧ 0 ≤ br ∧ br ≤ 1 ∧ iv = .int .i64 k ∧ bv = .int .i64 br ∧ Hid (Rf.valT cols + 10 ^ k * (Rf.valT (la.drop k) - Rf.valT (lb.drop k) - br) = n) ∧ Hid (Rf.Digs cols) ∧ Hid (wr.ownsRow w.heap.size 3 1 v k (cols.map (Value.int .i64))) ∧ Hid (Below w.heap.size w wr) ∧ g = la.length - k)
  case atStart => exact ⟨0, 0, [], rfl, by omega, by omega, by omega, rfl, rfl, Lib.hid (by have := HN.out; simp [Rf.valT]; omega), Lib.hid (fun x hx => by cases hx), Lib.hid (World.ownsRow_nil _ _ _ _), Lib.hid (Below.refl _ _), rfl⟩
  case round =>
    obtain ⟨k, br, cols, hck, hkc, hbr0, hbr, rfl, rfl, HV, HD, HR, HW, hg⟩ := hrel
    have hwz := HW.out.size
    have hIa := HA.out.mono HW.out
    have hIb := HB.out.mono HW.out
    have HCk := Lib.hid hck
    clear hck
    by_cases hka : k < la.length
    · have dA : decide ((k : Int) < (la.length : Int)) = true := decide_eq_true (by omega)
      have dAn : decide (k < la.length) = true := decide_eq_true (by omega)
      have hs1 : k + 1 ≤ maxLen := by show _ ≤ 9223372036854775807; omega
      have hs2 : (k + 1) * 8 ≤ 140737488355328 := by omega
      have hs3 : w.heap.size ≤ wr.heap.size + 1 := by omega
      have hki : (0 : Int) ≤ (k : Int) := Int.natCast_nonneg _
      have hkj : (k : Int) ≤ 2000 := by omega
      obtain ⟨ba, hoa, hba, hca⟩ := hIa.get hka
      have hda := HDa.out la[k] (List.getElem_mem hka)
      have hva := Rf.valT_drop la k hka
      generalize la[k] = xa at *
      obtain ⟨hda0, hda1⟩ := hda
      obtain ⟨y1, s1⟩ : ∃ y : Int, xa - br = y := ⟨_, rfl⟩
      have hy0 : -1 ≤ y1 := by omega
      have hy1 : y1 ≤ 9 := by omega
      by_cases hkb : k < lb.length
      · have dB : decide ((k : Int) < (lb.length : Int)) = true := decide_eq_true (by omega)
        have dBn : decide (k < lb.length) = true := decide_eq_true (by omega)
        obtain ⟨bb, hob, hbb, hcb⟩ := hIb.get hkb
        have hdb := HDb.out lb[k] (List.getElem_mem hkb)
        have hvb := Rf.valT_drop lb k hkb
        generalize lb[k] = xb at *
        obtain ⟨hdb0, hdb1⟩ := hdb
        by_cases hng : y1 - xb < 0
        · skip
          obtain ⟨x0, s2⟩ : ∃ x : Int, y1 - xb = x := ⟨_, rfl⟩
          obtain ⟨dg, s3⟩ : ∃ d : Int, x0 + 10 = d := ⟨_, rfl⟩
          have dN : decide (x0 < 0) = true := decide_eq_true (by omega)
          have hxl : -10 ≤ x0 := by omega
          have hxh : x0 ≤ 9 := by omega
          have hg0 : 0 ≤ dg := by omega
          have hg9 : dg < 10 := by omega
          have hnum : Rf.valT (la.drop k) - Rf.valT (lb.drop k) - br = dg + 10 * (Rf.valT (la.drop (k + 1)) - Rf.valT (lb.drop (k + 1)) - 1) := by omega
          have HV2 := Lib.hid (minus_num cols k n dg 1 _ _ _ _ br HCk.out HV.out hnum)
          have HD2 := Lib.hid (Rf.digs_snoc HD.out hg0 hg9)
          clear hnum hva hvb hIa hIb
          subst hoa
          subst hob
          go_wp2_with (at_builtin; refine wpList_append_own _ rfl _ _ 50 rfl w.heap.size 3 i0 (.int .i64 0) 1 8 Tryz.underlying50 hi hz0 hz1 hz2 rfl (by decide) _ k _ rfl (HR.out.alloc _) ⟨wr.heap.size, 0, none⟩ 1 1 [.int .i64 dg] rfl rfl (cell_one_new _ _ _) (by simp [Value.oneCell']) hs1 hs2 (by rw [World.size_alloc]; exact hs3) ?_; intro v' w2 hown' hgrow hnil; have HOw := Lib.hid hown'; have HGw := Lib.hid hgrow; clear hown' hgrow hnil)
          have HB2 : Hid (Below w.heap.size w w2) := Lib.hid ((HW.out.alloc hwz _).grown HGw.out (by rw [World.size_alloc]; exact hs3) (fun b e => (HR.out.lt b e).1))
          have HR2 : Hid (w2.ownsRow w.heap.size 3 1 v' (k + 1) ((cols ++ [dg]).map (Value.int .i64))) := Lib.hid (by rw [List.map_append]; exact HOw.out)
          clear s1 s2 s3
          go_roundg (la.length - (k + 1))
          case rel => exact ⟨k + 1, 1, cols ++ [dg], by simp [HCk.out], hka, by decide, by decide, by simp, rfl, HV2, HD2, HR2, HB2, rfl⟩
          case measure => omega
        · skip
          obtain ⟨dg, s2⟩ : ∃ d : Int, y1 - xb = d := ⟨_, rfl⟩
          have dN : decide (dg < 0) = false := decide_eq_false (by omega)
          have hg0 : 0 ≤ dg := by omega
          have hg9 : dg < 10 := by omega
          have hnum : Rf.valT (la.drop k) - Rf.valT (lb.drop k) - br = dg + 10 * (Rf.valT (la.drop (k + 1)) - Rf.valT (lb.drop (k + 1)) - 0) := by omega
          have HV2 := Lib.hid (minus_num cols k n dg 0 _ _ _ _ br HCk.out HV.out hnum)
          have HD2 := Lib.hid (Rf.digs_snoc HD.out hg0 hg9)
          clear hnum hva hvb hIa hIb
          subst hoa
          subst hob
          go_wp2_with (at_builtin; refine wpList_append_own _ rfl _ _ 50 rfl w.heap.size 3 i0 (.int .i64 0) 1 8 Tryz.underlying50 hi hz0 hz1 hz2 rfl (by decide) _ k _ rfl (HR.out.alloc _) ⟨wr.heap.size, 0, none⟩ 1 1 [.int .i64 dg] rfl rfl (cell_one_new _ _ _) (by simp [Value.oneCell']) hs1 hs2 (by rw [World.size_alloc]; exact hs3) ?_; intro v' w2 hown' hgrow hnil; have HOw := Lib.hid hown'; have HGw := Lib.hid hgrow; clear hown' hgrow hnil)
          have HB2 : Hid (Below w.heap.size w w2) := Lib.hid ((HW.out.alloc hwz _).grown HGw.out (by rw [World.size_alloc]; exact hs3) (fun b e => (HR.out.lt b e).1))
          have HR2 : Hid (w2.ownsRow w.heap.size 3 1 v' (k + 1) ((cols ++ [dg]).map (Value.int .i64))) := Lib.hid (by rw [List.map_append]; exact HOw.out)
          clear s1 s2
          go_roundg (la.length - (k + 1))
          case rel => exact ⟨k + 1, 0, cols ++ [dg], by simp [HCk.out], hka, by decide, by decide, by simp, rfl, HV2, HD2, HR2, HB2, rfl⟩
          case measure => omega
      · have dB : decide ((k : Int) < (lb.length : Int)) = false := decide_eq_false (by omega)
        have dBn : decide (k < lb.length) = false := decide_eq_false (by omega)
        have hvb := Rf.valT_over lb k (by omega)
        have hvb2 := Rf.valT_over lb (k + 1) (by omega)
        by_cases hng : y1 < 0
        · skip
          obtain ⟨x0, s2⟩ : ∃ x : Int, y1 = x := ⟨_, rfl⟩
          subst s2
          obtain ⟨dg, s3⟩ : ∃ d : Int, y1 + 10 = d := ⟨_, rfl⟩
          have dN : decide (y1 < 0) = true := decide_eq_true (by omega)
          have hxl : -10 ≤ y1 := by omega
          have hxh : y1 ≤ 9 := by omega
          have hg0 : 0 ≤ dg := by omega
          have hg9 : dg < 10 := by omega
          have hnum : Rf.valT (la.drop k) - Rf.valT (lb.drop k) - br = dg + 10 * (Rf.valT (la.drop (k + 1)) - Rf.valT (lb.drop (k + 1)) - 1) := by omega
          have HV2 := Lib.hid (minus_num cols k n dg 1 _ _ _ _ br HCk.out HV.out hnum)
          have HD2 := Lib.hid (Rf.digs_snoc HD.out hg0 hg9)
          clear hnum hva hvb hIa hIb hvb2
          subst hoa
          go_wp2_with (at_builtin; refine wpList_append_own _ rfl _ _ 50 rfl w.heap.size 3 i0 (.int .i64 0) 1 8 Tryz.underlying50 hi hz0 hz1 hz2 rfl (by decide) _ k _ rfl (HR.out.alloc _) ⟨wr.heap.size, 0, none⟩ 1 1 [.int .i64 dg] rfl rfl (cell_one_new _ _ _) (by simp [Value.oneCell']) hs1 hs2 (by rw [World.size_alloc]; exact hs3) ?_; intro v' w2 hown' hgrow hnil; have HOw := Lib.hid hown'; have HGw := Lib.hid hgrow; clear hown' hgrow hnil)
          have HB2 : Hid (Below w.heap.size w w2) := Lib.hid ((HW.out.alloc hwz _).grown HGw.out (by rw [World.size_alloc]; exact hs3) (fun b e => (HR.out.lt b e).1))
          have HR2 : Hid (w2.ownsRow w.heap.size 3 1 v' (k + 1) ((cols ++ [dg]).map (Value.int .i64))) := Lib.hid (by rw [List.map_append]; exact HOw.out)
          clear s1 s3
          go_roundg (la.length - (k + 1))
          case rel => exact ⟨k + 1, 1, cols ++ [dg], by simp [HCk.out], hka, by decide, by decide, by simp, rfl, HV2, HD2, HR2, HB2, rfl⟩
          case measure => omega
        · skip
          obtain ⟨dg, rfl⟩ : ∃ d : Int, d = y1 := ⟨_, rfl⟩
          have dN : decide (dg < 0) = false := decide_eq_false (by omega)
          have hg0 : 0 ≤ dg := by omega
          have hg9 : dg < 10 := by omega
          have hnum : Rf.valT (la.drop k) - Rf.valT (lb.drop k) - br = dg + 10 * (Rf.valT (la.drop (k + 1)) - Rf.valT (lb.drop (k + 1)) - 0) := by omega
          have HV2 := Lib.hid (minus_num cols k n dg 0 _ _ _ _ br HCk.out HV.out hnum)
          have HD2 := Lib.hid (Rf.digs_snoc HD.out hg0 hg9)
          clear hnum hva hvb hIa hIb hvb2
          subst hoa
          go_wp2_with (at_builtin; refine wpList_append_own _ rfl _ _ 50 rfl w.heap.size 3 i0 (.int .i64 0) 1 8 Tryz.underlying50 hi hz0 hz1 hz2 rfl (by decide) _ k _ rfl (HR.out.alloc _) ⟨wr.heap.size, 0, none⟩ 1 1 [.int .i64 dg] rfl rfl (cell_one_new _ _ _) (by simp [Value.oneCell']) hs1 hs2 (by rw [World.size_alloc]; exact hs3) ?_; intro v' w2 hown' hgrow hnil; have HOw := Lib.hid hown'; have HGw := Lib.hid hgrow; clear hown' hgrow hnil)
          have HB2 : Hid (Below w.heap.size w w2) := Lib.hid ((HW.out.alloc hwz _).grown HGw.out (by rw [World.size_alloc]; exact hs3) (fun b e => (HR.out.lt b e).1))
          have HR2 : Hid (w2.ownsRow w.heap.size 3 1 v' (k + 1) ((cols ++ [dg]).map (Value.int .i64))) := Lib.hid (by rw [List.map_append]; exact HOw.out)
          clear s1
          go_roundg (la.length - (k + 1))
          case rel => exact ⟨k + 1, 0, cols ++ [dg], by simp [HCk.out], hka, by decide, by decide, by simp, rfl, HV2, HD2, HR2, HB2, rfl⟩
          case measure => omega
    · have hkl : k = la.length := by omega
      have dA : decide ((k : Int) < (la.length : Int)) = false := decide_eq_false (by omega)
      have dAn : decide (k < la.length) = false := decide_eq_false (by omega)
      have hval : Rf.valT cols = (n : Int) := by
        have h := HV.out
        rw [Rf.valT_over la k (by omega)] at h
        exact minus_end cols k n _ br HCk.out HD.out (Rf.valT_nonneg (fun x hx => HDb.out x (List.mem_of_mem_drop hx))) hbr0 h
      obtain ⟨oo, cc, rfl, hle, hint⟩ := row_forms HCk.out HR.out
      have HT := Lib.hid (trimmed_c oo cc cols wr hint hle (by rw [HCk.out]; omega))
      have HI := Lib.hid hint
      have HVal := Lib.hid hval
      have HLe := Lib.hid hle
      clear hint hval hIa hIb hkl hle
      go_wp2_with fail
      refine HT.out.mono ?_
      rintro e w3 ⟨rfl, rfl⟩
      go_wp2_with fail
      (try go_ret)
      exact retT_cut HI.out HLe.out HD.out HVal.out HW.out
end Go.Proofs.YthbfbpbppjkoeaaGreatDoor
/- Contract of times of package proteusref03. Conditions: those in the statements. -/
namespace Go.Proofs.YthbfbpbppjkoeaaGreatDoor
open Go.RowKit Go.Shelf
set_option maxRecDepth 100000
set_option linter.unusedVariables false

/-- The columns of a product behind i rows and k digits of the next one. -/
structure TC (m B : Nat) (la lb : List Int) (i : Nat) (xa : Int) (k : Nat) cr (j : Nat) (w wr : World) (cols : List Int) : Prop where
  len : cols.length = m
  row : wr.ownsRow B 3 1 (.slice (some ⟨B, 0, none⟩) m m) m (cols.map (Value.int .i64))
  val : Rf.valT cols + 10 ^ (i + k) * cr = Rf.valT (la.take i) * Rf.valT lb + xa * 10 ^ i * Rf.valT (lb.take k)
  dig : Rf.Digs cols
  nul : Rf.Nul cols j
  below : Below B w wr
theorem retT_zero (w : World) : RetT 0 w (.returned (.slice none 0 0)) w := ⟨none, 0, by rw [Rf.tens_zero]; rfl, by rw [Rf.tens_zero]; exact Nat.le_refl _, by rw [Rf.tens_zero]; exact IntAt.nil _ _, Below.refl _ _⟩

set_option maxHeartbeats 400000 in
theorem times_nil1 (lb : List Int) (o o' : Option Addr) (c c' : Nat) (w : World) :
    Calls Tryz.prog 60 #[.slice o 0 c, .slice o' lb.length c'] w (RetT 0 w) := by
  go_enter Tryz.func60, Tryz.ntmps60
  go_wp2_with fail
  go_ret
  exact retT_zero w
set_option maxHeartbeats 400000 in
theorem times_nil2 (la : List Int) (o o' : Option Addr) (c c' : Nat) (w : World) (h : 0 < la.length) :
    Calls Tryz.prog 60 #[.slice o la.length c, .slice o' 0 c'] w (RetT 0 w) := by
  have d1 : ((la.length : Int) == 0) = false := beq_eq_false_iff_ne.2 (by omega)
  have d2 : (la.length == 0) = false := beq_eq_false_iff_ne.2 (by omega)
  go_enter Tryz.func60, Tryz.ntmps60
  go_wp2_with fail
  go_ret
  exact retT_zero w

set_option maxHeartbeats 1000000 in
theorem times_pos (la lb : List Int) (o o' : Option Addr) (c c' n : Nat) (w : World) (ha : IntAt w o la) (hb : IntAt w o' lb) (da : Rf.Digs la) (db : Rf.Digs lb) (hla : la.length ≤ 1000) (hlb : lb.length ≤ 1000) (hpa : 0 < la.length) (hpb : 0 < lb.length) (hn : Rf.valT la * Rf.valT lb = n) :
    Calls Tryz.prog 60 #[.slice o la.length c, .slice o' lb.length c'] w (RetT n w) := by
  obtain ⟨i0, hi, hz0, hz1, hz2⟩ := info_parts info_int
  have HA := Lib.hid ha
  have HB := Lib.hid hb
  have HDa := Lib.hid da
  have HDb := Lib.hid db
  have HN := Lib.hid hn
  clear ha hb da db hn
  have e1 : ((la.length : Int) == 0) = false := beq_eq_false_iff_ne.2 (by omega)
  have e2 : (la.length == 0) = false := beq_eq_false_iff_ne.2 (by omega)
  have e3 : ((lb.length : Int) == 0) = false := beq_eq_false_iff_ne.2 (by omega)
  have e4 : (lb.length == 0) = false := beq_eq_false_iff_ne.2 (by omega)
  go_enter Tryz.func60, Tryz.ntmps60
  go_upto_region 4 with (at_make; refine wpList_make_full _ rfl _ _ 50 rfl w.heap.size 3 i0 (.int .i64 0) 1 Tryz.underlying50 hi hz0 hz1 .i64 .i64 _ _ (la.length + lb.length) rfl rfl (by simp) (by simp) (by rw [hz2]; omega) (by unfold maxLen; omega) (Nat.le_refl _) ?_; intro w1 hown1 hgrow1; have HO1 := Lib.hid hown1; have HG1 := Lib.hid hgrow1; clear hown1 hgrow1)
  have hb1 : Below w.heap.size w w1 := (Below.refl _ w).grown HG1.out (Nat.le_refl _) (fun k e => by cases e)
  have hrow : w1.ownsRow w.heap.size 3 1 (.slice (some ⟨w.heap.size, 0, none⟩) (la.length + lb.length) (la.length + lb.length)) (la.length + lb.length) ((List.replicate (la.length + lb.length) 0).map (Value.int .i64)) := by
    have := HO1.out
    rwa [show (Value.int IntKind.i64 0).cells = #[.int .i64 0] from rfl, Nat.mul_one, toList_madeCells_one, ← List.map_replicate] at this
  have hp0 : TC (la.length + lb.length) w.heap.size la lb 0 0 0 0 lb.length w w1 (List.replicate (la.length + lb.length) 0) :=
    { len := by simp, row := hrow, val := by simp [Rf.valT, Rf.valT_zeros], dig := Rf.digs_zeros _, nul := Rf.nul_zeros _ _, below := hb1 }
  have HP0 := Lib.hid hp0
  clear hp0 hrow hb1 HO1 HG1 e1 e2 e3 e4
  go_wp2_with fail
  go_loopg [6, 7, 8, 9] la.length (fun g iv cv kv xv wr => ∃ (i : Nat) (cols : List Int), i ≤ la.length ∧ iv = .int .i64 i ∧ Hid (TC (la.length + lb.length) w.heap.size la lb i 0 0 0 (i + lb.length) w wr cols) ∧ g = la.length - i)
  case atStart => exact ⟨0, _, Nat.zero_le _, rfl, Lib.hid (by simpa using HP0.out), rfl⟩
  case round =>
    clear HP0
    obtain ⟨i, cols, hil, rfl, HP, hg⟩ := hrel
    by_cases hlt : i < la.length
    · have dL : decide ((i : Int) < (la.length : Int)) = true := decide_eq_true (by omega)
      have dLn : decide (i < la.length) = true := decide_eq_true (by omega)
      have hgeta : la[i]? = some la[i] := List.getElem?_eq_getElem hlt
      have hda := HDa.out la[i] (List.getElem_mem hlt)
      generalize la[i] = xa at *
      obtain ⟨hqa0, hqa9'⟩ := hda
      have hqa9 : xa ≤ 9 := by omega
      have HGa := Lib.hid hgeta
      have HP2 : Hid (TC (la.length + lb.length) w.heap.size la lb i xa 0 0 (i + lb.length) w wr cols) := Lib.hid { len := HP.out.len, row := HP.out.row, val := by have := HP.out.val; simpa [Rf.valT] using this, dig := HP.out.dig, nul := HP.out.nul, below := HP.out.below }
      have HP3 : Hid (TC (la.length + lb.length) w.heap.size la lb i xa 0 0 (max (i + lb.length) (i + 0)) w wr cols) := by rw [show max (i + lb.length) (i + 0) = i + lb.length by omega]; exact HP2
      clear HP2
      have hi0 : (0 : Int) ≤ (i : Int) := Int.natCast_nonneg _
      have hi1 : (i : Int) ≤ 1000 := by omega
      clear hgeta HP hqa9'
      go_wp2_with fail
      go_loopg [7, 8, 9] (lb.length + 1) (fun g cv kv xv wr => ∃ (k : Nat) (cr : Int) (cols : List Int), k ≤ lb.length + 1 ∧ 0 ≤ cr ∧ cr ≤ 9 ∧ (k = lb.length + 1 → cr = 0) ∧ kv = .int .i64 k ∧ cv = .int .i64 cr ∧ Hid (TC (la.length + lb.length) w.heap.size la lb i xa k cr (max (i + lb.length) (i + k)) w wr cols) ∧ g = lb.length + 1 - k)
      case atStart => exact ⟨0, 0, cols, by omega, by omega, by omega, fun _ => rfl, rfl, rfl, HP3, rfl⟩
      case round =>
        clear HP3
        obtain ⟨k, cr, cols, hkl, hcr0, hcr1, hcrz, rfl, rfl, HQ, hg⟩ := hrel
        have hk0 : (0 : Int) ≤ (k : Int) := Int.natCast_nonneg _
        have hk1 : (k : Int) ≤ 1001 := by omega
        by_cases hkb : k < lb.length
        · skip
          have dB : decide ((k : Int) < (lb.length : Int)) = true := decide_eq_true (by omega)
          have dBn : decide (k < lb.length) = true := decide_eq_true (by omega)
          have hgetb : lb[k]? = some lb[k] := List.getElem?_eq_getElem hkb
          have hdb := HDb.out lb[k] (List.getElem_mem hkb)
          generalize lb[k] = xb at *
          obtain ⟨hqb0, hqb9'⟩ := hdb
          obtain ⟨ba, rfl, hba, hca⟩ := HA.out i _ HGa.out
          replace hca := (HQ.out.below.cell (p := ⟨ba, i, none⟩) hba).trans hca
          obtain ⟨bb, rfl, hbb, hcb⟩ := HB.out k _ hgetb
          replace hcb := (HQ.out.below.cell (p := ⟨bb, k, none⟩) hbb).trans hcb
          have hkm : i + k < cols.length := by have := HQ.out.len; omega
          have hkm2 : (i : Int) + (k : Int) < (la.length : Int) + (lb.length : Int) := by omega
          have hgz : cols[i + k]? = some cols[i + k] := List.getElem?_eq_getElem hkm
          have hdz := HQ.out.dig cols[i + k] (List.getElem_mem hkm)
          generalize cols[i + k] = xz at *
          obtain ⟨hqz0, hqz9'⟩ := hdz
          have hcx := HQ.out.row.cellAt (i + k) (by omega)
          rw [List.getElem?_map, hgz] at hcx
          have hcx : wr.cell? ⟨w.heap.size, i + k, none⟩ = some (.int .i64 xz) := hcx
          have hcf := HQ.out.row.frozenAt (i + k)
          have hqz9 : xz ≤ 9 := by omega
          have hqb9 : xb ≤ 9 := by omega
          obtain ⟨hpm0, hpm1⟩ := Rf.dig_mul hqa0 hqa9 hqb0 hqb9
          obtain ⟨pm, s0⟩ : ∃ p : Int, xa * xb = p := ⟨_, rfl⟩
          rw [s0] at hpm0 hpm1
          obtain ⟨y1, s1⟩ : ∃ y : Int, xz + cr = y := ⟨_, rfl⟩
          have hy0 : 0 ≤ y1 := by omega
          have hy1 : y1 ≤ 18 := by omega
          obtain ⟨x0, s2⟩ : ∃ x : Int, y1 + pm = x := ⟨_, rfl⟩
          have hx0 : 0 ≤ x0 := by omega
          have hx1 : x0 ≤ 99 := by omega
          obtain ⟨dg, c2, hdc, hg0, hg9, hc2i, t1, t2, t3⟩ := dig_step x0 (by omega) (by omega)
          have hc29 : c2 ≤ 9 := by clear t1 t2 t3; omega
          obtain ⟨hst1, hst2⟩ := HQ.out.row.stored (i + k) (.int .i64 dg)
          rw [← List.map_set] at hst1
          have hv2 := Rf.times_step (d := dg) (c2 := c2) (xa := xa) (n := 0) hgz hgetb HQ.out.val (by clear t1 t2 t3; omega)
          have hnl : Rf.Nul (cols.set (i + k) dg) (max (i + lb.length) (i + (k + 1))) := (HQ.out.nul.mono (by omega)).set (by omega)
          have HPN : Hid (TC (la.length + lb.length) w.heap.size la lb i xa (k + 1) c2 (max (i + lb.length) (i + (k + 1))) w (wr.setCell ⟨w.heap.size, i + k, none⟩ (.int .i64 dg)) (cols.set (i + k) dg)) :=
            Lib.hid { len := by rw [List.length_set]; exact HQ.out.len, row := hst1, val := hv2, dig := Rf.digs_set HQ.out.dig hg0 hg9, nul := hnl, below := HQ.out.below.setCell (p := ⟨w.heap.size, i + k, none⟩) (Nat.le_refl _) _ }
          have HPN : ∀ q, Hid (TC (la.length + lb.length) w.heap.size la lb i xa (k + 1) c2 (max (i + lb.length) (i + (k + 1))) w ((wr.drewN q).setCell ⟨w.heap.size, i + k, none⟩ (.int .i64 dg)) (cols.set (i + k) dg)) := fun q => Lib.hid ⟨HPN.out.len, HPN.out.row, HPN.out.val, HPN.out.dig, HPN.out.nul, ⟨HPN.out.below.os, HPN.out.below.tape, HPN.out.below.output, HPN.out.below.size, HPN.out.below.block⟩⟩
          clear hst1 hst2 hv2 hnl hgz hdc hcrz hgetb hqb9'
          go_wp2_with fail
          go_quiet (fail)
          go_wp2_with fail
          go_roundg (lb.length + 1 - (k + 1))
          case rel => exact ⟨k + 1, c2, _, by omega, hc2i, hc29, fun h => by omega, by go_num, rfl, HPN _, rfl⟩
          case measure => omega
        · have dB : decide ((k : Int) < (lb.length : Int)) = false := decide_eq_false (by omega)
          have dBn : decide (k < lb.length) = false := decide_eq_false (by omega)
          by_cases hc0 : cr = 0
          · subst hc0
            have HPN : Hid (TC (la.length + lb.length) w.heap.size la lb (i + 1) 0 0 0 (i + 1 + lb.length) w wr cols) := by
              refine Lib.hid { len := HQ.out.len, row := HQ.out.row, val := ?_, dig := HQ.out.dig, nul := HQ.out.nul.mono (by omega), below := HQ.out.below }
              have := HQ.out.val
              rw [List.take_of_length_le (by omega : lb.length ≤ k), Rf.times_next HGa.out] at this
              simpa [Rf.valT] using this
            clear hcrz
            go_wp2_with fail
            go_roundg (la.length - (i + 1))
            case rel => exact ⟨i + 1, _, by omega, by go_num, HPN, rfl⟩
            case measure => omega
          · skip
            have hke : k = lb.length := by have := hcrz; omega
            have hkle : k ≤ lb.length := by omega
            have dC : decide ((0 : Int) < cr) = true := decide_eq_true (by omega)
            have dCn : decide (0 < cr) = true := decide_eq_true (by omega)
            have hkm : i + k < cols.length := by have := HQ.out.len; omega
            have hkm2 : (i : Int) + (k : Int) < (la.length : Int) + (lb.length : Int) := by omega
            have hgz : cols[i + k]? = some cols[i + k] := List.getElem?_eq_getElem hkm
            have hdz := HQ.out.dig cols[i + k] (List.getElem_mem hkm)
            generalize cols[i + k] = xz at *
            obtain ⟨hqz0, hqz9'⟩ := hdz
            have hcx := HQ.out.row.cellAt (i + k) (by omega)
            rw [List.getElem?_map, hgz] at hcx
            have hcx : wr.cell? ⟨w.heap.size, i + k, none⟩ = some (.int .i64 xz) := hcx
            have hcf := HQ.out.row.frozenAt (i + k)
            have hqz9 : xz ≤ 9 := by omega
            obtain ⟨x0, s1⟩ : ∃ y : Int, xz + cr = y := ⟨_, rfl⟩
            have hx0 : 0 ≤ x0 := by omega
            have hqz00 : xz = 0 := HQ.out.nul (i + k) _ hgz (by omega)
            have hx1 : x0 ≤ 9 := by omega
            obtain ⟨dg, c2, hdc, hg0, hg9, hc2i, t1, t2, t3⟩ := dig_step x0 (by omega) (by omega)
            have hc29 : c2 ≤ 9 := by clear t1 t2 t3; omega
            have hc20 : c2 = 0 := by clear t1 t2 t3; omega
            obtain ⟨hst1, hst2⟩ := HQ.out.row.stored (i + k) (.int .i64 dg)
            rw [← List.map_set] at hst1
            have hv2 : Rf.valT (cols.set (i + k) dg) + 10 ^ (i + (k + 1)) * c2 = Rf.valT (la.take i) * Rf.valT lb + xa * 10 ^ i * Rf.valT (lb.take (k + 1)) := by
              have h := HQ.out.val
              rw [List.take_of_length_le (by omega : lb.length ≤ k)] at h
              rw [List.take_of_length_le (by omega : lb.length ≤ k + 1)]
              exact Rf.times_last hgz h (by clear t1 t2 t3; omega)
            have hnl : Rf.Nul (cols.set (i + k) dg) (max (i + lb.length) (i + (k + 1))) := (HQ.out.nul.mono (by omega)).set (by omega)
            have HPN : Hid (TC (la.length + lb.length) w.heap.size la lb i xa (k + 1) c2 (max (i + lb.length) (i + (k + 1))) w (wr.setCell ⟨w.heap.size, i + k, none⟩ (.int .i64 dg)) (cols.set (i + k) dg)) :=
              Lib.hid { len := by rw [List.length_set]; exact HQ.out.len, row := hst1, val := hv2, dig := Rf.digs_set HQ.out.dig hg0 hg9, nul := hnl, below := HQ.out.below.setCell (p := ⟨w.heap.size, i + k, none⟩) (Nat.le_refl _) _ }
            have HC20 := Lib.hid hc20
            clear hst1 hst2 hv2 hnl hgz hdc hcrz hke hc20 hqz00
            go_wp2_with fail
            go_roundg (lb.length + 1 - (k + 1))
            case rel => exact ⟨k + 1, c2, _, by omega, hc2i, hc29, fun _ => HC20.out, by go_num, rfl, HPN, rfl⟩
            case measure => omega
    · have dL : decide ((i : Int) < (la.length : Int)) = false := decide_eq_false (by omega)
      have dLn : decide (i < la.length) = false := decide_eq_false (by omega)
      have hkl : i = la.length := by omega
      have hfin : Rf.valT cols = (n : Int) := by
        have := HP.out.val
        rw [hkl, List.take_length] at this
        rw [← HN.out]; simpa [Rf.valT] using this
      have HT := Lib.hid (trimmed_c (some ⟨w.heap.size, 0, none⟩) (la.length + lb.length) cols wr (intAt_owns HP.out.row) (by have := HP.out.len; omega) (by have := HP.out.len; omega))
      rw [HP.out.len] at HT
      have HVal := Lib.hid hfin
      clear hfin hkl
      go_wp2_with fail
      refine HT.out.mono ?_
      rintro e w3 ⟨rfl, rfl⟩
      go_wp2_with fail
      (try go_ret)
      have h3 := retT_cut (w := w) (intAt_owns HP.out.row) (c := la.length + lb.length) (by have := HP.out.len; omega) HP.out.dig HVal.out HP.out.below
      rw [HP.out.len] at h3
      exact h3

theorem times_ref (la lb : List Int) (o o' : Option Addr) (c c' n : Nat) (w : World) (ha : IntAt w o la) (hb : IntAt w o' lb) (da : Rf.Digs la) (db : Rf.Digs lb) (hla : la.length ≤ 1000) (hlb : lb.length ≤ 1000) (hn : Rf.valT la * Rf.valT lb = n) :
    Calls Tryz.prog 60 #[.slice o la.length c, .slice o' lb.length c'] w (RetT n w) := by
  by_cases hpa : 0 < la.length
  · by_cases hpb : 0 < lb.length
    · exact times_pos la lb o o' c c' n w ha hb da db hla hlb hpa hpb hn
    · obtain rfl : lb = [] := List.length_eq_zero_iff.1 (by omega)
      obtain rfl : n = 0 := by simp [Rf.valT] at hn; omega
      exact times_nil2 la o o' c c' w hpa
  · obtain rfl : la = [] := List.length_eq_zero_iff.1 (by omega)
    obtain rfl : n = 0 := by simp [Rf.valT] at hn; omega
    exact times_nil1 lb o o' c c' w
end Go.Proofs.YthbfbpbppjkoeaaGreatDoor
/- Contracts of negated and add of package proteusref03. Conditions: those in the statements. -/
namespace Go.Proofs.YthbfbpbppjkoeaaGreatDoor
open Go.RowKit Go.Shelf
set_option maxRecDepth 100000
set_option linter.unusedVariables false
set_option linter.unusedSimpArgs false

theorem RB.drew {W : World} {B : Nat} {u v : Value} (h : RB W B u v) : RB W.drew B u v := h
/-- What is kept in a region: two boxes, and what was there before. -/
def SR (n A B : Nat) (w : World) (u v x y : Value) (W : World) : Prop := W.cell? ⟨A, 0, none⟩ = some u ∧ W.cell? ⟨A, 1, none⟩ = some v ∧ W.cell? ⟨B, 0, none⟩ = some x ∧ W.cell? ⟨B, 1, none⟩ = some y ∧ Below n w W ∧ A < W.heap.size ∧ B < W.heap.size
theorem SR.mk {n A B : Nat} {w W : World} {u v x y : Value} (hA : RB W A u v) (hB : RB W B x y) (hb : Below n w W) : SR n A B w u v x y W := ⟨hA.c0, hA.c1, hB.c0, hB.c1, hb, hA.lt, hB.lt⟩
theorem SR.kept {n A B : Nat} {w W W' : World} {u v x y : Value} (h : SR n A B w u v x y W) (hn : n ≤ W.heap.size) (hb : Below W.heap.size W W') : SR n A B w u v x y W' := by
  obtain ⟨h1, h2, h3, h4, h7, a1, a2⟩ := h
  exact ⟨(hb.cell (p := ⟨A, 0, none⟩) a1).trans h1, (hb.cell (p := ⟨A, 1, none⟩) a1).trans h2, (hb.cell (p := ⟨B, 0, none⟩) a2).trans h3, (hb.cell (p := ⟨B, 1, none⟩) a2).trans h4, h7.trans (hb.mono hn), Nat.lt_of_lt_of_le a1 hb.size, Nat.lt_of_lt_of_le a2 hb.size⟩
theorem SR.put {n A B : Nat} {w W : World} {u v x y : Value} (h : SR n A B w u v x y W) (D : Nat) (d1 : D ≠ A) (d2 : D ≠ B) (hD : n ≤ D) (s t : Value) : SR n A B w u v x y ((W.setCell ⟨D, 0, none⟩ s).setCell ⟨D, 1, none⟩ t) := by
  obtain ⟨h1, h2, h3, h4, h7, a1, a2⟩ := h
  refine ⟨?_, ?_, ?_, ?_, below_put h7 hD _ _, by simpa [World.setCell] using a1, by simpa [World.setCell] using a2⟩
  all_goals
    rw [World.cell?_setCell_far _ _ _ _ (by simp; omega), World.cell?_setCell_far _ _ _ _ (by simp; omega)]
    assumption
theorem SR.put3 {n A B : Nat} {w W : World} {u v x y : Value} (h : SR n A B w u v x y W) (D : Nat) (d1 : D ≠ A) (d2 : D ≠ B) (hD : n ≤ D) (s t z : Value) : SR n A B w u v x y (((W.setCell ⟨D, 0, none⟩ s).setCell ⟨D, 1, none⟩ t).setCell ⟨D, 2, none⟩ z) := by
  obtain ⟨h1, h2, h3, h4, h7, a1, a2⟩ := h
  refine ⟨?_, ?_, ?_, ?_, below_put3 h7 hD _ _ _, by simpa [World.setCell] using a1, by simpa [World.setCell] using a2⟩
  all_goals
    rw [World.cell?_setCell_far _ _ _ _ (by simp; omega), World.cell?_setCell_far _ _ _ _ (by simp; omega), World.cell?_setCell_far _ _ _ _ (by simp; omega)]
    assumption
theorem boxesR2 (w : World) (u v x y : Value) :
    RB ((w.alloc (.cells #[u, v] 52)).alloc (.cells #[x, y] 52)) w.heap.size u v ∧
    RB ((w.alloc (.cells #[u, v] 52)).alloc (.cells #[x, y] 52)) (w.heap.size + 1) x y ∧
    Below w.heap.size w ((w.alloc (.cells #[u, v] 52)).alloc (.cells #[x, y] 52)) :=
  ⟨(RB.new w u v).alloc _, heap2 _ _ _, ((Below.refl _ w).alloc (Nat.le_refl _) _).alloc (by simp) _⟩
theorem boxesR3 (w : World) (u v x y p q : Value) :
    RB (((w.alloc (.cells #[u, v] 52)).alloc (.cells #[x, y] 52)).alloc (.cells #[p, q] 52)) w.heap.size u v ∧
    RB (((w.alloc (.cells #[u, v] 52)).alloc (.cells #[x, y] 52)).alloc (.cells #[p, q] 52)) (w.heap.size + 1) x y ∧
    RB (((w.alloc (.cells #[u, v] 52)).alloc (.cells #[x, y] 52)).alloc (.cells #[p, q] 52)) (w.heap.size + 1 + 1) p q ∧
    Below w.heap.size w (((w.alloc (.cells #[u, v] 52)).alloc (.cells #[x, y] 52)).alloc (.cells #[p, q] 52)) := by
  obtain ⟨h1, h2, h3⟩ := boxesR2 w u v x y
  refine ⟨h1.alloc _, h2.alloc _, ?_, h3.alloc (by simp; omega) _⟩
  have := RB.new ((w.alloc (.cells #[u, v] 52)).alloc (.cells #[x, y] 52)) p q
  rwa [World.size_alloc, World.size_alloc] at this
/-- Digits that make a number, not too many of them. -/
def RetG (n : Nat) (w : World) (e : Ending) (w' : World) : Prop := ∃ o l c, e = .returned (.slice o l.length c) ∧ l.length ≤ c ∧ IntAt w' o l ∧ Rf.Digs l ∧ Rf.valT l = (n : Int) ∧ l.length ≤ 100000 ∧ Below w.heap.size w w'
theorem tens_len_mono {a b : Nat} (h : a ≤ b) : (Rf.tens a).length ≤ (Rf.tens b).length := by
  by_cases h1 : (Rf.tens b).length < (Rf.tens a).length
  · have := cmp_len h1; omega
  · omega
theorem RetT.retG {n : Nat} {w w' : World} {e : Ending} (h : RetT n w e w') (hl : (Rf.tens n).length ≤ 100000) : RetG n w e w' := by
  obtain ⟨o, c, h1, h2, h3, h4⟩ := h
  exact ⟨o, _, c, h1, h2, h3, Rf.digs_tens n, Rf.valT_tens n, hl, h4⟩
theorem RetD.retG {n m : Nat} {w w' : World} {e : Ending} (h : RetD n m w e w') (hl : m ≤ 100000) : RetG n w e w' := by
  obtain ⟨o, l, c, h1, h2, h3, h4, h5, h6, h7⟩ := h
  exact ⟨o, l, c, h1, h2, h3, h4, h5, by omega, h7⟩

set_option maxHeartbeats 400000 in
theorem negated_ref (z : Int) (o : Option Addr) (c : Nat) (w : World) (h : RAt w o c z) (hl : (Rf.tens z.natAbs).length ≤ 2000) :
    Calls Tryz.prog 58 #[rnV z o c] w (RetR (-z) w) := by
  obtain ⟨s, hs⟩ : ∃ s, decide (z < 0) = s := ⟨_, rfl⟩
  have HSg := Lib.hid (fun (W : World) (hb : Below w.heap.size w W) => signed_ref (!s) o c (Rf.tens z.natAbs) z.natAbs (-z) W (h.2.mono hb) h.1 (by omega) (Rf.digs_tens _) (Rf.valT_tens _) (by rw [← hs]; by_cases h0 : z < 0 <;> simp [h0] <;> omega))
  have HBx := Lib.hid (fun u v => boxesR2 w u v (.bool false) (.slice none 0 0))
  obtain ⟨z', hz'⟩ : ∃ z', -z = z' := ⟨_, rfl⟩
  rw [hz'] at HSg ⊢
  unfold rnV
  rw [hs]
  clear hs h hl hz'
  generalize (Rf.tens z.natAbs).length = k at *
  go_enter Tryz.func58, Tryz.ntmps58
  go_wp2_with fail
  refine (HSg.out _ (HBx.out (.bool s) (.slice o k c)).2.2).mono ?_
  rintro e w1 ⟨o1, c1, rfl, hr1, hb1⟩
  unfold rnV
  have hR := (HBx.out (.bool s) (.slice o k c)).2.1.below hb1 (HBx.out (.bool s) (.slice o k c)).2.1.lt
  have H1 := Lib.hid ((HBx.out (.bool s) (.slice o k c)).2.2.trans (hb1.mono (HBx.out (.bool s) (.slice o k c)).2.2.size))
  have c0 := hR.c0
  have c1' := hR.c1
  have f0 := hR.fz 0
  have f1 := hR.fz 1
  have HR := Lib.hid hR
  have HA := Lib.hid hr1
  clear hb1 hR hr1
  go_wp2_with fail
  exact ret_rb rfl rfl rfl (HR.out.put _ _) ⟨o1, c1, rfl, ⟨HA.out.1, intAt_put_rb HR.out HA.out.2 _ _⟩, below_put H1.out (Nat.le_succ _) _ _⟩

set_option maxHeartbeats 1000000 in
theorem add_same_p (x y : Int) (oa ob : Option Addr) (ca cb : Nat) (w : World) (hx : RAt w oa ca x) (hy : RAt w ob cb y) (lx : (Rf.tens x.natAbs).length ≤ 1000) (ly : (Rf.tens y.natAbs).length ≤ 1000) (hsx0 : ¬ x < 0) (hsy0 : ¬ y < 0) :
    Calls Tryz.prog 57 #[rnV x oa ca, rnV y ob cb] w (RetR (x + y) w) := by
  obtain ⟨n, hn⟩ : ∃ n : Nat, x.natAbs + y.natAbs = n := ⟨_, rfl⟩
  obtain ⟨z, hz⟩ : ∃ z, x + y = z := ⟨_, rfl⟩
  have HP := Lib.hid (fun (W : World) (hb : Below w.heap.size w W) => (plus_ref (Rf.tens x.natAbs) (Rf.tens y.natAbs) oa ob ca cb n W (hx.2.mono hb) (hy.2.mono hb) (Rf.digs_tens _) (Rf.digs_tens _) (by omega) (by omega) (by rw [Rf.valT_tens, Rf.valT_tens]; omega)).mono fun _ _ h => h.retG (by omega))
  have HSg := Lib.hid (fun (W : World) (o : Option Addr) (l : List Int) (c : Nat) (h1 : IntAt W o l) (h2 : l.length ≤ c) (h3 : l.length ≤ 100000) (h4 : Rf.Digs l) (h5 : Rf.valT l = (n : Int)) => signed_ref false o c l n z W h1 h2 h3 h4 h5 (by simp; omega))
  have dx : decide (x < 0) = false := decide_eq_false hsx0
  have dy : decide (y < 0) = false := decide_eq_false hsy0
  rw [hz]
  unfold rnV
  rw [dx, dy]
  clear dx dy hx hy lx ly hn hz
  generalize (Rf.tens x.natAbs).length = la at *
  generalize (Rf.tens y.natAbs).length = lb at *
  obtain ⟨hA0, hB0, hN0, hb0⟩ := boxesR3 w (.bool false) (.slice oa la ca) (.bool false) (.slice ob lb cb) (.bool false) (.slice none 0 0)
  have HBa := Lib.hid hb0
  have HS0 := Lib.hid (SR.mk (W := World.drew _) hA0.drew hB0.drew hb0.drew)
  have HN0 := Lib.hid hN0.drew
  have HB0 := Lib.hid hb0.drew
  clear hA0 hB0 hN0 hb0
  go_enter Tryz.func57, Tryz.ntmps57
  go_wp2_with fail
  refine wp_region_held_drew (S := SR w.heap.size w.heap.size (w.heap.size + 1) w (.bool false) (.slice oa la ca) (.bool false) (.slice ob lb cb)) (by kernel_rfl) HS0.out (fun hS => ?_)
  refine wpAnyH_take (i := 0) (v := ?hlv1) rfl (by kernel_rfl) (by kernel_rfl) (by kernel_rfl) (fun _ _ _ h => h) (Or.inl ⟨by rfl, ?hly1⟩) (by assumption) ?hlr1
  case hly1 => (intro w hSw; (try unfold SR at hSw); (try dsimp only at hSw); go_simp; (try with_reducible rfl))
  (try simp only [Act.put, List.setIfInBounds_toArray, List.set_cons_zero, List.set_cons_succ])
  refine wpAnyH_take (i := 1) (v := ?hlv2) rfl (by kernel_rfl) (by kernel_rfl) (by kernel_rfl) (fun _ _ _ h => h) (Or.inl ⟨by rfl, ?hly2⟩) (by assumption) ?hlr2
  case hly2 => (intro w hSw; (try unfold SR at hSw); (try dsimp only at hSw); go_simp; (try with_reducible rfl))
  (try simp only [Act.put, List.setIfInBounds_toArray, List.set_cons_zero, List.set_cons_succ])
  refine wpAnyH_take (i := 2) (v := ?hlv3) rfl (by kernel_rfl) (by kernel_rfl) (by kernel_rfl) (fun _ _ _ h => h) (Or.inl ⟨by rfl, ?hly3⟩) (by assumption) ?hlr3
  case hly3 => (intro w hSw; (try unfold SR at hSw); (try dsimp only at hSw); go_simp; (try with_reducible rfl))
  (try simp only [Act.put, List.setIfInBounds_toArray, List.set_cons_zero, List.set_cons_succ])
  refine wpAnyH_take (i := 3) (v := ?hlv4) rfl (by kernel_rfl) (by kernel_rfl) (by kernel_rfl) (fun _ _ _ h => h) (Or.inl ⟨by rfl, ?hly4⟩) (by assumption) ?hlr4
  case hly4 => (intro w hSw; (try unfold SR at hSw); (try dsimp only at hSw); go_simp; (try with_reducible rfl))
  (try simp only [Act.put, List.setIfInBounds_toArray, List.set_cons_zero, List.set_cons_succ])
  refine wpAnyH_take (i := 4) (v := ?hlv5) rfl (by kernel_rfl) (by kernel_rfl) (by kernel_rfl) (fun _ _ _ h => h) (Or.inl ⟨by rfl, ?hly5⟩) (by assumption) ?hlr5
  case hly5 => (intro w hSw; (try unfold SR at hSw); (try dsimp only at hSw); go_simp; (try with_reducible rfl))
  (try simp only [Act.put, List.setIfInBounds_toArray, List.set_cons_zero, List.set_cons_succ])
  refine wpAnyH_take (i := 5) (v := ?hlv6) rfl (by kernel_rfl) (by kernel_rfl) (by kernel_rfl) (fun _ _ _ h => h) (Or.inl ⟨by rfl, ?hly6⟩) (by assumption) ?hlr6
  case hly6 => (intro w hSw; (try unfold SR at hSw); (try dsimp only at hSw); go_simp; (try with_reducible rfl))
  (try simp only [Act.put, List.setIfInBounds_toArray, List.set_cons_zero, List.set_cons_succ])
  refine wpAnyH_ready (rs := [6]) (by kernel_rfl) (by simp) ?_
  refine AllReadyH.one rfl ?_ AllReadyH.nil
  intro K hK
  go_simp
  refine (HP.out _ HB0.out).mono ?_
  rintro e w2 ⟨o2, l2, c2, rfl, hc2, hi2, hd2, hv2, hl2, hb2⟩
  refine hK.out _ _ (SR.kept hS HB0.out.size hb2) (fun hS2 => ?_)
  clear hK K
  have HN2 := Lib.hid (HN0.out.below hb2 HN0.out.lt)
  have HB2 := Lib.hid (HB0.out.trans (hb2.mono HB0.out.size))
  have HSg2 := Lib.hid (HSg.out w2 o2 l2 c2 hi2 hc2 hl2 hd2 hv2)
  clear hb2 hi2 hc2 hl2 hd2 hv2
  refine wpAnyH_ready (rs := [7]) (by kernel_rfl) (by simp) ?_
  refine AllReadyH.one rfl ?_ AllReadyH.nil
  intro K hK
  go_simp
  refine HSg2.out.mono ?_
  rintro e w3 ⟨o3, c3, rfl, hr3, hb3⟩
  unfold rnV
  refine hK.out _ _ (SR.kept hS2 HB2.out.size hb3) (fun hS3 => ?_)
  clear hK K
  have hN3 := HN2.out.below hb3 HN2.out.lt
  have HB3 := Lib.hid (HB2.out.trans (hb3.mono HB2.out.size))
  have HI3 := Lib.hid hr3
  have c0 := hN3.c0
  have c1 := hN3.c1
  have f0 := hN3.fz 0
  have f1 := hN3.fz 1
  have HN3 := Lib.hid hN3
  clear hb3 hN3 hr3
  refine wpAnyH_ready (rs := [8]) (by kernel_rfl) (by simp) ?_
  refine AllReadyH.one rfl ?_ AllReadyH.nil
  intro K hK
  go_simp
  refine hK.out _ _ (SR.put hS3 (w.heap.size + 1 + 1) (by omega) (by omega) (by omega) _ _) (fun hS4 => ?_)
  clear hK K
  refine wpAnyH_done (by kernel_rfl) ?_ _
  (try simp only [Act.put, List.setIfInBounds_toArray, List.set_cons_zero, List.set_cons_succ])
  go_wp2_with fail
  exact ret_rb rfl rfl rfl (HN3.out.put _ _) ⟨o3, c3, rfl, ⟨HI3.out.1, intAt_put_rb HN3.out HI3.out.2 _ _⟩, below_put HB3.out (by omega) _ _⟩

set_option maxHeartbeats 1000000 in
theorem add_ge_p (x y : Int) (oa ob : Option Addr) (ca cb : Nat) (w : World) (hx : RAt w oa ca x) (hy : RAt w ob cb y) (lx : (Rf.tens x.natAbs).length ≤ 1000) (ly : (Rf.tens y.natAbs).length ≤ 1000) (hsx0 : ¬ x < 0) (hsy0 : y < 0) (ho : y.natAbs ≤ x.natAbs) :
    Calls Tryz.prog 57 #[rnV x oa ca, rnV y ob cb] w (RetR (x + y) w) := by
  obtain ⟨n, hn⟩ : ∃ n : Nat, x.natAbs - y.natAbs = n := ⟨_, rfl⟩
  obtain ⟨z, hz⟩ : ∃ z, x + y = z := ⟨_, rfl⟩
  have HP := Lib.hid (fun (W : World) (hb : Below w.heap.size w W) => (minus_ref (Rf.tens x.natAbs) (Rf.tens y.natAbs) oa ob ca cb n W (hx.2.mono hb) (hy.2.mono hb) (Rf.digs_tens _) (Rf.digs_tens _) (by omega) (by omega) (by rw [Rf.valT_tens, Rf.valT_tens]; omega)).mono fun _ _ h => h.retG (by have := tens_len_mono (show n ≤ x.natAbs by omega); omega))
  have HSg := Lib.hid (fun (W : World) (o : Option Addr) (l : List Int) (c : Nat) (h1 : IntAt W o l) (h2 : l.length ≤ c) (h3 : l.length ≤ 100000) (h4 : Rf.Digs l) (h5 : Rf.valT l = (n : Int)) => signed_ref false o c l n z W h1 h2 h3 h4 h5 (by simp; omega))
  obtain ⟨r, hr⟩ : ∃ r, cmpN x.natAbs y.natAbs = r := ⟨_, rfl⟩
  have dR : decide (0 ≤ r) = true := decide_eq_true (by rw [← hr]; unfold cmpN; split <;> (try split) <;> omega)
  have dR2 : decide (0 ≤ r) = true := dR
  have HO := Lib.hid (fun (W : World) (hb : Below w.heap.size w W) => order_ref x.natAbs y.natAbs oa ob ca cb W (hx.2.mono hb) (hy.2.mono hb) (by omega) (by omega))
  rw [hr] at HO
  have dx : decide (x < 0) = false := decide_eq_false hsx0
  have dy : decide (y < 0) = true := decide_eq_true hsy0
  rw [hz]
  unfold rnV
  rw [dx, dy]
  clear dx dy hx hy lx ly hn hz hr dR
  generalize (Rf.tens x.natAbs).length = la at *
  generalize (Rf.tens y.natAbs).length = lb at *
  obtain ⟨hA0, hB0, hN0, hb0⟩ := boxesR3 w (.bool false) (.slice oa la ca) (.bool true) (.slice ob lb cb) (.bool false) (.slice none 0 0)
  have HBa := Lib.hid hb0
  have HAa := Lib.hid hA0
  have HBb := Lib.hid hB0
  have HNn := Lib.hid hN0
  clear hA0 hB0 hN0 hb0
  go_enter Tryz.func57, Tryz.ntmps57
  go_wp2_with fail
  refine (HO.out _ HBa.out).mono ?_
  rintro e w1 ⟨rfl, hb1⟩
  have hA1 := HAa.out.below hb1 HAa.out.lt
  have hB1 := HBb.out.below hb1 HBb.out.lt
  have hN1 := HNn.out.below hb1 HNn.out.lt
  have hb1' := HBa.out.trans (hb1.mono HBa.out.size)
  have HS0 := Lib.hid (SR.mk (W := World.drew _) hA1.drew hB1.drew hb1'.drew)
  have HN0 := Lib.hid hN1.drew
  have HB0 := Lib.hid hb1'.drew
  clear hb1 hb1' hA1 hB1 hN1 HAa HBb HNn HBa
  go_wp2_with fail
  refine wp_region_held_drew (S := SR w.heap.size w.heap.size (w.heap.size + 1) w (.bool false) (.slice oa la ca) (.bool true) (.slice ob lb cb)) (by kernel_rfl) HS0.out (fun hS => ?_)
  refine wpAnyH_take (i := 0) (v := ?hlv1) rfl (by kernel_rfl) (by kernel_rfl) (by kernel_rfl) (fun _ _ _ h => h) (Or.inl ⟨by rfl, ?hly1⟩) (by assumption) ?hlr1
  case hly1 => (intro w hSw; (try unfold SR at hSw); (try dsimp only at hSw); go_simp; (try with_reducible rfl))
  (try simp only [Act.put, List.setIfInBounds_toArray, List.set_cons_zero, List.set_cons_succ])
  refine wpAnyH_take (i := 1) (v := ?hlv2) rfl (by kernel_rfl) (by kernel_rfl) (by kernel_rfl) (fun _ _ _ h => h) (Or.inl ⟨by rfl, ?hly2⟩) (by assumption) ?hlr2
  case hly2 => (intro w hSw; (try unfold SR at hSw); (try dsimp only at hSw); go_simp; (try with_reducible rfl))
  (try simp only [Act.put, List.setIfInBounds_toArray, List.set_cons_zero, List.set_cons_succ])
  refine wpAnyH_take (i := 2) (v := ?hlv3) rfl (by kernel_rfl) (by kernel_rfl) (by kernel_rfl) (fun _ _ _ h => h) (Or.inl ⟨by rfl, ?hly3⟩) (by assumption) ?hlr3
  case hly3 => (intro w hSw; (try unfold SR at hSw); (try dsimp only at hSw); go_simp; (try with_reducible rfl))
  (try simp only [Act.put, List.setIfInBounds_toArray, List.set_cons_zero, List.set_cons_succ])
  refine wpAnyH_take (i := 3) (v := ?hlv4) rfl (by kernel_rfl) (by kernel_rfl) (by kernel_rfl) (fun _ _ _ h => h) (Or.inl ⟨by rfl, ?hly4⟩) (by assumption) ?hlr4
  case hly4 => (intro w hSw; (try unfold SR at hSw); (try dsimp only at hSw); go_simp; (try with_reducible rfl))
  (try simp only [Act.put, List.setIfInBounds_toArray, List.set_cons_zero, List.set_cons_succ])
  refine wpAnyH_take (i := 4) (v := ?hlv5) rfl (by kernel_rfl) (by kernel_rfl) (by kernel_rfl) (fun _ _ _ h => h) (Or.inl ⟨by rfl, ?hly5⟩) (by assumption) ?hlr5
  case hly5 => (intro w hSw; (try unfold SR at hSw); (try dsimp only at hSw); go_simp; (try with_reducible rfl))
  (try simp only [Act.put, List.setIfInBounds_toArray, List.set_cons_zero, List.set_cons_succ])
  refine wpAnyH_take (i := 5) (v := ?hlv6) rfl (by kernel_rfl) (by kernel_rfl) (by kernel_rfl) (fun _ _ _ h => h) (Or.inl ⟨by rfl, ?hly6⟩) (by assumption) ?hlr6
  case hly6 => (intro w hSw; (try unfold SR at hSw); (try dsimp only at hSw); go_simp; (try with_reducible rfl))
  (try simp only [Act.put, List.setIfInBounds_toArray, List.set_cons_zero, List.set_cons_succ])
  refine wpAnyH_ready (rs := [6]) (by kernel_rfl) (by simp) ?_
  refine AllReadyH.one rfl ?_ AllReadyH.nil
  intro K hK
  go_simp
  refine (HP.out _ HB0.out).mono ?_
  rintro e w2 ⟨o2, l2, c2, rfl, hc2, hi2, hd2, hv2, hl2, hb2⟩
  refine hK.out _ _ (SR.kept hS HB0.out.size hb2) (fun hS2 => ?_)
  clear hK K
  have HN2 := Lib.hid (HN0.out.below hb2 HN0.out.lt)
  have HB2 := Lib.hid (HB0.out.trans (hb2.mono HB0.out.size))
  have HSg2 := Lib.hid (HSg.out w2 o2 l2 c2 hi2 hc2 hl2 hd2 hv2)
  clear hb2 hi2 hc2 hl2 hd2 hv2
  refine wpAnyH_ready (rs := [7]) (by kernel_rfl) (by simp) ?_
  refine AllReadyH.one rfl ?_ AllReadyH.nil
  intro K hK
  go_simp
  refine HSg2.out.mono ?_
  rintro e w3 ⟨o3, c3, rfl, hr3, hb3⟩
  unfold rnV
  refine hK.out _ _ (SR.kept hS2 HB2.out.size hb3) (fun hS3 => ?_)
  clear hK K
  have hN3 := HN2.out.below hb3 HN2.out.lt
  have HB3 := Lib.hid (HB2.out.trans (hb3.mono HB2.out.size))
  have HI3 := Lib.hid hr3
  have c0 := hN3.c0
  have c1 := hN3.c1
  have f0 := hN3.fz 0
  have f1 := hN3.fz 1
  have HN3 := Lib.hid hN3
  clear hb3 hN3 hr3
  refine wpAnyH_ready (rs := [8]) (by kernel_rfl) (by simp) ?_
  refine AllReadyH.one rfl ?_ AllReadyH.nil
  intro K hK
  go_simp
  refine hK.out _ _ (SR.put hS3 (w.heap.size + 1 + 1) (by omega) (by omega) (by omega) _ _) (fun hS4 => ?_)
  clear hK K
  refine wpAnyH_done (by kernel_rfl) ?_ _
  (try simp only [Act.put, List.setIfInBounds_toArray, List.set_cons_zero, List.set_cons_succ])
  go_wp2_with fail
  exact ret_rb rfl rfl rfl (HN3.out.put _ _) ⟨o3, c3, rfl, ⟨HI3.out.1, intAt_put_rb HN3.out HI3.out.2 _ _⟩, below_put HB3.out (by omega) _ _⟩

set_option maxHeartbeats 1000000 in
theorem add_lt_p (x y : Int) (oa ob : Option Addr) (ca cb : Nat) (w : World) (hx : RAt w oa ca x) (hy : RAt w ob cb y) (lx : (Rf.tens x.natAbs).length ≤ 1000) (ly : (Rf.tens y.natAbs).length ≤ 1000) (hsx0 : ¬ x < 0) (hsy0 : y < 0) (ho : x.natAbs < y.natAbs) :
    Calls Tryz.prog 57 #[rnV x oa ca, rnV y ob cb] w (RetR (x + y) w) := by
  obtain ⟨n, hn⟩ : ∃ n : Nat, y.natAbs - x.natAbs = n := ⟨_, rfl⟩
  obtain ⟨z, hz⟩ : ∃ z, x + y = z := ⟨_, rfl⟩
  have HP := Lib.hid (fun (W : World) (hb : Below w.heap.size w W) => (minus_ref (Rf.tens y.natAbs) (Rf.tens x.natAbs) ob oa cb ca n W (hy.2.mono hb) (hx.2.mono hb) (Rf.digs_tens _) (Rf.digs_tens _) (by omega) (by omega) (by rw [Rf.valT_tens, Rf.valT_tens]; omega)).mono fun _ _ h => h.retG (by have := tens_len_mono (show n ≤ y.natAbs by omega); omega))
  have HSg := Lib.hid (fun (W : World) (o : Option Addr) (l : List Int) (c : Nat) (h1 : IntAt W o l) (h2 : l.length ≤ c) (h3 : l.length ≤ 100000) (h4 : Rf.Digs l) (h5 : Rf.valT l = (n : Int)) => signed_ref true o c l n z W h1 h2 h3 h4 h5 (by simp; omega))
  obtain ⟨r, hr⟩ : ∃ r, cmpN x.natAbs y.natAbs = r := ⟨_, rfl⟩
  have dR : decide (r < 0) = true := decide_eq_true (by rw [← hr]; unfold cmpN; split <;> (try split) <;> omega)
  have dR2 : decide (0 ≤ r) = false := decide_eq_false (by have := of_decide_eq_true dR; omega)
  have HO := Lib.hid (fun (W : World) (hb : Below w.heap.size w W) => order_ref x.natAbs y.natAbs oa ob ca cb W (hx.2.mono hb) (hy.2.mono hb) (by omega) (by omega))
  rw [hr] at HO
  have dx : decide (x < 0) = false := decide_eq_false hsx0
  have dy : decide (y < 0) = true := decide_eq_true hsy0
  rw [hz]
  unfold rnV
  rw [dx, dy]
  clear dx dy hx hy lx ly hn hz hr dR
  generalize (Rf.tens x.natAbs).length = la at *
  generalize (Rf.tens y.natAbs).length = lb at *
  obtain ⟨hA0, hB0, hN0, hb0⟩ := boxesR3 w (.bool false) (.slice oa la ca) (.bool true) (.slice ob lb cb) (.bool false) (.slice none 0 0)
  have HBa := Lib.hid hb0
  have HAa := Lib.hid hA0
  have HBb := Lib.hid hB0
  have HNn := Lib.hid hN0
  clear hA0 hB0 hN0 hb0
  go_enter Tryz.func57, Tryz.ntmps57
  go_wp2_with fail
  refine (HO.out _ HBa.out).mono ?_
  rintro e w1 ⟨rfl, hb1⟩
  have hA1 := HAa.out.below hb1 HAa.out.lt
  have hB1 := HBb.out.below hb1 HBb.out.lt
  have hN1 := HNn.out.below hb1 HNn.out.lt
  have hb1' := HBa.out.trans (hb1.mono HBa.out.size)
  have HS0 := Lib.hid (SR.mk (W := World.drew _) hA1.drew hB1.drew hb1'.drew)
  have HN0 := Lib.hid hN1.drew
  have HB0 := Lib.hid hb1'.drew
  clear hb1 hb1' hA1 hB1 hN1 HAa HBb HNn HBa
  go_wp2_with fail
  refine wp_region_held_drew (S := SR w.heap.size w.heap.size (w.heap.size + 1) w (.bool false) (.slice oa la ca) (.bool true) (.slice ob lb cb)) (by kernel_rfl) HS0.out (fun hS => ?_)
  refine wpAnyH_take (i := 0) (v := ?hlv1) rfl (by kernel_rfl) (by kernel_rfl) (by kernel_rfl) (fun _ _ _ h => h) (Or.inl ⟨by rfl, ?hly1⟩) (by assumption) ?hlr1
  case hly1 => (intro w hSw; (try unfold SR at hSw); (try dsimp only at hSw); go_simp; (try with_reducible rfl))
  (try simp only [Act.put, List.setIfInBounds_toArray, List.set_cons_zero, List.set_cons_succ])
  refine wpAnyH_take (i := 1) (v := ?hlv2) rfl (by kernel_rfl) (by kernel_rfl) (by kernel_rfl) (fun _ _ _ h => h) (Or.inl ⟨by rfl, ?hly2⟩) (by assumption) ?hlr2
  case hly2 => (intro w hSw; (try unfold SR at hSw); (try dsimp only at hSw); go_simp; (try with_reducible rfl))
  (try simp only [Act.put, List.setIfInBounds_toArray, List.set_cons_zero, List.set_cons_succ])
  refine wpAnyH_take (i := 2) (v := ?hlv3) rfl (by kernel_rfl) (by kernel_rfl) (by kernel_rfl) (fun _ _ _ h => h) (Or.inl ⟨by rfl, ?hly3⟩) (by assumption) ?hlr3
  case hly3 => (intro w hSw; (try unfold SR at hSw); (try dsimp only at hSw); go_simp; (try with_reducible rfl))
  (try simp only [Act.put, List.setIfInBounds_toArray, List.set_cons_zero, List.set_cons_succ])
  refine wpAnyH_take (i := 3) (v := ?hlv4) rfl (by kernel_rfl) (by kernel_rfl) (by kernel_rfl) (fun _ _ _ h => h) (Or.inl ⟨by rfl, ?hly4⟩) (by assumption) ?hlr4
  case hly4 => (intro w hSw; (try unfold SR at hSw); (try dsimp only at hSw); go_simp; (try with_reducible rfl))
  (try simp only [Act.put, List.setIfInBounds_toArray, List.set_cons_zero, List.set_cons_succ])
  refine wpAnyH_take (i := 4) (v := ?hlv5) rfl (by kernel_rfl) (by kernel_rfl) (by kernel_rfl) (fun _ _ _ h => h) (Or.inl ⟨by rfl, ?hly5⟩) (by assumption) ?hlr5
  case hly5 => (intro w hSw; (try unfold SR at hSw); (try dsimp only at hSw); go_simp; (try with_reducible rfl))
  (try simp only [Act.put, List.setIfInBounds_toArray, List.set_cons_zero, List.set_cons_succ])
  refine wpAnyH_take (i := 5) (v := ?hlv6) rfl (by kernel_rfl) (by kernel_rfl) (by kernel_rfl) (fun _ _ _ h => h) (Or.inl ⟨by rfl, ?hly6⟩) (by assumption) ?hlr6
  case hly6 => (intro w hSw; (try unfold SR at hSw); (try dsimp only at hSw); go_simp; (try with_reducible rfl))
  (try simp only [Act.put, List.setIfInBounds_toArray, List.set_cons_zero, List.set_cons_succ])
  refine wpAnyH_ready (rs := [6]) (by kernel_rfl) (by simp) ?_
  refine AllReadyH.one rfl ?_ AllReadyH.nil
  intro K hK
  go_simp
  refine (HP.out _ HB0.out).mono ?_
  rintro e w2 ⟨o2, l2, c2, rfl, hc2, hi2, hd2, hv2, hl2, hb2⟩
  refine hK.out _ _ (SR.kept hS HB0.out.size hb2) (fun hS2 => ?_)
  clear hK K
  have HN2 := Lib.hid (HN0.out.below hb2 HN0.out.lt)
  have HB2 := Lib.hid (HB0.out.trans (hb2.mono HB0.out.size))
  have HSg2 := Lib.hid (HSg.out w2 o2 l2 c2 hi2 hc2 hl2 hd2 hv2)
  clear hb2 hi2 hc2 hl2 hd2 hv2
  refine wpAnyH_ready (rs := [7]) (by kernel_rfl) (by simp) ?_
  refine AllReadyH.one rfl ?_ AllReadyH.nil
  intro K hK
  go_simp
  refine HSg2.out.mono ?_
  rintro e w3 ⟨o3, c3, rfl, hr3, hb3⟩
  unfold rnV
  refine hK.out _ _ (SR.kept hS2 HB2.out.size hb3) (fun hS3 => ?_)
  clear hK K
  have hN3 := HN2.out.below hb3 HN2.out.lt
  have HB3 := Lib.hid (HB2.out.trans (hb3.mono HB2.out.size))
  have HI3 := Lib.hid hr3
  have c0 := hN3.c0
  have c1 := hN3.c1
  have f0 := hN3.fz 0
  have f1 := hN3.fz 1
  have HN3 := Lib.hid hN3
  clear hb3 hN3 hr3
  refine wpAnyH_ready (rs := [8]) (by kernel_rfl) (by simp) ?_
  refine AllReadyH.one rfl ?_ AllReadyH.nil
  intro K hK
  go_simp
  refine hK.out _ _ (SR.put hS3 (w.heap.size + 1 + 1) (by omega) (by omega) (by omega) _ _) (fun hS4 => ?_)
  clear hK K
  refine wpAnyH_done (by kernel_rfl) ?_ _
  (try simp only [Act.put, List.setIfInBounds_toArray, List.set_cons_zero, List.set_cons_succ])
  go_wp2_with fail
  exact ret_rb rfl rfl rfl (HN3.out.put _ _) ⟨o3, c3, rfl, ⟨HI3.out.1, intAt_put_rb HN3.out HI3.out.2 _ _⟩, below_put HB3.out (by omega) _ _⟩

set_option maxHeartbeats 1000000 in
theorem add_same_n (x y : Int) (oa ob : Option Addr) (ca cb : Nat) (w : World) (hx : RAt w oa ca x) (hy : RAt w ob cb y) (lx : (Rf.tens x.natAbs).length ≤ 1000) (ly : (Rf.tens y.natAbs).length ≤ 1000) (hsx0 : x < 0) (hsy0 : y < 0) :
    Calls Tryz.prog 57 #[rnV x oa ca, rnV y ob cb] w (RetR (x + y) w) := by
  obtain ⟨n, hn⟩ : ∃ n : Nat, x.natAbs + y.natAbs = n := ⟨_, rfl⟩
  obtain ⟨z, hz⟩ : ∃ z, x + y = z := ⟨_, rfl⟩
  have HP := Lib.hid (fun (W : World) (hb : Below w.heap.size w W) => (plus_ref (Rf.tens x.natAbs) (Rf.tens y.natAbs) oa ob ca cb n W (hx.2.mono hb) (hy.2.mono hb) (Rf.digs_tens _) (Rf.digs_tens _) (by omega) (by omega) (by rw [Rf.valT_tens, Rf.valT_tens]; omega)).mono fun _ _ h => h.retG (by omega))
  have HSg := Lib.hid (fun (W : World) (o : Option Addr) (l : List Int) (c : Nat) (h1 : IntAt W o l) (h2 : l.length ≤ c) (h3 : l.length ≤ 100000) (h4 : Rf.Digs l) (h5 : Rf.valT l = (n : Int)) => signed_ref true o c l n z W h1 h2 h3 h4 h5 (by simp; omega))
  have dx : decide (x < 0) = true := decide_eq_true hsx0
  have dy : decide (y < 0) = true := decide_eq_true hsy0
  rw [hz]
  unfold rnV
  rw [dx, dy]
  clear dx dy hx hy lx ly hn hz
  generalize (Rf.tens x.natAbs).length = la at *
  generalize (Rf.tens y.natAbs).length = lb at *
  obtain ⟨hA0, hB0, hN0, hb0⟩ := boxesR3 w (.bool true) (.slice oa la ca) (.bool true) (.slice ob lb cb) (.bool false) (.slice none 0 0)
  have HBa := Lib.hid hb0
  have HS0 := Lib.hid (SR.mk (W := World.drew _) hA0.drew hB0.drew hb0.drew)
  have HN0 := Lib.hid hN0.drew
  have HB0 := Lib.hid hb0.drew
  clear hA0 hB0 hN0 hb0
  go_enter Tryz.func57, Tryz.ntmps57
  go_wp2_with fail
  refine wp_region_held_drew (S := SR w.heap.size w.heap.size (w.heap.size + 1) w (.bool true) (.slice oa la ca) (.bool true) (.slice ob lb cb)) (by kernel_rfl) HS0.out (fun hS => ?_)
  refine wpAnyH_take (i := 0) (v := ?hlv1) rfl (by kernel_rfl) (by kernel_rfl) (by kernel_rfl) (fun _ _ _ h => h) (Or.inl ⟨by rfl, ?hly1⟩) (by assumption) ?hlr1
  case hly1 => (intro w hSw; (try unfold SR at hSw); (try dsimp only at hSw); go_simp; (try with_reducible rfl))
  (try simp only [Act.put, List.setIfInBounds_toArray, List.set_cons_zero, List.set_cons_succ])
  refine wpAnyH_take (i := 1) (v := ?hlv2) rfl (by kernel_rfl) (by kernel_rfl) (by kernel_rfl) (fun _ _ _ h => h) (Or.inl ⟨by rfl, ?hly2⟩) (by assumption) ?hlr2
  case hly2 => (intro w hSw; (try unfold SR at hSw); (try dsimp only at hSw); go_simp; (try with_reducible rfl))
  (try simp only [Act.put, List.setIfInBounds_toArray, List.set_cons_zero, List.set_cons_succ])
  refine wpAnyH_take (i := 2) (v := ?hlv3) rfl (by kernel_rfl) (by kernel_rfl) (by kernel_rfl) (fun _ _ _ h => h) (Or.inl ⟨by rfl, ?hly3⟩) (by assumption) ?hlr3
  case hly3 => (intro w hSw; (try unfold SR at hSw); (try dsimp only at hSw); go_simp; (try with_reducible rfl))
  (try simp only [Act.put, List.setIfInBounds_toArray, List.set_cons_zero, List.set_cons_succ])
  refine wpAnyH_take (i := 3) (v := ?hlv4) rfl (by kernel_rfl) (by kernel_rfl) (by kernel_rfl) (fun _ _ _ h => h) (Or.inl ⟨by rfl, ?hly4⟩) (by assumption) ?hlr4
  case hly4 => (intro w hSw; (try unfold SR at hSw); (try dsimp only at hSw); go_simp; (try with_reducible rfl))
  (try simp only [Act.put, List.setIfInBounds_toArray, List.set_cons_zero, List.set_cons_succ])
  refine wpAnyH_take (i := 4) (v := ?hlv5) rfl (by kernel_rfl) (by kernel_rfl) (by kernel_rfl) (fun _ _ _ h => h) (Or.inl ⟨by rfl, ?hly5⟩) (by assumption) ?hlr5
  case hly5 => (intro w hSw; (try unfold SR at hSw); (try dsimp only at hSw); go_simp; (try with_reducible rfl))
  (try simp only [Act.put, List.setIfInBounds_toArray, List.set_cons_zero, List.set_cons_succ])
  refine wpAnyH_take (i := 5) (v := ?hlv6) rfl (by kernel_rfl) (by kernel_rfl) (by kernel_rfl) (fun _ _ _ h => h) (Or.inl ⟨by rfl, ?hly6⟩) (by assumption) ?hlr6
  case hly6 => (intro w hSw; (try unfold SR at hSw); (try dsimp only at hSw); go_simp; (try with_reducible rfl))
  (try simp only [Act.put, List.setIfInBounds_toArray, List.set_cons_zero, List.set_cons_succ])
  refine wpAnyH_ready (rs := [6]) (by kernel_rfl) (by simp) ?_
  refine AllReadyH.one rfl ?_ AllReadyH.nil
  intro K hK
  go_simp
  refine (HP.out _ HB0.out).mono ?_
  rintro e w2 ⟨o2, l2, c2, rfl, hc2, hi2, hd2, hv2, hl2, hb2⟩
  refine hK.out _ _ (SR.kept hS HB0.out.size hb2) (fun hS2 => ?_)
  clear hK K
  have HN2 := Lib.hid (HN0.out.below hb2 HN0.out.lt)
  have HB2 := Lib.hid (HB0.out.trans (hb2.mono HB0.out.size))
  have HSg2 := Lib.hid (HSg.out w2 o2 l2 c2 hi2 hc2 hl2 hd2 hv2)
  clear hb2 hi2 hc2 hl2 hd2 hv2
  refine wpAnyH_ready (rs := [7]) (by kernel_rfl) (by simp) ?_
  refine AllReadyH.one rfl ?_ AllReadyH.nil
  intro K hK
  go_simp
  refine HSg2.out.mono ?_
  rintro e w3 ⟨o3, c3, rfl, hr3, hb3⟩
  unfold rnV
  refine hK.out _ _ (SR.kept hS2 HB2.out.size hb3) (fun hS3 => ?_)
  clear hK K
  have hN3 := HN2.out.below hb3 HN2.out.lt
  have HB3 := Lib.hid (HB2.out.trans (hb3.mono HB2.out.size))
  have HI3 := Lib.hid hr3
  have c0 := hN3.c0
  have c1 := hN3.c1
  have f0 := hN3.fz 0
  have f1 := hN3.fz 1
  have HN3 := Lib.hid hN3
  clear hb3 hN3 hr3
  refine wpAnyH_ready (rs := [8]) (by kernel_rfl) (by simp) ?_
  refine AllReadyH.one rfl ?_ AllReadyH.nil
  intro K hK
  go_simp
  refine hK.out _ _ (SR.put hS3 (w.heap.size + 1 + 1) (by omega) (by omega) (by omega) _ _) (fun hS4 => ?_)
  clear hK K
  refine wpAnyH_done (by kernel_rfl) ?_ _
  (try simp only [Act.put, List.setIfInBounds_toArray, List.set_cons_zero, List.set_cons_succ])
  go_wp2_with fail
  exact ret_rb rfl rfl rfl (HN3.out.put _ _) ⟨o3, c3, rfl, ⟨HI3.out.1, intAt_put_rb HN3.out HI3.out.2 _ _⟩, below_put HB3.out (by omega) _ _⟩

set_option maxHeartbeats 1000000 in
theorem add_ge_n (x y : Int) (oa ob : Option Addr) (ca cb : Nat) (w : World) (hx : RAt w oa ca x) (hy : RAt w ob cb y) (lx : (Rf.tens x.natAbs).length ≤ 1000) (ly : (Rf.tens y.natAbs).length ≤ 1000) (hsx0 : x < 0) (hsy0 : ¬ y < 0) (ho : y.natAbs ≤ x.natAbs) :
    Calls Tryz.prog 57 #[rnV x oa ca, rnV y ob cb] w (RetR (x + y) w) := by
  obtain ⟨n, hn⟩ : ∃ n : Nat, x.natAbs - y.natAbs = n := ⟨_, rfl⟩
  obtain ⟨z, hz⟩ : ∃ z, x + y = z := ⟨_, rfl⟩
  have HP := Lib.hid (fun (W : World) (hb : Below w.heap.size w W) => (minus_ref (Rf.tens x.natAbs) (Rf.tens y.natAbs) oa ob ca cb n W (hx.2.mono hb) (hy.2.mono hb) (Rf.digs_tens _) (Rf.digs_tens _) (by omega) (by omega) (by rw [Rf.valT_tens, Rf.valT_tens]; omega)).mono fun _ _ h => h.retG (by have := tens_len_mono (show n ≤ x.natAbs by omega); omega))
  have HSg := Lib.hid (fun (W : World) (o : Option Addr) (l : List Int) (c : Nat) (h1 : IntAt W o l) (h2 : l.length ≤ c) (h3 : l.length ≤ 100000) (h4 : Rf.Digs l) (h5 : Rf.valT l = (n : Int)) => signed_ref true o c l n z W h1 h2 h3 h4 h5 (by simp; omega))
  obtain ⟨r, hr⟩ : ∃ r, cmpN x.natAbs y.natAbs = r := ⟨_, rfl⟩
  have dR : decide (0 ≤ r) = true := decide_eq_true (by rw [← hr]; unfold cmpN; split <;> (try split) <;> omega)
  have dR2 : decide (0 ≤ r) = true := dR
  have HO := Lib.hid (fun (W : World) (hb : Below w.heap.size w W) => order_ref x.natAbs y.natAbs oa ob ca cb W (hx.2.mono hb) (hy.2.mono hb) (by omega) (by omega))
  rw [hr] at HO
  have dx : decide (x < 0) = true := decide_eq_true hsx0
  have dy : decide (y < 0) = false := decide_eq_false hsy0
  rw [hz]
  unfold rnV
  rw [dx, dy]
  clear dx dy hx hy lx ly hn hz hr dR
  generalize (Rf.tens x.natAbs).length = la at *
  generalize (Rf.tens y.natAbs).length = lb at *
  obtain ⟨hA0, hB0, hN0, hb0⟩ := boxesR3 w (.bool true) (.slice oa la ca) (.bool false) (.slice ob lb cb) (.bool false) (.slice none 0 0)
  have HBa := Lib.hid hb0
  have HAa := Lib.hid hA0
  have HBb := Lib.hid hB0
  have HNn := Lib.hid hN0
  clear hA0 hB0 hN0 hb0
  go_enter Tryz.func57, Tryz.ntmps57
  go_wp2_with fail
  refine (HO.out _ HBa.out).mono ?_
  rintro e w1 ⟨rfl, hb1⟩
  have hA1 := HAa.out.below hb1 HAa.out.lt
  have hB1 := HBb.out.below hb1 HBb.out.lt
  have hN1 := HNn.out.below hb1 HNn.out.lt
  have hb1' := HBa.out.trans (hb1.mono HBa.out.size)
  have HS0 := Lib.hid (SR.mk (W := World.drew _) hA1.drew hB1.drew hb1'.drew)
  have HN0 := Lib.hid hN1.drew
  have HB0 := Lib.hid hb1'.drew
  clear hb1 hb1' hA1 hB1 hN1 HAa HBb HNn HBa
  go_wp2_with fail
  refine wp_region_held_drew (S := SR w.heap.size w.heap.size (w.heap.size + 1) w (.bool true) (.slice oa la ca) (.bool false) (.slice ob lb cb)) (by kernel_rfl) HS0.out (fun hS => ?_)
  refine wpAnyH_take (i := 0) (v := ?hlv1) rfl (by kernel_rfl) (by kernel_rfl) (by kernel_rfl) (fun _ _ _ h => h) (Or.inl ⟨by rfl, ?hly1⟩) (by assumption) ?hlr1
  case hly1 => (intro w hSw; (try unfold SR at hSw); (try dsimp only at hSw); go_simp; (try with_reducible rfl))
  (try simp only [Act.put, List.setIfInBounds_toArray, List.set_cons_zero, List.set_cons_succ])
  refine wpAnyH_take (i := 1) (v := ?hlv2) rfl (by kernel_rfl) (by kernel_rfl) (by kernel_rfl) (fun _ _ _ h => h) (Or.inl ⟨by rfl, ?hly2⟩) (by assumption) ?hlr2
  case hly2 => (intro w hSw; (try unfold SR at hSw); (try dsimp only at hSw); go_simp; (try with_reducible rfl))
  (try simp only [Act.put, List.setIfInBounds_toArray, List.set_cons_zero, List.set_cons_succ])
  refine wpAnyH_take (i := 2) (v := ?hlv3) rfl (by kernel_rfl) (by kernel_rfl) (by kernel_rfl) (fun _ _ _ h => h) (Or.inl ⟨by rfl, ?hly3⟩) (by assumption) ?hlr3
  case hly3 => (intro w hSw; (try unfold SR at hSw); (try dsimp only at hSw); go_simp; (try with_reducible rfl))
  (try simp only [Act.put, List.setIfInBounds_toArray, List.set_cons_zero, List.set_cons_succ])
  refine wpAnyH_take (i := 3) (v := ?hlv4) rfl (by kernel_rfl) (by kernel_rfl) (by kernel_rfl) (fun _ _ _ h => h) (Or.inl ⟨by rfl, ?hly4⟩) (by assumption) ?hlr4
  case hly4 => (intro w hSw; (try unfold SR at hSw); (try dsimp only at hSw); go_simp; (try with_reducible rfl))
  (try simp only [Act.put, List.setIfInBounds_toArray, List.set_cons_zero, List.set_cons_succ])
  refine wpAnyH_take (i := 4) (v := ?hlv5) rfl (by kernel_rfl) (by kernel_rfl) (by kernel_rfl) (fun _ _ _ h => h) (Or.inl ⟨by rfl, ?hly5⟩) (by assumption) ?hlr5
  case hly5 => (intro w hSw; (try unfold SR at hSw); (try dsimp only at hSw); go_simp; (try with_reducible rfl))
  (try simp only [Act.put, List.setIfInBounds_toArray, List.set_cons_zero, List.set_cons_succ])
  refine wpAnyH_take (i := 5) (v := ?hlv6) rfl (by kernel_rfl) (by kernel_rfl) (by kernel_rfl) (fun _ _ _ h => h) (Or.inl ⟨by rfl, ?hly6⟩) (by assumption) ?hlr6
  case hly6 => (intro w hSw; (try unfold SR at hSw); (try dsimp only at hSw); go_simp; (try with_reducible rfl))
  (try simp only [Act.put, List.setIfInBounds_toArray, List.set_cons_zero, List.set_cons_succ])
  refine wpAnyH_ready (rs := [6]) (by kernel_rfl) (by simp) ?_
  refine AllReadyH.one rfl ?_ AllReadyH.nil
  intro K hK
  go_simp
  refine (HP.out _ HB0.out).mono ?_
  rintro e w2 ⟨o2, l2, c2, rfl, hc2, hi2, hd2, hv2, hl2, hb2⟩
  refine hK.out _ _ (SR.kept hS HB0.out.size hb2) (fun hS2 => ?_)
  clear hK K
  have HN2 := Lib.hid (HN0.out.below hb2 HN0.out.lt)
  have HB2 := Lib.hid (HB0.out.trans (hb2.mono HB0.out.size))
  have HSg2 := Lib.hid (HSg.out w2 o2 l2 c2 hi2 hc2 hl2 hd2 hv2)
  clear hb2 hi2 hc2 hl2 hd2 hv2
  refine wpAnyH_ready (rs := [7]) (by kernel_rfl) (by simp) ?_
  refine AllReadyH.one rfl ?_ AllReadyH.nil
  intro K hK
  go_simp
  refine HSg2.out.mono ?_
  rintro e w3 ⟨o3, c3, rfl, hr3, hb3⟩
  unfold rnV
  refine hK.out _ _ (SR.kept hS2 HB2.out.size hb3) (fun hS3 => ?_)
  clear hK K
  have hN3 := HN2.out.below hb3 HN2.out.lt
  have HB3 := Lib.hid (HB2.out.trans (hb3.mono HB2.out.size))
  have HI3 := Lib.hid hr3
  have c0 := hN3.c0
  have c1 := hN3.c1
  have f0 := hN3.fz 0
  have f1 := hN3.fz 1
  have HN3 := Lib.hid hN3
  clear hb3 hN3 hr3
  refine wpAnyH_ready (rs := [8]) (by kernel_rfl) (by simp) ?_
  refine AllReadyH.one rfl ?_ AllReadyH.nil
  intro K hK
  go_simp
  refine hK.out _ _ (SR.put hS3 (w.heap.size + 1 + 1) (by omega) (by omega) (by omega) _ _) (fun hS4 => ?_)
  clear hK K
  refine wpAnyH_done (by kernel_rfl) ?_ _
  (try simp only [Act.put, List.setIfInBounds_toArray, List.set_cons_zero, List.set_cons_succ])
  go_wp2_with fail
  exact ret_rb rfl rfl rfl (HN3.out.put _ _) ⟨o3, c3, rfl, ⟨HI3.out.1, intAt_put_rb HN3.out HI3.out.2 _ _⟩, below_put HB3.out (by omega) _ _⟩

set_option maxHeartbeats 1000000 in
theorem add_lt_n (x y : Int) (oa ob : Option Addr) (ca cb : Nat) (w : World) (hx : RAt w oa ca x) (hy : RAt w ob cb y) (lx : (Rf.tens x.natAbs).length ≤ 1000) (ly : (Rf.tens y.natAbs).length ≤ 1000) (hsx0 : x < 0) (hsy0 : ¬ y < 0) (ho : x.natAbs < y.natAbs) :
    Calls Tryz.prog 57 #[rnV x oa ca, rnV y ob cb] w (RetR (x + y) w) := by
  obtain ⟨n, hn⟩ : ∃ n : Nat, y.natAbs - x.natAbs = n := ⟨_, rfl⟩
  obtain ⟨z, hz⟩ : ∃ z, x + y = z := ⟨_, rfl⟩
  have HP := Lib.hid (fun (W : World) (hb : Below w.heap.size w W) => (minus_ref (Rf.tens y.natAbs) (Rf.tens x.natAbs) ob oa cb ca n W (hy.2.mono hb) (hx.2.mono hb) (Rf.digs_tens _) (Rf.digs_tens _) (by omega) (by omega) (by rw [Rf.valT_tens, Rf.valT_tens]; omega)).mono fun _ _ h => h.retG (by have := tens_len_mono (show n ≤ y.natAbs by omega); omega))
  have HSg := Lib.hid (fun (W : World) (o : Option Addr) (l : List Int) (c : Nat) (h1 : IntAt W o l) (h2 : l.length ≤ c) (h3 : l.length ≤ 100000) (h4 : Rf.Digs l) (h5 : Rf.valT l = (n : Int)) => signed_ref false o c l n z W h1 h2 h3 h4 h5 (by simp; omega))
  obtain ⟨r, hr⟩ : ∃ r, cmpN x.natAbs y.natAbs = r := ⟨_, rfl⟩
  have dR : decide (r < 0) = true := decide_eq_true (by rw [← hr]; unfold cmpN; split <;> (try split) <;> omega)
  have dR2 : decide (0 ≤ r) = false := decide_eq_false (by have := of_decide_eq_true dR; omega)
  have HO := Lib.hid (fun (W : World) (hb : Below w.heap.size w W) => order_ref x.natAbs y.natAbs oa ob ca cb W (hx.2.mono hb) (hy.2.mono hb) (by omega) (by omega))
  rw [hr] at HO
  have dx : decide (x < 0) = true := decide_eq_true hsx0
  have dy : decide (y < 0) = false := decide_eq_false hsy0
  rw [hz]
  unfold rnV
  rw [dx, dy]
  clear dx dy hx hy lx ly hn hz hr dR
  generalize (Rf.tens x.natAbs).length = la at *
  generalize (Rf.tens y.natAbs).length = lb at *
  obtain ⟨hA0, hB0, hN0, hb0⟩ := boxesR3 w (.bool true) (.slice oa la ca) (.bool false) (.slice ob lb cb) (.bool false) (.slice none 0 0)
  have HBa := Lib.hid hb0
  have HAa := Lib.hid hA0
  have HBb := Lib.hid hB0
  have HNn := Lib.hid hN0
  clear hA0 hB0 hN0 hb0
  go_enter Tryz.func57, Tryz.ntmps57
  go_wp2_with fail
  refine (HO.out _ HBa.out).mono ?_
  rintro e w1 ⟨rfl, hb1⟩
  have hA1 := HAa.out.below hb1 HAa.out.lt
  have hB1 := HBb.out.below hb1 HBb.out.lt
  have hN1 := HNn.out.below hb1 HNn.out.lt
  have hb1' := HBa.out.trans (hb1.mono HBa.out.size)
  have HS0 := Lib.hid (SR.mk (W := World.drew _) hA1.drew hB1.drew hb1'.drew)
  have HN0 := Lib.hid hN1.drew
  have HB0 := Lib.hid hb1'.drew
  clear hb1 hb1' hA1 hB1 hN1 HAa HBb HNn HBa
  go_wp2_with fail
  refine wp_region_held_drew (S := SR w.heap.size w.heap.size (w.heap.size + 1) w (.bool true) (.slice oa la ca) (.bool false) (.slice ob lb cb)) (by kernel_rfl) HS0.out (fun hS => ?_)
  refine wpAnyH_take (i := 0) (v := ?hlv1) rfl (by kernel_rfl) (by kernel_rfl) (by kernel_rfl) (fun _ _ _ h => h) (Or.inl ⟨by rfl, ?hly1⟩) (by assumption) ?hlr1
  case hly1 => (intro w hSw; (try unfold SR at hSw); (try dsimp only at hSw); go_simp; (try with_reducible rfl))
  (try simp only [Act.put, List.setIfInBounds_toArray, List.set_cons_zero, List.set_cons_succ])
  refine wpAnyH_take (i := 1) (v := ?hlv2) rfl (by kernel_rfl) (by kernel_rfl) (by kernel_rfl) (fun _ _ _ h => h) (Or.inl ⟨by rfl, ?hly2⟩) (by assumption) ?hlr2
  case hly2 => (intro w hSw; (try unfold SR at hSw); (try dsimp only at hSw); go_simp; (try with_reducible rfl))
  (try simp only [Act.put, List.setIfInBounds_toArray, List.set_cons_zero, List.set_cons_succ])
  refine wpAnyH_take (i := 2) (v := ?hlv3) rfl (by kernel_rfl) (by kernel_rfl) (by kernel_rfl) (fun _ _ _ h => h) (Or.inl ⟨by rfl, ?hly3⟩) (by assumption) ?hlr3
  case hly3 => (intro w hSw; (try unfold SR at hSw); (try dsimp only at hSw); go_simp; (try with_reducible rfl))
  (try simp only [Act.put, List.setIfInBounds_toArray, List.set_cons_zero, List.set_cons_succ])
  refine wpAnyH_take (i := 3) (v := ?hlv4) rfl (by kernel_rfl) (by kernel_rfl) (by kernel_rfl) (fun _ _ _ h => h) (Or.inl ⟨by rfl, ?hly4⟩) (by assumption) ?hlr4
  case hly4 => (intro w hSw; (try unfold SR at hSw); (try dsimp only at hSw); go_simp; (try with_reducible rfl))
  (try simp only [Act.put, List.setIfInBounds_toArray, List.set_cons_zero, List.set_cons_succ])
  refine wpAnyH_take (i := 4) (v := ?hlv5) rfl (by kernel_rfl) (by kernel_rfl) (by kernel_rfl) (fun _ _ _ h => h) (Or.inl ⟨by rfl, ?hly5⟩) (by assumption) ?hlr5
  case hly5 => (intro w hSw; (try unfold SR at hSw); (try dsimp only at hSw); go_simp; (try with_reducible rfl))
  (try simp only [Act.put, List.setIfInBounds_toArray, List.set_cons_zero, List.set_cons_succ])
  refine wpAnyH_take (i := 5) (v := ?hlv6) rfl (by kernel_rfl) (by kernel_rfl) (by kernel_rfl) (fun _ _ _ h => h) (Or.inl ⟨by rfl, ?hly6⟩) (by assumption) ?hlr6
  case hly6 => (intro w hSw; (try unfold SR at hSw); (try dsimp only at hSw); go_simp; (try with_reducible rfl))
  (try simp only [Act.put, List.setIfInBounds_toArray, List.set_cons_zero, List.set_cons_succ])
  refine wpAnyH_ready (rs := [6]) (by kernel_rfl) (by simp) ?_
  refine AllReadyH.one rfl ?_ AllReadyH.nil
  intro K hK
  go_simp
  refine (HP.out _ HB0.out).mono ?_
  rintro e w2 ⟨o2, l2, c2, rfl, hc2, hi2, hd2, hv2, hl2, hb2⟩
  refine hK.out _ _ (SR.kept hS HB0.out.size hb2) (fun hS2 => ?_)
  clear hK K
  have HN2 := Lib.hid (HN0.out.below hb2 HN0.out.lt)
  have HB2 := Lib.hid (HB0.out.trans (hb2.mono HB0.out.size))
  have HSg2 := Lib.hid (HSg.out w2 o2 l2 c2 hi2 hc2 hl2 hd2 hv2)
  clear hb2 hi2 hc2 hl2 hd2 hv2
  refine wpAnyH_ready (rs := [7]) (by kernel_rfl) (by simp) ?_
  refine AllReadyH.one rfl ?_ AllReadyH.nil
  intro K hK
  go_simp
  refine HSg2.out.mono ?_
  rintro e w3 ⟨o3, c3, rfl, hr3, hb3⟩
  unfold rnV
  refine hK.out _ _ (SR.kept hS2 HB2.out.size hb3) (fun hS3 => ?_)
  clear hK K
  have hN3 := HN2.out.below hb3 HN2.out.lt
  have HB3 := Lib.hid (HB2.out.trans (hb3.mono HB2.out.size))
  have HI3 := Lib.hid hr3
  have c0 := hN3.c0
  have c1 := hN3.c1
  have f0 := hN3.fz 0
  have f1 := hN3.fz 1
  have HN3 := Lib.hid hN3
  clear hb3 hN3 hr3
  refine wpAnyH_ready (rs := [8]) (by kernel_rfl) (by simp) ?_
  refine AllReadyH.one rfl ?_ AllReadyH.nil
  intro K hK
  go_simp
  refine hK.out _ _ (SR.put hS3 (w.heap.size + 1 + 1) (by omega) (by omega) (by omega) _ _) (fun hS4 => ?_)
  clear hK K
  refine wpAnyH_done (by kernel_rfl) ?_ _
  (try simp only [Act.put, List.setIfInBounds_toArray, List.set_cons_zero, List.set_cons_succ])
  go_wp2_with fail
  exact ret_rb rfl rfl rfl (HN3.out.put _ _) ⟨o3, c3, rfl, ⟨HI3.out.1, intAt_put_rb HN3.out HI3.out.2 _ _⟩, below_put HB3.out (by omega) _ _⟩

theorem add_ref (x y : Int) (oa ob : Option Addr) (ca cb : Nat) (w : World) (hx : RAt w oa ca x) (hy : RAt w ob cb y) (lx : (Rf.tens x.natAbs).length ≤ 1000) (ly : (Rf.tens y.natAbs).length ≤ 1000) :
    Calls Tryz.prog 57 #[rnV x oa ca, rnV y ob cb] w (RetR (x + y) w) := by
  by_cases h1 : x < 0 <;> by_cases h2 : y < 0
  · exact add_same_n x y oa ob ca cb w hx hy lx ly h1 h2
  · by_cases h3 : y.natAbs ≤ x.natAbs
    · exact add_ge_n x y oa ob ca cb w hx hy lx ly h1 h2 h3
    · exact add_lt_n x y oa ob ca cb w hx hy lx ly h1 h2 (by omega)
  · by_cases h3 : y.natAbs ≤ x.natAbs
    · exact add_ge_p x y oa ob ca cb w hx hy lx ly h1 h2 h3
    · exact add_lt_p x y oa ob ca cb w hx hy lx ly h1 h2 (by omega)
  · exact add_same_p x y oa ob ca cb w hx hy lx ly h1 h2
end Go.Proofs.YthbfbpbppjkoeaaGreatDoor
/- Contracts of both of package proteusref03, and what its API's functions begin with. Conditions: those in the statements. -/
namespace Go.Proofs.YthbfbpbppjkoeaaGreatDoor
open Go.RowKit Go.Shelf
set_option maxRecDepth 100000
set_option linter.unusedVariables false

/-- What is known of a number's two cells, where there is one. -/
def NumS (t : Bool) (z : Int) (b : Bool) (o : Option Addr) (n c : Nat) (W : World) : Prop := t = true → b = decide (z < 0) ∧ n = (Rf.tens z.natAbs).length ∧ RAt W o c z
theorem NumS.mono {t : Bool} {z : Int} {b : Bool} {o : Option Addr} {n c : Nat} {W W' : World} (h : NumS t z b o n c W) (hb : Below W.heap.size W W') : NumS t z b o n c W' := fun ht => ⟨(h ht).1, (h ht).2.1, (h ht).2.2.mono hb⟩
theorem NumS.put {t : Bool} {z : Int} {b : Bool} {o : Option Addr} {n c : Nat} {W : World} (h : NumS t z b o n c W) {B : Nat} {p : Bool} {v : Value} (hB : RB W B (.bool p) v) (x y : Value) : NumS t z b o n c ((W.setCell ⟨B, 0, none⟩ x).setCell ⟨B, 1, none⟩ y) := fun ht => ⟨(h ht).1, (h ht).2.1, (h ht).2.2.1, intAt_put_rb hB (h ht).2.2.2 x y⟩
theorem NumS.drew {t : Bool} {z : Int} {b : Bool} {o : Option Addr} {n c : Nat} {W : World} (h : NumS t z b o n c W) : NumS t z b o n c W.drew := h
theorem NumS.drewN {t : Bool} {z : Int} {b : Bool} {o : Option Addr} {n c : Nat} {W : World} (h : NumS t z b o n c W) (q : Nat) : NumS t z b o n c (W.drewN q) := h
def OfS (t : Bool) (z : Int) (w : World) (e : Ending) (w' : World) : Prop := ∃ b o n c, e = .returned (.tuple #[.agg #[.bool b, .slice o n c], .bool t]) ∧ NumS t z b o n c w' ∧ Below w.heap.size w w'
theorem of_any (K N : Int) (T : List UInt8) (hN : In64Z N) (hT : T.length ≤ 1000) : ∃ t z, (t = true → IsNum K N T z) ∧ (t = false → ∀ z, ¬ IsNum K N T z) ∧ ∀ W, Calls Tryz.prog 51 #[valV K N T] W (OfS t z W) := by
  by_cases h : ∃ z, IsNum K N T z
  · obtain ⟨z, h⟩ := h
    refine ⟨true, z, fun _ => h, fun e => (by cases e), fun W => (ofRef_ok K N z T h W).mono ?_⟩
    rintro e w' ⟨o, c, rfl, hr, hb⟩
    exact ⟨_, o, _, c, rfl, fun _ => ⟨rfl, rfl, hr⟩, hb⟩
  · refine ⟨false, 0, fun e => (by cases e), fun _ z hz => h ⟨z, hz⟩, fun W => (ofRef_no K N T (fun z hz => h ⟨z, hz⟩) hN hT W).mono ?_⟩
    rintro e w' ⟨b, o, n, c, rfl, hb⟩
    exact ⟨b, o, n, c, rfl, fun e => (by cases e), hb⟩
theorem of_ok_s {K N z : Int} {T : List UInt8} (h : IsNum K N T z) (W : World) : Calls Tryz.prog 51 #[valV K N T] W (OfS true z W) := by
  refine (ofRef_ok K N z T h W).mono ?_
  rintro e w' ⟨o, c, rfl, hr, hb⟩
  exact ⟨_, o, _, c, rfl, fun _ => ⟨rfl, rfl, hr⟩, hb⟩
theorem ret_rb2_ok {f : Func} {R : Ending → World → Prop} {a : Act} {W : World} {B B' : Nat} {t t' s : Tmp} {u v u' v' y : Value} (hres : f.results = #[.cell t 52, .cell t' 52, .tmp s]) (hB : a.tmps.getD t undef = .pointer (some ⟨B, 0, none⟩)) (hB' : a.tmps.getD t' undef = .pointer (some ⟨B', 0, none⟩)) (hy : a.tmps.getD s undef = y) (hd : a.defers = [])
    (hN : RB W B u v) (hN' : RB W B' u' v') (hR : R (.returned (.tuple #[.agg #[u, v], .agg #[u', v'], y])) W) : bodyPost Tryz.prog f R .ret a W := by
  have c0 := hN.c0
  have c1 := hN.c1
  have c2 := hN'.c0
  have c3 := hN'.c1
  rw [Array.getD_eq_getD_getElem?] at hB hB' hy
  refine bodyPost_ret (v := .tuple #[.agg #[u, v], .agg #[u', v'], y]) ?_ hd hR
  simp [results, hres, hB, hB', hy, go_sem, c0, c1, c2, c3]
/-- What both answers. -/
def BothS (t t' : Bool) (x y : Int) (w : World) (e : Ending) (w' : World) : Prop := ∃ b o n c b' o' n' c', e = .returned (.tuple #[.agg #[.bool b, .slice o n c], .agg #[.bool b', .slice o' n' c'], .bool (t && t')]) ∧ NumS t x b o n c w' ∧ NumS t' y b' o' n' c' w' ∧ Below w.heap.size w w'
theorem boxes_both (w : World) (u v x u' v' x' : Value) :
    let W := (((w.alloc (.cells #[u, v, x] 23)).alloc (.cells #[u', v', x'] 23)).alloc (.cells #[.bool false, .slice none 0 0] 52)).alloc (.cells #[.bool false, .slice none 0 0] 52)
    VB W w.heap.size u v x ∧ VB W (w.heap.size + 1) u' v' x' ∧ RB W (w.heap.size + 1 + 1) (.bool false) (.slice none 0 0) ∧ RB W (w.heap.size + 1 + 1 + 1) (.bool false) (.slice none 0 0) ∧ Below w.heap.size w W := by
  intro W
  have h1 := VB.new w u v x
  have h2 := VB.new (w.alloc (.cells #[u, v, x] 23)) u' v' x'
  have h3 := RB.new ((w.alloc (.cells #[u, v, x] 23)).alloc (.cells #[u', v', x'] 23)) (.bool false) (.slice none 0 0)
  have h4 := RB.new (((w.alloc (.cells #[u, v, x] 23)).alloc (.cells #[u', v', x'] 23)).alloc (.cells #[.bool false, .slice none 0 0] 52)) (.bool false) (.slice none 0 0)
  rw [World.size_alloc] at h2
  rw [World.size_alloc, World.size_alloc] at h3
  rw [World.size_alloc, World.size_alloc, World.size_alloc] at h4
  exact ⟨((h1.alloc _).alloc _).alloc _, (h2.alloc _).alloc _, h3.alloc _, h4, ((((Below.refl _ w).alloc (Nat.le_refl _) _).alloc (by simp) _).alloc (by simp; omega) _).alloc (by simp; omega) _⟩

set_option maxHeartbeats 1000000 in
theorem both_tt (K N K' N' x y : Int) (T T' : List UInt8) (w : World) (h1 : ∀ W, Calls Tryz.prog 51 #[valV K N T] W (OfS true x W)) (h2 : ∀ W, Calls Tryz.prog 51 #[valV K' N' T'] W (OfS true y W)) :
    Calls Tryz.prog 56 #[valV K N T, valV K' N' T'] w (BothS true true x y w) := by
  have HBx := Lib.hid (boxes_both w (.int .i64 K) (.int .i64 N) (.string ⟨T.toArray⟩) (.int .i64 K') (.int .i64 N') (.string ⟨T'.toArray⟩))
  have HO1 := Lib.hid h1
  have HO2 := Lib.hid h2
  clear h1 h2
  unfold valV at *
  go_enter Tryz.func56, Tryz.ntmps56
  go_wp2_with fail
  refine (HO1.out _).mono ?_
  rintro e w1 ⟨b, o, n, c, rfl, hs1, hb1⟩
  have hba : Below w1.heap.size w1 (w1.alloc (.cells #[.bool b, .slice o n c] 52)) := (Below.refl _ _).alloc (Nat.le_refl _) _
  have hB1 := HBx.out.2.2.2.2
  have H1 := hB1.trans (hb1.mono hB1.size)
  have HV2 := Lib.hid ((HBx.out.2.1.below hb1 HBx.out.2.1.lt).below hba (HBx.out.2.1.below hb1 HBx.out.2.1.lt).lt)
  have HR1 := Lib.hid ((HBx.out.2.2.1.below hb1 HBx.out.2.2.1.lt).below hba (HBx.out.2.2.1.below hb1 HBx.out.2.2.1.lt).lt)
  have HR2 := Lib.hid ((HBx.out.2.2.2.1.below hb1 HBx.out.2.2.2.1.lt).below hba (HBx.out.2.2.2.1.below hb1 HBx.out.2.2.2.1.lt).lt)
  have HX := Lib.hid (RB.new w1 (.bool b) (.slice o n c))
  have HS1 := Lib.hid (hs1.mono hba)
  have H2 := Lib.hid (H1.trans (hba.mono H1.size))
  have hsz : w.heap.size + 1 + 1 + 1 < w1.heap.size := (HBx.out.2.2.2.1.below hb1 HBx.out.2.2.2.1.lt).lt
  clear hb1 hba hB1 H1 hs1 HBx
  have v0 := HV2.out.c0
  have v1 := HV2.out.c1
  have v2 := HV2.out.c2
  go_wp2_with fail
  refine (HO2.out _).mono ?_
  rintro e w2 ⟨b', o', n', c', rfl, hs2, hb2⟩
  clear v0 v1 v2
  have hba : Below w2.heap.size w2 (w2.alloc (.cells #[.bool b', .slice o' n' c'] 52)) := (Below.refl _ _).alloc (Nat.le_refl _) _
  have H3 := H2.out.trans (hb2.mono H2.out.size)
  have HR3 := Lib.hid ((HR1.out.below hb2 HR1.out.lt).below hba (HR1.out.below hb2 HR1.out.lt).lt)
  have HR4 := Lib.hid ((HR2.out.below hb2 HR2.out.lt).below hba (HR2.out.below hb2 HR2.out.lt).lt)
  have HX3 := Lib.hid ((HX.out.below hb2 HX.out.lt).below hba (HX.out.below hb2 HX.out.lt).lt)
  have HY3 := Lib.hid (RB.new w2 (.bool b') (.slice o' n' c'))
  have HS3 := Lib.hid ((HS1.out.mono hb2).mono hba)
  have HS4 := Lib.hid (hs2.mono hba)
  have H4 := Lib.hid (H3.trans (hba.mono H3.size))
  have hsz2 : w1.heap.size < w2.heap.size := (HX.out.below hb2 HX.out.lt).lt
  clear hb2 hba H2 H3 hs2 HS1 HX HR1 HR2 HV2
  go_wp2_with fail
  generalize w2.alloc (.cells #[.bool b', .slice o' n' c'] 52) = W at *
  have x0 := HX3.out.c0
  have x1 := HX3.out.c1
  have y0 := HY3.out.c0
  have y1 := HY3.out.c1
  have f0 := HR3.out.fz 0
  have f1 := HR3.out.fz 1
  have g0 := HR4.out.fz 0
  have g1 := HR4.out.fz 1
  have r0 := HR3.out.c0
  have r1 := HR3.out.c1
  have s0 := HR4.out.c0
  have s1 := HR4.out.c1
  have hR4 := (HR4.out.other ⟨w.heap.size + 1 + 1, 0, none⟩ (by simp) (.bool b)).other ⟨w.heap.size + 1 + 1, 1, none⟩ (by simp) (.slice o n c)
  have hY4 := (HY3.out.other ⟨w.heap.size + 1 + 1, 0, none⟩ (by simp; omega) (.bool b)).other ⟨w.heap.size + 1 + 1, 1, none⟩ (by simp; omega) (.slice o n c)
  have z0 := hY4.c0
  have z1 := hY4.c1
  have k0 := hR4.fz 0
  have k1 := hR4.fz 1
  have l0 := hR4.c0
  have l1 := hR4.c1
  have HN1 := Lib.hid (((HR3.out.put (.bool b) (.slice o n c)).other ⟨w.heap.size + 1 + 1 + 1, 0, none⟩ (by simp) (.bool b')).other ⟨w.heap.size + 1 + 1 + 1, 1, none⟩ (by simp) (.slice o' n' c'))
  have HN2 := Lib.hid (hR4.put (.bool b') (.slice o' n' c'))
  have HS5 := Lib.hid ((HS3.out.put HR3.out (.bool b) (.slice o n c)).put hR4 (.bool b') (.slice o' n' c'))
  have HS6 := Lib.hid ((HS4.out.put HR3.out (.bool b) (.slice o n c)).put hR4 (.bool b') (.slice o' n' c'))
  have H5 := Lib.hid (below_put (below_put H4.out (show w.heap.size ≤ w.heap.size + 1 + 1 by omega) (.bool b) (.slice o n c)) (show w.heap.size ≤ w.heap.size + 1 + 1 + 1 by omega) (.bool b') (.slice o' n' c'))
  clear hR4 hY4 hsz hsz2 HS3 HS4 H4
  go_region
  all_goals
    go_wp2_with fail
    exact ret_rb2_ok rfl rfl rfl rfl rfl HN1.out HN2.out ⟨b, o, n, c, b', o', n', c', rfl, HS5.out, HS6.out, H5.out.drew⟩

set_option maxHeartbeats 1000000 in
theorem both_tf (K N K' N' x y : Int) (T T' : List UInt8) (w : World) (h1 : ∀ W, Calls Tryz.prog 51 #[valV K N T] W (OfS true x W)) (h2 : ∀ W, Calls Tryz.prog 51 #[valV K' N' T'] W (OfS false y W)) :
    Calls Tryz.prog 56 #[valV K N T, valV K' N' T'] w (BothS true false x y w) := by
  have HBx := Lib.hid (boxes_both w (.int .i64 K) (.int .i64 N) (.string ⟨T.toArray⟩) (.int .i64 K') (.int .i64 N') (.string ⟨T'.toArray⟩))
  have HO1 := Lib.hid h1
  have HO2 := Lib.hid h2
  clear h1 h2
  unfold valV at *
  go_enter Tryz.func56, Tryz.ntmps56
  go_wp2_with fail
  refine (HO1.out _).mono ?_
  rintro e w1 ⟨b, o, n, c, rfl, hs1, hb1⟩
  have hba : Below w1.heap.size w1 (w1.alloc (.cells #[.bool b, .slice o n c] 52)) := (Below.refl _ _).alloc (Nat.le_refl _) _
  have hB1 := HBx.out.2.2.2.2
  have H1 := hB1.trans (hb1.mono hB1.size)
  have HV2 := Lib.hid ((HBx.out.2.1.below hb1 HBx.out.2.1.lt).below hba (HBx.out.2.1.below hb1 HBx.out.2.1.lt).lt)
  have HR1 := Lib.hid ((HBx.out.2.2.1.below hb1 HBx.out.2.2.1.lt).below hba (HBx.out.2.2.1.below hb1 HBx.out.2.2.1.lt).lt)
  have HR2 := Lib.hid ((HBx.out.2.2.2.1.below hb1 HBx.out.2.2.2.1.lt).below hba (HBx.out.2.2.2.1.below hb1 HBx.out.2.2.2.1.lt).lt)
  have HX := Lib.hid (RB.new w1 (.bool b) (.slice o n c))
  have HS1 := Lib.hid (hs1.mono hba)
  have H2 := Lib.hid (H1.trans (hba.mono H1.size))
  have hsz : w.heap.size + 1 + 1 + 1 < w1.heap.size := (HBx.out.2.2.2.1.below hb1 HBx.out.2.2.2.1.lt).lt
  clear hb1 hba hB1 H1 hs1 HBx
  have v0 := HV2.out.c0
  have v1 := HV2.out.c1
  have v2 := HV2.out.c2
  go_wp2_with fail
  refine (HO2.out _).mono ?_
  rintro e w2 ⟨b', o', n', c', rfl, hs2, hb2⟩
  clear v0 v1 v2
  have hba : Below w2.heap.size w2 (w2.alloc (.cells #[.bool b', .slice o' n' c'] 52)) := (Below.refl _ _).alloc (Nat.le_refl _) _
  have H3 := H2.out.trans (hb2.mono H2.out.size)
  have HR3 := Lib.hid ((HR1.out.below hb2 HR1.out.lt).below hba (HR1.out.below hb2 HR1.out.lt).lt)
  have HR4 := Lib.hid ((HR2.out.below hb2 HR2.out.lt).below hba (HR2.out.below hb2 HR2.out.lt).lt)
  have HX3 := Lib.hid ((HX.out.below hb2 HX.out.lt).below hba (HX.out.below hb2 HX.out.lt).lt)
  have HY3 := Lib.hid (RB.new w2 (.bool b') (.slice o' n' c'))
  have HS3 := Lib.hid ((HS1.out.mono hb2).mono hba)
  have HS4 := Lib.hid (hs2.mono hba)
  have H4 := Lib.hid (H3.trans (hba.mono H3.size))
  have hsz2 : w1.heap.size < w2.heap.size := (HX.out.below hb2 HX.out.lt).lt
  clear hb2 hba H2 H3 hs2 HS1 HX HR1 HR2 HV2
  go_wp2_with fail
  generalize w2.alloc (.cells #[.bool b', .slice o' n' c'] 52) = W at *
  have x0 := HX3.out.c0
  have x1 := HX3.out.c1
  have y0 := HY3.out.c0
  have y1 := HY3.out.c1
  have f0 := HR3.out.fz 0
  have f1 := HR3.out.fz 1
  have g0 := HR4.out.fz 0
  have g1 := HR4.out.fz 1
  have r0 := HR3.out.c0
  have r1 := HR3.out.c1
  have s0 := HR4.out.c0
  have s1 := HR4.out.c1
  have hR4 := (HR4.out.other ⟨w.heap.size + 1 + 1, 0, none⟩ (by simp) (.bool b)).other ⟨w.heap.size + 1 + 1, 1, none⟩ (by simp) (.slice o n c)
  have hY4 := (HY3.out.other ⟨w.heap.size + 1 + 1, 0, none⟩ (by simp; omega) (.bool b)).other ⟨w.heap.size + 1 + 1, 1, none⟩ (by simp; omega) (.slice o n c)
  have z0 := hY4.c0
  have z1 := hY4.c1
  have k0 := hR4.fz 0
  have k1 := hR4.fz 1
  have l0 := hR4.c0
  have l1 := hR4.c1
  have HN1 := Lib.hid (((HR3.out.put (.bool b) (.slice o n c)).other ⟨w.heap.size + 1 + 1 + 1, 0, none⟩ (by simp) (.bool b')).other ⟨w.heap.size + 1 + 1 + 1, 1, none⟩ (by simp) (.slice o' n' c'))
  have HN2 := Lib.hid (hR4.put (.bool b') (.slice o' n' c'))
  have HS5 := Lib.hid ((HS3.out.put HR3.out (.bool b) (.slice o n c)).put hR4 (.bool b') (.slice o' n' c'))
  have HS6 := Lib.hid ((HS4.out.put HR3.out (.bool b) (.slice o n c)).put hR4 (.bool b') (.slice o' n' c'))
  have H5 := Lib.hid (below_put (below_put H4.out (show w.heap.size ≤ w.heap.size + 1 + 1 by omega) (.bool b) (.slice o n c)) (show w.heap.size ≤ w.heap.size + 1 + 1 + 1 by omega) (.bool b') (.slice o' n' c'))
  clear hR4 hY4 hsz hsz2 HS3 HS4 H4
  go_region
  all_goals
    go_wp2_with fail
    exact ret_rb2_ok rfl rfl rfl rfl rfl HN1.out HN2.out ⟨b, o, n, c, b', o', n', c', rfl, HS5.out, HS6.out, H5.out.drew⟩

set_option maxHeartbeats 1000000 in
theorem both_ft (K N K' N' x y : Int) (T T' : List UInt8) (w : World) (h1 : ∀ W, Calls Tryz.prog 51 #[valV K N T] W (OfS false x W)) (h2 : ∀ W, Calls Tryz.prog 51 #[valV K' N' T'] W (OfS true y W)) :
    Calls Tryz.prog 56 #[valV K N T, valV K' N' T'] w (BothS false true x y w) := by
  have HBx := Lib.hid (boxes_both w (.int .i64 K) (.int .i64 N) (.string ⟨T.toArray⟩) (.int .i64 K') (.int .i64 N') (.string ⟨T'.toArray⟩))
  have HO1 := Lib.hid h1
  have HO2 := Lib.hid h2
  clear h1 h2
  unfold valV at *
  go_enter Tryz.func56, Tryz.ntmps56
  go_wp2_with fail
  refine (HO1.out _).mono ?_
  rintro e w1 ⟨b, o, n, c, rfl, hs1, hb1⟩
  have hba : Below w1.heap.size w1 (w1.alloc (.cells #[.bool b, .slice o n c] 52)) := (Below.refl _ _).alloc (Nat.le_refl _) _
  have hB1 := HBx.out.2.2.2.2
  have H1 := hB1.trans (hb1.mono hB1.size)
  have HV2 := Lib.hid ((HBx.out.2.1.below hb1 HBx.out.2.1.lt).below hba (HBx.out.2.1.below hb1 HBx.out.2.1.lt).lt)
  have HR1 := Lib.hid ((HBx.out.2.2.1.below hb1 HBx.out.2.2.1.lt).below hba (HBx.out.2.2.1.below hb1 HBx.out.2.2.1.lt).lt)
  have HR2 := Lib.hid ((HBx.out.2.2.2.1.below hb1 HBx.out.2.2.2.1.lt).below hba (HBx.out.2.2.2.1.below hb1 HBx.out.2.2.2.1.lt).lt)
  have HX := Lib.hid (RB.new w1 (.bool b) (.slice o n c))
  have HS1 := Lib.hid (hs1.mono hba)
  have H2 := Lib.hid (H1.trans (hba.mono H1.size))
  have hsz : w.heap.size + 1 + 1 + 1 < w1.heap.size := (HBx.out.2.2.2.1.below hb1 HBx.out.2.2.2.1.lt).lt
  clear hb1 hba hB1 H1 hs1 HBx
  have v0 := HV2.out.c0
  have v1 := HV2.out.c1
  have v2 := HV2.out.c2
  go_wp2_with fail
  refine (HO2.out _).mono ?_
  rintro e w2 ⟨b', o', n', c', rfl, hs2, hb2⟩
  clear v0 v1 v2
  have hba : Below w2.heap.size w2 (w2.alloc (.cells #[.bool b', .slice o' n' c'] 52)) := (Below.refl _ _).alloc (Nat.le_refl _) _
  have H3 := H2.out.trans (hb2.mono H2.out.size)
  have HR3 := Lib.hid ((HR1.out.below hb2 HR1.out.lt).below hba (HR1.out.below hb2 HR1.out.lt).lt)
  have HR4 := Lib.hid ((HR2.out.below hb2 HR2.out.lt).below hba (HR2.out.below hb2 HR2.out.lt).lt)
  have HX3 := Lib.hid ((HX.out.below hb2 HX.out.lt).below hba (HX.out.below hb2 HX.out.lt).lt)
  have HY3 := Lib.hid (RB.new w2 (.bool b') (.slice o' n' c'))
  have HS3 := Lib.hid ((HS1.out.mono hb2).mono hba)
  have HS4 := Lib.hid (hs2.mono hba)
  have H4 := Lib.hid (H3.trans (hba.mono H3.size))
  have hsz2 : w1.heap.size < w2.heap.size := (HX.out.below hb2 HX.out.lt).lt
  clear hb2 hba H2 H3 hs2 HS1 HX HR1 HR2 HV2
  go_wp2_with fail
  generalize w2.alloc (.cells #[.bool b', .slice o' n' c'] 52) = W at *
  have x0 := HX3.out.c0
  have x1 := HX3.out.c1
  have y0 := HY3.out.c0
  have y1 := HY3.out.c1
  have f0 := HR3.out.fz 0
  have f1 := HR3.out.fz 1
  have g0 := HR4.out.fz 0
  have g1 := HR4.out.fz 1
  have r0 := HR3.out.c0
  have r1 := HR3.out.c1
  have s0 := HR4.out.c0
  have s1 := HR4.out.c1
  have hR4 := (HR4.out.other ⟨w.heap.size + 1 + 1, 0, none⟩ (by simp) (.bool b)).other ⟨w.heap.size + 1 + 1, 1, none⟩ (by simp) (.slice o n c)
  have hY4 := (HY3.out.other ⟨w.heap.size + 1 + 1, 0, none⟩ (by simp; omega) (.bool b)).other ⟨w.heap.size + 1 + 1, 1, none⟩ (by simp; omega) (.slice o n c)
  have z0 := hY4.c0
  have z1 := hY4.c1
  have k0 := hR4.fz 0
  have k1 := hR4.fz 1
  have l0 := hR4.c0
  have l1 := hR4.c1
  have HN1 := Lib.hid (((HR3.out.put (.bool b) (.slice o n c)).other ⟨w.heap.size + 1 + 1 + 1, 0, none⟩ (by simp) (.bool b')).other ⟨w.heap.size + 1 + 1 + 1, 1, none⟩ (by simp) (.slice o' n' c'))
  have HN2 := Lib.hid (hR4.put (.bool b') (.slice o' n' c'))
  have HS5 := Lib.hid ((HS3.out.put HR3.out (.bool b) (.slice o n c)).put hR4 (.bool b') (.slice o' n' c'))
  have HS6 := Lib.hid ((HS4.out.put HR3.out (.bool b) (.slice o n c)).put hR4 (.bool b') (.slice o' n' c'))
  have H5 := Lib.hid (below_put (below_put H4.out (show w.heap.size ≤ w.heap.size + 1 + 1 by omega) (.bool b) (.slice o n c)) (show w.heap.size ≤ w.heap.size + 1 + 1 + 1 by omega) (.bool b') (.slice o' n' c'))
  clear hR4 hY4 hsz hsz2 HS3 HS4 H4
  go_region
  all_goals
    go_wp2_with fail
    exact ret_rb2_ok rfl rfl rfl rfl rfl HN1.out HN2.out ⟨b, o, n, c, b', o', n', c', rfl, HS5.out, HS6.out, H5.out.drew⟩

set_option maxHeartbeats 1000000 in
theorem both_ff (K N K' N' x y : Int) (T T' : List UInt8) (w : World) (h1 : ∀ W, Calls Tryz.prog 51 #[valV K N T] W (OfS false x W)) (h2 : ∀ W, Calls Tryz.prog 51 #[valV K' N' T'] W (OfS false y W)) :
    Calls Tryz.prog 56 #[valV K N T, valV K' N' T'] w (BothS false false x y w) := by
  have HBx := Lib.hid (boxes_both w (.int .i64 K) (.int .i64 N) (.string ⟨T.toArray⟩) (.int .i64 K') (.int .i64 N') (.string ⟨T'.toArray⟩))
  have HO1 := Lib.hid h1
  have HO2 := Lib.hid h2
  clear h1 h2
  unfold valV at *
  go_enter Tryz.func56, Tryz.ntmps56
  go_wp2_with fail
  refine (HO1.out _).mono ?_
  rintro e w1 ⟨b, o, n, c, rfl, hs1, hb1⟩
  have hba : Below w1.heap.size w1 (w1.alloc (.cells #[.bool b, .slice o n c] 52)) := (Below.refl _ _).alloc (Nat.le_refl _) _
  have hB1 := HBx.out.2.2.2.2
  have H1 := hB1.trans (hb1.mono hB1.size)
  have HV2 := Lib.hid ((HBx.out.2.1.below hb1 HBx.out.2.1.lt).below hba (HBx.out.2.1.below hb1 HBx.out.2.1.lt).lt)
  have HR1 := Lib.hid ((HBx.out.2.2.1.below hb1 HBx.out.2.2.1.lt).below hba (HBx.out.2.2.1.below hb1 HBx.out.2.2.1.lt).lt)
  have HR2 := Lib.hid ((HBx.out.2.2.2.1.below hb1 HBx.out.2.2.2.1.lt).below hba (HBx.out.2.2.2.1.below hb1 HBx.out.2.2.2.1.lt).lt)
  have HX := Lib.hid (RB.new w1 (.bool b) (.slice o n c))
  have HS1 := Lib.hid (hs1.mono hba)
  have H2 := Lib.hid (H1.trans (hba.mono H1.size))
  have hsz : w.heap.size + 1 + 1 + 1 < w1.heap.size := (HBx.out.2.2.2.1.below hb1 HBx.out.2.2.2.1.lt).lt
  clear hb1 hba hB1 H1 hs1 HBx
  have v0 := HV2.out.c0
  have v1 := HV2.out.c1
  have v2 := HV2.out.c2
  go_wp2_with fail
  refine (HO2.out _).mono ?_
  rintro e w2 ⟨b', o', n', c', rfl, hs2, hb2⟩
  clear v0 v1 v2
  have hba : Below w2.heap.size w2 (w2.alloc (.cells #[.bool b', .slice o' n' c'] 52)) := (Below.refl _ _).alloc (Nat.le_refl _) _
  have H3 := H2.out.trans (hb2.mono H2.out.size)
  have HR3 := Lib.hid ((HR1.out.below hb2 HR1.out.lt).below hba (HR1.out.below hb2 HR1.out.lt).lt)
  have HR4 := Lib.hid ((HR2.out.below hb2 HR2.out.lt).below hba (HR2.out.below hb2 HR2.out.lt).lt)
  have HX3 := Lib.hid ((HX.out.below hb2 HX.out.lt).below hba (HX.out.below hb2 HX.out.lt).lt)
  have HY3 := Lib.hid (RB.new w2 (.bool b') (.slice o' n' c'))
  have HS3 := Lib.hid ((HS1.out.mono hb2).mono hba)
  have HS4 := Lib.hid (hs2.mono hba)
  have H4 := Lib.hid (H3.trans (hba.mono H3.size))
  have hsz2 : w1.heap.size < w2.heap.size := (HX.out.below hb2 HX.out.lt).lt
  clear hb2 hba H2 H3 hs2 HS1 HX HR1 HR2 HV2
  go_wp2_with fail
  generalize w2.alloc (.cells #[.bool b', .slice o' n' c'] 52) = W at *
  have x0 := HX3.out.c0
  have x1 := HX3.out.c1
  have y0 := HY3.out.c0
  have y1 := HY3.out.c1
  have f0 := HR3.out.fz 0
  have f1 := HR3.out.fz 1
  have g0 := HR4.out.fz 0
  have g1 := HR4.out.fz 1
  have r0 := HR3.out.c0
  have r1 := HR3.out.c1
  have s0 := HR4.out.c0
  have s1 := HR4.out.c1
  have hR4 := (HR4.out.other ⟨w.heap.size + 1 + 1, 0, none⟩ (by simp) (.bool b)).other ⟨w.heap.size + 1 + 1, 1, none⟩ (by simp) (.slice o n c)
  have hY4 := (HY3.out.other ⟨w.heap.size + 1 + 1, 0, none⟩ (by simp; omega) (.bool b)).other ⟨w.heap.size + 1 + 1, 1, none⟩ (by simp; omega) (.slice o n c)
  have z0 := hY4.c0
  have z1 := hY4.c1
  have k0 := hR4.fz 0
  have k1 := hR4.fz 1
  have l0 := hR4.c0
  have l1 := hR4.c1
  have HN1 := Lib.hid (((HR3.out.put (.bool b) (.slice o n c)).other ⟨w.heap.size + 1 + 1 + 1, 0, none⟩ (by simp) (.bool b')).other ⟨w.heap.size + 1 + 1 + 1, 1, none⟩ (by simp) (.slice o' n' c'))
  have HN2 := Lib.hid (hR4.put (.bool b') (.slice o' n' c'))
  have HS5 := Lib.hid ((HS3.out.put HR3.out (.bool b) (.slice o n c)).put hR4 (.bool b') (.slice o' n' c'))
  have HS6 := Lib.hid ((HS4.out.put HR3.out (.bool b) (.slice o n c)).put hR4 (.bool b') (.slice o' n' c'))
  have H5 := Lib.hid (below_put (below_put H4.out (show w.heap.size ≤ w.heap.size + 1 + 1 by omega) (.bool b) (.slice o n c)) (show w.heap.size ≤ w.heap.size + 1 + 1 + 1 by omega) (.bool b') (.slice o' n' c'))
  clear hR4 hY4 hsz hsz2 HS3 HS4 H4
  go_region
  all_goals
    go_wp2_with fail
    exact ret_rb2_ok rfl rfl rfl rfl rfl HN1.out HN2.out ⟨b, o, n, c, b', o', n', c', rfl, HS5.out, HS6.out, H5.out.drew⟩
end Go.Proofs.YthbfbpbppjkoeaaGreatDoor
/- Contracts of Add, Sub, Mul, Less of package proteusref03. Conditions: those in the statements. -/
namespace Go.Proofs.YthbfbpbppjkoeaaGreatDoor
open Go.RowKit Go.Shelf
set_option maxRecDepth 100000
set_option linter.unusedVariables false
set_option linter.unusedSimpArgs false
set_option exponentiation.threshold 500

theorem value_ans {A B E z : Int} {S : List UInt8} (ha : Ans A B S E z) (o : Option Addr) (c : Nat) (w : World) (h : RAt w o c z) (hl : (Rf.tens z.natAbs).length ≤ 100000) : Calls Tryz.prog 49 #[rnV z o c] w (RetN A B S E w) := by
  refine (value_ref z o c w h hl).mono fun e w' hh => ?_
  rcases ha with ⟨rfl, hn⟩ | ⟨rfl, rfl, rfl, rfl, hf⟩
  · exact hh.num hn
  · exact hh.lim hf
theorem RAt.drew {w : World} {o : Option Addr} {c : Nat} {z : Int} (h : RAt w o c z) : RAt w.drew o c z := h
theorem tens_len_pow {n k : Nat} (h : n < 10 ^ k) (hk : 0 < k) : (Rf.tens n).length ≤ k := Nat.le_trans (Rf.tens_len_le n) (Bg.nDigits_le h hk)
theorem tens_lt_pow (n : Nat) : n < 10 ^ (Rf.tens n).length := by
  have := Rf.valT_lt (Rf.digs_tens n)
  rw [Rf.valT_tens] at this
  exact_mod_cast this
theorem num_len {K N x : Int} {T : List UInt8} (h : IsNum K N T x) : (Rf.tens x.natAbs).length ≤ 400 := (few_tens x).1 h.1
theorem sum_len {x y : Int} {k : Nat} (hx : (Rf.tens x.natAbs).length ≤ k) (hy : (Rf.tens y.natAbs).length ≤ k) : (Rf.tens (x + y).natAbs).length ≤ k + 1 := by
  have h1 := Nat.lt_of_lt_of_le (tens_lt_pow x.natAbs) (Nat.pow_le_pow_right (by decide : 0 < 10) hx)
  have h2 := Nat.lt_of_lt_of_le (tens_lt_pow y.natAbs) (Nat.pow_le_pow_right (by decide : 0 < 10) hy)
  refine tens_len_pow ?_ (by omega)
  have h3 : (10 : Nat) ^ (k + 1) = 10 ^ k * 10 := Nat.pow_succ ..
  generalize (10 : Nat) ^ k = P at *
  omega
theorem mul_len {a b k m : Nat} (hx : (Rf.tens a).length ≤ k) (hy : (Rf.tens b).length ≤ m) (hk : 0 < k + m) : (Rf.tens (a * b)).length ≤ k + m := by
  have h1 := Nat.lt_of_lt_of_le (tens_lt_pow a) (Nat.pow_le_pow_right (by decide : 0 < 10) hx)
  have h2 := Nat.lt_of_lt_of_le (tens_lt_pow b) (Nat.pow_le_pow_right (by decide : 0 < 10) hy)
  refine tens_len_pow ?_ hk
  rw [Nat.pow_add]
  exact Nat.mul_lt_mul'' h1 h2
theorem neg_len (y : Int) : (Rf.tens (-y).natAbs).length = (Rf.tens y.natAbs).length := by rw [Int.natAbs_neg]
/-- What both answers where one is none. -/
theorem both_no (K N K' N' : Int) (T T' : List UInt8) (h : (∀ z, ¬ IsNum K N T z) ∨ ∀ z, ¬ IsNum K' N' T' z) (hN : In64Z N) (hN' : In64Z N') (hT : T.length ≤ 1000) (hT' : T'.length ≤ 1000) (w : World) :
    Calls Tryz.prog 56 #[valV K N T, valV K' N' T'] w fun e w' => (∃ b o n c b' o' n' c', e = .returned (.tuple #[.agg #[.bool b, .slice o n c], .agg #[.bool b', .slice o' n' c'], .bool false])) ∧ Below w.heap.size w w' := by
  obtain ⟨t, x, h1, h2, h3⟩ := of_any K N T hN hT
  obtain ⟨t', y, h1', h2', h3'⟩ := of_any K' N' T' hN' hT'
  cases t <;> cases t'
  · refine (both_ff K N K' N' x y T T' w h3 h3').mono ?_
    rintro e w' ⟨b, o, n, c, b', o', n', c', rfl, _, _, hb⟩
    exact ⟨⟨b, o, n, c, b', o', n', c', rfl⟩, hb⟩
  · refine (both_ft K N K' N' x y T T' w h3 h3').mono ?_
    rintro e w' ⟨b, o, n, c, b', o', n', c', rfl, _, _, hb⟩
    exact ⟨⟨b, o, n, c, b', o', n', c', rfl⟩, hb⟩
  · refine (both_tf K N K' N' x y T T' w h3 h3').mono ?_
    rintro e w' ⟨b, o, n, c, b', o', n', c', rfl, _, _, hb⟩
    exact ⟨⟨b, o, n, c, b', o', n', c', rfl⟩, hb⟩
  · exfalso
    rcases h with h | h
    · exact h x (h1 rfl)
    · exact h y (h1' rfl)
theorem both_yes {K N K' N' x y : Int} {T T' : List UInt8} (h : IsNum K N T x) (h' : IsNum K' N' T' y) (w : World) :
    Calls Tryz.prog 56 #[valV K N T, valV K' N' T'] w fun e w' => ∃ o c o' c', e = .returned (.tuple #[rnV x o c, rnV y o' c', .bool true]) ∧ RAt w' o c x ∧ RAt w' o' c' y ∧ Below w.heap.size w w' := by
  refine (both_tt K N K' N' x y T T' w (of_ok_s h) (of_ok_s h')).mono ?_
  rintro e w' ⟨b, o, n, c, b', o', n', c', rfl, h1, h2, hb⟩
  obtain ⟨rfl, rfl, hr1⟩ := h1 rfl
  obtain ⟨rfl, rfl, hr2⟩ := h2 rfl
  exact ⟨o, c, o', c', rfl, hr1, hr2, hb⟩

set_option maxHeartbeats 1000000 in
theorem AddRef_no (K N K' N' : Int) (T T' : List UInt8) (w : World) (h : (∀ z, ¬ IsNum K N T z) ∨ ∀ z, ¬ IsNum K' N' T' z) (hN : In64Z N) (hN' : In64Z N') (hT : T.length ≤ 1000) (hT' : T'.length ≤ 1000) :
    Calls Tryz.prog 26 #[valV K N T, valV K' N' T'] w fun e w' => RetN 0 0 [] 31 w e w' := by
  have HBo := Lib.hid (fun W => both_no K N K' N' T T' h hN hN' hT hT' W)
  have HBx := Lib.hid (boxesA3 w (.int .i64 K) (.int .i64 N) (.string ⟨T.toArray⟩) (.int .i64 K') (.int .i64 N') (.string ⟨T'.toArray⟩))
  clear h hN hN' hT hT'
  unfold valV at *
  go_enter Tryz.func26, Tryz.ntmps26
  go_wp2_with fail
  refine (HBo.out _).mono ?_
  rintro e w1 ⟨⟨b, o, n, c, b', o', n', c', rfl⟩, hb1⟩
  have hV1 := HBx.out.1.below hb1 HBx.out.1.lt
  have H1 := HBx.out.2.trans (hb1.mono HBx.out.2.size)
  have hV := (hV1.alloc (.cells #[.bool b, .slice o n c] 52)).alloc (.cells #[.bool b', .slice o' n' c'] 52)
  have H2 := Lib.hid ((H1.alloc H1.size (.cells #[.bool b, .slice o n c] 52)).alloc (by have := H1.size; simp; omega) (.cells #[.bool b', .slice o' n' c'] 52))
  have v0 := hV.c0
  have v1 := hV.c1
  have v2 := hV.c2
  have f0 := hV.fz 0
  have f1 := hV.fz 1
  have f2 := hV.fz 2
  have HV := Lib.hid hV
  clear hb1 hV hV1 H1
  go_wp2_with fail
  exact ret_val_err rfl rfl rfl rfl (HV.out.put _ _ _) ⟨rfl, below_put3 H2.out (by omega) _ _ _⟩

set_option maxHeartbeats 2000000 in
theorem AddRef_ok {K N x K' N' y A B E z : Int} {T T' S : List UInt8} (h : IsNum K N T x) (h' : IsNum K' N' T' y) (ha : Ans A B S E z) (hz : x + y = z) (w : World) :
    Calls Tryz.prog 26 #[valV K N T, valV K' N' T'] w fun e w' => RetN A B S E w e w' := by
  have HBo := Lib.hid (fun W => both_yes h h' W)
  have HBx := Lib.hid (boxesA3 w (.int .i64 K) (.int .i64 N) (.string ⟨T.toArray⟩) (.int .i64 K') (.int .i64 N') (.string ⟨T'.toArray⟩))
  have lx := num_len h
  have ly := num_len h'
  have lz : (Rf.tens z.natAbs).length ≤ 100000 := by rw [← hz]; have := sum_len lx ly; omega
  have HAd := Lib.hid (fun (W : World) (oa : Option Addr) (ca : Nat) (ob : Option Addr) (cb : Nat) (hx : RAt W oa ca x) (hy : RAt W ob cb y) => add_ref x y oa ob ca cb W hx hy (by omega) (by omega))
  rw [hz] at HAd
  have HVl := Lib.hid (fun (W : World) (o : Option Addr) (c : Nat) (h : RAt W o c z) => value_ans ha o c W h lz)
  clear h h' ha hz lx ly lz
  unfold valV at *
  go_enter Tryz.func26, Tryz.ntmps26
  go_wp2_with fail
  refine (HBo.out _).mono ?_
  rintro e w1 ⟨oa, ca, ob, cb, rfl, hr1, hr2, hb1⟩
  clear HBo
  unfold rnV at *
  generalize hdx : decide (x < 0) = bx at *
  generalize hdy : decide (y < 0) = by' at *
  generalize hlx : (Rf.tens x.natAbs).length = nx at *
  generalize hly : (Rf.tens y.natAbs).length = ny at *
  have HDX := Lib.hid hdx
  have HDY := Lib.hid hdy
  have HLX := Lib.hid hlx
  have HLY := Lib.hid hly
  clear hdx hdy hlx hly
  have H1 := HBx.out.2.trans (hb1.mono HBx.out.2.size)
  have HA2 := Lib.hid ((RB.new w1 (.bool bx) (.slice oa nx ca)).alloc (.cells #[.bool by', .slice ob ny cb] 52))
  have HB2 := Lib.hid (boxesR2 w1 (.bool bx) (.slice oa nx ca) (.bool by') (.slice ob ny cb)).2.1
  have hbb := (boxesR2 w1 (.bool bx) (.slice oa nx ca) (.bool by') (.slice ob ny cb)).2.2
  have HRx := Lib.hid (hr1.mono hbb)
  have HRy := Lib.hid (hr2.mono hbb)
  have H2 := Lib.hid (H1.trans (hbb.mono H1.size))
  have HSz := Lib.hid H1.size
  have hV1 := HBx.out.1.below hb1 HBx.out.1.lt
  have HV := Lib.hid ((hV1.alloc (.cells #[.bool bx, .slice oa nx ca] 52)).alloc (.cells #[.bool by', .slice ob ny cb] 52))
  have HLt := Lib.hid hV1.lt
  clear hb1 hbb hr1 hr2 H1 HBx hV1
  have x0 := HA2.out.c0
  have x1 := HA2.out.c1
  have y0 := HB2.out.c0
  have y1 := HB2.out.c1
  go_wp2_with fail
  have hc := HAd.out _ oa ca ob cb HRx.out HRy.out
  (try unfold rnV at hc)
  refine hc.mono ?_
  rintro e w2 ⟨o2, c2, rfl, hr, hb2⟩
  clear hc x0 x1 y0 y1
  unfold rnV
  have HVw := Lib.hid (HV.out.below hb2 HV.out.lt)
  have H3 := Lib.hid (H2.out.trans (hb2.mono H2.out.size))
  have HR3 := Lib.hid hr
  clear hb2 hr
  go_wp2_with fail
  have hc := HVl.out _ o2 c2 HR3.out
  (try unfold rnV at hc)
  refine hc.mono ?_
  rintro e w3 ⟨rfl, hb3⟩
  clear hc
  unfold valV
  have HVv := Lib.hid (HVw.out.below hb3 HVw.out.lt)
  have H4 := Lib.hid (H3.out.trans (hb3.mono H3.out.size))
  clear hb3
  have hV3 := HVv.out
  have v0 := hV3.c0
  have v1 := hV3.c1
  have v2 := hV3.c2
  have f0 := hV3.fz 0
  have f1 := hV3.fz 1
  have f2 := hV3.fz 2
  clear hV3
  go_wp2_with fail
  exact ret_val_err rfl rfl rfl rfl (HVv.out.put _ _ _) ⟨rfl, below_put3 H4.out (by omega) _ _ _⟩

set_option maxHeartbeats 1000000 in
theorem LessRef_no (K N K' N' : Int) (T T' : List UInt8) (w : World) (h : (∀ z, ¬ IsNum K N T z) ∨ ∀ z, ¬ IsNum K' N' T' z) (hN : In64Z N) (hN' : In64Z N') (hT : T.length ≤ 1000) (hT' : T'.length ≤ 1000) :
    Calls Tryz.prog 32 #[valV K N T, valV K' N' T'] w fun e w' => e = .returned (.tuple #[.bool false, .int .i64 31]) ∧ Below w.heap.size w w' := by
  have HBo := Lib.hid (fun W => both_no K N K' N' T T' h hN hN' hT hT' W)
  have HBx := Lib.hid (boxesV2 w (.int .i64 K) (.int .i64 N) (.string ⟨T.toArray⟩) (.int .i64 K') (.int .i64 N') (.string ⟨T'.toArray⟩))
  clear h hN hN' hT hT'
  unfold valV at *
  go_enter Tryz.func32, Tryz.ntmps32
  go_wp2_with fail
  refine (HBo.out _).mono ?_
  rintro e w1 ⟨⟨b, o, n, c, b', o', n', c', rfl⟩, hb1⟩
  have H1 := Lib.hid (HBx.out.trans (hb1.mono HBx.out.size))
  have H2 := Lib.hid ((H1.out.alloc H1.out.size (.cells #[.bool b, .slice o n c] 52)).alloc (by have := H1.out.size; simp; omega) (.cells #[.bool b', .slice o' n' c'] 52))
  clear hb1
  go_wp2_with fail
  go_ret2
  exact ⟨rfl, H2.out⟩

set_option maxHeartbeats 2000000 in
theorem LessRef_ok {K N x K' N' y : Int} {T T' : List UInt8} (h : IsNum K N T x) (h' : IsNum K' N' T' y) (d : Bool) (hd : decide (x < y) = d) (w : World) :
    Calls Tryz.prog 32 #[valV K N T, valV K' N' T'] w fun e w' => e = .returned (.tuple #[.bool d, .int .i64 0]) ∧ Below w.heap.size w w' := by
  have HBo := Lib.hid (fun W => both_yes h h' W)
  have HBx := Lib.hid (boxesV2 w (.int .i64 K) (.int .i64 N) (.string ⟨T.toArray⟩) (.int .i64 K') (.int .i64 N') (.string ⟨T'.toArray⟩))
  have lx := num_len h
  have ly := num_len h'
  have HBl := Lib.hid (fun (W : World) (oa : Option Addr) (ca : Nat) (ob : Option Addr) (cb : Nat) (hx : RAt W oa ca x) (hy : RAt W ob cb y) => below_ref x y oa ob ca cb W hx hy (by omega) (by omega))
  rw [hd] at HBl
  clear h h' hd lx ly
  unfold valV at *
  go_enter Tryz.func32, Tryz.ntmps32
  go_wp2_with fail
  refine (HBo.out _).mono ?_
  rintro e w1 ⟨oa, ca, ob, cb, rfl, hr1, hr2, hb1⟩
  clear HBo
  unfold rnV at *
  generalize hdx : decide (x < 0) = bx at *
  generalize hdy : decide (y < 0) = by' at *
  generalize hlx : (Rf.tens x.natAbs).length = nx at *
  generalize hly : (Rf.tens y.natAbs).length = ny at *
  have HDX := Lib.hid hdx
  have HDY := Lib.hid hdy
  have HLX := Lib.hid hlx
  have HLY := Lib.hid hly
  clear hdx hdy hlx hly
  have H1 := HBx.out.trans (hb1.mono HBx.out.size)
  have HA2 := Lib.hid ((RB.new w1 (.bool bx) (.slice oa nx ca)).alloc (.cells #[.bool by', .slice ob ny cb] 52))
  have HB2 := Lib.hid (boxesR2 w1 (.bool bx) (.slice oa nx ca) (.bool by') (.slice ob ny cb)).2.1
  have hbb := (boxesR2 w1 (.bool bx) (.slice oa nx ca) (.bool by') (.slice ob ny cb)).2.2
  have HRx := Lib.hid (hr1.mono hbb)
  have HRy := Lib.hid (hr2.mono hbb)
  have H2 := Lib.hid (H1.trans (hbb.mono H1.size))
  have HSz := Lib.hid H1.size
  clear hb1 hbb hr1 hr2 H1 HBx
  have x0 := HA2.out.c0
  have x1 := HA2.out.c1
  have y0 := HB2.out.c0
  have y1 := HB2.out.c1
  go_wp2_with fail
  have hc := HBl.out _ oa ca ob cb HRx.out HRy.out
  (try unfold rnV at hc)
  refine hc.mono ?_
  rintro e w2 ⟨rfl, hb2⟩
  clear hc x0 x1 y0 y1
  have H3 := Lib.hid (H2.out.trans (hb2.mono H2.out.size))
  clear hb2
  go_wp2_with fail
  go_ret2
  exact ⟨rfl, H3.out⟩

set_option maxHeartbeats 1000000 in
theorem SubRef_no (K N K' N' : Int) (T T' : List UInt8) (w : World) (h : (∀ z, ¬ IsNum K N T z) ∨ ∀ z, ¬ IsNum K' N' T' z) (hN : In64Z N) (hN' : In64Z N') (hT : T.length ≤ 1000) (hT' : T'.length ≤ 1000) :
    Calls Tryz.prog 28 #[valV K N T, valV K' N' T'] w fun e w' => RetN 0 0 [] 31 w e w' := by
  have HBo := Lib.hid (fun W => both_no K N K' N' T T' h hN hN' hT hT' W)
  have HBx := Lib.hid (boxesA3 w (.int .i64 K) (.int .i64 N) (.string ⟨T.toArray⟩) (.int .i64 K') (.int .i64 N') (.string ⟨T'.toArray⟩))
  clear h hN hN' hT hT'
  unfold valV at *
  go_enter Tryz.func28, Tryz.ntmps28
  go_wp2_with fail
  refine (HBo.out _).mono ?_
  rintro e w1 ⟨⟨b, o, n, c, b', o', n', c', rfl⟩, hb1⟩
  have hV1 := HBx.out.1.below hb1 HBx.out.1.lt
  have H1 := HBx.out.2.trans (hb1.mono HBx.out.2.size)
  have hV := (hV1.alloc (.cells #[.bool b, .slice o n c] 52)).alloc (.cells #[.bool b', .slice o' n' c'] 52)
  have H2 := Lib.hid ((H1.alloc H1.size (.cells #[.bool b, .slice o n c] 52)).alloc (by have := H1.size; simp; omega) (.cells #[.bool b', .slice o' n' c'] 52))
  have v0 := hV.c0
  have v1 := hV.c1
  have v2 := hV.c2
  have f0 := hV.fz 0
  have f1 := hV.fz 1
  have f2 := hV.fz 2
  have HV := Lib.hid hV
  clear hb1 hV hV1 H1
  go_wp2_with fail
  exact ret_val_err rfl rfl rfl rfl (HV.out.put _ _ _) ⟨rfl, below_put3 H2.out (by omega) _ _ _⟩

set_option maxHeartbeats 2000000 in
theorem SubRef_ok {K N x K' N' y A B E z : Int} {T T' S : List UInt8} (h : IsNum K N T x) (h' : IsNum K' N' T' y) (ha : Ans A B S E z) (hz : x - y = z) (w : World) :
    Calls Tryz.prog 28 #[valV K N T, valV K' N' T'] w fun e w' => RetN A B S E w e w' := by
  have HBo := Lib.hid (fun W => both_yes h h' W)
  have HBx := Lib.hid (boxesA3 w (.int .i64 K) (.int .i64 N) (.string ⟨T.toArray⟩) (.int .i64 K') (.int .i64 N') (.string ⟨T'.toArray⟩))
  have lx := num_len h
  have ly := num_len h'
  have lz : (Rf.tens z.natAbs).length ≤ 100000 := by rw [← hz, Int.sub_eq_add_neg]; have := sum_len lx (show (Rf.tens (-y).natAbs).length ≤ 400 by rw [neg_len]; exact ly); omega
  obtain ⟨y', hy'⟩ : ∃ y', -y = y' := ⟨_, rfl⟩
  have ly' : (Rf.tens y'.natAbs).length ≤ 400 := by rw [← hy', neg_len]; exact ly
  have HNg := Lib.hid (fun (W : World) (ob : Option Addr) (cb : Nat) (hy : RAt W ob cb y) => negated_ref y ob cb W hy (by omega))
  rw [hy'] at HNg
  have HAd := Lib.hid (fun (W : World) (oa : Option Addr) (ca : Nat) (ob : Option Addr) (cb : Nat) (hx : RAt W oa ca x) (hy : RAt W ob cb y') => add_ref x y' oa ob ca cb W hx hy (by omega) (by omega))
  rw [show x + y' = z by rw [← hy', ← hz]; omega] at HAd
  have HVl := Lib.hid (fun (W : World) (o : Option Addr) (c : Nat) (h : RAt W o c z) => value_ans ha o c W h lz)
  clear h h' ha hz lx ly lz hy' ly'
  unfold valV at *
  go_enter Tryz.func28, Tryz.ntmps28
  go_wp2_with fail
  refine (HBo.out _).mono ?_
  rintro e w1 ⟨oa, ca, ob, cb, rfl, hr1, hr2, hb1⟩
  clear HBo
  unfold rnV at *
  generalize hdx : decide (x < 0) = bx at *
  generalize hdy : decide (y < 0) = by' at *
  generalize hlx : (Rf.tens x.natAbs).length = nx at *
  generalize hly : (Rf.tens y.natAbs).length = ny at *
  have HDX := Lib.hid hdx
  have HDY := Lib.hid hdy
  have HLX := Lib.hid hlx
  have HLY := Lib.hid hly
  clear hdx hdy hlx hly
  have H1 := HBx.out.2.trans (hb1.mono HBx.out.2.size)
  have HA2 := Lib.hid ((RB.new w1 (.bool bx) (.slice oa nx ca)).alloc (.cells #[.bool by', .slice ob ny cb] 52))
  have HB2 := Lib.hid (boxesR2 w1 (.bool bx) (.slice oa nx ca) (.bool by') (.slice ob ny cb)).2.1
  have hbb := (boxesR2 w1 (.bool bx) (.slice oa nx ca) (.bool by') (.slice ob ny cb)).2.2
  have HRx := Lib.hid (hr1.mono hbb)
  have HRy := Lib.hid (hr2.mono hbb)
  have H2 := Lib.hid (H1.trans (hbb.mono H1.size))
  have HSz := Lib.hid H1.size
  have hV1 := HBx.out.1.below hb1 HBx.out.1.lt
  have HV := Lib.hid ((hV1.alloc (.cells #[.bool bx, .slice oa nx ca] 52)).alloc (.cells #[.bool by', .slice ob ny cb] 52))
  have HLt := Lib.hid hV1.lt
  clear hb1 hbb hr1 hr2 H1 HBx hV1
  have x0 := HA2.out.c0
  have x1 := HA2.out.c1
  have y0 := HB2.out.c0
  have y1 := HB2.out.c1
  go_wp2_with fail
  have HS2 := Lib.hid (SR.mk (W := World.drew _) HA2.out.drew HB2.out.drew H2.out.drew)
  have HV2 := Lib.hid HV.out.drew
  have H2d := Lib.hid H2.out.drew
  clear x0 x1 y0 y1
  refine wp_region_held_drew (S := SR w.heap.size w1.heap.size (w1.heap.size + 1) w (.bool bx) (.slice oa nx ca) (.bool by') (.slice ob ny cb)) (by kernel_rfl) HS2.out (fun hS => ?_)
  refine wpAnyH_take (i := 0) (v := ?hlv1) rfl (by kernel_rfl) (by kernel_rfl) (by kernel_rfl) (fun _ _ _ h => h) (Or.inl ⟨by rfl, ?hly1⟩) (by assumption) ?hlr1
  case hly1 => (intro w hSw; (try unfold SR at hSw); (try dsimp only at hSw); go_simp; (try with_reducible rfl))
  (try simp only [Act.put, List.setIfInBounds_toArray, List.set_cons_zero, List.set_cons_succ])
  refine wpAnyH_take (i := 1) (v := ?hlv2) rfl (by kernel_rfl) (by kernel_rfl) (by kernel_rfl) (fun _ _ _ h => h) (Or.inl ⟨by rfl, ?hly2⟩) (by assumption) ?hlr2
  case hly2 => (intro w hSw; (try unfold SR at hSw); (try dsimp only at hSw); go_simp; (try with_reducible rfl))
  (try simp only [Act.put, List.setIfInBounds_toArray, List.set_cons_zero, List.set_cons_succ])
  refine wpAnyH_ready (rs := [2]) (by kernel_rfl) (by simp) ?_
  refine AllReadyH.one rfl ?_ AllReadyH.nil
  intro K hK
  go_simp
  have hc := HNg.out _ ob cb HRy.out.drew
  (try unfold rnV at hc)
  refine hc.mono ?_
  rintro e w2 ⟨o2, c2, rfl, hr, hb2⟩
  clear hc
  unfold rnV
  refine hK.out _ _ (SR.kept hS H2d.out.size hb2) (fun hS3 => ?_)
  clear hK K
  have HV3 := Lib.hid (HV2.out.below hb2 HV2.out.lt)
  have H3 := Lib.hid (H2d.out.trans (hb2.mono H2d.out.size))
  have HRx3 := Lib.hid (RAt.mono HRx.out.drew hb2)
  have HR3 := Lib.hid hr
  clear hb2 hr
  refine wpAnyH_ready (rs := [3]) (by kernel_rfl) (by simp) ?_
  refine AllReadyH.one rfl ?_ AllReadyH.nil
  intro K hK
  go_simp
  have hc := HAd.out _ oa ca o2 c2 HRx3.out HR3.out
  (try unfold rnV at hc)
  refine hc.mono ?_
  rintro e w4 ⟨o4, c4, rfl, hr, hb4⟩
  clear hc
  unfold rnV
  refine hK.out _ _ (SR.kept hS3 H3.out.size hb4) (fun hS4 => ?_)
  clear hK K
  have HV4 := Lib.hid (HV3.out.below hb4 HV3.out.lt)
  have H4 := Lib.hid (H3.out.trans (hb4.mono H3.out.size))
  have HR4 := Lib.hid hr
  clear hb4 hr
  refine wpAnyH_ready (rs := [4]) (by kernel_rfl) (by simp) ?_
  refine AllReadyH.one rfl ?_ AllReadyH.nil
  intro K hK
  go_simp
  have hc := HVl.out _ o4 c4 HR4.out
  (try unfold rnV at hc)
  refine hc.mono ?_
  rintro e wv ⟨rfl, hbv⟩
  clear hc
  unfold valV
  refine hK.out _ _ (SR.kept hS4 H4.out.size hbv) (fun hSv => ?_)
  clear hK K
  have HVv := Lib.hid (HV4.out.below hbv HV4.out.lt)
  have Hv := Lib.hid (H4.out.trans (hbv.mono H4.out.size))
  clear hbv
  refine wpAnyH_take (i := 5) (v := ?hlv3) rfl (by kernel_rfl) (by kernel_rfl) (by kernel_rfl) (fun _ _ _ h => h) (Or.inl ⟨by rfl, ?hly3⟩) (by assumption) ?hlr3
  case hly3 => (intro w hSw; (try unfold SR at hSw); (try dsimp only at hSw); go_simp; (try with_reducible rfl))
  (try simp only [Act.put, List.setIfInBounds_toArray, List.set_cons_zero, List.set_cons_succ])
  refine wpAnyH_take (i := 6) (v := ?hlv4) rfl (by kernel_rfl) (by kernel_rfl) (by kernel_rfl) (fun _ _ _ h => h) (Or.inl ⟨by rfl, ?hly4⟩) (by assumption) ?hlr4
  case hly4 => (intro w hSw; (try unfold SR at hSw); (try dsimp only at hSw); go_simp; (try with_reducible rfl))
  (try simp only [Act.put, List.setIfInBounds_toArray, List.set_cons_zero, List.set_cons_succ])
  have hV3 := HVv.out
  have v0 := hV3.c0
  have v1 := hV3.c1
  have v2 := hV3.c2
  have f0 := hV3.fz 0
  have f1 := hV3.fz 1
  have f2 := hV3.fz 2
  clear hV3
  refine wpAnyH_ready (rs := [7]) (by kernel_rfl) (by simp) ?_
  refine AllReadyH.one rfl ?_ AllReadyH.nil
  intro K hK
  go_simp
  refine hK.out _ _ (SR.put3 hSv (w.heap.size + 1 + 1) (by have := HLt.out; omega) (by have := HLt.out; omega) (by omega) _ _ _) (fun hSw => ?_)
  clear hK K
  refine wpAnyH_ready (rs := [8]) (by kernel_rfl) (by simp) ?_
  refine AllReadyH.one rfl ?_ AllReadyH.nil
  intro K hK
  go_simp
  refine hK.out _ _ hSw (fun hSw2 => ?_)
  clear hK K
  refine wpAnyH_done (by kernel_rfl) ?_ _
  (try simp only [Act.put, List.setIfInBounds_toArray, List.set_cons_zero, List.set_cons_succ])
  go_wp2_with fail
  exact ret_val_err rfl rfl rfl rfl (HVv.out.put _ _ _) ⟨rfl, below_put3 Hv.out (by omega) _ _ _⟩

theorem signed_mul (x y : Int) : x * y = if (decide (x < 0) != decide (y < 0)) then -((x.natAbs * y.natAbs : Nat) : Int) else ((x.natAbs * y.natAbs : Nat) : Int) := by
  by_cases h1 : x < 0 <;> by_cases h2 : y < 0
  · obtain ⟨a, ha⟩ : ∃ a : Nat, x = -(a : Int) := ⟨x.natAbs, by omega⟩
    obtain ⟨b, hb⟩ : ∃ b : Nat, y = -(b : Int) := ⟨y.natAbs, by omega⟩
    simp [h1, h2]; rw [ha, hb]; simp [Int.neg_mul_neg]
  · obtain ⟨a, ha⟩ : ∃ a : Nat, x = -(a : Int) := ⟨x.natAbs, by omega⟩
    obtain ⟨b, hb⟩ : ∃ b : Nat, y = (b : Int) := ⟨y.natAbs, by omega⟩
    simp [h1, h2]; rw [ha, hb]; simp [Int.neg_mul]
  · obtain ⟨a, ha⟩ : ∃ a : Nat, x = (a : Int) := ⟨x.natAbs, by omega⟩
    obtain ⟨b, hb⟩ : ∃ b : Nat, y = -(b : Int) := ⟨y.natAbs, by omega⟩
    simp [h1, h2]; rw [ha, hb]; simp [Int.mul_neg]
  · obtain ⟨a, ha⟩ : ∃ a : Nat, x = (a : Int) := ⟨x.natAbs, by omega⟩
    obtain ⟨b, hb⟩ : ∃ b : Nat, y = (b : Int) := ⟨y.natAbs, by omega⟩
    simp [h1, h2]; rw [ha, hb]; simp

set_option maxHeartbeats 1000000 in
theorem MulRef_no (K N K' N' : Int) (T T' : List UInt8) (w : World) (h : (∀ z, ¬ IsNum K N T z) ∨ ∀ z, ¬ IsNum K' N' T' z) (hN : In64Z N) (hN' : In64Z N') (hT : T.length ≤ 1000) (hT' : T'.length ≤ 1000) :
    Calls Tryz.prog 30 #[valV K N T, valV K' N' T'] w fun e w' => RetN 0 0 [] 31 w e w' := by
  have HBo := Lib.hid (fun W => both_no K N K' N' T T' h hN hN' hT hT' W)
  have HBx := Lib.hid (boxesA3 w (.int .i64 K) (.int .i64 N) (.string ⟨T.toArray⟩) (.int .i64 K') (.int .i64 N') (.string ⟨T'.toArray⟩))
  clear h hN hN' hT hT'
  unfold valV at *
  go_enter Tryz.func30, Tryz.ntmps30
  go_wp2_with fail
  refine (HBo.out _).mono ?_
  rintro e w1 ⟨⟨b, o, n, c, b', o', n', c', rfl⟩, hb1⟩
  have hV1 := HBx.out.1.below hb1 HBx.out.1.lt
  have H1 := HBx.out.2.trans (hb1.mono HBx.out.2.size)
  have hV := (hV1.alloc (.cells #[.bool b, .slice o n c] 52)).alloc (.cells #[.bool b', .slice o' n' c'] 52)
  have H2 := Lib.hid ((H1.alloc H1.size (.cells #[.bool b, .slice o n c] 52)).alloc (by have := H1.size; simp; omega) (.cells #[.bool b', .slice o' n' c'] 52))
  have v0 := hV.c0
  have v1 := hV.c1
  have v2 := hV.c2
  have f0 := hV.fz 0
  have f1 := hV.fz 1
  have f2 := hV.fz 2
  have HV := Lib.hid hV
  clear hb1 hV hV1 H1
  go_wp2_with fail
  exact ret_val_err rfl rfl rfl rfl (HV.out.put _ _ _) ⟨rfl, below_put3 H2.out (by omega) _ _ _⟩

set_option maxHeartbeats 2000000 in
theorem MulRef_ok {K N x K' N' y A B E z : Int} {T T' S : List UInt8} (h : IsNum K N T x) (h' : IsNum K' N' T' y) (ha : Ans A B S E z) (hz : x * y = z) (w : World) :
    Calls Tryz.prog 30 #[valV K N T, valV K' N' T'] w fun e w' => RetN A B S E w e w' := by
  have HBo := Lib.hid (fun W => both_yes h h' W)
  have HBx := Lib.hid (boxesA3 w (.int .i64 K) (.int .i64 N) (.string ⟨T.toArray⟩) (.int .i64 K') (.int .i64 N') (.string ⟨T'.toArray⟩))
  have lx := num_len h
  have ly := num_len h'
  have lz : (Rf.tens z.natAbs).length ≤ 800 := by rw [← hz, Int.natAbs_mul]; exact mul_len lx ly (by omega)
  obtain ⟨n, hn⟩ : ∃ n, x.natAbs * y.natAbs = n := ⟨_, rfl⟩
  have HTi := Lib.hid (fun (W : World) (oa : Option Addr) (ca : Nat) (ob : Option Addr) (cb : Nat) (hx : RAt W oa ca x) (hy : RAt W ob cb y) => times_ref (Rf.tens x.natAbs) (Rf.tens y.natAbs) oa ob ca cb n W hx.2 hy.2 (Rf.digs_tens _) (Rf.digs_tens _) (by omega) (by omega) (by rw [Rf.valT_tens, Rf.valT_tens, ← hn]; simp))
  have hzn : z.natAbs = n := by rw [← hz, ← hn, Int.natAbs_mul]
  obtain ⟨s, hs⟩ : ∃ s, (decide (x < 0) != decide (y < 0)) = s := ⟨_, rfl⟩
  have hzs : z = if s then -(n : Int) else (n : Int) := by
    rw [← hs, ← hz, ← hn]
    exact signed_mul x y
  have HSg := Lib.hid (fun (W : World) (o : Option Addr) (c : Nat) (h : IntAt W o (Rf.tens n)) (hc : (Rf.tens n).length ≤ c) => signed_ref s o c (Rf.tens n) n z W h hc (by rw [← hzn]; omega) (Rf.digs_tens _) (Rf.valT_tens _) hzs)
  have HVl := Lib.hid (fun (W : World) (o : Option Addr) (c : Nat) (h : RAt W o c z) => value_ans ha o c W h (by omega))
  have HSs := Lib.hid hs
  clear h h' ha hz lx ly lz hn hzn hzs hs
  unfold valV at *
  go_enter Tryz.func30, Tryz.ntmps30
  go_wp2_with fail
  refine (HBo.out _).mono ?_
  rintro e w1 ⟨oa, ca, ob, cb, rfl, hr1, hr2, hb1⟩
  clear HBo
  unfold rnV at *
  generalize hdx : decide (x < 0) = bx at *
  generalize hdy : decide (y < 0) = by' at *
  generalize hlx : (Rf.tens x.natAbs).length = nx at *
  generalize hly : (Rf.tens y.natAbs).length = ny at *
  have HDX := Lib.hid hdx
  have HDY := Lib.hid hdy
  have HLX := Lib.hid hlx
  have HLY := Lib.hid hly
  clear hdx hdy hlx hly
  have H1 := HBx.out.2.trans (hb1.mono HBx.out.2.size)
  have HA2 := Lib.hid ((RB.new w1 (.bool bx) (.slice oa nx ca)).alloc (.cells #[.bool by', .slice ob ny cb] 52))
  have HB2 := Lib.hid (boxesR2 w1 (.bool bx) (.slice oa nx ca) (.bool by') (.slice ob ny cb)).2.1
  have hbb := (boxesR2 w1 (.bool bx) (.slice oa nx ca) (.bool by') (.slice ob ny cb)).2.2
  have HRx := Lib.hid (hr1.mono hbb)
  have HRy := Lib.hid (hr2.mono hbb)
  have H2 := Lib.hid (H1.trans (hbb.mono H1.size))
  have HSz := Lib.hid H1.size
  have hV1 := HBx.out.1.below hb1 HBx.out.1.lt
  have HV := Lib.hid ((hV1.alloc (.cells #[.bool bx, .slice oa nx ca] 52)).alloc (.cells #[.bool by', .slice ob ny cb] 52))
  have HLt := Lib.hid hV1.lt
  clear hb1 hbb hr1 hr2 H1 HBx hV1
  have x0 := HA2.out.c0
  have x1 := HA2.out.c1
  have y0 := HB2.out.c0
  have y1 := HB2.out.c1
  go_wp2_with fail
  have hS : (bx != by') = s := HSs.out
  have HSb := Lib.hid hS
  clear hS
  have HS2 := Lib.hid (SR.mk (W := World.drew _) HA2.out.drew HB2.out.drew H2.out.drew)
  have HV2 := Lib.hid HV.out.drew
  have H2d := Lib.hid H2.out.drew
  clear x0 x1 y0 y1
  refine wp_region_held_drew (S := SR w.heap.size w1.heap.size (w1.heap.size + 1) w (.bool bx) (.slice oa nx ca) (.bool by') (.slice ob ny cb)) (by kernel_rfl) HS2.out (fun hS => ?_)
  refine wpAnyH_take (i := 0) (v := ?hlv1) rfl (by kernel_rfl) (by kernel_rfl) (by kernel_rfl) (fun _ _ _ h => h) (Or.inl ⟨by rfl, ?hly1⟩) (by assumption) ?hlr1
  case hly1 => (intro w hSw; (try unfold SR at hSw); (try dsimp only at hSw); go_simp; (try with_reducible rfl))
  (try simp only [Act.put, List.setIfInBounds_toArray, List.set_cons_zero, List.set_cons_succ])
  refine wpAnyH_take (i := 1) (v := ?hlv2) rfl (by kernel_rfl) (by kernel_rfl) (by kernel_rfl) (fun _ _ _ h => h) (Or.inl ⟨by rfl, ?hly2⟩) (by assumption) ?hlr2
  case hly2 => (intro w hSw; (try unfold SR at hSw); (try dsimp only at hSw); go_simp; (try with_reducible rfl))
  (try simp only [Act.put, List.setIfInBounds_toArray, List.set_cons_zero, List.set_cons_succ])
  refine wpAnyH_take (i := 2) (v := ?hlv3) rfl (by kernel_rfl) (by kernel_rfl) (by kernel_rfl) (fun _ _ _ h => h) (Or.inl ⟨by rfl, ?hly3⟩) (by assumption) ?hlr3
  case hly3 => (intro w hSw; (try unfold SR at hSw); (try dsimp only at hSw); go_simp; (try with_reducible rfl))
  (try simp only [Act.put, List.setIfInBounds_toArray, List.set_cons_zero, List.set_cons_succ])
  refine wpAnyH_take (i := 3) (v := ?hlv4) rfl (by kernel_rfl) (by kernel_rfl) (by kernel_rfl) (fun _ _ _ h => h) (Or.inl ⟨by rfl, ?hly4⟩) (by assumption) ?hlr4
  case hly4 => (intro w hSw; (try unfold SR at hSw); (try dsimp only at hSw); go_simp; (try with_reducible rfl))
  (try simp only [Act.put, List.setIfInBounds_toArray, List.set_cons_zero, List.set_cons_succ])
  refine wpAnyH_take (i := 4) (v := ?hlv5) rfl (by kernel_rfl) (by kernel_rfl) (by kernel_rfl) (fun _ _ _ h => h) (Or.inl ⟨by rfl, ?hly5⟩) (by assumption) ?hlr5
  case hly5 => (intro w hSw; (try unfold SR at hSw); (try dsimp only at hSw); go_simp; (try with_reducible rfl))
  (try simp only [Act.put, List.setIfInBounds_toArray, List.set_cons_zero, List.set_cons_succ])
  refine wpAnyH_take (i := 5) (v := ?hlv6) rfl (by kernel_rfl) (by kernel_rfl) (by kernel_rfl) (fun _ _ _ h => h) (Or.inl ⟨by rfl, ?hly6⟩) (by assumption) ?hlr6
  case hly6 => (intro w hSw; (try unfold SR at hSw); (try dsimp only at hSw); go_simp; (try with_reducible rfl))
  (try simp only [Act.put, List.setIfInBounds_toArray, List.set_cons_zero, List.set_cons_succ])
  refine wpAnyH_take (i := 6) (v := ?hlv7) rfl (by kernel_rfl) (by kernel_rfl) (by kernel_rfl) (fun _ _ _ h => h) (Or.inl ⟨by rfl, ?hly7⟩) (by assumption) ?hlr7
  case hly7 => (intro w hSw; (try unfold SR at hSw); (try dsimp only at hSw); go_simp; (try with_reducible rfl))
  (try simp only [Act.put, List.setIfInBounds_toArray, List.set_cons_zero, List.set_cons_succ])
  refine wpAnyH_take (i := 7) (v := ?hlv8) rfl (by kernel_rfl) (by kernel_rfl) (by kernel_rfl) (fun _ _ _ h => h) (Or.inl ⟨by rfl, ?hly8⟩) (by assumption) ?hlr8
  case hly8 => (intro w hSw; (try unfold SR at hSw); (try dsimp only at hSw); go_simp; (try with_reducible rfl))
  (try simp only [Act.put, List.setIfInBounds_toArray, List.set_cons_zero, List.set_cons_succ])
  refine wpAnyH_take (i := 8) (v := ?hlv9) rfl (by kernel_rfl) (by kernel_rfl) (by kernel_rfl) (fun _ _ _ h => h) (Or.inl ⟨by rfl, ?hly9⟩) (by assumption) ?hlr9
  case hly9 => (intro w hSw; (try unfold SR at hSw); (try dsimp only at hSw); go_simp; (try with_reducible rfl))
  (try simp only [Act.put, List.setIfInBounds_toArray, List.set_cons_zero, List.set_cons_succ])
  refine wpAnyH_ready (rs := [9]) (by kernel_rfl) (by simp) ?_
  refine AllReadyH.one rfl ?_ AllReadyH.nil
  intro K hK
  go_simp
  have hc := HTi.out _ oa ca ob cb HRx.out.drew HRy.out.drew
  refine hc.mono ?_
  rintro e w2 ⟨o2, c2, rfl, hc2, hi2, hb2⟩
  clear hc
  refine hK.out _ _ (SR.kept hS H2d.out.size hb2) (fun hS3 => ?_)
  clear hK K
  have HV3 := Lib.hid (HV2.out.below hb2 HV2.out.lt)
  have H3 := Lib.hid (H2d.out.trans (hb2.mono H2d.out.size))
  have HSg3 := Lib.hid (HSg.out _ o2 c2 hi2 hc2)
  clear hb2 hi2 hc2
  refine wpAnyH_ready (rs := [10]) (by kernel_rfl) (by simp) ?_
  refine AllReadyH.one rfl ?_ AllReadyH.nil
  intro K hK
  go_simp
  have hc := HSg3.out
  rw [← HSb.out] at hc
  refine hc.mono ?_
  rintro e w4 ⟨o4, c4, rfl, hr, hb4⟩
  clear hc
  unfold rnV
  refine hK.out _ _ (SR.kept hS3 H3.out.size hb4) (fun hS4 => ?_)
  clear hK K
  have HV4 := Lib.hid (HV3.out.below hb4 HV3.out.lt)
  have H4 := Lib.hid (H3.out.trans (hb4.mono H3.out.size))
  have HR4 := Lib.hid hr
  clear hb4 hr
  refine wpAnyH_ready (rs := [11]) (by kernel_rfl) (by simp) ?_
  refine AllReadyH.one rfl ?_ AllReadyH.nil
  intro K hK
  go_simp
  have hc := HVl.out _ o4 c4 HR4.out
  (try unfold rnV at hc)
  refine hc.mono ?_
  rintro e wv ⟨rfl, hbv⟩
  clear hc
  unfold valV
  refine hK.out _ _ (SR.kept hS4 H4.out.size hbv) (fun hSv => ?_)
  clear hK K
  have HVv := Lib.hid (HV4.out.below hbv HV4.out.lt)
  have Hv := Lib.hid (H4.out.trans (hbv.mono H4.out.size))
  clear hbv
  refine wpAnyH_take (i := 12) (v := ?hlv10) rfl (by kernel_rfl) (by kernel_rfl) (by kernel_rfl) (fun _ _ _ h => h) (Or.inl ⟨by rfl, ?hly10⟩) (by assumption) ?hlr10
  case hly10 => (intro w hSw; (try unfold SR at hSw); (try dsimp only at hSw); go_simp; (try with_reducible rfl))
  (try simp only [Act.put, List.setIfInBounds_toArray, List.set_cons_zero, List.set_cons_succ])
  refine wpAnyH_take (i := 13) (v := ?hlv11) rfl (by kernel_rfl) (by kernel_rfl) (by kernel_rfl) (fun _ _ _ h => h) (Or.inl ⟨by rfl, ?hly11⟩) (by assumption) ?hlr11
  case hly11 => (intro w hSw; (try unfold SR at hSw); (try dsimp only at hSw); go_simp; (try with_reducible rfl))
  (try simp only [Act.put, List.setIfInBounds_toArray, List.set_cons_zero, List.set_cons_succ])
  have hV3 := HVv.out
  have v0 := hV3.c0
  have v1 := hV3.c1
  have v2 := hV3.c2
  have f0 := hV3.fz 0
  have f1 := hV3.fz 1
  have f2 := hV3.fz 2
  clear hV3
  refine wpAnyH_ready (rs := [14]) (by kernel_rfl) (by simp) ?_
  refine AllReadyH.one rfl ?_ AllReadyH.nil
  intro K hK
  go_simp
  refine hK.out _ _ (SR.put3 hSv (w.heap.size + 1 + 1) (by have := HLt.out; omega) (by have := HLt.out; omega) (by omega) _ _ _) (fun hSw => ?_)
  clear hK K
  refine wpAnyH_ready (rs := [15]) (by kernel_rfl) (by simp) ?_
  refine AllReadyH.one rfl ?_ AllReadyH.nil
  intro K hK
  go_simp
  refine hK.out _ _ hSw (fun hSw2 => ?_)
  clear hK K
  refine wpAnyH_done (by kernel_rfl) ?_ _
  (try simp only [Act.put, List.setIfInBounds_toArray, List.set_cons_zero, List.set_cons_succ])
  go_wp2_with fail
  exact ret_val_err rfl rfl rfl rfl (HVv.out.put _ _ _) ⟨rfl, below_put3 Hv.out (by omega) _ _ _⟩
end Go.Proofs.YthbfbpbppjkoeaaGreatDoor
