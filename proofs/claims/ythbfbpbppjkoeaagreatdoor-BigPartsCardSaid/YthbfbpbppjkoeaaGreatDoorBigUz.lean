/- Contracts, joined of several texts: Ua, Ub, Uc, Ud, Ue, Uf. Conditions: those in the statements. -/
import Derived.Test.YthbfbpbppjkoeaaGreatDoorBigTz
/- Contracts of shifted, divide and of minus once more (where its answer lies) of package proteusref03. Conditions: those in the statements. -/
namespace Go.Proofs.YthbfbpbppjkoeaaGreatDoor
open Go.RowKit Go.Shelf
set_option maxRecDepth 100000
set_option linter.unusedVariables false
set_option linter.unusedSimpArgs false

theorem wpList_append_any {P : Program} (w : World) {ops : Array Oper} {rest : List Oper} {o : Oper} {a : Act} {Q : Exit → Act → World → Prop}
    (hg : o.guard = none) (s x : Operand) (t u : TypeId) (hop : o.op = Op.call { callee := Callee.builtin Builtin.append, args := #[s, x], argTypes := #[t, u] })
    (base : Nat) (e e' : TypeId) (i : TypeInfo) (z : Value) (size bytes : Nat) (h1 : P.underlying t = some (.slice e)) (h1' : P.underlying u = some (.slice e')) (h2 : P.info? e = some i) (h3 : i.zero = some z) (h4 : i.size = size) (h5 : i.bytes = bytes) (h6 : z.cells.size = size) (h7 : 0 < size)
    (g cap k : Nat) (xs : List Value) (hs : a.eval s = .slice (some ⟨g, 0, none⟩) k cap) (hown : w.ownsRow base e size (.slice (some ⟨g, 0, none⟩) k cap) k xs) (ao : Option Addr) (m c : Nat) (hx : a.eval x = .slice ao m c) (news : List Value) (hn : Cells w ao m size news)
    (h1c : ∀ u ∈ news, u.oneCell' = true) (b1 : k + m ≤ maxLen) (b2 : (k + m) * bytes ≤ 140737488355328) (b3 : base ≤ w.heap.size)
    (hK : ∀ v' w', w'.ownsRow base e size v' (k + m) (xs ++ news) → w.grownBy w' (some g) → wpList P ops Q rest (a.put o.dst v') w') :
    wpList P ops Q (o :: rest) a w := by
  refine wpList_plain hg fun K hK' => ?_
  obtain ⟨v', w', hrun, r1, r2⟩ := run_append_any (P := P) w base t u o.type e e' i z size bytes h1 h1' h2 h3 h4 h5 h6 h7 g cap k xs hown ao m c news hn h1c b1 b2 b3
  unfold Oper.wp execOp
  simp only [hop, resolve, invoke, builtin, Sem.run_bind, Sem.run_pure, Result.andThen_ok, List.map_toArray, List.map_cons, List.map_nil, hs, hx, hrun]
  exact hK' _ _ (hK v' w' r1 r2)
/-- The digits of a number, in a new block. -/
def RetTN (n : Nat) (w : World) (e : Ending) (w' : World) : Prop := ∃ o c, e = .returned (.slice o (Rf.tens n).length c) ∧ (Rf.tens n).length ≤ c ∧ IntAt w' o (Rf.tens n) ∧ Below w.heap.size w w' ∧ New w o
theorem RetTN.retT {n : Nat} {w w' : World} {e : Ending} (h : RetTN n w e w') : RetT n w e w' := by
  obtain ⟨o, c, h1, h2, h3, h4, _⟩ := h
  exact ⟨o, c, h1, h2, h3, h4⟩
theorem retTN_cut {w w' : World} {o : Option Addr} {l : List Int} {c n : Nat} (h : IntAt w' o l) (hc : l.length ≤ c) (hd : Rf.Digs l) (hn : Rf.valT l = n) (hb : Below w.heap.size w w') (hw : New w o) : RetTN n w (.returned (.slice o (Rf.cut l l.length) c)) w' := by
  obtain ⟨e1, e2⟩ := cut_len hd hn
  exact ⟨o, c, by rw [e2], by rw [← e2]; exact Nat.le_trans (Rf.cut_le _ _) hc, by rw [← e1]; exact h.take _, hb, hw⟩
theorem row_forms2 {w : World} {base e k : Nat} {v : Value} {cols : List Int} (hck : cols.length = k) (h : w.ownsRow base e 1 v k (cols.map (Value.int .i64))) : ∃ o c, v = .slice o cols.length c ∧ cols.length ≤ c ∧ IntAt w o cols ∧ ∀ b, o = some ⟨b, 0, none⟩ → base ≤ b := by
  have hrow := h
  rcases h.2 with ⟨rfl, h0⟩ | ⟨g, c, cur, rfl, hbg, _, hle, _⟩
  · subst h0; exact ⟨none, 0, by rw [hck], by omega, intAt_owns hrow, fun b e => by cases e⟩
  · exact ⟨some ⟨g, 0, none⟩, c, by rw [hck], by omega, intAt_owns hrow, fun b e => by injection e with e; injection e with e; omega⟩

set_option maxHeartbeats 200000 in
theorem minus_new (la lb : List Int) (o o' : Option Addr) (c c' n : Nat) (w : World) (ha : IntAt w o la) (hb : IntAt w o' lb) (da : Rf.Digs la) (db : Rf.Digs lb) (hla : la.length ≤ 2000) (hlb : lb.length ≤ 2000) (hn : Rf.valT la - Rf.valT lb = n) :
    Calls Tryz.prog 74 #[.slice o la.length c, .slice o' lb.length c'] w (RetTN n w) := by
  obtain ⟨i0, hi, hz0, hz1, hz2⟩ := info_parts info_int
  have HA := Lib.hid ha
  have HB := Lib.hid hb
  have HDa := Lib.hid da
  have HDb := Lib.hid db
  have HN := Lib.hid hn
  clear ha hb da db hn
  go_enter Tryz.func74, Tryz.ntmps74
  go_wp2_with fail
  go_loopg [5, 6, 7, 8] la.length (fun g v bv iv xv wr => ∃ (k : Nat) (br : Int) (cols : List Int), cols.length = k ∧ k ≤ la.length ∧ 0 ≤ br ∧ br ≤ 1 ∧ iv = .int .i64 k ∧ bv = .int .i64 br ∧ Hid (Rf.valT cols + 10 ^ k * (Rf.valT (la.drop k) - Rf.valT (lb.drop k) - br) = n) ∧ Hid (Rf.Digs cols) ∧ Hid (wr.ownsRow w.heap.size 3 1 v k (cols.map (Value.int .i64))) ∧ Hid (Below w.heap.size w wr) ∧ g = la.length - k)
  case atStart => exact ⟨0, 0, [], rfl, by omega, by omega, by omega, rfl, rfl, Lib.hid (by have := HN.out; simp [Rf.valT]; omega), Lib.hid (fun x hx => by cases hx), Lib.hid (World.ownsRow_nil _ _ _ _), Lib.hid (Below.refl _ _), rfl⟩
  case round =>
    obtain ⟨k, br, cols, hck, hkc, hbr0, hbr, rfl, rfl, HV, HD, HR, HW, hg⟩ := hrel
    have hwz := HW.out.size
    have hIa := HA.out.mono HW.out
    have hIb := HB.out.mono HW.out
    have HCk := Lib.hid hck
    clear hck
    by_cases hka : k < la.length
    · have dA : decide ((k : Int) < (la.length : Int)) = true := decide_eq_true (by omega)
      have dAn : decide (k < la.length) = true := decide_eq_true (by omega)
      have hs1 : k + 1 ≤ maxLen := by show _ ≤ 9223372036854775807; omega
      have hs2 : (k + 1) * 8 ≤ 140737488355328 := by omega
      have hs3 : w.heap.size ≤ wr.heap.size + 1 := by omega
      have hki : (0 : Int) ≤ (k : Int) := Int.natCast_nonneg _
      have hkj : (k : Int) ≤ 2000 := by omega
      obtain ⟨ba, hoa, hba, hca⟩ := hIa.get hka
      have hda := HDa.out la[k] (List.getElem_mem hka)
      have hva := Rf.valT_drop la k hka
      generalize la[k] = xa at *
      obtain ⟨hda0, hda1⟩ := hda
      obtain ⟨y1, s1⟩ : ∃ y : Int, xa - br = y := ⟨_, rfl⟩
      have hy0 : -1 ≤ y1 := by omega
      have hy1 : y1 ≤ 9 := by omega
      by_cases hkb : k < lb.length
      · have dB : decide ((k : Int) < (lb.length : Int)) = true := decide_eq_true (by omega)
        have dBn : decide (k < lb.length) = true := decide_eq_true (by omega)
        obtain ⟨bb, hob, hbb, hcb⟩ := hIb.get hkb
        have hdb := HDb.out lb[k] (List.getElem_mem hkb)
        have hvb := Rf.valT_drop lb k hkb
        generalize lb[k] = xb at *
        obtain ⟨hdb0, hdb1⟩ := hdb
        by_cases hng : y1 - xb < 0
        · skip
          obtain ⟨x0, s2⟩ : ∃ x : Int, y1 - xb = x := ⟨_, rfl⟩
          obtain ⟨dg, s3⟩ : ∃ d : Int, x0 + 10 = d := ⟨_, rfl⟩
          have dN : decide (x0 < 0) = true := decide_eq_true (by omega)
          have hxl : -10 ≤ x0 := by omega
          have hxh : x0 ≤ 9 := by omega
          have hg0 : 0 ≤ dg := by omega
          have hg9 : dg < 10 := by omega
          have hnum : Rf.valT (la.drop k) - Rf.valT (lb.drop k) - br = dg + 10 * (Rf.valT (la.drop (k + 1)) - Rf.valT (lb.drop (k + 1)) - 1) := by omega
          have HV2 := Lib.hid (minus_num cols k n dg 1 _ _ _ _ br HCk.out HV.out hnum)
          have HD2 := Lib.hid (Rf.digs_snoc HD.out hg0 hg9)
          clear hnum hva hvb hIa hIb
          subst hoa
          subst hob
          go_wp2_with (at_builtin; refine wpList_append_own _ rfl _ _ 50 rfl w.heap.size 3 i0 (.int .i64 0) 1 8 Tryz.underlying50 hi hz0 hz1 hz2 rfl (by decide) _ k _ rfl (HR.out.alloc _) ⟨wr.heap.size, 0, none⟩ 1 1 [.int .i64 dg] rfl rfl (cell_one_new _ _ _) (by simp [Value.oneCell']) hs1 hs2 (by rw [World.size_alloc]; exact hs3) ?_; intro v' w2 hown' hgrow hnil; have HOw := Lib.hid hown'; have HGw := Lib.hid hgrow; clear hown' hgrow hnil)
          have HB2 : Hid (Below w.heap.size w w2) := Lib.hid ((HW.out.alloc hwz _).grown HGw.out (by rw [World.size_alloc]; exact hs3) (fun b e => (HR.out.lt b e).1))
          have HR2 : Hid (w2.ownsRow w.heap.size 3 1 v' (k + 1) ((cols ++ [dg]).map (Value.int .i64))) := Lib.hid (by rw [List.map_append]; exact HOw.out)
          clear s1 s2 s3
          go_roundg (la.length - (k + 1))
          case rel => exact ⟨k + 1, 1, cols ++ [dg], by simp [HCk.out], hka, by decide, by decide, by simp, rfl, HV2, HD2, HR2, HB2, rfl⟩
          case measure => omega
        · skip
          obtain ⟨dg, s2⟩ : ∃ d : Int, y1 - xb = d := ⟨_, rfl⟩
          have dN : decide (dg < 0) = false := decide_eq_false (by omega)
          have hg0 : 0 ≤ dg := by omega
          have hg9 : dg < 10 := by omega
          have hnum : Rf.valT (la.drop k) - Rf.valT (lb.drop k) - br = dg + 10 * (Rf.valT (la.drop (k + 1)) - Rf.valT (lb.drop (k + 1)) - 0) := by omega
          have HV2 := Lib.hid (minus_num cols k n dg 0 _ _ _ _ br HCk.out HV.out hnum)
          have HD2 := Lib.hid (Rf.digs_snoc HD.out hg0 hg9)
          clear hnum hva hvb hIa hIb
          subst hoa
          subst hob
          go_wp2_with (at_builtin; refine wpList_append_own _ rfl _ _ 50 rfl w.heap.size 3 i0 (.int .i64 0) 1 8 Tryz.underlying50 hi hz0 hz1 hz2 rfl (by decide) _ k _ rfl (HR.out.alloc _) ⟨wr.heap.size, 0, none⟩ 1 1 [.int .i64 dg] rfl rfl (cell_one_new _ _ _) (by simp [Value.oneCell']) hs1 hs2 (by rw [World.size_alloc]; exact hs3) ?_; intro v' w2 hown' hgrow hnil; have HOw := Lib.hid hown'; have HGw := Lib.hid hgrow; clear hown' hgrow hnil)
          have HB2 : Hid (Below w.heap.size w w2) := Lib.hid ((HW.out.alloc hwz _).grown HGw.out (by rw [World.size_alloc]; exact hs3) (fun b e => (HR.out.lt b e).1))
          have HR2 : Hid (w2.ownsRow w.heap.size 3 1 v' (k + 1) ((cols ++ [dg]).map (Value.int .i64))) := Lib.hid (by rw [List.map_append]; exact HOw.out)
          clear s1 s2
          go_roundg (la.length - (k + 1))
          case rel => exact ⟨k + 1, 0, cols ++ [dg], by simp [HCk.out], hka, by decide, by decide, by simp, rfl, HV2, HD2, HR2, HB2, rfl⟩
          case measure => omega
      · have dB : decide ((k : Int) < (lb.length : Int)) = false := decide_eq_false (by omega)
        have dBn : decide (k < lb.length) = false := decide_eq_false (by omega)
        have hvb := Rf.valT_over lb k (by omega)
        have hvb2 := Rf.valT_over lb (k + 1) (by omega)
        by_cases hng : y1 < 0
        · skip
          obtain ⟨x0, s2⟩ : ∃ x : Int, y1 = x := ⟨_, rfl⟩
          subst s2
          obtain ⟨dg, s3⟩ : ∃ d : Int, y1 + 10 = d := ⟨_, rfl⟩
          have dN : decide (y1 < 0) = true := decide_eq_true (by omega)
          have hxl : -10 ≤ y1 := by omega
          have hxh : y1 ≤ 9 := by omega
          have hg0 : 0 ≤ dg := by omega
          have hg9 : dg < 10 := by omega
          have hnum : Rf.valT (la.drop k) - Rf.valT (lb.drop k) - br = dg + 10 * (Rf.valT (la.drop (k + 1)) - Rf.valT (lb.drop (k + 1)) - 1) := by omega
          have HV2 := Lib.hid (minus_num cols k n dg 1 _ _ _ _ br HCk.out HV.out hnum)
          have HD2 := Lib.hid (Rf.digs_snoc HD.out hg0 hg9)
          clear hnum hva hvb hIa hIb hvb2
          subst hoa
          go_wp2_with (at_builtin; refine wpList_append_own _ rfl _ _ 50 rfl w.heap.size 3 i0 (.int .i64 0) 1 8 Tryz.underlying50 hi hz0 hz1 hz2 rfl (by decide) _ k _ rfl (HR.out.alloc _) ⟨wr.heap.size, 0, none⟩ 1 1 [.int .i64 dg] rfl rfl (cell_one_new _ _ _) (by simp [Value.oneCell']) hs1 hs2 (by rw [World.size_alloc]; exact hs3) ?_; intro v' w2 hown' hgrow hnil; have HOw := Lib.hid hown'; have HGw := Lib.hid hgrow; clear hown' hgrow hnil)
          have HB2 : Hid (Below w.heap.size w w2) := Lib.hid ((HW.out.alloc hwz _).grown HGw.out (by rw [World.size_alloc]; exact hs3) (fun b e => (HR.out.lt b e).1))
          have HR2 : Hid (w2.ownsRow w.heap.size 3 1 v' (k + 1) ((cols ++ [dg]).map (Value.int .i64))) := Lib.hid (by rw [List.map_append]; exact HOw.out)
          clear s1 s3
          go_roundg (la.length - (k + 1))
          case rel => exact ⟨k + 1, 1, cols ++ [dg], by simp [HCk.out], hka, by decide, by decide, by simp, rfl, HV2, HD2, HR2, HB2, rfl⟩
          case measure => omega
        · skip
          obtain ⟨dg, rfl⟩ : ∃ d : Int, d = y1 := ⟨_, rfl⟩
          have dN : decide (dg < 0) = false := decide_eq_false (by omega)
          have hg0 : 0 ≤ dg := by omega
          have hg9 : dg < 10 := by omega
          have hnum : Rf.valT (la.drop k) - Rf.valT (lb.drop k) - br = dg + 10 * (Rf.valT (la.drop (k + 1)) - Rf.valT (lb.drop (k + 1)) - 0) := by omega
          have HV2 := Lib.hid (minus_num cols k n dg 0 _ _ _ _ br HCk.out HV.out hnum)
          have HD2 := Lib.hid (Rf.digs_snoc HD.out hg0 hg9)
          clear hnum hva hvb hIa hIb hvb2
          subst hoa
          go_wp2_with (at_builtin; refine wpList_append_own _ rfl _ _ 50 rfl w.heap.size 3 i0 (.int .i64 0) 1 8 Tryz.underlying50 hi hz0 hz1 hz2 rfl (by decide) _ k _ rfl (HR.out.alloc _) ⟨wr.heap.size, 0, none⟩ 1 1 [.int .i64 dg] rfl rfl (cell_one_new _ _ _) (by simp [Value.oneCell']) hs1 hs2 (by rw [World.size_alloc]; exact hs3) ?_; intro v' w2 hown' hgrow hnil; have HOw := Lib.hid hown'; have HGw := Lib.hid hgrow; clear hown' hgrow hnil)
          have HB2 : Hid (Below w.heap.size w w2) := Lib.hid ((HW.out.alloc hwz _).grown HGw.out (by rw [World.size_alloc]; exact hs3) (fun b e => (HR.out.lt b e).1))
          have HR2 : Hid (w2.ownsRow w.heap.size 3 1 v' (k + 1) ((cols ++ [dg]).map (Value.int .i64))) := Lib.hid (by rw [List.map_append]; exact HOw.out)
          clear s1
          go_roundg (la.length - (k + 1))
          case rel => exact ⟨k + 1, 0, cols ++ [dg], by simp [HCk.out], hka, by decide, by decide, by simp, rfl, HV2, HD2, HR2, HB2, rfl⟩
          case measure => omega
    · have hkl : k = la.length := by omega
      have dA : decide ((k : Int) < (la.length : Int)) = false := decide_eq_false (by omega)
      have dAn : decide (k < la.length) = false := decide_eq_false (by omega)
      have hval : Rf.valT cols = (n : Int) := by
        have h := HV.out
        rw [Rf.valT_over la k (by omega)] at h
        exact minus_end cols k n _ br HCk.out HD.out (Rf.valT_nonneg (fun x hx => HDb.out x (List.mem_of_mem_drop hx))) hbr0 h
      obtain ⟨oo, cc, rfl, hle, hint, hnew⟩ := row_forms2 HCk.out HR.out
      have HNew := Lib.hid hnew
      clear hnew
      have HT := Lib.hid (trimmed_c oo cc cols wr hint hle (by rw [HCk.out]; omega))
      have HI := Lib.hid hint
      have HVal := Lib.hid hval
      have HLe := Lib.hid hle
      clear hint hval hIa hIb hkl hle
      go_wp2_with fail
      refine HT.out.mono ?_
      rintro e w3 ⟨rfl, rfl⟩
      go_wp2_with fail
      (try go_ret)
      exact retTN_cut HI.out HLe.out HD.out HVal.out HW.out HNew.out

set_option maxHeartbeats 400000 in
theorem shifted_new (n m : Nat) (x : Int) (o : Option Addr) (c : Nat) (w : World) (h : IntAt w o (Rf.tens n)) (hl : (Rf.tens n).length ≤ 90000) (h0 : 0 ≤ x) (h9 : x < 10) (hm : x + 10 * (n : Int) = m) :
    Calls Tryz.prog 71 #[.slice o (Rf.tens n).length c, .int .i64 x] w (RetTN m w) := by
  obtain ⟨i0, hi, hz0, hz1, hz2⟩ := info_parts info_int
  obtain ⟨cols, hcols⟩ : ∃ cols, x :: Rf.tens n = cols := ⟨_, rfl⟩
  have hd : Rf.Digs cols := by
    rw [← hcols]
    intro y hy
    rcases List.mem_cons.1 hy with rfl | hy
    · exact ⟨h0, h9⟩
    · exact Rf.tens_mem hy
  have hv : Rf.valT cols = (m : Int) := by rw [← hcols, Rf.valT, Rf.valT_tens]; exact hm
  have hcl : cols.length = 1 + (Rf.tens n).length := by rw [← hcols, List.length_cons]; omega
  have hnews : [Value.int .i64 x] ++ (Rf.tens n).map (Value.int .i64) = cols.map (Value.int .i64) := by rw [← hcols]; rfl
  have HNews := Lib.hid hnews
  have HCl := Lib.hid hcl
  have HD := Lib.hid hd
  have HV := Lib.hid hv
  have HCe := Lib.hid (cells_of_intAt (h.mono ((Below.refl w.heap.size w).alloc (Nat.le_refl _) (.cells #[.int .i64 x] 3))))
  have HLit := Lib.hid (World.ownsRow_lit (e := 3) (size := 1) (base := w.heap.size) w #[.int .i64 x] 1 (Nat.le_refl _) (by decide) rfl)
  clear hcols hd hv hcl hnews hm h
  generalize Rf.tens n = l at *
  go_enter Tryz.func71, Tryz.ntmps71
  go_wp2_with (at_builtin; refine wpList_append_any _ rfl _ _ 50 50 rfl w.heap.size 3 3 i0 (.int .i64 0) 1 8 Tryz.underlying50 Tryz.underlying50 hi hz0 hz1 hz2 rfl (by decide) w.heap.size 1 1 [.int .i64 x] rfl HLit.out o l.length c rfl (l.map (Value.int .i64)) HCe.out (by simp [Value.oneCell']) (by unfold maxLen; omega) (by omega) (by simp) ?_; intro v' w3 hown' hgrow'; rw [HNews.out] at hown'; obtain ⟨oo, cc, rfl, hle, hint, hnew⟩ := row_forms2 HCl.out hown'; have HGw := Lib.hid hgrow'; have HI := Lib.hid hint; have HLe := Lib.hid hle; have HNw := Lib.hid hnew; clear hown' hgrow' hle hint hnew)
  have hW3 : Below w.heap.size w w3 := ((Below.refl _ w).alloc (Nat.le_refl _) _).grown HGw.out (by simp) (fun k e => by cases e; exact Nat.le_refl _)
  have HW3 := Lib.hid hW3
  have HT := Lib.hid (trimmed_c oo cc cols w3 HI.out HLe.out (by rw [HCl.out]; omega))
  clear hW3
  refine HT.out.mono ?_
  rintro e w4 ⟨rfl, rfl⟩
  go_wp2_with fail
  go_ret
  exact retTN_cut HI.out HLe.out HD.out HV.out HW3.out HNw.out
end Go.Proofs.YthbfbpbppjkoeaaGreatDoor
/- Contract of divide of package proteusref03. Conditions: those in the statements. -/
namespace Go.Proofs.YthbfbpbppjkoeaaGreatDoor
open Go.RowKit Go.Shelf
set_option maxRecDepth 100000
set_option linter.unusedVariables false
set_option linter.unusedSimpArgs false

theorem IntAt.set1 {W : World} {o : Option Addr} {l : List Int} (h : IntAt W o l) (B i : Nat) (hB : ∀ b, o = some ⟨b, 0, none⟩ → b ≠ B) (y : Value) : IntAt (W.setCell ⟨B, i, none⟩ y) o l := by
  intro k n hn
  obtain ⟨b, e, hb, hc⟩ := h k n hn
  refine ⟨b, e, by simpa [World.setCell] using hb, ?_⟩
  rw [World.cell?_setCell_far _ _ _ _ (by have := hB b e; simp; omega)]
  exact hc
/-- The division behind some rounds: the quotient's cells from k on are reckoned, those below lo are 0. -/
structure DV (m base B : Nat) (la : List Int) (k lo R0 R : Nat) (o2 : Option Addr) (c2 : Nat) (w wr : World) (cols : List Int) : Prop where
  len : cols.length = m
  row : wr.ownsRow base 3 1 (.slice (some ⟨base, 0, none⟩) m m) m (cols.map (Value.int .i64))
  dig : Rf.Digs cols
  low : ∀ (t : Nat) x, cols[t]? = some x → t < lo → x = 0
  hi : Rf.valT (la.drop k) = Rf.valT (cols.drop k) * (B : Int) + (R0 : Int)
  rest : IntAt wr o2 (Rf.tens R)
  cap : (Rf.tens R).length ≤ c2
  new : ∀ b, o2 = some ⟨b, 0, none⟩ → base < b
  below : Below base w wr
theorem div_digit {t B R S : Nat} (hS : S < 10 * B) (h : t * B + R = S) (hR : B ≤ R) : t + 1 ≤ 9 := by
  by_cases h9 : t + 1 ≤ 9
  · exact h9
  · exfalso
    have : 9 * B ≤ t * B := Nat.mul_le_mul_right B (by omega)
    omega
theorem div_up {t B R S : Nat} (h : t * B + R = S) (hR : B ≤ R) : (t + 1) * B + (R - B) = S := by rw [Nat.add_mul]; omega
theorem div_hi {V t : Int} {B R0 R S a : Int} (h1 : t * B + R = S) (h2 : S = a + 10 * R0) {L : Int} (h3 : L = V * B + R0) : a + 10 * L = (t + 10 * V) * B + R := by
  rw [h3, Int.add_mul, Int.mul_add, Int.mul_assoc]; omega
theorem div_end {A B R : Nat} {V : Int} (hV : 0 ≤ V) (hR : R < B) (h : (A : Int) = V * (B : Int) + (R : Int)) : V = ((A / B : Nat) : Int) ∧ R = A % B := by
  obtain ⟨v, rfl⟩ := Int.eq_ofNat_of_zero_le hV
  have h' : A = v * B + R := by exact_mod_cast h
  have h1 : A / B = v := by rw [h', Nat.add_comm, Nat.add_mul_div_right _ _ (by omega), Nat.div_eq_of_lt hR, Nat.zero_add]
  have h2 : A % B = R := by rw [h', Nat.add_comm, Nat.add_mul_mod_self_right, Nat.mod_eq_of_lt hR]
  exact ⟨by rw [h1], h2.symm⟩
theorem tens_len_ten {B k R : Nat} (hB : (Rf.tens B).length ≤ k) (h : R < 10 * B) : (Rf.tens R).length ≤ k + 1 := by
  refine tens_len_pow (Nat.lt_of_lt_of_le h ?_) (by omega)
  have h1 := Nat.lt_of_lt_of_le (tens_lt_pow B) (Nat.pow_le_pow_right (by decide : 0 < 10) hB)
  rw [Nat.pow_succ]
  generalize (10 : Nat) ^ k = P at *
  omega

set_option maxHeartbeats 1000000 in
theorem divide_ref (A B : Nat) (o o' : Option Addr) (c c' : Nat) (w : World) (ha : IntAt w o (Rf.tens A)) (hb : IntAt w o' (Rf.tens B)) (hla : (Rf.tens A).length ≤ 2000) (hlb : (Rf.tens B).length ≤ 1000) (hB : 0 < B) :
    Calls Tryz.prog 69 #[.slice o (Rf.tens A).length c, .slice o' (Rf.tens B).length c'] w fun e w' => ∃ o1 c1 o2 c2, e = .returned (.tuple #[.slice o1 (Rf.tens (A / B)).length c1, .slice o2 (Rf.tens (A % B)).length c2]) ∧ (Rf.tens (A / B)).length ≤ c1 ∧ (Rf.tens (A % B)).length ≤ c2 ∧ IntAt w' o1 (Rf.tens (A / B)) ∧ IntAt w' o2 (Rf.tens (A % B)) ∧ Below w.heap.size w w' := by
  obtain ⟨i0, hi, hz0, hz1, hz2⟩ := info_parts info_int
  obtain ⟨la, hla'⟩ : ∃ la, Rf.tens A = la := ⟨_, rfl⟩
  have hda : Rf.Digs la := by rw [← hla']; exact Rf.digs_tens A
  have hva : Rf.valT la = (A : Int) := by rw [← hla']; exact Rf.valT_tens A
  rw [hla'] at ha hla ⊢
  have HA := Lib.hid ha
  have HB := Lib.hid hb
  have HDa := Lib.hid hda
  have HVa := Lib.hid hva
  have HOr := Lib.hid (fun (R : Nat) (o : Option Addr) (c : Nat) (W : World) (h : IntAt W o (Rf.tens R)) (h' : IntAt W o' (Rf.tens B)) (hl : (Rf.tens R).length ≤ 100000) => order_ref R B o o' c c' W h h' hl (by omega))
  have HMi := Lib.hid (fun (R : Nat) (hRB : B ≤ R) (o : Option Addr) (c : Nat) (W : World) (h : IntAt W o (Rf.tens R)) (h' : IntAt W o' (Rf.tens B)) (hl : (Rf.tens R).length ≤ 2000) => minus_new (Rf.tens R) (Rf.tens B) o o' c c' (R - B) W h h' (Rf.digs_tens _) (Rf.digs_tens _) hl (by omega) (by rw [Rf.valT_tens, Rf.valT_tens]; omega))
  have HLn := Lib.hid (fun (R : Nat) (h : R < 10 * B) => show (Rf.tens R).length ≤ 1001 from tens_len_ten hlb h)
  clear ha hb hda hva hla'
  generalize hlbn : (Rf.tens B).length = nb at *
  have HLb := Lib.hid hlbn
  clear hlbn
  go_enter Tryz.func69, Tryz.ntmps69
  go_upto_region 3 with (at_make; refine wpList_make_full _ rfl _ _ 50 rfl w.heap.size 3 i0 (.int .i64 0) 1 Tryz.underlying50 hi hz0 hz1 .i64 .i64 _ _ la.length rfl rfl (by simp) (by simp) (by rw [hz2]; omega) (by unfold maxLen; omega) (Nat.le_refl _) ?_; intro w1 hown1 hgrow1; have HO1 := Lib.hid hown1; have HG1 := Lib.hid hgrow1; clear hown1 hgrow1)
  have hb1 : Below w.heap.size w w1 := (Below.refl _ w).grown HG1.out (Nat.le_refl _) (fun k e => by cases e)
  have hrow : w1.ownsRow w.heap.size 3 1 (.slice (some ⟨w.heap.size, 0, none⟩) la.length la.length) la.length ((List.replicate la.length 0).map (Value.int .i64)) := by
    have := HO1.out
    rwa [show (Value.int IntKind.i64 0).cells = #[.int .i64 0] from rfl, Nat.mul_one, toList_madeCells_one, ← List.map_replicate] at this
  have hp0 : DV la.length w.heap.size B la la.length la.length 0 0 none 0 w w1 (List.replicate la.length 0) :=
    { len := by simp, row := hrow, dig := Rf.digs_zeros _, low := fun t x h _ => (List.mem_replicate.1 (List.mem_of_getElem? h)).2, hi := by simp [Rf.valT], rest := by rw [Rf.tens_zero]; exact IntAt.nil _ _, cap := by rw [Rf.tens_zero]; exact Nat.le_refl _, new := (fun b e => by cases e), below := hb1 }
  have HP0 := Lib.hid hp0
  have z0 : (Rf.tens 0).length = 0 := by rw [Rf.tens_zero]; rfl
  have HZ0 := Lib.hid z0
  clear hp0 hrow hb1 HO1 HG1 z0
  have hL0 : (0 : Int) ≤ (la.length : Int) := Int.natCast_nonneg _
  have hL1 : (la.length : Int) ≤ 2000 := by omega
  go_wp2_with fail
  go_loopg [7, 8] la.length (fun g rv iv wr => ∃ (k R : Nat) (i : Int) (o2 : Option Addr) (c2 : Nat) (cols : List Int), k ≤ la.length ∧ i + 1 = (k : Int) ∧ R < B ∧ iv = .int .i64 i ∧ rv = .slice o2 (Rf.tens R).length c2 ∧ Hid (DV la.length w.heap.size B la k k R R o2 c2 w wr cols) ∧ g = k)
  case atStart => exact ⟨la.length, 0, (la.length : Int) - 1, none, 0, _, Nat.le_refl _, by omega, hB, rfl, by rw [HZ0.out], HP0, rfl⟩
  case round =>
    clear HP0 HZ0
    obtain ⟨k, R0, i, o2, c2, cols, hkl, hik, hRB, rfl, rfl, HP, hg⟩ := hrel
    cases k with
    | zero =>
      obtain rfl : i = -1 := by omega
      have hfin := HP.out.hi
      rw [List.drop_zero, List.drop_zero, HVa.out] at hfin
      obtain ⟨hq, hr⟩ := div_end (Rf.valT_nonneg HP.out.dig) hRB hfin
      have HT := Lib.hid (trimmed_c (some ⟨w.heap.size, 0, none⟩) la.length cols wr (intAt_owns HP.out.row) (by have := HP.out.len; omega) (by have := HP.out.len; omega))
      rw [HP.out.len] at HT
      have HQ := Lib.hid hq
      have HR := Lib.hid hr
      clear hfin hq hr hik
      go_wp2_with fail
      refine HT.out.mono ?_
      rintro e w3 ⟨rfl, rfl⟩
      go_wp2_with fail
      go_ret2
      obtain ⟨o1, c1, e1, h1, h2, h3⟩ := retT_cut (w := w) (intAt_owns HP.out.row) (c := la.length) (by have := HP.out.len; omega) HP.out.dig HQ.out HP.out.below
      rw [HP.out.len] at e1
      injection e1 with e1
      rw [← HR.out]
      exact ⟨o1, c1, o2, c2, by rw [e1]; rfl, h1, HP.out.cap, h2, HP.out.rest, h3⟩
    | succ j =>
      obtain rfl : i = (j : Int) := by omega
      have hj : j < la.length := by omega
      have dj : decide ((0 : Int) ≤ (j : Int)) = true := decide_eq_true (by omega)
      have hj0 : (0 : Int) ≤ (j : Int) := Int.natCast_nonneg _
      have hj1 : (j : Int) < (la.length : Int) := by omega
      obtain ⟨ba, rfl, hba, hca⟩ := HA.out.get hj
      replace hca := (HP.out.below.cell (p := ⟨ba, j, none⟩) hba).trans hca
      have hda := HDa.out la[j] (List.getElem_mem hj)
      have hvd := Rf.valT_drop la j hj
      generalize la[j] = xa at *
      obtain ⟨hxa0, hxa9⟩ := hda
      obtain ⟨S, hS⟩ : ∃ S : Nat, xa + 10 * (R0 : Int) = (S : Int) := ⟨(xa + 10 * (R0 : Int)).toNat, by omega⟩
      have hS10 : S < 10 * B := by omega
      have hSl := HLn.out S hS10
      have HSh := Lib.hid (fun (W : World) (h : IntAt W o2 (Rf.tens R0)) => shifted_new R0 S xa o2 c2 W h (by have := HLn.out R0 (by omega); omega) hxa0 hxa9 hS)
      have HS := Lib.hid hS
      have HVd := Lib.hid hvd
      have hjm : j < cols.length := by have := HP.out.len; omega
      have hcj : cols[j]? = some 0 := by
        have h := List.getElem?_eq_getElem hjm
        rw [HP.out.low j _ h (by omega)] at h
        exact h
      have HCj := Lib.hid hcj
      have HRB := Lib.hid hRB
      have HS10 := Lib.hid hS10
      clear hS hvd hcj hRB hik hS10
      go_wp2_with fail
      refine (HSh.out wr HP.out.rest).mono ?_
      rintro e w2 ⟨o3, c3, rfl, hc3, hi3, hb3, hn3⟩
      have hdv : ∃ t : Nat, t * B + S = S ∧ t ≤ 9 ∧ cols[j]? = some (t : Int) := ⟨0, by omega, by omega, HCj.out⟩
      have hrow3 := ownsRow_below HP.out.row hb3
      have hbase : w.heap.size < wr.heap.size := by
        obtain ⟨b, e, hb, _⟩ := (intAt_owns HP.out.row).get hjm
        injection e with e
        injection e with e
        omega
      have HD3 := Lib.hid (show DV la.length w.heap.size B la (j + 1) j R0 S o3 c3 w w2 cols from { len := HP.out.len, row := hrow3, dig := HP.out.dig, low := fun t x h hl => HP.out.low t x h (by omega), hi := HP.out.hi, rest := hi3, cap := hc3, new := fun b e => Nat.lt_of_lt_of_le hbase (hn3 b e), below := HP.out.below.trans (hb3.mono HP.out.below.size) })
      have HT3 := Lib.hid hdv
      clear hc3 hi3 hb3 hn3 hdv hrow3 hbase hca HP HSh HCj hjm hba
      go_wp2_with fail
      go_loopg [7] S (fun g rv wr => ∃ (R t : Nat) (o2 : Option Addr) (c2 : Nat) (cols : List Int), R ≤ S ∧ rv = .slice o2 (Rf.tens R).length c2 ∧ Hid (t * B + R = S) ∧ t ≤ 9 ∧ Hid (cols[j]? = some (t : Int)) ∧ Hid (DV la.length w.heap.size B la (j + 1) j R0 R o2 c2 w wr cols) ∧ g = R)
      case atStart =>
        obtain ⟨t, h1, h2, h3⟩ := HT3.out
        exact ⟨S, t, o3, c3, cols, Nat.le_refl _, rfl, Lib.hid h1, h2, Lib.hid h3, HD3, rfl⟩
      case round =>
        clear HT3 HD3
        obtain ⟨R, t, o4, c4, cols, hRS, rfl, HTS, ht9, HCt, HD, hg⟩ := hrel
        have hRl : (Rf.tens R).length ≤ 1001 := HLn.out R (by have := HS10.out; omega)
        by_cases hge : B ≤ R
        · obtain ⟨r, hr⟩ : ∃ r, cmpN R B = r := ⟨_, rfl⟩
          have dR : decide (0 ≤ r) = true := decide_eq_true (by rw [← hr]; unfold cmpN; split <;> (try split) <;> omega)
          have HO := Lib.hid (HOr.out R o4 c4 wr HD.out.rest (HB.out.mono HD.out.below) (by omega))
          rw [hr] at HO
          have ht8 : t + 1 ≤ 9 := div_digit HS10.out HTS.out hge
          have HUp := Lib.hid (div_up HTS.out hge)
          have HMi2 := Lib.hid (fun (W : World) (h : IntAt W o4 (Rf.tens R)) (h' : IntAt W o' (Rf.tens B)) => HMi.out R hge o4 c4 W h h' (by omega))
          have hjm : j < cols.length := by have := HD.out.len; omega
          have hbase : w.heap.size < wr.heap.size := by
            obtain ⟨b, e, hb, _⟩ := (intAt_owns HD.out.row).get hjm
            injection e with e
            injection e with e
            omega
          have HBase := Lib.hid hbase
          have HGe := Lib.hid hge
          clear hr hjm hbase
          go_wp2_with fail
          refine HO.out.mono ?_
          rintro e w5 ⟨rfl, hb5⟩
          have HH5 := Lib.hid hb5
          clear hb5
          go_wp2_with fail
          refine (HMi2.out w5 (HD.out.rest.mono HH5.out) ((HB.out.mono HD.out.below).mono HH5.out)).mono ?_
          rintro e w6 ⟨o6, c6, rfl, hc6, hi6, hb6, hn6⟩
          have hbel := HD.out.below.trans (HH5.out.mono HD.out.below.size)
          have hbel6 := hbel.trans (hb6.mono hbel.size)
          have hrow6 := ownsRow_below (ownsRow_below HD.out.row HH5.out) hb6
          have hcx := hrow6.cellAt j (by omega)
          rw [List.getElem?_map, HCt.out] at hcx
          replace hcx : w6.cell? ⟨w.heap.size, j, none⟩ = some (.int .i64 (t : Int)) := hcx
          have hcf := hrow6.frozenAt j
          obtain ⟨y, hy⟩ : ∃ y : Int, (t : Int) = y := ⟨_, rfl⟩
          have hy0 : 0 ≤ y := by omega
          have hy8 : y ≤ 8 := by omega
          obtain ⟨y1, hy1⟩ : ∃ y1 : Int, y + 1 = y1 := ⟨_, rfl⟩
          obtain ⟨hst1, hst2⟩ := hrow6.stored j (.int .i64 y1)
          rw [← List.map_set] at hst1
          have hnew6 : ∀ b, o6 = some ⟨b, 0, none⟩ → w.heap.size < b := fun b e => by have h1 := hn6 b e; have h2 := HBase.out; have h3 := HH5.out.size; omega
          have HD7 := Lib.hid (show DV la.length w.heap.size B la (j + 1) j R0 (R - B) o6 c6 w (w6.setCell ⟨w.heap.size, j, none⟩ (.int .i64 y1)) (cols.set j y1) from
            { len := by rw [List.length_set]; exact HD.out.len, row := hst1, dig := Rf.digs_set HD.out.dig (by omega) (by omega),
              low := fun t x h hl => by
                rw [List.getElem?_set, if_neg (by omega)] at h
                exact HD.out.low t x h hl
              hi := by
                have h := HD.out.hi
                rwa [show (cols.set j y1).drop (j + 1) = cols.drop (j + 1) from List.drop_set_of_lt (by omega)]
              rest := hi6.set1 w.heap.size j (fun b e => by have := hnew6 b e; omega) _, cap := hc6, new := hnew6, below := hbel6.setCell (p := ⟨w.heap.size, j, none⟩) (Nat.le_refl _) _ })
          have HC7 : Hid ((cols.set j y1)[j]? = some (((t + 1 : Nat) : Int))) := Lib.hid (by
            rw [List.getElem?_set_self (by have := HD.out.len; omega), ← hy1, ← hy]; simp)
          have HRr := Lib.hid (show R - B ≤ S ∧ R - B < R from ⟨by omega, by omega⟩)
          rw [hy] at hcx
          clear hbel hbel6 hrow6 hst1 hst2 hnew6 hi6 hc6 hb6 hn6 hy hge
          go_wp2_with fail
          go_roundg (R - B)
          case rel => exact ⟨R - B, t + 1, o6, c6, _, HRr.out.1, rfl, HUp, ht8, HC7, HD7, rfl⟩
          case measure => (have := HRr.out.2; omega)
        · obtain ⟨r, hr⟩ : ∃ r, cmpN R B = r := ⟨_, rfl⟩
          have dR : decide (0 ≤ r) = false := decide_eq_false (by rw [← hr]; unfold cmpN; split <;> (try split) <;> omega)
          have HO := Lib.hid (HOr.out R o4 c4 wr HD.out.rest (HB.out.mono HD.out.below) (by omega))
          rw [hr] at HO
          have hfin : Rf.valT (la.drop j) = Rf.valT (cols.drop j) * (B : Int) + (R : Int) := by
            have hjm : j < cols.length := by have := HD.out.len; omega
            have h1 := Rf.valT_drop cols j hjm
            rw [show cols[j] = (t : Int) from by have := HCt.out; rw [List.getElem?_eq_getElem hjm] at this; exact Option.some.inj this] at h1
            rw [HVd.out, h1]
            have h2 : ((t * B + R : Nat) : Int) = (S : Int) := by rw [HTS.out]
            rw [Int.natCast_add, Int.natCast_mul] at h2
            exact div_hi h2 HS.out.symm HD.out.hi
          have HFin := Lib.hid hfin
          have HLt := Lib.hid (show R < B by omega)
          clear hr hfin hge
          go_wp2_with fail
          refine HO.out.mono ?_
          rintro e w5 ⟨rfl, hb5⟩
          have HD5 := Lib.hid (show DV la.length w.heap.size B la j j R R o4 c4 w w5 cols from { len := HD.out.len, row := ownsRow_below HD.out.row hb5, dig := HD.out.dig, low := HD.out.low, hi := HFin.out, rest := HD.out.rest.mono hb5, cap := HD.out.cap, new := HD.out.new, below := HD.out.below.trans (hb5.mono HD.out.below.size) })
          clear hb5
          go_wp2_with fail
          go_roundg j
          case rel => exact ⟨j, R, (j : Int) - 1, o4, c4, cols, by omega, by omega, HLt.out, rfl, rfl, HD5, rfl⟩
          case measure => omega
end Go.Proofs.YthbfbpbppjkoeaaGreatDoor
/- Contract of floor of package proteusref03. Conditions: those in the statements. -/
namespace Go.Proofs.YthbfbpbppjkoeaaGreatDoor
open Go.RowKit Go.Shelf
set_option maxRecDepth 100000
set_option linter.unusedVariables false
set_option linter.unusedSimpArgs false

theorem ret_rb2 {f : Func} {R : Ending → World → Prop} {a : Act} {W : World} {B B' : Nat} {t t' : Tmp} {u v u' v' : Value} (hres : f.results = #[.cell t 52, .cell t' 52]) (hB : a.tmps.getD t undef = .pointer (some ⟨B, 0, none⟩)) (hB' : a.tmps.getD t' undef = .pointer (some ⟨B', 0, none⟩)) (hd : a.defers = [])
    (hN : RB W B u v) (hN' : RB W B' u' v') (hR : R (.returned (.tuple #[.agg #[u, v], .agg #[u', v']])) W) : bodyPost Tryz.prog f R .ret a W := by
  have c0 := hN.c0
  have c1 := hN.c1
  have c2 := hN'.c0
  have c3 := hN'.c1
  rw [Array.getD_eq_getD_getElem?] at hB hB'
  refine bodyPost_ret (v := .tuple #[.agg #[u, v], .agg #[u', v']]) ?_ hd hR
  simp [results, hres, hB, hB', go_sem, c0, c1, c2, c3]
theorem boxesR4 (w : World) (u v x y p q s t : Value) :
    RB ((((w.alloc (.cells #[u, v] 52)).alloc (.cells #[x, y] 52)).alloc (.cells #[p, q] 52)).alloc (.cells #[s, t] 52)) w.heap.size u v ∧
    RB ((((w.alloc (.cells #[u, v] 52)).alloc (.cells #[x, y] 52)).alloc (.cells #[p, q] 52)).alloc (.cells #[s, t] 52)) (w.heap.size + 1) x y ∧
    RB ((((w.alloc (.cells #[u, v] 52)).alloc (.cells #[x, y] 52)).alloc (.cells #[p, q] 52)).alloc (.cells #[s, t] 52)) (w.heap.size + 1 + 1) p q ∧
    RB ((((w.alloc (.cells #[u, v] 52)).alloc (.cells #[x, y] 52)).alloc (.cells #[p, q] 52)).alloc (.cells #[s, t] 52)) (w.heap.size + 1 + 1 + 1) s t ∧
    Below w.heap.size w ((((w.alloc (.cells #[u, v] 52)).alloc (.cells #[x, y] 52)).alloc (.cells #[p, q] 52)).alloc (.cells #[s, t] 52)) := by
  obtain ⟨h1, h2, h3, h4⟩ := boxesR3 w u v x y p q
  refine ⟨h1.alloc _, h2.alloc _, h3.alloc _, ?_, h4.alloc (by simp; omega) _⟩
  have := RB.new (((w.alloc (.cells #[u, v] 52)).alloc (.cells #[x, y] 52)).alloc (.cells #[p, q] 52)) s t
  rwa [World.size_alloc, World.size_alloc, World.size_alloc] at this
theorem fl_nat (A B : Nat) : (A : Int) = (B : Int) * ((A / B : Nat) : Int) + ((A % B : Nat) : Int) := by exact_mod_cast (Nat.div_add_mod A B).symm
theorem fl_same {x y : Int} (hy : y ≠ 0) (hs : (x < 0) = (y < 0)) : x.fdiv y = ((x.natAbs / y.natAbs : Nat) : Int) ∧ x.fmod y = if y < 0 then -((x.natAbs % y.natAbs : Nat) : Int) else ((x.natAbs % y.natAbs : Nat) : Int) := by
  have h := fl_nat x.natAbs y.natAbs
  have hr : x.natAbs % y.natAbs < y.natAbs := Nat.mod_lt _ (by omega)
  generalize x.natAbs / y.natAbs = q at *
  generalize x.natAbs % y.natAbs = r at *
  by_cases h0 : y < 0
  · have h1 : x < 0 := by rw [hs]; exact h0
    rw [if_pos h0]
    refine Bg.fdiv_unique ?_ (.inr ⟨by omega, by omega⟩)
    rw [show (y.natAbs : Int) = -y by omega, Int.neg_mul] at h
    omega
  · have h1 : ¬ x < 0 := by rw [hs]; exact h0
    rw [if_neg h0]
    refine Bg.fdiv_unique ?_ (.inl ⟨by omega, by omega⟩)
    rw [show (y.natAbs : Int) = y by omega] at h
    omega
theorem fl_zero {x y : Int} (hy : y ≠ 0) (hs : (x < 0) = ¬ (y < 0)) (hr : x.natAbs % y.natAbs = 0) : x.fdiv y = -((x.natAbs / y.natAbs : Nat) : Int) ∧ x.fmod y = if y < 0 then -((0 : Nat) : Int) else ((0 : Nat) : Int) := by
  have h := fl_nat x.natAbs y.natAbs
  rw [hr] at h
  generalize x.natAbs / y.natAbs = q at *
  have e0 : (if y < 0 then -((0 : Nat) : Int) else ((0 : Nat) : Int)) = 0 := by split <;> rfl
  rw [e0]
  by_cases h0 : y < 0
  · have h1 : ¬ x < 0 := by rw [hs]; simp [h0]
    refine Bg.fdiv_unique ?_ (.inr ⟨by omega, by omega⟩)
    rw [show (y.natAbs : Int) = -y by omega, Int.neg_mul] at h
    rw [Int.mul_neg]; omega
  · have h1 : x < 0 := by rw [hs]; exact h0
    refine Bg.fdiv_unique ?_ (.inl ⟨by omega, by omega⟩)
    rw [show (y.natAbs : Int) = y by omega] at h
    rw [Int.mul_neg]; omega
theorem fl_up {x y : Int} (hy : y ≠ 0) (hs : (x < 0) = ¬ (y < 0)) (hr0 : x.natAbs % y.natAbs ≠ 0) : x.fdiv y = -((x.natAbs / y.natAbs + 1 : Nat) : Int) ∧ x.fmod y = if y < 0 then -((y.natAbs - x.natAbs % y.natAbs : Nat) : Int) else ((y.natAbs - x.natAbs % y.natAbs : Nat) : Int) := by
  have h := fl_nat x.natAbs y.natAbs
  have hr : x.natAbs % y.natAbs < y.natAbs := Nat.mod_lt _ (by omega)
  generalize x.natAbs / y.natAbs = q at *
  generalize x.natAbs % y.natAbs = r at *
  by_cases h0 : y < 0
  · have h1 : ¬ x < 0 := by rw [hs]; simp [h0]
    rw [if_pos h0]
    refine Bg.fdiv_unique ?_ (.inr ⟨by omega, by omega⟩)
    rw [show (y.natAbs : Int) = -y by omega, Int.neg_mul] at h
    rw [Int.natCast_add, Int.mul_neg, Int.mul_add, Int.natCast_one, Int.mul_one]; omega
  · have h1 : x < 0 := by rw [hs]; exact h0
    rw [if_neg h0]
    refine Bg.fdiv_unique ?_ (.inl ⟨by omega, by omega⟩)
    rw [show (y.natAbs : Int) = y by omega] at h
    rw [Int.natCast_add, Int.mul_neg, Int.mul_add, Int.natCast_one, Int.mul_one]; omega
theorem IntAt.drew {w : World} {o : Option Addr} {l : List Int} (h : IntAt w o l) : IntAt w.drew o l := h
/-- What floor answers. -/
def RetF (q r : Int) (w : World) (e : Ending) (w' : World) : Prop := ∃ o1 c1 o2 c2, e = .returned (.tuple #[rnV q o1 c1, rnV r o2 c2]) ∧ RAt w' o1 c1 q ∧ RAt w' o2 c2 r ∧ Below w.heap.size w w'

set_option maxHeartbeats 1000000 in
theorem floor_same_pp (x y q r : Int) (oa ob : Option Addr) (ca cb : Nat) (w : World) (hx : RAt w oa ca x) (hy : RAt w ob cb y) (lx : (Rf.tens x.natAbs).length ≤ 1000) (ly : (Rf.tens y.natAbs).length ≤ 1000) (hy0 : y ≠ 0) (hsx : ¬ x < 0) (hsy : ¬ y < 0) (hq : x.fdiv y = q) (hr : x.fmod y = r) :
    Calls Tryz.prog 64 #[rnV x oa ca, rnV y ob cb] w (RetF q r w) := by
  obtain ⟨f1, f2⟩ := fl_same (x := x) (y := y) hy0 (by simp [hsx, hsy])
  rw [hq] at f1
  rw [hr] at f2
  have dx : decide (x < 0) = false := decide_eq_false hsx
  have dy : decide (y < 0) = false := decide_eq_false hsy
  have hB0 : 0 < y.natAbs := by omega
  have hxa := hx.2
  have hya := hy.2
  unfold rnV
  rw [dx, dy]
  generalize hA : x.natAbs = A at *
  generalize hB : y.natAbs = B at *
  have HDv := Lib.hid (fun (W : World) (hb : Below w.heap.size w W) => divide_ref A B oa ob ca cb W (hxa.mono hb) (hya.mono hb) (by omega) ly hB0)
  have HYa := Lib.hid hya
  have lq : (Rf.tens (A / B)).length ≤ 1000 := Nat.le_trans (tens_len_mono (Nat.div_le_self A B)) lx
  have lr : (Rf.tens (A % B)).length ≤ 1000 := Nat.le_trans (tens_len_mono (Nat.le_of_lt (Nat.mod_lt A hB0))) ly
  have HQ := Lib.hid (show q = if false then -((A / B : Nat) : Int) else ((A / B : Nat) : Int) by rw [f1]; rfl)
  have HR := Lib.hid (show r = if false then -((A % B : Nat) : Int) else ((A % B : Nat) : Int) by rw [f2]; simp [hsy])
  clear dx dy hx hy hxa hya hsx hsy hq hr f1 f2 hA hB hy0 hB0
  have HLq := Lib.hid lq
  have HLr := Lib.hid lr
  generalize hQ : A / B = Q at *
  generalize hR : A % B = R at *
  clear hQ hR
  obtain ⟨hA0, hBb0, hN0, hM0, hb0⟩ := boxesR4 w (.bool false) (.slice oa (Rf.tens A).length ca) (.bool false) (.slice ob (Rf.tens B).length cb) (.bool false) (.slice none 0 0) (.bool false) (.slice none 0 0)
  have HX0 := Lib.hid hA0
  have HY0 := Lib.hid hBb0
  have HN0 := Lib.hid hN0
  have HM0 := Lib.hid hM0
  have HB0 := Lib.hid hb0
  clear hA0 hBb0 hN0 hM0 hb0
  generalize hna : (Rf.tens A).length = na at *
  generalize hnb : (Rf.tens B).length = nb at *
  generalize hnq : (Rf.tens Q).length = nq at *
  generalize hnr : (Rf.tens R).length = nr at *
  have HNb := Lib.hid hnb
  have HNq := Lib.hid hnq
  have HNr := Lib.hid hnr
  clear hna hnb hnq hnr lx
  go_enter Tryz.func64, Tryz.ntmps64
  go_wp2_with fail
  refine (HDv.out _ HB0.out).mono ?_
  rintro e w1 ⟨o1, c1, o2, c2, rfl, hc1, hc2, hi1, hi2, hb1⟩
  have HX1 := Lib.hid (HX0.out.below hb1 HX0.out.lt)
  have HY1 := Lib.hid (HY0.out.below hb1 HY0.out.lt)
  have HN1 := Lib.hid (HN0.out.below hb1 HN0.out.lt)
  have HM1 := Lib.hid (HM0.out.below hb1 HM0.out.lt)
  have HB1 := Lib.hid (HB0.out.trans (hb1.mono HB0.out.size))
  have HC1 := Lib.hid hc1
  have HC2 := Lib.hid hc2
  have HI1 := Lib.hid hi1
  have HI2 := Lib.hid hi2
  clear hb1 hc1 hc2 hi1 hi2 HX0 HY0 HN0 HM0 HB0 HDv
  have x0 := HX1.out.c0
  have x1 := HX1.out.c1
  have y0 := HY1.out.c0
  have y1 := HY1.out.c1
  go_wp2_with fail
  clear x0 x1 y0 y1
  have HSq := Lib.hid (fun (W : World) (h : IntAt W o1 (Rf.tens Q)) => signed_ref false o1 c1 (Rf.tens Q) Q q W h (by rw [HNq.out]; exact HC1.out) (by rw [HNq.out]; have := HLq.out; omega) (Rf.digs_tens _) (Rf.valT_tens _) HQ.out)
  have HSr := Lib.hid (fun (W : World) (h : IntAt W o2 (Rf.tens R)) => signed_ref false o2 c2 (Rf.tens R) R r W h (by rw [HNr.out]; exact HC2.out) (by rw [HNr.out]; have := HLr.out; omega) (Rf.digs_tens _) (Rf.valT_tens _) HR.out)
  rw [HNq.out] at HSq
  rw [HNr.out] at HSr
  have HS0 := Lib.hid (SR.mk (W := World.drew _) HX1.out.drew HY1.out.drew HB1.out.drew)
  have HNd := Lib.hid HN1.out.drew
  have HMd := Lib.hid HM1.out.drew
  have HBd := Lib.hid HB1.out.drew
  have HId := Lib.hid HI1.out.drew
  have HJd := Lib.hid HI2.out.drew
  refine wp_region_held_drew (S := SR w.heap.size w.heap.size (w.heap.size + 1) w (.bool false) (.slice oa na ca) (.bool false) (.slice ob nb cb)) (by kernel_rfl) HS0.out (fun hS => ?_)
  refine wpAnyH_take (i := 0) (v := ?hlv1) rfl (by kernel_rfl) (by kernel_rfl) (by kernel_rfl) (fun _ _ _ h => h) (Or.inl ⟨by rfl, ?hly1⟩) (by assumption) ?hlr1
  case hly1 => (intro w hSw; (try unfold SR at hSw); (try dsimp only at hSw); go_simp; (try with_reducible rfl))
  (try simp only [Act.put, List.setIfInBounds_toArray, List.set_cons_zero, List.set_cons_succ])
  refine wpAnyH_take (i := 1) (v := ?hlv2) rfl (by kernel_rfl) (by kernel_rfl) (by kernel_rfl) (fun _ _ _ h => h) (Or.inl ⟨by rfl, ?hly2⟩) (by assumption) ?hlr2
  case hly2 => (intro w hSw; (try unfold SR at hSw); (try dsimp only at hSw); go_simp; (try with_reducible rfl))
  (try simp only [Act.put, List.setIfInBounds_toArray, List.set_cons_zero, List.set_cons_succ])
  refine wpAnyH_take (i := 2) (v := ?hlv3) rfl (by kernel_rfl) (by kernel_rfl) (by kernel_rfl) (fun _ _ _ h => h) (Or.inl ⟨by rfl, ?hly3⟩) (by assumption) ?hlr3
  case hly3 => (intro w hSw; (try unfold SR at hSw); (try dsimp only at hSw); go_simp; (try with_reducible rfl))
  (try simp only [Act.put, List.setIfInBounds_toArray, List.set_cons_zero, List.set_cons_succ])
  refine wpAnyH_take (i := 3) (v := ?hlv4) rfl (by kernel_rfl) (by kernel_rfl) (by kernel_rfl) (fun _ _ _ h => h) (Or.inl ⟨by rfl, ?hly4⟩) (by assumption) ?hlr4
  case hly4 => (intro w hSw; (try unfold SR at hSw); (try dsimp only at hSw); go_simp; (try with_reducible rfl))
  (try simp only [Act.put, List.setIfInBounds_toArray, List.set_cons_zero, List.set_cons_succ])
  refine wpAnyH_take (i := 4) (v := ?hlv5) rfl (by kernel_rfl) (by kernel_rfl) (by kernel_rfl) (fun _ _ _ h => h) (Or.inl ⟨by rfl, ?hly5⟩) (by assumption) ?hlr5
  case hly5 => (intro w hSw; (try unfold SR at hSw); (try dsimp only at hSw); go_simp; (try with_reducible rfl))
  (try simp only [Act.put, List.setIfInBounds_toArray, List.set_cons_zero, List.set_cons_succ])
  refine wpAnyH_take (i := 5) (v := ?hlv6) rfl (by kernel_rfl) (by kernel_rfl) (by kernel_rfl) (fun _ _ _ h => h) (Or.inl ⟨by rfl, ?hly6⟩) (by assumption) ?hlr6
  case hly6 => (intro w hSw; (try unfold SR at hSw); (try dsimp only at hSw); go_simp; (try with_reducible rfl))
  (try simp only [Act.put, List.setIfInBounds_toArray, List.set_cons_zero, List.set_cons_succ])
  refine wpAnyH_take (i := 7) (v := ?hlv7) rfl (by kernel_rfl) (by kernel_rfl) (by kernel_rfl) (fun _ _ _ h => h) (Or.inl ⟨by rfl, ?hly7⟩) (by assumption) ?hlr7
  case hly7 => (intro w hSw; (try unfold SR at hSw); (try dsimp only at hSw); go_simp; (try with_reducible rfl))
  (try simp only [Act.put, List.setIfInBounds_toArray, List.set_cons_zero, List.set_cons_succ])
  refine wpAnyH_take (i := 8) (v := ?hlv8) rfl (by kernel_rfl) (by kernel_rfl) (by kernel_rfl) (fun _ _ _ h => h) (Or.inl ⟨by rfl, ?hly8⟩) (by assumption) ?hlr8
  case hly8 => (intro w hSw; (try unfold SR at hSw); (try dsimp only at hSw); go_simp; (try with_reducible rfl))
  (try simp only [Act.put, List.setIfInBounds_toArray, List.set_cons_zero, List.set_cons_succ])
  refine wpAnyH_take (i := 9) (v := ?hlv9) rfl (by kernel_rfl) (by kernel_rfl) (by kernel_rfl) (fun _ _ _ h => h) (Or.inl ⟨by rfl, ?hly9⟩) (by assumption) ?hlr9
  case hly9 => (intro w hSw; (try unfold SR at hSw); (try dsimp only at hSw); go_simp; (try with_reducible rfl))
  (try simp only [Act.put, List.setIfInBounds_toArray, List.set_cons_zero, List.set_cons_succ])
  refine wpAnyH_ready (rs := [6]) (by kernel_rfl) (by simp) ?_
  refine AllReadyH.one rfl ?_ AllReadyH.nil
  intro K hK
  go_simp
  refine (HSq.out _ HId.out).mono ?_
  rintro e w5 ⟨o5, c5, rfl, hr5, hb5⟩
  unfold rnV
  refine hK.out _ _ (SR.kept hS HBd.out.size hb5) (fun hS5 => ?_)
  clear hK K
  have HN5 := Lib.hid (HNd.out.below hb5 HNd.out.lt)
  have HM5 := Lib.hid (HMd.out.below hb5 HMd.out.lt)
  have HB5 := Lib.hid (HBd.out.trans (hb5.mono HBd.out.size))
  have HJ5 := Lib.hid (HJd.out.mono hb5)
  have HR5 := Lib.hid hr5
  clear hb5 hr5
  refine wpAnyH_ready (rs := [10]) (by kernel_rfl) (by simp) ?_
  refine AllReadyH.one rfl ?_ AllReadyH.nil
  intro K hK
  go_simp
  refine (HSr.out _ HJ5.out).mono ?_
  rintro e w6 ⟨o6, c6, rfl, hr6, hb6⟩
  unfold rnV
  refine hK.out _ _ (SR.kept hS5 HB5.out.size hb6) (fun hS6 => ?_)
  clear hK K
  have HN6 := Lib.hid (HN5.out.below hb6 HN5.out.lt)
  have HM6 := Lib.hid (HM5.out.below hb6 HM5.out.lt)
  have HB6 := Lib.hid (HB5.out.trans (hb6.mono HB5.out.size))
  have HR6 := Lib.hid (HR5.out.mono hb6)
  have HT6 := Lib.hid hr6
  clear hb6 hr6
  have f0 := HN6.out.fz 0
  have f1 := HN6.out.fz 1
  have c0 := HN6.out.c0
  have c1 := HN6.out.c1
  refine wpAnyH_ready (rs := [11]) (by kernel_rfl) (by simp) ?_
  refine AllReadyH.one rfl ?_ AllReadyH.nil
  intro K hK
  go_simp
  refine hK.out _ _ (SR.put hS6 (w.heap.size + 1 + 1) (by omega) (by omega) (by omega) _ _) (fun hS7 => ?_)
  clear hK K f0 f1 c0 c1
  have hM7 := (HM6.out.other ⟨w.heap.size + 1 + 1, 0, none⟩ (by simp) (.bool (decide (q < 0)))).other ⟨w.heap.size + 1 + 1, 1, none⟩ (by simp) (.slice o5 (Rf.tens q.natAbs).length c5)
  have f0 := hM7.fz 0
  have f1 := hM7.fz 1
  have c0 := hM7.c0
  have c1 := hM7.c1
  have HM7 := Lib.hid hM7
  clear hM7
  refine wpAnyH_ready (rs := [12]) (by kernel_rfl) (by simp) ?_
  refine AllReadyH.one rfl ?_ AllReadyH.nil
  intro K hK
  go_simp
  refine hK.out _ _ (SR.put hS7 (w.heap.size + 1 + 1 + 1) (by omega) (by omega) (by omega) _ _) (fun hS8 => ?_)
  clear hK K f0 f1 c0 c1
  refine wpAnyH_done (by kernel_rfl) ?_ _
  (try simp only [Act.put, List.setIfInBounds_toArray, List.set_cons_zero, List.set_cons_succ])
  go_wp2_with fail
  refine ret_rb2 rfl rfl rfl rfl (((HN6.out.put _ _).other ⟨w.heap.size + 1 + 1 + 1, 0, none⟩ (by simp) (.bool (decide (r < 0)))).other ⟨w.heap.size + 1 + 1 + 1, 1, none⟩ (by simp) (.slice o6 (Rf.tens r.natAbs).length c6)) (HM7.out.put _ _) ?_
  exact ⟨o5, c5, o6, c6, rfl, ⟨HR6.out.1, intAt_put_rb HM7.out (intAt_put_rb HN6.out HR6.out.2 _ _) _ _⟩, ⟨HT6.out.1, intAt_put_rb HM7.out (intAt_put_rb HN6.out HT6.out.2 _ _) _ _⟩, below_put (below_put HB6.out (by omega) _ _) (by omega) _ _⟩

set_option maxHeartbeats 1000000 in
theorem floor_zero_pn (x y q r : Int) (oa ob : Option Addr) (ca cb : Nat) (w : World) (hx : RAt w oa ca x) (hy : RAt w ob cb y) (lx : (Rf.tens x.natAbs).length ≤ 1000) (ly : (Rf.tens y.natAbs).length ≤ 1000) (hy0 : y ≠ 0) (hsx : ¬ x < 0) (hsy : y < 0) (hr0 : x.natAbs % y.natAbs = 0) (hq : x.fdiv y = q) (hr : x.fmod y = r) :
    Calls Tryz.prog 64 #[rnV x oa ca, rnV y ob cb] w (RetF q r w) := by
  obtain ⟨f1, f2⟩ := fl_zero (x := x) (y := y) hy0 (by simp [hsx, hsy]) hr0
  rw [hq] at f1
  rw [hr] at f2
  have dx : decide (x < 0) = false := decide_eq_false hsx
  have dy : decide (y < 0) = true := decide_eq_true hsy
  have hB0 : 0 < y.natAbs := by omega
  have hxa := hx.2
  have hya := hy.2
  unfold rnV
  rw [dx, dy]
  generalize hA : x.natAbs = A at *
  generalize hB : y.natAbs = B at *
  have HDv := Lib.hid (fun (W : World) (hb : Below w.heap.size w W) => divide_ref A B oa ob ca cb W (hxa.mono hb) (hya.mono hb) (by omega) ly hB0)
  have HYa := Lib.hid hya
  have lq : (Rf.tens (A / B)).length ≤ 1000 := Nat.le_trans (tens_len_mono (Nat.div_le_self A B)) lx
  have lr : (Rf.tens (A % B)).length ≤ 1000 := Nat.le_trans (tens_len_mono (Nat.le_of_lt (Nat.mod_lt A hB0))) ly
  rw [hr0] at HDv lr
  have lr0 : (Rf.tens 0).length = 0 := by rw [Rf.tens_zero]; rfl
  have HQ := Lib.hid (show q = if true then -((A / B : Nat) : Int) else ((A / B : Nat) : Int) by rw [f1]; rfl)
  have HR := Lib.hid (show r = if true then -((0 : Nat) : Int) else ((0 : Nat) : Int) by rw [f2]; simp [hsy])
  clear dx dy hx hy hxa hya hsx hsy hq hr f1 f2 hA hB hy0 hB0 hr0
  have HLq := Lib.hid lq
  have HLr := Lib.hid lr
  generalize hQ : A / B = Q at *
  clear hQ
  obtain ⟨hA0, hBb0, hN0, hM0, hb0⟩ := boxesR4 w (.bool false) (.slice oa (Rf.tens A).length ca) (.bool true) (.slice ob (Rf.tens B).length cb) (.bool false) (.slice none 0 0) (.bool false) (.slice none 0 0)
  have HX0 := Lib.hid hA0
  have HY0 := Lib.hid hBb0
  have HN0 := Lib.hid hN0
  have HM0 := Lib.hid hM0
  have HB0 := Lib.hid hb0
  clear hA0 hBb0 hN0 hM0 hb0
  generalize hna : (Rf.tens A).length = na at *
  generalize hnb : (Rf.tens B).length = nb at *
  generalize hnq : (Rf.tens Q).length = nq at *
  generalize hnr : (Rf.tens 0).length = nr at *
  have HNb := Lib.hid hnb
  have HNq := Lib.hid hnq
  have HNr := Lib.hid hnr
  clear hna hnb hnq hnr lx
  subst lr0
  go_enter Tryz.func64, Tryz.ntmps64
  go_wp2_with fail
  refine (HDv.out _ HB0.out).mono ?_
  rintro e w1 ⟨o1, c1, o2, c2, rfl, hc1, hc2, hi1, hi2, hb1⟩
  have HX1 := Lib.hid (HX0.out.below hb1 HX0.out.lt)
  have HY1 := Lib.hid (HY0.out.below hb1 HY0.out.lt)
  have HN1 := Lib.hid (HN0.out.below hb1 HN0.out.lt)
  have HM1 := Lib.hid (HM0.out.below hb1 HM0.out.lt)
  have HB1 := Lib.hid (HB0.out.trans (hb1.mono HB0.out.size))
  have HC1 := Lib.hid hc1
  have HC2 := Lib.hid hc2
  have HI1 := Lib.hid hi1
  have HI2 := Lib.hid hi2
  clear hb1 hc1 hc2 hi1 hi2 HX0 HY0 HN0 HM0 HB0 HDv
  have x0 := HX1.out.c0
  have x1 := HX1.out.c1
  have y0 := HY1.out.c0
  have y1 := HY1.out.c1
  go_wp2_with fail
  clear x0 x1 y0 y1
  have HSq := Lib.hid (fun (W : World) (h : IntAt W o1 (Rf.tens Q)) => signed_ref true o1 c1 (Rf.tens Q) Q q W h (by rw [HNq.out]; exact HC1.out) (by rw [HNq.out]; have := HLq.out; omega) (Rf.digs_tens _) (Rf.valT_tens _) HQ.out)
  have HSr := Lib.hid (fun (W : World) (h : IntAt W o2 (Rf.tens 0)) => signed_ref true o2 c2 (Rf.tens 0) 0 r W h (by rw [HNr.out]; exact HC2.out) (by rw [HNr.out]; have := HLr.out; omega) (Rf.digs_tens _) (Rf.valT_tens _) HR.out)
  rw [HNq.out] at HSq
  rw [HNr.out] at HSr
  have HS0 := Lib.hid (SR.mk (W := World.drew _) HX1.out.drew HY1.out.drew HB1.out.drew)
  have HNd := Lib.hid HN1.out.drew
  have HMd := Lib.hid HM1.out.drew
  have HBd := Lib.hid HB1.out.drew
  have HId := Lib.hid HI1.out.drew
  have HJd := Lib.hid HI2.out.drew
  refine wp_region_held_drew (S := SR w.heap.size w.heap.size (w.heap.size + 1) w (.bool false) (.slice oa na ca) (.bool true) (.slice ob nb cb)) (by kernel_rfl) HS0.out (fun hS => ?_)
  refine wpAnyH_take (i := 0) (v := ?hlv1) rfl (by kernel_rfl) (by kernel_rfl) (by kernel_rfl) (fun _ _ _ h => h) (Or.inl ⟨by rfl, ?hly1⟩) (by assumption) ?hlr1
  case hly1 => (intro w hSw; (try unfold SR at hSw); (try dsimp only at hSw); go_simp; (try with_reducible rfl))
  (try simp only [Act.put, List.setIfInBounds_toArray, List.set_cons_zero, List.set_cons_succ])
  refine wpAnyH_take (i := 1) (v := ?hlv2) rfl (by kernel_rfl) (by kernel_rfl) (by kernel_rfl) (fun _ _ _ h => h) (Or.inl ⟨by rfl, ?hly2⟩) (by assumption) ?hlr2
  case hly2 => (intro w hSw; (try unfold SR at hSw); (try dsimp only at hSw); go_simp; (try with_reducible rfl))
  (try simp only [Act.put, List.setIfInBounds_toArray, List.set_cons_zero, List.set_cons_succ])
  refine wpAnyH_take (i := 2) (v := ?hlv3) rfl (by kernel_rfl) (by kernel_rfl) (by kernel_rfl) (fun _ _ _ h => h) (Or.inl ⟨by rfl, ?hly3⟩) (by assumption) ?hlr3
  case hly3 => (intro w hSw; (try unfold SR at hSw); (try dsimp only at hSw); go_simp; (try with_reducible rfl))
  (try simp only [Act.put, List.setIfInBounds_toArray, List.set_cons_zero, List.set_cons_succ])
  refine wpAnyH_take (i := 3) (v := ?hlv4) rfl (by kernel_rfl) (by kernel_rfl) (by kernel_rfl) (fun _ _ _ h => h) (Or.inl ⟨by rfl, ?hly4⟩) (by assumption) ?hlr4
  case hly4 => (intro w hSw; (try unfold SR at hSw); (try dsimp only at hSw); go_simp; (try with_reducible rfl))
  (try simp only [Act.put, List.setIfInBounds_toArray, List.set_cons_zero, List.set_cons_succ])
  refine wpAnyH_take (i := 4) (v := ?hlv5) rfl (by kernel_rfl) (by kernel_rfl) (by kernel_rfl) (fun _ _ _ h => h) (Or.inl ⟨by rfl, ?hly5⟩) (by assumption) ?hlr5
  case hly5 => (intro w hSw; (try unfold SR at hSw); (try dsimp only at hSw); go_simp; (try with_reducible rfl))
  (try simp only [Act.put, List.setIfInBounds_toArray, List.set_cons_zero, List.set_cons_succ])
  refine wpAnyH_take (i := 5) (v := ?hlv6) rfl (by kernel_rfl) (by kernel_rfl) (by kernel_rfl) (fun _ _ _ h => h) (Or.inl ⟨by rfl, ?hly6⟩) (by assumption) ?hlr6
  case hly6 => (intro w hSw; (try unfold SR at hSw); (try dsimp only at hSw); go_simp; (try with_reducible rfl))
  (try simp only [Act.put, List.setIfInBounds_toArray, List.set_cons_zero, List.set_cons_succ])
  refine wpAnyH_take (i := 7) (v := ?hlv7) rfl (by kernel_rfl) (by kernel_rfl) (by kernel_rfl) (fun _ _ _ h => h) (Or.inl ⟨by rfl, ?hly7⟩) (by assumption) ?hlr7
  case hly7 => (intro w hSw; (try unfold SR at hSw); (try dsimp only at hSw); go_simp; (try with_reducible rfl))
  (try simp only [Act.put, List.setIfInBounds_toArray, List.set_cons_zero, List.set_cons_succ])
  refine wpAnyH_take (i := 8) (v := ?hlv8) rfl (by kernel_rfl) (by kernel_rfl) (by kernel_rfl) (fun _ _ _ h => h) (Or.inl ⟨by rfl, ?hly8⟩) (by assumption) ?hlr8
  case hly8 => (intro w hSw; (try unfold SR at hSw); (try dsimp only at hSw); go_simp; (try with_reducible rfl))
  (try simp only [Act.put, List.setIfInBounds_toArray, List.set_cons_zero, List.set_cons_succ])
  refine wpAnyH_take (i := 9) (v := ?hlv9) rfl (by kernel_rfl) (by kernel_rfl) (by kernel_rfl) (fun _ _ _ h => h) (Or.inl ⟨by rfl, ?hly9⟩) (by assumption) ?hlr9
  case hly9 => (intro w hSw; (try unfold SR at hSw); (try dsimp only at hSw); go_simp; (try with_reducible rfl))
  (try simp only [Act.put, List.setIfInBounds_toArray, List.set_cons_zero, List.set_cons_succ])
  refine wpAnyH_ready (rs := [6]) (by kernel_rfl) (by simp) ?_
  refine AllReadyH.one rfl ?_ AllReadyH.nil
  intro K hK
  go_simp
  refine (HSq.out _ HId.out).mono ?_
  rintro e w5 ⟨o5, c5, rfl, hr5, hb5⟩
  unfold rnV
  refine hK.out _ _ (SR.kept hS HBd.out.size hb5) (fun hS5 => ?_)
  clear hK K
  have HN5 := Lib.hid (HNd.out.below hb5 HNd.out.lt)
  have HM5 := Lib.hid (HMd.out.below hb5 HMd.out.lt)
  have HB5 := Lib.hid (HBd.out.trans (hb5.mono HBd.out.size))
  have HJ5 := Lib.hid (HJd.out.mono hb5)
  have HR5 := Lib.hid hr5
  clear hb5 hr5
  refine wpAnyH_ready (rs := [10]) (by kernel_rfl) (by simp) ?_
  refine AllReadyH.one rfl ?_ AllReadyH.nil
  intro K hK
  go_simp
  refine (HSr.out _ HJ5.out).mono ?_
  rintro e w6 ⟨o6, c6, rfl, hr6, hb6⟩
  unfold rnV
  refine hK.out _ _ (SR.kept hS5 HB5.out.size hb6) (fun hS6 => ?_)
  clear hK K
  have HN6 := Lib.hid (HN5.out.below hb6 HN5.out.lt)
  have HM6 := Lib.hid (HM5.out.below hb6 HM5.out.lt)
  have HB6 := Lib.hid (HB5.out.trans (hb6.mono HB5.out.size))
  have HR6 := Lib.hid (HR5.out.mono hb6)
  have HT6 := Lib.hid hr6
  clear hb6 hr6
  have f0 := HN6.out.fz 0
  have f1 := HN6.out.fz 1
  have c0 := HN6.out.c0
  have c1 := HN6.out.c1
  refine wpAnyH_ready (rs := [11]) (by kernel_rfl) (by simp) ?_
  refine AllReadyH.one rfl ?_ AllReadyH.nil
  intro K hK
  go_simp
  refine hK.out _ _ (SR.put hS6 (w.heap.size + 1 + 1) (by omega) (by omega) (by omega) _ _) (fun hS7 => ?_)
  clear hK K f0 f1 c0 c1
  have hM7 := (HM6.out.other ⟨w.heap.size + 1 + 1, 0, none⟩ (by simp) (.bool (decide (q < 0)))).other ⟨w.heap.size + 1 + 1, 1, none⟩ (by simp) (.slice o5 (Rf.tens q.natAbs).length c5)
  have f0 := hM7.fz 0
  have f1 := hM7.fz 1
  have c0 := hM7.c0
  have c1 := hM7.c1
  have HM7 := Lib.hid hM7
  clear hM7
  refine wpAnyH_ready (rs := [12]) (by kernel_rfl) (by simp) ?_
  refine AllReadyH.one rfl ?_ AllReadyH.nil
  intro K hK
  go_simp
  refine hK.out _ _ (SR.put hS7 (w.heap.size + 1 + 1 + 1) (by omega) (by omega) (by omega) _ _) (fun hS8 => ?_)
  clear hK K f0 f1 c0 c1
  refine wpAnyH_done (by kernel_rfl) ?_ _
  (try simp only [Act.put, List.setIfInBounds_toArray, List.set_cons_zero, List.set_cons_succ])
  go_wp2_with fail
  refine ret_rb2 rfl rfl rfl rfl (((HN6.out.put _ _).other ⟨w.heap.size + 1 + 1 + 1, 0, none⟩ (by simp) (.bool (decide (r < 0)))).other ⟨w.heap.size + 1 + 1 + 1, 1, none⟩ (by simp) (.slice o6 (Rf.tens r.natAbs).length c6)) (HM7.out.put _ _) ?_
  exact ⟨o5, c5, o6, c6, rfl, ⟨HR6.out.1, intAt_put_rb HM7.out (intAt_put_rb HN6.out HR6.out.2 _ _) _ _⟩, ⟨HT6.out.1, intAt_put_rb HM7.out (intAt_put_rb HN6.out HT6.out.2 _ _) _ _⟩, below_put (below_put HB6.out (by omega) _ _) (by omega) _ _⟩

set_option maxHeartbeats 1000000 in
theorem floor_up_pn (x y q r : Int) (oa ob : Option Addr) (ca cb : Nat) (w : World) (hx : RAt w oa ca x) (hy : RAt w ob cb y) (lx : (Rf.tens x.natAbs).length ≤ 1000) (ly : (Rf.tens y.natAbs).length ≤ 1000) (hy0 : y ≠ 0) (hsx : ¬ x < 0) (hsy : y < 0) (hr0 : x.natAbs % y.natAbs ≠ 0) (hq : x.fdiv y = q) (hr : x.fmod y = r) :
    Calls Tryz.prog 64 #[rnV x oa ca, rnV y ob cb] w (RetF q r w) := by
  obtain ⟨f1, f2⟩ := fl_up (x := x) (y := y) hy0 (by simp [hsx, hsy]) hr0
  rw [hq] at f1
  rw [hr] at f2
  have dx : decide (x < 0) = false := decide_eq_false hsx
  have dy : decide (y < 0) = true := decide_eq_true hsy
  have hB0 : 0 < y.natAbs := by omega
  have hxa := hx.2
  have hya := hy.2
  unfold rnV
  rw [dx, dy]
  generalize hA : x.natAbs = A at *
  generalize hB : y.natAbs = B at *
  have HDv := Lib.hid (fun (W : World) (hb : Below w.heap.size w W) => divide_ref A B oa ob ca cb W (hxa.mono hb) (hya.mono hb) (by omega) ly hB0)
  have HYa := Lib.hid hya
  have lq : (Rf.tens (A / B)).length ≤ 1000 := Nat.le_trans (tens_len_mono (Nat.div_le_self A B)) lx
  have lr : (Rf.tens (A % B)).length ≤ 1000 := Nat.le_trans (tens_len_mono (Nat.le_of_lt (Nat.mod_lt A hB0))) ly
  have hRB : A % B ≤ B := Nat.le_of_lt (Nat.mod_lt A hB0)
  have lrp : 0 < (Rf.tens (A % B)).length := by have := mt Rf.tens_length_zero.1 hr0; omega
  have lbr : (Rf.tens (B - A % B)).length ≤ 1000 := Nat.le_trans (tens_len_mono (Nat.sub_le _ _)) ly
  have HQ := Lib.hid (show q = if true then -((A / B + 1 : Nat) : Int) else ((A / B + 1 : Nat) : Int) by rw [f1]; rfl)
  have HR := Lib.hid (show r = if true then -((B - A % B : Nat) : Int) else ((B - A % B : Nat) : Int) by rw [f2]; simp [hsy])
  clear dx dy hx hy hxa hya hsx hsy hq hr f1 f2 hA hB hy0 hB0 hr0
  have HLq := Lib.hid lq
  have HLr := Lib.hid lr
  generalize hQ : A / B = Q at *
  generalize hR : A % B = R at *
  clear hQ hR
  obtain ⟨hA0, hBb0, hN0, hM0, hb0⟩ := boxesR4 w (.bool false) (.slice oa (Rf.tens A).length ca) (.bool true) (.slice ob (Rf.tens B).length cb) (.bool false) (.slice none 0 0) (.bool false) (.slice none 0 0)
  have HX0 := Lib.hid hA0
  have HY0 := Lib.hid hBb0
  have HN0 := Lib.hid hN0
  have HM0 := Lib.hid hM0
  have HB0 := Lib.hid hb0
  clear hA0 hBb0 hN0 hM0 hb0
  generalize hna : (Rf.tens A).length = na at *
  generalize hnb : (Rf.tens B).length = nb at *
  generalize hnq : (Rf.tens Q).length = nq at *
  generalize hnr : (Rf.tens R).length = nr at *
  have HNb := Lib.hid hnb
  have HNq := Lib.hid hnq
  have HNr := Lib.hid hnr
  clear hna hnb hnq hnr lx
  have dr : decide ((0 : Int) < (nr : Int)) = true := decide_eq_true (by omega)
  have dr2 : decide (0 < nr) = true := decide_eq_true lrp
  go_enter Tryz.func64, Tryz.ntmps64
  go_wp2_with fail
  refine (HDv.out _ HB0.out).mono ?_
  rintro e w1 ⟨o1, c1, o2, c2, rfl, hc1, hc2, hi1, hi2, hb1⟩
  have HX1 := Lib.hid (HX0.out.below hb1 HX0.out.lt)
  have HY1 := Lib.hid (HY0.out.below hb1 HY0.out.lt)
  have HN1 := Lib.hid (HN0.out.below hb1 HN0.out.lt)
  have HM1 := Lib.hid (HM0.out.below hb1 HM0.out.lt)
  have HB1 := Lib.hid (HB0.out.trans (hb1.mono HB0.out.size))
  have HC1 := Lib.hid hc1
  have HC2 := Lib.hid hc2
  have HI1 := Lib.hid hi1
  have HI2 := Lib.hid hi2
  clear hb1 hc1 hc2 hi1 hi2 HX0 HY0 HN0 HM0 HB0 HDv
  have x0 := HX1.out.c0
  have x1 := HX1.out.c1
  have y0 := HY1.out.c0
  have y1 := HY1.out.c1
  go_wp2_with fail
  have hone : IntAt (w1.alloc (.cells #[.int .i64 1] 3)) (some ⟨w1.heap.size, 0, none⟩) [1] := intAt_owns (e := 3) (base := w1.heap.size) (n := 1) (c := 1) (World.ownsRow_lit (e := 3) (size := 1) (base := w1.heap.size) w1 #[.int .i64 1] 1 (Nat.le_refl _) (by decide) rfl)
  have hba : Below w1.heap.size w1 (w1.alloc (.cells #[.int .i64 1] 3)) := (Below.refl _ _).alloc (Nat.le_refl _) _
  have hc := plus_ref (Rf.tens Q) [1] o1 (some ⟨w1.heap.size, 0, none⟩) c1 1 (Q + 1) _ (HI1.out.mono hba) hone (Rf.digs_tens _) (fun z hz => by rw [List.mem_singleton.1 hz]; decide) (by rw [HNq.out]; have := HLq.out; omega) (by decide) (by rw [Rf.valT_tens]; rfl)
  rw [HNq.out] at hc
  refine hc.mono ?_
  rintro e w2 ⟨o3, l3, c3, rfl, hc3, hi3, hd3, hv3, hl3, hb3⟩
  have hbb := hba.trans (hb3.mono hba.size)
  have HX2 := Lib.hid (HX1.out.below hbb HX1.out.lt)
  have HY2 := Lib.hid (HY1.out.below hbb HY1.out.lt)
  have HN2 := Lib.hid (HN1.out.below hbb HN1.out.lt)
  have HM2 := Lib.hid (HM1.out.below hbb HM1.out.lt)
  have HB2 := Lib.hid (HB1.out.trans (hbb.mono HB1.out.size))
  have HI2b := Lib.hid (HI2.out.mono hbb)
  have HI3 := Lib.hid hi3
  have HP3 := Lib.hid (show l3.length ≤ c3 ∧ Rf.Digs l3 ∧ Rf.valT l3 = ((Q + 1 : Nat) : Int) ∧ l3.length ≤ 100000 from ⟨hc3, hd3, hv3, by have h1 : [(1 : Int)].length = 1 := rfl; have := HNq.out; have := HLq.out; omega⟩)
  clear hc hone hba hc3 hi3 hd3 hv3 hl3 hb3 hbb x0 x1 y0 y1 HI1 HI2 HX1 HY1 HN1 HM1 HB1
  have y0 := HY2.out.c0
  have y1 := HY2.out.c1
  go_wp2_with fail
  have hc := minus_ref (Rf.tens B) (Rf.tens R) ob o2 cb c2 (B - R) w2 (HYa.out.mono HB2.out) HI2b.out (Rf.digs_tens _) (Rf.digs_tens _) (by rw [HNb.out]; omega) (by rw [HNr.out]; have := HLr.out; omega) (by rw [Rf.valT_tens, Rf.valT_tens]; omega)
  rw [HNb.out, HNr.out] at hc
  refine hc.mono ?_
  rintro e w3 ⟨o4, c4, rfl, hc4, hi4, hb4⟩
  have HX3 := Lib.hid (HX2.out.below hb4 HX2.out.lt)
  have HY3 := Lib.hid (HY2.out.below hb4 HY2.out.lt)
  have HN3 := Lib.hid (HN2.out.below hb4 HN2.out.lt)
  have HM3 := Lib.hid (HM2.out.below hb4 HM2.out.lt)
  have HB3 := Lib.hid (HB2.out.trans (hb4.mono HB2.out.size))
  have HI3b := Lib.hid (HI3.out.mono hb4)
  have HC4 := Lib.hid hc4
  have HI4 := Lib.hid hi4
  clear hc hc4 hi4 hb4 y0 y1 HI2b HI3 HX2 HY2 HN2 HM2 HB2
  go_wp2_with fail
  have HSq := Lib.hid (fun (W : World) (h : IntAt W o3 l3) => signed_ref true o3 c3 l3 (Q + 1) q W h HP3.out.1 HP3.out.2.2.2 HP3.out.2.1 HP3.out.2.2.1 HQ.out)
  have HSr := Lib.hid (fun (W : World) (h : IntAt W o4 (Rf.tens (B - R))) => signed_ref true o4 c4 (Rf.tens (B - R)) (B - R) r W h HC4.out (by omega) (Rf.digs_tens _) (Rf.valT_tens _) HR.out)
  have HS0 := Lib.hid (SR.mk (W := World.drew _) HX3.out.drew HY3.out.drew HB3.out.drew)
  have HNd := Lib.hid HN3.out.drew
  have HMd := Lib.hid HM3.out.drew
  have HBd := Lib.hid HB3.out.drew
  have HId := Lib.hid HI3b.out.drew
  have HJd := Lib.hid HI4.out.drew
  refine wp_region_held_drew (S := SR w.heap.size w.heap.size (w.heap.size + 1) w (.bool false) (.slice oa na ca) (.bool true) (.slice ob nb cb)) (by kernel_rfl) HS0.out (fun hS => ?_)
  refine wpAnyH_take (i := 0) (v := ?hlv1) rfl (by kernel_rfl) (by kernel_rfl) (by kernel_rfl) (fun _ _ _ h => h) (Or.inl ⟨by rfl, ?hly1⟩) (by assumption) ?hlr1
  case hly1 => (intro w hSw; (try unfold SR at hSw); (try dsimp only at hSw); go_simp; (try with_reducible rfl))
  (try simp only [Act.put, List.setIfInBounds_toArray, List.set_cons_zero, List.set_cons_succ])
  refine wpAnyH_take (i := 1) (v := ?hlv2) rfl (by kernel_rfl) (by kernel_rfl) (by kernel_rfl) (fun _ _ _ h => h) (Or.inl ⟨by rfl, ?hly2⟩) (by assumption) ?hlr2
  case hly2 => (intro w hSw; (try unfold SR at hSw); (try dsimp only at hSw); go_simp; (try with_reducible rfl))
  (try simp only [Act.put, List.setIfInBounds_toArray, List.set_cons_zero, List.set_cons_succ])
  refine wpAnyH_take (i := 2) (v := ?hlv3) rfl (by kernel_rfl) (by kernel_rfl) (by kernel_rfl) (fun _ _ _ h => h) (Or.inl ⟨by rfl, ?hly3⟩) (by assumption) ?hlr3
  case hly3 => (intro w hSw; (try unfold SR at hSw); (try dsimp only at hSw); go_simp; (try with_reducible rfl))
  (try simp only [Act.put, List.setIfInBounds_toArray, List.set_cons_zero, List.set_cons_succ])
  refine wpAnyH_take (i := 3) (v := ?hlv4) rfl (by kernel_rfl) (by kernel_rfl) (by kernel_rfl) (fun _ _ _ h => h) (Or.inl ⟨by rfl, ?hly4⟩) (by assumption) ?hlr4
  case hly4 => (intro w hSw; (try unfold SR at hSw); (try dsimp only at hSw); go_simp; (try with_reducible rfl))
  (try simp only [Act.put, List.setIfInBounds_toArray, List.set_cons_zero, List.set_cons_succ])
  refine wpAnyH_take (i := 4) (v := ?hlv5) rfl (by kernel_rfl) (by kernel_rfl) (by kernel_rfl) (fun _ _ _ h => h) (Or.inl ⟨by rfl, ?hly5⟩) (by assumption) ?hlr5
  case hly5 => (intro w hSw; (try unfold SR at hSw); (try dsimp only at hSw); go_simp; (try with_reducible rfl))
  (try simp only [Act.put, List.setIfInBounds_toArray, List.set_cons_zero, List.set_cons_succ])
  refine wpAnyH_take (i := 5) (v := ?hlv6) rfl (by kernel_rfl) (by kernel_rfl) (by kernel_rfl) (fun _ _ _ h => h) (Or.inl ⟨by rfl, ?hly6⟩) (by assumption) ?hlr6
  case hly6 => (intro w hSw; (try unfold SR at hSw); (try dsimp only at hSw); go_simp; (try with_reducible rfl))
  (try simp only [Act.put, List.setIfInBounds_toArray, List.set_cons_zero, List.set_cons_succ])
  refine wpAnyH_take (i := 7) (v := ?hlv7) rfl (by kernel_rfl) (by kernel_rfl) (by kernel_rfl) (fun _ _ _ h => h) (Or.inl ⟨by rfl, ?hly7⟩) (by assumption) ?hlr7
  case hly7 => (intro w hSw; (try unfold SR at hSw); (try dsimp only at hSw); go_simp; (try with_reducible rfl))
  (try simp only [Act.put, List.setIfInBounds_toArray, List.set_cons_zero, List.set_cons_succ])
  refine wpAnyH_take (i := 8) (v := ?hlv8) rfl (by kernel_rfl) (by kernel_rfl) (by kernel_rfl) (fun _ _ _ h => h) (Or.inl ⟨by rfl, ?hly8⟩) (by assumption) ?hlr8
  case hly8 => (intro w hSw; (try unfold SR at hSw); (try dsimp only at hSw); go_simp; (try with_reducible rfl))
  (try simp only [Act.put, List.setIfInBounds_toArray, List.set_cons_zero, List.set_cons_succ])
  refine wpAnyH_take (i := 9) (v := ?hlv9) rfl (by kernel_rfl) (by kernel_rfl) (by kernel_rfl) (fun _ _ _ h => h) (Or.inl ⟨by rfl, ?hly9⟩) (by assumption) ?hlr9
  case hly9 => (intro w hSw; (try unfold SR at hSw); (try dsimp only at hSw); go_simp; (try with_reducible rfl))
  (try simp only [Act.put, List.setIfInBounds_toArray, List.set_cons_zero, List.set_cons_succ])
  refine wpAnyH_ready (rs := [6]) (by kernel_rfl) (by simp) ?_
  refine AllReadyH.one rfl ?_ AllReadyH.nil
  intro K hK
  go_simp
  refine (HSq.out _ HId.out).mono ?_
  rintro e w5 ⟨o5, c5, rfl, hr5, hb5⟩
  unfold rnV
  refine hK.out _ _ (SR.kept hS HBd.out.size hb5) (fun hS5 => ?_)
  clear hK K
  have HN5 := Lib.hid (HNd.out.below hb5 HNd.out.lt)
  have HM5 := Lib.hid (HMd.out.below hb5 HMd.out.lt)
  have HB5 := Lib.hid (HBd.out.trans (hb5.mono HBd.out.size))
  have HJ5 := Lib.hid (HJd.out.mono hb5)
  have HR5 := Lib.hid hr5
  clear hb5 hr5
  refine wpAnyH_ready (rs := [10]) (by kernel_rfl) (by simp) ?_
  refine AllReadyH.one rfl ?_ AllReadyH.nil
  intro K hK
  go_simp
  refine (HSr.out _ HJ5.out).mono ?_
  rintro e w6 ⟨o6, c6, rfl, hr6, hb6⟩
  unfold rnV
  refine hK.out _ _ (SR.kept hS5 HB5.out.size hb6) (fun hS6 => ?_)
  clear hK K
  have HN6 := Lib.hid (HN5.out.below hb6 HN5.out.lt)
  have HM6 := Lib.hid (HM5.out.below hb6 HM5.out.lt)
  have HB6 := Lib.hid (HB5.out.trans (hb6.mono HB5.out.size))
  have HR6 := Lib.hid (HR5.out.mono hb6)
  have HT6 := Lib.hid hr6
  clear hb6 hr6
  have f0 := HN6.out.fz 0
  have f1 := HN6.out.fz 1
  have c0 := HN6.out.c0
  have c1 := HN6.out.c1
  refine wpAnyH_ready (rs := [11]) (by kernel_rfl) (by simp) ?_
  refine AllReadyH.one rfl ?_ AllReadyH.nil
  intro K hK
  go_simp
  refine hK.out _ _ (SR.put hS6 (w.heap.size + 1 + 1) (by omega) (by omega) (by omega) _ _) (fun hS7 => ?_)
  clear hK K f0 f1 c0 c1
  have hM7 := (HM6.out.other ⟨w.heap.size + 1 + 1, 0, none⟩ (by simp) (.bool (decide (q < 0)))).other ⟨w.heap.size + 1 + 1, 1, none⟩ (by simp) (.slice o5 (Rf.tens q.natAbs).length c5)
  have f0 := hM7.fz 0
  have f1 := hM7.fz 1
  have c0 := hM7.c0
  have c1 := hM7.c1
  have HM7 := Lib.hid hM7
  clear hM7
  refine wpAnyH_ready (rs := [12]) (by kernel_rfl) (by simp) ?_
  refine AllReadyH.one rfl ?_ AllReadyH.nil
  intro K hK
  go_simp
  refine hK.out _ _ (SR.put hS7 (w.heap.size + 1 + 1 + 1) (by omega) (by omega) (by omega) _ _) (fun hS8 => ?_)
  clear hK K f0 f1 c0 c1
  refine wpAnyH_done (by kernel_rfl) ?_ _
  (try simp only [Act.put, List.setIfInBounds_toArray, List.set_cons_zero, List.set_cons_succ])
  go_wp2_with fail
  refine ret_rb2 rfl rfl rfl rfl (((HN6.out.put _ _).other ⟨w.heap.size + 1 + 1 + 1, 0, none⟩ (by simp) (.bool (decide (r < 0)))).other ⟨w.heap.size + 1 + 1 + 1, 1, none⟩ (by simp) (.slice o6 (Rf.tens r.natAbs).length c6)) (HM7.out.put _ _) ?_
  exact ⟨o5, c5, o6, c6, rfl, ⟨HR6.out.1, intAt_put_rb HM7.out (intAt_put_rb HN6.out HR6.out.2 _ _) _ _⟩, ⟨HT6.out.1, intAt_put_rb HM7.out (intAt_put_rb HN6.out HT6.out.2 _ _) _ _⟩, below_put (below_put HB6.out (by omega) _ _) (by omega) _ _⟩

set_option maxHeartbeats 1000000 in
theorem floor_same_nn (x y q r : Int) (oa ob : Option Addr) (ca cb : Nat) (w : World) (hx : RAt w oa ca x) (hy : RAt w ob cb y) (lx : (Rf.tens x.natAbs).length ≤ 1000) (ly : (Rf.tens y.natAbs).length ≤ 1000) (hy0 : y ≠ 0) (hsx : x < 0) (hsy : y < 0) (hq : x.fdiv y = q) (hr : x.fmod y = r) :
    Calls Tryz.prog 64 #[rnV x oa ca, rnV y ob cb] w (RetF q r w) := by
  obtain ⟨f1, f2⟩ := fl_same (x := x) (y := y) hy0 (by simp [hsx, hsy])
  rw [hq] at f1
  rw [hr] at f2
  have dx : decide (x < 0) = true := decide_eq_true hsx
  have dy : decide (y < 0) = true := decide_eq_true hsy
  have hB0 : 0 < y.natAbs := by omega
  have hxa := hx.2
  have hya := hy.2
  unfold rnV
  rw [dx, dy]
  generalize hA : x.natAbs = A at *
  generalize hB : y.natAbs = B at *
  have HDv := Lib.hid (fun (W : World) (hb : Below w.heap.size w W) => divide_ref A B oa ob ca cb W (hxa.mono hb) (hya.mono hb) (by omega) ly hB0)
  have HYa := Lib.hid hya
  have lq : (Rf.tens (A / B)).length ≤ 1000 := Nat.le_trans (tens_len_mono (Nat.div_le_self A B)) lx
  have lr : (Rf.tens (A % B)).length ≤ 1000 := Nat.le_trans (tens_len_mono (Nat.le_of_lt (Nat.mod_lt A hB0))) ly
  have HQ := Lib.hid (show q = if false then -((A / B : Nat) : Int) else ((A / B : Nat) : Int) by rw [f1]; rfl)
  have HR := Lib.hid (show r = if true then -((A % B : Nat) : Int) else ((A % B : Nat) : Int) by rw [f2]; simp [hsy])
  clear dx dy hx hy hxa hya hsx hsy hq hr f1 f2 hA hB hy0 hB0
  have HLq := Lib.hid lq
  have HLr := Lib.hid lr
  generalize hQ : A / B = Q at *
  generalize hR : A % B = R at *
  clear hQ hR
  obtain ⟨hA0, hBb0, hN0, hM0, hb0⟩ := boxesR4 w (.bool true) (.slice oa (Rf.tens A).length ca) (.bool true) (.slice ob (Rf.tens B).length cb) (.bool false) (.slice none 0 0) (.bool false) (.slice none 0 0)
  have HX0 := Lib.hid hA0
  have HY0 := Lib.hid hBb0
  have HN0 := Lib.hid hN0
  have HM0 := Lib.hid hM0
  have HB0 := Lib.hid hb0
  clear hA0 hBb0 hN0 hM0 hb0
  generalize hna : (Rf.tens A).length = na at *
  generalize hnb : (Rf.tens B).length = nb at *
  generalize hnq : (Rf.tens Q).length = nq at *
  generalize hnr : (Rf.tens R).length = nr at *
  have HNb := Lib.hid hnb
  have HNq := Lib.hid hnq
  have HNr := Lib.hid hnr
  clear hna hnb hnq hnr lx
  go_enter Tryz.func64, Tryz.ntmps64
  go_wp2_with fail
  refine (HDv.out _ HB0.out).mono ?_
  rintro e w1 ⟨o1, c1, o2, c2, rfl, hc1, hc2, hi1, hi2, hb1⟩
  have HX1 := Lib.hid (HX0.out.below hb1 HX0.out.lt)
  have HY1 := Lib.hid (HY0.out.below hb1 HY0.out.lt)
  have HN1 := Lib.hid (HN0.out.below hb1 HN0.out.lt)
  have HM1 := Lib.hid (HM0.out.below hb1 HM0.out.lt)
  have HB1 := Lib.hid (HB0.out.trans (hb1.mono HB0.out.size))
  have HC1 := Lib.hid hc1
  have HC2 := Lib.hid hc2
  have HI1 := Lib.hid hi1
  have HI2 := Lib.hid hi2
  clear hb1 hc1 hc2 hi1 hi2 HX0 HY0 HN0 HM0 HB0 HDv
  have x0 := HX1.out.c0
  have x1 := HX1.out.c1
  have y0 := HY1.out.c0
  have y1 := HY1.out.c1
  go_wp2_with fail
  clear x0 x1 y0 y1
  have HSq := Lib.hid (fun (W : World) (h : IntAt W o1 (Rf.tens Q)) => signed_ref false o1 c1 (Rf.tens Q) Q q W h (by rw [HNq.out]; exact HC1.out) (by rw [HNq.out]; have := HLq.out; omega) (Rf.digs_tens _) (Rf.valT_tens _) HQ.out)
  have HSr := Lib.hid (fun (W : World) (h : IntAt W o2 (Rf.tens R)) => signed_ref true o2 c2 (Rf.tens R) R r W h (by rw [HNr.out]; exact HC2.out) (by rw [HNr.out]; have := HLr.out; omega) (Rf.digs_tens _) (Rf.valT_tens _) HR.out)
  rw [HNq.out] at HSq
  rw [HNr.out] at HSr
  have HS0 := Lib.hid (SR.mk (W := World.drew _) HX1.out.drew HY1.out.drew HB1.out.drew)
  have HNd := Lib.hid HN1.out.drew
  have HMd := Lib.hid HM1.out.drew
  have HBd := Lib.hid HB1.out.drew
  have HId := Lib.hid HI1.out.drew
  have HJd := Lib.hid HI2.out.drew
  refine wp_region_held_drew (S := SR w.heap.size w.heap.size (w.heap.size + 1) w (.bool true) (.slice oa na ca) (.bool true) (.slice ob nb cb)) (by kernel_rfl) HS0.out (fun hS => ?_)
  refine wpAnyH_take (i := 0) (v := ?hlv1) rfl (by kernel_rfl) (by kernel_rfl) (by kernel_rfl) (fun _ _ _ h => h) (Or.inl ⟨by rfl, ?hly1⟩) (by assumption) ?hlr1
  case hly1 => (intro w hSw; (try unfold SR at hSw); (try dsimp only at hSw); go_simp; (try with_reducible rfl))
  (try simp only [Act.put, List.setIfInBounds_toArray, List.set_cons_zero, List.set_cons_succ])
  refine wpAnyH_take (i := 1) (v := ?hlv2) rfl (by kernel_rfl) (by kernel_rfl) (by kernel_rfl) (fun _ _ _ h => h) (Or.inl ⟨by rfl, ?hly2⟩) (by assumption) ?hlr2
  case hly2 => (intro w hSw; (try unfold SR at hSw); (try dsimp only at hSw); go_simp; (try with_reducible rfl))
  (try simp only [Act.put, List.setIfInBounds_toArray, List.set_cons_zero, List.set_cons_succ])
  refine wpAnyH_take (i := 2) (v := ?hlv3) rfl (by kernel_rfl) (by kernel_rfl) (by kernel_rfl) (fun _ _ _ h => h) (Or.inl ⟨by rfl, ?hly3⟩) (by assumption) ?hlr3
  case hly3 => (intro w hSw; (try unfold SR at hSw); (try dsimp only at hSw); go_simp; (try with_reducible rfl))
  (try simp only [Act.put, List.setIfInBounds_toArray, List.set_cons_zero, List.set_cons_succ])
  refine wpAnyH_take (i := 3) (v := ?hlv4) rfl (by kernel_rfl) (by kernel_rfl) (by kernel_rfl) (fun _ _ _ h => h) (Or.inl ⟨by rfl, ?hly4⟩) (by assumption) ?hlr4
  case hly4 => (intro w hSw; (try unfold SR at hSw); (try dsimp only at hSw); go_simp; (try with_reducible rfl))
  (try simp only [Act.put, List.setIfInBounds_toArray, List.set_cons_zero, List.set_cons_succ])
  refine wpAnyH_take (i := 4) (v := ?hlv5) rfl (by kernel_rfl) (by kernel_rfl) (by kernel_rfl) (fun _ _ _ h => h) (Or.inl ⟨by rfl, ?hly5⟩) (by assumption) ?hlr5
  case hly5 => (intro w hSw; (try unfold SR at hSw); (try dsimp only at hSw); go_simp; (try with_reducible rfl))
  (try simp only [Act.put, List.setIfInBounds_toArray, List.set_cons_zero, List.set_cons_succ])
  refine wpAnyH_take (i := 5) (v := ?hlv6) rfl (by kernel_rfl) (by kernel_rfl) (by kernel_rfl) (fun _ _ _ h => h) (Or.inl ⟨by rfl, ?hly6⟩) (by assumption) ?hlr6
  case hly6 => (intro w hSw; (try unfold SR at hSw); (try dsimp only at hSw); go_simp; (try with_reducible rfl))
  (try simp only [Act.put, List.setIfInBounds_toArray, List.set_cons_zero, List.set_cons_succ])
  refine wpAnyH_take (i := 7) (v := ?hlv7) rfl (by kernel_rfl) (by kernel_rfl) (by kernel_rfl) (fun _ _ _ h => h) (Or.inl ⟨by rfl, ?hly7⟩) (by assumption) ?hlr7
  case hly7 => (intro w hSw; (try unfold SR at hSw); (try dsimp only at hSw); go_simp; (try with_reducible rfl))
  (try simp only [Act.put, List.setIfInBounds_toArray, List.set_cons_zero, List.set_cons_succ])
  refine wpAnyH_take (i := 8) (v := ?hlv8) rfl (by kernel_rfl) (by kernel_rfl) (by kernel_rfl) (fun _ _ _ h => h) (Or.inl ⟨by rfl, ?hly8⟩) (by assumption) ?hlr8
  case hly8 => (intro w hSw; (try unfold SR at hSw); (try dsimp only at hSw); go_simp; (try with_reducible rfl))
  (try simp only [Act.put, List.setIfInBounds_toArray, List.set_cons_zero, List.set_cons_succ])
  refine wpAnyH_take (i := 9) (v := ?hlv9) rfl (by kernel_rfl) (by kernel_rfl) (by kernel_rfl) (fun _ _ _ h => h) (Or.inl ⟨by rfl, ?hly9⟩) (by assumption) ?hlr9
  case hly9 => (intro w hSw; (try unfold SR at hSw); (try dsimp only at hSw); go_simp; (try with_reducible rfl))
  (try simp only [Act.put, List.setIfInBounds_toArray, List.set_cons_zero, List.set_cons_succ])
  refine wpAnyH_ready (rs := [6]) (by kernel_rfl) (by simp) ?_
  refine AllReadyH.one rfl ?_ AllReadyH.nil
  intro K hK
  go_simp
  refine (HSq.out _ HId.out).mono ?_
  rintro e w5 ⟨o5, c5, rfl, hr5, hb5⟩
  unfold rnV
  refine hK.out _ _ (SR.kept hS HBd.out.size hb5) (fun hS5 => ?_)
  clear hK K
  have HN5 := Lib.hid (HNd.out.below hb5 HNd.out.lt)
  have HM5 := Lib.hid (HMd.out.below hb5 HMd.out.lt)
  have HB5 := Lib.hid (HBd.out.trans (hb5.mono HBd.out.size))
  have HJ5 := Lib.hid (HJd.out.mono hb5)
  have HR5 := Lib.hid hr5
  clear hb5 hr5
  refine wpAnyH_ready (rs := [10]) (by kernel_rfl) (by simp) ?_
  refine AllReadyH.one rfl ?_ AllReadyH.nil
  intro K hK
  go_simp
  refine (HSr.out _ HJ5.out).mono ?_
  rintro e w6 ⟨o6, c6, rfl, hr6, hb6⟩
  unfold rnV
  refine hK.out _ _ (SR.kept hS5 HB5.out.size hb6) (fun hS6 => ?_)
  clear hK K
  have HN6 := Lib.hid (HN5.out.below hb6 HN5.out.lt)
  have HM6 := Lib.hid (HM5.out.below hb6 HM5.out.lt)
  have HB6 := Lib.hid (HB5.out.trans (hb6.mono HB5.out.size))
  have HR6 := Lib.hid (HR5.out.mono hb6)
  have HT6 := Lib.hid hr6
  clear hb6 hr6
  have f0 := HN6.out.fz 0
  have f1 := HN6.out.fz 1
  have c0 := HN6.out.c0
  have c1 := HN6.out.c1
  refine wpAnyH_ready (rs := [11]) (by kernel_rfl) (by simp) ?_
  refine AllReadyH.one rfl ?_ AllReadyH.nil
  intro K hK
  go_simp
  refine hK.out _ _ (SR.put hS6 (w.heap.size + 1 + 1) (by omega) (by omega) (by omega) _ _) (fun hS7 => ?_)
  clear hK K f0 f1 c0 c1
  have hM7 := (HM6.out.other ⟨w.heap.size + 1 + 1, 0, none⟩ (by simp) (.bool (decide (q < 0)))).other ⟨w.heap.size + 1 + 1, 1, none⟩ (by simp) (.slice o5 (Rf.tens q.natAbs).length c5)
  have f0 := hM7.fz 0
  have f1 := hM7.fz 1
  have c0 := hM7.c0
  have c1 := hM7.c1
  have HM7 := Lib.hid hM7
  clear hM7
  refine wpAnyH_ready (rs := [12]) (by kernel_rfl) (by simp) ?_
  refine AllReadyH.one rfl ?_ AllReadyH.nil
  intro K hK
  go_simp
  refine hK.out _ _ (SR.put hS7 (w.heap.size + 1 + 1 + 1) (by omega) (by omega) (by omega) _ _) (fun hS8 => ?_)
  clear hK K f0 f1 c0 c1
  refine wpAnyH_done (by kernel_rfl) ?_ _
  (try simp only [Act.put, List.setIfInBounds_toArray, List.set_cons_zero, List.set_cons_succ])
  go_wp2_with fail
  refine ret_rb2 rfl rfl rfl rfl (((HN6.out.put _ _).other ⟨w.heap.size + 1 + 1 + 1, 0, none⟩ (by simp) (.bool (decide (r < 0)))).other ⟨w.heap.size + 1 + 1 + 1, 1, none⟩ (by simp) (.slice o6 (Rf.tens r.natAbs).length c6)) (HM7.out.put _ _) ?_
  exact ⟨o5, c5, o6, c6, rfl, ⟨HR6.out.1, intAt_put_rb HM7.out (intAt_put_rb HN6.out HR6.out.2 _ _) _ _⟩, ⟨HT6.out.1, intAt_put_rb HM7.out (intAt_put_rb HN6.out HT6.out.2 _ _) _ _⟩, below_put (below_put HB6.out (by omega) _ _) (by omega) _ _⟩

set_option maxHeartbeats 1000000 in
theorem floor_zero_np (x y q r : Int) (oa ob : Option Addr) (ca cb : Nat) (w : World) (hx : RAt w oa ca x) (hy : RAt w ob cb y) (lx : (Rf.tens x.natAbs).length ≤ 1000) (ly : (Rf.tens y.natAbs).length ≤ 1000) (hy0 : y ≠ 0) (hsx : x < 0) (hsy : ¬ y < 0) (hr0 : x.natAbs % y.natAbs = 0) (hq : x.fdiv y = q) (hr : x.fmod y = r) :
    Calls Tryz.prog 64 #[rnV x oa ca, rnV y ob cb] w (RetF q r w) := by
  obtain ⟨f1, f2⟩ := fl_zero (x := x) (y := y) hy0 (by simp [hsx, hsy]) hr0
  rw [hq] at f1
  rw [hr] at f2
  have dx : decide (x < 0) = true := decide_eq_true hsx
  have dy : decide (y < 0) = false := decide_eq_false hsy
  have hB0 : 0 < y.natAbs := by omega
  have hxa := hx.2
  have hya := hy.2
  unfold rnV
  rw [dx, dy]
  generalize hA : x.natAbs = A at *
  generalize hB : y.natAbs = B at *
  have HDv := Lib.hid (fun (W : World) (hb : Below w.heap.size w W) => divide_ref A B oa ob ca cb W (hxa.mono hb) (hya.mono hb) (by omega) ly hB0)
  have HYa := Lib.hid hya
  have lq : (Rf.tens (A / B)).length ≤ 1000 := Nat.le_trans (tens_len_mono (Nat.div_le_self A B)) lx
  have lr : (Rf.tens (A % B)).length ≤ 1000 := Nat.le_trans (tens_len_mono (Nat.le_of_lt (Nat.mod_lt A hB0))) ly
  rw [hr0] at HDv lr
  have lr0 : (Rf.tens 0).length = 0 := by rw [Rf.tens_zero]; rfl
  have HQ := Lib.hid (show q = if true then -((A / B : Nat) : Int) else ((A / B : Nat) : Int) by rw [f1]; rfl)
  have HR := Lib.hid (show r = if false then -((0 : Nat) : Int) else ((0 : Nat) : Int) by rw [f2]; simp [hsy])
  clear dx dy hx hy hxa hya hsx hsy hq hr f1 f2 hA hB hy0 hB0 hr0
  have HLq := Lib.hid lq
  have HLr := Lib.hid lr
  generalize hQ : A / B = Q at *
  clear hQ
  obtain ⟨hA0, hBb0, hN0, hM0, hb0⟩ := boxesR4 w (.bool true) (.slice oa (Rf.tens A).length ca) (.bool false) (.slice ob (Rf.tens B).length cb) (.bool false) (.slice none 0 0) (.bool false) (.slice none 0 0)
  have HX0 := Lib.hid hA0
  have HY0 := Lib.hid hBb0
  have HN0 := Lib.hid hN0
  have HM0 := Lib.hid hM0
  have HB0 := Lib.hid hb0
  clear hA0 hBb0 hN0 hM0 hb0
  generalize hna : (Rf.tens A).length = na at *
  generalize hnb : (Rf.tens B).length = nb at *
  generalize hnq : (Rf.tens Q).length = nq at *
  generalize hnr : (Rf.tens 0).length = nr at *
  have HNb := Lib.hid hnb
  have HNq := Lib.hid hnq
  have HNr := Lib.hid hnr
  clear hna hnb hnq hnr lx
  subst lr0
  go_enter Tryz.func64, Tryz.ntmps64
  go_wp2_with fail
  refine (HDv.out _ HB0.out).mono ?_
  rintro e w1 ⟨o1, c1, o2, c2, rfl, hc1, hc2, hi1, hi2, hb1⟩
  have HX1 := Lib.hid (HX0.out.below hb1 HX0.out.lt)
  have HY1 := Lib.hid (HY0.out.below hb1 HY0.out.lt)
  have HN1 := Lib.hid (HN0.out.below hb1 HN0.out.lt)
  have HM1 := Lib.hid (HM0.out.below hb1 HM0.out.lt)
  have HB1 := Lib.hid (HB0.out.trans (hb1.mono HB0.out.size))
  have HC1 := Lib.hid hc1
  have HC2 := Lib.hid hc2
  have HI1 := Lib.hid hi1
  have HI2 := Lib.hid hi2
  clear hb1 hc1 hc2 hi1 hi2 HX0 HY0 HN0 HM0 HB0 HDv
  have x0 := HX1.out.c0
  have x1 := HX1.out.c1
  have y0 := HY1.out.c0
  have y1 := HY1.out.c1
  go_wp2_with fail
  clear x0 x1 y0 y1
  have HSq := Lib.hid (fun (W : World) (h : IntAt W o1 (Rf.tens Q)) => signed_ref true o1 c1 (Rf.tens Q) Q q W h (by rw [HNq.out]; exact HC1.out) (by rw [HNq.out]; have := HLq.out; omega) (Rf.digs_tens _) (Rf.valT_tens _) HQ.out)
  have HSr := Lib.hid (fun (W : World) (h : IntAt W o2 (Rf.tens 0)) => signed_ref false o2 c2 (Rf.tens 0) 0 r W h (by rw [HNr.out]; exact HC2.out) (by rw [HNr.out]; have := HLr.out; omega) (Rf.digs_tens _) (Rf.valT_tens _) HR.out)
  rw [HNq.out] at HSq
  rw [HNr.out] at HSr
  have HS0 := Lib.hid (SR.mk (W := World.drew _) HX1.out.drew HY1.out.drew HB1.out.drew)
  have HNd := Lib.hid HN1.out.drew
  have HMd := Lib.hid HM1.out.drew
  have HBd := Lib.hid HB1.out.drew
  have HId := Lib.hid HI1.out.drew
  have HJd := Lib.hid HI2.out.drew
  refine wp_region_held_drew (S := SR w.heap.size w.heap.size (w.heap.size + 1) w (.bool true) (.slice oa na ca) (.bool false) (.slice ob nb cb)) (by kernel_rfl) HS0.out (fun hS => ?_)
  refine wpAnyH_take (i := 0) (v := ?hlv1) rfl (by kernel_rfl) (by kernel_rfl) (by kernel_rfl) (fun _ _ _ h => h) (Or.inl ⟨by rfl, ?hly1⟩) (by assumption) ?hlr1
  case hly1 => (intro w hSw; (try unfold SR at hSw); (try dsimp only at hSw); go_simp; (try with_reducible rfl))
  (try simp only [Act.put, List.setIfInBounds_toArray, List.set_cons_zero, List.set_cons_succ])
  refine wpAnyH_take (i := 1) (v := ?hlv2) rfl (by kernel_rfl) (by kernel_rfl) (by kernel_rfl) (fun _ _ _ h => h) (Or.inl ⟨by rfl, ?hly2⟩) (by assumption) ?hlr2
  case hly2 => (intro w hSw; (try unfold SR at hSw); (try dsimp only at hSw); go_simp; (try with_reducible rfl))
  (try simp only [Act.put, List.setIfInBounds_toArray, List.set_cons_zero, List.set_cons_succ])
  refine wpAnyH_take (i := 2) (v := ?hlv3) rfl (by kernel_rfl) (by kernel_rfl) (by kernel_rfl) (fun _ _ _ h => h) (Or.inl ⟨by rfl, ?hly3⟩) (by assumption) ?hlr3
  case hly3 => (intro w hSw; (try unfold SR at hSw); (try dsimp only at hSw); go_simp; (try with_reducible rfl))
  (try simp only [Act.put, List.setIfInBounds_toArray, List.set_cons_zero, List.set_cons_succ])
  refine wpAnyH_take (i := 3) (v := ?hlv4) rfl (by kernel_rfl) (by kernel_rfl) (by kernel_rfl) (fun _ _ _ h => h) (Or.inl ⟨by rfl, ?hly4⟩) (by assumption) ?hlr4
  case hly4 => (intro w hSw; (try unfold SR at hSw); (try dsimp only at hSw); go_simp; (try with_reducible rfl))
  (try simp only [Act.put, List.setIfInBounds_toArray, List.set_cons_zero, List.set_cons_succ])
  refine wpAnyH_take (i := 4) (v := ?hlv5) rfl (by kernel_rfl) (by kernel_rfl) (by kernel_rfl) (fun _ _ _ h => h) (Or.inl ⟨by rfl, ?hly5⟩) (by assumption) ?hlr5
  case hly5 => (intro w hSw; (try unfold SR at hSw); (try dsimp only at hSw); go_simp; (try with_reducible rfl))
  (try simp only [Act.put, List.setIfInBounds_toArray, List.set_cons_zero, List.set_cons_succ])
  refine wpAnyH_take (i := 5) (v := ?hlv6) rfl (by kernel_rfl) (by kernel_rfl) (by kernel_rfl) (fun _ _ _ h => h) (Or.inl ⟨by rfl, ?hly6⟩) (by assumption) ?hlr6
  case hly6 => (intro w hSw; (try unfold SR at hSw); (try dsimp only at hSw); go_simp; (try with_reducible rfl))
  (try simp only [Act.put, List.setIfInBounds_toArray, List.set_cons_zero, List.set_cons_succ])
  refine wpAnyH_take (i := 7) (v := ?hlv7) rfl (by kernel_rfl) (by kernel_rfl) (by kernel_rfl) (fun _ _ _ h => h) (Or.inl ⟨by rfl, ?hly7⟩) (by assumption) ?hlr7
  case hly7 => (intro w hSw; (try unfold SR at hSw); (try dsimp only at hSw); go_simp; (try with_reducible rfl))
  (try simp only [Act.put, List.setIfInBounds_toArray, List.set_cons_zero, List.set_cons_succ])
  refine wpAnyH_take (i := 8) (v := ?hlv8) rfl (by kernel_rfl) (by kernel_rfl) (by kernel_rfl) (fun _ _ _ h => h) (Or.inl ⟨by rfl, ?hly8⟩) (by assumption) ?hlr8
  case hly8 => (intro w hSw; (try unfold SR at hSw); (try dsimp only at hSw); go_simp; (try with_reducible rfl))
  (try simp only [Act.put, List.setIfInBounds_toArray, List.set_cons_zero, List.set_cons_succ])
  refine wpAnyH_take (i := 9) (v := ?hlv9) rfl (by kernel_rfl) (by kernel_rfl) (by kernel_rfl) (fun _ _ _ h => h) (Or.inl ⟨by rfl, ?hly9⟩) (by assumption) ?hlr9
  case hly9 => (intro w hSw; (try unfold SR at hSw); (try dsimp only at hSw); go_simp; (try with_reducible rfl))
  (try simp only [Act.put, List.setIfInBounds_toArray, List.set_cons_zero, List.set_cons_succ])
  refine wpAnyH_ready (rs := [6]) (by kernel_rfl) (by simp) ?_
  refine AllReadyH.one rfl ?_ AllReadyH.nil
  intro K hK
  go_simp
  refine (HSq.out _ HId.out).mono ?_
  rintro e w5 ⟨o5, c5, rfl, hr5, hb5⟩
  unfold rnV
  refine hK.out _ _ (SR.kept hS HBd.out.size hb5) (fun hS5 => ?_)
  clear hK K
  have HN5 := Lib.hid (HNd.out.below hb5 HNd.out.lt)
  have HM5 := Lib.hid (HMd.out.below hb5 HMd.out.lt)
  have HB5 := Lib.hid (HBd.out.trans (hb5.mono HBd.out.size))
  have HJ5 := Lib.hid (HJd.out.mono hb5)
  have HR5 := Lib.hid hr5
  clear hb5 hr5
  refine wpAnyH_ready (rs := [10]) (by kernel_rfl) (by simp) ?_
  refine AllReadyH.one rfl ?_ AllReadyH.nil
  intro K hK
  go_simp
  refine (HSr.out _ HJ5.out).mono ?_
  rintro e w6 ⟨o6, c6, rfl, hr6, hb6⟩
  unfold rnV
  refine hK.out _ _ (SR.kept hS5 HB5.out.size hb6) (fun hS6 => ?_)
  clear hK K
  have HN6 := Lib.hid (HN5.out.below hb6 HN5.out.lt)
  have HM6 := Lib.hid (HM5.out.below hb6 HM5.out.lt)
  have HB6 := Lib.hid (HB5.out.trans (hb6.mono HB5.out.size))
  have HR6 := Lib.hid (HR5.out.mono hb6)
  have HT6 := Lib.hid hr6
  clear hb6 hr6
  have f0 := HN6.out.fz 0
  have f1 := HN6.out.fz 1
  have c0 := HN6.out.c0
  have c1 := HN6.out.c1
  refine wpAnyH_ready (rs := [11]) (by kernel_rfl) (by simp) ?_
  refine AllReadyH.one rfl ?_ AllReadyH.nil
  intro K hK
  go_simp
  refine hK.out _ _ (SR.put hS6 (w.heap.size + 1 + 1) (by omega) (by omega) (by omega) _ _) (fun hS7 => ?_)
  clear hK K f0 f1 c0 c1
  have hM7 := (HM6.out.other ⟨w.heap.size + 1 + 1, 0, none⟩ (by simp) (.bool (decide (q < 0)))).other ⟨w.heap.size + 1 + 1, 1, none⟩ (by simp) (.slice o5 (Rf.tens q.natAbs).length c5)
  have f0 := hM7.fz 0
  have f1 := hM7.fz 1
  have c0 := hM7.c0
  have c1 := hM7.c1
  have HM7 := Lib.hid hM7
  clear hM7
  refine wpAnyH_ready (rs := [12]) (by kernel_rfl) (by simp) ?_
  refine AllReadyH.one rfl ?_ AllReadyH.nil
  intro K hK
  go_simp
  refine hK.out _ _ (SR.put hS7 (w.heap.size + 1 + 1 + 1) (by omega) (by omega) (by omega) _ _) (fun hS8 => ?_)
  clear hK K f0 f1 c0 c1
  refine wpAnyH_done (by kernel_rfl) ?_ _
  (try simp only [Act.put, List.setIfInBounds_toArray, List.set_cons_zero, List.set_cons_succ])
  go_wp2_with fail
  refine ret_rb2 rfl rfl rfl rfl (((HN6.out.put _ _).other ⟨w.heap.size + 1 + 1 + 1, 0, none⟩ (by simp) (.bool (decide (r < 0)))).other ⟨w.heap.size + 1 + 1 + 1, 1, none⟩ (by simp) (.slice o6 (Rf.tens r.natAbs).length c6)) (HM7.out.put _ _) ?_
  exact ⟨o5, c5, o6, c6, rfl, ⟨HR6.out.1, intAt_put_rb HM7.out (intAt_put_rb HN6.out HR6.out.2 _ _) _ _⟩, ⟨HT6.out.1, intAt_put_rb HM7.out (intAt_put_rb HN6.out HT6.out.2 _ _) _ _⟩, below_put (below_put HB6.out (by omega) _ _) (by omega) _ _⟩

set_option maxHeartbeats 1000000 in
theorem floor_up_np (x y q r : Int) (oa ob : Option Addr) (ca cb : Nat) (w : World) (hx : RAt w oa ca x) (hy : RAt w ob cb y) (lx : (Rf.tens x.natAbs).length ≤ 1000) (ly : (Rf.tens y.natAbs).length ≤ 1000) (hy0 : y ≠ 0) (hsx : x < 0) (hsy : ¬ y < 0) (hr0 : x.natAbs % y.natAbs ≠ 0) (hq : x.fdiv y = q) (hr : x.fmod y = r) :
    Calls Tryz.prog 64 #[rnV x oa ca, rnV y ob cb] w (RetF q r w) := by
  obtain ⟨f1, f2⟩ := fl_up (x := x) (y := y) hy0 (by simp [hsx, hsy]) hr0
  rw [hq] at f1
  rw [hr] at f2
  have dx : decide (x < 0) = true := decide_eq_true hsx
  have dy : decide (y < 0) = false := decide_eq_false hsy
  have hB0 : 0 < y.natAbs := by omega
  have hxa := hx.2
  have hya := hy.2
  unfold rnV
  rw [dx, dy]
  generalize hA : x.natAbs = A at *
  generalize hB : y.natAbs = B at *
  have HDv := Lib.hid (fun (W : World) (hb : Below w.heap.size w W) => divide_ref A B oa ob ca cb W (hxa.mono hb) (hya.mono hb) (by omega) ly hB0)
  have HYa := Lib.hid hya
  have lq : (Rf.tens (A / B)).length ≤ 1000 := Nat.le_trans (tens_len_mono (Nat.div_le_self A B)) lx
  have lr : (Rf.tens (A % B)).length ≤ 1000 := Nat.le_trans (tens_len_mono (Nat.le_of_lt (Nat.mod_lt A hB0))) ly
  have hRB : A % B ≤ B := Nat.le_of_lt (Nat.mod_lt A hB0)
  have lrp : 0 < (Rf.tens (A % B)).length := by have := mt Rf.tens_length_zero.1 hr0; omega
  have lbr : (Rf.tens (B - A % B)).length ≤ 1000 := Nat.le_trans (tens_len_mono (Nat.sub_le _ _)) ly
  have HQ := Lib.hid (show q = if true then -((A / B + 1 : Nat) : Int) else ((A / B + 1 : Nat) : Int) by rw [f1]; rfl)
  have HR := Lib.hid (show r = if false then -((B - A % B : Nat) : Int) else ((B - A % B : Nat) : Int) by rw [f2]; simp [hsy])
  clear dx dy hx hy hxa hya hsx hsy hq hr f1 f2 hA hB hy0 hB0 hr0
  have HLq := Lib.hid lq
  have HLr := Lib.hid lr
  generalize hQ : A / B = Q at *
  generalize hR : A % B = R at *
  clear hQ hR
  obtain ⟨hA0, hBb0, hN0, hM0, hb0⟩ := boxesR4 w (.bool true) (.slice oa (Rf.tens A).length ca) (.bool false) (.slice ob (Rf.tens B).length cb) (.bool false) (.slice none 0 0) (.bool false) (.slice none 0 0)
  have HX0 := Lib.hid hA0
  have HY0 := Lib.hid hBb0
  have HN0 := Lib.hid hN0
  have HM0 := Lib.hid hM0
  have HB0 := Lib.hid hb0
  clear hA0 hBb0 hN0 hM0 hb0
  generalize hna : (Rf.tens A).length = na at *
  generalize hnb : (Rf.tens B).length = nb at *
  generalize hnq : (Rf.tens Q).length = nq at *
  generalize hnr : (Rf.tens R).length = nr at *
  have HNb := Lib.hid hnb
  have HNq := Lib.hid hnq
  have HNr := Lib.hid hnr
  clear hna hnb hnq hnr lx
  have dr : decide ((0 : Int) < (nr : Int)) = true := decide_eq_true (by omega)
  have dr2 : decide (0 < nr) = true := decide_eq_true lrp
  go_enter Tryz.func64, Tryz.ntmps64
  go_wp2_with fail
  refine (HDv.out _ HB0.out).mono ?_
  rintro e w1 ⟨o1, c1, o2, c2, rfl, hc1, hc2, hi1, hi2, hb1⟩
  have HX1 := Lib.hid (HX0.out.below hb1 HX0.out.lt)
  have HY1 := Lib.hid (HY0.out.below hb1 HY0.out.lt)
  have HN1 := Lib.hid (HN0.out.below hb1 HN0.out.lt)
  have HM1 := Lib.hid (HM0.out.below hb1 HM0.out.lt)
  have HB1 := Lib.hid (HB0.out.trans (hb1.mono HB0.out.size))
  have HC1 := Lib.hid hc1
  have HC2 := Lib.hid hc2
  have HI1 := Lib.hid hi1
  have HI2 := Lib.hid hi2
  clear hb1 hc1 hc2 hi1 hi2 HX0 HY0 HN0 HM0 HB0 HDv
  have x0 := HX1.out.c0
  have x1 := HX1.out.c1
  have y0 := HY1.out.c0
  have y1 := HY1.out.c1
  go_wp2_with fail
  have hone : IntAt (w1.alloc (.cells #[.int .i64 1] 3)) (some ⟨w1.heap.size, 0, none⟩) [1] := intAt_owns (e := 3) (base := w1.heap.size) (n := 1) (c := 1) (World.ownsRow_lit (e := 3) (size := 1) (base := w1.heap.size) w1 #[.int .i64 1] 1 (Nat.le_refl _) (by decide) rfl)
  have hba : Below w1.heap.size w1 (w1.alloc (.cells #[.int .i64 1] 3)) := (Below.refl _ _).alloc (Nat.le_refl _) _
  have hc := plus_ref (Rf.tens Q) [1] o1 (some ⟨w1.heap.size, 0, none⟩) c1 1 (Q + 1) _ (HI1.out.mono hba) hone (Rf.digs_tens _) (fun z hz => by rw [List.mem_singleton.1 hz]; decide) (by rw [HNq.out]; have := HLq.out; omega) (by decide) (by rw [Rf.valT_tens]; rfl)
  rw [HNq.out] at hc
  refine hc.mono ?_
  rintro e w2 ⟨o3, l3, c3, rfl, hc3, hi3, hd3, hv3, hl3, hb3⟩
  have hbb := hba.trans (hb3.mono hba.size)
  have HX2 := Lib.hid (HX1.out.below hbb HX1.out.lt)
  have HY2 := Lib.hid (HY1.out.below hbb HY1.out.lt)
  have HN2 := Lib.hid (HN1.out.below hbb HN1.out.lt)
  have HM2 := Lib.hid (HM1.out.below hbb HM1.out.lt)
  have HB2 := Lib.hid (HB1.out.trans (hbb.mono HB1.out.size))
  have HI2b := Lib.hid (HI2.out.mono hbb)
  have HI3 := Lib.hid hi3
  have HP3 := Lib.hid (show l3.length ≤ c3 ∧ Rf.Digs l3 ∧ Rf.valT l3 = ((Q + 1 : Nat) : Int) ∧ l3.length ≤ 100000 from ⟨hc3, hd3, hv3, by have h1 : [(1 : Int)].length = 1 := rfl; have := HNq.out; have := HLq.out; omega⟩)
  clear hc hone hba hc3 hi3 hd3 hv3 hl3 hb3 hbb x0 x1 y0 y1 HI1 HI2 HX1 HY1 HN1 HM1 HB1
  have y0 := HY2.out.c0
  have y1 := HY2.out.c1
  go_wp2_with fail
  have hc := minus_ref (Rf.tens B) (Rf.tens R) ob o2 cb c2 (B - R) w2 (HYa.out.mono HB2.out) HI2b.out (Rf.digs_tens _) (Rf.digs_tens _) (by rw [HNb.out]; omega) (by rw [HNr.out]; have := HLr.out; omega) (by rw [Rf.valT_tens, Rf.valT_tens]; omega)
  rw [HNb.out, HNr.out] at hc
  refine hc.mono ?_
  rintro e w3 ⟨o4, c4, rfl, hc4, hi4, hb4⟩
  have HX3 := Lib.hid (HX2.out.below hb4 HX2.out.lt)
  have HY3 := Lib.hid (HY2.out.below hb4 HY2.out.lt)
  have HN3 := Lib.hid (HN2.out.below hb4 HN2.out.lt)
  have HM3 := Lib.hid (HM2.out.below hb4 HM2.out.lt)
  have HB3 := Lib.hid (HB2.out.trans (hb4.mono HB2.out.size))
  have HI3b := Lib.hid (HI3.out.mono hb4)
  have HC4 := Lib.hid hc4
  have HI4 := Lib.hid hi4
  clear hc hc4 hi4 hb4 y0 y1 HI2b HI3 HX2 HY2 HN2 HM2 HB2
  go_wp2_with fail
  have HSq := Lib.hid (fun (W : World) (h : IntAt W o3 l3) => signed_ref true o3 c3 l3 (Q + 1) q W h HP3.out.1 HP3.out.2.2.2 HP3.out.2.1 HP3.out.2.2.1 HQ.out)
  have HSr := Lib.hid (fun (W : World) (h : IntAt W o4 (Rf.tens (B - R))) => signed_ref false o4 c4 (Rf.tens (B - R)) (B - R) r W h HC4.out (by omega) (Rf.digs_tens _) (Rf.valT_tens _) HR.out)
  have HS0 := Lib.hid (SR.mk (W := World.drew _) HX3.out.drew HY3.out.drew HB3.out.drew)
  have HNd := Lib.hid HN3.out.drew
  have HMd := Lib.hid HM3.out.drew
  have HBd := Lib.hid HB3.out.drew
  have HId := Lib.hid HI3b.out.drew
  have HJd := Lib.hid HI4.out.drew
  refine wp_region_held_drew (S := SR w.heap.size w.heap.size (w.heap.size + 1) w (.bool true) (.slice oa na ca) (.bool false) (.slice ob nb cb)) (by kernel_rfl) HS0.out (fun hS => ?_)
  refine wpAnyH_take (i := 0) (v := ?hlv1) rfl (by kernel_rfl) (by kernel_rfl) (by kernel_rfl) (fun _ _ _ h => h) (Or.inl ⟨by rfl, ?hly1⟩) (by assumption) ?hlr1
  case hly1 => (intro w hSw; (try unfold SR at hSw); (try dsimp only at hSw); go_simp; (try with_reducible rfl))
  (try simp only [Act.put, List.setIfInBounds_toArray, List.set_cons_zero, List.set_cons_succ])
  refine wpAnyH_take (i := 1) (v := ?hlv2) rfl (by kernel_rfl) (by kernel_rfl) (by kernel_rfl) (fun _ _ _ h => h) (Or.inl ⟨by rfl, ?hly2⟩) (by assumption) ?hlr2
  case hly2 => (intro w hSw; (try unfold SR at hSw); (try dsimp only at hSw); go_simp; (try with_reducible rfl))
  (try simp only [Act.put, List.setIfInBounds_toArray, List.set_cons_zero, List.set_cons_succ])
  refine wpAnyH_take (i := 2) (v := ?hlv3) rfl (by kernel_rfl) (by kernel_rfl) (by kernel_rfl) (fun _ _ _ h => h) (Or.inl ⟨by rfl, ?hly3⟩) (by assumption) ?hlr3
  case hly3 => (intro w hSw; (try unfold SR at hSw); (try dsimp only at hSw); go_simp; (try with_reducible rfl))
  (try simp only [Act.put, List.setIfInBounds_toArray, List.set_cons_zero, List.set_cons_succ])
  refine wpAnyH_take (i := 3) (v := ?hlv4) rfl (by kernel_rfl) (by kernel_rfl) (by kernel_rfl) (fun _ _ _ h => h) (Or.inl ⟨by rfl, ?hly4⟩) (by assumption) ?hlr4
  case hly4 => (intro w hSw; (try unfold SR at hSw); (try dsimp only at hSw); go_simp; (try with_reducible rfl))
  (try simp only [Act.put, List.setIfInBounds_toArray, List.set_cons_zero, List.set_cons_succ])
  refine wpAnyH_take (i := 4) (v := ?hlv5) rfl (by kernel_rfl) (by kernel_rfl) (by kernel_rfl) (fun _ _ _ h => h) (Or.inl ⟨by rfl, ?hly5⟩) (by assumption) ?hlr5
  case hly5 => (intro w hSw; (try unfold SR at hSw); (try dsimp only at hSw); go_simp; (try with_reducible rfl))
  (try simp only [Act.put, List.setIfInBounds_toArray, List.set_cons_zero, List.set_cons_succ])
  refine wpAnyH_take (i := 5) (v := ?hlv6) rfl (by kernel_rfl) (by kernel_rfl) (by kernel_rfl) (fun _ _ _ h => h) (Or.inl ⟨by rfl, ?hly6⟩) (by assumption) ?hlr6
  case hly6 => (intro w hSw; (try unfold SR at hSw); (try dsimp only at hSw); go_simp; (try with_reducible rfl))
  (try simp only [Act.put, List.setIfInBounds_toArray, List.set_cons_zero, List.set_cons_succ])
  refine wpAnyH_take (i := 7) (v := ?hlv7) rfl (by kernel_rfl) (by kernel_rfl) (by kernel_rfl) (fun _ _ _ h => h) (Or.inl ⟨by rfl, ?hly7⟩) (by assumption) ?hlr7
  case hly7 => (intro w hSw; (try unfold SR at hSw); (try dsimp only at hSw); go_simp; (try with_reducible rfl))
  (try simp only [Act.put, List.setIfInBounds_toArray, List.set_cons_zero, List.set_cons_succ])
  refine wpAnyH_take (i := 8) (v := ?hlv8) rfl (by kernel_rfl) (by kernel_rfl) (by kernel_rfl) (fun _ _ _ h => h) (Or.inl ⟨by rfl, ?hly8⟩) (by assumption) ?hlr8
  case hly8 => (intro w hSw; (try unfold SR at hSw); (try dsimp only at hSw); go_simp; (try with_reducible rfl))
  (try simp only [Act.put, List.setIfInBounds_toArray, List.set_cons_zero, List.set_cons_succ])
  refine wpAnyH_take (i := 9) (v := ?hlv9) rfl (by kernel_rfl) (by kernel_rfl) (by kernel_rfl) (fun _ _ _ h => h) (Or.inl ⟨by rfl, ?hly9⟩) (by assumption) ?hlr9
  case hly9 => (intro w hSw; (try unfold SR at hSw); (try dsimp only at hSw); go_simp; (try with_reducible rfl))
  (try simp only [Act.put, List.setIfInBounds_toArray, List.set_cons_zero, List.set_cons_succ])
  refine wpAnyH_ready (rs := [6]) (by kernel_rfl) (by simp) ?_
  refine AllReadyH.one rfl ?_ AllReadyH.nil
  intro K hK
  go_simp
  refine (HSq.out _ HId.out).mono ?_
  rintro e w5 ⟨o5, c5, rfl, hr5, hb5⟩
  unfold rnV
  refine hK.out _ _ (SR.kept hS HBd.out.size hb5) (fun hS5 => ?_)
  clear hK K
  have HN5 := Lib.hid (HNd.out.below hb5 HNd.out.lt)
  have HM5 := Lib.hid (HMd.out.below hb5 HMd.out.lt)
  have HB5 := Lib.hid (HBd.out.trans (hb5.mono HBd.out.size))
  have HJ5 := Lib.hid (HJd.out.mono hb5)
  have HR5 := Lib.hid hr5
  clear hb5 hr5
  refine wpAnyH_ready (rs := [10]) (by kernel_rfl) (by simp) ?_
  refine AllReadyH.one rfl ?_ AllReadyH.nil
  intro K hK
  go_simp
  refine (HSr.out _ HJ5.out).mono ?_
  rintro e w6 ⟨o6, c6, rfl, hr6, hb6⟩
  unfold rnV
  refine hK.out _ _ (SR.kept hS5 HB5.out.size hb6) (fun hS6 => ?_)
  clear hK K
  have HN6 := Lib.hid (HN5.out.below hb6 HN5.out.lt)
  have HM6 := Lib.hid (HM5.out.below hb6 HM5.out.lt)
  have HB6 := Lib.hid (HB5.out.trans (hb6.mono HB5.out.size))
  have HR6 := Lib.hid (HR5.out.mono hb6)
  have HT6 := Lib.hid hr6
  clear hb6 hr6
  have f0 := HN6.out.fz 0
  have f1 := HN6.out.fz 1
  have c0 := HN6.out.c0
  have c1 := HN6.out.c1
  refine wpAnyH_ready (rs := [11]) (by kernel_rfl) (by simp) ?_
  refine AllReadyH.one rfl ?_ AllReadyH.nil
  intro K hK
  go_simp
  refine hK.out _ _ (SR.put hS6 (w.heap.size + 1 + 1) (by omega) (by omega) (by omega) _ _) (fun hS7 => ?_)
  clear hK K f0 f1 c0 c1
  have hM7 := (HM6.out.other ⟨w.heap.size + 1 + 1, 0, none⟩ (by simp) (.bool (decide (q < 0)))).other ⟨w.heap.size + 1 + 1, 1, none⟩ (by simp) (.slice o5 (Rf.tens q.natAbs).length c5)
  have f0 := hM7.fz 0
  have f1 := hM7.fz 1
  have c0 := hM7.c0
  have c1 := hM7.c1
  have HM7 := Lib.hid hM7
  clear hM7
  refine wpAnyH_ready (rs := [12]) (by kernel_rfl) (by simp) ?_
  refine AllReadyH.one rfl ?_ AllReadyH.nil
  intro K hK
  go_simp
  refine hK.out _ _ (SR.put hS7 (w.heap.size + 1 + 1 + 1) (by omega) (by omega) (by omega) _ _) (fun hS8 => ?_)
  clear hK K f0 f1 c0 c1
  refine wpAnyH_done (by kernel_rfl) ?_ _
  (try simp only [Act.put, List.setIfInBounds_toArray, List.set_cons_zero, List.set_cons_succ])
  go_wp2_with fail
  refine ret_rb2 rfl rfl rfl rfl (((HN6.out.put _ _).other ⟨w.heap.size + 1 + 1 + 1, 0, none⟩ (by simp) (.bool (decide (r < 0)))).other ⟨w.heap.size + 1 + 1 + 1, 1, none⟩ (by simp) (.slice o6 (Rf.tens r.natAbs).length c6)) (HM7.out.put _ _) ?_
  exact ⟨o5, c5, o6, c6, rfl, ⟨HR6.out.1, intAt_put_rb HM7.out (intAt_put_rb HN6.out HR6.out.2 _ _) _ _⟩, ⟨HT6.out.1, intAt_put_rb HM7.out (intAt_put_rb HN6.out HT6.out.2 _ _) _ _⟩, below_put (below_put HB6.out (by omega) _ _) (by omega) _ _⟩

theorem floor_ref (x y : Int) (oa ob : Option Addr) (ca cb : Nat) (w : World) (hx : RAt w oa ca x) (hy : RAt w ob cb y) (lx : (Rf.tens x.natAbs).length ≤ 1000) (ly : (Rf.tens y.natAbs).length ≤ 1000) (hy0 : y ≠ 0) :
    Calls Tryz.prog 64 #[rnV x oa ca, rnV y ob cb] w (RetF (x.fdiv y) (x.fmod y) w) := by
  by_cases h1 : x < 0 <;> by_cases h2 : y < 0
  · exact floor_same_nn x y _ _ oa ob ca cb w hx hy lx ly hy0 h1 h2 rfl rfl
  · by_cases h3 : x.natAbs % y.natAbs = 0
    · exact floor_zero_np x y _ _ oa ob ca cb w hx hy lx ly hy0 h1 h2 h3 rfl rfl
    · exact floor_up_np x y _ _ oa ob ca cb w hx hy lx ly hy0 h1 h2 h3 rfl rfl
  · by_cases h3 : x.natAbs % y.natAbs = 0
    · exact floor_zero_pn x y _ _ oa ob ca cb w hx hy lx ly hy0 h1 h2 h3 rfl rfl
    · exact floor_up_pn x y _ _ oa ob ca cb w hx hy lx ly hy0 h1 h2 h3 rfl rfl
  · exact floor_same_pp x y _ _ oa ob ca cb w hx hy lx ly hy0 h1 h2 rfl rfl
end Go.Proofs.YthbfbpbppjkoeaaGreatDoor
/- Contracts of Div, Mod, Gcd of package proteusref03. Conditions: those in the statements. -/
namespace Go.Proofs.YthbfbpbppjkoeaaGreatDoor
open Go.RowKit Go.Shelf
set_option maxRecDepth 100000
set_option linter.unusedVariables false
set_option linter.unusedSimpArgs false
set_option exponentiation.threshold 500

theorem fdiv_len {x y : Int} (lx : (Rf.tens x.natAbs).length ≤ 400) (ly : (Rf.tens y.natAbs).length ≤ 400) (hy : y ≠ 0) : (Rf.tens (x.fdiv y).natAbs).length ≤ 100000 := by
  refine Nat.le_trans (tens_len_pow (k := 401) ?_ (by decide)) (by decide)
  have h1 := Nat.lt_of_lt_of_le (tens_lt_pow x.natAbs) (Nat.pow_le_pow_right (by decide : 0 < 10) lx)
  have hq : x.natAbs / y.natAbs ≤ x.natAbs := Nat.div_le_self _ _
  have h3 : (x.fdiv y).natAbs ≤ x.natAbs + 1 := by
    by_cases hs : (x < 0) = (y < 0)
    · have h5 := (fl_same hy hs).1
      clear h1
      generalize x.natAbs / y.natAbs = q at *
      omega
    · have hs' : (x < 0) = ¬ (y < 0) := by by_cases a : x < 0 <;> by_cases b : y < 0 <;> simp [a, b] at hs ⊢
      by_cases hr : x.natAbs % y.natAbs = 0
      · have h5 := (fl_zero hy hs' hr).1
        clear h1 hr
        generalize x.natAbs / y.natAbs = q at *
        omega
      · have h5 := (fl_up hy hs' hr).1
        clear h1 hr
        generalize x.natAbs / y.natAbs = q at *
        omega
  have h4 : (10 : Nat) ^ 401 = 10 ^ 400 * 10 := Nat.pow_succ ..
  rw [h4]
  generalize (10 : Nat) ^ 400 = P at *
  omega
theorem fmod_len {x y : Int} (ly : (Rf.tens y.natAbs).length ≤ 400) (hy : y ≠ 0) : (Rf.tens (x.fmod y).natAbs).length ≤ 100000 := by
  refine Nat.le_trans (tens_len_mono (b := y.natAbs) ?_) (by omega)
  have := Bg.fmod_range x hy
  omega

set_option maxHeartbeats 1000000 in
theorem DivRef_no (K N K' N' : Int) (T T' : List UInt8) (w : World) (h : (∀ z, ¬ IsNum K N T z) ∨ ∀ z, ¬ IsNum K' N' T' z) (hN : In64Z N) (hN' : In64Z N') (hT : T.length ≤ 1000) (hT' : T'.length ≤ 1000) :
    Calls Tryz.prog 34 #[valV K N T, valV K' N' T'] w fun e w' => RetN 0 0 [] 31 w e w' := by
  have HBo := Lib.hid (fun W => both_no K N K' N' T T' h hN hN' hT hT' W)
  have HBx := Lib.hid (boxesA3 w (.int .i64 K) (.int .i64 N) (.string ⟨T.toArray⟩) (.int .i64 K') (.int .i64 N') (.string ⟨T'.toArray⟩))
  clear h hN hN' hT hT'
  unfold valV at *
  go_enter Tryz.func34, Tryz.ntmps34
  go_wp2_with fail
  refine (HBo.out _).mono ?_
  rintro e w1 ⟨⟨b, o, n, c, b', o', n', c', rfl⟩, hb1⟩
  have hV1 := HBx.out.1.below hb1 HBx.out.1.lt
  have H1 := HBx.out.2.trans (hb1.mono HBx.out.2.size)
  have hV := (hV1.alloc (.cells #[.bool b, .slice o n c] 52)).alloc (.cells #[.bool b', .slice o' n' c'] 52)
  have H2 := Lib.hid ((H1.alloc H1.size (.cells #[.bool b, .slice o n c] 52)).alloc (by have := H1.size; simp; omega) (.cells #[.bool b', .slice o' n' c'] 52))
  have v0 := hV.c0
  have v1 := hV.c1
  have v2 := hV.c2
  have f0 := hV.fz 0
  have f1 := hV.fz 1
  have f2 := hV.fz 2
  have HV := Lib.hid hV
  clear hb1 hV hV1 H1
  go_wp2_with fail
  exact ret_val_err rfl rfl rfl rfl (HV.out.put _ _ _) ⟨rfl, below_put3 H2.out (by omega) _ _ _⟩

set_option maxHeartbeats 2000000 in
theorem DivRef_ok {K N x K' N' y A B E z : Int} {T T' S : List UInt8} (h : IsNum K N T x) (h' : IsNum K' N' T' y) (ha : Ans A B S E z) (hy0 : y ≠ 0) (hz : x.fdiv y = z) (w : World) :
    Calls Tryz.prog 34 #[valV K N T, valV K' N' T'] w fun e w' => RetN A B S E w e w' := by
  have HBo := Lib.hid (fun W => both_yes h h' W)
  have HBx := Lib.hid (boxesA3 w (.int .i64 K) (.int .i64 N) (.string ⟨T.toArray⟩) (.int .i64 K') (.int .i64 N') (.string ⟨T'.toArray⟩))
  have lx := num_len h
  have ly := num_len h'
  have lz : (Rf.tens z.natAbs).length ≤ 100000 := by rw [← hz]; exact fdiv_len lx ly hy0
  have HFl := Lib.hid (fun (W : World) (oa : Option Addr) (ca : Nat) (ob : Option Addr) (cb : Nat) (hx : RAt W oa ca x) (hy : RAt W ob cb y) => floor_ref x y oa ob ca cb W hx hy (by omega) (by omega) hy0)
  have HVl := Lib.hid (fun (W : World) (o : Option Addr) (c : Nat) (h : RAt W o c z) => value_ans ha o c W h lz)
  have hlp : 0 < (Rf.tens y.natAbs).length := by have := mt Rf.tens_length_zero.1 (show y.natAbs ≠ 0 by omega); omega
  have dn1 : (((Rf.tens y.natAbs).length : Int) == 0) = false := beq_eq_false_iff_ne.2 (by omega)
  have dn2 : ((Rf.tens y.natAbs).length == 0) = false := beq_eq_false_iff_ne.2 (by omega)
  rw [hz] at HFl
  generalize hw2 : x.fmod y = z2 at HFl
  clear h h' ha hz lx ly lz hy0 hlp hw2
  unfold valV at *
  go_enter Tryz.func34, Tryz.ntmps34
  go_wp2_with fail
  refine (HBo.out _).mono ?_
  rintro e w1 ⟨oa, ca, ob, cb, rfl, hr1, hr2, hb1⟩
  clear HBo
  unfold rnV at *
  generalize hdx : decide (x < 0) = bx at *
  generalize hdy : decide (y < 0) = by' at *
  generalize hlx : (Rf.tens x.natAbs).length = nx at *
  generalize hly : (Rf.tens y.natAbs).length = ny at *
  have HDX := Lib.hid hdx
  have HDY := Lib.hid hdy
  have HLX := Lib.hid hlx
  have HLY := Lib.hid hly
  clear hdx hdy hlx hly
  have H1 := HBx.out.2.trans (hb1.mono HBx.out.2.size)
  have HA2 := Lib.hid ((RB.new w1 (.bool bx) (.slice oa nx ca)).alloc (.cells #[.bool by', .slice ob ny cb] 52))
  have HB2 := Lib.hid (boxesR2 w1 (.bool bx) (.slice oa nx ca) (.bool by') (.slice ob ny cb)).2.1
  have hbb := (boxesR2 w1 (.bool bx) (.slice oa nx ca) (.bool by') (.slice ob ny cb)).2.2
  have HRx := Lib.hid (hr1.mono hbb)
  have HRy := Lib.hid (hr2.mono hbb)
  have H2 := Lib.hid (H1.trans (hbb.mono H1.size))
  have HSz := Lib.hid H1.size
  have hV1 := HBx.out.1.below hb1 HBx.out.1.lt
  have HV := Lib.hid ((hV1.alloc (.cells #[.bool bx, .slice oa nx ca] 52)).alloc (.cells #[.bool by', .slice ob ny cb] 52))
  have HLt := Lib.hid hV1.lt
  clear hb1 hbb hr1 hr2 H1 HBx hV1
  have x0 := HA2.out.c0
  have x1 := HA2.out.c1
  have y0 := HB2.out.c0
  have y1 := HB2.out.c1
  go_wp2_with fail
  have hc := HFl.out _ oa ca ob cb HRx.out HRy.out
  (try unfold rnV at hc)
  refine hc.mono ?_
  rintro e w2 ⟨o1, c1, o2, c2, rfl, hr1, hr2, hb2⟩
  clear hc x0 x1 y0 y1 dn1 dn2
  unfold rnV
  have H3 := H2.out.trans (hb2.mono H2.out.size)
  have hV2 := HV.out.below hb2 HV.out.lt
  generalize hd1 : decide (z < 0) = d1 at *
  generalize hd2 : decide (z2 < 0) = d2 at *
  generalize hl1 : (Rf.tens (z).natAbs).length = l1 at *
  generalize hl2 : (Rf.tens (z2).natAbs).length = l2 at *
  have HD1 := Lib.hid hd1
  have HD2 := Lib.hid hd2
  have HL1 := Lib.hid hl1
  have HL2 := Lib.hid hl2
  obtain ⟨hX, hY, hbb⟩ := boxesR2 w2 (.bool d1) (.slice o1 l1 c1) (.bool d2) (.slice o2 l2 c2)
  have HRz := Lib.hid (hr1.mono hbb)
  have H4 := Lib.hid (H3.trans (hbb.mono H3.size))
  have HV3 := Lib.hid (hV2.below hbb hV2.lt)
  have z0 := hX.c0
  have z1 := hX.c1
  clear hd1 hd2 hl1 hl2 hX hY hbb hb2 hr1 hr2 H3 hV2
  go_wp2_with fail
  have hc := HVl.out _ o1 c1 HRz.out
  (try unfold rnV at hc)
  (try rw [HD1.out, HL1.out] at hc)
  refine hc.mono ?_
  rintro e w3 ⟨rfl, hb3⟩
  clear hc z0 z1
  unfold valV
  have HVv := Lib.hid (HV3.out.below hb3 HV3.out.lt)
  have H5 := Lib.hid (H4.out.trans (hb3.mono H4.out.size))
  clear hb3
  have hV3 := HVv.out
  have v0 := hV3.c0
  have v1 := hV3.c1
  have v2 := hV3.c2
  have f0 := hV3.fz 0
  have f1 := hV3.fz 1
  have f2 := hV3.fz 2
  clear hV3
  go_wp2_with fail
  exact ret_val_err rfl rfl rfl rfl (HVv.out.put _ _ _) ⟨rfl, below_put3 H5.out (by omega) _ _ _⟩

set_option maxHeartbeats 2000000 in
theorem DivRef_zero {K N x K' N' y : Int} {T T' : List UInt8} (h : IsNum K N T x) (h' : IsNum K' N' T' y) (hy0 : y = 0) (w : World) :
    Calls Tryz.prog 34 #[valV K N T, valV K' N' T'] w fun e w' => RetN 0 0 [] 30 w e w' := by
  have HBo := Lib.hid (fun W => both_yes h h' W)
  have HBx := Lib.hid (boxesA3 w (.int .i64 K) (.int .i64 N) (.string ⟨T.toArray⟩) (.int .i64 K') (.int .i64 N') (.string ⟨T'.toArray⟩))
  have dn0 : (Rf.tens y.natAbs).length = 0 := by rw [hy0]; exact Rf.tens_length_zero.2 rfl
  have HDn := Lib.hid dn0
  clear h h' hy0 dn0
  unfold valV at *
  go_enter Tryz.func34, Tryz.ntmps34
  go_wp2_with fail
  refine (HBo.out _).mono ?_
  rintro e w1 ⟨oa, ca, ob, cb, rfl, hr1, hr2, hb1⟩
  clear HBo
  unfold rnV at *
  generalize hdx : decide (x < 0) = bx at *
  generalize hdy : decide (y < 0) = by' at *
  generalize hlx : (Rf.tens x.natAbs).length = nx at *
  generalize hly : (Rf.tens y.natAbs).length = ny at *
  have HDX := Lib.hid hdx
  have HDY := Lib.hid hdy
  have HLX := Lib.hid hlx
  have HLY := Lib.hid hly
  clear hdx hdy hlx hly
  have H1 := HBx.out.2.trans (hb1.mono HBx.out.2.size)
  have HA2 := Lib.hid ((RB.new w1 (.bool bx) (.slice oa nx ca)).alloc (.cells #[.bool by', .slice ob ny cb] 52))
  have HB2 := Lib.hid (boxesR2 w1 (.bool bx) (.slice oa nx ca) (.bool by') (.slice ob ny cb)).2.1
  have hbb := (boxesR2 w1 (.bool bx) (.slice oa nx ca) (.bool by') (.slice ob ny cb)).2.2
  have HRx := Lib.hid (hr1.mono hbb)
  have HRy := Lib.hid (hr2.mono hbb)
  have H2 := Lib.hid (H1.trans (hbb.mono H1.size))
  have HSz := Lib.hid H1.size
  have hV1 := HBx.out.1.below hb1 HBx.out.1.lt
  have HV := Lib.hid ((hV1.alloc (.cells #[.bool bx, .slice oa nx ca] 52)).alloc (.cells #[.bool by', .slice ob ny cb] 52))
  have HLt := Lib.hid hV1.lt
  clear hb1 hbb hr1 hr2 H1 HBx hV1
  have x0 := HA2.out.c0
  have x1 := HA2.out.c1
  have y0 := HB2.out.c0
  have y1 := HB2.out.c1
  obtain rfl := HDn.out
  have hV3 := HV.out
  have v0 := hV3.c0
  have v1 := hV3.c1
  have v2 := hV3.c2
  have f0 := hV3.fz 0
  have f1 := hV3.fz 1
  have f2 := hV3.fz 2
  clear hV3
  go_wp2_with fail
  exact ret_val_err rfl rfl rfl rfl (HV.out.put _ _ _) ⟨rfl, below_put3 H2.out (by omega) _ _ _⟩

set_option maxHeartbeats 1000000 in
theorem ModRef_no (K N K' N' : Int) (T T' : List UInt8) (w : World) (h : (∀ z, ¬ IsNum K N T z) ∨ ∀ z, ¬ IsNum K' N' T' z) (hN : In64Z N) (hN' : In64Z N') (hT : T.length ≤ 1000) (hT' : T'.length ≤ 1000) :
    Calls Tryz.prog 36 #[valV K N T, valV K' N' T'] w fun e w' => RetN 0 0 [] 31 w e w' := by
  have HBo := Lib.hid (fun W => both_no K N K' N' T T' h hN hN' hT hT' W)
  have HBx := Lib.hid (boxesA3 w (.int .i64 K) (.int .i64 N) (.string ⟨T.toArray⟩) (.int .i64 K') (.int .i64 N') (.string ⟨T'.toArray⟩))
  clear h hN hN' hT hT'
  unfold valV at *
  go_enter Tryz.func36, Tryz.ntmps36
  go_wp2_with fail
  refine (HBo.out _).mono ?_
  rintro e w1 ⟨⟨b, o, n, c, b', o', n', c', rfl⟩, hb1⟩
  have hV1 := HBx.out.1.below hb1 HBx.out.1.lt
  have H1 := HBx.out.2.trans (hb1.mono HBx.out.2.size)
  have hV := (hV1.alloc (.cells #[.bool b, .slice o n c] 52)).alloc (.cells #[.bool b', .slice o' n' c'] 52)
  have H2 := Lib.hid ((H1.alloc H1.size (.cells #[.bool b, .slice o n c] 52)).alloc (by have := H1.size; simp; omega) (.cells #[.bool b', .slice o' n' c'] 52))
  have v0 := hV.c0
  have v1 := hV.c1
  have v2 := hV.c2
  have f0 := hV.fz 0
  have f1 := hV.fz 1
  have f2 := hV.fz 2
  have HV := Lib.hid hV
  clear hb1 hV hV1 H1
  go_wp2_with fail
  exact ret_val_err rfl rfl rfl rfl (HV.out.put _ _ _) ⟨rfl, below_put3 H2.out (by omega) _ _ _⟩

set_option maxHeartbeats 2000000 in
theorem ModRef_ok {K N x K' N' y A B E z : Int} {T T' S : List UInt8} (h : IsNum K N T x) (h' : IsNum K' N' T' y) (ha : Ans A B S E z) (hy0 : y ≠ 0) (hz : x.fmod y = z) (w : World) :
    Calls Tryz.prog 36 #[valV K N T, valV K' N' T'] w fun e w' => RetN A B S E w e w' := by
  have HBo := Lib.hid (fun W => both_yes h h' W)
  have HBx := Lib.hid (boxesA3 w (.int .i64 K) (.int .i64 N) (.string ⟨T.toArray⟩) (.int .i64 K') (.int .i64 N') (.string ⟨T'.toArray⟩))
  have lx := num_len h
  have ly := num_len h'
  have lz : (Rf.tens z.natAbs).length ≤ 100000 := by rw [← hz]; exact fmod_len ly hy0
  have HFl := Lib.hid (fun (W : World) (oa : Option Addr) (ca : Nat) (ob : Option Addr) (cb : Nat) (hx : RAt W oa ca x) (hy : RAt W ob cb y) => floor_ref x y oa ob ca cb W hx hy (by omega) (by omega) hy0)
  have HVl := Lib.hid (fun (W : World) (o : Option Addr) (c : Nat) (h : RAt W o c z) => value_ans ha o c W h lz)
  have hlp : 0 < (Rf.tens y.natAbs).length := by have := mt Rf.tens_length_zero.1 (show y.natAbs ≠ 0 by omega); omega
  have dn1 : (((Rf.tens y.natAbs).length : Int) == 0) = false := beq_eq_false_iff_ne.2 (by omega)
  have dn2 : ((Rf.tens y.natAbs).length == 0) = false := beq_eq_false_iff_ne.2 (by omega)
  rw [hz] at HFl
  generalize hw2 : x.fdiv y = z2 at HFl
  clear h h' ha hz lx ly lz hy0 hlp hw2
  unfold valV at *
  go_enter Tryz.func36, Tryz.ntmps36
  go_wp2_with fail
  refine (HBo.out _).mono ?_
  rintro e w1 ⟨oa, ca, ob, cb, rfl, hr1, hr2, hb1⟩
  clear HBo
  unfold rnV at *
  generalize hdx : decide (x < 0) = bx at *
  generalize hdy : decide (y < 0) = by' at *
  generalize hlx : (Rf.tens x.natAbs).length = nx at *
  generalize hly : (Rf.tens y.natAbs).length = ny at *
  have HDX := Lib.hid hdx
  have HDY := Lib.hid hdy
  have HLX := Lib.hid hlx
  have HLY := Lib.hid hly
  clear hdx hdy hlx hly
  have H1 := HBx.out.2.trans (hb1.mono HBx.out.2.size)
  have HA2 := Lib.hid ((RB.new w1 (.bool bx) (.slice oa nx ca)).alloc (.cells #[.bool by', .slice ob ny cb] 52))
  have HB2 := Lib.hid (boxesR2 w1 (.bool bx) (.slice oa nx ca) (.bool by') (.slice ob ny cb)).2.1
  have hbb := (boxesR2 w1 (.bool bx) (.slice oa nx ca) (.bool by') (.slice ob ny cb)).2.2
  have HRx := Lib.hid (hr1.mono hbb)
  have HRy := Lib.hid (hr2.mono hbb)
  have H2 := Lib.hid (H1.trans (hbb.mono H1.size))
  have HSz := Lib.hid H1.size
  have hV1 := HBx.out.1.below hb1 HBx.out.1.lt
  have HV := Lib.hid ((hV1.alloc (.cells #[.bool bx, .slice oa nx ca] 52)).alloc (.cells #[.bool by', .slice ob ny cb] 52))
  have HLt := Lib.hid hV1.lt
  clear hb1 hbb hr1 hr2 H1 HBx hV1
  have x0 := HA2.out.c0
  have x1 := HA2.out.c1
  have y0 := HB2.out.c0
  have y1 := HB2.out.c1
  go_wp2_with fail
  have hc := HFl.out _ oa ca ob cb HRx.out HRy.out
  (try unfold rnV at hc)
  refine hc.mono ?_
  rintro e w2 ⟨o1, c1, o2, c2, rfl, hr1, hr2, hb2⟩
  clear hc x0 x1 y0 y1 dn1 dn2
  unfold rnV
  have H3 := H2.out.trans (hb2.mono H2.out.size)
  have hV2 := HV.out.below hb2 HV.out.lt
  generalize hd1 : decide (z2 < 0) = d1 at *
  generalize hd2 : decide (z < 0) = d2 at *
  generalize hl1 : (Rf.tens (z2).natAbs).length = l1 at *
  generalize hl2 : (Rf.tens (z).natAbs).length = l2 at *
  have HD1 := Lib.hid hd1
  have HD2 := Lib.hid hd2
  have HL1 := Lib.hid hl1
  have HL2 := Lib.hid hl2
  obtain ⟨hX, hY, hbb⟩ := boxesR2 w2 (.bool d1) (.slice o1 l1 c1) (.bool d2) (.slice o2 l2 c2)
  have HRz := Lib.hid (hr2.mono hbb)
  have H4 := Lib.hid (H3.trans (hbb.mono H3.size))
  have HV3 := Lib.hid (hV2.below hbb hV2.lt)
  have z0 := hY.c0
  have z1 := hY.c1
  clear hd1 hd2 hl1 hl2 hX hY hbb hb2 hr1 hr2 H3 hV2
  go_wp2_with fail
  have hc := HVl.out _ o2 c2 HRz.out
  (try unfold rnV at hc)
  (try rw [HD2.out, HL2.out] at hc)
  refine hc.mono ?_
  rintro e w3 ⟨rfl, hb3⟩
  clear hc z0 z1
  unfold valV
  have HVv := Lib.hid (HV3.out.below hb3 HV3.out.lt)
  have H5 := Lib.hid (H4.out.trans (hb3.mono H4.out.size))
  clear hb3
  have hV3 := HVv.out
  have v0 := hV3.c0
  have v1 := hV3.c1
  have v2 := hV3.c2
  have f0 := hV3.fz 0
  have f1 := hV3.fz 1
  have f2 := hV3.fz 2
  clear hV3
  go_wp2_with fail
  exact ret_val_err rfl rfl rfl rfl (HVv.out.put _ _ _) ⟨rfl, below_put3 H5.out (by omega) _ _ _⟩

set_option maxHeartbeats 2000000 in
theorem ModRef_zero {K N x K' N' y : Int} {T T' : List UInt8} (h : IsNum K N T x) (h' : IsNum K' N' T' y) (hy0 : y = 0) (w : World) :
    Calls Tryz.prog 36 #[valV K N T, valV K' N' T'] w fun e w' => RetN 0 0 [] 30 w e w' := by
  have HBo := Lib.hid (fun W => both_yes h h' W)
  have HBx := Lib.hid (boxesA3 w (.int .i64 K) (.int .i64 N) (.string ⟨T.toArray⟩) (.int .i64 K') (.int .i64 N') (.string ⟨T'.toArray⟩))
  have dn0 : (Rf.tens y.natAbs).length = 0 := by rw [hy0]; exact Rf.tens_length_zero.2 rfl
  have HDn := Lib.hid dn0
  clear h h' hy0 dn0
  unfold valV at *
  go_enter Tryz.func36, Tryz.ntmps36
  go_wp2_with fail
  refine (HBo.out _).mono ?_
  rintro e w1 ⟨oa, ca, ob, cb, rfl, hr1, hr2, hb1⟩
  clear HBo
  unfold rnV at *
  generalize hdx : decide (x < 0) = bx at *
  generalize hdy : decide (y < 0) = by' at *
  generalize hlx : (Rf.tens x.natAbs).length = nx at *
  generalize hly : (Rf.tens y.natAbs).length = ny at *
  have HDX := Lib.hid hdx
  have HDY := Lib.hid hdy
  have HLX := Lib.hid hlx
  have HLY := Lib.hid hly
  clear hdx hdy hlx hly
  have H1 := HBx.out.2.trans (hb1.mono HBx.out.2.size)
  have HA2 := Lib.hid ((RB.new w1 (.bool bx) (.slice oa nx ca)).alloc (.cells #[.bool by', .slice ob ny cb] 52))
  have HB2 := Lib.hid (boxesR2 w1 (.bool bx) (.slice oa nx ca) (.bool by') (.slice ob ny cb)).2.1
  have hbb := (boxesR2 w1 (.bool bx) (.slice oa nx ca) (.bool by') (.slice ob ny cb)).2.2
  have HRx := Lib.hid (hr1.mono hbb)
  have HRy := Lib.hid (hr2.mono hbb)
  have H2 := Lib.hid (H1.trans (hbb.mono H1.size))
  have HSz := Lib.hid H1.size
  have hV1 := HBx.out.1.below hb1 HBx.out.1.lt
  have HV := Lib.hid ((hV1.alloc (.cells #[.bool bx, .slice oa nx ca] 52)).alloc (.cells #[.bool by', .slice ob ny cb] 52))
  have HLt := Lib.hid hV1.lt
  clear hb1 hbb hr1 hr2 H1 HBx hV1
  have x0 := HA2.out.c0
  have x1 := HA2.out.c1
  have y0 := HB2.out.c0
  have y1 := HB2.out.c1
  obtain rfl := HDn.out
  have hV3 := HV.out
  have v0 := hV3.c0
  have v1 := hV3.c1
  have v2 := hV3.c2
  have f0 := hV3.fz 0
  have f1 := hV3.fz 1
  have f2 := hV3.fz 2
  clear hV3
  go_wp2_with fail
  exact ret_val_err rfl rfl rfl rfl (HV.out.put _ _ _) ⟨rfl, below_put3 H2.out (by omega) _ _ _⟩

set_option maxHeartbeats 1000000 in
theorem GcdRef_no (K N K' N' : Int) (T T' : List UInt8) (w : World) (h : (∀ z, ¬ IsNum K N T z) ∨ ∀ z, ¬ IsNum K' N' T' z) (hN : In64Z N) (hN' : In64Z N') (hT : T.length ≤ 1000) (hT' : T'.length ≤ 1000) :
    Calls Tryz.prog 40 #[valV K N T, valV K' N' T'] w fun e w' => RetN 0 0 [] 31 w e w' := by
  have HBo := Lib.hid (fun W => both_no K N K' N' T T' h hN hN' hT hT' W)
  have HBx := Lib.hid (boxesA3 w (.int .i64 K) (.int .i64 N) (.string ⟨T.toArray⟩) (.int .i64 K') (.int .i64 N') (.string ⟨T'.toArray⟩))
  clear h hN hN' hT hT'
  unfold valV at *
  go_enter Tryz.func40, Tryz.ntmps40
  go_wp2_with fail
  refine (HBo.out _).mono ?_
  rintro e w1 ⟨⟨b, o, n, c, b', o', n', c', rfl⟩, hb1⟩
  have hV1 := HBx.out.1.below hb1 HBx.out.1.lt
  have H1 := HBx.out.2.trans (hb1.mono HBx.out.2.size)
  have hV := (hV1.alloc (.cells #[.bool b, .slice o n c] 52)).alloc (.cells #[.bool b', .slice o' n' c'] 52)
  have H2 := Lib.hid ((H1.alloc H1.size (.cells #[.bool b, .slice o n c] 52)).alloc (by have := H1.size; simp; omega) (.cells #[.bool b', .slice o' n' c'] 52))
  have v0 := hV.c0
  have v1 := hV.c1
  have v2 := hV.c2
  have f0 := hV.fz 0
  have f1 := hV.fz 1
  have f2 := hV.fz 2
  have HV := Lib.hid hV
  clear hb1 hV hV1 H1
  go_wp2_with fail
  exact ret_val_err rfl rfl rfl rfl (HV.out.put _ _ _) ⟨rfl, below_put3 H2.out (by omega) _ _ _⟩

set_option maxHeartbeats 2000000 in
theorem GcdRef_ok {K N x K' N' y A B E z : Int} {T T' S : List UInt8} (h : IsNum K N T x) (h' : IsNum K' N' T' y) (ha : Ans A B S E z) (hz : (Int.gcd x y : Int) = z) (w : World) :
    Calls Tryz.prog 40 #[valV K N T, valV K' N' T'] w fun e w' => RetN A B S E w e w' := by
  have HBo := Lib.hid (fun W => both_yes h h' W)
  have HBx := Lib.hid (boxesA3 w (.int .i64 K) (.int .i64 N) (.string ⟨T.toArray⟩) (.int .i64 K') (.int .i64 N') (.string ⟨T'.toArray⟩))
  have lx := num_len h
  have ly := num_len h'
  have lz : (Rf.tens (Nat.gcd x.natAbs y.natAbs)).length ≤ 1000 := by
    by_cases hx0 : x.natAbs = 0
    · rw [hx0, Nat.gcd_zero_left]; omega
    · exact Nat.le_trans (tens_len_mono (Nat.gcd_le_left _ (by omega))) (by omega)
  have hzg : z = ((Nat.gcd x.natAbs y.natAbs : Nat) : Int) := hz.symm
  have HVl := Lib.hid (fun (W : World) (o : Option Addr) (c : Nat) (h : RAt W o c z) => value_ans ha o c W h (by rw [hzg, Int.natAbs_natCast]; omega))
  have HSg := Lib.hid (fun (g : Nat) (hg : g = Nat.gcd x.natAbs y.natAbs) (W : World) (o : Option Addr) (c : Nat) (h : IntAt W o (Rf.tens g)) (hc : (Rf.tens g).length ≤ c) => signed_ref false o c (Rf.tens g) g z W h hc (by rw [hg]; omega) (Rf.digs_tens _) (Rf.valT_tens _) (by rw [hzg, hg]; rfl))
  have HDv := Lib.hid (fun (c d : Nat) (W : World) (oc : Option Addr) (cc : Nat) (od : Option Addr) (cd : Nat) (h1 : IntAt W oc (Rf.tens c)) (h2 : IntAt W od (Rf.tens d)) (l1 : (Rf.tens c).length ≤ 400) (l2 : (Rf.tens d).length ≤ 400) (hd : 0 < d) => divide_ref c d oc od cc cd W h1 h2 (by omega) (by omega) hd)
  generalize hG : Nat.gcd x.natAbs y.natAbs = G at *
  have HG := Lib.hid hG
  clear h h' ha hz hzg lz hG
  unfold valV at *
  go_enter Tryz.func40, Tryz.ntmps40
  go_wp2_with fail
  refine (HBo.out _).mono ?_
  rintro e w1 ⟨oa, ca, ob, cb, rfl, hr1, hr2, hb1⟩
  clear HBo
  unfold rnV at *
  generalize hdx : decide (x < 0) = bx at *
  generalize hdy : decide (y < 0) = by' at *
  generalize hlx : (Rf.tens x.natAbs).length = nx at *
  generalize hly : (Rf.tens y.natAbs).length = ny at *
  have HDX := Lib.hid hdx
  have HDY := Lib.hid hdy
  have HLX := Lib.hid hlx
  have HLY := Lib.hid hly
  clear hdx hdy hlx hly
  have H1 := HBx.out.2.trans (hb1.mono HBx.out.2.size)
  have HA2 := Lib.hid ((RB.new w1 (.bool bx) (.slice oa nx ca)).alloc (.cells #[.bool by', .slice ob ny cb] 52))
  have HB2 := Lib.hid (boxesR2 w1 (.bool bx) (.slice oa nx ca) (.bool by') (.slice ob ny cb)).2.1
  have hbb := (boxesR2 w1 (.bool bx) (.slice oa nx ca) (.bool by') (.slice ob ny cb)).2.2
  have HRx := Lib.hid (hr1.mono hbb)
  have HRy := Lib.hid (hr2.mono hbb)
  have H2 := Lib.hid (H1.trans (hbb.mono H1.size))
  have HSz := Lib.hid H1.size
  have hV1 := HBx.out.1.below hb1 HBx.out.1.lt
  have HV := Lib.hid ((hV1.alloc (.cells #[.bool bx, .slice oa nx ca] 52)).alloc (.cells #[.bool by', .slice ob ny cb] 52))
  have HLt := Lib.hid hV1.lt
  clear hb1 hbb hr1 hr2 H1 HBx hV1
  have x0 := HA2.out.c0
  have x1 := HA2.out.c1
  have y0 := HB2.out.c0
  have y1 := HB2.out.c1
  go_wp2_with fail
  clear x0 x1 y0 y1
  generalize hW0 : (w1.alloc (.cells #[.bool bx, .slice oa nx ca] 52)).alloc (.cells #[.bool by', .slice ob ny cb] 52) = W0 at *
  obtain ⟨a, hxa⟩ : ∃ a, x.natAbs = a := ⟨_, rfl⟩
  obtain ⟨b, hyb⟩ : ∃ b, y.natAbs = b := ⟨_, rfl⟩
  have hxI := HRx.out
  have hyI := HRy.out
  unfold RAt at hxI hyI
  have h3 := HG.out
  have h1 := HLX.out
  have h2 := HLY.out
  rw [hxa] at hxI h1
  rw [hyb] at hyI h2
  rw [hxa, hyb] at h3
  rw [← h1, ← h2]
  have HX := Lib.hid hxI
  have HY := Lib.hid hyI
  have HG2 := Lib.hid h3
  have HL := Lib.hid (show (Rf.tens a).length ≤ 400 ∧ (Rf.tens b).length ≤ 400 from ⟨by rw [h1]; exact lx, by rw [h2]; exact ly⟩)
  clear hxI hyI hxa hyb h1 h2 h3 hW0 HA2 HB2 HRx HRy HDX HDY HLX HLY HG lx ly
  go_loopg [9, 10, 11, 12] b (fun g cv dv rv r2 wr => ∃ (c d : Nat) (oc : Option Addr) (cc : Nat) (od : Option Addr) (cd : Nat), cv = .slice oc (Rf.tens c).length cc ∧ dv = .slice od (Rf.tens d).length cd ∧ Hid (Nat.gcd c d = G) ∧ Hid (IntAt wr oc (Rf.tens c) ∧ IntAt wr od (Rf.tens d) ∧ (Rf.tens c).length ≤ cc ∧ (Rf.tens d).length ≤ cd ∧ (Rf.tens c).length ≤ 400 ∧ (Rf.tens d).length ≤ 400) ∧ Hid (VB wr (w.heap.size + 1 + 1) (.int .i64 0) (.int .i64 0) (.string ⟨#[]⟩)) ∧ Hid (Below w.heap.size w wr) ∧ g = d)
  case atStart => exact ⟨a, b, oa, ca, ob, cb, rfl, rfl, HG2, Lib.hid ⟨HX.out.2, HY.out.2, HX.out.1, HY.out.1, HL.out.1, HL.out.2⟩, HV, H2, rfl⟩
  case round =>
    obtain ⟨c, d, oc, cc, od, cd, rfl, rfl, HGc, HI, HVr, HBr, hg⟩ := hrel
    clear HX HY HG2 HL HV H2
    by_cases hd0 : d = 0
    · have hgc : c = G := by rw [← HGc.out, hd0, Nat.gcd_zero_right]
      have hn0 : (Rf.tens d).length = 0 := by rw [hd0, Rf.tens_zero]; rfl
      have HSg2 := Lib.hid (HSg.out c hgc wr oc cc HI.out.1 HI.out.2.2.1)
      clear hgc hd0
      generalize (Rf.tens d).length = nd at *
      subst hn0
      go_wp2_with fail
      refine HSg2.out.mono ?_
      rintro e w2 ⟨o2, c2, rfl, hr2, hb2⟩
      unfold rnV
      have HR2 := Lib.hid hr2
      have HV2 := Lib.hid (HVr.out.below hb2 HVr.out.lt)
      have H3 := Lib.hid (HBr.out.trans (hb2.mono HBr.out.size))
      clear hr2 hb2
      go_wp2_with fail
      have hc := HVl.out _ o2 c2 HR2.out
      (try unfold rnV at hc)
      refine hc.mono ?_
      rintro e w3 ⟨rfl, hb3⟩
      clear hc
      unfold valV
      have HVv := Lib.hid (HV2.out.below hb3 HV2.out.lt)
      have H5 := Lib.hid (H3.out.trans (hb3.mono H3.out.size))
      clear hb3
      have hV3 := HVv.out
      have v0 := hV3.c0
      have v1 := hV3.c1
      have v2 := hV3.c2
      have f0 := hV3.fz 0
      have f1 := hV3.fz 1
      have f2 := hV3.fz 2
      clear hV3
      go_wp2_with fail
      exact ret_val_err rfl rfl rfl rfl (HVv.out.put _ _ _) ⟨rfl, below_put3 H5.out (by omega) _ _ _⟩
    · have hdp : 0 < d := by omega
      have hnp : 0 < (Rf.tens d).length := by have := mt Rf.tens_length_zero.1 hd0; omega
      have HDv2 := Lib.hid (HDv.out c d wr oc cc od cd HI.out.1 HI.out.2.1 HI.out.2.2.2.2.1 HI.out.2.2.2.2.2 hdp)
      have HId := Lib.hid HI.out.2.1
      have HLd := Lib.hid HI.out.2.2.2.2.2
      have HCd := Lib.hid HI.out.2.2.2.1
      have HLt := Lib.hid (Nat.mod_lt c hdp)
      have HGn := Lib.hid (show Nat.gcd d (c % d) = G by rw [← HGc.out, Nat.gcd_comm c d, Nat.gcd_rec d c, Nat.gcd_comm])
      obtain ⟨nd, hnd⟩ : ∃ nd, (Rf.tens d).length = nd := ⟨_, rfl⟩
      have HNd := Lib.hid hnd
      rw [hnd] at hnp ⊢
      rw [hnd] at HDv2
      have dn1 : decide ((0 : Int) < (nd : Int)) = true := decide_eq_true (by omega)
      have dn2 : decide (0 < nd) = true := decide_eq_true hnp
      clear hd0 hdp hnd hnp HI HGc
      go_wp2_with fail
      refine HDv2.out.mono ?_
      rintro e w2 ⟨o1, c1, o2, c2, rfl, hc1, hc2, hi1, hi2, hb2⟩
      have HN := Lib.hid (show IntAt w2 od (Rf.tens d) ∧ IntAt w2 o2 (Rf.tens (c % d)) ∧ (Rf.tens d).length ≤ cd ∧ (Rf.tens (c % d)).length ≤ c2 ∧ (Rf.tens d).length ≤ 400 ∧ (Rf.tens (c % d)).length ≤ 400 from ⟨HId.out.mono hb2, hi2, HCd.out, hc2, HLd.out, Nat.le_trans (tens_len_mono (Nat.le_of_lt HLt.out)) HLd.out⟩)
      have HV2 := Lib.hid (HVr.out.below hb2 HVr.out.lt)
      have H3 := Lib.hid (HBr.out.trans (hb2.mono HBr.out.size))
      clear hb2 hc1 hc2 hi1 hi2 dn1 dn2
      go_wp2_with fail
      go_roundg (c % d)
      case rel => exact ⟨d, c % d, od, cd, o2, c2, by rw [HNd.out], rfl, HGn, HN, HV2, H3, rfl⟩
      case measure => (have := HLt.out; omega)
end Go.Proofs.YthbfbpbppjkoeaaGreatDoor
/- Contract of Pow of package proteusref03. Conditions: those in the statements. -/
namespace Go.Proofs.YthbfbpbppjkoeaaGreatDoor
open Go.RowKit Go.Shelf
set_option maxRecDepth 100000
set_option linter.unusedVariables false
set_option linter.unusedSimpArgs false
set_option exponentiation.threshold 500

/-- What is kept in a region: one box, and what was there before. -/
def SX (n A : Nat) (w : World) (u v : Value) (W : World) : Prop := W.cell? ⟨A, 0, none⟩ = some u ∧ W.cell? ⟨A, 1, none⟩ = some v ∧ Below n w W ∧ A < W.heap.size
theorem SX.mk {n A : Nat} {w W : World} {u v : Value} (hA : RB W A u v) (hb : Below n w W) : SX n A w u v W := ⟨hA.c0, hA.c1, hb, hA.lt⟩
theorem SX.kept {n A : Nat} {w W W' : World} {u v : Value} (h : SX n A w u v W) (hn : n ≤ W.heap.size) (hb : Below W.heap.size W W') : SX n A w u v W' := by
  obtain ⟨h1, h2, h7, a1⟩ := h
  exact ⟨(hb.cell (p := ⟨A, 0, none⟩) a1).trans h1, (hb.cell (p := ⟨A, 1, none⟩) a1).trans h2, h7.trans (hb.mono hn), Nat.lt_of_lt_of_le a1 hb.size⟩
theorem SX.put {n A : Nat} {w W : World} {u v : Value} (h : SX n A w u v W) (D : Nat) (d1 : D ≠ A) (hD : n ≤ D) (s t : Value) : SX n A w u v ((W.setCell ⟨D, 0, none⟩ s).setCell ⟨D, 1, none⟩ t) := by
  obtain ⟨h1, h2, h7, a1⟩ := h
  refine ⟨?_, ?_, below_put h7 hD _ _, by simpa [World.setCell] using a1⟩
  all_goals
    rw [World.cell?_setCell_far _ _ _ _ (by simp; omega), World.cell?_setCell_far _ _ _ _ (by simp; omega)]
    assumption
theorem boxesP2 (w : World) (u v x : Value) :
    VB ((w.alloc (.cells #[u, v, x] 23)).alloc (.cells #[.int .i64 0, .int .i64 0, .string ⟨#[]⟩] 23)) (w.heap.size + 1) (.int .i64 0) (.int .i64 0) (.string ⟨#[]⟩) ∧
    Below w.heap.size w ((w.alloc (.cells #[u, v, x] 23)).alloc (.cells #[.int .i64 0, .int .i64 0, .string ⟨#[]⟩] 23)) := by
  refine ⟨?_, ((Below.refl _ w).alloc (Nat.le_refl _) _).alloc (by simp) _⟩
  have := VB.new (w.alloc (.cells #[u, v, x] 23)) (.int .i64 0) (.int .i64 0) (.string ⟨#[]⟩)
  rwa [World.size_alloc] at this
theorem pow_grow {z : Int} {i n : Nat} (hi : i ≤ n) (hf : ¬ Few (z ^ i)) : ¬ Few (z ^ n) := by
  intro hn
  rw [few_iff] at hf hn
  apply hf
  refine Nat.lt_of_le_of_lt ?_ hn
  have hz : z ≠ 0 := by
    intro h0
    subst h0
    apply hf
    cases i with
    | zero => rw [Int.pow_zero]; exact Nat.one_lt_pow (by decide) (by decide)
    | succ i => rw [Int.pow_succ, Int.mul_zero]; exact Nat.pow_pos (by decide)
  obtain ⟨k, rfl⟩ := Nat.exists_eq_add_of_le hi
  rw [Int.pow_add, Int.natAbs_mul]
  exact Nat.le_mul_of_pos_right _ (by rw [Int.natAbs_pow]; exact Nat.pow_pos (by omega))
theorem Ans.none {A B E z : Int} {S : List UInt8} (h : Ans A B S E z) (hf : ¬ Few z) : A = 0 ∧ B = 0 ∧ S = [] ∧ E = 2 := by
  rcases h with ⟨_, h⟩ | ⟨h1, h2, h3, h4, _⟩
  · exact absurd h.1 hf
  · exact ⟨h2, h3, h4, h1⟩
theorem value_pow {A B E q p : Int} {S : List UInt8} (ha : Ans A B S E q) (h : p = q ∨ (¬ Few p ∧ ¬ Few q)) (o : Option Addr) (c : Nat) (w : World) (hr : RAt w o c p) (hl : (Rf.tens p.natAbs).length ≤ 100000) : Calls Tryz.prog 49 #[rnV p o c] w (RetN A B S E w) := by
  rcases h with rfl | ⟨h1, h2⟩
  · exact value_ans ha o c w hr hl
  · obtain ⟨rfl, rfl, rfl, rfl⟩ := ha.none h2
    exact (value_ref p o c w hr hl).mono fun e w' hh => hh.lim h1

set_option maxHeartbeats 1000000 in
theorem PowRef_no (K N n : Int) (T : List UInt8) (w : World) (h : ∀ z, ¬ IsNum K N T z) (hN : In64Z N) (hT : T.length ≤ 1000) :
    Calls Tryz.prog 38 #[valV K N T, .int .i64 n] w fun e w' => RetN 0 0 [] 31 w e w' := by
  have HO := Lib.hid (fun W => ofRef_no K N T h hN hT W)
  have HBx := Lib.hid (boxesP2 w (.int .i64 K) (.int .i64 N) (.string ⟨T.toArray⟩))
  clear h hN hT
  unfold valV at *
  go_enter Tryz.func38, Tryz.ntmps38
  go_wp2_with fail
  refine (HO.out _).mono ?_
  rintro e w1 ⟨b, o, k, c, rfl, hb1⟩
  have hV1 := HBx.out.1.below hb1 HBx.out.1.lt
  have H1 := HBx.out.2.trans (hb1.mono HBx.out.2.size)
  have HV := Lib.hid (hV1.alloc (.cells #[.bool b, .slice o k c] 52))
  have H2 := Lib.hid (H1.alloc H1.size (.cells #[.bool b, .slice o k c] 52))
  clear hb1 hV1 H1
  have hV3 := HV.out
  have v0 := hV3.c0
  have v1 := hV3.c1
  have v2 := hV3.c2
  have f0 := hV3.fz 0
  have f1 := hV3.fz 1
  have f2 := hV3.fz 2
  clear hV3
  go_wp2_with fail
  exact ret_val_err rfl rfl rfl rfl (HV.out.put _ _ _) ⟨rfl, below_put3 H2.out (by omega) _ _ _⟩

set_option maxHeartbeats 1000000 in
theorem PowRef_arg (K N n z : Int) (T : List UInt8) (w : World) (h : IsNum K N T z) (hn : n < 0 ∨ 2000 < n) :
    Calls Tryz.prog 38 #[valV K N T, .int .i64 n] w fun e w' => RetN 0 0 [] 1 w e w' := by
  have HO := Lib.hid (fun W => ofRef_ok K N z T h W)
  have HBx := Lib.hid (boxesP2 w (.int .i64 K) (.int .i64 N) (.string ⟨T.toArray⟩))
  clear h
  unfold valV at *
  go_enter Tryz.func38, Tryz.ntmps38
  go_wp2_with fail
  refine (HO.out _).mono ?_
  rintro e w1 ⟨o, c, rfl, hr1, hb1⟩
  unfold rnV
  generalize decide (z < 0) = b
  generalize (Rf.tens z.natAbs).length = k
  have hV1 := HBx.out.1.below hb1 HBx.out.1.lt
  have H1 := HBx.out.2.trans (hb1.mono HBx.out.2.size)
  have HV := Lib.hid (hV1.alloc (.cells #[.bool b, .slice o k c] 52))
  have H2 := Lib.hid (H1.alloc H1.size (.cells #[.bool b, .slice o k c] 52))
  clear hb1 hV1 H1 hr1
  have hV3 := HV.out
  have v0 := hV3.c0
  have v1 := hV3.c1
  have v2 := hV3.c2
  have f0 := hV3.fz 0
  have f1 := hV3.fz 1
  have f2 := hV3.fz 2
  clear hV3
  by_cases hn0 : n < 0
  · have d0 : decide (n < 0) = true := decide_eq_true hn0
    go_wp2_with fail
    exact ret_val_err rfl rfl rfl rfl (HV.out.put _ _ _) ⟨rfl, below_put3 H2.out (by omega) _ _ _⟩
  · have d0 : decide (n < 0) = false := decide_eq_false hn0
    have d1 : decide (2000 < n) = true := decide_eq_true (by omega)
    go_wp2_with fail
    exact ret_val_err rfl rfl rfl rfl (HV.out.put _ _ _) ⟨rfl, below_put3 H2.out (by omega) _ _ _⟩

set_option maxHeartbeats 1000000 in
theorem PowRef_ok {K N z A B E q : Int} {T S : List UInt8} (h : IsNum K N T z) (n : Nat) (hn : n ≤ 2000) (ha : Ans A B S E q) (hq : z ^ n = q) (w : World) :
    Calls Tryz.prog 38 #[valV K N T, .int .i64 n] w fun e w' => RetN A B S E w e w' := by
  have lz := num_len h
  obtain ⟨one, h1⟩ : ∃ one : Int, one = 1 := ⟨1, rfl⟩
  have HO := Lib.hid (fun W => ofRef_ok K N z T h W)
  have HSm := Lib.hid (fun W => small_lit one _ h1 (by rw [h1]; exact ⟨by decide, by decide⟩) W)
  have HOne := Lib.hid h1
  have HVl := Lib.hid (fun (p : Int) (hp : p = q ∨ (¬ Few p ∧ ¬ Few q)) (W : World) (o : Option Addr) (c : Nat) (hr : RAt W o c p) (hl : (Rf.tens p.natAbs).length ≤ 800) => value_pow ha hp o c W hr (by omega))
  have HT := Lib.hid (fun (p : Int) (W : World) (o ox : Option Addr) (c cx : Nat) (h1 : IntAt W o (Rf.tens p.natAbs)) (h2 : IntAt W ox (Rf.tens z.natAbs)) (hl : (Rf.tens p.natAbs).length ≤ 400) => times_ref (Rf.tens p.natAbs) (Rf.tens z.natAbs) o ox c cx (p.natAbs * z.natAbs) W h1 h2 (Rf.digs_tens _) (Rf.digs_tens _) (by omega) (by omega) (by rw [Rf.valT_tens, Rf.valT_tens]; simp))
  have HSg := Lib.hid (fun (p : Int) (hl : (Rf.tens p.natAbs).length ≤ 400) (W : World) (o : Option Addr) (c : Nat) (h : IntAt W o (Rf.tens (p.natAbs * z.natAbs))) (hc : (Rf.tens (p.natAbs * z.natAbs)).length ≤ c) => signed_ref (decide (p < 0) != decide (z < 0)) o c (Rf.tens (p.natAbs * z.natAbs)) (p.natAbs * z.natAbs) (p * z) W h hc (by have := mul_len hl lz (by decide); omega) (Rf.digs_tens _) (Rf.valT_tens _) (signed_mul p z))
  have HMl := Lib.hid (fun (p : Int) (hl : (Rf.tens p.natAbs).length ≤ 400) => show (Rf.tens (p * z).natAbs).length ≤ 800 by rw [Int.natAbs_mul]; exact mul_len hl lz (by decide))
  have HQ := Lib.hid hq
  have HBx := Lib.hid (boxesP2 w (.int .i64 K) (.int .i64 N) (.string ⟨T.toArray⟩))
  have n0 : decide ((n : Int) < 0) = false := decide_eq_false (by omega)
  have n1 : decide ((2000 : Int) < (n : Int)) = false := decide_eq_false (by omega)
  have n2 : decide (2000 < n) = false := decide_eq_false (by omega)
  clear h ha hq h1 lz
  unfold valV at *
  go_enter Tryz.func38, Tryz.ntmps38
  go_wp2_with fail
  refine (HO.out _).mono ?_
  rintro e w1 ⟨ox, cx, rfl, hr1, hb1⟩
  unfold rnV at *
  generalize hbz : decide (z < 0) = bz at *
  generalize hlz : (Rf.tens z.natAbs).length = lz at *
  have HLz := Lib.hid hlz
  have hV1 := HBx.out.1.below hb1 HBx.out.1.lt
  have H1 := HBx.out.2.trans (hb1.mono HBx.out.2.size)
  have HV1 := Lib.hid (hV1.alloc (.cells #[.bool bz, .slice ox lz cx] 52))
  have H1b := Lib.hid (H1.alloc H1.size (.cells #[.bool bz, .slice ox lz cx] 52))
  have HX1 := Lib.hid (RB.new w1 (.bool bz) (.slice ox lz cx))
  have HRx := Lib.hid (hr1.2.mono ((Below.refl w1.heap.size w1).alloc (Nat.le_refl _) (.cells #[.bool bz, .slice ox lz cx] 52)))
  have hlt4 : w.heap.size + 1 < w1.heap.size := hV1.lt
  clear hb1 hV1 H1 hr1 hbz hlz HO HBx
  go_wp2_with fail
  refine (HSm.out _).mono ?_
  rintro e w2 ⟨o8, c8, rfl, hr2, hb2⟩
  unfold rnV
  generalize hbo : decide (one < 0) = bo at *
  generalize hlo : (Rf.tens one.natAbs).length = lo at *
  have hX2 := HX1.out.below hb2 HX1.out.lt
  have hV2 := HV1.out.below hb2 HV1.out.lt
  have H2 := H1b.out.trans (hb2.mono H1b.out.size)
  have hba : Below w2.heap.size w2 (w2.alloc (.cells #[.bool bo, .slice o8 lo c8] 52)) := (Below.refl _ _).alloc (Nat.le_refl _) _
  have HXr := Lib.hid (hX2.below hba hX2.lt)
  have HVr0 := Lib.hid (hV2.below hba hV2.lt)
  have HBr0 := Lib.hid (H2.trans (hba.mono H2.size))
  have HP0 := Lib.hid (RB.new w2 (.bool bo) (.slice o8 lo c8))
  have HRx2 := Lib.hid ((HRx.out.mono hb2).mono hba)
  have HI0 := Lib.hid (hr2.mono hba)
  have hlt8 : w1.heap.size < w2.heap.size := hX2.lt
  have HBo := Lib.hid hbo
  have HLo := Lib.hid hlo
  have HL1 := Lib.hid (show (Rf.tens one.natAbs).length ≤ 800 by rw [HOne.out]; refine Nat.le_trans (tens_len_pow (k := 1) (by decide) (by decide)) (by decide))
  clear hb2 hr2 hX2 hV2 H2 hba hbo hlo HX1 HV1 H1b HRx HSm
  go_wp2_with fail
  generalize w1.heap.size = B6 at *
  generalize w2.heap.size = B8 at *
  go_loopg [9] n (fun g iv wr => ∃ (i : Nat) (p : Int) (op : Option Addr) (cp lp : Nat) (bp : Bool), i ≤ n ∧ iv = .int .i64 i ∧ Hid (z ^ i = p) ∧ Hid (decide (p < 0) = bp) ∧ Hid ((Rf.tens p.natAbs).length = lp) ∧ Hid (RB wr B8 (.bool bp) (.slice op lp cp)) ∧ Hid (True ∧ RAt wr op cp p ∧ (Rf.tens p.natAbs).length ≤ 800) ∧ Hid (RB wr B6 (.bool bz) (.slice ox lz cx)) ∧ Hid (IntAt wr ox (Rf.tens z.natAbs)) ∧ Hid (VB wr (w.heap.size + 1) (.int .i64 0) (.int .i64 0) (.string ⟨#[]⟩)) ∧ Hid (Below w.heap.size w wr) ∧ g = n - i)
  case atStart => exact ⟨0, one, o8, c8, lo, bo, Nat.zero_le _, rfl, Lib.hid (by rw [HOne.out, Int.pow_zero]), HBo, HLo, HP0, Lib.hid ⟨trivial, HI0.out, HL1.out⟩, HXr, HRx2, HVr0, HBr0, rfl⟩
  case round =>
    clear HXr HVr0 HBr0 HP0 HRx2 HI0 HBo HLo HL1 HOne n0 n1 n2
    obtain ⟨i, p, op, cp, lp, bp, hin, rfl, HP, HBp, HLp, HPr, HI, HXr, HRx, HVr, HBr, hg⟩ := hrel
    have p0 := HPr.out.c0
    have p1 := HPr.out.c1
    by_cases hi : i < n
    · have d1 : decide ((i : Int) < (n : Int)) = true := decide_eq_true (by omega)
      have d2 : decide (i < n) = true := decide_eq_true hi
      by_cases hl4 : lp ≤ 400
      · have d3 : decide ((lp : Int) ≤ 400) = true := decide_eq_true (by omega)
        have d4 : decide (lp ≤ 400) = true := decide_eq_true hl4
        have hpl : (Rf.tens p.natAbs).length ≤ 400 := by rw [HLp.out]; exact hl4
        have HT2 := Lib.hid (HT.out p wr.drew op ox cp cx HI.out.2.1.2 HRx.out hpl)
        rw [HLp.out] at HT2
        have HSg2 := Lib.hid (HSg.out p hpl)
        rw [HBp.out] at HSg2
        have HMl2 := Lib.hid (HMl.out p hpl)
        have HNx := Lib.hid (show z ^ (i + 1) = p * z by rw [Int.pow_succ, HP.out])
        generalize p * z = p' at *
        generalize p.natAbs * z.natAbs = m at *
        obtain ⟨s, hs⟩ : ∃ s, (bp != bz) = s := ⟨_, rfl⟩
        have HSs := Lib.hid hs
        have x0 := HXr.out.c0
        have x1 := HXr.out.c1
        have f0 := HPr.out.fz 0
        have f1 := HPr.out.fz 1
        clear hs hpl
        have HX0 := Lib.hid HXr.out.drew
        have HP0 := Lib.hid HPr.out.drew
        have HV0 := Lib.hid HVr.out.drew
        have HR0 := Lib.hid HRx.out.drew
        have H0 := Lib.hid HBr.out.drew
        go_wp2_with fail
        clear x0 x1 f0 f1 p0 p1
        have HS0 := Lib.hid (SX.mk (W := World.drew _) HX0.out H0.out)
        refine wp_region_held_drew (S := SX w.heap.size B6 w (.bool bz) (.slice ox lz cx)) (by kernel_rfl) HS0.out (fun hS0 => ?_)
        refine wpAnyH_take (i := 0) (v := ?hlv1) rfl (by kernel_rfl) (by kernel_rfl) (by kernel_rfl) (fun _ _ _ h => h) (Or.inl ⟨by rfl, ?hly1⟩) (by assumption) ?hlr1
        case hly1 => (intro w hSw; (try unfold SX at hSw); (try dsimp only at hSw); go_simp; (try with_reducible rfl))
        (try simp only [Act.put, List.setIfInBounds_toArray, List.set_cons_zero, List.set_cons_succ])
        refine wpAnyH_take (i := 2) (v := ?hlv2) rfl (by kernel_rfl) (by kernel_rfl) (by kernel_rfl) (fun _ _ _ h => h) (Or.inl ⟨by rfl, ?hly2⟩) (by assumption) ?hlr2
        case hly2 => (intro w hSw; (try unfold SX at hSw); (try dsimp only at hSw); go_simp; (try with_reducible rfl))
        (try simp only [Act.put, List.setIfInBounds_toArray, List.set_cons_zero, List.set_cons_succ])
        refine wpAnyH_take (i := 3) (v := ?hlv3) rfl (by kernel_rfl) (by kernel_rfl) (by kernel_rfl) (fun _ _ _ h => h) (Or.inl ⟨by rfl, ?hly3⟩) (by assumption) ?hlr3
        case hly3 => (intro w hSw; (try unfold SX at hSw); (try dsimp only at hSw); go_simp; (try with_reducible rfl))
        (try simp only [Act.put, List.setIfInBounds_toArray, List.set_cons_zero, List.set_cons_succ])
        refine wpAnyH_take (i := 5) (v := ?hlv4) rfl (by kernel_rfl) (by kernel_rfl) (by kernel_rfl) (fun _ _ _ h => h) (Or.inl ⟨by rfl, ?hly4⟩) (by assumption) ?hlr4
        case hly4 => (intro w hSw; (try unfold SX at hSw); (try dsimp only at hSw); go_simp; (try with_reducible rfl))
        (try simp only [Act.put, List.setIfInBounds_toArray, List.set_cons_zero, List.set_cons_succ])
        refine wpAnyH_take (i := 7) (v := ?hlv5) rfl (by kernel_rfl) (by kernel_rfl) (by kernel_rfl) (fun _ _ _ h => h) (Or.inl ⟨by rfl, ?hly5⟩) (by assumption) ?hlr5
        case hly5 => (intro w hSw; (try unfold SX at hSw); (try dsimp only at hSw); go_simp; (try with_reducible rfl))
        (try simp only [Act.put, List.setIfInBounds_toArray, List.set_cons_zero, List.set_cons_succ])
        refine wpAnyH_take (i := 8) (v := ?hlv6) rfl (by kernel_rfl) (by kernel_rfl) (by kernel_rfl) (fun _ _ _ h => h) (Or.inl ⟨by rfl, ?hly6⟩) (by assumption) ?hlr6
        case hly6 => (intro w hSw; (try unfold SX at hSw); (try dsimp only at hSw); go_simp; (try with_reducible rfl))
        (try simp only [Act.put, List.setIfInBounds_toArray, List.set_cons_zero, List.set_cons_succ])
        refine wpAnyH_ready (rs := [1, 6]) (by kernel_rfl) (by simp) ?_
        refine AllReadyH.one rfl ?_ ?_
        · skip
          have q0 := HP0.out.c0
          have q1 := HP0.out.c1
          intro K hK
          go_simp
          refine hK.out _ _ hS0 (fun _ => ?_)
          clear hK K q0 q1
          refine wpAnyH_take (i := 4) (v := ?hlv7) rfl (by kernel_rfl) (by kernel_rfl) (by kernel_rfl) (fun _ _ _ h => h) (Or.inl ⟨by rfl, ?hly7⟩) (by assumption) ?hlr7
          case hly7 => (intro w hSw; (try unfold SX at hSw); (try dsimp only at hSw); go_simp; (try with_reducible rfl))
          (try simp only [Act.put, List.setIfInBounds_toArray, List.set_cons_zero, List.set_cons_succ])
          refine wpAnyH_ready (rs := [6]) (by kernel_rfl) (by simp) ?_
          refine AllReadyH.one rfl ?_ AllReadyH.nil
          have q0 := HP0.out.c0
          have q1 := HP0.out.c1
          intro K hK
          go_simp
          refine hK.out _ _ hS0 (fun _ => ?_)
          clear hK K q0 q1
          refine wpAnyH_ready (rs := [9]) (by kernel_rfl) (by simp) ?_
          refine AllReadyH.one rfl ?_ AllReadyH.nil
          intro K hK
          go_simp
          refine HT2.out.mono ?_
          rintro e w4 ⟨o4, c4, rfl, hc4, hi4, hb4⟩
          refine hK.out _ _ (SX.kept hS0 H0.out.size hb4) (fun hS1 => ?_)
          clear hK K
          have HX1 := Lib.hid (HX0.out.below hb4 HX0.out.lt)
          have HP1 := Lib.hid (HP0.out.below hb4 HP0.out.lt)
          have HV1 := Lib.hid (HV0.out.below hb4 HV0.out.lt)
          have HR1 := Lib.hid (IntAt.mono HR0.out hb4)
          have H1 := Lib.hid (H0.out.trans (hb4.mono H0.out.size))
          have HS4 := Lib.hid (HSg2.out w4 o4 c4 hi4 hc4)
          clear hb4 hi4 hc4
          refine wpAnyH_ready (rs := [10]) (by kernel_rfl) (by simp) ?_
          refine AllReadyH.one rfl ?_ AllReadyH.nil
          intro K hK
          go_simp
          refine HS4.out.mono ?_
          rintro e w5 ⟨o5, c5, rfl, hr5, hb5⟩
          unfold rnV
          refine hK.out _ _ (SX.kept hS1 H1.out.size hb5) (fun hS5 => ?_)
          clear hK K
          have HX5 := Lib.hid (HX1.out.below hb5 HX1.out.lt)
          have HP5 := Lib.hid (HP1.out.below hb5 HP1.out.lt)
          have HV5 := Lib.hid (HV1.out.below hb5 HV1.out.lt)
          have HR5 := Lib.hid (HR1.out.mono hb5)
          have H5 := Lib.hid (H1.out.trans (hb5.mono H1.out.size))
          have HI5 := Lib.hid hr5
          clear hb5 hr5
          have f0 := HP5.out.fz 0
          have f1 := HP5.out.fz 1
          have c0 := HP5.out.c0
          have c1 := HP5.out.c1
          refine wpAnyH_ready (rs := [11]) (by kernel_rfl) (by simp) ?_
          refine AllReadyH.one rfl ?_ AllReadyH.nil
          intro K hK
          go_simp
          refine hK.out _ _ (SX.put hS5 B8 (by omega) (by omega) _ _) (fun hS6 => ?_)
          clear hK K f0 f1 c0 c1
          refine wpAnyH_done (by kernel_rfl) ?_ _
          (try simp only [Act.put, List.setIfInBounds_toArray, List.set_cons_zero, List.set_cons_succ])
          go_wp2_with fail
          go_roundg (n - (i + 1))
          case rel =>
            exact ⟨i + 1, p', o5, c5, _, _, hi, by go_num, HNx, Lib.hid rfl, Lib.hid rfl, Lib.hid (HP5.out.put _ _), Lib.hid ⟨trivial, ⟨HI5.out.1, intAt_put_rb HP5.out HI5.out.2 _ _⟩, HMl2.out⟩, Lib.hid ((HX5.out.other ⟨B8, 0, none⟩ (by simp; omega) _).other ⟨B8, 1, none⟩ (by simp; omega) _), Lib.hid (intAt_put_rb HP5.out HR5.out _ _), Lib.hid ((HV5.out.other ⟨B8, 0, none⟩ (by simp; omega) _).other ⟨B8, 1, none⟩ (by simp; omega) _), Lib.hid (below_put H5.out (by omega) _ _), rfl⟩
          case measure => omega
        · skip
          refine AllReadyH.one rfl ?_ AllReadyH.nil
          have q0 := HP0.out.c0
          have q1 := HP0.out.c1
          intro K hK
          go_simp
          refine hK.out _ _ hS0 (fun _ => ?_)
          clear hK K q0 q1
          refine wpAnyH_ready (rs := [1, 9]) (by kernel_rfl) (by simp) ?_
          refine AllReadyH.one rfl ?_ ?_
          · skip
            have q0 := HP0.out.c0
            have q1 := HP0.out.c1
            intro K hK
            go_simp
            refine hK.out _ _ hS0 (fun _ => ?_)
            clear hK K q0 q1
            refine wpAnyH_take (i := 4) (v := ?hlv8) rfl (by kernel_rfl) (by kernel_rfl) (by kernel_rfl) (fun _ _ _ h => h) (Or.inl ⟨by rfl, ?hly8⟩) (by assumption) ?hlr8
            case hly8 => (intro w hSw; (try unfold SX at hSw); (try dsimp only at hSw); go_simp; (try with_reducible rfl))
            (try simp only [Act.put, List.setIfInBounds_toArray, List.set_cons_zero, List.set_cons_succ])
            refine wpAnyH_ready (rs := [9]) (by kernel_rfl) (by simp) ?_
            refine AllReadyH.one rfl ?_ AllReadyH.nil
            intro K hK
            go_simp
            refine HT2.out.mono ?_
            rintro e w4 ⟨o4, c4, rfl, hc4, hi4, hb4⟩
            refine hK.out _ _ (SX.kept hS0 H0.out.size hb4) (fun hS1 => ?_)
            clear hK K
            have HX1 := Lib.hid (HX0.out.below hb4 HX0.out.lt)
            have HP1 := Lib.hid (HP0.out.below hb4 HP0.out.lt)
            have HV1 := Lib.hid (HV0.out.below hb4 HV0.out.lt)
            have HR1 := Lib.hid (IntAt.mono HR0.out hb4)
            have H1 := Lib.hid (H0.out.trans (hb4.mono H0.out.size))
            have HS4 := Lib.hid (HSg2.out w4 o4 c4 hi4 hc4)
            clear hb4 hi4 hc4
            refine wpAnyH_ready (rs := [10]) (by kernel_rfl) (by simp) ?_
            refine AllReadyH.one rfl ?_ AllReadyH.nil
            intro K hK
            go_simp
            refine HS4.out.mono ?_
            rintro e w5 ⟨o5, c5, rfl, hr5, hb5⟩
            unfold rnV
            refine hK.out _ _ (SX.kept hS1 H1.out.size hb5) (fun hS5 => ?_)
            clear hK K
            have HX5 := Lib.hid (HX1.out.below hb5 HX1.out.lt)
            have HP5 := Lib.hid (HP1.out.below hb5 HP1.out.lt)
            have HV5 := Lib.hid (HV1.out.below hb5 HV1.out.lt)
            have HR5 := Lib.hid (HR1.out.mono hb5)
            have H5 := Lib.hid (H1.out.trans (hb5.mono H1.out.size))
            have HI5 := Lib.hid hr5
            clear hb5 hr5
            have f0 := HP5.out.fz 0
            have f1 := HP5.out.fz 1
            have c0 := HP5.out.c0
            have c1 := HP5.out.c1
            refine wpAnyH_ready (rs := [11]) (by kernel_rfl) (by simp) ?_
            refine AllReadyH.one rfl ?_ AllReadyH.nil
            intro K hK
            go_simp
            refine hK.out _ _ (SX.put hS5 B8 (by omega) (by omega) _ _) (fun hS6 => ?_)
            clear hK K f0 f1 c0 c1
            refine wpAnyH_done (by kernel_rfl) ?_ _
            (try simp only [Act.put, List.setIfInBounds_toArray, List.set_cons_zero, List.set_cons_succ])
            go_wp2_with fail
            go_roundg (n - (i + 1))
            case rel =>
              exact ⟨i + 1, p', o5, c5, _, _, hi, by go_num, HNx, Lib.hid rfl, Lib.hid rfl, Lib.hid (HP5.out.put _ _), Lib.hid ⟨trivial, ⟨HI5.out.1, intAt_put_rb HP5.out HI5.out.2 _ _⟩, HMl2.out⟩, Lib.hid ((HX5.out.other ⟨B8, 0, none⟩ (by simp; omega) _).other ⟨B8, 1, none⟩ (by simp; omega) _), Lib.hid (intAt_put_rb HP5.out HR5.out _ _), Lib.hid ((HV5.out.other ⟨B8, 0, none⟩ (by simp; omega) _).other ⟨B8, 1, none⟩ (by simp; omega) _), Lib.hid (below_put H5.out (by omega) _ _), rfl⟩
            case measure => omega
          · skip
            refine AllReadyH.one rfl ?_ AllReadyH.nil
            intro K hK
            go_simp
            refine HT2.out.mono ?_
            rintro e w4 ⟨o4, c4, rfl, hc4, hi4, hb4⟩
            refine hK.out _ _ (SX.kept hS0 H0.out.size hb4) (fun hS1 => ?_)
            clear hK K
            have HX1 := Lib.hid (HX0.out.below hb4 HX0.out.lt)
            have HP1 := Lib.hid (HP0.out.below hb4 HP0.out.lt)
            have HV1 := Lib.hid (HV0.out.below hb4 HV0.out.lt)
            have HR1 := Lib.hid (IntAt.mono HR0.out hb4)
            have H1 := Lib.hid (H0.out.trans (hb4.mono H0.out.size))
            have HS4 := Lib.hid (HSg2.out w4 o4 c4 hi4 hc4)
            clear hb4 hi4 hc4
            refine wpAnyH_ready (rs := [1]) (by kernel_rfl) (by simp) ?_
            refine AllReadyH.one rfl ?_ AllReadyH.nil
            have q0 := HP1.out.c0
            have q1 := HP1.out.c1
            intro K hK
            go_simp
            refine hK.out _ _ hS1 (fun _ => ?_)
            clear hK K q0 q1
            refine wpAnyH_take (i := 4) (v := ?hlv9) rfl (by kernel_rfl) (by kernel_rfl) (by kernel_rfl) (fun _ _ _ h => h) (Or.inl ⟨by rfl, ?hly9⟩) (by assumption) ?hlr9
            case hly9 => (intro w hSw; (try unfold SX at hSw); (try dsimp only at hSw); go_simp; (try with_reducible rfl))
            (try simp only [Act.put, List.setIfInBounds_toArray, List.set_cons_zero, List.set_cons_succ])
            refine wpAnyH_ready (rs := [10]) (by kernel_rfl) (by simp) ?_
            refine AllReadyH.one rfl ?_ AllReadyH.nil
            intro K hK
            go_simp
            refine HS4.out.mono ?_
            rintro e w5 ⟨o5, c5, rfl, hr5, hb5⟩
            unfold rnV
            refine hK.out _ _ (SX.kept hS1 H1.out.size hb5) (fun hS5 => ?_)
            clear hK K
            have HX5 := Lib.hid (HX1.out.below hb5 HX1.out.lt)
            have HP5 := Lib.hid (HP1.out.below hb5 HP1.out.lt)
            have HV5 := Lib.hid (HV1.out.below hb5 HV1.out.lt)
            have HR5 := Lib.hid (HR1.out.mono hb5)
            have H5 := Lib.hid (H1.out.trans (hb5.mono H1.out.size))
            have HI5 := Lib.hid hr5
            clear hb5 hr5
            have f0 := HP5.out.fz 0
            have f1 := HP5.out.fz 1
            have c0 := HP5.out.c0
            have c1 := HP5.out.c1
            refine wpAnyH_ready (rs := [11]) (by kernel_rfl) (by simp) ?_
            refine AllReadyH.one rfl ?_ AllReadyH.nil
            intro K hK
            go_simp
            refine hK.out _ _ (SX.put hS5 B8 (by omega) (by omega) _ _) (fun hS6 => ?_)
            clear hK K f0 f1 c0 c1
            refine wpAnyH_done (by kernel_rfl) ?_ _
            (try simp only [Act.put, List.setIfInBounds_toArray, List.set_cons_zero, List.set_cons_succ])
            go_wp2_with fail
            go_roundg (n - (i + 1))
            case rel =>
              exact ⟨i + 1, p', o5, c5, _, _, hi, by go_num, HNx, Lib.hid rfl, Lib.hid rfl, Lib.hid (HP5.out.put _ _), Lib.hid ⟨trivial, ⟨HI5.out.1, intAt_put_rb HP5.out HI5.out.2 _ _⟩, HMl2.out⟩, Lib.hid ((HX5.out.other ⟨B8, 0, none⟩ (by simp; omega) _).other ⟨B8, 1, none⟩ (by simp; omega) _), Lib.hid (intAt_put_rb HP5.out HR5.out _ _), Lib.hid ((HV5.out.other ⟨B8, 0, none⟩ (by simp; omega) _).other ⟨B8, 1, none⟩ (by simp; omega) _), Lib.hid (below_put H5.out (by omega) _ _), rfl⟩
            case measure => omega
      · have d3 : decide ((lp : Int) ≤ 400) = false := decide_eq_false (by omega)
        have d4 : decide (lp ≤ 400) = false := decide_eq_false hl4
        have hfin : p = q ∨ (¬ Few p ∧ ¬ Few q) := .inr (by
          have h1 : ¬ Few (z ^ i) := by rw [HP.out, few_tens, HLp.out]; exact hl4
          exact ⟨by rw [← HP.out]; exact h1, by rw [← HQ.out]; exact pow_grow hin h1⟩)
        go_wp2_with fail
        have hc := HVl.out p hfin wr op cp HI.out.2.1 HI.out.2.2
        rw [HBp.out, HLp.out] at hc
        refine hc.mono ?_
        rintro e w3 ⟨rfl, hb3⟩
        clear hc p0 p1
        unfold valV
        have HVv := Lib.hid (HVr.out.below hb3 HVr.out.lt)
        have H5 := Lib.hid (HBr.out.trans (hb3.mono HBr.out.size))
        clear hb3
        have hV3 := HVv.out
        have v0 := hV3.c0
        have v1 := hV3.c1
        have v2 := hV3.c2
        have f0 := hV3.fz 0
        have f1 := hV3.fz 1
        have f2 := hV3.fz 2
        clear hV3
        go_wp2_with fail
        exact ret_val_err rfl rfl rfl rfl (HVv.out.put _ _ _) ⟨rfl, below_put3 H5.out (by omega) _ _ _⟩
    · have d1 : decide ((i : Int) < (n : Int)) = false := decide_eq_false (by omega)
      have d2 : decide (i < n) = false := decide_eq_false hi
      have hfin : p = q ∨ (¬ Few p ∧ ¬ Few q) := .inl (by rw [← HP.out, ← HQ.out, show i = n by omega])
      go_wp2_with fail
      have hc := HVl.out p hfin wr op cp HI.out.2.1 HI.out.2.2
      rw [HBp.out, HLp.out] at hc
      refine hc.mono ?_
      rintro e w3 ⟨rfl, hb3⟩
      clear hc p0 p1
      unfold valV
      have HVv := Lib.hid (HVr.out.below hb3 HVr.out.lt)
      have H5 := Lib.hid (HBr.out.trans (hb3.mono HBr.out.size))
      clear hb3
      have hV3 := HVv.out
      have v0 := hV3.c0
      have v1 := hV3.c1
      have v2 := hV3.c2
      have f0 := hV3.fz 0
      have f1 := hV3.fz 1
      have f2 := hV3.fz 2
      clear hV3
      go_wp2_with fail
      exact ret_val_err rfl rfl rfl rfl (HVv.out.put _ _ _) ⟨rfl, below_put3 H5.out (by omega) _ _ _⟩
end Go.Proofs.YthbfbpbppjkoeaaGreatDoor
/- Contract of Root of package proteusref03. Conditions: those in the statements. -/
namespace Go.Proofs.YthbfbpbppjkoeaaGreatDoor
open Go.RowKit Go.Shelf
set_option maxRecDepth 100000
set_option linter.unusedVariables false
set_option linter.unusedSimpArgs false
set_option exponentiation.threshold 500

theorem sq_parts (d r : Nat) : (d + 10 * r) * (d + 10 * r) = d * d + 20 * (r * d) + 100 * (r * r) := by
  have e1 : d * (10 * r) = 10 * (r * d) := by rw [Nat.mul_left_comm, Nat.mul_comm d r]
  have e2 : 10 * r * d = 10 * (r * d) := Nat.mul_assoc ..
  have e3 : 10 * r * (10 * r) = 100 * (r * r) := by rw [Nat.mul_mul_mul_comm]
  rw [Nat.add_mul, Nat.mul_add, Nat.mul_add, e1, e2, e3]; omega
theorem sq_succ (a : Nat) : (a + 1) * (a + 1) = a * a + 2 * a + 1 := by rw [Nat.add_mul, Nat.mul_add]; omega
theorem tw_parts (d r : Nat) : (20 * r + d) * d = 20 * (r * d) + d * d := by rw [Nat.add_mul, Nat.mul_assoc]
theorem root_step {Y Y' r R S d e : Nat} (hr : r * r + R = Y) (hlt : Y < (r + 1) * (r + 1)) (he : e ≤ 99) (hY : Y' = 100 * Y + e) (hS : S = 100 * R + e) (hd : (20 * r + d) * d ≤ S) (hmax : d = 9 ∨ S < (20 * r + (d + 1)) * (d + 1)) :
    (d + 10 * r) * (d + 10 * r) + (S - (20 * r + d) * d) = Y' ∧ Y' < (d + 10 * r + 1) * (d + 10 * r + 1) := by
  rw [sq_succ (d + 10 * r), sq_parts]
  rw [tw_parts] at hd ⊢
  rw [sq_succ] at hlt
  refine ⟨by omega, ?_⟩
  rcases hmax with rfl | hmax
  · omega
  · rw [tw_parts, sq_succ, Nat.mul_add, Nat.mul_one] at hmax
    omega
theorem valT_drop_le {l : List Int} (h : Rf.Digs l) (k : Nat) : Rf.valT (l.drop k) ≤ Rf.valT l := by
  have h1 : Rf.valT l = Rf.valT (l.take k) + 10 ^ (l.take k).length * Rf.valT (l.drop k) := by rw [← Rf.valT_append, List.take_append_drop]
  have h2 := Rf.valT_nonneg (l := l.take k) (fun x hx => h x (List.mem_of_mem_take hx))
  have h3 := Rf.valT_nonneg (l := l.drop k) (fun x hx => h x (List.mem_of_mem_drop hx))
  have h4 : (1 : Int) ≤ 10 ^ (l.take k).length := by have := Int.pow_pos (n := 10) (m := (l.take k).length) (by decide); omega
  have h5 : 1 * Rf.valT (l.drop k) ≤ 10 ^ (l.take k).length * Rf.valT (l.drop k) := Int.mul_le_mul_of_nonneg_right h4 h3
  omega
theorem le_sq (r : Nat) : r ≤ r * r := by
  cases r with
  | zero => exact Nat.le_refl _
  | succ r => exact Nat.le_mul_of_pos_left _ (by omega)
theorem cmpN_pos {a b : Nat} : 0 < cmpN a b ↔ b < a := by unfold cmpN; split <;> (try split) <;> omega

set_option maxHeartbeats 400000 in
theorem shifted_gen (l : List Int) (n m : Nat) (x : Int) (o : Option Addr) (c : Nat) (w : World) (h : IntAt w o l) (hdl : Rf.Digs l) (hvl : Rf.valT l = (n : Int)) (hl : (l).length ≤ 90000) (h0 : 0 ≤ x) (h9 : x < 10) (hm : x + 10 * (n : Int) = m) :
    Calls Tryz.prog 71 #[.slice o (l).length c, .int .i64 x] w (RetTN m w) := by
  obtain ⟨i0, hi, hz0, hz1, hz2⟩ := info_parts info_int
  obtain ⟨cols, hcols⟩ : ∃ cols, x :: l = cols := ⟨_, rfl⟩
  have hd : Rf.Digs cols := by
    rw [← hcols]
    intro y hy
    rcases List.mem_cons.1 hy with rfl | hy
    · exact ⟨h0, h9⟩
    · exact hdl y hy
  have hv : Rf.valT cols = (m : Int) := by rw [← hcols, Rf.valT, hvl]; exact hm
  have hcl : cols.length = 1 + (l).length := by rw [← hcols, List.length_cons]; omega
  have hnews : [Value.int .i64 x] ++ (l).map (Value.int .i64) = cols.map (Value.int .i64) := by rw [← hcols]; rfl
  have HNews := Lib.hid hnews
  have HCl := Lib.hid hcl
  have HD := Lib.hid hd
  have HV := Lib.hid hv
  have HCe := Lib.hid (cells_of_intAt (h.mono ((Below.refl w.heap.size w).alloc (Nat.le_refl _) (.cells #[.int .i64 x] 3))))
  have HLit := Lib.hid (World.ownsRow_lit (e := 3) (size := 1) (base := w.heap.size) w #[.int .i64 x] 1 (Nat.le_refl _) (by decide) rfl)
  clear hcols hd hv hcl hnews hm h hdl hvl
  go_enter Tryz.func71, Tryz.ntmps71
  go_wp2_with (at_builtin; refine wpList_append_any _ rfl _ _ 50 50 rfl w.heap.size 3 3 i0 (.int .i64 0) 1 8 Tryz.underlying50 Tryz.underlying50 hi hz0 hz1 hz2 rfl (by decide) w.heap.size 1 1 [.int .i64 x] rfl HLit.out o l.length c rfl (l.map (Value.int .i64)) HCe.out (by simp [Value.oneCell']) (by unfold maxLen; omega) (by omega) (by simp) ?_; intro v' w3 hown' hgrow'; rw [HNews.out] at hown'; obtain ⟨oo, cc, rfl, hle, hint, hnew⟩ := row_forms2 HCl.out hown'; have HGw := Lib.hid hgrow'; have HI := Lib.hid hint; have HLe := Lib.hid hle; have HNw := Lib.hid hnew; clear hown' hgrow' hle hint hnew)
  have hW3 : Below w.heap.size w w3 := ((Below.refl _ w).alloc (Nat.le_refl _) _).grown HGw.out (by simp) (fun k e => by cases e; exact Nat.le_refl _)
  have HW3 := Lib.hid hW3
  have HT := Lib.hid (trimmed_c oo cc cols w3 HI.out HLe.out (by rw [HCl.out]; omega))
  clear hW3
  refine HT.out.mono ?_
  rintro e w4 ⟨rfl, rfl⟩
  go_wp2_with fail
  go_ret
  exact retTN_cut HI.out HLe.out HD.out HV.out HW3.out HNw.out

theorem small_dig (d : Nat) (z : Int) (hz : z = (d : Int)) (hd : d ≤ 9) (w : World) : Calls Tryz.prog 68 #[.int .i64 z] w fun e w' => ∃ o c, e = .returned (.agg #[.bool false, .slice o (Rf.tens d).length c]) ∧ (Rf.tens d).length ≤ c ∧ IntAt w' o (Rf.tens d) ∧ Below w.heap.size w w' := by
  subst hz
  refine (small_ref (d : Int) (in64 (by omega) (by omega)) w).mono ?_
  rintro e w' ⟨o, c, rfl, hr, hb⟩
  have h1 := hr.1
  have h2 := hr.2
  rw [Int.natAbs_natCast] at h1 h2
  refine ⟨o, c, ?_, h1, h2, hb⟩
  unfold rnV
  rw [Int.natAbs_natCast, decide_eq_false (by omega)]
theorem field1 (b : Bool) (o : Option Addr) (n c : Nat) (W : World) : Sem.run Tryz.prog (Instr.field 52 (.agg #[.bool b, .slice o n c]) 1) W = .ok (.slice o n c) W := by kernel_rfl
/-- What a round of Root keeps. -/
structure RT (w : World) (B4 lx cx : Nat) (ox : Option Addr) (X r R m : Nat) (o6 : Option Addr) (c6 : Nat) (o7 : Option Addr) (c7 : Nat) (o10 : Option Addr) (c10 : Nat) (wr : World) : Prop where
  xbox : RB wr B4 (.bool false) (.slice ox lx cx)
  xdig : IntAt wr ox (Rf.tens X)
  res : VB wr (w.heap.size + 1) (.int .i64 0) (.int .i64 0) (.string ⟨#[]⟩)
  root : IntAt wr o6 (Rf.tens r)
  rcap : (Rf.tens r).length ≤ c6
  rest : IntAt wr o7 (Rf.tens R)
  tcap : (Rf.tens R).length ≤ c7
  twice : IntAt wr o10 (Rf.tens m)
  below : Below w.heap.size w wr
theorem RT.mono {w : World} {B4 lx cx : Nat} {ox : Option Addr} {X r R m : Nat} {o6 : Option Addr} {c6 : Nat} {o7 : Option Addr} {c7 : Nat} {o10 : Option Addr} {c10 : Nat} {wr wr' : World} (h : RT w B4 lx cx ox X r R m o6 c6 o7 c7 o10 c10 wr) (hb : Below wr.heap.size wr wr') : RT w B4 lx cx ox X r R m o6 c6 o7 c7 o10 c10 wr' :=
  { xbox := h.xbox.below hb h.xbox.lt, xdig := h.xdig.mono hb, res := h.res.below hb h.res.lt, root := h.root.mono hb, rcap := h.rcap, rest := h.rest.mono hb, tcap := h.tcap, twice := h.twice.mono hb, below := h.below.trans (hb.mono h.below.size) }

set_option maxHeartbeats 1000000 in
theorem RootRef_no (K N : Int) (T : List UInt8) (w : World) (h : ∀ z, ¬ IsNum K N T z) (hN : In64Z N) (hT : T.length ≤ 1000) :
    Calls Tryz.prog 42 #[valV K N T] w fun e w' => RetN 0 0 [] 31 w e w' := by
  have HO := Lib.hid (fun W => ofRef_no K N T h hN hT W)
  have HBx := Lib.hid (boxesP2 w (.int .i64 K) (.int .i64 N) (.string ⟨T.toArray⟩))
  clear h hN hT
  unfold valV at *
  go_enter Tryz.func42, Tryz.ntmps42
  go_wp2_with fail
  refine (HO.out _).mono ?_
  rintro e w1 ⟨b, o, k, c, rfl, hb1⟩
  have hV1 := HBx.out.1.below hb1 HBx.out.1.lt
  have H1 := HBx.out.2.trans (hb1.mono HBx.out.2.size)
  have HV := Lib.hid (hV1.alloc (.cells #[.bool b, .slice o k c] 52))
  have H2 := Lib.hid (H1.alloc H1.size (.cells #[.bool b, .slice o k c] 52))
  clear hb1 hV1 H1
  have hV3 := HV.out
  have v0 := hV3.c0
  have v1 := hV3.c1
  have v2 := hV3.c2
  have f0 := hV3.fz 0
  have f1 := hV3.fz 1
  have f2 := hV3.fz 2
  clear hV3
  go_wp2_with fail
  exact ret_val_err rfl rfl rfl rfl (HV.out.put _ _ _) ⟨rfl, below_put3 H2.out (by omega) _ _ _⟩

set_option maxHeartbeats 1000000 in
theorem RootRef_neg (K N z : Int) (T : List UInt8) (w : World) (h : IsNum K N T z) (hz : z < 0) :
    Calls Tryz.prog 42 #[valV K N T] w fun e w' => RetN 0 0 [] 1 w e w' := by
  have HO := Lib.hid (fun W => ofRef_ok K N z T h W)
  have HBx := Lib.hid (boxesP2 w (.int .i64 K) (.int .i64 N) (.string ⟨T.toArray⟩))
  have hd := decide_eq_true hz
  clear h hz
  unfold valV at *
  go_enter Tryz.func42, Tryz.ntmps42
  go_wp2_with fail
  refine (HO.out _).mono ?_
  rintro e w1 ⟨o, c, rfl, hr1, hb1⟩
  unfold rnV
  rw [hd]
  generalize (Rf.tens z.natAbs).length = k
  have hV1 := HBx.out.1.below hb1 HBx.out.1.lt
  have H1 := HBx.out.2.trans (hb1.mono HBx.out.2.size)
  have HV := Lib.hid (hV1.alloc (.cells #[.bool true, .slice o k c] 52))
  have H2 := Lib.hid (H1.alloc H1.size (.cells #[.bool true, .slice o k c] 52))
  clear hb1 hV1 H1 hr1 hd
  have hV3 := HV.out
  have v0 := hV3.c0
  have v1 := hV3.c1
  have v2 := hV3.c2
  have f0 := hV3.fz 0
  have f1 := hV3.fz 1
  have f2 := hV3.fz 2
  clear hV3
  go_wp2_with fail
  exact ret_val_err rfl rfl rfl rfl (HV.out.put _ _ _) ⟨rfl, below_put3 H2.out (by omega) _ _ _⟩

theorem sum_nat_len {a b k : Nat} (ha : (Rf.tens a).length ≤ k) (hb : (Rf.tens b).length ≤ 1) : (Rf.tens (a + b)).length ≤ k + 1 := by
  by_cases hk : 1 ≤ k
  · have := sum_len (x := (a : Int)) (y := (b : Int)) (k := k) (by rw [Int.natAbs_natCast]; exact ha) (by rw [Int.natAbs_natCast]; omega)
    rwa [← Int.natCast_add, Int.natAbs_natCast] at this
  · have h0 := Rf.tens_length_zero.1 (show (Rf.tens a).length = 0 by omega)
    rw [h0, Nat.zero_add]; omega
set_option maxHeartbeats 2000000 in
theorem RootRef_ok {K N z A B : Int} {T S0 : List UInt8} (h : IsNum K N T z) (hz : 0 ≤ z) (q0 : Nat) (hq0 : Bg.IsRoot z.natAbs q0) (hn : IsNum A B S0 (q0 : Int)) (w : World) :
    Calls Tryz.prog 42 #[valV K N T] w fun e w' => RetN A B S0 0 w e w' := by
  have hxl := num_len h
  have dz0 := decide_eq_false (show ¬ z < 0 by omega)
  have HO := Lib.hid (fun W => ofRef_ok K N z T h W)
  have hql := num_len hn
  rw [Int.natAbs_natCast] at hql
  have HVl := Lib.hid (fun (W : World) (o : Option Addr) (c : Nat) (hr : RAt W o c (q0 : Int)) => value_ans (Ans.num hn) o c W hr (by rw [Int.natAbs_natCast]; omega))
  have HSg := Lib.hid (fun (r : Nat) (hr : Bg.IsRoot z.natAbs r) (W : World) (o : Option Addr) (c : Nat) (h : IntAt W o (Rf.tens r)) (hc : (Rf.tens r).length ≤ c) => signed_ref false o c (Rf.tens r) r (q0 : Int) W h hc (by rw [Bg.isRoot_unique hr hq0]; omega) (Rf.digs_tens _) (Rf.valT_tens _) (by rw [Bg.isRoot_unique hr hq0]; rfl))
  have HBx := Lib.hid (boxesP2 w (.int .i64 K) (.int .i64 N) (.string ⟨T.toArray⟩))
  have HSm := Lib.hid (fun (d : Nat) (z : Int) (hz : z = (d : Int)) (hd : d ≤ 9) (W : World) => small_dig d z hz hd W)
  obtain ⟨X, hX⟩ : ∃ X, z.natAbs = X := ⟨_, rfl⟩
  clear h hz hq0 hn hql
  unfold valV at *
  go_enter Tryz.func42, Tryz.ntmps42
  go_wp2_with fail
  refine (HO.out _).mono ?_
  rintro e w1 ⟨ox, cx, rfl, hr1, hb1⟩
  unfold rnV at *
  rw [dz0]
  have hr2 := hr1.2
  rw [hX] at hr2 hxl ⊢
  have HRo := Lib.hid (fun (r : Nat) (hr : Bg.IsRoot X r) => HSg.out r (by rw [hX]; exact hr))
  have hV1 := HBx.out.1.below hb1 HBx.out.1.lt
  have H1 := HBx.out.2.trans (hb1.mono HBx.out.2.size)
  generalize hlx : (Rf.tens X).length = lx at *
  have HLx := Lib.hid hlx
  have HXl := Lib.hid (show (Rf.tens X).length ≤ 400 by rw [hlx]; exact hxl)
  have HT0 := Lib.hid (show RT w w1.heap.size lx cx ox X 0 0 0 none 0 none 0 none 0 (w1.alloc (.cells #[.bool false, .slice ox lx cx] 52)) from
    { xbox := RB.new w1 _ _, xdig := hr2.mono ((Below.refl w1.heap.size w1).alloc (Nat.le_refl _) _), res := hV1.alloc _, root := by rw [Rf.tens_zero]; exact IntAt.nil _ _, rcap := by rw [Rf.tens_zero]; exact Nat.le_refl _, rest := by rw [Rf.tens_zero]; exact IntAt.nil _ _, tcap := by rw [Rf.tens_zero]; exact Nat.le_refl _, twice := by rw [Rf.tens_zero]; exact IntAt.nil _ _, below := H1.alloc H1.size _ })
  have z0 : (Rf.tens 0).length = 0 := by rw [Rf.tens_zero]; rfl
  have HZ0 := Lib.hid z0
  clear hb1 hr1 hr2 hV1 H1 hlx dz0 hX z0 HO HBx HSg
  have hlx4 : lx ≤ 400 := hxl
  clear hxl
  obtain ⟨k0, hk0⟩ : ∃ k, (lx + 1) / 2 = k := ⟨_, rfl⟩
  have hdv : ((lx : Int) + 1).tdiv 2 = (k0 : Int) := by rw [Int.tdiv_eq_ediv_of_nonneg (by omega)]; omega
  have hdw : wrap64 (k0 : Int) = (k0 : Int) := by unfold wrap64; omega
  have hl0 : (0 : Int) ≤ (lx : Int) := Int.natCast_nonneg _
  have hl1 : (lx : Int) ≤ 400 := by omega
  have hq0 : (0 : Int) ≤ (k0 : Int) := Int.natCast_nonneg _
  have hq1 : (k0 : Int) ≤ 201 := by omega
  have hfl := fun o n c W => field1 false o n c W
  have HK0 := Lib.hid (show lx ≤ 2 * k0 ∧ 2 * k0 ≤ lx + 1 from ⟨by omega, by omega⟩)
  have x0 := HT0.out.xbox.c0
  have x1 := HT0.out.xbox.c1
  clear hk0
  go_wp2_with fail
  clear x0 x1
  generalize w1.heap.size = B4 at *
  go_loopg [6, 7, 8, 9, 10, 11] k0 (fun g rv sv iv hv tv dv wr => ∃ (k : Nat) (i : Int) (Y r R m : Nat) (o6 : Option Addr) (c6 : Nat) (o7 : Option Addr) (c7 : Nat) (o10 : Option Addr) (c10 : Nat), 2 * k ≤ lx + 1 ∧ i + 1 = (k : Int) ∧ iv = .int .i64 i ∧ rv = .slice o6 (Rf.tens r).length c6 ∧ sv = .slice o7 (Rf.tens R).length c7 ∧ Hid (Rf.valT ((Rf.tens X).drop (2 * k)) = (Y : Int)) ∧ Hid (r * r + R = Y ∧ Y < (r + 1) * (r + 1)) ∧ Hid (RT w B4 lx cx ox X r R m o6 c6 o7 c7 o10 c10 wr) ∧ g = k)
  case atStart => exact ⟨k0, (k0 : Int) - 1, 0, 0, 0, 0, none, 0, none, 0, none, 0, HK0.out.2, by omega, rfl, by rw [HZ0.out], by rw [HZ0.out], Lib.hid (by rw [Rf.valT_over _ _ (by rw [HLx.out]; exact HK0.out.1)]; rfl), Lib.hid (by decide), HT0, rfl⟩
  case round =>
    clear HT0 HZ0 HK0 hdv hdw hq0 hq1
    obtain ⟨k, i, Y, r, R, m, o6, c6, o7, c7, o10, c10, hk2, hik, rfl, rfl, rfl, HY, HSq, HT, hg⟩ := hrel
    cases k with
    | zero =>
      obtain rfl : i = -1 := by omega
      have hYX : Y = X := by have := HY.out; rw [Nat.mul_zero, List.drop_zero, Rf.valT_tens] at this; omega
      have hrt : Bg.IsRoot X r := by
        have := HSq.out
        rw [hYX] at this
        exact ⟨by omega, this.2⟩
      have HSg2 := Lib.hid (HRo.out r hrt wr o6 c6 HT.out.root HT.out.rcap)
      clear hYX hrt hik
      go_wp2_with fail
      refine HSg2.out.mono ?_
      rintro e w2 ⟨o2, c2, rfl, hr2, hb2⟩
      unfold rnV
      have HR2 := Lib.hid hr2
      have HV2 := Lib.hid (HT.out.res.below hb2 HT.out.res.lt)
      have H3 := Lib.hid (HT.out.below.trans (hb2.mono HT.out.below.size))
      clear hr2 hb2
      go_wp2_with fail
      have hc := HVl.out _ o2 c2 HR2.out
      (try unfold rnV at hc)
      refine hc.mono ?_
      rintro e w3 ⟨rfl, hb3⟩
      clear hc
      unfold valV
      have HVv := Lib.hid (HV2.out.below hb3 HV2.out.lt)
      have H5 := Lib.hid (H3.out.trans (hb3.mono H3.out.size))
      clear hb3
      have hV3 := HVv.out
      have v0 := hV3.c0
      have v1 := hV3.c1
      have v2 := hV3.c2
      have f0 := hV3.fz 0
      have f1 := hV3.fz 1
      have f2 := hV3.fz 2
      clear hV3
      go_wp2_with fail
      exact ret_val_err rfl rfl rfl rfl (HVv.out.put _ _ _) ⟨rfl, below_put3 H5.out (by omega) _ _ _⟩
    | succ j =>
      obtain rfl : i = (j : Int) := by omega
      by_cases hlo : 2 * j < (Rf.tens X).length
      · obtain ⟨t, ht⟩ : ∃ t, 2 * j = t := ⟨_, rfl⟩
        have s0 : (2 : Int) * (j : Int) = (t : Int) := by omega
        have HTj := Lib.hid ht
        have ht1 : t < lx := by rw [HLx.out] at hlo; omega
        have hlo' : t < (Rf.tens X).length := by rw [HLx.out]; exact ht1
        have dj : decide ((0 : Int) ≤ (j : Int)) = true := decide_eq_true (by omega)
        have hj0 : (0 : Int) ≤ (j : Int) := Int.natCast_nonneg _
        have hj1 : (j : Int) ≤ 200 := by omega
        have ht0 : (0 : Int) ≤ (t : Int) := Int.natCast_nonneg _
        have ht2 : (t : Int) < (lx : Int) := by omega
        have hYd := HY.out
        rw [show 2 * (j + 1) = t + 1 + 1 by omega] at hYd
        have HY := Lib.hid hYd
        obtain ⟨bx, rfl, hbx, hclo⟩ := HT.out.xdig.get hlo'
        obtain ⟨hlo0, hlo9⟩ := Rf.tens_mem (List.getElem_mem hlo')
        have hvl := Rf.valT_drop (Rf.tens X) t hlo'
        generalize (Rf.tens X)[t] = low at *
        have hlo := hlo'
        clear hYd hik ht
        by_cases hh : t + 1 < lx
        · skip
          have dh1 : decide ((t : Int) + 1 < (lx : Int)) = true := decide_eq_true (by omega)
          have dh2 : decide (t + 1 < lx) = true := decide_eq_true hh
          have hh2 : t + 1 < (Rf.tens X).length := by rw [HLx.out]; exact hh
          obtain ⟨by2, ebx, hby2, hcx⟩ := HT.out.xdig.get hh2
          injection ebx with ebx
          injection ebx with ebx
          subst ebx
          obtain ⟨hg0, hg9⟩ := Rf.tens_mem (List.getElem_mem hh2)
          have hvh := Rf.valT_drop (Rf.tens X) (t + 1) hh2
          generalize (Rf.tens X)[t + 1] = hi at *
          obtain ⟨S1, hS1⟩ : ∃ S : Nat, hi + 10 * (R : Int) = (S : Int) := ⟨(hi + 10 * (R : Int)).toNat, by omega⟩
          obtain ⟨S, hS⟩ : ∃ S : Nat, low + 10 * (S1 : Int) = (S : Int) := ⟨(low + 10 * (S1 : Int)).toNat, by omega⟩
          obtain ⟨e, he⟩ : ∃ e : Nat, low + 10 * hi = (e : Int) := ⟨(low + 10 * hi).toNat, by omega⟩
          have hYn : ∃ Y' : Nat, Rf.valT ((Rf.tens X).drop t) = (Y' : Int) ∧ Y' = 100 * Y + e := ⟨100 * Y + e, by rw [hvl, hvh, HY.out]; omega, rfl⟩
          obtain ⟨Y', hY', hYe⟩ := hYn
          have hSe : S = 100 * R + e := by omega
          have hYX : Y' ≤ X := by have := valT_drop_le (Rf.digs_tens X) t; rw [hY', Rf.valT_tens] at this; omega
          have hSX : S ≤ X := by have := HSq.out.1; omega
          have hRl : (Rf.tens R).length ≤ 400 := Nat.le_trans (tens_len_mono (show R ≤ X by omega)) HXl.out
          have hS1l : (Rf.tens S1).length ≤ 400 := Nat.le_trans (tens_len_mono (show S1 ≤ X by omega)) HXl.out
          have hSl : (Rf.tens S).length ≤ 400 := Nat.le_trans (tens_len_mono hSX) HXl.out
          have hrX : r ≤ X := by have h1 := le_sq r; have h2 := HSq.out.1; omega
          have hrl : (Rf.tens r).length ≤ 400 := Nat.le_trans (tens_len_mono hrX) HXl.out
          have HEd := Lib.hid (show e ≤ 99 ∧ Y' = 100 * Y + e ∧ S = 100 * R + e from ⟨by omega, hYe, hSe⟩)
          have HSh1 := Lib.hid (fun (W : World) (h : IntAt W o7 (Rf.tens R)) => shifted_new R S1 hi o7 c7 W h (by omega) hg0 hg9 hS1)
          have HSh2 := Lib.hid (fun (W : World) (o : Option Addr) (c : Nat) (h : IntAt W o (Rf.tens S1)) => shifted_new S1 S low o c W h (by omega) hlo0 hlo9 hS)
          have HDb := Lib.hid (fun (W : World) (h : IntAt W o6 (Rf.tens r)) => plus_ref (Rf.tens r) (Rf.tens r) o6 o6 c6 c6 (r + r) W h h (Rf.digs_tens _) (Rf.digs_tens _) (by omega) (by omega) (by rw [Rf.valT_tens]; omega))
          have HSh3 := Lib.hid (fun (W : World) (o : Option Addr) (l : List Int) (c : Nat) (h : IntAt W o l) (hd : Rf.Digs l) (hv : Rf.valT l = ((r + r : Nat) : Int)) (hl : l.length ≤ 401) => shifted_gen l (r + r) (20 * r) 0 o c W h hd hv (by omega) (by decide) (by decide) (by omega))
          have hml : (Rf.tens (20 * r)).length ≤ 402 := by
            have := mul_len (show (Rf.tens 20).length ≤ 2 from tens_len_pow (by decide) (by decide)) hrl (by decide)
            omega
          have HPl := Lib.hid (fun (d : Nat) (hd : d ≤ 9) (W : World) (o o' : Option Addr) (c c' : Nat) (h : IntAt W o (Rf.tens (20 * r))) (h' : IntAt W o' (Rf.tens d)) => plus_ref (Rf.tens (20 * r)) (Rf.tens d) o o' c c' (20 * r + d) W h h' (Rf.digs_tens _) (Rf.digs_tens _) (by omega) (by have := tens_len_pow (n := d) (k := 1) (by omega) (by decide); omega) (by rw [Rf.valT_tens, Rf.valT_tens]; omega))
          have HTi := Lib.hid (fun (d : Nat) (hd : d ≤ 9) (lp : List Int) (h1 : Rf.Digs lp) (h2 : Rf.valT lp = ((20 * r + d : Nat) : Int)) (h3 : lp.length ≤ 1000) (W : World) (o o' : Option Addr) (c c' : Nat) (h : IntAt W o lp) (h' : IntAt W o' (Rf.tens d)) => times_ref lp (Rf.tens d) o o' c c' ((20 * r + d) * d) W h h' h1 (Rf.digs_tens _) h3 (by have := tens_len_pow (n := d) (k := 1) (by omega) (by decide); omega) (by rw [h2, Rf.valT_tens]; simp))
          have HEl := Lib.hid (fun (d : Nat) (hd : d ≤ 9) => show (Rf.tens ((20 * r + d) * d)).length ≤ 405 from Nat.le_trans (mul_len (k := 403) (m := 1) (sum_nat_len hml (tens_len_pow (n := d) (k := 1) (by omega) (by decide))) (tens_len_pow (by omega) (by decide)) (by decide)) (by decide))
          have HMl := Lib.hid (show (Rf.tens (20 * r)).length ≤ 402 ∧ (Rf.tens S).length ≤ 400 ∧ (Rf.tens r).length ≤ 400 ∧ S ≤ X from ⟨hml, hSl, hrl, hSX⟩)
          have HY' := Lib.hid hY'
          have x0 := HT.out.xbox.c0
          have x1 := HT.out.xbox.c1
          clear hvl hvh hS1 hS he hYe hSe hY' hYX hSX hRl hS1l hSl hrX hrl hml hh2
          go_wp2_with fail
          refine (HSh1.out _ HT.out.rest).mono ?_
          rintro e W1 ⟨o1, c1, rfl, hc1, hi1, hb1, -⟩
          have HT1 := Lib.hid (HT.out.mono hb1)
          have HI1 := Lib.hid hi1
          have hcl := (hb1.cell (p := ⟨bx, t, none⟩) hbx).trans hclo
          have x0 := HT1.out.xbox.c0
          have x1 := HT1.out.xbox.c1
          clear hc1 hi1 hb1 hclo hcx
          go_wp2_with fail
          refine (HSh2.out _ o1 c1 HI1.out).mono ?_
          rintro e W2 ⟨o2, c2, rfl, hc2, hi2, hb2, -⟩
          have HT2 := Lib.hid (show RT w B4 lx cx _ X r S m o6 c6 o2 c2 o10 c10 W2 from { HT1.out.mono hb2 with rest := hi2, tcap := hc2 })
          clear hc2 hi2 hb2 hcl x0 x1 HT1 HI1
          go_wp2_with fail
          refine (HDb.out _ HT2.out.root).mono ?_
          rintro e W3 ⟨o3, l3, c3, rfl, hc3, hi3, hd3, hv3, hl3, hb3⟩
          have HT3 := Lib.hid (HT2.out.mono hb3)
          have HSh4 := Lib.hid (HSh3.out W3 o3 l3 c3 hi3 hd3 hv3 (by have := HMl.out.2.2.1; omega))
          clear hc3 hi3 hd3 hv3 hl3 hb3
          go_wp2_with fail
          refine HSh4.out.mono ?_
          rintro e W4 ⟨o4, c4, rfl, hc4, hi4, hb4, -⟩
          have HT4 := Lib.hid (show RT w B4 lx cx _ X r S (20 * r) o6 c6 o2 c2 o4 c4 W4 from { HT3.out.mono hb4 with twice := hi4 })
          clear hc4 hi4 hb4 HT3 HSh4 HT2 HSh1 HSh2 HSh3 HDb HT
          go_wp2_with fail
          go_loopg [11] 9 (fun g dv wr => ∃ (d : Nat) (dz : Int), d ≤ 9 ∧ dv = .int .i64 dz ∧ Hid (dz = (d : Int)) ∧ 0 ≤ dz ∧ dz ≤ 9 ∧ Hid (d = 9 ∨ S < (20 * r + (d + 1)) * (d + 1)) ∧ Hid (RT w B4 lx cx (some ⟨bx, 0, none⟩) X r S (20 * r) o6 c6 o2 c2 o4 c4 wr) ∧ g = d)
          case atStart => exact ⟨9, 9, Nat.le_refl _, rfl, Lib.hid rfl, by decide, by decide, Lib.hid (.inl rfl), HT4, rfl⟩
          case round =>
            obtain ⟨d, dz, hd9, rfl, HDz, hdz0, hdz9, HMx, HTr, hg2⟩ := hrel
            clear HT4
            have HT0 := HTr
            clear HTr
            go_wp2_with fail
            refine (HSm.out d dz HDz.out hd9 _).mono ?_
            rintro e W1 ⟨oa, ca, rfl, hca, hia, hba⟩
            have HT1 := Lib.hid (HT0.out.mono hba)
            have HIa := Lib.hid hia
            clear hca hia hba
            go_wp2_with fail
            refine (HPl.out d hd9 W1 o4 oa c4 ca HT1.out.twice HIa.out).mono ?_
            rintro e W2 ⟨op, lp, cp, rfl, hcp, hip, hdp, hvp, hlp, hbp⟩
            have HT2 := Lib.hid (HT1.out.mono hbp)
            have HIp := Lib.hid hip
            have HPp := Lib.hid (show Rf.Digs lp ∧ Rf.valT lp = ((20 * r + d : Nat) : Int) ∧ lp.length ≤ 1000 from ⟨hdp, hvp, by have h1 := HMl.out.1; have h2 := tens_len_pow (n := d) (k := 1) (by omega) (by decide); omega⟩)
            clear hcp hip hdp hvp hlp hbp HIa
            go_wp2_with fail
            refine (HSm.out d dz HDz.out hd9 _).mono ?_
            rintro e W3 ⟨ob, cb, rfl, hcb, hib, hbb⟩
            have HT3 := Lib.hid (HT2.out.mono hbb)
            have HIb := Lib.hid hib
            have HIq := Lib.hid (HIp.out.mono hbb)
            clear hcb hib hbb HIp
            go_wp2_with fail
            refine (HTi.out d hd9 lp HPp.out.1 HPp.out.2.1 HPp.out.2.2 W3 op ob cp cb HIq.out HIb.out).mono ?_
            rintro e W4 ⟨ot, ct, rfl, hct, hit, hbt⟩
            have HT4 := Lib.hid (HT3.out.mono hbt)
            have HIt := Lib.hid hit
            clear hct hit hbt HIb HIq HPp
            go_wp2_with fail
            have hOr := order_ref ((20 * r + d) * d) S ot o2 ct c2 W4 HIt.out HT4.out.rest (by have := HEl.out d hd9; omega) (by have := HMl.out.2.1; omega)
            obtain ⟨q, hq⟩ : ∃ q, cmpN ((20 * r + d) * d) S = q := ⟨_, rfl⟩
            rw [hq] at hOr
            have HOr := Lib.hid hOr
            by_cases hlt : S < (20 * r + d) * d
            · have dq : decide (0 < q) = true := decide_eq_true (by rw [← hq]; exact cmpN_pos.2 hlt)
              have HLt := Lib.hid hlt
              have hd1 : 1 ≤ d := by
                cases d with
                | zero => exact absurd HLt.out (by rw [Nat.mul_zero]; omega)
                | succ d => omega
              clear hOr hq hlt
              refine HOr.out.mono ?_
              rintro e W5 ⟨rfl, hb5⟩
              have HT5 := Lib.hid (HT4.out.mono hb5)
              clear hb5 HOr HIt HT4
              have hdz1 : 1 ≤ dz := by have := HDz.out; omega
              go_wp2_with fail
              go_roundg (d - 1)
              case rel => exact ⟨d - 1, dz - 1, by omega, rfl, Lib.hid (by rw [HDz.out]; omega), by omega, by omega, Lib.hid (.inr (by rw [show d - 1 + 1 = d by omega]; exact HLt.out)), HT5, rfl⟩
              case measure => omega
            · have dq : decide (0 < q) = false := decide_eq_false (by rw [← hq]; exact fun h => hlt (cmpN_pos.1 h))
              have HLe := Lib.hid (show (20 * r + d) * d ≤ S by omega)
              clear hOr hq hlt
              refine HOr.out.mono ?_
              rintro e W5 ⟨rfl, hb5⟩
              have HT5 := Lib.hid (HT4.out.mono hb5)
              clear hb5 HOr HIt HT4
              go_wp2_with fail
              refine (HSm.out d dz HDz.out hd9 _).mono ?_
              rintro e W6 ⟨oa, ca, rfl, hca, hia, hba⟩
              have HT6 := Lib.hid (HT5.out.mono hba)
              have HIa := Lib.hid hia
              clear hca hia hba
              go_wp2_with fail
              refine (HPl.out d hd9 W6 o4 oa c4 ca HT6.out.twice HIa.out).mono ?_
              rintro e W7 ⟨op, lp, cp, rfl, hcp, hip, hdp, hvp, hlp, hbp⟩
              have HT7 := Lib.hid (HT6.out.mono hbp)
              have HIp := Lib.hid hip
              have HPp := Lib.hid (show Rf.Digs lp ∧ Rf.valT lp = ((20 * r + d : Nat) : Int) ∧ lp.length ≤ 1000 from ⟨hdp, hvp, by have h1 := HMl.out.1; have h2 := tens_len_pow (n := d) (k := 1) (by omega) (by decide); omega⟩)
              clear hcp hip hdp hvp hlp hbp HIa
              go_wp2_with fail
              refine (HSm.out d dz HDz.out hd9 _).mono ?_
              rintro e W8 ⟨ob, cb, rfl, hcb, hib, hbb⟩
              have HT8 := Lib.hid (HT7.out.mono hbb)
              have HIb := Lib.hid hib
              have HIq := Lib.hid (HIp.out.mono hbb)
              clear hcb hib hbb HIp
              go_wp2_with fail
              refine (HTi.out d hd9 lp HPp.out.1 HPp.out.2.1 HPp.out.2.2 W8 op ob cp cb HIq.out HIb.out).mono ?_
              rintro e W9 ⟨ot, ct, rfl, hct, hit, hbt⟩
              have HT9 := Lib.hid (HT8.out.mono hbt)
              have HIt := Lib.hid hit
              clear hct hit hbt HIb HIq HPp
              go_wp2_with fail
              have HSt := Lib.hid (root_step HSq.out.1 HSq.out.2 HEd.out.1 HEd.out.2.1 HEd.out.2.2 HLe.out HMx.out)
              refine (minus_ref (Rf.tens S) (Rf.tens ((20 * r + d) * d)) o2 ot c2 ct (S - (20 * r + d) * d) W9 HT9.out.rest HIt.out (Rf.digs_tens _) (Rf.digs_tens _) (by have := HMl.out.2.1; omega) (by have := HEl.out d hd9; omega) (by rw [Rf.valT_tens, Rf.valT_tens]; have := HLe.out; omega)).mono ?_
              rintro e W10 ⟨o5, c5, rfl, hc5, hi5, hb5⟩
              have HT10 := Lib.hid (show RT w B4 lx cx _ X r (S - (20 * r + d) * d) (20 * r) o6 c6 o5 c5 o4 c4 W10 from { HT9.out.mono hb5 with rest := hi5, tcap := hc5 })
              clear hc5 hi5 hb5 HIt HT9
              go_wp2_with fail
              refine (shifted_new r (d + 10 * r) dz o6 c6 W10 HT10.out.root (by have := HMl.out.2.2.1; omega) hdz0 (by omega) (by rw [HDz.out]; omega)).mono ?_
              rintro e W11 ⟨o8, c8, rfl, hc8, hi8, hb8, -⟩
              have HT11 := Lib.hid (show RT w B4 lx cx _ X (d + 10 * r) (S - (20 * r + d) * d) (20 * r) o8 c8 o5 c5 o4 c4 W11 from { HT10.out.mono hb8 with root := hi8, rcap := hc8 })
              clear hc8 hi8 hb8 HT10
              go_wp2_with fail
              go_roundg j
              case rel => exact ⟨j, (j : Int) - 1, Y', d + 10 * r, S - (20 * r + d) * d, 20 * r, o8, c8, o5, c5, o4, c4, by omega, by omega, rfl, rfl, rfl, Lib.hid (by rw [HTj.out]; exact HY'.out), HSt, HT11, rfl⟩
              case measure => omega
        · skip
          have dh1 : decide ((t : Int) + 1 < (lx : Int)) = false := decide_eq_false (by omega)
          have dh2 : decide (t + 1 < lx) = false := decide_eq_false hh
          have hvh : Rf.valT ((Rf.tens X).drop (t + 1)) = 0 + 10 * Rf.valT ((Rf.tens X).drop (t + 1 + 1)) := by rw [Rf.valT_over _ _ (by rw [HLx.out]; omega), Rf.valT_over _ _ (by rw [HLx.out]; omega)]; rfl
          have hg0 : (0 : Int) ≤ 0 := by decide
          have hg9 : (0 : Int) < 10 := by decide
          obtain ⟨S1, hS1⟩ : ∃ S : Nat, 0 + 10 * (R : Int) = (S : Int) := ⟨(0 + 10 * (R : Int)).toNat, by omega⟩
          obtain ⟨S, hS⟩ : ∃ S : Nat, low + 10 * (S1 : Int) = (S : Int) := ⟨(low + 10 * (S1 : Int)).toNat, by omega⟩
          obtain ⟨e, he⟩ : ∃ e : Nat, low + 10 * 0 = (e : Int) := ⟨(low + 10 * 0).toNat, by omega⟩
          have hYn : ∃ Y' : Nat, Rf.valT ((Rf.tens X).drop t) = (Y' : Int) ∧ Y' = 100 * Y + e := ⟨100 * Y + e, by rw [hvl, hvh, HY.out]; omega, rfl⟩
          obtain ⟨Y', hY', hYe⟩ := hYn
          have hSe : S = 100 * R + e := by omega
          have hYX : Y' ≤ X := by have := valT_drop_le (Rf.digs_tens X) t; rw [hY', Rf.valT_tens] at this; omega
          have hSX : S ≤ X := by have := HSq.out.1; omega
          have hRl : (Rf.tens R).length ≤ 400 := Nat.le_trans (tens_len_mono (show R ≤ X by omega)) HXl.out
          have hS1l : (Rf.tens S1).length ≤ 400 := Nat.le_trans (tens_len_mono (show S1 ≤ X by omega)) HXl.out
          have hSl : (Rf.tens S).length ≤ 400 := Nat.le_trans (tens_len_mono hSX) HXl.out
          have hrX : r ≤ X := by have h1 := le_sq r; have h2 := HSq.out.1; omega
          have hrl : (Rf.tens r).length ≤ 400 := Nat.le_trans (tens_len_mono hrX) HXl.out
          have HEd := Lib.hid (show e ≤ 99 ∧ Y' = 100 * Y + e ∧ S = 100 * R + e from ⟨by omega, hYe, hSe⟩)
          have HSh1 := Lib.hid (fun (W : World) (h : IntAt W o7 (Rf.tens R)) => shifted_new R S1 0 o7 c7 W h (by omega) hg0 hg9 hS1)
          have HSh2 := Lib.hid (fun (W : World) (o : Option Addr) (c : Nat) (h : IntAt W o (Rf.tens S1)) => shifted_new S1 S low o c W h (by omega) hlo0 hlo9 hS)
          have HDb := Lib.hid (fun (W : World) (h : IntAt W o6 (Rf.tens r)) => plus_ref (Rf.tens r) (Rf.tens r) o6 o6 c6 c6 (r + r) W h h (Rf.digs_tens _) (Rf.digs_tens _) (by omega) (by omega) (by rw [Rf.valT_tens]; omega))
          have HSh3 := Lib.hid (fun (W : World) (o : Option Addr) (l : List Int) (c : Nat) (h : IntAt W o l) (hd : Rf.Digs l) (hv : Rf.valT l = ((r + r : Nat) : Int)) (hl : l.length ≤ 401) => shifted_gen l (r + r) (20 * r) 0 o c W h hd hv (by omega) (by decide) (by decide) (by omega))
          have hml : (Rf.tens (20 * r)).length ≤ 402 := by
            have := mul_len (show (Rf.tens 20).length ≤ 2 from tens_len_pow (by decide) (by decide)) hrl (by decide)
            omega
          have HPl := Lib.hid (fun (d : Nat) (hd : d ≤ 9) (W : World) (o o' : Option Addr) (c c' : Nat) (h : IntAt W o (Rf.tens (20 * r))) (h' : IntAt W o' (Rf.tens d)) => plus_ref (Rf.tens (20 * r)) (Rf.tens d) o o' c c' (20 * r + d) W h h' (Rf.digs_tens _) (Rf.digs_tens _) (by omega) (by have := tens_len_pow (n := d) (k := 1) (by omega) (by decide); omega) (by rw [Rf.valT_tens, Rf.valT_tens]; omega))
          have HTi := Lib.hid (fun (d : Nat) (hd : d ≤ 9) (lp : List Int) (h1 : Rf.Digs lp) (h2 : Rf.valT lp = ((20 * r + d : Nat) : Int)) (h3 : lp.length ≤ 1000) (W : World) (o o' : Option Addr) (c c' : Nat) (h : IntAt W o lp) (h' : IntAt W o' (Rf.tens d)) => times_ref lp (Rf.tens d) o o' c c' ((20 * r + d) * d) W h h' h1 (Rf.digs_tens _) h3 (by have := tens_len_pow (n := d) (k := 1) (by omega) (by decide); omega) (by rw [h2, Rf.valT_tens]; simp))
          have HEl := Lib.hid (fun (d : Nat) (hd : d ≤ 9) => show (Rf.tens ((20 * r + d) * d)).length ≤ 405 from Nat.le_trans (mul_len (k := 403) (m := 1) (sum_nat_len hml (tens_len_pow (n := d) (k := 1) (by omega) (by decide))) (tens_len_pow (by omega) (by decide)) (by decide)) (by decide))
          have HMl := Lib.hid (show (Rf.tens (20 * r)).length ≤ 402 ∧ (Rf.tens S).length ≤ 400 ∧ (Rf.tens r).length ≤ 400 ∧ S ≤ X from ⟨hml, hSl, hrl, hSX⟩)
          have HY' := Lib.hid hY'
          have x0 := HT.out.xbox.c0
          have x1 := HT.out.xbox.c1
          clear hvl hvh hS1 hS he hYe hSe hY' hYX hSX hRl hS1l hSl hrX hrl hml
          go_wp2_with fail
          refine (HSh1.out _ HT.out.rest).mono ?_
          rintro e W1 ⟨o1, c1, rfl, hc1, hi1, hb1, -⟩
          have HT1 := Lib.hid (HT.out.mono hb1)
          have HI1 := Lib.hid hi1
          have hcl := (hb1.cell (p := ⟨bx, t, none⟩) hbx).trans hclo
          have x0 := HT1.out.xbox.c0
          have x1 := HT1.out.xbox.c1
          clear hc1 hi1 hb1 hclo
          go_wp2_with fail
          refine (HSh2.out _ o1 c1 HI1.out).mono ?_
          rintro e W2 ⟨o2, c2, rfl, hc2, hi2, hb2, -⟩
          have HT2 := Lib.hid (show RT w B4 lx cx _ X r S m o6 c6 o2 c2 o10 c10 W2 from { HT1.out.mono hb2 with rest := hi2, tcap := hc2 })
          clear hc2 hi2 hb2 hcl x0 x1 HT1 HI1
          go_wp2_with fail
          refine (HDb.out _ HT2.out.root).mono ?_
          rintro e W3 ⟨o3, l3, c3, rfl, hc3, hi3, hd3, hv3, hl3, hb3⟩
          have HT3 := Lib.hid (HT2.out.mono hb3)
          have HSh4 := Lib.hid (HSh3.out W3 o3 l3 c3 hi3 hd3 hv3 (by have := HMl.out.2.2.1; omega))
          clear hc3 hi3 hd3 hv3 hl3 hb3
          go_wp2_with fail
          refine HSh4.out.mono ?_
          rintro e W4 ⟨o4, c4, rfl, hc4, hi4, hb4, -⟩
          have HT4 := Lib.hid (show RT w B4 lx cx _ X r S (20 * r) o6 c6 o2 c2 o4 c4 W4 from { HT3.out.mono hb4 with twice := hi4 })
          clear hc4 hi4 hb4 HT3 HSh4 HT2 HSh1 HSh2 HSh3 HDb HT
          go_wp2_with fail
          go_loopg [11] 9 (fun g dv wr => ∃ (d : Nat) (dz : Int), d ≤ 9 ∧ dv = .int .i64 dz ∧ Hid (dz = (d : Int)) ∧ 0 ≤ dz ∧ dz ≤ 9 ∧ Hid (d = 9 ∨ S < (20 * r + (d + 1)) * (d + 1)) ∧ Hid (RT w B4 lx cx (some ⟨bx, 0, none⟩) X r S (20 * r) o6 c6 o2 c2 o4 c4 wr) ∧ g = d)
          case atStart => exact ⟨9, 9, Nat.le_refl _, rfl, Lib.hid rfl, by decide, by decide, Lib.hid (.inl rfl), HT4, rfl⟩
          case round =>
            obtain ⟨d, dz, hd9, rfl, HDz, hdz0, hdz9, HMx, HTr, hg2⟩ := hrel
            clear HT4
            have HT0 := HTr
            clear HTr
            go_wp2_with fail
            refine (HSm.out d dz HDz.out hd9 _).mono ?_
            rintro e W1 ⟨oa, ca, rfl, hca, hia, hba⟩
            have HT1 := Lib.hid (HT0.out.mono hba)
            have HIa := Lib.hid hia
            clear hca hia hba
            go_wp2_with fail
            refine (HPl.out d hd9 W1 o4 oa c4 ca HT1.out.twice HIa.out).mono ?_
            rintro e W2 ⟨op, lp, cp, rfl, hcp, hip, hdp, hvp, hlp, hbp⟩
            have HT2 := Lib.hid (HT1.out.mono hbp)
            have HIp := Lib.hid hip
            have HPp := Lib.hid (show Rf.Digs lp ∧ Rf.valT lp = ((20 * r + d : Nat) : Int) ∧ lp.length ≤ 1000 from ⟨hdp, hvp, by have h1 := HMl.out.1; have h2 := tens_len_pow (n := d) (k := 1) (by omega) (by decide); omega⟩)
            clear hcp hip hdp hvp hlp hbp HIa
            go_wp2_with fail
            refine (HSm.out d dz HDz.out hd9 _).mono ?_
            rintro e W3 ⟨ob, cb, rfl, hcb, hib, hbb⟩
            have HT3 := Lib.hid (HT2.out.mono hbb)
            have HIb := Lib.hid hib
            have HIq := Lib.hid (HIp.out.mono hbb)
            clear hcb hib hbb HIp
            go_wp2_with fail
            refine (HTi.out d hd9 lp HPp.out.1 HPp.out.2.1 HPp.out.2.2 W3 op ob cp cb HIq.out HIb.out).mono ?_
            rintro e W4 ⟨ot, ct, rfl, hct, hit, hbt⟩
            have HT4 := Lib.hid (HT3.out.mono hbt)
            have HIt := Lib.hid hit
            clear hct hit hbt HIb HIq HPp
            go_wp2_with fail
            have hOr := order_ref ((20 * r + d) * d) S ot o2 ct c2 W4 HIt.out HT4.out.rest (by have := HEl.out d hd9; omega) (by have := HMl.out.2.1; omega)
            obtain ⟨q, hq⟩ : ∃ q, cmpN ((20 * r + d) * d) S = q := ⟨_, rfl⟩
            rw [hq] at hOr
            have HOr := Lib.hid hOr
            by_cases hlt : S < (20 * r + d) * d
            · have dq : decide (0 < q) = true := decide_eq_true (by rw [← hq]; exact cmpN_pos.2 hlt)
              have HLt := Lib.hid hlt
              have hd1 : 1 ≤ d := by
                cases d with
                | zero => exact absurd HLt.out (by rw [Nat.mul_zero]; omega)
                | succ d => omega
              clear hOr hq hlt
              refine HOr.out.mono ?_
              rintro e W5 ⟨rfl, hb5⟩
              have HT5 := Lib.hid (HT4.out.mono hb5)
              clear hb5 HOr HIt HT4
              have hdz1 : 1 ≤ dz := by have := HDz.out; omega
              go_wp2_with fail
              go_roundg (d - 1)
              case rel => exact ⟨d - 1, dz - 1, by omega, rfl, Lib.hid (by rw [HDz.out]; omega), by omega, by omega, Lib.hid (.inr (by rw [show d - 1 + 1 = d by omega]; exact HLt.out)), HT5, rfl⟩
              case measure => omega
            · have dq : decide (0 < q) = false := decide_eq_false (by rw [← hq]; exact fun h => hlt (cmpN_pos.1 h))
              have HLe := Lib.hid (show (20 * r + d) * d ≤ S by omega)
              clear hOr hq hlt
              refine HOr.out.mono ?_
              rintro e W5 ⟨rfl, hb5⟩
              have HT5 := Lib.hid (HT4.out.mono hb5)
              clear hb5 HOr HIt HT4
              go_wp2_with fail
              refine (HSm.out d dz HDz.out hd9 _).mono ?_
              rintro e W6 ⟨oa, ca, rfl, hca, hia, hba⟩
              have HT6 := Lib.hid (HT5.out.mono hba)
              have HIa := Lib.hid hia
              clear hca hia hba
              go_wp2_with fail
              refine (HPl.out d hd9 W6 o4 oa c4 ca HT6.out.twice HIa.out).mono ?_
              rintro e W7 ⟨op, lp, cp, rfl, hcp, hip, hdp, hvp, hlp, hbp⟩
              have HT7 := Lib.hid (HT6.out.mono hbp)
              have HIp := Lib.hid hip
              have HPp := Lib.hid (show Rf.Digs lp ∧ Rf.valT lp = ((20 * r + d : Nat) : Int) ∧ lp.length ≤ 1000 from ⟨hdp, hvp, by have h1 := HMl.out.1; have h2 := tens_len_pow (n := d) (k := 1) (by omega) (by decide); omega⟩)
              clear hcp hip hdp hvp hlp hbp HIa
              go_wp2_with fail
              refine (HSm.out d dz HDz.out hd9 _).mono ?_
              rintro e W8 ⟨ob, cb, rfl, hcb, hib, hbb⟩
              have HT8 := Lib.hid (HT7.out.mono hbb)
              have HIb := Lib.hid hib
              have HIq := Lib.hid (HIp.out.mono hbb)
              clear hcb hib hbb HIp
              go_wp2_with fail
              refine (HTi.out d hd9 lp HPp.out.1 HPp.out.2.1 HPp.out.2.2 W8 op ob cp cb HIq.out HIb.out).mono ?_
              rintro e W9 ⟨ot, ct, rfl, hct, hit, hbt⟩
              have HT9 := Lib.hid (HT8.out.mono hbt)
              have HIt := Lib.hid hit
              clear hct hit hbt HIb HIq HPp
              go_wp2_with fail
              have HSt := Lib.hid (root_step HSq.out.1 HSq.out.2 HEd.out.1 HEd.out.2.1 HEd.out.2.2 HLe.out HMx.out)
              refine (minus_ref (Rf.tens S) (Rf.tens ((20 * r + d) * d)) o2 ot c2 ct (S - (20 * r + d) * d) W9 HT9.out.rest HIt.out (Rf.digs_tens _) (Rf.digs_tens _) (by have := HMl.out.2.1; omega) (by have := HEl.out d hd9; omega) (by rw [Rf.valT_tens, Rf.valT_tens]; have := HLe.out; omega)).mono ?_
              rintro e W10 ⟨o5, c5, rfl, hc5, hi5, hb5⟩
              have HT10 := Lib.hid (show RT w B4 lx cx _ X r (S - (20 * r + d) * d) (20 * r) o6 c6 o5 c5 o4 c4 W10 from { HT9.out.mono hb5 with rest := hi5, tcap := hc5 })
              clear hc5 hi5 hb5 HIt HT9
              go_wp2_with fail
              refine (shifted_new r (d + 10 * r) dz o6 c6 W10 HT10.out.root (by have := HMl.out.2.2.1; omega) hdz0 (by omega) (by rw [HDz.out]; omega)).mono ?_
              rintro e W11 ⟨o8, c8, rfl, hc8, hi8, hb8, -⟩
              have HT11 := Lib.hid (show RT w B4 lx cx _ X (d + 10 * r) (S - (20 * r + d) * d) (20 * r) o8 c8 o5 c5 o4 c4 W11 from { HT10.out.mono hb8 with root := hi8, rcap := hc8 })
              clear hc8 hi8 hb8 HT10
              go_wp2_with fail
              go_roundg j
              case rel => exact ⟨j, (j : Int) - 1, Y', d + 10 * r, S - (20 * r + d) * d, 20 * r, o8, c8, o5, c5, o4, c4, by omega, by omega, rfl, rfl, rfl, Lib.hid (by rw [HTj.out]; exact HY'.out), HSt, HT11, rfl⟩
              case measure => omega
      · exfalso
        rw [HLx.out] at hlo
        omega
end Go.Proofs.YthbfbpbppjkoeaaGreatDoor
