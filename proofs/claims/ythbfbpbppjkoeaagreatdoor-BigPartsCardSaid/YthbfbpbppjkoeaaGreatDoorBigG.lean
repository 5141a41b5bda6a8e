/- Contract of plusTimes of package big. Conditions: those in the statements. -/
import Derived.Test.YthbfbpbppjkoeaaGreatDoorBigC
import Derived.Test.YthbfbpbppjkoeaaGreatDoorBigF
import Derived.Laws.CopyOwn
import Derived.Deep.DeepCutAuto
namespace Go.Proofs.YthbfbpbppjkoeaaGreatDoor
open Go.RowKit Go.Shelf

/-- A row that is owned whole, as a block. -/
theorem owns_heap {w : World} {base e g m : Nat} {xs : List Value} (h : w.ownsRow base e 1 (.slice (some ⟨g, 0, none⟩) m m) m xs) : w.heap[g]? = some (.cells xs.toArray e (0, 0)) := by
  rcases h.2 with ⟨h1, _⟩ | ⟨g', cap, cur, hv, hb, hg, h1, h2, h3, h4⟩
  · cases h1
  · injection hv with e1 e2 e3
    injection e1 with e1
    injection e1 with e1
    subst e1 e3
    rw [List.take_of_length_le (by rw [Array.length_toList, h3]; exact Nat.le_refl _)] at h4
    rw [hg, ← h4]
theorem heap_owns {w : World} {base e g m : Nat} {xs : List Value} (h : w.heap[g]? = some (.cells xs.toArray e (0, 0))) (hb : base ≤ g) (hm : xs.length = m) (hl : m ≤ maxLen) : w.ownsRow base e 1 (.slice (some ⟨g, 0, none⟩) m m) m xs :=
  ⟨by rw [Nat.mul_one]; exact hm, .inr ⟨g, m, xs.toArray, rfl, hb, h, Nat.le_refl _, hl, by rw [Nat.mul_one]; simpa using hm, by rw [Nat.mul_one, ← hm]; simp⟩⟩
theorem prod_bound {K y : Int} (h1 : -1000000 ≤ K) (h2 : K ≤ 1000000) (h3 : 0 ≤ y) (h4 : y ≤ 1000000) : -1000000000000 ≤ K * y ∧ K * y ≤ 1000000000000 := by
  constructor
  · have := Int.mul_le_mul_of_nonneg_right h1 h3
    have := Int.mul_le_mul_of_nonpos_left (a := -1000000) (by decide) h4
    omega
  · have := Int.mul_le_mul_of_nonneg_right h2 h3
    omega
theorem take_valI {l : List Int} {k : Nat} {y K : Int} (hy : l[k]? = some y) : K * Bg.valI (l.take (k + 1)) = K * Bg.valI (l.take k) + K * y * 1000000 ^ k := by
  have hk : k < l.length := (List.getElem?_eq_some_iff.1 hy).1
  rw [Bg.valI_take l k hk, Int.mul_add, Int.mul_assoc, show l[k] = y from (List.getElem?_eq_some_iff.1 hy).2]

set_option maxRecDepth 100000 in
set_option maxHeartbeats 4000000 in
theorem plusTimes_c (o o' : Option Addr) (c c' : Nat) (dl el : List Int) (K : Int) (V : Nat) (w : World) (h : IntAt w o dl) (h' : IntAt w o' el)
    (hd : ∀ x ∈ dl, 0 ≤ x ∧ x ≤ 1000000) (he : ∀ x ∈ el, 0 ≤ x ∧ x ≤ 1000000) (hK1 : -1000000 ≤ K) (hK2 : K ≤ 1000000) (hl : dl.length ≤ 1000) (hl' : el.length ≤ 1000)
    (hV : Bg.valI dl + K * Bg.valI el = V) :
    Calls Tryz.prog 110 #[.slice o dl.length c, .int .i64 K, .slice o' el.length c'] w (RetInts (Bg.ds V) w) := by
  obtain ⟨i0, hi, hz0, hz1, hz2⟩ := info_parts info_int
  have H1 := Lib.hid h
  have H2 := Lib.hid h'
  have HD := Lib.hid hd
  have HE := Lib.hid he
  have HV := Lib.hid hV
  clear h h' hd he hV
  go_enter Tryz.func110, Tryz.ntmps110
  have hm : max dl.length el.length ≤ 1000 := by omega
  go_upto_region 2 with (at_make; refine wpList_make_full _ rfl _ _ 50 rfl w.heap.size 3 i0 (.int .i64 0) 1 Tryz.underlying50 hi hz0 hz1 .i64 .i64 _ _ (max dl.length el.length) rfl rfl (by omega) (by omega) (by rw [hz2]; omega) (by unfold maxLen; omega) (Nat.le_refl _) ?_; intro w1 hown1 hgrow1; have HO1 := Lib.hid hown1; have HG1 := Lib.hid hgrow1; clear hown1 hgrow1)
  have hb1 : Below w.heap.size w w1 := (Below.refl _ w).grown HG1.out (Nat.le_refl _) (fun k e => by cases e)
  have hrow : w1.ownsRow w.heap.size 3 1 (.slice (some ⟨w.heap.size, 0, none⟩) (max dl.length el.length) (max dl.length el.length)) (max dl.length el.length) (List.replicate (max dl.length el.length) (.int .i64 0)) := by
    have := HO1.out
    rwa [show (Value.int IntKind.i64 0).cells = #[.int .i64 0] from rfl, Nat.mul_one, toList_madeCells_one] at this
  have HRow := Lib.hid hrow
  have HB1 := Lib.hid hb1
  clear hrow hb1 HO1 HG1
  generalize hMx : max dl.length el.length = m at *
  have hmd : dl.length ≤ m := by omega
  have hme : el.length ≤ m := by omega
  clear hMx
  have hcp : (dl.map (Value.int .i64)).length = Nat.min dl.length m := by rw [List.length_map]; exact (Nat.min_eq_left hmd).symm
  have hpos : 0 < (dl.map (Value.int .i64)).length → (some ⟨w.heap.size, 0, none⟩ : Option Addr) = some ⟨w.heap.size, 0, none⟩ ∧ ∃ ad, o = some ad ∧ ∀ j v, (dl.map (Value.int .i64))[j]? = some v → w1.cell? (ad.add j) = some v := by
    intro hp
    refine ⟨rfl, ?_⟩
    obtain ⟨b, e, hb, _⟩ := H1.out.get (k := 0) (by simpa using hp)
    refine ⟨_, e, fun j v hv => ?_⟩
    rw [List.getElem?_map, Option.map_eq_some_iff] at hv
    obtain ⟨x, hx, rfl⟩ := hv
    obtain ⟨b', e', hb', hc'⟩ := H1.out j x hx
    rw [e] at e'
    injection e' with e'
    injection e' with e'
    subst e'
    rw [show ((⟨b, 0, none⟩ : Addr).add j) = ⟨b, j, none⟩ from by unfold Addr.add; split <;> simp_all]
    exact (HB1.out.cell (p := ⟨b, j, none⟩) hb).trans hc'
  have HCP := Lib.hid hcp
  have HPos := Lib.hid hpos
  clear hcp hpos
  go_wp2_with ((with_reducible show wpList _ _ _ _ _ _); refine wpList_copy_splice (o := ⟨some 18, _, _, _, _, _⟩) rfl (.tmp 16) (.tmp 17) 50 59 rfl 3 Tryz.underlying50 (by kernel_rfl) (some ⟨w.heap.size, 0, none⟩) o m m dl.length c rfl rfl w.heap.size 0 (List.replicate m (.int .i64 0)) 3 (owns_heap HRow.out) (dl.map (Value.int .i64)) HCP.out HPos.out (by simp; omega) (by simp [Value.oneCell']) w.heap.size w HB1.out (Nat.le_refl _) ?_; intro w2 HG2 hb2; have HB2 := Lib.hid hb2; clear hb2)
  have hrow2 : w2.ownsRow w.heap.size 3 1 (.slice (some ⟨w.heap.size, 0, none⟩) m m) m ((dl ++ List.replicate (m - dl.length) 0).map (Value.int .i64)) := by
    refine heap_owns (e := 3) ?_ (Nat.le_refl _) (by simp; omega) (by unfold maxLen; omega)
    have := HG2.out
    rw [this]
    simp [splice]
  have hval : Bg.valI (dl ++ List.replicate (m - dl.length) 0) = Bg.valI dl := Bg.valI_zeros _ _
  have hbd : ∀ (j : Nat) x, (dl ++ List.replicate (m - dl.length) 0)[j]? = some x → 0 ≤ x ∧ x ≤ 1000000 := by
    intro j x hx
    rcases List.mem_append.1 (List.mem_of_getElem? hx) with h | h
    · exact HD.out x h
    · obtain ⟨_, rfl⟩ := List.mem_replicate.1 h; decide
  have hlen0 : (dl ++ List.replicate (m - dl.length) 0).length = m := by simp; omega
  have HR2 := Lib.hid hrow2
  have HVal := Lib.hid hval
  have HBd := Lib.hid hbd
  have HLn := Lib.hid hlen0
  clear hrow2 hval hbd hlen0 HRow HB1 HCP HPos HG2
  go_wp2_with fail
  go_loopw [8, 9, 21] (fun _ _ i wr => ∃ (k : Nat) (cols : List Int), k ≤ el.length ∧ i = .int .i64 k ∧ Hid (cols.length = m) ∧ Hid (wr.ownsRow w.heap.size 3 1 (.slice (some ⟨w.heap.size, 0, none⟩) m m) m (cols.map (Value.int .i64))) ∧
      Hid (Bg.valI cols = Bg.valI dl + K * Bg.valI (el.take k)) ∧ Hid (∀ (j : Nat) x, cols[j]? = some x → -2000000000000 ≤ x ∧ x ≤ 2000000000000 ∧ (k ≤ j → 0 ≤ x ∧ x ≤ 1000000)) ∧ Hid (Below w.heap.size w wr))
    (fun _ _ i _ => el.length - (intOf i).toNat)
  case atStart => exact ⟨0, _, Nat.zero_le _, rfl, HLn, HR2, Lib.hid (by rw [HVal.out]; simp [Bg.valI]), Lib.hid (fun j x hx => by have := HBd.out j x hx; exact ⟨by omega, by omega, fun _ => this⟩), HB2⟩
  case round =>
    clear HLn HR2 HVal HBd HB2
    obtain ⟨k, cols, hk, rfl, HLn, HRow, HVl, HBd, HBw⟩ := hrel
    by_cases hlt : k < el.length
    · have dL : decide ((k : Int) < (el.length : Int)) = true := decide_eq_true (by omega)
      obtain ⟨y, hy⟩ : ∃ y, el[k]? = some y := ⟨_, List.getElem?_eq_getElem hlt⟩
      obtain ⟨b, rfl, hb, hcell⟩ := H2.out k y hy
      replace hcell := (HBw.out.cell (p := ⟨b, k, none⟩) hb).trans hcell
      obtain ⟨hy1, hy2⟩ := HE.out y (List.mem_of_getElem? hy)
      have hkm : k < cols.length := by have := HLn.out; omega
      obtain ⟨x, hx⟩ : ∃ x, cols[k]? = some x := ⟨_, List.getElem?_eq_getElem hkm⟩
      obtain ⟨hx1, hx2⟩ := (HBd.out k x hx).2.2 (Nat.le_refl _)
      have hcx := HRow.out.cellAt k (by omega)
      rw [List.getElem?_map, hx] at hcx
      have hcx : wr.cell? ⟨w.heap.size, k, none⟩ = some (.int .i64 x) := hcx
      have hcf := HRow.out.frozenAt k
      obtain ⟨hp1, hp2⟩ := prod_bound hK1 hK2 hy1 hy2
      have hk0 : (0 : Int) ≤ (k : Int) := by omega
      have hk1 : (k : Int) < (m : Int) := by omega
      have hk2 : (k : Int) < (el.length : Int) := by omega
      obtain ⟨hst1, hst2⟩ := HRow.out.stored k (.int .i64 (x + K * y))
      rw [← List.map_set] at hst1
      have hv2 : Bg.valI (cols.set k (x + K * y)) = Bg.valI dl + K * Bg.valI (el.take (k + 1)) := by
        have := Bg.valI_set cols k (K * y) hkm
        rw [hx, Option.getD_some] at this
        rw [this, HVl.out, take_valI hy, Int.add_assoc]
      have hb2 : ∀ (j : Nat) z, (cols.set k (x + K * y))[j]? = some z → -2000000000000 ≤ z ∧ z ≤ 2000000000000 ∧ (k + 1 ≤ j → 0 ≤ z ∧ z ≤ 1000000) := by
        intro j z hz
        rw [List.getElem?_set] at hz
        split at hz
        · injection hz with hz; subst hz; exact ⟨by omega, by omega, fun h => by omega⟩
        · have := HBd.out j z hz
          exact ⟨this.1, this.2.1, fun h => this.2.2 (by omega)⟩
      have HS1 := Lib.hid hst1
      have HS2 := Lib.hid (HBw.out.setCell (p := ⟨w.heap.size, k, none⟩) (Nat.le_refl _) (.int .i64 (x + K * y)))
      have HV2 := Lib.hid hv2
      have HB2 := Lib.hid hb2
      have HL2 := Lib.hid (show (cols.set k (x + K * y)).length = m by rw [List.length_set]; exact HLn.out)
      clear hy hx hst1 hst2 hv2 hb2
      go_wp2_with fail
      go_roundw
      case rel => exact ⟨k + 1, _, by omega, by go_num, HL2, HS1, HV2, HB2, HS2⟩
      case measure => simp [intOf]; omega
    · have dL : decide ((k : Int) < (el.length : Int)) = false := decide_eq_false (by omega)
      have hkl : k = el.length := by omega
      have hfin : Bg.valI cols = (V : Int) := by
        rw [HVl.out, hkl, List.take_length]; exact HV.out
      have hc := settled_c (some ⟨w.heap.size, 0, none⟩) m cols V hfin (fun z hz => by obtain ⟨j, hj⟩ := List.mem_iff_getElem?.1 hz; have := HBd.out j z hj; omega) (by have := HLn.out; omega) wr (intAt_owns HRow.out)
      rw [HLn.out] at hc
      have HC := Lib.hid hc
      clear hc hfin hkl
      go_wp2_with fail
      refine HC.out.mono ?_
      rintro e w' ⟨o2, c2, rfl, hi2, hb2, hf2⟩
      have HI2 := Lib.hid hi2
      have HB3 := Lib.hid (HBw.out.trans (hb2.mono HBw.out.size))
      have HF2 := Lib.hid hf2
      clear hi2 hb2 hf2
      go_wp2_with fail
      go_ret
      exact ⟨o2, c2, rfl, HI2.out, HB3.out, fun b e => Nat.le_trans HBw.out.size (HF2.out b e)⟩
end Go.Proofs.YthbfbpbppjkoeaaGreatDoor
