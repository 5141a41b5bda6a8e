/- Contract of product of package big. Conditions: those in the statements. -/
import Derived.Test.YthbfbpbppjkoeaaGreatDoorBigG
namespace Go.Proofs.YthbfbpbppjkoeaaGreatDoor
open Go.RowKit Go.Shelf

theorem prod_bound2 {x y : Int} (h1 : 0 ≤ x) (h2 : x ≤ 1000000) (h3 : 0 ≤ y) (h4 : y ≤ 1000000) : 0 ≤ x * y ∧ x * y ≤ 1000000000000 :=
  ⟨Int.mul_nonneg h1 h3, by have := (prod_bound (by omega) h2 h3 h4).2; exact this⟩
/-- What the columns make behind some rounds. -/
theorem prod_step {dl el : List Int} {i j : Nat} {x y : Int} (hy : el[j]? = some y) :
    Bg.valI (dl.take i) * Bg.valI el + x * 1000000 ^ i * Bg.valI (el.take j) + x * y * 1000000 ^ (i + j) = Bg.valI (dl.take i) * Bg.valI el + x * 1000000 ^ i * Bg.valI (el.take (j + 1)) := by
  have hj : j < el.length := (List.getElem?_eq_some_iff.1 hy).1
  rw [Bg.valI_take el j hj, show el[j] = y from (List.getElem?_eq_some_iff.1 hy).2, Int.mul_add, Int.pow_add]
  have : x * y * (1000000 ^ i * 1000000 ^ j) = x * 1000000 ^ i * (y * 1000000 ^ j) := by ac_rfl
  rw [this, Int.add_assoc]
theorem prod_next {dl el : List Int} {i : Nat} {x : Int} (hx : dl[i]? = some x) :
    Bg.valI (dl.take i) * Bg.valI el + x * 1000000 ^ i * Bg.valI el = Bg.valI (dl.take (i + 1)) * Bg.valI el := by
  have hi : i < dl.length := (List.getElem?_eq_some_iff.1 hx).1
  rw [Bg.valI_take dl i hi, show dl[i] = x from (List.getElem?_eq_some_iff.1 hx).2, Int.add_mul]

/-- The columns behind i rounds and j of the next one. -/
structure PC (m B : Nat) (dl el : List Int) (i : Nat) (x : Int) (j N : Nat) (w wr : World) (cols : List Int) : Prop where
  len : cols.length = m
  row : wr.ownsRow B 3 1 (.slice (some ⟨B, 0, none⟩) m m) m (cols.map (Value.int .i64))
  val : Bg.valI cols = Bg.valI (dl.take i) * Bg.valI el + x * 1000000 ^ i * Bg.valI (el.take j)
  bd : ∀ (t : Nat) z, cols[t]? = some z → 0 ≤ z ∧ z ≤ N * 1000000000000
  below : Below B w wr

set_option maxRecDepth 100000 in
set_option maxHeartbeats 8000000 in
theorem product_c (o o' : Option Addr) (c c' : Nat) (dl el : List Int) (V : Nat) (w : World) (h : IntAt w o dl) (h' : IntAt w o' el)
    (hd : ∀ x ∈ dl, 0 ≤ x ∧ x ≤ 1000000) (he : ∀ x ∈ el, 0 ≤ x ∧ x ≤ 1000000) (hl : dl.length ≤ 90) (hl' : el.length ≤ 90)
    (hV : Bg.valI dl * Bg.valI el = V) :
    Calls Tryz.prog 107 #[.slice o dl.length c, .slice o' el.length c'] w (RetInts (Bg.ds V) w) := by
  obtain ⟨i0, hi, hz0, hz1, hz2⟩ := info_parts info_int
  have H1 := Lib.hid h
  have H2 := Lib.hid h'
  have HD := Lib.hid hd
  have HE := Lib.hid he
  have HV := Lib.hid hV
  clear h h' hd he hV
  go_enter Tryz.func107, Tryz.ntmps107
  go_upto_region 2 with (at_make; refine wpList_make_full _ rfl _ _ 50 rfl w.heap.size 3 i0 (.int .i64 0) 1 Tryz.underlying50 hi hz0 hz1 .i64 .i64 _ _ (dl.length + el.length) rfl rfl (by simp) (by simp) (by rw [hz2]; omega) (by unfold maxLen; omega) (Nat.le_refl _) ?_; intro w1 hown1 hgrow1; have HO1 := Lib.hid hown1; have HG1 := Lib.hid hgrow1; clear hown1 hgrow1)
  have hb1 : Below w.heap.size w w1 := (Below.refl _ w).grown HG1.out (Nat.le_refl _) (fun k e => by cases e)
  have hrow : w1.ownsRow w.heap.size 3 1 (.slice (some ⟨w.heap.size, 0, none⟩) (dl.length + el.length) (dl.length + el.length)) (dl.length + el.length) ((List.replicate (dl.length + el.length) 0).map (Value.int .i64)) := by
    have := HO1.out
    rwa [show (Value.int IntKind.i64 0).cells = #[.int .i64 0] from rfl, Nat.mul_one, toList_madeCells_one, ← List.map_replicate] at this
  have hp0 : PC (dl.length + el.length) w.heap.size dl el 0 0 0 0 w w1 (List.replicate (dl.length + el.length) 0) :=
    { len := by simp, row := hrow, val := by simp [Bg.valI, Bg.valI_replicate], bd := fun t z hz => by obtain ⟨_, rfl⟩ := List.mem_replicate.1 (List.mem_of_getElem? hz); decide, below := hb1 }
  have HP0 := Lib.hid hp0
  clear hp0 hrow hb1 HO1 HG1
  go_wp2_with fail
  go_loopw [6, 7, 8, 9, 18] (fun _ _ _ _ i wr => ∃ (k : Nat) (cols : List Int), k ≤ dl.length ∧ i = .int .i64 k ∧ Hid (PC (dl.length + el.length) w.heap.size dl el k 0 0 (k * el.length) w wr cols))
    (fun _ _ _ _ i _ => dl.length - (intOf i).toNat)
  case atStart => exact ⟨0, _, Nat.zero_le _, rfl, Lib.hid (by simpa using HP0.out)⟩
  case round =>
    clear HP0
    obtain ⟨k, cols, hk, rfl, HP⟩ := hrel
    obtain ⟨wo, rfl⟩ : ∃ wo : World, wo = wr := ⟨_, rfl⟩
    by_cases hlt : k < dl.length
    · have dL : decide ((k : Int) < (dl.length : Int)) = true := decide_eq_true (by omega)
      obtain ⟨x, hx⟩ : ∃ x, dl[k]? = some x := ⟨_, List.getElem?_eq_getElem hlt⟩
      obtain ⟨b, rfl, hb, hcell⟩ := H1.out k x hx
      replace hcell := (HP.out.below.cell (p := ⟨b, k, none⟩) hb).trans hcell
      obtain ⟨hx1, hx2⟩ := HD.out x (List.mem_of_getElem? hx)
      have hk0 : (0 : Int) ≤ (k : Int) := by omega
      have hk2 : (k : Int) < (dl.length : Int) := by omega
      have HX := Lib.hid hx
      have HP2 : Hid (PC (dl.length + el.length) w.heap.size dl el k x 0 (k * el.length + 0) w wo cols) := Lib.hid { len := HP.out.len, row := HP.out.row, val := by have := HP.out.val; simpa [Bg.valI] using this, bd := HP.out.bd, below := HP.out.below }
      clear hx
      go_wp2_with fail
      go_loopw [8, 9, 25] (fun _ _ i wr => ∃ (j : Nat) (cols : List Int), j ≤ el.length ∧ i = .int .i64 j ∧ Hid (PC (dl.length + el.length) w.heap.size dl el k x j (k * el.length + j) w wr cols))
        (fun _ _ i _ => el.length - (intOf i).toNat)
      case atStart => exact ⟨0, cols, Nat.zero_le _, rfl, HP2⟩
      case round =>
        clear HP2 HP hcell
        obtain ⟨j, cols, hj, rfl, HQ⟩ := hrel
        by_cases hjt : j < el.length
        · have dJ : decide ((j : Int) < (el.length : Int)) = true := decide_eq_true (by omega)
          obtain ⟨y, hy⟩ : ∃ y, el[j]? = some y := ⟨_, List.getElem?_eq_getElem hjt⟩
          obtain ⟨b', rfl, hb', hcell'⟩ := H2.out j y hy
          replace hcell' := (HQ.out.below.cell (p := ⟨b', j, none⟩) hb').trans hcell'
          obtain ⟨hy1, hy2⟩ := HE.out y (List.mem_of_getElem? hy)
          have hkm : k + j < cols.length := by have := HQ.out.len; omega
          obtain ⟨z, hz⟩ : ∃ z, cols[k + j]? = some z := ⟨_, List.getElem?_eq_getElem hkm⟩
          obtain ⟨hz1, hz2⟩ := HQ.out.bd _ z hz
          have hN : k * el.length + j ≤ 8100 := by
            have : k * el.length ≤ 89 * 90 := Nat.mul_le_mul (by omega) hl'
            omega
          have hz3 : z ≤ 8100000000000000 := by omega
          have hcx := HQ.out.row.cellAt (k + j) (by omega)
          rw [List.getElem?_map, hz] at hcx
          have hcx : wr.cell? ⟨w.heap.size, k + j, none⟩ = some (.int .i64 z) := hcx
          have hcf := HQ.out.row.frozenAt (k + j)
          obtain ⟨hp1, hp2⟩ := prod_bound2 hx1 hx2 hy1 hy2
          have hj0 : (0 : Int) ≤ (j : Int) := by omega
          have hj2 : (j : Int) < (el.length : Int) := by omega
          obtain ⟨hst1, hst2⟩ := HQ.out.row.stored (k + j) (.int .i64 (z + x * y))
          rw [← List.map_set] at hst1
          have hv2 : Bg.valI (cols.set (k + j) (z + x * y)) = Bg.valI (dl.take k) * Bg.valI el + x * 1000000 ^ k * Bg.valI (el.take (j + 1)) := by
            have := Bg.valI_set cols (k + j) (x * y) hkm
            rw [hz, Option.getD_some] at this
            rw [this, HQ.out.val, prod_step hy]
          have hb2 : ∀ (t : Nat) u, (cols.set (k + j) (z + x * y))[t]? = some u → 0 ≤ u ∧ u ≤ ((k * el.length + (j + 1) : Nat) : Int) * 1000000000000 := by
            intro t u hu
            rw [List.getElem?_set] at hu
            split at hu
            · injection hu with hu; subst hu; exact ⟨by omega, by omega⟩
            · have := HQ.out.bd t u hu
              exact ⟨this.1, by omega⟩
          have HPN : Hid (PC (dl.length + el.length) w.heap.size dl el k x (j + 1) (k * el.length + (j + 1)) w (wr.setCell ⟨w.heap.size, k + j, none⟩ (.int .i64 (z + x * y))) (cols.set (k + j) (z + x * y))) :=
            Lib.hid { len := by rw [List.length_set]; exact HQ.out.len, row := hst1, val := hv2, bd := hb2, below := HQ.out.below.setCell (p := ⟨w.heap.size, k + j, none⟩) (Nat.le_refl _) _ }
          clear hy hz hst1 hst2 hv2 hb2 hz2
          go_wp2_with fail
          go_roundw
          case rel => exact ⟨j + 1, _, by omega, by go_num, HPN⟩
          case measure => simp [intOf]; omega
        · have dJ : decide ((j : Int) < (el.length : Int)) = false := decide_eq_false (by omega)
          have hje : j = el.length := by omega
          have HPN : Hid (PC (dl.length + el.length) w.heap.size dl el (k + 1) 0 0 ((k + 1) * el.length) w wr cols) := by
            refine Lib.hid { len := HQ.out.len, row := HQ.out.row, val := ?_, bd := ?_, below := HQ.out.below }
            · have := HQ.out.val
              rw [hje, List.take_length, prod_next HX.out] at this
              simpa [Bg.valI] using this
            · intro t u hu
              have := HQ.out.bd t u hu
              rw [hje, ← Nat.succ_mul] at this
              exact this
          clear hje
          go_wp2_with fail
          go_roundw
          case rel => exact ⟨k + 1, _, by omega, by go_num, HPN⟩
          case measure => simp [intOf]; omega
    · have dL : decide ((k : Int) < (dl.length : Int)) = false := decide_eq_false (by omega)
      have hkl : k = dl.length := by omega
      have hfin : Bg.valI cols = (V : Int) := by
        have := HP.out.val
        rw [hkl, List.take_length] at this
        rw [this, ← HV.out]; simp [Bg.valI]
      have hN : k * el.length ≤ 90 * 90 := Nat.mul_le_mul (by omega) hl'
      have hc := settled_c (some ⟨w.heap.size, 0, none⟩) (dl.length + el.length) cols V hfin (fun z hz => by obtain ⟨j, hj⟩ := List.mem_iff_getElem?.1 hz; have := HP.out.bd j z hj; omega) (by have := HP.out.len; omega) wo (intAt_owns HP.out.row)
      rw [HP.out.len] at hc
      have HC := Lib.hid hc
      clear hc hfin hkl hN
      go_wp2_with fail
      refine HC.out.mono ?_
      rintro e w' ⟨o2, c2, rfl, hi2, hb2, hf2⟩
      have HI2 := Lib.hid hi2
      have HB3 := Lib.hid (HP.out.below.trans (hb2.mono HP.out.below.size))
      have HF2 := Lib.hid hf2
      clear hi2 hb2 hf2
      go_wp2_with fail
      go_ret
      exact ⟨o2, c2, rfl, HI2.out, HB3.out, fun b e => Nat.le_trans HP.out.below.size (HF2.out b e)⟩
end Go.Proofs.YthbfbpbppjkoeaaGreatDoor
