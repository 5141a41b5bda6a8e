/- Contracts of the reader's methods that read words of package lex. No conditions but those in each statement. -/
import Derived.Test.YtcjcbhdildcceaaGreatDoorLexC
import Derived.Lib.SlBytesConst
namespace Go.Proofs.YtcjcbhdildcceaaGreatDoor
open Go.RowKit

theorem bytesOf_map (l : List UInt8) : Lib.bytesOf (l.map fun b => (b.toNat : Int)) = l := by
  unfold Lib.bytesOf
  rw [List.map_map]
  conv => rhs; rw [← List.map_id l]
  refine List.map_congr_left fun b _ => ?_
  simp
theorem map_getD (l : List UInt8) (j : Nat) (h : j < l.length) : (l.map fun b => (b.toNat : Int)).getD j 0 = ((l[j]?.getD 0).toNat : Int) := by
  simp [List.getD, h]
theorem hasSuffix_one (l : List UInt8) (c : UInt8) : Lib.hasSuffix l [c] = (l.getLast? == some c) := by
  unfold Lib.hasSuffix
  rw [Bool.eq_iff_iff, List.isSuffixOf_iff_suffix, beq_iff_eq, List.getLast?_eq_some_iff]
  exact ⟨fun ⟨t, h⟩ => ⟨t, h.symm⟩, fun ⟨t, h⟩ => ⟨t, h.symm⟩⟩
theorem hasPrefix_one (l : List UInt8) (c : UInt8) : Lib.hasPrefix l [c] = (l.head? == some c) := by
  unfold Lib.hasPrefix
  cases l with
  | nil => rfl
  | cons b r =>
    rw [Bool.eq_iff_iff]
    simp only [List.isPrefixOf, Bool.and_true, beq_iff_eq, List.head?_cons, Option.some.injEq]
    exact ⟨Eq.symm, Eq.symm⟩

theorem sep_cell {k : Nat} {x : UInt8} {w : World} (hx : w.cell? ⟨k, 0, none⟩ = some (.int .u8 x.toNat)) :
    ∀ i, i < 1 → w.cell? ⟨k, 0 + i, none⟩ = some (.int .u8 ([(x.toNat : Int)].getD i 0)) := by
  intro i hi
  obtain rfl : i = 0 := by omega
  exact hx

theorem cutSuffix_c (T a n c k : Nat) (x : UInt8) (l : List UInt8) (w : World) (hn : l.length = n) (hnc : n ≤ c) (hs : n ≤ 20000)
    (hc : ∀ j, j < l.length → w.cell? ⟨T, a + j, none⟩ = some (.int .u8 (l[j]?.getD 0).toNat)) (hx : w.cell? ⟨k, 0, none⟩ = some (.int .u8 x.toNat)) :
    Calls Tryz.prog 102 #[.slice (some ⟨T, a, none⟩) n c, .slice (some ⟨k, 0, none⟩) 1 1] w fun e w' =>
      e = .returned (.tuple #[.slice (some ⟨T, a, none⟩) (if l.getLast? == some x then l.dropLast else l).length c, .bool (l.getLast? == some x)]) ∧ w' = w := by
  refine (Tryz.bytes_CutSuffix T a n c k 0 1 1 (l.map fun b => (b.toNat : Int)) [(x.toNat : Int)] w (by simp [hn]) rfl hnc (by omega)
    (fun i hi => by rw [map_getD l i (by omega)]; exact hc i (by omega)) (sep_cell hx)).mono ?_
  rintro e w' ⟨rfl, rfl⟩
  refine ⟨?_, rfl⟩
  have e1 : Lib.bytesOf [(x.toNat : Int)] = [x] := by have := bytesOf_map [x]; simpa using this
  rw [Lib.bytesTrimSuffix, bytesOf_map, e1, hasSuffix_one]
  cases h : l.getLast? == some x <;> simp [Lib.sliceTo, hn]

theorem cutPrefix_c (T a n c k : Nat) (x : UInt8) (l : List UInt8) (w : World) (hn : l.length = n) (hnc : n ≤ c)
    (hc : ∀ j, j < l.length → w.cell? ⟨T, a + j, none⟩ = some (.int .u8 (l[j]?.getD 0).toNat)) (hx : w.cell? ⟨k, 0, none⟩ = some (.int .u8 x.toNat)) :
    Calls Tryz.prog 103 #[.slice (some ⟨T, a, none⟩) n c, .slice (some ⟨k, 0, none⟩) 1 1] w fun e w' =>
      ∃ a2 c2, e = .returned (.tuple #[.slice (some ⟨T, a2, none⟩) (if l.head? == some x then l.tail else l).length c2, .bool (l.head? == some x)]) ∧
        (∀ j, j < (if l.head? == some x then l.tail else l).length → w.cell? ⟨T, a2 + j, none⟩ = some (.int .u8 ((if l.head? == some x then l.tail else l)[j]?.getD 0).toNat)) ∧ w' = w := by
  refine (Tryz.bytes_CutPrefix T a n c k 0 1 1 (l.map fun b => (b.toNat : Int)) [(x.toNat : Int)] w (by simp [hn]) rfl hnc
    (fun i hi => by rw [map_getD l i (by omega)]; exact hc i (by omega)) (sep_cell hx)).mono ?_
  rintro e w' ⟨rfl, rfl⟩
  have e1 : Lib.bytesOf [(x.toNat : Int)] = [x] := by have := bytesOf_map [x]; simpa using this
  rw [Lib.bytesTrimPrefix, bytesOf_map, e1, hasPrefix_one]
  cases h : l.head? == some x
  · exact ⟨a, c, by simp [hn], by simpa using hc, rfl⟩
  · refine ⟨if c = 1 then a else a + 1, c - 1, ?_, ?_, rfl⟩
    · simp only [if_true, Lib.sliceFrom, List.length_singleton, List.length_tail, hn]
      split <;> rfl
    · intro j hj
      simp only [if_true, List.length_tail] at hj ⊢
      rw [if_neg (by omega), Nat.add_assoc, hc (1 + j) (by omega)]
      cases l with
      | nil => simp at hj
      | cons b r => simp [Nat.add_comm]

theorem KindsAt.below {w w' : World} {b o : Nat} (h : KindsAt w b o) (hb : Below w.heap.size w w') : KindsAt w' b o := by
  obtain ⟨h0, h1, h2, h3, h4, h5, h6⟩ := h
  exact ⟨(hb.cell (World.block_lt_of_cell? _ _ h0)).trans h0, (hb.cell (World.block_lt_of_cell? _ _ h1)).trans h1, (hb.cell (World.block_lt_of_cell? _ _ h2)).trans h2,
    (hb.cell (World.block_lt_of_cell? _ _ h3)).trans h3, (hb.cell (World.block_lt_of_cell? _ _ h4)).trans h4, (hb.cell (World.block_lt_of_cell? _ _ h5)).trans h5, (hb.cell (World.block_lt_of_cell? _ _ h6)).trans h6⟩
theorem cells_below {w w' : World} {T a : Nat} {l : List UInt8} (h : ∀ j, j < l.length → w.cell? ⟨T, a + j, none⟩ = some (.int .u8 (l[j]?.getD 0).toNat)) (hb : Below w.heap.size w w') :
    ∀ j, j < l.length → w'.cell? ⟨T, a + j, none⟩ = some (.int .u8 (l[j]?.getD 0).toNat) :=
  fun j hj => (hb.cell (World.block_lt_of_cell? _ _ (h j hj))).trans (h j hj)

theorem below_dn {B : Nat} {a w : World} (h : Below B a w) (q : Nat) : Below B a (w.drewN q) := ⟨h.os, h.tape, h.output, h.size, h.block⟩

theorem mark_cell (w : World) (x : UInt8) (i : Int) (h : (x.toNat : Int) = i) : (w.alloc (.cells #[.int .u8 i] 5 (1, 2))).cell? ⟨w.heap.size, 0, none⟩ = some (.int .u8 x.toNat) := by
  rw [World.cell?_alloc_mark, h]; rfl

def Lx.kindOf (n : Nat) (cp sm colon under : Bool) : Nat :=
  if n = 0 ∨ 24 < n then 0 else if cp && under then 4 else if cp && colon then 3 else if sm && !under && colon then 2 else if sm && !under then 1 else 0

set_option maxHeartbeats 2000000 in
set_option maxRecDepth 100000 in
theorem wordKind_c (B T a n c : Nat) (l : List UInt8) (w : World) (hk : KindsAt w B 3) (hn : l.length = n) (hnc : n ≤ c) (hs : n ≤ 20000)
    (hc : ∀ j, j < l.length → w.cell? ⟨T, a + j, none⟩ = some (.int .u8 (l[j]?.getD 0).toNat)) :
    Calls Tryz.prog 94 #[.pointer (some ⟨B, 0, none⟩), .slice (some ⟨T, a, none⟩) n c] w fun e w' =>
      e = .returned (.int .i64 (Lx.wordKind l)) ∧ Below w.heap.size w w' := by
  have kc := fun (w : World) (C : Array Value) (n c : Nat) => Lib.run_convert_bytes_const (P := Tryz.prog) w 64 5 C n c Tryz.underlying64 Tryz.underlying5
  have kc2 : ∀ (w : World) (o : Obj) (C : Array Value) (n c : Nat), (convert 64 64 (.slice (some ⟨w.heap.size + 1, 0, none⟩) n c)).run Tryz.prog ((w.alloc o).alloc (.cells C 5)) =
      .ok (.slice (some ⟨w.heap.size + 1, 0, none⟩) n c) ((w.alloc o).alloc (.cells C 5 (C.size, C.size + 1))) := fun w o C n c => by
    have := kc (w.alloc o) C n c
    rw [World.size_alloc] at this
    exact this
  have HD : Lx.wordKind l = Lx.kindOf (if (if l.getLast? == some 58 then l.dropLast else l).head? == some 95 then (if l.getLast? == some 58 then l.dropLast else l).tail else (if l.getLast? == some 58 then l.dropLast else l)).length
    (Lx.capital ((if (if l.getLast? == some 58 then l.dropLast else l).head? == some 95 then (if l.getLast? == some 58 then l.dropLast else l).tail else (if l.getLast? == some 58 then l.dropLast else l))[0]?.getD 0))
    (Lx.small ((if (if l.getLast? == some 58 then l.dropLast else l).head? == some 95 then (if l.getLast? == some 58 then l.dropLast else l).tail else (if l.getLast? == some 58 then l.dropLast else l))[0]?.getD 0))
    (l.getLast? == some 58) ((if l.getLast? == some 58 then l.dropLast else l).head? == some 95) := by
    rw [← List.head?_eq_getElem?]; rfl
  have hcs := fun W (hb : Below w.heap.size w W) hx => cutSuffix_c T a n c w.heap.size 58 l W hn hnc hs (cells_below hc hb) hx
  have hc1 : ∀ W, Below w.heap.size w W → ∀ j, j < (if l.getLast? == some 58 then l.dropLast else l).length → W.cell? ⟨T, a + j, none⟩ = some (.int .u8 ((if l.getLast? == some 58 then l.dropLast else l)[j]?.getD 0).toNat) := by
    intro W hb j hj
    cases h : l.getLast? == some 58
    · simp only [h, Bool.false_eq_true, if_false] at hj ⊢; exact cells_below hc hb j hj
    · simp only [h, if_true, List.length_dropLast] at hj ⊢
      rw [cells_below hc hb j (by omega), List.getElem?_dropLast, if_pos hj]
  have hl1 : (if l.getLast? == some 58 then l.dropLast else l).length ≤ n := by split <;> simp [hn]
  generalize (if l.getLast? == some 58 then l.dropLast else l) = l1 at *
  generalize (l.getLast? == some 58) = colon at *
  have hcp := fun W k hx (hb : Below w.heap.size w W) => cutPrefix_c T a l1.length c k 95 l1 W rfl (by omega) (hc1 W hb) hx
  have hl2 : (if l1.head? == some 95 then l1.tail else l1).length ≤ n := by
    split
    · rw [List.length_tail]; omega
    · exact hl1
  generalize (if l1.head? == some 95 then l1.tail else l1) = l2 at *
  generalize (l1.head? == some 95) = under at *
  clear hc hc1
  have HK := Lib.hid hk
  have HN := Lib.hid hn
  have HDD := Lib.hid HD
  have HCS := Lib.hid hcs
  have HCP := Lib.hid hcp
  have hlen1 := hl1
  clear hk HD hcs hcp hn hl1
  go_enter Tryz.func94, Tryz.ntmps94
  go_wp2_with fail
  refine (HCS.out _ ((Below.refl _ w).alloc (Nat.le_refl _) _) (mark_cell w 58 58 rfl)).mono ?_
  rintro e w' ⟨rfl, rfl⟩
  go_wp2_with fail
  have hb2 : Below w.heap.size w ((w.alloc (.cells #[.int .u8 58] 5 (1, 2))).alloc (.cells #[.int .u8 95] 5 (1, 2))) := ((Below.refl _ w).alloc (Nat.le_refl _) _).alloc (by simp) _
  have hx2 := mark_cell (w.alloc (.cells #[.int .u8 58] 5 (1, 2))) 95 95 rfl
  rw [World.size_alloc] at hx2
  refine (HCP.out _ _ hx2 hb2).mono ?_
  rintro e w' ⟨a2, c2, rfl, hcell, rfl⟩
  have HK2 := Lib.hid (HK.out.below hb2)
  have HB2 := Lib.hid hb2
  clear hb2 hx2
  generalize ((w.alloc (.cells #[.int .u8 58] 5 (1, 2))).alloc (.cells #[.int .u8 95] 5 (1, 2))) = W at *
  have k0 := HK2.out.1
  have k1 : W.cell? ⟨B, 4, none⟩ = some (.func (.func 82) #[] #[]) := HK2.out.2.1
  by_cases h0 : l2.length = 0
  · have d0 : ((l2.length : Int) == 0) = true := beq_iff_eq.2 (by omega)
    have H0 := Lib.hid h0
    clear h0 hcell
    go_wp2
    go_ret
    exact ⟨ret_int (by rw [HDD.out, Lx.kindOf, if_pos (.inl H0.out)]; rfl), HB2.out⟩
  · have d0 : ((l2.length : Int) == 0) = false := beq_eq_false_iff_ne.2 (by omega)
    by_cases h24 : 24 < l2.length
    · have d24 : decide ((24 : Int) < (l2.length : Int)) = true := decide_eq_true (by omega)
      clear hcell
      go_wp2
      go_ret
      exact ⟨ret_int (by rw [HDD.out, Lx.kindOf, if_pos (.inr h24)]; rfl), HB2.out⟩
    · have d24 : decide ((24 : Int) < (l2.length : Int)) = false := decide_eq_false (by omega)
      have hc0 : W.cell? ⟨T, a2, none⟩ = some (.int .u8 (l2[0]?.getD 0).toNat) := hcell 0 (by omega)
      have hsmall := fun W => small_c (l2[0]?.getD 0) W
      have hcap := fun W => capital_c (l2[0]?.getD 0) W
      have hD2 := HDD.out
      rw [Lx.kindOf, if_neg (by omega)] at hD2
      clear HDD hcell
      generalize Lx.small (l2[0]?.getD 0) = sm at hsmall hD2
      generalize Lx.capital (l2[0]?.getD 0) = cp at hcap hD2
      generalize l2[0]?.getD 0 = b at hc0 hsmall hcap
      have HS := Lib.hid hsmall
      have HCp := Lib.hid hcap
      have HD2 := Lib.hid hD2
      clear hsmall hcap hD2
      have hpos : (0 : Int) < (l2.length : Int) := by omega
      clear h0
      go_wp2
      go_quiet ((first | (go_at_call 81; exact Calls.quiet_of_same (HS.out _)) | (go_at_call 82; exact Calls.quiet_of_same (HCp.out _))))
      go_wp2
      all_goals
        go_ret
        refine ⟨ret_int ?_, below_dn HB2.out _⟩
        rw [HD2.out]
        simp_all
end Go.Proofs.YtcjcbhdildcceaaGreatDoor
