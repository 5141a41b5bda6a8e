/- What the contracts of package big ask of the world; slices.Backward and its literal; at, count. Conditions: those in the statements. -/
import Derived.Test.YthbfbpbppjkoeaaGreatDoorBigW
import Derived.Test.YthbfbpbppjkoeaaGreatDoorBigB
import Derived.Lib.AppendIntMem
namespace Go.Proofs.YthbfbpbppjkoeaaGreatDoor
open Go.RowKit Go.Shelf

/-- The tables and variables of the library that are read. -/
structure Wd (w : World) : Prop where
  tab : Lib.TabIs Tryz.prog w "internal/strconv.uint64pow10" .u64 Lib.pow10Tab
  rng : ∃ ev, w.cell? ⟨1, 0, none⟩ = some ev ∧ (ev = .nilIface ∨ ∃ te pe, ev = .iface te pe)
theorem Wd.below {w w' : World} (h : Wd w) (hb : Below w.heap.size w w') : Wd w' where
  tab := Lib.tabBelow_of_tabIs h.tab w' hb
  rng := by
    obtain ⟨ev, hc, he⟩ := h.rng
    exact ⟨ev, (hb.cell (p := ⟨1, 0, none⟩) (World.block_lt_of_cell? _ _ hc)).trans hc, he⟩

theorem below_dn {B : Nat} {a w : World} (h : Below B a w) (n : Nat) : Below B a (w.drewN n) := h.trans ⟨rfl, rfl, rfl, Nat.le_refl _, fun _ _ => rfl⟩
theorem itoa_c (n : Int) (h0 : -9223372036854775808 ≤ n) (h1 : n ≤ 9223372036854775807) (w : World) (hw : Wd w) :
    Calls Tryz.prog 78 #[.int .i64 n] w fun e w' => e = .returned (.string ⟨(Lib.itoa n).toArray⟩) ∧ Below w.heap.size w w' := by
  refine (Tryz.strconv_Itoa n h0 h1 w hw.tab).mono ?_
  rintro e w' ⟨rfl, k, os, rfl⟩
  exact ⟨rfl, Lib.below_grow _ w (Nat.le_refl _) k os⟩

attribute [local go_sem] Oper.semAt_some

set_option maxHeartbeats 1000000 in
theorem backward_in (F : Fence) (n : Nat) (hf : F.fn 105) (hro : F.round = none) (a : Option Addr) (len cap : Nat) (w : World) :
    CallsIn F n Tryz.prog 105 #[.slice a len cap] w fun e w' => e = .returned (.func (.func 126) #[] #[.pointer (some ⟨w.heap.size, 0, none⟩)]) ∧ w' = w.alloc (.cells #[.slice a len cap] 59) := by
  refine callsIn_of_wp Tryz.func105 rfl hf ?_ hro
  simp only [Tryz.ntmps105, List.size_toArray, List.length_cons, List.length_nil, Nat.reduceAdd, Nat.reduceSub, Array.replicate_succ, Array.replicate_zero, List.push_toArray, List.append_toArray, List.nil_append, List.cons_append]
  gi_wp2
  go_ret
  exact ⟨rfl, rfl⟩

/-- What comes backward: the indices. -/
def bk (n : Nat) : List (Fin n) := (List.finRange n).reverse
theorem bk_length (n : Nat) : (bk n).length = n := by simp [bk]
theorem bk_get (n k : Nat) (h : k < n) : (bk n)[k]? = some ⟨n - 1 - k, by omega⟩ := by
  unfold bk
  rw [List.getElem?_reverse (by simpa using h), List.length_finRange, List.getElem?_eq_getElem (by simp; omega)]
  simp
theorem bk_take (n k : Nat) (h : k < n) : (bk n).take (k + 1) = (bk n).take k ++ [⟨n - 1 - k, by omega⟩] := by
  rw [List.take_add_one, bk_get n k h]; rfl
/-- What a round is handed. -/
def bkv (cs : List Int) (x : Fin cs.length) : Array Value := #[.int .i64 (x.val : Int), .int .i64 (cs[x.val]?.getD 0)]

set_option maxRecDepth 100000 in
set_option maxHeartbeats 2000000 in
theorem backward1_in (F : Fence) (n : Nat) (hf : F.fn 126) (hro : F.round = none) (hn : 1 ≤ n) (l Bs n₀ : Nat) (a : Option Addr) (cap : Nat) (cs : List Int)
    (hlen : cs.length ≤ 1000000) (J Jx : List (Fin cs.length) → World → Prop)
    (hY : ∀ pre x W, J pre W → pre.length < cs.length → YieldAt F (n - 1) Tryz.prog l (bkv cs x) W fun e W' =>
      (e = .returned (.bool true) ∧ J (pre ++ [x]) W' ∧ KeepB n₀ Bs W W') ∨ (e = .returned (.bool false) ∧ Jx (pre ++ [x]) W'))
    (W : World) (hBs : W.cell? ⟨Bs, 0, none⟩ = some (.slice a cs.length cap)) (hc : IntAt W a cs) (ha : 0 < cs.length → ∀ b, a = some ⟨b, 0, none⟩ → b < n₀) (h0 : J [] W) :
    CallsIn F n Tryz.prog 126 #[.func (.yield l) #[] #[], .pointer (some ⟨Bs, 0, none⟩)] W fun e W' => (∃ v, e = .returned v) ∧
      ((∃ ys, ys = bk cs.length ∧ J ys W') ∨ (∃ pre, (∃ k, k ≤ cs.length ∧ pre = (bk cs.length).take k) ∧ Jx pre W')) := by
  have HY := Lib.hid hY
  have HC := Lib.hid hc
  have HA := Lib.hid ha
  have H0 := Lib.hid h0
  clear hY hc ha h0
  refine callsIn_of_wp Tryz.func126 rfl hf ?_ hro
  simp only [Tryz.ntmps126, List.size_toArray, List.length_cons, List.length_nil, Nat.reduceAdd, Nat.reduceSub, Array.replicate_succ, Array.replicate_zero, List.push_toArray, List.append_toArray, List.nil_append, List.cons_append]
  gi_wp2
  have HBs := Lib.hid hBs
  clear hBs
  gi_loopw [3] (fun i wr => ∃ k : Nat, k ≤ cs.length ∧ ((k = cs.length ∧ i = .int .i64 (-1)) ∨ (∃ q : Nat, k + q + 1 = cs.length ∧ i = .int .i64 q)) ∧
      Hid (J ((bk cs.length).take k) wr) ∧ Hid (KeepB n₀ Bs W wr))
    (fun i _ => (intOf i + 1).toNat)
  case atStart =>
    by_cases hz : cs.length = 0
    · exact ⟨0, Nat.zero_le _, .inl ⟨hz.symm, by rw [hz]; rfl⟩, H0, Lib.hid (KeepB.refl _ _ _)⟩
    · exact ⟨0, Nat.zero_le _, .inr ⟨cs.length - 1, by omega, by congr 1; omega⟩, H0, Lib.hid (KeepB.refl _ _ _)⟩
  case round =>
    obtain ⟨k, hk, (⟨hkl, rfl⟩ | ⟨q, hq, rfl⟩), HJ, HW⟩ := hrel
    · have HK := Lib.hid hkl
      clear hkl hk
      gi_wp2
      go_end0
      have hJ := HJ.out
      rw [HK.out, List.take_of_length_le (by rw [bk_length]; exact Nat.le_refl _)] at hJ
      exact ⟨⟨_, rfl⟩, .inl ⟨_, rfl, hJ⟩⟩
    · have hbs : wr.cell? ⟨Bs, 0, none⟩ = some (.slice a cs.length cap) := (HW.out.cell (.inr rfl)).trans HBs.out
      have hqlt : q < cs.length := by omega
      obtain ⟨y, hy⟩ : ∃ y, cs[q]? = some y := ⟨_, List.getElem?_eq_getElem hqlt⟩
      obtain ⟨b, rfl, hb, hcell⟩ := HC.out q y hy
      replace hcell := (HW.out.cell (.inl (HA.out (by omega) b rfl))).trans hcell
      have hx : (bk cs.length).take k ++ [⟨q, hqlt⟩] = (bk cs.length).take (k + 1) := by
        rw [bk_take _ _ (by omega)]
        congr 3
        omega
      have HX := Lib.hid hx
      have HQ := Lib.hid hq
      obtain ⟨fn, tmps, assign, body, hyy, hR⟩ := HY.out _ ⟨q, hqlt⟩ wr HJ.out (by rw [List.length_take, bk_length]; omega)
      simp only [bkv] at hyy
      rw [hy, Option.getD_some] at hyy
      have HR := Lib.hid hR
      have hq0 : (0 : Int) ≤ (q : Int) := by omega
      have hql : (q : Int) < (cs.length : Int) := by omega
      have hq63 : (q : Int) ≤ 1000000 := by omega
      clear hR hx hy hq
      gi_wp2
      refine HR.out.mono ?_
      rintro e W3 (⟨rfl, hJ3, hk3⟩ | ⟨rfl, hJx3⟩)
      · rw [HX.out] at hJ3
        have HJ3 := Lib.hid hJ3
        have HW3 := Lib.hid (HW.out.trans hk3)
        clear hJ3 hk3
        gi_wp2
        go_roundw
        case rel =>
          have := HQ.out
          refine ⟨k + 1, by omega, ?_, HJ3, HW3⟩
          by_cases hz : q = 0
          · exact .inl ⟨by omega, by rw [hz]; rfl⟩
          · exact .inr ⟨q - 1, by omega, by congr 1; omega⟩
        case measure => simp [intOf]
      · rw [HX.out] at hJx3
        gi_wp2
        refine bodyPost_ret (results_none rfl _ _ _) rfl ?_
        exact ⟨⟨_, rfl⟩, .inr ⟨_, ⟨k + 1, by have := HQ.out; omega, rfl⟩, hJx3⟩⟩

theorem backward_stops (F : Fence) (n : Nat) (hf : F.fn 126) (hro : F.round = none) (hn : 1 ≤ n) (Bs n₀ : Nat) (a : Option Addr) (cap : Nat) (cs : List Int)
    (hlen : cs.length ≤ 1000000) (w : World) (hBs : w.cell? ⟨Bs, 0, none⟩ = some (.slice a cs.length cap)) (hBl : Bs < w.heap.size) (hc : IntAt w a cs) (ha : 0 < cs.length → ∀ b, a = some ⟨b, 0, none⟩ → b < n₀) :
    SeqStopsK F n Tryz.prog 126 #[.pointer (some ⟨Bs, 0, none⟩)] (bkv cs) (KeepB n₀ Bs) (fun ys => ys = bk cs.length)
      (fun pre => ∃ k, k ≤ cs.length ∧ pre = (bk cs.length).take k) cs.length w := fun l J Jx W hW _ _ hY h0 =>
  backward1_in F n hf hro hn l Bs n₀ a cap cs hlen J Jx hY W ((hW.cell (p := ⟨Bs, 0, none⟩) hBl).trans hBs) (hc.mono hW) ha h0

/-! at, count. -/
set_option maxHeartbeats 1000000 in
theorem at_c (o : Option Addr) (c : Nat) (l : List Int) (i : Int) (w : World) (h : IntAt w o l) (h1 : -1000000 ≤ i) (h2 : i ≤ 2000000) :
    Calls Tryz.prog 156 #[.slice o l.length c, .int .i64 i] w fun e w' => e = .returned (.int .i64 (if i < 0 then 0 else l[i.toNat]?.getD 0)) ∧ w' = w := by
  by_cases hi : i < 0
  · rw [if_pos hi]
    go_enter Tryz.func156, Tryz.ntmps156
    go_wp2
    go_ret
    exact ⟨rfl, rfl⟩
  · rw [if_neg hi]
    obtain ⟨k, rfl⟩ := Int.eq_ofNat_of_zero_le (by omega : 0 ≤ i)
    rw [Int.toNat_natCast]
    by_cases hk : k < l.length
    · obtain ⟨y, hy⟩ : ∃ y, l[k]? = some y := ⟨_, List.getElem?_eq_getElem hk⟩
      obtain ⟨b, rfl, hb, hcell⟩ := h k y hy
      have d : decide ((k : Int) ≥ (l.length : Int)) = false := decide_eq_false (by omega)
      have hk' : (k : Int) < (l.length : Int) := by omega
      rw [show l[k]?.getD 0 = y by rw [hy]; rfl]
      clear hy h
      go_enter Tryz.func156, Tryz.ntmps156
      go_wp2
      go_ret
      exact ⟨rfl, rfl⟩
    · have e : l[k]?.getD 0 = 0 := by rw [List.getElem?_eq_none (by omega)]; rfl
      have d : decide ((k : Int) ≥ (l.length : Int)) = true := decide_eq_true (by omega)
      rw [e]
      clear e h
      go_enter Tryz.func156, Tryz.ntmps156
      go_wp2
      go_ret
      exact ⟨rfl, rfl⟩
end Go.Proofs.YthbfbpbppjkoeaaGreatDoor
