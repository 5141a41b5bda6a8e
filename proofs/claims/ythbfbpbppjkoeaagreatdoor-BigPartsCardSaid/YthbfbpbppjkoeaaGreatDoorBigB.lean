/- Contracts of carried of package big and of its literal, at every loop's body; of settled. Conditions: those in the statements. -/
import Derived.Test.YthbfbpbppjkoeaaGreatDoorBigA
import Derived.WalkSmall
namespace Go.Proofs.YthbfbpbppjkoeaaGreatDoor
open Go.RowKit Go.Shelf

attribute [local go_sem] Oper.semAt_some

set_option maxHeartbeats 1000000 in
theorem carried_in (F : Fence) (n : Nat) (hf : F.fn 140) (hro : F.round = none) (a : Option Addr) (len cap : Nat) (w : World) :
    CallsIn F n Tryz.prog 140 #[.slice a len cap] w fun e w' => e = .returned (.func (.func 154) #[] #[.pointer (some ⟨w.heap.size, 0, none⟩)]) ∧ w' = w.alloc (.cells #[.slice a len cap] 50) := by
  refine callsIn_of_wp Tryz.func140 rfl hf ?_ hro
  simp only [Tryz.ntmps140, List.size_toArray, List.length_cons, List.length_nil, Nat.reduceAdd, Nat.reduceSub, Array.replicate_succ, Array.replicate_zero, List.push_toArray, List.append_toArray, List.nil_append, List.cons_append]
  gi_wp2
  go_ret
  exact ⟨rfl, rfl⟩

/-- What a carry is bounded by. -/
theorem carry_small {c t : Int} (h1 : -1000000000000 ≤ t) (h2 : t ≤ 1000000000000) (h3 : -10000000000000000 ≤ c) (h4 : c ≤ 10000000000000000) : -1000000000000 ≤ (t + c) / 1000000 ∧ (t + c) / 1000000 ≤ 1000000000000 := by omega

set_option maxRecDepth 100000 in
set_option maxHeartbeats 2000000 in
theorem carried1_in (F : Fence) (n : Nat) (hf : F.fn 154) (hro : F.round = none) (hn : 1 ≤ n) (l Bs n₀ : Nat) (a : Option Addr) (cap : Nat) (cs : List Int) (V : Nat) (hV : Bg.valI cs = V)
    (hB : ∀ c ∈ cs, -10000000000000000 ≤ c ∧ c ≤ 10000000000000000) (hlen : cs.length ≤ 1000000) (J Jx : List Int → World → Prop)
    (hY : ∀ pre x W, J pre W → pre.length < max cs.length (Bg.ds V).length → YieldAt F (n - 1) Tryz.prog l #[.int .i64 x] W fun e W' =>
      (e = .returned (.bool true) ∧ J (pre ++ [x]) W' ∧ KeepB n₀ Bs W W') ∨ (e = .returned (.bool false) ∧ Jx (pre ++ [x]) W'))
    (W : World) (hBs : W.cell? ⟨Bs, 0, none⟩ = some (.slice a cs.length cap)) (hc : IntAt W a cs) (ha : 0 < cs.length → ∀ b, a = some ⟨b, 0, none⟩ → b < n₀) (h0 : J [] W) :
    CallsIn F n Tryz.prog 154 #[.func (.yield l) #[] #[], .pointer (some ⟨Bs, 0, none⟩)] W fun e W' => (∃ v, e = .returned v) ∧
      ((∃ ys, ys = Bg.outs V (max cs.length (Bg.ds V).length) ∧ J ys W') ∨ (∃ pre, (∃ k, k ≤ max cs.length (Bg.ds V).length ∧ pre = Bg.outs V k) ∧ Jx pre W')) := by
  have hds := Bg.ds_len_valI hV hB
  have HB := Lib.hid hB
  have HY := Lib.hid hY
  have HC := Lib.hid hc
  have HA := Lib.hid ha
  have HV := Lib.hid hV
  have H0 := Lib.hid h0
  have HBs := Lib.hid hBs
  clear hB hY hc ha hV h0 hBs
  refine callsIn_of_wp Tryz.func154 rfl hf ?_ hro
  simp only [Tryz.ntmps154, List.size_toArray, List.length_cons, List.length_nil, Nat.reduceAdd, Nat.reduceSub, Array.replicate_succ, Array.replicate_zero, List.push_toArray, List.append_toArray, List.nil_append, List.cons_append]
  gi_wp2
  gi_loopw [3, 4] (fun c i wr => ∃ (k : Nat) (t : Int), k ≤ max cs.length (Bg.ds V).length ∧ i = .int .i64 k ∧ c = .int .i64 t ∧ -1000000000000 ≤ t ∧ t ≤ 1000000000000 ∧
      Hid (t + Bg.valI (cs.drop k) = ((V / 1000000 ^ k : Nat) : Int)) ∧ Hid (J (Bg.outs V k) wr) ∧ Hid (KeepB n₀ Bs W wr))
    (fun _ i _ => max cs.length (Bg.ds V).length - (intOf i).toNat)
  case atStart => exact ⟨0, 0, Nat.zero_le _, rfl, rfl, by decide, by decide, Lib.hid (by simpa using HV.out), H0, Lib.hid (KeepB.refl _ _ _)⟩
  case round =>
    obtain ⟨k, t, hk, rfl, rfl, ht1, ht2, HT, HJ, HW⟩ := hrel
    have hbs : wr.cell? ⟨Bs, 0, none⟩ = some (.slice a cs.length cap) := (HW.out.cell (.inr rfl)).trans HBs.out
    by_cases hlt : k < cs.length
    · have dL : decide ((k : Int) < (cs.length : Int)) = true := decide_eq_true (by omega)
      obtain ⟨y, hy⟩ : ∃ y, cs[k]? = some y := ⟨_, List.getElem?_eq_getElem hlt⟩
      obtain ⟨b, rfl, hb, hcell⟩ := HC.out k y hy
      replace hcell := (HW.out.cell (.inl (HA.out (by omega) b rfl))).trans hcell
      obtain ⟨hy1, hy2⟩ := HB.out y (List.mem_of_getElem? hy)
      have hk63 : (k : Int) ≤ 1000000 := by omega
      have hc1 : -10001000000000000 ≤ t + y := by omega
      have hc2 : t + y ≤ 10001000000000000 := by omega
      obtain ⟨hm1, hm2⟩ := Bg.tmod_bound (t + y)
      have HK := Lib.hid hy
      clear hy
      have hx : (t + y).tmod 1000000 % 1000000 = ((V / 1000000 ^ k % 1000000 : Nat) : Int) ∧ (t + y) / 1000000 + Bg.valI (cs.drop (k + 1)) = ((V / 1000000 ^ (k + 1) : Nat) : Int) := by
        have h1 := HT.out
        rw [Bg.valI_drop cs k hlt, show cs[k] = y from Option.some.inj ((List.getElem?_eq_getElem hlt).symm.trans HK.out), ← Int.add_assoc] at h1
        have h2 := Bg.carry_step _ _ _ h1
        rw [Bg.go_digit2, Nat.pow_succ, ← Nat.div_div_eq_div_mul]
        exact h2
      have HX := Lib.hid hx
      clear hx
      have hklt : k < max cs.length (Bg.ds V).length := by omega
      obtain ⟨fn, tmps, assign, body, hyy, hR⟩ := HY.out _ ((t + y).tmod 1000000 % 1000000) wr HJ.out (by rw [Bg.outs_length]; exact hklt)
      have HR := Lib.hid hR
      clear hR
      gi_wp2
      refine HR.out.mono ?_
      rintro e W3 (⟨rfl, hJ3, hk3⟩ | ⟨rfl, hJx3⟩)
      · rw [HX.out.1, ← Bg.outs_succ] at hJ3
        have HJ3 := Lib.hid hJ3
        have HW3 := Lib.hid (HW.out.trans hk3)
        clear hJ3 hk3
        gi_wp2
        go_roundw
        case rel => exact ⟨k + 1, (t + y) / 1000000, by omega, by simp, by rw [Bg.go_carry'], by omega, by omega, Lib.hid HX.out.2, HJ3, HW3⟩
        case measure => simp [intOf]; omega
      · rw [HX.out.1, ← Bg.outs_succ] at hJx3
        gi_wp2
        refine bodyPost_ret (results_none rfl _ _ _) rfl ?_
        exact ⟨⟨_, rfl⟩, .inr ⟨_, ⟨k + 1, by omega, rfl⟩, hJx3⟩⟩
    · have dL : decide ((k : Int) < (cs.length : Int)) = false := decide_eq_false (by omega)
      have ht : t = ((V / 1000000 ^ k : Nat) : Int) := by
        have := HT.out
        rw [List.drop_of_length_le (by omega)] at this
        simpa [Bg.valI] using this
      by_cases hp : 0 < t
      · have hklt : k < max cs.length (Bg.ds V).length := by
          have := (Bg.div_pow_pos V k).1 (by rw [← ht]; exact hp)
          omega
        have dP : decide (0 < t) = true := decide_eq_true hp
        have hx : t % 1000000 = ((V / 1000000 ^ k % 1000000 : Nat) : Int) ∧ t / 1000000 + Bg.valI (cs.drop (k + 1)) = ((V / 1000000 ^ (k + 1) : Nat) : Int) := by
          rw [List.drop_of_length_le (by omega), Nat.pow_succ, ← Nat.div_div_eq_div_mul]
          have := Bg.carry_step (V / 1000000 ^ k) t 0 (by rw [ht]; rfl)
          exact this
        have HX := Lib.hid hx
        have HT2 := Lib.hid ht
        clear hx ht
        obtain ⟨fn, tmps, assign, body, hyy, hR⟩ := HY.out _ (t % 1000000) wr HJ.out (by rw [Bg.outs_length]; exact hklt)
        have HR := Lib.hid hR
        clear hR
        gi_wp2
        refine HR.out.mono ?_
        rintro e W3 (⟨rfl, hJ3, hk3⟩ | ⟨rfl, hJx3⟩)
        · rw [HX.out.1, ← Bg.outs_succ] at hJ3
          have HJ3 := Lib.hid hJ3
          have HW3 := Lib.hid (HW.out.trans hk3)
          clear hJ3 hk3
          gi_wp2
          go_roundw
          case rel => exact ⟨k + 1, t / 1000000, by omega, by simp, by congr 1; omega, by omega, by omega, Lib.hid HX.out.2, HJ3, HW3⟩
          case measure => simp [intOf]; omega
        · rw [HX.out.1, ← Bg.outs_succ] at hJx3
          gi_wp2
          refine bodyPost_ret (results_none rfl _ _ _) rfl ?_
          exact ⟨⟨_, rfl⟩, .inr ⟨_, ⟨k + 1, by omega, rfl⟩, hJx3⟩⟩
      · have dP : decide (0 < t) = false := decide_eq_false hp
        have hkM : k = max cs.length (Bg.ds V).length := by
          have := mt (Bg.div_pow_pos V k).2 (by rw [← ht]; exact hp)
          omega
        have HT2 := Lib.hid ht
        have HK2 := Lib.hid hkM
        clear ht hkM
        gi_wp2
        go_end0
        have hJ := HJ.out
        rw [HK2.out] at hJ
        exact ⟨⟨_, rfl⟩, .inl hJ⟩
theorem outs_take (V k M : Nat) (h : k ≤ M) : Bg.outs V k <+: Bg.outs V M := by
  rw [← Bg.outs_take V k M h]; exact List.take_prefix _ _
theorem carried_stops (F : Fence) (n : Nat) (hf : F.fn 154) (hro : F.round = none) (hn : 1 ≤ n) (Bs n₀ : Nat) (a : Option Addr) (cap : Nat) (cs : List Int) (V : Nat) (hV : Bg.valI cs = V)
    (hB : ∀ c ∈ cs, -10000000000000000 ≤ c ∧ c ≤ 10000000000000000) (hlen : cs.length ≤ 1000000) (w : World) (hBs : w.cell? ⟨Bs, 0, none⟩ = some (.slice a cs.length cap)) (hBl : Bs < w.heap.size) (hc : IntAt w a cs) (ha : 0 < cs.length → ∀ b, a = some ⟨b, 0, none⟩ → b < n₀) :
    SeqStopsK F n Tryz.prog 154 #[.pointer (some ⟨Bs, 0, none⟩)] (fun x : Int => #[Value.int .i64 x]) (KeepB n₀ Bs) (fun ys => ys = Bg.outs V (max cs.length (Bg.ds V).length))
      (fun pre => ∃ k, k ≤ max cs.length (Bg.ds V).length ∧ pre = Bg.outs V k) (max cs.length (Bg.ds V).length) w := fun l J Jx W hW _ _ hY h0 =>
  carried1_in F n hf hro hn l Bs n₀ a cap cs V hV hB hlen J Jx hY W ((hW.cell (p := ⟨Bs, 0, none⟩) hBl).trans hBs) (hc.mono hW) ha h0
end Go.Proofs.YthbfbpbppjkoeaaGreatDoor
