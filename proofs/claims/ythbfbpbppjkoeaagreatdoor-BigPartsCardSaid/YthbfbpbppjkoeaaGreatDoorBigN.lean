/- Contract of digitsOf of package big. Conditions: those in the statements. -/
import Derived.Test.YthbfbpbppjkoeaaGreatDoorBigM
import Derived.Lib.AtoiErrMem
namespace Go.Proofs.YthbfbpbppjkoeaaGreatDoor
open Go.RowKit Go.Shelf

theorem ba_chunk (s : List UInt8) (i j : Nat) : (⟨s.toArray⟩ : ByteArray).extract i j = ⟨((s.take j).drop i).toArray⟩ := by
  apply ByteArray.ext
  simp [ByteArray.data_extract, List.drop_take]

theorem atoi_few_c (l : List UInt8) (hd : ∀ b ∈ l, Bg.isDig b = true) (hne : l ≠ []) (hl : l.length ≤ 18) (w : World) :
    Calls Tryz.prog 77 #[.string ⟨l.toArray⟩] w fun e w' => e = .returned (.tuple #[.int .i64 (Bg.dv l : Int), .nilIface]) ∧ Below w.heap.size w w' := by
  refine (Tryz.strconv_Atoi_ok ⟨l.toArray⟩ (by show l.toArray.size ≤ _; simp; omega) (Bg.dv l : Int) (Bg.atoi_few l hd hne hl) w).mono ?_
  rintro e w' ⟨rfl, rfl | ⟨t, rfl⟩⟩
  · exact ⟨rfl, Below.refl _ _⟩
  · exact ⟨rfl, Lib.bytesWorld_below _ _ _⟩

set_option maxRecDepth 100000 in
set_option maxHeartbeats 800000 in
theorem digitsOf_c (s : List UInt8) (hd : ∀ b ∈ s, Bg.isDig b = true) (hl : s.length ≤ 1000) (w : World) :
    Calls Tryz.prog 100 #[.string ⟨s.toArray⟩] w (RetInts (Bg.ds (Bg.dv s)) w) := by
  obtain ⟨i0, hi, hz0, hz1, hz2⟩ := info_parts info_int
  have hsz : (⟨s.toArray⟩ : ByteArray).size = s.length := by simp [ByteArray.size]
  have HD := Lib.hid hd
  clear hd
  go_enter Tryz.func100, Tryz.ntmps100
  go_wp2_with fail
  go_loopg [3, 4] s.length (fun g v e wr => ∃ (i : Nat) (cols : List Int), cols.length = i ∧ e = .int .i64 ((s.length : Int) - 6 * i) ∧ 6 * i ≤ s.length + 5 ∧ Hid (Bg.valI cols = (Bg.dv (s.drop (s.length - 6 * i)) : Int)) ∧ Hid (∀ c ∈ cols, (0 : Int) ≤ c ∧ c ≤ 1000000) ∧ Hid (wr.ownsRow w.heap.size 3 1 v i (cols.map (Value.int .i64))) ∧ Hid (Below w.heap.size w wr) ∧ g = s.length - 6 * i)
  case atStart => exact ⟨0, [], rfl, by simp, by omega, Lib.hid (by simp [Bg.valI, Bg.dv, Bg.dvF]), Lib.hid (by simp), Lib.hid (World.ownsRow_nil _ _ _ _), Lib.hid (Below.refl _ _), rfl⟩
  case round =>
    obtain ⟨i, cols, hci, rfl, hi6, HV, HB, HR, HW, hg⟩ := hrel
    by_cases hE : 6 * i < s.length
    · have dE : decide ((0 : Int) < (s.length : Int) - 6 * i) = true := decide_eq_true (by omega)
      have e1 : IntKind.i64.wrap ((s.length : Int) - 6 * i - 6) = (s.length : Int) - 6 * (i + 1 : Nat) := by
        rw [IntWalk.i64_in _ (by omega)]; omega
      obtain ⟨a, ha⟩ : ∃ a : Nat, s.length - 6 * (i + 1) = a := ⟨_, rfl⟩
      obtain ⟨b, hb⟩ : ∃ b : Nat, s.length - 6 * i = b := ⟨_, rfl⟩
      have hab : a ≤ b ∧ b ≤ s.length ∧ b - a ≤ 6 ∧ a < b := by omega
      have emax : max ((s.length : Int) - 6 * (i + 1 : Nat)) 0 = (a : Int) := by omega
      have ee : (s.length : Int) - 6 * i = (b : Int) := by omega
      have hstep := Bg.chunk_step s a b i hab.1 hab.2.1 (by omega)
      have hchunk : ((s.take b).drop a).length = b - a := by rw [List.length_drop, List.length_take]; omega
      have hdig : ∀ x ∈ (s.take b).drop a, Bg.isDig x = true := fun x hx => HD.out x (List.mem_of_mem_take (List.mem_of_mem_drop hx))
      have hlt := Bg.dv_lt _ hdig
      have hat := fun w => atoi_few_c ((s.take b).drop a) hdig (fun h => by rw [h] at hchunk; simp at hchunk; omega) (by omega) w
      have hlt2 : Bg.dv ((s.take b).drop a) < 1000000 := Nat.lt_of_lt_of_le hlt (by rw [hchunk]; exact Nat.pow_le_pow_right (by decide) hab.2.2.1)
      have HST := Lib.hid hstep
      have HAT := Lib.hid hat
      have hcut := ba_chunk s a b
      generalize (s.take b).drop a = ch at *
      generalize hdv : Bg.dv ch = d at *
      rw [ee] at *
      have he1 : IntKind.i64.wrap ((b : Int) - 6) = (b : Int) - 6 := IntWalk.i64_in _ (by omega)
      have emax : max ((b : Int) - 6) 0 = (a : Int) := by omega
      clear e1 hstep hat hlt hdig
      go_wp2_with fail
      refine (HAT.out wr).mono ?_
      rintro e w1 ⟨rfl, hb1⟩
      have HW1 := Lib.hid (HW.out.trans (hb1.mono HW.out.size))
      have HR1 := Lib.hid (ownsRow_below HR.out hb1)
      clear hb1
      have hdi : (0 : Int) ≤ (d : Int) ∧ (d : Int) ≤ 1000000 := by omega
      have hwz := HW1.out.size
      go_wp2_with (at_builtin; refine wpList_append_own _ rfl _ _ 50 rfl w.heap.size 3 i0 (.int .i64 0) 1 8 Tryz.underlying50 hi hz0 hz1 hz2 rfl (by decide) _ i _ rfl (HR1.out.alloc _) ⟨w1.heap.size, 0, none⟩ 1 1 [.int .i64 d] rfl rfl (cell_one_new _ _ _) (by simp [Value.oneCell']) (by show _ ≤ 9223372036854775807; omega) (by omega) (by simp; omega) ?_; intro v' w2 hown' hgrow _; have HOw := Lib.hid hown'; have HGw := Lib.hid hgrow; clear hown' hgrow)
      have hr : IntKind.i64.wrap ((b : Int) - 6) = (s.length : Int) - 6 * (i + 1 : Nat) := by omega
      have HB2 : Hid (Below w.heap.size w w2) := Lib.hid ((HW1.out.alloc hwz _).grown HGw.out (by simp; omega) (fun b e => (HR1.out.lt b e).1))
      have HR2 : Hid (w2.ownsRow w.heap.size 3 1 v' (i + 1) ((cols ++ [(d : Int)]).map (Value.int .i64))) := Lib.hid (by rw [List.map_append]; exact HOw.out)
      have HV2 : Hid (Bg.valI (cols ++ [(d : Int)]) = (Bg.dv (s.drop a) : Int)) := Lib.hid (by
        rw [HST.out, Bg.valI_append, HV.out, hci, hb]
        simp [Bg.valI, Int.mul_comm]
        omega)
      have HB3 : Hid (∀ c ∈ cols ++ [(d : Int)], (0 : Int) ≤ c ∧ c ≤ 1000000) := Lib.hid (fun c hc => by
        rcases List.mem_append.1 hc with h | h
        · exact HB.out c h
        · rw [List.mem_singleton.1 h]; exact hdi)
      go_roundg a
      case rel => exact ⟨i + 1, cols ++ [(d : Int)], by simp [hci], by rw [← hr, he1], by omega, by rw [ha]; exact HV2, HB3, HR2, HB2, ha.symm⟩
      case measure => omega
    · have dE : decide ((0 : Int) < (s.length : Int) - 6 * i) = false := decide_eq_false (by omega)
      have hz : s.length - 6 * i = 0 := by omega
      have hv := HV.out
      rw [hz, List.drop_zero] at hv
      obtain ⟨o, c, rfl⟩ : ∃ o c, u3 = .slice o cols.length c := by
        rcases HR.out.2 with ⟨rfl, h0⟩ | ⟨g, c, cur, rfl, _⟩
        · exact ⟨none, 0, by rw [hci, h0]⟩
        · exact ⟨_, _, by rw [hci]⟩
      have hrow := HR.out
      rw [← hci] at hrow
      have hc := settled_c o c cols _ hv (fun c hc => by have := HB.out c hc; omega) (by omega) wr (intAt_owns hrow)
      rw [hci] at hc
      have HC := Lib.hid hc
      clear hc hv hz hrow
      go_wp2_with fail
      refine HC.out.mono ?_
      rintro e w' ⟨o2, c2, rfl, hi2, hb2, hf2⟩
      have HI2 := Lib.hid hi2
      have HB3 := Lib.hid (HW.out.trans (hb2.mono HW.out.size))
      have HF2 := Lib.hid hf2
      clear hi2 hb2 hf2
      go_wp2_with fail
      go_ret
      exact ⟨o2, c2, rfl, HI2.out, HB3.out, fun b e => Nat.le_trans HW.out.size (HF2.out b e)⟩
end Go.Proofs.YthbfbpbppjkoeaaGreatDoor
