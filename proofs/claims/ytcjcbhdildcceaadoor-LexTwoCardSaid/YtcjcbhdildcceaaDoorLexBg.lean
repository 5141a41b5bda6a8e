/- Contract of begins of the statements' package. Conditions: those in the statement. -/
import Derived.Test.YtcjcbhdildcceaaDoorLexSi
import Derived.Test.YtcjcbhdildcceaaDoorLexPt
namespace Go.Proofs.YtcjcbhdildcceaaDoor
open Go.RowKit

def begCells (s : List UInt8) (k : Nat) : List Value := (Lx.begins s k).map fun (n : Nat) => .int .i64 (n : Int)
def Lx.beginsZ (s : List UInt8) : List Int := (begins s s.length).map fun (n : Nat) => (n : Int)
/-- What begins leaves. -/
def beginsLeft (s : List UInt8) (w : World) (e : Ending) (w' : World) : Prop :=
  ∃ o c, e = .returned (.slice o (Lx.beginsZ s).length c) ∧ Below w.heap.size w w' ∧ IntAt w' o (Lx.beginsZ s)

set_option maxHeartbeats 4000000 in
set_option maxRecDepth 100000 in
theorem begins_c (s : List UInt8) (w : World) (hs : s.length ≤ 100000) :
    Calls Tryd.prog 17 #[.string ⟨s.toArray⟩] w (beginsLeft s w) := by
  have hss : (⟨s.toArray⟩ : ByteArray).size = s.length := by simp [ByteArray.size]
  obtain ⟨i0, hi, hz0, hz1, hz2⟩ := info_parts info_int
  have hn0 := World.alloc_heap_new w (.cells #[.int .i64 0] 3)
  have ho0 : (w.alloc (.cells #[.int .i64 0] 3)).ownsRow w.heap.size 3 1 (.slice (some ⟨w.heap.size, 0, none⟩) 1 1) (Lx.begins s 0).length (begCells s 0) :=
    ⟨rfl, .inr ⟨w.heap.size, 1, #[.int .i64 0], rfl, Nat.le_refl _, hn0, Nat.le_refl _, by simp [maxLen], rfl, rfl⟩⟩
  have HO0 := Lib.hid ho0
  clear hn0 ho0
  go_enter Tryd.func17, Tryd.ntmps17
  go_wp2_with fail
  go_loopg [3, 4] s.length (fun g v i wr => ∃ k : Nat, k ≤ s.length ∧ i = .int .i64 k ∧ Hid (wr.ownsRow w.heap.size 3 1 v (Lx.begins s k).length (begCells s k)) ∧ Hid (Below w.heap.size w wr) ∧ (Lx.begins s k).length ≤ k + 1 ∧ g = s.length - k)
  case atStart => exact ⟨0, Nat.zero_le _, rfl, HO0, Lib.hid ((Below.refl _ w).alloc (Nat.le_refl _) _), Nat.le_refl _, rfl⟩
  case round =>
    obtain ⟨k, hk, rfl, HV, HW, hbl, hg⟩ := hrel
    by_cases hE : k = s.length
    · have dE : decide ((k : Int) < (s.length : Int)) = false := decide_eq_false (by omega)
      have HE := Lib.hid hE
      clear hE
      go_wp2_with fail
      all_goals (try (exfalso; have := HE.out; omega))
      have hv := HV.out
      rw [HE.out] at hv
      refine bodyPost_ret (v := u3) ?_ rfl ?_
      · simp [results, Tryd.results17, go_sem]
      · rcases hv.2 with ⟨rfl, h0⟩ | ⟨g, c, cur, hv1, hbg, hgg, _⟩
        · exfalso
          have := (begins_at s s.length (Nat.le_refl _)).1
          omega
        · subst hv1
          refine ⟨some ⟨g, 0, none⟩, c, ?_, HW.out, ?_⟩
          · unfold Lx.beginsZ; rw [List.length_map]
          · intro j n hn
            unfold Lx.beginsZ at hn
            rw [List.getElem?_map] at hn
            obtain ⟨q, hq, rfl⟩ := Option.map_eq_some_iff.1 hn
            refine ⟨g, 0, rfl, (Array.getElem?_eq_some_iff.1 hgg).1, ?_⟩
            rw [Nat.zero_add, ← add_plain]
            exact hv.cells (g := g) rfl j _ (by unfold begCells; rw [List.getElem?_map, hq]; rfl)
    · have hlt : k < s.length := by omega
      have dE : decide ((k : Int) < (s.length : Int)) = true := decide_eq_true (by omega)
      clear hE
      have hwz := HW.out.size
      obtain ⟨c, hc⟩ : ∃ c, s[k]? = some c := ⟨_, List.getElem?_eq_getElem hlt⟩
      have hget : (⟨s.toArray⟩ : ByteArray)[k]'(by rw [hss]; exact hlt) = c := by
        have := (List.getElem?_eq_some_iff.1 hc).2
        exact this
      have hbs : Lx.begins s (k + 1) = if s[k]? = some 10 then Lx.begins s k ++ [k + 1] else Lx.begins s k := rfl
      rw [hc] at hbs
      have HBS := Lib.hid hbs
      clear hc hbs
      by_cases h10 : c = 10
      · have d10 : ((c.toNat : Int) == 10) = true := by rw [h10]; rfl
        have HBS2 := Lib.hid (HBS.out.trans (if_pos (by rw [h10])))
        clear h10 HBS
        have HCn : ∀ j u, ([.int .i64 ((k : Int) + 1)] : List Value)[j]? = some u → (wr.alloc (.cells #[.int .i64 ((k : Int) + 1)] 3)).cell? ((⟨wr.heap.size, 0, none⟩ : Addr).add j) = some u := by
          intro j u hj
          rw [add_plain, Lib.cell_of_heap (World.alloc_heap_new _ _)]
          simpa using hj
        have HCn := Lib.hid HCn
        have H1c : ∀ u ∈ ([.int .i64 ((k : Int) + 1)] : List Value), u.oneCell' = true := by simp [Value.oneCell']
        have H1c := Lib.hid H1c
        have hkw : IntKind.i64.wrap ((k : Int) + 1) = (k : Int) + 1 := IntWalk.i64_in _ (by omega)
        go_wp2_with (at_builtin; refine wpList_append_own _ rfl _ _ 31 rfl w.heap.size 3 i0 _ 1 8 Tryd.underlying31 hi hz0 hz1 hz2 rfl (by decide) u3 (Lx.begins s k).length (begCells s k) rfl (HV.out.alloc _) ⟨wr.heap.size, 0, none⟩ 1 1 [.int .i64 ((k : Int) + 1)] rfl rfl HCn.out H1c.out (by show _ ≤ 9223372036854775807; omega) (by omega) (by simp; omega) ?_; intro v' w2 hown' hgrow _; have HOw := Lib.hid hown'; have HGw := Lib.hid hgrow; clear hown' hgrow)
        have HR : Hid (w2.ownsRow w.heap.size 3 1 v' (Lx.begins s (k + 1)).length (begCells s (k + 1))) := by
          refine Lib.hid ?_
          have h1 := HOw.out
          unfold begCells at h1 ⊢
          rw [HBS2.out, List.length_append, List.map_append]
          exact h1
        have HB2 : Hid (Below w.heap.size w w2) := Lib.hid ((HW.out.alloc hwz _).grown HGw.out (by simp; omega) (fun b e => (HV.out.lt b e).1))
        have hbl2 : (Lx.begins s (k + 1)).length ≤ k + 1 + 1 := by rw [HBS2.out, List.length_append]; simp; omega
        clear HOw HGw HCn H1c hkw
        go_roundg (s.length - (k + 1))
        case rel => exact ⟨k + 1, by omega, rfl, HR, HB2, hbl2, rfl⟩
        case measure => omega
      · have d10 : ((c.toNat : Int) == 10) = false := beq_eq_false_iff_ne.2 (fun e => h10 (UInt8.toNat_inj.1 (by have : (10 : UInt8).toNat = 10 := rfl; omega)))
        have HBS2 := Lib.hid (HBS.out.trans (if_neg (by simpa using h10)))
        clear h10 HBS
        go_wp2_with fail
        have HR : Hid (wr.ownsRow w.heap.size 3 1 u3 (Lx.begins s (k + 1)).length (begCells s (k + 1))) := by
          refine Lib.hid ?_
          have h1 := HV.out
          unfold begCells at h1 ⊢
          rw [HBS2.out]; exact h1
        have hbl2 : (Lx.begins s (k + 1)).length ≤ k + 1 + 1 := by rw [HBS2.out]; omega
        go_roundg (s.length - (k + 1))
        case rel => exact ⟨k + 1, by omega, rfl, HR, HW, hbl2, rfl⟩
        case measure => omega
end Go.Proofs.YtcjcbhdildcceaaDoor
