/- Contracts of weight and brief of the laws' package. Conditions: those in the statements. -/
import Derived.Test.YtcjcbhdildcceaaDoorLexRp
import Derived.Test.YtcjcbhdildcceaaDoorLexPw
namespace Go.Proofs.YtcjcbhdildcceaaDoor
open Go.RowKit

def Lx.brief (n : Nat) : Bool := decide (n ≤ 3000) || (decide (20000 < n) && decide (n ≤ 40000))
theorem brief_c (s : List UInt8) (w : World) :
    Calls Tryd.prog 12 #[.string ⟨s.toArray⟩] w fun e w' => e = .returned (.bool (Lx.brief s.length)) ∧ ∃ q, w' = w.drewN q := by
  have hss : (⟨s.toArray⟩ : ByteArray).size = s.length := by simp [ByteArray.size]
  go_enter Tryd.func12, Tryd.ntmps12
  generalize s.length = n at *
  by_cases h1 : n ≤ 3000
  · have d1 : decide ((n : Int) ≤ 3000) = true := decide_eq_true (by omega)
    have hb : Lx.brief n = true := by unfold Lx.brief; rw [decide_eq_true h1]; rfl
    clear h1
    go_wp2_with fail
    refine bodyPost_ret (v := .bool true) ?_ rfl ⟨by rw [hb], 0, rfl⟩
    simp [results, Tryd.results12, go_sem]
  · have d1 : decide ((n : Int) ≤ 3000) = false := decide_eq_false (by omega)
    by_cases h2 : 20000 < n
    · have d2 : decide ((20000 : Int) < (n : Int)) = true := decide_eq_true (by omega)
      by_cases h3 : n ≤ 40000
      · have d3 : decide ((n : Int) ≤ 40000) = true := decide_eq_true (by omega)
        have hb : Lx.brief n = true := by unfold Lx.brief; rw [decide_eq_true h2, decide_eq_true h3, decide_eq_false h1]; rfl
        clear h1 h2 h3
        go_wp2_with fail
        refine bodyPost_ret (v := .bool true) ?_ rfl ⟨by rw [hb], 0, rfl⟩
        simp [results, Tryd.results12, go_sem]
      · have d3 : decide ((n : Int) ≤ 40000) = false := decide_eq_false (by omega)
        have hb : Lx.brief n = false := by unfold Lx.brief; rw [decide_eq_true h2, decide_eq_false h3, decide_eq_false h1]; rfl
        clear h1 h2 h3
        go_wp2_with fail
        refine bodyPost_ret (v := .bool false) ?_ rfl ⟨by rw [hb], 0, rfl⟩
        simp [results, Tryd.results12, go_sem]
    · have d2 : decide ((20000 : Int) < (n : Int)) = false := decide_eq_false (by omega)
      have hb : Lx.brief n = false := by unfold Lx.brief; rw [decide_eq_false h2, decide_eq_false h1]; rfl
      clear h1 h2
      go_wp2_with fail
      refine bodyPost_ret (v := .bool false) ?_ rfl ⟨by rw [hb], 0, rfl⟩
      simp [results, Tryd.results12, go_sem]

/-- How many bytes the texts of tokens have, counted up to more than 30000. -/
def Lx.wgt : List Tk → Nat → Nat
  | [], n => n
  | t :: r, n => if n ≤ 30000 then wgt r (n + t.text.length) else n
theorem wgt_ge : ∀ (l : List Lx.Tk) (n : Nat), n ≤ Lx.wgt l n
  | [], n => Nat.le_refl _
  | t :: r, n => by
    unfold Lx.wgt
    split
    · have := wgt_ge r (n + t.text.length); omega
    · exact Nat.le_refl _
theorem wgt_le : ∀ (l : List Lx.Tk) (n : Nat), Lx.wgt l n ≤ 30000 → ∀ t ∈ l, t.text.length ≤ 30000
  | [], n, h, t, ht => by cases ht
  | a :: r, n, h, t, ht => by
    unfold Lx.wgt at h
    split at h
    · rcases List.mem_cons.1 ht with rfl | ht
      · have := wgt_ge r (n + t.text.length); omega
      · exact wgt_le r _ h t ht
    · omega
theorem wgt_more (l : List Lx.Tk) (k n : Nat) (t : Lx.Tk) (h : l[k]? = some t) (hn : n ≤ 30000) : Lx.wgt (l.drop k) n = Lx.wgt (l.drop (k + 1)) (n + t.text.length) := by
  rw [List.drop_eq_getElem_cons (List.getElem?_eq_some_iff.1 h).1, (List.getElem?_eq_some_iff.1 h).2]
  conv => lhs; unfold Lx.wgt
  rw [if_pos hn]
theorem wgt_stop (l : List Lx.Tk) (n : Nat) (hn : ¬ n ≤ 30000) : Lx.wgt l n = n := by
  cases l with
  | nil => rfl
  | cons a r => unfold Lx.wgt; rw [if_neg hn]

set_option maxHeartbeats 4000000 in
set_option maxRecDepth 100000 in
theorem weight_c (l : List Lx.Tk) (o : Option Addr) (c : Nat) (w : World) (h : TokAt w o l) (hn : l.length ≤ 1000000) (hl : ∀ t ∈ l, t.text.length ≤ 140737488355328) :
    Calls Tryd.prog 20 #[.slice o l.length c] w fun e w' => e = .returned (.int .i64 (Lx.wgt l 0)) ∧ ∃ q, w' = w.drewN q := by
  have HA := Lib.hid h
  have HL := Lib.hid hl
  clear h hl
  go_enter Tryd.func20, Tryd.ntmps20
  go_wp2_with fail
  go_loopg [3, 4] l.length (fun g n i wr => ∃ k nn : Nat, k ≤ l.length ∧ i = .int .i64 k ∧ n = .int .i64 nn ∧ nn ≤ 140737488400000 ∧ Hid (Lx.wgt (l.drop k) nn = Lx.wgt l 0) ∧ Hid (∃ q, wr = w.drewN q) ∧ g = l.length - k)
  case atStart => exact ⟨0, 0, Nat.zero_le _, rfl, rfl, by omega, Lib.hid rfl, Lib.hid ⟨0, rfl⟩, rfl⟩
  case round =>
    obtain ⟨k, nn, hk, rfl, rfl, hnn, HK, HW, hg⟩ := hrel
    by_cases hE : k = l.length
    · have dE : decide ((k : Int) < (l.length : Int)) = false := decide_eq_false (by omega)
      have HE := Lib.hid hE
      clear hE
      go_wp2_with fail
      all_goals (try (exfalso; have := HE.out; omega))
      refine bodyPost_ret (v := .int .i64 nn) ?_ rfl ⟨by have := HK.out; rw [HE.out, List.drop_length] at this; rw [← this]; rfl, HW.out⟩
      simp [results, Tryd.results20, go_sem]
    · have hlt : k < l.length := by omega
      have dE : decide ((k : Int) < (l.length : Int)) = true := decide_eq_true (by omega)
      by_cases h3 : nn ≤ 30000
      · have d3 : decide ((nn : Int) ≤ 30000) = true := decide_eq_true (by omega)
        obtain ⟨t, ht⟩ : ∃ t, l[k]? = some t := ⟨_, List.getElem?_eq_getElem hlt⟩
        obtain ⟨b, a, rfl, hb, x0, x1, -, -⟩ := HA.out k t ht
        replace x1 := ((dn_below HW.out).cell (p := ⟨b, _, none⟩) hb).trans x1
        have htl := HL.out t (List.mem_of_getElem? ht)
        have htz : (⟨t.text.toArray⟩ : ByteArray).size = t.text.length := by simp [ByteArray.size]
        have hwr : IntKind.i64.wrap ((nn : Int) + (t.text.length : Int)) = (nn : Int) + (t.text.length : Int) := IntWalk.i64_in _ (by omega)
        have HNK := Lib.hid ((wgt_more l k nn t ht h3).symm.trans HK.out)
        have H3 := Lib.hid h3
        clear ht h3 hE
        go_wp2_with fail
        go_roundg (l.length - (k + 1))
        case rel => exact ⟨k + 1, nn + t.text.length, by omega, rfl, rfl, by have := H3.out; omega, HNK, HW, rfl⟩
        case measure => omega
      · have d3 : decide ((nn : Int) ≤ 30000) = false := decide_eq_false (by omega)
        have H3 := Lib.hid h3
        clear h3 hE
        go_wp2_with fail
        refine bodyPost_ret (v := .int .i64 nn) ?_ rfl ⟨by rw [← HK.out, wgt_stop _ _ H3.out], HW.out⟩
        simp [results, Tryd.results20, go_sem]
end Go.Proofs.YtcjcbhdildcceaaDoor
