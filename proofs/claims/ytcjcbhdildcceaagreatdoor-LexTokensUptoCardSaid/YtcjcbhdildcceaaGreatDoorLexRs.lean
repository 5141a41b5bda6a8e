/- Contracts of run over spans and over tokens of package lex. Conditions: those in the statements. -/
import Derived.Test.YtcjcbhdildcceaaGreatDoorLexSm
import Derived.Test.YtcjcbhdildcceaaGreatDoorLexL
import Derived.Shelf.Abstract
namespace Go.Proofs.YtcjcbhdildcceaaGreatDoor
open Go.RowKit

/-- A slice's address at which a list of spans lies. -/
def SpAt (w : World) (o : Option Addr) (l : List Lx.Sp) : Prop :=
  ∀ k t, l[k]? = some t → ∃ g, o = some ⟨g, 0, none⟩ ∧ g < w.heap.size ∧ ∀ j, j < 6 → w.cell? ⟨g, k * 6 + j, none⟩ = t.cells[j]?
theorem spAt_of_owns {w : World} {b : Nat} {o : Option Addr} {c : Nat} {l : List Lx.Sp} (h : w.ownsRow b 53 6 (.slice o l.length c) l.length (spCells l)) : SpAt w o l := by
  intro k t ht
  have hk : k < l.length := (List.getElem?_eq_some_iff.1 ht).1
  rcases h.2 with ⟨_, h0⟩ | ⟨g, c', cur, e, _⟩
  · omega
  · injection e with e1 e2 e3
    subst e1
    exact ⟨g, rfl, (h.lt g rfl).2, fun j hj => spRow_cell h k j t ht hj⟩

set_option maxHeartbeats 4000000 in
set_option maxRecDepth 100000 in
theorem runSpan_c (g : FuncId) (fst cpt : Array Value) (p : Lx.Sp → Bool) (l : List Lx.Sp) (o : Option Addr) (c : Nat) (w : World) (hn : l.length ≤ 1000000) (h : SpAt w o l)
    (eg : ∀ args w, (callFunc g args).run Tryz.prog w = .ok (.enter g args) w)
    (hf : ∀ t W, Below w.heap.size w W → Calls Tryz.prog g (fst ++ #[t.val] ++ cpt) W fun e w' => e = .returned (.bool (p t)) ∧ Below W.heap.size W w') :
    Calls Tryz.prog 31 #[.slice o l.length c, .func (.func g) fst cpt] w fun e w' => e = .returned (.int .i64 (l.takeWhile p).length) ∧ Below w.heap.size w w' := by
  have HF := Lib.hid hf
  have HA := Lib.hid h
  clear hf h
  go_enter Tryz.func31, Tryz.ntmps31
  go_wp2_with fail
  go_loopg [9] l.length (fun gh i wr => ∃ k : Nat, k ≤ l.length ∧ i = .int .i64 k ∧ Hid ((l.take k).all p = true) ∧ Hid (Below w.heap.size w wr) ∧ gh = l.length - k)
  case atStart => exact ⟨0, Nat.zero_le _, rfl, Lib.hid (by simp), Lib.hid (Below.refl _ _), rfl⟩
  case round =>
    obtain ⟨k, hk, rfl, HK, HW, hg⟩ := hrel
    by_cases hE : k = l.length
    · have dE : decide ((k : Int) < (l.length : Int)) = false := decide_eq_false (by omega)
      have HX := Lib.hid (show (l.takeWhile p).length = l.length from twk_all p l (by have := HK.out; rwa [hE, List.take_length] at this))
      have HE := Lib.hid hE
      clear hE
      go_wp2_with fail
      · exfalso
        have := HE.out
        omega
      refine bodyPost_ret (v := .int .i64 l.length) ?_ rfl ⟨by rw [HX.out], HW.out⟩
      simp [results, Tryz.results31, go_sem]
    · have hlt : k < l.length := by omega
      have dE : decide ((k : Int) < (l.length : Int)) = true := decide_eq_true (by omega)
      obtain ⟨t, ht⟩ : ∃ t, l[k]? = some t := ⟨_, List.getElem?_eq_getElem hlt⟩
      obtain ⟨b, rfl, hb, hcell⟩ := HA.out k t ht
      replace hcell : ∀ j, j < 6 → wr.cell? ⟨b, k * 6 + j, none⟩ = t.cells[j]? := fun j hj => (HW.out.cell (p := ⟨b, k * 6 + j, none⟩) hb).trans (hcell j hj)
      have x0 := hcell 0 (by decide)
      have x1 := hcell 1 (by decide)
      have x2 := hcell 2 (by decide)
      have x3 := hcell 3 (by decide)
      have x4 := hcell 4 (by decide)
      have x5 := hcell 5 (by decide)
      simp only [Lx.Sp.cells, List.getElem?_cons_succ, List.getElem?_cons_zero, Nat.add_zero] at x0 x1 x2 x3 x4 x5
      have HT := Lib.hid ht
      have hbw : ∀ ob : Obj, Below w.heap.size w (wr.alloc ob) := fun ob => HW.out.alloc HW.out.size ob
      have HFt := fun ob => HF.out t (wr.alloc ob) (hbw ob)
      simp only [Lx.Sp.val] at HFt
      have HFt := Lib.hid HFt
      have HBw := Lib.hid hbw
      clear ht hE hcell hbw
      generalize hp : p t = pt at *
      have HP := Lib.hid hp
      clear hp
      cases pt with
      | true =>
        have HK2 := Lib.hid (twk_step p l k t HT.out HK.out HP.out)
        go_wp2_with (go_at_fn g; refine (HFt.out _).mono ?_; rintro e w' ⟨rfl, hb5⟩; have HB5 := Lib.hid ((HBw.out _).trans (hb5.mono (HBw.out _).size)); clear hb5)
        go_roundg (l.length - (k + 1))
        case rel => exact ⟨k + 1, by omega, rfl, HK2, HB5, rfl⟩
        case measure => omega
      | false =>
        have HX := Lib.hid (twk_stop p l k t HT.out HK.out HP.out)
        go_wp2_with (go_at_fn g; refine (HFt.out _).mono ?_; rintro e w' ⟨rfl, hb5⟩; have HB5 := Lib.hid ((HBw.out _).trans (hb5.mono (HBw.out _).size)); clear hb5)
        refine bodyPost_ret (v := .int .i64 k) ?_ rfl ⟨by rw [HX.out], HB5.out⟩
        simp [results, Tryz.results31, go_sem]
set_option maxHeartbeats 4000000 in
set_option maxRecDepth 100000 in
theorem runTok_c (g : FuncId) (fst cpt : Array Value) (p : Lx.Tk → Bool) (l : List Lx.Tk) (o : Option Addr) (c : Nat) (w : World) (hn : l.length ≤ 1000000) (h : TokAt w o l)
    (eg : ∀ args w, (callFunc g args).run Tryz.prog w = .ok (.enter g args) w)
    (hf : ∀ t W, t ∈ l → Below w.heap.size w W → Calls Tryz.prog g (fst ++ #[tokW t.kind t.text t.line t.col] ++ cpt) W fun e w' => e = .returned (.bool (p t)) ∧ Below W.heap.size W w') :
    Calls Tryz.prog 45 #[.slice o l.length c, .func (.func g) fst cpt] w fun e w' => e = .returned (.int .i64 (l.takeWhile p).length) ∧ Below w.heap.size w w' := by
  have HF := Lib.hid hf
  have HA := Lib.hid h
  clear hf h
  go_enter Tryz.func45, Tryz.ntmps45
  go_wp2_with fail
  go_loopg [9] l.length (fun gh i wr => ∃ k : Nat, k ≤ l.length ∧ i = .int .i64 k ∧ Hid ((l.take k).all p = true) ∧ Hid (Below w.heap.size w wr) ∧ gh = l.length - k)
  case atStart => exact ⟨0, Nat.zero_le _, rfl, Lib.hid (by simp), Lib.hid (Below.refl _ _), rfl⟩
  case round =>
    obtain ⟨k, hk, rfl, HK, HW, hg⟩ := hrel
    by_cases hE : k = l.length
    · have dE : decide ((k : Int) < (l.length : Int)) = false := decide_eq_false (by omega)
      have HX := Lib.hid (show (l.takeWhile p).length = l.length from twk_all p l (by have := HK.out; rwa [hE, List.take_length] at this))
      have HE := Lib.hid hE
      clear hE
      go_wp2_with fail
      · exfalso
        have := HE.out
        omega
      refine bodyPost_ret (v := .int .i64 l.length) ?_ rfl ⟨by rw [HX.out], HW.out⟩
      simp [results, Tryz.results45, go_sem]
    · have hlt : k < l.length := by omega
      have dE : decide ((k : Int) < (l.length : Int)) = true := decide_eq_true (by omega)
      obtain ⟨t, ht⟩ : ∃ t, l[k]? = some t := ⟨_, List.getElem?_eq_getElem hlt⟩
      obtain ⟨b, a, rfl, hb, x0, x1, x2, x3⟩ := HA.out k t ht
      have hx : ∀ {q v}, w.cell? ⟨b, q, none⟩ = some v → wr.cell? ⟨b, q, none⟩ = some v := fun e => (HW.out.cell (p := ⟨b, _, none⟩) hb).trans e
      replace x0 := hx x0
      replace x1 := hx x1
      replace x2 := hx x2
      replace x3 := hx x3
      have hmem : t ∈ l := List.mem_of_getElem? ht
      have HT := Lib.hid ht
      have hbw : ∀ ob : Obj, Below w.heap.size w (wr.alloc ob) := fun ob => HW.out.alloc HW.out.size ob
      have HFt := fun ob => HF.out t (wr.alloc ob) hmem (hbw ob)
      simp only [tokW] at HFt
      have HFt := Lib.hid HFt
      have HBw := Lib.hid hbw
      clear ht hE hx hbw hmem
      generalize hp : p t = pt at *
      have HP := Lib.hid hp
      clear hp
      cases pt with
      | true =>
        have HK2 := Lib.hid (twk_step p l k t HT.out HK.out HP.out)
        go_wp2_with (go_at_fn g; refine (HFt.out _).mono ?_; rintro e w' ⟨rfl, hb5⟩; have HB5 := Lib.hid ((HBw.out _).trans (hb5.mono (HBw.out _).size)); clear hb5)
        go_roundg (l.length - (k + 1))
        case rel => exact ⟨k + 1, by omega, rfl, HK2, HB5, rfl⟩
        case measure => omega
      | false =>
        have HX := Lib.hid (twk_stop p l k t HT.out HK.out HP.out)
        go_wp2_with (go_at_fn g; refine (HFt.out _).mono ?_; rintro e w' ⟨rfl, hb5⟩; have HB5 := Lib.hid ((HBw.out _).trans (hb5.mono (HBw.out _).size)); clear hb5)
        refine bodyPost_ret (v := .int .i64 k) ?_ rfl ⟨by rw [HX.out], HB5.out⟩
        simp [results, Tryz.results45, go_sem]
end Go.Proofs.YtcjcbhdildcceaaGreatDoor
