/- Contract of place.pass of package lex: the place moves behind the bytes; nothing else turns. No conditions but those in the statement. -/
import Derived.Test.YtcjcbhdildcceaaGreatDoorLexB
import Derived.Test.YtcjcbhdildcceaaGreatDoorLexP
namespace Go.Proofs.YtcjcbhdildcceaaGreatDoor
open Go.RowKit

theorem grown_refl (w : World) (r : Option Nat) : w.grownBy w r := ⟨rfl, rfl, rfl, Nat.le_refl _, fun _ _ _ => rfl⟩
theorem grown_trans {w w1 w2 : World} {r : Option Nat} (h : w.grownBy w1 r) (h' : w1.grownBy w2 r) : w.grownBy w2 r :=
  ⟨h'.os.trans h.os, h'.tape.trans h.tape, h'.output.trans h.output, Nat.le_trans h.size h'.size, fun k hk hr => (h'.block k (Nat.lt_of_lt_of_le hk h.size) hr).trans (h.block k hk hr)⟩
theorem grown_of_below {w w' : World} (h : Below w.heap.size w w') (r : Option Nat) : w.grownBy w' r := ⟨h.os, h.tape, h.output, h.size, fun k hk _ => h.block k hk⟩
theorem grown_drewN (w : World) (q : Nat) (r : Option Nat) : w.grownBy (w.drewN q) r := ⟨rfl, rfl, rfl, Nat.le_refl _, fun _ _ _ => rfl⟩
theorem grown_set (w : World) (B o : Nat) (v : Value) : w.grownBy (w.setCell ⟨B, o, none⟩ v) (some B) :=
  ⟨rfl, rfl, rfl, by simp [World.setCell], fun k _ hk => Below.heap_setCell _ _ _ _ (fun e => hk (by rw [e]))⟩
theorem grown_cell {w w' : World} {B : Nat} (h : w.grownBy w' (some B)) {b o : Nat} {v : Value} (hc : w.cell? ⟨b, o, none⟩ = some v) (hne : b ≠ B) : w'.cell? ⟨b, o, none⟩ = some v :=
  h.cell hc (fun e => hne (Option.some.inj e))

/-- What a place's three cells hold in a later world, in which nothing but they has turned in their block. -/
structure PassRel (B : Nat) (w wr : World) (p : Lx.Place) : Prop where
  c0 : wr.cell? ⟨B, 0, none⟩ = some (.int .i64 p.ix)
  c1 : wr.cell? ⟨B, 1, none⟩ = some (.int .i64 p.ln)
  c2 : wr.cell? ⟨B, 2, none⟩ = some (.int .i64 p.bg)
  fz : ∀ o, wr.frozen? ⟨B, o, none⟩ = w.frozen? ⟨B, o, none⟩
  rest : ∀ o, 3 ≤ o → wr.cell? ⟨B, o, none⟩ = w.cell? ⟨B, o, none⟩
  gr : w.grownBy wr (some B)

theorem ne_addr {B o o' : Nat} (h : o ≠ o') : (⟨B, o, none⟩ : Addr) ≠ ⟨B, o', none⟩ := fun e => h (by injection e)

theorem PassRel.set0 {B : Nat} {w wr : World} {p : Lx.Place} (h : PassRel B w wr p) (i : Nat) : PassRel B w (wr.setCell ⟨B, 0, none⟩ (.int .i64 i)) ⟨i, p.ln, p.bg⟩ where
  c0 := World.cell?_setCell_same _ _ _ h.c0
  c1 := (World.cell?_setCell_other _ _ _ _ (ne_addr (by omega))).trans h.c1
  c2 := (World.cell?_setCell_other _ _ _ _ (ne_addr (by omega))).trans h.c2
  fz := fun o => (World.frozen?_setCell _ _ _ _).trans (h.fz o)
  rest := fun o ho => (World.cell?_setCell_other _ _ _ _ (ne_addr (by omega))).trans (h.rest o ho)
  gr := grown_trans h.gr (grown_set _ _ _ _)
theorem PassRel.set1 {B : Nat} {w wr : World} {p : Lx.Place} (h : PassRel B w wr p) (i : Nat) : PassRel B w (wr.setCell ⟨B, 1, none⟩ (.int .i64 i)) ⟨p.ix, i, p.bg⟩ where
  c0 := (World.cell?_setCell_other _ _ _ _ (ne_addr (by omega))).trans h.c0
  c1 := World.cell?_setCell_same _ _ _ h.c1
  c2 := (World.cell?_setCell_other _ _ _ _ (ne_addr (by omega))).trans h.c2
  fz := fun o => (World.frozen?_setCell _ _ _ _).trans (h.fz o)
  rest := fun o ho => (World.cell?_setCell_other _ _ _ _ (ne_addr (by omega))).trans (h.rest o ho)
  gr := grown_trans h.gr (grown_set _ _ _ _)
theorem PassRel.set2 {B : Nat} {w wr : World} {p : Lx.Place} (h : PassRel B w wr p) (i : Nat) : PassRel B w (wr.setCell ⟨B, 2, none⟩ (.int .i64 i)) ⟨p.ix, p.ln, i⟩ where
  c0 := (World.cell?_setCell_other _ _ _ _ (ne_addr (by omega))).trans h.c0
  c1 := (World.cell?_setCell_other _ _ _ _ (ne_addr (by omega))).trans h.c1
  c2 := World.cell?_setCell_same _ _ _ h.c2
  fz := fun o => (World.frozen?_setCell _ _ _ _).trans (h.fz o)
  rest := fun o ho => (World.cell?_setCell_other _ _ _ _ (ne_addr (by omega))).trans (h.rest o ho)
  gr := grown_trans h.gr (grown_set _ _ _ _)

set_option maxHeartbeats 2000000 in
theorem pass_c (B T a n c : Nat) (p : Lx.Place) (l : List UInt8) (w : World) (hn : l.length = n) (h : PassRel B w w p) (hf : ∀ o, w.frozen? ⟨B, o, none⟩ = false)
    (hc : ∀ j, j < l.length → w.cell? ⟨T, a + j, none⟩ = some (.int .u8 (l[j]?.getD 0).toNat)) (ht : T ≠ B) (hb : p.ix + n ≤ 281474976710656) (hb2 : p.ln + n ≤ 281474976710656) :
    Calls Tryz.prog 33 #[.pointer (some ⟨B, 0, none⟩), .slice (some ⟨T, a, none⟩) n c] w fun e w' => e = .returned (.tuple #[]) ∧ PassRel B w w' (p.pass l) := by
  subst hn
  have HC := Lib.hid hc
  have HF := Lib.hid hf
  have HH := Lib.hid h
  have HT := Lib.hid ht
  clear hc hf h ht
  go_enter Tryz.func33, Tryz.ntmps33
  go_wp2
  go_loopw [8] (fun i wr => ∃ k : Nat, i = .int .i64 k ∧ k ≤ l.length ∧ Hid (PassRel B w wr (p.pass (l.take k)))) (fun i _ => l.length - (intOf i).toNat)
  case atStart => exact ⟨0, rfl, Nat.zero_le _, HH⟩
  case round =>
    obtain ⟨k, rfl, hk, HP⟩ := hrel
    by_cases hlt : k < l.length
    · have hcell : wr.cell? ⟨T, a + k, none⟩ = some (.int .u8 (l[k]?.getD 0).toNat) := grown_cell HP.out.gr (HC.out k hlt) HT.out
      have HS := Lib.hid (pass_snoc p l k hlt)
      have hix := pass_ix p (l.take k)
      have hln := pass_ln p (l.take k)
      rw [List.length_take, Nat.min_eq_left hk] at hix hln
      obtain ⟨⟨ix, ln, bg⟩, hP⟩ : ∃ P, p.pass (l.take k) = P := ⟨_, rfl⟩
      rw [hP] at hix hln HP HS
      have hix2 : ix + l.length ≤ 281474976710656 + l.length := by simp at hix; omega
      have c0 : wr.cell? ⟨B, 0, none⟩ = some (.int .i64 ix) := HP.out.c0
      have c1 : wr.cell? ⟨B, 1, none⟩ = some (.int .i64 ln) := HP.out.c1
      have c2 : wr.cell? ⟨B, 2, none⟩ = some (.int .i64 bg) := HP.out.c2
      have f0 : wr.frozen? ⟨B, 0, none⟩ = false := (HP.out.fz 0).trans (HF.out 0)
      have f1 : wr.frozen? ⟨B, 1, none⟩ = false := (HP.out.fz 1).trans (HF.out 1)
      have f2 : wr.frozen? ⟨B, 2, none⟩ = false := (HP.out.fz 2).trans (HF.out 2)
      have hi1 : ix ≤ 281474976710656 := by simp at hix; omega
      have hi2 : ln ≤ 281474976710656 := by simp at hln; omega
      clear hix hix2 hln hP
      generalize l[k]?.getD 0 = b at hcell HS
      by_cases hb10 : b = 10
      · have dB : ((b.toNat : Int) == 10) = true := by rw [hb10]; rfl
        have H10 := Lib.hid hb10
        clear hb10
        go_wp2
        refine ⟨⟨k + 1, by go_num, by omega, Lib.hid ?_⟩, by simp [intOf]; omega⟩
        rw [HS.out]
        have h3 := ((HP.out.set0 (ix + 1)).set1 (ln + 1)).set2 (ix + 1)
        simp only [Int.natCast_add, Int.cast_ofNat_Int] at h3
        simpa [Lx.Place.step, H10.out] using h3
      · have dB : ((b.toNat : Int) == 10) = false := by
          rw [beq_eq_false_iff_ne]; intro e; exact hb10 (UInt8.toNat_inj.1 (by have : (10 : UInt8).toNat = 10 := rfl; omega))
        have H10 := Lib.hid hb10
        clear hb10
        go_wp2
        refine ⟨⟨k + 1, by go_num, by omega, Lib.hid ?_⟩, by simp [intOf]; omega⟩
        rw [HS.out]
        have h3 := HP.out.set0 (ix + 1)
        simpa [Lx.Place.step, H10.out] using h3
    · have hE := Lib.hid (show k = l.length by omega)
      go_wp2
      go_end0
      refine ⟨rfl, ?_⟩
      have := HP.out
      rw [hE.out, List.take_length] at this
      exact this
end Go.Proofs.YtcjcbhdildcceaaGreatDoor
