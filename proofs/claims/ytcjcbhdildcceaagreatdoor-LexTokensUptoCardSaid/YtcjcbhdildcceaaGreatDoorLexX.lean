/- Contract of reading of package lex. Conditions: those in the statement. -/
import Derived.Test.YtcjcbhdildcceaaGreatDoorLexW
import Derived.Lib.ConvBytes
import Derived.Lib.AtoiErrMem
namespace Go.Proofs.YtcjcbhdildcceaaGreatDoor
open Go.RowKit

/-- How a reading ends: nothing wrong, or a code and an index. -/
def readEnd (r : Option (Nat × Nat)) : Ending := match r with | none => .returned (.tuple #[]) | some x => panicE x.1 x.2
def faultPair (r : Option (Nat × Nat)) : Value := match r with | none => .tuple #[.int .i64 0, .int .i64 0] | some x => .tuple #[.int .i64 x.1, .int .i64 x.2]

theorem long_c (s : List UInt8) (d : Value) (w : World) (hs : 20000 < s.length) :
    Calls Tryz.prog 48 #[.string ⟨s.toArray⟩, d] w fun e w' => e = .returned (.tuple #[.int .i64 2, .int .i64 0]) ∧ Below w.heap.size w w' := by
  have hsz : (⟨s.toArray⟩ : ByteArray).size = s.length := by simp [ByteArray.size]
  have dL : decide ((20000 : Int) < (s.length : Int)) = true := decide_eq_true (by omega)
  have HH := Lib.hid hs
  clear hs
  go_enter_defers Tryz.func48, Tryz.ntmps48
  go_wp2_with fail
  refine ⟨.tuple #[.int .i64 2, .int .i64 0], ?_, rfl, ((Below.refl _ w).alloc (Nat.le_refl _) _).alloc (by simp) _⟩
  simp [results, Tryz.results48, go_sem]

theorem K2.refl (B L : Nat) (w : World) : K2 B L w w := K2.of_below (Below.refl _ _)
theorem K2.trans {B L : Nat} {a b c : World} (h : K2 B L a b) (h' : K2 B L b c) : K2 B L a c :=
  ⟨h'.os.trans h.os, h'.tape.trans h.tape, h'.output.trans h.output, Nat.le_trans h.size h'.size, fun k hk h1 h2 => (h'.block k (Nat.lt_of_lt_of_le hk h.size) h1 h2).trans (h.block k hk h1 h2)⟩
/-- What was written lies beyond. -/
theorem K2.after {B L B' L' : Nat} {w W W' : World} (h : K2 B L w W) (h' : K2 B' L' W W') (hB : w.heap.size ≤ B' ∨ B' = B ∨ B' = L) (hL : w.heap.size ≤ L' ∨ L' = B ∨ L' = L) : K2 B L w W' :=
  ⟨h'.os.trans h.os, h'.tape.trans h.tape, h'.output.trans h.output, Nat.le_trans h.size h'.size, fun k hk h1 h2 =>
    (h'.block k (Nat.lt_of_lt_of_le hk h.size) (by omega) (by omega)).trans (h.block k hk h1 h2)⟩
theorem K2.cell {B L : Nat} {w W : World} (h : K2 B L w W) {b o : Nat} {v : Value} (hc : w.cell? ⟨b, o, none⟩ = some v) (h1 : b ≠ B) (h2 : b ≠ L) : W.cell? ⟨b, o, none⟩ = some v :=
  (World.cell?_of_block (h.block b (World.block_lt_of_cell? _ _ hc) h1 h2)).trans hc
theorem K2.frozen {B L : Nat} {w W : World} (h : K2 B L w W) {b o : Nat} {x : Bool} (hb : b < w.heap.size) (hc : w.frozen? ⟨b, o, none⟩ = x) (h1 : b ≠ B) (h2 : b ≠ L) : W.frozen? ⟨b, o, none⟩ = x :=
  (World.frozen?_of_block (h.block b hb h1 h2)).trans hc
theorem Two.k2 {E I c ix : Nat} {w W : World} (h : Two E I c ix w W) : K2 E I w W := ⟨h.os, h.tape, h.output, h.size, h.block⟩

theorem bytesWorld_grown (w : World) (e : TypeId) (s : ByteArray) : w.grownBy (Lib.bytesWorld w e s) none := grown_of_below (Lib.bytesWorld_below w e s) none

set_option maxHeartbeats 4000000 in
set_option maxRecDepth 100000 in
theorem reading_c (s : List UInt8) (fd : Nat) (caps : Array Value) (L : Nat) (S : Option (Nat × Nat) → World → Prop) (w : World) (hs : s.length ≤ 20000)
    (eg : ∀ args w, (callFunc fd args).run Tryz.prog w = .ok (.enter fd args) w) (hL : L < w.heap.size)
    (hS : ∀ r W W', S r W → K2 w.heap.size (w.heap.size + 1) W W' → S r W')
    (hdo : ∀ B T cap W, w.heap.size + 2 ≤ B → w.heap.size + 2 ≤ T → T < W.heap.size → w.heap.size + 2 ≤ W.heap.size → Rdr B T cap s (Lx.placeAt s 0) Lx.noSp W → Below w.heap.size w W →
      Calls Tryz.prog fd (#[.pointer (some ⟨B, 0, none⟩)] ++ caps) W fun e W' => ∃ r, e = readEnd r ∧ K2 B L W W' ∧ S r W') :
    Calls Tryz.prog 48 #[.string ⟨s.toArray⟩, .func (.func fd) #[] caps] w fun e w' => ∃ r, e = .returned (faultPair r) ∧ K2 L L w w' ∧ S r w' := by
  have hsz : (⟨s.toArray⟩ : ByteArray).size = s.length := by simp [ByteArray.size]
  have dL : decide ((20000 : Int) < (s.length : Int)) = false := decide_eq_false (by omega)
  have HH := Lib.hid hs
  have HS := Lib.hid hS
  have HD := Lib.hid hdo
  clear hs hS hdo
  go_enter_defers Tryz.func48, Tryz.ntmps48
  go_wp2_with (go_at_call 60; refine (byteKinds_c _).mono ?_; rintro e w' ⟨rfl, o, rfl⟩; unfold kindsV)
  have hcv := Lib.run_convert_string_bytes (P := Tryz.prog) (((w.alloc (.cells #[.int .i64 0] 25)).alloc (.cells #[.int .i64 0] 3)).alloc o) 9 64 5 ⟨s.toArray⟩ Tryz.underlying9 Tryz.underlying64 Tryz.underlying5
  have hb3 : Below w.heap.size w (((w.alloc (.cells #[.int .i64 0] 25)).alloc (.cells #[.int .i64 0] 3)).alloc o) := (((Below.refl _ w).alloc (Nat.le_refl _) _).alloc (by simp) _).alloc (by simp; omega) _
  have hE3 : (((w.alloc (.cells #[.int .i64 0] 25)).alloc (.cells #[.int .i64 0] 3)).alloc o).heap[w.heap.size]? = some (.cells #[.int .i64 0] 25) := (Below.heap_alloc _ _ _ (by simp; omega)).trans (heap_two_fst _ _ _)
  have hI3 : (((w.alloc (.cells #[.int .i64 0] 25)).alloc (.cells #[.int .i64 0] 3)).alloc o).heap[w.heap.size + 1]? = some (.cells #[.int .i64 0] 3) := (Below.heap_alloc _ _ _ (by simp; try omega)).trans (heap_two_snd _ _ _)
  have hz3 : (((w.alloc (.cells #[.int .i64 0] 25)).alloc (.cells #[.int .i64 0] 3)).alloc o).heap.size = w.heap.size + 3 := by simp
  generalize (((w.alloc (.cells #[.int .i64 0] 25)).alloc (.cells #[.int .i64 0] 3)).alloc o) = w3 at *
  have hg4 := bytesWorld_grown w3 5 ⟨s.toArray⟩
  have hz4 := Lib.bytesWorld_size w3 5 ⟨s.toArray⟩
  have hT4 := Lib.bytesWorld_cell w3 5 ⟨s.toArray⟩
  have hcap := grownCap_ge w3 (⟨s.toArray⟩ : ByteArray).size 0 5
  rw [hsz] at hcv hT4 hcap
  generalize grownCap w3 s.length 0 5 = cap at *
  generalize Lib.bytesWorld w3 5 ⟨s.toArray⟩ = w4 at *
  rw [hz3] at hcv hz4 hT4
  have HG4 := Lib.hid hg4
  have HT4 := Lib.hid hT4
  have HB3 := Lib.hid hb3
  have HE3 := Lib.hid hE3
  have HI3 := Lib.hid hI3
  clear hg4 hT4 hb3 hE3 hI3
  go_wp2_with fail
  have hx : (w4.alloc (.cells #[.int .i64 0, .int .i64 0, .int .i64 0, .func (.func 81) #[] #[], .func (.func 82) #[] #[], .func (.func 83) #[] #[], .func (.func 84) #[] #[], .func (.func 86) #[] #[], .func (.func 87) #[] #[], .func (.func 88) #[] #[],
      .slice (some ⟨w.heap.size + 3, 0, none⟩) s.length cap, .int .i64 0, .string ⟨#[]⟩, .int .i64 0, .int .i64 0, .int .i64 0, .int .i64 0] 107)).heap[w.heap.size + 3 + 1]? = some (.cells #[.int .i64 0, .int .i64 0, .int .i64 0, .func (.func 81) #[] #[], .func (.func 82) #[] #[], .func (.func 83) #[] #[], .func (.func 84) #[] #[], .func (.func 86) #[] #[], .func (.func 87) #[] #[], .func (.func 88) #[] #[],
      .slice (some ⟨w.heap.size + 3, 0, none⟩) s.length cap, .int .i64 0, .string ⟨#[]⟩, .int .i64 0, .int .i64 0, .int .i64 0, .int .i64 0] 107) := by
    rw [← hz4]; exact World.alloc_heap_new _ _
  have hb5 : Below w4.heap.size w4 (w4.alloc (.cells #[.int .i64 0, .int .i64 0, .int .i64 0, .func (.func 81) #[] #[], .func (.func 82) #[] #[], .func (.func 83) #[] #[], .func (.func 84) #[] #[], .func (.func 86) #[] #[], .func (.func 87) #[] #[], .func (.func 88) #[] #[],
      .slice (some ⟨w.heap.size + 3, 0, none⟩) s.length cap, .int .i64 0, .string ⟨#[]⟩, .int .i64 0, .int .i64 0, .int .i64 0, .int .i64 0] 107)) := (Below.refl _ w4).alloc (Nat.le_refl _) _
  generalize (w4.alloc (.cells #[.int .i64 0, .int .i64 0, .int .i64 0, .func (.func 81) #[] #[], .func (.func 82) #[] #[], .func (.func 83) #[] #[], .func (.func 84) #[] #[], .func (.func 86) #[] #[], .func (.func 87) #[] #[], .func (.func 88) #[] #[],
      .slice (some ⟨w.heap.size + 3, 0, none⟩) s.length cap, .int .i64 0, .string ⟨#[]⟩, .int .i64 0, .int .i64 0, .int .i64 0, .int .i64 0] 107)) = w5 at *
  have hrd : Rdr (w.heap.size + 3 + 1) (w.heap.size + 3) cap s (Lx.placeAt s 0) Lx.noSp w5 :=
    { ks := ⟨(Lib.cell_of_heap hx 3).trans rfl, (Lib.cell_of_heap hx 4).trans rfl, (Lib.cell_of_heap hx 5).trans rfl, (Lib.cell_of_heap hx 6).trans rfl, (Lib.cell_of_heap hx 7).trans rfl, (Lib.cell_of_heap hx 8).trans rfl, (Lib.cell_of_heap hx 9).trans rfl⟩,
      ix := (Lib.cell_of_heap hx 0).trans rfl, ln := (Lib.cell_of_heap hx 1).trans rfl, bg := (Lib.cell_of_heap hx 2).trans rfl, tx := (Lib.cell_of_heap hx 10).trans rfl,
      lk := (Lib.cell_of_heap hx 11).trans rfl, lt := (Lib.cell_of_heap hx 12).trans rfl, ll := (Lib.cell_of_heap hx 13).trans rfl, lc := (Lib.cell_of_heap hx 14).trans rfl, lf := (Lib.cell_of_heap hx 15).trans rfl, lto := (Lib.cell_of_heap hx 16).trans rfl,
      fz := fun o => Lib.frozen_of_heap hx o, tc := fun j hj => (hb5.cell (by rw [hz4]; show w.heap.size + 3 < _; omega)).trans ((HT4.out j hj).trans (by simp [List.getD])),
      ne := by omega, small := HH.out, cap_le := hcap, inside := Nat.zero_le _, pat := rfl }
  have hz5 : w.heap.size + 5 ≤ w5.heap.size := by have := (Array.getElem?_eq_some_iff.1 hx).1; omega
  have hbw : Below w.heap.size w w5 := (HB3.out.grown HG4.out (by omega) (fun k e => by cases e)).trans (hb5.mono (by omega))
  have hE5 : w5.heap[w.heap.size]? = some (.cells #[.int .i64 0] 25) := (hb5.block _ (by omega)).trans ((HG4.out.block _ (by omega) (fun e => by cases e)).trans HE3.out)
  have hI5 : w5.heap[w.heap.size + 1]? = some (.cells #[.int .i64 0] 3) := (hb5.block _ (by omega)).trans ((HG4.out.block _ (by omega) (fun e => by cases e)).trans HI3.out)
  refine (HD.out (w.heap.size + 3 + 1) (w.heap.size + 3) cap w5 (by omega) (by omega) (by omega) (by omega) hrd hbw).mono ?_
  rintro e W' ⟨r, rfl, hk, hSr⟩
  have hEh := (hk.block w.heap.size (by omega) (by omega) (by omega)).trans hE5
  have hIh := (hk.block (w.heap.size + 1) (by omega) (by omega) (by omega)).trans hI5
  have cE : W'.cell? ⟨w.heap.size, 0, none⟩ = some (.int .i64 0) := (Lib.cell_of_heap hEh 0).trans rfl
  have cI : W'.cell? ⟨w.heap.size + 1, 0, none⟩ = some (.int .i64 0) := (Lib.cell_of_heap hIh 0).trans rfl
  have fE : W'.frozen? ⟨w.heap.size, 0, none⟩ = false := Lib.frozen_of_heap hEh 0
  have fI : W'.frozen? ⟨w.heap.size + 1, 0, none⟩ = false := Lib.frozen_of_heap hIh 0
  have HK := Lib.hid (show K2 L L w W' from (K2.of_below (B := L) (L := L) hbw).after hk (.inl (by omega)) (.inr (.inl rfl)))
  have HSr := Lib.hid hSr
  have hzW := hk.size
  clear hrd hx hb5 hbw hE5 hI5 hEh hIh hk hSr HD HB3 HE3 HI3 HG4 HT4 hcv
  cases r with
  | none =>
    simp only [readEnd]
    go_wp2_with fail
    refine leaves_cons (f := 68) (args := #[.pointer (some ⟨w.heap.size, 0, none⟩), .pointer (some ⟨w.heap.size + 1, 0, none⟩)]) (by simp) (by simp [go_sem]) ?_
    refine (idle_c _ _ _).mono ?_
    rintro e u' w'' ⟨rfl, rfl, o', rfl⟩
    have hk2 : K2 w.heap.size (w.heap.size + 1) W' (((W'.setCell ⟨w.heap.size, 0, none⟩ (.int .i64 0)).setCell ⟨w.heap.size + 1, 0, none⟩ (.int .i64 0)).alloc o') :=
      (((K2.refl _ _ W').grown (grown_set _ _ _ _) (fun b e => .inl (Option.some.inj e).symm)).grown (grown_set _ _ _ _) (fun b e => .inr (.inl (Option.some.inj e).symm))).grown (grown_of_below ((Below.refl _ _).alloc (Nat.le_refl _) _) none) (fun b e => by cases e)
    have gE : (((W'.setCell ⟨w.heap.size, 0, none⟩ (.int .i64 0)).setCell ⟨w.heap.size + 1, 0, none⟩ (.int .i64 0)).alloc o').cell? ⟨w.heap.size, 0, none⟩ = some (.int .i64 0) := by
      rw [World.cell?_alloc_past _ _ _ (by simp [World.setCell]; omega), World.cell?_setCell_other _ _ _ _ (fun e => by injection e; omega), World.cell?_setCell_same' _ _ _ (by rw [cE]; rfl)]
    have gI : (((W'.setCell ⟨w.heap.size, 0, none⟩ (.int .i64 0)).setCell ⟨w.heap.size + 1, 0, none⟩ (.int .i64 0)).alloc o').cell? ⟨w.heap.size + 1, 0, none⟩ = some (.int .i64 0) := by
      rw [World.cell?_alloc_past _ _ _ (by simp [World.setCell]; omega), World.cell?_setCell_same' _ _ _ (by rw [World.cell?_setCell_other _ _ _ _ (fun e => by injection e; omega), cI]; rfl)]
    refine ⟨.tuple #[.int .i64 0, .int .i64 0], ?_, none, rfl, HK.out.after hk2 (.inl (Nat.le_refl _)) (.inl (by omega)), HS.out _ _ _ HSr.out hk2⟩
    simp [results, Tryz.results48, go_sem, gE, gI]
  | some x =>
    simp only [readEnd, panicE]
    go_wp2_with fail
    refine leaves_cons (f := 68) (args := #[.pointer (some ⟨w.heap.size, 0, none⟩), .pointer (some ⟨w.heap.size + 1, 0, none⟩)]) (by simp) (by simp [go_sem]) ?_
    refine (caught_c w.heap.size (w.heap.size + 1) x.1 x.2 _ _ [] W' cE cI fE fI (by omega)).mono ?_
    rintro e u' w'' ⟨rfl, rfl, h2⟩
    refine ⟨.tuple #[.int .i64 x.1, .int .i64 x.2], ?_, some x, rfl, HK.out.after h2.k2 (.inl (Nat.le_refl _)) (.inl (by omega)), HS.out _ _ _ HSr.out h2.k2⟩
    simp [results, Tryz.results48, go_sem, h2.c0, h2.c1]

end Go.Proofs.YtcjcbhdildcceaaGreatDoor
