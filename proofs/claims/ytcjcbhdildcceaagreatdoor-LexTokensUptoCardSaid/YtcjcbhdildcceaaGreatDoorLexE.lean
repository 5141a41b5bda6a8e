/- Contracts of the reader's methods word and measure of package lex. No conditions but those in each statement. -/
import Derived.Test.YtcjcbhdildcceaaGreatDoorLexD
namespace Go.Proofs.YtcjcbhdildcceaaGreatDoor
open Go.RowKit

theorem Rdr.below {B T cap : Nat} {s : List UInt8} {p : Lx.Place} {last : Lx.Sp} {w w' : World} (h : Rdr B T cap s p last w) (hb : Below w.heap.size w w') : Rdr B T cap s p last w' := by
  have hB : B < w.heap.size := World.block_lt_of_cell? _ _ h.ix
  have c : ∀ {o v}, w.cell? ⟨B, o, none⟩ = some v → w'.cell? ⟨B, o, none⟩ = some v := fun {o v} e => (hb.cell (p := ⟨B, o, none⟩) hB).trans e
  exact { ks := h.ks.below hb, ix := c h.ix, ln := c h.ln, bg := c h.bg, tx := c h.tx, lk := c h.lk, lt := c h.lt, ll := c h.ll, lc := c h.lc, lf := c h.lf, lto := c h.lto,
          fz := fun o => (hb.frozen (p := ⟨B, o, none⟩) hB).trans (h.fz o),
          tc := fun j hj => (hb.cell (World.block_lt_of_cell? _ _ (h.tc j hj))).trans (h.tc j hj),
          ne := h.ne, small := h.small, cap_le := h.cap_le, inside := h.inside, pat := h.pat }

theorem below_of_dn {B : Nat} {w w' : World} {q : Nat} (h : Below (w.drewN q).heap.size (w.drewN q) w') (hB : B ≤ w.heap.size) : Below B w w' :=
  (below_dn (Below.refl B w) q).trans (h.mono (by simpa using hB))

set_option maxHeartbeats 2000000 in
theorem word_c (B T cap : Nat) (s : List UInt8) (p : Lx.Place) (last : Lx.Sp) (w : World) (h : Rdr B T cap s p last w) (hin : p.ix < s.length) :
    Calls Tryz.prog 70 #[.pointer (some ⟨B, 0, none⟩)] w fun e w' => e = (Lx.word (s.drop p.ix)).ends p.ix ∧ Below w.heap.size w w' := by
  have hr := fun q => rest_c B T cap p.ix s.length (w.drewN q) (h.drewN q).ix (h.drewN q).tx h.inside h.cap_le
  have c0 := h.ix
  have mf := makeFunc_run
  have hcl := rest_cells (ix := p.ix) h.tc h.cap_le
  have hks := fun q => (h.drewN q).ks
  have hl : (s.drop p.ix).length = s.length - p.ix := by simp
  have hsm := h.small
  have hcp := h.cap_le
  clear h
  generalize s.drop p.ix = l at *
  have hN1 : 1 ≤ s.length - p.ix := by omega
  have hN2 : s.length - p.ix ≤ 20000 := by omega
  have hNM : s.length - p.ix ≤ cap - p.ix := by omega
  generalize s.length - p.ix = N at *
  generalize cap - p.ix = M at *
  generalize restO cap p.ix = R at *
  clear hin hsm hcp
  have hrun : ∀ (q : Nat), Calls Tryz.prog 91
      #[.slice (if M = 1 then some ⟨T, R, none⟩ else some ⟨T, R + 1, none⟩) (N - 1) (M - 1), .func (.func 93) #[.pointer (some ⟨B, 3, none⟩)] #[]]
      (w.drewN q) fun e w' => e = .returned (.int .i64 (Lx.runN Lx.wordByte l.tail)) ∧ w' = w.drewN q := by
    intro q
    have e : (if M = 1 then some (⟨T, R, none⟩ : Addr) else some ⟨T, R + 1, none⟩) = some ⟨T, if M = 1 then R else R + 1, none⟩ := by split <;> rfl
    rw [e]
    refine run_byte_c 93 #[.pointer (some ⟨B, 3, none⟩)] #[] Lx.wordByte T _ (N - 1) (M - 1) l.tail (w.drewN q) (by simp [hl]) (by omega) eg_wordByte ?_ (fun b => wordByte_c b _ _ _ (hks q))
    intro j hj
    rw [List.length_tail] at hj
    rw [if_neg (by omega), Nat.add_assoc, World.cell?_drewN, hcl (1 + j) (by omega)]
    simp [Nat.add_comm]
  have hwk : ∀ (q n : Nat), n ≤ N → Calls Tryz.prog 94 #[.pointer (some ⟨B, 0, none⟩), .slice (some ⟨T, R, none⟩) n M] (w.drewN q) fun e w' =>
      e = .returned (.int .i64 (Lx.wordKind (l.take n))) ∧ Below w.heap.size w w' := by
    intro q n hn
    refine (wordKind_c B T R n M (l.take n) (w.drewN q) (hks q) (by rw [List.length_take, hl]; omega) (by omega) (by omega) ?_).mono ?_
    · intro j hj
      rw [List.length_take] at hj
      rw [World.cell?_drewN, hcl j (by omega), List.getElem?_take, if_pos (by omega)]
    · rintro e w' ⟨rfl, hb⟩
      exact ⟨rfl, below_of_dn hb (Nat.le_refl _)⟩
  have hrl := runN_le Lx.wordByte l.tail
  rw [List.length_tail, hl] at hrl
  have hD : ∀ (n : Nat), Lx.wordN l = n → Lx.word l = if Lx.wordKind (l.take n) = 0 then .bad 12 else .ok (Lx.wordKind (l.take n)) n := by rintro n rfl; rfl
  have hDn : Lx.wordN l = if l[1 + Lx.runN Lx.wordByte l.tail]? = some 58 then 1 + Lx.runN Lx.wordByte l.tail + 1 else 1 + Lx.runN Lx.wordByte l.tail := rfl
  generalize Lx.runN Lx.wordByte l.tail = r at *
  have hB : B < w.heap.size := World.block_lt_of_cell? _ _ c0
  have HR := Lib.hid hr
  have HL := Lib.hid hl
  have HC := Lib.hid hcl
  have HN := Lib.hid hrun
  have HW := Lib.hid hwk
  have HD := Lib.hid hD
  have HDn := Lib.hid hDn
  clear hr hl hcl hks hrun hwk hD hDn
  by_cases h1 : 1 + r = N
  · have d1 : decide ((1 : Int) + (r : Int) < (N : Int)) = false := decide_eq_false (by omega)
    by_cases hM : M = 1
    · subst hM
      obtain rfl : N = 1 := by omega
      obtain rfl : r = 0 := by omega
      have HN := Lib.hid (fun x => by have := HN.out x; simp only [Nat.sub_self, if_true] at this; exact this)
      have hW1 := fun q => HW.out q 1 (by omega)
      have hD1 := HD.out 1 (by rw [HDn.out, List.getElem?_eq_none (by rw [HL.out]; omega)]; rfl)
      generalize Lx.wordKind (l.take 1) = K at hW1 hD1
      have HW1 := Lib.hid hW1
      have HD1 := Lib.hid hD1
      clear hW1 hD1
      have H1 := Lib.hid h1
      clear h1
      by_cases hK : K = 0
      · have dK : ((K : Int) == 0) = true := beq_iff_eq.2 (by omega)
        have HK0 := Lib.hid hK
        clear hK
        go_enter Tryz.func70, Tryz.ntmps70
        go_wp2_with fail
        refine (HR.out 0).mono ?_
        rintro e w' ⟨rfl, q, rfl⟩
        go_wp2
        go_quiet ((go_at_call 91; exact (HN.out _).mono (fun _ _ h => ⟨h.1, _, h.2⟩)))
        go_wp2_with fail
        all_goals
          refine (HW1.out _).mono ?_
          rintro e w' ⟨rfl, hb⟩
          have c0 := (hb.cell (p := ⟨B, 0, none⟩) hB).trans c0
          have HB := Lib.hid hb
          clear hb
          go_wp2
          exact ⟨rfl, by rw [HD1.out, if_pos HK0.out]; rfl, HB.out⟩
      · have dK : ((K : Int) == 0) = false := beq_eq_false_iff_ne.2 (by omega)
        have HK0 := Lib.hid hK
        clear hK
        go_enter Tryz.func70, Tryz.ntmps70
        go_wp2_with fail
        refine (HR.out 0).mono ?_
        rintro e w' ⟨rfl, q, rfl⟩
        go_wp2
        go_quiet ((go_at_call 91; exact (HN.out _).mono (fun _ _ h => ⟨h.1, _, h.2⟩)))
        go_wp2_with fail
        all_goals
          refine (HW1.out _).mono ?_
          rintro e w' ⟨rfl, hb⟩
          have HB := Lib.hid hb
          clear hb
          go_wp2
          go_ret2
          exact ⟨by rw [HD1.out, if_neg HK0.out]; exact ret_pair rfl (by simp), HB.out⟩
    · have HN := Lib.hid (fun x => by have := HN.out x; rw [if_neg hM] at this; exact this)
      have hW1 := fun q => HW.out q (1 + r) (by omega)
      have hD1 := HD.out (1 + r) (by rw [HDn.out, List.getElem?_eq_none (by rw [HL.out]; omega)]; rfl)
      generalize Lx.wordKind (l.take (1 + r)) = K at hW1 hD1
      have HW1 := Lib.hid hW1
      have HD1 := Lib.hid hD1
      clear hW1 hD1
      have H1 := Lib.hid h1
      clear h1
      by_cases hK : K = 0
      · have dK : ((K : Int) == 0) = true := beq_iff_eq.2 (by omega)
        have HK0 := Lib.hid hK
        clear hK
        go_enter Tryz.func70, Tryz.ntmps70
        go_wp2_with fail
        refine (HR.out 0).mono ?_
        rintro e w' ⟨rfl, q, rfl⟩
        go_wp2
        go_quiet ((go_at_call 91; exact (HN.out _).mono (fun _ _ h => ⟨h.1, _, h.2⟩)))
        go_wp2_with fail
        all_goals
          refine (HW1.out _).mono ?_
          rintro e w' ⟨rfl, hb⟩
          have c0 := (hb.cell (p := ⟨B, 0, none⟩) hB).trans c0
          have HB := Lib.hid hb
          clear hb
          go_wp2
          exact ⟨rfl, by rw [HD1.out, if_pos HK0.out]; rfl, HB.out⟩
      · have dK : ((K : Int) == 0) = false := beq_eq_false_iff_ne.2 (by omega)
        have HK0 := Lib.hid hK
        clear hK
        go_enter Tryz.func70, Tryz.ntmps70
        go_wp2_with fail
        refine (HR.out 0).mono ?_
        rintro e w' ⟨rfl, q, rfl⟩
        go_wp2
        go_quiet ((go_at_call 91; exact (HN.out _).mono (fun _ _ h => ⟨h.1, _, h.2⟩)))
        go_wp2_with fail
        all_goals
          refine (HW1.out _).mono ?_
          rintro e w' ⟨rfl, hb⟩
          have HB := Lib.hid hb
          clear hb
          go_wp2
          go_ret2
          exact ⟨by rw [HD1.out, if_neg HK0.out]; exact ret_pair rfl (by simp), HB.out⟩
  · have d1 : decide ((1 : Int) + (r : Int) < (N : Int)) = true := decide_eq_true (by omega)
    have hlt : 1 + r < l.length := by rw [HL.out]; omega
    have hc1 := HC.out (1 + r) hlt
    have HN := Lib.hid (fun x => by have := HN.out x; rw [if_neg (show ¬ M = 1 by omega)] at this; exact this)
    have hi : l[1 + r]? = some (l[1 + r]?.getD 0) := by rw [List.getElem?_eq_getElem hlt]; rfl
    rw [hi] at HDn
    generalize l[1 + r]?.getD 0 = b at hc1 HDn
    clear hi hlt
    by_cases hb : b = 58
    · have dB : ((b.toNat : Int) == 58) = true := by rw [hb]; rfl
      have HBc := Lib.hid hb
      clear hb
      have hW1 := fun q => HW.out q (1 + r + 1) (by omega)
      have hD1 := HD.out (1 + r + 1) (by rw [HDn.out, HBc.out]; rfl)
      generalize Lx.wordKind (l.take (1 + r + 1)) = K at hW1 hD1
      have HW1 := Lib.hid hW1
      have HD1 := Lib.hid hD1
      clear hW1 hD1
      by_cases hK : K = 0
      · have dK : ((K : Int) == 0) = true := beq_iff_eq.2 (by omega)
        have HK0 := Lib.hid hK
        clear hK
        go_enter Tryz.func70, Tryz.ntmps70
        go_wp2_with fail
        refine (HR.out 0).mono ?_
        rintro e w' ⟨rfl, q, rfl⟩
        go_wp2
        go_quiet ((go_at_call 91; exact (HN.out _).mono (fun _ _ h => ⟨h.1, _, h.2⟩)))
        go_wp2_with fail
        all_goals
          refine (HW1.out _).mono ?_
          rintro e w' ⟨rfl, hb⟩
          have c0 := (hb.cell (p := ⟨B, 0, none⟩) hB).trans c0
          have HB := Lib.hid hb
          clear hb
          go_wp2
          exact ⟨rfl, by rw [HD1.out, if_pos HK0.out]; rfl, HB.out⟩
      · have dK : ((K : Int) == 0) = false := beq_eq_false_iff_ne.2 (by omega)
        have HK0 := Lib.hid hK
        clear hK
        go_enter Tryz.func70, Tryz.ntmps70
        go_wp2_with fail
        refine (HR.out 0).mono ?_
        rintro e w' ⟨rfl, q, rfl⟩
        go_wp2
        go_quiet ((go_at_call 91; exact (HN.out _).mono (fun _ _ h => ⟨h.1, _, h.2⟩)))
        go_wp2_with fail
        all_goals
          refine (HW1.out _).mono ?_
          rintro e w' ⟨rfl, hb⟩
          have HB := Lib.hid hb
          clear hb
          go_wp2
          go_ret2
          exact ⟨by rw [HD1.out, if_neg HK0.out]; exact ret_pair rfl (by simp), HB.out⟩
    · have dB : ((b.toNat : Int) == 58) = false := by
        rw [beq_eq_false_iff_ne]; intro e; exact hb (UInt8.toNat_inj.1 (by have : (58 : UInt8).toNat = 58 := rfl; omega))
      have HBc := Lib.hid hb
      clear hb
      have hW1 := fun q => HW.out q (1 + r) (by omega)
      have hD1 := HD.out (1 + r) (by rw [HDn.out, if_neg (by simpa using HBc.out)])
      generalize Lx.wordKind (l.take (1 + r)) = K at hW1 hD1
      have HW1 := Lib.hid hW1
      have HD1 := Lib.hid hD1
      clear hW1 hD1
      by_cases hK : K = 0
      · have dK : ((K : Int) == 0) = true := beq_iff_eq.2 (by omega)
        have HK0 := Lib.hid hK
        clear hK
        go_enter Tryz.func70, Tryz.ntmps70
        go_wp2_with fail
        refine (HR.out 0).mono ?_
        rintro e w' ⟨rfl, q, rfl⟩
        go_wp2
        go_quiet ((go_at_call 91; exact (HN.out _).mono (fun _ _ h => ⟨h.1, _, h.2⟩)))
        go_wp2_with fail
        all_goals
          refine (HW1.out _).mono ?_
          rintro e w' ⟨rfl, hb⟩
          have c0 := (hb.cell (p := ⟨B, 0, none⟩) hB).trans c0
          have HB := Lib.hid hb
          clear hb
          go_wp2
          exact ⟨rfl, by rw [HD1.out, if_pos HK0.out]; rfl, HB.out⟩
      · have dK : ((K : Int) == 0) = false := beq_eq_false_iff_ne.2 (by omega)
        have HK0 := Lib.hid hK
        clear hK
        go_enter Tryz.func70, Tryz.ntmps70
        go_wp2_with fail
        refine (HR.out 0).mono ?_
        rintro e w' ⟨rfl, q, rfl⟩
        go_wp2
        go_quiet ((go_at_call 91; exact (HN.out _).mono (fun _ _ h => ⟨h.1, _, h.2⟩)))
        go_wp2_with fail
        all_goals
          refine (HW1.out _).mono ?_
          rintro e w' ⟨rfl, hb⟩
          have HB := Lib.hid hb
          clear hb
          go_wp2
          go_ret2
          exact ⟨by rw [HD1.out, if_neg HK0.out]; exact ret_pair rfl (by simp), HB.out⟩
end Go.Proofs.YtcjcbhdildcceaaGreatDoor
