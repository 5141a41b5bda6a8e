/- Contracts of the reader's methods that read strings and words of package lex. No conditions but those in each statement. -/
import Derived.Test.YtcjcbhdildcceaaGreatDoorLexB
import Derived.Test.YtcjcbhdildcceaaGreatDoorLexP
namespace Go.Proofs.YtcjcbhdildcceaaGreatDoor
open Go.RowKit

def quotedEnds (m : Option Nat) (at_ : Nat) : Ending :=
  match m with
  | some n => .returned (.int .i64 ((n + 1 : Nat) : Int))
  | none => panicE 11 at_

set_option maxHeartbeats 1000000 in
theorem quoted_c (B T cap : Nat) (s : List UInt8) (p : Lx.Place) (last : Lx.Sp) (w : World) (h : Rdr B T cap s p last w) (hin : p.ix < s.length) :
    Calls Tryz.prog 72 #[.pointer (some ⟨B, 0, none⟩)] w fun e w' =>
      e = quotedEnds (Lx.quotedN (s.drop (p.ix + 1))) p.ix ∧ ∃ q, w' = w.drewN q := by
  have hr := fun q => rest_c B T cap p.ix s.length (w.drewN q) (h.drewN q).ix (h.drewN q).tx h.inside h.cap_le
  have c0 := h.ix
  have mf := makeFunc_run
  have hcl := rest_cells (ix := p.ix) h.tc h.cap_le
  have hks := fun q => (h.drewN q).ks
  have hl : (s.drop p.ix).length = s.length - p.ix := by simp
  have hsm := h.small
  have hcp := h.cap_le
  have hd : s.drop (p.ix + 1) = (s.drop p.ix).tail := by simp
  rw [hd]
  clear h hd
  generalize s.drop p.ix = l at *
  have hN1 : 1 ≤ s.length - p.ix := by omega
  have hN2 : s.length - p.ix ≤ 20000 := by omega
  have hNM : s.length - p.ix ≤ cap - p.ix := by omega
  generalize s.length - p.ix = N at *
  generalize cap - p.ix = M at *
  generalize restO cap p.ix = R at *
  clear hin hsm hcp
  have hrun : ∀ (k q : Nat), k ≤ N → Calls Tryz.prog 91
      #[.slice (if M = k then some ⟨T, R, none⟩ else some ⟨T, R + k, none⟩) (N - k) (M - k), .func (.func 95) #[.pointer (some ⟨B, 3, none⟩)] #[]]
      (w.drewN q) fun e w' => e = .returned (.int .i64 (Lx.runN Lx.inString (l.drop k))) ∧ w' = w.drewN q := by
    intro k q hk
    have e : (if M = k then some (⟨T, R, none⟩ : Addr) else some ⟨T, R + k, none⟩) = some ⟨T, if M = k then R else R + k, none⟩ := by split <;> rfl
    rw [e]
    refine run_byte_c 95 #[.pointer (some ⟨B, 3, none⟩)] #[] Lx.inString T _ (N - k) (M - k) (l.drop k) (w.drewN q) (by simp [hl]) (by omega) eg_inString ?_ (fun b => inString_c b _ _ _ (hks q))
    intro j hj
    rw [List.length_drop] at hj
    rw [if_neg (by omega), Nat.add_assoc, World.cell?_drewN, hcl (k + j) (by omega), List.getElem?_drop]
  have HR := Lib.hid hr
  have HL := Lib.hid hl
  have HC := Lib.hid hcl
  have HN := Lib.hid hrun
  clear hr hl hcl hks hrun
  go_enter Tryz.func72, Tryz.ntmps72
  go_wp2_with fail
  refine (HR.out 0).mono ?_
  rintro e w' ⟨rfl, q, rfl⟩
  go_wp2
  go_loopw [4] (fun n wr => ∃ (k q : Nat), n = .int .i64 k ∧ wr = w.drewN q ∧ 1 ≤ k ∧ k ≤ N ∧ Hid (Lx.quotedN l.tail = (Lx.quotedN (l.drop k)).map (· + (k - 1)))) (fun n _ => N - (intOf n).toNat)
  case atStart => exact ⟨1, _, rfl, rfl, by omega, hN1, Lib.hid (by simp)⟩
  case round =>
    obtain ⟨k, q, rfl, rfl, hk1, hk2, HQ⟩ := hrel
    have hrl := runN_le Lx.inString (l.drop k)
    rw [List.length_drop, HL.out] at hrl
    have HA := Lib.hid (quoted_end l k)
    have HB := Lib.hid (quoted_bad l k)
    have HD := Lib.hid (quoted_last l k)
    have HE := Lib.hid (quoted_more l k)
    have HN1 := Lib.hid (fun x => HN.out k x hk2)
    generalize Lx.runN Lx.inString (l.drop k) = r at *
    have fin : ∀ m, Lx.quotedN (l.drop k) = m → quotedEnds (Lx.quotedN l.tail) p.ix = quotedEnds (m.map (· + (k - 1))) p.ix := fun m hm => by rw [HQ.out, hm]
    have FIN := Lib.hid fin
    clear fin
    have n39 : ∀ b : UInt8, b ≠ 39 → ((b.toNat : Int) != 39) = true := fun b hb => by
      rw [bne_iff_ne]; intro e; exact hb (UInt8.toNat_inj.1 (by have : (39 : UInt8).toNat = 39 := rfl; omega))
    have N39 := Lib.hid n39
    clear n39
    by_cases h1 : k + r = N
    · have d1 : ((k : Int) + (r : Int) == (N : Int)) = true := beq_iff_eq.2 (by omega)
      have H1 := Lib.hid h1
      clear h1
      go_wp2
      go_quiet ((go_at_call 91; exact (HN1.out _).mono (fun _ _ h => ⟨h.1, _, h.2⟩)))
      go_wp2
      all_goals
        refine ⟨rfl, ?_, _, rfl⟩
        rw [FIN.out _ (HA.out (by rw [HL.out]; exact H1.out))]
        rfl
    · have d1 : ((k : Int) + (r : Int) == (N : Int)) = false := beq_eq_false_iff_ne.2 (by omega)
      have HN1 := Lib.hid (fun x => by have := HN1.out x; rw [if_neg (show ¬ M = k by omega)] at this; exact this)
      have hc1 := HC.out (k + r) (by rw [HL.out]; omega)
      have hlt : k + r < l.length := by rw [HL.out]; omega
      have HLT := Lib.hid hlt
      clear hlt
      obtain ⟨b, hb⟩ : ∃ b, l[k + r]?.getD 0 = b := ⟨_, rfl⟩
      rw [hb] at hc1
      by_cases h39 : b = 39
      · have dB : ((b.toNat : Int) != 39) = false := by rw [h39]; rfl
        have H39 := Lib.hid (hb.trans h39)
        clear h39 hb
        by_cases h2 : k + r + 1 = N
        · have d2 : ((k : Int) + (r : Int) + 1 == (N : Int)) = true := beq_iff_eq.2 (by omega)
          have H2 := Lib.hid h2
          clear h2
          go_wp2
          go_quiet ((go_at_call 91; exact (HN1.out _).mono (fun _ _ h => ⟨h.1, _, h.2⟩)))
          go_wp2
          go_ret
          refine ⟨?_, _, rfl⟩
          rw [FIN.out _ (HD.out HLT.out H39.out (.inl (by rw [HL.out]; exact H2.out)))]
          exact ret_int (by simp; omega)
        · have d2 : ((k : Int) + (r : Int) + 1 == (N : Int)) = false := beq_eq_false_iff_ne.2 (by omega)
          have hc2 := HC.out (k + r + 1) (by rw [HL.out]; omega)
          obtain ⟨b2, hb2⟩ : ∃ b, l[k + r + 1]?.getD 0 = b := ⟨_, rfl⟩
          rw [hb2] at hc2
          by_cases h3 : b2 = 39
          · have dC : ((b2.toNat : Int) != 39) = false := by rw [h3]; rfl
            have HE1 := Lib.hid (HE.out (by rw [HL.out]; omega) H39.out (hb2.trans h3))
            clear h3 hb2
            go_wp2
            go_quiet ((go_at_call 91; exact (HN1.out _).mono (fun _ _ h => ⟨h.1, _, h.2⟩)))
            go_wp2
            refine ⟨⟨k + r + 2, _, by go_num, rfl, by omega, by omega, Lib.hid ?_⟩, by simp [intOf]; omega⟩
            rw [HQ.out, HE1.out, Option.map_map]
            congr 1
            funext x
            simp only [Function.comp]
            omega
          · have dC := N39.out b2 h3
            have H3 : Hid (l[k + r + 1]?.getD 0 ≠ 39) := Lib.hid (by rw [hb2]; exact h3)
            clear h3 hb2
            go_wp2
            go_quiet ((go_at_call 91; exact (HN1.out _).mono (fun _ _ h => ⟨h.1, _, h.2⟩)))
            go_wp2
            go_ret
            refine ⟨?_, _, rfl⟩
            rw [FIN.out _ (HD.out HLT.out H39.out (.inr H3.out))]
            exact ret_int (by simp; omega)
      · have dB := N39.out b h39
        have H39 : Hid (l[k + r]?.getD 0 ≠ 39) := Lib.hid (by rw [hb]; exact h39)
        clear h39 hb
        go_wp2
        go_quiet ((go_at_call 91; exact (HN1.out _).mono (fun _ _ h => ⟨h.1, _, h.2⟩)))
        go_wp2
        refine ⟨rfl, ?_, _, rfl⟩
        rw [FIN.out _ (HB.out HLT.out H39.out)]
        rfl

theorem quotedEnds_some {m : Option Nat} {n at_ : Nat} (h : m = some n) : quotedEnds m at_ = .returned (.int .i64 ((n + 1 : Nat) : Int)) := by rw [h]; rfl
theorem quotedEnds_none {m : Option Nat} {at_ : Nat} (h : m = none) : quotedEnds m at_ = panicE 11 at_ := by rw [h]; rfl
end Go.Proofs.YtcjcbhdildcceaaGreatDoor
