/- Contract of the reader's method passBlanks of package lex: blanks and comments are passed over; a comment that does not end is told. No conditions but those in the statement. -/
import Derived.Test.YtcjcbhdildcceaaGreatDoorLexE
import Derived.Test.YtcjcbhdildcceaaGreatDoorLexF
import Derived.Deep.DeepCutAuto
import Derived.Deep.LoopGhost
namespace Go.Proofs.YtcjcbhdildcceaaGreatDoor
open Go.RowKit

def ne34 (b : UInt8) : Bool := (b.toNat : Int) != 34
theorem runN_cons_true {p : UInt8 → Bool} {b : UInt8} {l : List UInt8} (h : p b = true) : Lx.runN p (b :: l) = Lx.runN p l + 1 := by simp [Lx.runN, h]
theorem runN_cons_false {p : UInt8 → Bool} {b : UInt8} {l : List UInt8} (h : p b = false) : Lx.runN p (b :: l) = 0 := by simp [Lx.runN, h]
theorem runN_next {p : UInt8 → Bool} {l : List UInt8} (h : Lx.runN p l < l.length) : p (l[Lx.runN p l]?.getD 0) = false := by
  induction l with
  | nil => simp at h
  | cons b l ih =>
    cases hb : p b
    · rw [runN_cons_false hb]; exact hb
    · rw [runN_cons_true hb] at h ⊢
      simpa using ih (by simpa using h)
theorem blanks_run (i : Nat) (l : List UInt8) : Lx.blanks none i l = Lx.blanks none (i + Lx.runN Lx.blank l) (l.drop (Lx.runN Lx.blank l)) := by
  induction l generalizing i with
  | nil => rfl
  | cons b l ih =>
    cases hb : Lx.blank b
    · rw [runN_cons_false hb]; rfl
    · rw [runN_cons_true hb, List.drop_succ_cons]
      rw [show Lx.blanks none i (b :: l) = Lx.blanks none (i + 1) l by simp [Lx.blanks, hb], ih (i + 1)]
      congr 1
      omega
theorem blanks_comment (c i : Nat) (l : List UInt8) : Lx.blanks (some c) i l = if Lx.runN ne34 l = l.length then .open c else Lx.blanks none (i + Lx.runN ne34 l + 1) (l.drop (Lx.runN ne34 l + 1)) := by
  induction l generalizing i with
  | nil => rfl
  | cons b l ih =>
    cases hb : ne34 b
    · have h34 : b = 34 := by
        have : (b.toNat : Int) = 34 := by simpa [ne34] using hb
        exact UInt8.toNat_inj.1 (by have : (34 : UInt8).toNat = 34 := rfl; omega)
      rw [runN_cons_false hb, if_neg (by simp)]
      simp [Lx.blanks, h34]
    · have h34 : b ≠ 34 := by rintro rfl; simp [ne34] at hb
      rw [runN_cons_true hb, List.drop_succ_cons, show Lx.blanks (some c) i (b :: l) = Lx.blanks (some c) (i + 1) l by simp [Lx.blanks, h34], ih (i + 1)]
      simp only [List.length_cons, Nat.add_right_cancel_iff]
      congr 2
      omega

theorem Rdr.passRel {B T cap : Nat} {s : List UInt8} {p : Lx.Place} {last : Lx.Sp} {w : World} (h : Rdr B T cap s p last w) : PassRel B w w p :=
  ⟨h.ix, h.ln, h.bg, fun _ => rfl, fun _ _ => rfl, grown_refl _ _⟩

theorem Rdr.pass {B T cap : Nat} {s : List UInt8} {p : Lx.Place} {last : Lx.Sp} {w w' : World} (h : Rdr B T cap s p last w) (k : Nat) (hk : p.ix + k ≤ s.length)
    (hp : PassRel B w w' (p.pass ((s.drop p.ix).take k))) : Rdr B T cap s (p.pass ((s.drop p.ix).take k)) last w' := by
  have hix : (p.pass ((s.drop p.ix).take k)).ix = p.ix + k := by rw [pass_ix, List.length_take, List.length_drop]; omega
  have c : ∀ {o v}, 3 ≤ o → w.cell? ⟨B, o, none⟩ = some v → w'.cell? ⟨B, o, none⟩ = some v := fun ho e => (hp.rest _ ho).trans e
  obtain ⟨k0, k1, k2, k3, k4, k5, k6⟩ := h.ks
  exact { ks := ⟨c (by omega) k0, c (by omega) k1, c (by omega) k2, c (by omega) k3, c (by omega) k4, c (by omega) k5, c (by omega) k6⟩,
          ix := hp.c0, ln := hp.c1, bg := hp.c2, tx := c (by omega) h.tx, lk := c (by omega) h.lk, lt := c (by omega) h.lt, ll := c (by omega) h.ll, lc := c (by omega) h.lc,
          lf := c (by omega) h.lf, lto := c (by omega) h.lto, fz := fun o => (hp.fz o).trans (h.fz o),
          tc := fun j hj => grown_cell hp.gr (h.tc j hj) h.ne, ne := h.ne, small := h.small, cap_le := h.cap_le, inside := by rw [hix]; exact hk,
          pat := by rw [hix]; conv => lhs; rw [h.pat]
                    rw [placeAt_ix _ _ h.inside, placeAt_pass] }

theorem Rdr.ln_le {B T cap : Nat} {s : List UInt8} {p : Lx.Place} {last : Lx.Sp} {w : World} (h : Rdr B T cap s p last w) : p.ln ≤ p.ix := by
  have := placeAt_ln s p.ix
  rw [placeAt_ix _ _ h.inside, ← h.pat] at this
  exact this
theorem Rdr.bg_le {B T cap : Nat} {s : List UInt8} {p : Lx.Place} {last : Lx.Sp} {w : World} (h : Rdr B T cap s p last w) : p.bg ≤ p.ix := by
  have := placeAt_bg s p.ix
  rw [placeAt_ix _ _ h.inside, ← h.pat] at this
  exact this

theorem pass_rdr (B T cap : Nat) (s : List UInt8) (p : Lx.Place) (last : Lx.Sp) (w : World) (k : Nat) (h : Rdr B T cap s p last w) (hk : p.ix + k ≤ s.length) :
    Calls Tryz.prog 33 #[.pointer (some ⟨B, 0, none⟩), .slice (some ⟨T, restO cap p.ix, none⟩) k (cap - p.ix)] w fun e w' =>
      e = .returned (.tuple #[]) ∧ Rdr B T cap s (p.pass ((s.drop p.ix).take k)) last w' ∧ w.grownBy w' (some B) := by
  have hsm := h.small
  have hln := h.ln_le
  refine (pass_c B T (restO cap p.ix) k (cap - p.ix) p ((s.drop p.ix).take k) w (by rw [List.length_take, List.length_drop]; omega) h.passRel h.fz ?_ h.ne (by omega) (by omega)).mono ?_
  · intro j hj
    rw [List.length_take, List.length_drop] at hj
    rw [rest_cells h.tc h.cap_le j (by rw [List.length_drop]; omega), List.getElem?_take, if_pos (by omega)]
  · rintro e w' ⟨rfl, hp⟩
    exact ⟨rfl, h.pass k hk hp, hp.gr⟩

theorem rest_rdr (B T cap : Nat) (s : List UInt8) (p : Lx.Place) (last : Lx.Sp) (w : World) (h : Rdr B T cap s p last w) :
    Calls Tryz.prog 92 #[.pointer (some ⟨B, 0, none⟩)] w fun e w' =>
      e = .returned (.slice (some ⟨T, restO cap p.ix, none⟩) (s.length - p.ix) (cap - p.ix)) ∧ ∃ q, w' = w.drewN q :=
  rest_c B T cap p.ix s.length w h.ix h.tx h.inside h.cap_le

theorem run_blank_rdr (B T cap : Nat) (s : List UInt8) (p : Lx.Place) (last : Lx.Sp) (w : World) (h : Rdr B T cap s p last w) :
    Calls Tryz.prog 91 #[.slice (some ⟨T, restO cap p.ix, none⟩) (s.length - p.ix) (cap - p.ix), .func (.func 87) #[] #[]] w fun e w' =>
      e = .returned (.int .i64 (Lx.runN Lx.blank (s.drop p.ix))) ∧ w' = w :=
  run_byte_c 87 #[] #[] Lx.blank T (restO cap p.ix) (s.length - p.ix) (cap - p.ix) (s.drop p.ix) w (by simp) (by have := h.small; omega) eg_blank (rest_cells h.tc h.cap_le) (fun b => blank_c b _)

/-- What passing over blanks and comments leaves. -/
def Lx.B.left (b : Lx.B) (B T cap : Nat) (s : List UInt8) (last : Lx.Sp) (w : World) (e : Ending) (w' : World) : Prop :=
  match b with
  | .at j => e = .returned (.tuple #[]) ∧ Rdr B T cap s (Lx.placeAt s j) last w' ∧ w.grownBy w' (some B) ∧ j ≤ s.length
  | .open c => e = panicE 11 c ∧ w.grownBy w' (some B)

set_option maxHeartbeats 4000000 in
set_option maxRecDepth 100000 in
theorem passBlanks_c (B T cap : Nat) (s : List UInt8) (p₀ : Lx.Place) (last : Lx.Sp) (w : World) (h₀ : Rdr B T cap s p₀ last w) :
    Calls Tryz.prog 79 #[.pointer (some ⟨B, 0, none⟩)] w ((Lx.blanks none p₀.ix (s.drop p₀.ix)).left B T cap s last w) := by
  have HH := Lib.hid h₀
  have HG := Lib.hid (grown_refl w (some B))
  clear h₀
  obtain ⟨BL, hBL⟩ : ∃ b, Lx.blanks none p₀.ix (s.drop p₀.ix) = b := ⟨_, rfl⟩
  rw [hBL]
  have HX := Lib.hid hBL.symm
  clear hBL
  go_enter Tryz.func79, Tryz.ntmps79
  go_wp2_with fail
  go_step3
  go_wp2_with fail
  go_step3
  go_wp2_with fail
  go_loopg [] (s.length - p₀.ix) (fun g wr => ∃ p, Hid (Rdr B T cap s p last wr) ∧ Hid (w.grownBy wr (some B)) ∧ Hid (BL = Lx.blanks none p.ix (s.drop p.ix)) ∧ g = s.length - p.ix)
  case atStart => exact ⟨p₀, HH, HG, HX, rfl⟩
  case round =>
    obtain ⟨p, HP, HGr, HB, hg⟩ := hrel
    have k5 : wr.cell? ⟨B, 8, none⟩ = some (.func (.func 87) #[] #[]) := HP.out.ks.2.2.2.2.2.1
    have hl := runN_le Lx.blank (s.drop p.ix)
    rw [List.length_drop] at hl
    have hin := HP.out.inside
    have hcp := HP.out.cap_le
    have hsm := HP.out.small
    go_upto_region 0 with fail
    go_cut [] (fun wx => Hid (Rdr B T cap s (p.pass ((s.drop p.ix).take (Lx.runN Lx.blank (s.drop p.ix)))) last wx) ∧ Hid (wr.grownBy wx (some B)))
    case first =>
      go_region_with (first
        | (go_at_call 92; refine (rest_rdr B T cap s p last _ (HP.out.drewN _)).mono ?_; rintro e w' ⟨rfl, q, rfl⟩)
        | (go_at_call 91; refine (run_blank_rdr B T cap s p last _ (HP.out.drewN _)).mono ?_; rintro e w' ⟨rfl, rfl⟩)
        | (go_at_call 33; refine (pass_rdr B T cap s p last _ _ (HP.out.drewN _) (by omega)).mono ?_; rintro e w' ⟨rfl, hh, hg2⟩))
      all_goals
        have H1 := Lib.hid hh
        have H2 := Lib.hid (grown_trans (grown_drewN wr _ _) hg2)
        clear hh hg2
        go_wp2_with fail
        go_meet
        exact ⟨H1, H2⟩
    case rest =>
      obtain ⟨H1, H2⟩ := hcut
      have HB1 := Lib.hid (HB.out.trans (blanks_run p.ix (s.drop p.ix)))
      have HN1 := Lib.hid (runN_next (p := Lx.blank) (l := s.drop p.ix))
      have HG1 := Lib.hid (grown_trans HGr.out H2.out)
      have hix1 : (p.pass ((s.drop p.ix).take (Lx.runN Lx.blank (s.drop p.ix)))).ix = p.ix + Lx.runN Lx.blank (s.drop p.ix) := by
        rw [pass_ix, List.length_take, List.length_drop, Nat.min_eq_left hl]
      generalize p.pass ((s.drop p.ix).take (Lx.runN Lx.blank (s.drop p.ix))) = p1 at H1 hix1
      rw [List.drop_drop] at HB1
      simp only [List.length_drop, List.getElem?_drop] at HN1
      generalize Lx.runN Lx.blank (s.drop p.ix) = r at *
      have hsz : s.length - p1.ix ≤ gk := by omega
      rw [← hix1] at HB1 HN1
      have HN1 := Lib.hid (fun (hlt : p1.ix < s.length) => HN1.out (by omega))
      clear hg hl hix1 HP HGr HB H2 k5 hin hcp
      have c0 := H1.out.ix
      have tx := H1.out.tx
      have hin := H1.out.inside
      have hcp := H1.out.cap_le
      have hpat := Lib.hid H1.out.pat
      by_cases hE : p1.ix = s.length
      · have dE : ((p1.ix : Int) == (s.length : Int)) = true := beq_iff_eq.2 (by omega)
        have HE := Lib.hid hE
        clear hE
        go_wp2_with fail
        go_quiet (fail)
        go_wp2_with fail
        rw [Exit.noGoto_ret]
        refine bodyPost_ret (results_none rfl _ _ _) rfl ?_
        have e : BL = .at p1.ix := by rw [HB1.out, HE.out, List.drop_length]; rfl
        rw [e]
        exact ⟨rfl, by rw [← hpat.out]; exact H1.out.drewN _, grown_trans HG1.out (grown_drewN _ _ _), hin⟩
      · have dE : ((p1.ix : Int) == (s.length : Int)) = false := beq_eq_false_iff_ne.2 (by omega)
        have hlt : p1.ix < s.length := by omega
        have hcc := H1.out.tc p1.ix hlt
        have HB2 := Lib.hid (HN1.out hlt)
        have HB3 := Lib.hid (drop_at s p1.ix hlt)
        generalize s[p1.ix]?.getD 0 = b at hcc HB2 HB3
        clear hE
        by_cases h34 : b = 34
        · have d34 : ((b.toNat : Int) != 34) = false := by rw [h34]; rfl
          have H34 := Lib.hid h34
          clear h34
          have HB4 := Lib.hid (show BL = Lx.blanks (some p1.ix) (p1.ix + 1) (s.drop (p1.ix + 1)) by
            have hb := HB2.out
            rw [H34.out] at hb
            rw [HB1.out, HB3.out, H34.out]; simp [Lx.blanks, hb])
          rw [blanks_comment] at HB4
          clear HB1 HB2 HB3
          have hlt2 : (s.drop (p1.ix + 1)).length = s.length - p1.ix - 1 := by rw [List.length_drop]; omega
          by_cases hM : cap - p1.ix = 1
          · have hN : s.length - p1.ix = 1 := by omega
            have e : BL = .open p1.ix := by
              rw [HB4.out, if_pos]
              have := runN_le ne34 (s.drop (p1.ix + 1))
              omega
            have HE := Lib.hid e
            have hM2 : cap - p1.ix - 1 = 0 := by omega
            have HR := Lib.hid (fun W (h : Rdr B T cap s p1 last W) => by have := rest_rdr B T cap s p1 last W h; rw [hM, hN] at this; exact this)
            clear e hM hN hM2 HB4 hlt2
            go_wp2_with fail
            go_quiet (fail)
            go_wp2_with fail
            clear hcc d34 dE
            refine (HR.out _ (H1.out.drewN _)).mono ?_
            rintro e w' ⟨rfl, q, rfl⟩
            go_wp2_with fail
            refine wp_loop_rounds 1 ?_
            rw [rounds_succ]
            go_wp2
            exact ⟨rfl, by rw [HE.out]; exact ⟨rfl, grown_trans HG1.out (grown_drewN _ _ _)⟩⟩
          · have HRn := Lib.hid (runN_next (p := ne34) (l := s.drop (p1.ix + 1)))
            have HS := Lib.hid (fun k hk h1 h2 => tw_step ne34 (s.drop (p1.ix + 1)) k hk h1 h2)
            have HT := Lib.hid (fun k hk h1 h2 => tw_stop ne34 (s.drop (p1.ix + 1)) k hk h1 h2)
            have HC := Lib.hid (fun j (hj : j < s.length - p1.ix - 1) => (H1.out.tc (p1.ix + 1 + j) (by omega)))
            have hR : restO cap p1.ix = p1.ix := restO_lt (by omega)
            have HR := Lib.hid (fun W (h : Rdr B T cap s p1 last W) => by have := rest_rdr B T cap s p1 last W h; rw [hR] at this; exact this)
            have HPs := Lib.hid (fun W k (h : Rdr B T cap s p1 last W) hk => by have := pass_rdr B T cap s p1 last W k h hk; rw [hR] at this; exact this)
            clear hR
            obtain ⟨N1, hN1⟩ : ∃ n, n = s.length - p1.ix := ⟨_, rfl⟩
            obtain ⟨M1, hMd⟩ : ∃ n, n = cap - p1.ix := ⟨_, rfl⟩
            simp only [← hN1, ← hMd] at HR HPs HC
            have hM1 : 1 < M1 := by omega
            have hNM : N1 ≤ M1 := by omega
            have hNp : 1 ≤ N1 := by omega
            have hNb : N1 ≤ 20000 := by omega
            have hNs : p1.ix + N1 = s.length := by omega
            rw [← hN1] at hlt2 hsz
            have HNs := Lib.hid hNs
            clear hN1 hMd hM hNs
            go_wp2_with fail
            go_quiet (fail)
            go_wp2_with fail
            clear hcc d34 dE
            refine (HR.out _ (H1.out.drewN _)).mono ?_
            rintro e w' ⟨rfl, q, rfl⟩
            go_wp2_with fail
            go_loopg [48] (N1 - 1) (fun g i wx => ∃ j, i = .int .i64 (j : Nat) ∧ j + g = N1 - 1 ∧ j ≤ Lx.runN ne34 (s.drop (p1.ix + 1)) ∧ ∃ q, wx = wc.drewN q)
            case atStart => exact ⟨0, rfl, by omega, Nat.zero_le _, _, rfl⟩
            case round =>
              obtain ⟨j, rfl, hjg, hjr, q2, rfl⟩ := hrel
              by_cases hj : j < N1 - 1
              · have hcell := HC.out j hj
                have hjl : j < (s.drop (p1.ix + 1)).length := by omega
                have hget : (s.drop (p1.ix + 1))[j] = s[p1.ix + 1 + j]?.getD 0 := by
                  have := HNs.out; rw [List.getElem_drop, List.getElem?_eq_getElem (by omega)]; rfl
                have HS1 := Lib.hid (HS.out j hjl hjr)
                have HT1 := Lib.hid (HT.out j hjl hjr)
                rw [hget] at HS1 HT1
                clear hget
                generalize s[p1.ix + 1 + j]?.getD 0 = b2 at hcell HS1 HT1
                have hlo : (0 : Int) ≤ (j : Int) := by omega
                have hji : (j : Int) < ((N1 - 1 : Nat) : Int) := by omega
                by_cases h2 : b2 = 34
                · have d2 : ((b2.toNat : Int) == 34) = true := by rw [h2]; rfl
                  have HT2 : Hid (j = Lx.runN ne34 (s.drop (p1.ix + 1))) := Lib.hid (HT1.out (by rw [h2]; rfl))
                  clear h2
                  have hj2 : (j : Int) + 2 ≤ (M1 : Int) := by omega
                  have hj3 : (0 : Int) ≤ (j : Int) + 2 := by omega
                  have hj4 : ((j : Int) + 2).toNat = j + 2 := by omega
                  have hj5 : IntKind.i64.wrap ((j : Int) + 2) = (j : Int) + 2 := IntWalk.i64_in _ (by omega)
                  go_wp2_with fail
                  go_region_with (first
                    | (go_at_call 92; refine (HR.out _ (H1.out.drewN _)).mono ?_; rintro e w' ⟨rfl, q, rfl⟩)
                    | (go_at_call 33; refine (HPs.out _ _ (H1.out.drewN _) (by have := HNs.out; omega)).mono ?_; rintro e w' ⟨rfl, hh, hg2⟩))
                  all_goals
                    have hix2 : (p1.pass ((s.drop p1.ix).take (j + 2))).ix = p1.ix + (j + 2) := by
                      have := HNs.out; rw [pass_ix, List.length_take, List.length_drop, Nat.min_eq_left (by omega)]
                    have H3 := Lib.hid hh
                    have H4 := Lib.hid (grown_trans (grown_drewN wc _ _) hg2)
                    have H5 := Lib.hid hix2
                    clear hh hg2 hix2
                    go_wp2_with fail
                    go_roundg (s.length - (p1.ix + (j + 2)))
                    case measure => have := HNs.out; omega
                    case rel =>
                      refine ⟨p1.pass ((s.drop p1.ix).take (j + 2)), H3, Lib.hid (grown_trans HG1.out H4.out), Lib.hid ?_, by rw [H5.out]⟩
                      rw [HB4.out, if_neg (by rw [← HT2.out]; omega), ← HT2.out, H5.out, List.drop_drop]
                      rw [show p1.ix + 1 + j + 1 = p1.ix + (j + 2) by omega, show p1.ix + 1 + (j + 1) = p1.ix + (j + 2) by omega]
                · have d2 : ((b2.toNat : Int) == 34) = false := by
                    rw [beq_eq_false_iff_ne]; intro e; exact h2 (UInt8.toNat_inj.1 (by have : (34 : UInt8).toNat = 34 := rfl; omega))
                  have HS2 := Lib.hid (HS1.out (by unfold ne34; rw [bne_iff_ne]; intro e; exact h2 (UInt8.toNat_inj.1 (by have : (34 : UInt8).toNat = 34 := rfl; omega))))
                  clear h2
                  go_wp2_with fail
                  go_roundg (gk - 1)
                  case measure => omega
                  case rel => exact ⟨j + 1, by go_num, by omega, HS2.out, q2, rfl⟩
              · have hje : j = N1 - 1 := by omega
                have hrl := runN_le ne34 (s.drop (p1.ix + 1))
                have HE := Lib.hid (show BL = .open p1.ix by rw [HB4.out, if_pos (Nat.le_antisymm hrl (by rw [hlt2, ← hje]; exact hjr))])
                clear hrl hje
                go_wp2_with fail
                exact ⟨rfl, by rw [HE.out]; exact ⟨rfl, grown_trans HG1.out (grown_drewN _ _ _)⟩⟩
        · have d34 : ((b.toNat : Int) != 34) = true := by
            rw [bne_iff_ne]; intro e; exact h34 (UInt8.toNat_inj.1 (by have : (34 : UInt8).toNat = 34 := rfl; omega))
          have H34 := Lib.hid h34
          clear h34
          go_wp2_with fail
          go_quiet (fail)
          go_wp2_with fail
          rw [Exit.noGoto_ret]
          refine bodyPost_ret (results_none rfl _ _ _) rfl ?_
          have e : BL = .at p1.ix := by rw [HB1.out, HB3.out]; simp [Lx.blanks, HB2.out, H34.out]
          rw [e]
          exact ⟨rfl, by rw [← hpat.out]; exact H1.out.drewN _, grown_trans HG1.out (grown_drewN _ _ _), hin⟩
end Go.Proofs.YtcjcbhdildcceaaGreatDoor
