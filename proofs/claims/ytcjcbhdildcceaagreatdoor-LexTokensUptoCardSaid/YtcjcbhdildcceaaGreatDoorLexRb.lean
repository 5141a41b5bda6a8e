/- run over bytes of package lex, for longer texts. Conditions: those in the statement. -/
import Derived.Test.YtcjcbhdildcceaaGreatDoorLexA
import Derived.Shelf.Abstract
namespace Go.Proofs.YtcjcbhdildcceaaGreatDoor
open Go.RowKit

theorem run_byte_big (g : FuncId) (fst cpt : Array Value) (p : UInt8 → Bool) (T a n cap : Nat) (l : List UInt8) (w : World) (hn : l.length = n) (hm : n ≤ 100000000)
    (eg : ∀ args w, (callFunc g args).run Tryz.prog w = .ok (.enter g args) w)
    (hc : ∀ j, j < l.length → w.cell? ⟨T, a + j, none⟩ = some (.int .u8 (l[j]?.getD 0).toNat))
    (hf : ∀ b : UInt8, Calls Tryz.prog g (fst ++ #[.int .u8 b.toNat] ++ cpt) w fun e w' => e = .returned (.bool (p b)) ∧ w' = w) :
    Calls Tryz.prog 91 #[.slice (some ⟨T, a, none⟩) n cap, .func (.func g) fst cpt] w fun e w' =>
      e = .returned (.int .i64 (l.takeWhile p).length) ∧ w' = w := by
  subst hn
  have HF := Lib.hid hf
  clear hf
  have HC := Lib.hid hc
  clear hc
  go_enter Tryz.func91, Tryz.ntmps91
  go_wp2
  go_loop [9] (fun i => ∃ k : Nat, k ≤ (l.takeWhile p).length ∧ i = .int .i64 k) (fun i => l.length - (intOf i).toNat)
  case atStart => exact ⟨0, Nat.zero_le _, rfl⟩
  case round =>
    obtain ⟨k, hk, rfl⟩ := hrel
    have hle := tw_le p l
    by_cases hlt : k < l.length
    · have hcell := HC.out k hlt
      go_wp2_with (go_at_fn g; refine (HF.out _).mono ?_; rintro e w' ⟨rfl, rfl⟩)
      · have hp : p l[k] = false := by have : (!p l[k]) = true := by assumption
                                       simpa using this
        go_ret
        exact ⟨ret_int (by rw [tw_stop p l k hlt hk hp]), rfl⟩
      · have hp : p l[k] = true := by have : (!p l[k]) = false := by assumption
                                      simpa using this
        exact ⟨⟨k + 1, tw_step p l k hlt hk hp, by go_num⟩, by simp [intOf]; omega⟩
    · go_wp2
      go_ret
      exact ⟨ret_int (by omega), rfl⟩
end Go.Proofs.YtcjcbhdildcceaaGreatDoor
