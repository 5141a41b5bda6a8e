/- Plain functions: all tokens of a text, and what is wrong with it. -/
import Derived.Test.YtcjcbhdildcceaaGreatDoorLexS
namespace Go.Proofs.YtcjcbhdildcceaaGreatDoor
namespace Lx
/-- The tokens from an index on (fuel: more than the bytes that are left), and what is wrong: its code and where. -/
def spansN (s : List UInt8) : Nat → Nat → Sp → List Sp × Option (Nat × Nat)
  | 0, _, _ => ([], Option.none)
  | f + 1, ix, last =>
    match blanks Option.none ix (s.drop ix) with
    | .open c => ([], some (11, c))
    | .at j => if j = s.length then ([], Option.none) else
      match next s j last with
      | .error c => ([], some (c, j))
      | .ok t => let r := spansN s f t.to t; (t :: r.1, r.2)
def noSp : Sp := ⟨0, [], 0, 0, 0, 0⟩
def spans (s : List UInt8) : List Sp × Option (Nat × Nat) := spansN s (s.length + 1) 0 noSp
/-- The tokens of a text, and what is wrong with it: (code, index); (0, 0) if nothing. -/
def divide (s : List UInt8) : List Sp × Nat × Nat :=
  if 20000 < s.length then ([], 2, 0) else
  match spans s with
  | (l, Option.none) => (l, 0, 0)
  | (_, some (c, i)) => ([], c, i)
end Lx
end Go.Proofs.YtcjcbhdildcceaaGreatDoor
