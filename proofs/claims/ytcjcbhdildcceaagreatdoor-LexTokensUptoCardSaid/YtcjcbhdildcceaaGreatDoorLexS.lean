/- What package lex computes, as plain functions on lists of bytes: kinds of bytes, tokens, what is passed over, the division of a text. Nothing is proved of the program here. -/
import Derived.Lib.Bytealg
import Derived.Lib.Strings
namespace Go.Proofs.YtcjcbhdildcceaaGreatDoor
open Go

namespace Lx
def small (b : UInt8) : Bool := decide (97 ≤ (b.toNat : Int)) && decide ((b.toNat : Int) ≤ 122)
def capital (b : UInt8) : Bool := decide (65 ≤ (b.toNat : Int)) && decide ((b.toNat : Int) ≤ 90)
def digit (b : UInt8) : Bool := decide (48 ≤ (b.toNat : Int)) && decide ((b.toNat : Int) ≤ 57)
def blank (b : UInt8) : Bool := (b.toNat : Int) == 32 || (b.toNat : Int) == 9 || (b.toNat : Int) == 10
def shown (b : UInt8) : Bool := decide (32 ≤ (b.toNat : Int)) && decide ((b.toNat : Int) ≤ 126)
abbrev operators : List UInt8 := [43, 45, 42, 47, 37, 60, 62, 61, 126, 38, 64, 33, 63]
abbrev signs : List UInt8 := [40, 41, 91, 93, 124, 46, 94, 58, 59]
def operator (b : UInt8) : Bool := decide (0 ≤ Lib.indexByte operators b)
def sign (b : UInt8) : Bool := decide (0 ≤ Lib.indexByte signs b)
def letter (b : UInt8) : Bool := small b || capital b
def wordByte (b : UInt8) : Bool := letter b || digit b
def inString (b : UInt8) : Bool := shown b && ((b.toNat : Int) != 39)
def joined (b : UInt8) : Bool := letter b || operator b

/-- A place in a text: its index, the line feeds ahead of it, where its line begins. -/
structure Place where
  ix : Nat
  ln : Nat
  bg : Nat
def Place.step (p : Place) (b : UInt8) : Place := ⟨p.ix + 1, if b = 10 then p.ln + 1 else p.ln, if b = 10 then p.ix + 1 else p.bg⟩
def Place.pass (p : Place) (l : List UInt8) : Place := l.foldl Place.step p
/-- The place of an index of a text. -/
def placeAt (s : List UInt8) (i : Nat) : Place := Place.pass ⟨0, 0, 0⟩ (s.take i)

/-- A token, with the index of its first byte and the one behind its last byte. -/
structure Sp where
  kind : Nat
  text : List UInt8
  line : Nat
  col : Nat
  frm : Nat
  to : Nat
def Sp.none : Sp := ⟨0, [], 0, 0, 0, 0⟩

/-- The token that begins a list of bytes: its Kind and how many bytes it has; or what is wrong. -/
inductive M where
  | ok (k n : Nat)
  | bad (e : Nat)

def runN (p : UInt8 → Bool) (l : List UInt8) : Nat := (l.takeWhile p).length

def number (l : List UInt8) : M :=
  if 400 < runN digit l ∨ (1 < runN digit l ∧ l.head? = some 48) then .bad 12 else .ok 5 (runN digit l)
def operation (l : List UInt8) : M := if 3 < runN operator l then .bad 12 else .ok 7 (runN operator l)

/-- The bytes behind the first one of a string: how many there are up to its end; none, if it does not end. -/
def quotedN : List UInt8 → Option Nat
  | [] => Option.none
  | 39 :: 39 :: r => (quotedN r).map (· + 2)
  | 39 :: _ => some 1
  | b :: r => if shown b then (quotedN r).map (· + 1) else Option.none
/-- Each ' of a list of bytes twice; and two of them together as one. -/
def dbl : List UInt8 → List UInt8
  | [] => []
  | b :: r => if b = 39 then 39 :: 39 :: dbl r else b :: dbl r
def undbl : List UInt8 → List UInt8
  | 39 :: 39 :: r => 39 :: undbl r
  | b :: r => b :: undbl r
  | [] => []
def quoted (l : List UInt8) : M := match quotedN l.tail with | some n => .ok 6 (n + 1) | Option.none => .bad 11

/-- The Kind of the token whose spelling is a word, with or without _ and colon; 0, if there is none. -/
def wordKind (l : List UInt8) : Nat :=
  let colon := l.getLast? == some 58
  let a := if colon then l.dropLast else l
  let under := a.head? == some 95
  let m := if under then a.tail else a
  let b := m.head?.getD 0
  if m.length = 0 ∨ 24 < m.length then 0
  else if capital b && under then 4
  else if capital b && colon then 3
  else if small b && !under && colon then 2
  else if small b && !under then 1
  else 0
/-- How many bytes a word has, with its colon. -/
def wordN (l : List UInt8) : Nat := let n := 1 + runN wordByte l.tail; if l[n]? = some 58 then n + 1 else n
def word (l : List UInt8) : M := let k := wordKind (l.take (wordN l)); if k = 0 then .bad 12 else .ok k (wordN l)

/-- Whether a dot joins the token ahead of it and what comes behind. -/
def joins (s : List UInt8) (ix lastKind lastTo : Nat) : Bool :=
  lastKind == 1 && lastTo == ix && decide (ix + 1 < s.length) && joined (s[ix + 1]?.getD 0)

/-- The token that begins at an index of a text. -/
def measure (s : List UInt8) (ix lastKind lastTo : Nat) : M :=
  let l := s.drop ix
  let b := s[ix]?.getD 0
  if letter b || b == 95 then word l
  else if digit b then number l
  else if b == 39 then quoted l
  else if operator b then operation l
  else if b == 46 && joins s ix lastKind lastTo then .ok 9 1
  else if sign b then .ok 8 1
  else .bad 10

/-- Where what is passed over ends, from an index on (c: within a comment that began at c); or where a comment begins that does not end. -/
inductive B where
  | at (i : Nat)
  | open (c : Nat)
def blanks : Option Nat → Nat → List UInt8 → B
  | Option.none, i, [] => .at i
  | Option.none, i, b :: r => if blank b then blanks Option.none (i + 1) r else if b = 34 then blanks (some i) (i + 1) r else .at i
  | some c, _, [] => .open c
  | some c, i, b :: r => if b = 34 then blanks Option.none (i + 1) r else blanks (some c) (i + 1) r
/-- The next token of a text: what begins at an index; or what is wrong. -/
def next (s : List UInt8) (ix : Nat) (last : Sp) : Except Nat Sp :=
  match measure s ix last.kind last.to with
  | .bad e => .error e
  | .ok k n =>
    let spelt := (s.drop ix).take n
    .ok ⟨k, if k = 6 then undbl ((spelt.drop 1).take (n - 2)) else spelt, (placeAt s ix).ln + 1, ix - (placeAt s ix).bg + 1, ix, ix + n⟩
end Lx
end Go.Proofs.YtcjcbhdildcceaaGreatDoor
