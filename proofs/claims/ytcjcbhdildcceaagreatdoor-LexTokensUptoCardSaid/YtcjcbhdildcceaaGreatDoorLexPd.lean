/- Plain definitions and facts of package lex. Nothing is said of the program here. -/
import Derived.Test.YtcjcbhdildcceaaGreatDoorLexS2
import Derived.Test.YtcjcbhdildcceaaGreatDoorLexT
import Derived.Test.YtcjcbhdildcceaaGreatDoorLexQ
namespace Go.Proofs.YtcjcbhdildcceaaGreatDoor

theorem blanks_ge : ∀ (l : List UInt8) (c : Option Nat) (i j : Nat), Lx.blanks c i l = .at j → i ≤ j
  | [], none, i, j, h => by injection h; omega
  | [], some c, i, j, h => by cases h
  | b :: r, none, i, j, h => by
    unfold Lx.blanks at h
    split at h
    · have := blanks_ge r _ _ _ h; omega
    · split at h
      · have := blanks_ge r _ _ _ h; omega
      · injection h; omega
  | b :: r, some c, i, j, h => by
    unfold Lx.blanks at h
    split at h
    · have := blanks_ge r _ _ _ h; omega
    · have := blanks_ge r _ _ _ h; omega

/-- What follows where no blanks stand. -/
def tailN (s : List UInt8) (f j : Nat) (last : Lx.Sp) : List Lx.Sp × Option (Nat × Nat) :=
  if j = s.length then ([], none) else
    match Lx.next s j last with
    | .error c => ([], some (c, j))
    | .ok t => (t :: (Lx.spansN s f t.to t).1, (Lx.spansN s f t.to t).2)
theorem spansN_succ (s : List UInt8) (f ix : Nat) (last : Lx.Sp) :
    Lx.spansN s (f + 1) ix last = match Lx.blanks none ix (s.drop ix) with | .open c => ([], some (11, c)) | .at j => tailN s f j last := by
  conv => lhs; unfold Lx.spansN
  rfl


theorem blanks_le : ∀ (l : List UInt8) (c : Option Nat) (i j : Nat), Lx.blanks c i l = .at j → j ≤ i + l.length
  | [], none, i, j, h => by injection h; simp; omega
  | [], some c, i, j, h => by cases h
  | b :: r, none, i, j, h => by
    unfold Lx.blanks at h
    rw [List.length_cons]
    split at h
    · have := blanks_le r _ _ _ h; omega
    · split at h
      · have := blanks_le r _ _ _ h; omega
      · injection h; omega
  | b :: r, some c, i, j, h => by
    unfold Lx.blanks at h
    rw [List.length_cons]
    split at h
    · have := blanks_le r _ _ _ h; omega
    · have := blanks_le r _ _ _ h; omega

theorem next_to (s : List UInt8) (j : Nat) (last t : Lx.Sp) (hj : j < s.length) (h : Lx.next s j last = .ok t) : t.frm = j ∧ j < t.to ∧ t.to ≤ s.length := by
  unfold Lx.next at h
  split at h
  · cases h
  · rename_i k n hm
    obtain ⟨h1, h2, _⟩ := measure_len s j _ _ k n hj hm
    injection h with h
    subst h
    exact ⟨rfl, by show j < j + n; omega, h2⟩

theorem spansN_len (s : List UInt8) : ∀ (f ix : Nat) (last : Lx.Sp), ix ≤ s.length → (Lx.spansN s f ix last).1.length + ix ≤ s.length
  | 0, _, _, h => by simpa [Lx.spansN] using h
  | f + 1, ix, last, h => by
    rw [spansN_succ]
    split
    · simpa using h
    · rename_i j hb
      have h1 := blanks_ge _ _ _ _ hb
      have h2 := blanks_le _ _ _ _ hb
      rw [List.length_drop] at h2
      unfold tailN
      split
      · simpa using h
      · split
        · simpa using h
        · rename_i t ht
          obtain ⟨_, h3, h4⟩ := next_to s j last t (by omega) ht
          have := spansN_len s f t.to t h4
          simp only [List.length_cons]
          omega
/-- A text has no more tokens than bytes. -/
theorem spans_len (s : List UInt8) : (Lx.spans s).1.length ≤ s.length := by
  have := spansN_len s (s.length + 1) 0 Lx.noSp (Nat.zero_le _)
  exact this

/-- What Kind answers. -/
def Lx.soleKind (s : List UInt8) : Nat :=
  match measure s 0 0 0 with
  | .ok k n => if n = s.length then k else 0
  | .bad _ => 0
def Lx.kindTold (s : List UInt8) : Nat := if s = [] ∨ 20000 < s.length then 0 else soleKind s

def Lx.spell (k : Int) (txt : List UInt8) : List UInt8 := if k = 6 then 39 :: (dbl txt ++ [39]) else txt

/-- Whether a token's text is right. -/
def Lx.rightText (k : Int) (txt : List UInt8) : Bool :=
  if k = 6 then runN shown txt == txt.length
  else if k = 9 then txt == [46]
  else if k = 0 then false
  else (kindTold txt : Int) == k


def Lx.place? (n : Int) : Bool := decide (1 ≤ n) && decide (n ≤ 20001)
/-- Whether a token is right. -/
def Lx.right (k : Int) (txt : List UInt8) (ln cl : Int) : Bool := (((ln == 0) && (cl == 0)) || (place? ln && place? cl)) && rightText k txt


/-- What Spell answers. -/
def Lx.spelled (k : Int) (txt : List UInt8) (ln cl : Int) : List UInt8 × Nat := if right k txt ln cl then (spell k txt, 0) else ([], 13)

/-- A token as a list holds it. -/
structure Lx.Tk where
  kind : Int
  text : List UInt8
  line : Int
  col : Int
def Lx.Tk.key (t : Lx.Tk) : Int × List UInt8 := (t.kind, t.text)

/-- Whether two lists are the same but for places. -/
def Lx.same (l l' : List Lx.Tk) : Bool := decide (l.map Tk.key = l'.map Tk.key)

theorem same_false_len {l l' : List Lx.Tk} (h : l.length ≠ l'.length) : Lx.same l l' = false := by
  unfold Lx.same
  exact decide_eq_false (fun e => h (by have := congrArg List.length e; simpa using this))
theorem same_false_at {l l' : List Lx.Tk} {k : Nat} {t t' : Lx.Tk} (h : l[k]? = some t) (h' : l'[k]? = some t') (hne : (t.kind == t'.kind && t.text == t'.text) = false) : Lx.same l l' = false := by
  unfold Lx.same
  refine decide_eq_false (fun e => ?_)
  have := congrArg (fun x => x[k]?) e
  simp only [List.getElem?_map, h, h', Option.map_some, Option.some.injEq, Lx.Tk.key, Prod.mk.injEq] at this
  simp [this.1, this.2] at hne
theorem same_step {l l' : List Lx.Tk} {k : Nat} {t t' : Lx.Tk} (h : l[k]? = some t) (h' : l'[k]? = some t') (he : (t.kind == t'.kind && t.text == t'.text) = true)
    (hk : (l.take k).map Lx.Tk.key = (l'.take k).map Lx.Tk.key) : (l.take (k + 1)).map Lx.Tk.key = (l'.take (k + 1)).map Lx.Tk.key := by
  rw [List.take_add_one, List.take_add_one, List.map_append, List.map_append, hk, h, h']
  simp only [Bool.and_eq_true, beq_iff_eq] at he
  simp [Lx.Tk.key, he.1, he.2]


def Lx.Tk.right (t : Lx.Tk) : Bool := Lx.right t.kind t.text t.line t.col
/-- What Check answers. -/
def Lx.check (l : List Lx.Tk) : Nat := if 6000 < l.length then 2 else if (l.takeWhile Tk.right).length < l.length then 13 else 0


/-- Whether a dot may stand at an index of a list. -/
def Lx.dotMay (l : List Lx.Tk) (i : Nat) : Bool :=
  if i = 0 ∨ i + 1 = l.length then false else
  match l[i - 1]?, l[i + 1]? with
  | some a, some b => a.kind == 1 && joined ((spell b.kind b.text).headD 0)
  | _, _ => false


/-- How many at the ends of two lists are the same, moved. -/
def Lx.pairSame (moved : Int) (x : Lx.Sp × Lx.Sp) : Bool := (((x.1.kind : Int) == (x.2.kind : Int)) && (x.1.text == x.2.text)) && ((x.1.frm : Int) + moved == (x.2.frm : Int))
def Lx.sameEnd (a b : List Lx.Sp) (moved : Int) : Nat := ((a.reverse.zip b.reverse).takeWhile (pairSame moved)).length

theorem zip_at {a b : List Lx.Sp} {k ka kb : Nat} {x y : Lx.Sp} (h1 : a.length = ka + k + 1) (h2 : b.length = kb + k + 1) (hx : a[ka]? = some x) (hy : b[kb]? = some y) : (a.reverse.zip b.reverse)[k]? = some (x, y) := by
  rw [List.getElem?_zip_eq_some]
  constructor
  · rw [List.getElem?_reverse (by omega), show a.length - 1 - k = ka by omega]; exact hx
  · rw [List.getElem?_reverse (by omega), show b.length - 1 - k = kb by omega]; exact hy

theorem measure_code (s : List UInt8) (ix lk lt e : Nat) (h : Lx.measure s ix lk lt = .bad e) : 10 ≤ e := by
  unfold Lx.measure Lx.word Lx.number Lx.quoted Lx.operation at h
  dsimp only at h
  repeat' split at h
  all_goals (first | cases h | skip)
  all_goals (first | omega | decide)
theorem next_code (s : List UInt8) (ix : Nat) (last : Lx.Sp) (e : Nat) (h : Lx.next s ix last = .error e) : 10 ≤ e := by
  unfold Lx.next at h
  split at h
  · rename_i e' he
    injection h with h; subst h
    exact measure_code _ _ _ _ _ he
  · cases h
theorem spansN_code (s : List UInt8) : ∀ (f ix : Nat) (last : Lx.Sp) (c i : Nat), (Lx.spansN s f ix last).2 = some (c, i) → 10 ≤ c
  | 0, _, _, _, _, h => by cases h
  | f + 1, ix, last, c, i, h => by
    rw [spansN_succ] at h
    split at h
    · injection h with h; injection h with h1 h2; omega
    · unfold tailN at h
      split at h
      · cases h
      · split at h
        · rename_i e he
          injection h with h; injection h with h1 h2; subst h1
          exact next_code _ _ _ _ he
        · exact spansN_code s f _ _ _ _ h


theorem divide_len (s : List UInt8) (h6 : s.length ≤ 20000 → (Lx.spans s).1.length ≤ 6000) : (Lx.divide s).1.length ≤ 6000 := by
  unfold Lx.divide
  split
  · simp
  · rename_i hs
    have h6 := h6 (by omega)
    split
    · rename_i l h; rw [h] at h6; exact h6
    · simp


theorem twk_stop {α : Type} (p : α → Bool) : ∀ (l : List α) (k : Nat) (t : α), l[k]? = some t → (l.take k).all p = true → p t = false → (l.takeWhile p).length = k
  | [], k, t, h, _, _ => by simp at h
  | a :: l, 0, t, h, _, hp => by simp at h; subst h; simp [List.takeWhile, hp]
  | a :: l, k + 1, t, h, ha, hp => by
    simp only [List.take_succ_cons, List.all_cons, Bool.and_eq_true] at ha
    have := twk_stop p l k t (by simpa using h) ha.2 hp
    simp [List.takeWhile, ha.1, this]
theorem twk_all {α : Type} (p : α → Bool) : ∀ (l : List α), l.all p = true → (l.takeWhile p).length = l.length
  | [], _ => rfl
  | a :: l, h => by
    simp only [List.all_cons, Bool.and_eq_true] at h
    simp [List.takeWhile, h.1, twk_all p l h.2]
theorem twk_step {α : Type} (p : α → Bool) (l : List α) (k : Nat) (t : α) (h : l[k]? = some t) (ha : (l.take k).all p = true) (hp : p t = true) : (l.take (k + 1)).all p = true := by
  rw [List.take_add_one, List.all_append, ha, h]; simp [hp]


/-- What At answers. -/
def Lx.at_ (s : List UInt8) (index : Int) : Nat × Nat × Nat :=
  if index < 0 ∨ (s.length : Int) < index then (0, 0, 1) else ((placeAt s index.toNat).ln + 1, index.toNat - (placeAt s index.toNat).bg + 1, 0)


/-- What Token answers. -/
def Lx.tokenOf (R : List Lx.Sp × Nat × Nat) (n : Nat) (index : Int) : Nat × Nat × Nat :=
  if R.2.1 ≠ 0 then (0, R.2.1, R.2.2)
  else if index < 0 ∨ (n : Int) ≤ index then (0, 1, 0)
  else if (R.1.takeWhile fun t => decide ((t.to : Int) ≤ index)).length = R.1.length then (0, 3, 0)
  else ((R.1.takeWhile fun t => decide ((t.to : Int) ≤ index)).length, 0, 0)


end Go.Proofs.YtcjcbhdildcceaaGreatDoor
