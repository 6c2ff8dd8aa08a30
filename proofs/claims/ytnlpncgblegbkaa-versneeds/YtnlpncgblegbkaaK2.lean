/-
  Layer 12: what the entries of bytes need, one behind the other. No condition.
-/
import Derived.Test.YtnlpncgblegbkaaK1
namespace Go.Proofs.Ytnlpncgblegbkaa
open Go.RowKit Go.Shelf
set_option linter.unusedVariables false

/-- So many entries, from a place on. -/
def ptsL (b : ByteArray) (m : Nat) : Nat → Nat → List Pt
  | 0, _ => []
  | k + 1, p => if p + m ≤ b.size then (p, b.extract p (p + m)) :: ptsL b m k (p + (num ((b.extract p (p + m)).extract (m - 4) m)).toNat) else [(p, ⟨#[]⟩)]
theorem entL_pl (b : ByteArray) (m : Nat) (hm : 4 ≤ m) (hb : b.size ≤ 140737488351232) : ∀ (k p : Nat) (hp : p < 1125899906842624), (entL b m hm hb k p hp).map Ent.pl = ptsL b m k p
  | 0, _, _ => rfl
  | k + 1, p, hp => by
    by_cases h : p + m ≤ b.size
    · rw [entL_yes b m hm hb k p hp h, List.map_cons, entL_pl b m hm hb k, ptsL, if_pos h]
      rfl
    · rw [entL_no b m hm hb k p hp h, ptsL, if_neg h]
      rfl

/-- What comes of entries: versions, or what is wrong and where. -/
abbrev Rn := Except (Int × Nat) (List Nd)
def Rn.acc : Rn → List Nd
  | .ok l => l
  | .error (_, _) => []
def Rn.good : Rn → Prop
  | .ok l => l.length ≤ 64
  | .error (_, _) => False
def stepI (names file : ByteArray) (acc : List Nd) (x : Pt) : Rn :=
  if (needF names file x.2).2 ≠ 0 then .error ((needF names file x.2).2, x.1)
  else if acc.length = 64 then .error (6, x.1) else .ok (acc ++ [(needF names file x.2).1])
def runI (names file : ByteArray) : List Nd → List Pt → Rn
  | acc, [] => .ok acc
  | acc, x :: l => match stepI names file acc x with
    | .ok a => runI names file a l
    | .error (c, p) => .error (c, p)
def stepO (b names : ByteArray) (acc : List Nd) (x : Pt) : Rn :=
  if (fileF b names x.2 x.1).2 ≠ 0 then .error ((fileF b names x.2 x.1).2, x.1)
  else runI names (fileF b names x.2 x.1).1 acc (ptsL b 16 (num (x.2.extract 2 4)).toNat (x.1 + (num (x.2.extract 8 12)).toNat))
def runO (b names : ByteArray) : List Nd → List Pt → Rn
  | acc, [] => .ok acc
  | acc, x :: l => match stepO b names acc x with
    | .ok a => runO b names a l
    | .error (c, p) => .error (c, p)

theorem runI_snoc (names file : ByteArray) (x : Pt) : ∀ (l : List Pt) (acc : List Nd), runI names file acc (l ++ [x]) = (match runI names file acc l with | .ok a => stepI names file a x | .error (c, p) => .error (c, p))
  | [], acc => by
    show (match stepI names file acc x with | .ok a => Except.ok a | .error (c, p) => .error (c, p)) = stepI names file acc x
    cases stepI names file acc x <;> rfl
  | y :: l, acc => by
    show (match stepI names file acc y with | .ok a => runI names file a (l ++ [x]) | .error (c, p) => .error (c, p)) = (match (match stepI names file acc y with | .ok a => runI names file a l | .error (c, p) => .error (c, p)) with | .ok a => stepI names file a x | .error (c, p) => .error (c, p))
    cases stepI names file acc y with
    | ok a => exact runI_snoc names file x l a
    | error cp => obtain ⟨c, p⟩ := cp; rfl
theorem runI_more (names file : ByteArray) (m : List Pt) (c : Int) (p : Nat) : ∀ (l : List Pt) (acc : List Nd), runI names file acc l = .error (c, p) → runI names file acc (l ++ m) = .error (c, p)
  | [], acc, h => by cases h
  | y :: l, acc, h => by
    show (match stepI names file acc y with | .ok a => runI names file a (l ++ m) | .error (c, p) => .error (c, p)) = _
    change (match stepI names file acc y with | .ok a => runI names file a l | .error (c, p) => .error (c, p)) = _ at h
    cases hs : stepI names file acc y with
    | ok a => rw [hs] at h; exact runI_more names file m c p l a h
    | error cp => obtain ⟨c', p'⟩ := cp; rw [hs] at h; exact h
theorem runO_snoc (b names : ByteArray) (x : Pt) : ∀ (l : List Pt) (acc : List Nd), runO b names acc (l ++ [x]) = (match runO b names acc l with | .ok a => stepO b names a x | .error (c, p) => .error (c, p))
  | [], acc => by
    show (match stepO b names acc x with | .ok a => Except.ok a | .error (c, p) => .error (c, p)) = stepO b names acc x
    cases stepO b names acc x <;> rfl
  | y :: l, acc => by
    show (match stepO b names acc y with | .ok a => runO b names a (l ++ [x]) | .error (c, p) => .error (c, p)) = (match (match stepO b names acc y with | .ok a => runO b names a l | .error (c, p) => .error (c, p)) with | .ok a => stepO b names a x | .error (c, p) => .error (c, p))
    cases stepO b names acc y with
    | ok a => exact runO_snoc b names x l a
    | error cp => obtain ⟨c, p⟩ := cp; rfl
theorem runO_more (b names : ByteArray) (m : List Pt) (c : Int) (p : Nat) : ∀ (l : List Pt) (acc : List Nd), runO b names acc l = .error (c, p) → runO b names acc (l ++ m) = .error (c, p)
  | [], acc, h => by cases h
  | y :: l, acc, h => by
    show (match stepO b names acc y with | .ok a => runO b names a (l ++ m) | .error (c, p) => .error (c, p)) = _
    change (match stepO b names acc y with | .ok a => runO b names a l | .error (c, p) => .error (c, p)) = _ at h
    cases hs : stepO b names acc y with
    | ok a => rw [hs] at h; exact runO_more b names m c p l a h
    | error cp => obtain ⟨c', p'⟩ := cp; rw [hs] at h; exact h

def ndC (l : List Nd) : List Value := l.flatMap Nd.cells
theorem ndC_snoc (l : List Nd) (x : Nd) : ndC (l ++ [x]) = ndC l ++ x.cells := by simp [ndC]
end Go.Proofs.Ytnlpncgblegbkaa
