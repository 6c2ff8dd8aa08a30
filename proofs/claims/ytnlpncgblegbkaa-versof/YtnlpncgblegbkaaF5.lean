/-
  Layer 12, VersOf: the table that the statement fills: its block, its rows, by their places.
-/
import Derived.Test.YtnlpncgblegbkaaF4
import Derived.Test.YtnlpncgblegbkaaF2
import Derived.Test.YtnlpncgblegbkaaH2
import Derived.Deep.RegionHeldLaw
import Derived.Deep.AppendLies
import Derived.Deep.DeepCutAuto
import Derived.BigQuiet
namespace Go.Proofs.Ytnlpncgblegbkaa
open Go.RowKit
set_option linter.unusedVariables false

theorem Try.info48' : (Try.prog.info? 48).map (fun i => (i.zero, i.size, i.bytes)) = some (some Nd.zero.val, 4, 48) := by kernel_rfl

/-- A block of three cells. -/
def Blk3 (W : World) (B : Nat) (a b c : Value) : Prop := W.heap[B]? = some (.cells #[a, b, c] 52 (0, 0))
theorem Blk3.lt {W : World} {B : Nat} {a b c : Value} (h : Blk3 W B a b c) : B < W.heap.size := (Array.getElem?_eq_some_iff.1 h).1
theorem Blk3.c0 {W : World} {B : Nat} {a b c : Value} (h : Blk3 W B a b c) : W.cell? ⟨B, 0, none⟩ = some a := by simp [World.cell?, show W.heap[B]? = _ from h]
theorem Blk3.c1 {W : World} {B : Nat} {a b c : Value} (h : Blk3 W B a b c) : W.cell? ⟨B, 1, none⟩ = some b := by simp [World.cell?, show W.heap[B]? = _ from h]
theorem Blk3.c2 {W : World} {B : Nat} {a b c : Value} (h : Blk3 W B a b c) : W.cell? ⟨B, 2, none⟩ = some c := by simp [World.cell?, show W.heap[B]? = _ from h]
theorem Blk3.fz {W : World} {B : Nat} {a b c : Value} (h : Blk3 W B a b c) (i : Nat) : W.frozen? ⟨B, i, none⟩ = false := by simp [World.frozen?, show W.heap[B]? = _ from h]
theorem Blk3.kept {W W' : World} {row : Option Nat} {B : Nat} {a b c : Value} (h : Blk3 W B a b c) (hg : W.grownBy W' row) (hne : some B ≠ row) : Blk3 W' B a b c := (hg.block B h.lt hne).trans h
theorem Blk3.alloc {W : World} {B : Nat} {a b c : Value} (h : Blk3 W B a b c) (o : Obj) : Blk3 (W.alloc o) B a b c := h.kept (World.grownBy_alloc W o none) (by simp)
theorem Blk3.below {W W' : World} {n B : Nat} {a b c : Value} (h : Blk3 W B a b c) (hb : Below n W W') (hn : B < n) : Blk3 W' B a b c := (hb.block B hn).trans h
theorem Blk3.set0 {W : World} {B : Nat} {a b c : Value} (h : Blk3 W B a b c) (v : Value) : Blk3 (W.setCell ⟨B, 0, none⟩ v) B v b c := by
  obtain ⟨hlt, hk⟩ := Array.getElem?_eq_some_iff.1 h
  show (W.heap.modify B _)[B]? = _
  rw [Array.getElem?_eq_getElem (by rw [Array.size_modify]; exact hlt), Array.getElem_modify_self, hk]
  rfl
theorem Blk3.set1 {W : World} {B : Nat} {a b c : Value} (h : Blk3 W B a b c) (v : Value) : Blk3 (W.setCell ⟨B, 1, none⟩ v) B a v c := by
  obtain ⟨hlt, hk⟩ := Array.getElem?_eq_some_iff.1 h
  show (W.heap.modify B _)[B]? = _
  rw [Array.getElem?_eq_getElem (by rw [Array.size_modify]; exact hlt), Array.getElem_modify_self, hk]
  rfl
theorem Blk3.set2 {W : World} {B : Nat} {a b c : Value} (h : Blk3 W B a b c) (v : Value) : Blk3 (W.setCell ⟨B, 2, none⟩ v) B a b v := by
  obtain ⟨hlt, hk⟩ := Array.getElem?_eq_some_iff.1 h
  show (W.heap.modify B _)[B]? = _
  rw [Array.getElem?_eq_getElem (by rw [Array.size_modify]; exact hlt), Array.getElem_modify_self, hk]
  rfl
/-- Two rows of elements of two types lie apart. -/
theorem rows_apart {W : World} {b1 b2 s1 s2 n1 n2 : Nat} {e1 e2 : TypeId} {v1 v2 : Value} {x1 x2 : List Value} (h1 : W.ownsRow b1 e1 s1 v1 n1 x1) (h2 : W.ownsRow b2 e2 s2 v2 n2 x2) (hne : e1 ≠ e2) : v1.ownBlock = none ∨ v1.ownBlock ≠ v2.ownBlock := by
  rcases h1.2 with ⟨rfl, _⟩ | ⟨g, cap, cur, rfl, _, hg1, _⟩
  · exact .inl rfl
  · right
    rcases h2.2 with ⟨rfl, _⟩ | ⟨g2, cap2, cur2, rfl, _, hg2, _⟩
    · simp [Value.ownBlock]
    · intro he
      obtain rfl : g = g2 := by simpa [Value.ownBlock] using he
      rw [hg1] at hg2
      simp at hg2
      exact hne hg2.2
theorem own_ge {W : World} {base n size : Nat} {e : TypeId} {v : Value} {xs : List Value} (h : W.ownsRow base e size v n xs) : ∀ q, v.ownBlock = some q → base ≤ q := by
  intro q hq
  rcases h.2 with ⟨rfl, h1⟩ | ⟨g, cap, cur, rfl, hb, _⟩
  · cases hq
  · cases hq; exact hb
theorem own_ne {W : World} {base n size : Nat} {e : TypeId} {v : Value} {xs : List Value} (h : W.ownsRow base e size v n xs) {B : Nat} (hB : B < base) : some B ≠ v.ownBlock := fun he => by
  have := own_ge h B he.symm
  omega

/-- The name of the k-th one. -/
def nmD (p : UInt8) (k : Nat) : ByteArray := ⟨#[p, UInt8.ofNat (97 + k)]⟩
def DL (z : Nat → Int) (k : Nat) : List Df := (List.range k).map fun j => (z j, nmD 100 j)
def NL (z : Nat → Int) (k : Nat) : List Nd := (List.range k).map fun j => ⟨z j, ⟨#[102]⟩, nmD 110 j, false⟩
def dfCs (l : List Df) : List Value := l.flatMap dfC
theorem DL_snoc (z : Nat → Int) (k : Nat) : dfCs (DL z (k + 1)) = dfCs (DL z k) ++ [.int .i64 (z k), .string (nmD 100 k)] := by simp [dfCs, DL, List.range_succ, dfC]
theorem NL_snoc (z : Nat → Int) (k : Nat) : (NL z (k + 1)).flatMap Nd.cells = (NL z k).flatMap Nd.cells ++ [.int .i64 (z k), .string ⟨#[102]⟩, .string (nmD 110 k), .bool false] := by simp [NL, List.range_succ, Nd.cells]

theorem conv1 (k : Nat) (hk : k < 20) (B : Nat) (W : World) (h0 : W.cell? ⟨B, 0, none⟩ = some (.int .u8 (97 + (k : Int)))) :
    (convert 53 9 (.slice (some ⟨B, 0, none⟩) 1 1)).run Try.prog W = .ok (.string ⟨#[UInt8.ofNat (97 + k)]⟩) W := by
  have := run_convert_bytes_back (P := Try.prog) W 53 9 5 ⟨B, 0, none⟩ 1 [UInt8.ofNat (97 + k)] Try.underlying53 Try.underlying5 Try.underlying9 (fun j hj => by
    match j, hj with
    | 0, _ =>
      have e : (⟨B, 0, none⟩ : Addr).add 0 = ⟨B, 0, none⟩ := by simp [Addr.add]
      rw [e, h0]
      simp
      omega
    | j + 1, h => exact absurd h (by simp))
  exact this
end Go.Proofs.Ytnlpncgblegbkaa
