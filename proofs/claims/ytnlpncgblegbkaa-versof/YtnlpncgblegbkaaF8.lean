/-
  Layer 12, VersOf: what its loops keep.
-/
import Derived.Test.YtnlpncgblegbkaaF7
import Derived.Test.YtnlpncgblegbkaaE2
import Derived.Laws.Concat
import Derived.Deep.RegionLaw
import Derived.Deep.CutBlock
namespace Go.Proofs.Ytnlpncgblegbkaa
open Go.RowKit
set_option linter.unusedVariables false

theorem nmD_app (p : UInt8) (k : Nat) : nmD p k = ⟨#[p]⟩ ++ ⟨#[UInt8.ofNat (97 + k)]⟩ := (ByteArray.mk_append_mk [p] [UInt8.ofNat (97 + k)]).symm
theorem tt1 (k : Nat) (hk : k < 20) : IntKind.u8.wrap (IntKind.i64.wrap (97 + (k : Int))) = 97 + (k : Int) := by rw [IntKind.wrap_i64, IntKind.wrap_u8]; omega
theorem s3_alloc {W : World} {p q : Addr} {u v : Value} (o : Obj) (h : W.cell? p = some u ∧ W.frozen? p = false ∧ W.cell? q = some v) : (W.alloc o).cell? p = some u ∧ (W.alloc o).frozen? p = false ∧ (W.alloc o).cell? q = some v :=
  have hp := World.block_lt_of_cell? _ _ h.1
  have hq := World.block_lt_of_cell? _ _ h.2.2
  have hb : Below W.heap.size W (W.alloc o) := (Below.refl _ W).alloc (Nat.le_refl _) o
  ⟨(hb.cell hp).trans h.1, (hb.frozen hp).trans h.2.1, (hb.cell hq).trans h.2.2⟩
theorem s3_drew {W : World} {p q : Addr} {u v : Value} (h : W.cell? p = some u ∧ W.frozen? p = false ∧ W.cell? q = some v) : W.drew.cell? p = some u ∧ W.drew.frozen? p = false ∧ W.drew.cell? q = some v := h
theorem s3_ad {W : World} {p q : Addr} {u v : Value} (o : Obj) (h : W.drew.cell? p = some u ∧ W.drew.frozen? p = false ∧ W.drew.cell? q = some v) : (W.alloc o).drew.cell? p = some u ∧ (W.alloc o).drew.frozen? p = false ∧ (W.alloc o).drew.cell? q = some v := s3_alloc (W := W) o h
theorem s3_init {W : World} {p q : Addr} {u v : Value} (h : W.cell? p = some u) (h1 : W.frozen? p = false) (h2 : W.cell? q = some v) : W.drew.cell? p = some u ∧ W.drew.frozen? p = false ∧ W.drew.cell? q = some v := ⟨h, h1, h2⟩
theorem s3_grown {W W' : World} {p q : Addr} {u v : Value} {row : Option Nat} (hg : W.grownBy W' row) (hp : some p.block ≠ row) (hq : some q.block ≠ row) (h : W.cell? p = some u ∧ W.frozen? p = false ∧ W.cell? q = some v) : W'.cell? p = some u ∧ W'.frozen? p = false ∧ W'.cell? q = some v :=
  have h1 := World.block_lt_of_cell? _ _ h.1
  have h2 := World.block_lt_of_cell? _ _ h.2.2
  ⟨(hg.cell_far _ h1 hp).trans h.1, (hg.frozen_far _ h1 hp).trans h.2.1, (hg.cell_far _ h2 hq).trans h.2.2⟩
theorem one_two (a : Int) (b : ByteArray) : ∀ u ∈ (#[Value.int .i64 a, .string b]).toList, u.oneCell' = true := by
  intro u hu
  simp at hu
  rcases hu with rfl | rfl <;> rfl
theorem news_2d (W : World) (o : Obj) (cs : Array Value) (t : TypeId) : ∀ j u, cs.toList[j]? = some u → ((W.alloc o).alloc (.cells cs t)).drew.cell? ((⟨W.heap.size + 1, 0, none⟩ : Addr).add j) = some u := fun j u hu =>
  World.news_of_block (w := ((W.alloc o).alloc (.cells cs t)).drew) (by have h := World.alloc_heap_new (W.alloc o) (.cells cs t); rw [World.size_alloc] at h; exact h) j u hu
theorem one_four (a : Int) (b c : ByteArray) (d : Bool) : ∀ u ∈ (#[Value.int .i64 a, .string b, .string c, .bool d]).toList, u.oneCell' = true := by
  intro u hu
  simp at hu
  rcases hu with rfl | rfl | rfl | rfl <;> rfl
/-- What the first loop keeps. -/
def J1 (w : World) (tb : Nat) (z : Nat → Int) (k : Nat) (wr : World) : Prop :=
  ∃ sv, Blk3 wr tb sv (.slice none 0 0) (.slice none 0 0) ∧ wr.ownsRow (tb + 1) 38 2 sv k (dfCs (DL z k)) ∧ Below w.heap.size w wr
/-- What the second loop keeps. -/
def J2 (w : World) (tb : Nat) (z y : Nat → Int) (K1 k : Nat) (wr : World) : Prop :=
  ∃ sd sv, Blk3 wr tb sd sv (.slice none 0 0) ∧ wr.ownsRow (tb + 1) 38 2 sd K1 (dfCs (DL z K1)) ∧ wr.ownsRow (tb + 1) 48 4 sv k ((NL y k).flatMap Nd.cells) ∧ Below w.heap.size w wr
theorem row_below {W W' : World} {base n size : Nat} {e : TypeId} {v : Value} {xs : List Value} (h : W.ownsRow base e size v n xs) (hb : Below W.heap.size W W') : W'.ownsRow base e size v n xs := by
  refine ⟨h.1, ?_⟩
  rcases h.2 with hn | ⟨g, cap, cur, rfl, hb1, hgg, rest⟩
  · exact .inl hn
  · exact .inr ⟨g, cap, cur, rfl, hb1, (hb.block g (Array.getElem?_eq_some_iff.1 hgg).1).trans hgg, rest⟩
theorem atB_nat (b : ByteArray) (N : Nat) (i : Int) : ∃ nn : Nat, atB (nums b N) i = (nn : Int) ∧ nn < 65536 := by
  unfold atB
  split
  · rename_i h
    have hk : i.toNat < (nums b N).length := by omega
    rw [getElem!_pos (nums b N) i.toNat hk]
    have hk2 : i.toNat < N := by rwa [nums_len] at hk
    have e : (nums b N)[i.toNat] = num (b.extract (i.toNat * 2) ((i.toNat + 1) * 2)) := by simp [nums, eachL]
    rw [e]
    have h1 := (num_bounds (b.extract (i.toNat * 2) ((i.toNat + 1) * 2))).1
    have h2 := num_lt2 (b.extract (i.toNat * 2) ((i.toNat + 1) * 2)) (by simp; omega)
    exact ⟨(num (b.extract (i.toNat * 2) ((i.toNat + 1) * 2))).toNat, by omega, h2⟩
  · exact ⟨1, rfl, by omega⟩
theorem sm64 (x : Int) (h0 : 0 ≤ x) (h1 : x ≤ 1000) : IntKind.i64.wrap x = x := by rw [IntKind.wrap_i64]; omega
theorem atB_in (b : ByteArray) (N m : Nat) (h : m < N) : atB (nums b N) (m : Int) = num (b.extract (2 * m) (2 * m + 2)) := by
  unfold atB
  have hk : m < (nums b N).length := by rw [nums_len]; exact h
  rw [if_pos ⟨by omega, by omega⟩, Int.toNat_natCast, getElem!_pos (nums b N) m hk]
  have e : (nums b N)[m] = num (b.extract (m * 2) ((m + 1) * 2)) := by simp [nums, eachL]
  rw [e, show m * 2 = 2 * m by omega, show (m + 1) * 2 = 2 * m + 2 by omega]
theorem atB_out (b : ByteArray) (N : Nat) (i : Int) (h : ¬ (0 ≤ i ∧ i < (N : Int))) : atB (nums b N) i = 1 := by
  unfold atB
  rw [nums_len, if_neg h]
/-- The table as it stands behind both. -/
def J3 [Inhabited Nd] (w : World) (tb : Nat) (z y : Nat → Int) (K1 K2 : Nat) (b : ByteArray) (N : Nat) (wr : World) : Prop :=
  ∃ a0 c0 a1 c1 a2 c2, Blk3 wr tb (.slice a0 K1 c0) (.slice a1 K2 c1) (.slice a2 N c2) ∧ SlD wr (.slice a0 K1 c0) (DL z K1) ∧ SlN wr (.slice a1 K2 c1) (NL y K2) ∧ SlI wr (.slice a2 N c2) (nums b N) ∧ Below w.heap.size w wr
theorem J3.below [Inhabited Nd] {w : World} {tb : Nat} {z y : Nat → Int} {K1 K2 : Nat} {b : ByteArray} {N : Nat} {wr W : World} (h : J3 w tb z y K1 K2 b N wr) (hb : Below wr.heap.size wr W) : J3 w tb z y K1 K2 b N W := by
  obtain ⟨a0, c0, a1, c1, a2, c2, h1, h2, h3, h4, h5⟩ := h
  exact ⟨a0, c0, a1, c1, a2, c2, h1.below hb h1.lt, h2.below hb, h3.below hb, by
    rcases h4 with h4 | ⟨b, off, c, e1, e2, e3⟩
    · exact .inl h4
    · exact .inr ⟨b, off, c, e1, Nat.lt_of_lt_of_le e2 hb.size, fun j hj => (hb.cell (p := ⟨b, off + j, none⟩) e2).trans (e3 j hj)⟩, h5.trans (hb.mono h5.size)⟩


/-- A block of a code, by its number. -/
def findB (n : Nat) : Code → Option Code
  | .seq a b => match findB n a with
    | some c => some c
    | none => findB n b
  | .cond _ a b => match findB n a with
    | some c => some c
    | none => findB n b
  | .block m c => if m = n then some (.block m c) else findB n c
  | .loop c => findB n c
  | .scope c => findB n c
  | _ => none

end Go.Proofs.Ytnlpncgblegbkaa
