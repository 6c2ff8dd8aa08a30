/-
  Layer 13: a table in memory; a name's bucket.
-/
import Derived.Test.YtffmkkfacemchaaE1
import Derived.Test.YtffmkkfacemchaaH1
import Derived.Deep.QuietTactic
import Derived.BigQuiet
namespace Go.Proofs.Ytffmkkfacemchaa
open Go.RowKit
set_option linter.unusedVariables false

/-- A row of numbers of four bytes: cells that lie in w. -/
def RowU (w : World) (b o n : Nat) (f : Nat → Nat) : Prop := ∀ j, j < n → w.cell? ⟨b, o + j, none⟩ = some (.int .u32 (f j))
theorem RowU.next {w W : World} {b o n m : Nat} {f : Nat → Nat} (h : RowU w b o n f) (hb : Below m w W) (hm : b < m) : RowU W b o n f := fun j hj => (hb.cell (p := ⟨b, o + j, none⟩) hm).trans (h j hj)
theorem RowU.same {w W : World} {b o n : Nat} {f : Nat → Nat} (h : RowU w b o n f) (hb : W.heap[b]? = w.heap[b]?) : RowU W b o n f := fun j hj => (World.cell?_of_block (a := ⟨b, o + j, none⟩) hb).trans (h j hj)
/-- A slice of them as a value: where none are, the address is whatever it is. -/
abbrev slv (a : Option Addr) (n c : Nat) : Value := .slice a n c
abbrev tbv (x y : Value) : Value := .agg #[x, y]
/-- The hash of a name. -/
def hs (s : ByteArray) : Nat := hashL s.data.toList
theorem hs_lt (s : ByteArray) : hs s < 268435456 := hashL_lt _

set_option maxRecDepth 100000 in
set_option maxHeartbeats 2000000 in
theorem bucket_any (a0 : Option Addr) (n0 c0 : Nat) (y : Value) (s : ByteArray) (w : World) (hm : s.size ≤ 9223372036854775807) (h0 : 0 < n0) (hn : n0 ≤ 9223372036854775807) :
    Calls Try.prog 46 #[tbv (slv a0 n0 c0) y, .string s] w fun e w' => e = .returned (.int .u64 ((hs s % n0 : Nat) : Int)) ∧ ∃ q, w' = (w.alloc (.cells #[slv a0 n0 c0, y] 25)).drewN q := by
  have HQ : ∀ W, Calls Try.prog 65 #[.string s] W fun e w' => e = .returned (.int .u32 (hs s : Int)) ∧ w' = W := fun W => hash_any s W hm
  have hl := hs_lt s
  have e1 : IntKind.u64.wrap ((hs s : Int)) = (hs s : Int) := by rw [IntKind.wrap_u64]; omega
  have e2 : IntKind.u64.wrap ((n0 : Int)) = (n0 : Int) := by rw [IntKind.wrap_u64]; omega
  have hz : ¬ ((n0 : Int) = 0) := by omega
  have e3 : ((hs s : Int)).tmod (n0 : Int) = ((hs s % n0 : Nat) : Int) := by rw [Int.tmod_eq_emod_of_nonneg (by omega)]; push_cast; rfl
  have e4 : ((hs s : Int)) % (n0 : Int) = ((hs s % n0 : Nat) : Int) := by push_cast; rfl
  have hr : hs s % n0 < 268435456 := Nat.lt_of_le_of_lt (Nat.mod_le _ _) hl
  generalize hs s % n0 = r at *
  generalize hs s = h at *
  go_enter Try.func46, Try.ntmps46
  go_wp2
  go_quiet (first | (go_at_call 65; refine Calls.quiet_of_same (HQ _)))
  go_wp2
  go_ret
  exact ⟨rfl, nq, rfl⟩
end Go.Proofs.Ytffmkkfacemchaa
