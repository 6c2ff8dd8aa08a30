/-
  Worlds that grow; the seven cells of a symbol.
-/
import Derived.Test.YtackjpmpkklgiaaS6
import Derived.Shelf.SlSortCmp.QuietGrown
namespace Go.Proofs.Ytackjpmpkklgiaa
open Go.RowKit
set_option linter.unusedVariables false

/-- Blocks were laid behind, and orders drawn. -/
def Gr (W w' : World) : Prop := ∃ q os, w' = Go.Sort.grow (W.drewN q) os
theorem Gr.below {W w' : World} (h : Gr W w') : Below W.heap.size W w' := by
  obtain ⟨q, os, rfl⟩ := h
  refine ⟨rfl, rfl, rfl, ?_, fun k hk => ?_⟩
  · show W.heap.size ≤ (W.heap ++ os).size
    simp
  · show (W.heap ++ os)[k]? = W.heap[k]?
    rw [Array.getElem?_append_left hk]
theorem mixedTry : Try.prog.follows Departure.mixedOrders = true := by kernel_rfl
theorem gr1 {W w' : World} {o : Obj} (h : w' = W.alloc o) : Gr W w' := ⟨0, #[o], by rw [h]; exact Go.Sort.alloc_eq_grow W o⟩
theorem Gr.call {f : FuncId} {args : Array Value} {w : World} {n : Nat} {os : Array Obj} {v : Value} (h : ∀ W, Calls Try.prog f args W fun e w' => e = .returned v ∧ Gr W w') :
    Calls Try.prog f args (Go.Sort.grow (w.drewN n) os) fun e w' => e = .returned v ∧ ∃ q os', w' = Go.Sort.grow ((Go.Sort.grow (w.drewN n) os).drewN q) os' := h _

theorem exp_gr (s : Sy) (b : Bool) (h : s.exported = b) (W : World) : Calls Try.prog 13 #[s.val] W fun e w' => e = .returned (.bool b) ∧ Gr W w' :=
  (exported_any s W).mono fun _ _ h' => ⟨by rw [h'.1, h], gr1 h'.2⟩
theorem own_gr (s : Sy) (b : Bool) (h : s.own = b) (W : World) : Calls Try.prog 14 #[s.val] W fun e w' => e = .returned (.bool b) ∧ Gr W w' :=
  (own_any s W).mono fun _ _ h' => ⟨by rw [h'.1, h], gr1 h'.2⟩

/-- The seven cells of a symbol's block. -/
def SyAt (W : World) (B : Nat) (s : Sy) : Prop :=
  W.cell? ⟨B, 0, none⟩ = some (.string s.name) ∧ W.cell? ⟨B, 1, none⟩ = some (.int .i64 s.bind) ∧ W.cell? ⟨B, 2, none⟩ = some (.int .i64 s.kind) ∧ W.cell? ⟨B, 3, none⟩ = some (.int .i64 s.vis) ∧ W.cell? ⟨B, 4, none⟩ = some (.bool s.dfd) ∧ W.cell? ⟨B, 5, none⟩ = some (.int .u64 s.value) ∧ W.cell? ⟨B, 6, none⟩ = some (.int .u64 s.size)
theorem SyAt.grown {W : World} {B : Nat} {s : Sy} (h : SyAt W B s) (n : Nat) (os : Array Obj) : SyAt (Go.Sort.grow (W.drewN n) os) B s := by
  obtain ⟨h0, h1, h2, h3, h4, h5, h6⟩ := h
  exact ⟨Go.cell_grown (World.block_lt_of_cell? _ _ h0) h0 n os, Go.cell_grown (World.block_lt_of_cell? _ _ h1) h1 n os, Go.cell_grown (World.block_lt_of_cell? _ _ h2) h2 n os, Go.cell_grown (World.block_lt_of_cell? _ _ h3) h3 n os, Go.cell_grown (World.block_lt_of_cell? _ _ h4) h4 n os, Go.cell_grown (World.block_lt_of_cell? _ _ h5) h5 n os, Go.cell_grown (World.block_lt_of_cell? _ _ h6) h6 n os⟩
theorem SyAt.alloc {W : World} {B : Nat} {s : Sy} (h : SyAt W B s) (o : Obj) : SyAt (W.alloc o) B s := by
  have k : ∀ {a : Addr} {v}, W.cell? a = some v → (W.alloc o).cell? a = some v := fun hc => (((Below.refl W.heap.size W).alloc (Nat.le_refl _) o).cell (World.block_lt_of_cell? _ _ hc)).trans hc
  obtain ⟨h0, h1, h2, h3, h4, h5, h6⟩ := h
  exact ⟨k h0, k h1, k h2, k h3, k h4, k h5, k h6⟩
theorem SyAt.new (W : World) (s : Sy) : SyAt (W.alloc s.box) W.heap.size s := by
  refine ⟨?_, ?_, ?_, ?_, ?_, ?_, ?_⟩ <;> simp [go_sem]

end Go.Proofs.Ytackjpmpkklgiaa
