/-
  Layer 6: the pieces of an Imm, and the Imm itself, out of a word and into it. No condition.
-/
import Derived.Test.YtmfmakkiefgogaaDoorIA1
import Derived.Below
import Derived.Shelf.SlSortCmp.QuietGrown
import Derived.Shelf.SlSorted.Search
namespace Go.Proofs.YtmfmakkiefgogaaDoor
open Go.RowKit
set_option linter.unusedVariables false

theorem mixedTry : Tryd.prog.follows Departure.mixedOrders = true := by kernel_rfl

/-- Blocks were laid behind, and orders drawn. -/
def Gr (W w' : World) : Prop := ∃ q os, w' = Go.Sort.grow (W.drewN q) os
theorem Gr.below {W w' : World} (h : Gr W w') : Below W.heap.size W w' := by
  obtain ⟨q, os, rfl⟩ := h
  exact Go.Proofs.below_grown_sl W.heap.size W q os (Nat.le_refl _)
theorem gr1 {W w' : World} {o : Obj} (h : w' = W.alloc o) : Gr W w' := ⟨0, #[o], by rw [h]; exact Go.Sort.alloc_eq_grow W o⟩
theorem gr0 (W : World) : Gr W W := ⟨0, #[], by rw [Go.Sort.grow_empty]; rfl⟩
theorem Gr.trans {A B C : World} (h : Gr A B) (k : Gr B C) : Gr A C := by
  obtain ⟨q, os, rfl⟩ := h
  obtain ⟨q', os', rfl⟩ := k
  exact ⟨q + q', os ++ os', by show Go.Sort.grow (Go.Sort.grow ((A.drewN q).drewN q') os) os' = _; rw [Go.Sort.grow_grow, World.drewN_drewN]⟩
theorem Gr.call {f : FuncId} {args : Array Value} {w : World} {n : Nat} {os : Array Obj} {v : Value} (h : ∀ W, Calls Tryd.prog f args W fun e w' => e = .returned v ∧ Gr W w') :
    Calls Tryd.prog f args (Go.Sort.grow (w.drewN n) os) fun e w' => e = .returned v ∧ ∃ q os', w' = Go.Sort.grow ((Go.Sort.grow (w.drewN n) os).drewN q) os' := h _
theorem bt {a b c : World} (h : Below a.heap.size a b) (k : Below b.heap.size b c) : Below a.heap.size a c := h.trans (k.mono h.size)

set_option maxHeartbeats 400000 in
theorem mask_any (c i j : Nat) (hc : c ≤ 31) (w : World) :
    Calls Tryd.prog 58 #[.agg #[.int .i64 c, .int .i64 i, .int .i64 j]] w fun e w' => e = .returned (.int .u32 ((2 ^ c - 1 : Nat) : Int)) ∧ Gr w w' := by
  go_enter Tryd.func58, Tryd.ntmps58
  go_wp2
  go_ret
  refine ⟨ret_int ?_, gr1 rfl⟩
  rw [← mask_is c hc]
  try simp

/-- Where the pieces lie. -/
def PiecesAt (W : World) (B : Nat) (ps : List Piece) : Prop := ∀ k p, ps[k]? = some p → W.cell? ⟨B, k * 3, none⟩ = some (.int .i64 p.count) ∧ W.cell? ⟨B, k * 3 + 1, none⟩ = some (.int .i64 p.inWord) ∧ W.cell? ⟨B, k * 3 + 2, none⟩ = some (.int .i64 p.inImm)

set_option maxHeartbeats 800000 in
theorem pieces_any (c : Int) (w : World) :
    Calls Tryd.prog 57 #[.int .u8 c] w fun e w' => (piecesOf c = [] ∧ e = .returned (.slice none 0 0) ∧ w' = w) ∨ (∃ B, e = .returned (.slice (some ⟨B, 0, none⟩) (piecesOf c).length (piecesOf c).length) ∧ PiecesAt w' B (piecesOf c) ∧ B < w'.heap.size ∧ Gr w w') := by
  have hcase : c = 85 ∨ c = 74 ∨ c = 73 ∨ c = 66 ∨ c = 83 ∨ c = 72 ∨ c = 75 ∨ (c ≠ 85 ∧ c ≠ 74 ∧ c ≠ 73 ∧ c ≠ 66 ∧ c ≠ 83 ∧ c ≠ 72 ∧ c ≠ 75) := by omega
  rcases hcase with rfl | rfl | rfl | rfl | rfl | rfl | rfl | ⟨h1, h2, h3, h4, h5, h6, h7⟩
  all_goals
    try (have H : Hid (piecesOf c = []) := (by show _ = _; unfold piecesOf; simp [h1, h2, h3, h4, h5, h6, h7]))
    go_enter Tryd.func57, Tryd.ntmps57
    go_wp2
    go_ret
    first
      | exact .inl ⟨H.out, rfl, rfl⟩
      | (refine .inr ⟨w.heap.size, rfl, ?_, by simp, gr1 rfl⟩
         intro k p hk
         match k, hk with
         | 0, hk => (simp [piecesOf] at hk; subst hk; simp [go_sem])
         | 1, hk => (simp [piecesOf] at hk; try (subst hk; simp [go_sem]))
         | 2, hk => (simp [piecesOf] at hk; try (subst hk; simp [go_sem]))
         | 3, hk => (simp [piecesOf] at hk; try (subst hk; simp [go_sem]))
         | k + 4, hk => simp [piecesOf] at hk)
end Go.Proofs.YtmfmakkiefgogaaDoor
