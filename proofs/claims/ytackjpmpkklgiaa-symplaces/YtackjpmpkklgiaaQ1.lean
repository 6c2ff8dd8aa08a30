/-
  The statement SymReads: its walk.
-/
import Derived.Test.YtackjpmpkklgiaaG1
import Derived.Deep.DeepCutAuto
import Derived.Deep.QuietTactic
namespace Go.Proofs.Ytackjpmpkklgiaa
open Go.RowKit
set_option linter.unusedVariables false

/-- The seven cells of a symbol within a row. -/
def SyO (W : World) (g o : Nat) (s : Sy) : Prop :=
  W.cell? ⟨g, o, none⟩ = some (.string s.name) ∧ W.cell? ⟨g, o + 1, none⟩ = some (.int .i64 s.bind) ∧ W.cell? ⟨g, o + 2, none⟩ = some (.int .i64 s.kind) ∧ W.cell? ⟨g, o + 3, none⟩ = some (.int .i64 s.vis) ∧ W.cell? ⟨g, o + 4, none⟩ = some (.bool s.dfd) ∧ W.cell? ⟨g, o + 5, none⟩ = some (.int .u64 s.value) ∧ W.cell? ⟨g, o + 6, none⟩ = some (.int .u64 s.size)
theorem SyO.next {W W' : World} {g o : Nat} {s : Sy} (hb : Below W.heap.size W W') (h : SyO W g o s) : SyO W' g o s := by
  have k : ∀ {a : Addr} {v}, W.cell? a = some v → W'.cell? a = some v := fun hc => (hb.cell (World.block_lt_of_cell? _ _ hc)).trans hc
  obtain ⟨h0, h1, h2, h3, h4, h5, h6⟩ := h
  exact ⟨k h0, k h1, k h2, k h3, k h4, k h5, k h6⟩
theorem SyO.grown {W : World} {g o : Nat} {s : Sy} (h : SyO W g o s) (n : Nat) (os : Array Obj) : SyO (Go.Sort.grow (W.drewN n) os) g o s :=
  h.next (Gr.below ⟨n, os, rfl⟩)
theorem gr0 (W : World) : Gr W W := ⟨0, #[], by rw [Go.Sort.grow_empty]; rfl⟩
theorem Gr.trans {A B C : World} (h : Gr A B) (k : Gr B C) : Gr A C := by
  obtain ⟨q, os, rfl⟩ := h
  obtain ⟨q', os', rfl⟩ := k
  exact ⟨q + q', os ++ os', by show Go.Sort.grow (Go.Sort.grow ((A.drewN q).drewN q') os) os' = _; rw [Go.Sort.grow_grow, World.drewN_drewN]⟩

set_option maxHeartbeats 800000 in
theorem same_any (s : Sy) (w : World) : Calls Try.prog 12 #[s.val, s.val] w fun e w' => e = .returned (.bool true) ∧ Gr w w' := by
  obtain ⟨n, b, k, v, d, x, z⟩ := s
  go_enter Try.func12, Try.ntmps12
  go_wp2
  go_ret
  exact ⟨rfl, (gr1 rfl).trans (gr1 rfl)⟩

theorem flt_next2 {W W' : World} {B : Nat} {c a : Int} (hb : Below W.heap.size W W') (h0 : W.cell? ⟨B, 0, none⟩ = some (.int .i64 c)) (h1 : W.cell? ⟨B, 1, none⟩ = some (.int .u64 a)) : W'.cell? ⟨B, 0, none⟩ = some (.int .i64 c) ∧ W'.cell? ⟨B, 1, none⟩ = some (.int .u64 a) :=
  ⟨(hb.cell (World.block_lt_of_cell? W _ h0)).trans h0, (hb.cell (World.block_lt_of_cell? W _ h1)).trans h1⟩
theorem flt_new2 (W : World) (c a : Int) : (W.alloc (fbox c a)).cell? ⟨W.heap.size, 0, none⟩ = some (.int .i64 c) ∧ (W.alloc (fbox c a)).cell? ⟨W.heap.size, 1, none⟩ = some (.int .u64 a) := by
  constructor <;> simp [go_sem]

set_option maxRecDepth 100000 in
set_option maxHeartbeats 4000000 in
/-- Nothing is read, or something is wrong. -/
theorem reads_zero (b0 c B names : ByteArray) (cut c3 e a : Int) (w : World) (hs0 : b0.size ≤ 9223372036854775807) (hc : b0.extract 0 (min b0.size 7000) = c) (hcz : c.size ≤ 7000) (h3 : bits BinOp.and IntKind.i64 cut 3 = c3)
    (hB : (¬ 0 < c3 ∧ c = B) ∨ (0 < c3 ∧ c.extract 0 (c.size / 24 * 24) = B))
    (D : ∀ W, Calls Try.prog 10 #[.string B, .string names] W fun r w' => ∃ p k, r = .returned (.tuple #[.slice p 0 k, flt e a]) ∧ Below W.heap.size W w')
    (R : ∀ W, Calls Try.prog 11 #[.string B, .string names] W fun r w' => ∃ p k, r = .returned (.tuple #[.slice p 0 k, .int .i64 e, .int .u64 a]) ∧ Below W.heap.size W w') :
    Calls Try.prog 3 #[.string b0, .string names, .int .i64 cut] w fun e w' => e = .returned (.bool true) ∧ Below w.heap.size w w' := by
  go_enter Try.func3, Try.ntmps3
  go_upto_region 3 with (go_at_call 9; refine (speaks_any _).mono ?_; rintro r w1 ⟨rfl, hb1⟩)
  go_cut [0] (fun p wx => p = .string c ∧ wx = w1)
  case first =>
    by_cases hs : b0.size ≤ 7000
    all_goals
      first | rw [Nat.min_eq_left hs] at hc | rw [Nat.min_eq_right (by omega)] at hc
      go_wp2
      go_meet
      case rel => exact ⟨rfl, rfl⟩
  case rest =>
  obtain ⟨rfl, hw⟩ := hcut
  obtain rfl : w1 = wc := hw.symm
  clear hw
  go_upto_if 23 with fail
  go_cut [0] (fun p wx => p = .string B ∧ wx = w1)
  case first =>
    rcases hB with ⟨h0, hB⟩ | ⟨h0, hB⟩
    all_goals
      go_wp2
      go_meet
      case rel => exact ⟨by rw [← hB], rfl⟩
  case rest =>
  obtain ⟨rfl, hw⟩ := hcut
  obtain rfl : w1 = wc := hw.symm
  clear hw
  go_wp2_with (first
    | (go_at_call 10; refine (D _).mono ?_; rintro r w2 ⟨p1, k1, rfl, hb2⟩; have hx := flt_new2 w2 e a)
    | (go_at_call 11; refine (R _).mono ?_; rintro r w3 ⟨p2, k2, rfl, hb3⟩; obtain ⟨c0, c1⟩ := flt_next2 hb3 hx.1 hx.2))
  go_loop [12] (fun i => i = .int .i64 0) (fun i => 0)
  case atStart => exact rfl
  case round =>
    subst hrel
    go_wp2
    go_ret
    refine ⟨rfl, bt hb1 (bt hb2 (bt ?_ hb3))⟩
    exact (Below.refl _ w2).alloc (Nat.le_refl _) _
end Go.Proofs.Ytackjpmpkklgiaa
