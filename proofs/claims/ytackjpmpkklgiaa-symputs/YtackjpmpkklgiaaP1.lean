/-
  Layer 11: the document's Put; Put of what is none.
-/
import Derived.Test.YtackjpmpkklgiaaS7
import Derived.Test.YtackjpmpkklgiaaS6
namespace Go.Proofs.Ytackjpmpkklgiaa
open Go.RowKit
set_option linter.unusedVariables false

/-- What is none goes into no bytes. -/
theorem put_bad (s : Sy) (n : Int) (w : World) (h : ¬ (0 ≤ s.bind ∧ s.bind ≤ 2) ∨ s.kind < 0 ∨ 15 < s.kind ∨ s.vis < 0 ∨ 3 < s.vis) :
    Calls Try.prog 15 #[s.val, .int .u32 n] w fun e w' => e = .returned (.string ⟨#[]⟩) ∧ w' = w.alloc s.box := by
  obtain ⟨nm, b, k, v, d, x, z⟩ := s
  by_cases h1 : 0 ≤ b ∧ b ≤ 2
  · have HB : Hid (decide (0 ≤ b ∧ b ≤ 2) = true) := by show _ = _; simp [h1]
    by_cases h2 : k < 0
    · clear h h1
      go_enter Try.func15, Try.ntmps15
      go_wp2_with (go_at_call 29; refine (isBind_any _ _ _ HB).mono ?_; rintro r w' ⟨rfl, rfl⟩)
      go_ret
      exact ⟨rfl, rfl⟩
    · by_cases h3 : 16 ≤ k
      · clear h h1
        go_enter Try.func15, Try.ntmps15
        go_wp2_with (go_at_call 29; refine (isBind_any _ _ _ HB).mono ?_; rintro r w' ⟨rfl, rfl⟩)
        go_ret
        exact ⟨rfl, rfl⟩
      · by_cases h4 : v < 0
        · clear h h1
          go_enter Try.func15, Try.ntmps15
          go_wp2_with (go_at_call 29; refine (isBind_any _ _ _ HB).mono ?_; rintro r w' ⟨rfl, rfl⟩)
          go_ret
          exact ⟨rfl, rfl⟩
        · have h5 : 3 < v := by
            rcases h with h | h | h | h | h
            · exact absurd h1 h
            · exact absurd h h2
            · have : 15 < k := h
              omega
            · exact absurd h h4
            · exact h
          clear h h1
          go_enter Try.func15, Try.ntmps15
          go_wp2_with (go_at_call 29; refine (isBind_any _ _ _ HB).mono ?_; rintro r w' ⟨rfl, rfl⟩)
          go_ret
          exact ⟨rfl, rfl⟩
  · have HB : Hid (decide (0 ≤ b ∧ b ≤ 2) = false) := by show _ = _; simp only [decide_eq_false_iff_not]; exact h1
    clear h h1
    go_enter Try.func15, Try.ntmps15
    go_wp2_with (go_at_call 29; refine (isBind_any _ _ _ HB).mono ?_; rintro r w' ⟨rfl, rfl⟩)
    go_ret
    exact ⟨rfl, rfl⟩

/-- Two bytes as a text. -/
theorem conv2 (p q : Nat) (hp : p < 256) (hq : q < 256) (B : Nat) (W : World) (h0 : W.cell? ⟨B, 0, none⟩ = some (.int .u8 (p : Int))) (h1 : W.cell? ⟨B, 1, none⟩ = some (.int .u8 (q : Int))) :
    (convert 58 9 (.slice (some ⟨B, 0, none⟩) 2 2)).run Try.prog W = .ok (.string ⟨#[UInt8.ofNat p, UInt8.ofNat q]⟩) W := by
  have := run_convert_bytes_back (P := Try.prog) W 58 9 5 ⟨B, 0, none⟩ 2 [UInt8.ofNat p, UInt8.ofNat q] Try.underlying58 Try.underlying5 Try.underlying9 (fun j hj => by
    match j, hj with
    | 0, _ =>
      have e : (⟨B, 0, none⟩ : Addr).add 0 = ⟨B, 0, none⟩ := by simp [Addr.add]
      rw [e, h0]
      simp
      omega
    | 1, _ =>
      have e : (⟨B, 0, none⟩ : Addr).add 1 = ⟨B, 1, none⟩ := by simp [Addr.add]
      rw [e, h1]
      simp
      omega
    | j + 2, h => exact absurd h (by simp))
  exact this
theorem cv_next {W w2 : World} {B : Nat} {p q : Int} (hb : Below W.heap.size W w2) (h0 : W.cell? ⟨B, 0, none⟩ = some (.int .u8 p)) (h1 : W.cell? ⟨B, 1, none⟩ = some (.int .u8 q)) : w2.cell? ⟨B, 0, none⟩ = some (.int .u8 p) ∧ w2.cell? ⟨B, 1, none⟩ = some (.int .u8 q) :=
  ⟨(hb.cell (World.block_lt_of_cell? W _ h0)).trans h0, (hb.cell (World.block_lt_of_cell? W _ h1)).trans h1⟩
theorem cv_new {X w2 : World} {p q : Int} (hb : Below (X.alloc (.cells #[.int .u8 p, .int .u8 q] 5)).heap.size (X.alloc (.cells #[.int .u8 p, .int .u8 q] 5)) w2) : w2.cell? ⟨X.heap.size, 0, none⟩ = some (.int .u8 p) ∧ w2.cell? ⟨X.heap.size, 1, none⟩ = some (.int .u8 q) :=
  cv_next hb (by simp [go_sem]) (by simp [go_sem])
end Go.Proofs.Ytackjpmpkklgiaa
