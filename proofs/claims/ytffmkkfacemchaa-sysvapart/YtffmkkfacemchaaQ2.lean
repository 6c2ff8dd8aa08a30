/-
  Layer 13: the document's Read of any bytes: what is wrong ahead of the numbers; and all of it.
-/
import Derived.Test.YtffmkkfacemchaaQ1
namespace Go.Proofs.Ytffmkkfacemchaa
open Go.RowKit
set_option linter.unusedVariables false

set_option maxRecDepth 100000 in
set_option maxHeartbeats 2000000 in
theorem rread_short (b : ByteArray) (w : World) (hb : b.size ≤ 9223372036854775807) (h : b.size < 8) : Calls Try.prog 11 #[.string b] w (RP w b) := by
  have hs : (b.size : Int) < 8 := by omega
  have HH : Hid (b.size < 8) := h
  clear h
  go_enter Try.func11, Try.ntmps11
  go_wp2
  exact ⟨rfl, _, results_four rfl _ _, .inl ⟨2, 0, rfl, by omega, .inl ⟨HH.out, rfl, rfl⟩⟩, Below.refl _ _⟩

set_option maxRecDepth 100000 in
set_option maxHeartbeats 2000000 in
theorem rread_bad (b : ByteArray) (w : World) (hb : b.size ≤ 9223372036854775807) (h8 : 8 ≤ b.size) (x y : Int) (hx : num (b.extract 0 4) = x) (hy : num (b.extract 4 8) = y) (x0 : 0 ≤ x) (x1 : x < 4294967296) (y0 : 0 ≤ y) (y1 : y < 4294967296)
    (h : x = 0 ∨ 256 < x ∨ 256 < y ∨ (b.size : Int) < 8 + 4 * x + 4 * y) : Calls Try.prog 11 #[.string b] w (RP w b) := by
  have hs : ¬ (b.size : Int) < 8 := by omega
  have h4i : (4 : Int) ≤ (b.size : Int) := by omega
  have h8i : (8 : Int) ≤ (b.size : Int) := by omega
  have z0 : (b.extract 0 4).size ≤ maxLen := by unfold maxLen; simp; omega
  have z1 : (b.extract 4 8).size ≤ maxLen := by unfold maxLen; simp; omega
  have G0 := fun W => refget_any (b.extract 0 4) W z0
  have G1 := fun W => refget_any (b.extract 4 8) W z1
  rw [hx] at G0
  rw [hy] at G1
  have w0 : IntKind.i64.wrap x = x := wrapi64 _ x0 (by omega)
  have w1 : IntKind.i64.wrap y = y := wrapi64 _ y0 (by omega)
  have HE : Hid (8 ≤ b.size ∧ num (b.extract 0 4) = x ∧ num (b.extract 4 8) = y) := ⟨h8, hx, hy⟩
  clear hx hy h8 z0 z1
  by_cases i0 : x = 0
  · have HI : Hid (x = 0) := i0
    subst i0
    clear h
    go_enter Try.func11, Try.ntmps11
    go_wp2
    go_quiet (first | (go_at_call 39; first | with_reducible exact Calls.quiet_of_same (G0 _) | with_reducible exact Calls.quiet_of_same (G1 _)))
    go_wp2
    exact ⟨rfl, _, results_four rfl _ _, .inl ⟨4, 0, rfl, by omega, .inr (.inl ⟨HE.out.1, HE.out.2.1, rfl, rfl⟩)⟩, below_drewN (Below.refl _ _) _⟩
  · by_cases i1 : 256 < x
    · clear h
      go_enter Try.func11, Try.ntmps11
      go_wp2
      go_quiet (first | (go_at_call 39; first | with_reducible exact Calls.quiet_of_same (G0 _) | with_reducible exact Calls.quiet_of_same (G1 _)))
      go_wp2
      exact ⟨rfl, _, results_four rfl _ _, .inl ⟨6, 0, rfl, by omega, .inr (.inr (.inl ⟨HE.out.1, by rw [HE.out.2.1]; assumption, by rw [HE.out.2.1]; exact .inl (by assumption), rfl, rfl⟩))⟩, below_drewN (Below.refl _ _) _⟩
    · by_cases i2 : 256 < y
      · clear h
        go_enter Try.func11, Try.ntmps11
        go_wp2
        go_quiet (first | (go_at_call 39; first | with_reducible exact Calls.quiet_of_same (G0 _) | with_reducible exact Calls.quiet_of_same (G1 _)))
        go_wp2
        exact ⟨rfl, _, results_four rfl _ _, .inl ⟨6, 0, rfl, by omega, .inr (.inr (.inl ⟨HE.out.1, by rw [HE.out.2.1]; assumption, by rw [HE.out.2.2]; exact .inr (by assumption), rfl, rfl⟩))⟩, below_drewN (Below.refl _ _) _⟩
      · have i3 : (b.size : Int) < 8 + 4 * x + 4 * y := by omega
        have HF : Hid (0 < x ∧ x ≤ 256 ∧ y ≤ 256 ∧ (b.size : Int) < 8 + 4 * x + 4 * y ∧ 0 ≤ y) := ⟨by omega, by omega, by omega, i3, y0⟩
        clear h
        go_enter Try.func11, Try.ntmps11
        go_wp2
        go_quiet (first | (go_at_call 39; first | with_reducible exact Calls.quiet_of_same (G0 _) | with_reducible exact Calls.quiet_of_same (G1 _)))
        go_wp2
        obtain ⟨f1, f2, f3, f4, f5⟩ := HF.out
        exact ⟨rfl, _, results_four rfl _ _, .inl ⟨2, 0, rfl, by omega, .inr (.inr (.inr ⟨x.toNat, y.toNat, HE.out.1, by rw [HE.out.2.1]; omega, by rw [HE.out.2.2]; omega, by omega, by omega, by omega, .inl ⟨by omega, rfl, rfl⟩⟩))⟩, below_drewN (Below.refl _ _) _⟩

theorem rread_any (b : ByteArray) (w : World) (hb : b.size ≤ 9223372036854775807) : Calls Try.prog 11 #[.string b] w (RP w b) := by
  by_cases h8 : b.size < 8
  · exact rread_short b w hb h8
  · have x0 := (num_bounds (b.extract 0 4)).1
    have y0 := (num_bounds (b.extract 4 8)).1
    have x1 := num_lt4 (b.extract 0 4) (by simp; omega)
    have y1 := num_lt4 (b.extract 4 8) (by simp; omega)
    by_cases h : num (b.extract 0 4) = 0 ∨ 256 < num (b.extract 0 4) ∨ 256 < num (b.extract 4 8) ∨ (b.size : Int) < 8 + 4 * num (b.extract 0 4) + 4 * num (b.extract 4 8)
    · exact rread_bad b w hb (by omega) _ _ rfl rfl x0 (by omega) y0 (by omega) h
    · exact rread_some b (num (b.extract 0 4)).toNat (num (b.extract 4 8)).toNat w hb (by omega) (by omega) (by omega) (by omega) (by omega) (by omega) (by omega)
end Go.Proofs.Ytffmkkfacemchaa
