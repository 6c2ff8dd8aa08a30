/-
  Layer 6: the document's Fits, of any word and each of the document's kinds. No condition.
-/
import Derived.Test.YtmfmakkiefgogaaDoorIR3
namespace Go.Proofs.YtmfmakkiefgogaaDoor
open Go.RowKit
set_option linter.unusedVariables false

theorem below_drewN' {B : Nat} {a w : World} (h : Below B a w) (n : Nat) : Below B a (w.drewN n) := ⟨h.os, h.tape, h.output, h.size, h.block⟩
theorem box41 (w : World) (a b : ByteArray) (c d e : Int) : (w.alloc (.cells #[.string a, .string b, .int .u32 c, .int .u32 d, .int .u32 e] 63)).cell? ⟨w.heap.size, 0, none⟩ = some (.string a) ∧ (w.alloc (.cells #[.string a, .string b, .int .u32 c, .int .u32 d, .int .u32 e] 63)).cell? ⟨w.heap.size, 1, none⟩ = some (.string b) ∧ (w.alloc (.cells #[.string a, .string b, .int .u32 c, .int .u32 d, .int .u32 e] 63)).cell? ⟨w.heap.size, 2, none⟩ = some (.int .u32 c) ∧ (w.alloc (.cells #[.string a, .string b, .int .u32 c, .int .u32 d, .int .u32 e] 63)).cell? ⟨w.heap.size, 3, none⟩ = some (.int .u32 d) ∧ (w.alloc (.cells #[.string a, .string b, .int .u32 c, .int .u32 d, .int .u32 e] 63)).cell? ⟨w.heap.size, 4, none⟩ = some (.int .u32 e) := by
  refine ⟨?_, ?_, ?_, ?_, ?_⟩
  all_goals (rw [World.cell?_alloc_at _ _ _ _ (by simp)]; rfl)

set_option maxRecDepth 10000 in
set_option maxHeartbeats 1600000 in
theorem fits_85 (nm : ByteArray) (op f3 f7 : Int) (x : Nat) (hx : x < 4294967296) (h1 : 0 ≤ op ∧ op < 128) (h3 : 0 ≤ f7 ∧ f7 < 128) (w : World) :
    Calls Tryd.prog 33 #[.agg #[.string nm, .string ⟨#[85]⟩, .int .u32 op, .int .u32 f3, .int .u32 f7], .int .u32 x] w fun e w' => e = .returned (.bool (fitN 85 (x / 2 ^ 0 % 2 ^ 7) (x / 2 ^ 12 % 2 ^ 3) (x / 2 ^ 25 % 2 ^ 7) x op f3 f7)) ∧ Below w.heap.size w w' := by
  have P0 : ∀ w, Calls Tryd.prog 35 #[.int .u32 x, .int .i64 0, .int .i64 7] w fun e w' => e = .returned (.int .u32 ((x / 2 ^ 0 % 2 ^ 7 : Nat) : Int)) ∧ w' = w := fun w => bits_any x 0 7 hx (by omega) (by omega) w
  have P1 : ∀ w, Calls Tryd.prog 35 #[.int .u32 x, .int .i64 12, .int .i64 3] w fun e w' => e = .returned (.int .u32 ((x / 2 ^ 12 % 2 ^ 3 : Nat) : Int)) ∧ w' = w := fun w => bits_any x 12 3 hx (by omega) (by omega) w
  have P2 : ∀ w, Calls Tryd.prog 35 #[.int .u32 x, .int .i64 25, .int .i64 7] w fun e w' => e = .returned (.int .u32 ((x / 2 ^ 25 % 2 ^ 7 : Nat) : Int)) ∧ w' = w := fun w => bits_any x 25 7 hx (by omega) (by omega) w
  have hG : x / 2 ^ 25 % 2 ^ 7 < 128 := Nat.mod_lt _ (by omega)
  generalize x / 2 ^ 0 % 2 ^ 7 = A at *
  generalize x / 2 ^ 12 % 2 ^ 3 = F at *
  generalize x / 2 ^ 25 % 2 ^ 7 = G at *
  have HF : Hid (fitN 85 A F G x op f3 f7 = decide ((A : Int) = op)) := rfl
  obtain ⟨b0, b1, b2, b3, b4⟩ := box41 w nm ⟨#[85]⟩ op f3 f7
  by_cases qa : (A : Int) = op
  · have qab : ((A : Int) == op) = true := by simp [qa]
    go_enter Tryd.func33, Tryd.ntmps33
    go_wp2_with (first
      | (go_at_call 35; with_reducible refine (P1 _).mono ?_; rintro e w' ⟨rfl, hw⟩; subst hw)
      | (go_at_call 35; with_reducible refine (P2 _).mono ?_; rintro e w' ⟨rfl, hw⟩; subst hw))
    go_quiet (first | (go_at_call 35; with_reducible refine Calls.quiet_of_same (P0 _)))
    go_wp2
    go_ret
    refine ⟨?_, below_drewN' (by go_grown) _⟩
    rw [HF.out]
    simp [qa]
  · have qab : ((A : Int) == op) = false := by simp [qa]
    go_enter Tryd.func33, Tryd.ntmps33
    go_wp2_with (first
      | (go_at_call 35; with_reducible refine (P1 _).mono ?_; rintro e w' ⟨rfl, hw⟩; subst hw)
      | (go_at_call 35; with_reducible refine (P2 _).mono ?_; rintro e w' ⟨rfl, hw⟩; subst hw))
    go_quiet (first | (go_at_call 35; with_reducible refine Calls.quiet_of_same (P0 _)))
    go_wp2
    go_ret
    refine ⟨?_, below_drewN' (by go_grown) _⟩
    rw [HF.out]
    simp [qa]

set_option maxRecDepth 10000 in
set_option maxHeartbeats 1600000 in
theorem fits_74 (nm : ByteArray) (op f3 f7 : Int) (x : Nat) (hx : x < 4294967296) (h1 : 0 ≤ op ∧ op < 128) (h3 : 0 ≤ f7 ∧ f7 < 128) (w : World) :
    Calls Tryd.prog 33 #[.agg #[.string nm, .string ⟨#[74]⟩, .int .u32 op, .int .u32 f3, .int .u32 f7], .int .u32 x] w fun e w' => e = .returned (.bool (fitN 74 (x / 2 ^ 0 % 2 ^ 7) (x / 2 ^ 12 % 2 ^ 3) (x / 2 ^ 25 % 2 ^ 7) x op f3 f7)) ∧ Below w.heap.size w w' := by
  have P0 : ∀ w, Calls Tryd.prog 35 #[.int .u32 x, .int .i64 0, .int .i64 7] w fun e w' => e = .returned (.int .u32 ((x / 2 ^ 0 % 2 ^ 7 : Nat) : Int)) ∧ w' = w := fun w => bits_any x 0 7 hx (by omega) (by omega) w
  have P1 : ∀ w, Calls Tryd.prog 35 #[.int .u32 x, .int .i64 12, .int .i64 3] w fun e w' => e = .returned (.int .u32 ((x / 2 ^ 12 % 2 ^ 3 : Nat) : Int)) ∧ w' = w := fun w => bits_any x 12 3 hx (by omega) (by omega) w
  have P2 : ∀ w, Calls Tryd.prog 35 #[.int .u32 x, .int .i64 25, .int .i64 7] w fun e w' => e = .returned (.int .u32 ((x / 2 ^ 25 % 2 ^ 7 : Nat) : Int)) ∧ w' = w := fun w => bits_any x 25 7 hx (by omega) (by omega) w
  have hG : x / 2 ^ 25 % 2 ^ 7 < 128 := Nat.mod_lt _ (by omega)
  generalize x / 2 ^ 0 % 2 ^ 7 = A at *
  generalize x / 2 ^ 12 % 2 ^ 3 = F at *
  generalize x / 2 ^ 25 % 2 ^ 7 = G at *
  have HF : Hid (fitN 74 A F G x op f3 f7 = decide ((A : Int) = op)) := rfl
  obtain ⟨b0, b1, b2, b3, b4⟩ := box41 w nm ⟨#[74]⟩ op f3 f7
  by_cases qa : (A : Int) = op
  · have qab : ((A : Int) == op) = true := by simp [qa]
    go_enter Tryd.func33, Tryd.ntmps33
    go_wp2_with (first
      | (go_at_call 35; with_reducible refine (P1 _).mono ?_; rintro e w' ⟨rfl, hw⟩; subst hw)
      | (go_at_call 35; with_reducible refine (P2 _).mono ?_; rintro e w' ⟨rfl, hw⟩; subst hw))
    go_quiet (first | (go_at_call 35; with_reducible refine Calls.quiet_of_same (P0 _)))
    go_wp2
    go_ret
    refine ⟨?_, below_drewN' (by go_grown) _⟩
    rw [HF.out]
    simp [qa]
  · have qab : ((A : Int) == op) = false := by simp [qa]
    go_enter Tryd.func33, Tryd.ntmps33
    go_wp2_with (first
      | (go_at_call 35; with_reducible refine (P1 _).mono ?_; rintro e w' ⟨rfl, hw⟩; subst hw)
      | (go_at_call 35; with_reducible refine (P2 _).mono ?_; rintro e w' ⟨rfl, hw⟩; subst hw))
    go_quiet (first | (go_at_call 35; with_reducible refine Calls.quiet_of_same (P0 _)))
    go_wp2
    go_ret
    refine ⟨?_, below_drewN' (by go_grown) _⟩
    rw [HF.out]
    simp [qa]

set_option maxRecDepth 10000 in
set_option maxHeartbeats 1600000 in
theorem fits_73 (nm : ByteArray) (op f3 f7 : Int) (x : Nat) (hx : x < 4294967296) (h1 : 0 ≤ op ∧ op < 128) (h3 : 0 ≤ f7 ∧ f7 < 128) (w : World) :
    Calls Tryd.prog 33 #[.agg #[.string nm, .string ⟨#[73]⟩, .int .u32 op, .int .u32 f3, .int .u32 f7], .int .u32 x] w fun e w' => e = .returned (.bool (fitN 73 (x / 2 ^ 0 % 2 ^ 7) (x / 2 ^ 12 % 2 ^ 3) (x / 2 ^ 25 % 2 ^ 7) x op f3 f7)) ∧ Below w.heap.size w w' := by
  have P0 : ∀ w, Calls Tryd.prog 35 #[.int .u32 x, .int .i64 0, .int .i64 7] w fun e w' => e = .returned (.int .u32 ((x / 2 ^ 0 % 2 ^ 7 : Nat) : Int)) ∧ w' = w := fun w => bits_any x 0 7 hx (by omega) (by omega) w
  have P1 : ∀ w, Calls Tryd.prog 35 #[.int .u32 x, .int .i64 12, .int .i64 3] w fun e w' => e = .returned (.int .u32 ((x / 2 ^ 12 % 2 ^ 3 : Nat) : Int)) ∧ w' = w := fun w => bits_any x 12 3 hx (by omega) (by omega) w
  have P2 : ∀ w, Calls Tryd.prog 35 #[.int .u32 x, .int .i64 25, .int .i64 7] w fun e w' => e = .returned (.int .u32 ((x / 2 ^ 25 % 2 ^ 7 : Nat) : Int)) ∧ w' = w := fun w => bits_any x 25 7 hx (by omega) (by omega) w
  have hG : x / 2 ^ 25 % 2 ^ 7 < 128 := Nat.mod_lt _ (by omega)
  generalize x / 2 ^ 0 % 2 ^ 7 = A at *
  generalize x / 2 ^ 12 % 2 ^ 3 = F at *
  generalize x / 2 ^ 25 % 2 ^ 7 = G at *
  have HF : Hid (fitN 73 A F G x op f3 f7 = decide ((A : Int) = op ∧ (F : Int) = f3)) := rfl
  obtain ⟨b0, b1, b2, b3, b4⟩ := box41 w nm ⟨#[73]⟩ op f3 f7
  by_cases qa : (A : Int) = op
  · have qab : ((A : Int) == op) = true := by simp [qa]
    by_cases qf : (F : Int) = f3
    · have qfb : ((F : Int) == f3) = true := by simp [qf]
      go_enter Tryd.func33, Tryd.ntmps33
      go_wp2_with (first
        | (go_at_call 35; with_reducible refine (P1 _).mono ?_; rintro e w' ⟨rfl, hw⟩; subst hw)
        | (go_at_call 35; with_reducible refine (P2 _).mono ?_; rintro e w' ⟨rfl, hw⟩; subst hw))
      go_quiet (first | (go_at_call 35; with_reducible refine Calls.quiet_of_same (P0 _)))
      go_wp2
      go_ret
      refine ⟨?_, below_drewN' (by go_grown) _⟩
      rw [HF.out]
      simp [qa, qf]
    · have qfb : ((F : Int) == f3) = false := by simp [qf]
      go_enter Tryd.func33, Tryd.ntmps33
      go_wp2_with (first
        | (go_at_call 35; with_reducible refine (P1 _).mono ?_; rintro e w' ⟨rfl, hw⟩; subst hw)
        | (go_at_call 35; with_reducible refine (P2 _).mono ?_; rintro e w' ⟨rfl, hw⟩; subst hw))
      go_quiet (first | (go_at_call 35; with_reducible refine Calls.quiet_of_same (P0 _)))
      go_wp2
      go_ret
      refine ⟨?_, below_drewN' (by go_grown) _⟩
      rw [HF.out]
      simp [qa, qf]
  · have qab : ((A : Int) == op) = false := by simp [qa]
    go_enter Tryd.func33, Tryd.ntmps33
    go_wp2_with (first
      | (go_at_call 35; with_reducible refine (P1 _).mono ?_; rintro e w' ⟨rfl, hw⟩; subst hw)
      | (go_at_call 35; with_reducible refine (P2 _).mono ?_; rintro e w' ⟨rfl, hw⟩; subst hw))
    go_quiet (first | (go_at_call 35; with_reducible refine Calls.quiet_of_same (P0 _)))
    go_wp2
    go_ret
    refine ⟨?_, below_drewN' (by go_grown) _⟩
    rw [HF.out]
    simp [qa]

set_option maxRecDepth 10000 in
set_option maxHeartbeats 1600000 in
theorem fits_66 (nm : ByteArray) (op f3 f7 : Int) (x : Nat) (hx : x < 4294967296) (h1 : 0 ≤ op ∧ op < 128) (h3 : 0 ≤ f7 ∧ f7 < 128) (w : World) :
    Calls Tryd.prog 33 #[.agg #[.string nm, .string ⟨#[66]⟩, .int .u32 op, .int .u32 f3, .int .u32 f7], .int .u32 x] w fun e w' => e = .returned (.bool (fitN 66 (x / 2 ^ 0 % 2 ^ 7) (x / 2 ^ 12 % 2 ^ 3) (x / 2 ^ 25 % 2 ^ 7) x op f3 f7)) ∧ Below w.heap.size w w' := by
  have P0 : ∀ w, Calls Tryd.prog 35 #[.int .u32 x, .int .i64 0, .int .i64 7] w fun e w' => e = .returned (.int .u32 ((x / 2 ^ 0 % 2 ^ 7 : Nat) : Int)) ∧ w' = w := fun w => bits_any x 0 7 hx (by omega) (by omega) w
  have P1 : ∀ w, Calls Tryd.prog 35 #[.int .u32 x, .int .i64 12, .int .i64 3] w fun e w' => e = .returned (.int .u32 ((x / 2 ^ 12 % 2 ^ 3 : Nat) : Int)) ∧ w' = w := fun w => bits_any x 12 3 hx (by omega) (by omega) w
  have P2 : ∀ w, Calls Tryd.prog 35 #[.int .u32 x, .int .i64 25, .int .i64 7] w fun e w' => e = .returned (.int .u32 ((x / 2 ^ 25 % 2 ^ 7 : Nat) : Int)) ∧ w' = w := fun w => bits_any x 25 7 hx (by omega) (by omega) w
  have hG : x / 2 ^ 25 % 2 ^ 7 < 128 := Nat.mod_lt _ (by omega)
  generalize x / 2 ^ 0 % 2 ^ 7 = A at *
  generalize x / 2 ^ 12 % 2 ^ 3 = F at *
  generalize x / 2 ^ 25 % 2 ^ 7 = G at *
  have HF : Hid (fitN 66 A F G x op f3 f7 = decide ((A : Int) = op ∧ (F : Int) = f3)) := rfl
  obtain ⟨b0, b1, b2, b3, b4⟩ := box41 w nm ⟨#[66]⟩ op f3 f7
  by_cases qa : (A : Int) = op
  · have qab : ((A : Int) == op) = true := by simp [qa]
    by_cases qf : (F : Int) = f3
    · have qfb : ((F : Int) == f3) = true := by simp [qf]
      go_enter Tryd.func33, Tryd.ntmps33
      go_wp2_with (first
        | (go_at_call 35; with_reducible refine (P1 _).mono ?_; rintro e w' ⟨rfl, hw⟩; subst hw)
        | (go_at_call 35; with_reducible refine (P2 _).mono ?_; rintro e w' ⟨rfl, hw⟩; subst hw))
      go_quiet (first | (go_at_call 35; with_reducible refine Calls.quiet_of_same (P0 _)))
      go_wp2
      go_ret
      refine ⟨?_, below_drewN' (by go_grown) _⟩
      rw [HF.out]
      simp [qa, qf]
    · have qfb : ((F : Int) == f3) = false := by simp [qf]
      go_enter Tryd.func33, Tryd.ntmps33
      go_wp2_with (first
        | (go_at_call 35; with_reducible refine (P1 _).mono ?_; rintro e w' ⟨rfl, hw⟩; subst hw)
        | (go_at_call 35; with_reducible refine (P2 _).mono ?_; rintro e w' ⟨rfl, hw⟩; subst hw))
      go_quiet (first | (go_at_call 35; with_reducible refine Calls.quiet_of_same (P0 _)))
      go_wp2
      go_ret
      refine ⟨?_, below_drewN' (by go_grown) _⟩
      rw [HF.out]
      simp [qa, qf]
  · have qab : ((A : Int) == op) = false := by simp [qa]
    go_enter Tryd.func33, Tryd.ntmps33
    go_wp2_with (first
      | (go_at_call 35; with_reducible refine (P1 _).mono ?_; rintro e w' ⟨rfl, hw⟩; subst hw)
      | (go_at_call 35; with_reducible refine (P2 _).mono ?_; rintro e w' ⟨rfl, hw⟩; subst hw))
    go_quiet (first | (go_at_call 35; with_reducible refine Calls.quiet_of_same (P0 _)))
    go_wp2
    go_ret
    refine ⟨?_, below_drewN' (by go_grown) _⟩
    rw [HF.out]
    simp [qa]

set_option maxRecDepth 10000 in
set_option maxHeartbeats 1600000 in
theorem fits_83 (nm : ByteArray) (op f3 f7 : Int) (x : Nat) (hx : x < 4294967296) (h1 : 0 ≤ op ∧ op < 128) (h3 : 0 ≤ f7 ∧ f7 < 128) (w : World) :
    Calls Tryd.prog 33 #[.agg #[.string nm, .string ⟨#[83]⟩, .int .u32 op, .int .u32 f3, .int .u32 f7], .int .u32 x] w fun e w' => e = .returned (.bool (fitN 83 (x / 2 ^ 0 % 2 ^ 7) (x / 2 ^ 12 % 2 ^ 3) (x / 2 ^ 25 % 2 ^ 7) x op f3 f7)) ∧ Below w.heap.size w w' := by
  have P0 : ∀ w, Calls Tryd.prog 35 #[.int .u32 x, .int .i64 0, .int .i64 7] w fun e w' => e = .returned (.int .u32 ((x / 2 ^ 0 % 2 ^ 7 : Nat) : Int)) ∧ w' = w := fun w => bits_any x 0 7 hx (by omega) (by omega) w
  have P1 : ∀ w, Calls Tryd.prog 35 #[.int .u32 x, .int .i64 12, .int .i64 3] w fun e w' => e = .returned (.int .u32 ((x / 2 ^ 12 % 2 ^ 3 : Nat) : Int)) ∧ w' = w := fun w => bits_any x 12 3 hx (by omega) (by omega) w
  have P2 : ∀ w, Calls Tryd.prog 35 #[.int .u32 x, .int .i64 25, .int .i64 7] w fun e w' => e = .returned (.int .u32 ((x / 2 ^ 25 % 2 ^ 7 : Nat) : Int)) ∧ w' = w := fun w => bits_any x 25 7 hx (by omega) (by omega) w
  have hG : x / 2 ^ 25 % 2 ^ 7 < 128 := Nat.mod_lt _ (by omega)
  generalize x / 2 ^ 0 % 2 ^ 7 = A at *
  generalize x / 2 ^ 12 % 2 ^ 3 = F at *
  generalize x / 2 ^ 25 % 2 ^ 7 = G at *
  have HF : Hid (fitN 83 A F G x op f3 f7 = decide ((A : Int) = op ∧ (F : Int) = f3)) := rfl
  obtain ⟨b0, b1, b2, b3, b4⟩ := box41 w nm ⟨#[83]⟩ op f3 f7
  by_cases qa : (A : Int) = op
  · have qab : ((A : Int) == op) = true := by simp [qa]
    by_cases qf : (F : Int) = f3
    · have qfb : ((F : Int) == f3) = true := by simp [qf]
      go_enter Tryd.func33, Tryd.ntmps33
      go_wp2_with (first
        | (go_at_call 35; with_reducible refine (P1 _).mono ?_; rintro e w' ⟨rfl, hw⟩; subst hw)
        | (go_at_call 35; with_reducible refine (P2 _).mono ?_; rintro e w' ⟨rfl, hw⟩; subst hw))
      go_quiet (first | (go_at_call 35; with_reducible refine Calls.quiet_of_same (P0 _)))
      go_wp2
      go_ret
      refine ⟨?_, below_drewN' (by go_grown) _⟩
      rw [HF.out]
      simp [qa, qf]
    · have qfb : ((F : Int) == f3) = false := by simp [qf]
      go_enter Tryd.func33, Tryd.ntmps33
      go_wp2_with (first
        | (go_at_call 35; with_reducible refine (P1 _).mono ?_; rintro e w' ⟨rfl, hw⟩; subst hw)
        | (go_at_call 35; with_reducible refine (P2 _).mono ?_; rintro e w' ⟨rfl, hw⟩; subst hw))
      go_quiet (first | (go_at_call 35; with_reducible refine Calls.quiet_of_same (P0 _)))
      go_wp2
      go_ret
      refine ⟨?_, below_drewN' (by go_grown) _⟩
      rw [HF.out]
      simp [qa, qf]
  · have qab : ((A : Int) == op) = false := by simp [qa]
    go_enter Tryd.func33, Tryd.ntmps33
    go_wp2_with (first
      | (go_at_call 35; with_reducible refine (P1 _).mono ?_; rintro e w' ⟨rfl, hw⟩; subst hw)
      | (go_at_call 35; with_reducible refine (P2 _).mono ?_; rintro e w' ⟨rfl, hw⟩; subst hw))
    go_quiet (first | (go_at_call 35; with_reducible refine Calls.quiet_of_same (P0 _)))
    go_wp2
    go_ret
    refine ⟨?_, below_drewN' (by go_grown) _⟩
    rw [HF.out]
    simp [qa]

set_option maxRecDepth 10000 in
set_option maxHeartbeats 1600000 in
theorem fits_82 (nm : ByteArray) (op f3 f7 : Int) (x : Nat) (hx : x < 4294967296) (h1 : 0 ≤ op ∧ op < 128) (h3 : 0 ≤ f7 ∧ f7 < 128) (w : World) :
    Calls Tryd.prog 33 #[.agg #[.string nm, .string ⟨#[82]⟩, .int .u32 op, .int .u32 f3, .int .u32 f7], .int .u32 x] w fun e w' => e = .returned (.bool (fitN 82 (x / 2 ^ 0 % 2 ^ 7) (x / 2 ^ 12 % 2 ^ 3) (x / 2 ^ 25 % 2 ^ 7) x op f3 f7)) ∧ Below w.heap.size w w' := by
  have P0 : ∀ w, Calls Tryd.prog 35 #[.int .u32 x, .int .i64 0, .int .i64 7] w fun e w' => e = .returned (.int .u32 ((x / 2 ^ 0 % 2 ^ 7 : Nat) : Int)) ∧ w' = w := fun w => bits_any x 0 7 hx (by omega) (by omega) w
  have P1 : ∀ w, Calls Tryd.prog 35 #[.int .u32 x, .int .i64 12, .int .i64 3] w fun e w' => e = .returned (.int .u32 ((x / 2 ^ 12 % 2 ^ 3 : Nat) : Int)) ∧ w' = w := fun w => bits_any x 12 3 hx (by omega) (by omega) w
  have P2 : ∀ w, Calls Tryd.prog 35 #[.int .u32 x, .int .i64 25, .int .i64 7] w fun e w' => e = .returned (.int .u32 ((x / 2 ^ 25 % 2 ^ 7 : Nat) : Int)) ∧ w' = w := fun w => bits_any x 25 7 hx (by omega) (by omega) w
  have hG : x / 2 ^ 25 % 2 ^ 7 < 128 := Nat.mod_lt _ (by omega)
  generalize x / 2 ^ 0 % 2 ^ 7 = A at *
  generalize x / 2 ^ 12 % 2 ^ 3 = F at *
  generalize x / 2 ^ 25 % 2 ^ 7 = G at *
  have HF : Hid (fitN 82 A F G x op f3 f7 = decide ((A : Int) = op ∧ (F : Int) = f3 ∧ (G : Int) = f7)) := rfl
  obtain ⟨b0, b1, b2, b3, b4⟩ := box41 w nm ⟨#[82]⟩ op f3 f7
  by_cases qa : (A : Int) = op
  · have qab : ((A : Int) == op) = true := by simp [qa]
    by_cases qf : (F : Int) = f3
    · have qfb : ((F : Int) == f3) = true := by simp [qf]
      by_cases qg : (G : Int) = f7
      · have qgb : ((G : Int) == f7) = true := by simp [qg]
        go_enter Tryd.func33, Tryd.ntmps33
        go_wp2_with (first
          | (go_at_call 35; with_reducible refine (P1 _).mono ?_; rintro e w' ⟨rfl, hw⟩; subst hw)
          | (go_at_call 35; with_reducible refine (P2 _).mono ?_; rintro e w' ⟨rfl, hw⟩; subst hw))
        go_quiet (first | (go_at_call 35; with_reducible refine Calls.quiet_of_same (P0 _)))
        go_wp2
        go_ret
        refine ⟨?_, below_drewN' (by go_grown) _⟩
        rw [HF.out]
        simp [qa, qf, qg]
      · have qgb : ((G : Int) == f7) = false := by simp [qg]
        go_enter Tryd.func33, Tryd.ntmps33
        go_wp2_with (first
          | (go_at_call 35; with_reducible refine (P1 _).mono ?_; rintro e w' ⟨rfl, hw⟩; subst hw)
          | (go_at_call 35; with_reducible refine (P2 _).mono ?_; rintro e w' ⟨rfl, hw⟩; subst hw))
        go_quiet (first | (go_at_call 35; with_reducible refine Calls.quiet_of_same (P0 _)))
        go_wp2
        go_ret
        refine ⟨?_, below_drewN' (by go_grown) _⟩
        rw [HF.out]
        simp [qa, qf, qg]
    · have qfb : ((F : Int) == f3) = false := by simp [qf]
      go_enter Tryd.func33, Tryd.ntmps33
      go_wp2_with (first
        | (go_at_call 35; with_reducible refine (P1 _).mono ?_; rintro e w' ⟨rfl, hw⟩; subst hw)
        | (go_at_call 35; with_reducible refine (P2 _).mono ?_; rintro e w' ⟨rfl, hw⟩; subst hw))
      go_quiet (first | (go_at_call 35; with_reducible refine Calls.quiet_of_same (P0 _)))
      go_wp2
      go_ret
      refine ⟨?_, below_drewN' (by go_grown) _⟩
      rw [HF.out]
      simp [qa, qf]
  · have qab : ((A : Int) == op) = false := by simp [qa]
    go_enter Tryd.func33, Tryd.ntmps33
    go_wp2_with (first
      | (go_at_call 35; with_reducible refine (P1 _).mono ?_; rintro e w' ⟨rfl, hw⟩; subst hw)
      | (go_at_call 35; with_reducible refine (P2 _).mono ?_; rintro e w' ⟨rfl, hw⟩; subst hw))
    go_quiet (first | (go_at_call 35; with_reducible refine Calls.quiet_of_same (P0 _)))
    go_wp2
    go_ret
    refine ⟨?_, below_drewN' (by go_grown) _⟩
    rw [HF.out]
    simp [qa]

set_option maxRecDepth 10000 in
set_option maxHeartbeats 1600000 in
theorem fits_75 (nm : ByteArray) (op f3 f7 : Int) (x : Nat) (hx : x < 4294967296) (h1 : 0 ≤ op ∧ op < 128) (h3 : 0 ≤ f7 ∧ f7 < 128) (w : World) :
    Calls Tryd.prog 33 #[.agg #[.string nm, .string ⟨#[75]⟩, .int .u32 op, .int .u32 f3, .int .u32 f7], .int .u32 x] w fun e w' => e = .returned (.bool (fitN 75 (x / 2 ^ 0 % 2 ^ 7) (x / 2 ^ 12 % 2 ^ 3) (x / 2 ^ 25 % 2 ^ 7) x op f3 f7)) ∧ Below w.heap.size w w' := by
  have P0 : ∀ w, Calls Tryd.prog 35 #[.int .u32 x, .int .i64 0, .int .i64 7] w fun e w' => e = .returned (.int .u32 ((x / 2 ^ 0 % 2 ^ 7 : Nat) : Int)) ∧ w' = w := fun w => bits_any x 0 7 hx (by omega) (by omega) w
  have P1 : ∀ w, Calls Tryd.prog 35 #[.int .u32 x, .int .i64 12, .int .i64 3] w fun e w' => e = .returned (.int .u32 ((x / 2 ^ 12 % 2 ^ 3 : Nat) : Int)) ∧ w' = w := fun w => bits_any x 12 3 hx (by omega) (by omega) w
  have P2 : ∀ w, Calls Tryd.prog 35 #[.int .u32 x, .int .i64 25, .int .i64 7] w fun e w' => e = .returned (.int .u32 ((x / 2 ^ 25 % 2 ^ 7 : Nat) : Int)) ∧ w' = w := fun w => bits_any x 25 7 hx (by omega) (by omega) w
  have hG : x / 2 ^ 25 % 2 ^ 7 < 128 := Nat.mod_lt _ (by omega)
  generalize x / 2 ^ 0 % 2 ^ 7 = A at *
  generalize x / 2 ^ 12 % 2 ^ 3 = F at *
  generalize x / 2 ^ 25 % 2 ^ 7 = G at *
  have HF : Hid (fitN 75 A F G x op f3 f7 = decide ((A : Int) = op ∧ (F : Int) = f3 ∧ (G : Int) = f7)) := rfl
  obtain ⟨b0, b1, b2, b3, b4⟩ := box41 w nm ⟨#[75]⟩ op f3 f7
  by_cases qa : (A : Int) = op
  · have qab : ((A : Int) == op) = true := by simp [qa]
    by_cases qf : (F : Int) = f3
    · have qfb : ((F : Int) == f3) = true := by simp [qf]
      by_cases qg : (G : Int) = f7
      · have qgb : ((G : Int) == f7) = true := by simp [qg]
        go_enter Tryd.func33, Tryd.ntmps33
        go_wp2_with (first
          | (go_at_call 35; with_reducible refine (P1 _).mono ?_; rintro e w' ⟨rfl, hw⟩; subst hw)
          | (go_at_call 35; with_reducible refine (P2 _).mono ?_; rintro e w' ⟨rfl, hw⟩; subst hw))
        go_quiet (first | (go_at_call 35; with_reducible refine Calls.quiet_of_same (P0 _)))
        go_wp2
        go_ret
        refine ⟨?_, below_drewN' (by go_grown) _⟩
        rw [HF.out]
        simp [qa, qf, qg]
      · have qgb : ((G : Int) == f7) = false := by simp [qg]
        go_enter Tryd.func33, Tryd.ntmps33
        go_wp2_with (first
          | (go_at_call 35; with_reducible refine (P1 _).mono ?_; rintro e w' ⟨rfl, hw⟩; subst hw)
          | (go_at_call 35; with_reducible refine (P2 _).mono ?_; rintro e w' ⟨rfl, hw⟩; subst hw))
        go_quiet (first | (go_at_call 35; with_reducible refine Calls.quiet_of_same (P0 _)))
        go_wp2
        go_ret
        refine ⟨?_, below_drewN' (by go_grown) _⟩
        rw [HF.out]
        simp [qa, qf, qg]
    · have qfb : ((F : Int) == f3) = false := by simp [qf]
      go_enter Tryd.func33, Tryd.ntmps33
      go_wp2_with (first
        | (go_at_call 35; with_reducible refine (P1 _).mono ?_; rintro e w' ⟨rfl, hw⟩; subst hw)
        | (go_at_call 35; with_reducible refine (P2 _).mono ?_; rintro e w' ⟨rfl, hw⟩; subst hw))
      go_quiet (first | (go_at_call 35; with_reducible refine Calls.quiet_of_same (P0 _)))
      go_wp2
      go_ret
      refine ⟨?_, below_drewN' (by go_grown) _⟩
      rw [HF.out]
      simp [qa, qf]
  · have qab : ((A : Int) == op) = false := by simp [qa]
    go_enter Tryd.func33, Tryd.ntmps33
    go_wp2_with (first
      | (go_at_call 35; with_reducible refine (P1 _).mono ?_; rintro e w' ⟨rfl, hw⟩; subst hw)
      | (go_at_call 35; with_reducible refine (P2 _).mono ?_; rintro e w' ⟨rfl, hw⟩; subst hw))
    go_quiet (first | (go_at_call 35; with_reducible refine Calls.quiet_of_same (P0 _)))
    go_wp2
    go_ret
    refine ⟨?_, below_drewN' (by go_grown) _⟩
    rw [HF.out]
    simp [qa]

set_option maxRecDepth 10000 in
set_option maxHeartbeats 1600000 in
theorem fits_72 (nm : ByteArray) (op f3 f7 : Int) (x : Nat) (hx : x < 4294967296) (h1 : 0 ≤ op ∧ op < 128) (h3 : 0 ≤ f7 ∧ f7 < 128) (w : World) :
    Calls Tryd.prog 33 #[.agg #[.string nm, .string ⟨#[72]⟩, .int .u32 op, .int .u32 f3, .int .u32 f7], .int .u32 x] w fun e w' => e = .returned (.bool (fitN 72 (x / 2 ^ 0 % 2 ^ 7) (x / 2 ^ 12 % 2 ^ 3) (x / 2 ^ 25 % 2 ^ 7) x op f3 f7)) ∧ Below w.heap.size w w' := by
  have P0 : ∀ w, Calls Tryd.prog 35 #[.int .u32 x, .int .i64 0, .int .i64 7] w fun e w' => e = .returned (.int .u32 ((x / 2 ^ 0 % 2 ^ 7 : Nat) : Int)) ∧ w' = w := fun w => bits_any x 0 7 hx (by omega) (by omega) w
  have P1 : ∀ w, Calls Tryd.prog 35 #[.int .u32 x, .int .i64 12, .int .i64 3] w fun e w' => e = .returned (.int .u32 ((x / 2 ^ 12 % 2 ^ 3 : Nat) : Int)) ∧ w' = w := fun w => bits_any x 12 3 hx (by omega) (by omega) w
  have P2 : ∀ w, Calls Tryd.prog 35 #[.int .u32 x, .int .i64 25, .int .i64 7] w fun e w' => e = .returned (.int .u32 ((x / 2 ^ 25 % 2 ^ 7 : Nat) : Int)) ∧ w' = w := fun w => bits_any x 25 7 hx (by omega) (by omega) w
  have hG : x / 2 ^ 25 % 2 ^ 7 < 128 := Nat.mod_lt _ (by omega)
  generalize x / 2 ^ 0 % 2 ^ 7 = A at *
  generalize x / 2 ^ 12 % 2 ^ 3 = F at *
  generalize x / 2 ^ 25 % 2 ^ 7 = G at *
  have HF : Hid (fitN 72 A F G x op f3 f7 = decide ((A : Int) = op ∧ (F : Int) = f3 ∧ (G : Int) / 2 = f7 / 2)) := rfl
  obtain ⟨b0, b1, b2, b3, b4⟩ := box41 w nm ⟨#[72]⟩ op f3 f7
  by_cases qa : (A : Int) = op
  · have qab : ((A : Int) == op) = true := by simp [qa]
    by_cases qf : (F : Int) = f3
    · have qfb : ((F : Int) == f3) = true := by simp [qf]
      by_cases qg : (G : Int) / 2 = f7 / 2
      · have qgb : ((G : Int) / 2 == f7 / 2) = true := by simp [qg]
        go_enter Tryd.func33, Tryd.ntmps33
        go_wp2_with (first
          | (go_at_call 35; with_reducible refine (P1 _).mono ?_; rintro e w' ⟨rfl, hw⟩; subst hw)
          | (go_at_call 35; with_reducible refine (P2 _).mono ?_; rintro e w' ⟨rfl, hw⟩; subst hw))
        go_quiet (first | (go_at_call 35; with_reducible refine Calls.quiet_of_same (P0 _)))
        go_wp2
        go_ret
        refine ⟨?_, below_drewN' (by go_grown) _⟩
        rw [HF.out]
        simp [qa, qf, qg]
      · have qgb : ((G : Int) / 2 == f7 / 2) = false := by simp [qg]
        go_enter Tryd.func33, Tryd.ntmps33
        go_wp2_with (first
          | (go_at_call 35; with_reducible refine (P1 _).mono ?_; rintro e w' ⟨rfl, hw⟩; subst hw)
          | (go_at_call 35; with_reducible refine (P2 _).mono ?_; rintro e w' ⟨rfl, hw⟩; subst hw))
        go_quiet (first | (go_at_call 35; with_reducible refine Calls.quiet_of_same (P0 _)))
        go_wp2
        go_ret
        refine ⟨?_, below_drewN' (by go_grown) _⟩
        rw [HF.out]
        simp [qa, qf, qg]
    · have qfb : ((F : Int) == f3) = false := by simp [qf]
      go_enter Tryd.func33, Tryd.ntmps33
      go_wp2_with (first
        | (go_at_call 35; with_reducible refine (P1 _).mono ?_; rintro e w' ⟨rfl, hw⟩; subst hw)
        | (go_at_call 35; with_reducible refine (P2 _).mono ?_; rintro e w' ⟨rfl, hw⟩; subst hw))
      go_quiet (first | (go_at_call 35; with_reducible refine Calls.quiet_of_same (P0 _)))
      go_wp2
      go_ret
      refine ⟨?_, below_drewN' (by go_grown) _⟩
      rw [HF.out]
      simp [qa, qf]
  · have qab : ((A : Int) == op) = false := by simp [qa]
    go_enter Tryd.func33, Tryd.ntmps33
    go_wp2_with (first
      | (go_at_call 35; with_reducible refine (P1 _).mono ?_; rintro e w' ⟨rfl, hw⟩; subst hw)
      | (go_at_call 35; with_reducible refine (P2 _).mono ?_; rintro e w' ⟨rfl, hw⟩; subst hw))
    go_quiet (first | (go_at_call 35; with_reducible refine Calls.quiet_of_same (P0 _)))
    go_wp2
    go_ret
    refine ⟨?_, below_drewN' (by go_grown) _⟩
    rw [HF.out]
    simp [qa]

set_option maxRecDepth 10000 in
set_option maxHeartbeats 1600000 in
theorem fits_78 (nm : ByteArray) (op f3 f7 : Int) (x : Nat) (hx : x < 4294967296) (h1 : 0 ≤ op ∧ op < 128) (h3 : 0 ≤ f7 ∧ f7 < 128) (w : World) :
    Calls Tryd.prog 33 #[.agg #[.string nm, .string ⟨#[78]⟩, .int .u32 op, .int .u32 f3, .int .u32 f7], .int .u32 x] w fun e w' => e = .returned (.bool (fitN 78 (x / 2 ^ 0 % 2 ^ 7) (x / 2 ^ 12 % 2 ^ 3) (x / 2 ^ 25 % 2 ^ 7) x op f3 f7)) ∧ Below w.heap.size w w' := by
  have P0 : ∀ w, Calls Tryd.prog 35 #[.int .u32 x, .int .i64 0, .int .i64 7] w fun e w' => e = .returned (.int .u32 ((x / 2 ^ 0 % 2 ^ 7 : Nat) : Int)) ∧ w' = w := fun w => bits_any x 0 7 hx (by omega) (by omega) w
  have P1 : ∀ w, Calls Tryd.prog 35 #[.int .u32 x, .int .i64 12, .int .i64 3] w fun e w' => e = .returned (.int .u32 ((x / 2 ^ 12 % 2 ^ 3 : Nat) : Int)) ∧ w' = w := fun w => bits_any x 12 3 hx (by omega) (by omega) w
  have P2 : ∀ w, Calls Tryd.prog 35 #[.int .u32 x, .int .i64 25, .int .i64 7] w fun e w' => e = .returned (.int .u32 ((x / 2 ^ 25 % 2 ^ 7 : Nat) : Int)) ∧ w' = w := fun w => bits_any x 25 7 hx (by omega) (by omega) w
  have hG : x / 2 ^ 25 % 2 ^ 7 < 128 := Nat.mod_lt _ (by omega)
  generalize x / 2 ^ 0 % 2 ^ 7 = A at *
  generalize x / 2 ^ 12 % 2 ^ 3 = F at *
  generalize x / 2 ^ 25 % 2 ^ 7 = G at *
  have HF : Hid (fitN 78 A F G x op f3 f7 = decide ((A : Int) = op ∧ (x : Int) = op + 1048576 * f7)) := rfl
  obtain ⟨b0, b1, b2, b3, b4⟩ := box41 w nm ⟨#[78]⟩ op f3 f7
  by_cases qa : (A : Int) = op
  · have qab : ((A : Int) == op) = true := by simp [qa]
    by_cases qx : (x : Int) = op + 1048576 * f7
    · have qxb : ((x : Int) == op + 1048576 * f7) = true := by simp [qx]
      have QX : Hid (_) := qx
      clear qx
      go_enter Tryd.func33, Tryd.ntmps33
      go_wp2_with (first
        | (go_at_call 35; with_reducible refine (P1 _).mono ?_; rintro e w' ⟨rfl, hw⟩; subst hw)
        | (go_at_call 35; with_reducible refine (P2 _).mono ?_; rintro e w' ⟨rfl, hw⟩; subst hw))
      go_quiet (first | (go_at_call 35; with_reducible refine Calls.quiet_of_same (P0 _)))
      go_wp2
      go_ret
      refine ⟨?_, below_drewN' (by go_grown) _⟩
      rw [HF.out]
      have qx := QX.out
      simp [qa, qx]
    · have qxb : ((x : Int) == op + 1048576 * f7) = false := by simp [qx]
      have QX : Hid (_) := qx
      clear qx
      go_enter Tryd.func33, Tryd.ntmps33
      go_wp2_with (first
        | (go_at_call 35; with_reducible refine (P1 _).mono ?_; rintro e w' ⟨rfl, hw⟩; subst hw)
        | (go_at_call 35; with_reducible refine (P2 _).mono ?_; rintro e w' ⟨rfl, hw⟩; subst hw))
      go_quiet (first | (go_at_call 35; with_reducible refine Calls.quiet_of_same (P0 _)))
      go_wp2
      go_ret
      refine ⟨?_, below_drewN' (by go_grown) _⟩
      rw [HF.out]
      have qx := QX.out
      simp [qa]
      exact qx
  · have qab : ((A : Int) == op) = false := by simp [qa]
    go_enter Tryd.func33, Tryd.ntmps33
    go_wp2_with (first
      | (go_at_call 35; with_reducible refine (P1 _).mono ?_; rintro e w' ⟨rfl, hw⟩; subst hw)
      | (go_at_call 35; with_reducible refine (P2 _).mono ?_; rintro e w' ⟨rfl, hw⟩; subst hw))
    go_quiet (first | (go_at_call 35; with_reducible refine Calls.quiet_of_same (P0 _)))
    go_wp2
    go_ret
    refine ⟨?_, below_drewN' (by go_grown) _⟩
    rw [HF.out]
    simp [qa]

theorem fits_any (k x : Nat) (hk : k < 64) (hx : x < 4294967296) (w : World) :
    Calls Tryd.prog 33 #[.agg #[.string (nameAt k), .string (formS k), .int .u32 (kopL.getD k 0), .int .u32 (kf3L.getD k 0), .int .u32 (kf7L.getD k 0)], .int .u32 x] w fun e w' => e = .returned (.bool (fit x k)) ∧ Below w.heap.size w w' := by
  rw [fit_is x k hx hk]
  obtain ⟨_, h1, h2, h3, h4, h5, h6⟩ := code_is k hk
  have hl := letters9 k hk
  have hfs : ∀ c : Int, formAt k = c → formS k = ⟨#[c.toNat.toUInt8]⟩ := fun c h => by unfold formS; rw [h]
  rcases hl with h | h | h | h | h | h | h | h | h <;> rw [hfs _ h, h]
  · exact fits_85 _ _ _ _ x hx ⟨h1, h2⟩ ⟨h5, h6⟩ w
  · exact fits_74 _ _ _ _ x hx ⟨h1, h2⟩ ⟨h5, h6⟩ w
  · exact fits_73 _ _ _ _ x hx ⟨h1, h2⟩ ⟨h5, h6⟩ w
  · exact fits_66 _ _ _ _ x hx ⟨h1, h2⟩ ⟨h5, h6⟩ w
  · exact fits_83 _ _ _ _ x hx ⟨h1, h2⟩ ⟨h5, h6⟩ w
  · exact fits_72 _ _ _ _ x hx ⟨h1, h2⟩ ⟨h5, h6⟩ w
  · exact fits_75 _ _ _ _ x hx ⟨h1, h2⟩ ⟨h5, h6⟩ w
  · exact fits_82 _ _ _ _ x hx ⟨h1, h2⟩ ⟨h5, h6⟩ w
  · exact fits_78 _ _ _ _ x hx ⟨h1, h2⟩ ⟨h5, h6⟩ w
end Go.Proofs.YtmfmakkiefgogaaDoor
