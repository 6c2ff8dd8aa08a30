/-
  Layer 15: Put of any relocation, the document's Put, Value.
-/
import Derived.Test.YtghbkjdjginfjaaD1
namespace Go.Proofs.Ytghbkjdjginfjaa
open Go.RowKit
set_option linter.unusedVariables false

/-- A relocation's bytes. -/
def relB (a k s d : Nat) : ByteArray := (((⟨(enc a 8).toArray⟩ ++ ⟨(enc k 4).toArray⟩ : ByteArray) ++ ⟨(enc s 4).toArray⟩) ++ ⟨(enc d 8).toArray⟩)
theorem encA_size (n k : Nat) : (⟨(enc n k).toArray⟩ : ByteArray).size = k := by
  show (enc n k).toArray.size = k
  simp [enc_length]
theorem relB_size (a k s d : Nat) : (relB a k s d).size = 24 := by
  unfold relB
  simp only [ByteArray.size_append, encA_size]

theorem short_yes (n : Int) (w : World) (h0 : 0 ≤ n) (h1 : n < 4294967296) : Calls Try.prog 20 #[.int .i64 n] w fun e w' => e = .returned (.bool true) ∧ w' = w := by
  have e : IntKind.u64.wrap n = n := by rw [IntKind.wrap_u64]; omega
  have h2 : n ≤ 4294967295 := by omega
  go_enter Try.func20, Try.ntmps20
  go_wp2
  go_ret
  exact ⟨rfl, rfl⟩
theorem short_no (n : Int) (w : World) (hn : n ≤ 9223372036854775807) (h : n < 0 ∨ 4294967296 ≤ n) : Calls Try.prog 20 #[.int .i64 n] w fun e w' => e = .returned (.bool false) ∧ w' = w := by
  rcases h with h | h
  · go_enter Try.func20, Try.ntmps20
    go_wp2
    go_ret
    exact ⟨rfl, rfl⟩
  · have e : IntKind.u64.wrap n = n := by rw [IntKind.wrap_u64]; omega
    have h0 : ¬ n < 0 := by omega
    have h2 : ¬ n ≤ 4294967295 := by omega
    go_enter Try.func20, Try.ntmps20
    go_wp2
    go_ret
    exact ⟨rfl, rfl⟩

/-- What the region holds of the relocation's block. -/
theorem put_next {w W W' : World} {B : Nat} {v0 v1 v2 v3 : Value} (hb : Below W.heap.size W W')
    (hS : W.cell? ⟨B, 0, none⟩ = some v0 ∧ W.cell? ⟨B, 1, none⟩ = some v1 ∧ W.cell? ⟨B, 2, none⟩ = some v2 ∧ W.cell? ⟨B, 3, none⟩ = some v3 ∧ Below w.heap.size w W) :
    W'.cell? ⟨B, 0, none⟩ = some v0 ∧ W'.cell? ⟨B, 1, none⟩ = some v1 ∧ W'.cell? ⟨B, 2, none⟩ = some v2 ∧ W'.cell? ⟨B, 3, none⟩ = some v3 ∧ Below w.heap.size w W' := by
  obtain ⟨h0, h1, h2, h3, h⟩ := hS
  have k : ∀ {j v}, W.cell? ⟨B, j, none⟩ = some v → W'.cell? ⟨B, j, none⟩ = some v := fun hc => (hb.cell (World.block_lt_of_cell? W _ hc)).trans hc
  exact ⟨k h0, k h1, k h2, k h3, h.trans (hb.mono h.size)⟩

set_option maxRecDepth 100000 in
set_option maxHeartbeats 4000000 in
theorem put_d (p0 p1 p2 p3 : ByteArray) (a k s d : Nat) (w : World) (hk : k < 4294967296) (hs : s < 4294967296)
    (P0 : ∀ W, Calls Try.prog 21 #[.int .u64 (a : Int), .int .i64 8] W fun e w' => e = .returned (.string p0) ∧ Below W.heap.size W w')
    (P1 : ∀ W, Calls Try.prog 21 #[.int .u64 (k : Int), .int .i64 4] W fun e w' => e = .returned (.string p1) ∧ Below W.heap.size W w')
    (P2 : ∀ W, Calls Try.prog 21 #[.int .u64 (s : Int), .int .i64 4] W fun e w' => e = .returned (.string p2) ∧ Below W.heap.size W w')
    (P3 : ∀ W, Calls Try.prog 21 #[.int .u64 (d : Int), .int .i64 8] W fun e w' => e = .returned (.string p3) ∧ Below W.heap.size W w')
    (z0 : p0.size = 8) (z1 : p1.size = 4) (z2 : p2.size = 4) (z3 : p3.size = 8) :
    Calls Try.prog 11 #[rlv ((a : Int), (k : Int), (s : Int), (d : Int))] w fun e w' => e = .returned (.string (((p0 ++ p1) ++ p2) ++ p3)) ∧ Below w.heap.size w w' := by
  have e1 : IntKind.u64.wrap (k : Int) = (k : Int) := by rw [IntKind.wrap_u64]; omega
  have e2 : IntKind.u64.wrap (s : Int) = (s : Int) := by rw [IntKind.wrap_u64]; omega
  obtain ⟨w1, hw1⟩ : ∃ w1, w1 = w.alloc (.cells #[.int .u64 (a : Int), .int .i64 (k : Int), .int .i64 (s : Int), .int .u64 (d : Int)] 38) := ⟨_, rfl⟩
  have hS : w1.drew.cell? ⟨w.heap.size, 0, none⟩ = some (.int .u64 (a : Int)) ∧ w1.drew.cell? ⟨w.heap.size, 1, none⟩ = some (.int .i64 (k : Int)) ∧ w1.drew.cell? ⟨w.heap.size, 2, none⟩ = some (.int .i64 (s : Int)) ∧ w1.drew.cell? ⟨w.heap.size, 3, none⟩ = some (.int .u64 (d : Int)) ∧ Below w.heap.size w w1.drew := by
    rw [hw1]
    refine ⟨by simp [go_sem], by simp [go_sem], by simp [go_sem], by simp [go_sem], ?_⟩
    exact ((Below.refl _ w).alloc (Nat.le_refl _) _).drew
  have HW : Hid (w1 = _) := hw1
  have hk0 : (0 : Int) ≤ (k : Int) := by omega
  have hk1 : (k : Int) < 4294967296 := by omega
  have hs0 : (0 : Int) ≤ (s : Int) := by omega
  have hs1 : (s : Int) < 4294967296 := by omega
  have YK := fun W => short_yes (k : Int) W hk0 hk1
  have YS := fun W => short_yes (s : Int) W hs0 hs1
  clear hw1
  go_enter Try.func11, Try.ntmps11
  go_wp2_with (first
    | (go_at_call 20; with_reducible refine (YK _).mono ?_; rintro r w' ⟨rfl, hq⟩; subst hq)
    | (go_at_call 20; with_reducible refine (YS _).mono ?_; rintro r w' ⟨rfl, hq⟩; subst hq))
  rw [← HW.out]
  go_region_held3 (fun W => W.cell? ⟨w.heap.size, 0, none⟩ = some (.int .u64 (a : Int)) ∧ W.cell? ⟨w.heap.size, 1, none⟩ = some (.int .i64 (k : Int)) ∧ W.cell? ⟨w.heap.size, 2, none⟩ = some (.int .i64 (s : Int)) ∧ W.cell? ⟨w.heap.size, 3, none⟩ = some (.int .u64 (d : Int)) ∧ Below w.heap.size w W)
    (first | assumption | (apply put_next; assumption; assumption))
    (first
      | (go_at_call 21; with_reducible refine (P0 _).mono ?_; rintro e w2 ⟨rfl, hb2⟩)
      | (go_at_call 21; with_reducible refine (P1 _).mono ?_; rintro e w2 ⟨rfl, hb2⟩)
      | (go_at_call 21; with_reducible refine (P2 _).mono ?_; rintro e w2 ⟨rfl, hb2⟩)
      | (go_at_call 21; with_reducible refine (P3 _).mono ?_; rintro e w2 ⟨rfl, hb2⟩))
  all_goals
    go_wp2
    go_ret
    rename_i hH
    exact ⟨rfl, hH.2.2.2.2⟩
theorem put_any (a k s d : Nat) (w : World) (ha : a < 18446744073709551616) (hk : k < 4294967296) (hs : s < 4294967296) (hd : d < 18446744073709551616) :
    Calls Try.prog 11 #[rlv ((a : Int), (k : Int), (s : Int), (d : Int))] w fun e w' => e = .returned (.string (relB a k s d)) ∧ Below w.heap.size w w' :=
  put_d _ _ _ _ a k s d w hk hs (fun W => put_yes a 8 W (by omega) (by omega)) (fun W => put_yes k 4 W (by omega) (by omega)) (fun W => put_yes s 4 W (by omega) (by omega)) (fun W => put_yes d 8 W (by omega) (by omega)) (encA_size _ _) (encA_size _ _) (encA_size _ _) (encA_size _ _)
set_option maxRecDepth 100000 in
set_option maxHeartbeats 4000000 in
theorem put_none (a k s d : Int) (w : World) (hk9 : k ≤ 9223372036854775807) (hs9 : s ≤ 9223372036854775807) (h : k < 0 ∨ 4294967296 ≤ k ∨ s < 0 ∨ 4294967296 ≤ s) :
    Calls Try.prog 11 #[rlv (a, k, s, d)] w fun e w' => e = .returned (.string ⟨#[]⟩) ∧ Below w.heap.size w w' := by
  by_cases hk : 0 ≤ k ∧ k < 4294967296
  · have YK := fun W => short_yes k W hk.1 hk.2
    have NS := fun W => short_no s W hs9 (by omega)
    clear h
    go_enter Try.func11, Try.ntmps11
    go_wp2_with (first
      | (go_at_call 20; with_reducible refine (YK _).mono ?_; rintro r w' ⟨rfl, hq⟩; subst hq)
      | (go_at_call 20; with_reducible refine (NS _).mono ?_; rintro r w' ⟨rfl, hq⟩; subst hq))
    go_ret
    exact ⟨rfl, (Below.refl _ w).alloc (Nat.le_refl _) _⟩
  · have NK := fun W => short_no k W hk9 (by omega)
    clear h
    go_enter Try.func11, Try.ntmps11
    go_wp2_with (go_at_call 20; with_reducible refine (NK _).mono ?_; rintro r w' ⟨rfl, hq⟩; subst hq)
    go_ret
    exact ⟨rfl, (Below.refl _ w).alloc (Nat.le_refl _) _⟩
/-- What Value answers. -/
def valF (a k s d base symbol : Int) : Int := if k = 2 ∨ k = 5 then IntKind.u64.wrap (symbol + d) else if k = 3 then IntKind.u64.wrap (base + d) else 0
set_option maxRecDepth 100000 in
set_option maxHeartbeats 4000000 in
theorem value_any (a k s d base symbol : Int) (w : World) : Calls Try.prog 12 #[rlv (a, k, s, d), .int .u64 base, .int .u64 symbol] w fun e w' => e = .returned (.int .u64 (valF a k s d base symbol)) ∧ Below w.heap.size w w' := by
  by_cases h2 : k = 2
  · subst h2
    have HV : Hid (valF a 2 s d base symbol = IntKind.u64.wrap (symbol + d)) := by show _ = _; unfold valF; simp
    rw [HV.out]
    go_enter Try.func12, Try.ntmps12
    go_wp2
    go_ret
    exact ⟨rfl, by go_grown⟩
  by_cases h5 : k = 5
  · subst h5
    have HV : Hid (valF a 5 s d base symbol = IntKind.u64.wrap (symbol + d)) := by show _ = _; unfold valF; simp
    rw [HV.out]
    go_enter Try.func12, Try.ntmps12
    go_wp2
    go_ret
    exact ⟨rfl, by go_grown⟩
  by_cases h3 : k = 3
  · subst h3
    have HV : Hid (valF a 3 s d base symbol = IntKind.u64.wrap (base + d)) := by show _ = _; unfold valF; simp
    rw [HV.out]
    go_enter Try.func12, Try.ntmps12
    go_wp2
    go_ret
    exact ⟨rfl, by go_grown⟩
  · have HV : Hid (valF a k s d base symbol = 0) := by show _ = _; unfold valF; simp [h2, h5, h3]
    rw [HV.out]
    go_enter Try.func12, Try.ntmps12
    go_wp2
    go_ret
    exact ⟨rfl, by go_grown⟩
end Go.Proofs.Ytghbkjdjginfjaa
