/-
  The statement SymBinds: its walk, not defined, the binding's bit 0.
-/
import Derived.Test.YtackjpmpkklgiaaG1
namespace Go.Proofs.Ytackjpmpkklgiaa
open Go.RowKit
set_option linter.unusedVariables false

set_option maxRecDepth 100000 in
set_option maxHeartbeats 8000000 in
theorem binds_f00 (b k v kk x z : Int) (w : World) (hb : bits BinOp.and IntKind.i64 b 1 = 0) (hk : bits BinOp.and IntKind.i64 k 15 = kk) (hv : bits BinOp.and IntKind.i64 v 3 = 0) :
    Calls Try.prog 5 #[.agg #[.int .i64 b, .int .i64 k, .int .i64 v, .bool false, .int .u64 x, .int .u64 z]] w fun e w' => e = .returned (.bool true) ∧ Below w.heap.size w w' := by
  have S9 : ∀ W, Calls Try.prog 9 #[] W fun e w' => e = .returned (.bool true) ∧ Below W.heap.size W w' := speaks_any
  have HX : Hid (∀ W W' : World, Below W.heap.size W W' → ∀ a v, W.cell? a = some v → W'.cell? a = some v) := fun W W' h a v hv => (h.cell (World.block_lt_of_cell? W _ hv)).trans hv
  obtain ⟨w0, hw0⟩ : ∃ w0, w.alloc (.cells #[.int .i64 b, .int .i64 k, .int .i64 v, .bool false, .int .u64 x, .int .u64 z] 39) = w0 := ⟨_, rfl⟩
  have c0 : w0.cell? ⟨w.heap.size, 0, none⟩ = some (.int .i64 b) := by rw [← hw0]; simp [go_sem]
  have c1 : w0.cell? ⟨w.heap.size, 1, none⟩ = some (.int .i64 k) := by rw [← hw0]; simp [go_sem]
  have c2 : w0.cell? ⟨w.heap.size, 2, none⟩ = some (.int .i64 v) := by rw [← hw0]; simp [go_sem]
  have c3 : w0.cell? ⟨w.heap.size, 3, none⟩ = some (.bool false) := by rw [← hw0]; simp [go_sem]
  have HC : Hid (∀ w1, Below w0.heap.size w0 w1 → w1.cell? ⟨w.heap.size, 0, none⟩ = some (.int .i64 b) ∧ w1.cell? ⟨w.heap.size, 1, none⟩ = some (.int .i64 k) ∧ w1.cell? ⟨w.heap.size, 2, none⟩ = some (.int .i64 v) ∧ w1.cell? ⟨w.heap.size, 3, none⟩ = some (.bool false)) := fun w1 h => ⟨HX.out _ _ h _ _ c0, HX.out _ _ h _ _ c1, HX.out _ _ h _ _ c2, HX.out _ _ h _ _ c3⟩
  have H0 : Hid (w.alloc (.cells #[.int .i64 b, .int .i64 k, .int .i64 v, .bool false, .int .u64 x, .int .u64 z] 39) = w0) := hw0
  have HB0 : Hid (Below w.heap.size w w0) := by show Below _ _ _; rw [← hw0]; exact (Below.refl _ w).alloc (Nat.le_refl _) _
  clear hw0 c0 c1 c2 c3
  go_enter Try.func5, Try.ntmps5
  go_wp2_with (first
    | (go_at_call 9; rw [H0.out]; refine (S9 _).mono ?_; rintro e w1 ⟨rfl, hb1⟩; obtain ⟨d0, d1, d2, d3⟩ := HC.out _ hb1; have hlt := World.block_lt_of_cell? _ _ d0))
  have hW : ∃ W3 : World, ((w1.alloc (.cells #[.string ⟨#[]⟩, .int .i64 1, .int .i64 kk, .int .i64 0, .bool false, .int .u64 0, .int .u64 0] 35)).alloc (.cells #[.string ⟨#[]⟩, .int .i64 2, .int .i64 kk, .int .i64 0, .bool false, .int .u64 0, .int .u64 0] 35)).alloc (.cells #[.string ⟨#[]⟩, .int .i64 0, .int .i64 kk, .int .i64 0, .bool false, .int .u64 0, .int .u64 0] 35) = W3 ∧ SyAt W3 w1.heap.size ⟨⟨#[]⟩, 1, kk, 0, false, 0, 0⟩ ∧ SyAt W3 (w1.heap.size + 1) ⟨⟨#[]⟩, 2, kk, 0, false, 0, 0⟩ ∧ SyAt W3 (w1.heap.size + 1 + 1) ⟨⟨#[]⟩, 0, kk, 0, false, 0, 0⟩ ∧ Below w.heap.size w W3 := by
    refine ⟨_, rfl, ((SyAt.new w1 ⟨⟨#[]⟩, 1, kk, 0, false, 0, 0⟩).alloc _).alloc _, ?_, ?_, bt HB0.out (bt hb1 ?_)⟩
    · have h := (SyAt.new (w1.alloc (.cells #[.string ⟨#[]⟩, .int .i64 1, .int .i64 kk, .int .i64 0, .bool false, .int .u64 0, .int .u64 0] 35)) ⟨⟨#[]⟩, 2, kk, 0, false, 0, 0⟩).alloc (.cells #[.string ⟨#[]⟩, .int .i64 0, .int .i64 kk, .int .i64 0, .bool false, .int .u64 0, .int .u64 0] 35)
      rw [World.size_alloc] at h
      exact h
    · have h := SyAt.new ((w1.alloc (.cells #[.string ⟨#[]⟩, .int .i64 1, .int .i64 kk, .int .i64 0, .bool false, .int .u64 0, .int .u64 0] 35)).alloc (.cells #[.string ⟨#[]⟩, .int .i64 2, .int .i64 kk, .int .i64 0, .bool false, .int .u64 0, .int .u64 0] 35)) ⟨⟨#[]⟩, 0, kk, 0, false, 0, 0⟩
      rw [World.size_alloc, World.size_alloc] at h
      exact h
    · exact (((Below.refl _ w1).alloc (Nat.le_refl _) _).alloc (by simp) _).alloc (by simp; omega) _
  obtain ⟨W3, hW3, hs, ht, hu, hbw⟩ := hW
  rw [hW3]
  have E1 := exp_gr ⟨⟨#[]⟩, 1, kk, 0, false, 0, 0⟩ false (by rfl)
  have E2 := exp_gr ⟨⟨#[]⟩, 2, kk, 0, false, 0, 0⟩ false (by rfl)
  have E0 := exp_gr ⟨⟨#[]⟩, 0, kk, 0, false, 0, 0⟩ false (by rfl)
  have O1 := own_gr ⟨⟨#[]⟩, 1, kk, 0, false, 0, 0⟩ false (by rfl)
  have O2 := own_gr ⟨⟨#[]⟩, 2, kk, 0, false, 0, 0⟩ false (by rfl)
  have O0 := own_gr ⟨⟨#[]⟩, 0, kk, 0, false, 0, 0⟩ false (by rfl)
  have HS : Hid (SyAt W3 w1.heap.size ⟨⟨#[]⟩, 1, kk, 0, false, 0, 0⟩) := hs
  have HB : Hid (Below w.heap.size w W3) := hbw
  have mixed := mixedTry
  have s0 := fun n os => (hs.grown n os).1
  have s1 := fun n os => (hs.grown n os).2.1
  have s2 := fun n os => (hs.grown n os).2.2.1
  have s3 := fun n os => (hs.grown n os).2.2.2.1
  have s4 := fun n os => (hs.grown n os).2.2.2.2.1
  have s5 := fun n os => (hs.grown n os).2.2.2.2.2.1
  have s6 := fun n os => (hs.grown n os).2.2.2.2.2.2
  have t0 := fun n os => (ht.grown n os).1
  have t1 := fun n os => (ht.grown n os).2.1
  have t2 := fun n os => (ht.grown n os).2.2.1
  have t3 := fun n os => (ht.grown n os).2.2.2.1
  have t4 := fun n os => (ht.grown n os).2.2.2.2.1
  have t5 := fun n os => (ht.grown n os).2.2.2.2.2.1
  have t6 := fun n os => (ht.grown n os).2.2.2.2.2.2
  have u0 := fun n os => (hu.grown n os).1
  have u1 := fun n os => (hu.grown n os).2.1
  have u2 := fun n os => (hu.grown n os).2.2.1
  have u3 := fun n os => (hu.grown n os).2.2.2.1
  have u4 := fun n os => (hu.grown n os).2.2.2.2.1
  have u5 := fun n os => (hu.grown n os).2.2.2.2.2.1
  have u6 := fun n os => (hu.grown n os).2.2.2.2.2.2
  clear hW3 hs ht hu hbw hb1 d0 d1 d2 d3 hlt S9 hb hk hv
  dsimp only [Sy.val] at *
  go_quiet_grown (first | (go_at_call 13; first | (with_reducible refine Calls.grown_of (Gr.call E1)) | (with_reducible refine Calls.grown_of (Gr.call E2)) | (with_reducible refine Calls.grown_of (Gr.call E0))) | (go_at_call 14; first | (with_reducible refine Calls.grown_of (Gr.call O1)) | (with_reducible refine Calls.grown_of (Gr.call O2)) | (with_reducible refine Calls.grown_of (Gr.call O0))))
  go_wp2
  have hG : Gr W3 (Go.Sort.grow (W3.drewN nq) osq) := ⟨_, _, rfl⟩
  have hs := HS.out.grown nq osq
  have hbw := HB.out.trans (hG.below.mono HB.out.size)
  have HB4 : Hid (Below w.heap.size w (Go.Sort.grow (W3.drewN nq) osq)) := hbw
  clear s0 s1 s2 s3 s4 s5 s6 t0 t1 t2 t3 t4 t5 t6 u0 u1 u2 u3 u4 u5 u6 hG hbw HS HB
  generalize Go.Sort.grow (W3.drewN nq) osq = W4 at *
  have s0 := fun n os => (hs.grown n os).1
  have s1 := fun n os => (hs.grown n os).2.1
  have s2 := fun n os => (hs.grown n os).2.2.1
  have s3 := fun n os => (hs.grown n os).2.2.2.1
  have s4 := fun n os => (hs.grown n os).2.2.2.2.1
  have s5 := fun n os => (hs.grown n os).2.2.2.2.2.1
  have s6 := fun n os => (hs.grown n os).2.2.2.2.2.2
  clear hs
  dsimp only at *
  clear s0 s1 s2 s3 s4 s5 s6 E1 E2 E0 O1 O2 O0
  go_region
  all_goals
    go_wp2
    go_ret
    exact ⟨rfl, HB4.out.drew⟩

set_option maxRecDepth 100000 in
set_option maxHeartbeats 8000000 in
theorem binds_f01 (b k v kk x z : Int) (w : World) (hb : bits BinOp.and IntKind.i64 b 1 = 0) (hk : bits BinOp.and IntKind.i64 k 15 = kk) (hv : bits BinOp.and IntKind.i64 v 3 = 1) :
    Calls Try.prog 5 #[.agg #[.int .i64 b, .int .i64 k, .int .i64 v, .bool false, .int .u64 x, .int .u64 z]] w fun e w' => e = .returned (.bool true) ∧ Below w.heap.size w w' := by
  have S9 : ∀ W, Calls Try.prog 9 #[] W fun e w' => e = .returned (.bool true) ∧ Below W.heap.size W w' := speaks_any
  have HX : Hid (∀ W W' : World, Below W.heap.size W W' → ∀ a v, W.cell? a = some v → W'.cell? a = some v) := fun W W' h a v hv => (h.cell (World.block_lt_of_cell? W _ hv)).trans hv
  obtain ⟨w0, hw0⟩ : ∃ w0, w.alloc (.cells #[.int .i64 b, .int .i64 k, .int .i64 v, .bool false, .int .u64 x, .int .u64 z] 39) = w0 := ⟨_, rfl⟩
  have c0 : w0.cell? ⟨w.heap.size, 0, none⟩ = some (.int .i64 b) := by rw [← hw0]; simp [go_sem]
  have c1 : w0.cell? ⟨w.heap.size, 1, none⟩ = some (.int .i64 k) := by rw [← hw0]; simp [go_sem]
  have c2 : w0.cell? ⟨w.heap.size, 2, none⟩ = some (.int .i64 v) := by rw [← hw0]; simp [go_sem]
  have c3 : w0.cell? ⟨w.heap.size, 3, none⟩ = some (.bool false) := by rw [← hw0]; simp [go_sem]
  have HC : Hid (∀ w1, Below w0.heap.size w0 w1 → w1.cell? ⟨w.heap.size, 0, none⟩ = some (.int .i64 b) ∧ w1.cell? ⟨w.heap.size, 1, none⟩ = some (.int .i64 k) ∧ w1.cell? ⟨w.heap.size, 2, none⟩ = some (.int .i64 v) ∧ w1.cell? ⟨w.heap.size, 3, none⟩ = some (.bool false)) := fun w1 h => ⟨HX.out _ _ h _ _ c0, HX.out _ _ h _ _ c1, HX.out _ _ h _ _ c2, HX.out _ _ h _ _ c3⟩
  have H0 : Hid (w.alloc (.cells #[.int .i64 b, .int .i64 k, .int .i64 v, .bool false, .int .u64 x, .int .u64 z] 39) = w0) := hw0
  have HB0 : Hid (Below w.heap.size w w0) := by show Below _ _ _; rw [← hw0]; exact (Below.refl _ w).alloc (Nat.le_refl _) _
  clear hw0 c0 c1 c2 c3
  go_enter Try.func5, Try.ntmps5
  go_wp2_with (first
    | (go_at_call 9; rw [H0.out]; refine (S9 _).mono ?_; rintro e w1 ⟨rfl, hb1⟩; obtain ⟨d0, d1, d2, d3⟩ := HC.out _ hb1; have hlt := World.block_lt_of_cell? _ _ d0))
  have hW : ∃ W3 : World, ((w1.alloc (.cells #[.string ⟨#[]⟩, .int .i64 1, .int .i64 kk, .int .i64 1, .bool false, .int .u64 0, .int .u64 0] 35)).alloc (.cells #[.string ⟨#[]⟩, .int .i64 2, .int .i64 kk, .int .i64 1, .bool false, .int .u64 0, .int .u64 0] 35)).alloc (.cells #[.string ⟨#[]⟩, .int .i64 0, .int .i64 kk, .int .i64 1, .bool false, .int .u64 0, .int .u64 0] 35) = W3 ∧ SyAt W3 w1.heap.size ⟨⟨#[]⟩, 1, kk, 1, false, 0, 0⟩ ∧ SyAt W3 (w1.heap.size + 1) ⟨⟨#[]⟩, 2, kk, 1, false, 0, 0⟩ ∧ SyAt W3 (w1.heap.size + 1 + 1) ⟨⟨#[]⟩, 0, kk, 1, false, 0, 0⟩ ∧ Below w.heap.size w W3 := by
    refine ⟨_, rfl, ((SyAt.new w1 ⟨⟨#[]⟩, 1, kk, 1, false, 0, 0⟩).alloc _).alloc _, ?_, ?_, bt HB0.out (bt hb1 ?_)⟩
    · have h := (SyAt.new (w1.alloc (.cells #[.string ⟨#[]⟩, .int .i64 1, .int .i64 kk, .int .i64 1, .bool false, .int .u64 0, .int .u64 0] 35)) ⟨⟨#[]⟩, 2, kk, 1, false, 0, 0⟩).alloc (.cells #[.string ⟨#[]⟩, .int .i64 0, .int .i64 kk, .int .i64 1, .bool false, .int .u64 0, .int .u64 0] 35)
      rw [World.size_alloc] at h
      exact h
    · have h := SyAt.new ((w1.alloc (.cells #[.string ⟨#[]⟩, .int .i64 1, .int .i64 kk, .int .i64 1, .bool false, .int .u64 0, .int .u64 0] 35)).alloc (.cells #[.string ⟨#[]⟩, .int .i64 2, .int .i64 kk, .int .i64 1, .bool false, .int .u64 0, .int .u64 0] 35)) ⟨⟨#[]⟩, 0, kk, 1, false, 0, 0⟩
      rw [World.size_alloc, World.size_alloc] at h
      exact h
    · exact (((Below.refl _ w1).alloc (Nat.le_refl _) _).alloc (by simp) _).alloc (by simp; omega) _
  obtain ⟨W3, hW3, hs, ht, hu, hbw⟩ := hW
  rw [hW3]
  have E1 := exp_gr ⟨⟨#[]⟩, 1, kk, 1, false, 0, 0⟩ false (by rfl)
  have E2 := exp_gr ⟨⟨#[]⟩, 2, kk, 1, false, 0, 0⟩ false (by rfl)
  have E0 := exp_gr ⟨⟨#[]⟩, 0, kk, 1, false, 0, 0⟩ false (by rfl)
  have O1 := own_gr ⟨⟨#[]⟩, 1, kk, 1, false, 0, 0⟩ false (by rfl)
  have O2 := own_gr ⟨⟨#[]⟩, 2, kk, 1, false, 0, 0⟩ false (by rfl)
  have O0 := own_gr ⟨⟨#[]⟩, 0, kk, 1, false, 0, 0⟩ false (by rfl)
  have HS : Hid (SyAt W3 w1.heap.size ⟨⟨#[]⟩, 1, kk, 1, false, 0, 0⟩) := hs
  have HB : Hid (Below w.heap.size w W3) := hbw
  have mixed := mixedTry
  have s0 := fun n os => (hs.grown n os).1
  have s1 := fun n os => (hs.grown n os).2.1
  have s2 := fun n os => (hs.grown n os).2.2.1
  have s3 := fun n os => (hs.grown n os).2.2.2.1
  have s4 := fun n os => (hs.grown n os).2.2.2.2.1
  have s5 := fun n os => (hs.grown n os).2.2.2.2.2.1
  have s6 := fun n os => (hs.grown n os).2.2.2.2.2.2
  have t0 := fun n os => (ht.grown n os).1
  have t1 := fun n os => (ht.grown n os).2.1
  have t2 := fun n os => (ht.grown n os).2.2.1
  have t3 := fun n os => (ht.grown n os).2.2.2.1
  have t4 := fun n os => (ht.grown n os).2.2.2.2.1
  have t5 := fun n os => (ht.grown n os).2.2.2.2.2.1
  have t6 := fun n os => (ht.grown n os).2.2.2.2.2.2
  have u0 := fun n os => (hu.grown n os).1
  have u1 := fun n os => (hu.grown n os).2.1
  have u2 := fun n os => (hu.grown n os).2.2.1
  have u3 := fun n os => (hu.grown n os).2.2.2.1
  have u4 := fun n os => (hu.grown n os).2.2.2.2.1
  have u5 := fun n os => (hu.grown n os).2.2.2.2.2.1
  have u6 := fun n os => (hu.grown n os).2.2.2.2.2.2
  clear hW3 hs ht hu hbw hb1 d0 d1 d2 d3 hlt S9 hb hk hv
  dsimp only [Sy.val] at *
  go_quiet_grown (first | (go_at_call 13; first | (with_reducible refine Calls.grown_of (Gr.call E1)) | (with_reducible refine Calls.grown_of (Gr.call E2)) | (with_reducible refine Calls.grown_of (Gr.call E0))) | (go_at_call 14; first | (with_reducible refine Calls.grown_of (Gr.call O1)) | (with_reducible refine Calls.grown_of (Gr.call O2)) | (with_reducible refine Calls.grown_of (Gr.call O0))))
  go_wp2
  have hG : Gr W3 (Go.Sort.grow (W3.drewN nq) osq) := ⟨_, _, rfl⟩
  have hs := HS.out.grown nq osq
  have hbw := HB.out.trans (hG.below.mono HB.out.size)
  have HB4 : Hid (Below w.heap.size w (Go.Sort.grow (W3.drewN nq) osq)) := hbw
  clear s0 s1 s2 s3 s4 s5 s6 t0 t1 t2 t3 t4 t5 t6 u0 u1 u2 u3 u4 u5 u6 hG hbw HS HB
  generalize Go.Sort.grow (W3.drewN nq) osq = W4 at *
  have s0 := fun n os => (hs.grown n os).1
  have s1 := fun n os => (hs.grown n os).2.1
  have s2 := fun n os => (hs.grown n os).2.2.1
  have s3 := fun n os => (hs.grown n os).2.2.2.1
  have s4 := fun n os => (hs.grown n os).2.2.2.2.1
  have s5 := fun n os => (hs.grown n os).2.2.2.2.2.1
  have s6 := fun n os => (hs.grown n os).2.2.2.2.2.2
  clear hs
  dsimp only at *
  go_quiet_grown (first | (go_at_call 13; with_reducible refine Calls.grown_of (Gr.call E1)) | (go_at_call 14; with_reducible refine Calls.grown_of (Gr.call O1)))
  go_wp2
  go_ret
  have hG : Gr W4 (Go.Sort.grow (W4.drewN nq) osq) := ⟨_, _, rfl⟩
  exact ⟨rfl, HB4.out.trans (hG.below.mono HB4.out.size)⟩

set_option maxRecDepth 100000 in
set_option maxHeartbeats 8000000 in
theorem binds_f02 (b k v kk x z : Int) (w : World) (hb : bits BinOp.and IntKind.i64 b 1 = 0) (hk : bits BinOp.and IntKind.i64 k 15 = kk) (hv : bits BinOp.and IntKind.i64 v 3 = 2) :
    Calls Try.prog 5 #[.agg #[.int .i64 b, .int .i64 k, .int .i64 v, .bool false, .int .u64 x, .int .u64 z]] w fun e w' => e = .returned (.bool true) ∧ Below w.heap.size w w' := by
  have S9 : ∀ W, Calls Try.prog 9 #[] W fun e w' => e = .returned (.bool true) ∧ Below W.heap.size W w' := speaks_any
  have HX : Hid (∀ W W' : World, Below W.heap.size W W' → ∀ a v, W.cell? a = some v → W'.cell? a = some v) := fun W W' h a v hv => (h.cell (World.block_lt_of_cell? W _ hv)).trans hv
  obtain ⟨w0, hw0⟩ : ∃ w0, w.alloc (.cells #[.int .i64 b, .int .i64 k, .int .i64 v, .bool false, .int .u64 x, .int .u64 z] 39) = w0 := ⟨_, rfl⟩
  have c0 : w0.cell? ⟨w.heap.size, 0, none⟩ = some (.int .i64 b) := by rw [← hw0]; simp [go_sem]
  have c1 : w0.cell? ⟨w.heap.size, 1, none⟩ = some (.int .i64 k) := by rw [← hw0]; simp [go_sem]
  have c2 : w0.cell? ⟨w.heap.size, 2, none⟩ = some (.int .i64 v) := by rw [← hw0]; simp [go_sem]
  have c3 : w0.cell? ⟨w.heap.size, 3, none⟩ = some (.bool false) := by rw [← hw0]; simp [go_sem]
  have HC : Hid (∀ w1, Below w0.heap.size w0 w1 → w1.cell? ⟨w.heap.size, 0, none⟩ = some (.int .i64 b) ∧ w1.cell? ⟨w.heap.size, 1, none⟩ = some (.int .i64 k) ∧ w1.cell? ⟨w.heap.size, 2, none⟩ = some (.int .i64 v) ∧ w1.cell? ⟨w.heap.size, 3, none⟩ = some (.bool false)) := fun w1 h => ⟨HX.out _ _ h _ _ c0, HX.out _ _ h _ _ c1, HX.out _ _ h _ _ c2, HX.out _ _ h _ _ c3⟩
  have H0 : Hid (w.alloc (.cells #[.int .i64 b, .int .i64 k, .int .i64 v, .bool false, .int .u64 x, .int .u64 z] 39) = w0) := hw0
  have HB0 : Hid (Below w.heap.size w w0) := by show Below _ _ _; rw [← hw0]; exact (Below.refl _ w).alloc (Nat.le_refl _) _
  clear hw0 c0 c1 c2 c3
  go_enter Try.func5, Try.ntmps5
  go_wp2_with (first
    | (go_at_call 9; rw [H0.out]; refine (S9 _).mono ?_; rintro e w1 ⟨rfl, hb1⟩; obtain ⟨d0, d1, d2, d3⟩ := HC.out _ hb1; have hlt := World.block_lt_of_cell? _ _ d0))
  have hW : ∃ W3 : World, ((w1.alloc (.cells #[.string ⟨#[]⟩, .int .i64 1, .int .i64 kk, .int .i64 2, .bool false, .int .u64 0, .int .u64 0] 35)).alloc (.cells #[.string ⟨#[]⟩, .int .i64 2, .int .i64 kk, .int .i64 2, .bool false, .int .u64 0, .int .u64 0] 35)).alloc (.cells #[.string ⟨#[]⟩, .int .i64 0, .int .i64 kk, .int .i64 2, .bool false, .int .u64 0, .int .u64 0] 35) = W3 ∧ SyAt W3 w1.heap.size ⟨⟨#[]⟩, 1, kk, 2, false, 0, 0⟩ ∧ SyAt W3 (w1.heap.size + 1) ⟨⟨#[]⟩, 2, kk, 2, false, 0, 0⟩ ∧ SyAt W3 (w1.heap.size + 1 + 1) ⟨⟨#[]⟩, 0, kk, 2, false, 0, 0⟩ ∧ Below w.heap.size w W3 := by
    refine ⟨_, rfl, ((SyAt.new w1 ⟨⟨#[]⟩, 1, kk, 2, false, 0, 0⟩).alloc _).alloc _, ?_, ?_, bt HB0.out (bt hb1 ?_)⟩
    · have h := (SyAt.new (w1.alloc (.cells #[.string ⟨#[]⟩, .int .i64 1, .int .i64 kk, .int .i64 2, .bool false, .int .u64 0, .int .u64 0] 35)) ⟨⟨#[]⟩, 2, kk, 2, false, 0, 0⟩).alloc (.cells #[.string ⟨#[]⟩, .int .i64 0, .int .i64 kk, .int .i64 2, .bool false, .int .u64 0, .int .u64 0] 35)
      rw [World.size_alloc] at h
      exact h
    · have h := SyAt.new ((w1.alloc (.cells #[.string ⟨#[]⟩, .int .i64 1, .int .i64 kk, .int .i64 2, .bool false, .int .u64 0, .int .u64 0] 35)).alloc (.cells #[.string ⟨#[]⟩, .int .i64 2, .int .i64 kk, .int .i64 2, .bool false, .int .u64 0, .int .u64 0] 35)) ⟨⟨#[]⟩, 0, kk, 2, false, 0, 0⟩
      rw [World.size_alloc, World.size_alloc] at h
      exact h
    · exact (((Below.refl _ w1).alloc (Nat.le_refl _) _).alloc (by simp) _).alloc (by simp; omega) _
  obtain ⟨W3, hW3, hs, ht, hu, hbw⟩ := hW
  rw [hW3]
  have E1 := exp_gr ⟨⟨#[]⟩, 1, kk, 2, false, 0, 0⟩ false (by rfl)
  have E2 := exp_gr ⟨⟨#[]⟩, 2, kk, 2, false, 0, 0⟩ false (by rfl)
  have E0 := exp_gr ⟨⟨#[]⟩, 0, kk, 2, false, 0, 0⟩ false (by rfl)
  have O1 := own_gr ⟨⟨#[]⟩, 1, kk, 2, false, 0, 0⟩ false (by rfl)
  have O2 := own_gr ⟨⟨#[]⟩, 2, kk, 2, false, 0, 0⟩ false (by rfl)
  have O0 := own_gr ⟨⟨#[]⟩, 0, kk, 2, false, 0, 0⟩ false (by rfl)
  have HS : Hid (SyAt W3 w1.heap.size ⟨⟨#[]⟩, 1, kk, 2, false, 0, 0⟩) := hs
  have HB : Hid (Below w.heap.size w W3) := hbw
  have mixed := mixedTry
  have s0 := fun n os => (hs.grown n os).1
  have s1 := fun n os => (hs.grown n os).2.1
  have s2 := fun n os => (hs.grown n os).2.2.1
  have s3 := fun n os => (hs.grown n os).2.2.2.1
  have s4 := fun n os => (hs.grown n os).2.2.2.2.1
  have s5 := fun n os => (hs.grown n os).2.2.2.2.2.1
  have s6 := fun n os => (hs.grown n os).2.2.2.2.2.2
  have t0 := fun n os => (ht.grown n os).1
  have t1 := fun n os => (ht.grown n os).2.1
  have t2 := fun n os => (ht.grown n os).2.2.1
  have t3 := fun n os => (ht.grown n os).2.2.2.1
  have t4 := fun n os => (ht.grown n os).2.2.2.2.1
  have t5 := fun n os => (ht.grown n os).2.2.2.2.2.1
  have t6 := fun n os => (ht.grown n os).2.2.2.2.2.2
  have u0 := fun n os => (hu.grown n os).1
  have u1 := fun n os => (hu.grown n os).2.1
  have u2 := fun n os => (hu.grown n os).2.2.1
  have u3 := fun n os => (hu.grown n os).2.2.2.1
  have u4 := fun n os => (hu.grown n os).2.2.2.2.1
  have u5 := fun n os => (hu.grown n os).2.2.2.2.2.1
  have u6 := fun n os => (hu.grown n os).2.2.2.2.2.2
  clear hW3 hs ht hu hbw hb1 d0 d1 d2 d3 hlt S9 hb hk hv
  dsimp only [Sy.val] at *
  go_quiet_grown (first | (go_at_call 13; first | (with_reducible refine Calls.grown_of (Gr.call E1)) | (with_reducible refine Calls.grown_of (Gr.call E2)) | (with_reducible refine Calls.grown_of (Gr.call E0))) | (go_at_call 14; first | (with_reducible refine Calls.grown_of (Gr.call O1)) | (with_reducible refine Calls.grown_of (Gr.call O2)) | (with_reducible refine Calls.grown_of (Gr.call O0))))
  go_wp2
  have hG : Gr W3 (Go.Sort.grow (W3.drewN nq) osq) := ⟨_, _, rfl⟩
  have hs := HS.out.grown nq osq
  have hbw := HB.out.trans (hG.below.mono HB.out.size)
  have HB4 : Hid (Below w.heap.size w (Go.Sort.grow (W3.drewN nq) osq)) := hbw
  clear s0 s1 s2 s3 s4 s5 s6 t0 t1 t2 t3 t4 t5 t6 u0 u1 u2 u3 u4 u5 u6 hG hbw HS HB
  generalize Go.Sort.grow (W3.drewN nq) osq = W4 at *
  have s0 := fun n os => (hs.grown n os).1
  have s1 := fun n os => (hs.grown n os).2.1
  have s2 := fun n os => (hs.grown n os).2.2.1
  have s3 := fun n os => (hs.grown n os).2.2.2.1
  have s4 := fun n os => (hs.grown n os).2.2.2.2.1
  have s5 := fun n os => (hs.grown n os).2.2.2.2.2.1
  have s6 := fun n os => (hs.grown n os).2.2.2.2.2.2
  clear hs
  dsimp only at *
  go_quiet_grown (first | (go_at_call 13; with_reducible refine Calls.grown_of (Gr.call E1)) | (go_at_call 14; with_reducible refine Calls.grown_of (Gr.call O1)))
  go_wp2
  go_ret
  have hG : Gr W4 (Go.Sort.grow (W4.drewN nq) osq) := ⟨_, _, rfl⟩
  exact ⟨rfl, HB4.out.trans (hG.below.mono HB4.out.size)⟩

set_option maxRecDepth 100000 in
set_option maxHeartbeats 8000000 in
theorem binds_f03 (b k v kk x z : Int) (w : World) (hb : bits BinOp.and IntKind.i64 b 1 = 0) (hk : bits BinOp.and IntKind.i64 k 15 = kk) (hv : bits BinOp.and IntKind.i64 v 3 = 3) :
    Calls Try.prog 5 #[.agg #[.int .i64 b, .int .i64 k, .int .i64 v, .bool false, .int .u64 x, .int .u64 z]] w fun e w' => e = .returned (.bool true) ∧ Below w.heap.size w w' := by
  have S9 : ∀ W, Calls Try.prog 9 #[] W fun e w' => e = .returned (.bool true) ∧ Below W.heap.size W w' := speaks_any
  have HX : Hid (∀ W W' : World, Below W.heap.size W W' → ∀ a v, W.cell? a = some v → W'.cell? a = some v) := fun W W' h a v hv => (h.cell (World.block_lt_of_cell? W _ hv)).trans hv
  obtain ⟨w0, hw0⟩ : ∃ w0, w.alloc (.cells #[.int .i64 b, .int .i64 k, .int .i64 v, .bool false, .int .u64 x, .int .u64 z] 39) = w0 := ⟨_, rfl⟩
  have c0 : w0.cell? ⟨w.heap.size, 0, none⟩ = some (.int .i64 b) := by rw [← hw0]; simp [go_sem]
  have c1 : w0.cell? ⟨w.heap.size, 1, none⟩ = some (.int .i64 k) := by rw [← hw0]; simp [go_sem]
  have c2 : w0.cell? ⟨w.heap.size, 2, none⟩ = some (.int .i64 v) := by rw [← hw0]; simp [go_sem]
  have c3 : w0.cell? ⟨w.heap.size, 3, none⟩ = some (.bool false) := by rw [← hw0]; simp [go_sem]
  have HC : Hid (∀ w1, Below w0.heap.size w0 w1 → w1.cell? ⟨w.heap.size, 0, none⟩ = some (.int .i64 b) ∧ w1.cell? ⟨w.heap.size, 1, none⟩ = some (.int .i64 k) ∧ w1.cell? ⟨w.heap.size, 2, none⟩ = some (.int .i64 v) ∧ w1.cell? ⟨w.heap.size, 3, none⟩ = some (.bool false)) := fun w1 h => ⟨HX.out _ _ h _ _ c0, HX.out _ _ h _ _ c1, HX.out _ _ h _ _ c2, HX.out _ _ h _ _ c3⟩
  have H0 : Hid (w.alloc (.cells #[.int .i64 b, .int .i64 k, .int .i64 v, .bool false, .int .u64 x, .int .u64 z] 39) = w0) := hw0
  have HB0 : Hid (Below w.heap.size w w0) := by show Below _ _ _; rw [← hw0]; exact (Below.refl _ w).alloc (Nat.le_refl _) _
  clear hw0 c0 c1 c2 c3
  go_enter Try.func5, Try.ntmps5
  go_wp2_with (first
    | (go_at_call 9; rw [H0.out]; refine (S9 _).mono ?_; rintro e w1 ⟨rfl, hb1⟩; obtain ⟨d0, d1, d2, d3⟩ := HC.out _ hb1; have hlt := World.block_lt_of_cell? _ _ d0))
  have hW : ∃ W3 : World, ((w1.alloc (.cells #[.string ⟨#[]⟩, .int .i64 1, .int .i64 kk, .int .i64 3, .bool false, .int .u64 0, .int .u64 0] 35)).alloc (.cells #[.string ⟨#[]⟩, .int .i64 2, .int .i64 kk, .int .i64 3, .bool false, .int .u64 0, .int .u64 0] 35)).alloc (.cells #[.string ⟨#[]⟩, .int .i64 0, .int .i64 kk, .int .i64 3, .bool false, .int .u64 0, .int .u64 0] 35) = W3 ∧ SyAt W3 w1.heap.size ⟨⟨#[]⟩, 1, kk, 3, false, 0, 0⟩ ∧ SyAt W3 (w1.heap.size + 1) ⟨⟨#[]⟩, 2, kk, 3, false, 0, 0⟩ ∧ SyAt W3 (w1.heap.size + 1 + 1) ⟨⟨#[]⟩, 0, kk, 3, false, 0, 0⟩ ∧ Below w.heap.size w W3 := by
    refine ⟨_, rfl, ((SyAt.new w1 ⟨⟨#[]⟩, 1, kk, 3, false, 0, 0⟩).alloc _).alloc _, ?_, ?_, bt HB0.out (bt hb1 ?_)⟩
    · have h := (SyAt.new (w1.alloc (.cells #[.string ⟨#[]⟩, .int .i64 1, .int .i64 kk, .int .i64 3, .bool false, .int .u64 0, .int .u64 0] 35)) ⟨⟨#[]⟩, 2, kk, 3, false, 0, 0⟩).alloc (.cells #[.string ⟨#[]⟩, .int .i64 0, .int .i64 kk, .int .i64 3, .bool false, .int .u64 0, .int .u64 0] 35)
      rw [World.size_alloc] at h
      exact h
    · have h := SyAt.new ((w1.alloc (.cells #[.string ⟨#[]⟩, .int .i64 1, .int .i64 kk, .int .i64 3, .bool false, .int .u64 0, .int .u64 0] 35)).alloc (.cells #[.string ⟨#[]⟩, .int .i64 2, .int .i64 kk, .int .i64 3, .bool false, .int .u64 0, .int .u64 0] 35)) ⟨⟨#[]⟩, 0, kk, 3, false, 0, 0⟩
      rw [World.size_alloc, World.size_alloc] at h
      exact h
    · exact (((Below.refl _ w1).alloc (Nat.le_refl _) _).alloc (by simp) _).alloc (by simp; omega) _
  obtain ⟨W3, hW3, hs, ht, hu, hbw⟩ := hW
  rw [hW3]
  have E1 := exp_gr ⟨⟨#[]⟩, 1, kk, 3, false, 0, 0⟩ false (by rfl)
  have E2 := exp_gr ⟨⟨#[]⟩, 2, kk, 3, false, 0, 0⟩ false (by rfl)
  have E0 := exp_gr ⟨⟨#[]⟩, 0, kk, 3, false, 0, 0⟩ false (by rfl)
  have O1 := own_gr ⟨⟨#[]⟩, 1, kk, 3, false, 0, 0⟩ false (by rfl)
  have O2 := own_gr ⟨⟨#[]⟩, 2, kk, 3, false, 0, 0⟩ false (by rfl)
  have O0 := own_gr ⟨⟨#[]⟩, 0, kk, 3, false, 0, 0⟩ false (by rfl)
  have HS : Hid (SyAt W3 w1.heap.size ⟨⟨#[]⟩, 1, kk, 3, false, 0, 0⟩) := hs
  have HB : Hid (Below w.heap.size w W3) := hbw
  have mixed := mixedTry
  have s0 := fun n os => (hs.grown n os).1
  have s1 := fun n os => (hs.grown n os).2.1
  have s2 := fun n os => (hs.grown n os).2.2.1
  have s3 := fun n os => (hs.grown n os).2.2.2.1
  have s4 := fun n os => (hs.grown n os).2.2.2.2.1
  have s5 := fun n os => (hs.grown n os).2.2.2.2.2.1
  have s6 := fun n os => (hs.grown n os).2.2.2.2.2.2
  have t0 := fun n os => (ht.grown n os).1
  have t1 := fun n os => (ht.grown n os).2.1
  have t2 := fun n os => (ht.grown n os).2.2.1
  have t3 := fun n os => (ht.grown n os).2.2.2.1
  have t4 := fun n os => (ht.grown n os).2.2.2.2.1
  have t5 := fun n os => (ht.grown n os).2.2.2.2.2.1
  have t6 := fun n os => (ht.grown n os).2.2.2.2.2.2
  have u0 := fun n os => (hu.grown n os).1
  have u1 := fun n os => (hu.grown n os).2.1
  have u2 := fun n os => (hu.grown n os).2.2.1
  have u3 := fun n os => (hu.grown n os).2.2.2.1
  have u4 := fun n os => (hu.grown n os).2.2.2.2.1
  have u5 := fun n os => (hu.grown n os).2.2.2.2.2.1
  have u6 := fun n os => (hu.grown n os).2.2.2.2.2.2
  clear hW3 hs ht hu hbw hb1 d0 d1 d2 d3 hlt S9 hb hk hv
  dsimp only [Sy.val] at *
  go_quiet_grown (first | (go_at_call 13; first | (with_reducible refine Calls.grown_of (Gr.call E1)) | (with_reducible refine Calls.grown_of (Gr.call E2)) | (with_reducible refine Calls.grown_of (Gr.call E0))) | (go_at_call 14; first | (with_reducible refine Calls.grown_of (Gr.call O1)) | (with_reducible refine Calls.grown_of (Gr.call O2)) | (with_reducible refine Calls.grown_of (Gr.call O0))))
  go_wp2
  have hG : Gr W3 (Go.Sort.grow (W3.drewN nq) osq) := ⟨_, _, rfl⟩
  have hs := HS.out.grown nq osq
  have hbw := HB.out.trans (hG.below.mono HB.out.size)
  have HB4 : Hid (Below w.heap.size w (Go.Sort.grow (W3.drewN nq) osq)) := hbw
  clear s0 s1 s2 s3 s4 s5 s6 t0 t1 t2 t3 t4 t5 t6 u0 u1 u2 u3 u4 u5 u6 hG hbw HS HB
  generalize Go.Sort.grow (W3.drewN nq) osq = W4 at *
  have s0 := fun n os => (hs.grown n os).1
  have s1 := fun n os => (hs.grown n os).2.1
  have s2 := fun n os => (hs.grown n os).2.2.1
  have s3 := fun n os => (hs.grown n os).2.2.2.1
  have s4 := fun n os => (hs.grown n os).2.2.2.2.1
  have s5 := fun n os => (hs.grown n os).2.2.2.2.2.1
  have s6 := fun n os => (hs.grown n os).2.2.2.2.2.2
  clear hs
  dsimp only at *
  clear s0 s1 s2 s3 s4 s5 s6 E1 E2 E0 O1 O2 O0
  go_region
  all_goals
    go_wp2
    go_ret
    exact ⟨rfl, HB4.out.drew⟩

end Go.Proofs.Ytackjpmpkklgiaa
