/-
  Layer 13: Read of bytes that are wrong ahead of the numbers.
-/
import Derived.Test.YtffmkkfacemchaaQ2
namespace Go.Proofs.Ytffmkkfacemchaa
open Go.RowKit
set_option linter.unusedVariables false

theorem results_two_mid {P : Program} {fn : Func} {p u : Tmp} {t1 t2 : TypeId} (h : fn.results = #[.cell p t1, .cell u t2]) (tmps : Array Value) (w : World) (b1 b2 : Nat) (cs1 cs2 : List Value) (d1 d2 : TypeDesc)
    (hp : tmps.getD p undef = .pointer (some ⟨b1, 0, none⟩)) (hu : tmps.getD u undef = .pointer (some ⟨b2, 0, none⟩))
    (hc1 : w.rangeAt b1 0 cs1) (hu1 : P.underlying t1 = some d1) (hd1 : d1.isRow = true) (hi1 : (P.info? t1).map (·.size) = some cs1.length)
    (hc2 : w.rangeAt b2 0 cs2) (hu2 : P.underlying t2 = some d2) (hd2 : d2.isRow = true) (hi2 : (P.info? t2).map (·.size) = some cs2.length) :
    (results fn tmps).run P w = .ok (.tuple #[.agg cs1.toArray, .agg cs2.toArray]) w := by
  have hp' : tmps[p]?.getD undef = .pointer (some ⟨b1, 0, none⟩) := by simpa using hp
  have hu' : tmps[u]?.getD undef = .pointer (some ⟨b2, 0, none⟩) := by simpa using hu
  simp [results, h, hp', hu', asAddr, run_loadVar_mid w b1 0 t1 cs1 d1 hc1 hu1 hd1 hi1, run_loadVar_mid w b2 0 t2 cs2 d2 hc2 hu2 hd2 hi2, Result.andThen]

theorem two_al (w : World) (o0 o1 o2 : Obj) : (((w.alloc o0).alloc o1).alloc o2).heap[w.heap.size]? = some o0 ∧ (((w.alloc o0).alloc o1).alloc o2).heap[w.heap.size + 1]? = some o1 := by
  constructor
  · exact (Below.heap_alloc _ _ _ (by simp; omega)).trans ((Below.heap_alloc _ _ _ (by simp)).trans (World.alloc_heap_new w o0))
  · have h := World.alloc_heap_new (w.alloc o0) o1
    rw [World.size_alloc] at h
    exact (Below.heap_alloc _ _ _ (by simp)).trans h
theorem three_c {W : World} {B : Nat} {x y z : Value} (h : W.heap[B]? = some (.cells #[x, y, z] 29 (0, 0))) : W.cell? ⟨B, 0, none⟩ = some x ∧ W.cell? ⟨B, 1, none⟩ = some y ∧ W.cell? ⟨B, 2, none⟩ = some z := by
  refine ⟨?_, ?_, ?_⟩ <;> simp [World.cell?, h]
set_option maxRecDepth 100000 in
set_option maxHeartbeats 2000000 in
theorem read_short (b : ByteArray) (w : World) (hb : b.size ≤ 9223372036854775807) (h : b.size < 8) : Calls Try.prog 10 #[.string b] w fun e w' => e = .returned (.tuple #[tbv (.slice none 0 0) (.slice none 0 0), flt 2 0]) ∧ Below w.heap.size w w' := by
  have hs : (b.size : Int) < 8 := by omega
  clear h
  go_enter Try.func10, Try.ntmps10
  go_wp2_with (go_at_call 34; refine (of_any _ _).mono ?_; rintro e w' ⟨rfl, rfl⟩)
  refine ⟨rfl, _, results_two_mid (fn := Try.f10) rfl _ _ w.heap.size (w.heap.size + 1) _ _ _ _ rfl rfl (range2 (two_al w _ _ _).1) Try.underlying25 rfl info25 (range3 (three_c (two_al w _ _ _).2).1 (three_c (two_al w _ _ _).2).2.1 (three_c (two_al w _ _ _).2).2.2) Try.underlying29 rfl info27, rfl, ?_⟩
  exact (((Below.refl _ w).alloc (Nat.le_refl _) _).alloc (by simp) _).alloc (by simp; omega) _

set_option maxRecDepth 100000 in
set_option maxHeartbeats 8000000 in
theorem read_bad (b : ByteArray) (w : World) (hb : b.size ≤ 9223372036854775807) (h8 : 8 ≤ b.size) (x y : Int) (hx : num (b.extract 0 4) = x) (hy : num (b.extract 4 8) = y) (x0 : 0 ≤ x) (x1 : x < 4294967296) (y0 : 0 ≤ y) (y1 : y < 4294967296) (c : Int)
    (h : (x = 0 ∧ c = 4) ∨ (x ≠ 0 ∧ 256 < x ∧ c = 6) ∨ (x ≠ 0 ∧ x ≤ 256 ∧ 256 < y ∧ c = 6) ∨ (x ≠ 0 ∧ x ≤ 256 ∧ y ≤ 256 ∧ (b.size : Int) < 8 + 4 * x + 4 * y ∧ c = 2)) : Calls Try.prog 10 #[.string b] w fun e w' => e = .returned (.tuple #[tbv (.slice none 0 0) (.slice none 0 0), flt c 0]) ∧ Below w.heap.size w w' := by
  have hs : ¬ (b.size : Int) < 8 := by omega
  have h4i : (4 : Int) ≤ (b.size : Int) := by omega
  have h8i : (8 : Int) ≤ (b.size : Int) := by omega
  have z0 : (b.extract 0 4).size ≤ maxLen := by unfold maxLen; simp; omega
  have z1 : (b.extract 4 8).size ≤ maxLen := by unfold maxLen; simp; omega
  have G0 := fun W => get_any (b.extract 0 4) W z0
  have G1 := fun W => get_any (b.extract 4 8) W z1
  rw [hx] at G0
  rw [hy] at G1
  clear hx hy h8 z0 z1
  rcases h with ⟨rfl, rfl⟩ | ⟨i0, i1, rfl⟩ | ⟨i0, i1, i2, rfl⟩ | ⟨i0, i1, i2, i3, rfl⟩
  · go_enter Try.func10, Try.ntmps10
    go_wp2
    go_region_with (first | (go_at_call 35; with_reducible refine (G0 _).mono ?_; rintro e w' ⟨rfl, rfl⟩) | (go_at_call 35; with_reducible refine (G1 _).mono ?_; rintro e w' ⟨rfl, rfl⟩))
    all_goals go_wp2_with (first | (go_at_call 34; refine (of_any _ _).mono ?_; rintro e w' ⟨rfl, rfl⟩) | fail)
    all_goals exact ⟨rfl, _, results_two_mid (fn := Try.f10) rfl _ _ w.heap.size (w.heap.size + 1) _ _ _ _ rfl rfl (range2 (four w _ _ _ _).1) Try.underlying25 rfl info25 (range3 (three_c (four w _ _ _ _).2.1).1 (three_c (four w _ _ _ _).2.1).2.1 (three_c (four w _ _ _ _).2.1).2.2) Try.underlying29 rfl info27, rfl, (four w _ _ _ _).2.2.2.2⟩
  · go_enter Try.func10, Try.ntmps10
    go_wp2
    go_region_with (first | (go_at_call 35; with_reducible refine (G0 _).mono ?_; rintro e w' ⟨rfl, rfl⟩) | (go_at_call 35; with_reducible refine (G1 _).mono ?_; rintro e w' ⟨rfl, rfl⟩))
    all_goals go_wp2_with (first | (go_at_call 34; refine (of_any _ _).mono ?_; rintro e w' ⟨rfl, rfl⟩) | fail)
    all_goals exact ⟨rfl, _, results_two_mid (fn := Try.f10) rfl _ _ w.heap.size (w.heap.size + 1) _ _ _ _ rfl rfl (range2 (four w _ _ _ _).1) Try.underlying25 rfl info25 (range3 (three_c (four w _ _ _ _).2.1).1 (three_c (four w _ _ _ _).2.1).2.1 (three_c (four w _ _ _ _).2.1).2.2) Try.underlying29 rfl info27, rfl, (four w _ _ _ _).2.2.2.2⟩
  · have i1' : ¬ 256 < x := by omega
    go_enter Try.func10, Try.ntmps10
    go_wp2
    go_region_with (first | (go_at_call 35; with_reducible refine (G0 _).mono ?_; rintro e w' ⟨rfl, rfl⟩) | (go_at_call 35; with_reducible refine (G1 _).mono ?_; rintro e w' ⟨rfl, rfl⟩))
    all_goals go_wp2_with (first | (go_at_call 34; refine (of_any _ _).mono ?_; rintro e w' ⟨rfl, rfl⟩) | fail)
    all_goals exact ⟨rfl, _, results_two_mid (fn := Try.f10) rfl _ _ w.heap.size (w.heap.size + 1) _ _ _ _ rfl rfl (range2 (four w _ _ _ _).1) Try.underlying25 rfl info25 (range3 (three_c (four w _ _ _ _).2.1).1 (three_c (four w _ _ _ _).2.1).2.1 (three_c (four w _ _ _ _).2.1).2.2) Try.underlying29 rfl info27, rfl, (four w _ _ _ _).2.2.2.2⟩
  · have i1' : ¬ 256 < x := by omega
    have i2' : ¬ 256 < y := by omega
    have u1 : IntKind.u64.wrap (x + y) = x + y := wrapu64 _ (by omega) (by omega)
    have u2 : IntKind.u64.wrap ((x + y) * 4) = (x + y) * 4 := wrapu64 _ (by omega) (by omega)
    have PN := fun W => part_no b 8 ((x + y) * 4) W hb (by omega) (by omega) (by omega)
    go_enter Try.func10, Try.ntmps10
    go_wp2
    go_region_with (first | (go_at_call 35; with_reducible refine (G0 _).mono ?_; rintro e w' ⟨rfl, rfl⟩) | (go_at_call 35; with_reducible refine (G1 _).mono ?_; rintro e w' ⟨rfl, rfl⟩))
    all_goals go_wp2_with (first | (go_at_call 34; refine (of_any _ _).mono ?_; rintro e w' ⟨rfl, rfl⟩) | (go_at_call 36; refine (PN _).mono ?_; rintro e w' ⟨rfl, rfl⟩))
    all_goals exact ⟨rfl, _, results_two_mid (fn := Try.f10) rfl _ _ w.heap.size (w.heap.size + 1) _ _ _ _ rfl rfl (range2 (four w _ _ _ _).1) Try.underlying25 rfl info25 (range3 (three_c (four w _ _ _ _).2.1).1 (three_c (four w _ _ _ _).2.1).2.1 (three_c (four w _ _ _ _).2.1).2.2) Try.underlying29 rfl info27, rfl, (four w _ _ _ _).2.2.2.2⟩
end Go.Proofs.Ytffmkkfacemchaa
