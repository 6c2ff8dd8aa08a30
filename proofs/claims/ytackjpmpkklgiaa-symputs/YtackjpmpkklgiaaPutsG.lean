/-
  The statement SymPuts: its walk, where there is such a symbol.
-/
import Derived.Test.YtackjpmpkklgiaaPutsB
namespace Go.Proofs.Ytackjpmpkklgiaa
open Go.RowKit
set_option linter.unusedVariables false

theorem SyAt.next {W W' : World} {B : Nat} {s : Sy} (hb : Below W.heap.size W W') (h : SyAt W B s) : SyAt W' B s := by
  have k : ∀ {a : Addr} {v}, W.cell? a = some v → W'.cell? a = some v := fun hc => (hb.cell (World.block_lt_of_cell? _ _ hc)).trans hc
  obtain ⟨h0, h1, h2, h3, h4, h5, h6⟩ := h
  exact ⟨k h0, k h1, k h2, k h3, k h4, k h5, k h6⟩

theorem tab_ab : txt ⟨#[97, 98, 0]⟩ ((0 : Nat) : Int) 32 = (⟨#[97, 98]⟩, true) := by kernel_rfl

/-- One symbol, read again with another name. -/
theorem read_one (b k v x z : Nat) (d : Bool) (W : World) (hb : b ≤ 2) (hk : k ≤ 15) (hv : v ≤ 3) (hx : x < 18446744073709551616) (hz : z < 18446744073709551616) :
    Calls Try.prog 10 #[.string (symB b k v d x z 0), .string ⟨#[97, 98, 0]⟩] W fun e w' => ∃ g cap, e = .returned (.tuple #[.slice (some ⟨g, 0, none⟩) 1 cap, flt 0 0]) ∧ SyAt w' g ⟨⟨#[97, 98]⟩, (b : Int), (k : Int), (v : Int), d, (x : Int), (z : Int)⟩ ∧ W.heap.size ≤ g ∧ Below W.heap.size W w' := by
  have hs : symF (symB b k v d x z 0) ⟨#[97, 98, 0]⟩ = (⟨⟨#[97, 98]⟩, (b : Int), (k : Int), (v : Int), d, (x : Int), (z : Int)⟩, 0) := symF_symB b k v x z 0 d _ _ hb hk hv hx hz (by omega) tab_ab
  have he : eachL (symB b k v d x z 0) 24 1 = [(0, symB b k v d x z 0)] := by
    show [(0, (symB b k v d x z 0).extract (0 * 24) ((0 + 1) * 24))] = _
    have : (symB b k v d x z 0).extract 0 24 = symB b k v d x z 0 := by
      have h := symB_size b k v x z 0 d
      rw [← h]
      exact ByteArray.extract_zero_size
    rw [show (0 * 24 : Nat) = 0 by omega, show ((0 + 1) * 24 : Nat) = 24 by omega, this]
  refine (read_ok (symB b k v d x z 0) ⟨#[97, 98, 0]⟩ 1 W (by decide) (by rw [symB_size]) (by omega) ?_).mono ?_
  · intro y hy
    rw [he] at hy
    obtain rfl : y = (0, symB b k v d x z 0) := by simpa using hy
    rw [hs]
  · rintro e w' ⟨v', rfl, hr, hB⟩
    rw [he] at hr
    have hc : cellsL ⟨#[97, 98, 0]⟩ [(0, symB b k v d x z 0)] = (⟨⟨#[97, 98]⟩, (b : Int), (k : Int), (v : Int), d, (x : Int), (z : Int)⟩ : Sy).cells := by
      show (symF (symB b k v d x z 0) ⟨#[97, 98, 0]⟩).1.cells ++ [] = _
      rw [hs, List.append_nil]
    rw [hc] at hr
    obtain ⟨g, cap, rfl, hb', hg, hcap, hcell⟩ := row_cells hr
    exact ⟨g, cap, rfl, ⟨hcell 0 (by simp [Sy.cells]), hcell 1 (by simp [Sy.cells]), hcell 2 (by simp [Sy.cells]), hcell 3 (by simp [Sy.cells]), hcell 4 (by simp [Sy.cells]), hcell 5 (by simp [Sy.cells]), hcell 6 (by simp [Sy.cells])⟩, hb', hB⟩

theorem fok_gr (c a : Int) (b : Bool) (h : (c == 0) = b) (W : World) : Calls Try.prog 17 #[flt c a] W fun e w' => e = .returned (.bool b) ∧ Gr W w' :=
  (fok_any c a W).mono fun _ _ h' => ⟨by rw [h'.1, h], gr1 h'.2⟩

/-- The symbol's name is stored. -/
theorem named {X : World} {B g : Nat} {s : Sy} (nm : ByteArray) (h : SyAt X B s) : SyAt (X.setCell ⟨B, 0, none⟩ (.string nm)) B { s with name := nm } := by
  obtain ⟨h0, h1, h2, h3, h4, h5, h6⟩ := h
  refine ⟨?_, ?_, ?_, ?_, ?_, ?_, ?_⟩ <;> simp [go_sem, h0, h1, h2, h3, h4, h5, h6]
theorem SyAt.other {X : World} {B g : Nat} {s : Sy} (v : Value) (h : SyAt X g s) (hne : g ≠ B) : SyAt (X.setCell ⟨B, 0, none⟩ v) g s := by
  have k : ∀ {j u}, X.cell? ⟨g, j, none⟩ = some u → (X.setCell ⟨B, 0, none⟩ v).cell? ⟨g, j, none⟩ = some u := fun {j u} hc => (World.cell?_of_block (a := ⟨g, j, none⟩) (Below.heap_setCell _ _ _ _ hne)).trans hc
  obtain ⟨h0, h1, h2, h3, h4, h5, h6⟩ := h
  exact ⟨k h0, k h1, k h2, k h3, k h4, k h5, k h6⟩

theorem frozen_new {w1 w2 w3 w4 : World} {cs : Array Value} {t : TypeId} (h2 : Below (w1.alloc (.cells cs t)).heap.size (w1.alloc (.cells cs t)) w2) (h3 : Below w2.heap.size w2 w3) (h4 : Below w3.heap.size w3 w4) : w4.frozen? ⟨w1.heap.size, 0, none⟩ = false := by
  have h := bt h2 (bt h3 h4)
  rw [h.frozen (p := ⟨w1.heap.size, 0, none⟩) (by show w1.heap.size < _; simp)]
  simp [go_sem]

set_option maxRecDepth 100000 in
set_option maxHeartbeats 8000000 in
theorem puts_good (b k v x z n : Int) (sB sZ : ByteArray) (d : Bool) (w : World) (hb0 : ¬ b < 0) (hb1 : ¬ 2 < b) (hk0 : ¬ k < 0) (hk1 : ¬ 15 < k) (hv0 : ¬ v < 0) (hv1 : ¬ 3 < v) (hsz : sB.size = 24) (hz4 : (⟨#[0, 0, 0, 0]⟩ : ByteArray) ++ sB.extract 4 24 = sZ)
    (P15 : ∀ W, Calls Try.prog 15 #[(⟨⟨#[]⟩, b, k, v, d, x, z⟩ : Sy).val, .int .u32 n] W fun e w' => e = .returned (.string sB) ∧ Below W.heap.size W w')
    (P16 : ∀ W, Calls Try.prog 16 #[(⟨⟨#[]⟩, b, k, v, d, x, z⟩ : Sy).val, .int .u32 n] W fun e w' => e = .returned (.string sB) ∧ Below W.heap.size W w')
    (R10 : ∀ W, Calls Try.prog 10 #[.string sZ, .string ⟨#[97, 98, 0]⟩] W fun e w' => ∃ g cap, e = .returned (.tuple #[.slice (some ⟨g, 0, none⟩) 1 cap, flt 0 0]) ∧ SyAt w' g ⟨⟨#[97, 98]⟩, b, k, v, d, x, z⟩ ∧ W.heap.size ≤ g ∧ Below W.heap.size W w') :
    Calls Try.prog 4 #[.agg #[.int .i64 b, .int .i64 k, .int .i64 v, .bool d, .int .u64 x, .int .u64 z], .int .u32 n] w fun e w' => e = .returned (.bool true) ∧ Below w.heap.size w w' := by
  obtain ⟨w0, hw0⟩ : ∃ w0, w.alloc (.cells #[.int .i64 b, .int .i64 k, .int .i64 v, .bool d, .int .u64 x, .int .u64 z] 39) = w0 := ⟨_, rfl⟩
  have HX : Hid (w0.cell? ⟨w.heap.size, 0, none⟩ = some (.int .i64 b) ∧ w0.cell? ⟨w.heap.size, 1, none⟩ = some (.int .i64 k) ∧ w0.cell? ⟨w.heap.size, 2, none⟩ = some (.int .i64 v) ∧ w0.cell? ⟨w.heap.size, 3, none⟩ = some (.bool d) ∧ w0.cell? ⟨w.heap.size, 4, none⟩ = some (.int .u64 x) ∧ w0.cell? ⟨w.heap.size, 5, none⟩ = some (.int .u64 z)) := by
    rw [← hw0]
    refine ⟨?_, ?_, ?_, ?_, ?_, ?_⟩ <;> simp [go_sem]
  have H0 : Hid (w.alloc (.cells #[.int .i64 b, .int .i64 k, .int .i64 v, .bool d, .int .u64 x, .int .u64 z] 39) = w0) := hw0
  have HB0 : Hid (Below w.heap.size w w0) := by show Below _ _ _; rw [← hw0]; exact (Below.refl _ w).alloc (Nat.le_refl _) _
  clear hw0
  go_enter Try.func4, Try.ntmps4
  go_wp2_with (first
    | (go_at_call 9; rw [H0.out]; refine (speaks_any _).mono ?_; rintro e w1 ⟨rfl, ha1⟩; have HX1 : Hid (_) := x_next ha1 HX.out; obtain ⟨x0, x1, x2, x3, x4, x5⟩ := HX1.out; have hlt := World.block_lt_of_cell? _ _ x0; have HS1 : Hid (SyAt (w1.alloc (.cells #[.string ⟨#[]⟩, .int .i64 b, .int .i64 k, .int .i64 v, .bool d, .int .u64 x, .int .u64 z] 35)) w1.heap.size ⟨⟨#[]⟩, b, k, v, d, x, z⟩) := SyAt.new w1 ⟨⟨#[]⟩, b, k, v, d, x, z⟩)
    | (go_at_call 15; refine (P15 _).mono ?_; rintro e w2 ⟨rfl, ha2⟩; have HX2 := x_next ha2 (x_next ((Below.refl _ w1).alloc (Nat.le_refl _) _) HX1.out); obtain ⟨y0, y1, y2, y3, y4, y5⟩ := HX2; have HS2 : Hid (SyAt w2 w1.heap.size ⟨⟨#[]⟩, b, k, v, d, x, z⟩) := SyAt.next ha2 HS1.out; obtain ⟨s0, s1, s2, s3, s4, s5, s6⟩ := HS2.out)
    | (go_at_call 16; refine (P16 _).mono ?_; rintro e w3 ⟨rfl, ha3⟩; have HS3 : Hid (SyAt w3 w1.heap.size ⟨⟨#[]⟩, b, k, v, d, x, z⟩) := SyAt.next ha3 HS2.out; clear s0 s1 s2 s3 s4 s5 s6 y0 y1 y2 y3 y4 y5)
    | (go_at_call 10; refine (R10 _).mono ?_; rintro e w4 ⟨g, cap, rfl, hg, hge, ha4⟩; have HS4 : Hid (SyAt w4 w1.heap.size ⟨⟨#[]⟩, b, k, v, d, x, z⟩) := SyAt.next ha4 HS3.out; obtain ⟨r0, r1, r2, r3, r4, r5, r6⟩ := HS4.out; have hl4 := World.block_lt_of_cell? _ _ r0; have hf4 := frozen_new ha2 ha3 ha4; have HG : Hid (SyAt w4 g ⟨⟨#[97, 98]⟩, b, k, v, d, x, z⟩) := hg; clear hg))
  have hne : g ≠ w1.heap.size := by
    have h3 := World.block_lt_of_cell? _ _ HS3.out.1
    show g ≠ w1.heap.size
    have : w1.heap.size < w3.heap.size := h3
    omega
  have hW : ∃ X : World, (w4.setCell ⟨w1.heap.size, 0, none⟩ (.string ⟨#[97, 98]⟩)).alloc (fbox 0 0) = X ∧ SyAt X w1.heap.size ⟨⟨#[97, 98]⟩, b, k, v, d, x, z⟩ ∧ SyAt X g ⟨⟨#[97, 98]⟩, b, k, v, d, x, z⟩ ∧ (X.cell? ⟨w4.heap.size, 0, none⟩ = some (.int .i64 0) ∧ X.cell? ⟨w4.heap.size, 1, none⟩ = some (.int .u64 0) ∧ X.cell? ⟨w4.heap.size, 2, none⟩ = some (.string ⟨#[]⟩)) ∧ Below w.heap.size w X := by
    have hsz : (w4.setCell ⟨w1.heap.size, 0, none⟩ (.string ⟨#[97, 98]⟩)).heap.size = w4.heap.size := World.size_setCell _ _ _
    have hc : ∀ j v, ((w4.setCell ⟨w1.heap.size, 0, none⟩ (.string ⟨#[97, 98]⟩)).alloc (fbox 0 0)).cell? ⟨(w4.setCell ⟨w1.heap.size, 0, none⟩ (.string ⟨#[97, 98]⟩)).heap.size, j, none⟩ = some v → ((w4.setCell ⟨w1.heap.size, 0, none⟩ (.string ⟨#[97, 98]⟩)).alloc (fbox 0 0)).cell? ⟨w4.heap.size, j, none⟩ = some v := fun j v h => by rw [hsz] at h; exact h
    refine ⟨_, rfl, (named (g := g) ⟨#[97, 98]⟩ HS4.out).alloc _, (HG.out.other _ hne).alloc _, ⟨hc 0 _ (by simp [go_sem]), hc 1 _ (by simp [go_sem]), hc 2 _ (by simp [go_sem])⟩, ?_⟩
    have h1 : Below w.heap.size w w1 := bt HB0.out ha1
    have h2 : Below w.heap.size w w4 := bt h1 (bt ((Below.refl _ w1).alloc (Nat.le_refl _) _) (bt ha2 (bt ha3 ha4)))
    have h3 := h2.setCell (p := ⟨w1.heap.size, 0, none⟩) h1.size (.string ⟨#[97, 98]⟩)
    exact h3.alloc h3.size _
  obtain ⟨X, hX, hs, hg, ⟨f0, f1, f2⟩, hbX⟩ := hW
  rw [hX]
  have OK := fok_gr 0 0 true (by rfl)
  have HB : Hid (Below w.heap.size w X) := hbX
  have mixed := mixedTry
  have q0 := fun n os => (hs.grown n os).1
  have q1 := fun n os => (hs.grown n os).2.1
  have q2 := fun n os => (hs.grown n os).2.2.1
  have q3 := fun n os => (hs.grown n os).2.2.2.1
  have q4 := fun n os => (hs.grown n os).2.2.2.2.1
  have q5 := fun n os => (hs.grown n os).2.2.2.2.2.1
  have q6 := fun n os => (hs.grown n os).2.2.2.2.2.2
  have p0 := fun n os => (hg.grown n os).1
  have p1 := fun n os => (hg.grown n os).2.1
  have p2 := fun n os => (hg.grown n os).2.2.1
  have p3 := fun n os => (hg.grown n os).2.2.2.1
  have p4 := fun n os => (hg.grown n os).2.2.2.2.1
  have p5 := fun n os => (hg.grown n os).2.2.2.2.2.1
  have p6 := fun n os => (hg.grown n os).2.2.2.2.2.2
  have g0 := fun n os => Go.cell_grown (World.block_lt_of_cell? _ _ f0) f0 n os
  have g1 := fun n os => Go.cell_grown (World.block_lt_of_cell? _ _ f1) f1 n os
  have g2 := fun n os => Go.cell_grown (World.block_lt_of_cell? _ _ f2) f2 n os
  clear hX hs hg f0 f1 f2 hbX r0 r1 r2 r3 r4 r5 r6 ha1 ha2 ha3 ha4 HS1 HS2 HS3 HS4 HG HX1 x0 x1 x2 x3 x4 x5 P15 P16 R10 hz4 hf4 hl4
  dsimp only at *
  go_quiet_grown (first | (go_at_call 17; with_reducible refine Calls.grown_of (Gr.call OK)))
  go_wp2
  go_ret
  have hG : Gr X (Go.Sort.grow (X.drewN nq) osq) := ⟨_, _, rfl⟩
  exact ⟨rfl, HB.out.trans (hG.below.mono HB.out.size)⟩
end Go.Proofs.Ytackjpmpkklgiaa
