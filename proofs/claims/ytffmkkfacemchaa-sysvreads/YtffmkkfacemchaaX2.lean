/-
  Layer 13: the walk of SysvReads.
-/
import Derived.Test.YtffmkkfacemchaaX1
namespace Go.Proofs.Ytffmkkfacemchaa
open Go.RowKit
set_option linter.unusedVariables false

theorem tab_nil (w : World) (h : 0 < w.heap.size) : Tab w none none 0 0 0 0 0 0 0 0 (fun _ => 0) (fun _ => 0) :=
  ⟨fun h => absurd h (by omega), fun h => absurd h (by omega), fun j hj => absurd hj (by omega), fun j hj => absurd hj (by omega), h, h, by omega, by omega, Nat.le_refl _, Nat.le_refl _, fun j hj => absurd hj (by omega), fun j hj => absurd hj (by omega)⟩

theorem loc2 {w2 w3 : World} {x y u v z : Value} (hb : Below ((w2.alloc (.cells #[x, y] 25)).alloc (.cells #[u, v, z] 29)).heap.size ((w2.alloc (.cells #[x, y] 25)).alloc (.cells #[u, v, z] 29)) w3) :
    (w3.heap[w2.heap.size]? = some (.cells #[x, y] 25 (0, 0)) ∧ w3.heap[w2.heap.size + 1]? = some (.cells #[u, v, z] 29 (0, 0))) ∧ (w3.cell? ⟨w2.heap.size, 0, none⟩ = some x ∧ w3.cell? ⟨w2.heap.size, 1, none⟩ = some y) ∧ w3.cell? ⟨w2.heap.size + 1, 0, none⟩ = some u ∧ w3.cell? ⟨w2.heap.size + 1, 1, none⟩ = some v ∧ w3.cell? ⟨w2.heap.size + 1, 2, none⟩ = some z := by
  have h0 : w3.heap[w2.heap.size]? = some (.cells #[x, y] 25 (0, 0)) := (hb.block _ (by simp; omega)).trans ((Below.heap_alloc _ _ _ (by simp)).trans (World.alloc_heap_new w2 _))
  have h1 : w3.heap[w2.heap.size + 1]? = some (.cells #[u, v, z] 29 (0, 0)) := by
    refine (hb.block _ (by simp)).trans ?_
    have := World.alloc_heap_new (w2.alloc (.cells #[x, y] 25)) (.cells #[u, v, z] 29)
    rw [World.size_alloc] at this
    exact this
  exact ⟨⟨h0, h1⟩, cells_of2 h0, three_c h1⟩

set_option maxRecDepth 100000 in
set_option maxHeartbeats 4000000 in
theorem reads_wrong (b : ByteArray) (c a : Int) (w : World) (hc : c ≠ 0) (a0 : 0 ≤ a) (a1 : a < 18446744073709551616) (c0 : 0 ≤ c) (c1 : c ≤ 6)
    (D : ∀ w, Calls Try.prog 10 #[.string b] w fun e w' => e = .returned (.tuple #[tbv (slv none 0 0) (slv none 0 0), flt c a]) ∧ Below w.heap.size w w')
    (R : ∀ w, Calls Try.prog 11 #[.string b] w fun e w' => e = .returned (.tuple #[.slice none 0 0, .slice none 0 0, .int .i64 c, .int .u64 a]) ∧ Below w.heap.size w w') :
    Calls Try.prog 3 #[.string b] w fun e w' => e = .returned (.bool true) ∧ Below w.heap.size w w' := by
  have SN : ∀ W, Calls Try.prog 12 #[.slice none 0 0, .slice none 0 0] W fun e w' => e = .returned (.bool true) ∧ ∃ q, w' = W.drewN q := fun W =>
    same_any none none 0 0 0 0 0 0 0 (fun _ => 0) (fun _ => 0) W (fun h => absurd h (by omega)) (fun h => absurd h (by omega)) (fun j hj => absurd hj (by omega)) (fun j hj => absurd hj (by omega)) (fun j hj => absurd hj (by omega)) (by omega) (Nat.le_refl _) (Nat.le_refl _)
  have PN : ∀ W : World, 0 < W.heap.size → Calls Try.prog 13 #[tbv (slv none 0 0) (slv none 0 0)] W fun e w' => e = .returned (.string ⟨(putL (fun _ => 0) (fun _ => 0) 0 0).toArray⟩) ∧ Below W.heap.size W w' := fun W hW =>
    put_any none none 0 0 0 0 0 0 0 0 (fun _ => 0) (fun _ => 0) W (tab_nil W hW) (by omega) (by omega)
  have wc : IntKind.i64.wrap c = c := by rw [IntKind.wrap_i64]; omega
  go_enter Try.func3, Try.ntmps3
  go_wp2_with (first
    | (go_at_call 9; refine (speaks13_any _).mono ?_; rintro e w1 ⟨rfl, hb1⟩)
    | (go_at_call 10; refine (D _).mono ?_; rintro e w2 ⟨rfl, hb2⟩)
    | (go_at_call 11; refine (R _).mono ?_; rintro e w3 ⟨rfl, hb3⟩; obtain ⟨-, ⟨t0, t1⟩, f0, f1, f2⟩ := loc2 hb3)
    | (go_at_call 12; refine (SN _).mono ?_; rintro e w4 ⟨rfl, q, rfl⟩)
    | (go_at_call 13; refine (PN _ (by show 0 < w3.heap.size; have := hb3.size; simp at this; omega)).mono ?_; rintro e w5 ⟨rfl, hb5⟩))
  go_ret
  refine ⟨rfl, ?_⟩
  have z2 := bt hb1 hb2
  have z3 := bt ((z2.alloc z2.size (.cells #[.slice none 0 0, .slice none 0 0] 25)).alloc (z2.alloc z2.size _).size (.cells #[.int .i64 c, .int .u64 a, .string ⟨#[]⟩] 29)) hb3
  exact bt (below_drewN z3 _) hb5

theorem own_any {W : World} {base n : Nat} {v : Value} {f : Nat → Nat} (h : W.ownsRow base 51 1 v n (u32C f n)) : ∃ a c bl, v = .slice a n c ∧ (0 < n → a = some ⟨bl, 0, none⟩) ∧ RowU W bl 0 n f ∧ n ≤ c ∧ (0 < n → bl < W.heap.size) := by
  rcases h.2 with ⟨rfl, h1⟩ | ⟨g, cap, cur, rfl, _⟩
  · exact ⟨none, 0, 0, by rw [h1], fun h => by omega, fun j hj => by omega, by omega, fun h => by omega⟩
  · exact ⟨_, _, g, rfl, fun _ => rfl, own_row h, (own_cap h).1, fun _ => (own_cap h).2.2⟩
theorem right_facts (b t : ByteArray) (n m : Nat) {w2 w3 : World} {base base3 g c : Nat} {a1 : Option Addr} {x y : Value} (hR : Right b n m) (ht : t = b.extract 0 (8 + 4 * n + 4 * m)) (ha1 : 0 < m → a1 = some ⟨g, n, none⟩)
    (hrow : w2.ownsRow base 51 1 (.slice (some ⟨g, 0, none⟩) (n + m) c) (n + m) (u32C (vN b) (n + m))) (o1 o2 : Obj) (hb3 : Below ((w2.alloc o1).alloc o2).heap.size ((w2.alloc o1).alloc o2) w3)
    (hx : w3.ownsRow base3 51 1 x n (u32C (vN b) n)) (hy : w3.ownsRow base3 51 1 y m (u32C (fun j => vN b (n + j)) m)) :
    ∃ ax cx ay cy, x = .slice ax n cx ∧ y = .slice ay m cy ∧ ∀ W, Below w3.heap.size w3 W →
      Calls Try.prog 12 #[slv (some ⟨g, 0, none⟩) n n, .slice ax n cx] W (fun e w' => e = .returned (.bool true) ∧ ∃ q, w' = W.drewN q) ∧
      Calls Try.prog 12 #[slv a1 m m, .slice ay m cy] W (fun e w' => e = .returned (.bool true) ∧ ∃ q, w' = W.drewN q) ∧
      Calls Try.prog 13 #[tbv (slv (some ⟨g, 0, none⟩) n n) (slv a1 m m)] W (fun e w' => e = .returned (.string t) ∧ Below W.heap.size W w') := by
  obtain ⟨ax, cx, bx, rfl, hax, rx, hcx, lx⟩ := own_any hx
  obtain ⟨ay, cy, bY, rfl, hay, ry, hcy, ly⟩ := own_any hy
  refine ⟨ax, cx, ay, cy, rfl, rfl, fun W hW => ?_⟩
  obtain ⟨R1, R2, R3, R4, R5, R6, R7, R8⟩ := hR
  have hg := own_cap hrow
  have b23 : Below w2.heap.size w2 w3 := bt (((Below.refl _ w2).alloc (Nat.le_refl _) o1).alloc (by simp) o2) hb3
  have b2W : Below w2.heap.size w2 W := bt b23 hW
  have rg : RowU W g 0 (n + m) (vN b) := (own_row hrow).next b2W hg.2.2
  have r1 : RowU W g 0 n (vN b) := fun j hj => rg j (by omega)
  have r2 : RowU W g n m (fun j => vN b (n + j)) := fun j hj => by have := rg (n + j) (by omega); rw [Nat.zero_add] at this; exact this
  have rxW : RowU W bx 0 n (vN b) := fun j hj => (hW.cell (p := ⟨bx, 0 + j, none⟩) (lx (by omega))).trans (rx j hj)
  have ryW : RowU W bY 0 m (fun j => vN b (n + j)) := fun j hj => (hW.cell (p := ⟨bY, 0 + j, none⟩) (ly (by omega))).trans (ry j hj)
  have hgW : g < W.heap.size := Nat.lt_of_lt_of_le hg.2.2 b2W.size
  refine ⟨same_any _ _ n n cx g 0 bx 0 _ _ W (fun _ => rfl) hax r1 rxW (fun _ _ => rfl) (by omega) (Nat.le_refl _) hcx, same_any _ _ m m cy g n bY 0 _ _ W ha1 hay r2 ryW (fun _ _ => rfl) (by omega) (Nat.le_refl _) hcy, ?_⟩
  rw [ht, ← put_read b n m R2 R3 R7]
  exact put_any (some ⟨g, 0, none⟩) a1 n m n m g 0 g n (vN b) (fun j => vN b (n + j)) W ⟨fun _ => rfl, ha1, r1, r2, hgW, hgW, by omega, by omega, Nat.le_refl _, Nat.le_refl _, fun j _ => vN_lt b j, fun j _ => vN_lt b (n + j)⟩ (by omega) (by omega)

set_option maxRecDepth 100000 in
set_option maxHeartbeats 4000000 in
theorem reads_right (b : ByteArray) (n m : Nat) (w : World) (hb : b.size ≤ 9223372036854775807) (hR : Right b n m) (D : ∀ w, Calls Try.prog 10 #[.string b] w (TenP w b n m)) (R : ∀ w, Calls Try.prog 11 #[.string b] w (ElevenP w b n m)) :
    Calls Try.prog 3 #[.string b] w fun e w' => e = .returned (.bool true) ∧ Below w.heap.size w w' := by
  obtain ⟨t, ht⟩ : ∃ t, t = b.extract 0 (8 + 4 * n + 4 * m) := ⟨_, rfl⟩
  have HR : Hid (Right b n m) := hR
  have HT : Hid (t = b.extract 0 (8 + 4 * n + 4 * m)) := ht
  obtain ⟨R1, R2, R3, R4, R5, R6, R7, R8⟩ := hR
  have hts : t.size = 8 + 4 * n + 4 * m := by rw [ht]; simp; omega
  have hte : b.extract 0 t.size = t := by rw [hts]; exact ht.symm
  have htq := teq t
  have hsz : (t.size : Int) = 8 + 4 * (n : Int) + 4 * (m : Int) := by omega
  clear ht R1 R2 R3 R4 R8 hts
  have i1 : IntKind.i64.wrap (4 * (n : Int)) = 4 * (n : Int) := by rw [IntKind.wrap_i64]; omega
  have i2 : IntKind.i64.wrap (4 * (m : Int)) = 4 * (m : Int) := by rw [IntKind.wrap_i64]; omega
  have i3 : IntKind.i64.wrap (8 + 4 * (n : Int)) = 8 + 4 * (n : Int) := by rw [IntKind.wrap_i64]; omega
  have i4 : IntKind.i64.wrap (8 + 4 * (n : Int) + 4 * (m : Int)) = 8 + 4 * (n : Int) + 4 * (m : Int) := by rw [IntKind.wrap_i64]; omega
  have hle : (t.size : Int) ≤ (b.size : Int) := by omega
  go_enter Try.func3, Try.ntmps3
  go_wp2_with (first
    | (go_at_call 9; refine (speaks13_any _).mono ?_; rintro e w1 ⟨rfl, hb1⟩)
    | (go_at_call 10; refine (D _).mono ?_; rintro e w2 ⟨⟨g, c, a1, rfl, ha1, hrow⟩, hb2⟩)
    | (go_at_call 11; refine (R _).mono ?_; rintro e w3 ⟨⟨x, y, rfl, hx, hy⟩, hb3⟩; obtain ⟨-, ⟨t0, t1⟩, f0, f1, f2⟩ := loc2 hb3; obtain ⟨ax, cx, ay, cy, rfl, rfl, FF⟩ := right_facts b t n m HR.out HT.out ha1 hrow _ _ hb3 hx hy; have F0 := FF w3 (Below.refl _ _); have F1 := fun q => FF (w3.drewN q) (below_drewN (Below.refl _ _) q); clear FF hx hy hrow ha1)
    | (go_at_call 12; with_reducible refine F0.1.mono ?_; rintro e w4 ⟨rfl, q, rfl⟩)
    | (go_at_call 12; with_reducible refine (F1 _).2.1.mono ?_; rintro e w4 ⟨rfl, q, rfl⟩)
    | (go_at_call 13; refine (F1 _).2.2.mono ?_; rintro e w5 ⟨rfl, hb5⟩))
  have hq : (t.toList == (b.extract 0 (8 + 4 * n + 4 * m)).toList) = true := by rw [← HT.out]; exact htq
  go_ret
  refine ⟨by rw [hq]; rfl, ?_⟩
  have z2 := bt hb1 hb2
  have z3 := bt ((z2.alloc z2.size (.cells #[slv (some ⟨g, 0, none⟩) n n, slv a1 m m] 25)).alloc (z2.alloc z2.size _).size (.cells #[.int .i64 0, .int .u64 0, .string ⟨#[]⟩] 29)) hb3
  exact bt (below_drewN z3 _) hb5

/-- SysvReads's walk. -/
theorem reads_walk (b : ByteArray) (w : World) (hb : b.size ≤ 9223372036854775807) : Calls Try.prog 3 #[.string b] w fun e w' => e = .returned (.bool true) ∧ Below w.heap.size w w' := by
  rcases read_both b hb with ⟨c, a, hc, a0, a1, c0, c1, D, R⟩ | ⟨n, m, hR, D, R⟩
  · exact reads_wrong b c a w hc a0 a1 c0 c1 D R
  · exact reads_right b n m w hb hR D R
end Go.Proofs.Ytffmkkfacemchaa
