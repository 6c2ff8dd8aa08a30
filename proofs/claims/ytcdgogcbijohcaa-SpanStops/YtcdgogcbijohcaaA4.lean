/-
  Layer 3: whether a set meets a span, and whether it covers one.
-/
import Derived.Test.YtcdgogcbijohcaaA3
namespace Go.Proofs.Ytcdgogcbijohcaa
open Go.RowKit

theorem bt {w a b : World} (h1 : Below w.heap.size w a) (h2 : Below a.heap.size a b) : Below w.heap.size w b := h1.trans (h2.mono h1.size)
theorem b1 {w w' : World} (o : Obj) (h : w' = w.alloc o) : Below w.heap.size w w' := by rw [h]; exact (Below.refl _ w).alloc (Nat.le_refl _) _
theorem b2 {w w' : World} (o p : Obj) (h : w' = (w.alloc o).alloc p) : Below w.heap.size w w' := by rw [h]; exact ((Below.refl _ w).alloc (Nat.le_refl _) _).alloc (by simp) _
theorem b3 {w w' : World} (o p q : Obj) (h : w' = ((w.alloc o).alloc p).alloc q) : Below w.heap.size w w' := by rw [h]; exact (((Below.refl _ w).alloc (Nat.le_refl _) _).alloc (by simp) _).alloc (by simp; omega) _

theorem empty_b (lo hi : Int) (w : World) : Calls Try.prog 27 #[.agg #[.int .u64 lo, .int .u64 hi]] w fun e w' => e = .returned (.bool (decide (hi ≤ lo))) ∧ Below w.heap.size w w' :=
  (empty_any lo hi w).mono fun _ _ h => ⟨h.1, b1 _ h.2⟩
theorem meets_b (lo hi lo2 hi2 : Int) (w : World) : Calls Try.prog 20 #[.agg #[.int .u64 lo, .int .u64 hi], .agg #[.int .u64 lo2, .int .u64 hi2]] w fun e w' => e = .returned (.bool (decide (max lo lo2 < min hi hi2))) ∧ Below w.heap.size w w' :=
  (meets_any lo hi lo2 hi2 w).mono fun _ _ h => ⟨h.1, b2 _ _ h.2⟩
theorem within_b (lo hi lo2 hi2 : Int) (w : World) : Calls Try.prog 21 #[.agg #[.int .u64 lo, .int .u64 hi], .agg #[.int .u64 lo2, .int .u64 hi2]] w fun e w' => e = .returned (.bool (decide (hi ≤ lo) || (decide (lo2 ≤ lo) && decide (hi ≤ hi2)))) ∧ Below w.heap.size w w' :=
  (within_any lo hi lo2 hi2 w).mono fun _ _ h => ⟨h.1, b3 _ _ _ h.2⟩

/-- Does a set meet a span? -/
def metAt (L : List (Int × Int)) (lo hi : Int) : Bool := decide (beh L lo < L.length) && decide (max lo (L.getD (beh L lo) (0, 0)).1 < min hi (L.getD (beh L lo) (0, 0)).2)
/-- Does a set cover a span? -/
def covAt (L : List (Int × Int)) (lo hi : Int) : Bool := decide (hi ≤ lo) || (decide (beh L lo < L.length) && (decide ((L.getD (beh L lo) (0, 0)).1 ≤ lo) && decide (hi ≤ (L.getD (beh L lo) (0, 0)).2)))

theorem five_next {w0 W W' : World} {X B g k : Nat} {lo hi l h : Int} {v : Value} (hb : Below W.heap.size W W')
    (hS : W.cell? ⟨X, 0, none⟩ = some (.int .u64 lo) ∧ W.cell? ⟨X, 1, none⟩ = some (.int .u64 hi) ∧ W.cell? ⟨B, 0, none⟩ = some v ∧ W.cell? ⟨g, k * 2, none⟩ = some (.int .u64 l) ∧ W.cell? ⟨g, k * 2 + 1, none⟩ = some (.int .u64 h) ∧ Below w0.heap.size w0 W) :
    W'.cell? ⟨X, 0, none⟩ = some (.int .u64 lo) ∧ W'.cell? ⟨X, 1, none⟩ = some (.int .u64 hi) ∧ W'.cell? ⟨B, 0, none⟩ = some v ∧ W'.cell? ⟨g, k * 2, none⟩ = some (.int .u64 l) ∧ W'.cell? ⟨g, k * 2 + 1, none⟩ = some (.int .u64 h) ∧ Below w0.heap.size w0 W' := by
  obtain ⟨c1, c2, c3, c4, c5, c6⟩ := hS
  exact ⟨(hb.cell (World.block_lt_of_cell? W _ c1)).trans c1, (hb.cell (World.block_lt_of_cell? W _ c2)).trans c2, (hb.cell (World.block_lt_of_cell? W _ c3)).trans c3, (hb.cell (World.block_lt_of_cell? W _ c4)).trans c4, (hb.cell (World.block_lt_of_cell? W _ c5)).trans c5, bt c6 hb⟩

theorem three_next {w0 W W' : World} {X B : Nat} {lo hi : Int} {v : Value} (hb : Below W.heap.size W W')
    (hS : W.cell? ⟨X, 0, none⟩ = some (.int .u64 lo) ∧ W.cell? ⟨X, 1, none⟩ = some (.int .u64 hi) ∧ W.cell? ⟨B, 0, none⟩ = some v ∧ Below w0.heap.size w0 W) :
    W'.cell? ⟨X, 0, none⟩ = some (.int .u64 lo) ∧ W'.cell? ⟨X, 1, none⟩ = some (.int .u64 hi) ∧ W'.cell? ⟨B, 0, none⟩ = some v ∧ Below w0.heap.size w0 W' := by
  obtain ⟨c1, c2, c3, c6⟩ := hS
  exact ⟨(hb.cell (World.block_lt_of_cell? W _ c1)).trans c1, (hb.cell (World.block_lt_of_cell? W _ c2)).trans c2, (hb.cell (World.block_lt_of_cell? W _ c3)).trans c3, bt c6 hb⟩

set_option maxHeartbeats 400000 in
theorem setMeets_nil (lo hi : Int) (w : World) : Calls Try.prog 11 #[.pointer none, .agg #[.int .u64 lo, .int .u64 hi]] w fun e w' => e = .returned (.bool false) ∧ Below w.heap.size w w' := by
  go_enter Try.func11, Try.ntmps11
  go_wp2
  go_ret
  exact ⟨rfl, b1 _ rfl⟩

set_option maxHeartbeats 400000 in
theorem setCovers_nil (lo hi : Int) (w : World) : Calls Try.prog 9 #[.pointer none, .agg #[.int .u64 lo, .int .u64 hi]] w fun e w' => e = .returned (.bool false) ∧ Below w.heap.size w w' := by
  go_enter Try.func9, Try.ntmps9
  go_wp2
  go_ret
  exact ⟨rfl, b1 _ rfl⟩

theorem box_at (w : World) (lo hi : Int) : (w.alloc (box lo hi)).cell? ⟨w.heap.size, 0, none⟩ = some (.int .u64 lo) ∧ (w.alloc (box lo hi)).cell? ⟨w.heap.size, 1, none⟩ = some (.int .u64 hi) := by
  constructor
  · rw [World.cell?_alloc_at _ _ _ _ (by simp)]; rfl
  · rw [World.cell?_alloc_at _ _ _ _ (by simp)]; rfl

set_option maxRecDepth 100000 in
set_option maxHeartbeats 1600000 in
theorem setMeets_any (B : Nat) (v : Value) (L : List (Int × Int)) (lo hi : Int) (w : World) (h : SetAt w B v L) (hL : L.length ≤ 100000)
    (hs : ∀ a b, a ≤ b → b < L.length → lo < (L.getD a (0, 0)).2 → lo < (L.getD b (0, 0)).2) :
    Calls Try.prog 11 #[.pointer (some ⟨B, 0, none⟩), .agg #[.int .u64 lo, .int .u64 hi]] w fun e w' => e = .returned (.bool (metAt L lo hi)) ∧ Below w.heap.size w w' := by
  obtain ⟨w1, hw1⟩ : ∃ w1, w1 = w.alloc (box lo hi) := ⟨_, rfl⟩
  have hb1 : Below w.heap.size w w1 := b1 _ hw1
  have h1 := h.next hb1
  have hx : w1.cell? ⟨w.heap.size, 0, none⟩ = some (.int .u64 lo) ∧ w1.cell? ⟨w.heap.size, 1, none⟩ = some (.int .u64 hi) := by rw [hw1]; exact box_at w lo hi
  have hBe := behind_any B v L lo w1 h1 hL hs
  obtain ⟨r, hr⟩ : ∃ r, beh L lo = r := ⟨_, rfl⟩
  unfold metAt
  rw [hr] at hBe ⊢
  clear hr hs
  by_cases hlt : r < L.length
  · obtain ⟨g, cap, rfl, hg, hgB, hnc, hcm, hc⟩ := h1.some (by omega)
    have hp : L[r]? = some (L.getD r (0, 0)) := by rw [List.getD_eq_getElem?_getD, List.getElem?_eq_getElem hlt]; rfl
    obtain ⟨cg1, cg2⟩ := hc r _ hp
    generalize (L.getD r (0, 0)).1 = l2 at cg1 ⊢
    generalize (L.getD r (0, 0)).2 = h2 at cg2 ⊢
    have cB := h1.cell
    clear hc hp h1 h
    obtain ⟨n, hn⟩ : ∃ n, L.length = n := ⟨_, rfl⟩
    rw [hn] at hlt cB hnc hL ⊢
    clear hn
    have hri : (r : Int) < (n : Int) := by omega
    have hd : decide (r < n) = true := by simp [hlt]
    rw [hd]
    clear hd
    go_enter Try.func11, Try.ntmps11
    go_wp2_with (go_at_call 28; rw [← hw1]; refine hBe.mono ?_; rintro e w2 ⟨rfl, hb2⟩)
    have hS : w2.cell? ⟨w.heap.size, 0, none⟩ = some (.int .u64 lo) ∧ w2.cell? ⟨w.heap.size, 1, none⟩ = some (.int .u64 hi) ∧ w2.cell? ⟨B, 0, none⟩ = some (.slice (some ⟨g, 0, none⟩) n cap) ∧ w2.cell? ⟨g, r * 2, none⟩ = some (.int .u64 l2) ∧ w2.cell? ⟨g, r * 2 + 1, none⟩ = some (.int .u64 h2) ∧ Below w.heap.size w w2 := five_next hb2 ⟨hx.1, hx.2, cB, cg1, cg2, hb1⟩
    clear hb2 hx cB cg1 cg2 hb1 hBe
    go_region_held3 (fun W => W.cell? ⟨w.heap.size, 0, none⟩ = some (.int .u64 lo) ∧ W.cell? ⟨w.heap.size, 1, none⟩ = some (.int .u64 hi) ∧ W.cell? ⟨B, 0, none⟩ = some (.slice (some ⟨g, 0, none⟩) n cap) ∧ W.cell? ⟨g, r * 2, none⟩ = some (.int .u64 l2) ∧ W.cell? ⟨g, r * 2 + 1, none⟩ = some (.int .u64 h2) ∧ Below w.heap.size w W)
      (first | assumption | (apply five_next; assumption; assumption) | (apply five_next (Below.refl _ _).drew; assumption))
      (first | (go_at_call 20; refine (meets_b _ _ _ _ _).mono ?_; rintro e w3 ⟨rfl, hb3⟩; have hK := five_next hb3 (by assumption)))
    go_wp2
    go_ret
    exact ⟨rfl, hK.2.2.2.2.2⟩
  · have hd : decide (r < L.length) = false := by simp; omega
    rw [hd]
    obtain ⟨b, cap, rfl, hnc, hcm⟩ := h1.none
    have cB := h1.cell
    clear h1 h
    obtain ⟨n, hn⟩ : ∃ n, L.length = n := ⟨_, rfl⟩
    rw [hn] at hlt cB hnc hL
    clear hn hd
    have hri : ¬ (r : Int) < (n : Int) := by omega
    go_enter Try.func11, Try.ntmps11
    go_wp2_with (go_at_call 28; rw [← hw1]; refine hBe.mono ?_; rintro e w2 ⟨rfl, hb2⟩)
    have hS : w2.cell? ⟨w.heap.size, 0, none⟩ = some (.int .u64 lo) ∧ w2.cell? ⟨w.heap.size, 1, none⟩ = some (.int .u64 hi) ∧ w2.cell? ⟨B, 0, none⟩ = some (.slice b n cap) ∧ Below w.heap.size w w2 := three_next hb2 ⟨hx.1, hx.2, cB, hb1⟩
    clear hb2 hx cB hb1 hBe
    obtain ⟨k1, k2, k3, k4⟩ := hS
    go_region
    all_goals go_wp2
    all_goals go_ret
    all_goals exact ⟨rfl, k4.drew⟩

set_option maxRecDepth 100000 in
set_option maxHeartbeats 1600000 in
theorem setCovers_any (B : Nat) (v : Value) (L : List (Int × Int)) (lo hi : Int) (w : World) (h : SetAt w B v L) (hL : L.length ≤ 100000)
    (hne : lo < hi) (hs : ∀ a b, a ≤ b → b < L.length → lo < (L.getD a (0, 0)).2 → lo < (L.getD b (0, 0)).2) :
    Calls Try.prog 9 #[.pointer (some ⟨B, 0, none⟩), .agg #[.int .u64 lo, .int .u64 hi]] w fun e w' => e = .returned (.bool (covAt L lo hi)) ∧ Below w.heap.size w w' := by
  obtain ⟨w1, hw1⟩ : ∃ w1, w1 = w.alloc (box lo hi) := ⟨_, rfl⟩
  have hb1 : Below w.heap.size w w1 := b1 _ hw1
  have h1 := h.next hb1
  have hx : w1.cell? ⟨w.heap.size, 0, none⟩ = some (.int .u64 lo) ∧ w1.cell? ⟨w.heap.size, 1, none⟩ = some (.int .u64 hi) := by rw [hw1]; exact box_at w lo hi
  have hBe := fun w2 (hb : Below w1.heap.size w1 w2) => behind_any B v L lo w2 (h1.next hb) hL hs
  obtain ⟨r, hr⟩ : ∃ r, beh L lo = r := ⟨_, rfl⟩
  unfold covAt
  rw [hr] at hBe ⊢
  have hd0 : decide (hi ≤ lo) = false := by simp; omega
  rw [hd0]
  clear hr hs hd0
  by_cases hlt : r < L.length
  · obtain ⟨g, cap, rfl, hg, hgB, hnc, hcm, hc⟩ := h1.some (by omega)
    have hp : L[r]? = some (L.getD r (0, 0)) := by rw [List.getD_eq_getElem?_getD, List.getElem?_eq_getElem hlt]; rfl
    obtain ⟨cg1, cg2⟩ := hc r _ hp
    generalize (L.getD r (0, 0)).1 = l2 at cg1 ⊢
    generalize (L.getD r (0, 0)).2 = h2 at cg2 ⊢
    have cB := h1.cell
    clear hc hp h1 h
    obtain ⟨n, hn⟩ : ∃ n, L.length = n := ⟨_, rfl⟩
    rw [hn] at hlt cB hnc hL ⊢
    clear hn
    have hri : (r : Int) < (n : Int) := by omega
    have hd : decide (r < n) = true := by simp [hlt]
    rw [hd]
    clear hd
    go_enter Try.func9, Try.ntmps9
    rw [hw1] at hBe hx cB hb1
    rw [hw1] at cg1 cg2
    go_wp2_with (first | (go_at_call 27; refine (empty_b _ _ _).mono ?_; rintro e w1' ⟨rfl, hb1'⟩; have hBe' := hBe _ hb1'; have hx0 := (hb1'.cell (World.block_lt_of_cell? _ _ hx.1)).trans hx.1) | (go_at_call 28; refine hBe'.mono ?_; rintro e w2 ⟨rfl, hb2⟩))
    have hS : w2.cell? ⟨w.heap.size, 0, none⟩ = some (.int .u64 lo) ∧ w2.cell? ⟨w.heap.size, 1, none⟩ = some (.int .u64 hi) ∧ w2.cell? ⟨B, 0, none⟩ = some (.slice (some ⟨g, 0, none⟩) n cap) ∧ w2.cell? ⟨g, r * 2, none⟩ = some (.int .u64 l2) ∧ w2.cell? ⟨g, r * 2 + 1, none⟩ = some (.int .u64 h2) ∧ Below w.heap.size w w2 := five_next (bt hb1' hb2) ⟨hx.1, hx.2, cB, cg1, cg2, hb1⟩
    clear hb2 hb1' hBe' hx0 hx cB cg1 cg2 hb1 hBe
    go_region_held3 (fun W => W.cell? ⟨w.heap.size, 0, none⟩ = some (.int .u64 lo) ∧ W.cell? ⟨w.heap.size, 1, none⟩ = some (.int .u64 hi) ∧ W.cell? ⟨B, 0, none⟩ = some (.slice (some ⟨g, 0, none⟩) n cap) ∧ W.cell? ⟨g, r * 2, none⟩ = some (.int .u64 l2) ∧ W.cell? ⟨g, r * 2 + 1, none⟩ = some (.int .u64 h2) ∧ Below w.heap.size w W)
      (first | assumption | (apply five_next; assumption; assumption) | (apply five_next (Below.refl _ _).drew; assumption))
      (first | (go_at_call 21; refine (within_b _ _ _ _ _).mono ?_; rintro e w3 ⟨rfl, hb3⟩; have hK := five_next hb3 (by assumption)))
    go_wp2
    go_ret
    exact ⟨ret_bool (by simp [show ¬ hi ≤ lo by omega]), hK.2.2.2.2.2⟩
  · have hd : decide (r < L.length) = false := by simp; omega
    rw [hd]
    obtain ⟨b, cap, rfl, hnc, hcm⟩ := h1.none
    have cB := h1.cell
    clear h1 h
    obtain ⟨n, hn⟩ : ∃ n, L.length = n := ⟨_, rfl⟩
    rw [hn] at hlt cB hnc hL
    clear hn hd
    have hri : ¬ (r : Int) < (n : Int) := by omega
    go_enter Try.func9, Try.ntmps9
    rw [hw1] at hBe hx cB hb1
    go_wp2_with (first | (go_at_call 27; refine (empty_b _ _ _).mono ?_; rintro e w1' ⟨rfl, hb1'⟩; have hBe' := hBe _ hb1'; have hx0 := (hb1'.cell (World.block_lt_of_cell? _ _ hx.1)).trans hx.1) | (go_at_call 28; refine hBe'.mono ?_; rintro e w2 ⟨rfl, hb2⟩))
    have hS : w2.cell? ⟨w.heap.size, 0, none⟩ = some (.int .u64 lo) ∧ w2.cell? ⟨w.heap.size, 1, none⟩ = some (.int .u64 hi) ∧ w2.cell? ⟨B, 0, none⟩ = some (.slice b n cap) ∧ Below w.heap.size w w2 := three_next (bt hb1' hb2) ⟨hx.1, hx.2, cB, hb1⟩
    clear hb2 hb1' hBe' hx0 hx cB hb1 hBe
    obtain ⟨k1, k2, k3, k4⟩ := hS
    go_region
    all_goals go_wp2
    all_goals go_ret
    all_goals exact ⟨rfl, k4.drew⟩


set_option maxHeartbeats 400000 in
theorem setCovers_empty (B : Nat) (lo hi : Int) (w : World) (h : hi ≤ lo) : Calls Try.prog 9 #[.pointer (some ⟨B, 0, none⟩), .agg #[.int .u64 lo, .int .u64 hi]] w fun e w' => e = .returned (.bool true) ∧ Below w.heap.size w w' := by
  go_enter Try.func9, Try.ntmps9
  go_wp2_with (go_at_call 27; refine (empty_any _ _ _).mono ?_; rintro e w' ⟨rfl, rfl⟩)
  go_ret
  exact ⟨rfl, b2 _ _ rfl⟩
end Go.Proofs.Ytcdgogcbijohcaa
