/-
  The statement VersNeeds: its walk.
-/
import Derived.Test.YtnlpncgblegbkaaV3
import Derived.Test.YtnlpncgblegbkaaK3
import Derived.Test.YtnlpncgblegbkaaK5
namespace Go.Proofs.Ytnlpncgblegbkaa
open Go.RowKit
set_option linter.unusedVariables false

theorem ndC_len : ∀ (l : List Nd), (ndC l).length = l.length * 4
  | [] => rfl
  | x :: l => by
    show (x.cells ++ ndC l).length = _
    rw [List.length_append, ndC_len l]
    simp [Nd.cells]
    omega
theorem ndC_at : ∀ (l : List Nd) (i : Nat), i < l.length → ∃ x : Nd, (ndC l)[i * 4]? = some (.int .i64 x.n) ∧ (ndC l)[i * 4 + 1]? = some (.string x.file) ∧ (ndC l)[i * 4 + 2]? = some (.string x.name) ∧ (ndC l)[i * 4 + 3]? = some (.bool x.weak)
  | [], i, h => absurd h (by simp)
  | x :: l, 0, _ => ⟨x, rfl, rfl, rfl, rfl⟩
  | x :: l, i + 1, h => by
    obtain ⟨z, h1, h2, h3, h4⟩ := ndC_at l i (by simpa using h)
    have key : ∀ j, (ndC (x :: l))[(i + 1) * 4 + j]? = (ndC l)[i * 4 + j]? := by
      intro j
      show (x.cells ++ ndC l)[(i + 1) * 4 + j]? = _
      rw [List.getElem?_append_right (by simp [Nd.cells]; omega), show (i + 1) * 4 + j - x.cells.length = i * 4 + j by simp [Nd.cells]; omega]
    exact ⟨z, (key 0).trans h1, (key 1).trans h2, (key 2).trans h3, (key 3).trans h4⟩

/-- Two rows with the same cells. -/
def Pair4 (W : World) (g1 g2 K : Nat) : Prop := ∀ i, i < K → ∃ x : Nd, (W.cell? ⟨g1, i * 4, none⟩ = some (.int .i64 x.n) ∧ W.cell? ⟨g1, i * 4 + 1, none⟩ = some (.string x.file) ∧ W.cell? ⟨g1, i * 4 + 2, none⟩ = some (.string x.name) ∧ W.cell? ⟨g1, i * 4 + 3, none⟩ = some (.bool x.weak)) ∧
  W.cell? ⟨g2, i * 4, none⟩ = some (.int .i64 x.n) ∧ W.cell? ⟨g2, i * 4 + 1, none⟩ = some (.string x.file) ∧ W.cell? ⟨g2, i * 4 + 2, none⟩ = some (.string x.name) ∧ W.cell? ⟨g2, i * 4 + 3, none⟩ = some (.bool x.weak)

set_option maxRecDepth 100000 in
set_option maxHeartbeats 4000000 in
theorem needs_w_long (b names : ByteArray) (n : Int) (w : World) (hbs : b.size ≤ 9223372036854775807) (hns : names.size ≤ 9223372036854775807) (h : 4000 < b.size ∨ 1000 < names.size) :
    Calls Try.prog 5 #[.string b, .string names, .int .i64 n] w fun e w' => e = .returned (.bool true) ∧ Below w.heap.size w w' := by
  by_cases h0 : 4000 < b.size
  · have h1 : (4000 : Int) < (b.size : Int) := by omega
    clear h h0
    go_enter Try.func5, Try.ntmps5
    go_wp2_with (go_at_call 8; refine (speaks12_any _).mono ?_; rintro e w1 ⟨rfl, hb1⟩)
    go_ret
    exact ⟨rfl, hb1⟩
  · have h1 : ¬ (4000 : Int) < (b.size : Int) := by omega
    have h2 : (1000 : Int) < (names.size : Int) := by omega
    clear h h0
    go_enter Try.func5, Try.ntmps5
    go_wp2_with (go_at_call 8; refine (speaks12_any _).mono ?_; rintro e w1 ⟨rfl, hb1⟩)
    go_ret
    exact ⟨rfl, hb1⟩

set_option maxRecDepth 100000 in
set_option maxHeartbeats 4000000 in
theorem needs_w_bad (b names : ByteArray) (n c a : Int) (w : World) (hbs : b.size ≤ 4000) (hns : names.size ≤ 1000)
    (D : ∀ W, Calls Try.prog 13 #[.string b, .string names, .int .i64 n] W fun e w' => e = .returned (.tuple #[.slice none 0 0, flt c a]) ∧ Below W.heap.size W w')
    (R : ∀ W, Calls Try.prog 14 #[.string b, .string names, .int .i64 n] W fun e w' => e = .returned (.tuple #[.slice none 0 0, .int .i64 c, .int .u64 a]) ∧ Below W.heap.size W w') :
    Calls Try.prog 5 #[.string b, .string names, .int .i64 n] w fun e w' => e = .returned (.bool true) ∧ Below w.heap.size w w' := by
  have h1 : ¬ (4000 : Int) < (b.size : Int) := by omega
  have h2 : ¬ (1000 : Int) < (names.size : Int) := by omega
  go_enter Try.func5, Try.ntmps5
  go_wp2_with (first
    | (go_at_call 8; refine (speaks12_any _).mono ?_; rintro e w1 ⟨rfl, hb1⟩)
    | (go_at_call 13; refine (D _).mono ?_; rintro e w2 ⟨rfl, hb2⟩; have hx := range3c w2 c a)
    | (go_at_call 14; refine (R _).mono ?_; rintro e w3 ⟨rfl, hb3⟩; obtain ⟨c0, c1⟩ := flt_next hb3 hx.1 hx.2))
  go_loop [12] (fun i => i = .int .i64 0) (fun i => 0)
  case atStart => exact rfl
  case round =>
    subst hrel
    go_wp2
    go_ret
    refine ⟨rfl, bt hb1 (bt hb2 (bt ?_ hb3))⟩
    exact (Below.refl _ w2).alloc (Nat.le_refl _) _
set_option maxRecDepth 100000 in
set_option maxHeartbeats 8000000 in
theorem needs_w_some (b names : ByteArray) (n : Int) (K : Nat) (cs : List Value) (w : World) (hbs : b.size ≤ 4000) (hns : names.size ≤ 1000) (hK : K ≤ 64) (hK0 : 0 < K)
    (hcs : ∀ i, i < K → ∃ x : Nd, cs[i * 4]? = some (.int .i64 x.n) ∧ cs[i * 4 + 1]? = some (.string x.file) ∧ cs[i * 4 + 2]? = some (.string x.name) ∧ cs[i * 4 + 3]? = some (.bool x.weak))
    (D : ∀ W, Calls Try.prog 13 #[.string b, .string names, .int .i64 n] W fun e w' => ∃ v, e = .returned (.tuple #[v, flt 0 0]) ∧ w'.ownsRow W.heap.size 48 4 v K cs ∧ Below W.heap.size W w')
    (R : ∀ W, Calls Try.prog 14 #[.string b, .string names, .int .i64 n] W fun e w' => ∃ v, e = .returned (.tuple #[v, .int .i64 0, .int .u64 0]) ∧ w'.ownsRow W.heap.size 47 4 v K cs ∧ Below W.heap.size W w') :
    Calls Try.prog 5 #[.string b, .string names, .int .i64 n] w fun e w' => e = .returned (.bool true) ∧ Below w.heap.size w w' := by
  have h1 : ¬ (4000 : Int) < (b.size : Int) := by omega
  have h2 : ¬ (1000 : Int) < (names.size : Int) := by omega
  obtain ⟨k', rfl⟩ : ∃ k', K = k' + 1 := ⟨K - 1, by omega⟩
  have D' : ∀ W, Calls Try.prog 13 #[.string b, .string names, .int .i64 n] W fun e w' => ∃ g cap, e = .returned (.tuple #[.slice (some ⟨g, 0, none⟩) (k' + 1) cap, flt 0 0]) ∧ (k' + 1 ≤ cap ∧ cap ≤ maxLen) ∧ Hid (∀ j, j < (k' + 1) * 4 → w'.cell? ⟨g, j, none⟩ = cs[j]?) ∧ Below W.heap.size W w' := by
    intro W
    refine (D W).mono ?_
    rintro e w' ⟨v, rfl, hr, hB⟩
    rcases hr.2 with ⟨rfl, h0⟩ | ⟨g, cap, cur, rfl, _, _, hc1, hc2, _⟩
    · omega
    · exact ⟨g, cap, rfl, ⟨hc1, hc2⟩, fun j hj => hr.cellAt j hj, hB⟩
  have R' : ∀ W, Calls Try.prog 14 #[.string b, .string names, .int .i64 n] W fun e w' => ∃ g cap, e = .returned (.tuple #[.slice (some ⟨g, 0, none⟩) (k' + 1) cap, .int .i64 0, .int .u64 0]) ∧ (k' + 1 ≤ cap ∧ cap ≤ maxLen) ∧ Hid (∀ j, j < (k' + 1) * 4 → w'.cell? ⟨g, j, none⟩ = cs[j]?) ∧ Below W.heap.size W w' := by
    intro W
    refine (R W).mono ?_
    rintro e w' ⟨v, rfl, hr, hB⟩
    rcases hr.2 with ⟨rfl, h0⟩ | ⟨g, cap, cur, rfl, _, _, hc1, hc2, _⟩
    · omega
    · exact ⟨g, cap, rfl, ⟨hc1, hc2⟩, fun j hj => hr.cellAt j hj, hB⟩
  have HCS : Hid (_) := hcs
  clear D R hcs
  go_enter Try.func5, Try.ntmps5
  go_wp2_with (first
    | (go_at_call 8; refine (speaks12_any _).mono ?_; rintro e w1 ⟨rfl, hb1⟩)
    | (go_at_call 13; refine (D' _).mono ?_; rintro e w2 ⟨g1, cap1, rfl, ⟨k1, m1⟩, HG1, hb2⟩; have hx := range3c w2 0 0)
    | (go_at_call 14; refine (R' _).mono ?_; rintro e w3 ⟨g2, cap2, rfl, ⟨k2, m2⟩, HG2, hb3⟩; obtain ⟨c0, c1⟩ := flt_next hb3 hx.1 hx.2))
  have HB : Hid (Below w.heap.size w w3) := bt hb1 (bt hb2 (bt ((Below.refl _ w2).alloc (Nat.le_refl _) _) hb3))
  have HP : Hid (Pair4 w3 g1 g2 (k' + 1)) := by
    intro i hi
    obtain ⟨z, e1, e2, e3, e4⟩ := HCS.out i hi
    have hbx : Below w2.heap.size w2 w3 := ((Below.refl _ w2).alloc (Nat.le_refl _) (fbox 0 0)).trans (hb3.mono (by simp))
    have up : ∀ j u, j < (k' + 1) * 4 → cs[j]? = some u → w3.cell? ⟨g1, j, none⟩ = some u := fun j u hj hu => by
      have f := (HG1.out j hj).trans hu
      exact (hbx.cell (World.block_lt_of_cell? _ _ f)).trans f
    have up2 : ∀ j u, j < (k' + 1) * 4 → cs[j]? = some u → w3.cell? ⟨g2, j, none⟩ = some u := fun j u hj hu => (HG2.out j hj).trans hu
    exact ⟨z, ⟨up _ _ (by omega) e1, up _ _ (by omega) e2, up _ _ (by omega) e3, up _ _ (by omega) e4⟩, up2 _ _ (by omega) e1, up2 _ _ (by omega) e2, up2 _ _ (by omega) e3, up2 _ _ (by omega) e4⟩
  clear hb1 hb2 hb3 hx c0 c1 D' R'
  have hc1 : cap1 ≤ 9223372036854775807 := by unfold maxLen at m1; omega
  have hc2 : cap2 ≤ 9223372036854775807 := by unfold maxLen at m2; omega
  go_loopw [12] (fun i wr => ∃ k : Nat, k ≤ k' + 1 ∧ i = .int .i64 k ∧ ∃ q, wr = w3.drewN q) (fun i _ => (k' + 1) - (intOf i).toNat)
  case atStart => exact ⟨0, Nat.zero_le _, rfl, 0, rfl⟩
  case round =>
    obtain ⟨k, hk, rfl, q, rfl⟩ := hrel
    by_cases hlt : k < k' + 1
    · obtain ⟨⟨zn, zf, zm, zw⟩, ⟨e1, e2, e3, e4⟩, e5, e6, e7, e8⟩ := HP.out k hlt
      dsimp only at e1 e2 e3 e4 e5 e6 e7 e8
      have hki : (k : Int) < ((k' : Int) + 1) := by omega
      go_wp2
      go_quiet (fail)
      go_wp2
      exact ⟨⟨k + 1, by omega, by go_num, q + nq, rfl⟩, by simp [intOf]; omega⟩
    · have hki : ¬ (k : Int) < ((k' : Int) + 1) := by omega
      go_wp2
      go_ret
      exact ⟨rfl, below_drewN HB.out q⟩

theorem row_none {W : World} {base size : Nat} {e : TypeId} {v : Value} {xs : List Value} (h : W.ownsRow base e size v 0 xs) : ∃ a c, v = .slice a 0 c ∧ (a = none ∧ c = 0 ∨ c ≤ maxLen) := by
  rcases h.2 with ⟨rfl, _⟩ | ⟨g, cap, cur, rfl, _, _, _, hc, _⟩
  · exact ⟨none, 0, rfl, .inl ⟨rfl, rfl⟩⟩
  · exact ⟨_, _, rfl, .inr hc⟩

set_option maxRecDepth 100000 in
set_option maxHeartbeats 4000000 in
theorem needs_w_none (b names : ByteArray) (n : Int) (cs : List Value) (w : World) (hbs : b.size ≤ 4000) (hns : names.size ≤ 1000)
    (D : ∀ W, Calls Try.prog 13 #[.string b, .string names, .int .i64 n] W fun e w' => ∃ v, e = .returned (.tuple #[v, flt 0 0]) ∧ w'.ownsRow W.heap.size 48 4 v 0 cs ∧ Below W.heap.size W w')
    (R : ∀ W, Calls Try.prog 14 #[.string b, .string names, .int .i64 n] W fun e w' => ∃ v, e = .returned (.tuple #[v, .int .i64 0, .int .u64 0]) ∧ w'.ownsRow W.heap.size 47 4 v 0 cs ∧ Below W.heap.size W w') :
    Calls Try.prog 5 #[.string b, .string names, .int .i64 n] w fun e w' => e = .returned (.bool true) ∧ Below w.heap.size w w' := by
  have h1 : ¬ (4000 : Int) < (b.size : Int) := by omega
  have h2 : ¬ (1000 : Int) < (names.size : Int) := by omega
  have D' : ∀ W, Calls Try.prog 13 #[.string b, .string names, .int .i64 n] W fun e w' => ∃ a c, e = .returned (.tuple #[.slice a 0 c, flt 0 0]) ∧ Below W.heap.size W w' := fun W => (D W).mono (by
    rintro e w' ⟨v, rfl, hr, hB⟩
    obtain ⟨a, c, rfl, _⟩ := row_none hr
    exact ⟨a, c, rfl, hB⟩)
  have R' : ∀ W, Calls Try.prog 14 #[.string b, .string names, .int .i64 n] W fun e w' => ∃ a c, e = .returned (.tuple #[.slice a 0 c, .int .i64 0, .int .u64 0]) ∧ Below W.heap.size W w' := fun W => (R W).mono (by
    rintro e w' ⟨v, rfl, hr, hB⟩
    obtain ⟨a, c, rfl, _⟩ := row_none hr
    exact ⟨a, c, rfl, hB⟩)
  clear D R
  go_enter Try.func5, Try.ntmps5
  go_wp2_with (first
    | (go_at_call 8; refine (speaks12_any _).mono ?_; rintro e w1 ⟨rfl, hb1⟩)
    | (go_at_call 13; refine (D' _).mono ?_; rintro e w2 ⟨a1, k1, rfl, hb2⟩; have hx := range3c w2 0 0)
    | (go_at_call 14; refine (R' _).mono ?_; rintro e w3 ⟨a2, k2, rfl, hb3⟩; obtain ⟨c0, c1⟩ := flt_next hb3 hx.1 hx.2))
  go_loop [12] (fun i => i = .int .i64 0) (fun i => 0)
  case atStart => exact rfl
  case round =>
    subst hrel
    go_wp2
    go_ret
    refine ⟨rfl, bt hb1 (bt hb2 (bt ?_ hb3))⟩
    exact (Below.refl _ w2).alloc (Nat.le_refl _) _

theorem runI_len (names file : ByteArray) : ∀ (l : List Pt) (acc L : List Nd), acc.length ≤ 64 → runI names file acc l = .ok L → L.length ≤ 64
  | [], acc, L, h, e => by cases e; exact h
  | x :: l, acc, L, h, e => by
    rw [runI_cons] at e
    cases hs : stepI names file acc x with
    | error cp => obtain ⟨c, p⟩ := cp; rw [hs] at e; cases e
    | ok a =>
      rw [hs] at e
      refine runI_len names file l a L ?_ e
      unfold stepI at hs
      split at hs
      · cases hs
      · split at hs
        · cases hs
        · cases hs; simp; omega
theorem runO_len (b names : ByteArray) : ∀ (l : List Pt) (acc L : List Nd), acc.length ≤ 64 → runO b names acc l = .ok L → L.length ≤ 64
  | [], acc, L, h, e => by cases e; exact h
  | x :: l, acc, L, h, e => by
    rw [runO_cons] at e
    cases hs : stepO b names acc x with
    | error cp => obtain ⟨c, p⟩ := cp; rw [hs] at e; cases e
    | ok a =>
      rw [hs] at e
      refine runO_len b names l a L ?_ e
      unfold stepO at hs
      split at hs
      · cases hs
      · exact runI_len _ _ _ acc a h hs

theorem versneeds_walk (b names : ByteArray) (n : Int) (w : World) (hbs : b.size ≤ 9223372036854775807) (hns : names.size ≤ 9223372036854775807) :
    Calls Try.prog 5 #[.string b, .string names, .int .i64 n] w fun e w' => e = .returned (.bool true) ∧ Below w.heap.size w w' := by
  by_cases hl : 4000 < b.size ∨ 1000 < names.size
  · exact needs_w_long b names n w hbs hns hl
  have hb4 : b.size ≤ 4000 := by omega
  have hn1 : names.size ≤ 1000 := by omega
  by_cases hr : n < 0 ∨ 64 < n
  · exact needs_w_bad b names n 6 0 w hb4 hn1 (fun W => needs_limit b names n W hr) (fun W => refneeds_limit b names n W hr)
  obtain ⟨N, rfl⟩ := Int.eq_ofNat_of_zero_le (show 0 ≤ n by omega)
  have hN : N ≤ 64 := by omega
  have hb : b.size ≤ 140737488351232 := by omega
  have hnm : names.size ≤ 9223372036854775807 := by omega
  have D := fun W => needs_any b names N W hb hnm hN
  have R := fun W => refneeds_any b names N W hb hnm hN
  unfold NeedsPost at D
  unfold RNeedsPost at R
  cases hr : runO b names [] (ptsL b 16 N 0) with
  | error cp =>
    obtain ⟨c, p⟩ := cp
    rw [hr] at D R
    refine needs_w_bad b names N c (p : Int) w hb4 hn1 (fun W => (D W).mono ?_) (fun W => (R W).mono ?_)
    · rintro e w' ⟨⟨l, v, h1, _⟩ | ⟨c', p', h1, he⟩, hB⟩
      · cases h1
      · cases h1; exact ⟨he, hB⟩
    · rintro e w' ⟨⟨l, v, h1, _⟩ | ⟨c', p', h1, he⟩, hB⟩
      · cases h1
      · cases h1; exact ⟨he, hB⟩
  | ok L =>
    rw [hr] at D R
    have D2 : ∀ W, Calls Try.prog 13 #[.string b, .string names, .int .i64 (N : Int)] W fun e w' => (∃ v, e = .returned (.tuple #[v, flt 0 0]) ∧ w'.ownsRow W.heap.size 48 4 v L.length (ndC L) ∧ Below W.heap.size W w') ∧ L.length ≤ 64 := fun W => (D W).mono (by
      rintro e w' ⟨⟨l, v, h1, he, hr, h64⟩ | ⟨c', p', h1, he⟩, hB⟩
      · cases h1; exact ⟨⟨v, he, hr, hB⟩, h64⟩
      · cases h1)
    have R2 : ∀ W, Calls Try.prog 14 #[.string b, .string names, .int .i64 (N : Int)] W fun e w' => ∃ v, e = .returned (.tuple #[v, .int .i64 0, .int .u64 0]) ∧ w'.ownsRow W.heap.size 47 4 v L.length (ndC L) ∧ Below W.heap.size W w' := fun W => (R W).mono (by
      rintro e w' ⟨⟨l, v, h1, he, hr⟩ | ⟨c', p', h1, he⟩, hB⟩
      · cases h1; exact ⟨v, he, hr, hB⟩
      · cases h1)
    have hL : L.length ≤ 64 := runO_len b names _ [] L (by simp) hr
    have D3 := fun W => (D2 W).mono (fun e w' h => h.1)
    by_cases h0 : 0 < L.length
    · exact needs_w_some b names N L.length _ w hb4 hn1 hL h0 (fun i hi => ndC_at L i hi) D3 R2
    · have e0 : L.length = 0 := by omega
      rw [e0] at D3 R2
      exact needs_w_none b names N _ w hb4 hn1 D3 R2
end Go.Proofs.Ytnlpncgblegbkaa
