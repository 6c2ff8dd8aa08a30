/-
  The statement VersDefs: its walk, where nothing is wrong.
-/
import Derived.Test.YtackjpmpkklgiaaV3
namespace Go.Proofs.Ytackjpmpkklgiaa
open Go.RowKit
set_option linter.unusedVariables false

theorem cellsD_at (b names : ByteArray) : ∀ (l : List Pt) (i : Nat), i < l.length → ∃ (d : Int) (t : ByteArray), (cellsD b names l)[i * 2]? = some (.int .i64 d) ∧ (cellsD b names l)[i * 2 + 1]? = some (.string t)
  | [], i, h => absurd h (by simp)
  | x :: l, 0, _ => ⟨_, _, rfl, rfl⟩
  | x :: l, i + 1, h => by
    obtain ⟨d, t, h1, h2⟩ := cellsD_at b names l i (by simpa using h)
    refine ⟨d, t, ?_, ?_⟩
    · show (defC b names x ++ cellsD b names l)[(i + 1) * 2]? = _
      rw [List.getElem?_append_right (by simp [defC]; omega)]
      show (cellsD b names l)[(i + 1) * 2 - 2]? = _
      rw [show (i + 1) * 2 - 2 = i * 2 by omega]; exact h1
    · show (defC b names x ++ cellsD b names l)[(i + 1) * 2 + 1]? = _
      rw [List.getElem?_append_right (by simp [defC]; omega)]
      show (cellsD b names l)[(i + 1) * 2 + 1 - 2]? = _
      rw [show (i + 1) * 2 + 1 - 2 = i * 2 + 1 by omega]; exact h2

/-- Two rows with the same cells. -/
def Pair (W : World) (g1 g2 K : Nat) : Prop := ∀ i, i < K → ∃ (d : Int) (t : ByteArray), (W.cell? ⟨g1, i * 2, none⟩ = some (.int .i64 d) ∧ W.cell? ⟨g1, i * 2 + 1, none⟩ = some (.string t)) ∧ W.cell? ⟨g2, i * 2, none⟩ = some (.int .i64 d) ∧ W.cell? ⟨g2, i * 2 + 1, none⟩ = some (.string t)

set_option maxRecDepth 100000 in
set_option maxHeartbeats 8000000 in
theorem defs_some (b names : ByteArray) (n : Int) (K : Nat) (cs : List Value) (w : World) (hbs : b.size ≤ 4000) (hns : names.size ≤ 1000) (hK : K ≤ 64) (hK0 : 0 < K)
    (hcs : ∀ i, i < K → ∃ (d : Int) (t : ByteArray), cs[i * 2]? = some (.int .i64 d) ∧ cs[i * 2 + 1]? = some (.string t))
    (D : ∀ W, Calls Try.prog 21 #[.string b, .string names, .int .i64 n] W fun e w' => ∃ v, e = .returned (.tuple #[v, flt 0 0]) ∧ w'.ownsRow W.heap.size 57 2 v K cs ∧ Below W.heap.size W w')
    (R : ∀ W, Calls Try.prog 22 #[.string b, .string names, .int .i64 n] W fun e w' => ∃ v, e = .returned (.tuple #[v, .int .i64 0, .int .u64 0]) ∧ w'.ownsRow W.heap.size 56 2 v K cs ∧ Below W.heap.size W w') :
    Calls Try.prog 8 #[.string b, .string names, .int .i64 n] w fun e w' => e = .returned (.bool true) ∧ Below w.heap.size w w' := by
  have h1 : ¬ (4000 : Int) < (b.size : Int) := by omega
  have h2 : ¬ (1000 : Int) < (names.size : Int) := by omega
  obtain ⟨k', rfl⟩ : ∃ k', K = k' + 1 := ⟨K - 1, by omega⟩
  have D' : ∀ W, Calls Try.prog 21 #[.string b, .string names, .int .i64 n] W fun e w' => ∃ g cap, e = .returned (.tuple #[.slice (some ⟨g, 0, none⟩) (k' + 1) cap, flt 0 0]) ∧ (k' + 1 ≤ cap ∧ cap ≤ maxLen) ∧ Hid (∀ j, j < (k' + 1) * 2 → w'.cell? ⟨g, j, none⟩ = cs[j]?) ∧ Below W.heap.size W w' := by
    intro W
    refine (D W).mono ?_
    rintro e w' ⟨v, rfl, hr, hB⟩
    rcases hr.2 with ⟨rfl, h0⟩ | ⟨g, cap, cur, rfl, _, _, hc1, hc2, _⟩
    · omega
    · exact ⟨g, cap, rfl, ⟨hc1, hc2⟩, fun j hj => hr.cellAt j hj, hB⟩
  have R' : ∀ W, Calls Try.prog 22 #[.string b, .string names, .int .i64 n] W fun e w' => ∃ g cap, e = .returned (.tuple #[.slice (some ⟨g, 0, none⟩) (k' + 1) cap, .int .i64 0, .int .u64 0]) ∧ (k' + 1 ≤ cap ∧ cap ≤ maxLen) ∧ Hid (∀ j, j < (k' + 1) * 2 → w'.cell? ⟨g, j, none⟩ = cs[j]?) ∧ Below W.heap.size W w' := by
    intro W
    refine (R W).mono ?_
    rintro e w' ⟨v, rfl, hr, hB⟩
    rcases hr.2 with ⟨rfl, h0⟩ | ⟨g, cap, cur, rfl, _, _, hc1, hc2, _⟩
    · omega
    · exact ⟨g, cap, rfl, ⟨hc1, hc2⟩, fun j hj => hr.cellAt j hj, hB⟩
  have HCS : Hid (_) := hcs
  clear D R hcs
  go_enter Try.func8, Try.ntmps8
  go_wp2_with (first
    | (go_at_call 18; refine (speaks12_any _).mono ?_; rintro e w1 ⟨rfl, hb1⟩)
    | (go_at_call 21; refine (D' _).mono ?_; rintro e w2 ⟨g1, cap1, rfl, ⟨k1, m1⟩, HG1, hb2⟩; have hx := range3c w2 0 0)
    | (go_at_call 22; refine (R' _).mono ?_; rintro e w3 ⟨g2, cap2, rfl, ⟨k2, m2⟩, HG2, hb3⟩; obtain ⟨c0, c1⟩ := flt_next hb3 hx.1 hx.2))
  have HB : Hid (Below w.heap.size w w3) := bt hb1 (bt hb2 (bt ((Below.refl _ w2).alloc (Nat.le_refl _) _) hb3))
  have HP : Hid (Pair w3 g1 g2 (k' + 1)) := by
    intro i hi
    obtain ⟨d, t, e1, e2⟩ := HCS.out i hi
    have hbx : Below w2.heap.size w2 w3 := ((Below.refl _ w2).alloc (Nat.le_refl _) (fbox 0 0)).trans (hb3.mono (by simp))
    have f1 := (HG1.out (i * 2) (by omega)).trans e1
    have f2 := (HG1.out (i * 2 + 1) (by omega)).trans e2
    exact ⟨d, t, ⟨(hbx.cell (World.block_lt_of_cell? _ _ f1)).trans f1, (hbx.cell (World.block_lt_of_cell? _ _ f2)).trans f2⟩, (HG2.out (i * 2) (by omega)).trans e1, (HG2.out (i * 2 + 1) (by omega)).trans e2⟩
  clear hb1 hb2 hb3 hx c0 c1 D' R'
  have hc1 : cap1 ≤ 9223372036854775807 := by unfold maxLen at m1; omega
  have hc2 : cap2 ≤ 9223372036854775807 := by unfold maxLen at m2; omega
  go_loopw [12] (fun i wr => ∃ k : Nat, k ≤ k' + 1 ∧ i = .int .i64 k ∧ ∃ q, wr = w3.drewN q) (fun i _ => (k' + 1) - (intOf i).toNat)
  case atStart => exact ⟨0, Nat.zero_le _, rfl, 0, rfl⟩
  case round =>
    obtain ⟨k, hk, rfl, q, rfl⟩ := hrel
    by_cases hlt : k < k' + 1
    · obtain ⟨d, t, ⟨e1, e2⟩, e3, e4⟩ := HP.out k hlt
      have hki : (k : Int) < ((k' : Int) + 1) := by omega
      go_wp2
      go_quiet (fail)
      go_wp2
      exact ⟨⟨k + 1, by omega, by go_num, q + nq, rfl⟩, by simp [intOf]; omega⟩
    · have hki : ¬ (k : Int) < ((k' : Int) + 1) := by omega
      go_wp2
      go_ret
      exact ⟨rfl, below_drewN HB.out q⟩

theorem row_none {W : World} {base size : Nat} {e : TypeId} {v : Value} {xs : List Value} (h : W.ownsRow base e size v 0 xs) : ∃ a c, v = .slice a 0 c ∧ (a = none ∧ c = 0 ∨ c ≤ maxLen) := by
  rcases h.2 with ⟨rfl, _⟩ | ⟨g, cap, cur, rfl, _, _, _, hc, _⟩
  · exact ⟨none, 0, rfl, .inl ⟨rfl, rfl⟩⟩
  · exact ⟨_, _, rfl, .inr hc⟩

set_option maxRecDepth 100000 in
set_option maxHeartbeats 4000000 in
theorem defs_none (b names : ByteArray) (n : Int) (cs : List Value) (w : World) (hbs : b.size ≤ 4000) (hns : names.size ≤ 1000)
    (D : ∀ W, Calls Try.prog 21 #[.string b, .string names, .int .i64 n] W fun e w' => ∃ v, e = .returned (.tuple #[v, flt 0 0]) ∧ w'.ownsRow W.heap.size 57 2 v 0 cs ∧ Below W.heap.size W w')
    (R : ∀ W, Calls Try.prog 22 #[.string b, .string names, .int .i64 n] W fun e w' => ∃ v, e = .returned (.tuple #[v, .int .i64 0, .int .u64 0]) ∧ w'.ownsRow W.heap.size 56 2 v 0 cs ∧ Below W.heap.size W w') :
    Calls Try.prog 8 #[.string b, .string names, .int .i64 n] w fun e w' => e = .returned (.bool true) ∧ Below w.heap.size w w' := by
  have h1 : ¬ (4000 : Int) < (b.size : Int) := by omega
  have h2 : ¬ (1000 : Int) < (names.size : Int) := by omega
  have D' : ∀ W, Calls Try.prog 21 #[.string b, .string names, .int .i64 n] W fun e w' => ∃ a c, e = .returned (.tuple #[.slice a 0 c, flt 0 0]) ∧ Below W.heap.size W w' := fun W => (D W).mono (by
    rintro e w' ⟨v, rfl, hr, hB⟩
    obtain ⟨a, c, rfl, _⟩ := row_none hr
    exact ⟨a, c, rfl, hB⟩)
  have R' : ∀ W, Calls Try.prog 22 #[.string b, .string names, .int .i64 n] W fun e w' => ∃ a c, e = .returned (.tuple #[.slice a 0 c, .int .i64 0, .int .u64 0]) ∧ Below W.heap.size W w' := fun W => (R W).mono (by
    rintro e w' ⟨v, rfl, hr, hB⟩
    obtain ⟨a, c, rfl, _⟩ := row_none hr
    exact ⟨a, c, rfl, hB⟩)
  clear D R
  go_enter Try.func8, Try.ntmps8
  go_wp2_with (first
    | (go_at_call 18; refine (speaks12_any _).mono ?_; rintro e w1 ⟨rfl, hb1⟩)
    | (go_at_call 21; refine (D' _).mono ?_; rintro e w2 ⟨a1, k1, rfl, hb2⟩; have hx := range3c w2 0 0)
    | (go_at_call 22; refine (R' _).mono ?_; rintro e w3 ⟨a2, k2, rfl, hb3⟩; obtain ⟨c0, c1⟩ := flt_next hb3 hx.1 hx.2))
  go_loop [12] (fun i => i = .int .i64 0) (fun i => 0)
  case atStart => exact rfl
  case round =>
    subst hrel
    go_wp2
    go_ret
    refine ⟨rfl, bt hb1 (bt hb2 (bt ?_ hb3))⟩
    exact (Below.refl _ w2).alloc (Nat.le_refl _) _

theorem bad_exists {α : Type} (f : α → Int) : ∀ (L : List α), (¬ ∀ x ∈ L, f x = 0) → ∃ A y, A ++ [y] <+: L ∧ (∀ x ∈ A, f x = 0) ∧ f y ≠ 0
  | [], h => absurd (fun x hx => by simp at hx) h
  | x :: L, h => by
    by_cases hx : f x = 0
    · have h' : ¬ ∀ y ∈ L, f y = 0 := fun h2 => h (fun y hy => by
        rcases List.mem_cons.1 hy with rfl | hy
        · exact hx
        · exact h2 y hy)
      obtain ⟨A, y, h1, h2, h3⟩ := bad_exists f L h'
      refine ⟨x :: A, y, ?_, ?_, h3⟩
      · obtain ⟨r, hr⟩ := h1
        exact ⟨r, by rw [← hr]; rfl⟩
      · intro z hz
        rcases List.mem_cons.1 hz with rfl | hz
        · exact hx
        · exact h2 z hz
    · exact ⟨[], x, ⟨L, rfl⟩, (fun z hz => by simp at hz), hx⟩

theorem versdefs_walk (b names : ByteArray) (n : Int) (w : World) (hbs : b.size ≤ 9223372036854775807) (hns : names.size ≤ 9223372036854775807) :
    Calls Try.prog 8 #[.string b, .string names, .int .i64 n] w fun e w' => e = .returned (.bool true) ∧ Below w.heap.size w w' := by
  by_cases hl : 4000 < b.size ∨ 1000 < names.size
  · exact defs_long b names n w hbs hns hl
  have hb4 : b.size ≤ 4000 := by omega
  have hn1 : names.size ≤ 1000 := by omega
  by_cases hr : n < 0 ∨ 64 < n
  · exact defs_bad b names n 6 0 w hb4 hn1 (fun W => defs_limit b names n W hr) (fun W => ref_limit b names n W hr)
  obtain ⟨N, rfl⟩ := Int.eq_ofNat_of_zero_le (show 0 ≤ n by omega)
  have hN : N ≤ 64 := by omega
  have hb : b.size ≤ 140737488351232 := by omega
  have hnm : names.size ≤ 140737488351232 := by omega
  have D := fun W => defs_any b names N W hb hnm hN
  have R := fun W => refdefs_any b names N W hb hnm hN
  obtain ⟨f, hf⟩ : ∃ f : Pt → Int, f = fun x => (defF b names x.2 x.1).2 := ⟨_, rfl⟩
  have ff : ∀ x, (defF b names x.2 x.1).2 = f x := fun x => by rw [hf]
  unfold DefsPost at D
  unfold RefPost at R
  simp only [ff] at D R
  clear hf ff
  by_cases hok : ∀ x ∈ ents b hb N, f x = 0
  · have hlen : (ents b hb N).length ≤ 64 := by
      unfold ents
      rw [List.length_map]
      exact Nat.le_trans (entL_length b 20 _ hb N 0 _) hN
    have D2 : ∀ W, Calls Try.prog 21 #[.string b, .string names, .int .i64 (N : Int)] W fun e w' => ∃ v, e = .returned (.tuple #[v, flt 0 0]) ∧ w'.ownsRow W.heap.size 57 2 v (ents b hb N).length (cellsD b names (ents b hb N)) ∧ Below W.heap.size W w' := fun W => (D W).mono (by
      rintro e w' ⟨⟨v, he, hr, _⟩ | ⟨q, x, hp, _, hx, _⟩, hB⟩
      · exact ⟨v, he, hr, hB⟩
      · exact absurd (hok x (hp.subset (by simp))) hx)
    have R2 : ∀ W, Calls Try.prog 22 #[.string b, .string names, .int .i64 (N : Int)] W fun e w' => ∃ v, e = .returned (.tuple #[v, .int .i64 0, .int .u64 0]) ∧ w'.ownsRow W.heap.size 56 2 v (ents b hb N).length (cellsD b names (ents b hb N)) ∧ Below W.heap.size W w' := fun W => (R W).mono (by
      rintro e w' ⟨⟨v, he, hr, _⟩ | ⟨q, x, hp, _, hx, _⟩, hB⟩
      · exact ⟨v, he, hr, hB⟩
      · exact absurd (hok x (hp.subset (by simp))) hx)
    by_cases h0 : 0 < (ents b hb N).length
    · exact defs_some b names N (ents b hb N).length _ w hb4 hn1 hlen h0 (fun i hi => cellsD_at b names _ i hi) D2 R2
    · have e0 : (ents b hb N).length = 0 := by omega
      rw [e0] at D2 R2
      exact defs_none b names N _ w hb4 hn1 D2 R2
  · obtain ⟨A, y, hp, hA, hy⟩ := bad_exists f _ hok
    refine defs_bad b names N (f y) (y.1 : Int) w hb4 hn1 (fun W => (D W).mono ?_) (fun W => (R W).mono ?_)
    · rintro e w' ⟨⟨v, _, _, h2⟩ | ⟨q, x, h1, h2, h3, he⟩, hB⟩
      · exact absurd h2 hok
      · obtain ⟨_, rfl⟩ := bad_unique f _ _ y hp hA hy q x h1 h2 h3
        exact ⟨he, hB⟩
    · rintro e w' ⟨⟨v, _, _, h2⟩ | ⟨q, x, h1, h2, h3, he⟩, hB⟩
      · exact absurd h2 hok
      · obtain ⟨_, rfl⟩ := bad_unique f _ _ y hp hA hy q x h1 h2 h3
        exact ⟨he, hB⟩
end Go.Proofs.Ytackjpmpkklgiaa
