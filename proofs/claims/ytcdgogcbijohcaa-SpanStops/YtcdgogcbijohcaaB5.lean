/-
  The closures of the statement SpanStops, and a set's spans gone through by them.
-/
import Derived.Test.YtcdgogcbijohcaaB4
import Derived.RangeFuncBox
namespace Go.Proofs.Ytcdgogcbijohcaa
open Go.RowKit
set_option linter.unusedVariables false

/-- What has been collected. -/
def JC (w0 : World) (Gb : Nat) (L : List (Int × Int)) (k : Nat) (W : World) : Prop :=
  ∃ v, Boxed W Gb 24 v ∧ W.ownsRow w0.heap.size 33 2 v k (flat (L.take k)) ∧ w0.grownBy W (some Gb)

theorem JC.alloc {w0 W : World} {Gb k : Nat} {L : List (Int × Int)} (h : JC w0 Gb L k W) (o : Obj) : JC w0 Gb L k (W.alloc o) := by
  obtain ⟨v, h1, h2, h3⟩ := h
  exact ⟨v, h1.alloc o, h2.alloc o, h3.trans (World.grownBy_alloc W o _)⟩

set_option maxRecDepth 100000 in
set_option maxHeartbeats 800000 in
theorem yield25 (w0 : World) (Gb k : Nat) (L : List (Int × Int)) (lo hi : Int) (W : World) (h : JC w0 Gb L k W) (hk : L[k]? = some (lo, hi)) (hGb : Gb < w0.heap.size) (hL : L.length ≤ 100000) :
    Calls Try.prog 25 #[.agg #[.int .u64 lo, .int .u64 hi], .pointer (some ⟨Gb, 0, none⟩)] W fun e w' => e = .returned (.bool true) ∧ JC w0 Gb L (k + 1) w' := by
  have hkl : k < L.length := by
    by_cases h : k < L.length
    · exact h
    · rw [List.getElem?_eq_none (by omega)] at hk; cases hk
  have HT : Hid (flat (L.take (k + 1)) = flat (L.take k) ++ flat [(lo, hi)]) := by show _ = _; rw [take_snoc L k _ hk, flat_append]
  obtain ⟨v, hb, hr, hg⟩ := h
  have hgs := hg.size
  obtain ⟨i0, hi0, hz0, hz1, hz2⟩ := info_parts info33
  have hr2 := (hr.alloc (box lo hi)).alloc (box lo hi)
  have hb2 := (hb.alloc (box lo hi)).alloc (box lo hi)
  have hg2 := (hg.trans (World.grownBy_alloc W (box lo hi) _)).trans (World.grownBy_alloc _ (box lo hi) _)
  have hx := box_at (W.alloc (box lo hi)) lo hi
  rw [World.size_alloc] at hx
  have hnews := two_cells hx.1 hx.2
  have hap : some Gb ≠ v.ownBlock := hb.not_row (by decide) hr
  have cb := hb.cell
  have hbl := hb.lt
  have H2 : Hid (Boxed ((W.alloc (box lo hi)).alloc (box lo hi)) Gb 24 v) := hb2
  have G2 : Hid (w0.grownBy ((W.alloc (box lo hi)).alloc (box lo hi)) (some Gb)) := hg2
  have o1 := flat_one [(lo, hi)]
  have m1 : k + 1 ≤ maxLen := by unfold maxLen; omega
  have m2 : (k + 1) * 16 ≤ 140737488355328 := by omega
  have m3 : w0.heap.size ≤ ((W.alloc (box lo hi)).alloc (box lo hi)).heap.size := by simp; omega
  clear hb hr hg hb2 hg2 hx hk
  go_enter Try.func25, Try.ntmps25
  go_wp2_with (at_builtin; refine wpList_append_own_at _ rfl _ _ 24 rfl w0.heap.size 33 i0 _ 2 16 Try.underlying24 hi0 hz0 hz1 hz2 rfl (by decide) v k _ rfl hr2 ⟨W.heap.size + 1, 0, none⟩ 1 1 (flat [(lo, hi)]) rfl rfl hnews o1 m1 m2 m3 ?_; intro v' w1 hown' hgrow _ hlies; obtain ⟨g', cap', rfl⟩ := ownsRow_pos hown' (Nat.succ_pos _); have hB1 := H2.out.kept hgrow hap; have c1 := hB1.cell; have f1 := hB1.frozen)
  go_ret
  refine ⟨rfl, _, hB1.set _, ?_, ?_⟩
  · rw [HT.out]
    exact ownsRow_setCell_other hown' (by
      obtain ⟨_, hv | ⟨q, _, _, e, hq, _⟩⟩ := hown'
      · cases hv.1
      · cases e; intro e2; cases e2; omega) _
  · have hv0 : ∀ q, v.ownBlock = some q → w0.heap.size ≤ q := by
      intro q e
      obtain ⟨_, hv | ⟨q', _, _, e', hq, _⟩⟩ := hr2
      · rw [hv.1] at e; cases e
      · subst e'; cases e; exact hq
    have G := G2.out
    have hs := hgrow.size
    refine ⟨hgrow.os.trans G.os, hgrow.tape.trans G.tape, hgrow.output.trans G.output, ?_, fun q hq hne => ?_⟩
    · rw [World.size_setCell]; exact Nat.le_trans G.size hs
    · rw [Below.heap_setCell _ _ _ _ (fun e => hne (by rw [e]))]
      exact (hgrow.block q (Nat.lt_of_lt_of_le hq G.size) (fun e => by have := hv0 q e.symm; omega)).trans (G.block q hq hne)

/-- How many have come. -/
def JN (w0 : World) (Nb Sb : Nat) (stop : Int) (k : Nat) (W : World) : Prop :=
  Boxed W Nb 3 (.int .i64 k) ∧ Boxed W Sb 3 (.int .i64 stop) ∧ w0.grownBy W (some Nb)
theorem JN.alloc {w0 W : World} {Nb Sb k : Nat} {stop : Int} (h : JN w0 Nb Sb stop k W) (o : Obj) : JN w0 Nb Sb stop k (W.alloc o) :=
  ⟨h.1.alloc o, h.2.1.alloc o, h.2.2.trans (World.grownBy_alloc W o _)⟩

set_option maxHeartbeats 400000 in
theorem yield26 (w0 : World) (Nb Sb k : Nat) (stop lo hi : Int) (W : World) (h : JN w0 Nb Sb stop k W) (hk : k ≤ 100000) (hne : Nb ≠ Sb) :
    Calls Try.prog 26 #[.agg #[.int .u64 lo, .int .u64 hi], .pointer (some ⟨Nb, 0, none⟩), .pointer (some ⟨Sb, 0, none⟩)] W fun e w' => e = .returned (.bool ((k : Int) + 1 != stop)) ∧ JN w0 Nb Sb stop (k + 1) w' := by
  obtain ⟨h1, h2, h3⟩ := h
  have HE : Hid (JN w0 Nb Sb stop (k + 1) ((W.setCell ⟨Nb, 0, none⟩ (.int .i64 ((k : Int) + 1))).alloc (box lo hi))) :=
    ⟨(h1.set _).alloc _, (h2.other (Ne.symm hne) _).alloc _, (h3.trans (grownBy_setCell' W Nb _)).trans (World.grownBy_alloc _ _ _)⟩
  have c1 := h1.cell
  have f1 := h1.frozen
  have l1 := h1.lt
  have c2 := h2.cell
  have l2 := h2.lt
  have hne2 := Ne.symm hne
  clear h1 h2 h3
  go_enter Try.func26, Try.ntmps26
  go_wp2
  go_ret
  exact ⟨rfl, HE.out⟩

/-- A set, where one block has turned that is not of it. -/
theorem set_grown {w W : World} {B Gb : Nat} {v : Value} {L : List (Int × Int)} (h : SetAt w B v L) (hg : w.grownBy W (some Gb)) (h1 : Gb ≠ B) (h2 : v.ownBlock ≠ some Gb) : SetAt W B v L := by
  have hB := hg.block B h.lt (fun e => h1 (by cases e; rfl))
  exact ⟨(World.cell?_of_block (a := ⟨B, 0, none⟩) hB).trans h.cell, (World.frozen?_of_block (a := ⟨B, 0, none⟩) hB).trans h.froz, h.row.kept hg (.inr h2), h.apart⟩

set_option maxRecDepth 100000 in
set_option maxHeartbeats 1600000 in
theorem all_collect (w0 : World) (Gb Bn B : Nat) (v : Value) (L : List (Int × Int)) (hL : L.length ≤ 100000) (hset : SetAt w0 B v L) (hBn : w0.cell? ⟨Bn, 0, none⟩ = some (.pointer (some ⟨B, 0, none⟩))) (hGb : Gb < w0.heap.size) (n1 : Gb ≠ B) (n2 : v.ownBlock ≠ some Gb) (h0 : Boxed w0 Gb 24 (.slice none 0 0)) :
    Calls Try.prog 33 #[.func (.func 25) #[] #[.pointer (some ⟨Gb, 0, none⟩)], .pointer (some ⟨Bn, 0, none⟩)] w0 fun e w' => e = .returned (.tuple #[]) ∧ JC w0 Gb L L.length w' := by
  have cB := hset.cell
  obtain ⟨bq, cap, rfl, hnc, hcm⟩ := hset.none
  have Hs : Hid (SetAt w0 B (.slice bq L.length cap) L) := hset
  clear hset
  have J0 : Hid (JC w0 Gb L 0 w0) := ⟨_, h0, by simpa [flat] using World.ownsRow_nil w0 w0.heap.size 33 2, ⟨rfl, rfl, rfl, Nat.le_refl _, fun _ _ _ => rfl⟩⟩
  obtain ⟨N, hN⟩ : ∃ N, L.length = N := ⟨_, rfl⟩
  have HN : Hid (L.length = N) := hN
  rw [hN] at cB hnc
  clear h0
  have hcap : cap ≤ 9223372036854775807 := by unfold maxLen at hcm; omega
  go_enter Try.func33, Try.ntmps33
  go_wp2
  go_loopw [4, 12] (fun p4 i wr => ∃ k : Nat, k ≤ N ∧ i = .int .i64 k ∧ JC w0 Gb L k wr) (fun _ i _ => N - (intOf i).toNat)
  case atStart => exact ⟨0, Nat.zero_le _, rfl, J0.out⟩
  case round =>
    obtain ⟨k, hk, rfl, hJ⟩ := hrel
    by_cases hlt : k < N
    · have hp : L[k]? = some (L.getD k (0, 0)) := getD_some (by rw [HN.out]; exact hlt)
      obtain ⟨v', _, _, hgr⟩ := id hJ
      have hS := set_grown Hs.out hgr n1 (by simpa using n2)
      obtain ⟨g, cap', he, hg, hgB, _, _, hc⟩ := hS.some (by rw [HN.out]; omega)
      obtain ⟨rfl, rfl⟩ : bq = some ⟨g, 0, none⟩ ∧ cap = cap' := by cases he; exact ⟨rfl, rfl⟩
      obtain ⟨d1, d2⟩ := hc k _ hp
      generalize L.getD k (0, 0) = x at hp d1 d2
      obtain ⟨lo, hi⟩ := x
      have Y := yield25 w0 Gb k L lo hi _ (hJ.alloc (box lo hi)) hp hGb hL
      have hki : (k : Int) < (N : Int) := by omega
      clear hc he hS hgr hp hJ
      go_wp2_with (go_at_call 25; refine Y.mono ?_; rintro e w2 ⟨rfl, hJ2⟩)
      go_roundw
      case rel => exact ⟨k + 1, by omega, by go_num, hJ2⟩
      case measure => simp [intOf]; omega
    · obtain rfl : k = N := by omega
      go_wp2
      go_end0
      exact ⟨rfl, by rw [HN.out]; exact hJ⟩

/-- How many come, where one stops at the stop-th. -/
def comes (all : Nat) (stop : Int) : Nat := if 1 ≤ stop ∧ stop < all then stop.toNat else all
theorem comes_all (all : Nat) (stop : Int) (h : ∀ j : Nat, 1 ≤ j → j ≤ all → (j : Int) ≠ stop) : comes all stop = all := by
  unfold comes
  split
  · have := h stop.toNat (by omega) (by omega); omega
  · rfl
theorem comes_stop (all k : Nat) (stop : Int) (hk : k < all) (h : (k : Int) + 1 = stop) : comes all stop = k + 1 := by
  unfold comes
  split <;> omega

set_option maxRecDepth 100000 in
set_option maxHeartbeats 1600000 in
theorem all_count (w0 : World) (Nb Sb Bn B : Nat) (stop : Int) (v : Value) (L : List (Int × Int)) (hL : L.length ≤ 100000) (hset : SetAt w0 B v L) (hBn : w0.cell? ⟨Bn, 0, none⟩ = some (.pointer (some ⟨B, 0, none⟩))) (n1 : Nb ≠ B) (n2 : v.ownBlock ≠ some Nb) (n3 : Nb ≠ Sb) (h0 : Boxed w0 Nb 3 (.int .i64 0)) (h1 : Boxed w0 Sb 3 (.int .i64 stop)) :
    Calls Try.prog 33 #[.func (.func 26) #[] #[.pointer (some ⟨Nb, 0, none⟩), .pointer (some ⟨Sb, 0, none⟩)], .pointer (some ⟨Bn, 0, none⟩)] w0 fun e w' => e = .returned (.tuple #[]) ∧ JN w0 Nb Sb stop (comes L.length stop) w' := by
  have cB := hset.cell
  obtain ⟨bq, cap, rfl, hnc, hcm⟩ := hset.none
  have Hs : Hid (SetAt w0 B (.slice bq L.length cap) L) := hset
  clear hset
  have J0 : Hid (JN w0 Nb Sb stop 0 w0) := ⟨h0, h1, ⟨rfl, rfl, rfl, Nat.le_refl _, fun _ _ _ => rfl⟩⟩
  obtain ⟨N, hN⟩ : ∃ N, L.length = N := ⟨_, rfl⟩
  have HN : Hid (L.length = N) := hN
  rw [hN] at cB hnc
  have hNL : N ≤ 100000 := by omega
  clear h0 h1
  have hcap : cap ≤ 9223372036854775807 := by unfold maxLen at hcm; omega
  go_enter Try.func33, Try.ntmps33
  go_wp2
  go_loopw [4, 12] (fun p4 i wr => ∃ k : Nat, k ≤ N ∧ i = .int .i64 k ∧ JN w0 Nb Sb stop k wr ∧ Hid (∀ j : Nat, 1 ≤ j → j ≤ k → (j : Int) ≠ stop)) (fun _ i _ => N - (intOf i).toNat)
  case atStart => exact ⟨0, Nat.zero_le _, rfl, J0.out, fun j h1 h2 => by omega⟩
  case round =>
    obtain ⟨k, hk, rfl, hJ, HJ⟩ := hrel
    by_cases hlt : k < N
    · have hp : L[k]? = some (L.getD k (0, 0)) := getD_some (by rw [HN.out]; exact hlt)
      have hS := set_grown Hs.out hJ.2.2 n1 (by simpa using n2)
      obtain ⟨g, cap', he, hg, hgB, _, _, hc⟩ := hS.some (by rw [HN.out]; omega)
      obtain ⟨rfl, rfl⟩ : bq = some ⟨g, 0, none⟩ ∧ cap = cap' := by cases he; exact ⟨rfl, rfl⟩
      obtain ⟨d1, d2⟩ := hc k _ hp
      generalize L.getD k (0, 0) = x at hp d1 d2
      obtain ⟨lo, hi⟩ := x
      have Y := yield26 w0 Nb Sb k stop lo hi _ (hJ.alloc (box lo hi)) (by omega) n3
      have hki : (k : Int) < (N : Int) := by omega
      clear hc he hS hp hJ
      by_cases hst : (k : Int) + 1 = stop
      · have hsb : ((k : Int) + 1 != stop) = false := by simp [hst]
        rw [hsb] at Y
        have HST : Hid ((k : Int) + 1 = stop) := hst
        clear hst hsb
        go_wp2_with (go_at_call 26; refine Y.mono ?_; rintro e w2 ⟨rfl, hJ2⟩)
        go_returns
        refine ⟨rfl, ?_⟩
        rw [HN.out, comes_stop N k stop hlt HST.out]
        exact hJ2
      · have hsb : ((k : Int) + 1 != stop) = true := by simp [hst]
        rw [hsb] at Y
        have HST : Hid (¬ (k : Int) + 1 = stop) := hst
        clear hst hsb
        go_wp2_with (go_at_call 26; refine Y.mono ?_; rintro e w2 ⟨rfl, hJ2⟩)
        go_roundw
        case rel =>
          refine ⟨k + 1, by omega, by go_num, hJ2, fun j a1 a2 => ?_⟩
          by_cases e : j = k + 1
          · subst e
            have := HST.out
            omega
          · exact HJ.out j a1 (by omega)
        case measure => simp [intOf]; omega
    · obtain rfl : k = N := by omega
      go_wp2
      go_end0
      refine ⟨rfl, ?_⟩
      rw [HN.out, comes_all k stop HJ.out]
      exact hJ
end Go.Proofs.Ytcdgogcbijohcaa
