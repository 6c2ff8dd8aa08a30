/-
  slices.Insert and slices.Replace at rows of spans: the roads at the row's end.
-/
import Derived.Test.YtcdgogcbijohcaaA1
import Derived.OwnWalk
import Derived.Laws.AppendOwn
import Derived.Maps.AppendAt
namespace Go.Proofs.Ytcdgogcbijohcaa
open Go.RowKit

theorem info33 : (Try.prog.info? 33).map (fun i => (i.zero, i.size, i.bytes)) = some (some (.agg #[.int .u64 0, .int .u64 0]), 2, 16) := by kernel_rfl

/-- A new row lies where the old one lay, or in a new block. -/
def Lies (w : World) (v v' : Value) : Prop := v'.ownBlock = v.ownBlock ∨ ∃ g, w.heap.size ≤ g ∧ v'.ownBlock = some g
theorem lies_of {w : World} {v v' : Value} (h : v'.ownBlock = v.ownBlock ∨ v'.ownBlock = some w.heap.size) : Lies w v v' := h.imp id fun h => ⟨_, Nat.le_refl _, h⟩

/-- The first elements of a row are a row. -/
theorem ownsRow_cut {w : World} {base n cap g : Nat} {xs : List Value} (h : w.ownsRow base 33 2 (.slice (some ⟨g, 0, none⟩) n cap) n xs) (i : Nat) (hi : i ≤ n) :
    w.ownsRow base 33 2 (.slice (some ⟨g, 0, none⟩) i cap) i (xs.take (i * 2)) := by
  obtain ⟨hl, h | ⟨g', cap', cur, e, hb, hg, hn, hm, hs, ht⟩⟩ := h
  · exact absurd h.1 (by simp)
  · cases e
    refine ⟨by rw [List.length_take, hl]; omega, .inr ⟨g, cap, cur, rfl, hb, hg, by omega, hm, hs, ?_⟩⟩
    rw [← ht, List.take_take, Nat.min_eq_left (by omega)]

theorem ownsRow_pos {W : World} {base : Nat} {v : Value} {k : Nat} {xs : List Value} (h : W.ownsRow base 33 2 v k xs) (hk : 0 < k) : ∃ g cap, v = .slice (some ⟨g, 0, none⟩) k cap := by
  rcases h.2 with ⟨_, h0⟩ | ⟨g, cap, _, rfl, _⟩
  · omega
  · exact ⟨g, cap, rfl⟩

set_option maxHeartbeats 800000 in
theorem insert_end (base n vb m vc : Nat) (v : Value) (xs news : List Value) (w : World) (hrow : w.ownsRow base 33 2 v n xs) (hbase : base ≤ w.heap.size) (hm : 0 < m) (hn : n + m ≤ 100000) (hl : news.length = m * 2)
    (hnews : ∀ j u, news[j]? = some u → w.cell? ((⟨vb, 0, none⟩ : Addr).add j) = some u) (h1 : ∀ u ∈ news, u.oneCell' = true) :
    Calls Try.prog 36 #[v, .int .i64 n, .slice (some ⟨vb, 0, none⟩) m vc] w fun e w' => ∃ v', e = .returned v' ∧ w'.ownsRow base 33 2 v' (n + m) (xs ++ news) ∧ w.grownBy w' v.ownBlock ∧ Lies w v v' := by
  obtain ⟨i0, hi, hz0, hz1, hz2⟩ := info_parts info33
  have hx1 : n + m ≤ maxLen := by unfold maxLen; omega
  have hx2 : (n + m) * 16 ≤ 140737488355328 := by omega
  have hm0 : ¬ m = 0 := by omega
  rcases hrow.2 with ⟨rfl, rfl⟩ | ⟨g, cap, cur, rfl, hbg, hg, hnc, hcm, hcs, htake⟩
  · go_enter Try.func36, Try.ntmps36
    go_wp2_with (at_builtin; refine wpList_append_own_at _ rfl _ _ 24 rfl base 33 i0 _ 2 16 Try.underlying24 hi hz0 hz1 hz2 rfl (by decide) _ _ _ rfl hrow ⟨vb, 0, none⟩ m vc news rfl hl hnews h1 hx1 hx2 hbase ?_; intro v' w1 hown' hgrow _ hlies)
    go_ret
    exact ⟨v', rfl, hown', hgrow, lies_of hlies⟩
  · have hcap : cap ≤ 9223372036854775807 := by unfold maxLen at hcm; omega
    have hnn : (n : Int) ≤ 9223372036854775807 := by omega
    clear hg hcs htake
    go_enter Try.func36, Try.ntmps36
    go_wp2_with (at_builtin; refine wpList_append_own_at _ rfl _ _ 24 rfl base 33 i0 _ 2 16 Try.underlying24 hi hz0 hz1 hz2 rfl (by decide) _ _ _ rfl hrow ⟨vb, 0, none⟩ m vc news rfl hl hnews h1 hx1 hx2 hbase ?_; intro v' w1 hown' hgrow _ hlies)
    all_goals
      go_ret
      exact ⟨v', rfl, hown', hgrow, lies_of hlies⟩

set_option maxRecDepth 100000 in
set_option maxHeartbeats 1600000 in
theorem replace_same (base n vb m vc : Nat) (v : Value) (xs news : List Value) (w : World) (hrow : w.ownsRow base 33 2 v n xs) (hbase : base ≤ w.heap.size) (hm : 0 < m) (hn : n + m ≤ 100000) (hl : news.length = m * 2)
    (hnews : ∀ j u, news[j]? = some u → w.cell? ((⟨vb, 0, none⟩ : Addr).add j) = some u) (h1 : ∀ u ∈ news, u.oneCell' = true) :
    Calls Try.prog 29 #[v, .int .i64 n, .int .i64 n, .slice (some ⟨vb, 0, none⟩) m vc] w fun e w' => ∃ v', e = .returned v' ∧ w'.ownsRow base 33 2 v' (n + m) (xs ++ news) ∧ w.grownBy w' v.ownBlock ∧ Lies w v v' := by
  have I := insert_end base n vb m vc v xs news w hrow hbase hm hn hl hnews h1
  rcases hrow.2 with ⟨rfl, rfl⟩ | ⟨g, cap, cur, rfl, hbg, hg, hnc, hcm, hcs, htake⟩
  · clear hrow hnews
    go_enter Try.func29, Try.ntmps29
    go_wp2_with (go_at_call 36; refine I.mono ?_; rintro e w' ⟨v', rfl, hr, hgr, hli⟩)
    all_goals
      go_ret
      exact ⟨v', rfl, hr, hgr, hli⟩
  · have hcap : cap ≤ 9223372036854775807 := by unfold maxLen at hcm; omega
    have hnn : (n : Int) ≤ 9223372036854775807 := by omega
    clear hg hcs htake hrow hnews
    go_enter Try.func29, Try.ntmps29
    go_wp2_with (go_at_call 36; refine I.mono ?_; rintro e w' ⟨v', rfl, hr, hgr, hli⟩)
    all_goals
      go_ret
      exact ⟨v', rfl, hr, hgr, hli⟩

set_option maxRecDepth 100000 in
set_option maxHeartbeats 1600000 in
theorem replace_tail (base n i vb m vc cap g : Nat) (xs news : List Value) (w : World) (hrow : w.ownsRow base 33 2 (.slice (some ⟨g, 0, none⟩) n cap) n xs) (hbase : base ≤ w.heap.size) (hi : i < n) (hm : n ≤ i + m) (hn : n + m ≤ 100000) (hl : news.length = m * 2)
    (hnews : ∀ j u, news[j]? = some u → w.cell? ((⟨vb, 0, none⟩ : Addr).add j) = some u) (h1 : ∀ u ∈ news, u.oneCell' = true) :
    Calls Try.prog 29 #[.slice (some ⟨g, 0, none⟩) n cap, .int .i64 i, .int .i64 n, .slice (some ⟨vb, 0, none⟩) m vc] w fun e w' => ∃ v', e = .returned v' ∧ w'.ownsRow base 33 2 v' (i + m) (xs.take (i * 2) ++ news) ∧ w.grownBy w' (some g) ∧ Lies w (.slice (some ⟨g, 0, none⟩) n cap) v' := by
  obtain ⟨i0, hinf, hz0, hz1, hz2⟩ := info_parts info33
  have hx1 : i + m ≤ maxLen := by unfold maxLen; omega
  have hx2 : (i + m) * 16 ≤ 140737488355328 := by omega
  have hpos : 0 < i + m := by omega
  have hcut := ownsRow_cut hrow i (by omega)
  have hcap : cap ≤ 9223372036854775807 ∧ n ≤ cap := by
    rcases hrow.2 with ⟨e, _⟩ | ⟨g, cap, cur, e, hbg, hg, hnc, hcm, hcs, htake⟩
    · cases e
    · cases e; unfold maxLen at hcm; omega
  obtain ⟨hcap, hnc⟩ := hcap
  clear hrow
  go_enter Try.func29, Try.ntmps29
  go_wp2_with (at_builtin; refine wpList_append_own_at _ rfl _ _ 24 rfl base 33 i0 _ 2 16 Try.underlying24 hinf hz0 hz1 hz2 rfl (by decide) _ _ _ rfl hcut ⟨vb, 0, none⟩ m vc news rfl hl hnews h1 hx1 hx2 hbase ?_; intro v' w1 hown' hgrow _ hlies; obtain ⟨g', cap', rfl⟩ := ownsRow_pos hown' hpos)
  go_ret
  exact ⟨_, rfl, hown', hgrow, lies_of hlies⟩
end Go.Proofs.Ytcdgogcbijohcaa
