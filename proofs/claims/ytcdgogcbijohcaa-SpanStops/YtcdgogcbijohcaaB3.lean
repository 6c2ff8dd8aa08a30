/-
  slices.Replace at a set: whatever a new span takes the place of.
-/
import Derived.Test.YtcdgogcbijohcaaB2
import Derived.Test.YtcdgogcbijohcaaA5
namespace Go.Proofs.Ytcdgogcbijohcaa
open Go.RowKit
set_option linter.unusedVariables false

theorem flat_drop : ∀ (L : List (Int × Int)) (i : Nat), (flat L).drop (i * 2) = flat (L.drop i)
  | L, 0 => by simp
  | [], i + 1 => by simp [flat]
  | p :: t, i + 1 => by
    rw [show (i + 1) * 2 = i * 2 + 1 + 1 by omega]
    simp only [flat, List.drop_succ_cons, flat_drop t i]
theorem flat_take' : ∀ (L : List (Int × Int)) (i : Nat), (flat L).take (i * 2) = flat (L.take i)
  | L, 0 => by simp [flat]
  | [], i + 1 => by simp [flat]
  | p :: t, i + 1 => by
    rw [show (i + 1) * 2 = i * 2 + 1 + 1 by omega]
    simp only [flat, List.take_succ_cons, flat_take' t i]

/-- The row's parts. -/
theorem row_parts {cur : Array Value} {L : List (Int × Int)} {cap : Nat} (hs : cur.size = cap * 2) (hn : L.length ≤ cap) (h : cur.toList.take (L.length * 2) = flat L) (f t : Nat) (hf : f ≤ L.length) (ht : t ≤ L.length) :
    cur.toList.take (f * 2) = flat (L.take f) ∧ (cur.toList.drop (t * 2)).take ((L.length - t) * 2) = flat (L.drop t) := by
  constructor
  · rw [← flat_take', ← h, List.take_take, Nat.min_eq_left (by omega)]
  · rw [← flat_drop, ← h, List.drop_take, show L.length * 2 - t * 2 = (L.length - t) * 2 by omega]

theorem owns_of {W : World} {g n cap : Nat} {c : Array Value} {L' : List (Int × Int)} (hg : W.heap[g]? = some (.cells c 33 (0, 0))) (hl : L'.length = n) (hn : n ≤ cap) (hm : cap ≤ maxLen) (hs : c.size = cap * 2) (ht : c.toList.take (n * 2) = flat L') :
    W.ownsRow 0 33 2 (.slice (some ⟨g, 0, none⟩) n cap) L'.length (flat L') := by
  subst hl
  exact ⟨flat_length L', .inr ⟨g, cap, c, rfl, Nat.zero_le _, hg, hn, hm, hs, ht⟩⟩

theorem grown_none {w w' : World} {r : Option Nat} (h : w.grownBy w' (some w.heap.size)) : w.grownBy w' r :=
  ⟨h.os, h.tape, h.output, h.size, fun k hk _ => h.block k hk (fun e => by cases e; omega)⟩

theorem take3 {A B C R : List Value} {n : Nat} (h : A.length + B.length + C.length = n) : (A ++ B ++ C ++ R).take n = A ++ B ++ C := List.take_left' (by simp; omega)

/-- What is laid over a row in one of the two orders. -/
theorem over1 (cur vs ds : List Value) (f d : Nat) (hv : vs.length = 2) (hd : ds.length = d * 2) (hl : (f + 1 + d) * 2 ≤ cur.length) (c1 c2 : Array Value) (h1 : c1 = (cur.take (f * 2) ++ vs ++ cur.drop (f * 2 + vs.length)).toArray) (h2 : c2 = (c1.toList.take ((f + 1) * 2) ++ ds ++ c1.toList.drop ((f + 1) * 2 + ds.length)).toArray) :
    c2.toList.take ((f + 1 + d) * 2) = cur.take (f * 2) ++ vs ++ ds ∧ c2.size = cur.length ∧ c1.size = cur.length := by
  have e1 : c1.toList.take ((f + 1) * 2) = cur.take (f * 2) ++ vs := by
    rw [h1]
    exact List.take_left' (by simp; omega)
  have s1 : c1.size = cur.length := by rw [h1]; simp; omega
  refine ⟨?_, ?_, s1⟩
  · rw [h2, e1]
    exact List.take_left' (by simp; omega)
  · rw [h2]
    simp
    omega
theorem over2 (cur vs ds : List Value) (f d : Nat) (hv : vs.length = 2) (hd : ds.length = d * 2) (hl : (f + 1 + d) * 2 ≤ cur.length) (c1 c2 : Array Value) (h1 : c1 = (cur.take ((f + 1) * 2) ++ ds ++ cur.drop ((f + 1) * 2 + ds.length)).toArray) (h2 : c2 = (c1.toList.take (f * 2) ++ vs ++ c1.toList.drop (f * 2 + vs.length)).toArray) :
    c2.toList.take ((f + 1 + d) * 2) = cur.take (f * 2) ++ vs ++ ds ∧ c2.size = cur.length := by
  have s1 : c1.size = cur.length := by rw [h1]; simp; omega
  have e1 : c1.toList.take (f * 2) = cur.take (f * 2) := by
    rw [h1, List.append_assoc, List.take_append_of_le_length (by simp; omega), List.take_take, Nat.min_eq_left (by omega)]
  have e2 : c1.toList.drop (f * 2 + vs.length) = ds ++ cur.drop ((f + 1) * 2 + ds.length) := by
    rw [h1, List.append_assoc]
    exact List.drop_left' (by simp; omega)
  constructor
  · rw [h2, e1, e2, ← List.append_assoc]
    exact take3 (by simp; omega)
  · rw [h2]
    simp
    omega
/-- Noughts behind a row's end. -/
theorem over0 (c : Array Value) (k : Nat) (c3 : Array Value) (hk : k + 2 ≤ c.size) (h3 : c3 = (c.toList.take k ++ Z2 ++ c.toList.drop (k + 2)).toArray) : c3.toList.take k = c.toList.take k ∧ c3.size = c.size := by
  constructor
  · rw [h3]
    show List.take k (c.toList.take k ++ Z2 ++ c.toList.drop (k + 2)) = _
    rw [List.append_assoc]
    exact List.take_left' (by simp; omega)
  · rw [h3]
    simp
    omega

set_option maxRecDepth 4000 in
theorem replaces_any (B : Nat) (v : Value) (L : List (Int × Int)) (f t : Nat) (x y : Int) (hL : L.length < 100000) (h1 : f ≤ t) (h2 : t ≤ f + 2) (h3 : t ≤ L.length) (hne : 0 < L.length) : Replaces B v L f t x y (L.take f ++ (x, y) :: L.drop t) := by
  intro W vb vc h hap hx
  obtain ⟨c1, c2⟩ := box_cells hx
  have hvs : ∀ j v, (flat [(x, y)])[j]? = some v → W.cell? ⟨vb, j, none⟩ = some v := by
    intro j v hj
    match j, hj with
    | 0, hj => simp [flat] at hj; subst hj; exact c1
    | 1, hj => simp [flat] at hj; subst hj; exact c2
    | j + 2, hj => simp [flat] at hj
  have hvs' : ∀ j v, (flat [(x, y)])[j]? = some v → W.cell? ((⟨vb, 0, none⟩ : Addr).add j) = some v := by
    intro j v hj
    rw [Addr.add_lit, Nat.zero_add]
    exact hvs j v hj
  have hv1 := flat_one [(x, y)]
  obtain ⟨hl, hv0 | ⟨g, cap, cur, rfl, _, hg, hnc, hcm, hcs, htake⟩⟩ := h.row
  · omega
  have hcap : cap ≤ 9223372036854775807 := by unfold maxLen at hcm; omega
  have hvg : vb ≠ g := fun e => hap (by rw [e]; rfl)
  obtain ⟨p1, p2⟩ := row_parts hcs hnc htake f t (by omega) h3
  have hLl : (L.take f ++ (x, y) :: L.drop t).length = f + 1 + (L.length - t) := by simp; omega
  have hfl : flat (L.take f ++ (x, y) :: L.drop t) = flat (L.take f) ++ flat [(x, y)] ++ flat (L.drop t) := by
    rw [flat_append, List.append_assoc]; rfl
  have hf1 : (flat (L.take f)).length = f * 2 := by rw [flat_length, List.length_take, Nat.min_eq_left (by omega)]
  have hf3 : (flat (L.drop t)).length = (L.length - t) * 2 := by rw [flat_length, List.length_drop]
  have hd1 := flat_one (L.drop t)
  have hcl : cur.toList.length = cap * 2 := by simpa using hcs
  rcases (show t = f ∨ t = f + 1 ∨ t = f + 2 by omega) with e | e | e
  · -- an element more
    subst e
    by_cases hfn : t = L.length
    · have I := replace_same 0 L.length vb 1 vc _ (flat L) (flat [(x, y)]) W h.row (Nat.zero_le _) (by omega) (by omega) rfl hvs' hv1
      subst hfn
      refine I.mono ?_
      rintro e W' ⟨v', rfl, hr, hgr, hli⟩
      refine ⟨v', rfl, ?_, hgr, hli⟩
      rw [hLl, hfl, List.take_length, List.drop_length, Nat.sub_self, Nat.add_zero, show flat ([] : List (Int × Int)) = [] from rfl, List.append_nil]
      exact hr
    · obtain ⟨d, hd⟩ : ∃ d, L.length = t + d := ⟨L.length - t, by omega⟩
      have hdd : L.length - t = d := by omega
      rw [hdd] at p2 hf3 hLl
      by_cases hroom : L.length + 1 ≤ cap
      · have I := insert_room t d vb vc cap g cur _ _ #[.int .u64 x, .int .u64 y] (flat [(x, y)]) (flat (L.drop t)) W hg hcs (by omega) hcap (by omega) hvg hx rfl rfl hv1 p2.symm hd1 rfl rfl
        rw [← hd] at I
        refine (replace_ins L.length t vb vc cap g W (fun e W' => ∃ v', e = .returned v' ∧ W'.ownsRow 0 33 2 v' (L.take t ++ (x, y) :: L.drop t).length (flat (L.take t ++ (x, y) :: L.drop t)) ∧ W.grownBy W' (some g) ∧ Lies W (.slice (some ⟨g, 0, none⟩) L.length cap) v') (by omega) hnc hcap (I.mono ?_)).mono ?_
        · rintro e W' ⟨rfl, hh, hgr⟩
          obtain ⟨q1, q2⟩ := over2 cur.toList (flat [(x, y)]) (flat (L.drop t)) t d rfl hf3 (by omega) _ _ rfl rfl
          refine ⟨_, rfl, _, rfl, owns_of hh (by rw [hLl]; omega) hroom hcm (by rw [q2, hcl]) ?_, hgr, .inl rfl⟩
          rw [show L.length + 1 = t + 1 + d by omega, q1, hfl, p1]
        · rintro e W' ⟨v, rfl, v', e2, hr, hgr, hli⟩
          cases e2
          exact ⟨v, rfl, hr, hgr, hli⟩
      · have I := insert_grow t d vb vc cap g cur #[.int .u64 x, .int .u64 y] (flat [(x, y)]) (flat (L.drop t)) W hg hcs (by omega) (by omega) (by omega) (by omega) hx rfl rfl hv1 p2.symm hd1
        rw [← hd] at I
        refine (replace_ins L.length t vb vc cap g W (fun e W' => ∃ v', e = .returned v' ∧ W'.ownsRow 0 33 2 v' (L.take t ++ (x, y) :: L.drop t).length (flat (L.take t ++ (x, y) :: L.drop t)) ∧ W.grownBy W' (some g) ∧ Lies W (.slice (some ⟨g, 0, none⟩) L.length cap) v') (by omega) hnc hcap (I.mono ?_)).mono ?_
        · rintro e W' ⟨G, c2, rfl, hh, hcs2, hG1, hG2, htk, hgr⟩
          refine ⟨_, rfl, _, rfl, owns_of hh (by rw [hLl]; omega) hG1 hG2 hcs2 ?_, grown_none hgr, .inr ⟨_, Nat.le_refl _, rfl⟩⟩
          rw [htk, hfl, p1]
        · rintro e W' ⟨v, rfl, v', e2, hr, hgr, hli⟩
          cases e2
          exact ⟨v, rfl, hr, hgr, hli⟩
  · -- one in the place of one
    subst e
    by_cases hfn : f + 1 = L.length
    · have I := replace_tail 0 L.length f vb 1 vc cap g (flat L) (flat [(x, y)]) W h.row (Nat.zero_le _) (by omega) (by omega) (by omega) rfl hvs' hv1
      have I' : Calls Try.prog 29 #[.slice (some ⟨g, 0, none⟩) L.length cap, .int .i64 f, .int .i64 ((f + 1 : Nat) : Int), .slice (some ⟨vb, 0, none⟩) 1 vc] W fun e w' => ∃ v', e = .returned v' ∧ w'.ownsRow 0 33 2 v' (f + 1) ((flat L).take (f * 2) ++ flat [(x, y)]) ∧ W.grownBy w' (some g) ∧ Lies W (.slice (some ⟨g, 0, none⟩) L.length cap) v' := by
        rw [show ((f + 1 : Nat) : Int) = (L.length : Int) by omega]; exact I
      refine I'.mono ?_
      rintro e W' ⟨v', rfl, hr, hgr, hli⟩
      refine ⟨v', rfl, ?_, hgr, hli⟩
      rw [hLl, hfl, List.drop_eq_nil_of_le (by omega), show f + 1 + (L.length - (f + 1)) = f + 1 by omega, ← flat_take', show flat ([] : List (Int × Int)) = [] from rfl, List.append_nil]
      exact hr
    · obtain ⟨d, hd⟩ : ∃ d, L.length = f + 1 + d := ⟨L.length - (f + 1), by omega⟩
      have hdd : L.length - (f + 1) = d := by omega
      rw [hdd] at p2 hf3 hLl
      have I := replace_one f d vb vc cap g cur _ _ (flat [(x, y)]) (flat (L.drop (f + 1))) W hg hcs (by omega) hcap (by omega) rfl hvs hv1 p2.symm hd1 rfl rfl
      rw [← hd] at I
      refine I.mono ?_
      rintro e W' ⟨rfl, hh, hgr⟩
      obtain ⟨q1, q2, q3⟩ := over1 cur.toList (flat [(x, y)]) (flat (L.drop (f + 1))) f d rfl hf3 (by omega) _ _ rfl rfl
      refine ⟨_, rfl, owns_of hh (by rw [hLl, hd]) hnc hcm (by rw [q2, hcl]) ?_, hgr, .inl rfl⟩
      rw [hd, q1, hfl, p1]
  · -- one in the place of two
    subst e
    by_cases hfn : f + 2 = L.length
    · have I := replace_last2 f vb vc cap g cur _ _ (flat [(x, y)]) W hg hcs (by omega) hcap rfl hvs hv1 rfl rfl
      have hr : (Value.slice (some ⟨g, 0, none⟩) L.length cap) = .slice (some ⟨g, 0, none⟩) (f + 2) cap := by rw [hfn]
      rw [hr]
      refine I.mono ?_
      rintro e W' ⟨rfl, hh, hgr⟩
      have hs1 : (cur.toList.take (f * 2) ++ flat [(x, y)] ++ cur.toList.drop (f * 2 + (flat [(x, y)]).length)).toArray.size = cap * 2 := by
        simp [flat]; omega
      obtain ⟨q1, q2⟩ := over0 (cur.toList.take (f * 2) ++ flat [(x, y)] ++ cur.toList.drop (f * 2 + (flat [(x, y)]).length)).toArray ((f + 1) * 2) _ (by rw [hs1]; omega) rfl
      refine ⟨_, rfl, owns_of hh (by rw [hLl]; omega) (by omega) hcm (q2.trans hs1) ?_, hgr, .inl rfl⟩
      rw [q1, hfl, show L.drop (f + 2) = [] from List.drop_eq_nil_of_le (by omega), p1]
      rw [show flat ([] : List (Int × Int)) = [] from rfl, List.append_nil]
      exact List.take_left' (by rw [List.length_append, hf1]; simp [flat]; omega)
    · obtain ⟨d, hd⟩ : ∃ d, L.length = f + 2 + d := ⟨L.length - (f + 2), by omega⟩
      have hdd : L.length - (f + 2) = d := by omega
      rw [hdd] at p2 hf3 hLl
      have I := replace_two f d vb vc cap g cur _ _ _ (flat [(x, y)]) (flat (L.drop (f + 2))) W hg hcs (by omega) hcap (by omega) rfl hvs hv1 p2.symm hd1 rfl rfl rfl
      rw [← hd] at I
      refine I.mono ?_
      rintro e W' ⟨rfl, hh, hgr⟩
      obtain ⟨q1, q2, q3⟩ := over1 cur.toList (flat [(x, y)]) (flat (L.drop (f + 2))) f d rfl hf3 (by omega) _ _ rfl rfl
      obtain ⟨r1, r2⟩ := over0 _ ((f + 1 + d) * 2) _ (by rw [q2]; omega) rfl
      refine ⟨_, rfl, owns_of hh hLl (by omega) hcm (by rw [r2, q2, hcl]) ?_, hgr, .inl rfl⟩
      rw [r1, q1, hfl, p1]
end Go.Proofs.Ytcdgogcbijohcaa
