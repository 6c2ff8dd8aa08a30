/-
  Layer 2: Parse of any text: what is read, if anything, has that text. Conditions: the text's length, the errors' words, strconv's error variables.
-/
import Derived.Test.YtjcefpeicbekhaaDoorA7
namespace Go.Proofs.YtjcefpeicbekhaaDoor
open Go.ChangeShapes Go.WideShapes Go.ChangeAt Go.RowKit
set_option linter.unusedVariables false

theorem getD_mem {α : Type} (l : List α) (j : Nat) (d : α) (h : j < l.length) : l.getD j d ∈ l := by
  rw [List.getD_eq_getElem?_getD, List.getElem?_eq_getElem h]
  exact List.getElem_mem h
theorem getD_far {α : Type} (l : List α) (j : Nat) (d : α) (h : l.length ≤ j) : l.getD j d = d := by
  rw [List.getD_eq_getElem?_getD, List.getElem?_eq_none h]
  rfl

theorem split_weak (s : ByteArray) (N : Nat) (w : World) (hs : s.size ≤ 1000) (hN : Hid (s.data.toList.count 32 + 1 = N)) : Calls Tryd.prog 17 #[.string s, .string ⟨#[32]⟩] (w.alloc (.cells #[.int .i64 0, .int .u64 0, .string ⟨#[]⟩] 26)) fun e w' => ∃ (p : Nat → ByteArray), (∀ j, (p j).size ≤ 1000) ∧ e = .returned (.slice (some ⟨w.heap.size + 1, 0, none⟩) N N) ∧
    (∀ j, j < N → w'.cell? ⟨w.heap.size + 1, j, none⟩ = some (.string (p j))) ∧
    (w'.cell? ⟨w.heap.size, 0, none⟩ = some (.int .i64 0) ∧ w'.cell? ⟨w.heap.size, 1, none⟩ = some (.int .u64 0) ∧ w'.cell? ⟨w.heap.size, 2, none⟩ = some (.string ⟨#[]⟩)) ∧
    (∀ j, w'.frozen? ⟨w.heap.size, j, none⟩ = false) ∧ w.heap.size + 1 < w'.heap.size ∧ Below w.heap.size w w' := by
  have hl := split_length s.data.toList
  have hN2 := hN.out
  refine (split_any s (split s.data.toList) (s.data.toList.count 32) _ hs rfl hl).mono ?_
  rintro e w' ⟨rfl, ho, hb⟩
  obtain ⟨hc, hf⟩ := bcell hb
  simp only [World.size_alloc] at ho hc hf hb
  have hcell : ∀ j, j < N → w'.cell? ⟨w.heap.size + 1, j, none⟩ = some (.string ⟨((split s.data.toList).getD j []).toArray⟩) := by
    intro j hj
    have h0 := ho.cellAt j (by omega)
    have hj2 : j < (split s.data.toList).length := by omega
    simpa [hj2, strV] using h0
  have hz : w.heap.size + 1 < w'.heap.size := World.block_lt_of_cell? w' ⟨w.heap.size + 1, 0, none⟩ (hcell 0 (by omega))
  refine ⟨fun j => ⟨((split s.data.toList).getD j []).toArray⟩, fun j => ?_, by rw [hN2]; simp, hcell, ⟨?_, ?_, ?_⟩, fun j => ?_, hz, ?_⟩
  · show ((split s.data.toList).getD j []).toArray.size ≤ 1000
    simp only [List.size_toArray]
    by_cases hj : j < (split s.data.toList).length
    · have := split_le s.data.toList ((split s.data.toList).getD j []) (getD_mem _ _ _ hj)
      have h2 : s.data.toList.length = s.size := by simp
      omega
    · rw [getD_far _ _ _ (by omega)]; simp
  · rw [hc _ _ (by omega)]; simp [go_sem]
  · rw [hc _ _ (by omega)]; simp [go_sem]
  · rw [hc _ _ (by omega)]; simp [go_sem]
  · rw [hf _ _ (by omega)]; simp [go_sem]
  · exact ((Below.refl _ w).alloc (Nat.le_refl _) _).trans (hb.mono (by omega))

theorem one_c {w : World} {b o : Nat} {v : Value} (h : w.cell? ⟨b, o, none⟩ = some v) (hb : b < w.heap.size) (o1 : Obj) : (w.alloc o1).cell? ⟨b, o, none⟩ = some v := by
  have hbb : Below w.heap.size w (w.alloc o1) := by go_grown
  exact (hbb.cell (p := ⟨b, o, none⟩) hb).trans h
theorem one_f {w : World} {b o : Nat} (h : w.frozen? ⟨b, o, none⟩ = false) (hb : b < w.heap.size) (o1 : Obj) : (w.alloc o1).frozen? ⟨b, o, none⟩ = false := by
  have hbb : Below w.heap.size w (w.alloc o1) := by go_grown
  exact (hbb.frozen (p := ⟨b, o, none⟩) hb).trans h

/-- How Parse may end. -/
def ParseEnd (s : ByteArray) (w : World) (x : Ending) (w' : World) : Prop := (x = .returned (.tuple #[.agg #[.int .i64 0, .int .u64 0, .string ⟨#[]⟩], .bool false]) ∨ ∃ (c : Int) (a : Nat) (n : ByteArray), 0 ≤ c ∧ c < 27 ∧ a < 18446744073709551616 ∧ n.size ≤ 1000 ∧ s = ⟨(textL c a n.data.toList).toArray⟩ ∧ x = .returned (.tuple #[.agg #[.int .i64 c, .int .u64 a, .string n], .bool true])) ∧ Below w.heap.size w w'

/-- The result's block and the fault's, in the midst of Parse. -/
structure PF (w : World) (F : Nat) (n : Int) (A : Nat) (nm : ByteArray) (W : World) : Prop where
  r0 : W.cell? ⟨w.heap.size, 0, none⟩ = some (.int .i64 0)
  r1 : W.cell? ⟨w.heap.size, 1, none⟩ = some (.int .u64 0)
  r2 : W.cell? ⟨w.heap.size, 2, none⟩ = some (.string ⟨#[]⟩)
  f0 : W.cell? ⟨F, 0, none⟩ = some (.int .i64 n)
  f1 : W.cell? ⟨F, 1, none⟩ = some (.int .u64 (A : Int))
  f2 : W.cell? ⟨F, 2, none⟩ = some (.string nm)
  fz : ∀ j, W.frozen? ⟨w.heap.size, j, none⟩ = false
  ff : ∀ j, W.frozen? ⟨F, j, none⟩ = false
  lt : w.heap.size < F
  room : F < W.heap.size
  below : Below w.heap.size w W
theorem PF.next {w W w' : World} {F : Nat} {n : Int} {A : Nat} {nm : ByteArray} (h : PF w F n A nm W) (hb : Below W.heap.size W w') : PF w F n A nm w' := by
  obtain ⟨hc, hf⟩ := bcell hb
  obtain ⟨r0, r1, r2, f0, f1, f2, fz, ff, lt, room, below⟩ := h
  exact ⟨(hc _ _ (by omega)).trans r0, (hc _ _ (by omega)).trans r1, (hc _ _ (by omega)).trans r2, (hc _ _ room).trans f0, (hc _ _ room).trans f1, (hc _ _ room).trans f2, fun j => (hf _ _ (by omega)).trans (fz j), fun j => (hf _ _ room).trans (ff j), lt, Nat.lt_of_lt_of_le room hb.size, bt below hb⟩
theorem PF.setAt {w W : World} {F : Nat} {n : Int} {A : Nat} {nm : ByteArray} (h : PF w F n A nm W) (B : Nat) : PF w F n B nm (W.setCell ⟨F, 1, none⟩ (.int .u64 (B : Int))) := by
  obtain ⟨r0, r1, r2, f0, f1, f2, fz, ff, lt, room, below⟩ := h
  have hne : ¬ w.heap.size = F := by omega
  exact ⟨by simp [go_sem, r0], by simp [go_sem, r1], by simp [go_sem, r2], by simp [go_sem, f0], by simp [go_sem, f1], by simp [go_sem, f2], fun j => by simp [go_sem, fz], fun j => by simp [go_sem, ff], lt, by simpa using room, below.setCell (p := ⟨F, 1, none⟩) (show w.heap.size ≤ F by omega) _⟩
theorem PF.setName {w W : World} {F : Nat} {n : Int} {A : Nat} {nm : ByteArray} (h : PF w F n A nm W) (m : ByteArray) : PF w F n A m (W.setCell ⟨F, 2, none⟩ (.string m)) := by
  obtain ⟨r0, r1, r2, f0, f1, f2, fz, ff, lt, room, below⟩ := h
  have hne : ¬ w.heap.size = F := by omega
  exact ⟨by simp [go_sem, r0], by simp [go_sem, r1], by simp [go_sem, r2], by simp [go_sem, f0], by simp [go_sem, f1], by simp [go_sem, f2], fun j => by simp [go_sem, fz], fun j => by simp [go_sem, ff], lt, by simpa using room, below.setCell (p := ⟨F, 2, none⟩) (show w.heap.size ≤ F by omega) _⟩

set_option maxRecDepth 100000 in
set_option maxHeartbeats 3200000 in
theorem parse_w4 (s : ByteArray) (w : World) (hs : s.size ≤ 1000) (ht : Tabs w) (he : Errs w) (hN : s.data.toList.count 32 + 1 = 4) : Calls Tryd.prog 10 #[.string s] w fun x w' => ParseEnd s w x w' := by
  have H7 := ht.size
  have HT : Hid (Tabs w) := ht
  have HE : Hid (Errs w) := he
  have HN : Hid (s.data.toList.count 32 + 1 = 4) := hN
  clear ht he hN
  go_enter Tryd.func10, Tryd.ntmps10
  go_wp2_with (first
    | (go_at_call 17; refine (split_weak _ (4) _ hs HN).mono ?_; rintro e w1 ⟨p, hp, rfl, hpc, ⟨d0, d1, d2⟩, df, hz1, hb1⟩; have hp0 := hpc (0) (by omega); have hp1 := hpc (1) (by omega); have hp3 := hpc (3) (by omega); clear hpc; have sp1 := hp (1); have sp3 := hp (3); clear hp; generalize p (0) = p0 at hp0; generalize p (1) = p1 at hp1 sp1; generalize p (3) = p3 at hp3 sp3)
    | (go_at_call 18; refine (numbered_all _ _ (HT.out.below hb1 H7)).mono ?_; rintro e w2 ⟨⟨n, hn, rfl⟩ | rfl, hw2⟩ <;> subst hw2))
  · have hne : ¬ w.heap.size = w2.heap.size := by omega
    have PFa : PF w w2.heap.size n 0 ⟨#[]⟩ (w2.alloc (.cells #[.int .i64 n, .int .u64 0, .string ⟨#[]⟩] 26)) := by
      refine ⟨?_, ?_, ?_, by simp [go_sem], by simp [go_sem], by simp [go_sem], fun j => ?_, fun j => by simp [go_sem], by omega, by simp, hb1.alloc hb1.size _⟩
      · exact one_c d0 (by omega) _
      · exact one_c d1 (by omega) _
      · exact one_c d2 (by omega) _
      · exact one_f (df j) (by omega) _
    refine (address_all _ _ sp3 (HE.out.next PFa.below)).mono ?_
    rintro e w3 ⟨⟨A, hA, rfl⟩, hb3⟩
    have PF3 := PFa.next hb3
    have q1 : w3.cell? ⟨w.heap.size + 1, 1, none⟩ = some (.string p1) := ((bcell hb3).1 _ _ (by simp; omega)).trans (one_c hp1 (by omega) _)
    have f0 := PF3.f0; have f1 := PF3.f1; have f2 := PF3.f2
    have ff := PF3.ff
    clear hb3 PFa d0 d1 d2 df hp0 hp1 hp3
    go_wp2_with fail
    clear f0 f1 f2 ff
    have PF4 := (PF3.setAt A).setName p1
    obtain ⟨W4, hW4⟩ : ∃ W4, W4 = ((w3.setCell ⟨w2.heap.size, 1, none⟩ (.int .u64 (A : Int))).setCell ⟨w2.heap.size, 2, none⟩ (.string p1)) := ⟨_, rfl⟩
    rw [← hW4] at PF4 ⊢
    clear hW4
    have f0 := PF4.f0; have f1 := PF4.f1; have f2 := PF4.f2; have r0 := PF4.r0; have r1 := PF4.r1; have r2 := PF4.r2
    have fz := PF4.fz
    refine (plain_all _ _ sp1).mono ?_
    rintro e w4 ⟨rfl | rfl, hw4⟩ <;> subst hw4
    · go_wp2_with fail
      refine (text_any _ A _ _ (HT.out.below PF4.below H7) hA sp1).mono ?_
      rintro e w5 ⟨rfl, hb5⟩
      have PF5 := PF4.next hb5
      clear f0 f1 f2 r0 r1 r2 fz PF4 hb5
      have f0 := PF5.f0; have f1 := PF5.f1; have f2 := PF5.f2; have r0 := PF5.r0; have r1 := PF5.r1; have r2 := PF5.r2
      have fz := PF5.fz
      have hB := PF5.below
      clear PF5
      obtain ⟨t, htx⟩ : ∃ t : ByteArray, t = ⟨(textL (n : Int) A p1.data.toList).toArray⟩ := ⟨_, rfl⟩
      rw [← htx]
      have HX : Hid (t = ⟨(textL (n : Int) A p1.data.toList).toArray⟩) := htx
      clear htx
      by_cases hts : t = s
      · have HS : Hid (t = s) := hts
        have hq : (t.toList == s.toList) = true := by rw [hts]; simp
        clear hts
        go_wp2
        refine bodyPost_ret (v := .tuple #[.agg #[.int .i64 n, .int .u64 (A : Nat), .string p1], .bool true]) (by simp [results, Tryd.results10, go_sem, r0, r1, r2]) rfl ⟨.inr ⟨n, A, p1, by omega, by omega, hA, sp1, HS.out.symm.trans HX.out, rfl⟩, ?_⟩
        exact ((hB.setCell (Nat.le_refl _) _).setCell (Nat.le_refl _) _).setCell (Nat.le_refl _) _
      · have hq : (t.toList == s.toList) = false := str_ne hts
        clear hts
        go_wp2
        refine bodyPost_ret (v := .tuple #[.agg #[.int .i64 0, .int .u64 0, .string ⟨#[]⟩], .bool false]) (by simp [results, Tryd.results10, go_sem, r0, r1, r2]) rfl ⟨.inl rfl, ?_⟩
        exact ((hB.setCell (Nat.le_refl _) _).setCell (Nat.le_refl _) _).setCell (Nat.le_refl _) _
    · have hB := PF4.below
      clear PF4
      go_wp2
      refine bodyPost_ret (v := .tuple #[.agg #[.int .i64 0, .int .u64 0, .string ⟨#[]⟩], .bool false]) (by simp [results, Tryd.results10, go_sem, r0, r1, r2]) rfl ⟨.inl rfl, ?_⟩
      exact ((hB.setCell (Nat.le_refl _) _).setCell (Nat.le_refl _) _).setCell (Nat.le_refl _) _
  · refine bodyPost_ret (v := .tuple #[.agg #[.int .i64 0, .int .u64 0, .string ⟨#[]⟩], .bool false]) (by simp [results, Tryd.results10, go_sem, d0, d1, d2]) rfl ⟨.inl rfl, ?_⟩
    exact ((hb1.setCell (Nat.le_refl _) _).setCell (Nat.le_refl _) _).setCell (Nat.le_refl _) _

set_option maxRecDepth 100000 in
set_option maxHeartbeats 3200000 in
theorem parse_w3 (s : ByteArray) (w : World) (hs : s.size ≤ 1000) (ht : Tabs w) (he : Errs w) (hN : s.data.toList.count 32 + 1 = 3) : Calls Tryd.prog 10 #[.string s] w fun x w' => ParseEnd s w x w' := by
  have H7 := ht.size
  have HT : Hid (Tabs w) := ht
  have HE : Hid (Errs w) := he
  have HN : Hid (s.data.toList.count 32 + 1 = 3) := hN
  clear ht he hN
  go_enter Tryd.func10, Tryd.ntmps10
  go_wp2_with (first
    | (go_at_call 17; refine (split_weak _ (3) _ hs HN).mono ?_; rintro e w1 ⟨p, hp, rfl, hpc, ⟨d0, d1, d2⟩, df, hz1, hb1⟩; have hp0 := hpc (0) (by omega); have hp2 := hpc (2) (by omega); clear hpc; have sp2 := hp (2); clear hp; generalize p (0) = p0 at hp0; generalize p (2) = p2 at hp2 sp2)
    | (go_at_call 18; refine (numbered_all _ _ (HT.out.below hb1 H7)).mono ?_; rintro e w2 ⟨⟨n, hn, rfl⟩ | rfl, hw2⟩ <;> subst hw2))
  · have hne : ¬ w.heap.size = w2.heap.size := by omega
    have PFa : PF w w2.heap.size n 0 ⟨#[]⟩ (w2.alloc (.cells #[.int .i64 n, .int .u64 0, .string ⟨#[]⟩] 26)) := by
      refine ⟨?_, ?_, ?_, by simp [go_sem], by simp [go_sem], by simp [go_sem], fun j => ?_, fun j => by simp [go_sem], by omega, by simp, hb1.alloc hb1.size _⟩
      · exact one_c d0 (by omega) _
      · exact one_c d1 (by omega) _
      · exact one_c d2 (by omega) _
      · exact one_f (df j) (by omega) _
    have se : ByteArray.size ⟨#[]⟩ ≤ 1000 := by decide
    refine (address_all _ _ sp2 (HE.out.next PFa.below)).mono ?_
    rintro e w3 ⟨⟨A, hA, rfl⟩, hb3⟩
    have PF3 := PFa.next hb3
    have f0 := PF3.f0; have f1 := PF3.f1; have f2 := PF3.f2
    have ff := PF3.ff
    clear hb3 PFa d0 d1 d2 df hp0 hp2
    go_wp2_with fail
    clear f0 f1 f2 ff
    have PF4 := PF3.setAt A
    obtain ⟨W4, hW4⟩ : ∃ W4, W4 = (w3.setCell ⟨w2.heap.size, 1, none⟩ (.int .u64 (A : Int))) := ⟨_, rfl⟩
    rw [← hW4] at PF4 ⊢
    clear hW4
    have f0 := PF4.f0; have f1 := PF4.f1; have f2 := PF4.f2; have r0 := PF4.r0; have r1 := PF4.r1; have r2 := PF4.r2
    have fz := PF4.fz
    refine (plain_all _ _ se).mono ?_
    rintro e w4 ⟨rfl | rfl, hw4⟩ <;> subst hw4
    · go_wp2_with fail
      refine (text_any _ A _ _ (HT.out.below PF4.below H7) hA se).mono ?_
      rintro e w5 ⟨rfl, hb5⟩
      have PF5 := PF4.next hb5
      clear f0 f1 f2 r0 r1 r2 fz PF4 hb5
      have f0 := PF5.f0; have f1 := PF5.f1; have f2 := PF5.f2; have r0 := PF5.r0; have r1 := PF5.r1; have r2 := PF5.r2
      have fz := PF5.fz
      have hB := PF5.below
      clear PF5
      obtain ⟨t, htx⟩ : ∃ t : ByteArray, t = ⟨(textL (n : Int) A (⟨#[]⟩ : ByteArray).data.toList).toArray⟩ := ⟨_, rfl⟩
      rw [← htx]
      have HX : Hid (t = ⟨(textL (n : Int) A (⟨#[]⟩ : ByteArray).data.toList).toArray⟩) := htx
      clear htx
      by_cases hts : t = s
      · have HS : Hid (t = s) := hts
        have hq : (t.toList == s.toList) = true := by rw [hts]; simp
        clear hts
        go_wp2
        refine bodyPost_ret (v := .tuple #[.agg #[.int .i64 n, .int .u64 (A : Nat), .string (⟨#[]⟩ : ByteArray)], .bool true]) (by simp [results, Tryd.results10, go_sem, r0, r1, r2]) rfl ⟨.inr ⟨n, A, (⟨#[]⟩ : ByteArray), by omega, by omega, hA, se, HS.out.symm.trans HX.out, rfl⟩, ?_⟩
        exact ((hB.setCell (Nat.le_refl _) _).setCell (Nat.le_refl _) _).setCell (Nat.le_refl _) _
      · have hq : (t.toList == s.toList) = false := str_ne hts
        clear hts
        go_wp2
        refine bodyPost_ret (v := .tuple #[.agg #[.int .i64 0, .int .u64 0, .string ⟨#[]⟩], .bool false]) (by simp [results, Tryd.results10, go_sem, r0, r1, r2]) rfl ⟨.inl rfl, ?_⟩
        exact ((hB.setCell (Nat.le_refl _) _).setCell (Nat.le_refl _) _).setCell (Nat.le_refl _) _
    · have hB := PF4.below
      clear PF4
      go_wp2
      refine bodyPost_ret (v := .tuple #[.agg #[.int .i64 0, .int .u64 0, .string ⟨#[]⟩], .bool false]) (by simp [results, Tryd.results10, go_sem, r0, r1, r2]) rfl ⟨.inl rfl, ?_⟩
      exact ((hB.setCell (Nat.le_refl _) _).setCell (Nat.le_refl _) _).setCell (Nat.le_refl _) _
  · refine bodyPost_ret (v := .tuple #[.agg #[.int .i64 0, .int .u64 0, .string ⟨#[]⟩], .bool false]) (by simp [results, Tryd.results10, go_sem, d0, d1, d2]) rfl ⟨.inl rfl, ?_⟩
    exact ((hb1.setCell (Nat.le_refl _) _).setCell (Nat.le_refl _) _).setCell (Nat.le_refl _) _

set_option maxRecDepth 100000 in
set_option maxHeartbeats 3200000 in
theorem parse_w2 (s : ByteArray) (w : World) (hs : s.size ≤ 1000) (ht : Tabs w) (he : Errs w) (hN : s.data.toList.count 32 + 1 = 2) : Calls Tryd.prog 10 #[.string s] w fun x w' => ParseEnd s w x w' := by
  have H7 := ht.size
  have HT : Hid (Tabs w) := ht
  have HE : Hid (Errs w) := he
  have HN : Hid (s.data.toList.count 32 + 1 = 2) := hN
  clear ht he hN
  go_enter Tryd.func10, Tryd.ntmps10
  go_wp2_with (first
    | (go_at_call 17; refine (split_weak _ (2) _ hs HN).mono ?_; rintro e w1 ⟨p, hp, rfl, hpc, ⟨d0, d1, d2⟩, df, hz1, hb1⟩; have hp0 := hpc (0) (by omega); have hp1 := hpc (1) (by omega); clear hpc; have sp1 := hp (1); clear hp; generalize p (0) = p0 at hp0; generalize p (1) = p1 at hp1 sp1)
    | (go_at_call 18; refine (numbered_all _ _ (HT.out.below hb1 H7)).mono ?_; rintro e w2 ⟨⟨n, hn, rfl⟩ | rfl, hw2⟩ <;> subst hw2))
  · have hne : ¬ w.heap.size = w2.heap.size := by omega
    have PFa : PF w w2.heap.size n 0 p1 (w2.alloc (.cells #[.int .i64 n, .int .u64 0, .string p1] 26)) := by
      refine ⟨?_, ?_, ?_, by simp [go_sem], by simp [go_sem], by simp [go_sem], fun j => ?_, fun j => by simp [go_sem], by omega, by simp, hb1.alloc hb1.size _⟩
      · exact one_c d0 (by omega) _
      · exact one_c d1 (by omega) _
      · exact one_c d2 (by omega) _
      · exact one_f (df j) (by omega) _
    have h00 : 0 < 18446744073709551616 := by omega
    clear d0 d1 d2 df
    have PF4 := PFa
    obtain ⟨W4, hW4⟩ : ∃ W4, W4 = (w2.alloc (.cells #[.int .i64 (n : Int), .int .u64 0, .string p1] 26)) := ⟨_, rfl⟩
    rw [← hW4] at PF4 ⊢
    clear hW4
    have f0 := PF4.f0; have f1 := PF4.f1; have f2 := PF4.f2; have r0 := PF4.r0; have r1 := PF4.r1; have r2 := PF4.r2
    have fz := PF4.fz
    refine (plain_all _ _ sp1).mono ?_
    rintro e w4 ⟨rfl | rfl, hw4⟩ <;> subst hw4
    · go_wp2_with fail
      refine (text_any _ 0 _ _ (HT.out.below PF4.below H7) h00 sp1).mono ?_
      rintro e w5 ⟨rfl, hb5⟩
      have PF5 := PF4.next hb5
      clear f0 f1 f2 r0 r1 r2 fz PF4 hb5
      have f0 := PF5.f0; have f1 := PF5.f1; have f2 := PF5.f2; have r0 := PF5.r0; have r1 := PF5.r1; have r2 := PF5.r2
      have fz := PF5.fz
      have hB := PF5.below
      clear PF5
      obtain ⟨t, htx⟩ : ∃ t : ByteArray, t = ⟨(textL (n : Int) 0 p1.data.toList).toArray⟩ := ⟨_, rfl⟩
      rw [← htx]
      have HX : Hid (t = ⟨(textL (n : Int) 0 p1.data.toList).toArray⟩) := htx
      clear htx
      by_cases hts : t = s
      · have HS : Hid (t = s) := hts
        have hq : (t.toList == s.toList) = true := by rw [hts]; simp
        clear hts
        go_wp2
        refine bodyPost_ret (v := .tuple #[.agg #[.int .i64 n, .int .u64 (0 : Nat), .string p1], .bool true]) (by simp [results, Tryd.results10, go_sem, r0, r1, r2]) rfl ⟨.inr ⟨n, 0, p1, by omega, by omega, h00, sp1, HS.out.symm.trans HX.out, rfl⟩, ?_⟩
        exact ((hB.setCell (Nat.le_refl _) _).setCell (Nat.le_refl _) _).setCell (Nat.le_refl _) _
      · have hq : (t.toList == s.toList) = false := str_ne hts
        clear hts
        go_wp2
        refine bodyPost_ret (v := .tuple #[.agg #[.int .i64 0, .int .u64 0, .string ⟨#[]⟩], .bool false]) (by simp [results, Tryd.results10, go_sem, r0, r1, r2]) rfl ⟨.inl rfl, ?_⟩
        exact ((hB.setCell (Nat.le_refl _) _).setCell (Nat.le_refl _) _).setCell (Nat.le_refl _) _
    · have hB := PF4.below
      clear PF4
      go_wp2
      refine bodyPost_ret (v := .tuple #[.agg #[.int .i64 0, .int .u64 0, .string ⟨#[]⟩], .bool false]) (by simp [results, Tryd.results10, go_sem, r0, r1, r2]) rfl ⟨.inl rfl, ?_⟩
      exact ((hB.setCell (Nat.le_refl _) _).setCell (Nat.le_refl _) _).setCell (Nat.le_refl _) _
  · refine bodyPost_ret (v := .tuple #[.agg #[.int .i64 0, .int .u64 0, .string ⟨#[]⟩], .bool false]) (by simp [results, Tryd.results10, go_sem, d0, d1, d2]) rfl ⟨.inl rfl, ?_⟩
    exact ((hb1.setCell (Nat.le_refl _) _).setCell (Nat.le_refl _) _).setCell (Nat.le_refl _) _

set_option maxRecDepth 100000 in
set_option maxHeartbeats 3200000 in
theorem parse_w1 (s : ByteArray) (w : World) (hs : s.size ≤ 1000) (ht : Tabs w) (he : Errs w) (hN : s.data.toList.count 32 + 1 = 1) : Calls Tryd.prog 10 #[.string s] w fun x w' => ParseEnd s w x w' := by
  have H7 := ht.size
  have HT : Hid (Tabs w) := ht
  have HE : Hid (Errs w) := he
  have HN : Hid (s.data.toList.count 32 + 1 = 1) := hN
  clear ht he hN
  go_enter Tryd.func10, Tryd.ntmps10
  go_wp2_with (first
    | (go_at_call 17; refine (split_weak _ (1) _ hs HN).mono ?_; rintro e w1 ⟨p, hp, rfl, hpc, ⟨d0, d1, d2⟩, df, hz1, hb1⟩; have hp0 := hpc (0) (by omega); clear hpc;  clear hp; generalize p (0) = p0 at hp0)
    | (go_at_call 18; refine (numbered_all _ _ (HT.out.below hb1 H7)).mono ?_; rintro e w2 ⟨⟨n, hn, rfl⟩ | rfl, hw2⟩ <;> subst hw2))
  · have hne : ¬ w.heap.size = w2.heap.size := by omega
    have PFa : PF w w2.heap.size n 0 ⟨#[]⟩ (w2.alloc (.cells #[.int .i64 n, .int .u64 0, .string ⟨#[]⟩] 26)) := by
      refine ⟨?_, ?_, ?_, by simp [go_sem], by simp [go_sem], by simp [go_sem], fun j => ?_, fun j => by simp [go_sem], by omega, by simp, hb1.alloc hb1.size _⟩
      · exact one_c d0 (by omega) _
      · exact one_c d1 (by omega) _
      · exact one_c d2 (by omega) _
      · exact one_f (df j) (by omega) _
    have h00 : 0 < 18446744073709551616 := by omega
    have se : ByteArray.size ⟨#[]⟩ ≤ 1000 := by decide
    clear d0 d1 d2 df
    have PF4 := PFa
    obtain ⟨W4, hW4⟩ : ∃ W4, W4 = (w2.alloc (.cells #[.int .i64 (n : Int), .int .u64 0, .string ⟨#[]⟩] 26)) := ⟨_, rfl⟩
    rw [← hW4] at PF4 ⊢
    clear hW4
    have f0 := PF4.f0; have f1 := PF4.f1; have f2 := PF4.f2; have r0 := PF4.r0; have r1 := PF4.r1; have r2 := PF4.r2
    have fz := PF4.fz
    refine (plain_all _ _ se).mono ?_
    rintro e w4 ⟨rfl | rfl, hw4⟩ <;> subst hw4
    · go_wp2_with fail
      refine (text_any _ 0 _ _ (HT.out.below PF4.below H7) h00 se).mono ?_
      rintro e w5 ⟨rfl, hb5⟩
      have PF5 := PF4.next hb5
      clear f0 f1 f2 r0 r1 r2 fz PF4 hb5
      have f0 := PF5.f0; have f1 := PF5.f1; have f2 := PF5.f2; have r0 := PF5.r0; have r1 := PF5.r1; have r2 := PF5.r2
      have fz := PF5.fz
      have hB := PF5.below
      clear PF5
      obtain ⟨t, htx⟩ : ∃ t : ByteArray, t = ⟨(textL (n : Int) 0 (⟨#[]⟩ : ByteArray).data.toList).toArray⟩ := ⟨_, rfl⟩
      rw [← htx]
      have HX : Hid (t = ⟨(textL (n : Int) 0 (⟨#[]⟩ : ByteArray).data.toList).toArray⟩) := htx
      clear htx
      by_cases hts : t = s
      · have HS : Hid (t = s) := hts
        have hq : (t.toList == s.toList) = true := by rw [hts]; simp
        clear hts
        go_wp2
        refine bodyPost_ret (v := .tuple #[.agg #[.int .i64 n, .int .u64 (0 : Nat), .string (⟨#[]⟩ : ByteArray)], .bool true]) (by simp [results, Tryd.results10, go_sem, r0, r1, r2]) rfl ⟨.inr ⟨n, 0, (⟨#[]⟩ : ByteArray), by omega, by omega, h00, se, HS.out.symm.trans HX.out, rfl⟩, ?_⟩
        exact ((hB.setCell (Nat.le_refl _) _).setCell (Nat.le_refl _) _).setCell (Nat.le_refl _) _
      · have hq : (t.toList == s.toList) = false := str_ne hts
        clear hts
        go_wp2
        refine bodyPost_ret (v := .tuple #[.agg #[.int .i64 0, .int .u64 0, .string ⟨#[]⟩], .bool false]) (by simp [results, Tryd.results10, go_sem, r0, r1, r2]) rfl ⟨.inl rfl, ?_⟩
        exact ((hB.setCell (Nat.le_refl _) _).setCell (Nat.le_refl _) _).setCell (Nat.le_refl _) _
    · have hB := PF4.below
      clear PF4
      go_wp2
      refine bodyPost_ret (v := .tuple #[.agg #[.int .i64 0, .int .u64 0, .string ⟨#[]⟩], .bool false]) (by simp [results, Tryd.results10, go_sem, r0, r1, r2]) rfl ⟨.inl rfl, ?_⟩
      exact ((hB.setCell (Nat.le_refl _) _).setCell (Nat.le_refl _) _).setCell (Nat.le_refl _) _
  · refine bodyPost_ret (v := .tuple #[.agg #[.int .i64 0, .int .u64 0, .string ⟨#[]⟩], .bool false]) (by simp [results, Tryd.results10, go_sem, d0, d1, d2]) rfl ⟨.inl rfl, ?_⟩
    exact ((hb1.setCell (Nat.le_refl _) _).setCell (Nat.le_refl _) _).setCell (Nat.le_refl _) _

set_option maxRecDepth 100000 in
set_option maxHeartbeats 3200000 in
theorem parse_w5 (s : ByteArray) (M : Nat) (w : World) (hs : s.size ≤ 1000) (ht : Tabs w) (he : Errs w) (hN : s.data.toList.count 32 + 1 = M + 5) : Calls Tryd.prog 10 #[.string s] w fun x w' => ParseEnd s w x w' := by
  have H7 := ht.size
  have HT : Hid (Tabs w) := ht
  have HE : Hid (Errs w) := he
  have HN : Hid (s.data.toList.count 32 + 1 = M + 5) := hN
  have hM : M ≤ 1000 := by have := List.count_le_length (a := (32 : UInt8)) (l := s.data.toList); have h2 : s.data.toList.length = s.size := (by simp); omega
  have g1 : (2 : Int) ≤ (M : Int) + 4 := by omega
  have g2 : (((M : Int) + 4 - 2) == 1) = false := by rw [beq_eq_false_iff_ne]; omega
  have g3 : (((M : Int) + 2) == 1) = false := by rw [beq_eq_false_iff_ne]; omega
  clear ht he hN
  go_enter Tryd.func10, Tryd.ntmps10
  go_wp2_with (first
    | (go_at_call 17; refine (split_weak _ (M + 5) _ hs HN).mono ?_; rintro e w1 ⟨p, hp, rfl, hpc, ⟨d0, d1, d2⟩, df, hz1, hb1⟩; have hp0 := hpc (0) (by omega); have hpm_4 := hpc (M + 4) (by omega); have hpx : w1.cell? ⟨w.heap.size + 1, 1 + (M + 3), none⟩ = some (.string (p (M + 4))) := (by rw [show 1 + (M + 3) = M + 4 by omega]; exact hpm_4); clear hpc; have spm_4 := hp (M + 4); clear hp; generalize p (0) = p0 at hp0; generalize p (M + 4) = pm_4 at hpm_4 hpx spm_4)
    | (go_at_call 18; refine (numbered_all _ _ (HT.out.below hb1 H7)).mono ?_; rintro e w2 ⟨⟨n, hn, rfl⟩ | rfl, hw2⟩ <;> subst hw2))
  · have hne : ¬ w.heap.size = w2.heap.size := by omega
    have PFa : PF w w2.heap.size n 0 ⟨#[]⟩ (w2.alloc (.cells #[.int .i64 n, .int .u64 0, .string ⟨#[]⟩] 26)) := by
      refine ⟨?_, ?_, ?_, by simp [go_sem], by simp [go_sem], by simp [go_sem], fun j => ?_, fun j => by simp [go_sem], by omega, by simp, hb1.alloc hb1.size _⟩
      · exact one_c d0 (by omega) _
      · exact one_c d1 (by omega) _
      · exact one_c d2 (by omega) _
      · exact one_f (df j) (by omega) _
    have se : ByteArray.size ⟨#[]⟩ ≤ 1000 := by decide
    refine (address_all _ _ spm_4 (HE.out.next PFa.below)).mono ?_
    rintro e w3 ⟨⟨A, hA, rfl⟩, hb3⟩
    have PF3 := PFa.next hb3
    have f0 := PF3.f0; have f1 := PF3.f1; have f2 := PF3.f2
    have ff := PF3.ff
    clear hb3 PFa d0 d1 d2 df hp0 hpm_4
    go_wp2_with fail
    clear f0 f1 f2 ff
    have PF4 := PF3.setAt A
    obtain ⟨W4, hW4⟩ : ∃ W4, W4 = (w3.setCell ⟨w2.heap.size, 1, none⟩ (.int .u64 (A : Int))) := ⟨_, rfl⟩
    rw [← hW4] at PF4 ⊢
    clear hW4
    have f0 := PF4.f0; have f1 := PF4.f1; have f2 := PF4.f2; have r0 := PF4.r0; have r1 := PF4.r1; have r2 := PF4.r2
    have fz := PF4.fz
    refine (plain_all _ _ se).mono ?_
    rintro e w4 ⟨rfl | rfl, hw4⟩ <;> subst hw4
    · go_wp2_with fail
      refine (text_any _ A _ _ (HT.out.below PF4.below H7) hA se).mono ?_
      rintro e w5 ⟨rfl, hb5⟩
      have PF5 := PF4.next hb5
      clear f0 f1 f2 r0 r1 r2 fz PF4 hb5
      have f0 := PF5.f0; have f1 := PF5.f1; have f2 := PF5.f2; have r0 := PF5.r0; have r1 := PF5.r1; have r2 := PF5.r2
      have fz := PF5.fz
      have hB := PF5.below
      clear PF5
      obtain ⟨t, htx⟩ : ∃ t : ByteArray, t = ⟨(textL (n : Int) A (⟨#[]⟩ : ByteArray).data.toList).toArray⟩ := ⟨_, rfl⟩
      rw [← htx]
      have HX : Hid (t = ⟨(textL (n : Int) A (⟨#[]⟩ : ByteArray).data.toList).toArray⟩) := htx
      clear htx
      by_cases hts : t = s
      · have HS : Hid (t = s) := hts
        have hq : (t.toList == s.toList) = true := by rw [hts]; simp
        clear hts
        go_wp2
        refine bodyPost_ret (v := .tuple #[.agg #[.int .i64 n, .int .u64 (A : Nat), .string (⟨#[]⟩ : ByteArray)], .bool true]) (by simp [results, Tryd.results10, go_sem, r0, r1, r2]) rfl ⟨.inr ⟨n, A, (⟨#[]⟩ : ByteArray), by omega, by omega, hA, se, HS.out.symm.trans HX.out, rfl⟩, ?_⟩
        exact ((hB.setCell (Nat.le_refl _) _).setCell (Nat.le_refl _) _).setCell (Nat.le_refl _) _
      · have hq : (t.toList == s.toList) = false := str_ne hts
        clear hts
        go_wp2
        refine bodyPost_ret (v := .tuple #[.agg #[.int .i64 0, .int .u64 0, .string ⟨#[]⟩], .bool false]) (by simp [results, Tryd.results10, go_sem, r0, r1, r2]) rfl ⟨.inl rfl, ?_⟩
        exact ((hB.setCell (Nat.le_refl _) _).setCell (Nat.le_refl _) _).setCell (Nat.le_refl _) _
    · have hB := PF4.below
      clear PF4
      go_wp2
      refine bodyPost_ret (v := .tuple #[.agg #[.int .i64 0, .int .u64 0, .string ⟨#[]⟩], .bool false]) (by simp [results, Tryd.results10, go_sem, r0, r1, r2]) rfl ⟨.inl rfl, ?_⟩
      exact ((hB.setCell (Nat.le_refl _) _).setCell (Nat.le_refl _) _).setCell (Nat.le_refl _) _
  · refine bodyPost_ret (v := .tuple #[.agg #[.int .i64 0, .int .u64 0, .string ⟨#[]⟩], .bool false]) (by simp [results, Tryd.results10, go_sem, d0, d1, d2]) rfl ⟨.inl rfl, ?_⟩
    exact ((hb1.setCell (Nat.le_refl _) _).setCell (Nat.le_refl _) _).setCell (Nat.le_refl _) _

theorem parse_weak (s : ByteArray) (w : World) (hs : s.size ≤ 1000) (ht : Tabs w) (he : Errs w) : Calls Tryd.prog 10 #[.string s] w fun x w' => ParseEnd s w x w' := by
  rcases (show s.data.toList.count 32 + 1 = 1 ∨ s.data.toList.count 32 + 1 = 2 ∨ s.data.toList.count 32 + 1 = 3 ∨ s.data.toList.count 32 + 1 = 4 ∨ s.data.toList.count 32 + 1 = (s.data.toList.count 32 - 4) + 5 by omega) with h | h | h | h | h
  · exact parse_w1 s w hs ht he h
  · exact parse_w2 s w hs ht he h
  · exact parse_w3 s w hs ht he h
  · exact parse_w4 s w hs ht he h
  · exact parse_w5 s _ w hs ht he h
end Go.Proofs.YtjcefpeicbekhaaDoor
