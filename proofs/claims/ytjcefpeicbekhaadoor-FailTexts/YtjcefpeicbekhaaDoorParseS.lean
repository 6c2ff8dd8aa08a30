/-
  fail.Parse: the text of a fault whose name is plain is read as that fault.
-/
import Derived.Test.YtjcefpeicbekhaaDoorA8
import Derived.Test.YtjcefpeicbekhaaDoorText
namespace Go.Proofs.YtjcefpeicbekhaaDoor
open Go.RowKit

theorem split_known (s : ByteArray) (P : List (List UInt8)) (N : Nat) (w : World) (hs : s.size ≤ 1000) (hP : Hid (split s.data.toList = P)) (hN : Hid (P.length = N)) : Calls Tryd.prog 17 #[.string s, .string ⟨#[32]⟩] (w.alloc (.cells #[.int .i64 0, .int .u64 0, .string ⟨#[]⟩] 26)) fun e w' => e = .returned (.slice (some ⟨w.heap.size + 1, 0, none⟩) N N) ∧
    (∀ j, j < N → w'.cell? ⟨w.heap.size + 1, j, none⟩ = some (.string ⟨(P.getD j []).toArray⟩)) ∧
    (w'.cell? ⟨w.heap.size, 0, none⟩ = some (.int .i64 0) ∧ w'.cell? ⟨w.heap.size, 1, none⟩ = some (.int .u64 0) ∧ w'.cell? ⟨w.heap.size, 2, none⟩ = some (.string ⟨#[]⟩)) ∧
    (∀ j, w'.frozen? ⟨w.heap.size, j, none⟩ = false) ∧ w.heap.size + 1 < w'.heap.size ∧ Below w.heap.size w w' := by
  have hl := split_length s.data.toList
  have hN2 := hN.out
  rw [← hP.out] at hN2
  rw [← hP.out]
  refine (split_any s (split s.data.toList) (s.data.toList.count 32) _ hs rfl hl).mono ?_
  rintro e w' ⟨rfl, ho, hb⟩
  obtain ⟨hc, hf⟩ := bcell hb
  simp only [World.size_alloc] at ho hc hf hb
  have hcell : ∀ j, j < N → w'.cell? ⟨w.heap.size + 1, j, none⟩ = some (.string ⟨((split s.data.toList).getD j []).toArray⟩) := by
    intro j hj
    have h0 := ho.cellAt j (by omega)
    have hj2 : j < (split s.data.toList).length := by omega
    simpa [hj2, strV] using h0
  have hz : w.heap.size + 1 < w'.heap.size := World.block_lt_of_cell? w' ⟨w.heap.size + 1, 0, none⟩ (hcell 0 (by omega))
  refine ⟨by rw [← hN2, hl]; simp, hcell, ⟨?_, ?_, ?_⟩, fun j => ?_, hz, ?_⟩
  · rw [hc _ _ (by omega)]; simp [go_sem]
  · rw [hc _ _ (by omega)]; simp [go_sem]
  · rw [hc _ _ (by omega)]; simp [go_sem]
  · rw [hf _ _ (by omega)]; simp [go_sem]
  · exact ((Below.refl _ w).alloc (Nat.le_refl _) _).trans (hb.mono (by omega))

theorem ba_eta (b : ByteArray) : (⟨b.data.toList.toArray⟩ : ByteArray) = b := by cases b; simp

/-- What is read. -/
def Read (n A : Nat) (p1 : ByteArray) (w : World) (x : Ending) (w' : World) : Prop := x = .returned (.tuple #[.agg #[.int .i64 n, .int .u64 A, .string p1], .bool true]) ∧ Below w.heap.size w w'

set_option maxRecDepth 100000 in
set_option maxHeartbeats 3200000 in
theorem parse_s4 (s p0 p1 p2 p3 : ByteArray) (n A : Nat) (w : World) (hs : s.size ≤ 1000) (hA : A < 18446744073709551616) (sp1 : p1.size ≤ 1000) (ht : Tabs w) (HP : Hid (split s.data.toList = [p0.data.toList, p1.data.toList, p2.data.toList, p3.data.toList]))
    (NB : ∀ w, Tabs w → Calls Tryd.prog 18 #[.string p0] w fun x w' => x = .returned (.tuple #[.int .i64 n, .bool true]) ∧ w' = w)
    (AD : ∀ w, Calls Tryd.prog 19 #[.string p3] w fun x w' => x = .returned (.int .u64 A) ∧ Below w.heap.size w w')
    (PL : ∀ w, Calls Tryd.prog 20 #[.string p1] w fun x w' => x = .returned (.bool true) ∧ w' = w) (HTS : Hid ((⟨(textL (n : Int) A p1.data.toList).toArray⟩ : ByteArray) = s)) :
    Calls Tryd.prog 10 #[.string s] w (Read n A p1 w) := by
  have H7 := ht.size
  have HT : Hid (Tabs w) := ht
  have HN : Hid (([p0.data.toList, p1.data.toList, p2.data.toList, p3.data.toList] : List (List UInt8)).length = 4) := rfl
  clear ht
  go_enter Tryd.func10, Tryd.ntmps10
  go_wp2_with (first
    | (go_at_call 17; refine (split_known _ _ _ _ hs HP HN).mono ?_; rintro e w1 ⟨rfl, hpc, ⟨d0, d1, d2⟩, df, hz1, hb1⟩; have hp0 := hpc 0 (by omega); have hp1 := hpc 1 (by omega); have hp3 := hpc 3 (by omega); clear hpc; rw [show (([p0.data.toList, p1.data.toList, p2.data.toList, p3.data.toList] : List (List UInt8)).getD 0 []) = p0.data.toList from rfl, ba_eta] at hp0; rw [show (([p0.data.toList, p1.data.toList, p2.data.toList, p3.data.toList] : List (List UInt8)).getD 1 []) = p1.data.toList from rfl, ba_eta] at hp1; rw [show (([p0.data.toList, p1.data.toList, p2.data.toList, p3.data.toList] : List (List UInt8)).getD 3 []) = p3.data.toList from rfl, ba_eta] at hp3)
    | (go_at_call 18; refine (NB _ (HT.out.below hb1 H7)).mono ?_; rintro e w2 ⟨rfl, hw2⟩; subst hw2))
  have hne : ¬ w.heap.size = w2.heap.size := by omega
  have PFa : PF w w2.heap.size n 0 ⟨#[]⟩ (w2.alloc (.cells #[.int .i64 n, .int .u64 0, .string ⟨#[]⟩] 26)) := by
    refine ⟨?_, ?_, ?_, by simp [go_sem], by simp [go_sem], by simp [go_sem], fun j => ?_, fun j => by simp [go_sem], by omega, by simp, hb1.alloc hb1.size _⟩
    · exact one_c d0 (by omega) _
    · exact one_c d1 (by omega) _
    · exact one_c d2 (by omega) _
    · exact one_f (df j) (by omega) _
  refine (AD _).mono ?_
  rintro e w3 ⟨rfl, hb3⟩
  have PF3 := PFa.next hb3
  have q1 : w3.cell? ⟨w.heap.size + 1, 1, none⟩ = some (.string p1) := ((bcell hb3).1 _ _ (by simp; omega)).trans (one_c hp1 (by omega) _)
  have f0 := PF3.f0; have f1 := PF3.f1; have f2 := PF3.f2
  have ff := PF3.ff
  clear hb3 PFa d0 d1 d2 df hp0 hp1 hp3
  go_wp2_with fail
  clear f0 f1 f2 ff
  have PF4 := (PF3.setAt A).setName p1
  obtain ⟨W4, hW4⟩ : ∃ W4, W4 = ((w3.setCell ⟨w2.heap.size, 1, none⟩ (.int .u64 (A : Int))).setCell ⟨w2.heap.size, 2, none⟩ (.string p1)) := ⟨_, rfl⟩
  rw [← hW4] at PF4 ⊢
  clear hW4
  have f0 := PF4.f0; have f1 := PF4.f1; have f2 := PF4.f2; have r0 := PF4.r0; have r1 := PF4.r1; have r2 := PF4.r2
  have fz := PF4.fz
  refine (PL _).mono ?_
  rintro e w4 ⟨rfl, hw4⟩
  subst hw4
  · go_wp2_with fail
    refine (text_any _ A _ _ (HT.out.below PF4.below H7) hA sp1).mono ?_
    rintro e w5 ⟨rfl, hb5⟩
    have PF5 := PF4.next hb5
    clear f0 f1 f2 r0 r1 r2 fz PF4 hb5
    have f0 := PF5.f0; have f1 := PF5.f1; have f2 := PF5.f2; have r0 := PF5.r0; have r1 := PF5.r1; have r2 := PF5.r2
    have fz := PF5.fz
    have hB := PF5.below
    clear PF5
    obtain ⟨t, htx⟩ : ∃ t : ByteArray, t = ⟨(textL (n : Int) A p1.data.toList).toArray⟩ := ⟨_, rfl⟩
    rw [← htx]
    have HX : Hid (t = ⟨(textL (n : Int) A p1.data.toList).toArray⟩) := htx
    clear htx
    have hts : t = s := HX.out.trans HTS.out
    have hq : (t.toList == s.toList) = true := by rw [hts]; simp
    clear hts
    go_wp2
    refine bodyPost_ret (v := .tuple #[.agg #[.int .i64 n, .int .u64 (A : Nat), .string p1], .bool true]) (by simp [results, Tryd.results10, go_sem, r0, r1, r2]) rfl ⟨rfl, ?_⟩
    exact ((hB.setCell (Nat.le_refl _) _).setCell (Nat.le_refl _) _).setCell (Nat.le_refl _) _

set_option maxRecDepth 100000 in
set_option maxHeartbeats 3200000 in
theorem parse_s3 (s p0 p1 p2 : ByteArray) (n A : Nat) (w : World) (hs : s.size ≤ 1000) (hA : A < 18446744073709551616) (ht : Tabs w) (HP : Hid (split s.data.toList = [p0.data.toList, p1.data.toList, p2.data.toList]))
    (NB : ∀ w, Tabs w → Calls Tryd.prog 18 #[.string p0] w fun x w' => x = .returned (.tuple #[.int .i64 n, .bool true]) ∧ w' = w)
    (AD : ∀ w, Calls Tryd.prog 19 #[.string p2] w fun x w' => x = .returned (.int .u64 A) ∧ Below w.heap.size w w')
    (PL : ∀ w, Calls Tryd.prog 20 #[.string (⟨#[]⟩ : ByteArray)] w fun x w' => x = .returned (.bool true) ∧ w' = w) (HTS : Hid ((⟨(textL (n : Int) A (⟨#[]⟩ : ByteArray).data.toList).toArray⟩ : ByteArray) = s)) :
    Calls Tryd.prog 10 #[.string s] w (Read n A (⟨#[]⟩ : ByteArray) w) := by
  have H7 := ht.size
  have HT : Hid (Tabs w) := ht
  have HN : Hid (([p0.data.toList, p1.data.toList, p2.data.toList] : List (List UInt8)).length = 3) := rfl
  clear ht
  go_enter Tryd.func10, Tryd.ntmps10
  go_wp2_with (first
    | (go_at_call 17; refine (split_known _ _ _ _ hs HP HN).mono ?_; rintro e w1 ⟨rfl, hpc, ⟨d0, d1, d2⟩, df, hz1, hb1⟩; have hp0 := hpc 0 (by omega); have hp2 := hpc 2 (by omega); clear hpc; rw [show (([p0.data.toList, p1.data.toList, p2.data.toList] : List (List UInt8)).getD 0 []) = p0.data.toList from rfl, ba_eta] at hp0; rw [show (([p0.data.toList, p1.data.toList, p2.data.toList] : List (List UInt8)).getD 2 []) = p2.data.toList from rfl, ba_eta] at hp2)
    | (go_at_call 18; refine (NB _ (HT.out.below hb1 H7)).mono ?_; rintro e w2 ⟨rfl, hw2⟩; subst hw2))
  have hne : ¬ w.heap.size = w2.heap.size := by omega
  have PFa : PF w w2.heap.size n 0 ⟨#[]⟩ (w2.alloc (.cells #[.int .i64 n, .int .u64 0, .string ⟨#[]⟩] 26)) := by
    refine ⟨?_, ?_, ?_, by simp [go_sem], by simp [go_sem], by simp [go_sem], fun j => ?_, fun j => by simp [go_sem], by omega, by simp, hb1.alloc hb1.size _⟩
    · exact one_c d0 (by omega) _
    · exact one_c d1 (by omega) _
    · exact one_c d2 (by omega) _
    · exact one_f (df j) (by omega) _
  have se : ByteArray.size ⟨#[]⟩ ≤ 1000 := by decide
  refine (AD _).mono ?_
  rintro e w3 ⟨rfl, hb3⟩
  have PF3 := PFa.next hb3
  have f0 := PF3.f0; have f1 := PF3.f1; have f2 := PF3.f2
  have ff := PF3.ff
  clear hb3 PFa d0 d1 d2 df hp0 hp2
  go_wp2_with fail
  clear f0 f1 f2 ff
  have PF4 := PF3.setAt A
  obtain ⟨W4, hW4⟩ : ∃ W4, W4 = (w3.setCell ⟨w2.heap.size, 1, none⟩ (.int .u64 (A : Int))) := ⟨_, rfl⟩
  rw [← hW4] at PF4 ⊢
  clear hW4
  have f0 := PF4.f0; have f1 := PF4.f1; have f2 := PF4.f2; have r0 := PF4.r0; have r1 := PF4.r1; have r2 := PF4.r2
  have fz := PF4.fz
  refine (PL _).mono ?_
  rintro e w4 ⟨rfl, hw4⟩
  subst hw4
  · go_wp2_with fail
    refine (text_any _ A _ _ (HT.out.below PF4.below H7) hA se).mono ?_
    rintro e w5 ⟨rfl, hb5⟩
    have PF5 := PF4.next hb5
    clear f0 f1 f2 r0 r1 r2 fz PF4 hb5
    have f0 := PF5.f0; have f1 := PF5.f1; have f2 := PF5.f2; have r0 := PF5.r0; have r1 := PF5.r1; have r2 := PF5.r2
    have fz := PF5.fz
    have hB := PF5.below
    clear PF5
    obtain ⟨t, htx⟩ : ∃ t : ByteArray, t = ⟨(textL (n : Int) A (⟨#[]⟩ : ByteArray).data.toList).toArray⟩ := ⟨_, rfl⟩
    rw [← htx]
    have HX : Hid (t = ⟨(textL (n : Int) A (⟨#[]⟩ : ByteArray).data.toList).toArray⟩) := htx
    clear htx
    have hts : t = s := HX.out.trans HTS.out
    have hq : (t.toList == s.toList) = true := by rw [hts]; simp
    clear hts
    go_wp2
    refine bodyPost_ret (v := .tuple #[.agg #[.int .i64 n, .int .u64 (A : Nat), .string (⟨#[]⟩ : ByteArray)], .bool true]) (by simp [results, Tryd.results10, go_sem, r0, r1, r2]) rfl ⟨rfl, ?_⟩
    exact ((hB.setCell (Nat.le_refl _) _).setCell (Nat.le_refl _) _).setCell (Nat.le_refl _) _

set_option maxRecDepth 100000 in
set_option maxHeartbeats 3200000 in
theorem parse_s2 (s p0 p1 : ByteArray) (n : Nat) (w : World) (hs : s.size ≤ 1000) (sp1 : p1.size ≤ 1000) (ht : Tabs w) (HP : Hid (split s.data.toList = [p0.data.toList, p1.data.toList]))
    (NB : ∀ w, Tabs w → Calls Tryd.prog 18 #[.string p0] w fun x w' => x = .returned (.tuple #[.int .i64 n, .bool true]) ∧ w' = w)
    (PL : ∀ w, Calls Tryd.prog 20 #[.string p1] w fun x w' => x = .returned (.bool true) ∧ w' = w) (HTS : Hid ((⟨(textL (n : Int) 0 p1.data.toList).toArray⟩ : ByteArray) = s)) :
    Calls Tryd.prog 10 #[.string s] w (Read n 0 p1 w) := by
  have H7 := ht.size
  have HT : Hid (Tabs w) := ht
  have HN : Hid (([p0.data.toList, p1.data.toList] : List (List UInt8)).length = 2) := rfl
  clear ht
  go_enter Tryd.func10, Tryd.ntmps10
  go_wp2_with (first
    | (go_at_call 17; refine (split_known _ _ _ _ hs HP HN).mono ?_; rintro e w1 ⟨rfl, hpc, ⟨d0, d1, d2⟩, df, hz1, hb1⟩; have hp0 := hpc 0 (by omega); have hp1 := hpc 1 (by omega); clear hpc; rw [show (([p0.data.toList, p1.data.toList] : List (List UInt8)).getD 0 []) = p0.data.toList from rfl, ba_eta] at hp0; rw [show (([p0.data.toList, p1.data.toList] : List (List UInt8)).getD 1 []) = p1.data.toList from rfl, ba_eta] at hp1)
    | (go_at_call 18; refine (NB _ (HT.out.below hb1 H7)).mono ?_; rintro e w2 ⟨rfl, hw2⟩; subst hw2))
  have hne : ¬ w.heap.size = w2.heap.size := by omega
  have PFa : PF w w2.heap.size n 0 p1 (w2.alloc (.cells #[.int .i64 n, .int .u64 0, .string p1] 26)) := by
    refine ⟨?_, ?_, ?_, by simp [go_sem], by simp [go_sem], by simp [go_sem], fun j => ?_, fun j => by simp [go_sem], by omega, by simp, hb1.alloc hb1.size _⟩
    · exact one_c d0 (by omega) _
    · exact one_c d1 (by omega) _
    · exact one_c d2 (by omega) _
    · exact one_f (df j) (by omega) _
  have h00 : 0 < 18446744073709551616 := by omega
  clear d0 d1 d2 df
  have PF4 := PFa
  obtain ⟨W4, hW4⟩ : ∃ W4, W4 = (w2.alloc (.cells #[.int .i64 (n : Int), .int .u64 0, .string p1] 26)) := ⟨_, rfl⟩
  rw [← hW4] at PF4 ⊢
  clear hW4
  have f0 := PF4.f0; have f1 := PF4.f1; have f2 := PF4.f2; have r0 := PF4.r0; have r1 := PF4.r1; have r2 := PF4.r2
  have fz := PF4.fz
  refine (PL _).mono ?_
  rintro e w4 ⟨rfl, hw4⟩
  subst hw4
  · go_wp2_with fail
    refine (text_any _ 0 _ _ (HT.out.below PF4.below H7) h00 sp1).mono ?_
    rintro e w5 ⟨rfl, hb5⟩
    have PF5 := PF4.next hb5
    clear f0 f1 f2 r0 r1 r2 fz PF4 hb5
    have f0 := PF5.f0; have f1 := PF5.f1; have f2 := PF5.f2; have r0 := PF5.r0; have r1 := PF5.r1; have r2 := PF5.r2
    have fz := PF5.fz
    have hB := PF5.below
    clear PF5
    obtain ⟨t, htx⟩ : ∃ t : ByteArray, t = ⟨(textL (n : Int) 0 p1.data.toList).toArray⟩ := ⟨_, rfl⟩
    rw [← htx]
    have HX : Hid (t = ⟨(textL (n : Int) 0 p1.data.toList).toArray⟩) := htx
    clear htx
    have hts : t = s := HX.out.trans HTS.out
    have hq : (t.toList == s.toList) = true := by rw [hts]; simp
    clear hts
    go_wp2
    refine bodyPost_ret (v := .tuple #[.agg #[.int .i64 n, .int .u64 (0 : Nat), .string p1], .bool true]) (by simp [results, Tryd.results10, go_sem, r0, r1, r2]) rfl ⟨rfl, ?_⟩
    exact ((hB.setCell (Nat.le_refl _) _).setCell (Nat.le_refl _) _).setCell (Nat.le_refl _) _

set_option maxRecDepth 100000 in
set_option maxHeartbeats 3200000 in
theorem parse_s1 (s p0 : ByteArray) (n : Nat) (w : World) (hs : s.size ≤ 1000) (ht : Tabs w) (HP : Hid (split s.data.toList = [p0.data.toList]))
    (NB : ∀ w, Tabs w → Calls Tryd.prog 18 #[.string p0] w fun x w' => x = .returned (.tuple #[.int .i64 n, .bool true]) ∧ w' = w)
    (PL : ∀ w, Calls Tryd.prog 20 #[.string (⟨#[]⟩ : ByteArray)] w fun x w' => x = .returned (.bool true) ∧ w' = w) (HTS : Hid ((⟨(textL (n : Int) 0 (⟨#[]⟩ : ByteArray).data.toList).toArray⟩ : ByteArray) = s)) :
    Calls Tryd.prog 10 #[.string s] w (Read n 0 (⟨#[]⟩ : ByteArray) w) := by
  have H7 := ht.size
  have HT : Hid (Tabs w) := ht
  have HN : Hid (([p0.data.toList] : List (List UInt8)).length = 1) := rfl
  clear ht
  go_enter Tryd.func10, Tryd.ntmps10
  go_wp2_with (first
    | (go_at_call 17; refine (split_known _ _ _ _ hs HP HN).mono ?_; rintro e w1 ⟨rfl, hpc, ⟨d0, d1, d2⟩, df, hz1, hb1⟩; have hp0 := hpc 0 (by omega); clear hpc; rw [show (([p0.data.toList] : List (List UInt8)).getD 0 []) = p0.data.toList from rfl, ba_eta] at hp0)
    | (go_at_call 18; refine (NB _ (HT.out.below hb1 H7)).mono ?_; rintro e w2 ⟨rfl, hw2⟩; subst hw2))
  have hne : ¬ w.heap.size = w2.heap.size := by omega
  have PFa : PF w w2.heap.size n 0 ⟨#[]⟩ (w2.alloc (.cells #[.int .i64 n, .int .u64 0, .string ⟨#[]⟩] 26)) := by
    refine ⟨?_, ?_, ?_, by simp [go_sem], by simp [go_sem], by simp [go_sem], fun j => ?_, fun j => by simp [go_sem], by omega, by simp, hb1.alloc hb1.size _⟩
    · exact one_c d0 (by omega) _
    · exact one_c d1 (by omega) _
    · exact one_c d2 (by omega) _
    · exact one_f (df j) (by omega) _
  have h00 : 0 < 18446744073709551616 := by omega
  have se : ByteArray.size ⟨#[]⟩ ≤ 1000 := by decide
  clear d0 d1 d2 df
  have PF4 := PFa
  obtain ⟨W4, hW4⟩ : ∃ W4, W4 = (w2.alloc (.cells #[.int .i64 (n : Int), .int .u64 0, .string ⟨#[]⟩] 26)) := ⟨_, rfl⟩
  rw [← hW4] at PF4 ⊢
  clear hW4
  have f0 := PF4.f0; have f1 := PF4.f1; have f2 := PF4.f2; have r0 := PF4.r0; have r1 := PF4.r1; have r2 := PF4.r2
  have fz := PF4.fz
  refine (PL _).mono ?_
  rintro e w4 ⟨rfl, hw4⟩
  subst hw4
  · go_wp2_with fail
    refine (text_any _ 0 _ _ (HT.out.below PF4.below H7) h00 se).mono ?_
    rintro e w5 ⟨rfl, hb5⟩
    have PF5 := PF4.next hb5
    clear f0 f1 f2 r0 r1 r2 fz PF4 hb5
    have f0 := PF5.f0; have f1 := PF5.f1; have f2 := PF5.f2; have r0 := PF5.r0; have r1 := PF5.r1; have r2 := PF5.r2
    have fz := PF5.fz
    have hB := PF5.below
    clear PF5
    obtain ⟨t, htx⟩ : ∃ t : ByteArray, t = ⟨(textL (n : Int) 0 (⟨#[]⟩ : ByteArray).data.toList).toArray⟩ := ⟨_, rfl⟩
    rw [← htx]
    have HX : Hid (t = ⟨(textL (n : Int) 0 (⟨#[]⟩ : ByteArray).data.toList).toArray⟩) := htx
    clear htx
    have hts : t = s := HX.out.trans HTS.out
    have hq : (t.toList == s.toList) = true := by rw [hts]; simp
    clear hts
    go_wp2
    refine bodyPost_ret (v := .tuple #[.agg #[.int .i64 n, .int .u64 (0 : Nat), .string (⟨#[]⟩ : ByteArray)], .bool true]) (by simp [results, Tryd.results10, go_sem, r0, r1, r2]) rfl ⟨rfl, ?_⟩
    exact ((hB.setCell (Nat.le_refl _) _).setCell (Nat.le_refl _) _).setCell (Nat.le_refl _) _

end Go.Proofs.YtjcefpeicbekhaaDoor
