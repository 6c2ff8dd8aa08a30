/-
  Layer 12, VersOf: its loop over needs.
-/
import Derived.Test.YtnlpncgblegbkaaF8
namespace Go.Proofs.Ytnlpncgblegbkaa
open Go.RowKit
set_option linter.unusedVariables false

set_option maxRecDepth 100000 in
set_option maxHeartbeats 16000000 in
theorem versof_loop2 [Inhabited Nd] (z y : Nat → Int) (b1 o1 l1 c1 b2 o2 l2 c2 : Nat) (b : ByteArray) (i : Int) (w : World) (h1 : l1 ≤ c1) (h2 : l2 ≤ c2) (h1c : c1 ≤ 9223372036854775807) (h2c : c2 ≤ 9223372036854775807)
    (HL1 : Hid (0 < l1 → b1 < w.heap.size)) (HL2 : Hid (0 < l2 → b2 < w.heap.size)) (A1 A2 : Option Addr) (HA1 : Hid (0 < l1 → A1 = some ⟨b1, o1, none⟩)) (HA2 : Hid (0 < l2 → A2 = some ⟨b2, o2, none⟩))
    (HK1 : Hid (∀ j, j < l1 → w.cell? ⟨b1, o1 + j, none⟩ = some (.int .i64 (z j)))) (HK2 : Hid (∀ j, j < l2 → w.cell? ⟨b2, o2 + j, none⟩ = some (.int .i64 (y j)))) (K1 K2 : Nat) (q1 : K1 ≤ 20) (q2 : K2 ≤ 20) (q3 : K1 ≤ l1) (q4 : K2 ≤ l2) (HKM : Hid (K1 = min l1 20 ∧ K2 = min l2 20)) (tb : Nat) (HTB : Hid (w.heap.size < tb)) (u10 u25 u26 u27 u28 u29 u30 u31 u32 u33 u34 u35 u36 u37 u38 u39 u40 u41 u42 u43 u44 u45 u46 u47 u48 u49 u50 : Value) (c : Code) (hc : findB 2 (Try.f6.body.getD Code.skip) = some c) (K : Act → World → Prop) (R : Ending → World → Prop) (W0 : World) (hJ : J2 w tb z y K1 0 W0)
    (hQ : ∀ (u11 u51 u52 u53 u54 u55 u56 u57 u58 u59 u60 u61 u62 u63 u64 u65 u66 u67 u68 u69 u70 u71 u72 u73 u74 u75 u76 : Value) (w' : World), Hid (J2 w tb z y K1 K2 w') → K { tmps := List.toArray ((Value.agg #[Value.slice A1 l1 c1, Value.slice A2 l2 c2]) :: (Value.string b) :: (Value.int IntKind.i64 i) :: (Value.pointer (some ⟨w.heap.size, 0, none⟩)) :: undef :: undef :: (Value.bool false) :: (Value.slice A1 l1 c1) :: (Value.slice A2 l2 c2) :: (Value.pointer (some ⟨tb, 0, none⟩)) :: u10 :: u11 :: undef :: undef :: undef :: undef :: undef :: undef :: undef :: (Value.bool true) :: (Value.bool false) :: (Value.pointer (some ⟨w.heap.size, 0, none⟩)) :: (Value.slice A1 l1 c1) :: (Value.pointer (some ⟨w.heap.size, 1, none⟩)) :: (Value.slice A2 l2 c2) :: u25 :: u26 :: u27 :: u28 :: u29 :: u30 :: u31 :: u32 :: u33 :: u34 :: u35 :: u36 :: u37 :: u38 :: u39 :: u40 :: u41 :: u42 :: u43 :: u44 :: u45 :: u46 :: u47 :: u48 :: u49 :: u50 :: u51 :: u52 :: u53 :: u54 :: u55 :: u56 :: u57 :: u58 :: u59 :: u60 :: u61 :: u62 :: u63 :: u64 :: u65 :: u66 :: u67 :: u68 :: u69 :: u70 :: u71 :: u72 :: u73 :: u74 :: u75 :: u76 :: undef :: undef :: undef :: undef :: undef :: undef :: undef :: undef :: undef :: undef :: undef :: undef :: undef :: undef :: undef :: undef :: undef :: undef :: undef :: undef :: undef :: undef :: undef :: undef :: undef :: undef :: undef :: undef :: undef :: undef :: undef :: undef :: undef :: undef :: undef :: undef :: undef :: undef :: undef :: undef :: undef :: undef :: undef :: undef :: undef :: undef :: undef :: undef :: undef :: undef :: undef :: undef :: undef :: undef :: undef :: undef :: undef :: undef :: undef :: undef :: undef :: undef :: undef :: undef :: undef :: undef :: undef :: undef :: undef :: undef :: undef :: undef :: undef :: undef :: undef :: undef :: undef :: undef :: undef :: undef :: undef :: undef :: undef :: undef :: undef :: undef :: undef :: undef :: undef :: undef :: undef :: undef :: undef :: undef :: undef :: undef :: undef :: undef :: undef :: undef :: undef :: undef :: undef :: undef :: undef :: undef :: undef :: undef :: []), defers := [] } w') :
    c.wp Try.prog (Exit.then K (bodyPost Try.prog Try.f6 R)) { tmps := List.toArray ((Value.agg #[Value.slice A1 l1 c1, Value.slice A2 l2 c2]) :: (Value.string b) :: (Value.int IntKind.i64 i) :: (Value.pointer (some ⟨w.heap.size, 0, none⟩)) :: undef :: undef :: (Value.bool false) :: (Value.slice A1 l1 c1) :: (Value.slice A2 l2 c2) :: (Value.pointer (some ⟨tb, 0, none⟩)) :: u10 :: (Value.int IntKind.i64 0) :: undef :: undef :: undef :: undef :: undef :: undef :: undef :: (Value.bool true) :: (Value.bool false) :: (Value.pointer (some ⟨w.heap.size, 0, none⟩)) :: (Value.slice A1 l1 c1) :: (Value.pointer (some ⟨w.heap.size, 1, none⟩)) :: (Value.slice A2 l2 c2) :: u25 :: u26 :: u27 :: u28 :: u29 :: u30 :: u31 :: u32 :: u33 :: u34 :: u35 :: u36 :: u37 :: u38 :: u39 :: u40 :: u41 :: u42 :: u43 :: u44 :: u45 :: u46 :: u47 :: u48 :: u49 :: u50 :: undef :: undef :: undef :: undef :: undef :: undef :: undef :: undef :: undef :: undef :: undef :: undef :: undef :: undef :: undef :: undef :: undef :: undef :: undef :: undef :: undef :: undef :: undef :: undef :: undef :: undef :: undef :: undef :: undef :: undef :: undef :: undef :: undef :: undef :: undef :: undef :: undef :: undef :: undef :: undef :: undef :: undef :: undef :: undef :: undef :: undef :: undef :: undef :: undef :: undef :: undef :: undef :: undef :: undef :: undef :: undef :: undef :: undef :: undef :: undef :: undef :: undef :: undef :: undef :: undef :: undef :: undef :: undef :: undef :: undef :: undef :: undef :: undef :: undef :: undef :: undef :: undef :: undef :: undef :: undef :: undef :: undef :: undef :: undef :: undef :: undef :: undef :: undef :: undef :: undef :: undef :: undef :: undef :: undef :: undef :: undef :: undef :: undef :: undef :: undef :: undef :: undef :: undef :: undef :: undef :: undef :: undef :: undef :: undef :: undef :: undef :: undef :: undef :: undef :: undef :: undef :: undef :: undef :: undef :: undef :: undef :: undef :: undef :: undef :: undef :: undef :: undef :: undef :: undef :: undef :: undef :: undef :: undef :: undef :: []), defers := [] } W0 := by
  obtain ⟨j0, hj0, hjz0, hjz1, hjz2⟩ := info_parts Try.info48'
  have e : findB 2 (Try.f6.body.getD Code.skip) = some _ := rfl
  rw [e] at hc
  obtain rfl := Option.some.inj hc
  clear e hc
  go_wp2
  go_loopw [11] (fun i wr => ∃ k : Nat, k ≤ K2 ∧ i = .int .i64 k ∧ Hid (J2 w tb z y K1 k wr)) (fun i _ => K2 - (intOf i).toNat)
  case atStart => exact ⟨0, Nat.zero_le _, rfl, hJ⟩
  case round =>
  obtain ⟨k, hk, rfl, HJ⟩ := hrel
  by_cases hlt : k < K2
  · have hki : (k : Int) < (l2 : Int) := by omega
    have hk2 : (k : Int) < 20 := by omega
    have hk0 : (0 : Int) ≤ (k : Int) := by omega
    have eA : A2 = some ⟨b2, o2, none⟩ := HA2.out (by omega)
    subst eA
    have hb2 : b2 < w.heap.size := HL2.out (by omega)
    obtain ⟨sd, sv, HB, HRD, HR, HBE⟩ : ∃ sd sv, Hid (Blk3 wr tb sd sv (.slice none 0 0)) ∧ Hid (wr.ownsRow (tb + 1) 38 2 sd K1 (dfCs (DL z K1))) ∧ Hid (wr.ownsRow (tb + 1) 48 4 sv k ((NL y k).flatMap Nd.cells)) ∧ Hid (Below w.heap.size w wr) := HJ.out
    have x0 : wr.cell? ⟨tb, 1, none⟩ = some sv := HB.out.c1
    have xf : wr.frozen? ⟨tb, 1, none⟩ = false := HB.out.fz 1
    have xz : wr.cell? ⟨b2, o2 + k, none⟩ = some (.int .i64 (y k)) := (HBE.out.cell (p := ⟨b2, o2 + k, none⟩) hb2).trans (HK2.out k (by omega))
    go_wp2
    obtain ⟨t, ht⟩ : ∃ t : ByteArray, ⟨#[UInt8.ofNat (97 + k)]⟩ = t := ⟨_, rfl⟩
    have HT : Hid (nmD 110 k = ⟨#[110]⟩ ++ t) := by rw [← ht]; exact nmD_app 110 k
    have hts : t.size = 1 := ht ▸ rfl
    have e97 : IntKind.u8.wrap (IntKind.i64.wrap (97 + (k : Int))) = 97 + (k : Int) := tt1 k (Int.ofNat_lt.1 hk2)
    have CV : ∀ (B : Nat) (W : World), W.cell? ⟨B, 0, none⟩ = some (.int .u8 (97 + (k : Int))) → (convert 53 9 (.slice (some ⟨B, 0, none⟩) 1 1)).run Try.prog W = .ok (.string t) W := by
      intro B W h
      rw [← ht]
      exact conv1 k (Int.ofNat_lt.1 hk2) B W h
    clear ht
    have HF : Hid (∀ (o : Obj) (g' cap' : Nat) (w2 : World), w2.ownsRow (tb + 1) 48 4 (.slice (some ⟨g', 0, none⟩) (k + 1) cap') (k + 1) ((NL y k).flatMap Nd.cells ++ (#[Value.int .i64 (y k), .string (ByteArray.mk #[102]), .string (ByteArray.mk #[110] ++ t), .bool false]).toList) → (((wr.alloc o).alloc (.cells #[.int .i64 (y k), .string (ByteArray.mk #[102]), .string (ByteArray.mk #[110] ++ t), .bool false] 48)).drew).grownBy w2 sv.ownBlock → Hid (J2 w tb z y K1 (k + 1) (w2.setCell ⟨tb, 1, none⟩ (.slice (some ⟨g', 0, none⟩) (k + 1) cap')))) := by
      intro o g' cap' w2 hown hgr
      rw [← HT.out] at hown
      have hbk0 : Blk3 ((wr.alloc o).alloc (.cells #[.int .i64 (y k), .string (ByteArray.mk #[102]), .string (ByteArray.mk #[110] ++ t), .bool false] 48)).drew tb _ _ _ := (HB.out.alloc o).alloc (.cells #[.int .i64 (y k), .string (ByteArray.mk #[102]), .string (ByteArray.mk #[110] ++ t), .bool false] 48)
      have hbk := hbk0.kept hgr (own_ne HR.out (by omega))
      refine ⟨_, _, hbk.set1 _, ?_, ?_, ?_⟩
      · refine ownsRow_setCell_below ?_ (by simp) _
        have hrd0 : World.ownsRow ((wr.alloc o).alloc (.cells #[.int .i64 (y k), .string (ByteArray.mk #[102]), .string (ByteArray.mk #[110] ++ t), .bool false] 48)).drew (tb + 1) 38 2 sd K1 (dfCs (DL z K1)) := (HRD.out.alloc o).alloc (.cells #[.int .i64 (y k), .string (ByteArray.mk #[102]), .string (ByteArray.mk #[110] ++ t), .bool false] 48)
        exact hrd0.kept hgr (rows_apart HRD.out HR.out (by decide))
      · rw [NL_snoc]
        exact ownsRow_setCell_below hown (by simp) _
      · refine Below.setCell ?_ (by have := HTB.out; simp; omega) _
        have hsz : w.heap.size ≤ wr.heap.size := HBE.out.size
        refine ((((HBE.out.alloc hsz o).alloc (by simp; omega) (.cells #[.int .i64 (y k), .string (ByteArray.mk #[102]), .string (ByteArray.mk #[110] ++ t), .bool false] 48)).drew).grown hgr (by show w.heap.size ≤ ((wr.alloc o).alloc _).heap.size; rw [World.size_alloc, World.size_alloc]; omega) ?_)
        intro q hq
        have := own_ge HR.out q hq
        have := HTB.out
        omega
    generalize y k = x at xz HF
    have m1 : k + 1 ≤ maxLen := by unfold maxLen; omega
    have m2 : (k + 1) * 48 ≤ 140737488355328 := by omega
    have HR2 : ∀ o o' : Obj, ((wr.alloc o).alloc o').drew.ownsRow (tb + 1) 48 4 sv k ((NL y k).flatMap Nd.cells) := fun o o' => (HR.out.alloc o).alloc o'
    have hsz : tb + 1 ≤ wr.heap.size := HB.out.lt
    have hsz2 : ∀ o o' : Obj, tb + 1 ≤ ((wr.alloc o).alloc o').drew.heap.size := fun o o' => by show _ ≤ ((wr.alloc o).alloc o').heap.size; rw [World.size_alloc, World.size_alloc]; omega
    have rn1 : some tb ≠ sv.ownBlock := own_ne HR.out (by omega)
    have rn2 : some b2 ≠ sv.ownBlock := own_ne HR.out (by have := HTB.out; omega)
    have A1 : ∀ o : Obj, (wr.alloc o).cell? ⟨b2, o2 + k, none⟩ = some (.int .i64 x) := fun o => (s3_alloc o ⟨x0, xf, xz⟩).2.2
    have A2 : ∀ o : Obj, (wr.alloc o).cell? ⟨tb, 1, none⟩ = some sv := fun o => (s3_alloc o ⟨x0, xf, xz⟩).1
    have A3 : ∀ o o' : Obj, ((wr.alloc o).alloc o').cell? ⟨tb, 1, none⟩ = some sv := fun o o' => (s3_alloc o' (s3_alloc o ⟨x0, xf, xz⟩)).1
    have FAR : ∀ (o o' : Obj) (w2 : World), (((wr.alloc o).alloc o').drew).grownBy w2 sv.ownBlock → w2.cell? ⟨tb, 1, none⟩ = some sv ∧ w2.frozen? ⟨tb, 1, none⟩ = false := fun o o' w2 hg =>
      let h := s3_grown (p := ⟨tb, 1, none⟩) (q := ⟨b2, o2 + k, none⟩) hg rn1 rn2 (s3_ad (W := wr.alloc o) o' (s3_ad (W := wr) o (s3_init x0 xf xz)))
      ⟨h.1, h.2.1⟩
    go_region_law (first
        | (refine step_append_lies _ rfl _ _ 40 rfl (tb + 1) 48 j0 _ 4 48 Try.underlying40 hj0 hjz0 hjz1 hjz2 rfl (by decide) sv k _ rfl (HR2 _ _) ⟨_, 0, none⟩ 1 1 _ rfl rfl (news_2d _ _ _ _) (one_four _ _ _ _) (by decide) m1 m2 (hsz2 _ _) _ rfl ?_; intro g' cap' w2 hown' hgrow hat hlt; have f0 := (FAR _ _ _ hgrow).1; have f1 := (FAR _ _ _ hgrow).2))
    all_goals
      go_wp2
      exact ⟨⟨k + 1, by omega, by go_num, HF.out _ _ _ _ hown' hgrow⟩, by simp [intOf]; omega⟩
  · obtain rfl : k = K2 := by omega
    have hkm := HKM.out
    by_cases hs : l2 ≤ 20
    · have hki : ¬ (k : Int) < (l2 : Int) := by omega
      clear hkm
      go_wp2
      all_goals exact hQ _ _ _ _ _ _ _ _ _ _ _ _ _ _ _ _ _ _ _ _ _ _ _ _ _ _ _ _ HJ
    · have hki : (k : Int) < (l2 : Int) := by omega
      have hk2 : ¬ (k : Int) < 20 := by omega
      clear hkm
      go_wp2
      all_goals exact hQ _ _ _ _ _ _ _ _ _ _ _ _ _ _ _ _ _ _ _ _ _ _ _ _ _ _ _ _ HJ

end Go.Proofs.Ytnlpncgblegbkaa
