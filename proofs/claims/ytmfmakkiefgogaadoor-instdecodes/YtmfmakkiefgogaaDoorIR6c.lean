/-
  Layer 6: the document's Decode where the word is an instruction's: it answers what the program's Decode answers. No condition.
-/
import Derived.Test.YtmfmakkiefgogaaDoorIR5
namespace Go.Proofs.YtmfmakkiefgogaaDoor
open Go.RowKit
set_option linter.unusedVariables false

set_option maxRecDepth 10000 in
set_option maxHeartbeats 3200000 in
theorem refdec_66 (x k : Nat) (w : World) (hx : x < 4294967296) (hk64 : k < 64) (hfit : fit x k = true) (hbef : ∀ j, j < k → fit x j = false) (hc : formAt k = 66) :
    Calls Tryd.prog 19 #[.int .u32 x] w fun e w' => e = .returned (decV x) ∧ Below w.heap.size w w' := by
  have G7 : regOf x 7 sRd 66 = 0 := by unfold regOf; rw [show has sRd.data.toList 66 = false from by decide +kernel]; rfl
  have G15 : regOf x 15 sRs1 66 = ((x / 2 ^ 15 % 2 ^ 5 : Nat) : Int) := by unfold regOf; rw [show has sRs1.data.toList 66 = true from by decide +kernel]; rfl
  have P15 : ∀ w, Calls Tryd.prog 35 #[.int .u32 x, .int .i64 15, .int .i64 5] w fun e w' => e = .returned (.int .u32 ((x / 2 ^ 15 % 2 ^ 5 : Nat) : Int)) ∧ w' = w := fun w => bits_any x 15 5 hx (by omega) (by omega) w
  have L15 : x / 2 ^ 15 % 2 ^ 5 < 32 := Nat.mod_lt _ (by omega)
  have G20 : regOf x 20 sRs2 66 = ((x / 2 ^ 20 % 2 ^ 5 : Nat) : Int) := by unfold regOf; rw [show has sRs2.data.toList 66 = true from by decide +kernel]; rfl
  have P20 : ∀ w, Calls Tryd.prog 35 #[.int .u32 x, .int .i64 20, .int .i64 5] w fun e w' => e = .returned (.int .u32 ((x / 2 ^ 20 % 2 ^ 5 : Nat) : Int)) ∧ w' = w := fun w => bits_any x 20 5 hx (by omega) (by omega) w
  have L20 : x / 2 ^ 20 % 2 ^ 5 < 32 := Nat.mod_lt _ (by omega)
  have hd : decV x = .tuple #[(⟨(k : Int), regOf x 7 sRd 66, regOf x 15 sRs1 66, regOf x 20 sRs2 66, immOf x 66⟩ : In).agg, .bool true] := by unfold decV decF; rw [kindF_some hk64 hfit hbef]; simp only [Option.map_some, hc]
  rw [G7, G15, G20] at hd
  have IM := imm_any66 x hx
  generalize immOf x 66 = y4 at *
  generalize x / 2 ^ 15 % 2 ^ 5 = y2 at *
  generalize x / 2 ^ 20 % 2 ^ 5 = y3 at *
  have HD : Hid (decV x = .tuple #[(⟨(k : Int), 0, (y2 : Int), (y3 : Int), y4⟩ : In).agg, .bool true]) := hd
  have HK : Hid (_) := hbef
  have HFT : Hid (_) := hfit
  have HFS : Hid (formS k = ⟨#[66]⟩) := by show _ = _; unfold formS; rw [hc]; rfl
  clear hd hbef hfit hc G7 G15 G20
  have hb0 : Below w.heap.size w (w.alloc (.cells #[.int .i64 0, .int .i64 0, .int .i64 0, .int .i64 0, .int .i64 0] 44)) := by go_grown
  have HR : Hid (Row5 (w.alloc (.cells #[.int .i64 0, .int .i64 0, .int .i64 0, .int .i64 0, .int .i64 0] 44)) w.heap.size 0 0 0 0 0) := Row5.new w 0 0 0 0 0
  have HB0 : Hid (_) := hb0
  clear hb0
  go_enter Tryd.func19, Tryd.ntmps19
  go_wp2_with (go_at_call 32; refine (ref_kinds _).mono ?_; rintro e w1 ⟨B, rfl, hB, hb1⟩; have hb : Below w.heap.size w w1 := HB0.out.trans (hb1.mono HB0.out.size); have HR1 : Hid (Row5 w1 w.heap.size 0 0 0 0 0) := Row5.next HR.out hb1; have HB : Hid (_) := hB; clear hB hb1)
  go_loopw [5] (fun i wr => ∃ j : Nat, j ≤ k ∧ i = .int .i64 j ∧ Below w1.heap.size w1 wr) (fun i _ => 64 - (intOf i).toNat)
  case atStart => exact ⟨0, by omega, rfl, Below.refl _ _⟩
  case round =>
    obtain ⟨j, hj, rfl, hbr⟩ := hrel
    have hj64 : j < 64 := by omega
    have hKA := HB.out.next hbr
    have c0 := hKA.name j hj64
    have c1 := hKA.form j hj64
    have c2 := hKA.op j hj64
    have c3 := hKA.f3 j hj64
    have c4 := hKA.f7 j hj64
    have FA := fits_any j x hj64 hx
    by_cases hlt : j < k
    · have hfk := HK.out j hlt
      rw [hfk] at FA
      clear hKA hfk IM
      generalize nameAt j = nm at *
      generalize formS j = fs at *
      generalize kopL.getD j 0 = op at *
      generalize kf3L.getD j 0 = f3 at *
      generalize kf7L.getD j 0 = f7 at *
      have HBR : Hid (_) := hbr
      clear hbr
      go_wp2_with (go_at_call 33; with_reducible refine (FA _).mono ?_; rintro e w2 ⟨rfl, hb2⟩)
      go_roundw
      case rel => exact ⟨j + 1, by omega, by go_num, Below.trans HBR.out (hb2.mono HBR.out.size)⟩
      case measure => simp [intOf]; omega
    · obtain rfl : j = k := by omega
      rw [HFT.out, HFS.out] at FA
      rw [HFS.out] at c1
      have HC1 : Hid (∀ W, Below wr.heap.size wr W → W.cell? ⟨B, j * 5 + 1, none⟩ = some (.string ⟨#[66]⟩)) := fun W hb' => (hb'.cell (World.block_lt_of_cell? _ _ c1)).trans c1
      have HRR : Hid (Row5 wr w.heap.size 0 0 0 0 0) := Row5.next HR1.out hbr
      generalize nameAt j = nm at *
      generalize kopL.getD j 0 = op at *
      generalize kf3L.getD j 0 = f3 at *
      generalize kf7L.getD j 0 = f7 at *
      have HBR : Hid (_) := hbr
      clear hbr hKA
      go_wp2_with (first
        | (go_at_call 33; with_reducible refine (FA _).mono ?_; rintro e w2 ⟨rfl, hb2⟩
           have d1 := HC1.out _ hb2
           have HR2 : Hid (Row5 w2 w.heap.size 0 0 0 0 0) := Row5.next HRR.out hb2
           have HB2 : Hid (Below w1.heap.size w1 w2) := Below.trans HBR.out (hb2.mono HBR.out.size)
           have hw2 := HR2.out.lt
           have hBlt := World.block_lt_of_cell? _ _ d1
           obtain ⟨r0, r1, r2, r3, r4, rf, rl⟩ := HR2.out
           have f0 := rf 0
           have f1 := rf 1
           have f2 := rf 2
           have f3' := rf 3
           have f4 := rf 4
           clear c0 c1 c2 c3 c4 hb2 rf)
        | (go_at_call 35; with_reducible refine (P15 _).mono ?_; rintro e w' ⟨rfl, hw⟩; subst hw)
        | (go_at_call 35; with_reducible refine (P20 _).mono ?_; rintro e w' ⟨rfl, hw⟩; subst hw)
        | (go_at_call 34; with_reducible refine (IM _).mono ?_; rintro e w' ⟨rfl, hw⟩; subst hw))
      refine ⟨rfl, .tuple #[(⟨(j : Int), 0, (y2 : Int), (y3 : Int), y4⟩ : In).agg, .bool true], ?_, by rw [HD.out], ?_⟩
      · refine (results_cell_mid2 (fn := Tryd.f19) rfl _ _ w.heap.size 0 [.int .i64 j, .int .i64 0, .int .i64 (y2 : Int), .int .i64 (y3 : Int), .int .i64 y4] _ ?_ ?_ Tryd.underlying44 rfl info32).trans ?_
        · rfl
        · exact range5 (kept (by simp [go_sem, r0]) (by simpa using hw2) _) (kept (by simp [go_sem, r1]) (by simpa using hw2) _) (kept (by simp [go_sem, r2]) (by simpa using hw2) _) (kept (by simp [go_sem, r3]) (by simpa using hw2) _) (kept (by simp [go_sem, r4]) (by simpa using hw2) _)
        · rfl
      · have h := Below.trans hb (HB2.out.mono hb.size)
        have h5 := ((((h.setCell (p := ⟨w.heap.size, 0, none⟩) (by simp) (.int .i64 j)).setCell (p := ⟨w.heap.size, 1, none⟩) (by simp) (.int .i64 0)).setCell (p := ⟨w.heap.size, 2, none⟩) (by simp) (.int .i64 (y2 : Int))).setCell (p := ⟨w.heap.size, 3, none⟩) (by simp) (.int .i64 (y3 : Int))).setCell (p := ⟨w.heap.size, 4, none⟩) (by simp) (.int .i64 y4)
        exact h5.alloc h5.size _

set_option maxRecDepth 10000 in
set_option maxHeartbeats 3200000 in
theorem refdec_83 (x k : Nat) (w : World) (hx : x < 4294967296) (hk64 : k < 64) (hfit : fit x k = true) (hbef : ∀ j, j < k → fit x j = false) (hc : formAt k = 83) :
    Calls Tryd.prog 19 #[.int .u32 x] w fun e w' => e = .returned (decV x) ∧ Below w.heap.size w w' := by
  have G7 : regOf x 7 sRd 83 = 0 := by unfold regOf; rw [show has sRd.data.toList 83 = false from by decide +kernel]; rfl
  have G15 : regOf x 15 sRs1 83 = ((x / 2 ^ 15 % 2 ^ 5 : Nat) : Int) := by unfold regOf; rw [show has sRs1.data.toList 83 = true from by decide +kernel]; rfl
  have P15 : ∀ w, Calls Tryd.prog 35 #[.int .u32 x, .int .i64 15, .int .i64 5] w fun e w' => e = .returned (.int .u32 ((x / 2 ^ 15 % 2 ^ 5 : Nat) : Int)) ∧ w' = w := fun w => bits_any x 15 5 hx (by omega) (by omega) w
  have L15 : x / 2 ^ 15 % 2 ^ 5 < 32 := Nat.mod_lt _ (by omega)
  have G20 : regOf x 20 sRs2 83 = ((x / 2 ^ 20 % 2 ^ 5 : Nat) : Int) := by unfold regOf; rw [show has sRs2.data.toList 83 = true from by decide +kernel]; rfl
  have P20 : ∀ w, Calls Tryd.prog 35 #[.int .u32 x, .int .i64 20, .int .i64 5] w fun e w' => e = .returned (.int .u32 ((x / 2 ^ 20 % 2 ^ 5 : Nat) : Int)) ∧ w' = w := fun w => bits_any x 20 5 hx (by omega) (by omega) w
  have L20 : x / 2 ^ 20 % 2 ^ 5 < 32 := Nat.mod_lt _ (by omega)
  have hd : decV x = .tuple #[(⟨(k : Int), regOf x 7 sRd 83, regOf x 15 sRs1 83, regOf x 20 sRs2 83, immOf x 83⟩ : In).agg, .bool true] := by unfold decV decF; rw [kindF_some hk64 hfit hbef]; simp only [Option.map_some, hc]
  rw [G7, G15, G20] at hd
  have IM := imm_any83 x hx
  generalize immOf x 83 = y4 at *
  generalize x / 2 ^ 15 % 2 ^ 5 = y2 at *
  generalize x / 2 ^ 20 % 2 ^ 5 = y3 at *
  have HD : Hid (decV x = .tuple #[(⟨(k : Int), 0, (y2 : Int), (y3 : Int), y4⟩ : In).agg, .bool true]) := hd
  have HK : Hid (_) := hbef
  have HFT : Hid (_) := hfit
  have HFS : Hid (formS k = ⟨#[83]⟩) := by show _ = _; unfold formS; rw [hc]; rfl
  clear hd hbef hfit hc G7 G15 G20
  have hb0 : Below w.heap.size w (w.alloc (.cells #[.int .i64 0, .int .i64 0, .int .i64 0, .int .i64 0, .int .i64 0] 44)) := by go_grown
  have HR : Hid (Row5 (w.alloc (.cells #[.int .i64 0, .int .i64 0, .int .i64 0, .int .i64 0, .int .i64 0] 44)) w.heap.size 0 0 0 0 0) := Row5.new w 0 0 0 0 0
  have HB0 : Hid (_) := hb0
  clear hb0
  go_enter Tryd.func19, Tryd.ntmps19
  go_wp2_with (go_at_call 32; refine (ref_kinds _).mono ?_; rintro e w1 ⟨B, rfl, hB, hb1⟩; have hb : Below w.heap.size w w1 := HB0.out.trans (hb1.mono HB0.out.size); have HR1 : Hid (Row5 w1 w.heap.size 0 0 0 0 0) := Row5.next HR.out hb1; have HB : Hid (_) := hB; clear hB hb1)
  go_loopw [5] (fun i wr => ∃ j : Nat, j ≤ k ∧ i = .int .i64 j ∧ Below w1.heap.size w1 wr) (fun i _ => 64 - (intOf i).toNat)
  case atStart => exact ⟨0, by omega, rfl, Below.refl _ _⟩
  case round =>
    obtain ⟨j, hj, rfl, hbr⟩ := hrel
    have hj64 : j < 64 := by omega
    have hKA := HB.out.next hbr
    have c0 := hKA.name j hj64
    have c1 := hKA.form j hj64
    have c2 := hKA.op j hj64
    have c3 := hKA.f3 j hj64
    have c4 := hKA.f7 j hj64
    have FA := fits_any j x hj64 hx
    by_cases hlt : j < k
    · have hfk := HK.out j hlt
      rw [hfk] at FA
      clear hKA hfk IM
      generalize nameAt j = nm at *
      generalize formS j = fs at *
      generalize kopL.getD j 0 = op at *
      generalize kf3L.getD j 0 = f3 at *
      generalize kf7L.getD j 0 = f7 at *
      have HBR : Hid (_) := hbr
      clear hbr
      go_wp2_with (go_at_call 33; with_reducible refine (FA _).mono ?_; rintro e w2 ⟨rfl, hb2⟩)
      go_roundw
      case rel => exact ⟨j + 1, by omega, by go_num, Below.trans HBR.out (hb2.mono HBR.out.size)⟩
      case measure => simp [intOf]; omega
    · obtain rfl : j = k := by omega
      rw [HFT.out, HFS.out] at FA
      rw [HFS.out] at c1
      have HC1 : Hid (∀ W, Below wr.heap.size wr W → W.cell? ⟨B, j * 5 + 1, none⟩ = some (.string ⟨#[83]⟩)) := fun W hb' => (hb'.cell (World.block_lt_of_cell? _ _ c1)).trans c1
      have HRR : Hid (Row5 wr w.heap.size 0 0 0 0 0) := Row5.next HR1.out hbr
      generalize nameAt j = nm at *
      generalize kopL.getD j 0 = op at *
      generalize kf3L.getD j 0 = f3 at *
      generalize kf7L.getD j 0 = f7 at *
      have HBR : Hid (_) := hbr
      clear hbr hKA
      go_wp2_with (first
        | (go_at_call 33; with_reducible refine (FA _).mono ?_; rintro e w2 ⟨rfl, hb2⟩
           have d1 := HC1.out _ hb2
           have HR2 : Hid (Row5 w2 w.heap.size 0 0 0 0 0) := Row5.next HRR.out hb2
           have HB2 : Hid (Below w1.heap.size w1 w2) := Below.trans HBR.out (hb2.mono HBR.out.size)
           have hw2 := HR2.out.lt
           have hBlt := World.block_lt_of_cell? _ _ d1
           obtain ⟨r0, r1, r2, r3, r4, rf, rl⟩ := HR2.out
           have f0 := rf 0
           have f1 := rf 1
           have f2 := rf 2
           have f3' := rf 3
           have f4 := rf 4
           clear c0 c1 c2 c3 c4 hb2 rf)
        | (go_at_call 35; with_reducible refine (P15 _).mono ?_; rintro e w' ⟨rfl, hw⟩; subst hw)
        | (go_at_call 35; with_reducible refine (P20 _).mono ?_; rintro e w' ⟨rfl, hw⟩; subst hw)
        | (go_at_call 34; with_reducible refine (IM _).mono ?_; rintro e w' ⟨rfl, hw⟩; subst hw))
      refine ⟨rfl, .tuple #[(⟨(j : Int), 0, (y2 : Int), (y3 : Int), y4⟩ : In).agg, .bool true], ?_, by rw [HD.out], ?_⟩
      · refine (results_cell_mid2 (fn := Tryd.f19) rfl _ _ w.heap.size 0 [.int .i64 j, .int .i64 0, .int .i64 (y2 : Int), .int .i64 (y3 : Int), .int .i64 y4] _ ?_ ?_ Tryd.underlying44 rfl info32).trans ?_
        · rfl
        · exact range5 (kept (by simp [go_sem, r0]) (by simpa using hw2) _) (kept (by simp [go_sem, r1]) (by simpa using hw2) _) (kept (by simp [go_sem, r2]) (by simpa using hw2) _) (kept (by simp [go_sem, r3]) (by simpa using hw2) _) (kept (by simp [go_sem, r4]) (by simpa using hw2) _)
        · rfl
      · have h := Below.trans hb (HB2.out.mono hb.size)
        have h5 := ((((h.setCell (p := ⟨w.heap.size, 0, none⟩) (by simp) (.int .i64 j)).setCell (p := ⟨w.heap.size, 1, none⟩) (by simp) (.int .i64 0)).setCell (p := ⟨w.heap.size, 2, none⟩) (by simp) (.int .i64 (y2 : Int))).setCell (p := ⟨w.heap.size, 3, none⟩) (by simp) (.int .i64 (y3 : Int))).setCell (p := ⟨w.heap.size, 4, none⟩) (by simp) (.int .i64 y4)
        exact h5.alloc h5.size _

set_option maxRecDepth 10000 in
set_option maxHeartbeats 3200000 in
theorem refdec_78 (x k : Nat) (w : World) (hx : x < 4294967296) (hk64 : k < 64) (hfit : fit x k = true) (hbef : ∀ j, j < k → fit x j = false) (hc : formAt k = 78) :
    Calls Tryd.prog 19 #[.int .u32 x] w fun e w' => e = .returned (decV x) ∧ Below w.heap.size w w' := by
  have G7 : regOf x 7 sRd 78 = 0 := by unfold regOf; rw [show has sRd.data.toList 78 = false from by decide +kernel]; rfl
  have G15 : regOf x 15 sRs1 78 = 0 := by unfold regOf; rw [show has sRs1.data.toList 78 = false from by decide +kernel]; rfl
  have G20 : regOf x 20 sRs2 78 = 0 := by unfold regOf; rw [show has sRs2.data.toList 78 = false from by decide +kernel]; rfl
  have hd : decV x = .tuple #[(⟨(k : Int), regOf x 7 sRd 78, regOf x 15 sRs1 78, regOf x 20 sRs2 78, immOf x 78⟩ : In).agg, .bool true] := by unfold decV decF; rw [kindF_some hk64 hfit hbef]; simp only [Option.map_some, hc]
  rw [G7, G15, G20] at hd
  have IM := imm_any78 x hx
  generalize immOf x 78 = y4 at *
  have HD : Hid (decV x = .tuple #[(⟨(k : Int), 0, 0, 0, y4⟩ : In).agg, .bool true]) := hd
  have HK : Hid (_) := hbef
  have HFT : Hid (_) := hfit
  have HFS : Hid (formS k = ⟨#[78]⟩) := by show _ = _; unfold formS; rw [hc]; rfl
  clear hd hbef hfit hc G7 G15 G20
  have hb0 : Below w.heap.size w (w.alloc (.cells #[.int .i64 0, .int .i64 0, .int .i64 0, .int .i64 0, .int .i64 0] 44)) := by go_grown
  have HR : Hid (Row5 (w.alloc (.cells #[.int .i64 0, .int .i64 0, .int .i64 0, .int .i64 0, .int .i64 0] 44)) w.heap.size 0 0 0 0 0) := Row5.new w 0 0 0 0 0
  have HB0 : Hid (_) := hb0
  clear hb0
  go_enter Tryd.func19, Tryd.ntmps19
  go_wp2_with (go_at_call 32; refine (ref_kinds _).mono ?_; rintro e w1 ⟨B, rfl, hB, hb1⟩; have hb : Below w.heap.size w w1 := HB0.out.trans (hb1.mono HB0.out.size); have HR1 : Hid (Row5 w1 w.heap.size 0 0 0 0 0) := Row5.next HR.out hb1; have HB : Hid (_) := hB; clear hB hb1)
  go_loopw [5] (fun i wr => ∃ j : Nat, j ≤ k ∧ i = .int .i64 j ∧ Below w1.heap.size w1 wr) (fun i _ => 64 - (intOf i).toNat)
  case atStart => exact ⟨0, by omega, rfl, Below.refl _ _⟩
  case round =>
    obtain ⟨j, hj, rfl, hbr⟩ := hrel
    have hj64 : j < 64 := by omega
    have hKA := HB.out.next hbr
    have c0 := hKA.name j hj64
    have c1 := hKA.form j hj64
    have c2 := hKA.op j hj64
    have c3 := hKA.f3 j hj64
    have c4 := hKA.f7 j hj64
    have FA := fits_any j x hj64 hx
    by_cases hlt : j < k
    · have hfk := HK.out j hlt
      rw [hfk] at FA
      clear hKA hfk IM
      generalize nameAt j = nm at *
      generalize formS j = fs at *
      generalize kopL.getD j 0 = op at *
      generalize kf3L.getD j 0 = f3 at *
      generalize kf7L.getD j 0 = f7 at *
      have HBR : Hid (_) := hbr
      clear hbr
      go_wp2_with (go_at_call 33; with_reducible refine (FA _).mono ?_; rintro e w2 ⟨rfl, hb2⟩)
      go_roundw
      case rel => exact ⟨j + 1, by omega, by go_num, Below.trans HBR.out (hb2.mono HBR.out.size)⟩
      case measure => simp [intOf]; omega
    · obtain rfl : j = k := by omega
      rw [HFT.out, HFS.out] at FA
      rw [HFS.out] at c1
      have HC1 : Hid (∀ W, Below wr.heap.size wr W → W.cell? ⟨B, j * 5 + 1, none⟩ = some (.string ⟨#[78]⟩)) := fun W hb' => (hb'.cell (World.block_lt_of_cell? _ _ c1)).trans c1
      have HRR : Hid (Row5 wr w.heap.size 0 0 0 0 0) := Row5.next HR1.out hbr
      generalize nameAt j = nm at *
      generalize kopL.getD j 0 = op at *
      generalize kf3L.getD j 0 = f3 at *
      generalize kf7L.getD j 0 = f7 at *
      have HBR : Hid (_) := hbr
      clear hbr hKA
      go_wp2_with (first
        | (go_at_call 33; with_reducible refine (FA _).mono ?_; rintro e w2 ⟨rfl, hb2⟩
           have d1 := HC1.out _ hb2
           have HR2 : Hid (Row5 w2 w.heap.size 0 0 0 0 0) := Row5.next HRR.out hb2
           have HB2 : Hid (Below w1.heap.size w1 w2) := Below.trans HBR.out (hb2.mono HBR.out.size)
           have hw2 := HR2.out.lt
           have hBlt := World.block_lt_of_cell? _ _ d1
           obtain ⟨r0, r1, r2, r3, r4, rf, rl⟩ := HR2.out
           have f0 := rf 0
           have f1 := rf 1
           have f2 := rf 2
           have f3' := rf 3
           have f4 := rf 4
           clear c0 c1 c2 c3 c4 hb2 rf)
        | (go_at_call 34; with_reducible refine (IM _).mono ?_; rintro e w' ⟨rfl, hw⟩; subst hw))
      refine ⟨rfl, .tuple #[(⟨(j : Int), 0, 0, 0, y4⟩ : In).agg, .bool true], ?_, by rw [HD.out], ?_⟩
      · refine (results_cell_mid2 (fn := Tryd.f19) rfl _ _ w.heap.size 0 [.int .i64 j, .int .i64 0, .int .i64 0, .int .i64 0, .int .i64 y4] _ ?_ ?_ Tryd.underlying44 rfl info32).trans ?_
        · rfl
        · exact range5 (kept (by simp [go_sem, r0]) (by simpa using hw2) _) (kept (by simp [go_sem, r1]) (by simpa using hw2) _) (kept (by simp [go_sem, r2]) (by simpa using hw2) _) (kept (by simp [go_sem, r3]) (by simpa using hw2) _) (kept (by simp [go_sem, r4]) (by simpa using hw2) _)
        · rfl
      · have h := Below.trans hb (HB2.out.mono hb.size)
        have h5 := ((((h.setCell (p := ⟨w.heap.size, 0, none⟩) (by simp) (.int .i64 j)).setCell (p := ⟨w.heap.size, 1, none⟩) (by simp) (.int .i64 0)).setCell (p := ⟨w.heap.size, 2, none⟩) (by simp) (.int .i64 0)).setCell (p := ⟨w.heap.size, 3, none⟩) (by simp) (.int .i64 0)).setCell (p := ⟨w.heap.size, 4, none⟩) (by simp) (.int .i64 y4)
        exact h5.alloc h5.size _

end Go.Proofs.YtmfmakkiefgogaaDoor
