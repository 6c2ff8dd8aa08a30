/-
  Layer 12, VersOf: its walk.
-/
import Derived.Test.YtnlpncgblegbkaaF8a
import Derived.Test.YtnlpncgblegbkaaF8b
namespace Go.Proofs.Ytnlpncgblegbkaa
open Go.RowKit
set_option linter.unusedVariables false

set_option maxRecDepth 100000 in
set_option maxHeartbeats 16000000 in
theorem versof_some [Inhabited Nd] (z y : Nat → Int) (b1 o1 l1 c1 b2 o2 l2 c2 : Nat) (b : ByteArray) (i : Int) (w : World) (h1 : l1 ≤ c1) (h2 : l2 ≤ c2) (h1c : c1 ≤ 9223372036854775807) (h2c : c2 ≤ 9223372036854775807) (hb : b.size ≤ 9223372036854775807)
    (hb1 : 0 < l1 → b1 < w.heap.size) (hb2 : 0 < l2 → b2 < w.heap.size) (A1 A2 : Option Addr) (hA1 : 0 < l1 → A1 = some ⟨b1, o1, none⟩) (hA2 : 0 < l2 → A2 = some ⟨b2, o2, none⟩)
    (k1 : ∀ j, j < l1 → w.cell? ⟨b1, o1 + j, none⟩ = some (.int .i64 (z j))) (k2 : ∀ j, j < l2 → w.cell? ⟨b2, o2 + j, none⟩ = some (.int .i64 (y j))) (K1 K2 : Nat) (hK1 : K1 = min l1 20) (hK2 : K2 = min l2 20) :
    Calls Try.prog 6 #[.agg #[.slice A1 l1 c1, .slice A2 l2 c2], .string b, .int .i64 i] w fun e w' => e = .returned (.bool true) ∧ Below w.heap.size w w' := by
  have HK1 : Hid (∀ j, j < l1 → w.cell? ⟨b1, o1 + j, none⟩ = some (.int .i64 (z j))) := k1
  have HK2 : Hid (∀ j, j < l2 → w.cell? ⟨b2, o2 + j, none⟩ = some (.int .i64 (y j))) := k2
  have HA1 : Hid (0 < l1 → A1 = some ⟨b1, o1, none⟩) := hA1
  have HA2 : Hid (0 < l2 → A2 = some ⟨b2, o2, none⟩) := hA2
  have q1 : K1 ≤ 20 := by omega
  have q2 : K2 ≤ 20 := by omega
  have q3 : K1 ≤ l1 := by omega
  have q4 : K2 ≤ l2 := by omega
  have HKM : Hid (K1 = min l1 20 ∧ K2 = min l2 20) := ⟨hK1, hK2⟩
  have HL1 : Hid (0 < l1 → b1 < w.heap.size) := hb1
  have HL2 : Hid (0 < l2 → b2 < w.heap.size) := hb2
  clear k1 k2 hK1 hK2 hA1 hA2 hb1 hb2
  go_enter Try.func6, Try.ntmps6
  go_upto_region 3 with (go_at_call 8; refine (speaks12_any _).mono ?_; rintro e w1 ⟨rfl, hb1⟩; have c0 : w1.cell? ⟨w.heap.size, 0, none⟩ = some (.slice A1 l1 c1) := (hb1.cell (by simp)).trans (by simp [go_sem]); have c1' : w1.cell? ⟨w.heap.size, 1, none⟩ = some (.slice A2 l2 c2) := (hb1.cell (by simp)).trans (by simp [go_sem]))
  go_quiet (fail)
  go_upto_block 0 with fail
  have HB1 : Hid (Below w.heap.size w w1 ∧ w.heap.size < w1.heap.size) := ⟨((Below.refl _ w).alloc (Nat.le_refl _) _).trans (hb1.mono (by simp)), Nat.lt_of_lt_of_le (by simp) hb1.size⟩
  have hJ : J1 w w1.heap.size z 0 ((w1.drewN nq).alloc (.cells #[.slice none 0 0, .slice none 0 0, .slice none 0 0] 52)) := by
    refine ⟨.slice none 0 0, ?_, World.ownsRow_nil _ _ _ _, ?_⟩
    · exact World.alloc_heap_new (w1.drewN nq) _
    · exact (below_drewN HB1.out.1 _).alloc (by simp; have := HB1.out.2; omega) _
  obtain ⟨W0, hW0⟩ : ∃ W0, (w1.drewN nq).alloc (.cells #[.slice none 0 0, .slice none 0 0, .slice none 0 0] 52) = W0 := ⟨_, rfl⟩
  rw [hW0] at hJ ⊢
  obtain ⟨tb, htb⟩ : ∃ tb, w1.heap.size = tb := ⟨_, rfl⟩
  have HTB : Hid (w.heap.size < tb) := by have := HB1.out.2; show _ < _; omega
  rw [htb] at hJ
  simp only [htb]
  clear hW0 htb c0 c1' hb1 HB1
  go_cut [10] (fun i wx => Hid (J1 w tb z K1 wx))
  case first =>
    rename_i hJm hKm
    refine versof_loop1 z y b1 o1 l1 c1 b2 o2 l2 c2 b i w h1 h2 h1c h2c HL1 HL2 A1 A2 HA1 HA2 HK1 HK2 K1 K2 q1 q2 q3 q4 HKM tb HTB _ rfl _ _ _ hJ ?_
    intro wu10 wu25 wu26 wu27 wu28 wu29 wu30 wu31 wu32 wu33 wu34 wu35 wu36 wu37 wu38 wu39 wu40 wu41 wu42 wu43 wu44 wu45 wu46 wu47 wu48 wu49 wu50 w' HJ
    refine hKm _ _ ?_
    exact hJm _ _ ⟨wu10, wu25, wu26, wu27, wu28, wu29, wu30, wu31, wu32, wu33, wu34, wu35, wu36, wu37, wu38, wu39, wu40, wu41, wu42, wu43, wu44, wu45, wu46, wu47, wu48, wu49, wu50, HJ, rfl⟩
  case rest =>
  have HJ1 := hcut
  clear hcut
  go_upto_block 2 with fail
  have hJ : J2 w tb z y K1 0 wc := by
    obtain ⟨sv, e1, e2, e3⟩ := HJ1.out
    exact ⟨sv, .slice none 0 0, e1, e2, World.ownsRow_nil _ _ _ _, e3⟩
  clear HJ1
  go_cut [11] (fun i wx => Hid (J2 w tb z y K1 K2 wx))
  case first =>
    rename_i hJm hKm
    refine versof_loop2 z y b1 o1 l1 c1 b2 o2 l2 c2 b i w h1 h2 h1c h2c HL1 HL2 A1 A2 HA1 HA2 HK1 HK2 K1 K2 q1 q2 q3 q4 HKM tb HTB _ _ _ _ _ _ _ _ _ _ _ _ _ _ _ _ _ _ _ _ _ _ _ _ _ _ _ _ rfl _ _ _ hJ ?_
    intro wu11 wu51 wu52 wu53 wu54 wu55 wu56 wu57 wu58 wu59 wu60 wu61 wu62 wu63 wu64 wu65 wu66 wu67 wu68 wu69 wu70 wu71 wu72 wu73 wu74 wu75 wu76 w' HJ
    refine hKm _ _ ?_
    exact hJm _ _ ⟨wu11, wu51, wu52, wu53, wu54, wu55, wu56, wu57, wu58, wu59, wu60, wu61, wu62, wu63, wu64, wu65, wu66, wu67, wu68, wu69, wu70, wu71, wu72, wu73, wu74, wu75, wu76, HJ, rfl⟩
  case rest =>
  have HJ2 := hcut
  clear hcut hJ
  go_upto_region 13 with fail
  go_cut [1] (fun p wx => p = .string (b.extract 0 (min b.size 100)) ∧ wx = wc)
  case first =>
    by_cases hs : b.size ≤ 100
    · have hsi : (b.size : Int) ≤ 100 := by omega
      have hmin : min (b.size : Int) 100 = (b.size : Int) := by omega
      go_wp2
      go_meet
      case rel => exact ⟨by rw [Nat.min_eq_left hs]; simp, rfl⟩
    · have hsi : ¬ (b.size : Int) ≤ 100 := by omega
      have hsi2 : (100 : Int) ≤ (b.size : Int) := by omega
      have hmin : min (b.size : Int) 100 = 100 := by omega
      go_wp2
      go_meet
      case rel => exact ⟨by rw [Nat.min_eq_right (show 100 ≤ b.size by omega)], rfl⟩
  case rest =>
  obtain ⟨rfl, hw⟩ := hcut
  subst hw
  have hbs : (b.extract 0 (min b.size 100)).size ≤ 100 := by simp; omega
  obtain ⟨b', hb'⟩ : ∃ b', b.extract 0 (min b.size 100) = b' := ⟨_, rfl⟩
  rw [hb'] at hbs ⊢
  clear hb'
  obtain ⟨N, hN⟩ : ∃ N, b'.size / 2 = N := ⟨_, rfl⟩
  have HN : Hid (N * 2 ≤ b'.size ∧ b'.size / 2 = N ∧ N ≤ 50) := ⟨by omega, hN, by omega⟩
  have NUM : ∀ W : World, Calls Try.prog 15 #[.string b'] W fun e w' => ∃ a c, e = .returned (.slice a N c) ∧ Hid (w'.ownsRow W.heap.size 3 1 (.slice a N c) N (cellsI (eachL b' 2 N))) ∧ Below W.heap.size W w' := fun W => (numbers_any b' N W (by omega) hN (by omega)).mono (by
    rintro e w' ⟨⟨v, rfl, hr⟩, hB⟩
    obtain ⟨_, a, c, rfl⟩ := slI_of hr
    exact ⟨a, c, rfl, hr, hB⟩)
  clear hN
  have x2 : ∀ w2 : World, Below wc.heap.size wc w2 → w2.cell? ⟨tb, 2, none⟩ = some (.slice none 0 0) ∧ w2.frozen? ⟨tb, 2, none⟩ = false := by
    intro w2 hb2
    obtain ⟨sd, sv, e1, e2, e3, e4⟩ := HJ2.out
    have := e1.below hb2 e1.lt
    exact ⟨this.c2, this.fz 2⟩
  go_upto_region 15 with (go_at_call 15; refine (NUM _).mono ?_; rintro e w3 ⟨a2, c2, rfl, HR3, hb3⟩; obtain ⟨y0, y1⟩ := x2 _ hb3)
  have HJ3 : Hid (J3 w tb z y K1 K2 b' N (w3.setCell ⟨tb, 2, none⟩ (.slice a2 N c2))) := by
    obtain ⟨sd, sv, e1, e2, e3, e4⟩ := HJ2.out
    have f1 := ownsRow_setCell_below (row_below e2 hb3) (a := ⟨tb, 2, none⟩) (by simp) (.slice a2 N c2)
    have f2 := ownsRow_setCell_below (row_below e3 hb3) (a := ⟨tb, 2, none⟩) (by simp) (.slice a2 N c2)
    have f3 := ownsRow_setCell_below HR3.out (a := ⟨tb, 2, none⟩) e1.lt (.slice a2 N c2)
    obtain ⟨g1, u0, v0, rfl⟩ := slD_of f1 (DL_len _ _)
    obtain ⟨g2, u1, v1, rfl⟩ := slN_of f2 (NL_len _ _)
    obtain ⟨g3, _⟩ := slI_of f3
    refine ⟨_, _, _, _, _, _, (e1.below hb3 e1.lt).set2 _, g1, g2, g3, ?_⟩
    exact (e4.trans (hb3.mono e4.size)).setCell (p := ⟨tb, 2, none⟩) (by have := HTB.out; simp; omega) _
  obtain ⟨W4, hW4⟩ : ∃ W4, w3.setCell ⟨tb, 2, none⟩ (.slice a2 N c2) = W4 := ⟨_, rfl⟩
  rw [hW4] at HJ3 ⊢
  clear hW4 HR3 hb3 y0 y1 x2 NUM HJ2
  have hN1 := HN.out
  have hsz2 : IntKind.i64.wrap ((b'.size : Int).tdiv 2) = (N : Int) := by rw [Int.tdiv_eq_ediv_of_nonneg (by omega), IntKind.wrap_i64]; omega
  have hsz3 : (b'.size : Int) / 2 = (N : Int) := by omega
  have hsz4 : ((b'.size : Int)).tdiv 2 = (N : Int) := by rw [Int.tdiv_eq_ediv_of_nonneg (by omega)]; exact hsz3
  obtain ⟨nn, hnn⟩ : ∃ nn : Nat, atB (nums b' N) i = (nn : Int) ∧ nn < 65536 := atB_nat b' N i
  go_upto_region 16 with fail
  go_cut [93] (fun t wx => t = .bool (decide (0 ≤ i ∧ i < (N : Int))) ∧ wx = W4)
  case first =>
    clear hN1
    by_cases i0 : 0 ≤ i
    · by_cases i1 : i < (N : Int)
      · have : decide (0 ≤ i ∧ i < (N : Int)) = true := decide_eq_true ⟨i0, i1⟩
        have HD : Hid (_ = _) := this
        clear this
        go_wp2
        go_meet
        case rel => exact ⟨by rw [HD.out], rfl⟩
      · have : decide (0 ≤ i ∧ i < (N : Int)) = false := decide_eq_false (fun h => i1 h.2)
        have HD : Hid (_ = _) := this
        clear this
        go_wp2
        go_meet
        case rel => exact ⟨by rw [HD.out], rfl⟩
    · have : decide (0 ≤ i ∧ i < (N : Int)) = false := decide_eq_false (fun h => i0 h.1)
      have HD : Hid (_ = _) := this
      clear this
      go_wp2
      go_meet
      case rel => exact ⟨by rw [HD.out], rfl⟩
  case rest =>
  obtain ⟨rfl, hw⟩ := hcut
  subst hw
  go_upto_if 93 with fail
  have HNN : Hid (atB (nums b' N) i = (nn : Int)) := hnn.1
  have hn16 : nn < 65536 := hnn.2
  clear hnn hsz2 hsz3 hsz4
  go_cut [12] (fun n wx => n = .int .u64 (nn : Int) ∧ wx = wc)
  case first =>
    by_cases hin : 0 ≤ i ∧ i < (N : Int)
    · have hd : decide (0 ≤ i ∧ i < (N : Int)) = true := decide_eq_true hin
      simp only [hd]
      obtain ⟨m, rfl⟩ := Int.eq_ofNat_of_zero_le hin.1
      have hm : m < N := by omega
      have e1 : num (b'.extract (2 * m) (2 * m + 2)) = (nn : Int) := (atB_in b' N m hm).symm.trans HNN.out
      have t1 : IntKind.i64.wrap (2 * (m : Int)) = 2 * (m : Int) := sm64 _ (by omega) (by omega)
      have t2 : IntKind.i64.wrap (2 * (m : Int) + 2) = 2 * (m : Int) + 2 := sm64 _ (by omega) (by omega)
      have t3 : (0 : Int) ≤ 2 * (m : Int) := by omega
      have t4 : 2 * (m : Int) ≤ 2 * (m : Int) + 2 := by omega
      have t5 : 2 * (m : Int) + 2 ≤ (b'.size : Int) := by omega
      have t6 : (2 * (m : Int)).toNat = 2 * m := by omega
      have t7 : (2 * (m : Int) + 2).toNat = 2 * m + 2 := by omega
      have z1 : (b'.extract (2 * m) (2 * m + 2)).size ≤ maxLen := by unfold maxLen; simp; omega
      have G := fun W => refget_any (b'.extract (2 * m) (2 * m + 2)) W z1
      rw [e1] at G
      clear hin hd hN1
      go_wp2_with (go_at_call 16; refine (G _).mono ?_; rintro e w' ⟨rfl, rfl⟩)
      go_meet
      case rel => exact ⟨rfl, rfl⟩
    · have hd : decide (0 ≤ i ∧ i < (N : Int)) = false := decide_eq_false hin
      simp only [hd]
      have e1 : (1 : Int) = (nn : Int) := (atB_out b' N i hin).symm.trans HNN.out
      have HE : Hid (_ = _) := e1
      clear hin hd e1
      go_wp2
      go_meet
      case rel => exact ⟨by rw [← HE.out], rfl⟩
  case rest =>
  obtain ⟨rfl, hw⟩ := hcut
  subst hw
  obtain ⟨a0, d0, a1, d1, a2, d2, hB, hD, hNe, hI, hBe⟩ := HJ3.out
  have OF : Calls Try.prog 17 #[.agg #[.slice a0 K1 d0, .slice a1 K2 d1, .slice a2 N d2], .int .i64 i] wc (ofP wc (DL z K1) (NL y K2) (nn : Int)) := by
    have := tof_any (DL z K1) (NL y K2) (nums b' N) _ _ _ i wc hD hNe hI (by rw [DL_len]; omega) (by rw [NL_len]; omega) (by rw [nums_len]; omega)
    rw [HNN.out] at this
    exact this
  unfold ofP at OF
  rw [ofF_h z y K1 K2 nn hn16] at OF
  have x0 := hB.c0
  have x1 := hB.c1
  have x2 := hB.c2
  obtain ⟨nm, hnm⟩ : ∃ nm, (ofF (DL z K1) (NL y K2) (nn : Int)).1 = nm := ⟨_, rfl⟩
  obtain ⟨fl, hfl⟩ : ∃ fl, (ofF (DL z K1) (NL y K2) (nn : Int)).2.1 = fl := ⟨_, rfl⟩
  obtain ⟨kk, hkk⟩ : ∃ kk : Int, ((nn % 32768 : Nat) : Int) = kk := ⟨_, rfl⟩
  have P1 : Hid (∀ j, j < K1 → z j = kk → (∀ i, i < j → z i ≠ kk) → nm = nmD 100 j ∧ fl = ⟨#[]⟩) := by
    intro j hj hz h0
    have := ofF_d z y K1 K2 nn j hn16 hj (hz.trans hkk.symm) (fun i hi => by rw [hkk]; exact h0 i hi)
    rw [this] at hnm hfl
    exact ⟨hnm.symm, hfl.symm⟩
  have P2 : Hid ((∀ i, i < K1 → z i ≠ kk) → ∀ j, j < K2 → y j = kk → (∀ i, i < j → y i ≠ kk) → nm = nmD 110 j ∧ fl = ⟨#[102]⟩) := by
    intro hd j hj hz h0
    have := ofF_n z y K1 K2 nn j hn16 (fun i hi => by rw [hkk]; exact hd i hi) hj (hz.trans hkk.symm) (fun i hi => by rw [hkk]; exact h0 i hi)
    rw [this] at hnm hfl
    exact ⟨hnm.symm, hfl.symm⟩
  have P3 : Hid ((∀ i, i < K1 → z i ≠ kk) → (∀ i, i < K2 → y i ≠ kk) → nm = ⟨#[]⟩ ∧ fl = ⟨#[]⟩) := by
    intro hd hy
    have := ofF_0 z y K1 K2 nn hn16 (fun i hi => by rw [hkk]; exact hd i hi) (fun i hi => by rw [hkk]; exact hy i hi)
    rw [this] at hnm hfl
    exact ⟨hnm.symm, hfl.symm⟩
  obtain ⟨hdv, hdd⟩ : ∃ v, decide (32768 ≤ nn) = v := ⟨_, rfl⟩
  rw [hnm, hfl, hdd] at OF
  have HDD : Hid (decide (32768 ≤ nn) = hdv) := hdd
  have HKK : Hid (((nn % 32768 : Nat) : Int) = kk) := hkk
  clear hnm hfl hkk hdd HJ3 HNN hI
  go_upto_region 19 with (go_at_call 17; refine OF.mono ?_; rintro e w5 ⟨rfl, hb5⟩)
  have HB5 : Hid (Blk3 w5 tb (.slice a0 K1 d0) (.slice a1 K2 d1) (.slice a2 N d2)) := hB.below hb5 hB.lt
  have HD5 : Hid (SlD w5 (.slice a0 K1 d0) (DL z K1)) := hD.below hb5
  have HN5 : Hid (SlN w5 (.slice a1 K2 d1) (NL y K2)) := hNe.below hb5
  have HW5 : Hid (Below w.heap.size w w5) := hBe.trans (hb5.mono hBe.size)
  have y0 := HB5.out.c0
  have y1 := HB5.out.c1
  have y2 := HB5.out.c2
  clear x0 x1 x2 hB hD hNe hBe hb5 OF
  go_cut [121] (fun t wx => t = .bool false ∧ wx = w5)
  case first =>
    have hsz4 : ((b'.size : Int)).tdiv 2 = (N : Int) := by rw [Int.tdiv_eq_ediv_of_nonneg (by omega)]; omega
    have hsz3 : (b'.size : Int) / 2 = (N : Int) := by omega
    clear hN1
    by_cases hh : 32768 ≤ nn
    · have hd : hdv = true := HDD.out.symm.trans (decide_eq_true hh)
      have hi : (32768 : Int) ≤ (nn : Int) := by omega
      subst hd
      go_wp2
      go_meet
      case rel => exact ⟨rfl, rfl⟩
    · have hd : hdv = false := HDD.out.symm.trans (decide_eq_false hh)
      have hi : ¬ (32768 : Int) ≤ (nn : Int) := by omega
      subst hd
      go_wp2
      go_meet
      case rel => exact ⟨rfl, rfl⟩
  case rest =>
  obtain ⟨rfl, hw⟩ := hcut
  subst hw
  go_upto_region 21 with fail
  go_cut [16] (fun k wx => k = .int .i64 kk ∧ wx = wc)
  case first =>
    have e1 : IntKind.i64.wrap ((nn : Int).tmod 32768) = kk := by rw [← HKK.out, Int.tmod_eq_emod_of_nonneg (by omega), IntKind.wrap_i64]; omega
    have e2 : (nn : Int).tmod 32768 = kk := by rw [← HKK.out, Int.tmod_eq_emod_of_nonneg (by omega)]; omega
    have e3 : (nn : Int) % 32768 = kk := by rw [← HKK.out]; omega
    have k0 : 0 ≤ kk := by omega
    have k1 : kk ≤ 32768 := by omega
    clear hN1
    go_wp2
    go_meet
    case rel => exact ⟨rfl, rfl⟩
  case rest =>
  obtain ⟨rfl, hw⟩ := hcut
  subst hw
  clear hN1
  go_upto_block 4 with fail
  go_wp2
  go_loop [17] (fun i => ∃ m : Nat, m ≤ K1 ∧ i = .int .i64 m ∧ Hid (∀ i, i < m → z i ≠ kk)) (fun i => K1 - (intOf i).toNat)
  case atStart => exact ⟨0, Nat.zero_le _, rfl, fun i hi => absurd hi (Nat.not_lt_zero _)⟩
  case round =>
    obtain ⟨m, hm, rfl, HM⟩ := hrel
    by_cases hlt : m < K1
    · have hmi : (m : Int) < (K1 : Int) := by omega
      have hm0 : (0 : Int) ≤ (m : Int) := by omega
      rcases HD5.out with ⟨e, _⟩ | ⟨g, off, c, e, hg, hc⟩
      · have := congrArg List.length e
        rw [DL_len] at this
        simp at this
        omega
      · have e2 : a0 = some ⟨g, off, none⟩ := by
          rw [DL_len] at e
          cases e
          rfl
        have s0 := hc m (by rw [DL_len]; exact hlt) 0 (.int .i64 (z m)) (by rw [DL_at z K1 m hlt]; rfl)
        have s1 := hc m (by rw [DL_len]; exact hlt) 1 (.string (nmD 100 m)) (by rw [DL_at z K1 m hlt]; rfl)
        rw [Nat.add_zero] at s0
        clear hc e hg
        subst e2
        by_cases hz : z m = kk
        · obtain ⟨e3, e4⟩ := P1.out m hlt hz HM.out
          rw [hz] at s0
          have HZ : Hid (z m = kk) := hz
          clear hz
          subst e3
          subst e4
          generalize nmD 100 m = nme at s1 ⊢
          go_wp2
          go_ret
          exact ⟨rfl, HW5.out⟩
        · have HZ : Hid (z m ≠ kk) := hz
          generalize z m = x at s0 hz
          have hz2 : ¬ kk = x := fun h => hz h.symm
          go_wp2
          exact ⟨⟨m + 1, by omega, by go_num, fun i hi => by
            rcases Nat.lt_succ_iff_lt_or_eq.1 hi with h | rfl
            · exact HM.out i h
            · exact HZ.out⟩, by simp [intOf]; omega⟩
    · have hmi : ¬ (m : Int) < (K1 : Int) := by omega
      obtain rfl : m = K1 := by omega
      have HM1 : Hid (_) := HM
      go_wp2
      go_loop [18] (fun i => ∃ k : Nat, k ≤ K2 ∧ i = .int .i64 k ∧ Hid (∀ i, i < k → y i ≠ kk)) (fun i => K2 - (intOf i).toNat)
      case atStart => exact ⟨0, Nat.zero_le _, rfl, fun i hi => absurd hi (Nat.not_lt_zero _)⟩
      case round =>
        obtain ⟨k, hk, rfl, HM2⟩ := hrel
        by_cases hlt2 : k < K2
        · have hki : (k : Int) < (K2 : Int) := by omega
          have hk0 : (0 : Int) ≤ (k : Int) := by omega
          rcases HN5.out with ⟨e, _⟩ | ⟨g, off, c, e, hg, hc⟩
          · have := congrArg List.length e
            rw [NL_len] at this
            simp at this
            omega
          · have e2 : a1 = some ⟨g, off, none⟩ := by
              rw [NL_len] at e
              cases e
              rfl
            have s0 := hc k (by rw [NL_len]; exact hlt2) 0 (.int .i64 (y k)) (by rw [NL_at y K2 k hlt2]; rfl)
            have s1 := hc k (by rw [NL_len]; exact hlt2) 2 (.string (nmD 110 k)) (by rw [NL_at y K2 k hlt2]; rfl)
            rw [Nat.add_zero] at s0
            clear hc e hg
            subst e2
            by_cases hz : y k = kk
            · obtain ⟨e3, e4⟩ := P2.out HM.out k hlt2 hz HM2.out
              rw [hz] at s0
              have HZ : Hid (y k = kk) := hz
              clear hz
              subst e3
              subst e4
              generalize nmD 110 k = nme at s1 ⊢
              go_wp2
              go_ret
              exact ⟨rfl, HW5.out⟩
            · have HZ : Hid (y k ≠ kk) := hz
              generalize y k = x at s0 hz
              have hz2 : ¬ kk = x := fun h => hz h.symm
              go_wp2
              exact ⟨⟨k + 1, by omega, by go_num, fun i hi => by
                rcases Nat.lt_succ_iff_lt_or_eq.1 hi with h | rfl
                · exact HM2.out i h
                · exact HZ.out⟩, by simp [intOf]; omega⟩
        · have hki : ¬ (k : Int) < (K2 : Int) := by omega
          obtain rfl : k = K2 := by omega
          obtain ⟨e3, e4⟩ := P3.out HM.out HM2.out
          subst e3
          subst e4
          go_wp2
          go_ret
          exact ⟨rfl, HW5.out⟩
end Go.Proofs.Ytnlpncgblegbkaa
