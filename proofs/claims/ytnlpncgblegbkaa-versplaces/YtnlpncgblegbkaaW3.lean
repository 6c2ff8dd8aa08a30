/-
  The statement VersPlaces: its walk.
-/
import Derived.Test.YtnlpncgblegbkaaW4
import Derived.Deep.DeepCutAuto
import Derived.Deep.QuietTactic
import Derived.BigQuiet
namespace Go.Proofs.Ytnlpncgblegbkaa
open Go.RowKit
set_option linter.unusedVariables false

theorem Try.info23 : (Try.prog.info? 23).map (fun i => (i.zero, i.size, i.bytes)) = some (some (.int .u32 0), 1, 4) := by kernel_rfl
def PL (k : Nat) : List Value := (List.range k).map fun (j : Nat) => Value.int .u32 (2 * ((j : Int) % 4))
theorem PL_snoc (k : Nat) : PL (k + 1) = PL k ++ [.int .u32 (2 * ((k : Int) % 4))] := by simp [PL, List.range_succ]
theorem PL_at (k j : Nat) (h : j < k) : (PL k)[j]? = some (.int .u32 ((2 * (j % 4) : Nat) : Int)) := by
  simp [PL, h]
theorem one_u32 (w : World) (x : Int) : ∀ (j : Nat) (u : Value), [Value.int .u32 x][j]? = some u → (w.alloc (.cells #[.int .u32 x] 23)).cell? ((⟨w.heap.size, 0, none⟩ : Addr).add j) = some u := by
  intro j u hj
  match j, hj with
  | 0, hj => simp at hj; subst hj; simp [Addr.add, go_sem]
theorem one_cell (x : Int) : ∀ u ∈ [Value.int .u32 x], u.oneCell' = true := by
  intro u hu; simp at hu; subst hu; rfl

theorem fb2 (W : World) (c a : Int) : (W.alloc (fbox c a)).cell? ⟨W.heap.size, 0, none⟩ = some (.int .i64 c) ∧ (W.alloc (fbox c a)).cell? ⟨W.heap.size, 1, none⟩ = some (.int .u64 a) ∧ (W.alloc (fbox c a)).cell? ⟨W.heap.size, 2, none⟩ = some (.string ⟨#[]⟩) := by
  refine ⟨?_, ?_, ?_⟩ <;> simp [go_sem]
theorem DefRow.next {W W' : World} {g n : Nat} {z : Nat → Nat} (h : DefRow W g n z) (hb : Below W.heap.size W W') : DefRow W' g n z := fun i hi =>
  ⟨(hb.cell (p := ⟨g, i * 2, none⟩) (World.block_lt_of_cell? _ _ (h i hi).1)).trans (h i hi).1, (hb.cell (p := ⟨g, i * 2 + 1, none⟩) (World.block_lt_of_cell? _ _ (h i hi).2)).trans (h i hi).2⟩
theorem row_some {W : World} {base n size : Nat} {e : TypeId} {v : Value} {xs : List Value} (h : W.ownsRow base e size v n xs) (h0 : 0 < n) : ∃ g cap, v = .slice (some ⟨g, 0, none⟩) n cap ∧ n ≤ cap ∧ cap ≤ 9223372036854775807 ∧ ∀ j, j < xs.length → W.cell? ⟨g, j, none⟩ = xs[j]? := by
  rcases h.2 with ⟨rfl, h1⟩ | ⟨g, cap, cur, rfl, hb, hg, h2, h3, _⟩
  · omega
  · exact ⟨g, cap, rfl, h2, by unfold maxLen at h3; omega, fun j hj => h.cellAt j (by rw [← h.1]; exact hj)⟩

theorem ownBlock_ge {W : World} {base n size : Nat} {e : TypeId} {v : Value} {xs : List Value} (h : W.ownsRow base e size v n xs) : ∀ q, v.ownBlock = some q → base ≤ q := by
  intro q hq
  rcases h.2 with ⟨rfl, h1⟩ | ⟨g, cap, cur, rfl, hb, _⟩
  · cases hq
  · cases hq; exact hb

set_option maxRecDepth 100000 in
set_option maxHeartbeats 4000000 in
theorem places_walk (zi : Nat → Int) (b off len cap K : Nat) (count : Int) (w : World) (hlen : len ≤ cap) (hcap : cap ≤ 9223372036854775807) (hl0 : 0 < len) (hK : K = min len 20)
    (c1 : ∀ j, j < len → w.cell? ⟨b, off + j, none⟩ = some (.int .i64 (zi j))) :
    Calls Try.prog 7 #[.slice (some ⟨b, off, none⟩) len cap, .int .i64 count] w fun e w' => e = .returned (.bool true) ∧ Below w.heap.size w w' := by
  have HC : Hid (∀ j, j < len → w.cell? ⟨b, off + j, none⟩ = some (.int .i64 (zi j))) := c1
  clear c1
  have hK20 : K ≤ 20 := by omega
  have hKl : K ≤ len := by omega
  have hK0 : 0 < K := by omega
  obtain ⟨i0, hi0, hz0, hz1, hz2⟩ := info_parts Try.info23
  go_enter Try.func7, Try.ntmps7
  go_upto_region 4 with (go_at_call 8; refine (speaks12_any _).mono ?_; rintro r w1 ⟨rfl, hb1⟩)
  go_cut [0, 5] (fun p v wx => p = .slice (some ⟨b, off, none⟩) K cap ∧ v = .slice none 0 0 ∧ wx = w1)
  case first =>
    by_cases hs : len ≤ 20
    all_goals
      first | rw [Nat.min_eq_left hs] at hK | rw [Nat.min_eq_right (by omega)] at hK
      subst hK
      go_wp2
      go_meet
      case rel => exact ⟨rfl, rfl, rfl⟩
  case rest =>
  obtain ⟨rfl, rfl, hw⟩ := hcut
  obtain rfl : w1 = wc := hw.symm
  clear hw hK
  go_wp2
  go_loopw [5, 6] (fun v i wr => ∃ k : Nat, k ≤ K ∧ i = .int .i64 k ∧ wr.ownsRow w1.heap.size 23 1 v k (PL k) ∧ Below w.heap.size w wr ∧ w1.heap.size ≤ wr.heap.size) (fun _ i _ => K - (intOf i).toNat)
  case atStart => exact ⟨0, Nat.zero_le _, rfl, World.ownsRow_nil _ _ _ _, hb1, Nat.le_refl _⟩
  case round =>
    obtain ⟨k, hk, rfl, hrow, hbr, h1⟩ := hrel
    by_cases hlt : k < K
    · have hki : (k : Int) < (K : Int) := by omega
      have ha := and3n k (by omega)
      have hn := one_u32 wr (2 * ((k : Int) % 4))
      have oc := one_cell (2 * ((k : Int) % 4))
      have m1 : k + 1 ≤ maxLen := by unfold maxLen; omega
      have m2 : (k + 1) * 4 ≤ 140737488355328 := by omega
      have m3 : w1.heap.size ≤ (wr.alloc (.cells #[.int .u32 (2 * ((k : Int) % 4))] 23)).heap.size := by simp; omega
      have HR : Hid (wr.ownsRow w1.heap.size 23 1 _ k (PL k)) := hrow
      have HBR : Hid (Below w.heap.size w wr ∧ w1.heap.size ≤ wr.heap.size) := ⟨hbr, h1⟩
      clear hrow hbr h1
      go_wp2_with (at_builtin; refine wpList_append_own _ rfl _ _ 59 rfl w1.heap.size 23 i0 (.int .u32 0) 1 4 Try.underlying59 hi0 hz0 hz1 hz2 rfl (by decide) _ _ _ rfl (HR.out.alloc _) ⟨wr.heap.size, 0, none⟩ 1 1 [.int .u32 (2 * ((k : Int) % 4))] rfl rfl hn oc m1 m2 m3 ?_; intro v' w2 hown' hgrow _)
      have hB2 : Below w.heap.size w w2 := by
        refine (HBR.out.1.alloc HBR.out.1.size (.cells #[.int .u32 (2 * ((k : Int) % 4))] 23)).grown hgrow ?_ ?_
        · have := HBR.out.1.size; simp; omega
        · intro q hq; have := ownBlock_ge HR.out q hq; have := hb1.size; omega
      go_roundw
      case rel => exact ⟨k + 1, by omega, by go_num, by rw [PL_snoc]; exact hown', hB2, by have := hgrow.size; have := HBR.out.2; simp at *; omega⟩
      case measure => simp [intOf]; omega
    · have hki : ¬ (k : Int) < (K : Int) := by omega
      obtain rfl : k = K := by omega
      obtain ⟨g, cap2, rfl, hc2, hc3, hcells⟩ := row_some hrow hK0
      have P := packs_some zi (fun j => 2 * (j % 4)) b off cap g cap2 k wr (by omega) hK0 (fun j hj => (hbr.cell (p := ⟨b, off + j, none⟩) (World.block_lt_of_cell? _ _ (HC.out j (by omega)))).trans (HC.out j (by omega))) (fun j hj => (hcells j (by simp [PL]; exact hj)).trans (PL_at k j hj)) (fun j => by omega)
      obtain ⟨B, hB⟩ : ∃ B, PB (fun j => (zi j % 18446744073709551616).toNat) (fun j => 2 * (j % 4)) k = B := ⟨_, rfl⟩
      rw [hB] at P
      have HBS : Hid (_) := hB
      clear hB hcells hrow
      obtain ⟨n, hn, hnk⟩ := n_of count k (by omega)
      have ek2 : ((k : Int) + 2 = 0) = False := by simp; omega
      have HW1 : Hid (Below w.heap.size w wr) := hbr
      clear hbr h1 hb1
      by_cases hok : n ≤ k
      · have hnk2 : (n : Int) ≤ (k : Int) := by omega
        have DV := fun W => defs_ok (fun j => (zi j % 18446744073709551616).toNat) k n W (by omega) hok
        rw [HBS.out] at DV
        obtain ⟨N, hN⟩ : ∃ N : ByteArray, N = nm8 := ⟨_, rfl⟩
        have NM : nm8 = ⟨#[97, 0, 98, 0, 99, 0, 100, 0]⟩ := rfl
        have HNM : Hid (N = ⟨#[97, 0, 98, 0, 99, 0, 100, 0]⟩) := hN.trans NM
        have HNL : Hid (∀ j : Nat, N.extract (2 * (j % 4)) (2 * (j % 4) + 1) = let4 j) := fun j => by rw [hN]; rfl
        have hN8 : N.size = 8 := by rw [hN]; rfl
        rw [NM] at DV
        clear NM hN
        go_upto_region 13 with (first
          | (go_at_call 18; refine P.mono ?_; rintro r w2 ⟨rfl, hb2⟩)
          | (go_at_call 11; refine (DV _).mono ?_; rintro r w3 ⟨⟨v, rfl, hv⟩, hb3⟩))
        have hx := fb2 w3 0 0
        go_cut [8, 59] (fun p p59 wx => p = .string N ∧ p59 = .bool false ∧ wx = w3.alloc (fbox 0 0))
        case first =>
          go_wp2
          go_meet
          case rel => exact ⟨by rw [HNM.out], by first | rfl | (simp; omega), rfl⟩
        case rest =>
        obtain ⟨rfl, rfl, hw⟩ := hcut
        have hB34 : Below w3.heap.size w3 wc := by rw [hw]; exact (Below.refl _ w3).alloc (Nat.le_refl _) _
        have HB4 : Hid (Below w.heap.size w wc) := bt HW1.out (bt hb2 (bt hb3 hB34))
        rw [← hw] at hx
        obtain ⟨x0, x1, x2⟩ := hx
        clear hw hb2 hb3 DV P hcap
        rcases hv with ⟨a, c, rfl, rfl⟩ | ⟨g2, cp, rfl, hn0, hc1, hc2, HD⟩
        · go_wp2_with (go_at_call 19; refine (fok_any _ _ _).mono ?_; rintro r w5 ⟨rfl, rfl⟩)
          go_loop [12] (fun i => i = .int .i64 0) (fun i => 0)
          case atStart => exact rfl
          case round =>
            subst hrel
            go_wp2
            go_ret
            exact ⟨rfl, HB4.out.trans (((Below.refl _ wc).alloc (Nat.le_refl _) _).mono HB4.out.size)⟩
        · have HDC : Hid (DefRow wc g2 n fun j => (zi j % 18446744073709551616).toNat) := HD.out.next hB34
          clear hB34 HD
          go_wp2_with (go_at_call 19; refine (fok_any _ _ _).mono ?_; rintro r w5 ⟨rfl, rfl⟩)
          obtain ⟨W5, hW5⟩ : ∃ W5, wc.alloc (fbox 0 0) = W5 := ⟨_, rfl⟩
          have hB5 : Below wc.heap.size wc W5 := by rw [← hW5]; exact (Below.refl _ wc).alloc (Nat.le_refl _) _
          have HD5 : Hid (DefRow W5 g2 n fun j => (zi j % 18446744073709551616).toNat) := HDC.out.next hB5
          have HB5 : Hid (Below w.heap.size w W5) := bt HB4.out hB5
          rw [hW5]
          clear hW5 hB5 HDC HB4 x0 x1 x2
          go_loopw [12] (fun i wr => ∃ j : Nat, j ≤ n ∧ i = .int .i64 j ∧ ∃ q, wr = W5.drewN q) (fun i _ => n - (intOf i).toNat)
          case atStart => exact ⟨0, Nat.zero_le _, rfl, 0, rfl⟩
          case round =>
            obtain ⟨j, hj, rfl, q, rfl⟩ := hrel
            by_cases hlt : j < n
            · have hji : (j : Int) < (n : Int) := by omega
              obtain ⟨d0, d1⟩ := HD5.out j hlt
              have cz : W5.cell? ⟨b, off + j, none⟩ = some (.int .i64 (zi j)) := (HB5.out.cell (p := ⟨b, off + j, none⟩) (World.block_lt_of_cell? _ _ (HC.out j (by omega)))).trans (HC.out j (by omega))
              have hand := and15i (zi j)
              have h3 := and3n j (by omega)
              have hjk : (j : Int) < (k : Int) := by omega
              obtain ⟨y, hy⟩ : ∃ y, (((zi j % 18446744073709551616).toNat % 65536 : Nat) : Int) % 32768 = y := ⟨_, rfl⟩
              rw [hy] at hand
              have d0' : W5.cell? ⟨g2, j * 2, none⟩ = some (.int .i64 y) := by rw [d0]; dsimp only; rw [hy]
              have hlet := HNL.out j
              obtain ⟨r, hr4, hr⟩ : ∃ r : Nat, r ≤ 3 ∧ j % 4 = r := ⟨j % 4, by omega, rfl⟩
              rw [hr] at h3 hlet
              generalize let4 j = t at d1 hlet
              generalize zi j = x at cz hand
              have HR4 : Hid (_) := hr
              clear d0 hy hr
              go_wp2
              go_quiet (fail)
              go_wp2
              exact ⟨⟨j + 1, by omega, by go_num, q + nq, rfl⟩, by simp [intOf]; omega⟩
            · have hji : ¬ (j : Int) < (n : Int) := by omega
              go_wp2
              go_ret
              exact ⟨rfl, below_drewN HB5.out q⟩
      · obtain rfl : n = k + 1 := by omega
        have DV := fun W => defs_more (fun j => (zi j % 18446744073709551616).toNat) k W (by omega)
        have ek : ((k + 1 : Nat) : Int) = (k : Int) + 1 := by omega
        have NM : nm8 = ⟨#[97, 0, 98, 0, 99, 0, 100, 0]⟩ := rfl
        rw [HBS.out, NM, ek] at DV
        rw [ek] at hn
        clear NM ek
        go_wp2_with (first
          | (go_at_call 18; refine P.mono ?_; rintro r w2 ⟨rfl, hb2⟩)
          | (go_at_call 11; refine (DV _).mono ?_; rintro r w3 ⟨rfl, hb3⟩))
        go_ret
        exact ⟨rfl, bt HW1.out (bt hb2 (bt hb3 ((Below.refl _ w3).alloc (Nat.le_refl _) _)))⟩

set_option maxRecDepth 100000 in
set_option maxHeartbeats 4000000 in
theorem places_empty (a0 : Option Addr) (cap : Nat) (count : Int) (w : World) :
    Calls Try.prog 7 #[.slice a0 0 cap, .int .i64 count] w fun e w' => e = .returned (.bool true) ∧ Below w.heap.size w w' := by
  obtain ⟨n, hn, hnk⟩ := n_of count 0 (by omega)
  have e0 : ((0 : Nat) : Int) = 0 := rfl
  rw [e0, Int.zero_add, Int.add_zero] at hn
  have D0 : ∀ W, Calls Try.prog 11 #[.string ⟨#[]⟩, .string ⟨#[97, 0, 98, 0, 99, 0, 100, 0]⟩, .int .i64 0] W fun e w' => (∃ a c, e = .returned (.tuple #[.slice a 0 c, flt 0 0])) ∧ Below W.heap.size W w' := fun W => (defs_ok (fun _ => 0) 0 0 W (by omega) (by omega)).mono (by
    rintro e w' ⟨⟨v, rfl, ⟨a, c, rfl, _⟩ | ⟨g, cp, _, h, _⟩⟩, hb⟩
    · exact ⟨⟨a, c, rfl⟩, hb⟩
    · omega)
  have D1 : ∀ W, Calls Try.prog 11 #[.string ⟨#[]⟩, .string ⟨#[97, 0, 98, 0, 99, 0, 100, 0]⟩, .int .i64 1] W fun e w' => e = .returned (.tuple #[.slice none 0 0, flt 2 0]) ∧ Below W.heap.size W w' := fun W => defs_more (fun _ => 0) 0 W (by omega)
  obtain rfl | rfl : n = 0 ∨ n = 1 := by omega
  · rw [e0] at hn
    go_enter Try.func7, Try.ntmps7
    go_wp2_with (go_at_call 8; refine (speaks12_any _).mono ?_; rintro r w1 ⟨rfl, hb1⟩)
    go_loop [5, 6] (fun v i => v = .slice none 0 0 ∧ i = .int .i64 0) (fun _ i => 0)
    case atStart => exact ⟨rfl, rfl⟩
    case round =>
      obtain ⟨rfl, rfl⟩ := hrel
      go_wp2_with (first
        | (go_at_call 18; refine (packs_none _ _ _).mono ?_; rintro r w2 ⟨rfl, rfl⟩)
        | (go_at_call 11; refine (D0 _).mono ?_; rintro r w3 ⟨⟨a, c, rfl⟩, hb3⟩; obtain ⟨x0, x1, x2⟩ := fb2 w3 0 0)
        | (go_at_call 19; refine (fok_any _ _ _).mono ?_; rintro r w5 ⟨rfl, rfl⟩))
      go_loop [12] (fun i => i = .int .i64 0) (fun i => 0)
      case atStart => exact rfl
      case round =>
        subst hrel
        go_wp2
        go_ret
        exact ⟨rfl, bt hb1 (bt hb3 (((Below.refl _ w3).alloc (Nat.le_refl _) _).alloc (by simp) _))⟩
  · have e1 : ((1 : Nat) : Int) = 1 := rfl
    rw [e1] at hn
    go_enter Try.func7, Try.ntmps7
    go_wp2_with (go_at_call 8; refine (speaks12_any _).mono ?_; rintro r w1 ⟨rfl, hb1⟩)
    go_loop [5, 6] (fun v i => v = .slice none 0 0 ∧ i = .int .i64 0) (fun _ i => 0)
    case atStart => exact ⟨rfl, rfl⟩
    case round =>
      obtain ⟨rfl, rfl⟩ := hrel
      go_wp2_with (first
        | (go_at_call 18; refine (packs_none _ _ _).mono ?_; rintro r w2 ⟨rfl, rfl⟩)
        | (go_at_call 11; refine (D1 _).mono ?_; rintro r w3 ⟨rfl, hb3⟩))
      go_ret
      exact ⟨rfl, bt hb1 (bt hb3 ((Below.refl _ w3).alloc (Nat.le_refl _) _))⟩
end Go.Proofs.Ytnlpncgblegbkaa
