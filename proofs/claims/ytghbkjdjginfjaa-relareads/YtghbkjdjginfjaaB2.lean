/-
  Layer 15: the walk of RelaReads.
-/
import Derived.Test.YtghbkjdjginfjaaB1
import Derived.Deep.DeepCutAuto
import Derived.BigQuiet
namespace Go.Proofs.Ytghbkjdjginfjaa
open Go.RowKit
set_option linter.unusedVariables false

theorem teq (t : ByteArray) : (t.toList == t.toList) = true := beq_self_eq_true _

def Held8 (w : World) (g g' o : Nat) (x0 x1 x2 x3 : Int) (W : World) : Prop :=
  W.cell? ⟨g, o, none⟩ = some (.int .u64 x0) ∧ W.cell? ⟨g, o + 1, none⟩ = some (.int .i64 x1) ∧ W.cell? ⟨g, o + 2, none⟩ = some (.int .i64 x2) ∧ W.cell? ⟨g, o + 3, none⟩ = some (.int .u64 x3) ∧ W.cell? ⟨g', o, none⟩ = some (.int .u64 x0) ∧ W.cell? ⟨g', o + 1, none⟩ = some (.int .i64 x1) ∧ W.cell? ⟨g', o + 2, none⟩ = some (.int .i64 x2) ∧ W.cell? ⟨g', o + 3, none⟩ = some (.int .u64 x3) ∧ Below w.heap.size w W
theorem rl8_next {w W W' : World} {g g' o : Nat} {x0 x1 x2 x3 : Int} (hb : Below W.heap.size W W')
    (hS : W.cell? ⟨g, o, none⟩ = some (.int .u64 x0) ∧ W.cell? ⟨g, o + 1, none⟩ = some (.int .i64 x1) ∧ W.cell? ⟨g, o + 2, none⟩ = some (.int .i64 x2) ∧ W.cell? ⟨g, o + 3, none⟩ = some (.int .u64 x3) ∧ W.cell? ⟨g', o, none⟩ = some (.int .u64 x0) ∧ W.cell? ⟨g', o + 1, none⟩ = some (.int .i64 x1) ∧ W.cell? ⟨g', o + 2, none⟩ = some (.int .i64 x2) ∧ W.cell? ⟨g', o + 3, none⟩ = some (.int .u64 x3) ∧ Below w.heap.size w W) :
    W'.cell? ⟨g, o, none⟩ = some (.int .u64 x0) ∧ W'.cell? ⟨g, o + 1, none⟩ = some (.int .i64 x1) ∧ W'.cell? ⟨g, o + 2, none⟩ = some (.int .i64 x2) ∧ W'.cell? ⟨g, o + 3, none⟩ = some (.int .u64 x3) ∧ W'.cell? ⟨g', o, none⟩ = some (.int .u64 x0) ∧ W'.cell? ⟨g', o + 1, none⟩ = some (.int .i64 x1) ∧ W'.cell? ⟨g', o + 2, none⟩ = some (.int .i64 x2) ∧ W'.cell? ⟨g', o + 3, none⟩ = some (.int .u64 x3) ∧ Below w.heap.size w W' := by
  obtain ⟨h0, h1, h2, h3, k0, k1, k2, k3, h⟩ := hS
  have k : ∀ {a : Addr} {v}, W.cell? a = some v → W'.cell? a = some v := fun hc => (hb.cell (World.block_lt_of_cell? W _ hc)).trans hc
  exact ⟨k h0, k h1, k h2, k h3, k k0, k k1, k k2, k k3, h.trans (hb.mono h.size)⟩

set_option maxRecDepth 100000 in
set_option maxHeartbeats 8000000 in
theorem reads_walk (f : Nat → Rl) (a0 : Option Addr) (b off len cap K : Nat) (more : ByteArray) (sy : Int) (w : World) (hlen : len ≤ cap) (hcap : cap ≤ 9223372036854775807) (hK : K = min len 260) (hm : more.size ≤ 9223372036854775807)
    (n0 : -9223372036854775808 ≤ sy) (n1 : sy ≤ 9223372036854775807) (ha : 0 < len → a0 = some ⟨b, off, none⟩)
    (hf : ∀ j, j < len → 0 ≤ (f j).1 ∧ (f j).1 < 18446744073709551616 ∧ 0 ≤ (f j).2.2.2 ∧ (f j).2.2.2 < 18446744073709551616)
    (c1 : ∀ j, j < len → RlO w b (off + j * 4) (f j)) :
    Calls Try.prog 3 #[.slice a0 len cap, .string more, .int .i64 sy] w fun e w' => e = .returned (.bool true) ∧ Below w.heap.size w w' := by
  have HC : Hid (∀ j, j < len → RlO w b (off + j * 4) (f j)) := c1
  have HF : Hid (∀ j, j < len → 0 ≤ (f j).1 ∧ (f j).1 < 18446744073709551616 ∧ 0 ≤ (f j).2.2.2 ∧ (f j).2.2.2 < 18446744073709551616) := hf
  have HA : Hid (0 < len → a0 = some ⟨b, off, none⟩) := ha
  clear c1 hf ha
  have hK20 : K ≤ 260 := by omega
  have hKl : K ≤ len := by omega
  have hKx : K = len ∨ K = 260 := by omega
  obtain ⟨m, hmi, hm2, hm3⟩ : ∃ m : Nat, min (more.size : Int) 100 = (m : Int) ∧ m ≤ more.size ∧ m ≤ 100 := ⟨min more.size 100, by omega, by omega, by omega⟩
  obtain ⟨M, hM⟩ : ∃ M, more.extract 0 m = M := ⟨_, rfl⟩
  have hMz : M.size = m := by rw [← hM]; simp; omega
  go_enter Try.func3, Try.ntmps3
  go_wp2_with (go_at_call 7; refine (speaks_any _).mono ?_; rintro r w1 ⟨rfl, hb1⟩)
  clear hK
  go_loopw [7, 8] (fun s i wr => ∃ k : Nat, ∃ S : ByteArray, k ≤ K ∧ i = .int .i64 k ∧ s = .string S ∧ S.size = 24 * k ∧ Below w.heap.size w wr) (fun _ i _ => K - (intOf i).toNat)
  case atStart => exact ⟨0, _, Nat.zero_le _, rfl, rfl, rfl, hb1⟩
  case round =>
    obtain ⟨k, S, hk, rfl, rfl, hSz, hbr⟩ := hrel
    by_cases hlt : k < K
    · have hki : (k : Int) < (len : Int) := by omega
      have hk30 : (k : Int) < 260 := by omega
      obtain rfl := HA.out (by omega)
      have hS0 := (HC.out k (by omega)).next (W' := wr) (⟨hbr.os, hbr.tape, hbr.output, hbr.size, hbr.block⟩)
      have hok := HF.out k (by omega)
      generalize f k = x at hS0 hok
      obtain ⟨x0, x1, x2, x3⟩ := x
      have PA := fun W => refput_all x0 x1 x2 x3 W hok.1 hok.2.1 hok.2.2.1 hok.2.2.2
      obtain ⟨T, hT⟩ : ∃ T, relB x0.toNat (x1 % 18446744073709551616).toNat (x2 % 18446744073709551616).toNat x3.toNat = T := ⟨_, rfl⟩
      have hTz : T.size = 24 := by rw [← hT]; exact relB_size _ _ _ _
      rw [hT] at PA
      have hsum : (9223372036854775807 < S.size + 24) = False := by simp; omega
      obtain ⟨d0, d1, d2, d3⟩ := hS0
      dsimp only at d0 d1 d2 d3
      clear hok hT
      go_wp2_with (first
        | (go_at_call 8; with_reducible refine (PA _).mono ?_; rintro e w2 ⟨rfl, hb2⟩))
      refine ⟨⟨k + 1, S ++ T, by omega, by go_num, rfl, by simp; omega, bt hbr hb2⟩, by simp [intOf]; omega⟩
    · obtain rfl : k = K := by omega
      have hks : (S.size : Int) = 24 * (k : Int) := by omega
      obtain ⟨B, hB, hBz⟩ : ∃ B : ByteArray, (B = if more.size ≤ 100 then S ++ more else S ++ more.extract 0 100) ∧ B.size ≤ 6340 := by
        refine ⟨_, rfl, ?_⟩
        split
        · simp; omega
        · simp; omega
      have hBI : (B.size : Int) ≤ 6340 := by omega
      rcases (by omega : more.size ≤ 100 ∨ ¬ more.size ≤ 100) with hq | hq
      all_goals
        first | rw [if_pos hq] at hB | rw [if_neg hq] at hB
        have hqi : ((more.size : Int) ≤ 100) = (more.size ≤ 100) := by simp; omega
        rcases read_both B sy (by omega) n0 n1 with ⟨c, a, hc, D, R⟩ | ⟨n, hn, hn256, hall, D, R⟩
        · by_cases hkl : k < len
          all_goals
            go_wp2_with (first
              | (go_at_call 9; rw [← hB]; with_reducible refine (D _).mono ?_; rintro e w2 ⟨rfl, hb2⟩)
              | (go_at_call 10; rw [← hB]; with_reducible refine (R _).mono ?_; rintro e w3 ⟨rfl, hb3⟩; obtain ⟨t0, t1⟩ := loc1 hb3))
            have HB3 : Hid (Below w.heap.size w w3) := bt ((bt hbr hb2).alloc (bt hbr hb2).size _) hb3
            go_loopw [14] (fun i wq => i = .int .i64 0 ∧ Below w3.heap.size w3 wq) (fun _ _ => 0)
            case atStart => exact ⟨rfl, Below.refl _ _⟩
            case round =>
              obtain ⟨rfl, hbq⟩ := hrel
              go_wp2
              go_ret
              exact ⟨rfl, bt HB3.out hbq⟩
        · by_cases hkl : k < len
          all_goals
            go_wp2_with (first
              | (go_at_call 9; rw [← hB]; with_reducible refine (D _).mono ?_; rintro e w2 ⟨v1, rfl, hr1, hb2⟩; obtain ⟨a1, cp1, gg1, rfl, ha1, hl1, hl1', hP⟩ := row_rl hr1)
              | (go_at_call 10; rw [← hB]; with_reducible refine (R _).mono ?_; rintro e w3 ⟨v3, rfl, hr3, hb3⟩; obtain ⟨a3, cp3, gg3, rfl, ha3, hl3, hl3', hQ⟩ := row_rl hr3; obtain ⟨t0, t1⟩ := loc1 hb3))
            have HB3 : Hid (Below w.heap.size w w3) := bt ((bt hbr hb2).alloc (bt hbr hb2).size _) hb3
            have b23 : Below w2.heap.size w2 w3 := bt ((Below.refl _ w2).alloc (Nat.le_refl _) _) hb3
            have HP : Hid (∀ j, j < n → RlO w3 gg1 (j * 4) (relF (B.extract (j * 24) ((j + 1) * 24)) sy).1) := fun j hj => (hP j hj).next b23
            have HQ : Hid (∀ j, j < n → RlO w3 gg3 (j * 4) (relF (B.extract (j * 24) ((j + 1) * 24)) sy).1) := hQ
            have HL : Hid (∀ j, j < n → (relF (B.extract (j * 24) ((j + 1) * 24)) sy).2 = 0) := fun j hj => hall (j, B.extract (j * 24) ((j + 1) * 24)) (List.mem_map.2 ⟨j, List.mem_range.2 hj, rfl⟩)
            have HA1 : Hid (0 < n → a1 = some ⟨gg1, 0, none⟩) := ha1
            have HA3 : Hid (0 < n → a3 = some ⟨gg3, 0, none⟩) := ha3
            try rw [← hB]
            clear hP hQ hall ha1 ha3 b23 hb3 hb2 t0 t1 D R hr1 hr3 hB hbr
            go_loopw [14] (fun i wq => ∃ j : Nat, j ≤ n ∧ i = .int .i64 j ∧ Below w3.heap.size w3 wq) (fun i _ => n - (intOf i).toNat)
            case atStart => exact ⟨0, Nat.zero_le _, rfl, Below.refl _ _⟩
            case round =>
              obtain ⟨j, hj, rfl, hbq⟩ := hrel
              by_cases hlt2 : j < n
              · have hji : (j : Int) < (n : Int) := by omega
                obtain rfl := HA1.out (by omega)
                obtain rfl := HA3.out (by omega)
                have h1 := (HP.out j hlt2).next hbq
                have h3 := (HQ.out j hlt2).next hbq
                obtain ⟨o, ho⟩ : ∃ o, j * 24 = o := ⟨_, rfl⟩
                obtain ⟨o2, ho2⟩ : ∃ o2, o + 24 = o2 := ⟨_, rfl⟩
                have he : B.extract (j * 24) ((j + 1) * 24) = B.extract o o2 := by rw [ho, show (j + 1) * 24 = o2 by omega]
                have hoB : o2 ≤ B.size := by omega
                have ez : (B.extract o o2).size = 24 := by simp; omega
                have hl := HL.out j hlt2
                rw [he] at h1 h3 hl
                have PA := fun W => put_again (B.extract o o2) sy W ez hl
                have tq := teq (B.extract o o2)
                have hwo : IntKind.i64.wrap (24 * (j : Int)) = (o : Int) := by rw [IntKind.wrap_i64]; omega
                have hw1 : IntKind.i64.wrap ((o : Int) + 24) = (o2 : Int) := by rw [IntKind.wrap_i64]; omega
                have g0 : (0 : Int) ≤ (o : Int) := by omega
                have g00 : (0 : Int) ≤ (o2 : Int) := by omega
                have g1 : (o : Int) ≤ (o2 : Int) := by omega
                have g2 : (o2 : Int) ≤ (B.size : Int) := by omega
                generalize (relF (B.extract o o2) sy).1 = x at h1 h3 PA
                obtain ⟨x0, x1, x2, x3⟩ := x
                obtain ⟨p0, p1, p2, p3⟩ := h1
                obtain ⟨q0, q1, q2, q3⟩ := h3
                dsimp only at p0 p1 p2 p3 q0 q1 q2 q3
                clear he hl ez ho ho2 hn
                have hS : Held8 w3 gg1 gg3 (j * 4) x0 x1 x2 x3 wr.drew := ⟨p0, p1, p2, p3, q0, q1, q2, q3, hbq.drew⟩
                clear p0 p1 p2 p3 q0 q1 q2 q3 hbq
                unfold Held8 at hS
                go_wp2
                go_region_held3 (fun W => W.cell? ⟨gg1, j * 4, none⟩ = some (.int .u64 x0) ∧ W.cell? ⟨gg1, j * 4 + 1, none⟩ = some (.int .i64 x1) ∧ W.cell? ⟨gg1, j * 4 + 2, none⟩ = some (.int .i64 x2) ∧ W.cell? ⟨gg1, j * 4 + 3, none⟩ = some (.int .u64 x3) ∧ W.cell? ⟨gg3, j * 4, none⟩ = some (.int .u64 x0) ∧ W.cell? ⟨gg3, j * 4 + 1, none⟩ = some (.int .i64 x1) ∧ W.cell? ⟨gg3, j * 4 + 2, none⟩ = some (.int .i64 x2) ∧ W.cell? ⟨gg3, j * 4 + 3, none⟩ = some (.int .u64 x3) ∧ Below w3.heap.size w3 W)
                  (first | assumption | (apply rl8_next; assumption; assumption))
                  (first | (go_at_call 11; with_reducible refine (PA _).mono ?_; rintro e w4 ⟨rfl, hb4⟩))
                all_goals
                  rename_i hH
                  go_wp2
                  refine ⟨⟨j + 1, by omega, by go_num, hH.2.2.2.2.2.2.2.2⟩, by simp [intOf]; omega⟩
              · obtain rfl : j = n := by omega
                go_wp2
                go_ret
                exact ⟨rfl, bt HB3.out hbq⟩
end Go.Proofs.Ytghbkjdjginfjaa
