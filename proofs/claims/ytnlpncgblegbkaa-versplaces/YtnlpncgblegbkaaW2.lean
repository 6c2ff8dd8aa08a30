/-
  Layer 12: the document's PackDefs of any rows.
-/
import Derived.Test.YtnlpncgblegbkaaW1
import Derived.Test.YtnlpncgblegbkaaH2
namespace Go.Proofs.Ytnlpncgblegbkaa
open Go.RowKit
set_option linter.unusedVariables false

theorem pk_next3 {w W W' : World} {b off g o2 : Nat} {v1 v2 : Value} (hb : Below W.heap.size W W') (hS : W.cell? ⟨b, off, none⟩ = some v1 ∧ W.cell? ⟨g, o2, none⟩ = some v2 ∧ Below w.heap.size w W) :
    W'.cell? ⟨b, off, none⟩ = some v1 ∧ W'.cell? ⟨g, o2, none⟩ = some v2 ∧ Below w.heap.size w W' := by
  obtain ⟨h1, h2, h⟩ := hS
  exact ⟨(hb.cell (World.block_lt_of_cell? W _ h1)).trans h1, (hb.cell (World.block_lt_of_cell? W _ h2)).trans h2, h.trans (hb.mono h.size)⟩

set_option maxRecDepth 100000 in
set_option maxHeartbeats 8000000 in
theorem packs_some (zi : Nat → Int) (P : Nat → Nat) (b off cap g cap2 K : Nat) (w : World) (hK : K ≤ 100) (hK0 : 0 < K)
    (c1 : ∀ j, j < K → w.cell? ⟨b, off + j, none⟩ = some (.int .i64 (zi j))) (c2 : ∀ j, j < K → w.cell? ⟨g, j, none⟩ = some (.int .u32 ((P j : Nat) : Int))) (hP : ∀ j, P j < 4294967296) :
    Calls Try.prog 18 #[.slice (some ⟨b, off, none⟩) K cap, .slice (some ⟨g, 0, none⟩) K cap2] w fun r w' => r = .returned (.string (PB (fun j => (zi j % 18446744073709551616).toNat) P K)) ∧ Below w.heap.size w w' := by
  have HC : Hid ((∀ j, j < K → w.cell? ⟨b, off + j, none⟩ = some (.int .i64 (zi j))) ∧ (∀ j, j < K → w.cell? ⟨g, j, none⟩ = some (.int .u32 ((P j : Nat) : Int))) ∧ ∀ j, P j < 4294967296) := ⟨c1, c2, hP⟩
  clear c1 c2 hP
  obtain ⟨F, hF⟩ : ∃ F : Nat → ByteArray, F = fun k => PB (fun j => (zi j % 18446744073709551616).toNat) P k := ⟨_, rfl⟩
  have HF : Hid (F = fun k => PB (fun j => (zi j % 18446744073709551616).toNat) P k) := hF
  have e0 : PB (fun j => (zi j % 18446744073709551616).toNat) P K = F K := by rw [hF]
  rw [e0]
  clear hF e0
  go_enter Try.func18, Try.ntmps18
  go_wp2
  go_loopw [5, 6] (fun s i wr => ∃ k : Nat, ∃ S : ByteArray, k ≤ K ∧ i = .int .i64 k ∧ s = .string S ∧ Hid (S = F k) ∧ Below w.heap.size w wr) (fun _ i _ => K - (intOf i).toNat)
  case atStart => exact ⟨0, _, Nat.zero_le _, rfl, rfl, by show _ = _; rw [HF.out]; rfl, Below.refl _ _⟩
  case round =>
    obtain ⟨k, S, hk, rfl, rfl, HS, hbr⟩ := hrel
    by_cases hlt : k < K
    · have hki : (k : Int) < (K : Int) := by omega
      have d1 := (hbr.cell (p := ⟨b, off + k, none⟩) (World.block_lt_of_cell? _ _ (HC.out.1 k hlt))).trans (HC.out.1 k hlt)
      have d2 := (hbr.cell (p := ⟨g, k, none⟩) (World.block_lt_of_cell? _ _ (HC.out.2.1 k hlt))).trans (HC.out.2.1 k hlt)
      have hp := HC.out.2.2 k
      have hSz : S.size = 28 * k := by rw [HS.out, HF.out]; exact PB_size _ _ _
      have HN : Hid (F (k + 1) = S ++ entB (zi k % 18446744073709551616).toNat (P k)) := by show _ = _; rw [HS.out, HF.out]; rfl
      have hS28 : (9223372036854775807 < S.size + 28) = False := by simp; omega
      clear hSz
      generalize zi k = x at d1 HN
      generalize P k = y at d2 HN hp
      have wy : IntKind.u64.wrap (y : Int) = (y : Int) := by rw [IntKind.wrap_u64]; omega
      have wx : IntKind.u64.wrap x = ((x % 18446744073709551616).toNat : Int) := by rw [IntKind.wrap_u64]; omega
      obtain ⟨ca, hca, zca⟩ : ∃ c, A 1 2 = c ∧ c.size = 2 := ⟨_, rfl, A_size _ _⟩
      obtain ⟨cb, hcb, zcb⟩ : ∃ c, A 0 2 = c ∧ c.size = 2 := ⟨_, rfl, A_size _ _⟩
      obtain ⟨cc, hcc, zcc⟩ : ∃ c, A (x % 18446744073709551616).toNat 2 = c ∧ c.size = 2 := ⟨_, rfl, A_size _ _⟩
      obtain ⟨cd, hcd, zcd⟩ : ∃ c, A 0 4 = c ∧ c.size = 4 := ⟨_, rfl, A_size _ _⟩
      obtain ⟨ce, hce, zce⟩ : ∃ c, A 20 4 = c ∧ c.size = 4 := ⟨_, rfl, A_size _ _⟩
      obtain ⟨cf, hcf, zcf⟩ : ∃ c, A 28 4 = c ∧ c.size = 4 := ⟨_, rfl, A_size _ _⟩
      obtain ⟨cg, hcg, zcg⟩ : ∃ c, A y 4 = c ∧ c.size = 4 := ⟨_, rfl, A_size _ _⟩
      have R12 : ∀ W, Calls Try.prog 35 #[.int .u64 1, .int .i64 2] W fun r w' => r = .returned (.string ca) ∧ Below W.heap.size W w' := fun W => rp 1 2 W (by omega) (by omega) (by omega) ca hca
      have R02 : ∀ W, Calls Try.prog 35 #[.int .u64 0, .int .i64 2] W fun r w' => r = .returned (.string cb) ∧ Below W.heap.size W w' := fun W => rp 0 2 W (by omega) (by omega) (by omega) cb hcb
      have RX2 : ∀ W, Calls Try.prog 35 #[.int .u64 (((x % 18446744073709551616).toNat : Nat) : Int), .int .i64 2] W fun r w' => r = .returned (.string cc) ∧ Below W.heap.size W w' := fun W => rp (x % 18446744073709551616).toNat 2 W (by omega) (by omega) (by omega) cc hcc
      have R04 : ∀ W, Calls Try.prog 35 #[.int .u64 0, .int .i64 4] W fun r w' => r = .returned (.string cd) ∧ Below W.heap.size W w' := fun W => rp 0 4 W (by omega) (by omega) (by omega) cd hcd
      have R20 : ∀ W, Calls Try.prog 35 #[.int .u64 20, .int .i64 4] W fun r w' => r = .returned (.string ce) ∧ Below W.heap.size W w' := fun W => rp 20 4 W (by omega) (by omega) (by omega) ce hce
      have R28 : ∀ W, Calls Try.prog 35 #[.int .u64 28, .int .i64 4] W fun r w' => r = .returned (.string cf) ∧ Below W.heap.size W w' := fun W => rp 28 4 W (by omega) (by omega) (by omega) cf hcf
      have RY4 : ∀ W, Calls Try.prog 35 #[.int .u64 ((y : Nat) : Int), .int .i64 4] W fun r w' => r = .returned (.string cg) ∧ Below W.heap.size W w' := fun W => rp y 4 W (by omega) (by omega) (by omega) cg hcg
      rw [← wx] at RX2
      rw [← wy] at RY4
      have HN2 : Hid (F (k + 1) = S ++ ((((((((ca ++ cb) ++ cc) ++ ca) ++ cd) ++ ce) ++ cf) ++ cg) ++ cd)) := by
        show _ = _
        rw [HN.out, ← hca, ← hcb, ← hcc, ← hcd, ← hce, ← hcf, ← hcg]
        rfl
      clear hca hcb hcc hcd hce hcf hcg HN wx wy hp
      have hS : wr.drew.cell? ⟨b, off + k, none⟩ = some (.int .i64 x) ∧ wr.drew.cell? ⟨g, k, none⟩ = some (.int .u32 (y : Int)) ∧ Below wr.heap.size wr wr.drew := ⟨d1, d2, (Below.refl _ wr).drew⟩
      clear d1 d2
      have HBR : Hid (Below w.heap.size w wr) := hbr
      clear hbr
      go_wp2
      go_region_held3 (fun W => W.cell? ⟨b, off + k, none⟩ = some (.int .i64 x) ∧ W.cell? ⟨g, k, none⟩ = some (.int .u32 (y : Int)) ∧ Below wr.heap.size wr W)
        (first | assumption | (apply pk_next3; assumption; assumption))
        (first
          | (go_at_call 35; with_reducible refine (R12 _).mono ?_; rintro r w2 ⟨rfl, hb2⟩)
          | (go_at_call 35; with_reducible refine (R02 _).mono ?_; rintro r w2 ⟨rfl, hb2⟩)
          | (go_at_call 35; with_reducible refine (RX2 _).mono ?_; rintro r w2 ⟨rfl, hb2⟩)
          | (go_at_call 35; with_reducible refine (R04 _).mono ?_; rintro r w2 ⟨rfl, hb2⟩)
          | (go_at_call 35; with_reducible refine (R20 _).mono ?_; rintro r w2 ⟨rfl, hb2⟩)
          | (go_at_call 35; with_reducible refine (R28 _).mono ?_; rintro r w2 ⟨rfl, hb2⟩)
          | (go_at_call 35; with_reducible refine (RY4 _).mono ?_; rintro r w2 ⟨rfl, hb2⟩))
      all_goals
        go_wp2
        go_roundw
        case rel =>
          rename_i hH
          exact ⟨k + 1, _, by omega, by go_num, rfl, HN2.out.symm, HBR.out.trans (hH.2.2.mono HBR.out.size)⟩
        case measure => simp [intOf]; omega
    · have hki : ¬ (k : Int) < (K : Int) := by omega
      go_wp2
      go_ret
      exact ⟨by rw [HS.out, show k = K by omega]; rfl, hbr⟩

theorem packs_none (ao : Option Addr) (cap : Nat) (w : World) :
    Calls Try.prog 18 #[.slice ao 0 cap, .slice none 0 0] w fun r w' => r = .returned (.string ⟨#[]⟩) ∧ w' = w := by
  go_enter Try.func18, Try.ntmps18
  go_wp2
  go_loop [5, 6] (fun s i => i = .int .i64 0 ∧ s = .string ⟨#[]⟩) (fun _ i => 0)
  case atStart => exact ⟨rfl, rfl⟩
  case round =>
    obtain ⟨rfl, rfl⟩ := hrel
    go_wp2
    go_ret
    exact ⟨rfl, rfl⟩
end Go.Proofs.Ytnlpncgblegbkaa
