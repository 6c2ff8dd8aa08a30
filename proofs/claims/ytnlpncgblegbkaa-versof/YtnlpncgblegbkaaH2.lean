/-
  Layer 12: what each statement asks first.
-/
import Derived.Test.YtnlpncgblegbkaaD2
import Derived.Test.YtnlpncgblegbkaaH1
namespace Go.Proofs.Ytnlpncgblegbkaa
open Go.RowKit
set_option linter.unusedVariables false

/-- The bytes of one definition. -/
def pk : ByteArray := ⟨#[1, 0, 0, 0, 2, 0, 1, 0, 0, 0, 0, 0, 20, 0, 0, 0, 28, 0, 0, 0, 1, 0, 0, 0, 0, 0, 0, 0]⟩

theorem pk_next {w W W' : World} {B1 B2 : Nat} {v1 v2 : Value} (hb : Below W.heap.size W W') (hS : W.cell? ⟨B1, 0, none⟩ = some v1 ∧ W.cell? ⟨B2, 0, none⟩ = some v2 ∧ Below w.heap.size w W) :
    W'.cell? ⟨B1, 0, none⟩ = some v1 ∧ W'.cell? ⟨B2, 0, none⟩ = some v2 ∧ Below w.heap.size w W' := by
  obtain ⟨h1, h2, h⟩ := hS
  exact ⟨(hb.cell (World.block_lt_of_cell? W _ h1)).trans h1, (hb.cell (World.block_lt_of_cell? W _ h2)).trans h2, h.trans (hb.mono h.size)⟩

theorem rp (N n : Nat) (w : World) (h0 : 1 ≤ n) (h1 : n ≤ 8) (hN : N < 18446744073709551616) (r : ByteArray) (hr : (⟨(enc N n).toArray⟩ : ByteArray) = r) : Calls Try.prog 35 #[.int .u64 N, .int .i64 n] w fun e w' => e = .returned (.string r) ∧ Below w.heap.size w w' := by
  rw [← hr]
  exact refput_yes N n w h0 h1 hN

set_option maxRecDepth 100000 in
set_option maxHeartbeats 8000000 in
theorem pack_any (a b c d e f g : ByteArray) (B1 B2 : Nat) (w : World) (c1 : w.cell? ⟨B1, 0, none⟩ = some (.int .i64 2)) (c2 : w.cell? ⟨B2, 0, none⟩ = some (.int .u32 1))
    (R12 : ∀ W, Calls Try.prog 35 #[.int .u64 1, .int .i64 2] W fun r w' => r = .returned (.string a) ∧ Below W.heap.size W w')
    (R02 : ∀ W, Calls Try.prog 35 #[.int .u64 0, .int .i64 2] W fun r w' => r = .returned (.string b) ∧ Below W.heap.size W w')
    (R22 : ∀ W, Calls Try.prog 35 #[.int .u64 (IntKind.u64.wrap 2), .int .i64 2] W fun r w' => r = .returned (.string c) ∧ Below W.heap.size W w')
    (R04 : ∀ W, Calls Try.prog 35 #[.int .u64 0, .int .i64 4] W fun r w' => r = .returned (.string d) ∧ Below W.heap.size W w')
    (R20 : ∀ W, Calls Try.prog 35 #[.int .u64 20, .int .i64 4] W fun r w' => r = .returned (.string e) ∧ Below W.heap.size W w')
    (R28 : ∀ W, Calls Try.prog 35 #[.int .u64 28, .int .i64 4] W fun r w' => r = .returned (.string f) ∧ Below W.heap.size W w')
    (R14 : ∀ W, Calls Try.prog 35 #[.int .u64 (IntKind.u64.wrap 1), .int .i64 4] W fun r w' => r = .returned (.string g) ∧ Below W.heap.size W w')
    (za : a.size = 2) (zb : b.size = 2) (zc : c.size = 2) (zd : d.size = 4) (ze : e.size = 4) (zf : f.size = 4) (zg : g.size = 4) :
    Calls Try.prog 18 #[.slice (some ⟨B1, 0, none⟩) 1 1, .slice (some ⟨B2, 0, none⟩) 1 1] w fun r w' => r = .returned (.string (⟨#[]⟩ ++ ((((((((a ++ b) ++ c) ++ a) ++ d) ++ e) ++ f) ++ g) ++ d))) ∧ Below w.heap.size w w' := by
  have hS : w.drew.cell? ⟨B1, 0, none⟩ = some (.int .i64 2) ∧ w.drew.cell? ⟨B2, 0, none⟩ = some (.int .u32 1) ∧ Below w.heap.size w w.drew := ⟨c1, c2, (Below.refl _ w).drew⟩
  have HC : Hid (w.cell? ⟨B1, 0, none⟩ = some (.int .i64 2)) := c1
  clear c1 c2
  go_enter Try.func18, Try.ntmps18
  go_wp2
  go_loopw [5, 6] (fun s i wr => (i = .int .i64 0 ∧ s = .string ⟨#[]⟩ ∧ wr = w) ∨ (i = .int .i64 1 ∧ s = .string (⟨#[]⟩ ++ ((((((((a ++ b) ++ c) ++ a) ++ d) ++ e) ++ f) ++ g) ++ d)) ∧ Below w.heap.size w wr)) (fun _ i _ => 1 - (intOf i).toNat)
  case atStart => exact .inl ⟨rfl, rfl, rfl⟩
  case round =>
    rcases hrel with ⟨rfl, rfl, rfl⟩ | ⟨rfl, rfl, hb⟩
    · go_wp2
      go_region_held3 (fun W => W.cell? ⟨B1, 0, none⟩ = some (.int .i64 2) ∧ W.cell? ⟨B2, 0, none⟩ = some (.int .u32 1) ∧ Below wr.heap.size wr W)
        (first | assumption | (apply pk_next; assumption; assumption))
        (first
          | (go_at_call 35; with_reducible refine (R12 _).mono ?_; rintro r w2 ⟨rfl, hb2⟩)
          | (go_at_call 35; with_reducible refine (R02 _).mono ?_; rintro r w2 ⟨rfl, hb2⟩)
          | (go_at_call 35; with_reducible refine (R22 _).mono ?_; rintro r w2 ⟨rfl, hb2⟩)
          | (go_at_call 35; with_reducible refine (R04 _).mono ?_; rintro r w2 ⟨rfl, hb2⟩)
          | (go_at_call 35; with_reducible refine (R20 _).mono ?_; rintro r w2 ⟨rfl, hb2⟩)
          | (go_at_call 35; with_reducible refine (R28 _).mono ?_; rintro r w2 ⟨rfl, hb2⟩)
          | (go_at_call 35; with_reducible refine (R14 _).mono ?_; rintro r w2 ⟨rfl, hb2⟩))
      all_goals
        go_wp2
        go_roundw
        case rel =>
          rename_i hH
          exact .inr ⟨rfl, rfl, hH.2.2⟩
        case measure => simp [intOf]
    · go_wp2
      go_ret
      exact ⟨rfl, hb⟩

theorem pack_one (B1 B2 : Nat) (w : World) (c1 : w.cell? ⟨B1, 0, none⟩ = some (.int .i64 2)) (c2 : w.cell? ⟨B2, 0, none⟩ = some (.int .u32 1)) :
    Calls Try.prog 18 #[.slice (some ⟨B1, 0, none⟩) 1 1, .slice (some ⟨B2, 0, none⟩) 1 1] w fun r w' => r = .returned (.string pk) ∧ Below w.heap.size w w' := by
  have h := pack_any ⟨#[1, 0]⟩ ⟨#[0, 0]⟩ ⟨#[2, 0]⟩ ⟨#[0, 0, 0, 0]⟩ ⟨#[20, 0, 0, 0]⟩ ⟨#[28, 0, 0, 0]⟩ ⟨#[1, 0, 0, 0]⟩ B1 B2 w c1 c2 (fun W => rp 1 2 W (by omega) (by omega) (by omega) _ rfl) (fun W => rp 0 2 W (by omega) (by omega) (by omega) _ rfl) (fun W => rp 2 2 W (by omega) (by omega) (by omega) _ rfl) (fun W => rp 0 4 W (by omega) (by omega) (by omega) _ rfl) (fun W => rp 20 4 W (by omega) (by omega) (by omega) _ rfl) (fun W => rp 28 4 W (by omega) (by omega) (by omega) _ rfl) (fun W => rp 1 4 W (by omega) (by omega) (by omega) _ rfl) rfl rfl rfl rfl rfl rfl rfl
  exact h

theorem pk_ents : ents pk (by decide) 1 = [(0, pk.extract 0 20)] := by
  unfold ents
  rw [entL_yes _ _ _ _ _ _ _ (by decide)]
  rfl
theorem pk_def : defF pk ⟨#[0, 86, 49, 0]⟩ (pk.extract 0 20) 0 = ((2, ⟨#[86, 49]⟩), 0) := by kernel_rfl

theorem defsV (w : World) : Calls Try.prog 11 #[.string pk, .string ⟨#[0, 86, 49, 0]⟩, .int .i64 1] w fun e w' => ∃ g cap, e = .returned (.tuple #[.slice (some ⟨g, 0, none⟩) 1 cap, flt 0 0]) ∧ g < w'.heap.size ∧ (w'.cell? ⟨g, 0, none⟩ = some (.int .i64 2) ∧ w'.cell? ⟨g, 1, none⟩ = some (.string ⟨#[86, 49]⟩)) ∧ Below w.heap.size w w' := by
  refine (defs_any pk ⟨#[0, 86, 49, 0]⟩ 1 w (by decide) (by decide) (by omega)).mono ?_
  rintro e w' ⟨h, hB⟩
  rw [pk_ents] at h
  rcases h with ⟨v, rfl, hr, _⟩ | ⟨q, x, hp, _, hx, _⟩
  · have hc : cellsD pk ⟨#[0, 86, 49, 0]⟩ [(0, pk.extract 0 20)] = [.int .i64 2, .string ⟨#[86, 49]⟩] := by
      show defC pk ⟨#[0, 86, 49, 0]⟩ (0, pk.extract 0 20) ++ [] = _
      unfold defC
      rw [pk_def]
      rfl
    rw [hc] at hr
    obtain ⟨g, cap, rfl⟩ := ownsRow_succ hr
    have h0 := hr.cellAt 0 (by decide)
    have h1 := hr.cellAt 1 (by decide)
    exact ⟨g, cap, rfl, World.block_lt_of_cell? _ _ h0, ⟨h0, h1⟩, hB⟩
  · have hxx : x = (0, pk.extract 0 20) := by
      have := hp.subset (show x ∈ q ++ [x] by simp)
      simpa using this
    rw [hxx] at hx
    exact absurd (congrArg Prod.snd pk_def) hx

set_option maxRecDepth 100000 in
set_option maxHeartbeats 4000000 in
theorem speaks12_any (w : World) : Calls Try.prog 8 #[] w fun e w' => e = .returned (.bool true) ∧ Below w.heap.size w w' := by
  have PK := pack_one
  have DV := defsV
  obtain ⟨z, hz⟩ : ∃ z, pk = z := ⟨_, rfl⟩
  rw [hz] at PK DV
  clear hz
  have HH : ∀ W, Calls Try.prog 9 #[.string ⟨#[97, 98]⟩] W fun e w' => e = .returned (.int .u32 1650) ∧ w' = W := fun W => hash_any ⟨#[97, 98]⟩ W (by decide)
  obtain ⟨w0, hw0⟩ : ∃ w0, (w.alloc (.cells #[.int .i64 2] 3)).alloc (.cells #[.int .u32 1] 23) = w0 := ⟨_, rfl⟩
  have c1 : w0.cell? ⟨w.heap.size, 0, none⟩ = some (.int .i64 2) := by rw [← hw0]; simp [go_sem]
  have c2 : w0.cell? ⟨w.heap.size + 1, 0, none⟩ = some (.int .u32 1) := by rw [← hw0]; simp [go_sem]
  have HB0 : Hid (Below w.heap.size w w0) := by show Below _ _ _; rw [← hw0]; exact ((Below.refl _ w).alloc (Nat.le_refl _) _).alloc (by simp) _
  have P := PK _ _ _ c1 c2
  have H0 : Hid ((w.alloc (.cells #[.int .i64 2] 3)).alloc (.cells #[.int .u32 1] 23) = w0) := hw0
  clear hw0 PK c1 c2
  go_enter Try.func8, Try.ntmps8
  go_wp2_with (first
    | (go_at_call 18; rw [H0.out]; refine P.mono ?_; rintro e w1 ⟨rfl, hb1⟩)
    | (go_at_call 11; refine (DV _).mono ?_; rintro e w2 ⟨g, cap, rfl, hg, ⟨c0, c1⟩, hb2⟩)
    | (go_at_call 19; refine (fok_any _ _ _).mono ?_; rintro e w3 ⟨rfl, rfl⟩)
    | (go_at_call 9; refine (HH _).mono ?_; rintro e w4 ⟨rfl, rfl⟩))
  go_ret
  refine ⟨rfl, bt HB0.out (bt hb1 (bt hb2 ?_))⟩
  exact ((Below.refl _ w2).alloc (Nat.le_refl _) _).alloc (by simp) _
end Go.Proofs.Ytnlpncgblegbkaa
