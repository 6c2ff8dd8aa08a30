/-
  Layer 15: Read as the statements use it; what each statement asks first.
-/
import Derived.Test.YtghbkjdjginfjaaR1
import Derived.Test.YtghbkjdjginfjaaP1
namespace Go.Proofs.Ytghbkjdjginfjaa
open Go.RowKit
set_option linter.unusedVariables false

/-- Bytes of which each part is a relocation. -/
theorem read_ok (b : ByteArray) (sy : Int) (n : Nat) (w : World) (n0 : -9223372036854775808 ≤ sy) (n1 : sy ≤ 9223372036854775807) (hb : b.size = 24 * n) (hn : n ≤ 256) (hs : ∀ x ∈ eachL b 24 n, (relF x.2 sy).2 = 0) :
    Calls Try.prog 9 #[.string b, .int .i64 sy] w fun e w' => ∃ v, e = .returned (.tuple #[v, flt 0 0]) ∧ w'.ownsRow w.heap.size 38 4 v n (cellsL sy (eachL b 24 n)) ∧ Below w.heap.size w w' := by
  refine (read_any b sy w (by omega) n0 n1).mono ?_
  rintro e w' ⟨h, hB⟩
  have e0 : b.size / 24 = n := by omega
  rcases h with ⟨h, _⟩ | ⟨_, h, _⟩ | ⟨_, _, h⟩
  · omega
  · omega
  · rw [e0] at h
    rcases h with ⟨v, rfl, h1, _⟩ | ⟨q, x, h1, _, h3, _⟩
    · exact ⟨v, rfl, h1, hB⟩
    · exact absurd (hs x (h1.subset (by simp))) h3
/-- The cells of a slice of relocations. -/
theorem row_cells {W : World} {base n : Nat} {v : Value} {xs : List Value} (h : W.ownsRow base 38 4 v (n + 1) xs) : ∃ g cap, v = .slice (some ⟨g, 0, none⟩) (n + 1) cap ∧ base ≤ g ∧ g < W.heap.size ∧ n + 1 ≤ cap ∧ ∀ j, j < xs.length → W.cell? ⟨g, j, none⟩ = xs[j]? := by
  rcases h.2 with ⟨rfl, h0⟩ | ⟨g, cap, cur, rfl, hb, hg, h2⟩
  · omega
  · refine ⟨g, cap, rfl, hb, (Array.getElem?_eq_some_iff.1 hg).1, ?_, fun j hj => ?_⟩
    · exact h2.1
    · exact h.cellAt j (by rw [← h.1]; exact hj)

def zz : ByteArray := relB 16 3 0 8
theorem zz_rel : relF (zz.extract 0 24) 1 = ((16, 3, 0, 8), 0) := by kernel_rfl
theorem zz_each : eachL zz 24 1 = [(0, zz.extract 0 24)] := rfl
theorem readZ (w : World) : Calls Try.prog 9 #[.string zz, .int .i64 1] w fun e w' => ∃ g cap, e = .returned (.tuple #[.slice (some ⟨g, 0, none⟩) 1 cap, flt 0 0]) ∧ g < w'.heap.size ∧ (w'.cell? ⟨g, 0, none⟩ = some (.int .u64 16) ∧ w'.cell? ⟨g, 1, none⟩ = some (.int .i64 3) ∧ w'.cell? ⟨g, 2, none⟩ = some (.int .i64 0) ∧ w'.cell? ⟨g, 3, none⟩ = some (.int .u64 8)) ∧ Below w.heap.size w w' := by
  refine (read_ok zz 1 1 w (by omega) (by omega) (relB_size _ _ _ _) (by omega) ?_).mono ?_
  · intro x hx
    rw [zz_each] at hx
    obtain rfl : x = (0, zz.extract 0 24) := by simpa using hx
    exact congrArg Prod.snd zz_rel
  · rintro e w' ⟨v, rfl, hr, hB⟩
    have hc : cellsL 1 (eachL zz 24 1) = rlc (16, 3, 0, 8) := by
      rw [zz_each]
      show rlc (relF (zz.extract 0 24) 1).1 ++ [] = _
      rw [zz_rel]
      rfl
    rw [hc] at hr
    obtain ⟨g, cap, rfl, hb, hg, hcap, hcell⟩ := row_cells hr
    exact ⟨g, cap, rfl, hg, ⟨hcell 0 (by decide), hcell 1 (by decide), hcell 2 (by decide), hcell 3 (by decide)⟩, hB⟩

set_option maxRecDepth 100000 in
set_option maxHeartbeats 4000000 in
theorem speaks_any (w : World) : Calls Try.prog 7 #[] w fun e w' => e = .returned (.bool true) ∧ Below w.heap.size w w' := by
  have PW : ∀ W, Calls Try.prog 11 #[rlv (16, 3, 0, 8)] W fun e w' => e = .returned (.string zz) ∧ Below W.heap.size W w' := fun W => put_any 16 3 0 8 W (by omega) (by omega) (by omega) (by omega)
  have RZ := readZ
  have VZ : ∀ W, Calls Try.prog 12 #[rlv (16, 3, 0, 8), .int .u64 65536, .int .u64 7] W fun e w' => e = .returned (.int .u64 65544) ∧ Below W.heap.size W w' := fun W => value_any 16 3 0 8 65536 7 W
  obtain ⟨z, hz⟩ : ∃ z, zz = z := ⟨_, rfl⟩
  rw [hz] at RZ PW
  clear hz
  go_enter Try.func7, Try.ntmps7
  go_wp2_with (first
    | (go_at_call 11; refine (PW _).mono ?_; rintro e w1 ⟨rfl, hb1⟩)
    | (go_at_call 9; refine (RZ _).mono ?_; rintro e w2 ⟨g, cap, rfl, hg, ⟨c0, c1, c2, c3⟩, hb2⟩)
    | (go_at_call 13; refine (fok_any _ _ _).mono ?_; rintro e w3 ⟨rfl, rfl⟩)
    | (go_at_call 12; refine (VZ _).mono ?_; rintro e w4 ⟨rfl, hb4⟩))
  go_ret
  exact ⟨rfl, bt (bt hb1 hb2) (bt (((Below.refl _ w2).alloc (Nat.le_refl _) _).alloc (by simp) _) hb4)⟩
end Go.Proofs.Ytghbkjdjginfjaa
