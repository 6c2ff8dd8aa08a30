/-
  Layer 11: what each statement asks first.
-/
import Derived.Test.YtackjpmpkklgiaaS5
namespace Go.Proofs.Ytackjpmpkklgiaa
open Go.RowKit
set_option linter.unusedVariables false

/-- Two calls, one behind the other, of which neither turns what was there. -/
theorem bt {w a b : World} (h1 : Below w.heap.size w a) (h2 : Below a.heap.size a b) : Below w.heap.size w b := h1.trans (h2.mono h1.size)

def zz : ByteArray := ⟨#[0, 0, 0, 0, 0, 0, 0, 0, 0, 0, 0, 0, 0, 0, 0, 0, 0, 0, 0, 0, 0, 0, 0, 0]⟩
theorem zz_sym : symF (zz.extract 0 24) ⟨#[0]⟩ = (Sy.zero, 0) := by kernel_rfl
theorem zz_each : eachL zz 24 1 = [(0, zz.extract 0 24)] := rfl

theorem readZ (w : World) : Calls Try.prog 10 #[.string zz, .string ⟨#[0]⟩] w fun e w' => ∃ g cap, e = .returned (.tuple #[.slice (some ⟨g, 0, none⟩) 1 cap, flt 0 0]) ∧ g < w'.heap.size ∧ (w'.cell? ⟨g, 0, none⟩ = some (.string ⟨#[]⟩) ∧ w'.cell? ⟨g, 1, none⟩ = some (.int .i64 0) ∧ w'.cell? ⟨g, 2, none⟩ = some (.int .i64 0) ∧ w'.cell? ⟨g, 3, none⟩ = some (.int .i64 0) ∧ w'.cell? ⟨g, 4, none⟩ = some (.bool false) ∧ w'.cell? ⟨g, 5, none⟩ = some (.int .u64 0) ∧ w'.cell? ⟨g, 6, none⟩ = some (.int .u64 0)) ∧ Below w.heap.size w w' := by
  refine (read_ok zz ⟨#[0]⟩ 1 w (by decide) rfl (by omega) ?_).mono ?_
  · intro x hx
    rw [zz_each] at hx
    obtain rfl : x = (0, zz.extract 0 24) := by simpa using hx
    exact congrArg Prod.snd zz_sym
  · rintro e w' ⟨v, rfl, hr, hB⟩
    have hc : cellsL ⟨#[0]⟩ (eachL zz 24 1) = Sy.zero.cells := by
      rw [zz_each]
      show (symF (zz.extract 0 24) ⟨#[0]⟩).1.cells ++ [] = _
      rw [zz_sym]
      rfl
    rw [hc] at hr
    obtain ⟨g, cap, rfl, hb, hg, hcap, hcell⟩ := row_cells hr
    exact ⟨g, cap, rfl, hg, ⟨hcell 0 (by decide), hcell 1 (by decide), hcell 2 (by decide), hcell 3 (by decide), hcell 4 (by decide), hcell 5 (by decide), hcell 6 (by decide)⟩, hB⟩

theorem putW (w : World) : Calls Try.prog 15 #[(⟨⟨#[]⟩, 2, 0, 0, false, 0, 0⟩ : Sy).val, .int .u32 5] w fun e w' => e = .returned (.string (symB 2 0 0 false 0 0 5)) ∧ Below w.heap.size w w' :=
  put_any ⟨#[]⟩ 2 0 0 0 0 5 false w (by omega) (by omega) (by omega) (by omega) (by omega) (by omega)

set_option maxRecDepth 100000 in
set_option maxHeartbeats 4000000 in
theorem speaks_any (w : World) : Calls Try.prog 9 #[] w fun e w' => e = .returned (.bool true) ∧ Below w.heap.size w w' := by
  obtain ⟨i0, hi, hz0, hz1, hz2⟩ := info_parts Try.info5
  obtain ⟨ps, hps⟩ : ∃ ps, symB 2 0 0 false 0 0 5 = ps := ⟨_, rfl⟩
  have PW := putW
  rw [hps] at PW
  have hpz : ps.size = 24 := by rw [← hps]; exact symB_size _ _ _ _ _ _ _
  clear hps
  have RZ := readZ
  obtain ⟨z, hz⟩ : ∃ z, zz = z := ⟨_, rfl⟩
  have HZ : Hid (zz = z) := hz
  rw [hz] at RZ
  clear hz
  have EZ : ∀ W, Calls Try.prog 13 #[Sy.zero.val] W fun e w' => e = .returned (.bool false) ∧ w' = W.alloc Sy.zero.box := fun W => exported_any Sy.zero W
  go_enter Try.func9, Try.ntmps9
  go_wp2_with (first
    | (at_make; refine wpList_make_full _ rfl _ _ 58 rfl _ 5 i0 (.int .u8 0) 1 Try.underlying58 hi hz0 hz1 .i64 .i64 _ _ 24 rfl rfl rfl rfl ?_ ?_ (Nat.le_refl _) ?_))
  · rw [hz2]; omega
  · unfold maxLen; omega
  · intro w1 hown hgrow
    have hconv : ∀ w2, w2 = w1 → (convert 58 9 (Value.slice (some ⟨w.heap.size, 0, none⟩) 24 24)).run Try.prog w2 = .ok (.string z) w2 := by
      rintro w2 rfl
      have := run_convert_bytes_back (P := Try.prog) w2 58 9 5 ⟨w.heap.size, 0, none⟩ 24 (List.replicate 24 0) Try.underlying58 Try.underlying5 Try.underlying9 (fun j hj => by
        rw [List.length_replicate] at hj
        have h := hown.cellAt j (by omega)
        have e : (⟨w.heap.size, 0, none⟩ : Addr).add j = ⟨w.heap.size, j, none⟩ := by simp [Addr.add]; omega
        rw [e, h, toList_madeCells_one]
        match j, hj with
        | 0, _ | 1, _ | 2, _ | 3, _ | 4, _ | 5, _ | 6, _ | 7, _ | 8, _ | 9, _ | 10, _ | 11, _ | 12, _ | 13, _ | 14, _ | 15, _ | 16, _ | 17, _ | 18, _ | 19, _ | 20, _ | 21, _ | 22, _ | 23, _ => rfl
        | j + 24, h => omega)
      rw [← HZ.out]
      exact this
    have hb0 : Below w.heap.size w w1 := (Below.refl _ _).grown hgrow (Nat.le_refl _) (by simp)
    have HB0 : Hid (Below w.heap.size w w1) := hb0
    clear hown hgrow hb0
    go_wp2_with (first
      | (go_at_call 10; refine (RZ _).mono ?_; rintro e w2 ⟨g, cap, rfl, hg, ⟨c0, c1, c2, c3, c4, c5, c6⟩, hb2⟩)
      | (go_at_call 17; refine (fok_any _ _ _).mono ?_; rintro e w3 ⟨rfl, rfl⟩)
      | (go_at_call 13; refine (EZ _).mono ?_; rintro e w3 ⟨rfl, rfl⟩)
      | (go_at_call 15; refine (PW _).mono ?_; rintro e w4 ⟨rfl, hb4⟩))
    go_ret
    refine ⟨rfl, bt (bt HB0.out hb2) (bt ?_ hb4)⟩
    exact (((Below.refl _ w2).alloc (Nat.le_refl _) _).alloc (by simp) _).alloc (by simp; omega) _
end Go.Proofs.Ytackjpmpkklgiaa
