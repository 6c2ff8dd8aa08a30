/-
  Layer 5: Named of any text, Name of any number. Conditions: the names' variable holds the names.
-/
import Derived.Test.YtmfmakkiefgogaaDoorA2
import Derived.Deep.MidRow
import Derived.ChangeKeysEq
namespace Go.Proofs.YtmfmakkiefgogaaDoor
open Go.RowKit
set_option linter.unusedVariables false

/-- What Named answers. -/
def NamedEnd (s : ByteArray) (e : Ending) : Prop :=
  (∃ k : Nat, k < 28 ∧ nameAt k = s ∧ (∀ j, j < k → nameAt j ≠ s) ∧ e = .returned (.tuple #[.int .i64 k, .bool true])) ∨
  ((∀ j, j < 28 → nameAt j ≠ s) ∧ e = .returned (.tuple #[.int .i64 0, .bool false]))

theorem toList_eq (n : ByteArray) : n.toList = n.data.toList := ByteArray.toList_eq n
theorem bytes_eq {a b : ByteArray} (h : a.data.toList = b.data.toList) : a = b := by
  apply ByteArray.ext; exact Array.toList_inj.1 h
theorem str_ne {a b : ByteArray} (h : a ≠ b) : (a.toList == b.toList) = false := by
  rw [beq_eq_false_iff_ne]
  intro e
  apply h
  rw [toList_eq, toList_eq] at e
  exact bytes_eq e

theorem run_index_arr {P : Program} {w : World} (t e n : Nat) (cs : Array Value) (v : Value) (k : Nat) (i0 : TypeInfo) (hu : P.underlying t = some (.array n e)) (he : P.plainKey e = true) (hi : P.info? e = some i0) (hc : P.cellsOf e = 1)
    (hk : k < n) (hv : cs[k]? = some v) : (Instr.index t (.agg cs) (.int .i64 k)).run P w = .ok v w := by
  have hn : (k : Int) < (n : Int) := by omega
  have hp := run_part_plain (P := P) (w := w) he (xs := cs) (off := k) hv
  have hs : (sizeOf e).run P w = .ok 1 w := by
    have h1 : i0.size = 1 := by unfold Program.cellsOf at hc; rw [hi] at hc; simpa using hc
    simp [sizeOf, typeInfo, hi, h1, go_sem]
  unfold Instr.index
  simp only [Sem.run_bind, asIntOf, Sem.run_pure, Result.andThen_ok, run_underlying hu]
  rw [if_pos (by omega)]
  simp only [Sem.run_bind, hs, Result.andThen_ok, Int.toNat_natCast, Nat.mul_one]
  exact hp

theorem info9 : ∃ i0, Tryd.prog.info? 9 = some i0 := by
  have h : (Tryd.prog.info? 9).isSome = true := by kernel_rfl
  exact Option.isSome_iff_exists.1 h
theorem range_names {w : World} (h : ∀ i, i < 28 → w.cell? ⟨0, i, none⟩ = some (.string (nameAt i))) : w.rangeAt 0 0 ((List.range 28).map fun i => .string (nameAt i)) := by
  intro j v hv
  rw [List.getElem?_map] at hv
  by_cases hj : j < 28
  · rw [List.getElem?_range hj] at hv
    obtain rfl := Option.some.inj hv
    rw [Nat.zero_add]; exact h j hj
  · rw [List.getElem?_eq_none (by simp; omega)] at hv; cases hv

set_option maxHeartbeats 400000 in
theorem named_any (s : ByteArray) (w : World) (h : ∀ i, i < 28 → w.cell? ⟨0, i, none⟩ = some (.string (nameAt i))) :
    Calls Tryd.prog 15 #[.string s] w fun e w' => NamedEnd s e ∧ w' = w := by
  have HR := range_names h
  obtain ⟨cs, hcs⟩ : ∃ cs, cs = (List.range 28).map fun i => Value.string (nameAt i) := ⟨_, rfl⟩
  rw [← hcs] at HR
  have hl : cs.length = 28 := by rw [hcs]; simp
  have hat : ∀ i, i < 28 → cs[i]? = some (.string (nameAt i)) := by intro i hi; rw [hcs]; simp [hi]
  clear hcs h
  have hinf : (Tryd.prog.info? 53).map (·.size) = some 28 := by kernel_rfl
  go_enter Tryd.func15, Tryd.ntmps15
  go_wp2_with (first | (refine wpList_load_mid rfl 53 (.global 0) rfl 0 0 rfl cs _ HR Tryd.underlying53 rfl (by rw [hl]; exact hinf) ?_))
  go_loop [7] (fun i => ∃ k : Nat, k ≤ 28 ∧ i = .int .i64 k ∧ Hid (∀ j, j < k → nameAt j ≠ s)) (fun i => 28 - (intOf i).toNat)
  case atStart => exact ⟨0, by omega, rfl, fun j hj => by omega⟩
  case round =>
    obtain ⟨k, hk, rfl, HN⟩ := hrel
    by_cases hlt : k < 28
    · have hc := hat k hlt
      obtain ⟨x, hx⟩ : ∃ x, x = nameAt k := ⟨_, rfl⟩
      rw [← hx] at hc
      obtain ⟨i0, hi0⟩ := info9
      have hrun : ∀ w, (Instr.index 53 (.agg cs.toArray) (.int .i64 k)).run Tryd.prog w = .ok (.string x) w := fun w => run_index_arr 53 9 28 cs.toArray _ k i0 Tryd.underlying53 (by kernel_rfl) hi0 (by kernel_rfl) hlt (by simpa using hc)
      clear hi0 hc
      have HX : Hid (x = nameAt k) := hx
      clear hx
      by_cases he : x = s
      · subst he
        go_wp2
        go_ret2
        exact ⟨.inl ⟨k, hlt, HX.out.symm, HN.out, rfl⟩, rfl⟩
      · have hne := str_ne he
        go_wp2
        go_round
        case rel => exact ⟨k + 1, by omega, by go_num, fun j hj => by
          by_cases h : j < k
          · exact HN.out j h
          · obtain rfl : j = k := by omega
            rw [← HX.out]; exact he⟩
        case measure => simp [intOf]; omega
    · go_wp2
      go_ret2
      exact ⟨.inr ⟨fun j hj => HN.out j (by omega), rfl⟩, rfl⟩

set_option maxHeartbeats 400000 in
theorem name_any (k : Nat) (w : World) (hk : k < 28) (h : ∀ i, i < 28 → w.cell? ⟨0, i, none⟩ = some (.string (nameAt i))) :
    Calls Tryd.prog 13 #[.int .i64 k] w fun e w' => e = .returned (.string (nameAt k)) ∧ w' = w := by
  have hc := h k hk
  clear h
  go_enter Tryd.func13, Tryd.ntmps13
  go_wp2
  go_ret
  exact ⟨rfl, rfl⟩

set_option maxHeartbeats 400000 in
theorem name_none (o : Int) (w : World) (ho : o < 0 ∨ 28 ≤ o) :
    Calls Tryd.prog 13 #[.int .i64 o] w fun e w' => e = .returned (.string ⟨#[]⟩) ∧ w' = w := by
  by_cases h0 : o < 0
  · go_enter Tryd.func13, Tryd.ntmps13
    go_wp2
    go_ret
    exact ⟨rfl, rfl⟩
  · have h1 : 28 ≤ o := by omega
    go_enter Tryd.func13, Tryd.ntmps13
    go_wp2
    go_ret
    exact ⟨rfl, rfl⟩
end Go.Proofs.YtmfmakkiefgogaaDoor
