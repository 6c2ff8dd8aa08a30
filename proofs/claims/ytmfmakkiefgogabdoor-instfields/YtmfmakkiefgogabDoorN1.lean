/-
  Layer 6: Named, Name and Form; what the list of InstNames' row gives. Conditions: the row's own list.
-/
import Derived.Test.YtmfmakkiefgogabDoorSpeaks
import Derived.Test.YtmfmakkiefgogabDoorK1
namespace Go.Proofs.YtmfmakkiefgogabDoor
open Go.ChangeShapes Go.WideShapes Go.ChangeAt Go.RowKit
set_option linter.unusedVariables false

/-- The row's list. -/
def laid6n : List (String × DataW Unit) := [("turnbuckle/inst.names", Rows.laid_turnbuckle_inst_names), ("turnbuckle/inst.forms", Rows.laid_turnbuckle_inst_forms), ("turnbuckle/inst.codes", Rows.laid_turnbuckle_inst_codes)]
theorem names_datum : (Rows.laid_turnbuckle_inst_names : DataW Unit) = .agg (namesL.map fun l => .lit (.string l)) := by rfl
theorem gNames : Tryd.prog.globalNamed "turnbuckle/inst.names" = some 2 := by kernel_rfl
theorem tNames : (Tryd.prog.globals[2]?).map (·.type) = some 57 := by kernel_rfl

def NamesIn (W : World) : Prop := ∀ i, i < 64 → W.cell? ⟨2, i, none⟩ = some (.string (nameAt i))
theorem NamesIn.next {W W' : World} (h : NamesIn W) (hb : Below W.heap.size W W') : NamesIn W' := fun i hi => (hb.cell (World.block_lt_of_cell? _ _ (h i hi))).trans (h i hi)

theorem of_laidn {W : World} (h : laidMetH Tryd.prog laid6n W) : Tabs W ∧ NamesIn W := by
  rw [MakeChecks.laidMetH_plain _ _ _ (by kernel_rfl)] at h
  obtain ⟨ps, ⟨g6, t6, cs6, f6, p6, q6, hg6, ht6, hv6, hd6, ⟨g0, t0, cs0, f0, p0, q0, hg0, ht0, hv0, hd0, ⟨g1, t1, cs1, f1, p1, q1, hg1, ht1, hv1, hd1, _, _⟩, _⟩, _⟩, _, _⟩ := h
  obtain rfl := Option.some.inj (gForms.symm.trans hg0)
  obtain rfl := Option.some.inj (tForms.symm.trans ht0)
  obtain rfl := Option.some.inj (gCodes.symm.trans hg1)
  obtain rfl := Option.some.inj (tCodes.symm.trans ht1)
  obtain rfl := Option.some.inj (gNames.symm.trans hg6)
  obtain rfl := Option.some.inj (tNames.symm.trans ht6)
  have hl0 : formsL.length = 64 := rfl
  have hl1 : codesL.length = 64 := rfl
  rw [forms_datum] at hd0
  rw [codes_datum] at hd1
  have hc0 := Lib.cells_of_tab Tryd.underlying50 Tryd.underlying5 (by kernel_rfl) (by kernel_rfl) hd0
  have hc1 := Lib.cells_of_tab Tryd.underlying51 Tryd.underlying28 (by kernel_rfl) (by kernel_rfl) hd1
  have h0 : ∀ i, i < 64 → W.cell? ⟨0, i, none⟩ = some (.int .u8 (formAt i)) := by
    intro i hi
    rw [World.var?_cell hg0 hv0 i, ← Array.getElem?_toList, hc0, List.getElem?_map, List.getElem?_eq_getElem (by omega)]
    unfold formAt
    rw [List.getD, List.getElem?_eq_getElem (by omega)]
    rfl
  have h1 : ∀ i, i < 64 → W.cell? ⟨1, i, none⟩ = some (.int .u32 (codeAt i)) := by
    intro i hi
    rw [World.var?_cell hg1 hv1 i, ← Array.getElem?_toList, hc1, List.getElem?_map, List.getElem?_eq_getElem (by omega)]
    unfold codeAt
    rw [List.getD, List.getElem?_eq_getElem (by omega)]
    rfl
  refine ⟨⟨h0, h1, World.block_lt_of_cell? W _ (h1 0 (by omega))⟩, ?_⟩
  intro i hi
  rw [names_datum] at hd6
  obtain ⟨xs, m, _, ex, _, hl, hel⟩ := DataW.trod_array Tryd.underlying57 hd6
  have c9 : Tryd.prog.cellsOf 9 = 1 := by kernel_rfl
  have hE := hel i hi
  rw [c9, Nat.mul_one, List.getElem?_eq_getElem (by omega)] at hE
  obtain ⟨z, e1, e2, _⟩ := DataW.trod_string Tryd.underlying9 hE
  have e3 : (xs.map (·.1)) = namesL.map fun l => .lit (.string l) := (DataW.agg.inj (Prod.mk.inj ex).1).symm
  have e4 : (xs.map (·.1))[i]? = (namesL.map fun l => (DataW.lit (.string l) : DataW Unit))[i]? := by rw [e3]
  have hlen : namesL.length = 64 := rfl
  rw [List.getElem?_map, List.getElem?_map, List.getElem?_eq_getElem (by omega : i < xs.length), List.getElem?_eq_getElem (by omega : i < namesL.length), e2] at e4
  have hz : z = nameAt i := by
    simp only [Option.map_some, Option.some.injEq, DataW.lit.injEq, Lit.string.injEq] at e4
    unfold nameAt
    rw [List.getD, List.getElem?_eq_getElem (by omega : i < namesL.length)]
    apply ByteArray.ext
    apply Array.toList_inj.1
    simpa using e4
  rw [World.var?_cell hg6 hv6 i, ← hz]
  have : cs6.toList[i]? = some (.string z) := by
    have h0 : ((cs6.toList.drop i).take 1)[0]? = some (.string z) := by rw [e1]; rfl
    simpa using h0
  simpa using this

theorem toList_eq (n : ByteArray) : n.toList = n.data.toList := ByteArray.toList_eq n
theorem bytes_eq {a b : ByteArray} (h : a.data.toList = b.data.toList) : a = b := by
  apply ByteArray.ext; exact Array.toList_inj.1 h
theorem str_ne {a b : ByteArray} (h : a ≠ b) : (a.toList == b.toList) = false := by
  rw [beq_eq_false_iff_ne]
  intro e
  apply h
  rw [toList_eq, toList_eq] at e
  exact bytes_eq e
theorem names_inj (i j : Nat) (hi : i < 64) (hj : j < 64) (h : nameAt i = nameAt j) : i = j := by
  have h1 : ∀ i, i < 64 → ∀ j, j < 64 → namesL.getD i [] = namesL.getD j [] → i = j := by decide +kernel
  refine h1 i hi j hj ?_
  have := congrArg (fun b : ByteArray => b.data.toList) h
  simpa [nameAt] using this
theorem info9 : ∃ i0, Tryd.prog.info? 9 = some i0 := by
  have h : (Tryd.prog.info? 9).isSome = true := by kernel_rfl
  exact Option.isSome_iff_exists.1 h
theorem range_names {w : World} (h : NamesIn w) : w.rangeAt 2 0 ((List.range 64).map fun i => .string (nameAt i)) := by
  intro j v hv
  rw [List.getElem?_map] at hv
  by_cases hj : j < 64
  · rw [List.getElem?_range hj] at hv
    obtain rfl := Option.some.inj hv
    rw [Nat.zero_add]; exact h j hj
  · rw [List.getElem?_eq_none (by simp; omega)] at hv; cases hv

/-- What Named answers. -/
def NamedEnd (s : ByteArray) (e : Ending) : Prop :=
  (∃ k : Nat, k < 64 ∧ nameAt k = s ∧ e = .returned (.tuple #[.int .i64 k, .bool true])) ∨
  ((∀ j, j < 64 → nameAt j ≠ s) ∧ e = .returned (.tuple #[.int .i64 0, .bool false]))

set_option maxRecDepth 10000 in
set_option maxHeartbeats 400000 in
theorem named_any (s : ByteArray) (w : World) (h : NamesIn w) :
    Calls Tryd.prog 12 #[.string s] w fun e w' => NamedEnd s e ∧ w' = w := by
  have HR := range_names h
  obtain ⟨cs, hcs⟩ : ∃ cs, cs = (List.range 64).map fun i => Value.string (nameAt i) := ⟨_, rfl⟩
  rw [← hcs] at HR
  have hl : cs.length = 64 := by rw [hcs]; simp
  have hat : Hid (∀ i, i < 64 → cs[i]? = some (.string (nameAt i))) := by intro i hi; rw [hcs]; simp [hi]
  clear hcs h
  have hinf : (Tryd.prog.info? 57).map (·.size) = some 64 := by kernel_rfl
  go_enter Tryd.func12, Tryd.ntmps12
  go_wp2_with (first | (refine wpList_load_mid rfl 57 (.global 2) rfl 2 0 rfl cs _ HR Tryd.underlying57 rfl (by rw [hl]; exact hinf) ?_))
  go_loop [7] (fun i => ∃ k : Nat, k ≤ 64 ∧ i = .int .i64 k ∧ Hid (∀ j, j < k → nameAt j ≠ s)) (fun i => 64 - (intOf i).toNat)
  case atStart => exact ⟨0, by omega, rfl, fun j hj => by omega⟩
  case round =>
    obtain ⟨k, hk, rfl, HN⟩ := hrel
    by_cases hlt : k < 64
    · have hc := hat.out k hlt
      obtain ⟨x, hx⟩ : ∃ x, x = nameAt k := ⟨_, rfl⟩
      rw [← hx] at hc
      obtain ⟨i0, hi0⟩ := info9
      have hrun : ∀ w, (Instr.index 57 (.agg cs.toArray) (.int .i64 k)).run Tryd.prog w = .ok (.string x) w := fun w => run_index_arr 57 9 64 cs.toArray _ k i0 Tryd.underlying57 (by kernel_rfl) hi0 (by kernel_rfl) hlt (by simpa using hc)
      clear hi0 hc
      have HX : Hid (x = nameAt k) := hx
      clear hx
      by_cases he : x = s
      · subst he
        go_wp2
        go_ret2
        exact ⟨.inl ⟨k, hlt, HX.out.symm, rfl⟩, rfl⟩
      · have hne := str_ne he
        go_wp2
        go_round
        case rel => exact ⟨k + 1, by omega, by go_num, fun j hj => by
          by_cases h : j < k
          · exact HN.out j h
          · obtain rfl : j = k := by omega
            rw [← HX.out]; exact he⟩
        case measure => simp [intOf]; omega
    · go_wp2
      go_ret2
      exact ⟨.inr ⟨fun j hj => HN.out j (by omega), rfl⟩, rfl⟩

set_option maxHeartbeats 400000 in
theorem name_any (k : Nat) (w : World) (hk : k < 64) (h : NamesIn w) :
    Calls Tryd.prog 13 #[.int .i64 k] w fun e w' => e = .returned (.string (nameAt k)) ∧ w' = w := by
  have hc := h k hk
  clear h
  go_enter Tryd.func13, Tryd.ntmps13
  go_wp2_with (go_at_call 16; with_reducible refine (isOne_yes _ _ (by omega) (by omega)).mono ?_; rintro e w' ⟨rfl, hw⟩; subst hw)
  go_ret
  exact ⟨rfl, rfl⟩
set_option maxHeartbeats 400000 in
theorem name_none (o : Int) (w : World) (ho : o < 0 ∨ 64 ≤ o) :
    Calls Tryd.prog 13 #[.int .i64 o] w fun e w' => e = .returned (.string ⟨#[]⟩) ∧ w' = w := by
  go_enter Tryd.func13, Tryd.ntmps13
  go_wp2_with (go_at_call 16; with_reducible refine (isOne_no _ _ ho).mono ?_; rintro e w' ⟨rfl, hw⟩; subst hw)
  go_ret
  exact ⟨rfl, rfl⟩
set_option maxHeartbeats 400000 in
theorem form_any (k : Nat) (w : World) (hk : k < 64) (h : Tabs w) :
    Calls Tryd.prog 14 #[.int .i64 k] w fun e w' => e = .returned (.int .u8 (formAt k)) ∧ w' = w := by
  have hc := h.forms k hk
  clear h
  generalize formAt k = fm at *
  go_enter Tryd.func14, Tryd.ntmps14
  go_wp2_with (go_at_call 16; with_reducible refine (isOne_yes _ _ (by omega) (by omega)).mono ?_; rintro e w' ⟨rfl, hw⟩; subst hw)
  go_ret
  exact ⟨rfl, rfl⟩
set_option maxHeartbeats 400000 in
theorem form_none (o : Int) (w : World) (ho : o < 0 ∨ 64 ≤ o) :
    Calls Tryd.prog 14 #[.int .i64 o] w fun e w' => e = .returned (.int .u8 0) ∧ w' = w := by
  go_enter Tryd.func14, Tryd.ntmps14
  go_wp2_with (go_at_call 16; with_reducible refine (isOne_no _ _ ho).mono ?_; rintro e w' ⟨rfl, hw⟩; subst hw)
  go_ret
  exact ⟨rfl, rfl⟩
end Go.Proofs.YtmfmakkiefgogabDoor
