/-
  Layer 6: kindOf and Decode of any word. Conditions: the tables hold the forms and the codes.
-/
import Derived.Test.YtmfmakkiefgogaaDoorIA3
import Derived.Deep.MidRow
import Derived.ChangeKeysEq
import Derived.Laws.ResultCell
namespace Go.Proofs.YtmfmakkiefgogaaDoor
open Go.RowKit
set_option linter.unusedVariables false

/-- Has a word a kind's fixed numbers? -/
def fit (x : Nat) (i : Nat) : Bool := ((x &&& maskOf (formAt i) : Nat) : Int) == codeAt i
def kindF (x : Nat) : Option Nat := (List.range 64).find? (fit x)
theorem kindF_some {x k : Nat} (hk : k < 64) (h : fit x k = true) (hb : ∀ j, j < k → fit x j = false) : kindF x = some k := by
  unfold kindF
  rw [List.find?_range_eq_some]
  exact ⟨h, by simpa using hk, fun j hj => by rw [hb j hj]; rfl⟩
theorem kindF_none {x : Nat} (hb : ∀ j, j < 64 → fit x j = false) : kindF x = none := by
  unfold kindF
  rw [List.find?_eq_none]
  intro j hj
  rw [hb j (by simpa using hj)]
  simp

theorem maskOf_lt (c : Int) : maskOf c < 4294967296 := by unfold maskOf; (repeat' split) <;> omega

theorem run_index_arr {P : Program} {w : World} (t e n : Nat) (cs : Array Value) (v : Value) (k : Nat) (i0 : TypeInfo) (hu : P.underlying t = some (.array n e)) (he : P.plainKey e = true) (hi : P.info? e = some i0) (hc : P.cellsOf e = 1)
    (hk : k < n) (hv : cs[k]? = some v) : (Instr.index t (.agg cs) (.int .i64 k)).run P w = .ok v w := by
  have hn : (k : Int) < (n : Int) := by omega
  have hp := run_part_plain (P := P) (w := w) he (xs := cs) (off := k) hv
  have hs : (sizeOf e).run P w = .ok 1 w := by
    have h1 : i0.size = 1 := by unfold Program.cellsOf at hc; rw [hi] at hc; simpa using hc
    simp [sizeOf, typeInfo, hi, h1, go_sem]
  unfold Instr.index
  simp only [Sem.run_bind, asIntOf, Sem.run_pure, Result.andThen_ok, run_underlying hu]
  rw [if_pos (by omega)]
  simp only [Sem.run_bind, hs, Result.andThen_ok, Int.toNat_natCast, Nat.mul_one]
  exact hp

theorem info28 : ∃ i0, Tryd.prog.info? 36 = some i0 := by
  have h : (Tryd.prog.info? 36).isSome = true := by kernel_rfl
  exact Option.isSome_iff_exists.1 h
theorem range_codes {w : World} (h : Tabs w) : w.rangeAt 2 0 ((List.range 64).map fun i => .int .u32 (codeAt i)) := by
  intro j v hv
  rw [List.getElem?_map] at hv
  by_cases hj : j < 64
  · rw [List.getElem?_range hj] at hv
    obtain rfl := Option.some.inj hv
    rw [Nat.zero_add]; exact h.codes j hj
  · rw [List.getElem?_eq_none (by simp; omega)] at hv; cases hv

/-- What kindOf answers. -/
def kindV (x : Nat) : Value := match kindF x with
  | some k => .tuple #[.int .i64 k, .bool true]
  | none => .tuple #[.int .i64 0, .bool false]

set_option maxRecDepth 10000 in
set_option maxHeartbeats 800000 in
theorem kind_any (x : Nat) (w : World) (hx : x < 4294967296) (ht : Tabs w) :
    Calls Tryd.prog 29 #[.int .u32 x] w fun e w' => e = .returned (kindV x) ∧ w' = w := by
  have HR := range_codes ht
  obtain ⟨cs, hcs⟩ : ∃ cs, cs = (List.range 64).map fun i => Value.int .u32 (codeAt i) := ⟨_, rfl⟩
  rw [← hcs] at HR
  have hl : cs.length = 64 := by rw [hcs]; simp
  have hat : ∀ i, i < 64 → cs[i]? = some (.int .u32 (codeAt i)) := by intro i hi; rw [hcs]; simp [hi]
  have HAT : Hid (_) := hat
  clear hcs hat
  have hinf : (Tryd.prog.info? 66).map (·.size) = some 64 := by kernel_rfl
  have hforms : Hid (_) := ht.forms
  clear ht
  go_enter Tryd.func29, Tryd.ntmps29
  go_wp2_with (first | (refine wpList_load_mid rfl 66 (.global 2) rfl 2 0 rfl cs _ HR Tryd.underlying66 rfl (by rw [hl]; exact hinf) ?_))
  go_loop [7] (fun i => ∃ k : Nat, k ≤ 64 ∧ i = .int .i64 k ∧ Hid (∀ j, j < k → fit x j = false)) (fun i => 64 - (intOf i).toNat)
  case atStart => exact ⟨0, by omega, rfl, fun j hj => by omega⟩
  case round =>
    obtain ⟨k, hk, rfl, HN⟩ := hrel
    by_cases hlt : k < 64
    · have hc := HAT.out k hlt
      have hf := hforms.out k hlt
      obtain ⟨i0, hi0⟩ := info28
      obtain ⟨cd, hcd⟩ : ∃ cd, cd = codeAt k := ⟨_, rfl⟩
      obtain ⟨fm, hfm⟩ : ∃ fm, fm = formAt k := ⟨_, rfl⟩
      rw [← hcd] at hc
      rw [← hfm] at hf
      have hrun : ∀ w, (Instr.index 66 (.agg cs.toArray) (.int .i64 k)).run Tryd.prog w = .ok (.int .u32 cd) w := fun w => run_index_arr 66 36 64 cs.toArray _ k i0 Tryd.underlying66 (by kernel_rfl) hi0 (by kernel_rfl) hlt (by simpa using hc)
      have hand : bits .and .u32 (x : Int) ((maskOf fm : Nat) : Int) = ((x &&& maskOf fm : Nat) : Int) := u32_and_nat x (maskOf fm) hx (maskOf_lt fm)
      have hfit : fit x k = (((x &&& maskOf fm : Nat) : Int) == cd) := by unfold fit; rw [hcd, hfm]
      clear hi0 hc hcd hfm
      obtain ⟨m, hm⟩ : ∃ m : Int, m = ((x &&& maskOf fm : Nat) : Int) := ⟨_, rfl⟩
      rw [← hm] at hand hfit
      clear hm
      by_cases he : m = cd
      · have HF : Hid (fit x k = true) := by show _ = _; rw [hfit, he]; simp
        clear hfit
        subst he
        go_wp2_with (go_at_call 55; with_reducible refine (fixed_any fm _).mono ?_; rintro e w' ⟨rfl, hw⟩; subst hw)
        go_ret2
        exact ⟨by unfold kindV; rw [kindF_some hlt HF.out HN.out]; rfl, rfl⟩
      · have HF : Hid (fit x k = false) := by show _ = _; rw [hfit]; simp [he]
        clear hfit
        go_wp2_with (go_at_call 55; with_reducible refine (fixed_any fm _).mono ?_; rintro e w' ⟨rfl, hw⟩; subst hw)
        go_round
        case rel => exact ⟨k + 1, by omega, by go_num, fun j hj => by
          by_cases h : j < k
          · exact HN.out j h
          · obtain rfl : j = k := by omega
            exact HF.out⟩
        case measure => simp [intOf]; omega
    · go_wp2
      go_ret2
      exact ⟨by unfold kindV; rw [kindF_none fun j hj => HN.out j (by omega)]; rfl, rfl⟩
end Go.Proofs.YtmfmakkiefgogaaDoor
