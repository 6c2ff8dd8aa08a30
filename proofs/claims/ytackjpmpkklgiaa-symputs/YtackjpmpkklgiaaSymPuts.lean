/-
  Proved: 'Rows.SymPutsSaid': for every symbol, made of any numbers, and every place of a name the statement SymPuts of layer 11 (any symbol as bytes, or that it goes into none; read again it is that one) returns true and leaves its arguments as they were. Conditions: none beyond those of the given row.
-/
import Derived.Test.YtackjpmpkklgiaaPuts
import Derived.Test.YtackjpmpkklgiaaPutsG
import Derived.WalkKit
import Derived.ProofKit
import Derived.OpenShut
import Derived.ChangeOld
import Derived.Below
namespace Go.Proofs.Ytackjpmpkklgiaa.symPuts
open Go.ChangeShapes Go.WideShapes Go.ChangeAt Go.RowKit
set_option linter.unusedVariables false

theorem own : ownKnob Try.prog.godebug = none := by kernel_rfl

theorem walk (i : Ls) (n : Int) (w : World) (hi : i.Wf) (hn : (Lit.int .u32 n).wf = true) : Calls Try.prog 4 #[i.agg, .int .u32 n] w fun e w' => e = .returned (.bool true) ∧ Below w.heap.size w w' := by
  obtain ⟨b, k, v, d, x, z⟩ := i
  by_cases h : ¬ (0 ≤ b ∧ b ≤ 2) ∨ k < 0 ∨ 15 < k ∨ v < 0 ∨ 3 < v
  · exact puts_bad b k v x z n d w h
  · have bx := bounds_u64 hi.x
    have bz := bounds_u64 hi.z
    have bn := bounds_u32 hn
    obtain ⟨B, rfl⟩ := Int.eq_ofNat_of_zero_le (show 0 ≤ b by omega)
    obtain ⟨K, rfl⟩ := Int.eq_ofNat_of_zero_le (show 0 ≤ k by omega)
    obtain ⟨V, rfl⟩ := Int.eq_ofNat_of_zero_le (show 0 ≤ v by omega)
    obtain ⟨X, rfl⟩ := Int.eq_ofNat_of_zero_le bx.1
    obtain ⟨Z, rfl⟩ := Int.eq_ofNat_of_zero_le bz.1
    obtain ⟨M, rfl⟩ := Int.eq_ofNat_of_zero_le bn.1
    have hB : B ≤ 2 := by omega
    have hK : K ≤ 15 := by omega
    have hV : V ≤ 3 := by omega
    have hX : X < 18446744073709551616 := by have : (X : Int) ≤ 18446744073709551615 := bx.2; omega
    have hZ : Z < 18446744073709551616 := by have : (Z : Int) ≤ 18446744073709551615 := bz.2; omega
    have hM : M < 4294967296 := by have := bn.2; omega
    exact puts_good B K V X Z M (symB B K V d X Z M) (symB B K V d X Z 0) d w (by omega) (by omega) (by omega) (by omega) (by omega) (by omega) (symB_size _ _ _ _ _ _ _) (symB_zero _ _ _ _ _ _ _)
      (fun W => put_any _ B K V X Z M d W hB hK hV hX hZ hM) (fun W => refput_any _ B K V X Z M d W hB hK hV hX hZ hM) (fun W => read_one B K V X Z d W hB hK hV hX hZ)

set_option maxRecDepth 100000 in
theorem lifted (os : Os) (started : os.Started) (H : Type) (enc : TypeId × Value → H) :
    ReturnsInHanded {} Try.checked os 4 .any (Rows.symPutsSpec.pre6 enc Try.prog Try.f4 Rows.symPutsRow.domain false) (Rows.symPutsSpec.post enc Try.prog Try.f4 false true false false) := by
  refine returnsInHanded_of_change (C := Try.checked) own started (by kernel_rfl) Try.func4
    (ChangeSpec.witness6 (enc := enc) (C := Try.checked) false ⟨#[], #[(⟨0, 0, 0, false, 0, 0⟩ : Ls).agg, .int .u32 0], []⟩ 8 (by kernel_rfl) (by kernel_rfl) (by kernel_rfl) (by kernel_rfl)) ?_
  intro W base args ds gs before hval0 hW hcnd _
  have hval : ∀ (j : Nat) t v, Try.f4.params[j]? = some t → args[j]? = some v → Value.okWide Try.prog W .any base t v := hval0
  have hW' := hW
  obtain ⟨p, q, hA0, hV, rfl, hfz, hnd⟩ := hW
  have hA : DataW.TrodAll enc Try.prog W 0 (fun _ => true) true Try.f4.params.toList args.toList ds p := hA0
  rw [Try.params4] at hA hval
  obtain ⟨v0, vs0, d0, ds0, p0, q0, hargs, rfl, rfl, h0, r0⟩ := trodAll_cons hA
  obtain ⟨v1, vs1, d1, ds1, p1, q1, rfl, rfl, rfl, h1, r1⟩ := trodAll_cons r0
  obtain ⟨rfl, rfl, rfl⟩ := trodAll_nil r1
  obtain rfl : args = #[v0, v1] := by cases args; simp_all
  obtain ⟨rfl, rfl⟩ := trodVars_none hV
  obtain ⟨a0, rfl, rfl, rfl, w0⟩ := open_ls (hval 0 39 v0 rfl rfl) h0
  obtain ⟨a1, rfl, rfl, rfl, w1⟩ := open_int Try.underlying40 (hval 1 40 v1 rfl rfl) h1
  clear hA0 hval0
  simp only [List.append_nil] at hW'
  refine (walk a0 a1 W w0 w1).mono fun e W' ⟨he, bel⟩ => ?_
  subst he
  exact ⟨_, rfl, _, _, _, [], _, [], hW', trodAll_mk1 (shut_bool Try.underlying4 _), (trodAll_cons_mk (shut_ls w0) (trodAll_cons_mk (shut_int Try.underlying40 w1) trodAll_mk0)), rfl, bel.frame _, fun h => by cases h⟩

theorem over : Rows.symPutsRow.holds Try.pinned (OpenSpec.ofChange Rows.symPutsSpec) :=
  OpenClaim.holds_of_wide 4 Try.f4 rfl rfl rfl rfl rfl rfl rfl ⟨rfl, rfl, rfl, rfl, rfl⟩ rfl rfl rfl rfl rfl (by kernel_rfl) Try.func4 (by kernel_rfl)
    (of_decide_eq_true (by kernel_rfl)) (by unfold Func.isWrapper; first | (rw [if_pos (by decide +kernel)]; kernel_rfl) | (rw [if_neg (by decide +kernel)]; exact ⟨rfl, rfl⟩))
    (fun os started H enc _ => lifted os started H enc)

theorem proved : Rows.SymPutsSaid := over
#print axioms proved
end Go.Proofs.Ytackjpmpkklgiaa.symPuts
