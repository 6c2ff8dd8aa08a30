/-
  Proved: the statement RelaPuts of layer 15: for every relocation, made of any numbers (as bytes, or that it goes into none), it returns true and leaves its argument as it was. Conditions: none beyond those of the given row.
-/
import Derived.Test.YtghbkjdjginfjaaP2
import Derived.Test.YtghbkjdjginfjaaO1
import Derived.WalkKit
import Derived.ProofKit
import Derived.OpenShut
import Derived.ChangeOld
import Derived.Below
namespace Go.Proofs.Ytghbkjdjginfjaa.relaPuts
open Go.ChangeShapes Go.WideShapes Go.ChangeAt Go.RowKit
set_option linter.unusedVariables false

theorem own : ownKnob Try.prog.godebug = none := by kernel_rfl

theorem walk (i : Lr) (w : World) (hi : i.Wf) : Calls Try.prog 4 #[i.agg] w fun e w' => e = .returned (.bool true) ∧ Below w.heap.size w w' := by
  obtain ⟨a, k, s, d⟩ := i
  have ba := bounds_u64 hi.a
  have bd := bounds_u64 hi.d
  have bk := bounds_i64 hi.k
  have bs := bounds_i64 hi.s
  by_cases h : k < 0 ∨ 4294967296 ≤ k ∨ s < 0 ∨ 4294967296 ≤ s
  · exact puts_bad a k s d w bk.2 bs.2 h
  · obtain ⟨A, rfl⟩ := Int.eq_ofNat_of_zero_le ba.1
    obtain ⟨D, rfl⟩ := Int.eq_ofNat_of_zero_le bd.1
    obtain ⟨K, rfl⟩ := Int.eq_ofNat_of_zero_le (show 0 ≤ k by omega)
    obtain ⟨S, rfl⟩ := Int.eq_ofNat_of_zero_le (show 0 ≤ s by omega)
    have hA : A < 18446744073709551616 := by have : (A : Int) ≤ 18446744073709551615 := ba.2; omega
    have hD : D < 18446744073709551616 := by have : (D : Int) ≤ 18446744073709551615 := bd.2; omega
    exact puts_good A K S D (relB A K S D) w (by omega) (by omega) (by omega) (by omega) (fun W => put_any A K S D W hA (by omega) (by omega) hD) (fun W => refput_any A K S D W hA (by omega) (by omega) hD)


set_option maxRecDepth 100000 in
theorem lifted (os : Os) (started : os.Started) (H : Type) (enc : TypeId × Value → H) :
    ReturnsInHanded {} Try.checked os 4 .any (Rows.relaPutsSpec.pre6 enc Try.prog Try.f4 Rows.relaPutsRow.domain false) (Rows.relaPutsSpec.post enc Try.prog Try.f4 false true false false) := by
  refine returnsInHanded_of_change (C := Try.checked) own started (by kernel_rfl) Try.func4
    (ChangeSpec.witness6 (enc := enc) (C := Try.checked) false ⟨#[], #[(⟨0, 0, 0, 0⟩ : Lr).agg], []⟩ 4 (by kernel_rfl) (by kernel_rfl) (by kernel_rfl) (by kernel_rfl)) ?_
  intro W base args ds gs before hval0 hW hcnd _
  have hval : ∀ (j : Nat) t v, Try.f4.params[j]? = some t → args[j]? = some v → Value.okWide Try.prog W .any base t v := hval0
  have hW' := hW
  obtain ⟨p, q, hA0, hV, rfl, hfz, hnd⟩ := hW
  have hA : DataW.TrodAll enc Try.prog W 0 (fun _ => true) true Try.f4.params.toList args.toList ds p := hA0
  rw [Try.params4] at hA hval
  obtain ⟨v0, vs0, d0, ds0, p0, q0, hargs, rfl, rfl, h0, r0⟩ := trodAll_cons hA
  obtain ⟨rfl, rfl, rfl⟩ := trodAll_nil r0
  obtain rfl : args = #[v0] := by cases args; simp_all
  obtain ⟨rfl, rfl⟩ := trodVars_none hV
  obtain ⟨a0, rfl, rfl, rfl, w0⟩ := open_lr (hval 0 28 v0 rfl rfl) h0
  clear hA0 hval0
  simp only [List.append_nil] at hW'
  refine (walk a0 W w0).mono fun e W' ⟨he, bel⟩ => ?_
  subst he
  exact ⟨_, rfl, _, _, _, [], _, [], hW', trodAll_mk1 (shut_bool Try.underlying4 _), (trodAll_cons_mk (shut_lr w0) trodAll_mk0), rfl, bel.frame _, fun h => by cases h⟩

theorem over : Rows.relaPutsRow.holds Try.pinned (OpenSpec.ofChange Rows.relaPutsSpec) :=
  OpenClaim.holds_of_wide 4 Try.f4 rfl rfl rfl rfl rfl rfl rfl ⟨rfl, rfl, rfl, rfl, rfl⟩ rfl rfl rfl rfl rfl (by kernel_rfl) Try.func4 (by kernel_rfl)
    (of_decide_eq_true (by kernel_rfl)) (by unfold Func.isWrapper; first | (rw [if_pos (by decide +kernel)]; kernel_rfl) | (rw [if_neg (by decide +kernel)]; exact ⟨rfl, rfl⟩))
    (fun os started H enc _ => lifted os started H enc)

theorem proved : Rows.RelaPutsSaid := over
#print axioms proved
end Go.Proofs.Ytghbkjdjginfjaa.relaPuts
