/-
  Proved: 'Rows.SymBindsSaid': for every symbol, made of any numbers, the statement SymBinds of layer 11 (no symbol is both exported, and hidden from others; a weak one is exported as a global one is) returns true and leaves its argument as it was. Conditions: none beyond those of the given row.
-/
import Derived.Test.YtackjpmpkklgiaaO1
import Derived.Test.YtackjpmpkklgiaaBindsT0
import Derived.Test.YtackjpmpkklgiaaBindsT1
import Derived.Test.YtackjpmpkklgiaaBindsF0
import Derived.Test.YtackjpmpkklgiaaBindsF1
import Derived.WalkKit
import Derived.ProofKit
import Derived.OpenShut
import Derived.ChangeOld
import Derived.Below
namespace Go.Proofs.Ytackjpmpkklgiaa.symBinds
open Go.ChangeShapes Go.WideShapes Go.ChangeAt Go.RowKit
set_option linter.unusedVariables false

theorem own : ownKnob Try.prog.godebug = none := by kernel_rfl

theorem and_le (a : Int) (m : Nat) (hm : m ≤ 1000) : ∃ q : Nat, bits BinOp.and IntKind.i64 a (m : Int) = (q : Int) ∧ q ≤ m := by
  have e : (BitVec.ofInt 64 (m : Int)).toNat = m := by simp; omega
  have hl : ((BitVec.ofInt 64 a) &&& (BitVec.ofInt 64 (m : Int))).toNat ≤ m := by
    rw [BitVec.toNat_and, e]
    exact Nat.and_le_right
  refine ⟨((BitVec.ofInt 64 a) &&& (BitVec.ofInt 64 (m : Int))).toNat, ?_, hl⟩
  show IntKind.i64.wrap (((BitVec.ofInt 64 a) &&& (BitVec.ofInt 64 (m : Int))).toNat : Int) = _
  rw [IntKind.wrap_i64]
  omega

theorem walk (i : Ls) (w : World) : Calls Try.prog 5 #[i.agg] w fun e w' => e = .returned (.bool true) ∧ Below w.heap.size w w' := by
  obtain ⟨b, k, v, d, x, z⟩ := i
  obtain ⟨q1, h1, l1⟩ := and_le b 1 (by omega)
  obtain ⟨q2, h2, l2⟩ := and_le v 3 (by omega)
  match q1, l1, q2, l2, d with
  | 0, _, 0, _, true => exact binds_t00 b k v _ x z w h1 rfl h2
  | 0, _, 1, _, true => exact binds_t01 b k v _ x z w h1 rfl h2
  | 0, _, 2, _, true => exact binds_t02 b k v _ x z w h1 rfl h2
  | 0, _, 3, _, true => exact binds_t03 b k v _ x z w h1 rfl h2
  | 1, _, 0, _, true => exact binds_t10 b k v _ x z w h1 rfl h2
  | 1, _, 1, _, true => exact binds_t11 b k v _ x z w h1 rfl h2
  | 1, _, 2, _, true => exact binds_t12 b k v _ x z w h1 rfl h2
  | 1, _, 3, _, true => exact binds_t13 b k v _ x z w h1 rfl h2
  | 0, _, 0, _, false => exact binds_f00 b k v _ x z w h1 rfl h2
  | 0, _, 1, _, false => exact binds_f01 b k v _ x z w h1 rfl h2
  | 0, _, 2, _, false => exact binds_f02 b k v _ x z w h1 rfl h2
  | 0, _, 3, _, false => exact binds_f03 b k v _ x z w h1 rfl h2
  | 1, _, 0, _, false => exact binds_f10 b k v _ x z w h1 rfl h2
  | 1, _, 1, _, false => exact binds_f11 b k v _ x z w h1 rfl h2
  | 1, _, 2, _, false => exact binds_f12 b k v _ x z w h1 rfl h2
  | 1, _, 3, _, false => exact binds_f13 b k v _ x z w h1 rfl h2
  | q1 + 2, l1, _, _, _ => exact absurd l1 (by omega)
  | _, _, q2 + 4, l2, _ => exact absurd l2 (by omega)

set_option maxRecDepth 100000 in
theorem lifted (os : Os) (started : os.Started) (H : Type) (enc : TypeId × Value → H) :
    ReturnsInHanded {} Try.checked os 5 .any (Rows.symBindsSpec.pre6 enc Try.prog Try.f5 Rows.symBindsRow.domain false) (Rows.symBindsSpec.post enc Try.prog Try.f5 false true false false) := by
  refine returnsInHanded_of_change (C := Try.checked) own started (by kernel_rfl) Try.func5
    (ChangeSpec.witness6 (enc := enc) (C := Try.checked) false ⟨#[], #[(⟨0, 0, 0, false, 0, 0⟩ : Ls).agg], []⟩ 8 (by kernel_rfl) (by kernel_rfl) (by kernel_rfl) (by kernel_rfl)) ?_
  intro W base args ds gs before hval0 hW hcnd _
  have hval : ∀ (j : Nat) t v, Try.f5.params[j]? = some t → args[j]? = some v → Value.okWide Try.prog W .any base t v := hval0
  have hW' := hW
  obtain ⟨p, q, hA0, hV, rfl, hfz, hnd⟩ := hW
  have hA : DataW.TrodAll enc Try.prog W 0 (fun _ => true) true Try.f5.params.toList args.toList ds p := hA0
  rw [Try.params5] at hA hval
  obtain ⟨v0, vs0, d0, ds0, p0, q0, hargs, rfl, rfl, h0, r0⟩ := trodAll_cons hA
  obtain ⟨rfl, rfl, rfl⟩ := trodAll_nil r0
  obtain rfl : args = #[v0] := by cases args; simp_all
  obtain ⟨rfl, rfl⟩ := trodVars_none hV
  obtain ⟨a0, rfl, rfl, rfl, w0⟩ := open_ls (hval 0 39 v0 rfl rfl) h0
  clear hA0 hval0
  refine (walk a0 W).mono fun e W' ⟨he, bel⟩ => ?_
  subst he
  exact ⟨_, rfl, _, _, _, [], _, [], hW', trodAll_mk1 (shut_bool Try.underlying4 _), trodAll_mk1 (shut_ls w0), rfl, bel.frame _, fun h => by cases h⟩

theorem over : Rows.symBindsRow.holds Try.pinned (OpenSpec.ofChange Rows.symBindsSpec) :=
  OpenClaim.holds_of_wide 5 Try.f5 rfl rfl rfl rfl rfl rfl rfl ⟨rfl, rfl, rfl, rfl, rfl⟩ rfl rfl rfl rfl rfl (by kernel_rfl) Try.func5 (by kernel_rfl)
    (of_decide_eq_true (by kernel_rfl)) (by unfold Func.isWrapper; first | (rw [if_pos (by decide +kernel)]; kernel_rfl) | (rw [if_neg (by decide +kernel)]; exact ⟨rfl, rfl⟩))
    (fun os started H enc _ => lifted os started H enc)

theorem proved : Rows.SymBindsSaid := over
#print axioms proved
end Go.Proofs.Ytackjpmpkklgiaa.symBinds
