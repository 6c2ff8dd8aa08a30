/-
  Proved: the statement SysvBuilds of layer 13: for every list of names, every count of buckets and every other name it returns true and leaves its arguments as they were: in a table that was built each name is found, as the last one of it, and no other one; a count that may not be is refused. Conditions: none beyond those of the given row.
-/
import Derived.Test.YtffmkkfacemchaaG2
import Derived.SliceStrings
import Derived.WalkKit
import Derived.ProofKit
import Derived.OpenShut
import Derived.ShutString
import Derived.ChangeOld
import Derived.Below
namespace Go.Proofs.Ytffmkkfacemchaa.sysvBuilds
open Go.ChangeShapes Go.WideShapes Go.ChangeAt Go.RowKit
open Go.ChangeMaps (open_string shut_string)
set_option linter.unusedVariables false

theorem own : ownKnob Try.prog.godebug = none := by kernel_rfl
theorem laidOut : laidOutB Try.prog = true := by kernel_rfl
theorem cells9 : Try.prog.cellsOf 9 = 1 := by kernel_rfl

set_option maxRecDepth 100000 in
theorem lifted (os : Os) (started : os.Started) (H : Type) (enc : TypeId × Value → H) :
    ReturnsInHanded {} Try.checked os 5 .any (Rows.sysvBuildsSpec.pre6 enc Try.prog Try.f5 Rows.sysvBuildsRow.domain false) (Rows.sysvBuildsSpec.post enc Try.prog Try.f5 false true false false) := by
  refine returnsInHanded_of_change (C := Try.checked) own started (by kernel_rfl) Try.func5
    (ChangeSpec.witness6 (enc := enc) (C := Try.checked) false ⟨#[], #[.slice none 0 0, .int .i64 0, .string ⟨#[]⟩], []⟩ 8 (by kernel_rfl) (by kernel_rfl) (by kernel_rfl) (by kernel_rfl)) ?_
  intro W base args ds gs before hval0 hW hcnd _
  have hval : ∀ (j : Nat) t v, Try.f5.params[j]? = some t → args[j]? = some v → Value.okWide Try.prog W .any base t v := hval0
  have hW' := hW
  obtain ⟨p, q, hA0, hV, rfl, hfz, hnd⟩ := hW
  have hA : DataW.TrodAll enc Try.prog W 0 (fun _ => true) true Try.f5.params.toList args.toList ds p := hA0
  rw [Try.params5] at hA hval
  obtain ⟨v0, vs0, d0, ds0, p0, q0, hargs, rfl, rfl, h0, r0⟩ := trodAll_cons hA
  obtain ⟨v1, vs1, d1, ds1, p1, q1, rfl, rfl, rfl, h1, r1⟩ := trodAll_cons r0
  obtain ⟨v2, vs2, d2, ds2, p2, q2, rfl, rfl, rfl, h2, r2⟩ := trodAll_cons r1
  obtain ⟨rfl, rfl, rfl⟩ := trodAll_nil r2
  obtain rfl : args = #[v0, v1, v2] := by cases args; simp_all
  obtain ⟨rfl, rfl⟩ := trodVars_none hV
  obtain ⟨a0, len0, cap0, rfl⟩ := okWide_slice Try.underlying37 (hval 0 37 v0 rfl rfl)
  have k0 := h0
  have lt0 : ∀ x ∈ p0, x.block < W.heap.size := by obtain ⟨m, hm⟩ := k0; exact DataW.trod_lt m _ _ _ hm
  obtain ⟨a1, rfl, rfl, rfl, w1⟩ := open_int Try.underlying3 (hval 1 3 v1 rfl rfl) h1
  obtain ⟨a2, rfl, rfl, rfl, w2⟩ := open_string Try.underlying9 (hval 2 9 v2 rfl rfl) h2
  have ho : a2.size ≤ 9223372036854775807 := by unfold maxLen at w2; omega
  have cases1 : (∃ nb : Nat, a1 = (nb : Int) ∧ 1 ≤ nb ∧ nb ≤ 256) ∨ (a1 < 1 ∨ (¬ a1 < 1 ∧ 256 < a1)) := by
    by_cases h : 1 ≤ a1 ∧ a1 ≤ 256
    · exact .inl ⟨a1.toNat, by omega, by omega, by omega⟩
    · exact .inr (by omega)
  have wk : Calls Try.prog 5 #[.slice a0 len0 cap0, .int .i64 a1, .string a2] W fun e w' => e = .returned (.bool true) ∧ Below W.heap.size W w' := by
    obtain ⟨fuel, hf⟩ := h0
    rcases open_strings Try.underlying37 Try.underlying9 cells9 hf with ⟨hcs, _⟩ | ⟨x, l, c, ss, hcs, _, hl, hm, hz, _, hcell, hsz⟩
    · simp [Value.cells] at hcs
      obtain ⟨rfl, rfl, rfl⟩ := hcs
      rcases cases1 with ⟨nb, rfl, h1, h2⟩ | hbad
      · exact builds_good_nil (fun _ => ⟨#[]⟩) nb a2 W ho h1 h2
      · exact builds_bad_nil (fun _ => ⟨#[]⟩) a1 a2 W ho hbad
    · simp [Value.cells] at hcs
      obtain ⟨rfl, rfl, rfl⟩ := hcs
      have hls : len0 ≤ ss.length := by rw [hz]; split <;> omega
      have hcm : cap0 ≤ 9223372036854775807 := by unfold maxLen at hm; omega
      obtain ⟨b, off, ov⟩ := x
      have hov : 0 < len0 → ov = none := fun h => by
        have k := hcell 0 (by omega)
        simpa [Addr.add] using World.cell?_spot k
      have hadr : 0 < len0 → (⟨b, off, ov⟩ : Addr) = ⟨b, off, none⟩ := fun h => by rw [hov h]
      have hfs : ∀ j, j < len0 → (ss.getD j ByteArray.empty).size ≤ 9223372036854775807 := fun j hj => by
        have : ss.getD j ByteArray.empty ∈ ss := by
          rw [List.getD_eq_getElem?_getD, List.getElem?_eq_getElem (by omega)]
          exact List.getElem_mem (by omega)
        have := hsz _ this
        unfold maxLen at this
        omega
      have hc1 : ∀ j, j < len0 → W.cell? ⟨b, off + j, none⟩ = some (.string (ss.getD j ByteArray.empty)) := fun j hj => by
        have k := hcell j (by omega)
        rw [hov (by omega), Go.WideShapes.add_plain] at k
        exact k
      rcases cases1 with ⟨nb, rfl, h1, h2⟩ | hbad
      · exact builds_good (fun j => ss.getD j ByteArray.empty) _ b off len0 cap0 _ nb a2 W hl hcm rfl hadr hfs ho hc1 h1 h2
      · exact builds_bad (fun j => ss.getD j ByteArray.empty) _ b off len0 cap0 _ a1 a2 W hl hcm rfl hadr hfs ho hc1 hbad
  clear hA0 hval0
  refine wk.mono fun e W' ⟨he, bel⟩ => ?_
  subst he
  exact ⟨_, rfl, _, _, _, [], _, [], hW', trodAll_mk1 (shut_bool Try.underlying4 _), (trodAll_cons_mk (Below.trod laidOut (by kernel_rfl) (of_decide_eq_true (by kernel_rfl)) k0 bel lt0) (trodAll_cons_mk (shut_int Try.underlying3 w1) (trodAll_cons_mk (shut_string Try.underlying9 w2) trodAll_mk0))), rfl, bel.frame _, fun h => by cases h⟩

theorem over : Rows.sysvBuildsRow.holds Try.pinned (OpenSpec.ofChange Rows.sysvBuildsSpec) :=
  OpenClaim.holds_of_wide 5 Try.f5 rfl rfl rfl rfl rfl rfl rfl ⟨rfl, rfl, rfl, rfl, rfl⟩ rfl rfl rfl rfl rfl (by kernel_rfl) Try.func5 (by kernel_rfl)
    (of_decide_eq_true (by kernel_rfl)) (by unfold Func.isWrapper; first | (rw [if_pos (by decide +kernel)]; kernel_rfl) | (rw [if_neg (by decide +kernel)]; exact ⟨rfl, rfl⟩))
    (fun os started H enc _ => lifted os started H enc)

theorem proved : Rows.SysvBuildsSaid := over
#print axioms proved
end Go.Proofs.Ytffmkkfacemchaa.sysvBuilds
