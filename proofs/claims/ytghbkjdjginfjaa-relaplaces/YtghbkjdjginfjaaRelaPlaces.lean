/-
  Proved: the statement RelaPlaces of layer 15: for every list of relocations and every number (relocations one behind the other are each read as alone; the first one that is wrong is told by its place) it returns true and leaves its arguments as they were. Conditions: none beyond those of the given row.
-/
import Derived.Test.YtghbkjdjginfjaaL2
import Derived.Test.YtghbkjdjginfjaaL4
import Derived.Test.YtghbkjdjginfjaaO1
import Derived.Deep.Slices
import Derived.WalkKit
import Derived.ProofKit
import Derived.OpenShut
import Derived.ShutString
import Derived.ChangeOld
import Derived.Below
namespace Go.Proofs.Ytghbkjdjginfjaa.relaPlaces
open Go.ChangeShapes Go.WideShapes Go.ChangeAt Go.RowKit
open Go.ChangeMaps (open_string shut_string)
set_option linter.unusedVariables false

theorem own : ownKnob Try.prog.godebug = none := by kernel_rfl
theorem laidOut : laidOutB Try.prog = true := by kernel_rfl

theorem open_spot {w : World} {base b off : Nat} {ov : Option Nat} {cs : List Value} (h1 : w.cells? base ((⟨b, off, ov⟩ : Addr).add (0 * Try.prog.cellsOf 28)) (Try.prog.cellsOf 28) = some cs) : ov = none := by
  rw [cells28] at h1
  obtain ⟨_, hlen, hcell⟩ := World.cells?_some h1
  have k0 := hcell 0 (by omega)
  match cs, hlen with
  | [c0, c1, c2, c3], _ => simpa [Addr.add] using World.cell?_spot k0

/-- An element of the slice that came in. -/
theorem open_r4 {H : Type} {enc : TypeId × Value → H} {w : World} {base b off i fuel : Nat} {spare : Nat → Bool} {held : Bool} {cs : List Value} {x : DataW H × List MemPlace}
    (h1 : w.cells? base ((⟨b, off, none⟩ : Addr).add (i * Try.prog.cellsOf 28)) (Try.prog.cellsOf 28) = some cs) (h2 : DataW.trod enc Try.prog w base spare held fuel 28 cs = some x) :
    ∃ r : Rl, (0 ≤ r.1 ∧ r.1 < 18446744073709551616 ∧ 0 ≤ r.2.2.2 ∧ r.2.2.2 < 18446744073709551616) ∧ RlO w b (off + i * 4) r := by
  rw [cells28] at h1
  obtain ⟨_, hlen, hcell⟩ := World.cells?_some h1
  obtain ⟨xs, n, _, hx, hl, hlen2, hff⟩ := DataW.trod_struct Try.underlying28 h2
  match cs, hlen, xs, hlen2 with
  | [c0, c1, c2, c3], _, [y0, y1, y2, y3], _ =>
    have h0 := hff 0 _ rfl
    have h1 := hff 1 _ rfl
    have h2 := hff 2 _ rfl
    have h3 := hff 3 _ rfl
    simp [cells3, cells25] at h0 h1 h2 h3
    obtain ⟨a, e0, x0, w0⟩ := DataW.trod_int Try.underlying25 h0
    obtain ⟨b', e1, x1, w1⟩ := DataW.trod_int Try.underlying3 h1
    obtain ⟨c, e2, x2, w2⟩ := DataW.trod_int Try.underlying3 h2
    obtain ⟨d, e3, x3, w3⟩ := DataW.trod_int Try.underlying25 h3
    simp only [List.cons.injEq, and_true] at e0 e1 e2 e3
    subst e0 e1 e2 e3
    have b0 := bounds_u64 w0
    have b3 := bounds_u64 w3
    have key : ∀ j, j < 4 → w.cell? ⟨b, off + i * 4 + j, none⟩ = [Value.int .u64 a, .int .i64 b', .int .i64 c, .int .u64 d][j]? := by
      intro j hj
      have := hcell j hj
      rw [Go.WideShapes.add_plain, Go.WideShapes.add_plain] at this
      exact this
    exact ⟨(a, b', c, d), ⟨b0.1, by show a < _; omega, b3.1, by show d < _; omega⟩, ⟨key 0 (by omega), key 1 (by omega), key 2 (by omega), key 3 (by omega)⟩⟩

set_option maxRecDepth 100000 in
theorem lifted (os : Os) (started : os.Started) (H : Type) (enc : TypeId × Value → H) :
    ReturnsInHanded {} Try.checked os 6 .any (Rows.relaPlacesSpec.pre6 enc Try.prog Try.f6 Rows.relaPlacesRow.domain false) (Rows.relaPlacesSpec.post enc Try.prog Try.f6 false true false false) := by
  refine returnsInHanded_of_change (C := Try.checked) own started (by kernel_rfl) Try.func6
    (ChangeSpec.witness6 (enc := enc) (C := Try.checked) false ⟨#[], #[.slice none 0 0, .int .i64 0], []⟩ 8 (by kernel_rfl) (by kernel_rfl) (by kernel_rfl) (by kernel_rfl)) ?_
  intro W base args ds gs before hval0 hW hcnd _
  have hval : ∀ (j : Nat) t v, Try.f6.params[j]? = some t → args[j]? = some v → Value.okWide Try.prog W .any base t v := hval0
  have hW' := hW
  obtain ⟨p, q, hA0, hV, rfl, hfz, hnd⟩ := hW
  have hA : DataW.TrodAll enc Try.prog W 0 (fun _ => true) true Try.f6.params.toList args.toList ds p := hA0
  rw [Try.params6] at hA hval
  obtain ⟨v0, vs0, d0, ds0, p0, q0, hargs, rfl, rfl, h0, r0⟩ := trodAll_cons hA
  obtain ⟨v1, vs1, d1, ds1, p1, q1, rfl, rfl, rfl, h1, r1⟩ := trodAll_cons r0
  obtain ⟨rfl, rfl, rfl⟩ := trodAll_nil r1
  obtain rfl : args = #[v0, v1] := by cases args; simp_all
  obtain ⟨rfl, rfl⟩ := trodVars_none hV
  obtain ⟨a0, len0, cap0, rfl⟩ := okWide_slice Try.underlying22 (hval 0 22 v0 rfl rfl)
  have k0 := h0
  have lt0 : ∀ x ∈ p0, x.block < W.heap.size := by obtain ⟨m, hm⟩ := k0; exact DataW.trod_lt m _ _ _ hm
  obtain ⟨a1, rfl, rfl, rfl, w1⟩ := open_int Try.underlying3 (hval 1 3 v1 rfl rfl) h1
  have wk : Calls Try.prog 6 #[.slice a0 len0 cap0, .int .i64 a1] W fun e w' => e = .returned (.bool true) ∧ Below W.heap.size W w' := by
    obtain ⟨fuel, hf⟩ := h0
    rcases Go.Deep.open_slice Try.underlying22 hf with ⟨hcs, _⟩ | ⟨x, l, c, m, n, D, Pl, hcs, _, hl, hm, hmm, _, hel⟩
    · simp [Value.cells] at hcs
      obtain ⟨rfl, rfl, rfl⟩ := hcs
      exact places_empty none 0 a1 W
    · simp [Value.cells] at hcs
      obtain ⟨rfl, rfl, rfl⟩ := hcs
      have hcm : cap0 ≤ 9223372036854775807 := by unfold maxLen at hm; omega
      by_cases h0 : 0 < len0
      · have hlm : len0 ≤ m := by rw [hmm]; split <;> omega
        obtain ⟨b, off, ov⟩ := x
        have hov : ov = none := by
          obtain ⟨cs', h1, _⟩ := hel 0 (by omega)
          exact open_spot h1
        subst hov
        have hex : ∀ i, ∃ r : Rl, i < len0 → (0 ≤ r.1 ∧ r.1 < 18446744073709551616 ∧ 0 ≤ r.2.2.2 ∧ r.2.2.2 < 18446744073709551616) ∧ RlO W b (off + i * 4) r := by
          intro i
          by_cases hi : i < len0
          · obtain ⟨cs', h1, h2⟩ := hel i (by omega)
            obtain ⟨r, h1, h2⟩ := open_r4 h1 h2
            exact ⟨r, fun _ => ⟨h1, h2⟩⟩
          · exact ⟨(0, 0, 0, 0), fun h => absurd h hi⟩
        obtain ⟨f, hf⟩ : ∃ f : Nat → Rl, ∀ i, i < len0 → (0 ≤ (f i).1 ∧ (f i).1 < 18446744073709551616 ∧ 0 ≤ (f i).2.2.2 ∧ (f i).2.2.2 < 18446744073709551616) ∧ RlO W b (off + i * 4) (f i) := ⟨fun i => Classical.choose (hex i), fun i => Classical.choose_spec (hex i)⟩
        exact places_walk f b off len0 cap0 _ a1 W hl hcm h0 rfl (fun i hi => (hf i hi).1.2.2) (fun i hi => (hf i hi).2)
      · obtain rfl : len0 = 0 := by omega
        exact places_empty _ _ a1 W
  clear hA0 hval0
  refine wk.mono fun e W' ⟨he, bel⟩ => ?_
  subst he
  exact ⟨_, rfl, _, _, _, [], _, [], hW', trodAll_mk1 (shut_bool Try.underlying4 _), (trodAll_cons_mk (Below.trod laidOut (by kernel_rfl) (of_decide_eq_true (by kernel_rfl)) k0 bel lt0) (trodAll_cons_mk (shut_int Try.underlying3 w1) trodAll_mk0)), rfl, bel.frame _, fun h => by cases h⟩

theorem over : Rows.relaPlacesRow.holds Try.pinned (OpenSpec.ofChange Rows.relaPlacesSpec) :=
  OpenClaim.holds_of_wide 6 Try.f6 rfl rfl rfl rfl rfl rfl rfl ⟨rfl, rfl, rfl, rfl, rfl⟩ rfl rfl rfl rfl rfl (by kernel_rfl) Try.func6 (by kernel_rfl)
    (of_decide_eq_true (by kernel_rfl)) (by unfold Func.isWrapper; first | (rw [if_pos (by decide +kernel)]; kernel_rfl) | (rw [if_neg (by decide +kernel)]; exact ⟨rfl, rfl⟩))
    (fun os started H enc _ => lifted os started H enc)

theorem proved : Rows.RelaPlacesSaid := over
#print axioms proved
end Go.Proofs.Ytghbkjdjginfjaa.relaPlaces
