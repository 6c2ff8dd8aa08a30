/-
  Proved: the statement SpanStops of layer 3: for every list of spans and every number (a set's spans rise, and never touch; one may stop early) it returns true and leaves its arguments as they were. Conditions: none beyond those of the given row.
-/
import Derived.Test.YtcdgogcbijohcaaStops
import Derived.Deep.Slices
import Derived.WalkKit
import Derived.ProofKit
import Derived.OpenShut
namespace Go.Proofs.Ytcdgogcbijohcaa.spanStops
open Go.ChangeShapes Go.WideShapes Go.ChangeAt Go.RowKit
set_option linter.unusedVariables false

theorem own : ownKnob Try.prog.godebug = none := by kernel_rfl
theorem laidOut : laidOutB Try.prog = true := by kernel_rfl
theorem cells31 : Try.prog.cellsOf 31 = 1 := by kernel_rfl
theorem cells43 : Try.prog.cellsOf 43 = 2 := by kernel_rfl
theorem list2 {α : Type} (l : List α) (h : (⟨l⟩ : Array α).size = 2) : ∃ a b, l = [a, b] := by
  match l, h with
  | [a, b], _ => exact ⟨a, b, rfl⟩

theorem trod2 {H : Type} {enc : TypeId × Value → H} {w : World} {base : Nat} {spare : Nat → Bool} {held : Bool} {fuel : Nat} {c0 c1 : Value} {x : DataW H × List MemPlace} (h : DataW.trod enc Try.prog w base spare held fuel 43 [c0, c1] = some x) :
    ∃ y0 y1 n, DataW.trod enc Try.prog w base spare held n 31 [c0] = some y0 ∧ DataW.trod enc Try.prog w base spare held n 31 [c1] = some y1 := by
  cases fuel with
  | zero => simp [DataW.trod] at h
  | succ n =>
    unfold DataW.trod at h
    rw [Try.underlying43] at h
    have r2 : List.range 2 = [0, 1] := rfl
    simp [r2, cells31] at h
    obtain ⟨_, h⟩ := h
    cases h0 : DataW.trod enc Try.prog w base spare held n 31 [c0] with
    | none => simp [h0] at h
    | some y0 =>
      cases h1 : DataW.trod enc Try.prog w base spare held n 31 [c1] with
      | none => simp [h0, h1] at h
      | some y1 => exact ⟨y0, y1, n, h0, h1⟩

theorem open_spot {w : World} {base b off : Nat} {ov : Option Nat} {cs : List Value} (h1 : w.cells? base ((⟨b, off, ov⟩ : Addr).add (0 * Try.prog.cellsOf 43)) (Try.prog.cellsOf 43) = some cs) : ov = none := by
  rw [cells43] at h1
  obtain ⟨_, hlen, hcell⟩ := World.cells?_some h1
  have k0 := hcell 0 (by omega)
  match cs, hlen with
  | [c0, c1], _ => simpa [Addr.add] using World.cell?_spot k0

/-- An element of the slice that came in. -/
theorem open_el {H : Type} {enc : TypeId × Value → H} {w : World} {base b off i fuel : Nat} {spare : Nat → Bool} {held : Bool} {cs : List Value} {x : DataW H × List MemPlace}
    (h1 : w.cells? base ((⟨b, off, none⟩ : Addr).add (i * Try.prog.cellsOf 43)) (Try.prog.cellsOf 43) = some cs) (h2 : DataW.trod enc Try.prog w base spare held fuel 43 cs = some x) :
    ∃ lo hi : Int, 0 ≤ lo ∧ lo < 18446744073709551616 ∧ 0 ≤ hi ∧ hi < 18446744073709551616 ∧ w.cell? ⟨b, off + i * 2, none⟩ = some (.int .u64 lo) ∧ w.cell? ⟨b, off + i * 2 + 1, none⟩ = some (.int .u64 hi) := by
  rw [cells43] at h1
  obtain ⟨_, hlen, hcell⟩ := World.cells?_some h1
  match cs, hlen with
  | [c0, c1], _ =>
    obtain ⟨y0, y1, m, hy0, hy1⟩ := trod2 h2
    obtain ⟨x0, e0, _, w0⟩ := DataW.trod_int Try.underlying31 hy0
    obtain ⟨x1, e1, _, w1⟩ := DataW.trod_int Try.underlying31 hy1
    simp at e0 e1
    subst e0 e1
    have b0 := bounds_u64 w0
    have b1 := bounds_u64 w1
    have key : ∀ j, j < 2 → w.cell? ⟨b, off + i * 2 + j, none⟩ = [Value.int .u64 x0, .int .u64 x1][j]? := by
      intro j hj
      have := hcell j hj
      rw [Go.WideShapes.add_plain, Go.WideShapes.add_plain] at this
      exact this
    exact ⟨x0, x1, b0.1, by omega, b1.1, by omega, key 0 (by omega), key 1 (by omega)⟩

set_option maxRecDepth 100000 in
theorem lifted (os : Os) (started : os.Started) (H : Type) (enc : TypeId × Value → H) :
    ReturnsInHanded {} Try.checked os 7 .any (Rows.spanStopsSpec.pre6 enc Try.prog Try.f7 Rows.spanStopsRow.domain false) (Rows.spanStopsSpec.post enc Try.prog Try.f7 false true false false) := by
  refine returnsInHanded_of_change (C := Try.checked) own started (by kernel_rfl) Try.func7
    (ChangeSpec.witness6 (enc := enc) (C := Try.checked) false ⟨#[], #[.slice none 0 0, .int .i64 0], []⟩ 8 (by kernel_rfl) (by kernel_rfl) (by kernel_rfl) (by kernel_rfl)) ?_
  intro W base args ds gs before hval0 hW hcnd _
  have hval : ∀ (j : Nat) t v, Try.f7.params[j]? = some t → args[j]? = some v → Value.okWide Try.prog W .any base t v := hval0
  have hW' := hW
  obtain ⟨p, q, hA0, hV, rfl, hfz, hnd⟩ := hW
  have hA : DataW.TrodAll enc Try.prog W 0 (fun _ => true) true Try.f7.params.toList args.toList ds p := hA0
  rw [Try.params7] at hA hval
  obtain ⟨v0, vs0, d0, ds0, p0, q0, hargs, rfl, rfl, h0, r0⟩ := trodAll_cons hA
  obtain ⟨v1, vs1, d1, ds1, p1, q1, rfl, rfl, rfl, h1, r1⟩ := trodAll_cons r0
  obtain ⟨rfl, rfl, rfl⟩ := trodAll_nil r1
  obtain rfl : args = #[v0, v1] := by cases args; simp_all
  obtain ⟨rfl, rfl⟩ := trodVars_none hV
  obtain ⟨a0, len0, cap0, rfl⟩ := okWide_slice Try.underlying47 (hval 0 47 v0 rfl rfl)
  have k0 := h0
  have lt0 : ∀ x ∈ p0, x.block < W.heap.size := by obtain ⟨m, hm⟩ := k0; exact DataW.trod_lt m _ _ _ hm
  have wk : ∀ a1 : Int, Calls Try.prog 7 #[.slice a0 len0 cap0, .int .i64 a1] W fun e w' => e = .returned (.bool true) ∧ Below W.heap.size W w' := by
    intro a1
    obtain ⟨fuel, hf⟩ := h0
    rcases Go.Deep.open_slice Try.underlying47 hf with ⟨hcs, _⟩ | ⟨x, l, c, m, n, D, Pl, hcs, _, hl, hm, hmm, _, hel⟩
    · simp [Value.cells] at hcs
      obtain ⟨rfl, rfl, rfl⟩ := hcs
      exact stops_walk none 0 0 a1 W (fun i hi => absurd hi (by omega)) (by omega)
    · simp [Value.cells] at hcs
      obtain ⟨rfl, rfl, rfl⟩ := hcs
      have hlm : len0 ≤ m := by rw [hmm]; split <;> omega
      refine stops_walk _ len0 cap0 a1 W (fun i hi => ?_) (by unfold maxLen at hm; omega)
      obtain ⟨b, off, ov⟩ := x
      have hov : ov = none := by
        obtain ⟨cs', h1, _⟩ := hel 0 (by omega)
        exact open_spot h1
      subst hov
      obtain ⟨cs', h1, h2⟩ := hel i (by omega)
      obtain ⟨lo, hi', b1, b2, b3, b4, c1, c2⟩ := open_el h1 h2
      exact ⟨b, off, lo, hi', rfl, b1, b2, b3, b4, c1, c2⟩
  obtain ⟨a1, rfl, rfl, rfl, w1⟩ := open_int Try.underlying3 (hval 1 3 v1 rfl rfl) h1
  clear hA0 hval0
  refine (wk a1).mono fun e W' ⟨he, bel⟩ => ?_
  subst he
  exact ⟨_, rfl, _, _, _, [], _, [], hW', trodAll_mk1 (shut_bool Try.underlying4 _), (trodAll_cons_mk (Below.trod laidOut (by kernel_rfl) (of_decide_eq_true (by kernel_rfl)) k0 bel lt0) (trodAll_cons_mk (shut_int Try.underlying3 w1) trodAll_mk0)), rfl, bel.frame _, fun h => by cases h⟩

theorem over : Rows.spanStopsRow.holds Try.pinned (OpenSpec.ofChange Rows.spanStopsSpec) :=
  OpenClaim.holds_of_wide 7 Try.f7 rfl rfl rfl rfl rfl rfl rfl ⟨rfl, rfl, rfl, rfl, rfl⟩ rfl rfl rfl rfl rfl (by kernel_rfl) Try.func7 (by kernel_rfl)
    (of_decide_eq_true (by kernel_rfl)) (by unfold Func.isWrapper; first | (rw [if_pos (by decide +kernel)]; kernel_rfl) | (rw [if_neg (by decide +kernel)]; exact ⟨rfl, rfl⟩))
    (fun os started H enc _ => lifted os started H enc)

theorem proved : Rows.SpanStopsSaid := over
#print axioms proved
end Go.Proofs.Ytcdgogcbijohcaa.spanStops
