/-
  Proved: the statement VersOf of layer 12: for every two lists of numbers, every text and every number (of any symbol which version it has, whose it is, whether it is hidden) it returns true and leaves its arguments as they were. Conditions: none beyond those of the given row.
-/
import Derived.Test.YtnlpncgblegbkaaF9
import Derived.WalkKit
import Derived.ProofKit
import Derived.OpenShut
import Derived.ShutString
import Derived.ChangeOld
import Derived.Below
namespace Go.Proofs.Ytnlpncgblegbkaa.versOf
open Go.ChangeShapes Go.WideShapes Go.ChangeAt Go.RowKit
open Go.ChangeMaps (open_string shut_string)
set_option linter.unusedVariables false

theorem own : ownKnob Try.prog.godebug = none := by kernel_rfl
theorem laidOut : laidOutB Try.prog = true := by kernel_rfl
theorem cells50 : Try.prog.cellsOf 50 = 2 := by kernel_rfl
theorem cells49 : Try.prog.cellsOf 49 = 1 := by kernel_rfl

/-- A slice of integers that came in: none, or a row of cells. -/
def IsRow (w : World) (a : Option Addr) (len cap : Nat) : Prop :=
  (a = none ∧ len = 0 ∧ cap = 0) ∨
  ∃ x : Addr, a = some x ∧ len ≤ cap ∧ cap ≤ maxLen ∧ ∃ zs : List Int, zs.length = cap ∧ ∀ i, i < zs.length → w.cell? (x.add i) = some (.int .i64 (zs.getD i 0))

/-- .. as the walk wants it. -/
theorem row_form {w : World} {a : Option Addr} {len cap : Nat} (h : IsRow w a len cap) :
    ∃ (z : Nat → Int) (b o : Nat), len ≤ cap ∧ cap ≤ 9223372036854775807 ∧ (0 < len → b < w.heap.size) ∧ (0 < len → a = some ⟨b, o, none⟩) ∧ ∀ j, j < len → w.cell? ⟨b, o + j, none⟩ = some (.int .i64 (z j)) := by
  rcases h with ⟨rfl, rfl, rfl⟩ | ⟨x, rfl, hl, hm, zs, hz, hc⟩
  · exact ⟨fun _ => 0, 0, 0, Nat.le_refl _, by omega, fun h => absurd h (Nat.lt_irrefl _), fun h => absurd h (Nat.lt_irrefl _), fun j h => absurd h (Nat.not_lt_zero _)⟩
  · by_cases h0 : 0 < len
    · obtain ⟨b, off, rfl, hc2⟩ := ints_at hc (by omega)
      refine ⟨fun j => zs.getD j 0, b, off, hl, by unfold maxLen at hm; omega, fun _ => ?_, fun _ => rfl, fun j hj => hc2 j (by omega)⟩
      exact World.block_lt_of_cell? _ _ (hc2 0 (by omega))
    · exact ⟨fun _ => 0, 0, 0, hl, by unfold maxLen at hm; omega, fun h => absurd h h0, fun h => absurd h h0, fun j hj => by omega⟩

theorem walk (a0 a1 : Option Addr) (len0 cap0 len1 cap1 : Nat) (b : ByteArray) (i : Int) (w : World) (h0 : IsRow w a0 len0 cap0) (h1 : IsRow w a1 len1 cap1) (hb : b.size ≤ 9223372036854775807) :
    Calls Try.prog 6 #[.agg #[.slice a0 len0 cap0, .slice a1 len1 cap1], .string b, .int .i64 i] w fun e w' => e = .returned (.bool true) ∧ Below w.heap.size w w' := by
  obtain ⟨z, b1, o1, e1, e2, e3, e4, e5⟩ := row_form h0
  obtain ⟨y, b2, o2, f1, f2, f3, f4, f5⟩ := row_form h1
  haveI : Inhabited Nd := ⟨Nd.zero⟩
  exact versof_some z y b1 o1 len0 cap0 b2 o2 len1 cap1 b i w e1 f1 e2 f2 hb e3 f3 a0 a1 e4 f4 e5 f5 _ _ rfl rfl

theorem open_two {H : Type} {enc : TypeId × Value → H} {w : World} {base : Nat} {held : Bool} {r : Reach} {b0 : Nat} {v : Value} {d : DataW H} {ps : List MemPlace} (hval : Value.okWide Try.prog w r b0 50 v) (hd : DataW.Trod enc Try.prog w base (fun _ => true) held 50 v d ps) :
    ∃ a0 l0 c0 a1 l1 c1, v = .agg #[.slice a0 l0 c0, .slice a1 l1 c1] ∧ IsRow w a0 l0 c0 ∧ IsRow w a1 l1 c1 := by
  have key : ∀ (m : Nat) (c : Value) (y : DataW H × List MemPlace), DataW.trod enc Try.prog w base (fun _ => true) held m 49 [c] = some y → ∃ a l k, c = .slice a l k ∧ IsRow w a l k := by
    intro m c y hf
    rcases open_ints Try.underlying49 Try.underlying3 (by kernel_rfl) hf with ⟨hcs, _⟩ | ⟨x, l, k, zs, hcs, _, hl, hm, hz, _, hcell, _⟩
    · obtain rfl : c = .slice none 0 0 := by simpa using hcs
      exact ⟨_, _, _, rfl, .inl ⟨rfl, rfl, rfl⟩⟩
    · obtain rfl : c = .slice (some x) l k := by simpa using hcs
      exact ⟨_, _, _, rfl, .inr ⟨x, rfl, hl, hm, zs, by simpa using hz, hcell⟩⟩
  unfold Value.okWide at hval
  rw [Try.underlying50] at hval
  obtain ⟨cs, rfl, hsz, _⟩ := hval
  obtain ⟨l⟩ := cs
  obtain ⟨fuel, hf⟩ := hd
  obtain ⟨xs, m, _, hx, hl, hlen, hff⟩ := DataW.trod_array Try.underlying50 hf
  rw [cells50] at hsz
  match l, hsz, xs, hlen with
  | [c0, c1], _, [y0, y1], _ =>
    have h0 := hff 0 (by omega)
    have h1 := hff 1 (by omega)
    simp [Value.cells, cells49] at h0 h1
    obtain ⟨a0, l0, k0, rfl, r0⟩ := key _ _ _ h0
    obtain ⟨a1, l1, k1, rfl, r1⟩ := key _ _ _ h1
    exact ⟨a0, l0, k0, a1, l1, k1, rfl, r0, r1⟩

set_option maxRecDepth 100000 in
theorem lifted (os : Os) (started : os.Started) (H : Type) (enc : TypeId × Value → H) :
    ReturnsInHanded {} Try.checked os 6 .any (Rows.versOfSpec.pre6 enc Try.prog Try.f6 Rows.versOfRow.domain false) (Rows.versOfSpec.post enc Try.prog Try.f6 false true false false) := by
  refine returnsInHanded_of_change (C := Try.checked) own started (by kernel_rfl) Try.func6
    (ChangeSpec.witness6 (enc := enc) (C := Try.checked) false ⟨#[], #[.agg #[.slice none 0 0, .slice none 0 0], .string ⟨#[]⟩, .int .i64 0], []⟩ 8 (by kernel_rfl) (by kernel_rfl) (by kernel_rfl) (by kernel_rfl)) ?_
  intro W base args ds gs before hval0 hW hcnd _
  have hval : ∀ (j : Nat) t v, Try.f6.params[j]? = some t → args[j]? = some v → Value.okWide Try.prog W .any base t v := hval0
  have hW' := hW
  obtain ⟨p, q, hA0, hV, rfl, hfz, hnd⟩ := hW
  have hA : DataW.TrodAll enc Try.prog W 0 (fun _ => true) true Try.f6.params.toList args.toList ds p := hA0
  rw [Try.params6] at hA hval
  obtain ⟨v0, vs0, d0, ds0, p0, q0, hargs, rfl, rfl, h0, r0⟩ := trodAll_cons hA
  obtain ⟨v1, vs1, d1, ds1, p1, q1, rfl, rfl, rfl, h1, r1⟩ := trodAll_cons r0
  obtain ⟨v2, vs2, d2, ds2, p2, q2, rfl, rfl, rfl, h2, r2⟩ := trodAll_cons r1
  obtain ⟨rfl, rfl, rfl⟩ := trodAll_nil r2
  obtain rfl : args = #[v0, v1, v2] := by cases args; simp_all
  obtain ⟨rfl, rfl⟩ := trodVars_none hV
  have k0 := h0
  have lt0 : ∀ x ∈ p0, x.block < W.heap.size := by obtain ⟨m, hm⟩ := k0; exact DataW.trod_lt m _ _ _ hm
  obtain ⟨a0, l0, c0, a1, l1, c1, rfl, i0, i1⟩ := open_two (hval 0 50 v0 rfl rfl) h0
  obtain ⟨s1, rfl, rfl, rfl, w1⟩ := open_string Try.underlying9 (hval 1 9 v1 rfl rfl) h1
  obtain ⟨s2, rfl, rfl, rfl, w2⟩ := open_int Try.underlying3 (hval 2 3 v2 rfl rfl) h2
  clear hA0 hval0
  refine (walk a0 a1 l0 c0 l1 c1 s1 s2 W i0 i1 (by unfold maxLen at w1; omega)).mono fun e W' ⟨he, bel⟩ => ?_
  subst he
  exact ⟨_, rfl, _, _, _, [], _, [], hW', trodAll_mk1 (shut_bool Try.underlying4 _), (trodAll_cons_mk (Below.trod laidOut (by kernel_rfl) (of_decide_eq_true (by kernel_rfl)) k0 bel lt0) (trodAll_cons_mk (shut_string Try.underlying9 w1) (trodAll_cons_mk (shut_int Try.underlying3 w2) trodAll_mk0))), rfl, bel.frame _, fun h => by cases h⟩

theorem over : Rows.versOfRow.holds Try.pinned (OpenSpec.ofChange Rows.versOfSpec) :=
  OpenClaim.holds_of_wide 6 Try.f6 rfl rfl rfl rfl rfl rfl rfl ⟨rfl, rfl, rfl, rfl, rfl⟩ rfl rfl rfl rfl rfl (by kernel_rfl) Try.func6 (by kernel_rfl)
    (of_decide_eq_true (by kernel_rfl)) (by unfold Func.isWrapper; first | (rw [if_pos (by decide +kernel)]; kernel_rfl) | (rw [if_neg (by decide +kernel)]; exact ⟨rfl, rfl⟩))
    (fun os started H enc _ => lifted os started H enc)

theorem proved : Rows.VersOfSaid := over
#print axioms proved
end Go.Proofs.Ytnlpncgblegbkaa.versOf
