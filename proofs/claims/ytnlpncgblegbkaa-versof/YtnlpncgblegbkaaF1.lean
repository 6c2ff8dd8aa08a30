/-
  Layer 12: slices.IndexFunc over definitions and over needs, by the closures of Of. No condition.
-/
import Derived.Test.YtnlpncgblegbkaaK1
import Derived.Shelf.SlicesQ.IndexFunc
import Derived.Ground.SlgfProg
namespace Go.Proofs.Ytnlpncgblegbkaa
open Go.RowKit Go.Shelf Go.Lib
set_option linter.unusedVariables false
def Try.l31_ren : Go.Shelf.Ren := ⟨fun | 6 => 31 | n => n, fun | 22 => 26 | 23 => 38 | 25 => 80 | 3 => 3 | 0 => 0 | 4 => 4 | n => n, fun | n => n⟩
theorem Try.l31 : Go.Proofs.SlLaysH0.n6 Try.prog Try.l31_ren := {
  mixed := by kernel_rfl
  f6 := ⟨Try.f31.name, by decide, Try.func31.trans (congrArg some (by kernel_rfl))⟩
  t0 := Try.underlying0
  a0 := Try.isAgg0
  z0 := Try.sizeOf0
  v0 := Try.zeroValue0
  t3 := Try.underlying3
  a3 := Try.isAgg3
  z3 := Try.sizeOf3
  v3 := Try.zeroValue3
  t4 := Try.underlying4
  a4 := Try.isAgg4
  z4 := Try.sizeOf4
  v4 := Try.zeroValue4
  t22 := Try.underlying26
  a22 := Try.isAgg26
  z22 := Try.sizeOf26
  v22 := Try.zeroValue26
  t25 := Try.underlying80
  a25 := Try.isAgg80
  z25 := Try.sizeOf80
  v25 := Try.zeroValue80 }
def Try.l33_ren : Go.Shelf.Ren := ⟨fun | 6 => 33 | n => n, fun | 22 => 40 | 23 => 48 | 25 => 82 | 3 => 3 | 0 => 0 | 4 => 4 | n => n, fun | n => n⟩
theorem Try.l33 : Go.Proofs.SlLaysH0.n6 Try.prog Try.l33_ren := {
  mixed := by kernel_rfl
  f6 := ⟨Try.f33.name, by decide, Try.func33.trans (congrArg some (by kernel_rfl))⟩
  t0 := Try.underlying0
  a0 := Try.isAgg0
  z0 := Try.sizeOf0
  v0 := Try.zeroValue0
  t3 := Try.underlying3
  a3 := Try.isAgg3
  z3 := Try.sizeOf3
  v3 := Try.zeroValue3
  t4 := Try.underlying4
  a4 := Try.isAgg4
  z4 := Try.sizeOf4
  v4 := Try.zeroValue4
  t22 := Try.underlying40
  a22 := Try.isAgg40
  z22 := Try.sizeOf40
  v22 := Try.zeroValue40
  t25 := Try.underlying82
  a25 := Try.isAgg82
  z25 := Try.sizeOf82
  v25 := Try.zeroValue82 }

abbrev Df := Int × ByteArray
def dfC (x : Df) : List Value := [.int .i64 x.1, .string x.2]

theorem pred32 (k : Int) (B : Nat) (w : World) (hB : B < w.heap.size) (hcell : w.cell? ⟨B, 0, none⟩ = some (.int .i64 k)) :
    PredBelow Try.prog 32 #[.pointer (some ⟨B, 0, none⟩)] (fun x => .agg (dfC x).toArray) (fun x => x.1 == k) w := fun W x hb => by
  have hc : W.cell? ⟨B, 0, none⟩ = some (.int .i64 k) := (hb.cell (p := ⟨B, 0, none⟩) hB).trans hcell
  have hBW : B < W.heap.size := Nat.lt_of_lt_of_le hB hb.size
  have hne : B ≠ W.heap.size := by omega
  show Calls Try.prog 32 #[.agg #[.int .i64 x.1, .string x.2], .pointer (some ⟨B, 0, none⟩)] W _
  go_enter Try.func32, Try.ntmps32
  go_wp2
  all_goals (go_ret; exact ⟨by simp_all, hb.alloc hb.size _⟩)

theorem pred34 (k : Int) (B : Nat) (w : World) (hB : B < w.heap.size) (hcell : w.cell? ⟨B, 0, none⟩ = some (.int .i64 k)) :
    PredBelow Try.prog 34 #[.pointer (some ⟨B, 0, none⟩)] (fun x => .agg (Nd.cells x).toArray) (fun x => x.n == k) w := fun W x hb => by
  have hc : W.cell? ⟨B, 0, none⟩ = some (.int .i64 k) := (hb.cell (p := ⟨B, 0, none⟩) hB).trans hcell
  have hBW : B < W.heap.size := Nat.lt_of_lt_of_le hB hb.size
  have hne : B ≠ W.heap.size := by omega
  show Calls Try.prog 34 #[.agg #[.int .i64 x.n, .string x.file, .string x.name, .bool x.weak], .pointer (some ⟨B, 0, none⟩)] W _
  go_enter Try.func34, Try.ntmps34
  go_wp2
  all_goals (go_ret; exact ⟨by simp_all, hb.alloc hb.size _⟩)

/-- A slice of them: none at all, or cells that lie in w. -/
def SlD (w : World) (sl : Value) (zs : List Df) : Prop :=
  (zs = [] ∧ sl = .slice none 0 0) ∨ ∃ b off c, sl = .slice (some ⟨b, off, none⟩) zs.length c ∧ b < w.heap.size ∧ ∀ j, j < zs.length → ∀ i v, (dfC zs[j]!)[i]? = some v → w.cell? ⟨b, off + j * 2 + i, none⟩ = some v
theorem SlD.below {w W : World} {sl : Value} {zs : List Df} (h : SlD w sl zs) (hb : Below w.heap.size w W) : SlD W sl zs := by
  rcases h with h | ⟨b, off, c, h1, h2, h3⟩
  · exact Or.inl h
  · exact Or.inr ⟨b, off, c, h1, Nat.lt_of_lt_of_le h2 hb.size, fun j hj i v hi => (hb.cell (p := ⟨b, off + j * 2 + i, none⟩) h2).trans (h3 j hj i v hi)⟩
set_option maxHeartbeats 1000000 in
theorem indexD (zs : List Df) (sl : Value) (k : Int) (B : Nat) (w : World) (hs : SlD w sl zs) (hbig : zs.length ≤ 9223372036854775807) (hB : B < w.heap.size) (hcell : w.cell? ⟨B, 0, none⟩ = some (.int .i64 k)) :
    Calls Try.prog 31 #[sl, .func (.func 32) #[] #[.pointer (some ⟨B, 0, none⟩)]] w fun e w' => e = .returned (.int .i64 (Lib.idxBy (fun _ y => y.1 == k) zs default)) ∧ Below w.heap.size w w' := by
  rcases hs with ⟨rfl, rfl⟩ | ⟨b, off, c, rfl, hb, hc⟩
  · go_enter Try.func31, Try.ntmps31
    go_wp2
    go_loopg [5, 8] 0 (fun gg _ s8 wr => s8 = .int .i64 0 ∧ Aside (Below w.heap.size w wr))
    case atStart => exact ⟨rfl, Below.refl _ w⟩
    case round =>
      obtain ⟨rfl, BW⟩ := hrel
      go_wp2
      go_ret
      exact ⟨rfl, BW.out⟩
  · have eg : ∀ args w, (callFunc 32 args).run Try.prog w = .ok (.enter 32 args) w := enters_of Try.func32 (by kernel_rfl) rfl
    have h := AnyQ.slices_IndexFunc Try.l31 2 Try.isAgg38 Try.sizeOf38 dfC (fun _ => rfl) (fun x => x.1 == k) 32 #[.pointer (some ⟨B, 0, none⟩)] eg b off zs.length c zs w (pred32 k B w hB hcell) (Nat.le_refl _) hbig hb hc
    rw [List.take_length] at h
    exact h

/-- A slice of them: none at all, or cells that lie in w. -/
def SlN [Inhabited Nd] (w : World) (sl : Value) (zs : List Nd) : Prop :=
  (zs = [] ∧ sl = .slice none 0 0) ∨ ∃ b off c, sl = .slice (some ⟨b, off, none⟩) zs.length c ∧ b < w.heap.size ∧ ∀ j, j < zs.length → ∀ i v, (Nd.cells zs[j]!)[i]? = some v → w.cell? ⟨b, off + j * 4 + i, none⟩ = some v
theorem SlN.below [Inhabited Nd] {w W : World} {sl : Value} {zs : List Nd} (h : SlN w sl zs) (hb : Below w.heap.size w W) : SlN W sl zs := by
  rcases h with h | ⟨b, off, c, h1, h2, h3⟩
  · exact Or.inl h
  · exact Or.inr ⟨b, off, c, h1, Nat.lt_of_lt_of_le h2 hb.size, fun j hj i v hi => (hb.cell (p := ⟨b, off + j * 4 + i, none⟩) h2).trans (h3 j hj i v hi)⟩
set_option maxHeartbeats 1000000 in
theorem indexN [Inhabited Nd] (zs : List Nd) (sl : Value) (k : Int) (B : Nat) (w : World) (hs : SlN w sl zs) (hbig : zs.length ≤ 9223372036854775807) (hB : B < w.heap.size) (hcell : w.cell? ⟨B, 0, none⟩ = some (.int .i64 k)) :
    Calls Try.prog 33 #[sl, .func (.func 34) #[] #[.pointer (some ⟨B, 0, none⟩)]] w fun e w' => e = .returned (.int .i64 (Lib.idxBy (fun _ y => y.n == k) zs default)) ∧ Below w.heap.size w w' := by
  rcases hs with ⟨rfl, rfl⟩ | ⟨b, off, c, rfl, hb, hc⟩
  · go_enter Try.func33, Try.ntmps33
    go_wp2
    go_loopg [5, 8] 0 (fun gg _ s8 wr => s8 = .int .i64 0 ∧ Aside (Below w.heap.size w wr))
    case atStart => exact ⟨rfl, Below.refl _ w⟩
    case round =>
      obtain ⟨rfl, BW⟩ := hrel
      go_wp2
      go_ret
      exact ⟨rfl, BW.out⟩
  · have eg : ∀ args w, (callFunc 34 args).run Try.prog w = .ok (.enter 34 args) w := enters_of Try.func34 (by kernel_rfl) rfl
    have h := AnyQ.slices_IndexFunc Try.l33 4 Try.isAgg48 Try.sizeOf48 Nd.cells (fun _ => rfl) (fun x => x.n == k) 34 #[.pointer (some ⟨B, 0, none⟩)] eg b off zs.length c zs w (pred34 k B w hB hcell) (Nat.le_refl _) hbig hb hc
    rw [List.take_length] at h
    exact h
end Go.Proofs.Ytnlpncgblegbkaa
