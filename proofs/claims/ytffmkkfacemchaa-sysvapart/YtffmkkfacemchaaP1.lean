/-
  Layer 13: Put: a table's bytes. (The Builder by the shelf.)
-/
import Derived.Test.YtffmkkfacemchaaP0
import Derived.Shelf.Strings.Builder1
namespace Go.Proofs.Ytffmkkfacemchaa
open Go.RowKit Go.Shelf
set_option linter.unusedVariables false
def Try.lays169_ren : Go.Shelf.Ren := ⟨fun | 169 => 43 | n => n, fun | 70 => 77 | 9 => 9 | 0 => 0 | 72 => 80 | 37 => 78 | 127 => 104 | 3 => 3 | 5 => 5 | n => n, fun | n => n⟩
theorem Try.lays169 : Go.Proofs.Lays.n169 Try.prog Try.lays169_ren := {
  mixed := by kernel_rfl
  f169 := Try.func43.trans (congrArg some (by kernel_rfl))
  t0 := Try.underlying0
  a0 := Try.isAgg0
  z0 := Try.sizeOf0
  v0 := Try.zeroValue0
  t3 := Try.underlying3
  a3 := Try.isAgg3
  z3 := Try.sizeOf3
  v3 := Try.zeroValue3
  t9 := Try.underlying9
  a9 := Try.isAgg9
  z9 := Try.sizeOf9
  v9 := Try.zeroValue9
  t37 := Try.underlying78
  a37 := Try.isAgg78
  z37 := Try.sizeOf78
  v37 := Try.zeroValue78
  t70 := Try.underlying77
  a70 := Try.isAgg77
  z70 := Try.sizeOf77
  v70 := Try.zeroValue77
  t72 := Try.underlying80
  a72 := Try.isAgg80
  z72 := Try.sizeOf80
  v72 := Try.zeroValue80
  t127 := Try.underlying104
  a127 := Try.isAgg104
  z127 := Try.sizeOf104
  v127 := Try.zeroValue104 }
theorem Try.extra169 : Builder.Extra Try.prog Try.lays169_ren := {
  sizeBuilder := by kernel_rfl
  liesBuilder := by kernel_rfl
  t5 := Try.underlying5
  a5 := Try.isAgg5
  z5 := Try.sizeOf5
  v5 := Try.zeroValue5
  infoByte := by kernel_rfl
  cellsByte := by kernel_rfl
  sizeByte := by kernel_rfl
  neB5 := by decide }
theorem bstring (B b : Nat) (l : List UInt8) (w : World) (h : Lib.IsBuilder 80 5 B b (Lib.byteCells l) w) (h0 : l ≠ []) :
    Calls Try.prog 43 #[.pointer (some ⟨b, 0, none⟩)] w fun e w' => e = .returned (.string ⟨l.toArray⟩) ∧ Below B w w' := Any.Builder_String Try.lays169 Try.extra169 B b l w h h0

theorem row_below {W W' : World} {base n size : Nat} {e : TypeId} {v : Value} {xs : List Value} (h : W.ownsRow base e size v n xs) (hb : Below W.heap.size W W') : W'.ownsRow base e size v n xs := by
  refine ⟨h.1, ?_⟩
  rcases h.2 with hn | ⟨g, cap, cur, rfl, hb1, hgg, rest⟩
  · exact .inl hn
  · exact .inr ⟨g, cap, cur, rfl, hb1, (hb.block g (Array.getElem?_eq_some_iff.1 hgg).1).trans hgg, rest⟩
theorem builder_below {B b : Nat} {bs : List Value} {W W' : World} (h : Lib.IsBuilder 80 5 B b bs W) (hb : Below W.heap.size W W') : Lib.IsBuilder 80 5 B b bs W' := by
  have key : ∀ p, Lib.BuilderAt 80 5 B b p bs W → Lib.BuilderAt 80 5 B b p bs W' := by
    rintro p ⟨h1, v, h2, h3, h4⟩
    exact ⟨h1, v, (hb.block b (Array.getElem?_eq_some_iff.1 h2).1).trans h2, row_below h3 hb, h4⟩
  rcases h with h | h
  · exact .inl (key _ h)
  · exact .inr (key _ h)
theorem byteCells_app (l m : List UInt8) : Lib.byteCells l ++ Lib.byteCells m = Lib.byteCells (l ++ m) := by simp [Lib.byteCells]

set_option maxHeartbeats 1000000 in
theorem put1_any (N B b : Nat) (l : List UInt8) (w : World) (h : Lib.IsBuilder 80 5 B b (Lib.byteCells l) w) (hlen : l.length ≤ 100000) (hBw : B ≤ w.heap.size) :
    Calls Try.prog 40 #[.int .u64 (N : Int), .pointer (some ⟨b, 0, none⟩)] w fun e w' => e = .returned (.tuple #[]) ∧ Lib.IsBuilder 80 5 B b (Lib.byteCells (l ++ enc N 4)) w' ∧ Below B w w' := by
  have P4 : ∀ W, Calls Try.prog 42 #[.int .u64 (N : Int), .int .i64 4] W fun e w' => e = .returned (.string ⟨(enc N 4).toArray⟩) ∧ Below W.heap.size W w' := fun W => put_yes N 4 W (by omega) (by omega)
  have HW : ∀ w1, Below w.heap.size w w1 → Calls Try.prog 41 #[.pointer (some ⟨b, 0, none⟩), .string ⟨(enc N 4).toArray⟩] w1 fun e w' => e = .returned (.tuple #[.int .i64 4, .nilIface]) ∧ Hid (Lib.IsBuilder 80 5 B b (Lib.byteCells (l ++ enc N 4)) w') ∧ Below B w1 w' := fun w1 hb1 => by
    have hs : (⟨(enc N 4).toArray⟩ : ByteArray).size = 4 := by simp [ByteArray.size, enc_length]
    refine (bwrite B b (Lib.byteCells l) ⟨(enc N 4).toArray⟩ w1 (builder_below h hb1) (by rw [Lib.byteCells_length, hs]; omega) (Nat.le_trans hBw hb1.size)).mono ?_
    rintro e w' ⟨rfl, h2, h3⟩
    refine ⟨by rw [hs]; rfl, .inr ?_, h3⟩
    have e1 : Lib.strCells ⟨(enc N 4).toArray⟩ = Lib.byteCells (enc N 4) := rfl
    rw [e1, byteCells_app] at h2
    exact h2
  generalize (⟨(enc N 4).toArray⟩ : ByteArray) = s at P4 HW
  clear h
  go_enter Try.func40, Try.ntmps40
  go_wp2_with (first
    | (go_at_call 42; refine (P4 _).mono ?_; rintro e w1 ⟨rfl, hb1⟩)
    | (go_at_call 41; refine (HW _ hb1).mono ?_; rintro e w2 ⟨rfl, HB2, hb2⟩))
  go_end0
  exact ⟨rfl, HB2.out, (hb1.mono hBw).trans hb2⟩
end Go.Proofs.Ytffmkkfacemchaa
