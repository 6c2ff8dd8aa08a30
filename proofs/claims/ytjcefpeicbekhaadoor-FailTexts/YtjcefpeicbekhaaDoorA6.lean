/-
  Layer 2: strconv.ParseUint (base 16) and address of any text: each returns a number, whatever the text is. Conditions: the text's length; the two error variables of strconv hold errors.
-/
import Derived.Test.YtjcefpeicbekhaaDoorA5
import Derived.Shelf.Pu.ToError
import Derived.Shelf.Pu.ToErrorRange
import Derived.Shelf.Lay
import Derived.Ground.MpProg
namespace Go.Proofs
open Go.Shelf
def YtjcefpeicbekhaaDoor.laysPu17_ren : Go.Shelf.Ren := ⟨fun | 17 => 33 | 21 => 46 | 22 => 47 | 23 => 48 | 24 => 49 | 25 => 58 | 27 => 60 | 26 => 59 | 28 => 63 | 29 => 64 | 30 => 25 | 31 => 26 | 32 => 27 | 33 => 28 | 35 => 36 | 34 => 35 | 36 => 37 | 37 => 38 | 38 => 39 | 39 => 51 | 40 => 52 | n => n, fun | 9 => 9 | 3 => 3 | 24 => 51 | 34 => 76 | 4 => 4 | 39 => 78 | 44 => 85 | 37 => 58 | 0 => 0 | 47 => 95 | 50 => 98 | 48 => 96 | 2 => 2 | 52 => 55 | 22 => 22 | 5 => 5 | 55 => 59 | 59 => 66 | 60 => 67 | 20 => 20 | 61 => 68 | 36 => 70 | 65 => 87 | 66 => 88 | 67 => 27 | n => n, fun | 0 => 3 | 1 => 4 | 2 => 1 | 3 => 5 | 4 => 6 | n => n⟩
theorem YtjcefpeicbekhaaDoor.laysPu17 : Go.Proofs.LaysPu.n17 Tryd.prog YtjcefpeicbekhaaDoor.laysPu17_ren := {
  mixed := by kernel_rfl
  f17 := Tryd.func33.trans (congrArg some (by kernel_rfl))
  f21 := Tryd.func46.trans (congrArg some (by kernel_rfl))
  f22 := Tryd.func47.trans (congrArg some (by kernel_rfl))
  f23 := Tryd.func48.trans (congrArg some (by kernel_rfl))
  f24 := Tryd.func49.trans (congrArg some (by kernel_rfl))
  f25 := Tryd.func58.trans (congrArg some (by kernel_rfl))
  f26 := Tryd.func59.trans (congrArg some (by kernel_rfl))
  f27 := Tryd.func60.trans (congrArg some (by kernel_rfl))
  f28 := Tryd.func63.trans (congrArg some (by kernel_rfl))
  f29 := Tryd.func64.trans (congrArg some (by kernel_rfl))
  f30 := Tryd.func25.trans (congrArg some (by kernel_rfl))
  f31 := Tryd.func26.trans (congrArg some (by kernel_rfl))
  f32 := Tryd.func27.trans (congrArg some (by kernel_rfl))
  f33 := Tryd.func28.trans (congrArg some (by kernel_rfl))
  f34 := Tryd.func35.trans (congrArg some (by kernel_rfl))
  f35 := Tryd.func36.trans (congrArg some (by kernel_rfl))
  f36 := Tryd.func37.trans (congrArg some (by kernel_rfl))
  f37 := Tryd.func38.trans (congrArg some (by kernel_rfl))
  f38 := Tryd.func39.trans (congrArg some (by kernel_rfl))
  f39 := Tryd.func51.trans (congrArg some (by kernel_rfl))
  f40 := Tryd.func52.trans (congrArg some (by kernel_rfl))
  t0 := Tryd.underlying0
  a0 := Tryd.isAgg0
  z0 := Tryd.sizeOf0
  v0 := Tryd.zeroValue0
  i0 := by kernel_rfl
  t2 := Tryd.underlying2
  a2 := Tryd.isAgg2
  z2 := Tryd.sizeOf2
  v2 := Tryd.zeroValue2
  i2 := by kernel_rfl
  t3 := Tryd.underlying3
  a3 := Tryd.isAgg3
  z3 := Tryd.sizeOf3
  v3 := Tryd.zeroValue3
  i3 := by kernel_rfl
  t4 := Tryd.underlying4
  a4 := Tryd.isAgg4
  z4 := Tryd.sizeOf4
  v4 := Tryd.zeroValue4
  i4 := by kernel_rfl
  t5 := Tryd.underlying5
  a5 := Tryd.isAgg5
  z5 := Tryd.sizeOf5
  v5 := Tryd.zeroValue5
  i5 := by kernel_rfl
  t9 := Tryd.underlying9
  a9 := Tryd.isAgg9
  z9 := Tryd.sizeOf9
  v9 := Tryd.zeroValue9
  i9 := by kernel_rfl
  t20 := Tryd.underlying20
  a20 := Tryd.isAgg20
  z20 := Tryd.sizeOf20
  v20 := Tryd.zeroValue20
  i20 := by kernel_rfl
  t22 := Tryd.underlying22
  a22 := Tryd.isAgg22
  z22 := Tryd.sizeOf22
  v22 := Tryd.zeroValue22
  i22 := by kernel_rfl
  t24 := Tryd.underlying51
  a24 := Tryd.isAgg51
  z24 := Tryd.sizeOf51
  v24 := Tryd.zeroValue51
  i24 := by kernel_rfl
  t34 := Tryd.underlying76
  a34 := Tryd.isAgg76
  z34 := Tryd.sizeOf76
  v34 := Tryd.zeroValue76
  i34 := by kernel_rfl
  c34 := by kernel_rfl
  t36 := Tryd.underlying70
  a36 := Tryd.isAgg70
  z36 := Tryd.sizeOf70
  v36 := Tryd.zeroValue70
  i36 := by kernel_rfl
  t37 := Tryd.underlying58
  a37 := Tryd.isAgg58
  z37 := Tryd.sizeOf58
  v37 := Tryd.zeroValue58
  i37 := by kernel_rfl
  t39 := Tryd.underlying78
  a39 := Tryd.isAgg78
  z39 := Tryd.sizeOf78
  v39 := Tryd.zeroValue78
  i39 := by kernel_rfl
  t44 := Tryd.underlying85
  a44 := Tryd.isAgg85
  z44 := Tryd.sizeOf85
  v44 := Tryd.zeroValue85
  i44 := by kernel_rfl
  t47 := Tryd.underlying95
  a47 := Tryd.isAgg95
  z47 := Tryd.sizeOf95
  v47 := Tryd.zeroValue95
  i47 := by kernel_rfl
  t48 := Tryd.underlying96
  a48 := Tryd.isAgg96
  z48 := Tryd.sizeOf96
  v48 := Tryd.zeroValue96
  i48 := by kernel_rfl
  t50 := Tryd.underlying98
  a50 := Tryd.isAgg98
  z50 := Tryd.sizeOf98
  v50 := Tryd.zeroValue98
  i50 := by kernel_rfl
  t52 := Tryd.underlying55
  a52 := Tryd.isAgg55
  z52 := Tryd.sizeOf55
  v52 := Tryd.zeroValue55
  i52 := by kernel_rfl
  t55 := Tryd.underlying59
  a55 := Tryd.isAgg59
  z55 := Tryd.sizeOf59
  v55 := Tryd.zeroValue59
  i55 := by kernel_rfl
  t59 := Tryd.underlying66
  a59 := Tryd.isAgg66
  z59 := Tryd.sizeOf66
  v59 := Tryd.zeroValue66
  i59 := by kernel_rfl
  t60 := Tryd.underlying67
  a60 := Tryd.isAgg67
  z60 := Tryd.sizeOf67
  v60 := Tryd.zeroValue67
  i60 := by kernel_rfl
  t61 := Tryd.underlying68
  a61 := Tryd.isAgg68
  z61 := Tryd.sizeOf68
  t65 := Tryd.underlying87
  a65 := Tryd.isAgg87
  z65 := Tryd.sizeOf87
  v65 := Tryd.zeroValue87
  i65 := by kernel_rfl
  t66 := Tryd.underlying88
  a66 := Tryd.isAgg88
  z66 := Tryd.sizeOf88
  v66 := Tryd.zeroValue88
  i66 := by kernel_rfl
  t67 := Tryd.underlying27
  a67 := Tryd.isAgg27
  z67 := Tryd.sizeOf27
  v67 := Tryd.zeroValue27
  i67 := by kernel_rfl
  g0 := by kernel_rfl
  m0 := by kernel_rfl
  g1 := by kernel_rfl
  m1 := by kernel_rfl
  g2 := by kernel_rfl
  m2 := by kernel_rfl
  g3 := by kernel_rfl
  m3 := by kernel_rfl
  g4 := by kernel_rfl
  m4 := by kernel_rfl }
end Go.Proofs
namespace Go.Proofs.YtjcefpeicbekhaaDoor
open Go.ChangeShapes Go.WideShapes Go.ChangeAt Go.RowKit
set_option linter.unusedVariables false

/-- The two error variables of strconv hold errors. -/
structure Errs (w : World) : Prop where
  syn : ∃ t p, w.cell? ⟨3, 0, none⟩ = some (.iface t p)
  rng : ∃ t p, w.cell? ⟨4, 0, none⟩ = some (.iface t p)
  room : 4 < w.heap.size
theorem Errs.next {w w' : World} (h : Errs w) (hb : Below w.heap.size w w') : Errs w' := by
  obtain ⟨⟨t, p, h1⟩, ⟨t', p', h2⟩, h3⟩ := h
  exact ⟨⟨t, p, (hb.cell (p := ⟨3, 0, none⟩) (show 3 < w.heap.size by omega)).trans h1⟩, ⟨t', p', (hb.cell (p := ⟨4, 0, none⟩) (show 4 < w.heap.size by omega)).trans h2⟩, Nat.lt_of_lt_of_le h3 hb.size⟩

theorem to_syn (fn s : ByteArray) (w : World) (hs : s.size ≤ 1000) (he : Errs w) :
    Calls Tryd.prog 33 #[.string fn, .string s, .int .i64 16, .int .i64 64, .iface 76 (.int .i64 2)] w fun x w' => (∃ t p, x = .returned (.iface t p)) ∧ Below w.heap.size w w' := by
  obtain ⟨t, p, h⟩ := he.syn
  exact (AnyPu.strconv_toError_syntax laysPu17 fn s 16 64 (.iface t p) w (by omega) h (.inr ⟨_, _, rfl⟩)).mono fun e w' ⟨N, h1, _, _, h4⟩ => ⟨⟨_, _, h1⟩, h4⟩
theorem to_rng (fn s : ByteArray) (w : World) (hs : s.size ≤ 1000) (he : Errs w) :
    Calls Tryd.prog 33 #[.string fn, .string s, .int .i64 16, .int .i64 64, .iface 76 (.int .i64 1)] w fun x w' => (∃ t p, x = .returned (.iface t p)) ∧ Below w.heap.size w w' := by
  obtain ⟨t, p, h⟩ := he.rng
  exact (AnyPu.strconv_toError_range laysPu17 fn s 16 64 (.iface t p) w (by omega) h (.inr ⟨_, _, rfl⟩)).mono fun e w' ⟨N, h1, _, _, h4⟩ => ⟨⟨_, _, h1⟩, h4⟩

theorem pu_all (s : ByteArray) (w : World) (hs : s.size ≤ 1000) :
    Calls Tryd.prog 32 #[.string s, .int .i64 16, .int .i64 64] w fun x w' => PuEnd w x w' := by
  cases h : s.toList.isEmpty
  · exact pu_any s w hs h
  · exact pu_empty s w h

/-- How strconv.ParseUint may end. -/
def PEnd (w : World) (x : Ending) (w' : World) : Prop := (∃ (N : Nat), N < 18446744073709551616 ∧ (x = .returned (.tuple #[.int .u64 N, .nilIface]) ∨ ∃ t p, x = .returned (.tuple #[.int .u64 N, .iface t p]))) ∧ Below w.heap.size w w'

set_option maxRecDepth 100000 in
set_option maxHeartbeats 1600000 in
theorem parse_all (s : ByteArray) (w : World) (hs : s.size ≤ 1000) (he : Errs w) :
    Calls Tryd.prog 23 #[.string s, .int .i64 16, .int .i64 64] w fun x w' => PEnd w x w' := by
  have HE : Hid (Errs w) := he
  clear he
  go_enter Tryd.func23, Tryd.ntmps23
  go_wp2_with (first | (go_at_call 32; refine (pu_all _ _ hs).mono ?_; rintro e w1 ⟨⟨N, hN, rfl | rfl | rfl⟩, hb⟩))
  · go_ret2
    exact ⟨⟨N, hN, .inl rfl⟩, hb⟩
  · go_wp2_with (go_at_call 33; refine (to_rng _ _ _ hs (HE.out.next hb)).mono ?_; rintro e w2 ⟨⟨t, p, rfl⟩, hb2⟩)
    go_ret2
    exact ⟨⟨N, hN, .inr ⟨t, p, rfl⟩⟩, hb.trans (hb2.mono hb.size)⟩
  · go_wp2_with (go_at_call 33; refine (to_syn _ _ _ hs (HE.out.next hb)).mono ?_; rintro e w2 ⟨⟨t, p, rfl⟩, hb2⟩)
    go_ret2
    exact ⟨⟨N, hN, .inr ⟨t, p, rfl⟩⟩, hb.trans (hb2.mono hb.size)⟩

theorem trim_all (s : ByteArray) (w : World) (hs : s.size ≤ 1000) :
    Calls Tryd.prog 24 #[.string s, .string ⟨#[48, 120]⟩] w fun x w' => ∃ t : ByteArray, t.size ≤ 1000 ∧ x = .returned (.string t) ∧ w' = w := by
  by_cases h2 : 2 ≤ s.size
  · cases h : ((s.extract 0 2).toList == [48, 120])
    · exact (trim_no s w (by omega) h2 h).mono fun e w' h => ⟨s, hs, h⟩
    · exact (trim_yes s _ w (by omega) h2 h rfl).mono fun e w' h => ⟨_, by simp; omega, h⟩
  · exact (trim_short s w h2).mono fun e w' h => ⟨s, hs, h⟩

set_option maxRecDepth 100000 in
set_option maxHeartbeats 1600000 in
theorem address_all (s : ByteArray) (w : World) (hs : s.size ≤ 1000) (he : Errs w) :
    Calls Tryd.prog 19 #[.string s] w fun x w' => (∃ N : Nat, N < 18446744073709551616 ∧ x = .returned (.int .u64 N)) ∧ Below w.heap.size w w' := by
  have HE : Hid (Errs w) := he
  clear he
  go_enter Tryd.func19, Tryd.ntmps19
  go_wp2_with (first | (go_at_call 24; refine (trim_all _ _ hs).mono ?_; rintro e w1 ⟨t, hts, rfl, rfl⟩) | (go_at_call 23; refine (parse_all _ _ hts HE.out).mono ?_; rintro e w2 ⟨⟨N, hN, rfl | ⟨tt, p, rfl⟩⟩, hb⟩))
  · go_ret
    exact ⟨⟨N, hN, rfl⟩, hb⟩
  · go_wp2_with fail
    go_ret
    exact ⟨⟨0, by omega, rfl⟩, hb⟩
end Go.Proofs.YtjcefpeicbekhaaDoor
