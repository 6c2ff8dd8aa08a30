/-
  Layer 2: strconv.ParseUint (base 16) and address of any text: each returns a number, whatever the text is. Conditions: the text's length; the two error variables of strconv hold errors.
-/
import Derived.Test.YtjcefpeicbekhaaDoorA5
import Derived.Shelf.Pu.ToError
import Derived.Shelf.Pu.ToErrorRange
import Derived.Shelf.Lay
import Derived.Ground.MpProg
namespace Go.Proofs
open Go.Shelf
shelf_lay LaysPu.n17 Mp 17 at Tryd as YtjcefpeicbekhaaDoor.laysPu17
end Go.Proofs
namespace Go.Proofs.YtjcefpeicbekhaaDoor
open Go.ChangeShapes Go.WideShapes Go.ChangeAt Go.RowKit
set_option linter.unusedVariables false

/-- The two error variables of strconv hold errors. -/
structure Errs (w : World) : Prop where
  syn : ∃ t p, w.cell? ⟨3, 0, none⟩ = some (.iface t p)
  rng : ∃ t p, w.cell? ⟨4, 0, none⟩ = some (.iface t p)
  room : 4 < w.heap.size
theorem Errs.next {w w' : World} (h : Errs w) (hb : Below w.heap.size w w') : Errs w' := by
  obtain ⟨⟨t, p, h1⟩, ⟨t', p', h2⟩, h3⟩ := h
  exact ⟨⟨t, p, (hb.cell (p := ⟨3, 0, none⟩) (show 3 < w.heap.size by omega)).trans h1⟩, ⟨t', p', (hb.cell (p := ⟨4, 0, none⟩) (show 4 < w.heap.size by omega)).trans h2⟩, Nat.lt_of_lt_of_le h3 hb.size⟩

theorem to_syn (fn s : ByteArray) (w : World) (hs : s.size ≤ 1000) (he : Errs w) :
    Calls Tryd.prog 33 #[.string fn, .string s, .int .i64 16, .int .i64 64, .iface 76 (.int .i64 2)] w fun x w' => (∃ t p, x = .returned (.iface t p)) ∧ Below w.heap.size w w' := by
  obtain ⟨t, p, h⟩ := he.syn
  exact (AnyPu.strconv_toError_syntax laysPu17 fn s 16 64 (.iface t p) w (by omega) h (.inr ⟨_, _, rfl⟩)).mono fun e w' ⟨N, h1, _, _, h4⟩ => ⟨⟨_, _, h1⟩, h4⟩
theorem to_rng (fn s : ByteArray) (w : World) (hs : s.size ≤ 1000) (he : Errs w) :
    Calls Tryd.prog 33 #[.string fn, .string s, .int .i64 16, .int .i64 64, .iface 76 (.int .i64 1)] w fun x w' => (∃ t p, x = .returned (.iface t p)) ∧ Below w.heap.size w w' := by
  obtain ⟨t, p, h⟩ := he.rng
  exact (AnyPu.strconv_toError_range laysPu17 fn s 16 64 (.iface t p) w (by omega) h (.inr ⟨_, _, rfl⟩)).mono fun e w' ⟨N, h1, _, _, h4⟩ => ⟨⟨_, _, h1⟩, h4⟩

theorem pu_all (s : ByteArray) (w : World) (hs : s.size ≤ 1000) :
    Calls Tryd.prog 32 #[.string s, .int .i64 16, .int .i64 64] w fun x w' => PuEnd w x w' := by
  cases h : s.toList.isEmpty
  · exact pu_any s w hs h
  · exact pu_empty s w h

/-- How strconv.ParseUint may end. -/
def PEnd (w : World) (x : Ending) (w' : World) : Prop := (∃ (N : Nat), N < 18446744073709551616 ∧ (x = .returned (.tuple #[.int .u64 N, .nilIface]) ∨ ∃ t p, x = .returned (.tuple #[.int .u64 N, .iface t p]))) ∧ Below w.heap.size w w'

set_option maxRecDepth 100000 in
set_option maxHeartbeats 1600000 in
theorem parse_all (s : ByteArray) (w : World) (hs : s.size ≤ 1000) (he : Errs w) :
    Calls Tryd.prog 23 #[.string s, .int .i64 16, .int .i64 64] w fun x w' => PEnd w x w' := by
  have HE : Hid (Errs w) := he
  clear he
  go_enter Tryd.func23, Tryd.ntmps23
  go_wp2_with (first | (go_at_call 32; refine (pu_all _ _ hs).mono ?_; rintro e w1 ⟨⟨N, hN, rfl | rfl | rfl⟩, hb⟩))
  · go_ret2
    exact ⟨⟨N, hN, .inl rfl⟩, hb⟩
  · go_wp2_with (go_at_call 33; refine (to_rng _ _ _ hs (HE.out.next hb)).mono ?_; rintro e w2 ⟨⟨t, p, rfl⟩, hb2⟩)
    go_ret2
    exact ⟨⟨N, hN, .inr ⟨t, p, rfl⟩⟩, hb.trans (hb2.mono hb.size)⟩
  · go_wp2_with (go_at_call 33; refine (to_syn _ _ _ hs (HE.out.next hb)).mono ?_; rintro e w2 ⟨⟨t, p, rfl⟩, hb2⟩)
    go_ret2
    exact ⟨⟨N, hN, .inr ⟨t, p, rfl⟩⟩, hb.trans (hb2.mono hb.size)⟩

theorem trim_all (s : ByteArray) (w : World) (hs : s.size ≤ 1000) :
    Calls Tryd.prog 24 #[.string s, .string ⟨#[48, 120]⟩] w fun x w' => ∃ t : ByteArray, t.size ≤ 1000 ∧ x = .returned (.string t) ∧ w' = w := by
  by_cases h2 : 2 ≤ s.size
  · cases h : ((s.extract 0 2).toList == [48, 120])
    · exact (trim_no s w (by omega) h2 h).mono fun e w' h => ⟨s, hs, h⟩
    · exact (trim_yes s _ w (by omega) h2 h rfl).mono fun e w' h => ⟨_, by simp; omega, h⟩
  · exact (trim_short s w h2).mono fun e w' h => ⟨s, hs, h⟩

set_option maxRecDepth 100000 in
set_option maxHeartbeats 1600000 in
theorem address_all (s : ByteArray) (w : World) (hs : s.size ≤ 1000) (he : Errs w) :
    Calls Tryd.prog 19 #[.string s] w fun x w' => (∃ N : Nat, N < 18446744073709551616 ∧ x = .returned (.int .u64 N)) ∧ Below w.heap.size w w' := by
  have HE : Hid (Errs w) := he
  clear he
  go_enter Tryd.func19, Tryd.ntmps19
  go_wp2_with (first | (go_at_call 24; refine (trim_all _ _ hs).mono ?_; rintro e w1 ⟨t, hts, rfl, rfl⟩) | (go_at_call 23; refine (parse_all _ _ hts HE.out).mono ?_; rintro e w2 ⟨⟨N, hN, rfl | ⟨tt, p, rfl⟩⟩, hb⟩))
  · go_ret
    exact ⟨⟨N, hN, rfl⟩, hb⟩
  · go_wp2_with fail
    go_ret
    exact ⟨⟨0, by omega, rfl⟩, hb⟩
end Go.Proofs.YtjcefpeicbekhaaDoor
