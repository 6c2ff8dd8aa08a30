/-
  Proved: 'Rows.LePartsSaid': for every text, place and count the statement LeParts of layer 1 (Part, Get, Text and At answer as the document's definitions do) returns true and leaves its arguments as they were. Conditions: none beyond those of the given row.
-/
import Derived.Test.YtonaanedeldhmaaA3
import Derived.WalkKit
import Derived.ProofKit
import Derived.OpenShut
import Derived.ShutString
namespace Go.Proofs.Ytonaanedeldhmaa.leParts
open Go.ChangeShapes Go.WideShapes Go.ChangeAt Go.RowKit
open Go.ChangeMaps (open_string shut_string)
set_option linter.unusedVariables false

theorem own : ownKnob Try.prog.godebug = none := by kernel_rfl

set_option maxHeartbeats 1600000 in
theorem walk_neg (s u : ByteArray) (b : Bool) (p n : Int) (hs : s.size ≤ 2000) (hm : s.size ≤ 140737488351232) (hmx : s.size ≤ maxLen) (HT : Hid (txt s p n = (u, b))) (hp : 0 ≤ p) (hp1 : p ≤ 18446744073709551615) (hn0 : -9223372036854775808 ≤ n) (hn1 : n ≤ 9223372036854775807) (hn : n < 0) (hsz : n < 1 ∨ 8 < n) (w : World) :
    Calls Try.prog 4 #[.string s, .int .u64 p, .int .i64 n] w fun e w' => e = .returned (.bool true) ∧ Below w.heap.size w w' := by
  obtain ⟨m, hwm, hm0, hm1⟩ : ∃ m, IntKind.u64.wrap n = m ∧ 0 ≤ m ∧ (s.size : Int) < p + m := ⟨_, rfl, by rw [IntKind.wrap_u64]; omega, by rw [IntKind.wrap_u64]; omega⟩
  go_enter Try.func4, Try.ntmps4
  go_wp2_with (first
      | (go_at_call 8; refine (speaks_any _).mono ?_; rintro e w1 ⟨rfl, hb⟩)
      | (go_at_call 13; refine (get_any _ _ (by assumption)).mono ?_; rintro e w' ⟨rfl, rfl⟩)
      | (go_at_call 14; refine (refget_any _ _ (by assumption)).mono ?_; rintro e w' ⟨rfl, rfl⟩)
      | (go_at_call 17; refine (text_any _ _ _ _ _ _ HT hm (by omega)).mono ?_; rintro e w' ⟨rfl, rfl⟩)
      | (go_at_call 18; refine (reftext_any _ _ _ _ _ _ HT hm (by omega) (by omega) (by omega)).mono ?_; rintro e w' ⟨rfl, rfl⟩)
      | (go_at_call 15; refine (part_no _ _ _ _ hm hp hm0 hm1).mono ?_; rintro e w' ⟨rfl, rfl⟩)
      | (go_at_call 16; refine (refpart_no _ _ _ _ hm hp hm0 hm1).mono ?_; rintro e w' ⟨rfl, rfl⟩)
      | (go_at_call 19; refine (at_size _ _ _ _ hsz).mono ?_; rintro e w' ⟨rfl, rfl⟩))
  go_ret
  exact ⟨rfl, by assumption⟩

set_option maxHeartbeats 1600000 in
theorem walk_yes (s u : ByteArray) (b : Bool) (p n : Int) (hs : s.size ≤ 2000) (hm : s.size ≤ 140737488351232) (hmx : s.size ≤ maxLen) (HT : Hid (txt s p n = (u, b))) (hp : 0 ≤ p) (hp1 : p ≤ 18446744073709551615) (hn0 : -9223372036854775808 ≤ n) (hn1 : n ≤ 9223372036854775807) (t : ByteArray) (Ht : Hid (t = s.extract p.toNat (p + n).toNat)) (htx : t.size ≤ maxLen) (h0 : 1 ≤ n) (h1 : n ≤ 8) (h : p + n ≤ s.size) (w : World) :
    Calls Try.prog 4 #[.string s, .int .u64 p, .int .i64 n] w fun e w' => e = .returned (.bool true) ∧ Below w.heap.size w w' := by
  go_enter Try.func4, Try.ntmps4
  go_wp2_with (first
      | (go_at_call 8; refine (speaks_any _).mono ?_; rintro e w1 ⟨rfl, hb⟩)
      | (go_at_call 13; refine (get_any _ _ (by assumption)).mono ?_; rintro e w' ⟨rfl, rfl⟩)
      | (go_at_call 14; refine (refget_any _ _ (by assumption)).mono ?_; rintro e w' ⟨rfl, rfl⟩)
      | (go_at_call 17; refine (text_any _ _ _ _ _ _ HT hm (by omega)).mono ?_; rintro e w' ⟨rfl, rfl⟩)
      | (go_at_call 18; refine (reftext_any _ _ _ _ _ _ HT hm (by omega) (by omega) (by omega)).mono ?_; rintro e w' ⟨rfl, rfl⟩)
      | (go_at_call 15; refine (part_yes _ _ _ _ _ Ht hm hp (by omega) h).mono ?_; rintro e w' ⟨rfl, rfl⟩)
      | (go_at_call 16; refine (refpart_yes _ _ _ _ _ Ht hm hp (by omega) h).mono ?_; rintro e w' ⟨rfl, rfl⟩)
      | (go_at_call 19; refine (at_yes _ _ _ _ _ Ht hm hp h0 h1 h).mono ?_; rintro e w' ⟨rfl, rfl⟩))
  go_ret
  exact ⟨rfl, by assumption⟩

set_option maxHeartbeats 1600000 in
theorem walk_yes0 (s u : ByteArray) (b : Bool) (p n : Int) (hs : s.size ≤ 2000) (hm : s.size ≤ 140737488351232) (hmx : s.size ≤ maxLen) (HT : Hid (txt s p n = (u, b))) (hp : 0 ≤ p) (hp1 : p ≤ 18446744073709551615) (hn0 : -9223372036854775808 ≤ n) (hn1 : n ≤ 9223372036854775807) (t : ByteArray) (Ht : Hid (t = s.extract p.toNat (p + n).toNat)) (htx : t.size ≤ maxLen) (h0 : 0 ≤ n) (h : p + n ≤ s.size) (hsz : n < 1) (w : World) :
    Calls Try.prog 4 #[.string s, .int .u64 p, .int .i64 n] w fun e w' => e = .returned (.bool true) ∧ Below w.heap.size w w' := by
  go_enter Try.func4, Try.ntmps4
  go_wp2_with (first
      | (go_at_call 8; refine (speaks_any _).mono ?_; rintro e w1 ⟨rfl, hb⟩)
      | (go_at_call 13; refine (get_any _ _ (by assumption)).mono ?_; rintro e w' ⟨rfl, rfl⟩)
      | (go_at_call 14; refine (refget_any _ _ (by assumption)).mono ?_; rintro e w' ⟨rfl, rfl⟩)
      | (go_at_call 17; refine (text_any _ _ _ _ _ _ HT hm (by omega)).mono ?_; rintro e w' ⟨rfl, rfl⟩)
      | (go_at_call 18; refine (reftext_any _ _ _ _ _ _ HT hm (by omega) (by omega) (by omega)).mono ?_; rintro e w' ⟨rfl, rfl⟩)
      | (go_at_call 15; refine (part_yes _ _ _ _ _ Ht hm hp (by omega) h).mono ?_; rintro e w' ⟨rfl, rfl⟩)
      | (go_at_call 16; refine (refpart_yes _ _ _ _ _ Ht hm hp (by omega) h).mono ?_; rintro e w' ⟨rfl, rfl⟩)
      | (go_at_call 19; refine (at_size _ _ _ _ (.inl hsz)).mono ?_; rintro e w' ⟨rfl, rfl⟩))
  go_ret
  exact ⟨rfl, by assumption⟩

set_option maxHeartbeats 1600000 in
theorem walk_yes9 (s u : ByteArray) (b : Bool) (p n : Int) (hs : s.size ≤ 2000) (hm : s.size ≤ 140737488351232) (hmx : s.size ≤ maxLen) (HT : Hid (txt s p n = (u, b))) (hp : 0 ≤ p) (hp1 : p ≤ 18446744073709551615) (hn0 : -9223372036854775808 ≤ n) (hn1 : n ≤ 9223372036854775807) (t : ByteArray) (Ht : Hid (t = s.extract p.toNat (p + n).toNat)) (htx : t.size ≤ maxLen) (hsz : 8 < n) (h : p + n ≤ s.size) (w : World) :
    Calls Try.prog 4 #[.string s, .int .u64 p, .int .i64 n] w fun e w' => e = .returned (.bool true) ∧ Below w.heap.size w w' := by
  go_enter Try.func4, Try.ntmps4
  go_wp2_with (first
      | (go_at_call 8; refine (speaks_any _).mono ?_; rintro e w1 ⟨rfl, hb⟩)
      | (go_at_call 13; refine (get_any _ _ (by assumption)).mono ?_; rintro e w' ⟨rfl, rfl⟩)
      | (go_at_call 14; refine (refget_any _ _ (by assumption)).mono ?_; rintro e w' ⟨rfl, rfl⟩)
      | (go_at_call 17; refine (text_any _ _ _ _ _ _ HT hm (by omega)).mono ?_; rintro e w' ⟨rfl, rfl⟩)
      | (go_at_call 18; refine (reftext_any _ _ _ _ _ _ HT hm (by omega) (by omega) (by omega)).mono ?_; rintro e w' ⟨rfl, rfl⟩)
      | (go_at_call 15; refine (part_yes _ _ _ _ _ Ht hm hp (by omega) h).mono ?_; rintro e w' ⟨rfl, rfl⟩)
      | (go_at_call 16; refine (refpart_yes _ _ _ _ _ Ht hm hp (by omega) h).mono ?_; rintro e w' ⟨rfl, rfl⟩)
      | (go_at_call 19; refine (at_size _ _ _ _ (.inr hsz)).mono ?_; rintro e w' ⟨rfl, rfl⟩))
  go_ret
  exact ⟨rfl, by assumption⟩

set_option maxHeartbeats 1600000 in
theorem walk_no (s u : ByteArray) (b : Bool) (p n : Int) (hs : s.size ≤ 2000) (hm : s.size ≤ 140737488351232) (hmx : s.size ≤ maxLen) (HT : Hid (txt s p n = (u, b))) (hp : 0 ≤ p) (hp1 : p ≤ 18446744073709551615) (hn0 : -9223372036854775808 ≤ n) (hn1 : n ≤ 9223372036854775807) (h0 : 1 ≤ n) (h1 : n ≤ 8) (h : (s.size : Int) < p + n) (w : World) :
    Calls Try.prog 4 #[.string s, .int .u64 p, .int .i64 n] w fun e w' => e = .returned (.bool true) ∧ Below w.heap.size w w' := by
  go_enter Try.func4, Try.ntmps4
  go_wp2_with (first
      | (go_at_call 8; refine (speaks_any _).mono ?_; rintro e w1 ⟨rfl, hb⟩)
      | (go_at_call 13; refine (get_any _ _ (by assumption)).mono ?_; rintro e w' ⟨rfl, rfl⟩)
      | (go_at_call 14; refine (refget_any _ _ (by assumption)).mono ?_; rintro e w' ⟨rfl, rfl⟩)
      | (go_at_call 17; refine (text_any _ _ _ _ _ _ HT hm (by omega)).mono ?_; rintro e w' ⟨rfl, rfl⟩)
      | (go_at_call 18; refine (reftext_any _ _ _ _ _ _ HT hm (by omega) (by omega) (by omega)).mono ?_; rintro e w' ⟨rfl, rfl⟩)
      | (go_at_call 15; refine (part_no _ _ _ _ hm hp (by omega) h).mono ?_; rintro e w' ⟨rfl, rfl⟩)
      | (go_at_call 16; refine (refpart_no _ _ _ _ hm hp (by omega) h).mono ?_; rintro e w' ⟨rfl, rfl⟩)
      | (go_at_call 19; refine (at_no _ _ _ _ hm hp h0 h1 h).mono ?_; rintro e w' ⟨rfl, rfl⟩))
  go_ret
  exact ⟨rfl, by assumption⟩

set_option maxHeartbeats 1600000 in
theorem walk_no0 (s u : ByteArray) (b : Bool) (p n : Int) (hs : s.size ≤ 2000) (hm : s.size ≤ 140737488351232) (hmx : s.size ≤ maxLen) (HT : Hid (txt s p n = (u, b))) (hp : 0 ≤ p) (hp1 : p ≤ 18446744073709551615) (hn0 : -9223372036854775808 ≤ n) (hn1 : n ≤ 9223372036854775807) (h0 : 0 ≤ n) (hsz : n < 1) (h : (s.size : Int) < p + n) (w : World) :
    Calls Try.prog 4 #[.string s, .int .u64 p, .int .i64 n] w fun e w' => e = .returned (.bool true) ∧ Below w.heap.size w w' := by
  go_enter Try.func4, Try.ntmps4
  go_wp2_with (first
      | (go_at_call 8; refine (speaks_any _).mono ?_; rintro e w1 ⟨rfl, hb⟩)
      | (go_at_call 13; refine (get_any _ _ (by assumption)).mono ?_; rintro e w' ⟨rfl, rfl⟩)
      | (go_at_call 14; refine (refget_any _ _ (by assumption)).mono ?_; rintro e w' ⟨rfl, rfl⟩)
      | (go_at_call 17; refine (text_any _ _ _ _ _ _ HT hm (by omega)).mono ?_; rintro e w' ⟨rfl, rfl⟩)
      | (go_at_call 18; refine (reftext_any _ _ _ _ _ _ HT hm (by omega) (by omega) (by omega)).mono ?_; rintro e w' ⟨rfl, rfl⟩)
      | (go_at_call 15; refine (part_no _ _ _ _ hm hp (by omega) h).mono ?_; rintro e w' ⟨rfl, rfl⟩)
      | (go_at_call 16; refine (refpart_no _ _ _ _ hm hp (by omega) h).mono ?_; rintro e w' ⟨rfl, rfl⟩)
      | (go_at_call 19; refine (at_size _ _ _ _ (.inl hsz)).mono ?_; rintro e w' ⟨rfl, rfl⟩))
  go_ret
  exact ⟨rfl, by assumption⟩

set_option maxHeartbeats 1600000 in
theorem walk_no9 (s u : ByteArray) (b : Bool) (p n : Int) (hs : s.size ≤ 2000) (hm : s.size ≤ 140737488351232) (hmx : s.size ≤ maxLen) (HT : Hid (txt s p n = (u, b))) (hp : 0 ≤ p) (hp1 : p ≤ 18446744073709551615) (hn0 : -9223372036854775808 ≤ n) (hn1 : n ≤ 9223372036854775807) (hsz : 8 < n) (h : (s.size : Int) < p + n) (w : World) :
    Calls Try.prog 4 #[.string s, .int .u64 p, .int .i64 n] w fun e w' => e = .returned (.bool true) ∧ Below w.heap.size w w' := by
  go_enter Try.func4, Try.ntmps4
  go_wp2_with (first
      | (go_at_call 8; refine (speaks_any _).mono ?_; rintro e w1 ⟨rfl, hb⟩)
      | (go_at_call 13; refine (get_any _ _ (by assumption)).mono ?_; rintro e w' ⟨rfl, rfl⟩)
      | (go_at_call 14; refine (refget_any _ _ (by assumption)).mono ?_; rintro e w' ⟨rfl, rfl⟩)
      | (go_at_call 17; refine (text_any _ _ _ _ _ _ HT hm (by omega)).mono ?_; rintro e w' ⟨rfl, rfl⟩)
      | (go_at_call 18; refine (reftext_any _ _ _ _ _ _ HT hm (by omega) (by omega) (by omega)).mono ?_; rintro e w' ⟨rfl, rfl⟩)
      | (go_at_call 15; refine (part_no _ _ _ _ hm hp (by omega) h).mono ?_; rintro e w' ⟨rfl, rfl⟩)
      | (go_at_call 16; refine (refpart_no _ _ _ _ hm hp (by omega) h).mono ?_; rintro e w' ⟨rfl, rfl⟩)
      | (go_at_call 19; refine (at_size _ _ _ _ (.inr hsz)).mono ?_; rintro e w' ⟨rfl, rfl⟩))
  go_ret
  exact ⟨rfl, by assumption⟩

set_option maxHeartbeats 800000 in
theorem walk_long (s : ByteArray) (p n : Int) (hs : 2000 < s.size) (hmx : s.size ≤ maxLen) (w : World) :
    Calls Try.prog 4 #[.string s, .int .u64 p, .int .i64 n] w fun e w' => e = .returned (.bool true) ∧ Below w.heap.size w w' := by
  unfold maxLen at hmx
  go_enter Try.func4, Try.ntmps4
  go_wp2_with (go_at_call 8; refine (speaks_any _).mono ?_; rintro e w1 ⟨rfl, hb⟩)
  go_ret
  exact ⟨rfl, by assumption⟩

theorem walk (a0 : ByteArray) (a1 : Int) (a2 : Int) (w0 : a0.size ≤ maxLen) (w1 : (Lit.int .u64 a1).wf = true) (w2 : (Lit.int .i64 a2).wf = true) (w : World) :
    Calls Try.prog 4 #[.string a0, .int .u64 a1, .int .i64 a2] w fun e w' => e = .returned (.bool true) ∧ Below w.heap.size w w' := by
  have b1 := bounds_u64 w1
  have b2 := bounds_i64 w2
  by_cases hs : a0.size ≤ 2000
  · have hm : a0.size ≤ 140737488351232 := by omega
    obtain ⟨u, b, hT⟩ : ∃ u b, txt a0 a1 a2 = (u, b) := ⟨_, _, rfl⟩
    by_cases hn : a2 < 0
    · exact walk_neg a0 u b a1 a2 hs hm w0 hT b1.1 b1.2 b2.1 b2.2 hn (.inl (by omega)) w
    · by_cases h : a1 + a2 ≤ a0.size
      · obtain ⟨t, ht⟩ : ∃ t, t = a0.extract a1.toNat (a1 + a2).toNat := ⟨_, rfl⟩
        have htx : t.size ≤ maxLen := by rw [ht]; exact ext_size _ _ _ hm
        by_cases h0 : 1 ≤ a2
        · by_cases h1 : a2 ≤ 8
          · exact walk_yes a0 u b a1 a2 hs hm w0 hT b1.1 b1.2 b2.1 b2.2 t ht htx h0 h1 h w
          · exact walk_yes9 a0 u b a1 a2 hs hm w0 hT b1.1 b1.2 b2.1 b2.2 t ht htx (by omega) h w
        · exact walk_yes0 a0 u b a1 a2 hs hm w0 hT b1.1 b1.2 b2.1 b2.2 t ht htx (by omega) h (by omega) w
      · by_cases h0 : 1 ≤ a2
        · by_cases h1 : a2 ≤ 8
          · exact walk_no a0 u b a1 a2 hs hm w0 hT b1.1 b1.2 b2.1 b2.2 h0 h1 (by omega) w
          · exact walk_no9 a0 u b a1 a2 hs hm w0 hT b1.1 b1.2 b2.1 b2.2 (by omega) (by omega) w
        · exact walk_no0 a0 u b a1 a2 hs hm w0 hT b1.1 b1.2 b2.1 b2.2 (by omega) (by omega) (by omega) w
  · exact walk_long a0 a1 a2 (by omega) w0 w

set_option maxRecDepth 100000 in
theorem lifted (os : Os) (started : os.Started) (H : Type) (enc : TypeId × Value → H) :
    ReturnsInHanded {} Try.checked os 4 .any (Rows.lePartsSpec.pre6 enc Try.prog Try.f4 Rows.lePartsRow.domain false) (Rows.lePartsSpec.post enc Try.prog Try.f4 false true false false) := by
  refine returnsInHanded_of_change (C := Try.checked) own started (by kernel_rfl) Try.func4
    (ChangeSpec.witness6 (enc := enc) (C := Try.checked) false ⟨#[], #[.string ByteArray.empty, .int .u64 0, .int .i64 0], []⟩ 8 (by kernel_rfl) (by kernel_rfl) (by kernel_rfl) (by kernel_rfl)) ?_
  intro W base args ds gs before hval0 hW hcnd _
  have hval : ∀ (j : Nat) t v, Try.f4.params[j]? = some t → args[j]? = some v → Value.okWide Try.prog W .any base t v := hval0
  have hW' := hW
  obtain ⟨p, q, hA0, hV, rfl, hfz, hnd⟩ := hW
  have hA : DataW.TrodAll enc Try.prog W 0 (fun _ => true) true Try.f4.params.toList args.toList ds p := hA0
  rw [Try.params4] at hA hval
  obtain ⟨v0, vs0, d0, ds0, p0, q0, hargs, rfl, rfl, h0, r0⟩ := trodAll_cons hA
  obtain ⟨v1, vs1, d1, ds1, p1, q1, rfl, rfl, rfl, h1, r1⟩ := trodAll_cons r0
  obtain ⟨v2, vs2, d2, ds2, p2, q2, rfl, rfl, rfl, h2, r2⟩ := trodAll_cons r1
  obtain ⟨rfl, rfl, rfl⟩ := trodAll_nil r2
  obtain rfl : args = #[v0, v1, v2] := by cases args; simp_all
  obtain ⟨rfl, rfl⟩ := trodVars_none hV
  obtain ⟨a0, rfl, rfl, rfl, w0⟩ := open_string Try.underlying9 (hval 0 9 v0 rfl rfl) h0
  obtain ⟨a1, rfl, rfl, rfl, w1⟩ := open_int Try.underlying22 (hval 1 22 v1 rfl rfl) h1
  obtain ⟨a2, rfl, rfl, rfl, w2⟩ := open_int Try.underlying3 (hval 2 3 v2 rfl rfl) h2
  clear hA0 hval0
  simp only [List.append_nil] at hW'
  refine (walk a0 a1 a2 w0 w1 w2 W).mono fun e W' ⟨he, bel⟩ => ?_
  subst he
  exact ⟨_, rfl, _, _, _, [], _, [], hW', trodAll_mk1 (shut_bool Try.underlying4 _), (trodAll_cons_mk (shut_string Try.underlying9 w0) (trodAll_cons_mk (shut_int Try.underlying22 w1) (trodAll_cons_mk (shut_int Try.underlying3 w2) trodAll_mk0))), rfl, bel.frame _, fun h => by cases h⟩

theorem over : Rows.lePartsRow.holds Try.pinned (OpenSpec.ofChange Rows.lePartsSpec) :=
  OpenClaim.holds_of_wide 4 Try.f4 rfl rfl rfl rfl rfl rfl rfl ⟨rfl, rfl, rfl, rfl, rfl⟩ rfl rfl rfl rfl rfl (by kernel_rfl) Try.func4 (by kernel_rfl)
    (of_decide_eq_true (by kernel_rfl)) (by unfold Func.isWrapper; first | (rw [if_pos (by decide +kernel)]; kernel_rfl) | (rw [if_neg (by decide +kernel)]; exact ⟨rfl, rfl⟩))
    (fun os started H enc _ => lifted os started H enc)

theorem proved : Rows.LePartsSaid :=
  over
#print axioms proved
end Go.Proofs.Ytonaanedeldhmaa.leParts
