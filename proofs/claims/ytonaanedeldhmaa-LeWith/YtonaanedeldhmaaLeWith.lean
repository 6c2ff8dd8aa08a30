/-
  Proved: 'Rows.LeWithSaid': for every text, place and number the statement LeWith of layer 1 (a number that is put into a text stands there, and all else is as it was; what doesn't fit is refused) returns true and leaves its arguments as they were. Conditions: none beyond those of the given row.
-/
import Derived.Test.YtonaanedeldhmaaWith
import Derived.WalkKit
import Derived.ProofKit
import Derived.OpenShut
import Derived.ShutString
namespace Go.Proofs.Ytonaanedeldhmaa.leWith
open Go.ChangeShapes Go.WideShapes Go.ChangeAt Go.RowKit
open Go.ChangeMaps (open_string shut_string)
set_option linter.unusedVariables false
attribute [local go_sem ↓] Go.wp_at_zero Go.wp_at_succ

theorem own : ownKnob Try.prog.godebug = none := by kernel_rfl

theorem bt3 {B : Nat} {w a b c : World} (h1 : Below B w a) (h2 : Below a.heap.size a b) (h3 : Below b.heap.size b c) (hB : B ≤ a.heap.size) : Below B w c :=
  h1.trans ((bt h2 h3).mono hB)

set_option maxRecDepth 100000 in
set_option maxHeartbeats 3200000 in
theorem walk_nat (s0 : ByteArray) (P N : Nat) (hs0 : s0.size ≤ 9223372036854775807) (hP : P < 18446744073709551616) (hN : N < 18446744073709551616) (w : World) :
    Calls Try.prog 5 #[.string s0, .int .u64 P, .int .u64 N] w fun e w' => e = .returned (.bool true) ∧ Below w.heap.size w w' := by
  obtain ⟨c, hc⟩ : ∃ c, c = s0.extract 0 (min s0.size 500) := ⟨_, rfl⟩
  have hcs : c.size ≤ 500 := by rw [hc]; simp; omega
  have hm : c.size ≤ 140737488351232 := by omega
  have c1 : ¬ s0.size ≤ 500 → s0.extract 0 500 = c := by intro h; rw [hc, Nat.min_eq_right (by omega)]
  have c2 : s0.size ≤ 500 → s0.extract 0 s0.size = c := by intro h; rw [hc, Nat.min_eq_left h]
  clear hc
  by_cases hs : s0.size ≤ 500
  all_goals
    first | have hcut := c1 hs | have hcut := c2 hs
    clear c1 c2
    go_enter Try.func5, Try.ntmps5
    go_wp2_with (go_at_call 8; refine (speaks_any _).mono ?_; rintro e w1 ⟨rfl, hb⟩)
    go_loopw [7] (fun i wr => ∃ k : Nat, k ≤ 10 ∧ i = .int .i64 k ∧ Below w.heap.size w wr) (fun i _ => 10 - (intOf i).toNat)
    case atStart => exact ⟨0, by omega, rfl, hb⟩
    case round =>
      obtain ⟨k, hk, rfl, hbr⟩ := hrel
      clear hb
      by_cases h9 : k ≤ 9
      · by_cases h0 : 1 ≤ k
        · by_cases h8 : k ≤ 8
          · by_cases hf : P + k ≤ c.size
            · obtain ⟨d, hd⟩ : ∃ e : ByteArray, e = ⟨(enc N k).toArray⟩ := ⟨_, rfl⟩
              have P9 := fun w => put_yes N k w h0 h8
              rw [← hd] at P9
              have hds : d.size = k := by rw [hd]; show (enc N k).toArray.size = k; simp [enc_length]
              clear hd
              obtain ⟨A, hA⟩ : ∃ A, c.extract 0 P = A := ⟨_, rfl⟩
              obtain ⟨C, hC⟩ : ∃ C, c.extract (P + k) c.size = C := ⟨_, rfl⟩
              have W := fun w => with_yes c d A C P N k w hA hC hcs h0 h8 hf (by omega) P9
              obtain ⟨T, hT⟩ : ∃ T, A ++ d ++ C = T := ⟨_, rfl⟩
              rw [hT] at W
              obtain ⟨q1, q2, q3, q4⟩ := parts_of c d A C T P k hf hds hA hC hT
              clear hT
              have Hd : Hid (d = T.extract (P : Int).toNat ((P : Int) + (k : Int)).toNat) := by
                show _ = _
                rw [show ((P : Int) + (k : Int)).toNat = P + k by omega, Int.toNat_natCast, q3]
              clear q3
              have hdx : d.size ≤ maxLen := by rw [hds]; unfold maxLen; omega
              have HZ : Hid (d.size = k) := hds
              clear hds
              have hPs : P ≤ c.size := by omega
              have hPi : (P : Int) ≤ (c.size : Int) := by omega
              have hPn : (P : Int) + (k : Int) ≤ (c.size : Int) := by omega
              have hPp : (0 : Int) ≤ (P : Int) + (k : Int) := by omega
              have hwn : IntKind.u64.wrap (k : Int) = (k : Int) := IntWalk.u64_in _ ⟨by omega, by omega⟩
              have hwp : IntKind.u64.wrap ((P : Int) + (k : Int)) = (P : Int) + (k : Int) := IntWalk.u64_in _ ⟨by omega, by omega⟩
              have htn : ((P : Int) + (k : Int)).toNat = P + k := by omega
              have A19 := fun w => at_yes T d (P : Int) (k : Int) w Hd (by rw [q1]; exact hm) (by omega) (by omega) (by omega) (by rw [q1]; exact hPn)
              have G13 := fun w => get_any d w hdx
              go_wp2_with (first
                | (go_at_call 20; refine (W _).mono ?_; rintro e w2 ⟨rfl, hb2⟩)
                | (go_at_call 19; refine (A19 _).mono ?_; rintro e w' ⟨rfl, rfl⟩))
              go_region_held3 (fun _ => True) (trivial) (first | (go_at_call 9; refine (P9 _).mono ?_; rintro e w3 ⟨rfl, hb3⟩) | (go_at_call 13; refine (G13 _).mono ?_; rintro e w' ⟨rfl, rfl⟩))
              go_wp2
              go_roundw
              case rel => exact ⟨k + 1, by omega, by go_num, bt3 hbr hb2 ((Below.refl _ _).drew.trans hb3) hbr.size⟩
              case measure => simp [intOf]; omega
            · go_wp2_with (go_at_call 20; refine (with_no _ _ _ _ _ hm (by omega) (by omega) (by omega) (by omega)).mono ?_; rintro e w' ⟨rfl, rfl⟩)
              all_goals
                go_roundw
                case rel => exact ⟨k + 1, by omega, by go_num, hbr⟩
                case measure => simp [intOf]; omega
          · go_wp2_with (go_at_call 20; refine (with_size _ _ _ _ _ (.inr (by omega))).mono ?_; rintro e w' ⟨rfl, rfl⟩)
            go_roundw
            case rel => exact ⟨k + 1, by omega, by go_num, hbr⟩
            case measure => simp [intOf]; omega
        · go_wp2_with (go_at_call 20; refine (with_size _ _ _ _ _ (.inl (by omega))).mono ?_; rintro e w' ⟨rfl, rfl⟩)
          go_roundw
          case rel => exact ⟨k + 1, by omega, by go_num, hbr⟩
          case measure => simp [intOf]; omega
      · go_wp2
        go_ret
        exact ⟨rfl, hbr⟩

theorem walk (a0 : ByteArray) (a1 : Int) (a2 : Int) (w0 : a0.size ≤ maxLen) (w1 : (Lit.int .u64 a1).wf = true) (w2 : (Lit.int .u64 a2).wf = true) (w : World) :
    Calls Try.prog 5 #[.string a0, .int .u64 a1, .int .u64 a2] w fun e w' => e = .returned (.bool true) ∧ Below w.heap.size w w' := by
  have b1 := bounds_u64 w1
  have b2 := bounds_u64 w2
  obtain ⟨P, rfl⟩ := Int.eq_ofNat_of_zero_le b1.1
  obtain ⟨N, rfl⟩ := Int.eq_ofNat_of_zero_le b2.1
  exact walk_nat a0 P N (by unfold maxLen at w0; omega) (by omega) (by omega) w

set_option maxRecDepth 100000 in
theorem lifted (os : Os) (started : os.Started) (H : Type) (enc : TypeId × Value → H) :
    ReturnsInHanded {} Try.checked os 5 .any (Rows.leWithSpec.pre6 enc Try.prog Try.f5 Rows.leWithRow.domain false) (Rows.leWithSpec.post enc Try.prog Try.f5 false true false false) := by
  refine returnsInHanded_of_change (C := Try.checked) own started (by kernel_rfl) Try.func5
    (ChangeSpec.witness6 (enc := enc) (C := Try.checked) false ⟨#[], #[.string ByteArray.empty, .int .u64 0, .int .u64 0], []⟩ 8 (by kernel_rfl) (by kernel_rfl) (by kernel_rfl) (by kernel_rfl)) ?_
  intro W base args ds gs before hval0 hW hcnd _
  have hval : ∀ (j : Nat) t v, Try.f5.params[j]? = some t → args[j]? = some v → Value.okWide Try.prog W .any base t v := hval0
  have hW' := hW
  obtain ⟨p, q, hA0, hV, rfl, hfz, hnd⟩ := hW
  have hA : DataW.TrodAll enc Try.prog W 0 (fun _ => true) true Try.f5.params.toList args.toList ds p := hA0
  rw [Try.params5] at hA hval
  obtain ⟨v0, vs0, d0, ds0, p0, q0, hargs, rfl, rfl, h0, r0⟩ := trodAll_cons hA
  obtain ⟨v1, vs1, d1, ds1, p1, q1, rfl, rfl, rfl, h1, r1⟩ := trodAll_cons r0
  obtain ⟨v2, vs2, d2, ds2, p2, q2, rfl, rfl, rfl, h2, r2⟩ := trodAll_cons r1
  obtain ⟨rfl, rfl, rfl⟩ := trodAll_nil r2
  obtain rfl : args = #[v0, v1, v2] := by cases args; simp_all
  obtain ⟨rfl, rfl⟩ := trodVars_none hV
  obtain ⟨a0, rfl, rfl, rfl, w0⟩ := open_string Try.underlying9 (hval 0 9 v0 rfl rfl) h0
  obtain ⟨a1, rfl, rfl, rfl, w1⟩ := open_int Try.underlying22 (hval 1 22 v1 rfl rfl) h1
  obtain ⟨a2, rfl, rfl, rfl, w2⟩ := open_int Try.underlying22 (hval 2 22 v2 rfl rfl) h2
  clear hA0 hval0
  simp only [List.append_nil] at hW'
  refine (walk a0 a1 a2 w0 w1 w2 W).mono fun e W' ⟨he, bel⟩ => ?_
  subst he
  exact ⟨_, rfl, _, _, _, [], _, [], hW', trodAll_mk1 (shut_bool Try.underlying4 _), (trodAll_cons_mk (shut_string Try.underlying9 w0) (trodAll_cons_mk (shut_int Try.underlying22 w1) (trodAll_cons_mk (shut_int Try.underlying22 w2) trodAll_mk0))), rfl, bel.frame _, fun h => by cases h⟩

theorem over : Rows.leWithRow.holds Try.pinned (OpenSpec.ofChange Rows.leWithSpec) :=
  OpenClaim.holds_of_wide 5 Try.f5 rfl rfl rfl rfl rfl rfl rfl ⟨rfl, rfl, rfl, rfl, rfl⟩ rfl rfl rfl rfl rfl (by kernel_rfl) Try.func5 (by kernel_rfl)
    (of_decide_eq_true (by kernel_rfl)) (by unfold Func.isWrapper; first | (rw [if_pos (by decide +kernel)]; kernel_rfl) | (rw [if_neg (by decide +kernel)]; exact ⟨rfl, rfl⟩))
    (fun os started H enc _ => lifted os started H enc)

theorem proved : Rows.LeWithSaid :=
  over
#print axioms proved
end Go.Proofs.Ytonaanedeldhmaa.leWith
