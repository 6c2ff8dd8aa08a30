/-
  Proved: 'Rows.LeJoinsSaid': for every list of numbers and every size the statement LeJoins of layer 1 (numbers that are put one behind the other are told each at its place) returns true and leaves its arguments as they were. Conditions: none beyond those of the given row.
-/
import Derived.Test.YtonaanedeldhmaaJoin
import Derived.WalkKit
import Derived.ProofKit
import Derived.OpenShut
import Derived.ShutString
import Derived.ChangeOld
import Derived.Below
namespace Go.Proofs.Ytonaanedeldhmaa.leJoins
open Go.ChangeShapes Go.WideShapes Go.ChangeAt Go.RowKit
open Go.ChangeMaps (open_string shut_string)
set_option linter.unusedVariables false

theorem own : ownKnob Try.prog.godebug = none := by kernel_rfl
theorem laidOut : laidOutB Try.prog = true := by kernel_rfl

/-- WHAT THE WALK IS TOLD OF A SLICE OF INTEGERS THAT CAME IN: it is nil; or it leads to a row of 'cap' cells, the numbers 'zs' (the first 'len' are its elements, the rest its spare room), each fitting its kind. -/
def IsRow (k : IntKind) (w : World) (a : Option Addr) (len cap : Nat) (zs : List Int) : Prop :=
  (a = none ∧ len = 0 ∧ cap = 0 ∧ zs = []) ∨
  ∃ x, a = some x ∧ len ≤ cap ∧ cap ≤ maxLen ∧ zs.length = cap ∧ (∀ i, i < zs.length → w.cell? (x.add i) = some (.int k (zs.getD i 0))) ∧ ∀ n ∈ zs, (Lit.int k n).wf = true

set_option maxHeartbeats 3200000 in
theorem walk_row (b off len cap : Nat) (f : Nat → Nat) (a1 : Int) (w : World) (hlen : len ≤ 9223372036854775807)
    (hc : ∀ j, j < len → w.cell? ⟨b, off + j, none⟩ = some (.int .u64 ((f j : Nat) : Int))) (hbk : 0 < len → b < w.heap.size) (hf : ∀ j, f j < 18446744073709551616) :
    Calls Try.prog 7 #[.slice (some ⟨b, off, none⟩) len cap, .int .i64 a1] w fun e w' => e = .returned (.bool true) ∧ Below w.heap.size w w' := by
  obtain ⟨q, hq, hq7⟩ := and7 a1
  have e1 : ((q + 1 : Nat) : Int) = 1 + (q : Int) := by omega
  have P9 : ∀ j w, Calls Try.prog 9 #[.int .u64 ((f j : Nat) : Int), .int .i64 (1 + (q : Int))] w fun e w' => e = .returned (.string ⟨(enc (f j) (q + 1)).toArray⟩) ∧ Below w.heap.size w w' := by
    intro j w
    have := put_yes (f j) (q + 1) w (by omega) (by omega)
    rw [e1] at this
    exact this
  clear e1
  have HC : Hid (∀ j, j < len → w.cell? ⟨b, off + j, none⟩ = some (.int .u64 ((f j : Nat) : Int))) := hc
  clear hc
  have HF : Hid (∀ j, f j < 18446744073709551616) := hf
  clear hf
  go_enter Try.func7, Try.ntmps7
  go_wp2_with (go_at_call 8; refine (speaks_any _).mono ?_; rintro e w1 ⟨rfl, hb⟩)
  go_loopw [5, 6] (fun s i wr => ∃ k : Nat, ∃ a : ByteArray, k ≤ len ∧ k ≤ 40 ∧ i = .int .i64 k ∧ s = .string a ∧ Hid (a = ⟨(cat f (q + 1) k).toArray⟩) ∧ a.size ≤ 320 ∧ Below w.heap.size w wr) (fun _ i _ => len - (intOf i).toNat)
  case atStart => exact ⟨0, _, by omega, by omega, rfl, rfl, rfl, by decide, hb⟩
  case round =>
    obtain ⟨k, a, hk, hk40, rfl, rfl, HA, ha, hbr⟩ := hrel
    clear hb
    by_cases hgo : k < len ∧ k < 40
    · obtain ⟨hlt, h40⟩ := hgo
      have hcx : wr.cell? ⟨b, off + k, none⟩ = some (.int .u64 ((f k : Nat) : Int)) := (hbr.cell (p := ⟨b, off + k, none⟩) (hbk (by omega))).trans (HC.out k hlt)
      obtain ⟨ek, hek⟩ : ∃ e : ByteArray, e = ⟨(enc (f k) (q + 1)).toArray⟩ := ⟨_, rfl⟩
      have P := P9 k
      rw [← hek] at P
      have hes : ek.size ≤ 8 := by rw [hek]; show (enc (f k) (q + 1)).toArray.size ≤ 8; simp [enc_length]; omega
      have HE : Hid (ek = ⟨(enc (f k) (q + 1)).toArray⟩) := hek
      clear hek P9
      go_wp2_with (go_at_call 9; refine (P _).mono ?_; rintro e w2 ⟨rfl, hb2⟩)
      go_roundw
      case rel =>
        refine ⟨k + 1, a ++ ek, by omega, by omega, by go_num, rfl, ?_, ?_, hbr.trans (hb2.mono hbr.size)⟩
        · show a ++ ek = _
          rw [HA.out, HE.out]
          apply ByteArray.ext
          simp [cat]
        · have e2 : (a ++ ek).size = (q + 1) * (k + 1) := by
            rw [HA.out, HE.out, ByteArray.size_append]
            show (cat f (q + 1) k).toArray.size + (enc (f k) (q + 1)).toArray.size = _
            simp [cat_length, enc_length, Nat.mul_succ]
          rw [e2]
          exact mul_top q (k + 1) hq7 (by omega)
      case measure => simp [intOf]; omega
    · have hend : len ≤ k ∨ 40 ≤ k := by omega
      have hsz : a.size = (q + 1) * k := by
        rw [HA.out]
        show (cat f (q + 1) k).toArray.size = _
        simp [cat_length]
      have HZ : Hid (a.size = (q + 1) * k) := hsz
      clear hsz hgo
      have hm : a.size ≤ 140737488351232 := by omega
      by_cases hlt : k < len
      all_goals
        go_wp2
        go_loopw [7] (fun i wq => ∃ j : Nat, j ≤ k ∧ i = .int .i64 j ∧ Below w.heap.size w wq) (fun i _ => len - (intOf i).toNat)
        case atStart => exact ⟨0, by omega, rfl, hbr⟩
        case round =>
          obtain ⟨j, hj, rfl, hbq⟩ := hrel
          by_cases hgo : j < k
          · have hcx : wr.cell? ⟨b, off + j, none⟩ = some (.int .u64 ((f j : Nat) : Int)) := (hbq.cell (p := ⟨b, off + j, none⟩) (hbk (by omega))).trans (HC.out j (by omega))
            obtain ⟨o, ho⟩ : ∃ o : Nat, o = (q + 1) * j := ⟨_, rfl⟩
            have hmul : (1 + (q : Int)) * (j : Int) = (o : Int) := by rw [ho]; push_cast; rw [Int.add_comm]
            have hob : o + (q + 1) ≤ a.size := by rw [ho, HZ.out]; exact mul_bd q j k hgo
            obtain ⟨ej, hej⟩ : ∃ e : ByteArray, e = ⟨(enc (f j) (q + 1)).toArray⟩ := ⟨_, rfl⟩
            have P := P9 j
            rw [← hej] at P
            have HT : Hid (ej = a.extract ((o : Int)).toNat ((o : Int) + (1 + (q : Int))).toNat) := by
              show _ = _
              rw [hej, HA.out, show ((o : Int) + (1 + (q : Int))).toNat = o + (q + 1) by omega, Int.toNat_natCast, ho, cat_part f (q + 1) j k hgo]
            have hes : ej.size ≤ maxLen := by rw [hej]; show (enc (f j) (q + 1)).toArray.size ≤ maxLen; simp [enc_length]; unfold maxLen; omega
            clear hej ho P9
            go_wp2_with (first
              | (go_at_call 19; refine (at_yes _ _ _ _ _ HT hm (by omega) (by omega) (by omega) (by omega)).mono ?_; rintro e w' ⟨rfl, rfl⟩)
              | (go_at_call 15; refine (part_yes _ _ _ _ _ HT hm (by omega) (by omega) (by omega)).mono ?_; rintro e w' ⟨rfl, rfl⟩)
              | (go_at_call 13; refine (get_any _ _ hes).mono ?_; rintro e w' ⟨rfl, rfl⟩)
              | (go_at_call 9; refine (P _).mono ?_; rintro e w2 ⟨rfl, hb2⟩))
            go_roundw
            case rel => exact ⟨j + 1, by omega, by go_num, hbq.trans (hb2.mono hbq.size)⟩
            case measure => simp [intOf]; omega
          · by_cases hqa : q ≤ a.size
            · go_wp2_with (go_at_call 19; refine (at_no _ _ _ _ hm (by omega) (by omega) (by omega) (by omega)).mono ?_; rintro e w' ⟨rfl, rfl⟩)
              go_ret
              exact ⟨rfl, hbq⟩
            · obtain ⟨p, hwp, hp0, hp1⟩ : ∃ p, IntKind.u64.wrap ((a.size : Int) - (1 + (q : Int)) + 1) = p ∧ 0 ≤ p ∧ (a.size : Int) < p + (1 + (q : Int)) := ⟨_, rfl, by rw [IntKind.wrap_u64]; omega, by rw [IntKind.wrap_u64]; omega⟩
              go_wp2_with (go_at_call 19; refine (at_no _ _ _ _ hm hp0 (by omega) (by omega) hp1).mono ?_; rintro e w' ⟨rfl, rfl⟩)
              go_ret
              exact ⟨rfl, hbq⟩

set_option maxHeartbeats 1600000 in
theorem walk_empty (a0 : Option Addr) (cap : Nat) (a1 : Int) (w : World) :
    Calls Try.prog 7 #[.slice a0 0 cap, .int .i64 a1] w fun e w' => e = .returned (.bool true) ∧ Below w.heap.size w w' := by
  obtain ⟨q, hq, hq7⟩ := and7 a1
  have hm : (⟨#[]⟩ : ByteArray).size ≤ 140737488351232 := by decide
  have hp0 : 0 ≤ IntKind.u64.wrap (-(1 + (q : Int)) + 1) := wrap_u64_nonneg _
  have hp1 : ((⟨#[]⟩ : ByteArray).size : Int) < IntKind.u64.wrap (-(1 + (q : Int)) + 1) + (1 + (q : Int)) := by
    have e : ((⟨#[]⟩ : ByteArray).size : Int) = 0 := rfl
    rw [e]
    omega
  go_enter Try.func7, Try.ntmps7
  go_wp2_with (go_at_call 8; refine (speaks_any _).mono ?_; rintro e w1 ⟨rfl, hb⟩)
  go_loop [5, 6] (fun s i => i = .int .i64 0 ∧ s = .string ⟨#[]⟩) (fun _ i => 0)
  case atStart => exact ⟨rfl, rfl⟩
  case round =>
    obtain ⟨rfl, rfl⟩ := hrel
    go_wp2
    go_loop [7] (fun i => i = .int .i64 0) (fun i => 0)
    case atStart => exact rfl
    case round =>
      subst hrel
      go_wp2_with (go_at_call 19; refine (at_no _ _ _ _ hm hp0 (by omega) (by omega) hp1).mono ?_; rintro e w' ⟨rfl, rfl⟩)
      go_ret
      exact ⟨rfl, hb⟩

theorem walk (a0 : Option Addr) (len0 cap0 : Nat) (z0 : List Int) (a1 : Int) (w : World) (w0 : IsRow .u64 w a0 len0 cap0 z0) (w1 : (Lit.int .i64 a1).wf = true) :
    Calls Try.prog 7 #[.slice a0 len0 cap0, .int .i64 a1] w fun e w' => e = .returned (.bool true) ∧ Below w.heap.size w w' := by
  rcases w0 with ⟨rfl, rfl, rfl, rfl⟩ | ⟨x, rfl, hl, hm, hz, hcell, hwz⟩
  · exact walk_empty none 0 a1 w
  · by_cases h0 : 0 < z0.length
    · obtain ⟨b, off, rfl, hc⟩ := ints_at hcell h0
      have hnn : ∀ j, 0 ≤ z0.getD j 0 ∧ z0.getD j 0 ≤ 18446744073709551615 := by
        intro j
        by_cases hj : j < z0.length
        · have := hwz (z0.getD j 0) (by simp [List.getD, List.getElem?_eq_getElem hj])
          exact bounds_u64 this
        · simp [List.getD, List.getElem?_eq_none (by omega : z0.length ≤ j)]
      refine walk_row b off len0 cap0 (fun j => (z0.getD j 0).toNat) a1 w (by unfold maxLen at hm; omega) (fun j hj => ?_) (fun _ => ?_) (fun j => by have := hnn j; omega)
      · rw [hc j (by omega)]
        have := hnn j
        have e : (((z0.getD j 0).toNat : Nat) : Int) = z0.getD j 0 := by omega
        rw [e]
      · have := World.block_lt_of_cell? w _ (hc 0 h0)
        exact this
    · obtain rfl : len0 = 0 := by omega
      exact walk_empty _ _ a1 w

set_option maxRecDepth 100000 in
theorem lifted (os : Os) (started : os.Started) (H : Type) (enc : TypeId × Value → H) :
    ReturnsInHanded {} Try.checked os 7 .any (Rows.leJoinsSpec.pre6 enc Try.prog Try.f7 Rows.leJoinsRow.domain false) (Rows.leJoinsSpec.post enc Try.prog Try.f7 false true false false) := by
  refine returnsInHanded_of_change (C := Try.checked) own started (by kernel_rfl) Try.func7
    (ChangeSpec.witness6 (enc := enc) (C := Try.checked) false ⟨#[], #[.slice none 0 0, .int .i64 0], []⟩ 8 (by kernel_rfl) (by kernel_rfl) (by kernel_rfl) (by kernel_rfl)) ?_
  intro W base args ds gs before hval0 hW hcnd _
  have hval : ∀ (j : Nat) t v, Try.f7.params[j]? = some t → args[j]? = some v → Value.okWide Try.prog W .any base t v := hval0
  have hW' := hW
  obtain ⟨p, q, hA0, hV, rfl, hfz, hnd⟩ := hW
  have hA : DataW.TrodAll enc Try.prog W 0 (fun _ => true) true Try.f7.params.toList args.toList ds p := hA0
  rw [Try.params7] at hA hval
  obtain ⟨v0, vs0, d0, ds0, p0, q0, hargs, rfl, rfl, h0, r0⟩ := trodAll_cons hA
  obtain ⟨v1, vs1, d1, ds1, p1, q1, rfl, rfl, rfl, h1, r1⟩ := trodAll_cons r0
  obtain ⟨rfl, rfl, rfl⟩ := trodAll_nil r1
  obtain rfl : args = #[v0, v1] := by cases args; simp_all
  obtain ⟨rfl, rfl⟩ := trodVars_none hV
  obtain ⟨a0, len0, cap0, rfl⟩ := okWide_slice Try.underlying40 (hval 0 40 v0 rfl rfl)
  have k0 := h0
  have lt0 : ∀ x ∈ p0, x.block < W.heap.size := by obtain ⟨m, hm⟩ := k0; exact DataW.trod_lt m _ _ _ hm
  obtain ⟨z0, w0⟩ : ∃ zs, IsRow .u64 W a0 len0 cap0 zs := by
    obtain ⟨fuel, hf⟩ := h0
    rcases open_ints Try.underlying40 Try.underlying22 (by kernel_rfl) hf with ⟨hcs, _⟩ | ⟨x, l, c, zs, hcs, _, hl, hm, hz, _, hcell, hwz⟩
    · simp [Value.cells] at hcs
      obtain ⟨rfl, rfl, rfl⟩ := hcs
      exact ⟨[], .inl ⟨rfl, rfl, rfl, rfl⟩⟩
    · simp [Value.cells] at hcs
      obtain ⟨rfl, rfl, rfl⟩ := hcs
      exact ⟨zs, .inr ⟨_, rfl, hl, hm, by simpa using hz, hcell, hwz⟩⟩
  obtain ⟨a1, rfl, rfl, rfl, w1⟩ := open_int Try.underlying3 (hval 1 3 v1 rfl rfl) h1
  clear hA0 hval0
  refine (walk a0 len0 cap0 z0 a1 W w0 w1).mono fun e W' ⟨he, bel⟩ => ?_
  subst he
  exact ⟨_, rfl, _, _, _, [], _, [], hW', trodAll_mk1 (shut_bool Try.underlying4 _), (trodAll_cons_mk (Below.trod laidOut (by kernel_rfl) (of_decide_eq_true (by kernel_rfl)) k0 bel lt0) (trodAll_cons_mk (shut_int Try.underlying3 w1) trodAll_mk0)), rfl, bel.frame _, fun h => by cases h⟩

theorem over : Rows.leJoinsRow.holds Try.pinned (OpenSpec.ofChange Rows.leJoinsSpec) :=
  OpenClaim.holds_of_wide 7 Try.f7 rfl rfl rfl rfl rfl rfl rfl ⟨rfl, rfl, rfl, rfl, rfl⟩ rfl rfl rfl rfl rfl (by kernel_rfl) Try.func7 (by kernel_rfl)
    (of_decide_eq_true (by kernel_rfl)) (by unfold Func.isWrapper; first | (rw [if_pos (by decide +kernel)]; kernel_rfl) | (rw [if_neg (by decide +kernel)]; exact ⟨rfl, rfl⟩))
    (fun os started H enc _ => lifted os started H enc)

theorem proved : Rows.LeJoinsSaid := over
#print axioms proved
end Go.Proofs.Ytonaanedeldhmaa.leJoins
