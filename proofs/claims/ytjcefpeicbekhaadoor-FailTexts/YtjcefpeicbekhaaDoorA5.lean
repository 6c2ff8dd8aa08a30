/-
  Layer 2: ParseUint of any text, and address of any text: each returns a number, whatever the text is. No condition but the text's length.
-/
import Derived.Test.YtjcefpeicbekhaaDoorA3
import Derived.WalkKit
import Derived.ProofKit
import Derived.Below
namespace Go.Proofs.YtjcefpeicbekhaaDoor
open Go.ChangeShapes Go.WideShapes Go.ChangeAt Go.RowKit
set_option linter.unusedVariables false

set_option maxRecDepth 100000 in
theorem low_lt (c : Nat) (hc : c < 48) : c ||| 32 < 97 := by
  have h : ∀ c : Fin 48, c.val ||| 32 < 97 := by decide +kernel
  exact h ⟨c, hc⟩

/-- How ParseUint may end. -/
def PuEnd (w : World) (x : Ending) (w' : World) : Prop := (∃ N : Nat, N < 18446744073709551616 ∧ (x = .returned (.tuple #[.int .u64 N, .nilIface]) ∨ x = .returned (.tuple #[.int .u64 N, .iface 76 (.int .i64 1)]) ∨ x = .returned (.tuple #[.int .u64 N, .iface 76 (.int .i64 2)]))) ∧ Below w.heap.size w w'
theorem PuEnd.ok {w w' : World} {x : Ending} {v : Value} (q : Nat) (hq : q < 18446744073709551616) (hb : Below w.heap.size w w') (hv : v = .tuple #[.int .u64 q, .nilIface]) (hx : x = .returned v) : PuEnd w x w' := ⟨⟨q, hq, .inl (by rw [hx, hv])⟩, hb⟩
theorem PuEnd.rng {w w' : World} {x : Ending} {v : Value} {M : Int} (HM : Hid (M = ((18446744073709551615 : Nat) : Int))) (hb : Below w.heap.size w w') (hv : v = .tuple #[.int .u64 M, .iface 76 (.int .i64 1)]) (hx : x = .returned v) : PuEnd w x w' := ⟨⟨18446744073709551615, by omega, .inr (.inl (by rw [hx, hv, HM.out]))⟩, hb⟩
theorem PuEnd.syn {w w' : World} {x : Ending} {v : Value} (hb : Below w.heap.size w w') (hv : v = .tuple #[.int .u64 0, .iface 76 (.int .i64 2)]) (hx : x = .returned v) : PuEnd w x w' := ⟨⟨0, by omega, .inr (.inr (by rw [hx, hv]; rfl))⟩, hb⟩

set_option maxRecDepth 100000 in
set_option maxHeartbeats 800000 in
theorem pu_empty (s : ByteArray) (w : World) (hne : s.toList.isEmpty = true) :
    Calls Tryd.prog 32 #[.string s, .int .i64 16, .int .i64 64] w fun x w' => PuEnd w x w' := by
  go_enter Tryd.func32, Tryd.ntmps32
  go_wp2
  go_ret2
  exact .syn (Below.refl _ _) rfl rfl

set_option maxRecDepth 100000 in
set_option maxHeartbeats 3200000 in
theorem pu_any (s : ByteArray) (w : World) (hs : s.size ≤ 1000) (hne : s.toList.isEmpty = false) :
    Calls Tryd.prog 32 #[.string s, .int .i64 16, .int .i64 64] w fun x w' => PuEnd w x w' := by
  obtain ⟨cap, W, hrun, hcell, hbW⟩ := conv_bytes s w
  have HC : Hid (_) := hcell
  clear hcell
  go_enter Tryd.func32, Tryd.ntmps32
  go_wp2
  obtain ⟨M, hM0⟩ : ∃ M, M = IntKind.u64.wrap (IntKind.u64.wrap 18446744073709551616 - 1) := ⟨_, rfl⟩
  have hM : 18446744073709551615 ≤ M := by rw [hM0, IntKind.wrap_u64, IntKind.wrap_u64]; decide
  have HM : Hid (M = ((18446744073709551615 : Nat) : Int)) := by show _ = _; rw [hM0, IntKind.wrap_u64, IntKind.wrap_u64]; decide
  rw [← hM0]
  clear hM0
  generalize IntKind.u64.wrap 18446744073709551616 = M2
  obtain ⟨L, hL0⟩ : ∃ L : Int, L = 1152921504606846976 := ⟨_, rfl⟩
  rw [← hL0]
  have hL : (1152921504606846976 : Int) ≤ L := by omega
  have hL2 : L ≤ (1152921504606846976 : Int) := by omega
  clear hL0
  go_loop [12, 13, 101] (fun us n i => ∃ k q : Nat, k ≤ s.size ∧ us = .bool false ∧ i = .int .i64 k ∧ n = .int .u64 q ∧ q < 18446744073709551616) (fun _ _ i => s.size - (intOf i).toNat)
  case atStart => exact ⟨0, 0, by omega, rfl, rfl, rfl, by omega⟩
  case round =>
    obtain ⟨k, q, hk, rfl, rfl, rfl, hq⟩ := hrel
    by_cases hlt : k < s.size
    · have hcx := HC.out k hlt
      have hb := s[k].toNat_lt
      generalize s[k].toNat = c at hcx hb
      clear HC hrun hne
      by_cases hdec : 48 ≤ c ∧ c ≤ 57
      · obtain ⟨hd48, hd57⟩ := hdec
        by_cases hq6 : (q : Int) ≤ 1152921504606846975
        · go_wp2
          go_round
          case rel =>
            refine ⟨k + 1, q * 16 + (c - 48), by omega, rfl, by go_num, by go_num, by omega⟩
          case measure => simp [intOf]; omega
        · have hq7 : L ≤ (q : Int) := by omega
          go_wp2
          go_ret2
          exact .rng HM hbW rfl rfl
      · by_cases h95 : c = 95
        · subst h95
          go_wp2
          go_ret2
          exact .syn hbW rfl rfl
        · have h95b : ((c : Int) == 95) = false := by rw [beq_eq_false_iff_ne]; omega
          have hlow := low_or c hb
          have hl48 := low_lt c
          obtain ⟨e, he⟩ : ∃ e, e = c ||| 32 := ⟨_, rfl⟩
          rw [← he] at hlow hl48
          have he256 : e < 256 := by rw [he]; exact Nat.or_lt_two_pow (n := 8) hb (by omega)
          clear he
          rcases (show c < 48 ∨ 57 < c by omega) with hc | hc
          · have he := hl48 hc
            clear hl48
            go_wp2
            go_ret2
            exact .syn hbW rfl rfl
          · clear hl48
            by_cases e1 : e < 97
            · go_wp2
              go_ret2
              exact .syn hbW rfl rfl
            · by_cases e2 : 122 < e
              · go_wp2
                go_ret2
                exact .syn hbW rfl rfl
              · by_cases e3 : e ≤ 102
                · have e4 : 97 ≤ e := by omega
                  by_cases hq6 : (q : Int) ≤ 1152921504606846975
                  · go_wp2
                    go_round
                    case rel =>
                      refine ⟨k + 1, q * 16 + (e - 87), by omega, rfl, by go_num, by go_num, by omega⟩
                    case measure => simp [intOf]; omega
                  · have hq7 : L ≤ (q : Int) := by omega
                    go_wp2
                    go_ret2
                    exact .rng HM hbW rfl rfl
                · have e4 : 103 ≤ e := by omega
                  have e5 : e ≤ 122 := by omega
                  go_wp2
                  go_ret2
                  exact .syn hbW rfl rfl
    · clear HC hrun hne
      go_wp2
      go_ret2
      exact .ok q hq hbW rfl rfl
end Go.Proofs.YtjcefpeicbekhaaDoor
