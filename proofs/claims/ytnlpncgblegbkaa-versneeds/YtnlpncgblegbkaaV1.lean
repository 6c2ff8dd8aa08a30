/-
  Layer 12: the document's look at bytes.
-/
import Derived.Test.YtnlpncgblegbkaaD2
namespace Go.Proofs.Ytnlpncgblegbkaa
open Go.RowKit
set_option linter.unusedVariables false

set_option maxHeartbeats 800000 in
theorem has_any (b : ByteArray) (p m : Nat) (r : Bool) (w : World) (hb : b.size ≤ 140737488351232) (hp : p < 2251799813685248) (hm : m ≤ 100) (hr : Hid (decide (p + m ≤ b.size) = r)) :
    Calls Try.prog 25 #[.string b, .int .u64 (p : Int), .int .u64 (m : Int)] w fun e w' => e = .returned (.bool r) ∧ w' = w := by
  by_cases h : (p : Int) ≤ (b.size : Int)
  · have HR : Hid (decide ((m : Int) ≤ (b.size : Int) - (p : Int)) = r) := by
      show _ = _
      rw [← hr.out]
      apply decide_eq_decide.2
      omega
    go_enter Try.func25, Try.ntmps25
    go_wp2
    go_ret
    exact ⟨by rw [← HR.out]; rfl, rfl⟩
  · have HR : Hid (r = false) := by
      show _ = _
      rw [← hr.out]
      simp only [decide_eq_false_iff_not]
      omega
    go_enter Try.func25, Try.ntmps25
    go_wp2
    go_ret
    exact ⟨by rw [HR.out]; rfl, rfl⟩

def rn (b : ByteArray) (p m : Nat) : Int := if p + m ≤ b.size then num (b.extract p (p + m)) else 0

set_option maxHeartbeats 800000 in
theorem rnum_any (b : ByteArray) (p m : Nat) (w : World) (hb : b.size ≤ 140737488351232) (hp : p < 2251799813685248) (hm : m ≤ 8) :
    Calls Try.prog 24 #[.string b, .int .u64 (p : Int), .int .i64 (m : Int)] w fun e w' => e = .returned (.int .u64 (rn b p m)) ∧ w' = w := by
  unfold rn
  by_cases h : p + m ≤ b.size
  · rw [if_pos h]
    have HR : Hid (decide (p + m ≤ b.size) = true) := by show _ = _; simp [h]
    obtain ⟨t, ht⟩ : ∃ t, b.extract p (p + m) = t := ⟨_, rfl⟩
    have hts : t.size ≤ maxLen := by rw [← ht]; unfold maxLen; simp; omega
    rw [ht]
    go_enter Try.func24, Try.ntmps24
    go_wp2_with (first
      | (go_at_call 25; refine (has_any _ _ _ _ _ hb hp (by omega) HR).mono ?_; rintro r w' ⟨rfl, rfl⟩)
      | (go_at_call 16; with_reducible refine (refget_any _ _ hts).mono ?_; rintro r w' ⟨rfl, rfl⟩))
    go_ret
    exact ⟨rfl, rfl⟩
  · rw [if_neg h]
    have HR : Hid (decide (p + m ≤ b.size) = false) := by show _ = _; simp only [decide_eq_false_iff_not]; omega
    go_enter Try.func24, Try.ntmps24
    go_wp2_with (first
      | (go_at_call 25; refine (has_any _ _ _ _ _ hb hp (by omega) HR).mono ?_; rintro r w' ⟨rfl, rfl⟩))
    go_ret
    exact ⟨rfl, rfl⟩

theorem ext_ext (b : ByteArray) (p n i j : Nat) (h : j ≤ n) (hin : p + n ≤ b.size) : (b.extract p (p + n)).extract i j = b.extract (p + i) (p + j) := by
  apply ByteArray.ext
  apply Array.toList_inj.1
  rw [Lib.extract_data, Lib.extract_data, Lib.extract_data, List.drop_take, List.drop_drop, List.take_take]
  congr 1
  omega
end Go.Proofs.Ytnlpncgblegbkaa
