/-
  The calls of layer 1 that make no memory: what each answers, whatever the input.
-/
import Derived.Test.YtffmkkfacemchaaRows
import Derived.Test.YtffmkkfacemchaaMath
import Derived.WalkKit
import Derived.ProofKit
import Derived.WalkSpells
import Derived.WalkLawsBesides
import Derived.Handy
namespace Go.Proofs.Ytffmkkfacemchaa
open Go.RowKit

theorem ret_int {k : IntKind} {a b : Int} (h : a = b) : Ending.returned (.int k a) = .returned (.int k b) := by rw [h]

set_option maxHeartbeats 400000 in
theorem isSize_yes (n : Int) (w : World) (h0 : 1 ≤ n) (h1 : n ≤ 8) :
    Calls Try.prog 64 #[.int .i64 n] w fun e w' => e = .returned (.bool true) ∧ w' = w := by
  go_enter Try.func64, Try.ntmps64
  go_wp2
  go_ret
  exact ⟨by simp, rfl⟩

set_option maxHeartbeats 400000 in
theorem isSize_no (n : Int) (w : World) (h : n < 1 ∨ 8 < n) :
    Calls Try.prog 64 #[.int .i64 n] w fun e w' => e = .returned (.bool false) ∧ w' = w := by
  by_cases h0 : 1 ≤ n
  · have h1 : ¬ n ≤ 8 := by omega
    go_enter Try.func64, Try.ntmps64
    go_wp2
    go_ret
    exact ⟨by simp, rfl⟩
  · go_enter Try.func64, Try.ntmps64
    go_wp2
    go_ret
    exact ⟨rfl, rfl⟩

set_option maxHeartbeats 400000 in
theorem get_any (s : ByteArray) (w : World) (hm : s.size ≤ maxLen) :
    Calls Try.prog 35 #[.string s] w fun e w' => e = .returned (.int .u64 (num s)) ∧ w' = w := by
  unfold maxLen at hm
  by_cases hs : s.size ≤ 8
  · rw [num_small s hs]
    go_enter Try.func35, Try.ntmps35
    go_wp2
    go_loop [3, 10] (fun n i => ∃ k : Nat, k ≤ s.size ∧ i = .int .i64 k ∧ n = .int .u64 ((dec (s.data.toList.take k) : Nat) : Int)) (fun _ i => s.size - (intOf i).toNat)
    case atStart => exact ⟨0, Nat.zero_le _, rfl, rfl⟩
    case round =>
      obtain ⟨k, hk, rfl, rfl⟩ := hrel
      by_cases hlt : k < s.size
      · have HS : Hid (_) := get_step s k hlt hs
        go_wp2
        go_round
        case rel => exact ⟨k + 1, by omega, by go_num, by rw [HS.out]⟩
        case measure => simp [intOf]; omega
      · go_wp2
        go_ret
        exact ⟨ret_int (by rw [List.take_of_length_le (by simp; omega)]), rfl⟩
  · rw [num_great s hs]
    go_enter Try.func35, Try.ntmps35
    go_wp2
    go_ret
    exact ⟨rfl, rfl⟩

set_option maxHeartbeats 400000 in
theorem refget_any (s : ByteArray) (w : World) (hm : s.size ≤ maxLen) :
    Calls Try.prog 39 #[.string s] w fun e w' => e = .returned (.int .u64 (num s)) ∧ w' = w := by
  unfold maxLen at hm
  by_cases hs : s.size ≤ 8
  · rw [num_small s hs]
    go_enter Try.func39, Try.ntmps39
    go_wp2
    go_loop [3, 4] (fun n i => ∃ k : Nat, k ≤ s.size ∧ i = .int .i64 k ∧ n = .int .u64 ((dec (s.data.toList.drop k) : Nat) : Int)) (fun _ i => (intOf i).toNat)
    case atStart => exact ⟨s.size, Nat.le_refl _, rfl, by rw [List.drop_of_length_le (by simp)]; rfl⟩
    case round =>
      obtain ⟨k, hk, rfl, rfl⟩ := hrel
      by_cases hlt : 0 < k
      · have hk1 : k - 1 < s.size := by omega
        have HS : Hid (_) := refget_step s k hlt hk hs hk1
        go_wp2
        go_round
        case rel => exact ⟨k - 1, by omega, by go_num, by rw [HS.out]⟩
        case measure => simp [intOf]; omega
      · have hk0 : k = 0 := by omega
        subst hk0
        go_wp2
        go_ret
        exact ⟨rfl, rfl⟩
  · rw [num_great s hs]
    go_enter Try.func39, Try.ntmps39
    go_wp2
    go_loop [3, 4] (fun n i => i = .int .i64 s.size ∧ n = .int .u64 0) (fun _ i => 0)
    case atStart => exact ⟨rfl, rfl⟩
    case round =>
      obtain ⟨rfl, rfl⟩ := hrel
      go_wp2
      go_ret
      exact ⟨rfl, rfl⟩

set_option maxHeartbeats 400000 in
theorem part_yes (s t : ByteArray) (p n : Int) (w : World) (ht : Hid (t = s.extract p.toNat (p + n).toNat)) (hm : s.size ≤ 9223372036854775807) (ha0 : 0 ≤ p) (hn0 : 0 ≤ n) (h : p + n ≤ s.size) :
    Calls Try.prog 36 #[.string s, .int .u64 p, .int .u64 n] w fun e w' => e = .returned (.tuple #[.string t, .bool true]) ∧ w' = w := by
  go_enter Try.func36, Try.ntmps36
  go_wp2
  go_ret2
  exact ⟨by rw [ht.out]; rfl, rfl⟩

set_option maxHeartbeats 400000 in
theorem part_no (s : ByteArray) (p n : Int) (w : World) (hm : s.size ≤ 9223372036854775807) (ha0 : 0 ≤ p) (_hn0 : 0 ≤ n) (h : (s.size : Int) < p + n) :
    Calls Try.prog 36 #[.string s, .int .u64 p, .int .u64 n] w fun e w' => e = .returned (.tuple #[.string ⟨#[]⟩, .bool false]) ∧ w' = w := by
  by_cases hp : p ≤ s.size
  · go_enter Try.func36, Try.ntmps36
    go_wp2
    go_ret2
    exact ⟨rfl, rfl⟩
  · go_enter Try.func36, Try.ntmps36
    go_wp2
    go_ret2
    exact ⟨rfl, rfl⟩

/- le.At: -/
set_option maxHeartbeats 400000 in
theorem at_size (s : ByteArray) (p n : Int) (w : World) (hn : n < 1 ∨ 8 < n) :
    Calls Try.prog 66 #[.string s, .int .u64 p, .int .i64 n] w fun e w' => e = .returned (.tuple #[.int .u64 0, .bool false]) ∧ w' = w := by
  go_enter Try.func66, Try.ntmps66
  go_wp2_with (go_at_call 64; refine (isSize_no _ _ hn).mono ?_; rintro e w' ⟨rfl, rfl⟩)
  go_ret2
  exact ⟨rfl, rfl⟩

theorem num_empty : num ⟨#[]⟩ = 0 := by decide

set_option maxHeartbeats 400000 in
theorem at_no (s : ByteArray) (p n : Int) (w : World) (hm : s.size ≤ 9223372036854775807) (ha0 : 0 ≤ p) (h0 : 1 ≤ n) (h1 : n ≤ 8) (h : (s.size : Int) < p + n) :
    Calls Try.prog 66 #[.string s, .int .u64 p, .int .i64 n] w fun e w' => e = .returned (.tuple #[.int .u64 0, .bool false]) ∧ w' = w := by
  go_enter Try.func66, Try.ntmps66
  go_wp2_with (first | (go_at_call 64; refine (isSize_yes _ _ h0 h1).mono ?_; rintro e w' ⟨rfl, rfl⟩) | (go_at_call 36; refine (part_no _ _ _ _ hm ha0 (by omega) h).mono ?_; rintro e w' ⟨rfl, rfl⟩) | (go_at_call 35; refine (get_any _ _ (by decide)).mono ?_; rintro e w' ⟨rfl, rfl⟩))
  go_ret2
  exact ⟨rfl, rfl⟩

theorem ext_size (s : ByteArray) (a b : Nat) (hm : s.size ≤ 9223372036854775807) : (s.extract a b).size ≤ maxLen := by
  have : (s.extract a b).size ≤ s.size := by simp; omega
  unfold maxLen; omega

set_option maxHeartbeats 400000 in
theorem at_yes (s t : ByteArray) (p n : Int) (w : World) (ht : Hid (t = s.extract p.toNat (p + n).toNat)) (hm : s.size ≤ 9223372036854775807) (ha0 : 0 ≤ p) (h0 : 1 ≤ n) (h1 : n ≤ 8) (h : p + n ≤ s.size) :
    Calls Try.prog 66 #[.string s, .int .u64 p, .int .i64 n] w fun e w' => e = .returned (.tuple #[.int .u64 (num t), .bool true]) ∧ w' = w := by
  have hmx : t.size ≤ maxLen := by rw [ht.out]; exact ext_size _ _ _ hm
  go_enter Try.func66, Try.ntmps66
  go_wp2_with (first | (go_at_call 64; refine (isSize_yes _ _ h0 h1).mono ?_; rintro e w' ⟨rfl, rfl⟩) | (go_at_call 36; refine (part_yes _ _ _ _ _ ht hm ha0 (by omega) h).mono ?_; rintro e w' ⟨rfl, rfl⟩) | (go_at_call 35; refine (get_any _ _ hmx).mono ?_; rintro e w' ⟨rfl, rfl⟩))
  go_ret2
  exact ⟨rfl, rfl⟩

theorem ret_two {a b : ByteArray} {x y : Bool} (h : (a, x) = (b, y)) : Ending.returned (.tuple #[.string a, .bool x]) = .returned (.tuple #[.string b, .bool y]) := by
  cases h; rfl

end Go.Proofs.Ytffmkkfacemchaa
