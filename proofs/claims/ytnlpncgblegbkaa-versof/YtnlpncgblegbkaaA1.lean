/-
  The calls of layer 1 that make no memory: what each answers, whatever the input.
-/
import Derived.Test.YtnlpncgblegbkaaRows
import Derived.Test.YtnlpncgblegbkaaMath
import Derived.WalkKit
import Derived.ProofKit
import Derived.WalkSpells
import Derived.WalkLawsBesides
import Derived.Handy
namespace Go.Proofs.Ytnlpncgblegbkaa
open Go.RowKit

theorem ret_int {k : IntKind} {a b : Int} (h : a = b) : Ending.returned (.int k a) = .returned (.int k b) := by rw [h]

set_option maxHeartbeats 400000 in
theorem get_any (s : ByteArray) (w : World) (hm : s.size ≤ maxLen) :
    Calls Try.prog 28 #[.string s] w fun e w' => e = .returned (.int .u64 (num s)) ∧ w' = w := by
  unfold maxLen at hm
  by_cases hs : s.size ≤ 8
  · rw [num_small s hs]
    go_enter Try.func28, Try.ntmps28
    go_wp2
    go_loop [3, 10] (fun n i => ∃ k : Nat, k ≤ s.size ∧ i = .int .i64 k ∧ n = .int .u64 ((dec (s.data.toList.take k) : Nat) : Int)) (fun _ i => s.size - (intOf i).toNat)
    case atStart => exact ⟨0, Nat.zero_le _, rfl, rfl⟩
    case round =>
      obtain ⟨k, hk, rfl, rfl⟩ := hrel
      by_cases hlt : k < s.size
      · have HS : Hid (_) := get_step s k hlt hs
        go_wp2
        go_round
        case rel => exact ⟨k + 1, by omega, by go_num, by rw [HS.out]⟩
        case measure => simp [intOf]; omega
      · go_wp2
        go_ret
        exact ⟨ret_int (by rw [List.take_of_length_le (by simp; omega)]), rfl⟩
  · rw [num_great s hs]
    go_enter Try.func28, Try.ntmps28
    go_wp2
    go_ret
    exact ⟨rfl, rfl⟩

set_option maxHeartbeats 400000 in
theorem refget_any (s : ByteArray) (w : World) (hm : s.size ≤ maxLen) :
    Calls Try.prog 16 #[.string s] w fun e w' => e = .returned (.int .u64 (num s)) ∧ w' = w := by
  unfold maxLen at hm
  by_cases hs : s.size ≤ 8
  · rw [num_small s hs]
    go_enter Try.func16, Try.ntmps16
    go_wp2
    go_loop [3, 4] (fun n i => ∃ k : Nat, k ≤ s.size ∧ i = .int .i64 k ∧ n = .int .u64 ((dec (s.data.toList.drop k) : Nat) : Int)) (fun _ i => (intOf i).toNat)
    case atStart => exact ⟨s.size, Nat.le_refl _, rfl, by rw [List.drop_of_length_le (by simp)]; rfl⟩
    case round =>
      obtain ⟨k, hk, rfl, rfl⟩ := hrel
      by_cases hlt : 0 < k
      · have hk1 : k - 1 < s.size := by omega
        have HS : Hid (_) := refget_step s k hlt hk hs hk1
        go_wp2
        go_round
        case rel => exact ⟨k - 1, by omega, by go_num, by rw [HS.out]⟩
        case measure => simp [intOf]; omega
      · have hk0 : k = 0 := by omega
        subst hk0
        go_wp2
        go_ret
        exact ⟨rfl, rfl⟩
  · rw [num_great s hs]
    go_enter Try.func16, Try.ntmps16
    go_wp2
    go_loop [3, 4] (fun n i => i = .int .i64 s.size ∧ n = .int .u64 0) (fun _ i => 0)
    case atStart => exact ⟨rfl, rfl⟩
    case round =>
      obtain ⟨rfl, rfl⟩ := hrel
      go_wp2
      go_ret
      exact ⟨rfl, rfl⟩

set_option maxHeartbeats 400000 in
theorem part_yes (s t : ByteArray) (p n : Int) (w : World) (ht : Hid (t = s.extract p.toNat (p + n).toNat)) (hm : s.size ≤ 140737488351232) (ha0 : 0 ≤ p) (hn0 : 0 ≤ n) (h : p + n ≤ s.size) :
    Calls Try.prog 37 #[.string s, .int .u64 p, .int .u64 n] w fun e w' => e = .returned (.tuple #[.string t, .bool true]) ∧ w' = w := by
  go_enter Try.func37, Try.ntmps37
  go_wp2
  go_ret2
  exact ⟨by rw [ht.out]; rfl, rfl⟩

set_option maxHeartbeats 400000 in
theorem part_no (s : ByteArray) (p n : Int) (w : World) (hm : s.size ≤ 140737488351232) (ha0 : 0 ≤ p) (_hn0 : 0 ≤ n) (h : (s.size : Int) < p + n) :
    Calls Try.prog 37 #[.string s, .int .u64 p, .int .u64 n] w fun e w' => e = .returned (.tuple #[.string ⟨#[]⟩, .bool false]) ∧ w' = w := by
  by_cases hp : p ≤ s.size
  · go_enter Try.func37, Try.ntmps37
    go_wp2
    go_ret2
    exact ⟨rfl, rfl⟩
  · go_enter Try.func37, Try.ntmps37
    go_wp2
    go_ret2
    exact ⟨rfl, rfl⟩

/- le.At: -/
theorem num_empty : num ⟨#[]⟩ = 0 := by decide

theorem ext_size (s : ByteArray) (a b : Nat) (hm : s.size ≤ 9223372036854775807) : (s.extract a b).size ≤ maxLen := by
  have : (s.extract a b).size ≤ s.size := by simp; omega
  unfold maxLen; omega

theorem idx27 (s : ByteArray) (w : World) : (callFunc 45 #[.string s, .int .u8 0]).run Try.prog w = .ok (.value (.int .i64 (Lib.indexByte s.data.toList 0))) w := by
  rw [run_callFunc_extern Try.func45 (by kernel_rfl) (by kernel_rfl) (by kernel_rfl) (e := Extern.BytealgIndexByte.indexByte) (by kernel_rfl), Lib.run_indexByteString]
  rfl

set_option maxHeartbeats 400000 in
theorem idx24 (s : ByteArray) (w : World) (r : Int) (hr : Hid (Lib.indexByte s.data.toList 0 = r)) :
    Calls Try.prog 43 #[.string s, .int .u8 0] w fun e w' => e = .returned (.int .i64 r) ∧ w' = w := by
  have h27 : ∀ w, (callFunc 45 #[.string s, .int .u8 0]).run Try.prog w = .ok (.value (.int .i64 r)) w := fun w => by rw [idx27, hr.out]
  go_enter Try.func43, Try.ntmps43
  go_wp2
  go_ret
  exact ⟨rfl, rfl⟩

theorem ret_two {a b : ByteArray} {x y : Bool} (h : (a, x) = (b, y)) : Ending.returned (.tuple #[.string a, .bool x]) = .returned (.tuple #[.string b, .bool y]) := by
  cases h; rfl

set_option maxHeartbeats 400000 in
theorem text_any (s t : ByteArray) (b : Bool) (p n : Int) (w : World) (ht : Hid (txt s p n = (t, b))) (hm : s.size ≤ 9223372036854775807) (ha0 : 0 ≤ p) :
    Calls Try.prog 42 #[.string s, .int .u64 p, .int .i64 n] w fun e w' => e = .returned (.tuple #[.string t, .bool b]) ∧ w' = w := by
  by_cases hp : p ≤ s.size
  · obtain ⟨r, hr0⟩ : ∃ r, Lib.indexByte (s.data.toList.drop p.toNat) 0 = r := ⟨_, rfl⟩
    have hl := indexByte_lt (s.data.toList.drop p.toNat) 0
    rw [hr0, List.length_drop] at hl
    have hl' : r + p ≤ s.size := by
      have : s.data.toList.length = s.size := by simp
      omega
    have HR : Hid (Lib.indexByte (s.data.toList.drop p.toNat) 0 = r) := hr0
    have HE : Hid (Lib.indexByte (s.extract p.toNat s.size).data.toList 0 = r) := by show _ = _; rw [drop_extract, hr0]
    obtain ⟨_, hl1⟩ := hl
    clear hr0
    by_cases h0 : r < 0
    · have HT : Hid (_) := ht.out.symm.trans (txt_no s p n r hp HR.out (.inl h0))
      go_enter Try.func42, Try.ntmps42
      go_wp2_with (go_at_call 43; refine (idx24 _ _ _ HE).mono ?_; rintro e w' ⟨rfl, rfl⟩)
      go_ret2
      exact ⟨ret_two HT.out.symm, rfl⟩
    · by_cases h1 : n < r
      · have HT : Hid (_) := ht.out.symm.trans (txt_no s p n r hp HR.out (.inr h1))
        go_enter Try.func42, Try.ntmps42
        go_wp2_with (go_at_call 43; refine (idx24 _ _ _ HE).mono ?_; rintro e w' ⟨rfl, rfl⟩)
        go_ret2
        exact ⟨ret_two HT.out.symm, rfl⟩
      · have HT : Hid (_) := ht.out.symm.trans (txt_yes s p n r hp HR.out (by omega) (by omega))
        go_enter Try.func42, Try.ntmps42
        go_wp2_with (go_at_call 43; refine (idx24 _ _ _ HE).mono ?_; rintro e w' ⟨rfl, rfl⟩)
        go_ret2
        exact ⟨ret_two HT.out.symm, rfl⟩
  · have HT : Hid (_) := ht.out.symm.trans (txt_far s p n (by omega))
    go_enter Try.func42, Try.ntmps42
    go_wp2
    go_ret2
    exact ⟨ret_two HT.out.symm, rfl⟩

set_option maxHeartbeats 400000 in
theorem reftext_any (s t : ByteArray) (b : Bool) (p n : Int) (w : World) (ht : Hid (txt s p n = (t, b))) (hm : s.size ≤ 9223372036854775807) (ha0 : 0 ≤ p) (hn0 : -9223372036854775808 ≤ n) (hn1 : n ≤ 9223372036854775807) :
    Calls Try.prog 26 #[.string s, .int .u64 p, .int .i64 n] w fun e w' => e = .returned (.tuple #[.string t, .bool b]) ∧ w' = w := by
  by_cases hp : p ≤ s.size
  · obtain ⟨P, rfl⟩ := Int.eq_ofNat_of_zero_le ha0
    go_enter Try.func26, Try.ntmps26
    go_wp2
    go_loop [8] (fun i => ∃ k : Nat, P ≤ k ∧ k ≤ s.size ∧ i = .int .i64 k ∧ Hid (∀ j (h : j < s.size), P ≤ j → j < k → s[j] ≠ 0)) (fun i => s.size - (intOf i).toNat)
    case atStart => exact ⟨P, Nat.le_refl _, by omega, rfl, fun j _ h1 h2 => by omega⟩
    case round =>
      obtain ⟨k, hPk, hk, rfl, HB⟩ := hrel
      by_cases hlt : k < s.size
      · by_cases hz : s[k] = 0
        · have HZ : Hid (_) := zero_at s P k hPk hlt hz HB.out
          have hz' : ((s[k].toNat : Int) == 0) = true := by rw [hz]; rfl
          clear hz
          by_cases h1 : n < (k : Int) - P
          · have HT : Hid (_) := ht.out.symm.trans (txt_no s P n _ hp HZ.out (.inr (by omega)))
            go_wp2
            go_ret2
            exact ⟨ret_two HT.out.symm, rfl⟩
          · have HT : Hid (_) := ht.out.symm.trans (txt_yes s P n _ hp HZ.out (by omega) (by omega))
            go_wp2
            go_ret2
            exact ⟨ret_two (by rw [HT.out, show ((P : Int) + ((k - P : Nat) : Int)).toNat = k by omega]; rfl), rfl⟩
        · have hz' : ((s[k].toNat : Int) == 0) = false := by
            rw [beq_eq_false_iff_ne]
            intro h
            apply hz
            apply UInt8.toNat_inj.1
            have : s[k].toNat = 0 := by omega
            rw [this]; rfl
          have HZ : Hid (s[k] ≠ 0) := hz
          clear hz
          go_wp2
          go_round
          case rel => exact ⟨k + 1, by omega, by omega, by go_num, fun j h h1 h2 => by
            by_cases e : j = k
            · subst e; exact HZ.out
            · exact HB.out j h h1 (by omega)⟩
          case measure => simp [intOf]; omega
      · have HT : Hid (_) := ht.out.symm.trans (txt_no s P n (-1) hp (zero_none s P (fun j h h1 => HB.out j h h1 (by omega))) (.inl (by omega)))
        go_wp2
        go_ret2
        exact ⟨ret_two HT.out.symm, rfl⟩
  · have HT : Hid (_) := ht.out.symm.trans (txt_far s p n (by omega))
    go_enter Try.func26, Try.ntmps26
    go_wp2
    go_ret2
    exact ⟨ret_two HT.out.symm, rfl⟩
end Go.Proofs.Ytnlpncgblegbkaa
