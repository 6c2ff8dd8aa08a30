/-
  le.With: what it answers, whatever the input.
-/
import Derived.Test.YtonaanedeldhmaaA3
import Derived.Deep.QuietTactic
import Derived.BigQuiet
import Derived.Deep.RegionHeld3
import Derived.Deep.DrawnRows
namespace Go.Proofs.Ytonaanedeldhmaa
open Go.RowKit
attribute [local go_sem ↓] Go.wp_at_zero Go.wp_at_succ

set_option maxHeartbeats 800000 in
theorem with_size (s : ByteArray) (p N n : Int) (w : World) (h : n < 1 ∨ 8 < n) :
    Calls Try.prog 20 #[.string s, .int .u64 p, .int .u64 N, .int .i64 n] w fun e w' => e = .returned (.tuple #[.string ⟨#[]⟩, .bool false]) ∧ w' = w := by
  go_enter Try.func20, Try.ntmps20
  go_wp2_with (go_at_call 23; refine (isSize_no _ _ h).mono ?_; rintro e w' ⟨rfl, rfl⟩)
  go_ret2
  exact ⟨rfl, rfl⟩

set_option maxHeartbeats 800000 in
theorem with_no (s : ByteArray) (p N n : Int) (w : World) (hm : s.size ≤ 140737488351232) (ha0 : 0 ≤ p) (h0 : 1 ≤ n) (h1 : n ≤ 8) (h : (s.size : Int) < p + n) :
    Calls Try.prog 20 #[.string s, .int .u64 p, .int .u64 N, .int .i64 n] w fun e w' => e = .returned (.tuple #[.string ⟨#[]⟩, .bool false]) ∧ w' = w := by
  go_enter Try.func20, Try.ntmps20
  go_wp2_with (first | (go_at_call 23; refine (isSize_yes _ _ h0 h1).mono ?_; rintro e w' ⟨rfl, rfl⟩) | (go_at_call 15; refine (part_no _ _ _ _ hm ha0 (by omega) h).mono ?_; rintro e w' ⟨rfl, rfl⟩))
  go_ret2
  exact ⟨rfl, rfl⟩

set_option maxHeartbeats 800000 in
theorem with_yes (s d A C : ByteArray) (P N n : Nat) (w : World) (hA : s.extract 0 P = A) (hC : s.extract (P + n) s.size = C) (hm : s.size ≤ 500) (h0 : 1 ≤ n) (h1 : n ≤ 8) (h : P + n ≤ s.size) (hd : d.size ≤ 8) (P9 : ∀ w, Calls Try.prog 9 #[.int .u64 N, .int .i64 n] w fun e w' => e = .returned (.string d) ∧ Below w.heap.size w w') :
    Calls Try.prog 20 #[.string s, .int .u64 P, .int .u64 N, .int .i64 n] w fun e w' => e = .returned (.tuple #[.string (A ++ d ++ C), .bool true]) ∧ Below w.heap.size w w' := by
  obtain ⟨t, ht⟩ : ∃ t, t = s.extract (P : Int).toNat ((P : Int) + (n : Int)).toNat := ⟨_, rfl⟩
  have Ht : Hid (t = s.extract (P : Int).toNat ((P : Int) + (n : Int)).toNat) := ht
  clear ht
  have hAs : A.size ≤ 500 := by rw [← hA]; simp; omega
  have hCs : C.size ≤ 500 := by rw [← hC]; simp; omega
  have hPs : P ≤ s.size := by omega
  have hPi : (P : Int) ≤ (s.size : Int) := by omega
  have hPn : (P : Int) + (n : Int) ≤ (s.size : Int) := by omega
  have hPp : (0 : Int) ≤ (P : Int) + (n : Int) := by omega
  have hwn : IntKind.u64.wrap (n : Int) = (n : Int) := IntWalk.u64_in _ ⟨by omega, by omega⟩
  have hwp : IntKind.u64.wrap ((P : Int) + (n : Int)) = (P : Int) + (n : Int) := IntWalk.u64_in _ ⟨by omega, by omega⟩
  have htn : ((P : Int) + (n : Int)).toNat = P + n := by omega
  have x1 : ¬ 9223372036854775807 < A.size + d.size := by omega
  have x2 : ¬ 9223372036854775807 < (A ++ d).size + C.size := by rw [ByteArray.size_append]; omega
  have x3 : ¬ 9223372036854775807 < A.size + d.size + C.size := by omega
  go_enter Try.func20, Try.ntmps20
  go_wp2_with (first | (go_at_call 23; refine (isSize_yes _ _ (by omega) (by omega)).mono ?_; rintro e w' ⟨rfl, rfl⟩) | (go_at_call 15; refine (part_yes _ _ _ _ _ Ht (by omega) (by omega) (by omega) (by omega)).mono ?_; rintro e w' ⟨rfl, rfl⟩))
  go_region_held3 (fun _ => True) (trivial) ((go_at_call 9; refine (P9 _).mono ?_; rintro e w2 ⟨rfl, hb2⟩))
  go_wp2
  go_ret2
  exact ⟨rfl, (Below.refl _ w').drew.trans hb2⟩

/-- The text with the number in it: its size, and its three parts. -/
theorem parts_of (c d A C T : ByteArray) (P k : Nat) (h : P + k ≤ c.size) (hd : d.size = k) (hA : c.extract 0 P = A) (hC : c.extract (P + k) c.size = C) (hT : A ++ d ++ C = T) :
    T.size = c.size ∧ T.extract 0 P = A ∧ T.extract P (P + k) = d ∧ T.extract (P + k) c.size = C := by
  have hcl : c.data.toList.length = c.size := by simp
  have hdl : d.data.toList.length = k := by rw [← hd]; simp
  have eA : A.data.toList = c.data.toList.take P := by rw [← hA, Lib.extract_data]; simp
  have eC : C.data.toList = c.data.toList.drop (P + k) := by rw [← hC]; exact drop_extract c (P + k)
  have lA : A.data.toList.length = P := by rw [eA, List.length_take]; omega
  have eT : T.data.toList = A.data.toList ++ (d.data.toList ++ C.data.toList) := by rw [← hT]; simp
  have lT : T.size = c.size := by
    have h1 : T.data.toList.length = T.size := by simp
    rw [← h1, eT, List.length_append, List.length_append, lA, hdl, eC, List.length_drop]
    omega
  refine ⟨lT, ?_, ?_, ?_⟩
  · apply ByteArray.ext; apply Array.toList_inj.1
    rw [Lib.extract_data, eT, List.drop_zero, Nat.sub_zero]
    exact List.take_left' lA
  · apply ByteArray.ext; apply Array.toList_inj.1
    rw [Lib.extract_data, eT, List.drop_left' lA, Nat.add_sub_cancel_left]
    exact List.take_left' hdl
  · apply ByteArray.ext; apply Array.toList_inj.1
    rw [← lT, drop_extract, eT, ← List.append_assoc]
    exact List.drop_left' (by rw [List.length_append, lA, hdl])
end Go.Proofs.Ytonaanedeldhmaa
