/-
  Layer 15: the document's Put of whatever numbers; what was read is put as the bytes that were read.
-/
import Derived.Test.YtghbkjdjginfjaaP2
namespace Go.Proofs.Ytghbkjdjginfjaa
open Go.RowKit
set_option linter.unusedVariables false

set_option maxRecDepth 100000 in
set_option maxHeartbeats 4000000 in
theorem refput_e (p0 p1 p2 p3 : ByteArray) (a k s d ku su : Int) (w : World) (e1 : IntKind.u64.wrap k = ku) (e2 : IntKind.u64.wrap s = su)
    (P0 : ∀ W, Calls Try.prog 14 #[.int .u64 a, .int .i64 8] W fun e w' => e = .returned (.string p0) ∧ Below W.heap.size W w')
    (P1 : ∀ W, Calls Try.prog 14 #[.int .u64 ku, .int .i64 4] W fun e w' => e = .returned (.string p1) ∧ Below W.heap.size W w')
    (P2 : ∀ W, Calls Try.prog 14 #[.int .u64 su, .int .i64 4] W fun e w' => e = .returned (.string p2) ∧ Below W.heap.size W w')
    (P3 : ∀ W, Calls Try.prog 14 #[.int .u64 d, .int .i64 8] W fun e w' => e = .returned (.string p3) ∧ Below W.heap.size W w')
    (z0 : p0.size = 8) (z1 : p1.size = 4) (z2 : p2.size = 4) (z3 : p3.size = 8) :
    Calls Try.prog 8 #[rlv (a, k, s, d)] w fun e w' => e = .returned (.string (((p0 ++ p1) ++ p2) ++ p3)) ∧ Below w.heap.size w w' := by
  obtain ⟨w1, hw1⟩ : ∃ w1, w1 = w.alloc (.cells #[.int .u64 a, .int .i64 k, .int .i64 s, .int .u64 d] 27) := ⟨_, rfl⟩
  have hS : w1.drew.cell? ⟨w.heap.size, 0, none⟩ = some (.int .u64 a) ∧ w1.drew.cell? ⟨w.heap.size, 1, none⟩ = some (.int .i64 k) ∧ w1.drew.cell? ⟨w.heap.size, 2, none⟩ = some (.int .i64 s) ∧ w1.drew.cell? ⟨w.heap.size, 3, none⟩ = some (.int .u64 d) ∧ Below w.heap.size w w1.drew := by
    rw [hw1]
    refine ⟨by simp [go_sem], by simp [go_sem], by simp [go_sem], by simp [go_sem], ?_⟩
    exact ((Below.refl _ w).alloc (Nat.le_refl _) _).drew
  have HW : Hid (w1 = _) := hw1
  clear hw1
  go_enter Try.func8, Try.ntmps8
  go_wp2
  rw [← HW.out]
  go_region_held3 (fun W => W.cell? ⟨w.heap.size, 0, none⟩ = some (.int .u64 a) ∧ W.cell? ⟨w.heap.size, 1, none⟩ = some (.int .i64 k) ∧ W.cell? ⟨w.heap.size, 2, none⟩ = some (.int .i64 s) ∧ W.cell? ⟨w.heap.size, 3, none⟩ = some (.int .u64 d) ∧ Below w.heap.size w W)
    (first | assumption | (apply put_next; assumption; assumption))
    (first
      | (go_at_call 14; with_reducible refine (P0 _).mono ?_; rintro e w2 ⟨rfl, hb2⟩)
      | (go_at_call 14; with_reducible refine (P1 _).mono ?_; rintro e w2 ⟨rfl, hb2⟩)
      | (go_at_call 14; with_reducible refine (P2 _).mono ?_; rintro e w2 ⟨rfl, hb2⟩)
      | (go_at_call 14; with_reducible refine (P3 _).mono ?_; rintro e w2 ⟨rfl, hb2⟩))
  all_goals
    go_wp2
    go_ret
    rename_i hH
    exact ⟨rfl, hH.2.2.2.2⟩

/-- The document's Put of a relocation, whatever its numbers. -/
theorem refput_all (a k s d : Int) (w : World) (a0 : 0 ≤ a) (a1 : a < 18446744073709551616) (d0 : 0 ≤ d) (d1 : d < 18446744073709551616) :
    Calls Try.prog 8 #[rlv (a, k, s, d)] w fun e w' => e = .returned (.string (relB a.toNat (k % 18446744073709551616).toNat (s % 18446744073709551616).toNat d.toNat)) ∧ Below w.heap.size w w' := by
  have ea : ((a.toNat : Nat) : Int) = a := by omega
  have ed : ((d.toNat : Nat) : Int) = d := by omega
  have ek : (((k % 18446744073709551616).toNat : Nat) : Int) = k % 18446744073709551616 := by omega
  have es : (((s % 18446744073709551616).toNat : Nat) : Int) = s % 18446744073709551616 := by omega
  have w1 : IntKind.u64.wrap k = (((k % 18446744073709551616).toNat : Nat) : Int) := by rw [IntKind.wrap_u64, ek]
  have w2 : IntKind.u64.wrap s = (((s % 18446744073709551616).toNat : Nat) : Int) := by rw [IntKind.wrap_u64, es]
  have P0 := fun W => refput_yes a.toNat 8 W (by omega) (by omega) (by omega)
  have P3 := fun W => refput_yes d.toNat 8 W (by omega) (by omega) (by omega)
  rw [ea] at P0
  rw [ed] at P3
  exact refput_e _ _ _ _ a k s d _ _ w w1 w2 P0 (fun W => refput_yes (k % 18446744073709551616).toNat 4 W (by omega) (by omega) (by omega)) (fun W => refput_yes (s % 18446744073709551616).toNat 4 W (by omega) (by omega) (by omega)) P3 (encA_size _ _) (encA_size _ _) (encA_size _ _) (encA_size _ _)

theorem enc_dec : ∀ l : List UInt8, enc (dec l) l.length = l
  | [] => rfl
  | x :: l => by
    have h1 : dec (x :: l) = x.toNat + 256 * dec l := rfl
    have hx := x.toNat_lt
    have h2 : (x.toNat + 256 * dec l) % 256 = x.toNat := by omega
    have h3 : (x.toNat + 256 * dec l) / 256 = dec l := by omega
    show UInt8.ofNat (dec (x :: l) % 256) :: enc (dec (x :: l) / 256) l.length = x :: l
    rw [h1, h2, h3, enc_dec l]
    simp
theorem enc_num (s : ByteArray) (n : Nat) (hn : s.size = n) (h : n ≤ 8) : (⟨(enc (num s).toNat n).toArray⟩ : ByteArray) = s := by
  subst hn
  rw [num_small s h]
  have e : s.size = s.data.toList.length := rfl
  rw [e]
  rw [show ((dec s.data.toList : Nat) : Int).toNat = dec s.data.toList from Int.toNat_natCast _, enc_dec]
theorem ext_join (s : ByteArray) (a m c : Nat) (h1 : a ≤ m) (h2 : m ≤ c) : s.extract a m ++ s.extract m c = s.extract a c := by
  rw [ByteArray.extract_append_extract]
  congr 1 <;> omega
/-- The four numbers of 24 bytes, put again. -/
theorem rel_again (e : ByteArray) (he : e.size = 24) : relB (num (e.extract 0 8)).toNat (num (e.extract 8 12)).toNat (num (e.extract 12 16)).toNat (num (e.extract 16 24)).toNat = e := by
  unfold relB
  rw [enc_num _ 8 (by simp [he]) (by omega), enc_num _ 4 (by simp [he]) (by omega), enc_num _ 4 (by simp [he]) (by omega), enc_num _ 8 (by simp [he]) (by omega),
    ext_join _ 0 8 12 (by omega) (by omega), ext_join _ 0 12 16 (by omega) (by omega), ext_join _ 0 16 24 (by omega) (by omega)]
  have := ByteArray.extract_zero_size (b := e)
  rw [he] at this
  exact this
/-- A relocation that is right is its four numbers. -/
theorem relF_ok {e : ByteArray} {n : Int} (h : (relF e n).2 = 0) : (relF e n).1 = (num (e.extract 0 8), num (e.extract 8 12), num (e.extract 12 16), num (e.extract 16 24)) := by
  unfold relF relN at h ⊢
  repeat' split at h
  all_goals first | (exact absurd h (by decide)) | skip
  simp [*]
/-- Put of what was read: the bytes. -/
theorem put_again (e : ByteArray) (n : Int) (w : World) (he : e.size = 24) (h : (relF e n).2 = 0) :
    Calls Try.prog 11 #[rlv (relF e n).1] w fun x w' => x = .returned (.string e) ∧ Below w.heap.size w w' := by
  have b0 := num_bounds (e.extract 0 8)
  have b3 := num_bounds (e.extract 16 24)
  have b1 := num_lt4 (e.extract 8 12) (by simp [he])
  have b2 := num_lt4 (e.extract 12 16) (by simp [he])
  have H := put_any (num (e.extract 0 8)).toNat (num (e.extract 8 12)).toNat (num (e.extract 12 16)).toNat (num (e.extract 16 24)).toNat w (by omega) (by omega) (by omega) (by omega)
  rw [rel_again e he, Int.toNat_of_nonneg b0.1, Int.toNat_of_nonneg b1.1, Int.toNat_of_nonneg b2.1, Int.toNat_of_nonneg b3.1] at H
  rw [relF_ok h]
  exact H
end Go.Proofs.Ytghbkjdjginfjaa
