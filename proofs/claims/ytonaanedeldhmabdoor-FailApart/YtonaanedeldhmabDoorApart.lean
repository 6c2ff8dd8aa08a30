/-
  The names that FailApart makes: no blank is in one.
-/
import Derived.Test.YtonaanedeldhmabDoorText
import Derived.Test.YtonaanedeldhmabDoorSpeaks
namespace Go.Proofs.YtonaanedeldhmabDoor
open Go.RowKit

theorem and_low (a : Int) (m : Nat) (hm : m ≤ 7) : ∃ q : Nat, bits BinOp.and IntKind.i64 a (m : Int) = (q : Int) ∧ q ≤ m := by
  have hl : ((BitVec.ofInt 64 a) &&& (BitVec.ofInt 64 (m : Int))).toNat ≤ m := by
    rw [BitVec.toNat_and]
    have e : (BitVec.ofInt 64 (m : Int)).toNat = m := by simp; omega
    rw [e]
    exact Nat.and_le_right
  refine ⟨((BitVec.ofInt 64 a) &&& (BitVec.ofInt 64 (m : Int))).toNat, ?_, hl⟩
  show IntKind.i64.wrap (((BitVec.ofInt 64 a) &&& (BitVec.ofInt 64 (m : Int))).toNat : Int) = _
  rw [IntKind.wrap_i64]
  omega

theorem one_byte (q : Nat) (hq : q ≤ 7) (w : World) : (convert 53 9 (.slice (some ⟨w.heap.size, 0, none⟩) 1 1)).run Tryd.prog (w.alloc (.cells #[.int .u8 (97 + (q : Int))] 5)) = .ok (.string ⟨#[UInt8.ofNat (97 + q)]⟩) (w.alloc (.cells #[.int .u8 (97 + (q : Int))] 5)) := by
  have := run_convert_bytes_back (P := Tryd.prog) (w.alloc (.cells #[.int .u8 (97 + (q : Int))] 5)) 53 9 5 ⟨w.heap.size, 0, none⟩ 1 [UInt8.ofNat (97 + q)] Tryd.underlying53 Tryd.underlying5 Tryd.underlying9 (fun j hj => by
    match j, hj with
    | 0, _ =>
      have e : (UInt8.ofNat (97 + q)).toNat = 97 + q := by simp; omega
      simp only [List.getElem_cons_zero, e]
      simp [Addr.add, go_sem])
  exact this
theorem letter_plain : ∀ q : Fin 8, UInt8.ofNat (97 + q.val) ≠ 32 := by decide

set_option maxHeartbeats 800000 in
theorem named_any (a : Int) (w : World) : Calls Tryd.prog 13 #[.int .i64 a] w fun x w' => ∃ nm : ByteArray, x = .returned (.string nm) ∧ nm.size ≤ 3 ∧ (32 : UInt8) ∉ nm.data.toList ∧ Below w.heap.size w w' := by
  obtain ⟨m, hm, hm3⟩ := and_low a 3 (by omega)
  obtain ⟨q, hq, hq7⟩ := and_low (a / 4) 7 (by omega)
  have hm' : bits BinOp.and IntKind.i64 a 3 = (m : Int) := hm
  have hq' : bits BinOp.and IntKind.i64 (a / 4) 7 = (q : Int) := hq
  clear hm hq
  go_enter Tryd.func13, Tryd.ntmps13
  go_wp2
  go_loopw [3, 4] (fun s i wr => ∃ k : Nat, ∃ nm : ByteArray, k ≤ m ∧ i = .int .i64 k ∧ s = .string nm ∧ nm.size ≤ k ∧ Hid ((32 : UInt8) ∉ nm.data.toList) ∧ Below w.heap.size w wr) (fun _ i _ => m - (intOf i).toNat)
  case atStart => exact ⟨0, _, by omega, rfl, rfl, by decide, (by show _ ∉ _; decide), Below.refl _ _⟩
  case round =>
    obtain ⟨k, nm, hk, rfl, rfl, hs, HN, hb⟩ := hrel
    by_cases hlt : k < m
    · obtain ⟨b, hb0⟩ : ∃ b : ByteArray, b = ⟨#[UInt8.ofNat (97 + q)]⟩ := ⟨_, rfl⟩
      have hcv := one_byte q hq7 wr
      rw [← hb0] at hcv
      have hbz : b.size = 1 := by rw [hb0]; rfl
      have HB : Hid (b = ⟨#[UInt8.ofNat (97 + q)]⟩) := hb0
      have hbz1 : b.size ≤ 1 := by omega
      clear hb0 hbz
      go_wp2
      go_roundw
      case rel =>
        refine ⟨k + 1, nm ++ b, by omega, by go_num, rfl, by rw [ByteArray.size_append]; omega, ?_, hb.alloc hb.size _⟩
        show _ ∉ _
        rw [HB.out]
        simp only [ByteArray.data_append, Array.toList_append, List.mem_append, not_or]
        exact ⟨HN.out, by simpa using (letter_plain ⟨q, by omega⟩).symm⟩
      case measure => simp [intOf]; omega
    · go_wp2
      go_ret
      exact ⟨nm, rfl, by omega, HN.out, hb⟩
end Go.Proofs.YtonaanedeldhmabDoor
