/-
  The calls of layer 1 that make memory: Put, and the document's Put.
-/
import Derived.Test.YtffmkkfacemchaaA1
namespace Go.Proofs.Ytffmkkfacemchaa
open Go.RowKit

theorem Try.info5 : (Try.prog.info? 5).map (fun i => (i.zero, i.size, i.bytes)) = some (some (.int .u8 0), 1, 1) := by kernel_rfl

/-- The cells of Put's slice behind k rounds. -/
def putCells (N n k : Nat) : List Value := (enc N k).map (fun b => Value.int .u8 (b.toNat : Int)) ++ List.replicate (n - k) (Value.int .u8 0)

theorem putCells_zero (N n : Nat) : (madeCells #[Value.int IntKind.u8 0] n).toList = putCells N n 0 := by
  rw [toList_madeCells_one]; simp [putCells, enc]
theorem putCells_at (N n k : Nat) (h : k < n) : (putCells N n k)[k]? = some (.int .u8 0) := by
  unfold putCells
  rw [List.getElem?_append_right (by simp [enc_length])]
  simp [enc_length, List.getElem?_replicate]
  omega
theorem putCells_set (N n k : Nat) (h : k < n) : (putCells N n k).set k (.int .u8 ((N / 256 ^ k % 256 : Nat) : Int)) = putCells N n (k + 1) := by
  unfold putCells
  rw [List.set_append_right _ _ (by simp [enc_length]), enc_snoc, show n - k = (n - (k + 1)) + 1 by omega, List.replicate_succ]
  simp [enc_length]
theorem putCells_full (N n : Nat) : putCells N n n = (enc N n).map (fun b => Value.int .u8 (b.toNat : Int)) := by simp [putCells]
theorem put_byte (N k : Nat) : ((N : Int) / 2 ^ (8 * k) % 256) = ((N / 256 ^ k % 256 : Nat) : Int) := by
  have e : (2 : Int) ^ (8 * k) = ((256 ^ k : Nat) : Int) := by rw [Int.pow_mul, Int.natCast_pow]; rfl
  rw [e]
  simp only [Int.natCast_ediv, Int.natCast_emod]
  rfl

set_option maxHeartbeats 800000 in
theorem put_yes (N n : Nat) (w : World) (h0 : 1 ≤ n) (h1 : n ≤ 8) :
    Calls Try.prog 42 #[.int .u64 N, .int .i64 n] w fun e w' => e = .returned (.string ⟨(enc N n).toArray⟩) ∧ Below w.heap.size w w' := by
  obtain ⟨i0, hi, hz0, hz1, hz2⟩ := info_parts Try.info5
  go_enter Try.func42, Try.ntmps42
  go_wp2_with (first
    | (go_at_call 64; refine (isSize_yes _ _ (by omega) (by omega)).mono ?_; rintro e w' ⟨rfl, rfl⟩)
    | (at_make; refine wpList_make_full _ rfl _ _ 78 rfl _ 5 i0 (.int .u8 0) 1 Try.underlying78 hi hz0 hz1 .i64 .i64 _ _ n rfl rfl rfl rfl ?_ ?_ (Nat.le_refl _) ?_))
  · rw [hz2]; omega
  · unfold maxLen; omega
  · intro w1 hown hgrow
    have hc : Hid ((madeCells #[Value.int IntKind.u8 0] n).toList = putCells N n 0) := putCells_zero N n
    rw [hc.out] at hown
    go_wp2
    go_loopw [13] (fun i wr => ∃ k : Nat, k ≤ n ∧ i = .int .i64 k ∧ Below w'.heap.size w' wr ∧ wr.ownsRow w'.heap.size 5 1 (Value.slice (some ⟨w'.heap.size, 0, none⟩) n n) n (putCells N n k)) (fun i _ => n - (intOf i).toNat)
    case atStart => exact ⟨0, Nat.zero_le _, rfl, (Below.refl _ _).grown hgrow (Nat.le_refl _) (by simp), hown⟩
    case round =>
      obtain ⟨k, hk, rfl, hb, ho⟩ := hrel
      by_cases hlt : k < n
      · have hcell := (ho.cellAt k (by omega)).trans (putCells_at N n k hlt)
        have hfr := ho.frozenAt k
        have HS : Hid (∀ u, _) := fun u => ho.stored k u
        have HV : Hid (((N : Int) / 2 ^ (8 * k) % 256) = ((N / 256 ^ k % 256 : Nat) : Int)) := put_byte N k
        go_wp2
        go_roundw
        case rel =>
          have h2 := HS.out (Value.int IntKind.u8 ((N : Int) / 2 ^ (8 * k) % 256))
          refine ⟨k + 1, by omega, by go_num, hb.setCell (Nat.le_refl _) _, ?_⟩
          rw [← putCells_set N n k hlt, ← HV.out]
          exact h2.1
        case measure => simp [intOf]; omega
      · have hkn : k = n := by omega
        subst hkn
        have hconv : ∀ w2, w2 = wr → (convert 78 9 (Value.slice (some ⟨w'.heap.size, 0, none⟩) k k)).run Try.prog w2 = .ok (.string ⟨(enc N k).toArray⟩) w2 := by
          rintro w2 rfl
          have := run_convert_bytes_back (P := Try.prog) w2 78 9 5 ⟨w'.heap.size, 0, none⟩ k (enc N k) Try.underlying78 Try.underlying5 Try.underlying9 (fun j hj => by
            rw [enc_length] at hj
            have h := ho.cellAt j (by omega)
            rw [putCells_full] at h
            have e : (⟨w'.heap.size, 0, none⟩ : Addr).add j = ⟨w'.heap.size, j, none⟩ := by simp [Addr.add]; omega
            rw [e, h]
            simp [enc_length, hj])
          rw [enc_length] at this
          exact this
        go_wp2
        go_ret
        exact ⟨rfl, hb⟩

set_option maxHeartbeats 800000 in
theorem put_no (N n : Int) (w : World) (h : n < 1 ∨ 8 < n) :
    Calls Try.prog 42 #[.int .u64 N, .int .i64 n] w fun e w' => e = .returned (.string ⟨#[]⟩) ∧ w' = w := by
  go_enter Try.func42, Try.ntmps42
  go_wp2_with (go_at_call 64; refine (isSize_no _ _ h).mono ?_; rintro e w' ⟨rfl, rfl⟩)
  go_ret
  exact ⟨rfl, rfl⟩

theorem one_back (q : Nat) (w : World) : (convert 78 9 (.slice (some ⟨w.heap.size, 0, none⟩) 1 1)).run Try.prog (w.alloc (.cells #[.int .u8 ((q : Int) % 256)] 5)) = .ok (.string ⟨#[UInt8.ofNat (q % 256)]⟩) (w.alloc (.cells #[.int .u8 ((q : Int) % 256)] 5)) := by
  have := run_convert_bytes_back (P := Try.prog) (w.alloc (.cells #[.int .u8 ((q : Int) % 256)] 5)) 78 9 5 ⟨w.heap.size, 0, none⟩ 1 [UInt8.ofNat (q % 256)] Try.underlying78 Try.underlying5 Try.underlying9 (fun j hj => by
    match j, hj with
    | 0, _ => simp [Addr.add])
  exact this

end Go.Proofs.Ytffmkkfacemchaa
