/-
  Layer 12: the hash of a name, the code's and the document's.
-/
import Derived.Test.YtffmkkfacemchaaA2
namespace Go.Proofs.Ytffmkkfacemchaa
open Go.RowKit

/-- A round of the hash. -/
def hashStep (h c : Nat) : Nat := ((16 * h + c) % 4294967296 % 268435456) ^^^ ((16 * h + c) % 4294967296 / 268435456 * 16)
def hashL (l : List UInt8) : Nat := l.foldl (fun h c => hashStep h c.toNat) 0

theorem hashStep_lt (h c : Nat) : hashStep h c < 268435456 := by
  unfold hashStep
  have h1 : (16 * h + c) % 4294967296 % 268435456 < 2 ^ 28 := by omega
  have h2 : (16 * h + c) % 4294967296 / 268435456 * 16 < 2 ^ 28 := by omega
  exact Nat.xor_lt_two_pow h1 h2

theorem hashL_lt : ∀ (l : List UInt8), hashL l < 268435456 := by
  intro l
  unfold hashL
  suffices ∀ h, h < 268435456 → l.foldl (fun h c => hashStep h c.toNat) h < 268435456 from this 0 (by omega)
  induction l with
  | nil => intro h hh; exact hh
  | cons c l ih => intro h _; exact ih _ (hashStep_lt h c.toNat)

theorem hashL_snoc (l : List UInt8) (c : UInt8) : hashL (l ++ [c]) = hashStep (hashL l) c.toNat := by simp [hashL, List.foldl_append]

theorem and_field (x j k : Nat) : x &&& ((2 ^ j - 1) * 2 ^ k) = x / 2 ^ k % 2 ^ j * 2 ^ k := by
  apply Nat.eq_of_testBit_eq
  intro i
  rw [Nat.testBit_and, Nat.testBit_mul_two_pow, Nat.testBit_mul_two_pow, Nat.testBit_mod_two_pow, Nat.testBit_div_two_pow, Nat.testBit_two_pow_sub_one]
  by_cases h : k ≤ i
  · have e : i - k + k = i := by omega
    rw [e]
    simp [h, Bool.and_comm]
  · simp [h]

theorem xor_low (L m : Nat) (h : m < 256) : L ^^^ m = L / 256 * 256 + (L % 256 ^^^ m) := by
  have e1 : (L ^^^ m) / 2 ^ 8 = L / 2 ^ 8 ^^^ m / 2 ^ 8 := Nat.xor_div_two_pow
  have e2 : (L ^^^ m) % 2 ^ 8 = L % 2 ^ 8 ^^^ m % 2 ^ 8 := Nat.xor_mod_two_pow
  have e3 : m / 2 ^ 8 = 0 := by omega
  have e4 : m % 2 ^ 8 = m := by omega
  rw [e3, Nat.xor_zero] at e1
  rw [e4] at e2
  have := Nat.div_add_mod (L ^^^ m) (2 ^ 8)
  rw [e1, e2] at this
  rw [← this]
  show 256 * (L / 256) + _ = _
  rw [Nat.mul_comm]

theorem ofInt32 (x : Nat) (h : x < 4294967296) : (BitVec.ofInt 32 (x : Int)).toNat = x := by simp; omega
theorem ofInt64 (x : Nat) (h : x < 18446744073709551616) : (BitVec.ofInt 64 (x : Int)).toNat = x := by simp; omega
theorem bits_and32 (x y : Nat) (hx : x < 4294967296) (hy : y < 4294967296) : bits BinOp.and IntKind.u32 (x : Int) (y : Int) = ((x &&& y : Nat) : Int) := by
  show IntKind.u32.wrap (((BitVec.ofInt 32 (x : Int)) &&& (BitVec.ofInt 32 (y : Int))).toNat : Int) = _
  rw [BitVec.toNat_and, ofInt32 x hx, ofInt32 y hy, IntKind.wrap_u32]
  have : x &&& y ≤ x := Nat.and_le_left
  omega
theorem bits_xor32 (x y : Nat) (hx : x < 4294967296) (hy : y < 4294967296) : bits BinOp.xor IntKind.u32 (x : Int) (y : Int) = ((x ^^^ y : Nat) : Int) := by
  show IntKind.u32.wrap (((BitVec.ofInt 32 (x : Int)) ^^^ (BitVec.ofInt 32 (y : Int))).toNat : Int) = _
  rw [BitVec.toNat_xor, ofInt32 x hx, ofInt32 y hy, IntKind.wrap_u32]
  have : x ^^^ y < 2 ^ 32 := Nat.xor_lt_two_pow hx hy
  omega
theorem bits_xor64 (x y : Nat) (hx : x < 256) (hy : y < 256) : bits BinOp.xor IntKind.u64 (x : Int) (y : Int) = ((x ^^^ y : Nat) : Int) := by
  show IntKind.u64.wrap (((BitVec.ofInt 64 (x : Int)) ^^^ (BitVec.ofInt 64 (y : Int))).toNat : Int) = _
  rw [BitVec.toNat_xor, ofInt64 x (by omega), ofInt64 y (by omega), IntKind.wrap_u64]
  have : x ^^^ y < 2 ^ 8 := Nat.xor_lt_two_pow hx hy
  omega
theorem bits_low28 (x : Nat) (hx : x < 4294967296) : bits BinOp.andNot IntKind.u32 (x : Int) 4026531840 = ((x % 268435456 : Nat) : Int) := by
  show IntKind.u32.wrap (((BitVec.ofInt 32 (x : Int)) &&& ~~~(BitVec.ofInt 32 4026531840)).toNat : Int) = _
  have e : (~~~(BitVec.ofInt 32 4026531840)).toNat = 2 ^ 28 - 1 := by decide
  rw [BitVec.toNat_and, ofInt32 x hx, e, Nat.and_two_pow_sub_one_eq_mod, IntKind.wrap_u32]
  omega

/-- What the code reckons in a round. -/
theorem code_step (h c : Nat) : bits BinOp.andNot IntKind.u32 (bits BinOp.xor IntKind.u32 (((h : Int) * 16 + (c : Int)) % 4294967296) (bits BinOp.and IntKind.u32 (((h : Int) * 16 + (c : Int)) % 4294967296) 4026531840 / 16777216)) 4026531840 = ((hashStep h c : Nat) : Int) := by
  obtain ⟨X, hX⟩ : ∃ X : Nat, (16 * h + c) % 4294967296 = X := ⟨_, rfl⟩
  have e0 : ((h : Int) * 16 + (c : Int)) % 4294967296 = (X : Int) := by omega
  have hl : X < 4294967296 := by omega
  have ea : bits BinOp.and IntKind.u32 (X : Int) 4026531840 = ((X / 268435456 * 268435456 : Nat) : Int) := by
    have := bits_and32 X 4026531840 hl (by omega)
    have e2 : X &&& 4026531840 = X / 268435456 % 16 * 268435456 := and_field X 4 28
    rw [e2] at this
    exact this.trans (by omega)
  have ex : (((X / 268435456 * 268435456 : Nat) : Int) / 16777216) = ((X / 268435456 * 16 : Nat) : Int) := by omega
  have hm : X ^^^ X / 268435456 * 16 < 2 ^ 32 := Nat.xor_lt_two_pow hl (by omega)
  rw [e0, ea, ex, bits_xor32 X _ hl (by omega), bits_low28 _ hm]
  unfold hashStep
  rw [hX]
  have e5 : (X ^^^ X / 268435456 * 16) % 2 ^ 28 = X % 2 ^ 28 ^^^ (X / 268435456 * 16) % 2 ^ 28 := Nat.xor_mod_two_pow
  have e6 : (X / 268435456 * 16) % 2 ^ 28 = X / 268435456 * 16 := by omega
  rw [e6] at e5
  exact congrArg Nat.cast e5

/-- What the document reckons in a round. -/
theorem ref_step (h c : Nat) : IntKind.u64.wrap ((16 * (h : Int) + (c : Int)) % 268435456 / 256 * 256 + (bits BinOp.xor IntKind.u64 ((16 * (h : Int) + (c : Int)) % 256) (16 * ((16 * (h : Int) + (c : Int)) % 4294967296 / 268435456))).tmod 256) = ((hashStep h c : Nat) : Int) := by
  obtain ⟨X, hX⟩ : ∃ X : Nat, (16 * h + c) % 4294967296 = X := ⟨_, rfl⟩
  have e0 : (16 * (h : Int) + (c : Int)) % 4294967296 = (X : Int) := by omega
  have e1 : (16 * (h : Int) + (c : Int)) % 268435456 = ((X % 268435456 : Nat) : Int) := by omega
  have e2 : (16 * (h : Int) + (c : Int)) % 256 = ((X % 268435456 % 256 : Nat) : Int) := by omega
  have e3 : 16 * ((X : Int) / 268435456) = ((X / 268435456 * 16 : Nat) : Int) := by omega
  have hl : X < 4294967296 := by omega
  have hx8 : X % 268435456 % 256 ^^^ X / 268435456 * 16 < 2 ^ 8 := Nat.xor_lt_two_pow (by omega) (by omega)
  rw [e0, e1, e2, e3, bits_xor64 _ _ (by omega) (by omega)]
  unfold hashStep
  rw [hX, xor_low (X % 268435456) (X / 268435456 * 16) (by omega)]
  generalize X % 268435456 % 256 ^^^ X / 268435456 * 16 = y at *
  rw [IntKind.wrap_u64, Int.tmod_eq_emod_of_nonneg (by omega)]
  omega

set_option maxRecDepth 100000 in
set_option maxHeartbeats 800000 in
theorem hash_any (s : ByteArray) (w : World) (hm : s.size ≤ 9223372036854775807) :
    Calls Try.prog 65 #[.string s] w fun e w' => e = .returned (.int .u32 (hashL s.data.toList)) ∧ w' = w := by
  go_enter Try.func65, Try.ntmps65
  go_wp2
  go_loop [3, 8] (fun n i => ∃ k : Nat, ∃ h : Nat, k ≤ s.size ∧ i = .int .i64 k ∧ n = .int .u32 h ∧ h < 268435456 ∧ Hid (hashL (s.data.toList.take k) = h)) (fun _ i => s.size - (intOf i).toNat)
  case atStart => exact ⟨0, 0, Nat.zero_le _, rfl, rfl, by omega, rfl⟩
  case round =>
    obtain ⟨k, h, hk, rfl, rfl, hh, HH⟩ := hrel
    by_cases hlt : k < s.size
    · have HT : Hid (_) := take_snoc s k hlt
      obtain ⟨cn, hcn'⟩ : ∃ cn, s[k].toNat = cn := ⟨_, rfl⟩
      have hcl : cn < 256 := by rw [← hcn']; exact s[k].toNat_lt
      go_wp2
      go_round
      case rel =>
        refine ⟨k + 1, hashStep h cn, by omega, by go_num, by rw [code_step], hashStep_lt _ _, ?_⟩
        show _ = _
        rw [HT.out, hashL_snoc, HH.out, hcn']
      case measure => simp [intOf]; omega
    · have hks : k = s.size := by omega
      have HK : Hid (hashL s.data.toList = h) := by
        show _ = _
        rw [← HH.out, List.take_of_length_le (by simp; omega)]
      clear HH
      go_wp2
      go_ret
      exact ⟨ret_int (by rw [HK.out]), rfl⟩

set_option maxRecDepth 100000 in
set_option maxHeartbeats 800000 in
theorem refhash_any (s : ByteArray) (w : World) (hm : s.size ≤ 9223372036854775807) :
    Calls Try.prog 44 #[.string s] w fun e w' => e = .returned (.int .u32 (hashL s.data.toList)) ∧ w' = w := by
  go_enter Try.func44, Try.ntmps44
  go_wp2
  go_loop [3, 4] (fun n i => ∃ k : Nat, ∃ h : Nat, k ≤ s.size ∧ i = .int .i64 k ∧ n = .int .u64 h ∧ h < 268435456 ∧ Hid (hashL (s.data.toList.take k) = h)) (fun _ i => s.size - (intOf i).toNat)
  case atStart => exact ⟨0, 0, Nat.zero_le _, rfl, rfl, by omega, rfl⟩
  case round =>
    obtain ⟨k, h, hk, rfl, rfl, hh, HH⟩ := hrel
    by_cases hlt : k < s.size
    · have HT : Hid (_) := take_snoc s k hlt
      obtain ⟨cn, hcn'⟩ : ∃ cn, s[k].toNat = cn := ⟨_, rfl⟩
      have hcl : cn < 256 := by rw [← hcn']; exact s[k].toNat_lt
      go_wp2
      go_round
      case rel =>
        refine ⟨k + 1, hashStep h cn, by omega, by go_num, by rw [ref_step], hashStep_lt _ _, ?_⟩
        show _ = _
        rw [HT.out, hashL_snoc, HH.out, hcn']
      case measure => simp [intOf]; omega
    · have hks : k = s.size := by omega
      have HK : Hid (hashL s.data.toList = h) := by
        show _ = _
        rw [← HH.out, List.take_of_length_le (by simp; omega)]
      clear HH
      go_wp2
      go_ret
      exact ⟨ret_int (by rw [HK.out]), rfl⟩
end Go.Proofs.Ytffmkkfacemchaa
