/-
  Layer 6: what an instruction that goes into a word is like, by its form: one half of what the document's May asks. No condition: lemmas on numbers.
-/
import Derived.Test.YtmfmakkiefgogabDoorM5
namespace Go.Proofs.YtmfmakkiefgogabDoor
open Go.RowKit
set_option linter.unusedVariables false

/-- What the document asks of an instruction of a form, that some word be its. -/
def mayF (c : Int) (i : In) : Prop := (0 ≤ i.rd ∧ i.rd ≤ 31 ∧ 0 ≤ i.r1 ∧ i.r1 ≤ 31 ∧ 0 ≤ i.r2 ∧ i.r2 ≤ 31) ∧
  (if c = 85 then i.r1 = 0 ∧ i.r2 = 0 ∧ -2147483648 ≤ i.imm ∧ i.imm < 2147483648 ∧ i.imm % 4096 = 0
  else if c = 74 then i.r1 = 0 ∧ i.r2 = 0 ∧ -1048576 ≤ i.imm ∧ i.imm < 1048576 ∧ i.imm % 2 = 0
  else if c = 73 then i.r2 = 0 ∧ -2048 ≤ i.imm ∧ i.imm < 2048
  else if c = 66 then i.rd = 0 ∧ -4096 ≤ i.imm ∧ i.imm < 4096 ∧ i.imm % 2 = 0
  else if c = 83 then i.rd = 0 ∧ -2048 ≤ i.imm ∧ i.imm < 2048
  else if c = 72 then i.r2 = 0 ∧ 0 ≤ i.imm ∧ i.imm < 64
  else if c = 75 then i.r2 = 0 ∧ 0 ≤ i.imm ∧ i.imm < 32
  else if c = 82 then i.imm = 0
  else i.rd = 0 ∧ i.r1 = 0 ∧ i.r2 = 0 ∧ i.imm = 0)

theorem reg_range (x a : Nat) (s : ByteArray) (c : Int) : 0 ≤ regOf x a s c ∧ regOf x a s c ≤ 31 ∧ (has s.data.toList c = false → regOf x a s c = 0) := by
  unfold regOf
  split
  · rename_i h
    exact ⟨by omega, by omega, fun h' => by rw [h'] at h; cases h⟩
  · exact ⟨by omega, by omega, fun _ => rfl⟩
theorem s12 (n : Nat) (h : n < 4096) : -2048 ≤ sgnF n 12 ∧ sgnF n 12 < 2048 := by
  unfold sgnF
  have e : (2 : Nat) ^ 12 = 4096 := rfl
  rw [e]; split <;> omega
theorem s13 (n : Nat) (h : n < 8192) (h2 : n % 2 = 0) : -4096 ≤ sgnF n 13 ∧ sgnF n 13 < 4096 ∧ sgnF n 13 % 2 = 0 := by
  unfold sgnF
  have e : (2 : Nat) ^ 13 = 8192 := rfl
  rw [e]; split <;> omega
theorem s21 (n : Nat) (h : n < 2097152) (h2 : n % 2 = 0) : -1048576 ≤ sgnF n 21 ∧ sgnF n 21 < 1048576 ∧ sgnF n 21 % 2 = 0 := by
  unfold sgnF
  have e : (2 : Nat) ^ 21 = 2097152 := rfl
  rw [e]; split <;> omega
theorem s20 (n : Nat) (h : n < 1048576) : -524288 ≤ sgnF n 20 ∧ sgnF n 20 < 524288 := by
  unfold sgnF
  have e : (2 : Nat) ^ 20 = 1048576 := rfl
  rw [e]; split <;> omega

theorem dec_may (x k : Nat) (hk : k < 64) (i : In) (hd : decF x = some i) (hop : i.op = k) : mayF (formAt k) i := by
  unfold decF at hd
  cases hkf : kindF x with
  | none => rw [hkf] at hd; cases hd
  | some k' =>
    rw [hkf] at hd
    simp only [Option.map_some, Option.some.injEq] at hd
    have ek : k' = k := by
      have := congrArg In.op hd
      simp only [hop] at this
      omega
    subst ek
    subst hd
    obtain ⟨a1, a2, a3⟩ := reg_range x 7 sRd (formAt k')
    obtain ⟨b1, b2, b3⟩ := reg_range x 15 sRs1 (formAt k')
    obtain ⟨c1, c2, c3⟩ := reg_range x 20 sRs2 (formAt k')
    refine ⟨⟨a1, a2, b1, b2, c1, c2⟩, ?_⟩
    clear a1 a2 b1 b2 c1 c2 hkf hop
    simp only
    rcases letters9 k' hk with h | h | h | h | h | h | h | h | h <;> rw [h] at a3 b3 c3 ⊢
    · have := s20 (x / 2 ^ 12 % 2 ^ 20) (Nat.mod_lt _ (by omega))
      rw [imm_85]
      exact ⟨b3 (by decide +kernel), c3 (by decide +kernel), by omega, by omega, by omega⟩
    · have hA : x / 2 ^ 31 % 2 ^ 1 < 2 ^ 1 := Nat.mod_lt _ (by omega)
      have hB : x / 2 ^ 12 % 2 ^ 8 < 2 ^ 8 := Nat.mod_lt _ (by omega)
      have hC : x / 2 ^ 20 % 2 ^ 1 < 2 ^ 1 := Nat.mod_lt _ (by omega)
      have hD : x / 2 ^ 21 % 2 ^ 10 < 2 ^ 10 := Nat.mod_lt _ (by omega)
      rw [imm_74]
      generalize x / 2 ^ 31 % 2 ^ 1 = A at *
      generalize x / 2 ^ 12 % 2 ^ 8 = B at *
      generalize x / 2 ^ 20 % 2 ^ 1 = C at *
      generalize x / 2 ^ 21 % 2 ^ 10 = D at *
      have := s21 (1048576 * A + 4096 * B + 2048 * C + 2 * D) (by omega) (by omega)
      exact ⟨b3 (by decide +kernel), c3 (by decide +kernel), this⟩
    · rw [imm_73]
      exact ⟨c3 (by decide +kernel), s12 _ (Nat.mod_lt _ (by omega))⟩
    · have hA : x / 2 ^ 31 % 2 ^ 1 < 2 ^ 1 := Nat.mod_lt _ (by omega)
      have hB : x / 2 ^ 7 % 2 ^ 1 < 2 ^ 1 := Nat.mod_lt _ (by omega)
      have hC : x / 2 ^ 25 % 2 ^ 6 < 2 ^ 6 := Nat.mod_lt _ (by omega)
      have hD : x / 2 ^ 8 % 2 ^ 4 < 2 ^ 4 := Nat.mod_lt _ (by omega)
      rw [imm_66]
      generalize x / 2 ^ 31 % 2 ^ 1 = A at *
      generalize x / 2 ^ 7 % 2 ^ 1 = B at *
      generalize x / 2 ^ 25 % 2 ^ 6 = C at *
      generalize x / 2 ^ 8 % 2 ^ 4 = D at *
      have := s13 (4096 * A + 2048 * B + 32 * C + 2 * D) (by omega) (by omega)
      exact ⟨a3 (by decide +kernel), this⟩
    · have hA : x / 2 ^ 25 % 2 ^ 7 < 2 ^ 7 := Nat.mod_lt _ (by omega)
      have hB : x / 2 ^ 7 % 2 ^ 5 < 2 ^ 5 := Nat.mod_lt _ (by omega)
      rw [imm_83]
      generalize x / 2 ^ 25 % 2 ^ 7 = A at *
      generalize x / 2 ^ 7 % 2 ^ 5 = B at *
      exact ⟨a3 (by decide +kernel), s12 _ (by omega)⟩
    · have hA : x / 2 ^ 20 % 2 ^ 6 < 2 ^ 6 := Nat.mod_lt _ (by omega)
      rw [imm_72]
      exact ⟨c3 (by decide +kernel), by omega, by omega⟩
    · have hA : x / 2 ^ 20 % 2 ^ 5 < 2 ^ 5 := Nat.mod_lt _ (by omega)
      rw [imm_75]
      exact ⟨c3 (by decide +kernel), by omega, by omega⟩
    · exact imm_other x 82 (.inl rfl)
    · exact ⟨a3 (by decide +kernel), b3 (by decide +kernel), c3 (by decide +kernel), imm_other x 78 (.inr rfl)⟩
end Go.Proofs.YtmfmakkiefgogabDoor
