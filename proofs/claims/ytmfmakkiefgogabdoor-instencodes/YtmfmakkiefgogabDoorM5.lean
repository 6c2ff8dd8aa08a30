/-
  Layer 6: what a word is decoded to is encoded to that word. No condition: lemmas on numbers.
-/
import Derived.Test.YtmfmakkiefgogabDoorM4
namespace Go.Proofs.YtmfmakkiefgogabDoor
open Go.RowKit
set_option linter.unusedVariables false

theorem whole_85 (x : Nat) (hx : x < 4294967296) : ((((x &&& maskOf 85) ||| (regLaid (regOf x 7 sRd 85) 7 sRd 85).toNat) ||| (regLaid (regOf x 15 sRs1 85) 15 sRs1 85).toNat) ||| (regLaid (regOf x 20 sRs2 85) 20 sRs2 85).toNat) ||| immLaid (immOf x 85) 85 = x := by
  have hm : maskOf 85 = 127 := rfl
  have g1 : has sRd.data.toList 85 = true := by decide +kernel
  have g2 : has sRs1.data.toList 85 = false := by decide +kernel
  have g3 : has sRs2.data.toList 85 = false := by decide +kernel
  rw [hm, reg_back, reg_back, reg_back, g1, g2, g3, laid_85 x, m7 x]
  simp only [if_true, Bool.false_eq_true, if_false, Nat.or_zero]
  exact back_85 x hx

theorem whole_74 (x : Nat) (hx : x < 4294967296) : ((((x &&& maskOf 74) ||| (regLaid (regOf x 7 sRd 74) 7 sRd 74).toNat) ||| (regLaid (regOf x 15 sRs1 74) 15 sRs1 74).toNat) ||| (regLaid (regOf x 20 sRs2 74) 20 sRs2 74).toNat) ||| immLaid (immOf x 74) 74 = x := by
  have hm : maskOf 74 = 127 := rfl
  have g1 : has sRd.data.toList 74 = true := by decide +kernel
  have g2 : has sRs1.data.toList 74 = false := by decide +kernel
  have g3 : has sRs2.data.toList 74 = false := by decide +kernel
  rw [hm, reg_back, reg_back, reg_back, g1, g2, g3, laid_74 x, m7 x]
  simp only [if_true, Bool.false_eq_true, if_false, Nat.or_zero]
  exact back_74 x hx

theorem whole_73 (x : Nat) (hx : x < 4294967296) : ((((x &&& maskOf 73) ||| (regLaid (regOf x 7 sRd 73) 7 sRd 73).toNat) ||| (regLaid (regOf x 15 sRs1 73) 15 sRs1 73).toNat) ||| (regLaid (regOf x 20 sRs2 73) 20 sRs2 73).toNat) ||| immLaid (immOf x 73) 73 = x := by
  have hm : maskOf 73 = 28799 := rfl
  have g1 : has sRd.data.toList 73 = true := by decide +kernel
  have g2 : has sRs1.data.toList 73 = true := by decide +kernel
  have g3 : has sRs2.data.toList 73 = false := by decide +kernel
  rw [hm, reg_back, reg_back, reg_back, g1, g2, g3, laid_73 x, m10 x]
  simp only [if_true, Bool.false_eq_true, if_false, Nat.or_zero]
  exact back_73 x hx

theorem whole_66 (x : Nat) (hx : x < 4294967296) : ((((x &&& maskOf 66) ||| (regLaid (regOf x 7 sRd 66) 7 sRd 66).toNat) ||| (regLaid (regOf x 15 sRs1 66) 15 sRs1 66).toNat) ||| (regLaid (regOf x 20 sRs2 66) 20 sRs2 66).toNat) ||| immLaid (immOf x 66) 66 = x := by
  have hm : maskOf 66 = 28799 := rfl
  have g1 : has sRd.data.toList 66 = false := by decide +kernel
  have g2 : has sRs1.data.toList 66 = true := by decide +kernel
  have g3 : has sRs2.data.toList 66 = true := by decide +kernel
  rw [hm, reg_back, reg_back, reg_back, g1, g2, g3, laid_66 x, m10 x]
  simp only [if_true, Bool.false_eq_true, if_false, Nat.or_zero]
  exact back_66 x hx

theorem whole_83 (x : Nat) (hx : x < 4294967296) : ((((x &&& maskOf 83) ||| (regLaid (regOf x 7 sRd 83) 7 sRd 83).toNat) ||| (regLaid (regOf x 15 sRs1 83) 15 sRs1 83).toNat) ||| (regLaid (regOf x 20 sRs2 83) 20 sRs2 83).toNat) ||| immLaid (immOf x 83) 83 = x := by
  have hm : maskOf 83 = 28799 := rfl
  have g1 : has sRd.data.toList 83 = false := by decide +kernel
  have g2 : has sRs1.data.toList 83 = true := by decide +kernel
  have g3 : has sRs2.data.toList 83 = true := by decide +kernel
  rw [hm, reg_back, reg_back, reg_back, g1, g2, g3, laid_83 x, m10 x]
  simp only [if_true, Bool.false_eq_true, if_false, Nat.or_zero]
  exact back_83 x hx

theorem whole_72 (x : Nat) (hx : x < 4294967296) : ((((x &&& maskOf 72) ||| (regLaid (regOf x 7 sRd 72) 7 sRd 72).toNat) ||| (regLaid (regOf x 15 sRs1 72) 15 sRs1 72).toNat) ||| (regLaid (regOf x 20 sRs2 72) 20 sRs2 72).toNat) ||| immLaid (immOf x 72) 72 = x := by
  have hm : maskOf 72 = 4227887231 := rfl
  have g1 : has sRd.data.toList 72 = true := by decide +kernel
  have g2 : has sRs1.data.toList 72 = true := by decide +kernel
  have g3 : has sRs2.data.toList 72 = false := by decide +kernel
  rw [hm, reg_back, reg_back, reg_back, g1, g2, g3, laid_72 x, m16 x]
  simp only [if_true, Bool.false_eq_true, if_false, Nat.or_zero]
  exact back_72 x hx

theorem whole_75 (x : Nat) (hx : x < 4294967296) : ((((x &&& maskOf 75) ||| (regLaid (regOf x 7 sRd 75) 7 sRd 75).toNat) ||| (regLaid (regOf x 15 sRs1 75) 15 sRs1 75).toNat) ||| (regLaid (regOf x 20 sRs2 75) 20 sRs2 75).toNat) ||| immLaid (immOf x 75) 75 = x := by
  have hm : maskOf 75 = 4261441663 := rfl
  have g1 : has sRd.data.toList 75 = true := by decide +kernel
  have g2 : has sRs1.data.toList 75 = true := by decide +kernel
  have g3 : has sRs2.data.toList 75 = false := by decide +kernel
  rw [hm, reg_back, reg_back, reg_back, g1, g2, g3, laid_75 x, m17 x]
  simp only [if_true, Bool.false_eq_true, if_false, Nat.or_zero]
  exact back_82 x hx

theorem whole_82 (x : Nat) (hx : x < 4294967296) : ((((x &&& maskOf 82) ||| (regLaid (regOf x 7 sRd 82) 7 sRd 82).toNat) ||| (regLaid (regOf x 15 sRs1 82) 15 sRs1 82).toNat) ||| (regLaid (regOf x 20 sRs2 82) 20 sRs2 82).toNat) ||| immLaid (immOf x 82) 82 = x := by
  have hm : maskOf 82 = 4261441663 := rfl
  have g1 : has sRd.data.toList 82 = true := by decide +kernel
  have g2 : has sRs1.data.toList 82 = true := by decide +kernel
  have g3 : has sRs2.data.toList 82 = true := by decide +kernel
  rw [hm, reg_back, reg_back, reg_back, g1, g2, g3, laid_none _ 82 (by omega), m17 x]
  simp only [if_true, Nat.or_zero]
  exact back_82 x hx

theorem whole_78 (x : Nat) (hx : x < 4294967296) : ((((x &&& maskOf 78) ||| (regLaid (regOf x 7 sRd 78) 7 sRd 78).toNat) ||| (regLaid (regOf x 15 sRs1 78) 15 sRs1 78).toNat) ||| (regLaid (regOf x 20 sRs2 78) 20 sRs2 78).toNat) ||| immLaid (immOf x 78) 78 = x := by
  have hm : maskOf 78 = 4294967295 := rfl
  have g1 : has sRd.data.toList 78 = false := by decide +kernel
  have g2 : has sRs1.data.toList 78 = false := by decide +kernel
  have g3 : has sRs2.data.toList 78 = false := by decide +kernel
  rw [hm, reg_back, reg_back, reg_back, g1, g2, g3, laid_none _ 78 (by omega), m32 x hx]
  simp only [Bool.false_eq_true, if_false, Nat.or_zero]

theorem enc_dec (x k : Nat) (hx : x < 4294967296) (hk : k < 64) (hf : fit x k = true) : encF ⟨k, regOf x 7 sRd (formAt k), regOf x 15 sRs1 (formAt k), regOf x 20 sRs2 (formAt k), immOf x (formAt k)⟩ = some x := by
  have hdec : decF x = some ⟨k, regOf x 7 sRd (formAt k), regOf x 15 sRs1 (formAt k), regOf x 20 sRs2 (formAt k), immOf x (formAt k)⟩ := by
    unfold decF; rw [kindF_is x k hk hf]; rfl
  have hc : (codeAt k).toNat = x &&& maskOf (formAt k) := by
    unfold fit at hf
    rw [beq_iff_eq] at hf
    rw [← hf]; rfl
  have he : encW k ⟨k, regOf x 7 sRd (formAt k), regOf x 15 sRs1 (formAt k), regOf x 20 sRs2 (formAt k), immOf x (formAt k)⟩ = x := by
    unfold encW
    simp only
    rw [hc]
    rcases letters9 k hk with h | h | h | h | h | h | h | h | h <;> rw [h]
    · exact whole_85 x hx
    · exact whole_74 x hx
    · exact whole_73 x hx
    · exact whole_66 x hx
    · exact whole_83 x hx
    · exact whole_72 x hx
    · exact whole_75 x hx
    · exact whole_82 x hx
    · exact whole_78 x hx
  unfold encF
  simp only [Int.toNat_natCast]
  rw [if_pos]
  · rw [he]
  · refine ⟨by omega, by omega, ?_⟩
    rw [he]
    exact hdec
end Go.Proofs.YtmfmakkiefgogabDoor
