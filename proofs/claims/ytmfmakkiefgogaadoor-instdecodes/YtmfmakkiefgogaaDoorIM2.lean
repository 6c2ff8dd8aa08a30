/-
  Layer 6: what a word is decoded to goes into that word again. No condition: lemmas on numbers.
-/
import Derived.Test.YtmfmakkiefgogaaDoorIM1
namespace Go.Proofs.YtmfmakkiefgogaaDoor
open Go.RowKit
set_option linter.unusedVariables false

theorem lay1 (p1 : Piece) (m : Nat) : layImm [p1] m = p1.into m := by simp [layImm]
theorem lay2 (p1 p2 : Piece) (m : Nat) : layImm [p1, p2] m = p1.into m ||| p2.into m := by simp [layImm]
theorem lay4 (p1 p2 p3 p4 : Piece) (m : Nat) : layImm [p1, p2, p3, p4] m = ((p1.into m ||| p2.into m) ||| p3.into m) ||| p4.into m := by simp [layImm]

theorem laid_85 (x : Nat) : immLaid (immOf x 85) 85 = x / 4096 % 1048576 * 4096 := by
  rw [imm_85]
  have hp : piecesOf 85 = [⟨20, 12, 12⟩] := rfl
  unfold immLaid
  rw [hp, lay1]
  unfold Piece.into sgnF
  simp only
  have hT : x / 2 ^ 12 % 2 ^ 20 = x / 4096 % 1048576 := rfl
  have hP : (2 : Nat) ^ 20 = 1048576 := rfl
  have hQ : (2 : Nat) ^ 12 = 4096 := rfl
  rw [hT, hP, hQ]
  split <;> omega
theorem laid_73 (x : Nat) : immLaid (immOf x 73) 73 = x / 1048576 % 4096 * 1048576 := by
  rw [imm_73]
  have hp : piecesOf 73 = [⟨12, 20, 0⟩] := rfl
  unfold immLaid
  rw [hp, lay1]
  unfold Piece.into sgnF
  simp only
  have hT : x / 2 ^ 20 % 2 ^ 12 = x / 1048576 % 4096 := rfl
  have hP : (2 : Nat) ^ 20 = 1048576 := rfl
  have hQ : (2 : Nat) ^ 12 = 4096 := rfl
  have hZ : (2 : Nat) ^ 0 = 1 := rfl
  rw [hT, hP, hQ, hZ]
  split <;> omega
theorem laid_72 (x : Nat) : immLaid (immOf x 72) 72 = x / 1048576 % 64 * 1048576 := by
  rw [imm_72]
  have hp : piecesOf 72 = [⟨6, 20, 0⟩] := rfl
  unfold immLaid
  rw [hp, lay1]
  unfold Piece.into
  simp only
  have hT : x / 2 ^ 20 % 2 ^ 6 = x / 1048576 % 64 := rfl
  have hP : (2 : Nat) ^ 20 = 1048576 := rfl
  have hQ : (2 : Nat) ^ 6 = 64 := rfl
  have hZ : (2 : Nat) ^ 0 = 1 := rfl
  rw [hT, hP, hQ, hZ]
  omega
theorem laid_75 (x : Nat) : immLaid (immOf x 75) 75 = x / 1048576 % 32 * 1048576 := by
  rw [imm_75]
  have hp : piecesOf 75 = [⟨5, 20, 0⟩] := rfl
  unfold immLaid
  rw [hp, lay1]
  unfold Piece.into
  simp only
  have hT : x / 2 ^ 20 % 2 ^ 5 = x / 1048576 % 32 := rfl
  have hP : (2 : Nat) ^ 20 = 1048576 := rfl
  have hQ : (2 : Nat) ^ 5 = 32 := rfl
  have hZ : (2 : Nat) ^ 0 = 1 := rfl
  rw [hT, hP, hQ, hZ]
  omega
theorem laid_83 (x : Nat) : immLaid (immOf x 83) 83 = x / 33554432 % 128 * 33554432 ||| x / 128 % 32 * 128 := by
  rw [imm_83]
  have hp : piecesOf 83 = [⟨7, 25, 5⟩, ⟨5, 7, 0⟩] := rfl
  unfold immLaid
  rw [hp, lay2]
  unfold Piece.into sgnF
  simp only
  have h1 : x / 2 ^ 25 % 2 ^ 7 = x / 33554432 % 128 := rfl
  have h2 : x / 2 ^ 7 % 2 ^ 5 = x / 128 % 32 := rfl
  have hP : (2 : Nat) ^ 12 = 4096 := rfl
  have hQ : (2 : Nat) ^ 25 = 33554432 := rfl
  have hR : (2 : Nat) ^ 7 = 128 := rfl
  have hS : (2 : Nat) ^ 5 = 32 := rfl
  have hZ : (2 : Nat) ^ 0 = 1 := rfl
  rw [h1, h2, hP, hQ, hR, hS, hZ]
  have hA : x / 33554432 % 128 < 128 := Nat.mod_lt _ (by omega)
  have hB : x / 128 % 32 < 32 := Nat.mod_lt _ (by omega)
  generalize x / 33554432 % 128 = A at *
  generalize x / 128 % 32 = B at *
  split <;> congr 1 <;> omega
theorem laid_none (m : Int) (c : Int) (h : c = 82 ∨ c = 78) : immLaid m c = 0 := by
  rcases h with rfl | rfl <;> rfl
end Go.Proofs.YtmfmakkiefgogaaDoor
