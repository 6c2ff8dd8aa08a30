/-
  Layer 2: plain, numbered and strings.Split of any text, as Parse uses them. Conditions: the text's length, the errors' words.
-/
import Derived.Test.YtjcefpeicbekhaaDoorA6
import Derived.Test.YtjcefpeicbekhaaDoorSpeaks
namespace Go.Proofs.YtjcefpeicbekhaaDoor
open Go.ChangeShapes Go.WideShapes Go.ChangeAt Go.RowKit
set_option linter.unusedVariables false

set_option maxHeartbeats 800000 in
theorem plain_all (s : ByteArray) (w : World) (hs : s.size ≤ 1000) :
    Calls Tryd.prog 20 #[.string s] w fun x w' => (x = .returned (.bool true) ∨ x = .returned (.bool false)) ∧ w' = w := by
  go_enter Tryd.func20, Tryd.ntmps20
  go_wp2
  go_loop [6] (fun i => ∃ k : Nat, k ≤ s.size ∧ i = .int .i64 k) (fun i => s.size - (intOf i).toNat)
  case atStart => exact ⟨0, by omega, rfl⟩
  case round =>
    obtain ⟨k, hk, rfl⟩ := hrel
    by_cases hlt : k < s.size
    · by_cases h1 : s[k].toNat < 33
      · go_wp2
        go_ret
        exact ⟨.inr rfl, rfl⟩
      · by_cases h2 : 126 < s[k].toNat
        · go_wp2
          go_ret
          exact ⟨.inr rfl, rfl⟩
        · have h3 : 33 ≤ s[k].toNat ∧ s[k].toNat ≤ 126 := by omega
          go_wp2
          go_round
          case rel => exact ⟨k + 1, by omega, by go_num⟩
          case measure => simp [intOf]; omega
    · go_wp2
      go_ret
      exact ⟨.inl rfl, rfl⟩

theorem numbered_all (wd : ByteArray) (w : World) (ht : Tabs w) :
    Calls Tryd.prog 18 #[.string wd] w fun x w' => ((∃ n : Nat, n < 27 ∧ x = .returned (.tuple #[.int .i64 n, .bool true])) ∨ x = .returned (.tuple #[.int .i64 0, .bool false])) ∧ w' = w := by
  by_cases h : ∃ j, j < 27 ∧ wordAt j = wd
  · obtain ⟨n, ⟨hn, he⟩, hmin⟩ : ∃ n, (n < 27 ∧ wordAt n = wd) ∧ ∀ j, j < n → ¬ (j < 27 ∧ wordAt j = wd) := by
      obtain ⟨j, hj⟩ := h
      induction j using Nat.strongRecOn with
      | ind j ih =>
        by_cases h2 : ∃ i, i < j ∧ (i < 27 ∧ wordAt i = wd)
        · obtain ⟨i, hi, hi2⟩ := h2
          exact ih i hi hi2
        · exact ⟨j, hj, fun i hi hi2 => h2 ⟨i, hi, hi2⟩⟩
    exact (numbered_yes wd n w ht hn he (fun j hj e => hmin j hj ⟨by omega, e⟩)).mono fun e w' h => ⟨.inl ⟨n, hn, h.1⟩, h.2⟩
  · exact (numbered_no wd w ht (fun j hj e => h ⟨j, hj, e⟩)).mono fun e w' h => ⟨.inr h.1, h.2⟩

theorem split_le : ∀ (l : List UInt8), ∀ p ∈ split l, p.length ≤ l.length
  | [], p, h => by simp [split] at h; subst h; simp
  | c :: l, p, h => by
    have ih := split_le l
    unfold split at h
    split at h
    · simp at h
      rcases h with rfl | h
      · simp
      · have := ih p h; simp; omega
    · cases hs : split l with
      | nil => exact absurd hs (split_ne l)
      | cons q r =>
        rw [hs] at h
        simp at h
        rcases h with rfl | h
        · have := ih q (by rw [hs]; simp); simp; omega
        · have := ih p (by rw [hs]; simp [h]); simp; omega
end Go.Proofs.YtjcefpeicbekhaaDoor
