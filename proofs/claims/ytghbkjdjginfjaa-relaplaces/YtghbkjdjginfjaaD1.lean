/-
  Layer 15: a relocation of its 24 bytes.
-/
import Derived.Test.YtghbkjdjginfjaaS2
import Derived.Test.YtghbkjdjginfjaaE1
import Derived.Deep.MidRow
import Derived.Laws.ResultCell
import Derived.Deep.RegionHeld3
namespace Go.Proofs.Ytghbkjdjginfjaa
open Go.RowKit
set_option linter.unusedVariables false

abbrev Rl := Int × Int × Int × Int
abbrev rlv (x : Rl) : Value := .agg #[.int .u64 x.1, .int .i64 x.2.1, .int .i64 x.2.2.1, .int .u64 x.2.2.2]
/-- What a relocation's numbers are worth. -/
def relN (a k s d n : Int) : Rl × Int :=
  if k < 2 ∨ 5 < k then ((0, 0, 0, 0), 22) else if k = 3 ∧ s ≠ 0 then ((0, 0, 0, 0), 4) else if k ≠ 3 ∧ (n < 0 ∨ n ≤ s) then ((0, 0, 0, 0), 5) else if a % 8 ≠ 0 then ((0, 0, 0, 0), 13) else ((a, k, s, d), 0)
/-- .. of 24 bytes. -/
def relF (e : ByteArray) (n : Int) : Rl × Int := relN (num (e.extract 0 8)) (num (e.extract 8 12)) (num (e.extract 12 16)) (num (e.extract 16 24)) n
theorem num_lt4 (s : ByteArray) (h : s.size ≤ 4) : 0 ≤ num s ∧ num s < 4294967296 := by
  have h1 := (num_bounds s).1
  rw [num_small s (by omega)] at h1 ⊢
  have := dec_lt s.data.toList
  have e : s.data.toList.length = s.size := rfl
  rw [e] at this
  have h2 : 256 ^ s.size ≤ 256 ^ 4 := Nat.pow_le_pow_right (by omega) h
  omega

def rlc (x : Rl) : List Value := [.int .u64 x.1, .int .i64 x.2.1, .int .i64 x.2.2.1, .int .u64 x.2.2.2]
theorem range4 {w : World} {B : Nat} (x : Rl) (h0 : w.cell? ⟨B, 0, none⟩ = some (.int .u64 x.1)) (h1 : w.cell? ⟨B, 1, none⟩ = some (.int .i64 x.2.1)) (h2 : w.cell? ⟨B, 2, none⟩ = some (.int .i64 x.2.2.1)) (h3 : w.cell? ⟨B, 3, none⟩ = some (.int .u64 x.2.2.2)) : w.rangeAt B 0 (rlc x) := by
  intro j v hv
  rw [Nat.zero_add]
  match j, hv with
  | 0, hv => simp [rlc] at hv; subst hv; exact h0
  | 1, hv => simp [rlc] at hv; subst hv; exact h1
  | 2, hv => simp [rlc] at hv; subst hv; exact h2
  | 3, hv => simp [rlc] at hv; subst hv; exact h3
  | j + 4, hv => simp [rlc] at hv
theorem info38 : (Try.prog.info? 38).map (·.size) = some 4 := by kernel_rfl

theorem rel_end {tmps : Array Value} {W : World} {B : Nat} (x : Rl) (c : Int) (hp : tmps.getD 4 undef = .pointer (some ⟨B, 0, none⟩)) (hu : tmps.getD 5 undef = .int .i64 c)
    (h0 : W.cell? ⟨B, 0, none⟩ = some (.int .u64 x.1)) (h1 : W.cell? ⟨B, 1, none⟩ = some (.int .i64 x.2.1)) (h2 : W.cell? ⟨B, 2, none⟩ = some (.int .i64 x.2.2.1)) (h3 : W.cell? ⟨B, 3, none⟩ = some (.int .u64 x.2.2.2)) :
    (results Try.f17 tmps).run Try.prog W = .ok (.tuple #[rlv x, .int .i64 c]) W := by
  refine (results_cell_mid2 (fn := Try.f17) rfl tmps W B 0 (rlc x) _ hp (range4 x h0 h1 h2 h3) Try.underlying38 rfl info38).trans ?_
  rw [hu]
  rfl
set_option maxRecDepth 100000 in
set_option maxHeartbeats 1600000 in
theorem rel_any (e : ByteArray) (n : Int) (w : World) (he : e.size = 24) (n0 : -9223372036854775808 ≤ n) (n1 : n ≤ 9223372036854775807) :
    Calls Try.prog 17 #[.string e, .int .i64 n] w fun r w' => r = .returned (.tuple #[rlv (relF e n).1, .int .i64 (relF e n).2]) ∧ ∃ o o2 q, w' = ((w.alloc o).alloc o2).drewN q := by
  have z0 : (e.extract 0 8).size ≤ maxLen := by unfold maxLen; simp; omega
  have z1 : (e.extract 8 12).size ≤ maxLen := by unfold maxLen; simp; omega
  have z2 : (e.extract 12 16).size ≤ maxLen := by unfold maxLen; simp; omega
  have z3 : (e.extract 16 24).size ≤ maxLen := by unfold maxLen; simp; omega
  have G0 := fun W => get_any (e.extract 0 8) W z0
  have G1 := fun W => get_any (e.extract 8 12) W z1
  have G2 := fun W => get_any (e.extract 12 16) W z2
  have G3 := fun W => get_any (e.extract 16 24) W z3
  have b0 := num_bounds (e.extract 0 8)
  have b1 := num_lt4 (e.extract 8 12) (by simp; omega)
  have b2 := num_lt4 (e.extract 12 16) (by simp; omega)
  have b3 := num_bounds (e.extract 16 24)
  unfold relF
  generalize num (e.extract 0 8) = a at *
  generalize num (e.extract 8 12) = k at *
  generalize num (e.extract 12 16) = s at *
  generalize num (e.extract 16 24) = d at *
  obtain ⟨r, hr⟩ : ∃ r, a.tmod 8 = r := ⟨_, rfl⟩
  have hr8 : a % 8 = r := by rw [← hr, Int.tmod_eq_emod_of_nonneg b0.1]
  have wk : IntKind.i64.wrap k = k := by rw [IntKind.wrap_i64]; omega
  have ws : IntKind.i64.wrap s = s := by rw [IntKind.wrap_i64]; omega
  have HB0 : Hid (0 ≤ a ∧ a ≤ 18446744073709551615) := b0
  have HR8 : Hid (a % 8 = r) := hr8
  clear b0 b3 z0 z1 z2 z3 hr8
  have CS : (k < 2 ∧ relN a k s d n = ((0, 0, 0, 0), 22)) ∨ (¬ k < 2 ∧ 5 < k ∧ relN a k s d n = ((0, 0, 0, 0), 22)) ∨
      (k = 3 ∧ ¬ s = 0 ∧ relN a k s d n = ((0, 0, 0, 0), 4)) ∨ (k = 3 ∧ s = 0 ∧ ¬ r = 0 ∧ relN a k s d n = ((0, 0, 0, 0), 13)) ∨ (k = 3 ∧ s = 0 ∧ r = 0 ∧ relN a k s d n = ((a, k, s, d), 0)) ∨
      (¬ k < 2 ∧ ¬ 5 < k ∧ ¬ k = 3 ∧ n < 0 ∧ relN a k s d n = ((0, 0, 0, 0), 5)) ∨ (¬ k < 2 ∧ ¬ 5 < k ∧ ¬ k = 3 ∧ ¬ n < 0 ∧ n ≤ s ∧ relN a k s d n = ((0, 0, 0, 0), 5)) ∨
      (¬ k < 2 ∧ ¬ 5 < k ∧ ¬ k = 3 ∧ ¬ n < 0 ∧ ¬ n ≤ s ∧ ¬ r = 0 ∧ relN a k s d n = ((0, 0, 0, 0), 13)) ∨ (¬ k < 2 ∧ ¬ 5 < k ∧ ¬ k = 3 ∧ ¬ n < 0 ∧ ¬ n ≤ s ∧ r = 0 ∧ relN a k s d n = ((a, k, s, d), 0)) := by
    have h8 := HR8.out
    unfold relN
    by_cases c1 : k < 2
    · exact .inl ⟨c1, by rw [if_pos (by omega)]⟩
    by_cases c2 : 5 < k
    · exact .inr (.inl ⟨c1, c2, by rw [if_pos (by omega)]⟩)
    by_cases c3 : k = 3
    · by_cases c4 : s = 0
      · by_cases c5 : r = 0
        · exact .inr (.inr (.inr (.inr (.inl ⟨c3, c4, c5, by rw [if_neg (by omega), if_neg (by omega), if_neg (by omega), if_neg (by omega)]⟩))))
        · exact .inr (.inr (.inr (.inl ⟨c3, c4, c5, by rw [if_neg (by omega), if_neg (by omega), if_neg (by omega), if_pos (by omega)]⟩)))
      · exact .inr (.inr (.inl ⟨c3, c4, by rw [if_neg (by omega), if_pos ⟨c3, c4⟩]⟩))
    · by_cases c4 : n < 0
      · exact .inr (.inr (.inr (.inr (.inr (.inl ⟨c1, c2, c3, c4, by rw [if_neg (by omega), if_neg (by omega), if_pos (by omega)]⟩)))))
      · by_cases c5 : n ≤ s
        · exact .inr (.inr (.inr (.inr (.inr (.inr (.inl ⟨c1, c2, c3, c4, c5, by rw [if_neg (by omega), if_neg (by omega), if_pos (by omega)]⟩))))))
        · by_cases c6 : r = 0
          · exact .inr (.inr (.inr (.inr (.inr (.inr (.inr (.inr ⟨c1, c2, c3, c4, c5, c6, by rw [if_neg (by omega), if_neg (by omega), if_neg (by omega), if_neg (by omega)]⟩)))))))
          · exact .inr (.inr (.inr (.inr (.inr (.inr (.inr (.inl ⟨c1, c2, c3, c4, c5, c6, by rw [if_neg (by omega), if_neg (by omega), if_neg (by omega), if_pos (by omega)]⟩)))))))
  have wn : ¬ n < 0 → IntKind.u64.wrap n = n := fun h => by rw [IntKind.wrap_u64]; omega
  rcases CS with ⟨c1, hv⟩ | ⟨c1, c2, hv⟩ | ⟨rfl, c2, hv⟩ | ⟨rfl, rfl, c3, hv⟩ | ⟨rfl, rfl, c3, hv⟩ | ⟨c1, c2, c3, c4, hv⟩ | ⟨c1, c2, c3, c4, c5, hv⟩ | ⟨c1, c2, c3, c4, c5, c6, hv⟩ | ⟨c1, c2, c3, c4, c5, c6, hv⟩
  all_goals
    rw [hv]
    clear hv
    try have wn2 := wn (by assumption)
    clear wn
    go_enter Try.func17, Try.ntmps17
    go_wp2
    go_region_held3 (fun _ => True) (trivial) (first | (go_at_call 23; with_reducible refine (G1 _).mono ?_; rintro r w' ⟨rfl, rfl⟩) | (go_at_call 23; with_reducible refine (G2 _).mono ?_; rintro r w' ⟨rfl, rfl⟩))
  all_goals go_wp2
  all_goals go_region_held3 (fun _ => True) (trivial) (first | (go_at_call 23; with_reducible refine (G0 _).mono ?_; rintro r w' ⟨rfl, rfl⟩) | (go_at_call 23; with_reducible refine (G3 _).mono ?_; rintro r w' ⟨rfl, rfl⟩))
  all_goals go_wp2
  all_goals
    refine ⟨rfl, _, ?_, rfl, _, _, 2, rfl⟩
    exact rel_end _ _ rfl rfl (by simp [go_sem]) (by simp [go_sem]) (by simp [go_sem]) (by simp [go_sem])
end Go.Proofs.Ytghbkjdjginfjaa
