/-
  Layer 13: what is met and found in a table that was built. No condition.
-/
import Derived.Test.YtffmkkfacemchaaK1
import Derived.Test.YtffmkkfacemchaaX1
import Derived.Test.YtffmkkfacemchaaB2
import Derived.Test.YtffmkkfacemchaaR1
import Derived.Deep.AppendLies
namespace Go.Proofs.Ytffmkkfacemchaa
open Go.RowKit
set_option linter.unusedVariables false

/-- The symbols below n whose bucket is h, falling. -/
def prevs (hf : Nat → Nat) (h : Nat) : Nat → List Nat
  | 0 => []
  | n + 1 => if n ≠ 0 ∧ hf n = h then n :: prevs hf h n else prevs hf h n
theorem prevs_mem (hf : Nat → Nat) (h : Nat) : ∀ n i, i ∈ prevs hf h n ↔ (i ≠ 0 ∧ i < n ∧ hf i = h)
  | 0, i => by simp [prevs]
  | n + 1, i => by
    unfold prevs
    by_cases c : n ≠ 0 ∧ hf n = h
    · rw [if_pos c, List.mem_cons, prevs_mem hf h n i]
      constructor
      · rintro (rfl | ⟨h1, h2, h3⟩)
        · exact ⟨c.1, by omega, c.2⟩
        · exact ⟨h1, by omega, h3⟩
      · rintro ⟨h1, h2, h3⟩
        by_cases e : i = n
        · exact .inl e
        · exact .inr ⟨h1, by omega, h3⟩
    · rw [if_neg c, prevs_mem hf h n i]
      constructor
      · rintro ⟨h1, h2, h3⟩
        exact ⟨h1, by omega, h3⟩
      · rintro ⟨h1, h2, h3⟩
        refine ⟨h1, ?_, h3⟩
        rcases Nat.lt_or_ge i n with h4 | h4
        · exact h4
        · obtain rfl : i = n := by omega
          exact absurd ⟨h1, h3⟩ c
theorem prevs_len (hf : Nat → Nat) (h : Nat) : ∀ n, (prevs hf h n).length ≤ n
  | 0 => Nat.le_refl _
  | n + 1 => by
    have := prevs_len hf h n
    unfold prevs
    split
    · simp only [List.length_cons]; omega
    · omega
theorem bld_head (hf : Nat → Nat) (h : Nat) : ∀ n, bldB hf n h = (prevs hf h n).headD 0
  | 0 => rfl
  | n + 1 => by
    unfold bldB prevs
    by_cases e : n = 0
    · subst e
      simp [prevs]
    · rw [if_neg e]
      unfold upd
      by_cases c : h = hf n
      · rw [if_pos c, if_pos ⟨e, c.symm⟩]
        rfl
      · rw [if_neg c, if_neg (fun x => c x.2.symm)]
        exact bld_head hf h n
theorem bld_chain (hf : Nat → Nat) : ∀ n i, i ≠ 0 → i < n → bldC hf n i = (prevs hf (hf i) i).headD 0
  | 0, i, _, h => absurd h (by omega)
  | n + 1, i, h0, h => by
    have e : n ≠ 0 := by omega
    unfold bldC
    rw [if_neg e]
    unfold upd
    by_cases c : i = n
    · rw [if_pos c]
      subst c
      exact bld_head hf _ _
    · rw [if_neg c]
      exact bld_chain hf n i h0 (by omega)
theorem walk_prevs (hf : Nat → Nat) (h N : Nat) : ∀ n fuel, n ≤ N → (prevs hf h n).length ≤ fuel → walkL (bldC hf N) N fuel ((prevs hf h n).headD 0) = prevs hf h n
  | 0, fuel, _, _ => walkL_end _ _ _ _ (.inl rfl)
  | n + 1, fuel, hn, hl => by
    unfold prevs at hl ⊢
    by_cases c : n ≠ 0 ∧ hf n = h
    · rw [if_pos c] at hl ⊢
      simp only [List.length_cons] at hl
      obtain ⟨f, rfl⟩ : ∃ f, fuel = f + 1 := ⟨fuel - 1, by omega⟩
      show walkL _ _ (f + 1) n = _
      rw [walkL_go _ _ _ _ (by omega), bld_chain hf N n c.1 (by omega), c.2, walk_prevs hf h N n f (by omega) (by omega)]
    · rw [if_neg c] at hl ⊢
      exact walk_prevs hf h N n fuel (by omega) hl
theorem walkN_built (hf : Nat → Nat) (nb nn : Nat) (s : ByteArray) (h0 : 0 < nb) : walkN (bldB hf nn) (bldC hf nn) nb nn s = prevs hf (hs s % nb) nn := by
  unfold walkN
  rw [if_neg (by omega), bld_head]
  exact walk_prevs hf _ nn nn nn (Nat.le_refl _) (prevs_len _ _ _)

theorem chkF_all (P : Nat → Bool) : ∀ f i, (∀ j, i ≤ j → j < i + f → P j = true) → chkF P f i = (0, true)
  | 0, i, _ => rfl
  | f + 1, i, h => by
    unfold chkF
    rw [if_pos (h i (by omega) (by omega))]
    exact chkF_all P f (i + 1) fun j h1 h2 => h j (by omega) (by omega)
theorem check_built (hf : Nat → Nat) (nb nn : Nat) (nm : Nat → ByteArray) (HEQ : ∀ j, hs (nm j) % nb = hf j) (h0 : 0 < nb) : chkF (metB (bldB hf nn) (bldC hf nn) nb nn nm) (nn - 1) 1 = (0, true) := by
  refine chkF_all _ _ _ fun j h1 h2 => ?_
  unfold metB
  rw [decide_eq_true_eq, walkN_built hf nb nn (nm j) h0, HEQ j]
  exact (prevs_mem hf _ nn j).2 ⟨by omega, by omega, rfl⟩

/-- The last symbol below n of a name; 0: none. -/
def lastF (nm : Nat → ByteArray) (s : ByteArray) : Nat → Nat
  | 0 => 0
  | n + 1 => if n ≠ 0 ∧ nm n = s then n else lastF nm s n
theorem lastF_lt (nm : Nat → ByteArray) (s : ByteArray) : ∀ n, 0 < n → lastF nm s n < n
  | 0, h => absurd h (by omega)
  | n + 1, _ => by
    unfold lastF
    split
    · omega
    · by_cases e : n = 0
      · subst e; show 0 < 1; omega
      · have := lastF_lt nm s n (by omega); omega
theorem lastF_is (nm : Nat → ByteArray) (s : ByteArray) : ∀ n, lastF nm s n = 0 ∨ nm (lastF nm s n) = s
  | 0 => .inl rfl
  | n + 1 => by
    unfold lastF
    split
    · rename_i h; exact .inr h.2
    · exact lastF_is nm s n
theorem lastF_ge (nm : Nat → ByteArray) (s : ByteArray) : ∀ n i, i ≠ 0 → i < n → nm i = s → i ≤ lastF nm s n
  | 0, i, _, h, _ => absurd h (by omega)
  | n + 1, i, h0, h, hi => by
    unfold lastF
    split
    · omega
    · rename_i c
      by_cases e : i = n
      · subst e; exact absurd ⟨h0, hi⟩ c
      · exact lastF_ge nm s n i h0 (by omega) hi
theorem find_prevs (hf : Nat → Nat) (nb nn : Nat) (nm : Nat → ByteArray) (s : ByteArray) (HEQ : ∀ j, hs (nm j) % nb = hf j) : ∀ n, n ≤ nn → findF nm nn s (prevs hf (hs s % nb) n) = if lastF nm s n = 0 then (0, false) else ((lastF nm s n : Int), true)
  | 0, _ => rfl
  | n + 1, hn => by
    have ih := find_prevs hf nb nn nm s HEQ n (by omega)
    unfold prevs lastF
    by_cases e : n ≠ 0 ∧ nm n = s
    · have c : n ≠ 0 ∧ hf n = hs s % nb := ⟨e.1, by rw [← HEQ n, e.2]⟩
      rw [if_pos c, if_pos e, if_neg e.1]
      unfold findF
      have hh : hit nm nn s n = true := by unfold hit; simp [e.2]; omega
      simp [List.find?, hh]
    · rw [if_neg e]
      by_cases c : n ≠ 0 ∧ hf n = hs s % nb
      · rw [if_pos c, ← ih]
        have hh : hit nm nn s n = false := by
          unfold hit
          simp only [decide_eq_false_iff_not]
          exact fun h => e ⟨c.1, h.2⟩
        unfold findF
        simp [List.find?, hh]
      · rw [if_neg c]
        exact ih
theorem find_built (hf : Nat → Nat) (nb nn : Nat) (nm : Nat → ByteArray) (s : ByteArray) (HEQ : ∀ j, hs (nm j) % nb = hf j) (h0 : 0 < nb) : findF nm nn s (walkN (bldB hf nn) (bldC hf nn) nb nn s) = if lastF nm s nn = 0 then (0, false) else ((lastF nm s nn : Int), true) := by
  rw [walkN_built hf nb nn s h0]
  exact find_prevs hf nb nn nm s HEQ nn (Nat.le_refl _)

theorem bldB_lt (hf : Nat → Nat) (h n : Nat) (hn : 0 < n) : bldB hf n h < n := by
  rw [bld_head]
  cases e : prevs hf h n with
  | nil => exact hn
  | cons x l => exact ((prevs_mem hf h n x).1 (by rw [e]; simp)).2.1
theorem bldC_zero (hf : Nat → Nat) : ∀ n, bldC hf n 0 = 0
  | 0 => rfl
  | n + 1 => by
    unfold bldC
    by_cases e : n = 0
    · rw [if_pos e]
    · rw [if_neg e]
      unfold upd
      rw [if_neg (fun h => e h.symm)]
      exact bldC_zero hf n
theorem bldC_lt (hf : Nat → Nat) (n i : Nat) (hi : i < n) : bldC hf n i < n := by
  by_cases e : i = 0
  · subst e; rw [bldC_zero]; exact hi
  · rw [bld_chain hf n i e hi]
    cases e2 : prevs hf (hf i) i with
    | nil => show 0 < n; omega
    | cons x l => exact Nat.lt_trans ((prevs_mem hf _ i x).1 (by rw [e2]; simp)).2.1 hi

/-! What is read of a table's bytes. -/
theorem part_of (a m c : List UInt8) (s : ByteArray) (h : s.data.toList = a ++ (m ++ c)) : (s.extract a.length (a.length + m.length)).data.toList = m := by
  rw [ext_list, h, List.drop_left, Nat.add_sub_cancel_left, List.take_left]
theorem num_enc4 (s : ByteArray) (x : Nat) (h : s.data.toList = enc x 4) (hx : x < 4294967296) : num s = (x : Int) := by
  have hs : s.size = 4 := by
    have : s.data.toList.length = 4 := by rw [h, enc_length]
    simpa using this
  rw [num_small s (by omega), h, dec_enc, Nat.mod_eq_of_lt (by omega)]
theorem num_at (s : ByteArray) (a c : List UInt8) (x p : Nat) (h : s.data.toList = a ++ (enc x 4 ++ c)) (hx : x < 4294967296) (hp : a.length = p) : num (s.extract p (p + 4)) = (x : Int) := by
  have := part_of a (enc x 4) c s h
  rw [enc_length, hp] at this
  exact num_enc4 _ x this hx
theorem encL_split (f : Nat → Nat) : ∀ (n j : Nat), j < n → ∃ R, encL f n = encL f j ++ (enc (f j) 4 ++ R)
  | 0, j, h => absurd h (by omega)
  | n + 1, j, h => by
    by_cases e : j = n
    · subst e
      exact ⟨[], by rw [encL_succ, List.append_nil]⟩
    · obtain ⟨R, hR⟩ := encL_split f n j (by omega)
      exact ⟨R ++ enc (f n) 4, by rw [encL_succ, hR]; simp⟩
theorem putL_num0 (B C : Nat → Nat) (n m : Nat) (hn : n < 4294967296) : num ((⟨(putL B C n m).toArray⟩ : ByteArray).extract 0 4) = (n : Int) :=
  num_at _ [] (enc m 4 ++ (encL B n ++ encL C m)) n 0 (by simp [putL, putH]) hn rfl
theorem putL_num1 (B C : Nat → Nat) (n m : Nat) (hm : m < 4294967296) : num ((⟨(putL B C n m).toArray⟩ : ByteArray).extract 4 8) = (m : Int) :=
  num_at _ (enc n 4) (encL B n ++ encL C m) m 4 (by simp [putL, putH]) hm (enc_length _ _)
theorem putL_size (B C : Nat → Nat) (n m : Nat) : (⟨(putL B C n m).toArray⟩ : ByteArray).size = 8 + 4 * n + 4 * m := by
  show (putL B C n m).toArray.size = _
  rw [List.size_toArray]
  unfold putL
  rw [List.length_append, putH_len2, encL_len]
theorem putL_B (B C : Nat → Nat) (n m j : Nat) (hj : j < n) (hB : B j < 4294967296) : vN (⟨(putL B C n m).toArray⟩ : ByteArray) j = B j := by
  obtain ⟨R, hR⟩ := encL_split B n j hj
  have := num_at (⟨(putL B C n m).toArray⟩ : ByteArray) (putH n m ++ encL B j) (R ++ encL C m) (B j) (8 + 4 * j) (by simp [putL, hR]) hB (by rw [List.length_append, putH_len, encL_len])
  unfold vN
  rw [show 12 + 4 * j = 8 + 4 * j + 4 by omega, this]
  rfl
theorem putL_C (B C : Nat → Nat) (n m j : Nat) (hj : j < m) (hC : C j < 4294967296) : vN (⟨(putL B C n m).toArray⟩ : ByteArray) (n + j) = C j := by
  obtain ⟨R, hR⟩ := encL_split C m j hj
  have := num_at (⟨(putL B C n m).toArray⟩ : ByteArray) (putH n m ++ encL B n ++ encL C j) R (C j) (8 + 4 * (n + j)) (by simp [putL, hR]) hC (by rw [List.length_append, putH_len2, encL_len]; omega)
  unfold vN
  rw [show 12 + 4 * (n + j) = 8 + 4 * (n + j) + 4 by omega, this]
  rfl
theorem putL_right (B C : Nat → Nat) (n m : Nat) (hn : 0 < n) (hn2 : n ≤ 256) (hm0 : 0 < m) (hm : m ≤ 256) (hB : ∀ j, j < n → B j < m) (hC : ∀ j, j < m → C j < m) : Right (⟨(putL B C n m).toArray⟩ : ByteArray) n m := by
  have hz := putL_size B C n m
  refine ⟨by omega, putL_num0 B C n m (by omega), putL_num1 B C n m (by omega), hn, hn2, hm, by omega, fun i hi => ?_⟩
  rintro ⟨h1, h2⟩
  by_cases hin : i < n
  · rw [putL_B B C n m i hin (by have := hB i hin; omega)] at h2
    have := hB i hin
    omega
  · obtain ⟨j, rfl⟩ : ∃ j, i = n + j := ⟨i - n, by omega⟩
    rw [putL_C B C n m j (by omega) (by have := hC j (by omega); omega)] at h2
    have := hC j (by omega)
    omega
/-- Read of the bytes of a table that was put. -/
theorem read_put (B C : Nat → Nat) (n m : Nat) (hn : 0 < n) (hn2 : n ≤ 256) (hm0 : 0 < m) (hm : m ≤ 256) (hB : ∀ j, j < n → B j < m) (hC : ∀ j, j < m → C j < m) (w : World) :
    Calls Try.prog 10 #[.string ⟨(putL B C n m).toArray⟩] w fun e w' => (∃ g a1, e = .returned (.tuple #[tbv (slv (some ⟨g, 0, none⟩) n n) (slv a1 m m), flt 0 0]) ∧ (0 < m → a1 = some ⟨g, n, none⟩) ∧ RowU w' g 0 n B ∧ RowU w' g n m C ∧ g < w'.heap.size) ∧ Below w.heap.size w w' := by
  have hz := putL_size B C n m
  have hr := putL_right B C n m hn hn2 hm0 hm hB hC
  obtain ⟨r1, r2, r3, r4, r5, r6, r7, r8⟩ := hr
  refine (read_some _ n m w (by omega) r1 r2 r3 r4 r5 r6 r7).mono ?_
  rintro e w' ⟨⟨g, c, a1, rfl, h1, h2, _⟩ | ⟨j, j1, _, j3, _⟩, hb⟩
  · have hg := World.ownsRow.form h2 (by omega)
    have key : ∀ j, j < n + m → w'.cell? ⟨g, j, none⟩ = some (.int .u32 (vN (⟨(putL B C n m).toArray⟩ : ByteArray) j : Int)) := fun j hj => (h2.cellAt j (by omega)).trans (u32C_at _ _ _ hj)
    refine ⟨⟨g, a1, rfl, h1, fun j hj => ?_, fun j hj => ?_, ?_⟩, hb⟩
    · rw [Nat.zero_add, key j (by omega), putL_B B C n m j hj (by have := hB j hj; omega)]
    · rw [key (n + j) (by omega), putL_C B C n m j hj (by have := hC j hj; omega)]
    · obtain ⟨g', cap, he, _, hlt⟩ := hg
      cases he
      exact hlt
  · exact (r8 j j1 j3).elim
end Go.Proofs.Ytffmkkfacemchaa
