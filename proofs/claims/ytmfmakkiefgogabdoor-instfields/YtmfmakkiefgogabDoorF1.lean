/-
  Layer 6: an instruction's word, and the same with another register rd: plain mathematics for InstFields. No condition: lemmas.
-/
import Derived.Test.YtmfmakkiefgogabDoorSpeaks
namespace Go.Proofs.YtmfmakkiefgogabDoor
open Go.RowKit
set_option linter.unusedVariables false

/-- Its bits 7 to 11 are 0. -/
def Clean (x : Nat) : Prop := x / 128 % 32 = 0
theorem or_div (a b k : Nat) : (a ||| b) / 2 ^ k = a / 2 ^ k ||| b / 2 ^ k := by
  rw [← Nat.shiftRight_eq_div_pow, ← Nat.shiftRight_eq_div_pow, ← Nat.shiftRight_eq_div_pow, Nat.shiftRight_or_distrib]
theorem or_fld (a b : Nat) : (a ||| b) / 128 % 32 = (a / 128 % 32) ||| (b / 128 % 32) := by
  have h := or_div a b 7
  have e : (2 : Nat) ^ 7 = 128 := rfl
  rw [e] at h
  rw [h]
  exact Nat.or_mod_two_pow (n := 5)
theorem Clean.or {a b : Nat} (ha : Clean a) (hb : Clean b) : Clean (a ||| b) := by
  unfold Clean at *
  rw [or_fld, ha, hb]; rfl
theorem clean_bit {x : Nat} (h : Clean x) (i : Nat) (h0 : 7 ≤ i) (h1 : i < 12) : x.testBit i = false := by
  have e : (x / 128 % 32).testBit (i - 7) = x.testBit i := by
    have : (x / 2 ^ 7 % 2 ^ 5).testBit (i - 7) = x.testBit i := by
      rw [Nat.testBit_mod_two_pow, Nat.testBit_div_two_pow]
      have e2 : i - 7 + 7 = i := by omega
      rw [e2]
      simp; omega
    exact this
  rw [← e, h]; simp
theorem rd_bit (b : Nat) (hb : b < 32) (i : Nat) (h : i < 7 ∨ 12 ≤ i) : (b * 128).testBit i = false := by
  rcases h with h | h
  · have e : b * 128 = b * 2 ^ 7 := rfl
    rw [e, Nat.testBit_mul_two_pow]
    simp; omega
  · exact Nat.testBit_lt_two_pow (Nat.lt_of_lt_of_le (show b * 128 < 2 ^ 12 by omega) (Nat.pow_le_pow_right (by omega) h))
theorem and_clean {m : Nat} (hm : Clean m) (b : Nat) (hb : b < 32) : b * 128 &&& m = 0 := by
  apply Nat.eq_of_testBit_eq
  intro i
  rw [Nat.testBit_and, Nat.zero_testBit]
  by_cases h : 7 ≤ i ∧ i < 12
  · rw [clean_bit hm i h.1 h.2, Bool.and_false]
  · rw [rd_bit b hb i (by omega), Bool.false_and]
theorem or_and_clean {m : Nat} (hm : Clean m) (r b : Nat) (hb : b < 32) : (r ||| b * 128) &&& m = r &&& m := by
  rw [Nat.and_or_distrib_right, and_clean hm b hb, Nat.or_zero]
theorem or_div_clean (r b k : Nat) (hb : b < 32) (hk : 12 ≤ k) : (r ||| b * 128) / 2 ^ k = r / 2 ^ k := by
  rw [or_div]
  have : b * 128 / 2 ^ k = 0 := Nat.div_eq_of_lt (Nat.lt_of_lt_of_le (show b * 128 < 2 ^ 12 by omega) (Nat.pow_le_pow_right (by omega) hk))
  rw [this, Nat.or_zero]
theorem fld_clean {r : Nat} (hr : Clean r) (b : Nat) (hb : b < 32) : (r ||| b * 128) / 128 % 32 = b := by
  rw [or_fld, hr, Nat.zero_or]; omega
theorem keep_clean {r : Nat} (hr : Clean r) (hlt : r < 4294967296) : r &&& 4294963327 = r := by
  apply Nat.eq_of_testBit_eq
  intro i
  rw [Nat.testBit_and]
  by_cases h : 7 ≤ i ∧ i < 12
  · rw [clean_bit hr i h.1 h.2, Bool.false_and]
  · by_cases h32 : i < 32
    · have : ∀ i, i < 32 → ¬ (7 ≤ i ∧ i < 12) → Nat.testBit 4294963327 i = true := by decide +kernel
      rw [this i h32 h, Bool.and_true]
    · have : r.testBit i = false := Nat.testBit_lt_two_pow (Nat.lt_of_lt_of_le (show r < 2 ^ 32 by omega) (Nat.pow_le_pow_right (by omega) (by omega)))
      rw [this, Bool.false_and]
theorem mod_clean (r b : Nat) : (r ||| b * 128) % 128 = r % 128 := by
  have h : (r ||| b * 128) % 2 ^ 7 = r % 2 ^ 7 ||| b * 128 % 2 ^ 7 := Nat.or_mod_two_pow
  have e : b * 128 % 2 ^ 7 = 0 := by omega
  rw [e, Nat.or_zero] at h
  exact h

/-- The forms that have a register rd. -/
def hasRd (c : Int) : Prop := c = 85 ∨ c = 74 ∨ c = 73 ∨ c = 72 ∨ c = 75 ∨ c = 82
theorem hasRd_has {c : Int} (h : hasRd c) : has sRd.data.toList c = true := by
  rcases h with rfl | rfl | rfl | rfl | rfl | rfl <;> decide +kernel
theorem hasRd_pieces {c : Int} (h : hasRd c) : ∀ p ∈ piecesOf c, 12 ≤ p.inWord := by
  rcases h with rfl | rfl | rfl | rfl | rfl | rfl <;> simp [piecesOf]
theorem into_clean (p : Piece) (m : Nat) (h : 12 ≤ p.inWord) : Clean (p.into m) := by
  unfold Clean Piece.into
  obtain ⟨d, hd⟩ := Nat.exists_eq_add_of_le h
  rw [hd, Nat.pow_add, ← Nat.mul_assoc, Nat.mul_right_comm]
  generalize m / 2 ^ p.inImm % 2 ^ p.count * 2 ^ d = X
  have e : (2 : Nat) ^ 12 = 4096 := rfl
  rw [e]
  omega
theorem lay_clean (ps : List Piece) (m : Nat) (h : ∀ p ∈ ps, 12 ≤ p.inWord) : Clean (layImm ps m) := by
  unfold layImm
  have key : ∀ (ps : List Piece) (n : Nat), (∀ p ∈ ps, 12 ≤ p.inWord) → Clean n → Clean (ps.foldl (fun n p => n ||| p.into m) n) := by
    intro ps
    induction ps with
    | nil => intro n _ hn; exact hn
    | cons p ps ih => intro n hp hn; exact ih _ (fun q hq => hp q (List.mem_cons_of_mem _ hq)) (hn.or (into_clean p m (hp p (List.mem_cons_self ..))))
  exact key ps 0 h rfl
theorem gather_same (ps : List Piece) (x y : Nat) (h : ∀ p ∈ ps, x / 2 ^ p.inWord = y / 2 ^ p.inWord) : gather ps x = gather ps y := by
  unfold gather
  have key : ∀ (ps : List Piece) (n : Nat), (∀ p ∈ ps, x / 2 ^ p.inWord = y / 2 ^ p.inWord) → ps.foldl (fun n p => n ||| p.from_ x) n = ps.foldl (fun n p => n ||| p.from_ y) n := by
    intro ps
    induction ps with
    | nil => intro n _; rfl
    | cons p ps ih =>
      intro n hp
      have e : p.from_ x = p.from_ y := by unfold Piece.from_; rw [hp p (List.mem_cons_self ..)]
      simp only [List.foldl_cons, e]
      exact ih _ (fun q hq => hp q (List.mem_cons_of_mem _ hq))
  exact key ps 0 h

theorem codes_clean (k : Nat) (hk : k < 64) : Clean (codeAt k).toNat := by
  have h : ∀ k, k < 64 → (codeAt k).toNat / 128 % 32 = 0 := by decide +kernel
  exact h k hk
theorem regLaid_clean (n : Int) (s : ByteArray) (c : Int) (a : Nat) (ha : a = 15 ∨ a = 20) : Clean (regLaid n a s c).toNat := by
  unfold regLaid Clean
  split
  · rcases ha with rfl | rfl
    · have e : (2 : Int) ^ 15 = 32768 := rfl
      rw [e]; omega
    · have e : (2 : Int) ^ 20 = 1048576 := rfl
      rw [e]; omega
  · rfl

/-- A word but for its register rd. -/
def restW (k : Nat) (i : In) : Nat := (codeAt k).toNat ||| (regLaid i.r1 15 sRs1 (formAt k)).toNat ||| (regLaid i.r2 20 sRs2 (formAt k)).toNat ||| immLaid i.imm (formAt k)
theorem rest_clean (k : Nat) (i : In) (hk : k < 64) (hc : hasRd (formAt k)) : Clean (restW k i) :=
  (((codes_clean k hk).or (regLaid_clean _ _ _ _ (.inl rfl))).or (regLaid_clean _ _ _ _ (.inr rfl))).or (lay_clean _ _ (hasRd_pieces hc))
theorem rest_lt (k : Nat) (i : In) : restW k i < 4294967296 := by
  have h1 := codes_range k
  have h3 := regLaid_range i.r1 15 sRs1 (formAt k) (by omega)
  have h4 := regLaid_range i.r2 20 sRs2 (formAt k) (by omega)
  exact or_lt32 (or_lt32 (or_lt32 (by omega) (by omega)) (by omega)) (lay_lt _ _)
theorem enc_rest (k : Nat) (i : In) (hc : hasRd (formAt k)) : encW k i = restW k i ||| (i.rd % 32).toNat * 128 := by
  unfold encW restW
  have e : (regLaid i.rd 7 sRd (formAt k)).toNat = (i.rd % 32).toNat * 128 := by
    unfold regLaid
    rw [hasRd_has hc, if_pos rfl]
    have e : (2 : Int) ^ 7 = 128 := rfl
    rw [e]; omega
  rw [e]
  generalize (codeAt k).toNat = a
  generalize (regLaid i.r1 15 sRs1 (formAt k)).toNat = b
  generalize (regLaid i.r2 20 sRs2 (formAt k)).toNat = c
  generalize immLaid i.imm (formAt k) = d
  generalize (i.rd % 32).toNat * 128 = r
  ac_rfl

theorem masks_clean (c : Int) (h : c ≠ 78) : Clean (maskOf c) := by
  unfold maskOf Clean
  rw [if_neg h]
  (repeat' split) <;> rfl
theorem mask_low (c : Int) (x : Nat) : (x &&& maskOf c) % 128 = x % 128 := by
  have h : maskOf c % 2 ^ 7 = 2 ^ 7 - 1 := by unfold maskOf; (repeat' split) <;> rfl
  have h2 : (x &&& maskOf c) % 2 ^ 7 = x % 2 ^ 7 &&& maskOf c % 2 ^ 7 := Nat.and_mod_two_pow
  rw [h, Nat.and_two_pow_sub_one_eq_mod] at h2
  rw [show (128 : Nat) = 2 ^ 7 from rfl, h2]
  exact Nat.mod_mod _ _

theorem fit_same (r b b' j : Nat) (hb : b < 32) (hb' : b' < 32) (hlow : r % 128 ≠ 115) (hj : j < 64) : fit (r ||| b * 128) j = fit (r ||| b' * 128) j := by
  unfold fit
  by_cases hn : formAt j = 78
  · have hc : (codeAt j).toNat % 128 = 115 ∧ 0 ≤ codeAt j := by
      have h : ∀ j, j < 64 → formAt j = 78 → (codeAt j).toNat % 128 = 115 ∧ 0 ≤ codeAt j := by decide +kernel
      exact h j hj hn
    have key : ∀ b : Nat, ((((r ||| b * 128) &&& maskOf (formAt j) : Nat) : Int) == codeAt j) = false := by
      intro b
      rw [beq_eq_false_iff_ne]
      intro e
      have e2 : ((r ||| b * 128) &&& maskOf (formAt j)) = (codeAt j).toNat := by rw [← e]; rfl
      have h1 := mask_low (formAt j) (r ||| b * 128)
      rw [e2, mod_clean] at h1
      omega
    rw [key b, key b']
  · rw [or_and_clean (masks_clean _ hn) r b hb, or_and_clean (masks_clean _ hn) r b' hb']

theorem find_same (f g : Nat → Bool) (l : List Nat) (h : ∀ j ∈ l, f j = g j) : l.find? f = l.find? g := by
  induction l with
  | nil => rfl
  | cons a l ih =>
    rw [List.find?_cons, List.find?_cons, h a (List.mem_cons_self ..), ih fun j hj => h j (List.mem_cons_of_mem _ hj)]
theorem kind_same (r b b' : Nat) (hb : b < 32) (hb' : b' < 32) (hlow : r % 128 ≠ 115) : kindF (r ||| b * 128) = kindF (r ||| b' * 128) :=
  find_same _ _ _ fun j hj => fit_same r b b' j hb hb' hlow (by simpa using hj)

/-- What InstFields asks, of an instruction that goes into a word, and has a register rd. -/
theorem fields_math (i : In) (x k : Nat) (rd : Int) (hi : encF i = some x) (hk : i.op = (k : Int)) (hc : hasRd (formAt k)) :
    ((x / 128 % 32 : Nat) : Int) = i.rd ∧ encF ⟨i.op, rd % 32, i.r1, i.r2, i.imm⟩ = some ((x &&& 4294963327) ||| (rd % 32).toNat * 128) ∧ x < 4294967296 := by
  unfold encF at hi
  split at hi
  case isFalse => cases hi
  rename_i hcond
  obtain ⟨h0, h64, hdec⟩ := hcond
  rw [hk, Int.toNat_natCast] at hdec hi
  have hk64 : k < 64 := by omega
  have hx := Option.some.inj hi
  rw [hx] at hdec
  have hxr : x = restW k i ||| (i.rd % 32).toNat * 128 := by rw [← hx]; exact enc_rest k i hc
  have hcl := rest_clean k i hk64 hc
  have hrl := rest_lt k i
  have hxl : x < 4294967296 := by rw [← hx]; exact encW_lt k i
  -- what x is decoded to
  unfold decF at hdec
  cases hkf : kindF x with
  | none => rw [hkf] at hdec; cases hdec
  | some k' =>
    rw [hkf] at hdec
    simp only [Option.map_some, Option.some.injEq] at hdec
    have ek : k' = k := by
      have := congrArg In.op hdec
      simp only [hk] at this
      omega
    subst ek
    obtain ⟨_, hfit⟩ := kindF_lt hkf
    have hrd := congrArg In.rd hdec
    have hr1 := congrArg In.r1 hdec
    have hr2 := congrArg In.r2 hdec
    have him := congrArg In.imm hdec
    simp only at hrd hr1 hr2 him
    have ereg : ∀ y, regOf y 7 sRd (formAt k') = ((y / 128 % 32 : Nat) : Int) := by
      intro y; unfold regOf; rw [hasRd_has hc]; rfl
    rw [ereg] at hrd
    -- the lower seven bits
    have hlow : restW k' i % 128 ≠ 115 := by
      have h1 : x % 128 = (codeAt k').toNat % 128 := by
        unfold fit at hfit
        rw [beq_iff_eq] at hfit
        rw [← mask_low (formAt k') x, ← hfit]; rfl
      have h2 : x % 128 = restW k' i % 128 := by rw [hxr]; exact mod_clean _ _
      have h3 : ∀ k, k < 64 → formAt k ≠ 78 → (codeAt k).toNat % 128 ≠ 115 := by decide +kernel
      have h4 := h3 k' hk64 (by intro e; rw [e] at hc; unfold hasRd at hc; omega)
      omega
    have hb : (i.rd % 32).toNat < 32 := by omega
    have hb' : (rd % 32).toNat < 32 := by omega
    have eV : (x &&& 4294963327) ||| (rd % 32).toNat * 128 = restW k' i ||| (rd % 32).toNat * 128 := by
      rw [hxr, or_and_clean (show Clean 4294963327 from rfl) _ _ hb, keep_clean hcl hrl]
    refine ⟨hrd, ?_, hxl⟩
    rw [eV]
    have eW : encW k' ⟨i.op, rd % 32, i.r1, i.r2, i.imm⟩ = restW k' i ||| (rd % 32).toNat * 128 := by
      rw [enc_rest k' _ hc]
      have : (rd % 32 % 32).toNat = (rd % 32).toNat := by omega
      simp only [this]
      rfl
    have hdiv : ∀ a, 12 ≤ a → (restW k' i ||| (rd % 32).toNat * 128) / 2 ^ a = x / 2 ^ a := by
      intro a ha
      rw [hxr, or_div_clean _ _ _ hb' ha, or_div_clean _ _ _ hb ha]
    unfold encF
    simp only [hk, Int.toNat_natCast]
    rw [hk] at eW
    rw [if_pos]
    · rw [eW]
    simp only [hk, Int.toNat_natCast]
    rw [eW]
    refine ⟨by omega, by omega, ?_⟩
    unfold decF
    rw [← kind_same _ _ _ hb hb' hlow, ← hxr, hkf]
    simp only [Option.map_some, Option.some.injEq, In.mk.injEq]
    refine ⟨trivial, ?_, ?_, ?_, ?_⟩
    · rw [ereg, fld_clean hcl _ hb']; omega
    · rw [← hr1]; unfold regOf; rw [hdiv 15 (by omega)]
    · rw [← hr2]; unfold regOf; rw [hdiv 20 (by omega)]
    · rw [← him]; unfold immOf; rw [gather_same _ _ x fun p hp => hdiv _ (hasRd_pieces hc p hp)]
end Go.Proofs.YtmfmakkiefgogabDoor
