/-
  The small calls of layer 2: what each answers, whatever the input.
-/
import Derived.Test.YtjcefpeicbekhaaDoorLaid
import Derived.WalkSpells
import Derived.WalkLawsBesides
import Derived.Handy
import Derived.Laws.IdiomStrings
import Derived.Laws.BitsAllLaws
import Derived.Lib.Bytealg
import Derived.Lib.Strings
namespace Go.Proofs.YtjcefpeicbekhaaDoor
open Go.RowKit

/-- The two tables lie in the world. -/
structure Tabs (w : World) : Prop where
  words : ∀ i, i < 27 → w.cell? ⟨0, i, none⟩ = some (.string (wordAt i))
  tab : ∀ i, i < 64 → w.cell? ⟨6, i, none⟩ = some (.int .u8 (tab64.getD i 0))

theorem Tabs.size {w : World} (h : Tabs w) : 6 < w.heap.size := World.block_lt_of_cell? w _ (h.tab 0 (by omega))
theorem Tabs.below {B : Nat} {w w' : World} (h : Tabs w) (hb : Below B w w') (hB : 6 < B) : Tabs w' :=
  ⟨fun i hi => (hb.cell (p := ⟨0, i, none⟩) (by show 0 < B; omega)).trans (h.words i hi), fun i hi => (hb.cell (p := ⟨6, i, none⟩) (by show 6 < B; omega)).trans (h.tab i hi)⟩
theorem Tabs.next {w w' : World} (h : Tabs w) (hb : Below w.heap.size w w') : Tabs w' := h.below hb h.size
theorem bt {w a b : World} (h1 : Below w.heap.size w a) (h2 : Below a.heap.size a b) : Below w.heap.size w b := h1.trans (h2.mono h1.size)

theorem ret_str {a b : ByteArray} (h : a = b) : Ending.returned (.string a) = .returned (.string b) := by rw [h]

/-- The word of a number. -/
def word (e : Int) : ByteArray := if 0 ≤ e ∧ e < 27 then wordAt e.toNat else ⟨#[117, 110, 107, 110, 111, 119, 110]⟩

set_option maxHeartbeats 400000 in
theorem word_any (e : Int) (w : World) (ht : Tabs w) : Calls Tryd.prog 7 #[.int .i64 e] w fun x w' => x = .returned (.string (word e)) ∧ w' = w := by
  by_cases h0 : 0 ≤ e
  · by_cases h1 : e < 27
    · have hc := ht.words e.toNat (by omega)
      have H : Hid (word e = wordAt e.toNat) := if_pos ⟨h0, h1⟩
      clear ht
      go_enter Tryd.func7, Tryd.ntmps7
      go_wp2
      go_ret
      exact ⟨ret_str H.out.symm, rfl⟩
    · have H : Hid (word e = ⟨#[117, 110, 107, 110, 111, 119, 110]⟩) := if_neg (by omega)
      clear ht
      go_enter Tryd.func7, Tryd.ntmps7
      go_wp2
      go_ret
      exact ⟨ret_str H.out.symm, rfl⟩
  · have H : Hid (word e = ⟨#[117, 110, 107, 110, 111, 119, 110]⟩) := if_neg (by omega)
    clear ht
    go_enter Tryd.func7, Tryd.ntmps7
    go_wp2
    go_ret
    exact ⟨ret_str H.out.symm, rfl⟩

set_option maxHeartbeats 400000 in
theorem ok_any (c a : Int) (n : ByteArray) (w : World) : Calls Tryd.prog 9 #[.agg #[.int .i64 c, .int .u64 a, .string n]] w fun x w' => x = .returned (.bool (c == 0)) ∧ w' = w.alloc (.cells #[.int .i64 c, .int .u64 a, .string n] 26) := by
  go_enter Tryd.func9, Tryd.ntmps9
  go_wp2
  go_ret
  exact ⟨rfl, rfl⟩

set_option maxHeartbeats 400000 in
theorem at_any (c a : Int) (w : World) : Calls Tryd.prog 12 #[.int .i64 c, .int .u64 a] w fun x w' => x = .returned (.agg #[.int .i64 c, .int .u64 a, .string ⟨#[]⟩]) ∧ w' = w.alloc (.cells #[.int .i64 c, .int .u64 a, .string ⟨#[]⟩] 26) := by
  go_enter Tryd.func12, Tryd.ntmps12
  go_wp2
  go_returns
  exact ⟨rfl, rfl⟩

set_option maxHeartbeats 400000 in
theorem with_any (c : Int) (n : ByteArray) (w : World) : Calls Tryd.prog 11 #[.int .i64 c, .string n] w fun x w' => x = .returned (.agg #[.int .i64 c, .int .u64 0, .string n]) ∧ w' = w.alloc (.cells #[.int .i64 c, .int .u64 0, .string n] 26) := by
  go_enter Tryd.func11, Tryd.ntmps11
  go_wp2
  go_returns
  exact ⟨rfl, rfl⟩

set_option maxHeartbeats 400000 in
theorem of_any (c : Int) (w : World) : Calls Tryd.prog 13 #[.int .i64 c] w fun x w' => x = .returned (.agg #[.int .i64 c, .int .u64 0, .string ⟨#[]⟩]) ∧ w' = w.alloc (.cells #[.int .i64 c, .int .u64 0, .string ⟨#[]⟩] 26) := by
  go_enter Tryd.func13, Tryd.ntmps13
  go_wp2
  go_returns
  exact ⟨rfl, rfl⟩

theorem ret_int {k : IntKind} {a b : Int} (h : a = b) : Ending.returned (.int k a) = .returned (.int k b) := by rw [h]

theorem tz16_sum : wrap64 (tab64[(IntKind.u64.wrap (bits BinOp.and IntKind.u64 16 (IntKind.u64.wrap (-16)) * 285870213051353865) / 288230376151711744).toNat]?.getD 0) = 4 := by kernel_rfl

set_option maxHeartbeats 400000 in
theorem tz16 (w : World) (ht : Tabs w) : Calls Tryd.prog 39 #[.int .u64 16] w fun x w' => x = .returned (.int .i64 4) ∧ w' = w := by
  have h := ht.tab
  go_enter Tryd.func39, Tryd.ntmps39
  go_wp2
  go_ret
  exact ⟨ret_int tz16_sum, rfl⟩

set_option maxHeartbeats 400000 in
theorem pow16 (w : World) : Calls Tryd.prog 38 #[.int .i64 16] w fun x w' => x = .returned (.bool true) ∧ w' = w := by
  go_enter Tryd.func38, Tryd.ntmps38
  go_wp2
  go_ret
  exact ⟨by kernel_rfl, rfl⟩

/-- The sign of a digit. -/
def hd (d : Nat) : UInt8 := if d < 10 then UInt8.ofNat (48 + d) else UInt8.ofNat (87 + d)

/-- The digits of a number, the highest first: the lowest k + 1. -/
def digs (N : Nat) : Nat → List UInt8
  | 0 => [hd (N % 16)]
  | k + 1 => hd (N / 16 ^ (k + 1) % 16) :: digs N k

def lit36 : ByteArray := ⟨#[48, 49, 50, 51, 52, 53, 54, 55, 56, 57, 97, 98, 99, 100, 101, 102, 103, 104, 105, 106, 107, 108, 109, 110, 111, 112, 113, 114, 115, 116, 117, 118, 119, 120, 121, 122]⟩
theorem lit_hd : ∀ (d : Nat) (h : d < 36), d < 16 → (lit36[d]'h).toNat = (hd d).toNat
  | 0, _, _ | 1, _, _ | 2, _, _ | 3, _, _ | 4, _, _ | 5, _, _ | 6, _, _ | 7, _, _ | 8, _, _ | 9, _, _ | 10, _, _ | 11, _, _ | 12, _, _ | 13, _, _ | 14, _, _ | 15, _, _ => rfl
  | _ + 16, _, h => by omega

theorem and15 (u : Nat) (hu : u < 18446744073709551616) : bits BinOp.and IntKind.u64 (u : Int) 15 = ((u % 16 : Nat) : Int) := by
  have h := u64_and_nat u 15 hu (by omega)
  have e : u &&& 15 = u % 16 := Nat.and_two_pow_sub_one_eq_mod u 4
  rw [e] at h
  exact h
theorem div16 (N k u : Nat) (hu : u = N / 16 ^ k) : u / 16 = N / 16 ^ (k + 1) := by rw [hu, Nat.div_div_eq_div_mul, Nat.pow_succ]
theorem pow15 (N k u : Nat) (hN : N < 18446744073709551616) (hu : u = N / 16 ^ k) (h : 16 ≤ u) : k + 1 ≤ 15 := by
  by_cases hk : k + 1 ≤ 15
  · exact hk
  · exfalso
    have h1 : 16 ^ 15 ≤ 16 ^ k := Nat.pow_le_pow_right (by omega) (by omega)
    have h2 : u * 16 ^ k ≤ N := by rw [hu]; exact Nat.div_mul_le_self _ _
    have h3 : 16 * 16 ^ k ≤ u * 16 ^ k := Nat.mul_le_mul_right _ h
    have h4 : (16 : Nat) ^ 15 = 1152921504606846976 := by decide
    omega

/-- What the array of formatBits holds behind k digits. -/
def FInv (N g k : Nat) (w : World) : Prop :=
  (∀ t, t < k → w.cell? ⟨g, 64 - t, none⟩ = some (.int .u8 ((hd (N / 16 ^ t % 16)).toNat : Int))) ∧ (∀ j, j < 65 → ∃ v, w.cell? ⟨g, j, none⟩ = some v) ∧ (∀ j, w.frozen? ⟨g, j, none⟩ = false)

theorem FInv.step {N g k : Nat} {w : World} (h : FInv N g k w) (hk : k ≤ 64) (x : Int) (hx : x = ((hd (N / 16 ^ k % 16)).toNat : Int)) : FInv N g (k + 1) (w.setCell ⟨g, 64 - k, none⟩ (.int .u8 x)) := by
  obtain ⟨h1, h2, h3⟩ := h
  obtain ⟨v, hv⟩ := h2 (64 - k) (by omega)
  refine ⟨fun t ht => ?_, fun j hj => ?_, fun j => ?_⟩
  · by_cases e : t = k
    · subst e; rw [hx]; simp [go_sem, hv]
    · have := h1 t (by omega)
      rw [World.cell?_setCell_other _ _ _ _ (fun h => by simp at h <;> omega)]
      exact this
  · by_cases e : j = 64 - k
    · subst e; exact ⟨.int .u8 x, by simp [go_sem, hv]⟩
    · obtain ⟨u, hu⟩ := h2 j hj
      exact ⟨u, by rw [World.cell?_setCell_other _ _ _ _ (fun h => by simp at h <;> omega)]; exact hu⟩
  · simp [go_sem, h3]

theorem FInv.start (N : Nat) (w : World) : FInv N w.heap.size 0 (w.alloc (.cells Tryd.zeroCells68 68)) := by
  refine ⟨fun t h => by omega, fun j hj => ?_, fun j => ?_⟩
  · have hz : Tryd.zeroCells68.size = 65 := by kernel_rfl
    exact ⟨Tryd.zeroCells68[j]'(by omega), by simp [go_sem, hz, hj]⟩
  · simp [go_sem]

theorem digs_length (N : Nat) : ∀ k, (digs N k).length = k + 1
  | 0 => rfl
  | k + 1 => by simp [digs, digs_length N k]
theorem digs_at (N : Nat) : ∀ (k j : Nat) (h : j < (digs N k).length), (digs N k)[j] = hd (N / 16 ^ (k - j) % 16)
  | 0, 0, _ => by simp [digs]
  | 0, j + 1, h => by simp [digs] at h
  | k + 1, 0, _ => by simp [digs]
  | k + 1, j + 1, h => by
    have := digs_at N k j (by simpa [digs] using h)
    simp only [digs, List.getElem_cons_succ, this]
    congr 4
    omega

theorem slice84 (g m k : Nat) (h : k + m = 65) (hk : k ≤ 15) (W : World) : (Instr.sliceAt 68 (.pointer (some ⟨g, 0, none⟩)) (some (.int .i64 ((m : Int) - 1))) none none).run Tryd.prog W = .ok (.slice (some ⟨g, m - 1, none⟩) (k + 1) (k + 1)) W := by
  have hal : Tryd.prog.arrayLen 68 = 65 := by kernel_rfl
  have hel : Tryd.prog.elem 68 = 5 := by kernel_rfl
  have hsz : (sizeOf 5).run Tryd.prog W = .ok 1 W := by kernel_rfl
  rw [run_sliceAt_array_l W 68 ⟨g, 0, none⟩ (by kernel_rfl) .i64 ((m : Int) - 1) (by omega) (by rw [hal]; omega), hal, hel, hsz]
  have e : ((m : Int) - 1).toNat = m - 1 := by omega
  rw [e]
  simp only [Result.andThen]
  unfold slicedAt
  rw [if_neg (by omega), Go.WideShapes.add_plain, show 0 + (m - 1) * 1 = m - 1 by omega, show 65 - (m - 1) = k + 1 by omega]

theorem conv_digs (N g m k : Nat) (W : World) (h : k + m = 65) (hk : k ≤ 15) (hI : FInv N g (k + 1) W) : (convert 58 9 (.slice (some ⟨g, m - 1, none⟩) (k + 1) (k + 1))).run Tryd.prog W = .ok (.string ⟨(digs N k).toArray⟩) W := by
  have := run_convert_bytes_back (P := Tryd.prog) W 58 9 5 ⟨g, m - 1, none⟩ (k + 1) (digs N k) Tryd.underlying58 Tryd.underlying5 Tryd.underlying9 (fun j hj => by
    rw [digs_at N k j hj]
    rw [digs_length] at hj
    have h1 := hI.1 (k - j) (by omega)
    have e : (⟨g, m - 1, none⟩ : Addr).add j = ⟨g, 64 - (k - j), none⟩ := by rw [Go.WideShapes.add_plain, show m - 1 + j = 64 - (k - j) by omega]
    rw [e, h1])
  rw [digs_length] at this
  exact this

set_option maxRecDepth 100000 in
set_option maxHeartbeats 1600000 in
theorem fb16 (N : Nat) (w : World) (ht : Tabs w) (hN : N < 18446744073709551616) : Calls Tryd.prog 28 #[.slice none 0 0, .int .u64 N, .int .i64 16, .bool false, .bool false] w fun x w' => ∃ k, N / 16 ^ k < 16 ∧ (k = 0 ∨ 16 ^ k ≤ N) ∧ x = .returned (.tuple #[.slice none 0 0, .string ⟨(digs N k).toArray⟩]) ∧ Below w.heap.size w w' := by
  have HT : Hid (∀ o, Tabs (w.alloc o)) := fun o => ht.next ((Below.refl _ _).alloc (Nat.le_refl _) _)
  have HS : Hid (_) := FInv.start N w
  go_enter Tryd.func28, Tryd.ntmps28
  go_wp2_with (first | (go_at_call 39; refine (tz16 _ (HT.out _)).mono ?_; rintro e w1 ⟨rfl, rfl⟩) | (go_at_call 38; refine (pow16 _).mono ?_; rintro e w1 ⟨rfl, rfl⟩))
  clear ht HT
  go_loopw [1, 13] (fun q i wr => ∃ k u m : Nat, 50 ≤ m ∧ m ≤ 65 ∧ Hid (k + m = 65) ∧ i = .int .i64 (m : Int) ∧ q = .int .u64 u ∧ Hid (u = N / 16 ^ k) ∧ Hid (k = 0 ∨ 16 ^ k ≤ N) ∧ u < 18446744073709551616 ∧ FInv N w.heap.size k wr ∧ Below w.heap.size w wr) (fun q _ _ => (intOf q).toNat)
  case atStart => exact ⟨0, N, 65, by omega, by omega, rfl, rfl, rfl, (by show N = _; simp), .inl rfl, hN, HS.out, (Below.refl _ _).alloc (Nat.le_refl _) _⟩
  case round =>
    obtain ⟨k, u, m, hm0, hm1, HM, rfl, rfl, HU, HG, hu, hI, hb⟩ := hrel
    have HI : Hid (FInv N w.heap.size k wr) := hI
    have hmk := HM.out
    obtain ⟨v, hv⟩ := hI.2.1 (m - 1) (by omega)
    have hfz := hI.2.2 (m - 1)
    clear hI hmk
    by_cases hlt : 16 ≤ u
    · have h15 := pow15 N k u hN HU.out hlt
      obtain ⟨d, hd0⟩ : ∃ d, d = u % 16 := ⟨_, rfl⟩
      have hd1 : d < 16 := by omega
      have hand : bits BinOp.and IntKind.u64 (u : Int) 15 = (d : Int) := by rw [hd0]; exact and15 u hu
      have HD : Hid (d = u % 16) := hd0
      clear hd0
      go_wp2
      go_roundw
      case rel =>
        have hmk := HM.out
        refine ⟨k + 1, u / 16, m - 1, by omega, by omega, (by show _ = _; omega), by go_num, by go_num, div16 N k u HU.out, .inr ?_, by omega, ?_, hb.setCell (Nat.le_refl _) _⟩
        · have h2 := HU.out
          rw [Nat.pow_succ]
          have h3 : u * 16 ^ k ≤ N := by rw [h2]; exact Nat.div_mul_le_self _ _
          have h4 : 16 * 16 ^ k ≤ u * 16 ^ k := Nat.mul_le_mul_right _ hlt
          omega
        · have e : m - 1 = 64 - k := by omega
          rw [e]
          refine HI.out.step (by omega) _ ?_
          rw [← HU.out, ← HD.out]
          exact congrArg (fun n : Nat => (n : Int)) (lit_hd d (by omega) hd1)
      case measure => simp [intOf]; omega
    · have hk15 : k ≤ 15 := by have := HM.out; omega
      have hsl := slice84 w.heap.size m k HM.out hk15
      have HDG : Hid (N / 16 ^ k % 16 = u) := by show _ = _; rw [← HU.out]; omega
      have HIS : Hid (FInv N w.heap.size (k + 1) (wr.setCell ⟨w.heap.size, m - 1, none⟩ (.int .u8 ((lit36[u]'(by show u < 36; omega)).toNat : Int)))) := by
        have e : m - 1 = 64 - k := by have := HM.out; omega
        show FInv _ _ _ _
        rw [e]
        refine HI.out.step (by omega) _ ?_
        rw [HDG.out]
        exact congrArg (fun n : Nat => (n : Int)) (lit_hd u (by omega) (by omega))
      have hcv := conv_digs N w.heap.size m k _ HM.out hk15 HIS.out
      unfold lit36 at hcv
      have HK : Hid (N / 16 ^ k < 16) := by show _ < _; rw [← HU.out]; omega
      go_wp2
      go_ret2
      exact ⟨k, HK.out, HG.out, rfl, hb.setCell (Nat.le_refl _) _⟩

/-- The digits of a number, sixteen's, the highest first, no noughts ahead. -/
def hexL (n : Nat) : List UInt8 := if _h : n < 16 then [hd n] else hexL (n / 16) ++ [hd (n % 16)]

theorem digs_snoc (N : Nat) : ∀ k, digs N (k + 1) = digs (N / 16) k ++ [hd (N % 16)]
  | 0 => by simp [digs]
  | k + 1 => by
    rw [digs, digs_snoc N k]
    have e : N / 16 ^ (k + 1 + 1) = N / 16 / 16 ^ (k + 1) := by rw [Nat.div_div_eq_div_mul, Nat.pow_succ 16 (k + 1), Nat.mul_comm]
    rw [e]
    rfl

theorem hexL_digs : ∀ (k N : Nat), N / 16 ^ k < 16 → (k = 0 ∨ 16 ^ k ≤ N) → digs N k = hexL N
  | 0, N, h, _ => by
    simp at h
    unfold hexL
    rw [dif_pos h]
    simp [digs, Nat.mod_eq_of_lt h]
  | k + 1, N, h, h2 => by
    have h2 : 16 ^ (k + 1) ≤ N := by omega
    rw [Nat.pow_succ] at h2
    have hp : 1 ≤ 16 ^ k := Nat.pow_pos (by omega)
    have hN : ¬ N < 16 := by omega
    unfold hexL
    rw [dif_neg hN, digs_snoc]
    rw [hexL_digs k (N / 16) (by rw [Nat.div_div_eq_div_mul, Nat.mul_comm, ← Nat.pow_succ]; exact h) (.inr (by rw [Nat.le_div_iff_mul_le (by omega)]; exact h2))]

set_option maxHeartbeats 400000 in
theorem format_any (N : Nat) (w : World) (ht : Tabs w) (hN : N < 18446744073709551616) : Calls Tryd.prog 14 #[.int .u64 N, .int .i64 16] w fun x w' => x = .returned (.string ⟨(hexL N).toArray⟩) ∧ Below w.heap.size w w' := by
  go_enter Tryd.func14, Tryd.ntmps14
  go_wp2_with (first | (go_at_call 28; refine (fb16 _ _ ht hN).mono ?_; rintro e w1 ⟨k, hk1, hk2, rfl, hb⟩) | go_in)
  have e := hexL_digs k N hk1 hk2
  go_ret
  exact ⟨by rw [← e]; rfl, hb⟩

/-- The text of a fault, as bytes. -/
def textL (c : Int) (a : Nat) (n : List UInt8) : List UInt8 :=
  (word c).data.toList ++ (if n = [] then [] else 32 :: n) ++ (if a = 0 then [] else [32, 97, 116, 32, 48, 120] ++ hexL a)

theorem hexL_len : ∀ (k N : Nat), N < 16 ^ (k + 1) → (hexL N).length ≤ k + 1
  | 0, N, h => by
    unfold hexL
    rw [dif_pos (by simpa using h)]
    simp
  | k + 1, N, h => by
    unfold hexL
    split
    · simp
    · rw [List.length_append]
      have := hexL_len k (N / 16) (by rw [Nat.div_lt_iff_lt_mul (by omega), ← Nat.pow_succ]; exact h)
      simp; omega
theorem hexL_le (N : Nat) (h : N < 18446744073709551616) : (hexL N).length ≤ 16 := by
  refine hexL_len 15 N ?_
  have : (16 : Nat) ^ 16 = 18446744073709551616 := by decide
  omega
theorem word_size (c : Int) : (word c).size ≤ 8 := by
  unfold word
  split
  · unfold wordAt
    rename_i h
    have h2 : ∀ i, i < 27 → (wordsL.getD i []).length ≤ 8 := by decide
    have := h2 c.toNat (by omega)
    simpa [ByteArray.size] using this
  · decide

theorem toList_eq (n : ByteArray) : n.toList = n.data.toList := ByteArray.toList_eq n
theorem bytes_eq {a b : ByteArray} (h : a.data.toList = b.data.toList) : a = b := by
  apply ByteArray.ext; exact Array.toList_inj.1 h

theorem text_eq (c : Int) (a : Nat) (n s : ByteArray) (x y : Bool) (hx : (!n.toList.isEmpty) = x) (hy : ((a : Int) != 0) = y)
    (hs : s.data.toList = (word c).data.toList ++ (if x then 32 :: n.data.toList else []) ++ (if y then [32, 97, 116, 32, 48, 120] ++ hexL a else [])) : s = ⟨(textL c a n.data.toList).toArray⟩ := by
  apply bytes_eq
  rw [hs]
  show _ = textL c a n.data.toList
  unfold textL
  congr 1
  · congr 1
    rw [toList_eq] at hx
    cases hl : n.data.toList with
    | nil => rw [hl] at hx; subst hx; simp
    | cons b l => rw [hl] at hx; subst hx; simp
  · by_cases ha : a = 0
    · subst ha; subst hy; simp
    · have : ((a : Int) != 0) = true := by simp [ha]
      rw [this] at hy; subst hy; simp [ha]

set_option maxHeartbeats 800000 in
theorem text_any (c : Int) (a : Nat) (n : ByteArray) (w : World) (ht : Tabs w) (ha : a < 18446744073709551616) (hn : n.size ≤ 1000) :
    Calls Tryd.prog 5 #[.agg #[.int .i64 c, .int .u64 a, .string n]] w fun x w' => x = .returned (.string ⟨(textL c a n.data.toList).toArray⟩) ∧ Below w.heap.size w w' := by
  have HT : Hid (∀ o, Tabs (w.alloc o)) := fun o => ht.next ((Below.refl _ _).alloc (Nat.le_refl _) _)
  have hws := word_size c
  have hxl := hexL_le a ha
  obtain ⟨wd, hwd⟩ : ∃ wd, wd = word c := ⟨_, rfl⟩
  obtain ⟨hx, hhx⟩ : ∃ hx : ByteArray, hx = ⟨(hexL a).toArray⟩ := ⟨_, rfl⟩
  have hxs : hx.size ≤ 16 := by rw [hhx]; show (hexL a).toArray.size ≤ 16; simpa using hxl
  have W20 : ∀ w, Tabs w → Calls Tryd.prog 7 #[.int .i64 c] w fun x w' => x = .returned (.string wd) ∧ w' = w := by rw [hwd]; exact fun w h => word_any c w h
  have F21 : ∀ w, Tabs w → Calls Tryd.prog 14 #[.int .u64 a, .int .i64 16] w fun x w' => x = .returned (.string hx) ∧ Below w.heap.size w w' := by rw [hhx]; exact fun w h => format_any a w h ha
  rw [← hwd] at hws
  have HW : Hid (wd = word c) := hwd
  have HX : Hid (hx = ⟨(hexL a).toArray⟩) := hhx
  clear hwd hhx hxl
  go_enter Tryd.func5, Tryd.ntmps5
  go_wp2_with (first | (go_at_call 7; refine (W20 _ (HT.out _)).mono ?_; rintro e w1 ⟨rfl, rfl⟩) | (go_at_call 14; refine (F21 _ (HT.out _)).mono ?_; rintro e w1 ⟨rfl, hb⟩))
  · go_ret
    exact ⟨ret_str (text_eq c a n _ true true ‹_› ‹_› (by rw [HW.out, HX.out]; simp)), ((Below.refl _ w).alloc (Nat.le_refl _) _).trans (by rename_i hb; exact hb.mono (by simp))⟩
  · go_ret
    exact ⟨ret_str (text_eq c a n _ true false ‹_› ‹_› (by rw [HW.out]; simp)), (Below.refl _ w).alloc (Nat.le_refl _) _⟩
  · go_ret
    exact ⟨ret_str (text_eq c a n _ false true ‹_› ‹_› (by rw [HW.out, HX.out]; simp)), ((Below.refl _ w).alloc (Nat.le_refl _) _).trans (by rename_i hb; exact hb.mono (by simp))⟩
  · go_ret
    exact ⟨ret_str (text_eq c a n _ false false ‹_› ‹_› (by rw [HW.out]; simp)), (Below.refl _ w).alloc (Nat.le_refl _) _⟩
end Go.Proofs.YtjcefpeicbekhaaDoor
