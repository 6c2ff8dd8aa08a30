/-
  Relocations one behind the other, as bytes and as cells; the first one that is wrong. No condition.
-/
import Derived.Test.YtghbkjdjginfjaaB1
namespace Go.Proofs.Ytghbkjdjginfjaa
open Go.RowKit
set_option linter.unusedVariables false

theorem relB_list (a k s d : Nat) : (relB a k s d).data.toList = enc a 8 ++ (enc k 4 ++ (enc s 4 ++ enc d 8)) := by
  unfold relB
  simp
theorem extract_list (s : ByteArray) (i j : Nat) : (s.extract i j).data.toList = (s.data.toList.drop i).take (j - i) := by
  rw [Lib.extract_data]
theorem part_of (a m c : List UInt8) (s : ByteArray) (h : s.data.toList = a ++ (m ++ c)) : (s.extract a.length (a.length + m.length)).data.toList = m := by
  rw [extract_list, h, List.drop_left, Nat.add_sub_cancel_left, List.take_left]
theorem num_enc (s : ByteArray) (x m : Nat) (h : s.data.toList = enc x m) (hm : m ≤ 8) (hx : x < 256 ^ m) : num s = (x : Int) := by
  have hs : s.size = m := by
    have : s.data.toList.length = m := by rw [h, enc_length]
    simpa using this
  rw [num_small s (by omega), h, dec_enc, Nat.mod_eq_of_lt hx]
theorem relB_n0 (a k s d : Nat) (h : a < 18446744073709551616) : num ((relB a k s d).extract 0 8) = (a : Int) := by
  refine num_enc _ a 8 ?_ (by omega) (by omega)
  have := part_of [] (enc a 8) _ (relB a k s d) (by rw [relB_list]; rfl)
  simpa [enc_length] using this
theorem relB_n1 (a k s d : Nat) (h : k < 4294967296) : num ((relB a k s d).extract 8 12) = (k : Int) := by
  refine num_enc _ k 4 ?_ (by omega) (by omega)
  have := part_of (enc a 8) (enc k 4) _ (relB a k s d) (by rw [relB_list])
  simpa [enc_length] using this
theorem relB_n2 (a k s d : Nat) (h : s < 4294967296) : num ((relB a k s d).extract 12 16) = (s : Int) := by
  refine num_enc _ s 4 ?_ (by omega) (by omega)
  have := part_of (enc a 8 ++ enc k 4) (enc s 4) (enc d 8) (relB a k s d) (by rw [relB_list]; simp)
  simpa [enc_length] using this
theorem relB_n3 (a k s d : Nat) (h : d < 18446744073709551616) : num ((relB a k s d).extract 16 24) = (d : Int) := by
  refine num_enc _ d 8 ?_ (by omega) (by omega)
  have := part_of (enc a 8 ++ (enc k 4 ++ enc s 4)) (enc d 8) [] (relB a k s d) (by rw [relB_list]; simp)
  simpa [enc_length] using this

/-- What a relocation of the statement is made of. -/
structure E4 where
  a : Nat
  k : Nat
  s : Nat
  d : Nat
def E4.bytes (x : E4) : ByteArray := relB x.a x.k x.s x.d
def E4.rl (x : E4) : Rl := ((x.a : Int), (x.k : Int), (x.s : Int), (x.d : Int))
def E4.ok (x : E4) : Prop := x.a < 18446744073709551616 ∧ x.a % 8 = 0 ∧ 2 ≤ x.k ∧ x.k ≤ 5 ∧ (x.k = 3 → x.s = 0) ∧ x.s < 8 ∧ x.d < 18446744073709551616
def Bs (f : Nat → E4) : Nat → ByteArray
  | 0 => ⟨#[]⟩
  | k + 1 => Bs f k ++ (f k).bytes
def Cs (f : Nat → E4) : Nat → List Value
  | 0 => []
  | k + 1 => Cs f k ++ rlc (f k).rl

theorem bytes_rel (x : E4) (h : x.ok) : relF x.bytes 8 = (x.rl, 0) := by
  obtain ⟨h1, h2, h3, h4, h5, h6, h7⟩ := h
  unfold relF E4.bytes
  rw [relB_n0 _ _ _ _ h1, relB_n1 _ _ _ _ (by omega), relB_n2 _ _ _ _ (by omega), relB_n3 _ _ _ _ h7]
  unfold relN
  rw [if_neg (by omega), if_neg (by omega), if_neg (by omega), if_neg (by omega)]
  rfl
theorem ba_ext {s t : ByteArray} (h : s.data.toList = t.data.toList) : s = t := by
  obtain ⟨⟨a⟩⟩ := s
  obtain ⟨⟨b⟩⟩ := t
  simp only at h
  rw [h]
theorem bytes_len (x : E4) : x.bytes.data.toList.length = 24 := by
  have h := relB_size x.a x.k x.s x.d
  show (relB x.a x.k x.s x.d).data.toList.length = 24
  rw [← h]; simp
theorem Bs_list (f : Nat → E4) (k : Nat) : (Bs f (k + 1)).data.toList = (Bs f k).data.toList ++ (f k).bytes.data.toList := by
  show (Bs f k ++ (f k).bytes).data.toList = _
  simp
theorem Bs_len (f : Nat → E4) : ∀ k, (Bs f k).data.toList.length = k * 24
  | 0 => rfl
  | k + 1 => by rw [Bs_list, List.length_append, Bs_len f k, bytes_len]; omega
theorem Bs_size (f : Nat → E4) (k : Nat) : (Bs f k).size = 24 * k := by
  have h := Bs_len f k
  have e : (Bs f k).data.toList.length = (Bs f k).size := by simp
  omega
theorem Bs_split (f : Nat → E4) : ∀ (n k : Nat), k < n → ∃ R, (Bs f n).data.toList = (Bs f k).data.toList ++ ((f k).bytes.data.toList ++ R)
  | 0, k, h => absurd h (by omega)
  | n + 1, k, h => by
    by_cases e : k = n
    · subst e
      exact ⟨[], by rw [Bs_list, List.append_nil]⟩
    · obtain ⟨R, hR⟩ := Bs_split f n k (by omega)
      exact ⟨R ++ (f n).bytes.data.toList, by rw [Bs_list, hR]; simp⟩
theorem ext_at {s : ByteArray} {f : Nat → E4} {j : Nat} {e R : List UInt8} (h : s.data.toList = (Bs f j).data.toList ++ (e ++ R)) (he : e.length = 24) : (s.extract (j * 24) ((j + 1) * 24)).data.toList = e := by
  have := part_of _ e R s h
  rw [Bs_len, he, show j * 24 + 24 = (j + 1) * 24 by omega] at this
  exact this
theorem Bs_at (f : Nat → E4) (n j : Nat) (h : j < n) : (Bs f n).extract (j * 24) ((j + 1) * 24) = (f j).bytes := by
  obtain ⟨R, hR⟩ := Bs_split f n j h
  exact ba_ext (ext_at hR (bytes_len _))

theorem each_ok (f : Nat → E4) (s : ByteArray) (n : Nat) (hf : ∀ j, j < n → (f j).ok) (hs : ∀ j, j < n → s.extract (j * 24) ((j + 1) * 24) = (f j).bytes) : ∀ x ∈ eachL s 24 n, (relF x.2 8).2 = 0 := by
  intro x hx
  unfold eachL at hx
  obtain ⟨j, hj, rfl⟩ := List.mem_map.1 hx
  have hj' := List.mem_range.1 hj
  show (relF (s.extract (j * 24) ((j + 1) * 24)) 8).2 = 0
  rw [hs j hj', bytes_rel _ (hf j hj')]
theorem each_cells (f : Nat → E4) (s : ByteArray) : ∀ n, (∀ j, j < n → (f j).ok) → (∀ j, j < n → s.extract (j * 24) ((j + 1) * 24) = (f j).bytes) → cellsL 8 (eachL s 24 n) = Cs f n
  | 0, _, _ => rfl
  | n + 1, hf, hs => by
    rw [eachL_succ, cellsL_snoc, each_cells f s n (fun j hj => hf j (by omega)) (fun j hj => hs j (by omega))]
    show _ ++ rlc (relF (s.extract (n * 24) ((n + 1) * 24)) 8).1 = _
    rw [hs n (by omega), bytes_rel _ (hf n (by omega))]
    rfl

/-- The bytes with one relocation that is of no kind. -/
def badB : ByteArray := relB 8 7 0 0
theorem badB_size : badB.size = 24 := relB_size _ _ _ _
theorem badB_rel : (relF badB 8).2 = 22 := by
  unfold relF badB
  rw [relB_n0 _ _ _ _ (by omega), relB_n1 _ _ _ _ (by omega), relB_n2 _ _ _ _ (by omega), relB_n3 _ _ _ _ (by omega)]
  rfl
def wrongB (f : Nat → E4) (n k : Nat) : ByteArray := ((Bs f n).extract 0 (24 * k) ++ badB) ++ (Bs f n).extract (24 * k + 24) (24 * n)
theorem wrong_list (f : Nat → E4) (n k : Nat) (h : k < n) : ∃ R, (wrongB f n k).data.toList = (Bs f k).data.toList ++ (badB.data.toList ++ R) := by
  obtain ⟨R, hR⟩ := Bs_split f n k h
  refine ⟨((Bs f n).extract (24 * k + 24) (24 * n)).data.toList, ?_⟩
  have hl := Bs_len f k
  have e : (wrongB f n k).data.toList = ((Bs f n).extract 0 (24 * k)).data.toList ++ (badB.data.toList ++ ((Bs f n).extract (24 * k + 24) (24 * n)).data.toList) := by
    unfold wrongB
    simp
  rw [e, extract_list (Bs f n) 0, hR]
  have t1 : List.take (24 * k - 0) (List.drop 0 ((Bs f k).data.toList ++ ((f k).bytes.data.toList ++ R))) = (Bs f k).data.toList := by
    rw [List.drop_zero, show 24 * k - 0 = (Bs f k).data.toList.length by omega, List.take_left]
  rw [t1]
theorem wrong_size (f : Nat → E4) (n k : Nat) (h : k < n) : (wrongB f n k).size = 24 * n := by
  unfold wrongB
  simp only [ByteArray.size_append, ByteArray.size_extract, Bs_size, badB_size]
  omega
theorem wrong_at (f : Nat → E4) (n k : Nat) (h : k < n) (j : Nat) (hj : j < k) : (wrongB f n k).extract (j * 24) ((j + 1) * 24) = (f j).bytes := by
  obtain ⟨R, hw⟩ := wrong_list f n k h
  obtain ⟨R', hR'⟩ := Bs_split f k j hj
  rw [hR'] at hw
  exact ba_ext (ext_at (f := f) (e := (f j).bytes.data.toList) (R := R' ++ (badB.data.toList ++ R)) (by rw [hw]; simp) (bytes_len _))
theorem wrong_rel (f : Nat → E4) (n k : Nat) (h : k < n) : (relF ((wrongB f n k).extract (k * 24) ((k + 1) * 24)) 8).2 = 22 := by
  obtain ⟨R, hw⟩ := wrong_list f n k h
  have hb : badB.data.toList.length = 24 := by
    have := badB_size
    rw [← this]; simp
  rw [ba_ext (ext_at (s := wrongB f n k) (f := f) (j := k) hw hb), badB_rel]

theorem Cs_len (f : Nat → E4) : ∀ n, (Cs f n).length = n * 4
  | 0 => rfl
  | n + 1 => by
    show (Cs f n ++ rlc (f n).rl).length = _
    rw [List.length_append, Cs_len f n]
    simp [rlc]
    omega
theorem Cs_at (f : Nat → E4) : ∀ (n i : Nat) (hi : i < n) (j : Nat) (hj : j < 4), (Cs f n)[i * 4 + j]? = (rlc (f i).rl)[j]?
  | 0, i, hi, _, _ => absurd hi (by omega)
  | n + 1, i, hi, j, hj => by
    show (Cs f n ++ rlc (f n).rl)[i * 4 + j]? = _
    by_cases h : i = n
    · subst h
      rw [List.getElem?_append_right (by rw [Cs_len]; omega), Cs_len]
      rw [show i * 4 + j - i * 4 = j by omega]
    · rw [List.getElem?_append_left (by rw [Cs_len]; omega)]
      exact Cs_at f n i (by omega) j hj
theorem row_e4 {W : World} {base n : Nat} {t : TypeId} {v : Value} {f : Nat → E4} (h : W.ownsRow base t 4 v n (Cs f n)) (hn : 0 < n) : ∃ g cap, v = .slice (some ⟨g, 0, none⟩) n cap ∧ n ≤ cap ∧ cap ≤ 9223372036854775807 ∧ ∀ i, i < n → RlO W g (i * 4) (f i).rl := by
  rcases h.2 with ⟨rfl, h1⟩ | ⟨g, cap, cur, rfl, hb, hg, h2, h3, _⟩
  · omega
  · refine ⟨g, cap, rfl, h2, by unfold maxLen at h3; omega, fun i hi => ?_⟩
    have k : ∀ j, j < 4 → W.cell? ⟨g, i * 4 + j, none⟩ = (rlc (f i).rl)[j]? := fun j hj => (h.cellAt (i * 4 + j) (by omega)).trans (Cs_at f n i hi j hj)
    exact ⟨k 0 (by omega), k 1 (by omega), k 2 (by omega), k 3 (by omega)⟩

theorem eachL_pre (b : ByteArray) : ∀ (n k : Nat), k ≤ n → eachL b 24 k <+: eachL b 24 n
  | 0, k, h => by obtain rfl : k = 0 := by omega
                  exact List.prefix_refl _
  | n + 1, k, h => by
    by_cases e : k = n + 1
    · subst e
      exact List.prefix_refl _
    · rw [eachL_succ]
      exact (eachL_pre b n k (by omega)).trans (List.prefix_append _ _)
theorem read_bad (b : ByteArray) (n k : Nat) (c : Int) (w : World) (hb : b.size = 24 * n) (hn : n ≤ 256) (hk : k < n) (hs : ∀ x ∈ eachL b 24 k, (relF x.2 8).2 = 0) (hc : (relF (b.extract (k * 24) ((k + 1) * 24)) 8).2 = c) (h0 : c ≠ 0) :
    Calls Try.prog 9 #[.string b, .int .i64 8] w fun e w' => e = .returned (.tuple #[.slice none 0 0, flt c ((k : Int) * 24)]) ∧ Below w.heap.size w w' := by
  have e0 : b.size / 24 = n := by omega
  have hpre : eachL b 24 k ++ [(k, b.extract (k * 24) ((k + 1) * 24))] <+: eachL b 24 n := by
    have h1 : eachL b 24 (k + 1) = eachL b 24 k ++ [(k, b.extract (k * 24) ((k + 1) * 24))] := eachL_succ _ _ _
    rw [← h1]
    exact eachL_pre b n (k + 1) (by omega)
  refine (read_any b 8 w (by omega) (by omega) (by omega)).mono ?_
  rintro e w' ⟨⟨g, _⟩ | ⟨_, g, _⟩ | ⟨_, _, ⟨v, rfl, _, g⟩ | ⟨q, x, g1, g2, g3, rfl⟩⟩, hB⟩
  · omega
  · omega
  · rw [e0] at g
    exact absurd (hc.symm.trans (g (k, b.extract (k * 24) ((k + 1) * 24)) (hpre.subset (by simp)))) h0
  · rw [e0] at g1
    obtain rfl := first_one (fun x => (relF x.2 8).2 = 0) _ _ _ _ _ hpre g1 hs g2 (fun h => h0 (hc.symm.trans h)) g3
    exact ⟨by rw [hc], hB⟩

theorem reads_back (f : Nat → E4) (n : Nat) (w : World) (h0 : 0 < n) (hn : n ≤ 30) (hf : ∀ j, j < n → (f j).ok) :
    Calls Try.prog 9 #[.string (Bs f n), .int .i64 8] w fun e w' => ∃ g cap, e = .returned (.tuple #[.slice (some ⟨g, 0, none⟩) n cap, flt 0 0]) ∧ (n ≤ cap ∧ cap ≤ 9223372036854775807) ∧ Hid (∀ i, i < n → RlO w' g (i * 4) (f i).rl) ∧ Below w.heap.size w w' := by
  have hs := each_ok f (Bs f n) n hf (fun j hj => Bs_at f n j hj)
  have hc := each_cells f (Bs f n) n hf (fun j hj => Bs_at f n j hj)
  refine (read_ok (Bs f n) 8 n w (by omega) (by omega) (Bs_size f n) (by omega) hs).mono ?_
  rintro e w' ⟨v, rfl, hr, hb⟩
  rw [hc] at hr
  obtain ⟨g, cap, rfl, h1, h2, h3⟩ := row_e4 hr h0
  exact ⟨g, cap, rfl, ⟨h1, h2⟩, h3, hb⟩

theorem reads_wrong (f : Nat → E4) (n k o : Nat) (w : World) (hn : n ≤ 30) (hk : k < n) (ho : 24 * k = o) (hf : ∀ j, j < n → (f j).ok) :
    Calls Try.prog 9 #[.string (((Bs f n).extract 0 o ++ badB) ++ (Bs f n).extract (o + 24) (Bs f n).size), .int .i64 8] w fun e w' => e = .returned (.tuple #[.slice none 0 0, flt 22 (o : Int)]) ∧ Below w.heap.size w w' := by
  subst ho
  rw [Bs_size]
  refine (read_bad (wrongB f n k) n k 22 w (wrong_size f n k hk) (by omega) hk (each_ok f _ k (fun j hj => hf j (by omega)) (fun j hj => wrong_at f n k hk j hj)) (wrong_rel f n k hk) (by omega)).mono ?_
  rintro e w' ⟨rfl, hb⟩
  exact ⟨by rw [show ((24 * k : Nat) : Int) = (k : Int) * 24 by omega], hb⟩

theorem n_of (count : Int) (k : Nat) (hk0 : 0 < k) (hk : k ≤ 30) : ∃ n : Nat, (wrap64 (count.tmod (k : Int) + (k : Int))).tmod (k : Int) = (n : Int) ∧ n < k := by
  have h1 := Int.tmod_lt_of_pos count (show (0 : Int) < (k : Int) by omega)
  have h2 : -(k : Int) < count.tmod (k : Int) := by
    have := Int.tmod_lt_of_pos (-count) (show (0 : Int) < (k : Int) by omega)
    rw [Int.neg_tmod] at this
    omega
  generalize count.tmod (k : Int) = r at *
  have e : wrap64 (r + (k : Int)) = r + k := by unfold wrap64; omega
  rw [e, Int.tmod_eq_emod_of_nonneg (by omega)]
  have h3 := Int.emod_nonneg (r + k) (show (k : Int) ≠ 0 by omega)
  have h4 := Int.emod_lt_of_pos (r + k) (show (0 : Int) < (k : Int) by omega)
  exact ⟨((r + k) % (k : Int)).toNat, by omega, by omega⟩
end Go.Proofs.Ytghbkjdjginfjaa
