/-
  Layer 13: what Read and the document's Read answer, for any bytes.
-/
import Derived.Test.YtffmkkfacemchaaR1
namespace Go.Proofs.Ytffmkkfacemchaa
open Go.RowKit
set_option linter.unusedVariables false

theorem enc_dec : ∀ l : List UInt8, enc (dec l) l.length = l
  | [] => rfl
  | x :: l => by
    have h1 : dec (x :: l) = x.toNat + 256 * dec l := rfl
    have hx := x.toNat_lt
    have h2 : (x.toNat + 256 * dec l) % 256 = x.toNat := by omega
    have h3 : (x.toNat + 256 * dec l) / 256 = dec l := by omega
    show UInt8.ofNat (dec (x :: l) % 256) :: enc (dec (x :: l) / 256) l.length = x :: l
    rw [h1, h2, h3, enc_dec l]
    simp
theorem enc_num (s : ByteArray) (h : s.size ≤ 8) : enc (num s).toNat s.size = s.data.toList := by
  rw [num_small s h]
  have e : s.size = s.data.toList.length := rfl
  rw [e]
  exact enc_dec _
theorem ext_list (s : ByteArray) (a b : Nat) : (s.extract a b).data.toList = (s.data.toList.drop a).take (b - a) := by
  rw [ByteArray.data_extract, Array.toList_extract]
theorem ext_app (s : ByteArray) (a m c : Nat) (h1 : a ≤ m) (h2 : m ≤ c) : (s.extract a c).data.toList = (s.extract a m).data.toList ++ (s.extract m c).data.toList := by
  rw [ext_list, ext_list, ext_list]
  have e : s.data.toList.drop m = (s.data.toList.drop a).drop (m - a) := by rw [List.drop_drop]; congr 1; omega
  rw [e, show c - a = (m - a) + (c - m) by omega]
  exact List.take_add
theorem enc4 (b : ByteArray) (p : Nat) (x : Int) (hx : num (b.extract p (p + 4)) = x) (h : p + 4 ≤ b.size) : enc x.toNat 4 = (b.extract p (p + 4)).data.toList := by
  have hs : (b.extract p (p + 4)).size = 4 := by simp; omega
  have := enc_num (b.extract p (p + 4)) (by omega)
  rw [hs, hx] at this
  exact this
theorem encL_ext (b : ByteArray) (f : Nat → Nat) (p : Nat) : ∀ k, (∀ j, j < k → f j = (num (b.extract (p + 4 * j) (p + 4 * j + 4))).toNat) → p + 4 * k ≤ b.size → encL f k = (b.extract p (p + 4 * k)).data.toList
  | 0, _, _ => by rw [ext_list]; simp [encL]
  | k + 1, hf, h => by
    rw [encL_succ, encL_ext b f p k (fun j hj => hf j (by omega)) (by omega), ext_app b p (p + 4 * k) (p + 4 * (k + 1)) (by omega) (by omega)]
    congr 1
    have := enc4 b (p + 4 * k) _ rfl (by omega)
    rw [← hf k (by omega)] at this
    rw [this, show p + 4 * (k + 1) = p + 4 * k + 4 by omega]
theorem put_read (b : ByteArray) (n m : Nat) (e0 : num (b.extract 0 4) = (n : Int)) (e1 : num (b.extract 4 8) = (m : Int)) (hl : 8 + 4 * n + 4 * m ≤ b.size) :
    (⟨(putL (vN b) (fun j => vN b (n + j)) n m).toArray⟩ : ByteArray) = b.extract 0 (8 + 4 * n + 4 * m) := by
  have h : putL (vN b) (fun j => vN b (n + j)) n m = (b.extract 0 (8 + 4 * n + 4 * m)).data.toList := by
    unfold putL putH
    have x0 := enc4 b 0 _ e0 (by omega)
    have x1 := enc4 b 4 _ e1 (by omega)
    rw [Int.toNat_natCast] at x0 x1
    rw [encL_ext b (vN b) 8 n (fun j _ => by unfold vN; rw [show 12 + 4 * j = 8 + 4 * j + 4 by omega]) (by omega),
      encL_ext b (fun j => vN b (n + j)) (8 + 4 * n) m (fun j _ => by show vN b (n + j) = _; unfold vN; rw [show 8 + 4 * (n + j) = 8 + 4 * n + 4 * j by omega, show 12 + 4 * (n + j) = 8 + 4 * n + 4 * j + 4 by omega]) (by omega), x0, x1,
      ext_app b 0 (8 + 4 * n) (8 + 4 * n + 4 * m) (by omega) (by omega), ext_app b 0 8 (8 + 4 * n) (by omega) (by omega), ext_app b 0 4 8 (by omega) (by omega)]
  rw [h]

/-- The bytes are wrong, and how. -/
def Wrong (b : ByteArray) (c a : Int) : Prop :=
  (b.size < 8 ∧ c = 2 ∧ a = 0) ∨
  (8 ≤ b.size ∧ num (b.extract 0 4) = 0 ∧ c = 4 ∧ a = 0) ∨
  (8 ≤ b.size ∧ num (b.extract 0 4) ≠ 0 ∧ (256 < num (b.extract 0 4) ∨ 256 < num (b.extract 4 8)) ∧ c = 6 ∧ a = 0) ∨
  (∃ n m : Nat, 8 ≤ b.size ∧ num (b.extract 0 4) = (n : Int) ∧ num (b.extract 4 8) = (m : Int) ∧ 0 < n ∧ n ≤ 256 ∧ m ≤ 256 ∧
    ((b.size < 8 + 4 * n + 4 * m ∧ c = 2 ∧ a = 0) ∨ (8 + 4 * n + 4 * m ≤ b.size ∧ ∃ j, j < n + m ∧ (∀ i, i < j → ¬ offN b m i) ∧ offN b m j ∧ c = 5 ∧ a = 8 + 4 * (j : Int))))
/-- .. or right. -/
def Right (b : ByteArray) (n m : Nat) : Prop :=
  8 ≤ b.size ∧ num (b.extract 0 4) = (n : Int) ∧ num (b.extract 4 8) = (m : Int) ∧ 0 < n ∧ n ≤ 256 ∧ m ≤ 256 ∧ 8 + 4 * n + 4 * m ≤ b.size ∧ (∀ i, i < n + m → ¬ offN b m i)
theorem wrong_fun {b : ByteArray} {c a c' a' : Int} (h : Wrong b c a) (h' : Wrong b c' a') : c = c' ∧ a = a' := by
  rcases h with ⟨h1, rfl, rfl⟩ | ⟨h1, h2, rfl, rfl⟩ | ⟨h1, h2, h3, rfl, rfl⟩ | ⟨n, m, h1, h2, h3, h4, h5, h6, h7⟩
  · rcases h' with ⟨g1, rfl, rfl⟩ | ⟨g1, _⟩ | ⟨g1, _⟩ | ⟨n', m', g1, _⟩
    · exact ⟨rfl, rfl⟩
    all_goals omega
  · rcases h' with ⟨g1, _⟩ | ⟨g1, g2, rfl, rfl⟩ | ⟨g1, g2, _⟩ | ⟨n', m', g1, g2, g3, g4, g7⟩
    · omega
    · exact ⟨rfl, rfl⟩
    · exact absurd h2 g2
    · clear g7
      omega
  · rcases h' with ⟨g1, _⟩ | ⟨g1, g2, _⟩ | ⟨g1, g2, g3, rfl, rfl⟩ | ⟨n', m', g1, g2, g3, g4, g5, g6, g7⟩
    · omega
    · exact absurd g2 h2
    · exact ⟨rfl, rfl⟩
    · clear g7
      omega
  · rcases h' with ⟨g1, _⟩ | ⟨g1, g2, _⟩ | ⟨g1, g2, g3, _⟩ | ⟨n', m', g1, g2, g3, g4, g5, g6, g7⟩
    · clear h7
      omega
    · clear h7
      omega
    · clear h7
      omega
    · obtain rfl : n = n' := by omega
      obtain rfl : m = m' := by omega
      rcases h7 with ⟨h7, rfl, rfl⟩ | ⟨h7, j, j1, j2, j3, rfl, rfl⟩
      · rcases g7 with ⟨g7, rfl, rfl⟩ | ⟨g7, _⟩
        · exact ⟨rfl, rfl⟩
        · omega
      · rcases g7 with ⟨g7, rfl, rfl⟩ | ⟨g7, j', k1, k2, k3, rfl, rfl⟩
        · omega
        · rcases Nat.lt_trichotomy j j' with h | rfl | h
          · exact absurd j3 (k2 j h)
          · exact ⟨rfl, rfl⟩
          · exact absurd k3 (j2 j' h)
theorem wrong_right {b : ByteArray} {c a : Int} {n m : Nat} (h : Wrong b c a) (g : Right b n m) : False := by
  obtain ⟨g1, g2, g3, g4, g5, g6, g7, g8⟩ := g
  rcases h with ⟨h1, _⟩ | ⟨h1, h2, _⟩ | ⟨h1, h2, h3, _⟩ | ⟨n', m', h1, h2, h3, h4, h5, h6, h7⟩
  · omega
  · omega
  · omega
  · obtain rfl : n = n' := by omega
    obtain rfl : m = m' := by omega
    rcases h7 with ⟨h7, _⟩ | ⟨h7, j, j1, j2, j3, _⟩
    · omega
    · exact g8 j j1 j3
theorem right_fun {b : ByteArray} {n m n' m' : Nat} (h : Right b n m) (g : Right b n' m') : n = n' ∧ m = m' := by
  obtain ⟨_, h2, h3, _⟩ := h
  obtain ⟨_, g2, g3, _⟩ := g
  omega

def TenP (w : World) (b : ByteArray) (n m : Nat) (e : Ending) (w' : World) : Prop :=
  (∃ g c a1, e = .returned (.tuple #[tbv (slv (some ⟨g, 0, none⟩) n n) (slv a1 m m), flt 0 0]) ∧ (0 < m → a1 = some ⟨g, n, none⟩) ∧ w'.ownsRow w.heap.size 51 1 (.slice (some ⟨g, 0, none⟩) (n + m) c) (n + m) (u32C (vN b) (n + m))) ∧ Below w.heap.size w w'
def ElevenP (w : World) (b : ByteArray) (n m : Nat) (e : Ending) (w' : World) : Prop :=
  (∃ x y, e = .returned (.tuple #[x, y, .int .i64 0, .int .u64 0]) ∧ w'.ownsRow w.heap.size 51 1 x n (u32C (vN b) n) ∧ w'.ownsRow w.heap.size 51 1 y m (u32C (fun j => vN b (n + j)) m)) ∧ Below w.heap.size w w'
theorem ref_wrong (b : ByteArray) (c a : Int) (w : World) (hb : b.size ≤ 9223372036854775807) (h : Wrong b c a) : Calls Try.prog 11 #[.string b] w fun e w' => e = .returned (.tuple #[.slice none 0 0, .slice none 0 0, .int .i64 c, .int .u64 a]) ∧ Below w.heap.size w w' := by
  refine (rread_any b w hb).mono ?_
  rintro e w' ⟨⟨c', a', he, hc, hw⟩ | ⟨n, m, h1, h2, h3, h4, h5, h6, h7, h8, _⟩, hbl⟩
  · obtain ⟨rfl, rfl⟩ := wrong_fun h (show Wrong b c' a' from hw)
    exact ⟨he, hbl⟩
  · exact (wrong_right h ⟨h1, h2, h3, h4, h5, h6, h7, h8⟩).elim
theorem ref_right (b : ByteArray) (n m : Nat) (w : World) (hb : b.size ≤ 9223372036854775807) (h : Right b n m) : Calls Try.prog 11 #[.string b] w (ElevenP w b n m) := by
  refine (rread_any b w hb).mono ?_
  rintro e w' ⟨⟨c', a', he, hc, hw⟩ | ⟨n', m', h1, h2, h3, h4, h5, h6, h7, h8, h9⟩, hbl⟩
  · exact (wrong_right (show Wrong b c' a' from hw) h).elim
  · obtain ⟨rfl, rfl⟩ := right_fun h ⟨h1, h2, h3, h4, h5, h6, h7, h8⟩
    exact ⟨h9, hbl⟩
theorem num4 (b : ByteArray) (p : Nat) : 0 ≤ num (b.extract p (p + 4)) ∧ num (b.extract p (p + 4)) < 4294967296 := by
  have h1 := (num_bounds (b.extract p (p + 4))).1
  have h2 := num_lt4 (b.extract p (p + 4)) (by simp; omega)
  omega
/-- Read's answer, and the document's: the same fault, or the same numbers. -/
theorem read_both (b : ByteArray) (hb : b.size ≤ 9223372036854775807) :
    (∃ c a : Int, c ≠ 0 ∧ 0 ≤ a ∧ a < 18446744073709551616 ∧ 0 ≤ c ∧ c ≤ 6 ∧ (∀ w, Calls Try.prog 10 #[.string b] w fun e w' => e = .returned (.tuple #[tbv (slv none 0 0) (slv none 0 0), flt c a]) ∧ Below w.heap.size w w') ∧
      (∀ w, Calls Try.prog 11 #[.string b] w fun e w' => e = .returned (.tuple #[.slice none 0 0, .slice none 0 0, .int .i64 c, .int .u64 a]) ∧ Below w.heap.size w w')) ∨
    (∃ n m : Nat, Right b n m ∧ (∀ w, Calls Try.prog 10 #[.string b] w (TenP w b n m)) ∧ (∀ w, Calls Try.prog 11 #[.string b] w (ElevenP w b n m))) := by
  by_cases h8 : b.size < 8
  · exact .inl ⟨2, 0, by omega, by omega, by omega, by omega, by omega, fun w => read_short b w hb h8, fun w => ref_wrong b 2 0 w hb (.inl ⟨h8, rfl, rfl⟩)⟩
  obtain ⟨x0, x1⟩ : 0 ≤ num (b.extract 0 4) ∧ num (b.extract 0 4) < 4294967296 := num4 b 0
  obtain ⟨y0, y1⟩ : 0 ≤ num (b.extract 4 8) ∧ num (b.extract 4 8) < 4294967296 := num4 b 4
  by_cases hx0 : num (b.extract 0 4) = 0
  · exact .inl ⟨4, 0, by omega, by omega, by omega, by omega, by omega, fun w => read_bad b w hb (by omega) _ _ rfl rfl x0 x1 y0 y1 4 (.inl ⟨hx0, rfl⟩), fun w => ref_wrong b 4 0 w hb (.inr (.inl ⟨by omega, hx0, rfl, rfl⟩))⟩
  by_cases hx1 : 256 < num (b.extract 0 4)
  · exact .inl ⟨6, 0, by omega, by omega, by omega, by omega, by omega, fun w => read_bad b w hb (by omega) _ _ rfl rfl x0 x1 y0 y1 6 (.inr (.inl ⟨hx0, hx1, rfl⟩)), fun w => ref_wrong b 6 0 w hb (.inr (.inr (.inl ⟨by omega, hx0, .inl hx1, rfl, rfl⟩)))⟩
  by_cases hy1 : 256 < num (b.extract 4 8)
  · exact .inl ⟨6, 0, by omega, by omega, by omega, by omega, by omega, fun w => read_bad b w hb (by omega) _ _ rfl rfl x0 x1 y0 y1 6 (.inr (.inr (.inl ⟨hx0, by omega, hy1, rfl⟩))), fun w => ref_wrong b 6 0 w hb (.inr (.inr (.inl ⟨by omega, hx0, .inr hy1, rfl, rfl⟩)))⟩
  obtain ⟨n, hn⟩ : ∃ n : Nat, num (b.extract 0 4) = (n : Int) := ⟨(num (b.extract 0 4)).toNat, by omega⟩
  obtain ⟨m, hm⟩ : ∃ m : Nat, num (b.extract 4 8) = (m : Int) := ⟨(num (b.extract 4 8)).toNat, by omega⟩
  by_cases hl : b.size < 8 + 4 * n + 4 * m
  · refine .inl ⟨2, 0, by omega, by omega, by omega, by omega, by omega, fun w => read_bad b w hb (by omega) _ _ rfl rfl x0 x1 y0 y1 2 (.inr (.inr (.inr ⟨hx0, by omega, by omega, by omega, rfl⟩))), fun w => ref_wrong b 2 0 w hb (.inr (.inr (.inr ⟨n, m, by omega, hn, hm, by omega, by omega, by omega, .inl ⟨hl, rfl, rfl⟩⟩)))⟩
  have S := fun w => read_some b n m w hb (by omega) hn hm (by omega) (by omega) (by omega) (by omega)
  by_cases hoff : ∃ j, j < n + m ∧ (∀ i, i < j → ¬ offN b m i) ∧ offN b m j
  · obtain ⟨j, j1, j2, j3⟩ := hoff
    refine .inl ⟨5, 8 + 4 * (j : Int), by omega, by omega, by omega, by omega, by omega, fun w => (S w).mono ?_, fun w => ref_wrong b _ _ w hb (.inr (.inr (.inr ⟨n, m, by omega, hn, hm, by omega, by omega, by omega, .inr ⟨by omega, j, j1, j2, j3, rfl, rfl⟩⟩)))⟩
    rintro e w' ⟨⟨g, c, a1, _, _, _, h4⟩ | ⟨j', k1, k2, k3, rfl⟩, hbl⟩
    · exact (h4 j j1 j3).elim
    · have : j = j' := by
        rcases Nat.lt_trichotomy j j' with h | h | h
        · exact absurd j3 (k2 j h)
        · exact h
        · exact absurd k3 (j2 j' h)
      subst this
      exact ⟨by rw [Int.mul_comm], hbl⟩
  · have hno : ∀ i, i < n + m → ¬ offN b m i := by
      intro i
      induction i using Nat.strongRecOn with
      | ind i ih =>
        intro hi h
        exact hoff ⟨i, hi, fun k hk => ih k hk (by omega), h⟩
    have hR : Right b n m := ⟨by omega, hn, hm, by omega, by omega, by omega, by omega, hno⟩
    refine .inr ⟨n, m, hR, fun w => (S w).mono ?_, fun w => ref_right b n m w hb hR⟩
    rintro e w' ⟨⟨g, c, a1, h1, h2, h3, h4⟩ | ⟨j', k1, k2, k3, rfl⟩, hbl⟩
    · exact ⟨⟨g, c, a1, h1, h2, h3⟩, hbl⟩
    · exact (hno j' k1 k3).elim
end Go.Proofs.Ytffmkkfacemchaa
