/-
  The walk of the statement FailTexts of layer 2: for any code, address and name it returns true and changes no cell that was there. Conditions: the package variables that it reads (Tabs, Errs), the name's length fits an int.
-/
import Derived.Test.YtjcefpeicbekhaaDoorParseT
import Derived.Test.YtjcefpeicbekhaaDoorA9
import Derived.Test.YtjcefpeicbekhaaDoorSpeaks
namespace Go.Proofs.YtjcefpeicbekhaaDoor
open Go.RowKit
set_option linter.unusedVariables false

/-- A byte that may be of a name. -/
def okB (x : UInt8) : Bool := decide (32 < x.toNat) && decide (x.toNat < 127)
def mayB (c : Int) : Bool := decide (0 ≤ c) && decide (c ≤ 26)
def flagAt (c : Int) (S : ByteArray) (k : Nat) : Bool := mayB c && (S.data.toList.take k).all okB

theorem flag_next (c : Int) (S : ByteArray) (k : Nat) (h : k < S.size) : flagAt c S (k + 1) = (flagAt c S k && okB S[k]) := by
  unfold flagAt
  have hl : k < S.data.toList.length := by simpa using h
  have e : S.data.toList.take (k + 1) = S.data.toList.take k ++ [S[k]] := by
    rw [List.take_add_one, List.getElem?_eq_getElem hl]; rfl
  rw [e, List.all_append]
  simp [Bool.and_assoc]
theorem flag_all (c : Int) (S : ByteArray) (h : flagAt c S S.size = true) : 0 ≤ c ∧ c < 27 ∧ ∀ j (h : j < S.size), 33 ≤ S[j].toNat ∧ S[j].toNat ≤ 126 := by
  unfold flagAt mayB at h
  rw [Bool.and_eq_true, Bool.and_eq_true, decide_eq_true_eq, decide_eq_true_eq] at h
  refine ⟨h.1.1, by omega, fun j hj => ?_⟩
  have hm : S[j] ∈ S.data.toList.take S.size := by
    have hl : S.data.toList.length = S.size := by simp
    rw [← hl, List.take_length]
    exact List.getElem_mem (l := S.data.toList) (by omega)
  have := List.all_eq_true.1 h.2 _ hm
  unfold okB at this
  rw [Bool.and_eq_true, decide_eq_true_eq, decide_eq_true_eq] at this
  omega

theorem textL_size (c : Int) (a : Nat) (n : ByteArray) (ha : a < 18446744073709551616) (hn : n.size ≤ 60) : (⟨(textL c a n.data.toList).toArray⟩ : ByteArray).size ≤ 1000 := by
  show (textL c a n.data.toList).toArray.size ≤ 1000
  have h1 := word_size c
  have h2 := hexL_le a ha
  have h3 : (word c).data.toList.length = (word c).size := by simp
  have h4 : n.data.toList.length = n.size := by simp
  unfold textL
  simp only [List.size_toArray, List.length_append]
  split <;> split <;> simp <;> omega

theorem ok_b (c a : Int) (n : ByteArray) (w : World) : Calls Tryd.prog 9 #[.agg #[.int .i64 c, .int .u64 a, .string n]] w fun x w' => x = .returned (.bool (c == 0)) ∧ Below w.heap.size w w' :=
  (ok_any c a n w).mono fun _ _ h => ⟨h.1, by rw [h.2]; exact (Below.refl _ w).alloc (Nat.le_refl _) _⟩

/-- The fault's box. -/
theorem fx_next {W W' : World} {X : Nat} {c : Int} {a : Nat} {S : ByteArray} (hb : Below W.heap.size W W')
    (h : W.cell? ⟨X, 0, none⟩ = some (.int .i64 c) ∧ W.cell? ⟨X, 1, none⟩ = some (.int .u64 (a : Int)) ∧ W.cell? ⟨X, 2, none⟩ = some (.string S)) :
    W'.cell? ⟨X, 0, none⟩ = some (.int .i64 c) ∧ W'.cell? ⟨X, 1, none⟩ = some (.int .u64 (a : Int)) ∧ W'.cell? ⟨X, 2, none⟩ = some (.string S) := by
  obtain ⟨c1, c2, c3⟩ := h
  exact ⟨(hb.cell (World.block_lt_of_cell? W _ c1)).trans c1, (hb.cell (World.block_lt_of_cell? W _ c2)).trans c2, (hb.cell (World.block_lt_of_cell? W _ c3)).trans c3⟩
theorem fx_new (w : World) (c : Int) (a : Nat) (S : ByteArray) :
    (w.alloc (.cells #[.int .i64 c, .int .u64 (a : Int), .string S] 26)).cell? ⟨w.heap.size, 0, none⟩ = some (.int .i64 c) ∧ (w.alloc (.cells #[.int .i64 c, .int .u64 (a : Int), .string S] 26)).cell? ⟨w.heap.size, 1, none⟩ = some (.int .u64 (a : Int)) ∧ (w.alloc (.cells #[.int .i64 c, .int .u64 (a : Int), .string S] 26)).cell? ⟨w.heap.size, 2, none⟩ = some (.string S) := by
  refine ⟨?_, ?_, ?_⟩ <;> simp [go_sem]

set_option maxRecDepth 100000 in
set_option maxHeartbeats 3200000 in
theorem texts_walk (c : Int) (a : Nat) (s : ByteArray) (w : World) (hs : s.size ≤ 9223372036854775807) (ha : a < 18446744073709551616) (ht : Tabs w) (he : Errs w) :
    Calls Tryd.prog 3 #[.int .i64 c, .int .u64 a, .string s] w fun x w' => x = .returned (.bool true) ∧ Below w.heap.size w w' := by
  have H7 := ht.size
  have HT : Hid (Tabs w) := ht
  have HE : Hid (Errs w) := he
  clear ht he
  by_cases hcz : 0 ≤ c
  · go_enter Tryd.func3, Tryd.ntmps3
    go_wp2_with (first | (go_at_call 4; refine (speaks_any _ HT.out).mono ?_; rintro e w1 ⟨rfl, hb1⟩))
    obtain ⟨S, hS⟩ : ∃ S, S = s.extract 0 (min (s.size : Int) 60).toNat := ⟨_, rfl⟩
    have hS1 : S.size ≤ 60 := by rw [hS]; simp; omega
    rw [← hS]
    clear hS hs
    have hBx : Below w.heap.size w (w1.alloc (.cells #[.int .i64 c, .int .u64 (a : Int), .string S] 26)) := hb1.alloc hb1.size _
    have hX := fx_new w1 c a S
    obtain ⟨t, htt⟩ : ∃ t : ByteArray, (⟨(textL c a S.data.toList).toArray⟩ : ByteArray) = t := ⟨_, rfl⟩
    have T5 := text_any c a S _ (HT.out.below hBx H7) ha (by omega)
    have T6 := fun w => ref_text c a S w ha (show S.size ≤ 1000 by omega)
    rw [htt] at T5
    simp only [htt] at T6
    have hts := textL_size c a S ha hS1
    rw [htt] at hts
    have HTT : Hid ((⟨(textL c a S.data.toList).toArray⟩ : ByteArray) = t) := htt
    clear htt
    obtain ⟨wd, hwd⟩ : ∃ wd, word c = wd := ⟨_, rfl⟩
    have T7 := fun w ht => word_any c w ht
    have T8 := fun w => ref_word c w
    rw [hwd] at T7 T8
    clear hwd
    refine T5.mono ?_
    rintro e w2 ⟨rfl, hb2⟩
    have hX2 := fx_next hb2 hX
    have hB2 := bt hBx hb2
    clear T5 hX hBx hb2
    have x20 := hX2.1
    have x21 := hX2.2.1
    have x22 := hX2.2.2
    go_wp2_with (first
      | (go_at_call 6; refine (T6 _).mono ?_; rintro e w3 ⟨rfl, hb3⟩; have hX3 := fx_next hb3 hX2; have hB3 := bt hB2 hb3)
      | (go_at_call 7; refine (T7 _ (HT.out.below hB3 H7)).mono ?_; rintro e w3' ⟨rfl, rfl⟩)
      | (go_at_call 8; refine (T8 _).mono ?_; rintro e w4 ⟨rfl, hb4⟩; have hX4 := fx_next hb4 hX3; have hB4 := bt hB3 hb4; have x40 := hX4.1; have x41 := hX4.2.1; have x42 := hX4.2.2)
      | (go_at_call 9; refine (ok_b _ _ _ _).mono ?_; rintro e w5 ⟨rfl, hb5⟩; have hX5 := fx_next hb5 hX4; have hB5 := bt hB4 hb5))
    have hX5' : Hid (w5.cell? ⟨w1.heap.size, 0, none⟩ = some (.int .i64 c) ∧ w5.cell? ⟨w1.heap.size, 1, none⟩ = some (.int .u64 (a : Int)) ∧ w5.cell? ⟨w1.heap.size, 2, none⟩ = some (.string S)) := hX5
    have hB5' : Hid (Below w.heap.size w w5) := hB5
    clear hX2 hX3 hX4 hX5 hB2 hB3 hB4 hB5 x20 x21 x22 x40 x41 x42 hb3 hb4 hb5 T6 T7 T8
    go_loop [9, 10] (fun fl i => ∃ k : Nat, k ≤ S.size ∧ i = .int .i64 k ∧ fl = .bool (flagAt c S k)) (fun _ i => S.size - (intOf i).toNat)
    case atStart => exact ⟨0, by omega, rfl, by simp [flagAt, mayB, hcz]⟩
    case round =>
      obtain ⟨k, hk, rfl, rfl⟩ := hrel
      by_cases hlt : k < S.size
      · have HF : Hid (flagAt c S (k + 1) = (flagAt c S k && okB S[k])) := flag_next c S k hlt
        generalize flagAt c S k = b at HF ⊢
        cases b with
        | false =>
          go_wp2
          go_round
          case rel => exact ⟨k + 1, by omega, by go_num, by rw [HF.out]; rfl⟩
          case measure => simp [intOf]; omega
        | true =>
          by_cases h32 : 32 < S[k].toNat
          · by_cases h127 : S[k].toNat < 127
            · have H9 : Hid (okB S[k] = true) := by show _ = _; unfold okB; simp [h32, h127]
              have H10 : Hid (decide ((S[k].toNat : Int) < 127) = true) := by show _ = _; simp; omega
              go_wp2
              go_round
              case rel => exact ⟨k + 1, by omega, by go_num, by rw [HF.out, H9.out, H10.out]; rfl⟩
              case measure => simp [intOf]; omega
            · have H9 : Hid (okB S[k] = false) := by show _ = _; unfold okB; simp [h127]
              have H10 : Hid (decide ((S[k].toNat : Int) < 127) = false) := by show _ = _; simp; omega
              go_wp2
              go_round
              case rel => exact ⟨k + 1, by omega, by go_num, by rw [HF.out, H9.out, H10.out]; rfl⟩
              case measure => simp [intOf]; omega
          · have H9 : Hid (okB S[k] = false) := by show _ = _; unfold okB; simp [h32]
            go_wp2
            go_round
            case rel => exact ⟨k + 1, by omega, by go_num, by rw [HF.out, H9.out]; rfl⟩
            case measure => simp [intOf]; omega
      · obtain rfl : k = S.size := by omega
        have HA := flag_all c S
        generalize flagAt c S S.size = b at HA ⊢
        cases b with
        | true =>
          obtain ⟨c0, c1, hp⟩ := HA rfl
          obtain ⟨n, rfl⟩ := Int.eq_ofNat_of_zero_le c0
          have PT := parse_text n a S t w5 (by omega) ha hS1 hp (HT.out.below hB5'.out H7) hts HTT.out
          clear HA hp
          go_wp2_with (go_at_call 10; refine PT.mono ?_; rintro e w6 ⟨rfl, hb6⟩; have hX6 := fx_next hb6 hX5'.out; have x60 := hX6.1; have x61 := hX6.2.1; have x62 := hX6.2.2; have hxl := World.block_lt_of_cell? _ _ x60)
          go_ret
          exact ⟨by simp, (bt hB5'.out hb6).alloc (bt hB5'.out hb6).size _⟩
        | false =>
          clear HA
          have PW := parse_weak t w5 hts (HT.out.below hB5'.out H7) (HE.out.next hB5'.out)
          go_wp2_with fail
          refine PW.mono ?_
          rintro e w6 ⟨rfl | ⟨c', a', n', hc0, hc1, ha', hn', hSt, rfl⟩, hb6⟩
          · have hB6 := bt hB5'.out hb6
            go_wp2
            go_ret
            exact ⟨by simp, hB6.alloc hB6.size _⟩
          · have hB6 := bt hB5'.out hb6
            have hB7 : Below w.heap.size w (w6.alloc (.cells #[.int .i64 c', .int .u64 (a' : Int), .string n'] 26)) := hB6.alloc hB6.size _
            have T5 := text_any c' a' n' _ (HT.out.below hB7 H7) ha' hn'
            rw [← hSt] at T5
            clear hSt
            go_wp2_with (go_at_call 5; refine T5.mono ?_; rintro e w8 ⟨rfl, hb8⟩)
            go_ret
            exact ⟨by simp, bt hB7 hb8⟩
  · go_enter Tryd.func3, Tryd.ntmps3
    go_wp2_with (first | (go_at_call 4; refine (speaks_any _ HT.out).mono ?_; rintro e w1 ⟨rfl, hb1⟩))
    obtain ⟨S, hS⟩ : ∃ S, S = s.extract 0 (min (s.size : Int) 60).toNat := ⟨_, rfl⟩
    have hS1 : S.size ≤ 60 := by rw [hS]; simp; omega
    rw [← hS]
    clear hS hs
    have hBx : Below w.heap.size w (w1.alloc (.cells #[.int .i64 c, .int .u64 (a : Int), .string S] 26)) := hb1.alloc hb1.size _
    have hX := fx_new w1 c a S
    obtain ⟨t, htt⟩ : ∃ t : ByteArray, (⟨(textL c a S.data.toList).toArray⟩ : ByteArray) = t := ⟨_, rfl⟩
    have T5 := text_any c a S _ (HT.out.below hBx H7) ha (by omega)
    have T6 := fun w => ref_text c a S w ha (show S.size ≤ 1000 by omega)
    rw [htt] at T5
    simp only [htt] at T6
    have hts := textL_size c a S ha hS1
    rw [htt] at hts
    have HTT : Hid ((⟨(textL c a S.data.toList).toArray⟩ : ByteArray) = t) := htt
    clear htt
    obtain ⟨wd, hwd⟩ : ∃ wd, word c = wd := ⟨_, rfl⟩
    have T7 := fun w ht => word_any c w ht
    have T8 := fun w => ref_word c w
    rw [hwd] at T7 T8
    clear hwd
    refine T5.mono ?_
    rintro e w2 ⟨rfl, hb2⟩
    have hX2 := fx_next hb2 hX
    have hB2 := bt hBx hb2
    clear T5 hX hBx hb2
    have x20 := hX2.1
    have x21 := hX2.2.1
    have x22 := hX2.2.2
    go_wp2_with (first
      | (go_at_call 6; refine (T6 _).mono ?_; rintro e w3 ⟨rfl, hb3⟩; have hX3 := fx_next hb3 hX2; have hB3 := bt hB2 hb3)
      | (go_at_call 7; refine (T7 _ (HT.out.below hB3 H7)).mono ?_; rintro e w3' ⟨rfl, rfl⟩)
      | (go_at_call 8; refine (T8 _).mono ?_; rintro e w4 ⟨rfl, hb4⟩; have hX4 := fx_next hb4 hX3; have hB4 := bt hB3 hb4; have x40 := hX4.1; have x41 := hX4.2.1; have x42 := hX4.2.2)
      | (go_at_call 9; refine (ok_b _ _ _ _).mono ?_; rintro e w5 ⟨rfl, hb5⟩; have hX5 := fx_next hb5 hX4; have hB5 := bt hB4 hb5))
    have hX5' : Hid (w5.cell? ⟨w1.heap.size, 0, none⟩ = some (.int .i64 c) ∧ w5.cell? ⟨w1.heap.size, 1, none⟩ = some (.int .u64 (a : Int)) ∧ w5.cell? ⟨w1.heap.size, 2, none⟩ = some (.string S)) := hX5
    have hB5' : Hid (Below w.heap.size w w5) := hB5
    clear hX2 hX3 hX4 hX5 hB2 hB3 hB4 hB5 x20 x21 x22 x40 x41 x42 hb3 hb4 hb5 T6 T7 T8
    go_loop [9, 10] (fun fl i => ∃ k : Nat, k ≤ S.size ∧ i = .int .i64 k ∧ fl = .bool false) (fun _ i => S.size - (intOf i).toNat)
    case atStart => exact ⟨0, by omega, rfl, rfl⟩
    case round =>
      obtain ⟨k, hk, rfl, rfl⟩ := hrel
      by_cases hlt : k < S.size
      · go_wp2
        go_round
        case rel => exact ⟨k + 1, by omega, by go_num, rfl⟩
        case measure => simp [intOf]; omega
      · obtain rfl : k = S.size := by omega
        have PW := parse_weak t w5 hts (HT.out.below hB5'.out H7) (HE.out.next hB5'.out)
        go_wp2_with fail
        refine PW.mono ?_
        rintro e w6 ⟨rfl | ⟨c', a', n', hc0, hc1, ha', hn', hSt, rfl⟩, hb6⟩
        · have hB6 := bt hB5'.out hb6
          go_wp2
          go_ret
          exact ⟨by simp, hB6.alloc hB6.size _⟩
        · have hB6 := bt hB5'.out hb6
          have hB7 : Below w.heap.size w (w6.alloc (.cells #[.int .i64 c', .int .u64 (a' : Int), .string n'] 26)) := hB6.alloc hB6.size _
          have T5 := text_any c' a' n' _ (HT.out.below hB7 H7) ha' hn'
          rw [← hSt] at T5
          clear hSt
          go_wp2_with (go_at_call 5; refine T5.mono ?_; rintro e w8 ⟨rfl, hb8⟩)
          go_ret
          exact ⟨by simp, bt hB7 hb8⟩
end Go.Proofs.YtjcefpeicbekhaaDoor
