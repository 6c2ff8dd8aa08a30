/-
  strings.Split at a separator of one byte, the blank.
-/
import Derived.Test.YtjcefpeicbekhaaDoorA2
namespace Go.Proofs.YtjcefpeicbekhaaDoor
open Go.RowKit

/-- The parts of a text between blanks. -/
def split : List UInt8 → List (List UInt8)
  | [] => [[]]
  | c :: l => if c = 32 then [] :: split l else match split l with
    | [] => [[c]]
    | p :: r => (c :: p) :: r

theorem split_ne (l : List UInt8) : split l ≠ [] := by
  cases l with
  | nil => simp [split]
  | cons c l =>
    unfold split
    split
    · simp
    · split <;> simp

theorem idx65 (s : ByteArray) (w : World) : (callFunc 61 #[.string s, .int .u8 32]).run Tryd.prog w = .ok (.value (.int .i64 (Lib.indexByte s.data.toList 32))) w := by
  rw [run_callFunc_extern Tryd.func61 (by kernel_rfl) (by kernel_rfl) (by kernel_rfl) (e := Extern.BytealgIndexByte.indexByte) (by kernel_rfl), Lib.run_indexByteString]
  rfl

set_option maxHeartbeats 400000 in
theorem idx31 (s : ByteArray) (w : World) (r : Int) (hr : Hid (Lib.indexByte s.data.toList 32 = r)) :
    Calls Tryd.prog 31 #[.string s, .string ⟨#[32]⟩] w fun e w' => e = .returned (.int .i64 r) ∧ w' = w := by
  have h65 : ∀ w, (callFunc 61 #[.string s, .int .u8 (((⟨#[32]⟩ : ByteArray)[0]'(by decide)).toNat : Int)]).run Tryd.prog w = .ok (.value (.int .i64 r)) w := fun w => by rw [← hr.out]; exact idx65 s w
  cases hne : ([32] == s.toList) with
  | false =>
    go_enter Tryd.func31, Tryd.ntmps31
    go_wp2
    go_ret
    exact ⟨rfl, rfl⟩
  | true =>
    have hr0 : Hid (r = 0) := by
      show r = 0
      have e : s.data.toList = [32] := by
        rw [toList_eq] at hne
        exact (eq_of_beq hne).symm
      rw [← hr.out, e]; rfl
    go_enter Tryd.func31, Tryd.ntmps31
    go_wp2
    go_ret
    exact ⟨ret_int hr0.out.symm, rfl⟩

theorem cnt41 (s : ByteArray) (w : World) : (callFunc 42 #[.string s, .int .u8 32]).run Tryd.prog w = .ok (.value (.int .i64 ((s.data.toList.count 32 : Nat) : Int))) w := by
  rw [run_callFunc_extern Tryd.func42 (by kernel_rfl) (by kernel_rfl) (by kernel_rfl) (e := Extern.BytealgCount.count) (by kernel_rfl), Lib.run_countString]
  rfl

set_option maxHeartbeats 400000 in
theorem count30 (s : ByteArray) (n : Nat) (w : World) (hn : Hid (s.data.toList.count 32 = n)) :
    Calls Tryd.prog 30 #[.string s, .string ⟨#[32]⟩] w fun e w' => e = .returned (.int .i64 n) ∧ w' = w := by
  have h41 : ∀ w, (callFunc 42 #[.string s, .int .u8 (((⟨#[32]⟩ : ByteArray)[0]'(by decide)).toNat : Int)]).run Tryd.prog w = .ok (.value (.int .i64 (n : Int))) w := fun w => by rw [← hn.out]; exact cnt41 s w
  go_enter Tryd.func30, Tryd.ntmps30
  go_wp2
  go_ret
  exact ⟨rfl, rfl⟩

theorem split_length : ∀ l : List UInt8, (split l).length = l.count 32 + 1
  | [] => by simp [split]
  | c :: l => by
    have ih := split_length l
    unfold split
    by_cases h : c = 32
    · rw [if_pos h, List.length_cons, ih, h]; simp
    · rw [if_neg h]
      have hc : (c :: l).count 32 = l.count 32 := by simp [h]
      cases hs : split l with
      | nil => exact absurd hs (split_ne l)
      | cons p r => rw [hs] at ih; simp only [List.length_cons] at ih ⊢; omega

theorem split_one : ∀ (l p : List UInt8), split l = [p] → p = l ∧ Lib.indexByte l 32 = -1
  | [], p, h => by simp [split] at h; exact ⟨h, rfl⟩
  | c :: l, p, h => by
    unfold split at h
    by_cases hc : c = 32
    · rw [if_pos hc] at h
      simp at h
      exact absurd h.2 (split_ne l)
    · rw [if_neg hc] at h
      cases hs : split l with
      | nil => exact absurd hs (split_ne l)
      | cons p' r =>
        rw [hs] at h
        simp at h
        obtain ⟨h1, h2⟩ := h
        rw [h2] at hs
        obtain ⟨e, e2⟩ := split_one l p' hs
        refine ⟨by rw [← h1, e], ?_⟩
        unfold Lib.indexByte
        rw [if_neg (by simpa using hc), e2]
        rfl

theorem split_more : ∀ (l p q : List UInt8) (r : List (List UInt8)), split l = p :: q :: r → Lib.indexByte l 32 = (p.length : Int) ∧ l.take p.length = p ∧ split (l.drop (p.length + 1)) = q :: r ∧ p.length + 1 ≤ l.length
  | [], p, q, r, h => by simp [split] at h
  | c :: l, p, q, r, h => by
    unfold split at h
    by_cases hc : c = 32
    · rw [if_pos hc] at h
      simp only [List.cons.injEq] at h
      obtain ⟨h1, h2⟩ := h
      subst h1
      refine ⟨?_, rfl, by simpa using h2, by simp⟩
      unfold Lib.indexByte
      rw [if_pos (by simpa using hc)]
      rfl
    · rw [if_neg hc] at h
      cases hs : split l with
      | nil => exact absurd hs (split_ne l)
      | cons p' r' =>
        rw [hs] at h
        simp only [List.cons.injEq] at h
        obtain ⟨h1, h2⟩ := h
        subst h1 h2
        obtain ⟨e1, e2, e3, e4⟩ := split_more l p' q r hs
        refine ⟨?_, by simp [e2], by simpa using e3, by simpa using e4⟩
        unfold Lib.indexByte
        rw [if_neg (by simpa using hc), e1, if_neg (by rw [beq_iff_eq]; omega)]
        simp

theorem Tryd.info9 : (Tryd.prog.info? 9).map (fun i => (i.zero, i.size, i.bytes)) = some (some (.string ⟨#[]⟩), 1, 16) := by kernel_rfl

def strV (l : List UInt8) : Value := .string ⟨l.toArray⟩
def rowOf (P : List (List UInt8)) (k : Nat) : List Value := (P.take k).map strV ++ List.replicate (P.length - k) (.string ⟨#[]⟩)
theorem rowOf_zero (P : List (List UInt8)) : rowOf P 0 = List.replicate P.length (.string ⟨#[]⟩) := by simp [rowOf]
theorem rowOf_at (P : List (List UInt8)) (k : Nat) (h : k < P.length) : (rowOf P k)[k]? = some (.string ⟨#[]⟩) := by
  unfold rowOf
  have hl : ((P.take k).map strV).length = k := by simp; omega
  rw [List.getElem?_append_right (by omega), hl]
  simp [List.getElem?_replicate]; omega
theorem rowOf_set (P : List (List UInt8)) (k : Nat) (p : List UInt8) (r : List (List UInt8)) (h : P.drop k = p :: r) : (rowOf P k).set k (strV p) = rowOf P (k + 1) := by
  have hk : k < P.length := by
    have := congrArg List.length h
    simp at this; omega
  have hp : P[k] = p := by
    have := List.drop_eq_getElem_cons hk
    rw [h] at this
    exact (List.cons.inj this).1.symm
  unfold rowOf
  have hl : ((P.take k).map strV).length = k := by simp; omega
  rw [List.set_append_right _ _ (by omega), hl, List.take_succ_eq_append_getElem hk, hp, show P.length - k = (P.length - (k + 1)) + 1 by omega, List.replicate_succ]
  simp
theorem rowOf_full (P : List (List UInt8)) : rowOf P P.length = P.map strV := by simp [rowOf]
theorem drop_next {α : Type} {P : List α} {k : Nat} {p : α} {r : List α} (h : P.drop k = p :: r) : P.drop (k + 1) = r := by
  rw [← List.drop_drop, h]; rfl

set_option maxRecDepth 100000 in
set_option maxHeartbeats 1600000 in
theorem gen24 (s : ByteArray) (P : List (List UInt8)) (C : Nat) (w : World) (hs : s.size ≤ 1000) (hP : Hid (split s.data.toList = P)) (hC : Hid (P.length = C + 1)) :
    Calls Tryd.prog 22 #[.string s, .string ⟨#[32]⟩, .int .i64 0, .int .i64 (-1)] w fun e w' => e = .returned (.slice (some ⟨w.heap.size, 0, none⟩) (C + 1) (C + 1)) ∧ w'.ownsRow w.heap.size 9 1 (.slice (some ⟨w.heap.size, 0, none⟩) (C + 1) (C + 1)) (C + 1) (P.map strV) ∧ Below w.heap.size w w' := by
  have hcnt : Hid (s.data.toList.count 32 = C) := by
    show _ = _
    have := split_length s.data.toList
    rw [hP.out, hC.out] at this; omega
  have hCs : C ≤ s.size := by
    have := List.count_le_length (a := (32 : UInt8)) (l := s.data.toList)
    rw [hcnt.out] at this
    simpa using this
  obtain ⟨i0, hi, hz0, hz1, hz2⟩ := info_parts Tryd.info9
  go_enter Tryd.func22, Tryd.ntmps22
  go_wp2_with (first
    | (go_at_call 30; refine (count30 _ C _ hcnt).mono ?_; rintro e w' ⟨rfl, rfl⟩)
    | (at_make; refine wpList_make_full _ rfl _ _ 42 rfl _ 9 i0 (.string ⟨#[]⟩) 1 Tryd.underlying42 hi hz0 hz1 .i64 .i64 _ _ (C + 1) rfl rfl (by omega) (by omega) ?_ ?_ (Nat.le_refl _) ?_))
  · rw [hz2]; omega
  · unfold maxLen; omega
  · intro w1 hown hgrow
    have hc0 : (madeCells #[Value.string ⟨#[]⟩] (C + 1)).toList = rowOf P 0 := by rw [toList_madeCells_one, rowOf_zero, hC.out]
    rw [hc0] at hown
    clear hc0 hi hz0 hz1 hz2 hcnt
    go_wp2
    go_loopw [0, 10] (fun x i wr => ∃ k : Nat, ∃ t : ByteArray, k ≤ C ∧ i = .int .i64 k ∧ x = .string t ∧ Hid (split t.data.toList = P.drop k) ∧ t.size ≤ 1000 ∧ wr.ownsRow w'.heap.size 9 1 (.slice (some ⟨w'.heap.size, 0, none⟩) (C + 1) (C + 1)) (C + 1) (rowOf P k) ∧ Below w'.heap.size w' wr) (fun _ i _ => C - (intOf i).toNat)
    case atStart => exact ⟨0, s, by omega, rfl, rfl, hP, hs, hown, (Below.refl _ _).grown hgrow (Nat.le_refl _) (by simp)⟩
    case round =>
      obtain ⟨k, t, hk, rfl, rfl, HS, ht, ho, hb⟩ := hrel
      have hC1 : C ≤ 1000 := by omega
      clear hown hgrow hP hs hCs
      have hcell := (ho.cellAt k (by omega)).trans (rowOf_at P k (by have := hC.out; omega))
      have hfr := ho.frozenAt k
      have HST : Hid (∀ u, _) := fun u => ho.stored k u
      by_cases hlt : k < C
      · obtain ⟨p, q, r, hpq⟩ : ∃ p q r, P.drop k = p :: q :: r := by
          have hl : (P.drop k).length = C + 1 - k := by rw [List.length_drop, hC.out]
          match hd : P.drop k, hl with
          | [], hl => simp at hl; omega
          | [_], hl => simp at hl; omega
          | p :: q :: r, _ => exact ⟨p, q, r, rfl⟩
        obtain ⟨f1, f2, f3, f4⟩ := split_more _ p q r (HS.out.trans hpq)
        have f4' : p.length + 1 ≤ t.size := by simpa using f4
        obtain ⟨L, hL⟩ : ∃ L, L = p.length := ⟨_, rfl⟩
        have HR : Hid (Lib.indexByte t.data.toList 32 = (L : Int)) := by rw [hL]; exact f1
        have hx1 : t.extract 0 L = ⟨p.toArray⟩ := by
          apply bytes_eq
          rw [Lib.extract_data, List.drop_zero, Nat.sub_zero, hL, f2]
        obtain ⟨pb, hpb⟩ : ∃ pb : ByteArray, pb = ⟨p.toArray⟩ := ⟨_, rfl⟩
        rw [← hpb] at hx1
        obtain ⟨t2, ht2⟩ : ∃ t2, t.extract (L + 1) t.size = t2 := ⟨_, rfl⟩
        have hL1 : L + 1 ≤ t.size := by rw [hL]; exact f4'
        have HS2 : Hid (split t2.data.toList = P.drop (k + 1)) := by
          show _ = _
          rw [drop_next hpq, ← f3, ← ht2, Lib.extract_data, hL]
          congr 1
          exact List.take_of_length_le (by simp)
        have ht2s : t2.size ≤ 1000 := by rw [← ht2]; simp; omega
        have HPB : Hid (pb = ⟨p.toArray⟩) := hpb
        have HPQ : Hid (P.drop k = p :: q :: r) := hpq
        clear f1 f2 f3 f4 f4' hL hpb hpq
        go_wp2_with (go_at_call 31; refine (idx31 _ _ _ HR).mono ?_; rintro e w3 ⟨rfl, hw3⟩; subst hw3)
        go_roundw
        case rel =>
          refine ⟨k + 1, t2, by omega, by go_num, rfl, HS2, ht2s, ?_, hb.setCell (Nat.le_refl _) _⟩
          have h1 := (HST.out (.string pb)).1
          rw [HPB.out] at h1 ⊢
          rw [← rowOf_set P k p (q :: r) HPQ.out]
          exact h1
        case measure => simp [intOf]; omega
      · have hkC : k = C := by omega
        subst hkC
        obtain ⟨p, hp1⟩ : ∃ p, P.drop k = [p] := by
          have hl : (P.drop k).length = 1 := by rw [List.length_drop, hC.out]; omega
          match hd : P.drop k, hl with
          | [p], _ => exact ⟨p, rfl⟩
        obtain ⟨f1, _⟩ := split_one _ p (HS.out.trans hp1)
        have HPQ : Hid (P.drop k = [p]) := hp1
        have HT : Hid (t = ⟨p.toArray⟩) := by show _ = _; apply bytes_eq; rw [f1]
        clear hp1 f1
        go_wp2
        go_ret
        refine ⟨rfl, ?_, hb.setCell (Nat.le_refl _) _⟩
        have h1 := (HST.out (.string t)).1
        rw [HT.out] at h1 ⊢
        rw [← rowOf_full, hC.out, ← rowOf_set P k p [] HPQ.out]
        exact h1

set_option maxHeartbeats 400000 in
theorem split_any (s : ByteArray) (P : List (List UInt8)) (C : Nat) (w : World) (hs : s.size ≤ 1000) (hP : Hid (split s.data.toList = P)) (hC : Hid (P.length = C + 1)) :
    Calls Tryd.prog 17 #[.string s, .string ⟨#[32]⟩] w fun e w' => e = .returned (.slice (some ⟨w.heap.size, 0, none⟩) (C + 1) (C + 1)) ∧ w'.ownsRow w.heap.size 9 1 (.slice (some ⟨w.heap.size, 0, none⟩) (C + 1) (C + 1)) (C + 1) (P.map strV) ∧ Below w.heap.size w w' := by
  go_enter Tryd.func17, Tryd.ntmps17
  go_wp2_with (go_at_call 22; refine (gen24 _ _ _ _ hs hP hC).mono ?_; rintro e w1 ⟨rfl, ho, hb⟩)
  go_ret
  exact ⟨rfl, by assumption, by assumption⟩
end Go.Proofs.YtjcefpeicbekhaaDoor
