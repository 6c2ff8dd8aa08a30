/-
  strings.TrimPrefix and strconv.ParseUint, as fail.address calls them.
-/
import Derived.Test.YtjcefpeicbekhaaDoorA2
namespace Go.Proofs.YtjcefpeicbekhaaDoor
open Go.RowKit

set_option maxHeartbeats 800000 in
theorem trim_yes (s t : ByteArray) (w : World) (hs : s.size ≤ 9223372036854775807) (h2 : 2 ≤ s.size) (hp : ((s.extract 0 2).toList == [48, 120]) = true) (ht : s.extract 2 s.size = t) :
    Calls Tryd.prog 24 #[.string s, .string ⟨#[48, 120]⟩] w fun x w' => x = .returned (.string t) ∧ w' = w := by
  go_enter Tryd.func24, Tryd.ntmps24
  go_wp2
  go_ret
  exact ⟨rfl, rfl⟩

set_option maxHeartbeats 800000 in
theorem trim_no (s : ByteArray) (w : World) (hs : s.size ≤ 9223372036854775807) (h2 : 2 ≤ s.size) (hp : ((s.extract 0 2).toList == [48, 120]) = false) :
    Calls Tryd.prog 24 #[.string s, .string ⟨#[48, 120]⟩] w fun x w' => x = .returned (.string s) ∧ w' = w := by
  go_enter Tryd.func24, Tryd.ntmps24
  go_wp2
  go_ret
  exact ⟨rfl, rfl⟩

set_option maxHeartbeats 800000 in
theorem trim_short (s : ByteArray) (w : World) (h2 : ¬ 2 ≤ s.size) :
    Calls Tryd.prog 24 #[.string s, .string ⟨#[48, 120]⟩] w fun x w' => x = .returned (.string s) ∧ w' = w := by
  go_enter Tryd.func24, Tryd.ntmps24
  go_wp2
  go_ret
  exact ⟨rfl, rfl⟩

/-- A digit of sixteen's, or none. -/
def dig (c : Nat) : Option Nat := if 48 ≤ c ∧ c ≤ 57 then some (c - 48) else if 97 ≤ c ||| 32 ∧ c ||| 32 ≤ 102 then some ((c ||| 32) - 87) else none

abbrev PR := Option Nat
def PR.ok (n : Nat) : PR := some n

/-- What ParseUint reads of digits, behind a number. -/
def PuR : List UInt8 → Nat → PR → Prop
  | [], n, r => r = PR.ok n
  | c :: l, n, r => ∃ d, dig c.toNat = some d ∧ n < 1152921504606846976 ∧ PuR l (n * 16 + d) r
theorem PuR.done (n : Nat) : PuR [] n (PR.ok n) := rfl
theorem PuR.step (c : UInt8) (l : List UInt8) (n d : Nat) (r : PR) (h : dig c.toNat = some d) (hn : n < 1152921504606846976) (hr : PuR l (n * 16 + d) r) : PuR (c :: l) n r := ⟨d, h, hn, hr⟩

theorem pu_cons {c : UInt8} {l : List UInt8} {n N : Nat} (h : PuR (c :: l) n (PR.ok N)) : ∃ d, dig c.toNat = some d ∧ n < 1152921504606846976 ∧ PuR l (n * 16 + d) (PR.ok N) := h

theorem low_or (c : Nat) (hc : c < 256) : bits BinOp.or IntKind.u8 (c : Int) 32 = ((c ||| 32 : Nat) : Int) := u8_or_nat c 32 hc (by omega)
set_option maxRecDepth 100000 in
theorem low_ge (c : Nat) (hc : c < 256) (h1 : 97 ≤ c ||| 32) (h2 : c ||| 32 ≤ 102) : 65 ≤ c ∧ c ≠ 95 := by
  have h : ∀ c : Fin 256, 97 ≤ c.val ||| 32 → c.val ||| 32 ≤ 102 → 65 ≤ c.val ∧ c.val ≠ 95 := by decide +kernel
  exact h ⟨c, hc⟩ h1 h2
theorem drop_cons (s : ByteArray) (k : Nat) (h : k < s.size) : s.data.toList.drop k = s[k] :: s.data.toList.drop (k + 1) := by
  rw [List.drop_eq_getElem_cons (by simpa using h)]; rfl

/-- The bytes of a text in memory of their own. -/
theorem conv_bytes (s : ByteArray) (w : World) : ∃ cap W, (convert 9 58 (.string s)).run Tryd.prog w = .ok (.slice (some ⟨w.heap.size, 0, none⟩) s.size cap) W ∧ (∀ j (h : j < s.size), W.cell? ⟨w.heap.size, j, none⟩ = some (.int .u8 (s[j].toNat : Int))) ∧ Below w.heap.size w W := by
  refine ⟨_, _, run_bytes_of_string w 9 58 5 s Tryd.underlying9 Tryd.underlying58 Tryd.underlying5, fun j h => ?_, ?_⟩
  · have hh := World.cell?_alloc_mark w.drew (bytesRow s (grownCap w s.size 0 5)) 5 ((bytesRow s (grownCap w s.size 0 5)).size, (bytesRow s (grownCap w s.size 0 5)).size + 1) j
    exact hh.trans (bytesRow_at s _ j h)
  · exact (Below.refl _ w).drew.alloc (Nat.le_refl _) _

set_option maxRecDepth 100000 in
set_option maxHeartbeats 1600000 in
theorem pu_ok (s : ByteArray) (N : Nat) (w : World) (hs : s.size ≤ 1000) (h0 : 1 ≤ s.size) (hp : PuR s.data.toList 0 (PR.ok N)) :
    Calls Tryd.prog 32 #[.string s, .int .i64 16, .int .i64 64] w fun x w' => x = .returned (.tuple #[.int .u64 N, .nilIface]) ∧ Below w.heap.size w w' := by
  have hne : s.toList.isEmpty = false := by
    rw [toList_eq]
    cases hl : s.data.toList with
    | nil => have : s.data.toList.length = s.size := by simp
             rw [hl] at this; simp at this; omega
    | cons _ _ => rfl
  obtain ⟨cap, W, hrun, hcell, hbW⟩ := conv_bytes s w
  have HC : Hid (_) := hcell
  clear hcell
  go_enter Tryd.func32, Tryd.ntmps32
  go_wp2
  obtain ⟨M, hM0⟩ : ∃ M, M = IntKind.u64.wrap (IntKind.u64.wrap 18446744073709551616 - 1) := ⟨_, rfl⟩
  have hM : 18446744073709551615 ≤ M := by rw [hM0, IntKind.wrap_u64, IntKind.wrap_u64]; decide
  rw [← hM0]
  clear hM0
  generalize IntKind.u64.wrap 18446744073709551616 = M2
  obtain ⟨L, hL0⟩ : ∃ L : Int, L = 1152921504606846976 := ⟨_, rfl⟩
  rw [← hL0]
  have hL : (1152921504606846976 : Int) ≤ L := by omega
  clear hL0
  go_loop [12, 13, 101] (fun us n i => ∃ k q : Nat, k ≤ s.size ∧ us = .bool false ∧ i = .int .i64 k ∧ n = .int .u64 q ∧ PuR (s.data.toList.drop k) q (PR.ok N)) (fun _ _ i => s.size - (intOf i).toNat)
  case atStart => exact ⟨0, 0, by omega, rfl, rfl, rfl, hp⟩
  case round =>
    obtain ⟨k, q, hk, rfl, rfl, rfl, HP⟩ := hrel
    by_cases hlt : k < s.size
    · have hcx := HC.out k hlt
      have h1 := HP
      rw [drop_cons s k hlt] at h1
      obtain ⟨d, hd, hq60, h2⟩ := pu_cons h1
      have hb := s[k].toNat_lt
      generalize s[k].toNat = c at hcx hd hb
      have hq6 : (q : Int) ≤ 1152921504606846975 := by omega
      clear h1 hp HP HC hbW hq60 hrun hne
      by_cases hdec : 48 ≤ c ∧ c ≤ 57
      · have hd2 : c - 48 = d := by unfold dig at hd; rw [if_pos hdec] at hd; simpa using hd
        have HD : Hid (c - 48 = d) := hd2
        obtain ⟨hd48, hd57⟩ := hdec
        clear hd hd2
        go_wp2
        go_round
        case rel =>
          refine ⟨k + 1, q * 16 + d, by omega, rfl, by go_num, ?_, h2⟩
          rw [← HD.out]; go_num
        case measure => simp [intOf]; omega
      · have hl : 97 ≤ c ||| 32 ∧ c ||| 32 ≤ 102 ∧ (c ||| 32) - 87 = d := by
          unfold dig at hd
          rw [if_neg hdec] at hd
          split at hd
          · rename_i h; exact ⟨h.1, h.2, by simpa using hd⟩
          · cases hd
        have hc65 := low_ge c hb hl.1 hl.2.1
        have hlow := low_or c hb
        obtain ⟨e, he⟩ : ∃ e, e = c ||| 32 := ⟨_, rfl⟩
        rw [← he] at hlow hl
        obtain ⟨hl1, hl2, hl3⟩ := hl
        have HD : Hid (e - 87 = d) := hl3
        have hc57 : 57 < c := by omega
        have h95 : ((c : Int) == 95) = false := by rw [beq_eq_false_iff_ne]; have := hc65.2; omega
        clear hc65
        clear hd he hl3 hdec
        go_wp2
        go_round
        case rel =>
          refine ⟨k + 1, q * 16 + d, by omega, rfl, by go_num, ?_, h2⟩
          rw [← HD.out]; go_num
        case measure => simp [intOf]; omega
    · have hks : k = s.size := by omega
      rw [hks, List.drop_of_length_le (by simp)] at HP
      have hqN : q = N := by cases HP; rfl
      subst hqN
      clear HP hks HC hp hrun hne
      go_wp2
      go_ret2
      exact ⟨rfl, hbW⟩

set_option maxHeartbeats 400000 in
theorem parse_ok (s : ByteArray) (N : Nat) (w : World) (hs : s.size ≤ 1000) (h0 : 1 ≤ s.size) (hp : PuR s.data.toList 0 (PR.ok N)) :
    Calls Tryd.prog 23 #[.string s, .int .i64 16, .int .i64 64] w fun x w' => x = .returned (.tuple #[.int .u64 N, .nilIface]) ∧ Below w.heap.size w w' := by
  go_enter Tryd.func23, Tryd.ntmps23
  go_wp2_with (go_at_call 32; refine (pu_ok _ _ _ hs h0 hp).mono ?_; rintro e w1 ⟨rfl, hb⟩)
  go_ret2
  exact ⟨rfl, by assumption⟩

set_option maxHeartbeats 400000 in
theorem address_ok (s t : ByteArray) (N : Nat) (w : World) (hs : s.size ≤ 1000) (h2 : 2 ≤ s.size) (hx : ((s.extract 0 2).toList == [48, 120]) = true) (ht : s.extract 2 s.size = t) (h0 : 1 ≤ t.size) (hp : PuR t.data.toList 0 (PR.ok N)) :
    Calls Tryd.prog 19 #[.string s] w fun x w' => x = .returned (.int .u64 N) ∧ Below w.heap.size w w' := by
  have hts : t.size ≤ 1000 := by rw [← ht]; simp; omega
  go_enter Tryd.func19, Tryd.ntmps19
  go_wp2_with (first | (go_at_call 24; refine (trim_yes _ _ _ (by omega) h2 hx ht).mono ?_; rintro e w1 ⟨rfl, rfl⟩) | (go_at_call 23; refine (parse_ok _ _ _ hts h0 hp).mono ?_; rintro e w1 ⟨rfl, hb⟩))
  go_ret
  exact ⟨rfl, by assumption⟩
end Go.Proofs.YtjcefpeicbekhaaDoor
