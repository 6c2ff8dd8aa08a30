/-
  Layer 3's statements begin alike: two spans that touch.
-/
import Derived.Test.YtcdgogcbijohcaaA8
import Derived.Test.YtcdgogcbijohcaaA9
namespace Go.Proofs.Ytcdgogcbijohcaa
open Go.RowKit

theorem Kept.below {B n : Nat} {v : Value} {w w' : World} (h : Kept B v w w') (hB : n ≤ B) (hv : ∀ g, v.ownBlock = some g → n ≤ g) (hn : n ≤ w.heap.size) : Below n w w' :=
  ⟨h.os, h.tape, h.output, h.size, fun k hk => h.block k (by omega) (by omega) (fun e => by have := hv k e; omega)⟩
theorem Lies.from {n : Nat} {w : World} {v v' : Value} (h : Lies w v v') (hv : ∀ g, v.ownBlock = some g → n ≤ g) (hn : n ≤ w.heap.size) : ∀ g, v'.ownBlock = some g → n ≤ g := by
  intro g e
  rcases h with h | ⟨g', h1, h2⟩
  · exact hv g (by rw [← h]; exact e)
  · rw [h2] at e; cases e; omega

theorem beh_nil (at_ : Int) : beh [] at_ = 0 := rfl
theorem beh_one (lo hi at_ : Int) : beh [(lo, hi)] at_ = if hi ≤ at_ then 1 else 0 := by
  unfold beh
  show (List.range 1).countP _ = _
  simp only [List.range_succ, List.range_zero, List.nil_append, List.countP_cons, List.countP_nil]
  by_cases h : hi ≤ at_
  · have h2 : ¬ at_ < hi := by omega
    simp [h, h2]
  · have h2 : at_ < hi := by omega
    simp [h, h2]
theorem mono_short (L : List (Int × Int)) (at_ : Int) (h : L.length ≤ 1) : ∀ a b, a ≤ b → b < L.length → at_ < (L.getD a (0, 0)).2 → at_ < (L.getD b (0, 0)).2 := by
  intro a b h1 h2 h3
  obtain rfl : a = b := by omega
  exact h3

theorem set_new (w : World) : SetAt (w.alloc (.cells #[.slice none 0 0] 26)) w.heap.size (.slice none 0 0) [] :=
  ⟨cell_new0 w _ _, by simp [go_sem], World.ownsRow_nil _ _ _ _, by simp [Value.ownBlock]⟩

theorem add1 (B : Nat) (v : Value) (w : World) (h : SetAt w B v []) :
    Calls Try.prog 16 #[.pointer (some ⟨B, 0, none⟩), .agg #[.int .u64 10, .int .u64 20]] w fun e w' => e = .returned (.bool true) ∧ ∃ u, SetAt w' B u [(10, 20)] ∧ Kept B v w w' ∧ Lies w v u :=
  add_any B v [] 10 20 w h (by simp) (by omega) (mono_short _ _ (by simp)) rfl (replaces_end B v [] 10 20 (by simp))
theorem add2 (B : Nat) (v : Value) (w : World) (h : SetAt w B v [(10, 20)]) :
    Calls Try.prog 16 #[.pointer (some ⟨B, 0, none⟩), .agg #[.int .u64 20, .int .u64 30]] w fun e w' => e = .returned (.bool true) ∧ ∃ u, SetAt w' B u [(10, 30)] ∧ Kept B v w w' ∧ Lies w v u :=
  add_any B v [(10, 20)] 20 30 w h (by simp) (by omega) (mono_short _ _ (by simp)) rfl (replaces_last B v [(10, 20)] 10 30 (by simp) 0 rfl)
theorem add3 (B : Nat) (v : Value) (w : World) (h : SetAt w B v [(10, 30)]) :
    Calls Try.prog 16 #[.pointer (some ⟨B, 0, none⟩), .agg #[.int .u64 29, .int .u64 31]] w fun e w' => e = .returned (.bool false) ∧ Below w.heap.size w w' :=
  add_met B v [(10, 30)] 29 31 w h (by simp) (by omega) (mono_short _ _ (by simp)) rfl
theorem cov1 (B : Nat) (v : Value) (w : World) (h : SetAt w B v [(10, 30)]) :
    Calls Try.prog 9 #[.pointer (some ⟨B, 0, none⟩), .agg #[.int .u64 15, .int .u64 25]] w fun e w' => e = .returned (.bool true) ∧ Below w.heap.size w w' :=
  setCovers_any B v [(10, 30)] 15 25 w h (by simp) (by omega) (mono_short _ _ (by simp))
theorem len1 (B : Nat) (v : Value) (w : World) (h : SetAt w B v [(10, 30)]) :
    Calls Try.prog 24 #[.pointer (some ⟨B, 0, none⟩)] w fun e w' => e = .returned (.int .u64 20) ∧ Below w.heap.size w w' :=
  setLen_any B v [(10, 30)] (by simp) w h
theorem run_two {n al : Int} {s0 s : St} {L : List (Int × Int)} (h : Run n al s0 L s) : (L = [] → s = s0) ∧ (∀ p, L = [p] → stops n s0 p = false ∧ Step al s0 p s) := by
  refine h (fun L s => (L = [] → s = s0) ∧ (∀ p, L = [p] → stops n s0 p = false ∧ Step al s0 p s)) ⟨fun _ => rfl, fun p hp => by simp at hp⟩ ?_
  rintro pre s1 x s2 ⟨h1, -⟩ h2 h3
  refine ⟨fun he => by simp at he, fun p hp => ?_⟩
  have hn : pre = [] := by
    have := congrArg List.length hp
    simp at this
    exact this
  subst hn
  simp at hp
  subst hp
  have he := h1 rfl
  subst he
  exact ⟨h2, h3⟩
theorem run_one {n al : Int} {s0 s : St} {p : Int × Int} (h : Run n al s0 [p] s) : stops n s0 p = false ∧ Step al s0 p s := (run_two h).2 p rfl
theorem run_none {n al : Int} {s0 s : St} (h : Run n al s0 [] s) : s = s0 := (run_two h).1 rfl
theorem fit1 (B : Nat) (v : Value) (w : World) (h : SetAt w B v [(10, 30)]) :
    Calls Try.prog 14 #[.pointer (some ⟨B, 0, none⟩), .int .u64 5, .int .u64 8, .agg #[.int .u64 8, .int .u64 100]] w fun e w' => e = .returned (.tuple #[.int .u64 32, .bool true]) ∧ Below w.heap.size w w' := by
  refine (fit_any B v [(10, 30)] (by simp) 5 8 8 100 w h (by omega) (by omega) (by omega)).mono ?_
  rintro e w' ⟨⟨⟨a0, b0⟩, ⟨a, b⟩, hA, hF, rfl⟩, hb⟩
  refine ⟨?_, hb⟩
  obtain ⟨_, _, h3, h4⟩ := hA (by omega) (by omega)
  have e8 : upTo 8 8 = 8 := by decide
  rw [e8] at h3 h4
  dsimp only at h3 h4
  have hb0 : b0 = true := by rw [h3]; decide
  have ha0 : a0 = 8 := h4 hb0
  subst hb0 ha0
  have hst : stops 5 (8, true) (10, 30) = false := by decide
  have hs : Step 8 (8, true) (10, 30) (a, b) := by
    rcases hF with hR | ⟨pre, x, hp, hR, hs⟩
    · exact (run_one hR).2
    · have hpre : pre = [] ∧ x = (10, 30) := by
        obtain ⟨t, ht⟩ := hp
        cases pre with
        | nil => simp at ht; exact ⟨rfl, ht.1⟩
        | cons y ys => simp at ht
      obtain ⟨rfl, rfl⟩ := hpre
      rw [run_none hR, hst] at hs
      cases hs
  unfold Step at hs
  rw [if_pos (by decide)] at hs
  obtain ⟨_, _, h5, h6⟩ := hs (by decide) (by decide)
  dsimp only at h5 h6
  have e32 : upTo 30 8 = 32 := by decide
  have hb1 : b = true := by rw [h5]; decide
  have ha1 : a = 32 := by rw [← e32]; exact h6 hb1
  subst hb1 ha1
  have : fitEnd 5 100 (32, true) = (32, true) := by decide
  rw [this]

set_option maxRecDepth 100000 in
set_option maxHeartbeats 1600000 in
theorem speaks_any (w : World) : Calls Try.prog 8 #[] w fun e w' => e = .returned (.bool true) ∧ Below w.heap.size w w' := by
  have h0 := set_new w
  have hb0 : Below w.heap.size w (w.alloc (.cells #[.slice none 0 0] 26)) := b1 _ rfl
  have hv0 : ∀ g, (Value.slice none 0 0).ownBlock = some g → w.heap.size ≤ g := fun g e => by cases e
  have hs0 : w.heap.size ≤ (w.alloc (.cells #[.slice none 0 0] 26)).heap.size := by simp
  go_enter Try.func8, Try.ntmps8
  go_wp2_with (first | (go_at_call 14; refine (fit1 _ _ _ h3).mono ?_; rintro e w4 ⟨rfl, hb4'⟩; have h4 := h3.next hb4'; have hb4 := hb3.trans (hb4'.mono hb3.size)) | (go_at_call 24; refine (len1 _ _ _ h4).mono ?_; rintro e w5 ⟨rfl, hb5'⟩; have h5 := h4.next hb5'; have hb5 := hb4.trans (hb5'.mono hb4.size)) | (go_at_call 9; refine (cov1 _ _ _ h5).mono ?_; rintro e w6 ⟨rfl, hb6'⟩; have hb6 := hb5.trans (hb6'.mono hb5.size)) | (go_at_call 16; first
    | (with_reducible refine (add1 _ _ _ h0).mono ?_; rintro e w1 ⟨rfl, u1, h1, k1, l1⟩; have hv1 := l1.from hv0 hs0; have hb1 := hb0.trans (k1.below (Nat.le_refl _) hv0 hs0))
    | (with_reducible refine (add2 _ _ _ h1).mono ?_; rintro e w2 ⟨rfl, u2, h2, k2, l2⟩; have hv2 := l2.from hv1 hb1.size; have hb2 := hb1.trans (k2.below (Nat.le_refl _) hv1 hb1.size))
    | (with_reducible refine (add3 _ _ _ h2).mono ?_; rintro e w3 ⟨rfl, hb3'⟩; have h3 := h2.next hb3'; have hb3 := hb2.trans (hb3'.mono hb2.size))))
  go_ret
  exact ⟨rfl, hb6⟩
end Go.Proofs.Ytcdgogcbijohcaa
