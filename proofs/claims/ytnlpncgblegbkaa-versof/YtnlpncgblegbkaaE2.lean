/-
  Layer 12: a chain of entries, gone through by whatever loop.
-/
import Derived.Test.YtnlpncgblegbkaaE1
namespace Go.Proofs.Ytnlpncgblegbkaa
open Go.RowKit Go.Shelf
set_option linter.unusedVariables false
attribute [local go_sem] Oper.semAt_some

set_option maxRecDepth 100000 in
set_option maxHeartbeats 2000000 in
theorem chain_in (F : Fence) (n : Nat) (h33 : F.fn 21) (hro : F.round = none) (s : ByteArray) (f m k : Int) (w : World) :
    CallsIn F n Try.prog 21 #[.string s, .int .u64 f, .int .u64 m, .int .i64 k] w fun e w' => e = .returned (.func (.func 36) #[] #[.pointer (some ⟨w.heap.size + 1, 0, none⟩), .pointer (some ⟨w.heap.size + 1 + 1 + 1, 0, none⟩), .pointer (some ⟨w.heap.size, 0, none⟩), .pointer (some ⟨w.heap.size + 1 + 1, 0, none⟩)]) ∧ w' = (((w.alloc (.cells #[.string s] 9)).alloc (.cells #[.int .u64 f] 28)).alloc (.cells #[.int .u64 m] 28)).alloc (.cells #[.int .i64 k] 3) := by
  refine callsIn_of_wp Try.func21 rfl h33 ?_ hro
  simp only [Try.ntmps21, List.size_toArray, List.length_cons, List.length_nil, Nat.reduceAdd, Nat.reduceSub, Array.replicate_succ, Array.replicate_zero, List.push_toArray, List.append_toArray, List.nil_append, List.cons_append]
  gi_wp2
  go_ret
  exact ⟨rfl, rfl⟩

theorem num_lt4 (s : ByteArray) (h : s.size ≤ 4) : (num s).toNat < 4294967296 := by
  rw [num_small s (by omega), Int.toNat_natCast]
  have h1 := dec_lt s.data.toList
  have h2 : s.data.toList.length ≤ 4 := by simpa using h
  have h3 : 256 ^ s.data.toList.length ≤ 256 ^ 4 := Nat.pow_le_pow_right (by omega) h2
  omega

/-- An entry: its place, and its bytes, or none. -/
structure Ent (m : Nat) where
  p : Nat
  e : ByteArray
  hp : p < 1125899906842624
  he : e.size = 0 ∨ e.size = m

theorem ext_m (b : ByteArray) (p m : Nat) (h : p + m ≤ b.size) : (b.extract p (p + m)).size = m := by simp; omega
theorem next_lt (b : ByteArray) (p m : Nat) (hm : 4 ≤ m) (hb : b.size ≤ 140737488351232) (h : p + m ≤ b.size) : p + (num ((b.extract p (p + m)).extract (m - 4) m)).toNat < 1125899906842624 := by
  have := num_lt4 ((b.extract p (p + m)).extract (m - 4) m) (by simp; omega)
  omega

/-- So many entries, from a place on. -/
def entL (b : ByteArray) (m : Nat) (hm : 4 ≤ m) (hb : b.size ≤ 140737488351232) : (k p : Nat) → p < 1125899906842624 → List (Ent m)
  | 0, _, _ => []
  | k + 1, p, hp => if h : p + m ≤ b.size then ⟨p, b.extract p (p + m), hp, .inr (ext_m b p m h)⟩ :: entL b m hm hb k (p + (num ((b.extract p (p + m)).extract (m - 4) m)).toNat) (next_lt b p m hm hb h) else [⟨p, ⟨#[]⟩, hp, .inl rfl⟩]
theorem entL_yes (b : ByteArray) (m : Nat) (hm : 4 ≤ m) (hb : b.size ≤ 140737488351232) (k p : Nat) (hp : p < 1125899906842624) (h : p + m ≤ b.size) :
    entL b m hm hb (k + 1) p hp = ⟨p, b.extract p (p + m), hp, .inr (ext_m b p m h)⟩ :: entL b m hm hb k (p + (num ((b.extract p (p + m)).extract (m - 4) m)).toNat) (next_lt b p m hm hb h) := by
  rw [entL, dif_pos h]
theorem entL_no (b : ByteArray) (m : Nat) (hm : 4 ≤ m) (hb : b.size ≤ 140737488351232) (k p : Nat) (hp : p < 1125899906842624) (h : ¬ p + m ≤ b.size) :
    entL b m hm hb (k + 1) p hp = [⟨p, ⟨#[]⟩, hp, .inl rfl⟩] := by
  rw [entL, dif_neg h]
theorem entL_length (b : ByteArray) (m : Nat) (hm : 4 ≤ m) (hb : b.size ≤ 140737488351232) : ∀ (k p : Nat) (hp : p < 1125899906842624), (entL b m hm hb k p hp).length ≤ k
  | 0, _, _ => by simp [entL]
  | k + 1, p, hp => by
    by_cases h : p + m ≤ b.size
    · rw [entL_yes b m hm hb k p hp h, List.length_cons]
      have := entL_length b m hm hb k (p + (num ((b.extract p (p + m)).extract (m - 4) m)).toNat) (next_lt b p m hm hb h)
      omega
    · rw [entL_no b m hm hb k p hp h]; simp

abbrev encN {m : Nat} (x : Ent m) : Array Value := #[.int .u64 (x.p : Int), .string x.e]

set_option maxRecDepth 100000 in
set_option maxHeartbeats 4000000 in
theorem chain1_in (n : Nat) (hn : 1 ≤ n) (l A C Z S : Nat) (b : ByteArray) (m N p0 : Nat) (hm : 4 ≤ m) (hm1 : m ≤ 100) (hb : b.size ≤ 140737488351232) (hp0 : p0 < 1125899906842624) (hN : N ≤ 1000000) (J Jx : List (Ent m) → World → Prop)
    (hY : ∀ pre x W, J pre W → pre.length < N → YieldAt Fence.wide (n - 1) Try.prog l (encN x) W fun e W' =>
      (e = .returned (.bool true) ∧ J (pre ++ [x]) W' ∧ KZ Z S W W') ∨ (e = .returned (.bool false) ∧ Jx (pre ++ [x]) W'))
    (W : World) (hA : W.cell? ⟨A, 0, none⟩ = some (.int .u64 (p0 : Int))) (hC : W.cell? ⟨C, 0, none⟩ = some (.int .i64 (N : Int))) (hZ : W.cell? ⟨Z, 0, none⟩ = some (.string b)) (hS : W.cell? ⟨S, 0, none⟩ = some (.int .u64 (m : Int))) (h0 : J [] W) :
    CallsIn Fence.wide n Try.prog 36 #[.func (.yield l) #[] #[], .pointer (some ⟨A, 0, none⟩), .pointer (some ⟨C, 0, none⟩), .pointer (some ⟨Z, 0, none⟩), .pointer (some ⟨S, 0, none⟩)] W fun e W' => (∃ v, e = .returned v) ∧
      ((∃ ys, ys = entL b m hm hb N p0 hp0 ∧ J ys W') ∨ (∃ pre, pre <+: entL b m hm hb N p0 hp0 ∧ Jx pre W')) := by
  have HZ : Hid (W.cell? ⟨Z, 0, none⟩ = some (.string b)) := hZ
  have HS : Hid (W.cell? ⟨S, 0, none⟩ = some (.int .u64 (m : Int))) := hS
  have f42 : Fence.wide.fn 37 := trivial
  have f39 : Fence.wide.fn 28 := trivial
  have hbm : b.size ≤ 140737488351232 := hb
  obtain ⟨L, hL⟩ : ∃ L, L = entL b m hm hb N p0 hp0 := ⟨_, rfl⟩
  rw [← hL]
  have HL : Hid (L = entL b m hm hb N p0 hp0) := hL
  clear hL
  refine callsIn_of_wp Try.func36 rfl trivial ?_ rfl
  simp only [Try.ntmps36, List.size_toArray, List.length_cons, List.length_nil, Nat.reduceAdd, Nat.reduceSub, Array.replicate_succ, Array.replicate_zero, List.push_toArray, List.append_toArray, List.nil_append, List.cons_append]
  gi_wp2
  gi_loopw [6, 11] (fun a i wr => ∃ (k p : Nat) (hp : p < 1125899906842624) (pre : List (Ent m)), k ≤ N ∧ i = .int .i64 k ∧ a = .int .u64 (p : Int) ∧ Hid (L = pre ++ entL b m hm hb (N - k) p hp) ∧ Hid (pre.length = k) ∧ J pre wr ∧ KZ Z S W wr)
    (fun _ i _ => N - (intOf i).toNat)
  case atStart => exact ⟨0, p0, hp0, [], Nat.zero_le _, rfl, rfl, HL.out, rfl, h0, KZ.refl _ _ _⟩
  case round =>
    obtain ⟨k, p, hp, pre, hk, rfl, rfl, HP, HLen, hJs, hnx⟩ := hrel
    by_cases hlt : k < N
    · have cZ : wr.cell? ⟨Z, 0, none⟩ = some (.string b) := hnx.cellZ.trans HZ.out
      have cS : wr.cell? ⟨S, 0, none⟩ = some (.int .u64 (m : Int)) := hnx.cellS.trans HS.out
      have hki : (k : Int) < (N : Int) := by omega
      have hNk : N - k = (N - (k + 1)) + 1 := by omega
      have HNK : Hid (N - k = (N - (k + 1)) + 1) := hNk
      clear hNk
      by_cases hin : p + m ≤ b.size
      · obtain ⟨e, he⟩ : ∃ e, b.extract p (p + m) = e := ⟨_, rfl⟩
        have hem : e.size = m := by rw [← he]; exact ext_m b p m hin
        obtain ⟨t, ht⟩ : ∃ t, e.extract (m - 4) e.size = t := ⟨_, rfl⟩
        have htm : t.size ≤ maxLen := by rw [← ht]; unfold maxLen; simp; omega
        obtain ⟨q, hq⟩ : ∃ q : Nat, num t = (q : Int) := ⟨(num t).toNat, by have := (num_bounds t).1; omega⟩
        have hq4 : q < 4294967296 := by
          have := num_lt4 t (by rw [← ht]; simp; omega)
          rw [hq] at this
          simpa using this
        have hpq : p + q < 1125899906842624 := by omega
        have HT : Hid (L = (pre ++ [⟨p, e, hp, .inr hem⟩]) ++ entL b m hm hb (N - (k + 1)) (p + q) hpq) := by
          show _ = _
          rw [HP.out]
          have h1 : entL b m hm hb (N - k) p hp = entL b m hm hb ((N - (k + 1)) + 1) p hp := by rw [← HNK.out]
          rw [h1, entL_yes b m hm hb _ p hp hin]
          subst he
          have h2 : (num ((b.extract p (p + m)).extract (m - 4) m)).toNat = q := by
            have : (b.extract p (p + m)).extract (m - 4) m = t := by rw [← ht, hem]
            rw [this, hq]; simp
          simp only [h2, List.append_assoc, List.singleton_append]
        have HE : Hid (e = b.extract ((p : Int)).toNat ((p : Int) + (m : Int)).toNat) := by
          show _ = _
          rw [← he, show ((p : Int) + (m : Int)).toNat = p + m by omega, Int.toNat_natCast]
        obtain ⟨fn, tmps, assign, body, hy, hR⟩ := hY _ ⟨p, e, hp, .inr hem⟩ _ hJs (by rw [HLen.out]; exact hlt)
        clear he
        dsimp only [encN] at hy
        gi_wp2_with (gi_at_call 37; refine (callsIn_wide.2 (part_yes _ _ _ _ _ HE hbm (by omega) (by omega) (by omega))).mono ?_; rintro r w' ⟨rfl, rfl⟩)
        refine hR.mono ?_
        rintro r W3 (⟨rfl, hJ3, hk3⟩ | ⟨rfl, hJx3⟩)
        · have cS3 : W3.cell? ⟨S, 0, none⟩ = some (.int .u64 (m : Int)) := hk3.cellS.trans cS
          have ht2 : e.extract (m - 4) m = t := by rw [← ht, hem]
          clear ht cS cZ
          gi_wp2_with (gi_at_call 28; refine (callsIn_wide.2 (get_any _ _ htm)).mono ?_; rintro r w'' ⟨rfl, rfl⟩)
          exact ⟨⟨k + 1, p + q, hpq, pre ++ [⟨p, e, hp, .inr hem⟩], by omega, by go_num, by push_cast; rfl, HT, (by show _ = _; rw [List.length_append, HLen.out]; rfl), hJ3, hnx.trans hk3⟩, by simp [intOf]; omega⟩
        · gi_wp2
          refine bodyPost_ret (results_none rfl _ _ _) rfl ?_
          refine ⟨⟨_, rfl⟩, .inr ⟨_, ?_, hJx3⟩⟩
          rw [HT.out]
          exact List.prefix_append _ _
      · have HT : Hid (L = pre ++ [⟨p, ⟨#[]⟩, hp, .inl rfl⟩]) := by
          show _ = _
          rw [HP.out]
          have h1 : entL b m hm hb (N - k) p hp = entL b m hm hb ((N - (k + 1)) + 1) p hp := by rw [← HNK.out]
          rw [h1, entL_no b m hm hb _ p hp hin]
        obtain ⟨fn, tmps, assign, body, hy, hR⟩ := hY _ ⟨p, ⟨#[]⟩, hp, .inl rfl⟩ _ hJs (by rw [HLen.out]; exact hlt)
        dsimp only [encN] at hy
        gi_wp2_with (gi_at_call 37; refine (callsIn_wide.2 (part_no _ _ _ _ hbm (by omega) (by omega) (by omega))).mono ?_; rintro r w' ⟨rfl, rfl⟩)
        refine hR.mono ?_
        rintro r W3 (⟨rfl, hJ3, hk3⟩ | ⟨rfl, hJx3⟩)
        · gi_wp2
          refine bodyPost_ret (results_none rfl _ _ _) rfl ?_
          exact ⟨⟨_, rfl⟩, .inl ⟨_, HT.out.symm, hJ3⟩⟩
        · gi_wp2
          refine bodyPost_ret (results_none rfl _ _ _) rfl ?_
          refine ⟨⟨_, rfl⟩, .inr ⟨_, ?_, hJx3⟩⟩
          rw [HT.out]
          exact List.prefix_refl _
    · obtain rfl : k = N := by omega
      gi_wp2
      go_end0
      refine ⟨⟨_, rfl⟩, .inl ⟨_, ?_, hJs⟩⟩
      rw [HP.out, Nat.sub_self]
      simp [entL]

theorem chain_stops (n : Nat) (hn : 1 ≤ n) (A C Z S : Nat) (b : ByteArray) (m N p0 : Nat) (hm : 4 ≤ m) (hm1 : m ≤ 100) (hb : b.size ≤ 140737488351232) (hp0 : p0 < 1125899906842624) (hN : N ≤ 1000000) (w : World)
    (hA : w.cell? ⟨A, 0, none⟩ = some (.int .u64 (p0 : Int))) (hC : w.cell? ⟨C, 0, none⟩ = some (.int .i64 (N : Int))) (hZ : w.cell? ⟨Z, 0, none⟩ = some (.string b)) (hS : w.cell? ⟨S, 0, none⟩ = some (.int .u64 (m : Int))) :
    SeqStopsK Fence.wide n Try.prog 36 #[.pointer (some ⟨A, 0, none⟩), .pointer (some ⟨C, 0, none⟩), .pointer (some ⟨Z, 0, none⟩), .pointer (some ⟨S, 0, none⟩)] encN (KZ Z S) (fun xs => xs = entL b m hm hb N p0 hp0) (fun pre => pre <+: entL b m hm hb N p0 hp0) N w := by
  intro l J Jx W hW hJ hJx hY h0
  have k : ∀ {a : Addr} {v}, w.cell? a = some v → W.cell? a = some v := fun hc => (hW.cell (World.block_lt_of_cell? _ _ hc)).trans hc
  exact chain1_in n hn l A C Z S b m N p0 hm hm1 hb hp0 hN J Jx hY W (k hA) (k hC) (k hZ) (k hS) h0
end Go.Proofs.Ytnlpncgblegbkaa
