/-
  fail.numbered, fail.plain and what Parse calls of the library.
-/
import Derived.Test.YtjcefpeicbekhaaDoorA1
namespace Go.Proofs.YtjcefpeicbekhaaDoor
open Go.RowKit

def wordsV : Array Value := (wordsL.map fun l => Value.string ⟨l.toArray⟩).toArray

theorem wordsV_at (j : Nat) (v : Value) (h : wordsV.toList[j]? = some v) : j < 27 ∧ v = .string (wordAt j) := by
  have e : wordsV.toList = wordsL.map fun l => Value.string ⟨l.toArray⟩ := rfl
  rw [e, List.getElem?_map] at h
  obtain ⟨l, h1, h2⟩ := Option.map_eq_some_iff.1 h
  obtain ⟨hj, h3⟩ := List.getElem?_eq_some_iff.1 h1
  have hl : wordsL.length = 27 := rfl
  refine ⟨by omega, ?_⟩
  rw [← h2, wordAt, List.getD, h1]
  rfl

theorem load_words (w : World) (ht : Tabs w) : (loadVar 41 ⟨0, 0, none⟩).run Tryd.prog w = .ok (.agg wordsV) w := by
  have hl : (loadCells ⟨0, 0, none⟩ wordsV.toList.length).run Tryd.prog w = .ok wordsV.toList.toArray w :=
    run_loadCells_list (P := Tryd.prog) w ⟨0, 0, none⟩ wordsV.toList (fun j v hv => by
      obtain ⟨h1, h2⟩ := wordsV_at j v hv
      rw [Go.WideShapes.add_plain, Nat.zero_add, ht.words j h1, h2])
  have hagg : (isAgg 41).run Tryd.prog w = .ok true w := by kernel_rfl
  have h27 : wordsV.size = 27 := rfl
  simp only [Array.length_toList, Array.toArray_toList, h27] at hl
  simp [loadVar, Sem.run_bind, hagg, hl]

theorem wpList_load_words {ops : Array Oper} {rest : List Oper} {o : Oper} {a : Act} {w : World} {Q : Exit → Act → World → Prop} (hgd : o.guard = none) (x : Operand) (ho : o.op = .load 41 x)
    (hx : a.eval x = .pointer (some ⟨0, 0, none⟩)) (ht : Tabs w) (h : wpList Tryd.prog ops Q rest (a.put o.dst (.agg wordsV)) w) : wpList Tryd.prog ops Q (o :: rest) a w :=
  wpList_plain hgd fun _ hK => by
    unfold Oper.wp execOp
    simp only [ho, hx, Instr.loadAt, Instr.sureAddr, Sem.run_bind, Sem.run_pure, Result.andThen_ok, load_words w ht]
    exact hK _ _ h

theorem idx_words : ∀ (k : Nat), k < 27 → ∀ w, (Instr.index 41 (.agg wordsV) (.int .i64 (k : Int))).run Tryd.prog w = .ok (.string (wordAt k)) w
  | 0, _ | 1, _ | 2, _ | 3, _ | 4, _ | 5, _ | 6, _ | 7, _ | 8, _ | 9, _ | 10, _ | 11, _ | 12, _ | 13, _ | 14, _ | 15, _ | 16, _ | 17, _ | 18, _ | 19, _ | 20, _ | 21, _ | 22, _ | 23, _ | 24, _ | 25, _ | 26, _ => fun w => by kernel_rfl
  | _ + 27, h => by omega

theorem str_ne {a b : ByteArray} (h : a ≠ b) : (a.toList == b.toList) = false := by
  rw [beq_eq_false_iff_ne]
  intro e
  apply h
  rw [toList_eq, toList_eq] at e
  exact bytes_eq e

set_option maxHeartbeats 800000 in
theorem numbered_yes (wd : ByteArray) (n : Nat) (w : World) (ht : Tabs w) (hn : n < 27) (he : Hid (wordAt n = wd)) (hb : Hid (∀ j, j < n → wordAt j ≠ wd)) :
    Calls Tryd.prog 18 #[.string wd] w fun x w' => x = .returned (.tuple #[.int .i64 n, .bool true]) ∧ w' = w := by
  go_enter Tryd.func18, Tryd.ntmps18
  go_wp2_with (refine wpList_load_words rfl _ rfl rfl ht ?_)
  clear ht
  obtain ⟨V, hV⟩ : ∃ V, V = wordsV := ⟨_, rfl⟩
  have HI : Hid (∀ (k : Nat), k < 27 → ∀ w, (Instr.index 41 (.agg V) (.int .i64 (k : Int))).run Tryd.prog w = .ok (.string (wordAt k)) w) := by rw [hV]; exact idx_words
  rw [← hV]
  clear hV
  go_loop [7] (fun i => ∃ k : Nat, k ≤ n ∧ i = .int .i64 k) (fun i => n - (intOf i).toNat)
  case atStart => exact ⟨0, by omega, rfl⟩
  case round =>
    obtain ⟨k, hk, rfl⟩ := hrel
    have hix := HI.out k (by omega)
    by_cases hlt : k < n
    · have hne := str_ne (hb.out k hlt)
      generalize wordAt k = wk at hix hne
      go_wp2
      go_round
      case rel => exact ⟨k + 1, by omega, by go_num⟩
      case measure => simp [intOf]; omega
    · have hkn : k = n := by omega
      subst hkn
      rw [he.out] at hix
      go_wp2
      go_ret2
      exact ⟨rfl, rfl⟩

set_option maxHeartbeats 800000 in
theorem numbered_no (wd : ByteArray) (w : World) (ht : Tabs w) (hb : Hid (∀ j, j < 27 → wordAt j ≠ wd)) :
    Calls Tryd.prog 18 #[.string wd] w fun x w' => x = .returned (.tuple #[.int .i64 0, .bool false]) ∧ w' = w := by
  go_enter Tryd.func18, Tryd.ntmps18
  go_wp2_with (refine wpList_load_words rfl _ rfl rfl ht ?_)
  clear ht
  obtain ⟨V, hV⟩ : ∃ V, V = wordsV := ⟨_, rfl⟩
  have HI : Hid (∀ (k : Nat), k < 27 → ∀ w, (Instr.index 41 (.agg V) (.int .i64 (k : Int))).run Tryd.prog w = .ok (.string (wordAt k)) w) := by rw [hV]; exact idx_words
  rw [← hV]
  clear hV
  go_loop [7] (fun i => ∃ k : Nat, k ≤ 27 ∧ i = .int .i64 k) (fun i => 27 - (intOf i).toNat)
  case atStart => exact ⟨0, by omega, rfl⟩
  case round =>
    obtain ⟨k, hk, rfl⟩ := hrel
    by_cases hlt : k < 27
    · have hix := HI.out k (by omega)
      have hne := str_ne (hb.out k hlt)
      generalize wordAt k = wk at hix hne
      go_wp2
      go_round
      case rel => exact ⟨k + 1, by omega, by go_num⟩
      case measure => simp [intOf]; omega
    · go_wp2
      go_ret2
      exact ⟨rfl, rfl⟩

/-- A name of which all bytes may be such. -/
def plainB (l : List UInt8) : Bool := l.all fun c => 33 ≤ c.toNat && c.toNat ≤ 126

set_option maxHeartbeats 800000 in
theorem plain_yes (s : ByteArray) (w : World) (hs : s.size ≤ 9223372036854775807) (hp : Hid (∀ j (h : j < s.size), 33 ≤ s[j].toNat ∧ s[j].toNat ≤ 126)) :
    Calls Tryd.prog 20 #[.string s] w fun x w' => x = .returned (.bool true) ∧ w' = w := by
  go_enter Tryd.func20, Tryd.ntmps20
  go_wp2
  go_loop [6] (fun i => ∃ k : Nat, k ≤ s.size ∧ i = .int .i64 k) (fun i => s.size - (intOf i).toNat)
  case atStart => exact ⟨0, by omega, rfl⟩
  case round =>
    obtain ⟨k, hk, rfl⟩ := hrel
    by_cases hlt : k < s.size
    · have h := hp.out k hlt
      go_wp2
      go_round
      case rel => exact ⟨k + 1, by omega, by go_num⟩
      case measure => simp [intOf]; omega
    · go_wp2
      go_ret
      exact ⟨rfl, rfl⟩
end Go.Proofs.YtjcefpeicbekhaaDoor
