/-
  Layers 2 and 11: faults; what is asked of a symbol.
-/
import Derived.Test.YtackjpmpkklgiaaS1
namespace Go.Proofs.Ytackjpmpkklgiaa
open Go.RowKit
set_option linter.unusedVariables false

theorem results_cell_mid {P : Program} {fn : Func} {p : Tmp} {ty : TypeId} (h : fn.results = #[.cell p ty]) (tmps : Array Value) (w : World) (b o : Nat) (cs : List Value) (d : TypeDesc)
    (hp : tmps.getD p undef = .pointer (some ⟨b, o, none⟩)) (hc : w.rangeAt b o cs) (hu : P.underlying ty = some d) (hd : d.isRow = true) (hi : (P.info? ty).map (·.size) = some cs.length) :
    (results fn tmps).run P w = .ok (.agg cs.toArray) w := by
  have hp' : tmps[p]?.getD undef = .pointer (some ⟨b, o, none⟩) := by simpa using hp
  simp [results, h, hp', asAddr, run_loadVar_mid w b o ty cs d hc hu hd hi]
theorem range3 {w : World} {B : Nat} {v0 v1 v2 : Value} (h0 : w.cell? ⟨B, 0, none⟩ = some v0) (h1 : w.cell? ⟨B, 1, none⟩ = some v1) (h2 : w.cell? ⟨B, 2, none⟩ = some v2) : w.rangeAt B 0 [v0, v1, v2] := by
  intro j v hv
  rw [Nat.zero_add]
  match j, hv with
  | 0, hv => simp at hv; subst hv; exact h0
  | 1, hv => simp at hv; subst hv; exact h1
  | 2, hv => simp at hv; subst hv; exact h2
  | j + 3, hv => simp at hv
theorem info27 : (Try.prog.info? 27).map (·.size) = some 3 := by kernel_rfl

abbrev flt (c a : Int) : Value := .agg #[.int .i64 c, .int .u64 a, .string ⟨#[]⟩]
abbrev fbox (c a : Int) : Obj := .cells #[.int .i64 c, .int .u64 a, .string ⟨#[]⟩] 27

set_option maxHeartbeats 800000 in
theorem of_any (c : Int) (w : World) : Calls Try.prog 23 #[.int .i64 c] w fun e w' => e = .returned (flt c 0) ∧ w' = w.alloc (fbox c 0) := by
  go_enter Try.func23, Try.ntmps23
  go_wp2
  refine ⟨rfl, flt c 0, ?_, rfl, rfl⟩
  exact results_cell_mid (fn := Try.f23) rfl _ _ w.heap.size 0 [.int .i64 c, .int .u64 0, .string ⟨#[]⟩] _ rfl (range3 (by simp [go_sem]) (by simp [go_sem]) (by simp [go_sem])) Try.underlying27 rfl info27

set_option maxHeartbeats 800000 in
theorem fat_any (c a : Int) (w : World) : Calls Try.prog 26 #[.int .i64 c, .int .u64 a] w fun e w' => e = .returned (flt c a) ∧ w' = w.alloc (fbox c a) := by
  go_enter Try.func26, Try.ntmps26
  go_wp2
  refine ⟨rfl, flt c a, ?_, rfl, rfl⟩
  exact results_cell_mid (fn := Try.f26) rfl _ _ w.heap.size 0 [.int .i64 c, .int .u64 a, .string ⟨#[]⟩] _ rfl (range3 (by simp [go_sem]) (by simp [go_sem]) (by simp [go_sem])) Try.underlying27 rfl info27

set_option maxHeartbeats 800000 in
theorem fok_any (c a : Int) (w : World) : Calls Try.prog 17 #[flt c a] w fun e w' => e = .returned (.bool (c == 0)) ∧ w' = w.alloc (fbox c a) := by
  go_enter Try.func17, Try.ntmps17
  go_wp2
  go_ret
  exact ⟨rfl, rfl⟩

def Sy.exported (s : Sy) : Bool := s.dfd && (s.bind == 1 || s.bind == 2) && (s.vis == 0 || s.vis == 3)
def Sy.own (s : Sy) : Bool := s.dfd && (s.bind == 0 || s.vis != 0)
abbrev Sy.box (s : Sy) : Obj := .cells #[.string s.name, .int .i64 s.bind, .int .i64 s.kind, .int .i64 s.vis, .bool s.dfd, .int .u64 s.value, .int .u64 s.size] 35

set_option maxHeartbeats 1600000 in
theorem exported_any (s : Sy) (w : World) : Calls Try.prog 13 #[s.val] w fun e w' => e = .returned (.bool s.exported) ∧ w' = w.alloc s.box := by
  obtain ⟨n, b, k, v, d, x, z⟩ := s
  have HX : Hid (∀ y, y = Sy.exported ⟨n, b, k, v, d, x, z⟩ ↔ y = (d && (b == 1 || b == 2) && (v == 0 || v == 3))) := fun y => Iff.rfl
  cases d with
  | false =>
    go_enter Try.func13, Try.ntmps13
    go_wp2
    go_ret
    exact ⟨rfl, rfl⟩
  | true =>
    by_cases b1 : b = 1
    · subst b1
      by_cases v0 : v = 0
      · subst v0
        go_enter Try.func13, Try.ntmps13
        go_wp2
        go_ret
        exact ⟨rfl, rfl⟩
      · have e0 : (v == 0) = false := by simp [v0]
        clear v0
        have H0 : Hid ((v == 0) = false) := e0
        go_enter Try.func13, Try.ntmps13
        go_wp2
        go_ret
        exact ⟨by show Ending.returned (Value.bool (v == 3)) = _; unfold Sy.exported; simp [H0.out], rfl⟩
    · have e1 : (b == 1) = false := by simp [b1]
      have H1 : Hid ((b == 1) = false) := e1
      clear b1
      by_cases b2 : b = 2
      · subst b2
        by_cases v0 : v = 0
        · subst v0
          go_enter Try.func13, Try.ntmps13
          go_wp2
          go_ret
          exact ⟨rfl, rfl⟩
        · have e0 : (v == 0) = false := by simp [v0]
          clear v0
          have H0 : Hid ((v == 0) = false) := e0
          go_enter Try.func13, Try.ntmps13
          go_wp2
          go_ret
          exact ⟨by show Ending.returned (Value.bool (v == 3)) = _; unfold Sy.exported; simp [H0.out], rfl⟩
      · have e2 : (b == 2) = false := by simp [b2]
        have H2 : Hid ((b == 2) = false) := e2
        clear b2
        go_enter Try.func13, Try.ntmps13
        go_wp2
        go_ret
        exact ⟨by show Ending.returned (Value.bool false) = _; unfold Sy.exported; simp [H1.out, H2.out], rfl⟩

set_option maxHeartbeats 1600000 in
theorem own_any (s : Sy) (w : World) : Calls Try.prog 14 #[s.val] w fun e w' => e = .returned (.bool s.own) ∧ w' = w.alloc s.box := by
  obtain ⟨n, b, k, v, d, x, z⟩ := s
  cases d with
  | false =>
    go_enter Try.func14, Try.ntmps14
    go_wp2
    go_ret
    exact ⟨rfl, rfl⟩
  | true =>
    by_cases b1 : b = 0
    · subst b1
      go_enter Try.func14, Try.ntmps14
      go_wp2
      go_ret
      exact ⟨rfl, rfl⟩
    · have e1 : (b == 0) = false := by simp [b1]
      have H1 : Hid ((b == 0) = false) := e1
      clear b1
      go_enter Try.func14, Try.ntmps14
      go_wp2
      go_ret
      exact ⟨by show Ending.returned (Value.bool (v != 0)) = _; unfold Sy.own; simp [H1.out], rfl⟩
end Go.Proofs.Ytackjpmpkklgiaa
