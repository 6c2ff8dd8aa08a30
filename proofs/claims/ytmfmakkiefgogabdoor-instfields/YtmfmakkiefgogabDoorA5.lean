/-
  Layer 6: Decode of any word. Conditions: the tables hold the forms and the codes.
-/
import Derived.Test.YtmfmakkiefgogabDoorA4
namespace Go.Proofs.YtmfmakkiefgogabDoor
open Go.RowKit
set_option linter.unusedVariables false

/-- An instruction. -/
structure In where
  op : Int
  rd : Int
  r1 : Int
  r2 : Int
  imm : Int
/-- Two instructions are held against one another field by field. -/
def In.decEq : DecidableEq In := fun a b => decidable_of_iff (a.op = b.op ∧ a.rd = b.rd ∧ a.r1 = b.r1 ∧ a.r2 = b.r2 ∧ a.imm = b.imm) ⟨fun h => by
  obtain ⟨h1, h2, h3, h4, h5⟩ := h
  cases a
  cases b
  simp only at h1 h2 h3 h4 h5
  subst h1 h2 h3 h4 h5
  rfl, fun h => by subst h; exact ⟨rfl, rfl, rfl, rfl, rfl⟩⟩
def In.agg (i : In) : Value := .agg #[.int .i64 i.op, .int .i64 i.rd, .int .i64 i.r1, .int .i64 i.r2, .int .i64 i.imm]

/-- What a word is decoded to. -/
def decF (x : Nat) : Option In := (kindF x).map fun k : Nat => ⟨(k : Int), regOf x 7 sRd (formAt k), regOf x 15 sRs1 (formAt k), regOf x 20 sRs2 (formAt k), immOf x (formAt k)⟩
def decV (x : Nat) : Value := match decF x with
  | some i => .tuple #[i.agg, .bool true]
  | none => .tuple #[(⟨0, 0, 0, 0, 0⟩ : In).agg, .bool false]

theorem kindF_lt {x k : Nat} (h : kindF x = some k) : k < 64 ∧ fit x k = true := by
  unfold kindF at h
  exact ⟨by simpa using List.mem_of_find?_eq_some h, List.find?_some h⟩

theorem results_cell_mid2 {P : Program} {fn : Func} {p u : Tmp} {ty : TypeId} (h : fn.results = #[.cell p ty, .tmp u]) (tmps : Array Value) (w : World) (b o : Nat) (cs : List Value) (d : TypeDesc)
    (hp : tmps.getD p undef = .pointer (some ⟨b, o, none⟩)) (hc : w.rangeAt b o cs)
    (hu : P.underlying ty = some d) (hd : d.isRow = true) (hi : (P.info? ty).map (·.size) = some cs.length) :
    (results fn tmps).run P w = .ok (.tuple #[.agg cs.toArray, tmps.getD u undef]) w := by
  rw [results_cell_tmp h, hp]
  simp [asAddr, run_loadVar_mid w b o ty cs d hc hu hd hi]

theorem range5 {w : World} {b : Nat} {v0 v1 v2 v3 v4 : Value} (h0 : w.cell? ⟨b, 0, none⟩ = some v0) (h1 : w.cell? ⟨b, 1, none⟩ = some v1) (h2 : w.cell? ⟨b, 2, none⟩ = some v2) (h3 : w.cell? ⟨b, 3, none⟩ = some v3) (h4 : w.cell? ⟨b, 4, none⟩ = some v4) : w.rangeAt b 0 [v0, v1, v2, v3, v4] := by
  intro j v hv
  rw [Nat.zero_add]
  match j, hv with
  | 0, hv => simp at hv; subst hv; exact h0
  | 1, hv => simp at hv; subst hv; exact h1
  | 2, hv => simp at hv; subst hv; exact h2
  | 3, hv => simp at hv; subst hv; exact h3
  | 4, hv => simp at hv; subst hv; exact h4
  | j + 5, hv => simp at hv
theorem info27 : (Tryd.prog.info? 27).map (·.size) = some 5 := by kernel_rfl

set_option maxRecDepth 10000 in
set_option maxHeartbeats 1600000 in
theorem dec_any (x : Nat) (w : World) (hx : x < 4294967296) (ht : Tabs w) :
    Calls Tryd.prog 15 #[.int .u32 x] w fun e w' => e = .returned (decV x) ∧ Below w.heap.size w w' := by
  have KA : Hid (∀ W, Below w.heap.size w W → Calls Tryd.prog 22 #[.int .u32 x] W fun e w' => e = .returned (kindV x) ∧ w' = W) := fun W hb => kind_any x W hx (ht.next hb)
  cases hk : kindF x with
  | none =>
    have HD : Hid (decV x = .tuple #[(⟨0, 0, 0, 0, 0⟩ : In).agg, .bool false]) := by show _ = _; unfold decV decF; rw [hk]; rfl
    have hkv : kindV x = .tuple #[.int .i64 0, .bool false] := by unfold kindV; rw [hk]
    rw [hkv] at KA
    clear hk hkv ht
    go_enter Tryd.func15, Tryd.ntmps15
    go_wp2_with (go_at_call 22; with_reducible refine (KA.out _ (by go_grown)).mono ?_; rintro e w' ⟨rfl, hw⟩; subst hw)
    refine ⟨rfl, .tuple #[(⟨0, 0, 0, 0, 0⟩ : In).agg, .bool false], ?_, by rw [HD.out], ?_⟩
    · refine (results_cell_mid2 (fn := Tryd.f15) rfl _ _ w.heap.size 0 [.int .i64 0, .int .i64 0, .int .i64 0, .int .i64 0, .int .i64 0] _ ?_ ?_ Tryd.underlying27 rfl info27).trans ?_
      · rfl
      · exact range5 (by simp [go_sem]) (by simp [go_sem]) (by simp [go_sem]) (by simp [go_sem]) (by simp [go_sem])
      · rfl
    · go_grown
  | some k =>
    obtain ⟨hk64, _⟩ := kindF_lt hk
    have HD : Hid (decV x = .tuple #[(⟨(k : Int), regOf x 7 sRd (formAt k), regOf x 15 sRs1 (formAt k), regOf x 20 sRs2 (formAt k), immOf x (formAt k)⟩ : In).agg, .bool true]) := by show _ = _; unfold decV decF; rw [hk]; rfl
    have hkv : kindV x = .tuple #[.int .i64 k, .bool true] := by unfold kindV; rw [hk]
    rw [hkv] at KA
    have HF : Hid (∀ W, Below w.heap.size w W → W.cell? ⟨0, k, none⟩ = some (.int .u8 (formAt k))) := fun W hb => (ht.next hb).forms k hk64
    clear hk hkv ht
    generalize formAt k = fm at *
    have R1 : ∀ W, Calls Tryd.prog 23 #[.int .u32 x, .int .i64 7, .string ⟨#[85, 74, 73, 72, 75, 82]⟩, .int .u8 fm] W fun e w' => e = .returned (.int .i64 (regOf x 7 sRd fm)) ∧ w' = W := fun W => reg_any x 7 sRd fm W hx (by omega)
    have R2 : ∀ W, Calls Tryd.prog 23 #[.int .u32 x, .int .i64 15, .string ⟨#[73, 72, 75, 66, 83, 82]⟩, .int .u8 fm] W fun e w' => e = .returned (.int .i64 (regOf x 15 sRs1 fm)) ∧ w' = W := fun W => reg_any x 15 sRs1 fm W hx (by omega)
    have R3 : ∀ W, Calls Tryd.prog 23 #[.int .u32 x, .int .i64 20, .string ⟨#[66, 83, 82]⟩, .int .u8 fm] W fun e w' => e = .returned (.int .i64 (regOf x 20 sRs2 fm)) ∧ w' = W := fun W => reg_any x 20 sRs2 fm W hx (by omega)
    have IM : ∀ W, Calls Tryd.prog 24 #[.int .u32 x, .int .u8 fm] W fun e w' => e = .returned (.int .i64 (immOf x fm)) ∧ Below W.heap.size W w' := fun W => (immOf_any x fm W hx).mono fun _ _ h => ⟨h.1, h.2.below⟩
    generalize regOf x 7 sRd fm = y1 at *
    generalize regOf x 15 sRs1 fm = y2 at *
    generalize regOf x 20 sRs2 fm = y3 at *
    generalize immOf x fm = y4 at *
    have hb0 : Below w.heap.size w (w.alloc (.cells #[.int .i64 0, .int .i64 0, .int .i64 0, .int .i64 0, .int .i64 0] 27)) := by go_grown
    have hcf := HF.out _ hb0
    have HC : Hid (∀ w2, Below (w.alloc (.cells #[.int .i64 0, .int .i64 0, .int .i64 0, .int .i64 0, .int .i64 0] 27)).heap.size (w.alloc (.cells #[.int .i64 0, .int .i64 0, .int .i64 0, .int .i64 0, .int .i64 0] 27)) w2 → (∀ j, j < 5 → w2.cell? ⟨w.heap.size, j, none⟩ = some (.int .i64 0)) ∧ (∀ j, w2.frozen? ⟨w.heap.size, j, none⟩ = false) ∧ Below w.heap.size w w2) := by
      intro w2 hb2
      refine ⟨fun j hj => ?_, fun j => ?_, hb0.trans (hb2.mono (by simp))⟩
      · rw [hb2.cell (p := ⟨w.heap.size, j, none⟩) (by show w.heap.size < _; simp)]
        match j, hj with
        | 0, _ => simp [go_sem]
        | 1, _ => simp [go_sem]
        | 2, _ => simp [go_sem]
        | 3, _ => simp [go_sem]
        | 4, _ => simp [go_sem]
      · rw [hb2.frozen (p := ⟨w.heap.size, j, none⟩) (by show w.heap.size < _; simp)]
        simp [go_sem]
    clear hb0
    go_enter Tryd.func15, Tryd.ntmps15
    go_wp2_with (first
      | (go_at_call 22; with_reducible refine (KA.out _ (by go_grown)).mono ?_; rintro e w' ⟨rfl, hw⟩; subst hw)
      | (go_at_call 23; with_reducible refine (R1 _).mono ?_; rintro e w' ⟨rfl, hw⟩; subst hw)
      | (go_at_call 23; with_reducible refine (R2 _).mono ?_; rintro e w' ⟨rfl, hw⟩; subst hw)
      | (go_at_call 23; with_reducible refine (R3 _).mono ?_; rintro e w' ⟨rfl, hw⟩; subst hw)
      | (go_at_call 24; with_reducible refine (IM _).mono ?_; rintro e w2 ⟨rfl, hb2⟩; obtain ⟨hc, hf, hbb⟩ := HC.out _ hb2
         have c0 := hc 0 (by omega); have c1 := hc 1 (by omega); have c2 := hc 2 (by omega); have c3 := hc 3 (by omega); have c4 := hc 4 (by omega)
         have f0 := hf 0; have f1 := hf 1; have f2 := hf 2; have f3 := hf 3; have f4 := hf 4
         have HBB : Hid (_) := hbb
         clear hc hf hb2 hbb))
    refine ⟨rfl, .tuple #[(⟨(k : Int), y1, y2, y3, y4⟩ : In).agg, .bool true], ?_, by rw [HD.out], ?_⟩
    · refine (results_cell_mid2 (fn := Tryd.f15) rfl _ _ w.heap.size 0 [.int .i64 k, .int .i64 y1, .int .i64 y2, .int .i64 y3, .int .i64 y4] _ ?_ ?_ Tryd.underlying27 rfl info27).trans ?_
      · rfl
      · exact range5 (by simp [go_sem, c0]) (by simp [go_sem, c1]) (by simp [go_sem, c2]) (by simp [go_sem, c3]) (by simp [go_sem, c4])
      · rfl
    · have h := HBB.out
      exact ((((h.setCell (by simp) _).setCell (by simp) _).setCell (by simp) _).setCell (by simp) _).setCell (by simp) _
end Go.Proofs.YtmfmakkiefgogabDoor
