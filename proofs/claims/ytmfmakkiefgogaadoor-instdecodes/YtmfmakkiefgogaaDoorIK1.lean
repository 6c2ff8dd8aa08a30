/-
  Layer 6: the document's kinds, as the document's Kinds lays them. No condition.
-/
import Derived.Test.YtmfmakkiefgogaaDoorIA2
namespace Go.Proofs.YtmfmakkiefgogaaDoor
open Go.RowKit
set_option linter.unusedVariables false

def namesL : List (List UInt8) := [[108, 117, 105], [97, 117, 105, 112, 99], [106, 97, 108], [106, 97, 108, 114], [98, 101, 113], [98, 110, 101], [98, 108, 116], [98, 103, 101], [98, 108, 116, 117], [98, 103, 101, 117], [108, 98], [108, 104], [108, 119], [108, 100], [108, 98, 117], [108, 104, 117], [108, 119, 117], [115, 98], [115, 104], [115, 119], [115, 100], [97, 100, 100, 105], [115, 108, 116, 105], [115, 108, 116, 105, 117], [120, 111, 114, 105], [111, 114, 105], [97, 110, 100, 105], [115, 108, 108, 105], [115, 114, 108, 105], [115, 114, 97, 105], [97, 100, 100, 105, 119], [115, 108, 108, 105, 119], [115, 114, 108, 105, 119], [115, 114, 97, 105, 119], [97, 100, 100], [115, 117, 98], [115, 108, 108], [115, 108, 116], [115, 108, 116, 117], [120, 111, 114], [115, 114, 108], [115, 114, 97], [111, 114], [97, 110, 100], [109, 117, 108], [109, 117, 108, 104], [109, 117, 108, 104, 115, 117], [109, 117, 108, 104, 117], [100, 105, 118], [100, 105, 118, 117], [114, 101, 109], [114, 101, 109, 117], [97, 100, 100, 119], [115, 117, 98, 119], [115, 108, 108, 119], [115, 114, 108, 119], [115, 114, 97, 119], [109, 117, 108, 119], [100, 105, 118, 119], [100, 105, 118, 117, 119], [114, 101, 109, 119], [114, 101, 109, 117, 119], [101, 99, 97, 108, 108], [101, 98, 114, 101, 97, 107]]
def nameAt (i : Nat) : ByteArray := ⟨(namesL.getD i []).toArray⟩
def formS (i : Nat) : ByteArray := ⟨#[(formAt i).toNat.toUInt8]⟩
def kopL : List Int := [55, 23, 111, 103, 99, 99, 99, 99, 99, 99, 3, 3, 3, 3, 3, 3, 3, 35, 35, 35, 35, 19, 19, 19, 19, 19, 19, 19, 19, 19, 27, 27, 27, 27, 51, 51, 51, 51, 51, 51, 51, 51, 51, 51, 51, 51, 51, 51, 51, 51, 51, 51, 59, 59, 59, 59, 59, 59, 59, 59, 59, 59, 115, 115]
def kf3L : List Int := [0, 0, 0, 0, 0, 1, 4, 5, 6, 7, 0, 1, 2, 3, 4, 5, 6, 0, 1, 2, 3, 0, 2, 3, 4, 6, 7, 1, 5, 5, 0, 1, 5, 5, 0, 0, 1, 2, 3, 4, 5, 5, 6, 7, 0, 1, 2, 3, 4, 5, 6, 7, 0, 0, 1, 5, 5, 0, 4, 5, 6, 7, 0, 0]
def kf7L : List Int := [0, 0, 0, 0, 0, 0, 0, 0, 0, 0, 0, 0, 0, 0, 0, 0, 0, 0, 0, 0, 0, 0, 0, 0, 0, 0, 0, 0, 0, 32, 0, 0, 0, 32, 0, 32, 0, 0, 0, 0, 0, 32, 0, 0, 1, 1, 1, 1, 1, 1, 1, 1, 0, 32, 0, 0, 32, 1, 1, 1, 1, 1, 0, 1]
def kindsCells : Array Value := #[.string ⟨#[108, 117, 105]⟩, .string ⟨#[85]⟩, .int .u32 55, .int .u32 0, .int .u32 0, .string ⟨#[97, 117, 105, 112, 99]⟩, .string ⟨#[85]⟩, .int .u32 23, .int .u32 0, .int .u32 0, .string ⟨#[106, 97, 108]⟩, .string ⟨#[74]⟩, .int .u32 111, .int .u32 0, .int .u32 0, .string ⟨#[106, 97, 108, 114]⟩, .string ⟨#[73]⟩, .int .u32 103, .int .u32 0, .int .u32 0, .string ⟨#[98, 101, 113]⟩, .string ⟨#[66]⟩, .int .u32 99, .int .u32 0, .int .u32 0, .string ⟨#[98, 110, 101]⟩, .string ⟨#[66]⟩, .int .u32 99, .int .u32 1, .int .u32 0, .string ⟨#[98, 108, 116]⟩, .string ⟨#[66]⟩, .int .u32 99, .int .u32 4, .int .u32 0, .string ⟨#[98, 103, 101]⟩, .string ⟨#[66]⟩, .int .u32 99, .int .u32 5, .int .u32 0, .string ⟨#[98, 108, 116, 117]⟩, .string ⟨#[66]⟩, .int .u32 99, .int .u32 6, .int .u32 0, .string ⟨#[98, 103, 101, 117]⟩, .string ⟨#[66]⟩, .int .u32 99, .int .u32 7, .int .u32 0, .string ⟨#[108, 98]⟩, .string ⟨#[73]⟩, .int .u32 3, .int .u32 0, .int .u32 0, .string ⟨#[108, 104]⟩, .string ⟨#[73]⟩, .int .u32 3, .int .u32 1, .int .u32 0, .string ⟨#[108, 119]⟩, .string ⟨#[73]⟩, .int .u32 3, .int .u32 2, .int .u32 0, .string ⟨#[108, 100]⟩, .string ⟨#[73]⟩, .int .u32 3, .int .u32 3, .int .u32 0, .string ⟨#[108, 98, 117]⟩, .string ⟨#[73]⟩, .int .u32 3, .int .u32 4, .int .u32 0, .string ⟨#[108, 104, 117]⟩, .string ⟨#[73]⟩, .int .u32 3, .int .u32 5, .int .u32 0, .string ⟨#[108, 119, 117]⟩, .string ⟨#[73]⟩, .int .u32 3, .int .u32 6, .int .u32 0, .string ⟨#[115, 98]⟩, .string ⟨#[83]⟩, .int .u32 35, .int .u32 0, .int .u32 0, .string ⟨#[115, 104]⟩, .string ⟨#[83]⟩, .int .u32 35, .int .u32 1, .int .u32 0, .string ⟨#[115, 119]⟩, .string ⟨#[83]⟩, .int .u32 35, .int .u32 2, .int .u32 0, .string ⟨#[115, 100]⟩, .string ⟨#[83]⟩, .int .u32 35, .int .u32 3, .int .u32 0, .string ⟨#[97, 100, 100, 105]⟩, .string ⟨#[73]⟩, .int .u32 19, .int .u32 0, .int .u32 0, .string ⟨#[115, 108, 116, 105]⟩, .string ⟨#[73]⟩, .int .u32 19, .int .u32 2, .int .u32 0, .string ⟨#[115, 108, 116, 105, 117]⟩, .string ⟨#[73]⟩, .int .u32 19, .int .u32 3, .int .u32 0, .string ⟨#[120, 111, 114, 105]⟩, .string ⟨#[73]⟩, .int .u32 19, .int .u32 4, .int .u32 0, .string ⟨#[111, 114, 105]⟩, .string ⟨#[73]⟩, .int .u32 19, .int .u32 6, .int .u32 0, .string ⟨#[97, 110, 100, 105]⟩, .string ⟨#[73]⟩, .int .u32 19, .int .u32 7, .int .u32 0, .string ⟨#[115, 108, 108, 105]⟩, .string ⟨#[72]⟩, .int .u32 19, .int .u32 1, .int .u32 0, .string ⟨#[115, 114, 108, 105]⟩, .string ⟨#[72]⟩, .int .u32 19, .int .u32 5, .int .u32 0, .string ⟨#[115, 114, 97, 105]⟩, .string ⟨#[72]⟩, .int .u32 19, .int .u32 5, .int .u32 32, .string ⟨#[97, 100, 100, 105, 119]⟩, .string ⟨#[73]⟩, .int .u32 27, .int .u32 0, .int .u32 0, .string ⟨#[115, 108, 108, 105, 119]⟩, .string ⟨#[75]⟩, .int .u32 27, .int .u32 1, .int .u32 0, .string ⟨#[115, 114, 108, 105, 119]⟩, .string ⟨#[75]⟩, .int .u32 27, .int .u32 5, .int .u32 0, .string ⟨#[115, 114, 97, 105, 119]⟩, .string ⟨#[75]⟩, .int .u32 27, .int .u32 5, .int .u32 32, .string ⟨#[97, 100, 100]⟩, .string ⟨#[82]⟩, .int .u32 51, .int .u32 0, .int .u32 0, .string ⟨#[115, 117, 98]⟩, .string ⟨#[82]⟩, .int .u32 51, .int .u32 0, .int .u32 32, .string ⟨#[115, 108, 108]⟩, .string ⟨#[82]⟩, .int .u32 51, .int .u32 1, .int .u32 0, .string ⟨#[115, 108, 116]⟩, .string ⟨#[82]⟩, .int .u32 51, .int .u32 2, .int .u32 0, .string ⟨#[115, 108, 116, 117]⟩, .string ⟨#[82]⟩, .int .u32 51, .int .u32 3, .int .u32 0, .string ⟨#[120, 111, 114]⟩, .string ⟨#[82]⟩, .int .u32 51, .int .u32 4, .int .u32 0, .string ⟨#[115, 114, 108]⟩, .string ⟨#[82]⟩, .int .u32 51, .int .u32 5, .int .u32 0, .string ⟨#[115, 114, 97]⟩, .string ⟨#[82]⟩, .int .u32 51, .int .u32 5, .int .u32 32, .string ⟨#[111, 114]⟩, .string ⟨#[82]⟩, .int .u32 51, .int .u32 6, .int .u32 0, .string ⟨#[97, 110, 100]⟩, .string ⟨#[82]⟩, .int .u32 51, .int .u32 7, .int .u32 0, .string ⟨#[109, 117, 108]⟩, .string ⟨#[82]⟩, .int .u32 51, .int .u32 0, .int .u32 1, .string ⟨#[109, 117, 108, 104]⟩, .string ⟨#[82]⟩, .int .u32 51, .int .u32 1, .int .u32 1, .string ⟨#[109, 117, 108, 104, 115, 117]⟩, .string ⟨#[82]⟩, .int .u32 51, .int .u32 2, .int .u32 1, .string ⟨#[109, 117, 108, 104, 117]⟩, .string ⟨#[82]⟩, .int .u32 51, .int .u32 3, .int .u32 1, .string ⟨#[100, 105, 118]⟩, .string ⟨#[82]⟩, .int .u32 51, .int .u32 4, .int .u32 1, .string ⟨#[100, 105, 118, 117]⟩, .string ⟨#[82]⟩, .int .u32 51, .int .u32 5, .int .u32 1, .string ⟨#[114, 101, 109]⟩, .string ⟨#[82]⟩, .int .u32 51, .int .u32 6, .int .u32 1, .string ⟨#[114, 101, 109, 117]⟩, .string ⟨#[82]⟩, .int .u32 51, .int .u32 7, .int .u32 1, .string ⟨#[97, 100, 100, 119]⟩, .string ⟨#[82]⟩, .int .u32 59, .int .u32 0, .int .u32 0, .string ⟨#[115, 117, 98, 119]⟩, .string ⟨#[82]⟩, .int .u32 59, .int .u32 0, .int .u32 32, .string ⟨#[115, 108, 108, 119]⟩, .string ⟨#[82]⟩, .int .u32 59, .int .u32 1, .int .u32 0, .string ⟨#[115, 114, 108, 119]⟩, .string ⟨#[82]⟩, .int .u32 59, .int .u32 5, .int .u32 0, .string ⟨#[115, 114, 97, 119]⟩, .string ⟨#[82]⟩, .int .u32 59, .int .u32 5, .int .u32 32, .string ⟨#[109, 117, 108, 119]⟩, .string ⟨#[82]⟩, .int .u32 59, .int .u32 0, .int .u32 1, .string ⟨#[100, 105, 118, 119]⟩, .string ⟨#[82]⟩, .int .u32 59, .int .u32 4, .int .u32 1, .string ⟨#[100, 105, 118, 117, 119]⟩, .string ⟨#[82]⟩, .int .u32 59, .int .u32 5, .int .u32 1, .string ⟨#[114, 101, 109, 119]⟩, .string ⟨#[82]⟩, .int .u32 59, .int .u32 6, .int .u32 1, .string ⟨#[114, 101, 109, 117, 119]⟩, .string ⟨#[82]⟩, .int .u32 59, .int .u32 7, .int .u32 1, .string ⟨#[101, 99, 97, 108, 108]⟩, .string ⟨#[78]⟩, .int .u32 115, .int .u32 0, .int .u32 0, .string ⟨#[101, 98, 114, 101, 97, 107]⟩, .string ⟨#[78]⟩, .int .u32 115, .int .u32 0, .int .u32 1]

set_option maxRecDepth 100000 in
theorem kinds_at : ∀ k, k < 64 → kindsCells[k * 5]? = some (.string (nameAt k)) ∧ kindsCells[k * 5 + 1]? = some (.string (formS k)) ∧ kindsCells[k * 5 + 2]? = some (.int .u32 (kopL.getD k 0)) ∧ kindsCells[k * 5 + 3]? = some (.int .u32 (kf3L.getD k 0)) ∧ kindsCells[k * 5 + 4]? = some (.int .u32 (kf7L.getD k 0))
  | 0, _ => ⟨rfl, rfl, rfl, rfl, rfl⟩
  | 1, _ => ⟨rfl, rfl, rfl, rfl, rfl⟩
  | 2, _ => ⟨rfl, rfl, rfl, rfl, rfl⟩
  | 3, _ => ⟨rfl, rfl, rfl, rfl, rfl⟩
  | 4, _ => ⟨rfl, rfl, rfl, rfl, rfl⟩
  | 5, _ => ⟨rfl, rfl, rfl, rfl, rfl⟩
  | 6, _ => ⟨rfl, rfl, rfl, rfl, rfl⟩
  | 7, _ => ⟨rfl, rfl, rfl, rfl, rfl⟩
  | 8, _ => ⟨rfl, rfl, rfl, rfl, rfl⟩
  | 9, _ => ⟨rfl, rfl, rfl, rfl, rfl⟩
  | 10, _ => ⟨rfl, rfl, rfl, rfl, rfl⟩
  | 11, _ => ⟨rfl, rfl, rfl, rfl, rfl⟩
  | 12, _ => ⟨rfl, rfl, rfl, rfl, rfl⟩
  | 13, _ => ⟨rfl, rfl, rfl, rfl, rfl⟩
  | 14, _ => ⟨rfl, rfl, rfl, rfl, rfl⟩
  | 15, _ => ⟨rfl, rfl, rfl, rfl, rfl⟩
  | 16, _ => ⟨rfl, rfl, rfl, rfl, rfl⟩
  | 17, _ => ⟨rfl, rfl, rfl, rfl, rfl⟩
  | 18, _ => ⟨rfl, rfl, rfl, rfl, rfl⟩
  | 19, _ => ⟨rfl, rfl, rfl, rfl, rfl⟩
  | 20, _ => ⟨rfl, rfl, rfl, rfl, rfl⟩
  | 21, _ => ⟨rfl, rfl, rfl, rfl, rfl⟩
  | 22, _ => ⟨rfl, rfl, rfl, rfl, rfl⟩
  | 23, _ => ⟨rfl, rfl, rfl, rfl, rfl⟩
  | 24, _ => ⟨rfl, rfl, rfl, rfl, rfl⟩
  | 25, _ => ⟨rfl, rfl, rfl, rfl, rfl⟩
  | 26, _ => ⟨rfl, rfl, rfl, rfl, rfl⟩
  | 27, _ => ⟨rfl, rfl, rfl, rfl, rfl⟩
  | 28, _ => ⟨rfl, rfl, rfl, rfl, rfl⟩
  | 29, _ => ⟨rfl, rfl, rfl, rfl, rfl⟩
  | 30, _ => ⟨rfl, rfl, rfl, rfl, rfl⟩
  | 31, _ => ⟨rfl, rfl, rfl, rfl, rfl⟩
  | 32, _ => ⟨rfl, rfl, rfl, rfl, rfl⟩
  | 33, _ => ⟨rfl, rfl, rfl, rfl, rfl⟩
  | 34, _ => ⟨rfl, rfl, rfl, rfl, rfl⟩
  | 35, _ => ⟨rfl, rfl, rfl, rfl, rfl⟩
  | 36, _ => ⟨rfl, rfl, rfl, rfl, rfl⟩
  | 37, _ => ⟨rfl, rfl, rfl, rfl, rfl⟩
  | 38, _ => ⟨rfl, rfl, rfl, rfl, rfl⟩
  | 39, _ => ⟨rfl, rfl, rfl, rfl, rfl⟩
  | 40, _ => ⟨rfl, rfl, rfl, rfl, rfl⟩
  | 41, _ => ⟨rfl, rfl, rfl, rfl, rfl⟩
  | 42, _ => ⟨rfl, rfl, rfl, rfl, rfl⟩
  | 43, _ => ⟨rfl, rfl, rfl, rfl, rfl⟩
  | 44, _ => ⟨rfl, rfl, rfl, rfl, rfl⟩
  | 45, _ => ⟨rfl, rfl, rfl, rfl, rfl⟩
  | 46, _ => ⟨rfl, rfl, rfl, rfl, rfl⟩
  | 47, _ => ⟨rfl, rfl, rfl, rfl, rfl⟩
  | 48, _ => ⟨rfl, rfl, rfl, rfl, rfl⟩
  | 49, _ => ⟨rfl, rfl, rfl, rfl, rfl⟩
  | 50, _ => ⟨rfl, rfl, rfl, rfl, rfl⟩
  | 51, _ => ⟨rfl, rfl, rfl, rfl, rfl⟩
  | 52, _ => ⟨rfl, rfl, rfl, rfl, rfl⟩
  | 53, _ => ⟨rfl, rfl, rfl, rfl, rfl⟩
  | 54, _ => ⟨rfl, rfl, rfl, rfl, rfl⟩
  | 55, _ => ⟨rfl, rfl, rfl, rfl, rfl⟩
  | 56, _ => ⟨rfl, rfl, rfl, rfl, rfl⟩
  | 57, _ => ⟨rfl, rfl, rfl, rfl, rfl⟩
  | 58, _ => ⟨rfl, rfl, rfl, rfl, rfl⟩
  | 59, _ => ⟨rfl, rfl, rfl, rfl, rfl⟩
  | 60, _ => ⟨rfl, rfl, rfl, rfl, rfl⟩
  | 61, _ => ⟨rfl, rfl, rfl, rfl, rfl⟩
  | 62, _ => ⟨rfl, rfl, rfl, rfl, rfl⟩
  | 63, _ => ⟨rfl, rfl, rfl, rfl, rfl⟩
  | k + 64, h => absurd h (by omega)

/-- The kinds lie in a block. -/
structure KindsAt (W : World) (B : Nat) : Prop where
  name : ∀ k, k < 64 → W.cell? ⟨B, k * 5, none⟩ = some (.string (nameAt k))
  form : ∀ k, k < 64 → W.cell? ⟨B, k * 5 + 1, none⟩ = some (.string (formS k))
  op : ∀ k, k < 64 → W.cell? ⟨B, k * 5 + 2, none⟩ = some (.int .u32 (kopL.getD k 0))
  f3 : ∀ k, k < 64 → W.cell? ⟨B, k * 5 + 3, none⟩ = some (.int .u32 (kf3L.getD k 0))
  f7 : ∀ k, k < 64 → W.cell? ⟨B, k * 5 + 4, none⟩ = some (.int .u32 (kf7L.getD k 0))
  lt : B < W.heap.size
theorem KindsAt.next {W W' : World} {B : Nat} (h : KindsAt W B) (hb : Below W.heap.size W W') : KindsAt W' B :=
  ⟨fun k hk => (hb.cell (p := ⟨B, k * 5, none⟩) h.lt).trans (h.name k hk), fun k hk => (hb.cell (p := ⟨B, k * 5 + 1, none⟩) h.lt).trans (h.form k hk), fun k hk => (hb.cell (p := ⟨B, k * 5 + 2, none⟩) h.lt).trans (h.op k hk), fun k hk => (hb.cell (p := ⟨B, k * 5 + 3, none⟩) h.lt).trans (h.f3 k hk), fun k hk => (hb.cell (p := ⟨B, k * 5 + 4, none⟩) h.lt).trans (h.f7 k hk), Nat.lt_of_lt_of_le h.lt hb.size⟩
theorem new_at (w : World) (cs : Array Value) (j : Nat) (v : Value) (h : cs[j]? = some v) : (w.alloc (.cells cs 63)).cell? ⟨w.heap.size, j, none⟩ = some v := by
  simp [go_sem, h]
theorem kinds_new (w : World) (cs : Array Value) (hc : cs = kindsCells) : KindsAt (w.alloc (.cells cs 63)) w.heap.size := by
  subst hc
  exact ⟨fun k hk => new_at w _ _ _ (kinds_at k hk).1, fun k hk => new_at w _ _ _ (kinds_at k hk).2.1, fun k hk => new_at w _ _ _ (kinds_at k hk).2.2.1, fun k hk => new_at w _ _ _ (kinds_at k hk).2.2.2.1, fun k hk => new_at w _ _ _ (kinds_at k hk).2.2.2.2, by simp⟩
end Go.Proofs.YtmfmakkiefgogaaDoor
