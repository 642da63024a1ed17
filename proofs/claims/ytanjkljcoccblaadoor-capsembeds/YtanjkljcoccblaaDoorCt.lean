/- The two tables of the package in memory, has, and one number of a table; no condition but those that each theorem names. -/
import Derived.Test.YtanjkljcoccblaaDoorCb
import Derived.Test.YtanjkljcoccblaaDoorCp
namespace Go.Proofs.YtanjkljcoccblaaDoor
open Go.RowKit

/-- The words, the needs. -/
def wds : List Bs := [[102, 108, 117, 115, 104], [99, 108, 111, 115, 101], [98, 97, 116, 99, 104], [97, 99, 107], [112, 105, 110, 103], [114, 101, 115, 101, 116], [115, 97, 118, 101], [108, 111, 97, 100], [110, 97, 109, 101], [117, 110, 116, 105, 108], [111, 112, 101, 110]]
def Wds (W : World) : Prop := 0 < W.heap.size ∧ ∀ (j : Nat) x, wds[j]? = some x → W.cell? ⟨0, j, none⟩ = some (.string (bs x))
def nds : List Int := [4, 1, 128, 64, 8, 512, 32, 16]
def Nds (W : World) : Prop := 1 < W.heap.size ∧ ∀ (j : Nat) x, nds[j]? = some x → W.cell? ⟨1, j, none⟩ = some (.int .u32 x)
theorem Wds.from {n : Nat} {W W' : World} (h : Wds W) (hn : W.heap.size ≤ n) (hB : Below n W W') : Wds W' :=
  ⟨Nat.lt_of_lt_of_le h.1 hB.size, fun j x hj => (hB.cell (p := ⟨0, j, none⟩) (by show 0 < n; have := h.1; omega)).trans (h.2 j x hj)⟩
theorem Nds.from {n : Nat} {W W' : World} (h : Nds W) (hn : W.heap.size ≤ n) (hB : Below n W W') : Nds W' :=
  ⟨Nat.lt_of_lt_of_le h.1 hB.size, fun j x hj => (hB.cell (p := ⟨1, j, none⟩) (by show 1 < n; have := h.1; omega)).trans (h.2 j x hj)⟩
theorem Wds.below {W W' : World} (h : Wds W) (hB : Below W.heap.size W W') : Wds W' := h.from (Nat.le_refl _) hB
theorem Nds.below {W W' : World} (h : Nds W) (hB : Below W.heap.size W W') : Nds W' := h.from (Nat.le_refl _) hB

set_option maxHeartbeats 1000000 in
theorem has_any (c d : Nat) (w : World) (hc : c < 4294967296) (hd : d < 4294967296) : Calls Tryd.prog 28 #[.int .u32 (c : Nat), .int .u32 (d : Nat)] w fun e w' => e = .returned (.bool (decide (c &&& d = d))) ∧ w' = w := by
  have e1 := (u32_bits c d hc hd).1
  have e2 : ((((c &&& d : Nat) : Int)) == (d : Int)) = decide (c &&& d = d) := by
    by_cases h : c &&& d = d
    · rw [decide_eq_true h, h]; simp
    · rw [decide_eq_false h]; simp; omega
  go_enter Tryd.func28, Tryd.ntmps28
  go_wp2
  go_ret
  exact ⟨rfl, rfl⟩
end Go.Proofs.YtanjkljcoccblaaDoor
