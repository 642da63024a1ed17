/- The ground of the walks: a text's bytes as a list, a row of texts in memory; no condition but those that each theorem names. -/
import Derived.Test.YtcbplamomhimiaaDoorRows
import Derived.WalkKit
import Derived.WalkSpells
import Derived.WalkLawsBesides
import Derived.Deep.QuietTactic
import Derived.BigQuiet
import Derived.Deep.RegionHeld3
import Derived.Laws.IdiomStrings
import Derived.Below
import Derived.Lib.Walk
import Derived.Lib.Join
import Derived.Lib.Hide
import Derived.Deep.LoopGhost
import Derived.Maps.AppendAt
import Derived.WalkMore
import Derived.OwnWalk
namespace Go.Proofs.YtcbplamomhimiaaDoor
open Go.RowKit

abbrev Bs := List UInt8
/-- A text's bytes. -/
abbrev tl (x : ByteArray) : Bs := x.toList
/-- Bytes as a text. -/
def bs (l : Bs) : ByteArray := ⟨l.toArray⟩
theorem tl_data (x : ByteArray) : tl x = x.data.toList := Lib.toList_data x
theorem tl_bs (l : Bs) : tl (bs l) = l := by rw [tl_data]; simp [bs]
theorem bs_tl (x : ByteArray) : bs (tl x) = x := by rw [tl_data]; cases x; simp [bs]
theorem tl_inj {x y : ByteArray} : tl x = tl y ↔ x = y := ⟨fun h => by rw [← bs_tl x, h, bs_tl], fun h => by rw [h]⟩
theorem bs_inj {x y : Bs} : bs x = bs y ↔ x = y := ⟨fun h => by rw [← tl_bs x, h, tl_bs], fun h => by rw [h]⟩
theorem tl_size (x : ByteArray) : (tl x).length = x.size := by rw [tl_data, Array.length_toList]; rfl
theorem ret_b {a b : Bool} (h : a = b) : Ending.returned (.bool a) = .returned (.bool b) := by rw [h]
theorem below1 (w : World) (o : Obj) : Below w.heap.size w (w.alloc o) := (Below.refl _ w).alloc (Nat.le_refl _) _
theorem below_drewN {B : Nat} {a w : World} (h : Below B a w) : ∀ q, Below B a (w.drewN q)
  | 0 => h
  | q + 1 => (below_drewN h q).drew

theorem heap_alloc_new (w : World) (o : Obj) : (w.alloc o).heap[w.heap.size]? = some o := by
  show (w.heap.push o)[w.heap.size]? = some o
  simp

/-- Texts in memory, from a place on. -/
def Row (W : World) (b o : Nat) (xs : List ByteArray) : Prop := ∀ (j : Nat) x, xs[j]? = some x → W.cell? ⟨b, o + j, none⟩ = some (.string x)

theorem Row.below {n : Nat} {A B : World} {b o : Nat} {xs : List ByteArray} (h : Row A b o xs) (hB : Below n A B) (hb : b < n) : Row B b o xs :=
  fun j x hx => (hB.cell (p := ⟨b, o + j, none⟩) hb).trans (h j x hx)
theorem Row.tail {W : World} {b o : Nat} {x : ByteArray} {xs : List ByteArray} (h : Row W b o (x :: xs)) : Row W b (o + 1) xs :=
  fun j y hy => by have := h (j + 1) y (by simpa using hy); rwa [show o + (j + 1) = o + 1 + j by omega] at this
theorem Row.at {W : World} {b o : Nat} {xs : List ByteArray} (h : Row W b o xs) (j : Nat) (hj : j < xs.length) : W.cell? ⟨b, o + j, none⟩ = some (.string xs[j]) := h j _ (by simp [hj])

theorem cells2 (w : World) (a b : Value) (t : TypeId) : (w.alloc (.cells #[a, b] t)).cell? ⟨w.heap.size, 0, none⟩ = some a ∧ (w.alloc (.cells #[a, b] t)).cell? ⟨w.heap.size, 1, none⟩ = some b := by
  have h : (w.alloc (.cells #[a, b] t)).heap[w.heap.size]? = some (.cells #[a, b] t) := heap_alloc_new w _
  constructor <;> simp only [World.cell?, h] <;> rfl

theorem infoStr : (Tryd.prog.info? 9).map (fun i => (i.zero, i.size, i.bytes)) = some (some (.string ⟨#[]⟩), 1, 16) := by kernel_rfl

/-- A row that a call has built: its cells. -/
theorem owns_row {w : World} {base : Nat} {v : Value} {xs : List ByteArray} (h : w.ownsRow base 9 1 v xs.length (xs.map Value.string)) (h0 : xs ≠ []) :
    ∃ g c, v = .slice (some ⟨g, 0, none⟩) xs.length c ∧ base ≤ g ∧ g < w.heap.size ∧ xs.length ≤ c ∧ Row w g 0 xs := by
  obtain ⟨_, (⟨_, h2⟩ | ⟨g, c, cur, h1, h2, h3, h4, _, _, h7⟩)⟩ := h
  · exact absurd (List.length_eq_zero_iff.1 h2) h0
  · refine ⟨g, c, h1, h2, (Array.getElem?_eq_some_iff.1 h3).1, h4, fun j x hx => ?_⟩
    have e : cur[j]? = some (.string x) := by
      have hj : j < xs.length := (List.getElem?_eq_some_iff.1 hx).1
      rw [← Array.getElem?_toList]
      have := congrArg (·[j]?) h7
      simp only [List.getElem?_map, hx, Option.map_some, Nat.mul_one] at this
      rw [List.getElem?_take_of_lt hj] at this
      exact this
    simp only [World.cell?, h3, Nat.zero_add]
    exact e

theorem below_grown {B : Nat} {a w w' : World} {v : Value} {e : TypeId} {k n : Nat} {xs : List Value} (h : Below B a w) (hg : w.grownBy w' v.ownBlock) (ho : w.ownsRow B e k v n xs) (hB : B ≤ a.heap.size) : Below B a w' := by
  refine h.grown hg (Nat.le_trans hB h.size) ?_
  intro g hv
  obtain ⟨_, (⟨rfl, _⟩ | ⟨g', c, cur, rfl, h2, _⟩)⟩ := ho
  · cases hv
  · cases hv; exact h2
end Go.Proofs.YtcbplamomhimiaaDoor
