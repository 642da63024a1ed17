/- The ground of the walks over topics: a text's bytes as a list, a row of texts in memory; small calls: isWithin, narrower, levelAt; no condition but those that each theorem names. -/
import Derived.Test.YtkgbpildikjoiaaGreatDoorRows
import Derived.WalkKit
import Derived.WalkSpells
import Derived.WalkLawsBesides
import Derived.Deep.QuietTactic
import Derived.BigQuiet
import Derived.Deep.RegionHeld3
import Derived.Laws.IdiomStrings
import Derived.Below
import Derived.Lib.Walk
import Derived.Test.YtkgbpildikjoiaaGreatDoorBase
import Derived.Test.YtkgbpildikjoiaaGreatDoorTp
namespace Go.Proofs.YtkgbpildikjoiaaGreatDoor
open Go.RowKit Tp

/-- A text's bytes. -/
abbrev tl (x : ByteArray) : Bs := x.toList
/-- Bytes as a text. -/
def bs (l : Bs) : ByteArray := ⟨l.toArray⟩
theorem tl_data (x : ByteArray) : tl x = x.data.toList := Lib.toList_data x
theorem tl_bs (l : Bs) : tl (bs l) = l := by rw [tl_data]; simp [bs]
theorem bs_tl (x : ByteArray) : bs (tl x) = x := by rw [tl_data]; cases x; simp [bs]
theorem tl_inj {x y : ByteArray} : tl x = tl y ↔ x = y := ⟨fun h => by rw [← bs_tl x, h, bs_tl], fun h => by rw [h]⟩
theorem tl_size (x : ByteArray) : (tl x).length = x.size := by rw [tl_data, Array.length_toList]; rfl
theorem below_drewN {B : Nat} {a w : World} (h : Below B a w) : ∀ q, Below B a (w.drewN q)
  | 0 => h
  | q + 1 => (below_drewN h q).drew

def within (level wide : Bs) : Bool :=
  if wide = ha then true else if wide = pl then (!(level == ha) && !(level == no)) else level == wide

theorem isWithin_any (x y : ByteArray) (w : World) :
    Calls Tryz.prog 112 #[.string x, .string y] w fun e w' => e = .returned (.bool (within (tl x) (tl y))) ∧ w' = w := by
  go_enter Tryz.func112, Tryz.ntmps112
  go_wp2
  · rename_i h1
    go_ret
    exact ⟨ret_b (by have h1 : y.toList = ha := by simpa using h1
                     simp [within, h1]), rfl⟩
  · rename_i h1 h2 h3
    go_ret
    exact ⟨ret_b (by have h2 : y.toList = pl := by simpa using h2
                     simp [within, h2, h3]), rfl⟩
  · rename_i h1 h2 h3
    go_ret
    exact ⟨ret_b (by have h2 : y.toList = pl := by simpa using h2
                     simp [within, h2]), rfl⟩
  · rename_i h1 h2
    go_ret
    exact ⟨ret_b (by have h1 : y.toList ≠ ha := by simpa using h1
                     have h2 : y.toList ≠ pl := by simpa using h2
                     simp [within, h1, h2]), rfl⟩

theorem wild_any (x : ByteArray) (w : World) :
    Calls Tryz.prog 30 #[.string x] w fun e w' => e = .returned (.bool (decide (tl x = pl ∨ tl x = ha))) ∧ w' = w := by
  go_enter Tryz.func30, Tryz.ntmps30
  go_wp2
  all_goals (rename_i h; go_ret; refine ⟨ret_b ?_, rfl⟩; simp [h, Bool.beq_eq_decide_eq])

theorem heap_alloc_new (w : World) (o : Obj) : (w.alloc o).heap[w.heap.size]? = some o := by
  show (w.heap.push o)[w.heap.size]? = some o
  simp

/-- Texts in memory, from a place on. -/
def Row (W : World) (b o : Nat) (xs : List ByteArray) : Prop := ∀ (j : Nat) x, xs[j]? = some x → W.cell? ⟨b, o + j, none⟩ = some (.string x)

theorem Row.below {n : Nat} {A B : World} {b o : Nat} {xs : List ByteArray} (h : Row A b o xs) (hB : Below n A B) (hb : b < n) : Row B b o xs :=
  fun j x hx => (hB.cell (p := ⟨b, o + j, none⟩) hb).trans (h j x hx)
theorem Row.tail {W : World} {b o : Nat} {x : ByteArray} {xs : List ByteArray} (h : Row W b o (x :: xs)) : Row W b (o + 1) xs :=
  fun j y hy => by have := h (j + 1) y (by simpa using hy); rwa [show o + (j + 1) = o + 1 + j by omega] at this
theorem Row.at {W : World} {b o : Nat} {xs : List ByteArray} (h : Row W b o xs) (j : Nat) (hj : j < xs.length) : W.cell? ⟨b, o + j, none⟩ = some (.string xs[j]) := h j _ (by simp [hj])

def lvA (xs : List ByteArray) (i : Nat) : ByteArray := (xs[i]?).getD (if (xs.getLast?).map tl = some ha then bs ha else bs no)

theorem levelAt_any (b o c i : Nat) (xs : List ByteArray) (w : World) (h : Row w b o xs) (h0 : xs ≠ []) (hc : xs.length ≤ 1048577) :
    Calls Tryz.prog 101 #[.slice (some ⟨b, o, none⟩) xs.length c, .int .i64 i] w fun e w' => e = .returned (.string (lvA xs i)) ∧ w' = w := by
  have hp := List.length_pos_iff.2 h0
  by_cases hi : i < xs.length
  · have c1 := h.at i hi
    have e : lvA xs i = xs[i] := by simp [lvA, hi]
    rw [e]
    generalize xs[i] = x at c1 ⊢
    go_enter Tryz.func101, Tryz.ntmps101
    go_wp2
    go_ret
    exact ⟨rfl, rfl⟩
  · have c1 := h.at (xs.length - 1) (by omega)
    have e : lvA xs i = if tl xs[xs.length - 1] = ha then bs ha else bs no := by
      have : xs[i]? = none := by simp; omega
      simp [lvA, this, List.getLast?_eq_getElem?, show xs.length - 1 < xs.length by omega]
    rw [e]
    generalize xs[xs.length - 1] = x at c1 ⊢
    obtain ⟨z, hz⟩ : ∃ z, (if tl x = ha then bs ha else bs no) = z := ⟨_, rfl⟩
    rw [hz]
    go_enter Tryz.func101, Tryz.ntmps101
    go_wp2
    · rename_i h1
      go_ret
      have h1 : tl x = ha := by simpa using h1
      rw [← hz, if_pos h1]
      exact ⟨rfl, rfl⟩
    · rename_i h1
      go_ret
      have h1 : tl x ≠ ha := by simpa using h1
      rw [← hz, if_neg h1]
      exact ⟨rfl, rfl⟩

def narr (x y : Bs) : Option Bs := if within y x then some y else if within x y then some x else none

theorem cells2 (w : World) (a b : Value) (t : TypeId) : (w.alloc (.cells #[a, b] t)).cell? ⟨w.heap.size, 0, none⟩ = some a ∧ (w.alloc (.cells #[a, b] t)).cell? ⟨w.heap.size, 1, none⟩ = some b := by
  have h : (w.alloc (.cells #[a, b] t)).heap[w.heap.size]? = some (.cells #[a, b] t) := heap_alloc_new w _
  constructor <;> simp only [World.cell?, h] <;> rfl

theorem narrower_any (x y : ByteArray) (w : World) :
    Calls Tryz.prog 102 #[.agg #[.string x, .string y]] w fun e w' => e = .returned (.tuple #[.string (bs ((narr (tl x) (tl y)).getD [])), .bool (narr (tl x) (tl y)).isSome]) ∧ Below w.heap.size w w' := by
  obtain ⟨c0, c1⟩ := cells2 w (.string x) (.string y) 162
  have hB := below1 w (.cells #[.string x, .string y] 162)
  cases h1 : within (tl y) (tl x) with
  | true =>
    have e : narr (tl x) (tl y) = some (tl y) := by simp [narr, h1]
    rw [e, Option.getD_some, bs_tl, Option.isSome_some]
    go_enter Tryz.func102, Tryz.ntmps102
    go_wp2_with (go_at_call 112; refine (isWithin_any _ _ _).mono ?_; rintro e w' ⟨rfl, rfl⟩; rw [h1])
    go_ret2
    exact ⟨rfl, hB⟩
  | false =>
    cases h2 : within (tl x) (tl y) with
    | true =>
      have e : narr (tl x) (tl y) = some (tl x) := by simp [narr, h1, h2]
      rw [e, Option.getD_some, bs_tl, Option.isSome_some]
      go_enter Tryz.func102, Tryz.ntmps102
      go_wp2_with (go_at_call 112; refine (isWithin_any _ _ _).mono ?_; rintro e w' ⟨rfl, rfl⟩; first | rw [h1] | rw [h2])
      go_ret2
      exact ⟨rfl, hB⟩
    | false =>
      have e : narr (tl x) (tl y) = none := by simp [narr, h1, h2]
      rw [e]
      go_enter Tryz.func102, Tryz.ntmps102
      go_wp2_with (go_at_call 112; refine (isWithin_any _ _ _).mono ?_; rintro e w' ⟨rfl, rfl⟩; first | rw [h1] | rw [h2])
      go_ret2
      exact ⟨rfl, hB⟩

theorem infoStr : (Tryz.prog.info? 9).map (fun i => (i.zero, i.size, i.bytes)) = some (some (.string ⟨#[]⟩), 1, 16) := by kernel_rfl

/-- A row that a call has built: its cells. -/
theorem owns_row {w : World} {base : Nat} {v : Value} {xs : List ByteArray} (h : w.ownsRow base 9 1 v xs.length (xs.map Value.string)) (h0 : xs ≠ []) :
    ∃ g c, v = .slice (some ⟨g, 0, none⟩) xs.length c ∧ base ≤ g ∧ g < w.heap.size ∧ xs.length ≤ c ∧ Row w g 0 xs := by
  obtain ⟨_, (⟨_, h2⟩ | ⟨g, c, cur, h1, h2, h3, h4, _, _, h7⟩)⟩ := h
  · exact absurd (List.length_eq_zero_iff.1 h2) h0
  · refine ⟨g, c, h1, h2, (Array.getElem?_eq_some_iff.1 h3).1, h4, fun j x hx => ?_⟩
    have e : cur[j]? = some (.string x) := by
      have hj : j < xs.length := (List.getElem?_eq_some_iff.1 hx).1
      rw [← Array.getElem?_toList]
      have := congrArg (·[j]?) h7
      simp only [List.getElem?_map, hx, Option.map_some, Nat.mul_one] at this
      rw [List.getElem?_take_of_lt hj] at this
      exact this
    simp only [World.cell?, h3, Nat.zero_add]
    exact e

theorem below_grown {B : Nat} {a w w' : World} {v : Value} {e : TypeId} {k n : Nat} {xs : List Value} (h : Below B a w) (hg : w.grownBy w' v.ownBlock) (ho : w.ownsRow B e k v n xs) (hB : B ≤ a.heap.size) : Below B a w' := by
  refine h.grown hg (Nat.le_trans hB h.size) ?_
  intro g hv
  obtain ⟨_, (⟨rfl, _⟩ | ⟨g', c, cur, rfl, h2, _⟩)⟩ := ho
  · cases hv
  · cases hv; exact h2
end Go.Proofs.YtkgbpildikjoiaaGreatDoor
