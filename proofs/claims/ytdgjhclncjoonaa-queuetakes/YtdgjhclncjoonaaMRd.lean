/- Whatever reads as a message, a row of messages, a state, lies in memory with bodies that are trees; no condition. -/
import Derived.Test.YtdgjhclncjoonaaDRd
import Derived.Test.YtdgjhclncjoonaaBa
namespace Go.Proofs.Ytdgjhclncjoonaa
open Go.ChangeShapes Go.WideShapes Go.ChangeAt Go.WideMaps Go.WideElems Go.RowKit

theorem mcells : Try.prog.cellsOf 30 = 13 := by kernel_rfl
theorem mlcells : Try.prog.cellsOf 22 = 1 := by kernel_rfl
/-- A message's texts are of a size that can be. -/
def Tx (x : Ms) : Prop := x.tp.size ≤ maxLen ∧ x.rp.size ≤ maxLen

set_option maxRecDepth 100000 in
theorem msg_of_trod {H : Type} {enc : TypeId × Value → H} {w : World} {base : Nat} {sp : Nat → Bool} {held : Bool} (fuel : Nat) (cs : List Value) (y : DataW H × List MemPlace)
    (h : DataW.trod enc Try.prog w base sp held fuel 30 cs = some y) :
    ∃ (x : Ms) (d : Bo), cs = (x.cs d).toList ∧ Dt.Rep w x.n d.vs x.t ∧ Tx x := by
  obtain ⟨xs, n, hn, ex, hlen, hxl, hf⟩ := DataW.trod_struct Try.underlying30 h
  rw [mcells] at hlen
  match cs, hlen with
  | [c0, c1, c2, c3, c4, c5, c6, c7, c8, c9, c10, c11, c12], _ =>
  match xs, hxl with
  | [y0, y1, y2, y3, y4, y5, y6, y7, y8], _ =>
    have h0 : DataW.trod enc Try.prog w base sp held n 2 (([c0, c1, c2, c3, c4, c5, c6, c7, c8, c9, c10, c11, c12].drop 0).take (Try.prog.cellsOf 2)) = some y0 := hf 0 _ rfl
    have h1 : DataW.trod enc Try.prog w base sp held n 9 (([c0, c1, c2, c3, c4, c5, c6, c7, c8, c9, c10, c11, c12].drop 1).take (Try.prog.cellsOf 9)) = some y1 := hf 1 _ rfl
    have h2 : DataW.trod enc Try.prog w base sp held n 28 (([c0, c1, c2, c3, c4, c5, c6, c7, c8, c9, c10, c11, c12].drop 2).take (Try.prog.cellsOf 28)) = some y2 := hf 2 _ rfl
    have h3 : DataW.trod enc Try.prog w base sp held n 2 (([c0, c1, c2, c3, c4, c5, c6, c7, c8, c9, c10, c11, c12].drop 7).take (Try.prog.cellsOf 2)) = some y3 := hf 3 _ rfl
    have h4 : DataW.trod enc Try.prog w base sp held n 2 (([c0, c1, c2, c3, c4, c5, c6, c7, c8, c9, c10, c11, c12].drop 8).take (Try.prog.cellsOf 2)) = some y4 := hf 4 _ rfl
    have h5 : DataW.trod enc Try.prog w base sp held n 9 (([c0, c1, c2, c3, c4, c5, c6, c7, c8, c9, c10, c11, c12].drop 9).take (Try.prog.cellsOf 9)) = some y5 := hf 5 _ rfl
    have h6 : DataW.trod enc Try.prog w base sp held n 2 (([c0, c1, c2, c3, c4, c5, c6, c7, c8, c9, c10, c11, c12].drop 10).take (Try.prog.cellsOf 2)) = some y6 := hf 6 _ rfl
    have h7 : DataW.trod enc Try.prog w base sp held n 3 (([c0, c1, c2, c3, c4, c5, c6, c7, c8, c9, c10, c11, c12].drop 11).take (Try.prog.cellsOf 3)) = some y7 := hf 7 _ rfl
    have h8 : DataW.trod enc Try.prog w base sp held n 3 (([c0, c1, c2, c3, c4, c5, c6, c7, c8, c9, c10, c11, c12].drop 12).take (Try.prog.cellsOf 3)) = some y8 := hf 8 _ rfl
    rw [Dt.tcellsN2] at h0 h3 h4 h6
    rw [Dt.tcellsN9] at h1 h5
    rw [Dt.tcellsN25] at h2
    rw [Dt.tcellsN3] at h7 h8
    obtain ⟨id, e0, -, -⟩ := DataW.trod_int Try.underlying2 h0
    obtain ⟨tp, e1, -, z1⟩ := DataW.trod_string Try.underlying9 h1
    obtain ⟨t, R⟩ := Dt.rep_of_trod n _ _ h2
    obtain ⟨ti, e3, -, -⟩ := DataW.trod_int Try.underlying2 h3
    obtain ⟨un, e4, -, -⟩ := DataW.trod_int Try.underlying2 h4
    obtain ⟨rp, e5, -, z5⟩ := DataW.trod_string Try.underlying9 h5
    obtain ⟨co, e6, -, -⟩ := DataW.trod_int Try.underlying2 h6
    obtain ⟨pr, e7, -, -⟩ := DataW.trod_int Try.underlying3 h7
    obtain ⟨ho, e8, -, -⟩ := DataW.trod_int Try.underlying3 h8
    simp at e0 e1 e3 e4 e5 e6 e7 e8
    subst e0 e1 e3 e4 e5 e6 e7 e8
    have R' : Dt.Rep w n [c2, c3, c4, c5, c6] t := R
    obtain ⟨k, i, u, s, a, len, cap, rfl, rfl, rfl, rfl, rfl⟩ := Dt.rep_shape' R'
    exact ⟨⟨id, tp, n, t, ti, un, rp, co, pr, ho⟩, ⟨k, i, u, s, a, len, cap⟩, rfl, R', z1, z5⟩

theorem msgl_of_trod {H : Type} {enc : TypeId × Value → H} {w : World} {base : Nat} {sp : Nat → Bool} {held : Bool} (fuel : Nat) (cs : List Value) (y : DataW H × List MemPlace)
    (h : DataW.trod enc Try.prog w base sp held fuel 22 cs = some y) :
    ∃ (ad : Option Addr) (l : List Ms) (cap : Nat), cs = [.slice ad l.length cap] ∧ l.length ≤ cap ∧ cap ≤ maxLen ∧ Mw w ad l ∧ ∀ x ∈ l, Tx x := by
  rcases DataW.trod_slice Try.underlying22 h with ⟨e4, -⟩ | ⟨a, len, cap, elems, rest, m, hm, e4, -, -, hlc, hcm, hel, hat, -, -⟩
  · exact ⟨none, [], 0, e4, Nat.le_refl _, by unfold maxLen; omega, .inl rfl, fun r hr => by cases hr⟩
  · rw [mcells] at hat
    have kid : ∀ j, j < len → ∃ x : Ms, (∃ d : Bo, (∀ q, q < 13 → w.cell? ((a.add (j * 13)).add q) = (x.cs d)[q]?) ∧ Dt.Rep w x.n d.vs x.t) ∧ Tx x := by
      intro j hj
      have hx := hat j hj
      rw [List.getElem?_eq_getElem (by omega)] at hx
      obtain ⟨cs', hc, ht⟩ := Option.bind_eq_some_iff.1 hx
      obtain ⟨-, hcl, hcc⟩ := World.cells?_some hc
      obtain ⟨x, d, e, R, tx⟩ := msg_of_trod _ _ _ ht
      subst e
      refine ⟨x, ⟨d, fun q hq => ?_, R⟩, tx⟩
      rw [hcc q hq, Array.getElem?_toList]
    obtain ⟨l, hzl, hzp⟩ := Dt.list_of _ len kid
    subst hzl
    refine ⟨some a, l, cap, e4, hlc, hcm, ?_, fun x hx => ?_⟩
    · cases hzs : l with
      | nil => exact .inl rfl
      | cons r0 rs =>
        right
        obtain ⟨b, off, spot⟩ := a
        obtain ⟨d0, h00, -⟩ := (hzp 0 r0 (by rw [hzs]; rfl)).1
        have h00' := h00 0 (by decide)
        have hspot : spot = none := by
          have := World.cell?_spot (h00'.trans (Array.getElem?_eq_getElem (by simp)))
          simpa [Addr.add] using this
        subst hspot
        refine ⟨b, off, rfl, World.block_lt_of_cell? w _ (h00'.trans (Array.getElem?_eq_getElem (by simp))), fun j x hj => ?_⟩
        obtain ⟨d, hp, R⟩ := (hzp j x (by rw [hzs]; exact hj)).1
        refine ⟨d, C13.of fun q hq => ?_, Rz.of_rep _ _ _ R⟩
        have := hp q hq
        rwa [add13, add13] at this
    · obtain ⟨j, hj, e⟩ := List.mem_iff_getElem.1 hx
      exact (hzp j x (by rw [List.getElem?_eq_getElem hj, e])).2

theorem array13 {cs : Array Value} (h : cs.size = 13) : ∃ c0 c1 c2 c3 c4 c5 c6 c7 c8 c9 c10 c11 c12, cs = #[c0, c1, c2, c3, c4, c5, c6, c7, c8, c9, c10, c11, c12] := by
  obtain ⟨l⟩ := cs
  match l, h with
  | [c0, c1, c2, c3, c4, c5, c6, c7, c8, c9, c10, c11, c12], _ => exact ⟨c0, c1, c2, c3, c4, c5, c6, c7, c8, c9, c10, c11, c12, rfl⟩
theorem array2 {cs : Array Value} (h : cs.size = 2) : ∃ c0 c1, cs = #[c0, c1] := by
  obtain ⟨l⟩ := cs
  match l, h with
  | [c0, c1], _ => exact ⟨c0, c1, rfl⟩

theorem bcell : Try.prog.cellsOf 4 = 1 := by kernel_rfl
/-- What reads as a row of bools lies in memory so. -/
theorem bl_of_trod {H : Type} {enc : TypeId × Value → H} {w : World} {base : Nat} {sp : Nat → Bool} {held : Bool} (fuel : Nat) (cs : List Value) (y : DataW H × List MemPlace)
    (h : DataW.trod enc Try.prog w base sp held fuel 48 cs = some y) :
    ∃ (ad : Option Addr) (l : List Bool) (cap : Nat), cs = [.slice ad l.length cap] ∧ l.length ≤ cap ∧ cap ≤ maxLen ∧ (l = [] ∨ ∃ g o, ad = some ⟨g, o, none⟩ ∧ g < w.heap.size ∧ ∀ j b, l[j]? = some b → w.cell? ⟨g, o + j, none⟩ = some (.bool b)) := by
  rcases DataW.trod_slice Try.underlying48 h with ⟨e4, -⟩ | ⟨a, len, cap, elems, rest, m, hm, e4, -, -, hlc, hcm, hel, hat, -, -⟩
  · exact ⟨none, [], 0, e4, Nat.le_refl _, by unfold maxLen; omega, .inl rfl⟩
  · rw [bcell] at hat
    have kid : ∀ j, j < len → ∃ b : Bool, w.cell? ((a.add (j * 1)).add 0) = some (.bool b) := by
      intro j hj
      have hx := hat j hj
      rw [List.getElem?_eq_getElem (by omega)] at hx
      obtain ⟨cs', hc, ht⟩ := Option.bind_eq_some_iff.1 hx
      obtain ⟨-, hcl, hcc⟩ := World.cells?_some hc
      obtain ⟨b, e, -⟩ := DataW.trod_bool Try.underlying4 ht
      subst e
      exact ⟨b, by rw [hcc 0 (by decide)]; rfl⟩
    obtain ⟨l, hzl, hzp⟩ := Dt.list_of _ len kid
    subst hzl
    refine ⟨some a, l, cap, e4, hlc, hcm, ?_⟩
    cases hzs : l with
    | nil => exact .inl rfl
    | cons r0 rs =>
      right
      obtain ⟨b, off, spot⟩ := a
      have h00 := hzp 0 r0 (by rw [hzs]; rfl)
      have hspot : spot = none := by
        have := World.cell?_spot h00
        simpa [Addr.add] using this
      subst hspot
      refine ⟨b, off, rfl, World.block_lt_of_cell? w _ h00, fun j x hj => ?_⟩
      have := hzp j x (by rw [hzs]; exact hj)
      rw [add13, add13] at this
      simpa using this
end Go.Proofs.Ytdgjhclncjoonaa
