/- Whatever reads as a message, or as a row of routes, lies in memory as such; no condition. -/
import Derived.Test.YtkgbpildikjoiaaGreatDoorDRd6
import Derived.Test.YtkgbpildikjoiaaGreatDoorRdW
import Derived.Test.YtkgbpildikjoiaaGreatDoorVc
namespace Go.Proofs.YtkgbpildikjoiaaGreatDoor
open Go.ChangeShapes Go.WideShapes Go.ChangeAt Go.WideMaps Go.WideElems Go.RowKit

theorem mcells : Tryz.prog.cellsOf 28 = 13 := by kernel_rfl
theorem rcells : Tryz.prog.cellsOf 45 = 6 := by kernel_rfl
theorem bcells : Tryz.prog.cellsOf 4 = 1 := by kernel_rfl

set_option maxRecDepth 100000 in
theorem mg_of_trod {H : Type} {enc : TypeId × Value → H} {w : World} {base : Nat} {sp : Nat → Bool} {held : Bool} (fuel : Nat) (cs : List Value) (y : DataW H × List MemPlace)
    (h : DataW.trod enc Tryz.prog w base sp held fuel 28 cs = some y) :
    ∃ (m : Mg) (n : Nat) (d : Dt.Tr n), cs = m.cs.toList ∧ Dt.Rep w n [.int .i64 m.k, .int .i64 m.i, .int .u64 m.u, .string m.s, .slice m.a m.l m.c] d ∧ m.tp.size ≤ maxLen := by
  obtain ⟨xs, n, hn, ex, hlen, hxl, hf⟩ := DataW.trod_struct Tryz.underlying28 h
  rw [mcells] at hlen
  match cs, hlen with
  | [c0, c1, c2, c3, c4, c5, c6, c7, c8, c9, c10, c11, c12], _ =>
  match xs, hxl with
  | [y0, y1, y2, y3, y4, y5, y6, y7, y8], _ =>
    have h0 : DataW.trod enc Tryz.prog w base sp held n 2 (([c0, c1, c2, c3, c4, c5, c6, c7, c8, c9, c10, c11, c12].drop 0).take (Tryz.prog.cellsOf 2)) = some y0 := hf 0 _ rfl
    have h1 : DataW.trod enc Tryz.prog w base sp held n 9 (([c0, c1, c2, c3, c4, c5, c6, c7, c8, c9, c10, c11, c12].drop 1).take (Tryz.prog.cellsOf 9)) = some y1 := hf 1 _ rfl
    have h2 : DataW.trod enc Tryz.prog w base sp held n 26 (([c0, c1, c2, c3, c4, c5, c6, c7, c8, c9, c10, c11, c12].drop 2).take (Tryz.prog.cellsOf 26)) = some y2 := hf 2 _ rfl
    have h3 : DataW.trod enc Tryz.prog w base sp held n 2 (([c0, c1, c2, c3, c4, c5, c6, c7, c8, c9, c10, c11, c12].drop 7).take (Tryz.prog.cellsOf 2)) = some y3 := hf 3 _ rfl
    have h4 : DataW.trod enc Tryz.prog w base sp held n 2 (([c0, c1, c2, c3, c4, c5, c6, c7, c8, c9, c10, c11, c12].drop 8).take (Tryz.prog.cellsOf 2)) = some y4 := hf 4 _ rfl
    have h5 : DataW.trod enc Tryz.prog w base sp held n 9 (([c0, c1, c2, c3, c4, c5, c6, c7, c8, c9, c10, c11, c12].drop 9).take (Tryz.prog.cellsOf 9)) = some y5 := hf 5 _ rfl
    have h6 : DataW.trod enc Tryz.prog w base sp held n 2 (([c0, c1, c2, c3, c4, c5, c6, c7, c8, c9, c10, c11, c12].drop 10).take (Tryz.prog.cellsOf 2)) = some y6 := hf 6 _ rfl
    have h7 : DataW.trod enc Tryz.prog w base sp held n 3 (([c0, c1, c2, c3, c4, c5, c6, c7, c8, c9, c10, c11, c12].drop 11).take (Tryz.prog.cellsOf 3)) = some y7 := hf 7 _ rfl
    have h8 : DataW.trod enc Tryz.prog w base sp held n 3 (([c0, c1, c2, c3, c4, c5, c6, c7, c8, c9, c10, c11, c12].drop 12).take (Tryz.prog.cellsOf 3)) = some y8 := hf 8 _ rfl
    rw [Dt.tcellsN2] at h0 h3 h4 h6
    rw [Dt.tcellsN9] at h1 h5
    rw [Dt.tcellsN25] at h2
    rw [Dt.tcellsN3] at h7 h8
    obtain ⟨id, e0, -, -⟩ := DataW.trod_int Tryz.underlying2 h0
    obtain ⟨tp, e1, -, z1⟩ := DataW.trod_string Tryz.underlying9 h1
    obtain ⟨t, R⟩ := Dt.rep_of_trod n _ _ h2
    obtain ⟨ti, e3, -, -⟩ := DataW.trod_int Tryz.underlying2 h3
    obtain ⟨un, e4, -, -⟩ := DataW.trod_int Tryz.underlying2 h4
    obtain ⟨rp, e5, -, z5⟩ := DataW.trod_string Tryz.underlying9 h5
    obtain ⟨co, e6, -, -⟩ := DataW.trod_int Tryz.underlying2 h6
    obtain ⟨pr, e7, -, -⟩ := DataW.trod_int Tryz.underlying3 h7
    obtain ⟨ho, e8, -, -⟩ := DataW.trod_int Tryz.underlying3 h8
    simp at e0 e1 e3 e4 e5 e6 e7 e8
    subst e0 e1 e3 e4 e5 e6 e7 e8
    have R' : Dt.Rep w n [c2, c3, c4, c5, c6] t := R
    obtain ⟨k, i, u, s, a, len, cap, rfl, rfl, rfl, rfl, rfl⟩ := Dt.rep_shape R'
    exact ⟨⟨id, tp, k, i, u, s, a, len, cap, ti, un, rp, co, pr, ho⟩, n, t, rfl, R', z1⟩

set_option maxRecDepth 100000 in
theorem ro_of_trod {H : Type} {enc : TypeId × Value → H} {w : World} {base : Nat} {sp : Nat → Bool} {held : Bool} (fuel : Nat) (cs : List Value) (y : DataW H × List MemPlace)
    (h : DataW.trod enc Tryz.prog w base sp held fuel 45 cs = some y) :
    ∃ x : Ro, cs = [.string x.f, .int .i64 x.o, .int .i64 x.a, .slice x.wd x.wl x.wc, .int .i64 x.h, .bool x.e] ∧ RepW w x.n x.wv x.t ∧ x.f.size ≤ maxLen := by
  obtain ⟨xs, n, hn, ex, hlen, hxl, hf⟩ := DataW.trod_struct Tryz.underlying45 h
  rw [rcells] at hlen
  match cs, hlen with
  | [c0, c1, c2, c3, c4, c5], _ =>
  match xs, hxl with
  | [y0, y1, y2, y3], _ =>
    have h0 : DataW.trod enc Tryz.prog w base sp held n 9 (([c0, c1, c2, c3, c4, c5].drop 0).take (Tryz.prog.cellsOf 9)) = some y0 := hf 0 _ rfl
    have h1 : DataW.trod enc Tryz.prog w base sp held n 43 (([c0, c1, c2, c3, c4, c5].drop 1).take (Tryz.prog.cellsOf 43)) = some y1 := hf 1 _ rfl
    have h2 : DataW.trod enc Tryz.prog w base sp held n 3 (([c0, c1, c2, c3, c4, c5].drop 4).take (Tryz.prog.cellsOf 3)) = some y2 := hf 2 _ rfl
    have h3 : DataW.trod enc Tryz.prog w base sp held n 4 (([c0, c1, c2, c3, c4, c5].drop 5).take (Tryz.prog.cellsOf 4)) = some y3 := hf 3 _ rfl
    rw [Dt.tcellsN9] at h0
    rw [wcells] at h1
    rw [Dt.tcellsN3] at h2
    rw [bcells] at h3
    obtain ⟨f, e0, -, z0⟩ := DataW.trod_string Tryz.underlying9 h0
    obtain ⟨t, R⟩ := repW_of_trod n _ _ h1
    obtain ⟨hh, e2, -, -⟩ := DataW.trod_int Tryz.underlying3 h2
    obtain ⟨e, e3, -⟩ := DataW.trod_bool Tryz.underlying4 h3
    simp at e0 e2 e3
    subst e0 e2 e3
    have R' : RepW w n [c1, c2, c3] t := R
    obtain ⟨o, a, wd, wl, wc, rfl, rfl, rfl⟩ := repW_shape R'
    exact ⟨⟨f, n, t, o, a, wd, wl, wc, hh, e⟩, rfl, R', z0⟩

theorem rol_of_trod {H : Type} {enc : TypeId × Value → H} {w : World} {base : Nat} {sp : Nat → Bool} {held : Bool} (fuel : Nat) (cs : List Value) (y : DataW H × List MemPlace)
    (h : DataW.trod enc Tryz.prog w base sp held fuel 22 cs = some y) :
    ∃ (ad : Option Addr) (L : List Ro) (cap : Nat), cs = [.slice ad L.length cap] ∧ Rs w ad L := by
  rcases DataW.trod_slice Tryz.underlying22 h with ⟨e4, -⟩ | ⟨a, len, cap, elems, rest, m, hm, e4, -, -, hlc, hcm, hel, hat, -, -⟩
  · exact ⟨none, [], 0, e4, .inl rfl⟩
  · rw [rcells] at hat
    have kid : ∀ j, j < len → ∃ x : Ro, (∀ q, q < 6 → w.cell? ((a.add (j * 6)).add q) = [Value.string x.f, .int .i64 x.o, .int .i64 x.a, .slice x.wd x.wl x.wc, .int .i64 x.h, .bool x.e][q]?) ∧ RepW w x.n x.wv x.t ∧ x.f.size ≤ maxLen := by
      intro j hj
      have hx := hat j hj
      rw [List.getElem?_eq_getElem (by omega)] at hx
      obtain ⟨cs', hc, ht⟩ := Option.bind_eq_some_iff.1 hx
      obtain ⟨-, hcl, hcc⟩ := World.cells?_some hc
      obtain ⟨x, e, R, z⟩ := ro_of_trod _ _ _ ht
      subst e
      exact ⟨x, fun q hq => hcc q hq, R, z⟩
    obtain ⟨L, hzl, hzp⟩ := list_of _ len kid
    subst hzl
    refine ⟨some a, L, cap, e4, ?_⟩
    cases hzs : L with
    | nil => exact .inl rfl
    | cons r0 rs =>
      right
      obtain ⟨b, off, spot⟩ := a
      have h00 := (hzp 0 r0 (by rw [hzs]; rfl)).1 0 (by decide)
      have hspot : spot = none := by
        have := World.cell?_spot h00
        simpa [Addr.add] using this
      subst hspot
      refine ⟨b, off, rfl, fun j x hj => ?_⟩
      obtain ⟨hp, R, z⟩ := hzp j x (by rw [hzs]; exact hj)
      have key : ∀ q, q < 6 → w.cell? ⟨b, off + j * 6 + q, none⟩ = [Value.string x.f, .int .i64 x.o, .int .i64 x.a, .slice x.wd x.wl x.wc, .int .i64 x.h, .bool x.e][q]? := fun q hq => by
        have := hp q hq
        rwa [add_plain', add_plain'] at this
      exact ⟨⟨key 0 (by decide), key 1 (by decide), key 2 (by decide), key 3 (by decide), key 4 (by decide), key 5 (by decide)⟩, R, z⟩
theorem array13 {cs : Array Value} (h : cs.size = 13) : ∃ c0 c1 c2 c3 c4 c5 c6 c7 c8 c9 c10 c11 c12, cs = #[c0, c1, c2, c3, c4, c5, c6, c7, c8, c9, c10, c11, c12] := by
  obtain ⟨l⟩ := cs
  match l, h with
  | [c0, c1, c2, c3, c4, c5, c6, c7, c8, c9, c10, c11, c12], _ => exact ⟨c0, c1, c2, c3, c4, c5, c6, c7, c8, c9, c10, c11, c12, rfl⟩
end Go.Proofs.YtkgbpildikjoiaaGreatDoor
