/- Whatever reads as a result, or as a row of results, holds bodies that are trees in memory; no condition. -/
import Derived.Test.YtihmkjlmhjhocaaDRd
import Derived.Test.YtihmkjlmhjhocaaYc
namespace Go.Proofs.Ytihmkjlmhjhocaa
open Go.ChangeShapes Go.WideShapes Go.ChangeAt Go.WideMaps Go.WideElems Go.RowKit

theorem rcells : Try.prog.cellsOf 30 = 10 := by kernel_rfl
theorem ecells : Try.prog.cellsOf 22 = 1 := by kernel_rfl
theorem pcells : Try.prog.cellsOf 24 = 2 := by kernel_rfl
theorem bcells : Try.prog.cellsOf 4 = 1 := by kernel_rfl

set_option maxRecDepth 100000 in
theorem res_of_trod {H : Type} {enc : TypeId × Value → H} {w : World} {base : Nat} {sp : Nat → Bool} {held : Bool} (fuel : Nat) (cs : List Value) (x : DataW H × List MemPlace)
    (h : DataW.trod enc Try.prog w base sp held fuel 30 cs = some x) :
    ∃ (r : Re) (n : Nat) (t : Dt.Tr n), cs = r.cs.toList ∧ Dt.Rep w n [.int .i64 r.k, .int .i64 r.i, .int .u64 r.u, .string r.s, .slice r.a r.n r.c] t := by
  obtain ⟨xs, n, hn, ex, hlen, hxl, hf⟩ := DataW.trod_struct Try.underlying30 h
  rw [rcells] at hlen
  match cs, hlen with
  | [c0, c1, c2, c3, c4, c5, c6, c7, c8, c9], _ =>
  match xs, hxl with
  | [y0, y1, y2, y3, y4], _ =>
    have h0 : DataW.trod enc Try.prog w base sp held n 22 (([c0, c1, c2, c3, c4, c5, c6, c7, c8, c9].drop 0).take (Try.prog.cellsOf 22)) = some y0 := hf 0 _ rfl
    have h1 : DataW.trod enc Try.prog w base sp held n 2 (([c0, c1, c2, c3, c4, c5, c6, c7, c8, c9].drop 1).take (Try.prog.cellsOf 2)) = some y1 := hf 1 _ rfl
    have h2 : DataW.trod enc Try.prog w base sp held n 24 (([c0, c1, c2, c3, c4, c5, c6, c7, c8, c9].drop 2).take (Try.prog.cellsOf 24)) = some y2 := hf 2 _ rfl
    have h3 : DataW.trod enc Try.prog w base sp held n 4 (([c0, c1, c2, c3, c4, c5, c6, c7, c8, c9].drop 4).take (Try.prog.cellsOf 4)) = some y3 := hf 3 _ rfl
    have h4 : DataW.trod enc Try.prog w base sp held n 28 (([c0, c1, c2, c3, c4, c5, c6, c7, c8, c9].drop 5).take (Try.prog.cellsOf 28)) = some y4 := hf 4 _ rfl
    rw [ecells] at h0
    rw [Dt.tcellsN2] at h1
    rw [pcells] at h2
    rw [bcells] at h3
    rw [Dt.tcellsN25] at h4
    obtain ⟨er, e0, -, -⟩ := DataW.trod_int Try.underlying22 h0
    obtain ⟨co, e1, -, -⟩ := DataW.trod_int Try.underlying2 h1
    obtain ⟨zs, n2, hn2, -, -, hzl, hg⟩ := DataW.trod_struct Try.underlying24 h2
    obtain ⟨has, e3, -⟩ := DataW.trod_bool Try.underlying4 h3
    obtain ⟨t, R⟩ := Dt.rep_of_trod n _ _ h4
    match zs, hzl with
    | [z0, z1], _ =>
      have g0 : DataW.trod enc Try.prog w base sp held n2 3 (([c2, c3].drop 0).take (Try.prog.cellsOf 3)) = some z0 := hg 0 _ rfl
      have g1 : DataW.trod enc Try.prog w base sp held n2 2 (([c2, c3].drop 1).take (Try.prog.cellsOf 2)) = some z1 := hg 1 _ rfl
      rw [Dt.tcellsN3] at g0
      rw [Dt.tcellsN2] at g1
      obtain ⟨pk, e4, -, -⟩ := DataW.trod_int Try.underlying3 g0
      obtain ⟨pn, e5, -, -⟩ := DataW.trod_int Try.underlying2 g1
      simp at e0 e1 e3 e4 e5
      subst e0 e1 e3 e4 e5
      have R' : Dt.Rep w n [c5, c6, c7, c8, c9] t := R
      obtain ⟨k, i, u, s, a, len, cap, rfl, rfl, rfl, rfl, rfl⟩ := Dt.rep_shape R'
      exact ⟨⟨er, co, pk, pn, has, k, i, u, s, a, len, cap⟩, n, t, rfl, R'⟩

theorem add_flat (b o n : Nat) : (⟨b, o, none⟩ : Addr).add n = ⟨b, o + n, none⟩ := by unfold Addr.add; split <;> simp_all
theorem rlcells : Try.prog.cellsOf 34 = 1 := by kernel_rfl
theorem resl_of_trod {H : Type} {enc : TypeId × Value → H} {w : World} {base : Nat} {sp : Nat → Bool} {held : Bool} (fuel : Nat) (cs : List Value) (x : DataW H × List MemPlace)
    (h : DataW.trod enc Try.prog w base sp held fuel 34 cs = some x) :
    ∃ (ad : Option Addr) (zs : List Re) (cap : Nat), cs = [.slice ad zs.length cap] ∧ zs.length ≤ cap ∧ cap ≤ maxLen ∧ Rrow w ad zs ∧ ∀ r ∈ zs, ∃ (n : Nat) (t : Dt.Tr n), Dt.Rep w n [.int .i64 r.k, .int .i64 r.i, .int .u64 r.u, .string r.s, .slice r.a r.n r.c] t := by
  rcases DataW.trod_slice Try.underlying34 h with ⟨e4, -⟩ | ⟨a, len, cap, elems, rest, m, hm, e4, -, -, hlc, hcm, hel, hat, -, -⟩
  · exact ⟨none, [], 0, e4, Nat.le_refl _, by unfold maxLen; omega, .inl rfl, fun r hr => by cases hr⟩
  · rw [rcells] at hat
    have kid : ∀ j, j < len → ∃ r : Re, (∀ q, q < 10 → w.cell? ((a.add (j * 10)).add q) = r.cs[q]?) ∧ ∃ (n : Nat) (t : Dt.Tr n), Dt.Rep w n [.int .i64 r.k, .int .i64 r.i, .int .u64 r.u, .string r.s, .slice r.a r.n r.c] t := by
      intro j hj
      have hx := hat j hj
      rw [List.getElem?_eq_getElem (by omega)] at hx
      obtain ⟨cs', hc, ht⟩ := Option.bind_eq_some_iff.1 hx
      obtain ⟨-, hcl, hcc⟩ := World.cells?_some hc
      obtain ⟨r, n, t, e, R⟩ := res_of_trod _ _ _ ht
      subst e
      refine ⟨r, fun q hq => ?_, n, t, R⟩
      rw [hcc q hq]
      simp
    obtain ⟨zs, hzl, hzp⟩ := Dt.list_of _ len kid
    subst hzl
    refine ⟨some a, zs, cap, e4, hlc, hcm, ?_, fun r hr => ?_⟩
    · cases hzs : zs with
      | nil => exact .inl rfl
      | cons r0 rs =>
        right
        obtain ⟨b, off, spot⟩ := a
        have h00 := (hzp 0 r0 (by rw [hzs]; rfl)).1 0 (by decide)
        have hspot : spot = none := by
          have := World.cell?_spot (h00.trans (Array.getElem?_eq_getElem (by simp)))
          simpa [Addr.add] using this
        subst hspot
        refine ⟨b, off, rfl, World.block_lt_of_cell? w _ (h00.trans (Array.getElem?_eq_getElem (by simp))), fun j r hj => ?_⟩
        have hp := (hzp j r (by rw [hzs]; exact hj)).1
        simp only [add_flat] at hp
        exact ⟨hp 0 (by decide), hp 1 (by decide), hp 2 (by decide), hp 3 (by decide), hp 4 (by decide), hp 5 (by decide), hp 6 (by decide), hp 7 (by decide), hp 8 (by decide), hp 9 (by decide)⟩
    · obtain ⟨j, hj, e⟩ := List.mem_iff_getElem.1 hr
      exact (hzp j r (by rw [List.getElem?_eq_getElem hj, e])).2

theorem array10 {cs : Array Value} (h : cs.size = 10) : ∃ c0 c1 c2 c3 c4 c5 c6 c7 c8 c9, cs = #[c0, c1, c2, c3, c4, c5, c6, c7, c8, c9] := by
  obtain ⟨l⟩ := cs
  match l, h with
  | [c0, c1, c2, c3, c4, c5, c6, c7, c8, c9], _ => exact ⟨c0, c1, c2, c3, c4, c5, c6, c7, c8, c9, rfl⟩
end Go.Proofs.Ytihmkjlmhjhocaa
