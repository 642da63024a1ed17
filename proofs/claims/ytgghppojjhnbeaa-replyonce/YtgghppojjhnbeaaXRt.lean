/- Whatever reads as a row of turns lies in memory as such, and is of a size that can be; no condition. -/
import Derived.Test.YtgghppojjhnbeaaXRd
import Derived.Test.YtgghppojjhnbeaaXj
namespace Go.Proofs.Ytgghppojjhnbeaa
open Go.ChangeShapes Go.WideShapes Go.ChangeAt Go.WideMaps Go.WideElems Go.RowKit

theorem icells : Try.prog.cellsOf 3 = 1 := by kernel_rfl
theorem tncells : Try.prog.cellsOf 46 = 5 := by kernel_rfl
theorem tnbytes : Try.prog.bytesOf 46 = 48 := by kernel_rfl
def Fits {H : Type} (t : TypeId) (d : DataW H) : Prop := ∀ n ∈ d.weights Try.prog t, n ≤ reachBytes
theorem tn_of_trod {H : Type} {enc : TypeId × Value → H} {w : World} {base : Nat} {sp : Nat → Bool} {held : Bool} (fuel : Nat) (cs : List Value) (x : DataW H × List MemPlace)
    (h : DataW.trod enc Try.prog w base sp held fuel 46 cs = some x) : ∃ r : Tn, cs = r.cl := by
  obtain ⟨xs, n, hn, ex, hlen, hxl, hf⟩ := DataW.trod_struct Try.underlying46 h
  rw [tncells] at hlen
  match cs, hlen with
  | [c0, c1, c2, c3, c4], _ =>
  match xs, hxl with
  | [y0, y1, y2, y3, y4], _ =>
    have h0 : DataW.trod enc Try.prog w base sp held n 3 (([c0, c1, c2, c3, c4].drop 0).take (Try.prog.cellsOf 3)) = some y0 := hf 0 _ rfl
    have h1 : DataW.trod enc Try.prog w base sp held n 2 (([c0, c1, c2, c3, c4].drop 1).take (Try.prog.cellsOf 2)) = some y1 := hf 1 _ rfl
    have h2 : DataW.trod enc Try.prog w base sp held n 9 (([c0, c1, c2, c3, c4].drop 2).take (Try.prog.cellsOf 9)) = some y2 := hf 2 _ rfl
    have h3 : DataW.trod enc Try.prog w base sp held n 2 (([c0, c1, c2, c3, c4].drop 3).take (Try.prog.cellsOf 2)) = some y3 := hf 3 _ rfl
    have h4 : DataW.trod enc Try.prog w base sp held n 2 (([c0, c1, c2, c3, c4].drop 4).take (Try.prog.cellsOf 2)) = some y4 := hf 4 _ rfl
    rw [icells] at h0
    rw [lcells] at h1 h3 h4
    rw [scells] at h2
    obtain ⟨a0, e0, -, -⟩ := DataW.trod_int Try.underlying3 h0
    obtain ⟨a1, e1, -, -⟩ := DataW.trod_int Try.underlying2 h1
    obtain ⟨a2, e2, -, -⟩ := DataW.trod_string Try.underlying9 h2
    obtain ⟨a3, e3, -, -⟩ := DataW.trod_int Try.underlying2 h3
    obtain ⟨a4, e4, -, -⟩ := DataW.trod_int Try.underlying2 h4
    simp at e0 e1 e2 e3 e4
    subst e0 e1 e2 e3 e4
    exact ⟨⟨a0, a1, a2, a3, a4⟩, rfl⟩

theorem tl_of_trod {H : Type} {enc : TypeId × Value → H} {w : World} {base : Nat} {sp : Nat → Bool} {held : Bool} (fuel : Nat) (cs : List Value) (y : DataW H × List MemPlace)
    (h : DataW.trod enc Try.prog w base sp held fuel 43 cs = some y) :
    ∃ (sv : Value) (L : List Tn), cs = [sv] ∧ Rk Tn.cl 5 w sv L ∧ (Fits 43 y.1 → L.length ≤ 140737488355328) := by
  rcases DataW.trod_slice Try.underlying43 h with ⟨e4, -⟩ | ⟨a, len, cap, elems, rest, m, hm, e4, ex, -, hlc, hcm, hel, hat, -, -⟩
  · exact ⟨.slice none 0 0, [], e4, ⟨none, 0, rfl, .inl rfl⟩, fun _ => Nat.zero_le _⟩
  · rw [tncells] at hat
    have kid : ∀ j, j < len → ∃ r : Tn, ∀ q, q < 5 → w.cell? ((a.add (j * 5)).add q) = r.cl[q]? := by
      intro j hj
      have hx := hat j hj
      rw [List.getElem?_eq_getElem (by omega)] at hx
      obtain ⟨cs', hc, ht⟩ := Option.bind_eq_some_iff.1 hx
      obtain ⟨-, hcl, hcc⟩ := World.cells?_some hc
      obtain ⟨r, e⟩ := tn_of_trod _ _ _ ht
      subst e
      exact ⟨r, fun q hq => hcc q hq⟩
    obtain ⟨zs, hzl, hzp⟩ := list_of _ len kid
    subst hzl
    refine ⟨_, zs, e4, ⟨some a, cap, rfl, ?_⟩, fun hf => ?_⟩
    · cases hzs : zs with
      | nil => exact .inl rfl
      | cons r0 rs =>
        right
        obtain ⟨b, off, spot⟩ := a
        have h00 := hzp 0 r0 (by rw [hzs]; rfl) 0 (by decide)
        have hspot : spot = none := by
          have := World.cell?_spot (h00.trans (List.getElem?_eq_getElem (by simp)))
          simpa [Addr.add] using this
        subst hspot
        refine ⟨b, off, rfl, fun j x hj q v hv => ?_⟩
        have hq : q < 5 := (List.getElem?_eq_some_iff.1 hv).1
        have := hzp j x (by rw [hzs]; exact hj) q hq
        rw [addp, addp] at this
        rw [this]
        exact hv
    · rw [ex] at hf
      have := hf ((elems.length + rest.length) * 48) (by
        simp only [DataW.weights, Try.underlying43, List.length_map, tnbytes]
        exact List.mem_cons_self)
      unfold reachBytes at this
      omega
end Go.Proofs.Ytgghppojjhnbeaa
