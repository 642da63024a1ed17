/- Whatever reads as a row of patterns is a row of trees that lies in memory; no condition. -/
import Derived.Test.YtokiaolgdkikiabGreatRdW
import Derived.Test.YtokiaolgdkikiabGreatFst
namespace Go.Proofs.YtokiaolgdkikiabGreat
open Go.ChangeShapes Go.WideShapes Go.ChangeAt Go.WideMaps Go.WideElems Go.RowKit

set_option maxRecDepth 100000 in
theorem listW_of {H : Type} {enc : TypeId × Value → H} {w : World} {base : Nat} {sp : Nat → Bool} {held : Bool} {v : Value} {d : DataW H} {p : List MemPlace} (hv : Value.okWide Tryz.prog w .any base 36 v) (h : DataW.Trod enc Tryz.prog w 0 sp held 36 v d p) :
    ∃ (n : Nat) (ts : List (Wt n)) (ad : Option Addr) (cap : Nat), v = .slice ad ts.length cap ∧ ts.length ≤ cap ∧ cap ≤ maxLen ∧ RowW w n ad ts := by
  obtain ⟨ad0, l0, c0, rfl⟩ := okWide_slice Tryz.underlying36 hv
  obtain ⟨fuel, hf⟩ := h
  simp only [Value.cells] at hf
  match fuel, hf with
  | fuel, h2 =>
    rcases DataW.trod_slice Tryz.underlying36 h2 with ⟨e4, -⟩ | ⟨a, len, cap, elems, rest, m, hm, e4, -, -, hlc, hcm, hel, hat, -, -⟩
    · simp at e4
      obtain ⟨rfl, rfl, rfl⟩ := e4
      exact ⟨0, [], none, 0, rfl, Nat.le_refl _, by unfold maxLen; omega, .inl rfl⟩
    · simp at e4
      obtain ⟨rfl, rfl, rfl⟩ := e4
      rw [wcells] at hat
      have kid : ∀ j, j < l0 → ∃ t : Wt m, ∃ v0 v1 v2, w.cell? (a.add (j * 3)) = some v0 ∧ w.cell? ((a.add (j * 3)).add 1) = some v1 ∧ w.cell? ((a.add (j * 3)).add 2) = some v2 ∧ RepW w m [v0, v1, v2] t := by
        intro j hj
        have hx := hat j hj
        rw [List.getElem?_eq_getElem (by omega)] at hx
        obtain ⟨cs', hc, ht⟩ := Option.bind_eq_some_iff.1 hx
        obtain ⟨-, hcl, hcc⟩ := World.cells?_some hc
        obtain ⟨t, ht'⟩ := repW_of_trod m cs' _ (DataW.trod_le (by omega) ht)
        match cs', hcl with
        | [v0, v1, v2], _ =>
          exact ⟨t, v0, v1, v2, by simpa [Addr.add] using hcc 0 (by decide), hcc 1 (by decide), hcc 2 (by decide), ht'⟩
      obtain ⟨ks, hkl, hkp⟩ := list_of _ l0 kid
      refine ⟨m, ks, some a, c0, by rw [hkl], by omega, hcm, ?_⟩
      cases hks : ks with
      | nil => exact .inl rfl
      | cons t0 ts =>
        right
        have h00 := hkp 0 t0 (by rw [hks]; rfl)
        obtain ⟨b, off, spot⟩ := a
        obtain ⟨v0, _, _, hc0, _⟩ := h00
        have hspot : spot = none := by simpa [Addr.add] using World.cell?_spot hc0
        subst hspot
        refine ⟨b, off, rfl, fun j t' hj => ?_⟩
        obtain ⟨v0, v1, v2, x0, x1, x2, r⟩ := hkp j t' (by rw [hks]; exact hj)
        simp only [add_plain'] at x0 x1 x2
        exact ⟨v0, v1, v2, x0, x1, x2, r⟩
end Go.Proofs.YtokiaolgdkikiabGreat
