/- Whatever reads as a pattern is a tree that lies in memory; no condition. -/
import Derived.ProofKit
import Derived.OpenShut
import Derived.Test.YtkgbpildikjoiaaGreatDoorRepW
namespace Go.Proofs.YtkgbpildikjoiaaGreatDoor
open Go.ChangeShapes Go.WideShapes Go.ChangeAt Go.WideMaps Go.WideElems Go.RowKit

theorem list_of {T : Type} (P : Nat → T → Prop) : ∀ (len : Nat), (∀ i, i < len → ∃ t, P i t) → ∃ l : List T, l.length = len ∧ ∀ i t, l[i]? = some t → P i t := by
  intro len
  induction len with
  | zero => intro _; exact ⟨[], rfl, fun i t h => by simp at h⟩
  | succ len ih =>
    intro h
    obtain ⟨l, hl, hp⟩ := ih (fun i hi => h i (by omega))
    obtain ⟨t, ht⟩ := h len (by omega)
    refine ⟨l ++ [t], by simp [hl], fun i t' hi => ?_⟩
    by_cases hlt : i < l.length
    · rw [List.getElem?_append_left hlt] at hi; exact hp i t' hi
    · rw [List.getElem?_append_right (by omega)] at hi
      have h0 : i - l.length = 0 := by
        by_cases h1 : i - l.length = 0
        · exact h1
        · rw [List.getElem?_eq_none (by simp; omega)] at hi; cases hi
      rw [h0] at hi
      simp at hi
      have : i = len := by omega
      subst this; subst hi; exact ht
theorem add_plain' (b o i : Nat) : (⟨b, o, none⟩ : Addr).add i = ⟨b, o + i, none⟩ := by simp [Addr.add]

theorem wcells : Tryz.prog.cellsOf 43 = 3 := by kernel_rfl
theorem wcellsI : Tryz.prog.cellsOf 3 = 1 := by kernel_rfl
theorem wcellsS : Tryz.prog.cellsOf 41 = 1 := by kernel_rfl

set_option maxRecDepth 100000 in
theorem repW_of_trod {H : Type} {enc : TypeId × Value → H} {w : World} {base : Nat} {sp : Nat → Bool} {held : Bool} : ∀ (fuel : Nat) (cs : List Value) (x : DataW H × List MemPlace),
    DataW.trod enc Tryz.prog w base sp held fuel 43 cs = some x → ∃ t : Wt fuel, RepW w fuel cs t := by
  intro fuel
  induction fuel with
  | zero => intro cs x h; simp [DataW.trod] at h
  | succ fuel ih =>
    intro cs x h
    obtain ⟨xs, n, hn, -, hlen, hxl, hf⟩ := DataW.trod_struct Tryz.underlying43 h
    have hn' : fuel = n := by omega
    subst hn'
    rw [wcells] at hlen
    match cs, hlen with
    | [c0, c1, c2], _ =>
      have g : ∀ i, i < 3 → ∃ y, xs[i]? = some y := fun i hi => ⟨_, List.getElem?_eq_getElem (by rw [hxl]; exact hi)⟩
      obtain ⟨y0, hy0⟩ := g 0 (by decide)
      obtain ⟨y1, hy1⟩ := g 1 (by decide)
      obtain ⟨y2, hy2⟩ := g 2 (by decide)
      have h0 : DataW.trod enc Tryz.prog w base sp held fuel 3 (([c0, c1, c2].drop 0).take (Tryz.prog.cellsOf 3)) = some y0 := (hf 0 _ rfl).trans hy0
      rw [wcellsI] at h0
      have h1 : DataW.trod enc Tryz.prog w base sp held fuel 3 (([c0, c1, c2].drop 1).take (Tryz.prog.cellsOf 3)) = some y1 := (hf 1 _ rfl).trans hy1
      rw [wcellsI] at h1
      have h2 : DataW.trod enc Tryz.prog w base sp held fuel 41 (([c0, c1, c2].drop 2).take (Tryz.prog.cellsOf 41)) = some y2 := (hf 2 _ rfl).trans hy2
      rw [wcellsS] at h2
      obtain ⟨k, e0, -, -⟩ := DataW.trod_int Tryz.underlying3 h0
      obtain ⟨i, e1, -, -⟩ := DataW.trod_int Tryz.underlying3 h1
      simp at e0 e1
      subst e0 e1
      rcases DataW.trod_slice Tryz.underlying41 h2 with ⟨e4, -⟩ | ⟨a, len, cap, elems, rest, m, hm, e4, -, -, hlc, hcm, hel, hat, -, -⟩
      · simp at e4
        subst e4
        exact ⟨((k, i, []) : Int × Int × List (Wt fuel)), none, 0, rfl, Nat.le_refl _, by unfold maxLen; omega, .inl rfl⟩
      · simp at e4
        subst e4
        rw [wcells] at hat
        have kid : ∀ j, j < len → ∃ t : Wt fuel, ∃ v0 v1 v2, w.cell? (a.add (j * 3)) = some v0 ∧ w.cell? ((a.add (j * 3)).add 1) = some v1 ∧ w.cell? ((a.add (j * 3)).add 2) = some v2 ∧ RepW w fuel [v0, v1, v2] t := by
          intro j hj
          have hx := hat j hj
          rw [List.getElem?_eq_getElem (by omega)] at hx
          obtain ⟨cs', hc, ht⟩ := Option.bind_eq_some_iff.1 hx
          obtain ⟨-, hcl, hcc⟩ := World.cells?_some hc
          obtain ⟨t, ht'⟩ := ih cs' _ (DataW.trod_le (by omega) ht)
          match cs', hcl with
          | [v0, v1, v2], _ =>
            exact ⟨t, v0, v1, v2, by simpa [Addr.add] using hcc 0 (by decide), hcc 1 (by decide), hcc 2 (by decide), ht'⟩
        obtain ⟨ks, hkl, hkp⟩ := list_of _ len kid
        refine ⟨((k, i, ks) : Int × Int × List (Wt fuel)), some a, cap, ?_, by show ks.length ≤ cap; omega, hcm, ?_⟩
        · show _ = [_, _, Value.slice (some a) ks.length cap]
          rw [hkl]; rfl
        · cases hks : ks with
          | nil => exact .inl rfl
          | cons t0 ts =>
            right
            have h00 := hkp 0 t0 (by rw [hks]; rfl)
            obtain ⟨b, off, spot⟩ := a
            obtain ⟨v0, _, _, hc0, _⟩ := h00
            have hspot : spot = none := by simpa [Addr.add] using World.cell?_spot hc0
            subst hspot
            refine ⟨b, off, rfl, fun j t' hj => ?_⟩
            obtain ⟨v0, v1, v2, x0, x1, x2, r⟩ := hkp j t' (by rw [hks]; exact hj)
            simp only [add_plain'] at x0 x1 x2
            exact ⟨v0, v1, v2, x0, x1, x2, r⟩

theorem array3 {cs : Array Value} (h : cs.size = 3) : ∃ c0 c1 c2, cs = #[c0, c1, c2] := by
  obtain ⟨l⟩ := cs
  match l, h with
  | [c0, c1, c2], _ => exact ⟨c0, c1, c2, rfl⟩
theorem own : ownKnob Tryz.prog.godebug = none := by kernel_rfl
theorem laidOut : laidOutB Tryz.prog = true := by kernel_rfl
end Go.Proofs.YtkgbpildikjoiaaGreatDoor
