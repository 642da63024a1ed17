/- A value, and a row of numbers, as they read; no condition but those that each theorem names. -/
import Derived.ProofKit
import Derived.OpenShut
import Derived.Stop.Joined
import Derived.Lib.SmallJoins
import Derived.Carry
import Derived.Test.YtajagjcfmaggiaaGreatDoorKCeg
import Derived.Test.YtajagjcfmaggiaaGreatDoorKCea
namespace Go.Proofs.YtajagjcfmaggiaaGreatDoor.Dt
open Go.RowKit

theorem add_plain (b o i : Nat) : (⟨b, o, none⟩ : Addr).add i = ⟨b, o + i, none⟩ := by simp [Addr.add]
theorem wfi {i : Int} (h : (Lit.int .i64 i).wf = true) : I64 i := by
  have hw' : (-9223372036854775808 : Int) ≤ i ∧ i ≤ 9223372036854775807 := by simpa [Lit.wf, IntKind.min, IntKind.max, IntKind.bits, IntKind.signed] using h
  exact hw'
set_option maxRecDepth 100000 in
theorem q64_of_trod {H : Type} {enc : TypeId × Value → H} {w : World} {base : Nat} {sp : Nat → Bool} {held : Bool} : ∀ (fuel : Nat) (cs : List Value) (x : DataW H × List MemPlace),
    DataW.trod enc Tryz.prog w base sp held fuel 25 cs = some x → ∃ t : Tr fuel, Rep w fuel cs t ∧ r64 fuel t ∧ i64A fuel t := by
  intro fuel
  induction fuel with
  | zero => intro cs x h; simp [DataW.trod] at h
  | succ fuel ih =>
    intro cs x h
    obtain ⟨xs, n, hn, -, hlen, hxl, hf⟩ := DataW.trod_struct Tryz.underlying25 h
    have hn' : fuel = n := by omega
    subst hn'
    rw [tcellsN25] at hlen
    match cs, hlen with
    | [c0, c1, c2, c3, c4], _ =>
      have g : ∀ i, i < 5 → ∃ y, xs[i]? = some y := fun i hi => ⟨_, List.getElem?_eq_getElem (by rw [hxl]; exact hi)⟩
      obtain ⟨y0, hy0⟩ := g 0 (by decide)
      obtain ⟨y1, hy1⟩ := g 1 (by decide)
      obtain ⟨y2, hy2⟩ := g 2 (by decide)
      obtain ⟨y3, hy3⟩ := g 3 (by decide)
      obtain ⟨y4, hy4⟩ := g 4 (by decide)
      have h0 : DataW.trod enc Tryz.prog w base sp held fuel 3 (([c0, c1, c2, c3, c4].drop 0).take (Tryz.prog.cellsOf 3)) = some y0 := (hf 0 _ rfl).trans hy0
      rw [tcellsN3] at h0
      have h1 : DataW.trod enc Tryz.prog w base sp held fuel 2 (([c0, c1, c2, c3, c4].drop 1).take (Tryz.prog.cellsOf 2)) = some y1 := (hf 1 _ rfl).trans hy1
      rw [tcellsN2] at h1
      have h2 : DataW.trod enc Tryz.prog w base sp held fuel 22 (([c0, c1, c2, c3, c4].drop 2).take (Tryz.prog.cellsOf 22)) = some y2 := (hf 2 _ rfl).trans hy2
      rw [tcellsN22] at h2
      have h3 : DataW.trod enc Tryz.prog w base sp held fuel 9 (([c0, c1, c2, c3, c4].drop 3).take (Tryz.prog.cellsOf 9)) = some y3 := (hf 3 _ rfl).trans hy3
      rw [tcellsN9] at h3
      have h4 : DataW.trod enc Tryz.prog w base sp held fuel 23 (([c0, c1, c2, c3, c4].drop 4).take (Tryz.prog.cellsOf 23)) = some y4 := (hf 4 _ rfl).trans hy4
      rw [tcellsN23] at h4
      obtain ⟨k, e0, -, -⟩ := DataW.trod_int Tryz.underlying3 h0
      obtain ⟨i, e1, -, hi⟩ := DataW.trod_int Tryz.underlying2 h1
      obtain ⟨u, e2, -, hu⟩ := DataW.trod_int Tryz.underlying22 h2
      obtain ⟨s, e3, -, hs⟩ := DataW.trod_string Tryz.underlying9 h3
      have hu6 := wf64 hu
      have hi6 := wfi hi
      simp at e0 e1 e2 e3
      subst e0 e1 e2 e3
      rcases DataW.trod_slice Tryz.underlying23 h4 with ⟨e4, -⟩ | ⟨a, len, cap, elems, rest, m, hm, e4, -, -, hlc, hcm, hel, hat, -, -⟩
      · simp at e4
        subst e4
        exact ⟨((k, i, u, s, []) : Int × Int × Int × ByteArray × List (Tr fuel)), ⟨none, 0, rfl, hs, Nat.le_refl _, by unfold maxLen; omega, .inl rfl⟩, ⟨hu6, fun _ h => by cases h⟩, hi6, fun _ h => by cases h⟩
      · simp at e4
        subst e4
        rw [tcellsN25] at hat
        have kid : ∀ j, j < len → ∃ t : Tr fuel, ∃ v0 v1 v2 v3 v4, w.cell? (a.add (j * 5)) = some v0 ∧ w.cell? ((a.add (j * 5)).add 1) = some v1 ∧ w.cell? ((a.add (j * 5)).add 2) = some v2 ∧ w.cell? ((a.add (j * 5)).add 3) = some v3 ∧ w.cell? ((a.add (j * 5)).add 4) = some v4 ∧ Rep w fuel [v0, v1, v2, v3, v4] t ∧ r64 fuel t ∧ i64A fuel t := by
          intro j hj
          have hx := hat j hj
          rw [List.getElem?_eq_getElem (by omega)] at hx
          obtain ⟨cs', hc, ht⟩ := Option.bind_eq_some_iff.1 hx
          obtain ⟨-, hcl, hcc⟩ := World.cells?_some hc
          obtain ⟨t, ht'⟩ := ih cs' _ (DataW.trod_le (by omega) ht)
          match cs', hcl with
          | [v0, v1, v2, v3, v4], _ =>
            exact ⟨t, v0, v1, v2, v3, v4, by simpa [Addr.add] using hcc 0 (by decide), hcc 1 (by decide), hcc 2 (by decide), hcc 3 (by decide), hcc 4 (by decide), ht'⟩
        obtain ⟨ks, hkl, hkp⟩ := list_of _ len kid
        refine ⟨((k, i, u, s, ks) : Int × Int × Int × ByteArray × List (Tr fuel)), ⟨some a, cap, ?_, hs, by show ks.length ≤ cap; omega, hcm, ?_⟩, ⟨hu6, fun t' ht' => ?_⟩, hi6, fun t' ht' => ?_⟩
        · show _ = [_, _, _, _, Value.slice (some a) ks.length cap]
          rw [hkl]; rfl
        · cases hks : ks with
          | nil => exact .inl rfl
          | cons t0 ts =>
            right
            have h00 := hkp 0 t0 (by rw [hks]; rfl)
            obtain ⟨b, off, spot⟩ := a
            obtain ⟨v0, _, _, _, _, hc0, _⟩ := h00
            have hspot : spot = none := by simpa [Addr.add] using World.cell?_spot hc0
            subst hspot
            refine ⟨b, off, rfl, fun j t' hj => ?_⟩
            obtain ⟨v0, v1, v2, v3, v4, x0, x1, x2, x3, x4, r, -⟩ := hkp j t' (by rw [hks]; exact hj)
            simp only [add_plain] at x0 x1 x2 x3 x4
            exact ⟨v0, v1, v2, v3, v4, x0, x1, x2, x3, x4, r⟩
        · obtain ⟨j, hj⟩ := List.mem_iff_getElem?.1 ht'
          obtain ⟨_, _, _, _, _, _, _, _, _, _, _, h⟩ := hkp j t' hj
          exact h.1
        · obtain ⟨j, hj⟩ := List.mem_iff_getElem?.1 ht'
          obtain ⟨_, _, _, _, _, _, _, _, _, _, _, h⟩ := hkp j t' hj
          exact h.2
end Go.Proofs.YtajagjcfmaggiaaGreatDoor.Dt

namespace Go.Proofs.YtajagjcfmaggiaaGreatDoor
open Go.ChangeShapes Go.WideShapes Go.ChangeAt Go.WideMaps Go.WideElems Go.RowKit Go.Joins
end Go.Proofs.YtajagjcfmaggiaaGreatDoor
