/- Whatever reads as a Datum is a tree that lies in memory, its bits within 64; no condition. -/
import Derived.ProofKit
import Derived.OpenShut
import Derived.Test.YtkgbpildikjoiaaGreatDoorDRv
import Derived.Test.YtkgbpildikjoiaaGreatDoorDpA
namespace Go.Proofs.YtkgbpildikjoiaaGreatDoor.Dt
open Go.ChangeShapes Go.WideShapes Go.ChangeAt Go.WideMaps Go.WideElems Go.RowKit

theorem list_of {T : Type} (P : Nat → T → Prop) : ∀ (len : Nat), (∀ i, i < len → ∃ t, P i t) → ∃ l : List T, l.length = len ∧ ∀ i t, l[i]? = some t → P i t := by
  intro len
  induction len with
  | zero => intro _; exact ⟨[], rfl, fun i t h => by simp at h⟩
  | succ len ih =>
    intro h
    obtain ⟨l, hl, hp⟩ := ih (fun i hi => h i (by omega))
    obtain ⟨t, ht⟩ := h len (by omega)
    refine ⟨l ++ [t], by simp [hl], fun i t' hi => ?_⟩
    by_cases hlt : i < l.length
    · rw [List.getElem?_append_left hlt] at hi; exact hp i t' hi
    · rw [List.getElem?_append_right (by omega)] at hi
      have h0 : i - l.length = 0 := by
        by_cases h1 : i - l.length = 0
        · exact h1
        · rw [List.getElem?_eq_none (by simp; omega)] at hi; cases hi
      rw [h0] at hi
      simp at hi
      have : i = len := by omega
      subst this; subst hi; exact ht

theorem tcellsN25 : Tryz.prog.cellsOf 26 = 5 := by kernel_rfl
theorem tcellsN3 : Tryz.prog.cellsOf 3 = 1 := by kernel_rfl
theorem tcellsN2 : Tryz.prog.cellsOf 2 = 1 := by kernel_rfl
theorem tcellsN22 : Tryz.prog.cellsOf 23 = 1 := by kernel_rfl
theorem tcellsN9 : Tryz.prog.cellsOf 9 = 1 := by kernel_rfl
theorem tcellsN23 : Tryz.prog.cellsOf 24 = 1 := by kernel_rfl

set_option maxRecDepth 100000 in
theorem rep_of_trod {H : Type} {enc : TypeId × Value → H} {w : World} {base : Nat} {sp : Nat → Bool} {held : Bool} : ∀ (fuel : Nat) (cs : List Value) (x : DataW H × List MemPlace),
    DataW.trod enc Tryz.prog w base sp held fuel 26 cs = some x → ∃ t : Tr fuel, Rep w fuel cs t := by
  intro fuel
  induction fuel with
  | zero => intro cs x h; simp [DataW.trod] at h
  | succ fuel ih =>
    intro cs x h
    obtain ⟨xs, n, hn, -, hlen, hxl, hf⟩ := DataW.trod_struct Tryz.underlying26 h
    have hn' : fuel = n := by omega
    subst hn'
    rw [tcellsN25] at hlen
    match cs, hlen with
    | [c0, c1, c2, c3, c4], _ =>
      have g : ∀ i, i < 5 → ∃ y, xs[i]? = some y := fun i hi => ⟨_, List.getElem?_eq_getElem (by rw [hxl]; exact hi)⟩
      obtain ⟨y0, hy0⟩ := g 0 (by decide)
      obtain ⟨y1, hy1⟩ := g 1 (by decide)
      obtain ⟨y2, hy2⟩ := g 2 (by decide)
      obtain ⟨y3, hy3⟩ := g 3 (by decide)
      obtain ⟨y4, hy4⟩ := g 4 (by decide)
      have h0 : DataW.trod enc Tryz.prog w base sp held fuel 3 (([c0, c1, c2, c3, c4].drop 0).take (Tryz.prog.cellsOf 3)) = some y0 := (hf 0 _ rfl).trans hy0
      rw [tcellsN3] at h0
      have h1 : DataW.trod enc Tryz.prog w base sp held fuel 2 (([c0, c1, c2, c3, c4].drop 1).take (Tryz.prog.cellsOf 2)) = some y1 := (hf 1 _ rfl).trans hy1
      rw [tcellsN2] at h1
      have h2 : DataW.trod enc Tryz.prog w base sp held fuel 23 (([c0, c1, c2, c3, c4].drop 2).take (Tryz.prog.cellsOf 23)) = some y2 := (hf 2 _ rfl).trans hy2
      rw [tcellsN22] at h2
      have h3 : DataW.trod enc Tryz.prog w base sp held fuel 9 (([c0, c1, c2, c3, c4].drop 3).take (Tryz.prog.cellsOf 9)) = some y3 := (hf 3 _ rfl).trans hy3
      rw [tcellsN9] at h3
      have h4 : DataW.trod enc Tryz.prog w base sp held fuel 24 (([c0, c1, c2, c3, c4].drop 4).take (Tryz.prog.cellsOf 24)) = some y4 := (hf 4 _ rfl).trans hy4
      rw [tcellsN23] at h4
      obtain ⟨k, e0, -, -⟩ := DataW.trod_int Tryz.underlying3 h0
      obtain ⟨i, e1, -, -⟩ := DataW.trod_int Tryz.underlying2 h1
      obtain ⟨u, e2, -, -⟩ := DataW.trod_int Tryz.underlying23 h2
      obtain ⟨s, e3, -, hs⟩ := DataW.trod_string Tryz.underlying9 h3
      simp at e0 e1 e2 e3
      subst e0 e1 e2 e3
      rcases DataW.trod_slice Tryz.underlying24 h4 with ⟨e4, -⟩ | ⟨a, len, cap, elems, rest, m, hm, e4, -, -, hlc, hcm, hel, hat, -, -⟩
      · simp at e4
        subst e4
        exact ⟨((k, i, u, s, []) : Int × Int × Int × ByteArray × List (Tr fuel)), none, 0, rfl, hs, Nat.le_refl _, by unfold maxLen; omega, .inl rfl⟩
      · simp at e4
        subst e4
        rw [tcellsN25] at hat
        have kid : ∀ j, j < len → ∃ t : Tr fuel, ∃ v0 v1 v2 v3 v4, w.cell? (a.add (j * 5)) = some v0 ∧ w.cell? ((a.add (j * 5)).add 1) = some v1 ∧ w.cell? ((a.add (j * 5)).add 2) = some v2 ∧ w.cell? ((a.add (j * 5)).add 3) = some v3 ∧ w.cell? ((a.add (j * 5)).add 4) = some v4 ∧ Rep w fuel [v0, v1, v2, v3, v4] t := by
          intro j hj
          have hx := hat j hj
          rw [List.getElem?_eq_getElem (by omega)] at hx
          obtain ⟨cs', hc, ht⟩ := Option.bind_eq_some_iff.1 hx
          obtain ⟨-, hcl, hcc⟩ := World.cells?_some hc
          obtain ⟨t, ht'⟩ := ih cs' _ (DataW.trod_le (by omega) ht)
          match cs', hcl with
          | [v0, v1, v2, v3, v4], _ =>
            exact ⟨t, v0, v1, v2, v3, v4, by simpa [Addr.add] using hcc 0 (by decide), hcc 1 (by decide), hcc 2 (by decide), hcc 3 (by decide), hcc 4 (by decide), ht'⟩
        obtain ⟨ks, hkl, hkp⟩ := list_of _ len kid
        refine ⟨((k, i, u, s, ks) : Int × Int × Int × ByteArray × List (Tr fuel)), some a, cap, ?_, hs, by show ks.length ≤ cap; omega, hcm, ?_⟩
        · show _ = [_, _, _, _, Value.slice (some a) ks.length cap]
          rw [hkl]; rfl
        · cases hks : ks with
          | nil => exact .inl rfl
          | cons t0 ts =>
            right
            have h00 := hkp 0 t0 (by rw [hks]; rfl)
            obtain ⟨b, off, spot⟩ := a
            obtain ⟨v0, _, _, _, _, hc0, _⟩ := h00
            have hspot : spot = none := by simpa [Addr.add] using World.cell?_spot hc0
            subst hspot
            refine ⟨b, off, rfl, fun j t' hj => ?_⟩
            obtain ⟨v0, v1, v2, v3, v4, x0, x1, x2, x3, x4, r⟩ := hkp j t' (by rw [hks]; exact hj)
            simp only [add_plain] at x0 x1 x2 x3 x4
            exact ⟨v0, v1, v2, v3, v4, x0, x1, x2, x3, x4, r⟩
theorem array5 {cs : Array Value} (h : cs.size = 5) : ∃ c0 c1 c2 c3 c4, cs = #[c0, c1, c2, c3, c4] := by
  obtain ⟨l⟩ := cs
  match l, h with
  | [c0, c1, c2, c3, c4], _ => exact ⟨c0, c1, c2, c3, c4, rfl⟩
end Go.Proofs.YtkgbpildikjoiaaGreatDoor.Dt
namespace Go.Proofs.YtkgbpildikjoiaaGreatDoor.Dt
open Go.ChangeShapes Go.WideShapes Go.ChangeAt Go.WideMaps Go.WideElems Go.RowKit
theorem wf64 {u : Int} (h : (Lit.int .u64 u).wf = true) : 0 ≤ u ∧ u < 18446744073709551616 := by
  have hw' : (0 : Int) ≤ u ∧ u ≤ 18446744073709551615 := by simpa [Lit.wf, IntKind.min, IntKind.max, IntKind.bits, IntKind.signed] using h
  omega

set_option maxRecDepth 100000 in
theorem rep64_of_trod {H : Type} {enc : TypeId × Value → H} {w : World} {base : Nat} {sp : Nat → Bool} {held : Bool} : ∀ (fuel : Nat) (cs : List Value) (x : DataW H × List MemPlace),
    DataW.trod enc Tryz.prog w base sp held fuel 26 cs = some x → ∃ t : Tr fuel, Rep w fuel cs t ∧ r64 fuel t := by
  intro fuel
  induction fuel with
  | zero => intro cs x h; simp [DataW.trod] at h
  | succ fuel ih =>
    intro cs x h
    obtain ⟨xs, n, hn, -, hlen, hxl, hf⟩ := DataW.trod_struct Tryz.underlying26 h
    have hn' : fuel = n := by omega
    subst hn'
    rw [tcellsN25] at hlen
    match cs, hlen with
    | [c0, c1, c2, c3, c4], _ =>
      have g : ∀ i, i < 5 → ∃ y, xs[i]? = some y := fun i hi => ⟨_, List.getElem?_eq_getElem (by rw [hxl]; exact hi)⟩
      obtain ⟨y0, hy0⟩ := g 0 (by decide)
      obtain ⟨y1, hy1⟩ := g 1 (by decide)
      obtain ⟨y2, hy2⟩ := g 2 (by decide)
      obtain ⟨y3, hy3⟩ := g 3 (by decide)
      obtain ⟨y4, hy4⟩ := g 4 (by decide)
      have h0 : DataW.trod enc Tryz.prog w base sp held fuel 3 (([c0, c1, c2, c3, c4].drop 0).take (Tryz.prog.cellsOf 3)) = some y0 := (hf 0 _ rfl).trans hy0
      rw [tcellsN3] at h0
      have h1 : DataW.trod enc Tryz.prog w base sp held fuel 2 (([c0, c1, c2, c3, c4].drop 1).take (Tryz.prog.cellsOf 2)) = some y1 := (hf 1 _ rfl).trans hy1
      rw [tcellsN2] at h1
      have h2 : DataW.trod enc Tryz.prog w base sp held fuel 23 (([c0, c1, c2, c3, c4].drop 2).take (Tryz.prog.cellsOf 23)) = some y2 := (hf 2 _ rfl).trans hy2
      rw [tcellsN22] at h2
      have h3 : DataW.trod enc Tryz.prog w base sp held fuel 9 (([c0, c1, c2, c3, c4].drop 3).take (Tryz.prog.cellsOf 9)) = some y3 := (hf 3 _ rfl).trans hy3
      rw [tcellsN9] at h3
      have h4 : DataW.trod enc Tryz.prog w base sp held fuel 24 (([c0, c1, c2, c3, c4].drop 4).take (Tryz.prog.cellsOf 24)) = some y4 := (hf 4 _ rfl).trans hy4
      rw [tcellsN23] at h4
      obtain ⟨k, e0, -, -⟩ := DataW.trod_int Tryz.underlying3 h0
      obtain ⟨i, e1, -, -⟩ := DataW.trod_int Tryz.underlying2 h1
      obtain ⟨u, e2, -, hu⟩ := DataW.trod_int Tryz.underlying23 h2
      obtain ⟨s, e3, -, hs⟩ := DataW.trod_string Tryz.underlying9 h3
      have hu6 := wf64 hu
      simp at e0 e1 e2 e3
      subst e0 e1 e2 e3
      rcases DataW.trod_slice Tryz.underlying24 h4 with ⟨e4, -⟩ | ⟨a, len, cap, elems, rest, m, hm, e4, -, -, hlc, hcm, hel, hat, -, -⟩
      · simp at e4
        subst e4
        exact ⟨((k, i, u, s, []) : Int × Int × Int × ByteArray × List (Tr fuel)), ⟨none, 0, rfl, hs, Nat.le_refl _, by unfold maxLen; omega, .inl rfl⟩, hu6, fun _ h => by cases h⟩
      · simp at e4
        subst e4
        rw [tcellsN25] at hat
        have kid : ∀ j, j < len → ∃ t : Tr fuel, ∃ v0 v1 v2 v3 v4, w.cell? (a.add (j * 5)) = some v0 ∧ w.cell? ((a.add (j * 5)).add 1) = some v1 ∧ w.cell? ((a.add (j * 5)).add 2) = some v2 ∧ w.cell? ((a.add (j * 5)).add 3) = some v3 ∧ w.cell? ((a.add (j * 5)).add 4) = some v4 ∧ Rep w fuel [v0, v1, v2, v3, v4] t ∧ r64 fuel t := by
          intro j hj
          have hx := hat j hj
          rw [List.getElem?_eq_getElem (by omega)] at hx
          obtain ⟨cs', hc, ht⟩ := Option.bind_eq_some_iff.1 hx
          obtain ⟨-, hcl, hcc⟩ := World.cells?_some hc
          obtain ⟨t, ht'⟩ := ih cs' _ (DataW.trod_le (by omega) ht)
          match cs', hcl with
          | [v0, v1, v2, v3, v4], _ =>
            exact ⟨t, v0, v1, v2, v3, v4, by simpa [Addr.add] using hcc 0 (by decide), hcc 1 (by decide), hcc 2 (by decide), hcc 3 (by decide), hcc 4 (by decide), ht'⟩
        obtain ⟨ks, hkl, hkp⟩ := list_of _ len kid
        refine ⟨((k, i, u, s, ks) : Int × Int × Int × ByteArray × List (Tr fuel)), ⟨some a, cap, ?_, hs, by show ks.length ≤ cap; omega, hcm, ?_⟩, hu6, fun t' ht' => ?_⟩
        · show _ = [_, _, _, _, Value.slice (some a) ks.length cap]
          rw [hkl]; rfl
        · cases hks : ks with
          | nil => exact .inl rfl
          | cons t0 ts =>
            right
            have h00 := hkp 0 t0 (by rw [hks]; rfl)
            obtain ⟨b, off, spot⟩ := a
            obtain ⟨v0, _, _, _, _, hc0, _⟩ := h00
            have hspot : spot = none := by simpa [Addr.add] using World.cell?_spot hc0
            subst hspot
            refine ⟨b, off, rfl, fun j t' hj => ?_⟩
            obtain ⟨v0, v1, v2, v3, v4, x0, x1, x2, x3, x4, r, -⟩ := hkp j t' (by rw [hks]; exact hj)
            simp only [add_plain] at x0 x1 x2 x3 x4
            exact ⟨v0, v1, v2, v3, v4, x0, x1, x2, x3, x4, r⟩
        · obtain ⟨j, hj⟩ := List.mem_iff_getElem?.1 ht'
          obtain ⟨_, _, _, _, _, _, _, _, _, _, _, h⟩ := hkp j t' hj
          exact h
end Go.Proofs.YtkgbpildikjoiaaGreatDoor.Dt
