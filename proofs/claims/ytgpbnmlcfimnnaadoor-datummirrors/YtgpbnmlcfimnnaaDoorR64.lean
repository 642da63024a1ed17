/- Whatever reads as a Datum is a tree that lies in memory, its bits within 64; and such a tree of depth 16 at most as a tree of the type for 16; no condition. -/
import Derived.Test.YtgpbnmlcfimnnaaDoorReads
import Derived.Test.YtgpbnmlcfimnnaaDoorMir
import Derived.Test.YtgpbnmlcfimnnaaDoorFit
import Derived.ProofKit
import Derived.OpenShut
namespace Go.Proofs.YtgpbnmlcfimnnaaDoor
open Go.ChangeShapes Go.WideShapes Go.ChangeAt Go.WideMaps Go.WideElems Go.RowKit
theorem shrink64 : ∀ (k n : Nat) (t : Tr n), (pts n t).2 ≤ k → ∃ t' : Tr k, rgt k t' = rgt n t ∧ pts k t' = pts n t ∧ (∀ w cs, Rep w n cs t → Rep w k cs t') ∧ (r64 n t → r64 k t') := by
  intro k
  induction k with
  | zero =>
    intro n t h
    match n, t, h with
    | 0, t, _ => exact t.elim
    | n + 1, t, h =>
      simp only [pts] at h
      have := (ptsL_snd (pts n) t.ks 1 0).1
      omega
  | succ k ih =>
    intro n t h
    match n, t, h with
    | 0, t, _ => exact t.elim
    | n + 1, t, h =>
      simp only [pts] at h
      have hd := (ptsL_snd (pts n) t.ks 1 0).2
      obtain ⟨ks, hl, hp⟩ := list_at (fun i (t' : Tr k) => ∀ x, t.ks[i]? = some x → rgt k t' = rgt n x ∧ pts k t' = pts n x ∧ (∀ w cs, Rep w n cs x → Rep w k cs t') ∧ (r64 n x → r64 k t')) t.ks.length (fun i hi => by
        obtain ⟨t', h'⟩ := ih n t.ks[i] (by have := hd _ (List.getElem_mem hi); omega)
        refine ⟨t', fun x hx => ?_⟩
        rw [List.getElem?_eq_getElem hi] at hx
        rw [← Option.some.inj hx]; exact h')
      refine ⟨((t.kd, t.it, t.ut, t.tx, ks) : Int × Int × Int × ByteArray × List (Tr k)), ?_, ?_, ?_, ?_⟩
      · have e1 : ks.map (rgt k) = t.ks.map (rgt n) := map_at _ _ _ _ hl fun i y x hy hx => (hp i y hy x hx).1
        have e2 : ks.all (rgt k) = t.ks.all (rgt n) := by
          have : (ks.map (rgt k)).all id = (t.ks.map (rgt n)).all id := by rw [e1]
          simpa [List.all_map] using this
        show (okB t.kd t.it t.ut t.tx.size ks.length && ks.all (rgt k)) = (okB t.kd t.it t.ut t.tx.size t.ks.length && t.ks.all (rgt n))
        rw [hl, e2]
      · have e1 : ks.map (pts k) = t.ks.map (pts n) := map_at _ _ _ _ hl fun i y x hy hx => (hp i y hy x hx).2.1
        show ptsL (pts k) ks 1 0 = ptsL (pts n) t.ks 1 0
        rw [ptsL_map, e1, ← ptsL_map]
      · intro w cs hr
        obtain ⟨ad, cap, h1, h2, h3, h4, h5⟩ := hr
        refine ⟨ad, cap, ?_, h2, ?_, h4, ?_⟩
        · show cs = [.int .i64 t.kd, .int .i64 t.it, .int .u64 t.ut, .string t.tx, .slice ad ks.length cap]
          rw [hl]; exact h1
        · show ks.length ≤ cap
          omega
        · rcases h5 with h5 | ⟨g, o, h6, h7⟩
          · left
            show ks = []
            rw [h5] at hl
            exact List.length_eq_zero_iff.1 hl
          · right
            refine ⟨g, o, h6, fun j t' hj => ?_⟩
            have hj' : ks[j]? = some t' := hj
            have hlt : j < t.ks.length := by have := (List.getElem?_eq_some_iff.1 hj').1; omega
            obtain ⟨v0, v1, v2, v3, v4, c0, c1, c2, c3, c4, r⟩ := h7 j _ (List.getElem?_eq_getElem hlt)
            exact ⟨v0, v1, v2, v3, v4, c0, c1, c2, c3, c4, (hp j t' hj' _ (List.getElem?_eq_getElem hlt)).2.2.1 w _ r⟩
      · intro h6
        refine ⟨h6.1, fun x hx => ?_⟩
        have hx' : x ∈ ks := hx
        obtain ⟨q, hq, rfl⟩ := List.getElem_of_mem hx'
        have hq' : q < t.ks.length := by omega
        exact (hp q _ (List.getElem?_eq_getElem hq) _ (List.getElem?_eq_getElem hq')).2.2.2 (h6.2 _ (List.getElem_mem hq'))
theorem cut64 (n : Nat) (t : Tr n) (h : vB n t = true) (h6 : r64 n t) : ∃ t' : Tr 16, rgt 16 t' = true ∧ (pts 16 t').1 ≤ 4096 ∧ (∀ w cs, Rep w n cs t → Rep w 16 cs t') ∧ r64 16 t' := by
  have S := say 16 n t 1 4096 (by decide) (by decide) (by decide)
  obtain ⟨hr, hC, -⟩ := S.down h
  obtain ⟨f1, f2, f3, f4, f5⟩ := S.fit hC
  obtain ⟨t', e1, e2, e3, e4⟩ := shrink64 16 n t (by rw [f1]; show (cnt 16 n t 1 4096).2 - 1 + 1 ≤ ((16 : Nat) : Int); omega)
  exact ⟨t', e1.trans hr, by rw [e2, f1]; exact f3, e3, e4 h6⟩
set_option maxRecDepth 100000 in
theorem rep64_of_trod {H : Type} {enc : TypeId × Value → H} {w : World} {base : Nat} {sp : Nat → Bool} {held : Bool} : ∀ (fuel : Nat) (cs : List Value) (x : DataW H × List MemPlace),
    DataW.trod enc Tryd.prog w base sp held fuel 25 cs = some x → ∃ t : Tr fuel, Rep w fuel cs t ∧ r64 fuel t := by
  intro fuel
  induction fuel with
  | zero => intro cs x h; simp [DataW.trod] at h
  | succ fuel ih =>
    intro cs x h
    obtain ⟨xs, n, hn, -, hlen, hxl, hf⟩ := DataW.trod_struct Tryd.underlying25 h
    have hn' : fuel = n := by omega
    subst hn'
    rw [tcellsN25] at hlen
    match cs, hlen with
    | [c0, c1, c2, c3, c4], _ =>
      have g : ∀ i, i < 5 → ∃ y, xs[i]? = some y := fun i hi => ⟨_, List.getElem?_eq_getElem (by rw [hxl]; exact hi)⟩
      obtain ⟨y0, hy0⟩ := g 0 (by decide)
      obtain ⟨y1, hy1⟩ := g 1 (by decide)
      obtain ⟨y2, hy2⟩ := g 2 (by decide)
      obtain ⟨y3, hy3⟩ := g 3 (by decide)
      obtain ⟨y4, hy4⟩ := g 4 (by decide)
      have h0 : DataW.trod enc Tryd.prog w base sp held fuel 3 (([c0, c1, c2, c3, c4].drop 0).take (Tryd.prog.cellsOf 3)) = some y0 := (hf 0 _ rfl).trans hy0
      rw [tcellsN3] at h0
      have h1 : DataW.trod enc Tryd.prog w base sp held fuel 2 (([c0, c1, c2, c3, c4].drop 1).take (Tryd.prog.cellsOf 2)) = some y1 := (hf 1 _ rfl).trans hy1
      rw [tcellsN2] at h1
      have h2 : DataW.trod enc Tryd.prog w base sp held fuel 22 (([c0, c1, c2, c3, c4].drop 2).take (Tryd.prog.cellsOf 22)) = some y2 := (hf 2 _ rfl).trans hy2
      rw [tcellsN22] at h2
      have h3 : DataW.trod enc Tryd.prog w base sp held fuel 9 (([c0, c1, c2, c3, c4].drop 3).take (Tryd.prog.cellsOf 9)) = some y3 := (hf 3 _ rfl).trans hy3
      rw [tcellsN9] at h3
      have h4 : DataW.trod enc Tryd.prog w base sp held fuel 23 (([c0, c1, c2, c3, c4].drop 4).take (Tryd.prog.cellsOf 23)) = some y4 := (hf 4 _ rfl).trans hy4
      rw [tcellsN23] at h4
      obtain ⟨k, e0, -, -⟩ := DataW.trod_int Tryd.underlying3 h0
      obtain ⟨i, e1, -, -⟩ := DataW.trod_int Tryd.underlying2 h1
      obtain ⟨u, e2, -, hw⟩ := DataW.trod_int Tryd.underlying22 h2
      have hw' : (0 : Int) ≤ u ∧ u ≤ 18446744073709551615 := by simpa [Lit.wf, IntKind.min, IntKind.max, IntKind.bits, IntKind.signed] using hw
      obtain ⟨s, e3, -, hs⟩ := DataW.trod_string Tryd.underlying9 h3
      simp at e0 e1 e2 e3
      subst e0 e1 e2 e3
      rcases DataW.trod_slice Tryd.underlying23 h4 with ⟨e4, -⟩ | ⟨a, len, cap, elems, rest, m, hm, e4, -, -, hlc, hcm, hel, hat, -, -⟩
      · simp at e4
        subst e4
        exact ⟨((k, i, u, s, []) : Int × Int × Int × ByteArray × List (Tr fuel)), ⟨none, 0, rfl, hs, Nat.le_refl _, by unfold maxLen; omega, .inl rfl⟩, ⟨hw'.1, by show u < 18446744073709551616; omega⟩, fun x hx => by cases hx⟩
      · simp at e4
        subst e4
        rw [tcellsN25] at hat
        have kid : ∀ j, j < len → ∃ t : Tr fuel, ∃ v0 v1 v2 v3 v4, w.cell? (a.add (j * 5)) = some v0 ∧ w.cell? ((a.add (j * 5)).add 1) = some v1 ∧ w.cell? ((a.add (j * 5)).add 2) = some v2 ∧ w.cell? ((a.add (j * 5)).add 3) = some v3 ∧ w.cell? ((a.add (j * 5)).add 4) = some v4 ∧ Rep w fuel [v0, v1, v2, v3, v4] t ∧ r64 fuel t := by
          intro j hj
          have hx := hat j hj
          rw [List.getElem?_eq_getElem (by omega)] at hx
          obtain ⟨cs', hc, ht⟩ := Option.bind_eq_some_iff.1 hx
          obtain ⟨-, hcl, hcc⟩ := World.cells?_some hc
          obtain ⟨t, ht', ht6⟩ := ih cs' _ (DataW.trod_le (by omega) ht)
          match cs', hcl with
          | [v0, v1, v2, v3, v4], _ =>
            exact ⟨t, v0, v1, v2, v3, v4, by simpa [Addr.add] using hcc 0 (by decide), hcc 1 (by decide), hcc 2 (by decide), hcc 3 (by decide), hcc 4 (by decide), ht', ht6⟩
        obtain ⟨ks, hkl, hkp⟩ := list_of _ len kid
        refine ⟨((k, i, u, s, ks) : Int × Int × Int × ByteArray × List (Tr fuel)), ⟨some a, cap, ?_, hs, by show ks.length ≤ cap; omega, hcm, ?_⟩, ⟨hw'.1, by show u < 18446744073709551616; omega⟩, fun x hx => ?_⟩
        · show _ = [_, _, _, _, Value.slice (some a) ks.length cap]
          rw [hkl]; rfl
        · cases hks : ks with
          | nil => exact .inl rfl
          | cons t0 ts =>
            right
            have h00 := hkp 0 t0 (by rw [hks]; rfl)
            obtain ⟨b, off, spot⟩ := a
            obtain ⟨v0, _, _, _, _, hc0, _⟩ := h00
            have hspot : spot = none := by simpa [Addr.add] using World.cell?_spot hc0
            subst hspot
            refine ⟨b, off, rfl, fun j t' hj => ?_⟩
            obtain ⟨v0, v1, v2, v3, v4, x0, x1, x2, x3, x4, r, -⟩ := hkp j t' (by rw [hks]; exact hj)
            simp only [add_plain] at x0 x1 x2 x3 x4
            exact ⟨v0, v1, v2, v3, v4, x0, x1, x2, x3, x4, r⟩
        · have hx' : x ∈ ks := hx
          obtain ⟨q, hq, rfl⟩ := List.getElem_of_mem hx'
          obtain ⟨_, _, _, _, _, _, _, _, _, _, _, r6⟩ := hkp q _ (List.getElem?_eq_getElem hq)
          exact r6
end Go.Proofs.YtgpbnmlcfimnnaaDoor
