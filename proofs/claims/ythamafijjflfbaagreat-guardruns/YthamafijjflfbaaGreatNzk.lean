/- Whatever reads as a row of acts is a row of acts in memory; no condition. -/
import Derived.Test.YthamafijjflfbaaGreatMce
import Derived.Test.YthamafijjflfbaaGreatNzj
namespace Go.Proofs.YthamafijjflfbaaGreat
open Go.ChangeShapes Go.WideShapes Go.ChangeAt Go.WideMaps Go.WideElems Go.RowKit

theorem add_flat (b o n : Nat) : (⟨b, o, none⟩ : Addr).add n = ⟨b, o + n, none⟩ := by unfold Addr.add; split <;> simp_all
set_option maxRecDepth 100000 in
theorem acts_of {H : Type} {enc : TypeId × Value → H} {w : World} {base : Nat} {sp : Nat → Bool} {held : Bool} {v : Value} {d : DataW H} {p : List MemPlace} (hv : Value.okWide Tryz.prog w .any base 39 v) (h : DataW.Trod enc Tryz.prog w 0 sp held 39 v d p) :
    ∃ (lg lo : Nat) (la : Option Addr) (ln lc : Nat), v = .slice la ln lc ∧ ln ≤ maxLen ∧ (ln = 0 ∨ la = some ⟨lg, lo, none⟩) ∧ (0 < ln → lg < w.heap.size) ∧ lg ≤ w.heap.size ∧
      ∀ j, j < ln → ∃ (A : Av) (n : Nat) (tA tB : Dt.Tr n), Ax w lg (lo + j * 12) A ∧ Aw w A n tA tB := by
  obtain ⟨ad0, l0, c0, rfl⟩ := okWide_slice Tryz.underlying39 hv
  obtain ⟨fuel, hf⟩ := h
  simp only [Value.cells] at hf
  rcases DataW.trod_slice Tryz.underlying39 hf with ⟨e4, -⟩ | ⟨a, len, cap, elems, rest, m, hm, e4, -, -, hlc, hcm, hel, hat, -, -⟩
  · simp at e4
    obtain ⟨rfl, rfl, rfl⟩ := e4
    exact ⟨0, 0, none, 0, 0, rfl, by unfold maxLen; omega, .inl rfl, fun h => absurd h (by omega), Nat.zero_le _, fun j hj => absurd hj (Nat.not_lt_zero _)⟩
  · simp at e4
    obtain ⟨rfl, rfl, rfl⟩ := e4
    rw [Dt.acells] at hat
    by_cases h0 : l0 = 0
    · subst h0
      exact ⟨0, 0, some a, 0, c0, rfl, by unfold maxLen; omega, .inl rfl, fun h => absurd h (by omega), Nat.zero_le _, fun j hj => absurd hj (Nat.not_lt_zero _)⟩
    have kid : ∀ j, j < l0 → ∃ cs : List Value, cs.length = 12 ∧ (∀ i, i < 12 → w.cell? ((a.add (j * 12)).add i) = cs[i]?) ∧ ∃ x, DataW.trod enc Tryz.prog w 0 sp held m 27 cs = some x := by
      intro j hj
      have hx := hat j hj
      rw [List.getElem?_eq_getElem (by omega)] at hx
      obtain ⟨cs', hc, ht⟩ := Option.bind_eq_some_iff.1 hx
      obtain ⟨-, hcl, hcc⟩ := World.cells?_some hc
      exact ⟨cs', hcl, fun i hi => hcc i hi, _, ht⟩
    obtain ⟨b, off, spot⟩ := a
    obtain ⟨cs, hl, hc, -⟩ := kid 0 (by omega)
    have hc0 := (hc 0 (by omega)).trans (List.getElem?_eq_getElem (by omega))
    have hspot : spot = none := by simpa [Addr.add] using World.cell?_spot hc0
    subst hspot
    have hb : b < w.heap.size := by
      rcases Nat.lt_or_ge b w.heap.size with h | h
      · exact h
      · rw [add_flat, add_flat] at hc0
        simp [World.cell?, Array.getElem?_eq_none h] at hc0
    clear hc0 hc hl
    refine ⟨b, off, some ⟨b, off, none⟩, l0, c0, rfl, by omega, .inr rfl, fun _ => hb, Nat.le_of_lt hb, fun j hj => ?_⟩
    obtain ⟨cs, hl, hc, x, ht⟩ := kid j hj
    simp only [add_flat] at hc
    match cs, hl with
    | [d0, d1, d2, d3, d4, d5, d6, d7, d8, d9, d10, d11], _ =>
      obtain ⟨n, tA, tB, op, ak, ai, au, az, aa, an, ac, bk, bi, bu, bs, ba, bn, bc, num, rfl, rfl, rfl, rfl, rfl, rfl, rfl, rfl, rfl, rfl, rfl, rfl, RA, RB, a6, b6⟩ := Dt.act_of_trod m d0 d1 d2 d3 d4 d5 d6 d7 d8 d9 d10 d11 _ ht
      exact ⟨⟨op, ak, ai, au, az, aa, an, ac, bk, bi, bu, bs, ba, bn, bc, num⟩, n, tA, tB, ⟨hc 0 (by omega), hc 1 (by omega), hc 2 (by omega), hc 3 (by omega), hc 4 (by omega), hc 5 (by omega), hc 6 (by omega), hc 7 (by omega), hc 8 (by omega), hc 9 (by omega), hc 10 (by omega), hc 11 (by omega)⟩, RA, RB, a6, b6⟩
end Go.Proofs.YthamafijjflfbaaGreat
