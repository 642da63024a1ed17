/- Whatever reads as a state of requests lies in memory as such; no condition. -/
import Derived.ProofKit
import Derived.OpenShut
import Derived.SizedLaws
import Derived.Test.YtgghppojjhnbeaaXa
namespace Go.Proofs.Ytgghppojjhnbeaa
open Go.ChangeShapes Go.WideShapes Go.ChangeAt Go.WideMaps Go.WideElems Go.RowKit

theorem list_of {T : Type} (P : Nat → T → Prop) : ∀ (len : Nat), (∀ i, i < len → ∃ t, P i t) → ∃ l : List T, l.length = len ∧ ∀ i t, l[i]? = some t → P i t := by
  intro len
  induction len with
  | zero => intro _; exact ⟨[], rfl, fun i t h => by simp at h⟩
  | succ len ih =>
    intro h
    obtain ⟨l, hl, hp⟩ := ih (fun i hi => h i (by omega))
    obtain ⟨t, ht⟩ := h len (by omega)
    refine ⟨l ++ [t], by simp [hl], fun i t' hi => ?_⟩
    by_cases hlt : i < l.length
    · rw [List.getElem?_append_left hlt] at hi; exact hp i t' hi
    · rw [List.getElem?_append_right (by omega)] at hi
      have h0 : i - l.length = 0 := by
        by_cases h1 : i - l.length = 0
        · exact h1
        · rw [List.getElem?_eq_none (by simp; omega)] at hi; cases hi
      rw [h0] at hi
      simp at hi
      have : i = len := by omega
      subst this; subst hi; exact ht
theorem addp (b o n : Nat) : (⟨b, o, none⟩ : Addr).add n = ⟨b, o + n, none⟩ := by unfold Addr.add; split <;> simp_all
theorem lcells : Try.prog.cellsOf 2 = 1 := by kernel_rfl
theorem scells : Try.prog.cellsOf 9 = 1 := by kernel_rfl
theorem akcells : Try.prog.cellsOf 41 = 3 := by kernel_rfl
theorem ascells : Try.prog.cellsOf 24 = 2 := by kernel_rfl
theorem alcells : Try.prog.cellsOf 22 = 1 := by kernel_rfl
theorem array2 {cs : Array Value} (h : cs.size = 2) : ∃ c0 c1, cs = #[c0, c1] := by
  obtain ⟨l⟩ := cs
  match l, h with
  | [c0, c1], _ => exact ⟨c0, c1, rfl⟩

theorem ak_of_trod {H : Type} {enc : TypeId × Value → H} {w : World} {base : Nat} {sp : Nat → Bool} {held : Bool} (fuel : Nat) (cs : List Value) (x : DataW H × List MemPlace)
    (h : DataW.trod enc Try.prog w base sp held fuel 41 cs = some x) : ∃ r : Ak, cs = r.cl := by
  obtain ⟨xs, n, hn, ex, hlen, hxl, hf⟩ := DataW.trod_struct Try.underlying41 h
  rw [akcells] at hlen
  match cs, hlen with
  | [c0, c1, c2], _ =>
  match xs, hxl with
  | [y0, y1, y2], _ =>
    have h0 : DataW.trod enc Try.prog w base sp held n 2 (([c0, c1, c2].drop 0).take (Try.prog.cellsOf 2)) = some y0 := hf 0 _ rfl
    have h1 : DataW.trod enc Try.prog w base sp held n 2 (([c0, c1, c2].drop 1).take (Try.prog.cellsOf 2)) = some y1 := hf 1 _ rfl
    have h2 : DataW.trod enc Try.prog w base sp held n 9 (([c0, c1, c2].drop 2).take (Try.prog.cellsOf 9)) = some y2 := hf 2 _ rfl
    rw [lcells] at h0 h1
    rw [scells] at h2
    obtain ⟨co, e0, -, -⟩ := DataW.trod_int Try.underlying2 h0
    obtain ⟨un, e1, -, -⟩ := DataW.trod_int Try.underlying2 h1
    obtain ⟨tp, e2, -, -⟩ := DataW.trod_string Try.underlying9 h2
    simp at e0 e1 e2
    subst e0 e1 e2
    exact ⟨⟨co, un, tp⟩, rfl⟩

theorem al_of_trod {H : Type} {enc : TypeId × Value → H} {w : World} {base : Nat} {sp : Nat → Bool} {held : Bool} (fuel : Nat) (cs : List Value) (y : DataW H × List MemPlace)
    (h : DataW.trod enc Try.prog w base sp held fuel 22 cs = some y) :
    ∃ (sv : Value) (L : List Ak), cs = [sv] ∧ Al w sv L ∧ L.length ≤ maxLen := by
  rcases DataW.trod_slice Try.underlying22 h with ⟨e4, -⟩ | ⟨a, len, cap, elems, rest, m, hm, e4, ex, -, hlc, hcm, hel, hat, -, -⟩
  · exact ⟨.slice none 0 0, [], e4, ⟨none, 0, rfl, .inl rfl⟩, Nat.zero_le _⟩
  · rw [akcells] at hat
    have kid : ∀ j, j < len → ∃ r : Ak, ∀ q, q < 3 → w.cell? ((a.add (j * 3)).add q) = r.cl[q]? := by
      intro j hj
      have hx := hat j hj
      rw [List.getElem?_eq_getElem (by omega)] at hx
      obtain ⟨cs', hc, ht⟩ := Option.bind_eq_some_iff.1 hx
      obtain ⟨-, hcl, hcc⟩ := World.cells?_some hc
      obtain ⟨r, e⟩ := ak_of_trod _ _ _ ht
      subst e
      exact ⟨r, fun q hq => hcc q hq⟩
    obtain ⟨zs, hzl, hzp⟩ := list_of _ len kid
    subst hzl
    refine ⟨_, zs, e4, ⟨some a, cap, rfl, ?_⟩, Nat.le_trans hlc hcm⟩
    cases hzs : zs with
    | nil => exact .inl rfl
    | cons r0 rs =>
      right
      obtain ⟨b, off, spot⟩ := a
      have h00 := hzp 0 r0 (by rw [hzs]; rfl) 0 (by decide)
      have hspot : spot = none := by
        have := World.cell?_spot (h00.trans (List.getElem?_eq_getElem (by simp)))
        simpa [Addr.add] using this
      subst hspot
      refine ⟨b, off, rfl, fun j x hj q v hv => ?_⟩
      have hq : q < 3 := (List.getElem?_eq_some_iff.1 hv).1
      have := hzp j x (by rw [hzs]; exact hj) q hq
      rw [addp, addp] at this
      rw [this]
      exact hv

theorem st_of_trod {H : Type} {enc : TypeId × Value → H} {w : World} {base : Nat} {sp : Nat → Bool} {held : Bool} (fuel : Nat) (cs : List Value) (x : DataW H × List MemPlace)
    (h : DataW.trod enc Try.prog w base sp held fuel 24 cs = some x) : ∃ (nx : Int) (sv : Value) (L : List Ak), cs = [.int .i64 nx, sv] ∧ Al w sv L ∧ L.length ≤ maxLen := by
  obtain ⟨xs, n, hn, ex, hlen, hxl, hf⟩ := DataW.trod_struct Try.underlying24 h
  rw [ascells] at hlen
  match cs, hlen with
  | [c0, c1], _ =>
  match xs, hxl with
  | [y0, y1], _ =>
    have h0 : DataW.trod enc Try.prog w base sp held n 2 (([c0, c1].drop 0).take (Try.prog.cellsOf 2)) = some y0 := hf 0 _ rfl
    have h1 : DataW.trod enc Try.prog w base sp held n 22 (([c0, c1].drop 1).take (Try.prog.cellsOf 22)) = some y1 := hf 1 _ rfl
    rw [lcells] at h0
    rw [alcells] at h1
    obtain ⟨nx, e0, -, -⟩ := DataW.trod_int Try.underlying2 h0
    obtain ⟨sv, L, e1, hL, hl⟩ := al_of_trod n _ _ h1
    simp at e0 e1
    subst e0 e1
    exact ⟨nx, _, L, rfl, hL, hl⟩
end Go.Proofs.Ytgghppojjhnbeaa
