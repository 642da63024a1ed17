/- A script, and a row of numbers, as they read; no condition but those that each theorem names. -/
import Derived.Test.YtignphkfknjllaaDoorWx
import Derived.ProofKit
import Derived.OpenShut
import Derived.Stop.Joined
import Derived.Lib.SmallJoins
import Derived.Carry
namespace Go.Proofs.YtignphkfknjllaaDoor
open Go.ChangeShapes Go.WideShapes Go.ChangeAt Go.WideMaps Go.WideElems Go.RowKit Go.Joins

theorem list_of' {α : Type} (P : Nat → α → Prop) (n : Nat) (h : ∀ j, j < n → ∃ t, P j t) : ∃ l : List α, l.length = n ∧ ∀ j t, l[j]? = some t → P j t := by
  induction n with
  | zero => exact ⟨[], rfl, fun j t ht => by simp at ht⟩
  | succ n ih =>
    obtain ⟨l, hl, hp⟩ := ih (fun j hj => h j (by omega))
    obtain ⟨t, ht⟩ := h n (by omega)
    refine ⟨l ++ [t], by simp [hl], fun j u hu => ?_⟩
    rcases Nat.lt_or_ge j l.length with c | c
    · rw [List.getElem?_append_left c] at hu; exact hp j u hu
    · rw [List.getElem?_append_right c] at hu
      have hj : j - l.length = 0 := by
        have := (List.getElem?_eq_some_iff.1 hu).1
        simp at this; omega
      rw [hj] at hu
      simp at hu
      subst hu
      have : j = n := by omega
      subst this
      exact ht
theorem lt_of_cell' {w : World} {a : Addr} {v : Value} (h : w.cell? a = some v) : a.block < w.heap.size := World.block_lt_of_cell? w _ h
theorem cActs : Tryd.prog.cellsOf 29 = 3 := by kernel_rfl
theorem cInt : Tryd.prog.cellsOf 3 = 1 := by kernel_rfl
theorem cI64 : Tryd.prog.cellsOf 2 = 1 := by kernel_rfl
set_option maxRecDepth 100000 in
theorem act_of {H : Type} {enc : TypeId × Value → H} {w : World} {base : Nat} {sp : Nat → Bool} {held : Bool} {fuel : Nat} {cs : List Value} {x : DataW H × List MemPlace} (h : DataW.trod enc Tryd.prog w base sp held fuel 29 cs = some x) : ∃ k a i : Int, cs = [.int .i64 k, .int .i64 a, .int .i64 i] := by
  cases fuel with
  | zero => simp [DataW.trod] at h
  | succ fuel =>
    obtain ⟨xs, n, hn, -, hlen, hxl, hf⟩ := DataW.trod_struct Tryd.underlying29 h
    have hn' : fuel = n := by omega
    subst hn'
    rw [cActs] at hlen
    match cs, hlen with
    | [c0, c1, c2], _ =>
      have g : ∀ i, i < 3 → ∃ y, xs[i]? = some y := fun i hi => ⟨_, List.getElem?_eq_getElem (by rw [hxl]; exact hi)⟩
      obtain ⟨y0, hy0⟩ := g 0 (by decide)
      obtain ⟨y1, hy1⟩ := g 1 (by decide)
      obtain ⟨y2, hy2⟩ := g 2 (by decide)
      have h0 : DataW.trod enc Tryd.prog w base sp held fuel 3 (([c0, c1, c2].drop 0).take (Tryd.prog.cellsOf 3)) = some y0 := (hf 0 _ rfl).trans hy0
      rw [cInt] at h0
      have h1 : DataW.trod enc Tryd.prog w base sp held fuel 2 (([c0, c1, c2].drop 1).take (Tryd.prog.cellsOf 2)) = some y1 := (hf 1 _ rfl).trans hy1
      rw [cI64] at h1
      have h2 : DataW.trod enc Tryd.prog w base sp held fuel 2 (([c0, c1, c2].drop 2).take (Tryd.prog.cellsOf 2)) = some y2 := (hf 2 _ rfl).trans hy2
      rw [cI64] at h2
      obtain ⟨k, e0, -, -⟩ := DataW.trod_int Tryd.underlying3 h0
      obtain ⟨a, e1, -, -⟩ := DataW.trod_int Tryd.underlying2 h1
      obtain ⟨i, e2, -, -⟩ := DataW.trod_int Tryd.underlying2 h2
      simp at e0 e1 e2
      subst e0 e1 e2
      exact ⟨k, a, i, rfl⟩
set_option maxRecDepth 100000 in
theorem acts_of {H : Type} {enc : TypeId × Value → H} {w : World} {base : Nat} {sp : Nat → Bool} {held : Bool} {f : Nat} {v : Value} {x : DataW H × List MemPlace} (h : DataW.trod enc Tryd.prog w base sp held f 22 [v] = some x) :
    ∃ ad cap l, v = .slice ad (List.length l) cap ∧ l.length ≤ maxLen ∧ Sc w ad l ∧ ((x.1 = .nil ∧ l = []) ∨ ∃ e s, x.1 = .slice e s ∧ e.length = l.length) := by
  rcases DataW.trod_slice Tryd.underlying22 h with ⟨e4, hx⟩ | ⟨a, len, cap, elems, rest, m, hm, e4, hx, -, hlc, hcm, hel, hat, -, -⟩
  · simp at e4
    subst e4
    exact ⟨none, 0, [], rfl, by simp, .inl rfl, .inl ⟨by rw [hx], rfl⟩⟩
  · simp at e4
    subst e4
    rw [cActs] at hat
    have kid : ∀ j, j < len → ∃ t : Int × Int × Int, w.cell? (a.add (j * 3)) = some (.int .i64 t.1) ∧ w.cell? ((a.add (j * 3)).add 1) = some (.int .i64 t.2.1) ∧ w.cell? ((a.add (j * 3)).add 2) = some (.int .i64 t.2.2) := by
      intro j hj
      have hx := hat j hj
      rw [List.getElem?_eq_getElem (by omega)] at hx
      obtain ⟨cs', hc, ht⟩ := Option.bind_eq_some_iff.1 hx
      obtain ⟨-, hcl, hcc⟩ := World.cells?_some hc
      obtain ⟨k, y, i, rfl⟩ := act_of ht
      exact ⟨(k, y, i), by simpa [Addr.add] using hcc 0 (by decide), hcc 1 (by decide), hcc 2 (by decide)⟩
    obtain ⟨ks, hkl, hkp⟩ := list_of' _ len kid
    refine ⟨some a, cap, ks, by rw [hkl], by omega, ?_, .inr ⟨_, _, by rw [hx], by rw [List.length_map]; omega⟩⟩
    cases hks : ks with
    | nil => exact .inl rfl
    | cons t0 ts =>
      right
      have h00 := hkp 0 t0 (by rw [hks]; rfl)
      obtain ⟨b, off, spot⟩ := a
      have hspot : spot = none := by simpa [Addr.add] using World.cell?_spot h00.1
      subst hspot
      have ap : ∀ o i : Nat, (⟨b, o, none⟩ : Addr).add i = ⟨b, o + i, none⟩ := fun o i => by simp [Addr.add]
      refine ⟨b, off, rfl, ?_, fun j t' hj => ?_⟩
      · have := lt_of_cell' h00.1
        simpa [ap] using this
      · obtain ⟨x0, x1, x2⟩ := hkp j t' (by rw [hks]; exact hj)
        simp only [ap] at x0 x1 x2
        exact ⟨x0, x1, x2⟩
/-- Numbers in memory. -/
def Si (w : World) (ad : Option Addr) (l : List Int) : Prop := l = [] ∨ ∃ g o, ad = some ⟨g, o, none⟩ ∧ g < w.heap.size ∧ ∀ j x, l[j]? = some x → w.cell? ⟨g, o + j, none⟩ = some (.int .i64 x)
theorem i64s_of {H : Type} {enc : TypeId × Value → H} {W : World} {base : Nat} {spare : Nat → Bool} {held : Bool} {f : Nat} {v : Value} {x : DataW H × List MemPlace} (h : DataW.trod enc Tryd.prog W base spare held f 33 [v] = some x) :
    ∃ ad cap l, v = .slice ad (List.length l) cap ∧ l.length ≤ maxLen ∧ Si W ad l := by
  rcases open_ints Tryd.underlying33 Tryd.underlying2 (show Tryd.prog.cellsOf 2 = 1 by kernel_rfl) h with ⟨hcs, hx⟩ | ⟨a, len', cap', zs, hcs, _, hl, hm, hz, hx, hcell, hwz⟩
  · simp only [List.cons.injEq, and_true] at hcs
    exact ⟨none, 0, [], hcs, Nat.zero_le _, .inl rfl⟩
  · simp only [List.cons.injEq, and_true] at hcs
    have hlen : len' ≤ zs.length := by rw [hz]; split <;> omega
    have htl : (zs.take len').length = len' := by rw [List.length_take]; omega
    refine ⟨some a, cap', zs.take len', by rw [htl]; exact hcs, by omega, ?_⟩
    by_cases h0 : len' = 0
    · left; simp [h0]
    · right
      obtain ⟨b, off, rfl, hb⟩ := ints_at hcell (by omega)
      refine ⟨b, off, rfl, lt_of_cell' (hb 0 (by omega)), fun j y hj => ?_⟩
      have hjl : j < (zs.take len').length := (List.getElem?_eq_some_iff.1 hj).1
      rw [htl] at hjl
      rw [hb j (by omega)]
      rw [List.getElem?_take_of_lt hjl] at hj
      rw [List.getD_eq_getElem?_getD, hj]
      rfl
end Go.Proofs.YtignphkfknjllaaDoor
