/- Trees in memory with the blocks told, a block of places for plain data, and a place of it written; no condition but those that each theorem names. -/
import Derived.Test.YtdgjhclncjoonaaDCount
import Derived.Laws.MakeOwn
namespace Go.Proofs.Ytdgjhclncjoonaa.Dt
open Go.RowKit
theorem rep_shape' {w : World} {n : Nat} {v0 v1 v2 v3 v4 : Value} {t : Tr n} (h : Rep w n [v0, v1, v2, v3, v4] t) : ∃ (k i u : Int) (s : ByteArray) (ad : Option Addr) (len cap : Nat), v0 = .int .i64 k ∧ v1 = .int .i64 i ∧ v2 = .int .u64 u ∧ v3 = .string s ∧ v4 = .slice ad len cap := by
  match n, t, h with
  | 0, _, h => exact absurd h (by simp [Rep])
  | n + 1, t, h =>
    obtain ⟨ad, cap, h1, -⟩ := h
    simp only [List.cons.injEq, and_true] at h1
    obtain ⟨h0, h1, h2, h3, h4⟩ := h1
    exact ⟨_, _, _, _, _, _, _, h0, h1, h2, h3, h4⟩
/-- The tree t lies in w behind the five cells cs, in blocks of which F tells. -/
def Rf (F : Nat → Prop) (w : World) : (n : Nat) → List Value → Tr n → Prop
  | 0, _, _ => False
  | n + 1, cs, t => ∃ (ad : Option Addr) (cap : Nat), cs = [.int .i64 t.kd, .int .i64 t.it, .int .u64 t.ut, .string t.tx, .slice ad t.ks.length cap] ∧ t.tx.size ≤ maxLen ∧ t.ks.length ≤ cap ∧ cap ≤ maxLen ∧
      (t.ks = [] ∨ ∃ g o, ad = some ⟨g, o, none⟩ ∧ (F g ∧ ∀ q, w.frozen? ⟨g, q, none⟩ = false) ∧ ∀ (j : Nat) (t' : Tr n), t.ks[j]? = some t' → ∃ v0 v1 v2 v3 v4, w.cell? ⟨g, o + j * 5, none⟩ = some v0 ∧ w.cell? ⟨g, o + j * 5 + 1, none⟩ = some v1 ∧ w.cell? ⟨g, o + j * 5 + 2, none⟩ = some v2 ∧ w.cell? ⟨g, o + j * 5 + 3, none⟩ = some v3 ∧ w.cell? ⟨g, o + j * 5 + 4, none⟩ = some v4 ∧ Rf F w n [v0, v1, v2, v3, v4] t')
theorem Rf.rep {F : Nat → Prop} {w : World} : ∀ (n : Nat) (cs : List Value) (t : Tr n), Rf F w n cs t → Rep w n cs t
  | 0, _, _, h => h
  | n + 1, cs, t, h => by
    obtain ⟨ad, cap, h1, h2, h3, h4, h5⟩ := h
    refine ⟨ad, cap, h1, h2, h3, h4, ?_⟩
    rcases h5 with h5 | ⟨g, o, h6, -, h7⟩
    · exact .inl h5
    · refine .inr ⟨g, o, h6, fun j t' hj => ?_⟩
      obtain ⟨v0, v1, v2, v3, v4, c0, c1, c2, c3, c4, r⟩ := h7 j t' hj
      exact ⟨v0, v1, v2, v3, v4, c0, c1, c2, c3, c4, Rf.rep n _ _ r⟩
theorem cell_heap {w w' : World} {g o : Nat} (h : w'.heap[g]? = w.heap[g]?) : w'.cell? ⟨g, o, none⟩ = w.cell? ⟨g, o, none⟩ := by simp [World.cell?, h]
theorem frozen_heap {w w' : World} {g o : Nat} (h : w'.heap[g]? = w.heap[g]?) : w'.frozen? ⟨g, o, none⟩ = w.frozen? ⟨g, o, none⟩ := by simp [World.frozen?, h]
theorem Rf.to {F F' : Nat → Prop} {w w' : World} (hF : ∀ g, F g → F' g ∧ w'.heap[g]? = w.heap[g]?) : ∀ (n : Nat) (cs : List Value) (t : Tr n), Rf F w n cs t → Rf F' w' n cs t
  | 0, _, _, h => h
  | n + 1, cs, t, h => by
    obtain ⟨ad, cap, h1, h2, h3, h4, h5⟩ := h
    refine ⟨ad, cap, h1, h2, h3, h4, ?_⟩
    rcases h5 with h5 | ⟨g, o, h6, hg, h7⟩
    · exact .inl h5
    · obtain ⟨hg', hh⟩ := hF g hg.1
      refine .inr ⟨g, o, h6, ⟨hg', fun q => (frozen_heap hh).trans (hg.2 q)⟩, fun j t' hj => ?_⟩
      obtain ⟨v0, v1, v2, v3, v4, c0, c1, c2, c3, c4, r⟩ := h7 j t' hj
      exact ⟨v0, v1, v2, v3, v4, (cell_heap hh).trans c0, (cell_heap hh).trans c1, (cell_heap hh).trans c2, (cell_heap hh).trans c3, (cell_heap hh).trans c4, Rf.to hF n _ _ r⟩
/-- A block of n places for plain data. -/
def Rq (w : World) (N n : Nat) : Prop := ∃ cs : Array Value, w.heap[N]? = some (.cells cs 28 (0, 0)) ∧ cs.size = n * 5
theorem Rq.lt {w : World} {N n : Nat} (h : Rq w N n) : N < w.heap.size := by obtain ⟨cs, h, -⟩ := h; exact (Array.getElem?_eq_some_iff.1 h).1
theorem Rq.below {w w' : World} {N n : Nat} (h : Rq w N n) (hb : Below w.heap.size w w') : Rq w' N n := by
  have hl := h.lt
  obtain ⟨cs, h, e⟩ := h; exact ⟨cs, (hb.block N hl).trans h, e⟩
theorem Rq.c {w : World} {N n j : Nat} (h : Rq w N n) (hj : j < n * 5) : ∃ x, w.cell? ⟨N, j, none⟩ = some x := by
  obtain ⟨cs, h, e⟩ := h
  exact ⟨cs[j]'(by omega), by simp [World.cell?, h, e, hj]⟩
theorem Rq.f {w : World} {N n o : Nat} (h : Rq w N n) : w.frozen? ⟨N, o, none⟩ = false := by
  obtain ⟨cs, h, -⟩ := h; simp [World.frozen?, h]
theorem Rq.set {w : World} {N n j : Nat} (h : Rq w N n) (x : Value) : Rq (w.setCell ⟨N, j, none⟩ x) N n := by
  obtain ⟨cs, h1, h2⟩ := h
  exact ⟨cs.setIfInBounds j x, by simp [World.setCell, Array.getElem?_modify, h1], by simp [h2]⟩
/-- The list's block before its part j. -/
def Lq (w : World) (N n : Nat) (F : Nat → Prop) (m : Nat) (ks : List (Tr m)) (j : Nat) : Prop := Rq w N n ∧ ∀ (k : Nat) (t : Tr m), k < j → ks[k]? = some t → ∃ v0 v1 v2 v3 v4, w.cell? ⟨N, k * 5, none⟩ = some v0 ∧ w.cell? ⟨N, k * 5 + 1, none⟩ = some v1 ∧ w.cell? ⟨N, k * 5 + 2, none⟩ = some v2 ∧ w.cell? ⟨N, k * 5 + 3, none⟩ = some v3 ∧ w.cell? ⟨N, k * 5 + 4, none⟩ = some v4 ∧ Rf F w m [v0, v1, v2, v3, v4] t
theorem set5_at (w : World) (N n j : Nat) (h : Rq w N n) (hj : j < n) (x0 x1 x2 x3 x4 : Value) {W : World} (hW : W = ((((w.setCell ⟨N, j * 5, none⟩ x0).setCell ⟨N, j * 5 + 1, none⟩ x1).setCell ⟨N, j * 5 + 2, none⟩ x2).setCell ⟨N, j * 5 + 3, none⟩ x3).setCell ⟨N, j * 5 + 4, none⟩ x4) :
    Rq W N n ∧ W.heap.size = w.heap.size ∧ (∀ q, q ≠ N → W.heap[q]? = w.heap[q]?) ∧ (W.cell? ⟨N, j * 5, none⟩ = some x0 ∧ W.cell? ⟨N, j * 5 + 1, none⟩ = some x1 ∧ W.cell? ⟨N, j * 5 + 2, none⟩ = some x2 ∧ W.cell? ⟨N, j * 5 + 3, none⟩ = some x3 ∧ W.cell? ⟨N, j * 5 + 4, none⟩ = some x4) ∧ ∀ o, (o < j * 5 ∨ j * 5 + 4 < o) → W.cell? ⟨N, o, none⟩ = w.cell? ⟨N, o, none⟩ := by
  subst hW
  have c : ∀ o, o < n * 5 → ∃ x, w.cell? ⟨N, o, none⟩ = some x := fun o ho => h.c ho
  obtain ⟨y0, z0⟩ := c (j * 5) (by omega)
  obtain ⟨y1, z1⟩ := c (j * 5 + 1) (by omega)
  obtain ⟨y2, z2⟩ := c (j * 5 + 2) (by omega)
  obtain ⟨y3, z3⟩ := c (j * 5 + 3) (by omega)
  obtain ⟨y4, z4⟩ := c (j * 5 + 4) (by omega)
  refine ⟨((((h.set _).set _).set _).set _).set _, by simp [World.setCell], fun q hq => ?_, ?_, fun o ho => ?_⟩
  · rw [Below.heap_setCell _ _ _ q hq, Below.heap_setCell _ _ _ q hq, Below.heap_setCell _ _ _ q hq, Below.heap_setCell _ _ _ q hq, Below.heap_setCell _ _ _ q hq]
  · simp [World.cell?_setCell_same, World.cell?_setCell_other, z0, z1, z2, z3, z4]
  · rw [World.cell?_setCell_other, World.cell?_setCell_other, World.cell?_setCell_other, World.cell?_setCell_other, World.cell?_setCell_other]
    all_goals (simp only [ne_eq, Addr.mk.injEq]; omega)
theorem infoDat : (Try.prog.info? 28).map (fun i => (i.zero, i.size, i.bytes)) = some (some (.agg #[.int .i64 0, .int .i64 0, .int .u64 0, .string ⟨#[]⟩, .slice none 0 0]), 5, 64) := by kernel_rfl
theorem infoDat_parts : ∃ i0, Try.prog.info? 28 = some i0 ∧ i0.zero = some (.agg #[.int .i64 0, .int .i64 0, .int .u64 0, .string ⟨#[]⟩, .slice none 0 0]) ∧ i0.size = 5 ∧ i0.bytes = 64 := by
  have h := infoDat
  cases hi : Try.prog.info? 28 with
  | none => rw [hi] at h; cases h
  | some i0 =>
    rw [hi] at h
    simp only [Option.map_some, Option.some.injEq, Prod.mk.injEq] at h
    exact ⟨i0, rfl, h.1, h.2.1, h.2.2⟩

theorem ptsL_fst {T : Type} (c : T → Int × Int) (h1 : ∀ t, 1 ≤ (c t).1) : ∀ (ks : List T) (p d : Int), p + ks.length ≤ (ptsL c ks p d).1 ∧ ∀ t ∈ ks, p + (c t).1 ≤ (ptsL c ks p d).1
  | [], p, d => ⟨by simp [ptsL], fun t ht => by cases ht⟩
  | t :: ts, p, d => by
    have I := ptsL_fst c h1 ts (p + (c t).1) (max d (c t).2)
    have q := h1 t
    simp only [ptsL]
    refine ⟨?_, fun t' ht => ?_⟩
    · have := I.1; simp only [List.length_cons, Int.natCast_add, Int.natCast_one]; omega
    · rcases List.mem_cons.1 ht with rfl | ht
      · have := I.1; omega
      · have := I.2 t' ht; omega
theorem pts_pos1 : ∀ (n : Nat) (t : Tr n), 1 ≤ (pts n t).1
  | 0, t => t.elim
  | n + 1, t => by
    simp only [pts]
    have := (ptsL_fst (pts n) (pts_pos1 n) t.ks 1 0).1
    omega
theorem pts_kids {n : Nat} {t : Tr (n + 1)} (h : (pts (n + 1) t).1 ≤ 4096) : t.ks.length ≤ 4096 ∧ ∀ t' ∈ t.ks, (pts n t').1 ≤ 4096 := by
  simp only [pts] at h
  have := ptsL_fst (pts n) (pts_pos1 n) t.ks 1 0
  exact ⟨by omega, fun t' ht => by have := this.2 t' ht; omega⟩

end Go.Proofs.Ytdgjhclncjoonaa.Dt
