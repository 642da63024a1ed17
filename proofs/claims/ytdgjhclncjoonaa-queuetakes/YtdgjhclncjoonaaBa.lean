/- Messages in memory, their bodies as trees: one by one, in rows, in rows that grow; no condition but those that each theorem names. -/
import Derived.Test.YtdgjhclncjoonaaXVc
import Derived.Test.YtdgjhclncjoonaaXCopy
import Derived.Test.YtdgjhclncjoonaaDSam
import Derived.Deep.AppendLies
import Derived.Maps.AppendAt
import Derived.Laws.OwnMore
import Derived.Laws.CopyOwn
namespace Go.Proofs.Ytdgjhclncjoonaa
open Go.RowKit

/-- The tree t lies in w behind the five cells cs, its parts in blocks of which F tells. -/
def Rz (F : Nat → Prop) (w : World) : (n : Nat) → List Value → Dt.Tr n → Prop
  | 0, _, _ => False
  | n + 1, cs, t => ∃ (ad : Option Addr) (cap : Nat), cs = [.int .i64 t.kd, .int .i64 t.it, .int .u64 t.ut, .string t.tx, .slice ad t.ks.length cap] ∧ t.tx.size ≤ maxLen ∧ t.ks.length ≤ cap ∧ cap ≤ maxLen ∧
      (t.ks = [] ∨ ∃ g o, ad = some ⟨g, o, none⟩ ∧ F g ∧ ∀ (j : Nat) (t' : Dt.Tr n), t.ks[j]? = some t' → ∃ v0 v1 v2 v3 v4, w.cell? ⟨g, o + j * 5, none⟩ = some v0 ∧ w.cell? ⟨g, o + j * 5 + 1, none⟩ = some v1 ∧ w.cell? ⟨g, o + j * 5 + 2, none⟩ = some v2 ∧ w.cell? ⟨g, o + j * 5 + 3, none⟩ = some v3 ∧ w.cell? ⟨g, o + j * 5 + 4, none⟩ = some v4 ∧ Rz F w n [v0, v1, v2, v3, v4] t')
theorem Rz.rep {F : Nat → Prop} {w : World} : ∀ (n : Nat) (cs : List Value) (t : Dt.Tr n), Rz F w n cs t → Dt.Rep w n cs t
  | 0, _, _, h => h
  | n + 1, cs, t, h => by
    obtain ⟨ad, cap, h1, h2, h3, h4, h5⟩ := h
    refine ⟨ad, cap, h1, h2, h3, h4, ?_⟩
    rcases h5 with h5 | ⟨g, o, h6, -, h7⟩
    · exact .inl h5
    · refine .inr ⟨g, o, h6, fun j t' hj => ?_⟩
      obtain ⟨v0, v1, v2, v3, v4, c0, c1, c2, c3, c4, r⟩ := h7 j t' hj
      exact ⟨v0, v1, v2, v3, v4, c0, c1, c2, c3, c4, Rz.rep n _ _ r⟩
theorem Rz.of_rep {w : World} : ∀ (n : Nat) (cs : List Value) (t : Dt.Tr n), Dt.Rep w n cs t → Rz (fun g => g < w.heap.size) w n cs t
  | 0, _, _, h => h
  | n + 1, cs, t, h => by
    obtain ⟨ad, cap, h1, h2, h3, h4, h5⟩ := h
    refine ⟨ad, cap, h1, h2, h3, h4, ?_⟩
    by_cases h0 : t.ks = []
    · exact .inl h0
    rcases h5 with h5 | ⟨g, o, h6, h7⟩
    · exact absurd h5 h0
    · have hp : 0 < t.ks.length := List.length_pos_iff.2 h0
      obtain ⟨_, _, _, _, _, c0, _⟩ := h7 0 _ (List.getElem?_eq_getElem hp)
      refine .inr ⟨g, o, h6, World.block_lt_of_cell? w _ c0, fun j t' hj => ?_⟩
      obtain ⟨v0, v1, v2, v3, v4, c0, c1, c2, c3, c4, r⟩ := h7 j t' hj
      exact ⟨v0, v1, v2, v3, v4, c0, c1, c2, c3, c4, Rz.of_rep n _ _ r⟩
theorem Rz.of_rf {F : Nat → Prop} {w : World} : ∀ (n : Nat) (cs : List Value) (t : Dt.Tr n), Dt.Rf F w n cs t → Rz F w n cs t
  | 0, _, _, h => h
  | n + 1, cs, t, h => by
    obtain ⟨ad, cap, h1, h2, h3, h4, h5⟩ := h
    refine ⟨ad, cap, h1, h2, h3, h4, ?_⟩
    rcases h5 with h5 | ⟨g, o, h6, hg, h7⟩
    · exact .inl h5
    · refine .inr ⟨g, o, h6, hg.1, fun j t' hj => ?_⟩
      obtain ⟨v0, v1, v2, v3, v4, c0, c1, c2, c3, c4, r⟩ := h7 j t' hj
      exact ⟨v0, v1, v2, v3, v4, c0, c1, c2, c3, c4, Rz.of_rf n _ _ r⟩
theorem Rz.to {F F' : Nat → Prop} {w w' : World} (hF : ∀ g, F g → F' g ∧ w'.heap[g]? = w.heap[g]?) : ∀ (n : Nat) (cs : List Value) (t : Dt.Tr n), Rz F w n cs t → Rz F' w' n cs t
  | 0, _, _, h => h
  | n + 1, cs, t, h => by
    obtain ⟨ad, cap, h1, h2, h3, h4, h5⟩ := h
    refine ⟨ad, cap, h1, h2, h3, h4, ?_⟩
    rcases h5 with h5 | ⟨g, o, h6, hg, h7⟩
    · exact .inl h5
    · obtain ⟨hg', hh⟩ := hF g hg
      refine .inr ⟨g, o, h6, hg', fun j t' hj => ?_⟩
      obtain ⟨v0, v1, v2, v3, v4, c0, c1, c2, c3, c4, r⟩ := h7 j t' hj
      exact ⟨v0, v1, v2, v3, v4, (Dt.cell_heap hh).trans c0, (Dt.cell_heap hh).trans c1, (Dt.cell_heap hh).trans c2, (Dt.cell_heap hh).trans c3, (Dt.cell_heap hh).trans c4, Rz.to hF n _ _ r⟩

/-- A message; its body is a tree. -/
structure Ms where
  id : Int
  tp : ByteArray
  n : Nat
  t : Dt.Tr n
  ti : Int
  un : Int
  rp : ByteArray
  co : Int
  pr : Int
  ho : Int
/-- The five cells of a body. -/
structure Bo where
  k : Int
  i : Int
  u : Int
  s : ByteArray
  a : Option Addr
  l : Nat
  c : Nat
abbrev Bo.vs (d : Bo) : List Value := [.int .i64 d.k, .int .i64 d.i, .int .u64 d.u, .string d.s, .slice d.a d.l d.c]
abbrev Ms.cs (x : Ms) (d : Bo) : Array Value := #[.int .i64 x.id, .string x.tp, .int .i64 d.k, .int .i64 d.i, .int .u64 d.u, .string d.s, .slice d.a d.l d.c, .int .i64 x.ti, .int .i64 x.un, .string x.rp, .int .i64 x.co, .int .i64 x.pr, .int .i64 x.ho]
theorem bo_of {w : World} {n : Nat} {v0 v1 v2 v3 v4 : Value} {t : Dt.Tr n} (h : Dt.Rep w n [v0, v1, v2, v3, v4] t) : ∃ d : Bo, [v0, v1, v2, v3, v4] = d.vs := by
  obtain ⟨k, i, u, s, ad, len, cap, rfl, rfl, rfl, rfl, rfl⟩ := Dt.rep_shape' h
  exact ⟨⟨k, i, u, s, ad, len, cap⟩, rfl⟩
/-- A message's cells stand at a place. -/
def C13 (w : World) (b o : Nat) (x : Ms) (d : Bo) : Prop := w.cell? ⟨b, o, none⟩ = some (.int .i64 x.id) ∧ w.cell? ⟨b, o + 1, none⟩ = some (.string x.tp) ∧ w.cell? ⟨b, o + 2, none⟩ = some (.int .i64 d.k) ∧ w.cell? ⟨b, o + 3, none⟩ = some (.int .i64 d.i) ∧ w.cell? ⟨b, o + 4, none⟩ = some (.int .u64 d.u) ∧ w.cell? ⟨b, o + 5, none⟩ = some (.string d.s) ∧ w.cell? ⟨b, o + 6, none⟩ = some (.slice d.a d.l d.c) ∧ w.cell? ⟨b, o + 7, none⟩ = some (.int .i64 x.ti) ∧ w.cell? ⟨b, o + 8, none⟩ = some (.int .i64 x.un) ∧ w.cell? ⟨b, o + 9, none⟩ = some (.string x.rp) ∧ w.cell? ⟨b, o + 10, none⟩ = some (.int .i64 x.co) ∧ w.cell? ⟨b, o + 11, none⟩ = some (.int .i64 x.pr) ∧ w.cell? ⟨b, o + 12, none⟩ = some (.int .i64 x.ho)
theorem C13.heap {w w' : World} {b o : Nat} {x : Ms} {d : Bo} (h : C13 w b o x d) (hh : w'.heap[b]? = w.heap[b]?) : C13 w' b o x d := by
  have c : ∀ p, w'.cell? ⟨b, p, none⟩ = w.cell? ⟨b, p, none⟩ := fun p => Dt.cell_heap hh
  simp only [C13, c]
  exact h
theorem C13.at {w : World} {b o : Nat} {x : Ms} {d : Bo} (h : C13 w b o x d) (q : Nat) (hq : q < 13) : w.cell? ⟨b, o + q, none⟩ = (x.cs d)[q]? := by
  obtain ⟨x0, x1, x2, x3, x4, x5, x6, x7, x8, x9, x10, x11, x12⟩ := h
  match q, hq with
  | 0, _ => exact x0
  | 1, _ => exact x1
  | 2, _ => exact x2
  | 3, _ => exact x3
  | 4, _ => exact x4
  | 5, _ => exact x5
  | 6, _ => exact x6
  | 7, _ => exact x7
  | 8, _ => exact x8
  | 9, _ => exact x9
  | 10, _ => exact x10
  | 11, _ => exact x11
  | 12, _ => exact x12
theorem C13.of {w : World} {b o : Nat} {x : Ms} {d : Bo} (h : ∀ q, q < 13 → w.cell? ⟨b, o + q, none⟩ = (x.cs d)[q]?) : C13 w b o x d :=
  ⟨h 0 (by decide), h 1 (by decide), h 2 (by decide), h 3 (by decide), h 4 (by decide), h 5 (by decide), h 6 (by decide), h 7 (by decide), h 8 (by decide), h 9 (by decide), h 10 (by decide), h 11 (by decide), h 12 (by decide)⟩
theorem C13.lt {w : World} {b o : Nat} {x : Ms} {d : Bo} (h : C13 w b o x d) : b < w.heap.size := World.block_lt_of_cell? w _ h.1

/-- A row of messages, its block and the bodies' in those of which F tells. -/
def Mz (F : Nat → Prop) (w : World) (ad : Option Addr) (l : List Ms) : Prop := l = [] ∨ ∃ b o, ad = some ⟨b, o, none⟩ ∧ F b ∧ ∀ j x, l[j]? = some x → ∃ d : Bo, C13 w b (o + j * 13) x d ∧ Rz F w x.n d.vs x.t
theorem Mz.to {F F' : Nat → Prop} {w w' : World} {ad : Option Addr} {l : List Ms} (h : Mz F w ad l) (hF : ∀ g, F g → F' g ∧ w'.heap[g]? = w.heap[g]?) : Mz F' w' ad l := by
  rcases h with h | ⟨b, o, h1, h2, h3⟩
  · exact .inl h
  · refine .inr ⟨b, o, h1, (hF b h2).1, fun j x hj => ?_⟩
    obtain ⟨d, c, r⟩ := h3 j x hj
    exact ⟨d, c.heap (hF b h2).2, Rz.to hF _ _ _ r⟩
/-- A row of messages in memory. -/
abbrev Mw (w : World) (ad : Option Addr) (l : List Ms) : Prop := Mz (fun g => g < w.heap.size) w ad l
theorem Mz.mw {F : Nat → Prop} {w : World} {ad : Option Addr} {l : List Ms} (h : Mz F w ad l) : Mw w ad l := by
  rcases h with h | ⟨b, o, h1, h2, h3⟩
  · exact .inl h
  · by_cases h0 : l = []
    · exact .inl h0
    · have hp : 0 < l.length := List.length_pos_iff.2 h0
      obtain ⟨_, c, _⟩ := h3 0 _ (List.getElem?_eq_getElem hp)
      refine .inr ⟨b, o, h1, c.lt, fun j x hj => ?_⟩
      obtain ⟨d, c, r⟩ := h3 j x hj
      exact ⟨d, c, Rz.of_rep _ _ _ (Rz.rep _ _ _ r)⟩
theorem Mw.below {w w' : World} {ad : Option Addr} {l : List Ms} (h : Mw w ad l) (hb : Below w.heap.size w w') : Mw w' ad l :=
  Mz.to h fun g hg => ⟨Nat.lt_of_lt_of_le hg hb.size, hb.block g hg⟩
/-- All bodies are of a size that can be. -/
def Sm (l : List Ms) : Prop := ∀ x ∈ l, (Dt.pts x.n x.t).1 ≤ 4096
theorem Sm.app {l m : List Ms} (h : Sm l) (h' : Sm m) : Sm (l ++ m) := fun x hx => by
  rcases List.mem_append.1 hx with hx | hx
  · exact h x hx
  · exact h' x hx

/-- A row of messages in new memory that nothing else has: it may be written. -/
def Mf (F : Nat → Prop) (w : World) (ad : Option Addr) (l : List Ms) : Prop := l = [] ∨ ∃ b, ad = some ⟨b, 0, none⟩ ∧ F b ∧ (∀ q, w.frozen? ⟨b, q, none⟩ = false) ∧ ∀ j x, l[j]? = some x → ∃ d : Bo, C13 w b (j * 13) x d ∧ Dt.Rf (fun g => F g ∧ g ≠ b) w x.n d.vs x.t
theorem Mf.to {F F' : Nat → Prop} {w w' : World} {ad : Option Addr} {l : List Ms} (h : Mf F w ad l) (hF : ∀ g, F g → F' g ∧ w'.heap[g]? = w.heap[g]?) : Mf F' w' ad l := by
  rcases h with h | ⟨b, h1, h2, h3, h4⟩
  · exact .inl h
  · refine .inr ⟨b, h1, (hF b h2).1, fun q => (Dt.frozen_heap (hF b h2).2).trans (h3 q), fun j x hj => ?_⟩
    obtain ⟨d, c, r⟩ := h4 j x hj
    exact ⟨d, c.heap (hF b h2).2, Dt.Rf.to (fun g hg => ⟨⟨(hF g hg.1).1, hg.2⟩, (hF g hg.1).2⟩) _ _ _ r⟩
theorem Mf.mz {F : Nat → Prop} {w : World} {ad : Option Addr} {l : List Ms} (h : Mf F w ad l) : Mz F w ad l := by
  rcases h with h | ⟨b, h1, h2, h3, h4⟩
  · exact .inl h
  · refine .inr ⟨b, 0, h1, h2, fun j x hj => ?_⟩
    obtain ⟨d, c, r⟩ := h4 j x hj
    refine ⟨d, ?_, Rz.to (fun g hg => ⟨hg.1, rfl⟩) _ _ _ (Rz.of_rf _ _ _ r)⟩
    rw [Nat.zero_add]; exact c

/-- A row of messages that grows: its own block lies from L on; F tells of the bodies' blocks. -/
structure Mp (L : Nat) (F : Nat → Prop) (l : List Ms) (sl : Value) (xs : List Value) (w : World) : Prop where
  s : L ≤ w.heap.size
  o : w.ownsRow L 30 13 sl l.length xs
  k : ∀ q x, l[q]? = some x → ∃ d : Bo, (∀ i, i < 13 → xs[q * 13 + i]? = (x.cs d)[i]?) ∧ Rz F w x.n d.vs x.t
theorem Mp.nil (L : Nat) (F : Nat → Prop) (w : World) (h : L ≤ w.heap.size) : Mp L F [] (.slice none 0 0) [] w := ⟨h, World.ownsRow_nil _ _ _ _, fun q x hx => by simp at hx⟩
theorem Mp.to {L : Nat} {F F' : Nat → Prop} {l : List Ms} {sl : Value} {xs : List Value} {w w' : World} (h : Mp L F l sl xs w) (hs : w.heap.size ≤ w'.heap.size) (ho : ∀ g, sl.ownBlock = some g → w'.heap[g]? = w.heap[g]?) (hF : ∀ g, F g → F' g ∧ w'.heap[g]? = w.heap[g]?) : Mp L F' l sl xs w' := by
  refine ⟨Nat.le_trans h.s hs, ?_, fun q x hq => ?_⟩
  · obtain ⟨o1, o2⟩ := h.o
    refine ⟨o1, ?_⟩
    rcases o2 with o2 | ⟨g, cap, cur, e1, e2, e3, e4⟩
    · exact .inl o2
    · exact .inr ⟨g, cap, cur, e1, e2, (ho g (by rw [e1]; rfl)).trans e3, e4⟩
  · obtain ⟨d, c, r⟩ := h.k q x hq
    exact ⟨d, c, Rz.to hF _ _ _ r⟩
theorem Mp.own_lt {L : Nat} {F : Nat → Prop} {l : List Ms} {sl : Value} {xs : List Value} {w : World} (h : Mp L F l sl xs w) (g : Nat) (hg : sl.ownBlock = some g) : L ≤ g ∧ g < w.heap.size := h.o.lt g hg
theorem Mp.below {L : Nat} {F : Nat → Prop} {l : List Ms} {sl : Value} {xs : List Value} {w w' : World} (h : Mp L F l sl xs w) (hb : Below w.heap.size w w') (hF : ∀ g, F g → g < w.heap.size) : Mp L F l sl xs w' :=
  h.to hb.size (fun g hg => hb.block g (h.own_lt g hg).2) (fun g hg => ⟨hg, hb.block g (hF g hg)⟩)
theorem add13 (b o n : Nat) : (⟨b, o, none⟩ : Addr).add n = ⟨b, o + n, none⟩ := by unfold Addr.add; split <;> simp_all
/-- What the row is. -/
theorem Mp.mz {L : Nat} {F F' : Nat → Prop} {l : List Ms} {sl : Value} {xs : List Value} {w : World} (h : Mp L F l sl xs w) (hF : ∀ g, F g → F' g) (hO : ∀ g, sl.ownBlock = some g → F' g) : ∃ ad cap, sl = .slice ad l.length cap ∧ Mz F' w ad l := by
  rcases h.o.2 with ⟨e, e0⟩ | ⟨g, cap, cur, e1, e2, e3, e4⟩
  · exact ⟨none, 0, by rw [e, e0], .inl (List.length_eq_zero_iff.1 e0)⟩
  · refine ⟨some ⟨g, 0, none⟩, cap, e1, .inr ⟨g, 0, rfl, hO g (by rw [e1]; rfl), fun j x hj => ?_⟩⟩
    obtain ⟨d, c, r⟩ := h.k j x hj
    refine ⟨d, C13.of fun q hq => ?_, Rz.to (fun g hg => ⟨hF g hg, rfl⟩) _ _ _ r⟩
    have hc := c q hq
    have hs : q < (x.cs d).size := hq
    rw [Array.getElem?_eq_getElem hs] at hc ⊢
    have := h.o.cells (g := g) (by rw [e1]; rfl) _ _ hc
    rw [add13] at this
    rw [show 0 + j * 13 + q = 0 + (j * 13 + q) by omega]
    exact this
/-- The cells of a row that lies in memory, as they are appended. -/
theorem Mz.news {F : Nat → Prop} {w : World} {b o : Nat} {l : List Ms} (h : ∀ j x, l[j]? = some x → ∃ d : Bo, C13 w b (o + j * 13) x d ∧ Rz F w x.n d.vs x.t) : ∃ news : List Value, news.length = l.length * 13 ∧ (∀ j u, news[j]? = some u → w.cell? ((⟨b, o, none⟩ : Addr).add j) = some u) ∧ (∀ u ∈ news, u.oneCell' = true) ∧ ∀ q x, l[q]? = some x → ∃ d : Bo, (∀ i, i < 13 → news[q * 13 + i]? = (x.cs d)[i]?) ∧ Rz F w x.n d.vs x.t := by
  induction l generalizing o with
  | nil => exact ⟨[], rfl, fun j u h => by simp at h, fun u h => by simp at h, fun q x h => by simp at h⟩
  | cons y l ih =>
    obtain ⟨d, c, r⟩ := h 0 y rfl
    obtain ⟨news, n1, n2, n3, n4⟩ := ih (o := o + 13) (fun j x hj => by
      obtain ⟨d, c, r⟩ := h (j + 1) x (by simpa using hj)
      exact ⟨d, by rw [show o + 13 + j * 13 = o + (j + 1) * 13 by omega]; exact c, r⟩)
    rw [Nat.zero_mul, Nat.add_zero] at c
    have hl : (y.cs d).toList.length = 13 := rfl
    refine ⟨(y.cs d).toList ++ news, by rw [List.length_append, hl, n1, List.length_cons]; omega, fun j u hu => ?_, fun u hu => ?_, fun q x hq => ?_⟩
    · by_cases hj : j < 13
      · rw [List.getElem?_append_left (by omega), Array.getElem?_toList] at hu
        rw [add13, c.at j hj]; exact hu
      · rw [List.getElem?_append_right (by omega), hl] at hu
        have := n2 _ _ hu
        rw [add13] at this ⊢
        rwa [show o + 13 + (j - 13) = o + j by omega] at this
    · rcases List.mem_append.1 hu with hu | hu
      · simp at hu
        rcases hu with rfl | rfl | rfl | rfl | rfl | rfl | rfl | rfl | rfl | rfl | rfl | rfl | rfl <;> rfl
      · exact n3 u hu
    · cases q with
      | zero =>
        simp at hq
        subst hq
        refine ⟨d, fun i hi => ?_, r⟩
        rw [Nat.zero_mul, Nat.zero_add, List.getElem?_append_left (by omega), Array.getElem?_toList]
      | succ q =>
        obtain ⟨d', c', r'⟩ := n4 q x (by simpa using hq)
        refine ⟨d', fun i hi => ?_, r'⟩
        rw [List.getElem?_append_right (by omega), hl, show (q + 1) * 13 + i - 13 = q * 13 + i by omega]
        exact c' i hi
/-- A row laid behind. -/
theorem Mp.step {L : Nat} {F F' : Nat → Prop} {l m : List Ms} {sl sl' : Value} {xs news : List Value} {w w' : World} (h : Mp L F l sl xs w)
    (hn : ∀ q x, m[q]? = some x → ∃ d : Bo, (∀ i, i < 13 → news[q * 13 + i]? = (x.cs d)[i]?) ∧ Rz F w x.n d.vs x.t)
    (own : w'.ownsRow L 30 13 sl' (l.length + m.length) (xs ++ news)) (gr : w.grownBy w' sl.ownBlock)
    (hF : ∀ g, F g → F' g ∧ g < w.heap.size ∧ some g ≠ sl.ownBlock) : Mp L F' (l ++ m) sl' (xs ++ news) w' := by
  have xl : xs.length = l.length * 13 := h.o.1
  refine ⟨Nat.le_trans h.s gr.size, by rw [List.length_append]; exact own, fun q x hq => ?_⟩
  have hR : ∀ g, F g → F' g ∧ w'.heap[g]? = w.heap[g]? := fun g hg => ⟨(hF g hg).1, gr.block g (hF g hg).2.1 (hF g hg).2.2⟩
  by_cases hlt : q < l.length
  · rw [List.getElem?_append_left hlt] at hq
    obtain ⟨d, c, r⟩ := h.k q x hq
    refine ⟨d, fun i hi => ?_, Rz.to hR _ _ _ r⟩
    rw [List.getElem?_append_left (by omega)]
    exact c i hi
  · rw [List.getElem?_append_right (by omega)] at hq
    obtain ⟨d, c, r⟩ := hn _ x hq
    refine ⟨d, fun i hi => ?_, Rz.to hR _ _ _ r⟩
    rw [List.getElem?_append_right (by omega), xl, show q * 13 + i - l.length * 13 = (q - l.length) * 13 + i by omega]
    exact c i hi
theorem infoM : (Try.prog.info? 30).map (fun i => (i.zero, i.size, i.bytes)) = some (some (.agg #[.int .i64 0, .string ⟨#[]⟩, .int .i64 0, .int .i64 0, .int .u64 0, .string ⟨#[]⟩, .slice none 0 0, .int .i64 0, .int .i64 0, .string ⟨#[]⟩, .int .i64 0, .int .i64 0, .int .i64 0]), 13, 144) := by kernel_rfl
theorem infoM_parts : ∃ i0, Try.prog.info? 30 = some i0 ∧ i0.zero = some (.agg #[.int .i64 0, .string ⟨#[]⟩, .int .i64 0, .int .i64 0, .int .u64 0, .string ⟨#[]⟩, .slice none 0 0, .int .i64 0, .int .i64 0, .string ⟨#[]⟩, .int .i64 0, .int .i64 0, .int .i64 0]) ∧ i0.size = 13 ∧ i0.bytes = 144 := by
  have h := infoM
  cases hi : Try.prog.info? 30 with
  | none => rw [hi] at h; cases h
  | some i0 =>
    rw [hi] at h
    simp only [Option.map_some, Option.some.injEq, Prod.mk.injEq] at h
    exact ⟨i0, rfl, h.1, h.2.1, h.2.2⟩
end Go.Proofs.Ytdgjhclncjoonaa
