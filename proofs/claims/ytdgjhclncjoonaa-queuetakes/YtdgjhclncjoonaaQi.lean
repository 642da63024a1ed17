/- Messages put into an inbox and taken out of it: what comes; the conditions: the messages in memory, of a size that can be. -/
import Derived.Test.YtdgjhclncjoonaaQg
import Derived.Test.YtdgjhclncjoonaaQh
namespace Go.Proofs.Ytdgjhclncjoonaa
open Go.RowKit

theorem Bk.set3 {w : World} {N M : Nat} {cs : Array Value} {T : TypeId} (h : Bk w N cs T) (hne : N ≠ M) (v0 v1 v2 : Value) : Bk (((w.setCell ⟨M, 0, none⟩ v0).setCell ⟨M, 1, none⟩ v1).setCell ⟨M, 2, none⟩ v2) N cs T := ((h.other _ _ hne).other _ _ hne).other _ _ hne
theorem Bk.set13 {w : World} {N M : Nat} {cs : Array Value} {T : TypeId} (h : Bk w N cs T) (hne : N ≠ M) (v0 v1 v2 v3 v4 v5 v6 v7 v8 v9 v10 v11 v12 : Value) : Bk (((((((((((((w.setCell ⟨M, 0, none⟩ v0).setCell ⟨M, 1, none⟩ v1).setCell ⟨M, 2, none⟩ v2).setCell ⟨M, 3, none⟩ v3).setCell ⟨M, 4, none⟩ v4).setCell ⟨M, 5, none⟩ v5).setCell ⟨M, 6, none⟩ v6).setCell ⟨M, 7, none⟩ v7).setCell ⟨M, 8, none⟩ v8).setCell ⟨M, 9, none⟩ v9).setCell ⟨M, 10, none⟩ v10).setCell ⟨M, 11, none⟩ v11).setCell ⟨M, 12, none⟩ v12) N cs T := (((((((((((((h.other _ _ hne).other _ _ hne).other _ _ hne).other _ _ hne).other _ _ hne).other _ _ hne).other _ _ hne).other _ _ hne).other _ _ hne).other _ _ hne).other _ _ hne).other _ _ hne).other _ _ hne)
theorem set3_heap (w : World) (M g : Nat) (hne : g ≠ M) (v0 v1 v2 : Value) : (((w.setCell ⟨M, 0, none⟩ v0).setCell ⟨M, 1, none⟩ v1).setCell ⟨M, 2, none⟩ v2).heap[g]? = w.heap[g]? := by
  rw [Below.heap_setCell _ _ _ _ hne, Below.heap_setCell _ _ _ _ hne, Below.heap_setCell _ _ _ _ hne]
theorem set13_heap (w : World) (M g : Nat) (hne : g ≠ M) (v0 v1 v2 v3 v4 v5 v6 v7 v8 v9 v10 v11 v12 : Value) : (((((((((((((w.setCell ⟨M, 0, none⟩ v0).setCell ⟨M, 1, none⟩ v1).setCell ⟨M, 2, none⟩ v2).setCell ⟨M, 3, none⟩ v3).setCell ⟨M, 4, none⟩ v4).setCell ⟨M, 5, none⟩ v5).setCell ⟨M, 6, none⟩ v6).setCell ⟨M, 7, none⟩ v7).setCell ⟨M, 8, none⟩ v8).setCell ⟨M, 9, none⟩ v9).setCell ⟨M, 10, none⟩ v10).setCell ⟨M, 11, none⟩ v11).setCell ⟨M, 12, none⟩ v12).heap[g]? = w.heap[g]? := by
  rw [Below.heap_setCell _ _ _ _ hne, Below.heap_setCell _ _ _ _ hne, Below.heap_setCell _ _ _ _ hne, Below.heap_setCell _ _ _ _ hne, Below.heap_setCell _ _ _ _ hne, Below.heap_setCell _ _ _ _ hne, Below.heap_setCell _ _ _ _ hne, Below.heap_setCell _ _ _ _ hne, Below.heap_setCell _ _ _ _ hne, Below.heap_setCell _ _ _ _ hne, Below.heap_setCell _ _ _ _ hne, Below.heap_setCell _ _ _ _ hne, Below.heap_setCell _ _ _ _ hne]
theorem below_set3 {L : Nat} {a w : World} {M : Nat} (h : Below L a w) (hM : L ≤ M) (v0 v1 v2 : Value) : Below L a (((w.setCell ⟨M, 0, none⟩ v0).setCell ⟨M, 1, none⟩ v1).setCell ⟨M, 2, none⟩ v2) := ((h.setCell hM _).setCell hM _).setCell hM _
theorem below_set13 {L : Nat} {a w : World} {M : Nat} (h : Below L a w) (hM : L ≤ M) (v0 v1 v2 v3 v4 v5 v6 v7 v8 v9 v10 v11 v12 : Value) : Below L a (((((((((((((w.setCell ⟨M, 0, none⟩ v0).setCell ⟨M, 1, none⟩ v1).setCell ⟨M, 2, none⟩ v2).setCell ⟨M, 3, none⟩ v3).setCell ⟨M, 4, none⟩ v4).setCell ⟨M, 5, none⟩ v5).setCell ⟨M, 6, none⟩ v6).setCell ⟨M, 7, none⟩ v7).setCell ⟨M, 8, none⟩ v8).setCell ⟨M, 9, none⟩ v9).setCell ⟨M, 10, none⟩ v10).setCell ⟨M, 11, none⟩ v11).setCell ⟨M, 12, none⟩ v12) := (((((((((((((h.setCell hM _).setCell hM _).setCell hM _).setCell hM _).setCell hM _).setCell hM _).setCell hM _).setCell hM _).setCell hM _).setCell hM _).setCell hM _).setCell hM _).setCell hM _)
theorem Bk.full3 {w : World} {N : Nat} {c0 c1 c2 : Value} {T : TypeId} (h : Bk w N #[c0, c1, c2] T) (v0 v1 v2 : Value) : Bk (((w.setCell ⟨N, 0, none⟩ v0).setCell ⟨N, 1, none⟩ v1).setCell ⟨N, 2, none⟩ v2) N #[v0, v1, v2] T := ((h.set 0 v0).set 1 v1).set 2 v2
theorem Bk.full13 {w : World} {N : Nat} {c0 c1 c2 c3 c4 c5 c6 c7 c8 c9 c10 c11 c12 : Value} {T : TypeId} (h : Bk w N #[c0, c1, c2, c3, c4, c5, c6, c7, c8, c9, c10, c11, c12] T) (v0 v1 v2 v3 v4 v5 v6 v7 v8 v9 v10 v11 v12 : Value) : Bk (((((((((((((w.setCell ⟨N, 0, none⟩ v0).setCell ⟨N, 1, none⟩ v1).setCell ⟨N, 2, none⟩ v2).setCell ⟨N, 3, none⟩ v3).setCell ⟨N, 4, none⟩ v4).setCell ⟨N, 5, none⟩ v5).setCell ⟨N, 6, none⟩ v6).setCell ⟨N, 7, none⟩ v7).setCell ⟨N, 8, none⟩ v8).setCell ⟨N, 9, none⟩ v9).setCell ⟨N, 10, none⟩ v10).setCell ⟨N, 11, none⟩ v11).setCell ⟨N, 12, none⟩ v12) N #[v0, v1, v2, v3, v4, v5, v6, v7, v8, v9, v10, v11, v12] T := by
  have h0 := h.set 0 v0
  have h1 := h0.set 1 v1
  have h2 := h1.set 2 v2
  have h3 := h2.set 3 v3
  have h4 := h3.set 4 v4
  have h5 := h4.set 5 v5
  have h6 := h5.set 6 v6
  have h7 := h6.set 7 v7
  have h8 := h7.set 8 v8
  have h9 := h8.set 9 v9
  have h10 := h9.set 10 v10
  have h11 := h10.set 11 v11
  have h12 := h11.set 12 v12
  simpa only [List.setIfInBounds_toArray, List.set_cons_zero, List.set_cons_succ] using h12
/-- The tree of nothing, and no message. -/
def zT : Dt.Tr 1 := ((0, 0, 0, ⟨#[]⟩, []) : Int × Int × Int × ByteArray × List (Dt.Tr 0))
def zD : Bo := ⟨0, 0, 0, ⟨#[]⟩, none, 0, 0⟩
def mZ : Ms := ⟨0, ⟨#[]⟩, 1, zT, 0, 0, ⟨#[]⟩, 0, 0, 0⟩
theorem mZ_rep (w : World) : Dt.Rep w mZ.n zD.vs mZ.t := ⟨none, 0, rfl, Nat.zero_le _, Nat.zero_le _, Nat.zero_le _, .inl rfl⟩
/-- An inbox, a message, a bool and a number come. -/
def PuP (w : World) (l : List Ms) (r dr : Int) (y : Ms) (b : Bool) (er : Int) (e : Ending) (w' : World) : Prop := ∃ a c d, e = .returned (.tuple #[.agg #[.slice a l.length c, .int .i64 r, .int .i64 dr], .agg (y.cs d), .bool b, .int .i64 er]) ∧ Mz (fun g => w.heap.size ≤ g ∧ g < w'.heap.size) w' a l ∧ Rz (fun g => w.heap.size ≤ g ∧ g < w'.heap.size) w' y.n d.vs y.t ∧ Below w.heap.size w w'
/-- What Put gives. -/
def PutP (w : World) (l : List Ms) (r dr room drop : Int) (x : Ms) (e : Ending) (w' : World) : Prop :=
  ((l.length : Int) < room → PuP w (l ++ [x]) r dr mZ false 0 e w') ∧
  (¬ (l.length : Int) < room → (drop = 0 → PuP w l r (dr + 1) x true 0 e w') ∧
    (drop = 1 → ∃ k y, Best false (prl (l ++ [x])) (l.length + 1) k ∧ (l ++ [x])[k]? = some y ∧ PuP w ((l ++ [x]).eraseIdx k) r (dr + 1) y true 0 e w') ∧
    (drop ≠ 0 → drop ≠ 1 → PuP w l (r + 1) dr mZ false 190 e w'))
theorem PuP.of {w v W' : World} {B : Nat} {a : Option Addr} {c n : Nat} {l : List Ms} {r dr : Int} {y : Ms} {d : Bo} {b : Bool} {er : Int} (hn : n = l.length) (hB : w.heap.size ≤ B) (hm : Mz (fun g => B ≤ g ∧ g < v.heap.size) v a l) (hr : Rz (fun g => B ≤ g ∧ g < v.heap.size) v y.n d.vs y.t) (hb : Below w.heap.size w W') (hs : W'.heap.size = v.heap.size) (ho : ∀ g, B ≤ g → W'.heap[g]? = v.heap[g]?) :
    PuP w l r dr y b er (.returned (.tuple #[.agg #[.slice a n c, .int .i64 r, .int .i64 dr], .agg (y.cs d), .bool b, .int .i64 er])) W' := by
  subst hn
  exact ⟨a, c, d, rfl, Mz.to hm fun g hg => ⟨⟨by omega, by have := hg.2; omega⟩, ho g hg.1⟩, Rz.to (fun g hg => ⟨⟨by omega, by have := hg.2; omega⟩, ho g hg.1⟩) _ _ _ hr, hb⟩
theorem mZ_rz (F : Nat → Prop) (w : World) : Rz F w mZ.n zD.vs mZ.t := ⟨none, 0, rfl, Nat.zero_le _, Nat.zero_le _, Nat.zero_le _, .inl rfl⟩
theorem Mp.mq {L : Nat} {F : Nat → Prop} {l : List Ms} {a : Option Addr} {n c : Nat} {xs : List Value} {w : World} (h : Mp L F l (.slice a n c) xs w) (h0 : l ≠ []) : ∃ g, a = some ⟨g, 0, none⟩ ∧ L ≤ g ∧ Mq g c F l w := by
  rcases h.o.2 with ⟨e, e0⟩ | ⟨g, cap, cur, e1, e2, e3, e4, e5, e6, e7⟩
  · exact absurd (List.length_eq_zero_iff.1 e0) h0
  · simp only [Value.slice.injEq] at e1
    obtain ⟨rfl, rfl, rfl⟩ := e1
    refine ⟨g, rfl, e2, e4, e5, cur, e3, e6, fun q x hq => ?_⟩
    obtain ⟨d, k1, k2⟩ := h.k q x hq
    refine ⟨d, fun i hi => ?_, k2⟩
    have hq2 : q < l.length := (List.getElem?_eq_some_iff.1 hq).1
    rw [← k1 i hi, ← e7, List.getElem?_take, if_pos (by omega), Array.getElem?_toList]
end Go.Proofs.Ytdgjhclncjoonaa
