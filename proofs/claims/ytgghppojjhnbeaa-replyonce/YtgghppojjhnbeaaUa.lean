/- Memory by blocks, rows of numbers, rows of bools; no condition but those that each theorem names. -/
import Derived.Test.YtgghppojjhnbeaaRows
import Derived.WalkKit
import Derived.WalkSpells
import Derived.WalkLawsBesides
import Derived.Deep.QuietTactic
import Derived.BigQuiet
import Derived.Deep.RegionHeld3
import Derived.Below
import Derived.Lib.Walk
import Derived.Lib.Hide
import Derived.Maps.AppendAt
import Derived.OwnWalk
import Derived.Laws.OwnMore
import Derived.Laws.RangeAny
import Derived.Deep.Onto
import Derived.Deep.LoopGhost
import Derived.ScopeJumps
import Derived.WalkMore
namespace Go.Proofs.Ytgghppojjhnbeaa
open Go.RowKit

theorem heap_alloc_new (w : World) (o : Obj) : (w.alloc o).heap[w.heap.size]? = some o := by show (w.heap.push o)[w.heap.size]? = some o; simp
theorem below1 (w : World) (o : Obj) : Below w.heap.size w (w.alloc o) := (Below.refl _ w).alloc (Nat.le_refl _) _
theorem ret_b {a b : Bool} (h : a = b) : Ending.returned (.bool a) = .returned (.bool b) := by rw [h]
theorem below_drewN {B : Nat} {a w : World} (h : Below B a w) : ∀ q, Below B a (w.drewN q)
  | 0 => h
  | q + 1 => (below_drewN h q).drew
theorem below_grown {B : Nat} {a w w' : World} {v : Value} {e : TypeId} {k n : Nat} {xs : List Value} (h : Below B a w) (hg : w.grownBy w' v.ownBlock) (ho : w.ownsRow B e k v n xs) (hB : B ≤ a.heap.size) : Below B a w' := by
  refine h.grown hg (Nat.le_trans hB h.size) ?_
  intro g hv
  obtain ⟨_, (⟨rfl, _⟩ | ⟨g', c, cur, rfl, h2, _⟩)⟩ := ho
  · cases hv
  · cases hv; exact h2
/-- A block of cells. -/
def Bk (w : World) (N : Nat) (cs : Array Value) (T : TypeId) : Prop := w.heap[N]? = some (.cells cs T (0, 0))
theorem Bk.new (w : World) (cs : Array Value) (T : TypeId) : Bk (w.alloc (.cells cs T)) w.heap.size cs T := heap_alloc_new w _
theorem Bk.lt {w : World} {N : Nat} {cs : Array Value} {T : TypeId} (h : Bk w N cs T) : N < w.heap.size := (Array.getElem?_eq_some_iff.1 h).1
theorem Bk.c {w : World} {N : Nat} {cs : Array Value} {T : TypeId} (h : Bk w N cs T) (o : Nat) : w.cell? ⟨N, o, none⟩ = cs[o]? := by
  unfold Bk at h
  simp [World.cell?, h]
theorem Bk.f {w : World} {N : Nat} {cs : Array Value} {T : TypeId} (h : Bk w N cs T) (o : Nat) : w.frozen? ⟨N, o, none⟩ = false := by
  unfold Bk at h
  simp [World.frozen?, h]
theorem Bk.set {w : World} {N : Nat} {cs : Array Value} {T : TypeId} (h : Bk w N cs T) (o : Nat) (v : Value) : Bk (w.setCell ⟨N, o, none⟩ v) N (cs.setIfInBounds o v) T := by
  unfold Bk at h ⊢
  simp [World.setCell, Array.getElem?_modify, h]
theorem Bk.other {w : World} {N : Nat} {cs : Array Value} {T : TypeId} (h : Bk w N cs T) (a : Addr) (v : Value) (hne : N ≠ a.block) : Bk (w.setCell a v) N cs T := (Below.heap_setCell w a v N hne).trans h
theorem Bk.below {w w' : World} {N : Nat} {cs : Array Value} {T : TypeId} (h : Bk w N cs T) (hb : Below w.heap.size w w') : Bk w' N cs T := (hb.block N h.lt).trans h
theorem Bk.grown {w w' : World} {N : Nat} {cs : Array Value} {T : TypeId} {row : Option Nat} (h : Bk w N cs T) (hb : w.grownBy w' row) (hne : row ≠ some N) : Bk w' N cs T := (hb.block N h.lt (fun e => hne e.symm)).trans h
theorem Bk.c2 {w : World} {N : Nat} {v0 v1 : Value} {T : TypeId} (h : Bk w N #[v0, v1] T) : w.cell? ⟨N, 0, none⟩ = some v0 ∧ w.cell? ⟨N, 1, none⟩ = some v1 :=
  ⟨h.c 0, h.c 1⟩
theorem Bk.c3 {w : World} {N : Nat} {v0 v1 v2 : Value} {T : TypeId} (h : Bk w N #[v0, v1, v2] T) : w.cell? ⟨N, 0, none⟩ = some v0 ∧ w.cell? ⟨N, 1, none⟩ = some v1 ∧ w.cell? ⟨N, 2, none⟩ = some v2 :=
  ⟨h.c 0, h.c 1, h.c 2⟩
theorem infoInt : (Try.prog.info? 3).map (fun i => (i.zero, i.size, i.bytes)) = some (some (.int .i64 0), 1, 8) := by kernel_rfl
theorem row_form {w : World} {base : Nat} {e : TypeId} {s n : Nat} {v : Value} {xs : List Value} (h : w.ownsRow base e s v n xs) : ∃ ad c, v = .slice ad n c := by
  obtain ⟨_, ⟨rfl, rfl⟩ | ⟨g, cap, cur, rfl, _⟩⟩ := h
  · exact ⟨_, _, rfl⟩
  · exact ⟨_, _, rfl⟩
theorem own_ne {w : World} {base : Nat} {e : TypeId} {s n : Nat} {v : Value} {xs : List Value} (h : w.ownsRow base e s v n xs) {N : Nat} (hN : N < base) : v.ownBlock ≠ some N := fun e => by
  have := (h.lt N e).1
  omega
theorem own_below {w w' : World} {base : Nat} {e : TypeId} {s n : Nat} {v : Value} {xs : List Value} (h : w.ownsRow base e s v n xs) (hb : Below w.heap.size w w') : w'.ownsRow base e s v n xs := by
  refine World.ownsRow.kept (row := none) h ⟨hb.os, hb.tape, hb.output, hb.size, fun k hk _ => hb.block k hk⟩ ?_
  cases v.ownBlock <;> simp
/-- A row that a call owns, read at a place, in any world that has its block as it was. -/
theorem own_at {w : World} {base : Nat} {e : TypeId} {v : Value} {n : Nat} {xs : List Value} (h : w.ownsRow base e 1 v n xs) (hn : 0 < n) : ∃ g c, v = .slice (some ⟨g, 0, none⟩) n c ∧ base ≤ g ∧ g < w.heap.size ∧ ∀ w' : World, w'.heap[g]? = w.heap[g]? → ∀ (j : Nat) u, xs[j]? = some u → w'.cell? ⟨g, j, none⟩ = some u := by
  obtain ⟨hl, ⟨rfl, rfl⟩ | ⟨g, cap, cur, rfl, hb, hh, hc, hm, hs, ht⟩⟩ := h
  · omega
  · refine ⟨g, cap, rfl, hb, (Array.getElem?_eq_some_iff.1 hh).1, fun w' hw j u hu => ?_⟩
    rw [← ht, List.getElem?_take] at hu
    split at hu
    · rw [hh] at hw
      simp only [World.cell?, hw]
      rw [Array.getElem?_toList] at hu
      exact hu
    · cases hu
/-- A row of numbers as values. -/
abbrev nv (l : List Nat) : List Value := l.map fun (i : Nat) => .int .i64 (i : Int)
abbrev iv (l : List Int) : List Value := l.map (Value.int .i64)
/-- A slice of numbers. -/
def Ri (w : World) (sv : Value) (l : List Int) : Prop := ∃ ad cap, sv = .slice ad l.length cap ∧ (l = [] ∨ ∃ g o, ad = some ⟨g, o, none⟩ ∧ ∀ (j : Nat) i, l[j]? = some i → w.cell? ⟨g, o + j, none⟩ = some (.int .i64 i))
theorem Ri.below {w w' : World} {sv : Value} {l : List Int} (h : Ri w sv l) (hb : Below w.heap.size w w') : Ri w' sv l := by
  obtain ⟨ad, cap, e, h⟩ := h
  refine ⟨ad, cap, e, ?_⟩
  rcases h with h | ⟨g, o, e2, h⟩
  · exact .inl h
  · exact .inr ⟨g, o, e2, fun j i hj => by
      have h9 := h j i hj
      exact (hb.cell (p := ⟨g, _, none⟩) (World.block_lt_of_cell? w _ h9)).trans h9⟩
theorem Ri.at {w : World} {sv : Value} {l : List Int} (h : Ri w sv l) (hl : 0 < l.length) : ∃ g o cap, sv = .slice (some ⟨g, o, none⟩) l.length cap ∧ ∀ (j : Nat) i, l[j]? = some i → w.cell? ⟨g, o + j, none⟩ = some (.int .i64 i) := by
  obtain ⟨ad, cap, e, h⟩ := h
  rcases h with h | ⟨g, o, e2, h⟩
  · subst h; simp at hl
  · subst e2; exact ⟨g, o, cap, e, h⟩
theorem own_ri {w : World} {base : Nat} {e : TypeId} {v : Value} {l : List Int} (h : w.ownsRow base e 1 v l.length (iv l)) : Ri w v l := by
  cases hl : l with
  | nil => subst hl; obtain ⟨ad, c, rfl⟩ := row_form h; exact ⟨ad, c, rfl, .inl rfl⟩
  | cons x r =>
    rw [← hl]
    obtain ⟨g, c, e, -, -, hc⟩ := own_at h (by rw [hl]; simp)
    refine ⟨_, c, e, .inr ⟨g, 0, rfl, fun j i hj => ?_⟩⟩
    rw [Nat.zero_add]
    exact hc w rfl j _ (by simp [hj])
theorem own_rin {w : World} {base : Nat} {e : TypeId} {v : Value} {l : List Nat} (h : w.ownsRow base e 1 v l.length (nv l)) : Ri w v (l.map fun (i : Nat) => (i : Int)) := by
  refine own_ri (base := base) (e := e) ?_
  simpa [Function.comp_def] using h
theorem infoB : (Try.prog.info? 4).map (fun i => (i.zero, i.size, i.bytes)) = some (some (.bool false), 1, 1) := by kernel_rfl
theorem below_none {w w' : World} {B : Nat} (h : w.grownBy w' none) (hB : B ≤ w.heap.size) : Below B w w' := ⟨h.os, h.tape, h.output, h.size, fun k hk => h.block k (by omega) (by simp)⟩
/-- A row of bools in a block of its own. -/
def Bf (w : World) (G n : Nat) (f : Nat → Bool) : Prop := Bk w G ((List.range n).map fun j => Value.bool (f j)).toArray 4
theorem Bf.c {w : World} {G n : Nat} {f : Nat → Bool} (h : Bf w G n f) (j : Nat) (hj : j < n) : w.cell? ⟨G, j, none⟩ = some (.bool (f j)) := by
  rw [Bk.c h]
  simp [hj]
theorem Bf.below {w w' : World} {G n : Nat} {f : Nat → Bool} (h : Bf w G n f) (hb : Below w.heap.size w w') : Bf w' G n f := Bk.below h hb
theorem Bf.set {w : World} {G n : Nat} {f f' : Nat → Bool} (h : Bf w G n f) (i : Nat) (hf : ∀ j, j < n → f' j = (f j || decide (j = i))) : Bf (w.setCell ⟨G, i, none⟩ (.bool true)) G n f' := by
  have h1 := Bk.set h i (.bool true)
  have e : ((List.range n).map fun j => Value.bool (f j)).toArray.setIfInBounds i (.bool true) = ((List.range n).map fun j => Value.bool (f' j)).toArray := by
    apply Array.ext_getElem?
    intro j
    simp only [List.setIfInBounds_toArray, List.getElem?_toArray, List.getElem?_set, List.length_map, List.length_range, List.getElem?_map]
    by_cases hj : j < n
    · rw [List.getElem?_range hj]
      by_cases hi : i = j
      · subst hi; simp [hj, hf i hj]
      · have hij : ¬ j = i := fun e => hi e.symm
        simp [hi, hf j hj, hij]
    · rw [List.getElem?_eq_none (by simpa using hj)]
      simp
      intro e
      omega
  unfold Bf
  rw [← e]
  exact h1
theorem bf_made {w' : World} {B n G : Nat} (h : w'.ownsRow B 4 1 (.slice (some ⟨G, 0, none⟩) n n) n (madeCells #[Value.bool false] (n * 1)).toList) : Bf w' G n fun _ => false := by
  obtain ⟨hl, ⟨e, -⟩ | ⟨g, cap, cur, e, hb, hh, hc, hm, hs, ht⟩⟩ := h
  · simp at e
  · simp only [Value.slice.injEq, Option.some.injEq, Addr.mk.injEq] at e
    obtain ⟨⟨rfl, -⟩, -, rfl⟩ := e
    unfold Bf Bk
    rw [hh]
    have e2 : cur = ((List.range n).map fun _ => Value.bool false).toArray := by
      have e3 : cur.toList = (madeCells #[Value.bool false] (n * 1)).toList := by rw [← ht, List.take_of_length_le (by simp; omega)]
      have e4 : (madeCells #[Value.bool false] (n * 1)).toList = (List.range n).map fun _ => Value.bool false := by
        apply List.ext_getElem?
        intro j
        rw [Nat.mul_one]
        by_cases hj : j < n
        · simp [madeCells, hj, Nat.mod_one]
        · simp [madeCells, hj]
      rw [← e4, ← e3]
    rw [e2]
theorem Bk.full2 {w : World} {N : Nat} {c0 c1 : Value} {T : TypeId} (h : Bk w N #[c0, c1] T) (v0 v1 : Value) : Bk ((w.setCell ⟨N, 0, none⟩ v0).setCell ⟨N, 1, none⟩ v1) N #[v0, v1] T := (h.set 0 v0).set 1 v1
theorem Bk.set2 {w : World} {N M : Nat} {cs : Array Value} {T : TypeId} (h : Bk w N cs T) (hne : N ≠ M) (v0 v1 : Value) : Bk ((w.setCell ⟨M, 0, none⟩ v0).setCell ⟨M, 1, none⟩ v1) N cs T := (h.other ⟨M, 0, none⟩ v0 hne).other ⟨M, 1, none⟩ v1 hne
theorem below_set2 {L : Nat} {a w : World} {M : Nat} (h : Below L a w) (hM : L ≤ M) (v0 v1 : Value) : Below L a ((w.setCell ⟨M, 0, none⟩ v0).setCell ⟨M, 1, none⟩ v1) := (h.setCell (p := ⟨M, 0, none⟩) hM v0).setCell (p := ⟨M, 1, none⟩) hM v1
/-- The end of a function told apart from the ways that lead to it. -/
theorem tail_of {G : Prop} {F P : Nat → Nat → World → Option Addr → Nat → Option Addr → Nat → Prop} (h : (∀ pa pb W a1 c1 a2 c2, F pa pb W a1 c1 a2 c2 → P pa pb W a1 c1 a2 c2) → G) (t : ∀ pa pb W a1 c1 a2 c2, F pa pb W a1 c1 a2 c2 → P pa pb W a1 c1 a2 c2) : G := h t
end Go.Proofs.Ytgghppojjhnbeaa
