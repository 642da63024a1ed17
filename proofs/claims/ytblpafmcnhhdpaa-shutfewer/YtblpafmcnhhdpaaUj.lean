/- A row that is taken from its front and grows at its end; the conditions that each theorem names. -/
import Derived.Test.YtblpafmcnhhdpaaUi
import Derived.Deep.AppendSrc
namespace Go.Proofs.Ytblpafmcnhhdpaa
open Go.RowKit

/-- A queue of numbers in memory that the call owns. -/
def Qu (w : World) (base : Nat) (v : Value) (l : List Int) : Prop := ∃ (g off cap : Nat) (cur : Array Value), v = .slice (some ⟨g, off, none⟩) l.length cap ∧ base ≤ g ∧ w.heap[g]? = some (.cells cur 3 (0, 0)) ∧ l.length ≤ cap ∧ cap ≤ maxLen ∧ off + cap ≤ cur.size ∧ ∀ (j : Nat) i, l[j]? = some i → cur[off + j]? = some (.int .i64 i)
theorem Qu.one (w : World) (i : Int) (base : Nat) (h : base ≤ w.heap.size) : Qu (w.alloc (.cells #[.int .i64 i] 3)) base (.slice (some ⟨w.heap.size, 0, none⟩) 1 1) [i] :=
  ⟨w.heap.size, 0, 1, _, rfl, h, heap_alloc_new w _, Nat.le_refl _, by unfold maxLen; omega, Nat.le_refl _, fun j x hj => by
    match j, hj with
    | 0, hj => simpa using hj
    | j + 1, hj => simp at hj⟩
theorem Qu.keep {w w' : World} {base : Nat} {v : Value} {l : List Int} (h : Qu w base v l) (hb : ∀ g, v.ownBlock = some g → w'.heap[g]? = w.heap[g]?) : Qu w' base v l := by
  obtain ⟨g, off, cap, cur, rfl, h1, h2, h3⟩ := h
  exact ⟨g, off, cap, cur, rfl, h1, (hb g rfl).trans h2, h3⟩
theorem Qu.lt {w : World} {base : Nat} {v : Value} {l : List Int} (h : Qu w base v l) : ∃ g, v.ownBlock = some g ∧ base ≤ g ∧ g < w.heap.size := by
  obtain ⟨g, off, cap, cur, rfl, h1, h2, -⟩ := h
  exact ⟨g, rfl, h1, (Array.getElem?_eq_some_iff.1 h2).1⟩
/-- Its first one. -/
theorem Qu.front {w : World} {base : Nat} {v : Value} {x : Int} {l : List Int} (h : Qu w base v (x :: l)) : ∃ g off cap, v = .slice (some ⟨g, off, none⟩) (l.length + 1) cap ∧ w.cell? ⟨g, off, none⟩ = some (.int .i64 x) ∧ l.length + 1 ≤ cap ∧ Qu w base (.slice (some ⟨g, off + 1, none⟩) l.length (cap - 1)) l := by
  obtain ⟨g, off, cap, cur, rfl, h1, h2, h3, h4, h5, h6⟩ := h
  refine ⟨g, off, cap, rfl, ?_, h3, g, off + 1, cap - 1, cur, rfl, h1, h2, by simp at h3; omega, by omega, by simp at h3; omega, fun j i hj => ?_⟩
  · have := h6 0 x rfl
    simp only [World.cell?, h2]
    simpa using this
  · rw [show off + 1 + j = off + (j + 1) by omega]
    exact h6 (j + 1) i (by simpa using hj)

/-- One more at its end. -/
theorem wpList_qapp {ops : Array Oper} {rest : List Oper} {o : Oper} {a : Act} {Q : Exit → Act → World → Prop} {w : World} (hgd : o.guard = none) (s x : Operand)
    (ho : o.op = .call { callee := .builtin .append, args := #[s, x], argTypes := #[25, 25] })
    (base : Nat) (v : Value) (l : List Int) (hs : a.eval s = v) (hq : Qu w base v l) (hb : base ≤ w.heap.size) (k : Int) (ax : Addr) (hx : a.eval x = .slice (some ax) 1 1) (hc : ∀ j u, [Value.int .i64 k][j]? = some u → w.cell? (ax.add j) = some u) (hl : l.length ≤ 100000)
    (h : ∀ v' w', Qu w' base v' (l ++ [k]) → w.grownBy w' v.ownBlock → (v'.ownBlock = v.ownBlock ∨ ∃ g, v'.ownBlock = some g ∧ w.heap.size ≤ g) → wpList Try.prog ops Q rest (a.put o.dst v') w') : wpList Try.prog ops Q (o :: rest) a w := by
  obtain ⟨i0, hi0, hz0, hz1, hz2⟩ := info_parts infoInt
  obtain ⟨g, off, cap, cur, rfl, h1, h2, h3, h4, h5, h6⟩ := hq
  have hsrc : Src Try.prog i0.size 25 (.slice (some ax) 1 1) 1 [.int .i64 k] w := Src.ofSlice _ Try.underlying25 ax 1 1 _ (by rw [hz1]; rfl) hc (fun u hu => by simp at hu; subst hu; rfl)
  refine wpList_plain hgd fun K hK' => ?_
  by_cases hroom : l.length + 1 ≤ cap
  · have hrun := run_append_room_src (P := Try.prog) w 25 25 o.type 3 i0 Try.underlying25 hi0 g off l.length cap (.slice (some ax) 1 1) 1 [.int .i64 k] hsrc hroom (fun j hj => by
      obtain rfl : j = 0 := by simpa using hj
      rw [hz1]
      simp only [World.cell?, h2, Nat.mul_one, Nat.add_zero]
      rw [Array.getElem?_eq_getElem (by omega)]; rfl) (fun j hj => by simp [World.frozen?, h2])
    rw [hz1] at hrun
    simp only [Nat.mul_one, World.setCells] at hrun
    unfold Oper.wp
    simp [execOp, ho, resolve, invoke, builtin, hs, hx, hrun, Result.andThen]
    refine hK' _ _ (h _ _ ⟨g, off, cap, cur.setIfInBounds (off + l.length) (.int .i64 k), by simp, h1, ?_, by simpa using hroom, h4, by simpa using h5, fun j i hj => ?_⟩ ?_ (.inl rfl))
    · simp [World.setCell, Array.getElem?_modify, h2]
    · by_cases hjl : j < l.length
      · rw [List.getElem?_append_left hjl] at hj
        rw [Array.getElem?_setIfInBounds_ne (by omega)]
        exact h6 j i hj
      · have hje : j = l.length := by
          have := (List.getElem?_eq_some_iff.1 hj).1
          simp at this
          omega
        subst hje
        simp only [List.getElem?_concat_length, Option.some.injEq] at hj
        subst hj
        rw [Array.getElem?_setIfInBounds_self_of_lt (by omega)]
    · exact ⟨rfl, rfl, rfl, by simp [World.setCell], fun q _ hne => RowKit.Below.heap_setCell _ _ _ _ (fun e => hne (by simp [Value.ownBlock, e]))⟩
  · have hold : (Builtin.firstCells i0.size l.length (.slice (some ⟨g, off, none⟩) l.length cap)).run Try.prog w.drew = .ok (l.map (Value.int .i64)).toArray w.drew := run_firstCells_some w.drew i0.size l.length ⟨g, off, none⟩ l.length cap (l.map (Value.int .i64)) (by rw [hz1]; simp) (fun j u hu => by
      rw [List.getElem?_map] at hu
      cases hj : l[j]? with
      | none => rw [hj] at hu; simp at hu
      | some i =>
        rw [hj] at hu
        simp at hu
        subst hu
        have := h6 j i hj
        have e : (⟨g, off, none⟩ : Addr).add j = ⟨g, off + j, none⟩ := by unfold Addr.add; split <;> simp_all
        rw [e]
        show w.cell? _ = _
        simp only [World.cell?, h2]
        exact this)
    have hn := nextslicecap_le (need := l.length + 1) (old := cap) (by omega)
    have hrun := run_append_grow_src (P := Try.prog) w 25 25 o.type 3 i0 _ Try.underlying25 hi0 hz0 (some ⟨g, off, none⟩) l.length cap _ hold (.slice (some ax) 1 1) 1 [.int .i64 k] hsrc (by omega) (by omega) (by rw [hz2]; omega)
    have hge := grownCap_ge w (l.length + 1) cap 3
    have hgm := grownCap_le_maxLen w (l.length + 1) cap 3 (by unfold maxLen; omega)
    unfold Oper.wp
    simp only [execOp, ho, resolve, invoke, builtin, hs, hx, hrun, Result.andThen, Sem.run_bind, Sem.run_pure, List.map_toArray, List.map_cons, List.map_nil]
    refine hK' _ _ (h _ _ ⟨w.heap.size, 0, _, _, by simp, hb, heap_alloc_new w.drew _, by simpa using hge, hgm, ?_, fun j i hj => ?_⟩ ⟨rfl, rfl, rfl, by simp, fun q hq _ => heap_alloc_old w.drew _ hq⟩ (.inr ⟨w.heap.size, rfl, Nat.le_refl _⟩))
    · simp only [Array.size_append, List.size_toArray, List.length_append, List.length_map, List.length_cons, List.length_nil, size_zeroCells]
      show 0 + _ ≤ l.length + (0 + 1) + _ * 1
      omega
    · have hjl := (List.getElem?_eq_some_iff.1 hj).1
      rw [Nat.zero_add, Array.getElem?_append_left (by simpa using hjl)]
      simp only [List.getElem?_toArray]
      have e : l.map (Value.int .i64) ++ [.int .i64 k] = (l ++ [k]).map (Value.int .i64) := by simp
      rw [e, List.getElem?_map, hj]
      rfl
end Go.Proofs.Ytblpafmcnhhdpaa
