/- The map of what has ended, and the law on its way; no condition but those that each theorem names. -/
import Derived.Test.YtgghppojjhnbeaaXi
namespace Go.Proofs.Ytgghppojjhnbeaa
open Go.RowKit

/-- A map of numbers. -/
def Lm (w : World) (r : Nat) (l : List (Int × Int)) : Prop :=
  ∃ (es : Array MapEntry) (ck : Nat), w.heap[r]? = some (.map es ck) ∧ es.toList.map (fun e => (e.key, e.val)) = l.map fun x => (Value.int .i64 x.1, Value.int .i64 x.2)
def lw (l : List (Int × Int)) (i : Int) : Int := ((l.find? fun x => x.1 == i).map (·.2)).getD 0
theorem Lm.heap {w w' : World} {r : Nat} {l : List (Int × Int)} (h : Lm w r l) (hh : w'.heap[r]? = w.heap[r]?) : Lm w' r l := by
  obtain ⟨es, ck, h1, h2⟩ := h
  exact ⟨es, ck, hh.trans h1, h2⟩
theorem findNow_lm (i : Int) : ∀ (es : List MapEntry) (l : List (Int × Int)) (k : Nat), es.map (fun e => (e.key, e.val)) = l.map (fun x => (Value.int .i64 x.1, Value.int .i64 x.2)) →
    ∃ r, Instr.findNow (.int .i64) (.int .i64 i) es k = some r ∧ (r = none → ∀ x ∈ l, x.1 ≠ i) ∧ ∀ n v, r = some (n, v) → ∃ pre z post, l = pre ++ (i, z) :: post ∧ k + pre.length = n ∧ (∀ x ∈ pre, x.1 ≠ i) ∧ v = .int .i64 z
  | [], [], _, _ => ⟨none, rfl, fun _ x hx => by simp at hx, fun n v h => nomatch h⟩
  | [], _ :: _, _, h => by simp at h
  | _ :: _, [], _, h => by simp at h
  | e :: es, (j, b) :: l, k, h => by
    simp only [List.map_cons, List.cons.injEq, Prod.mk.injEq] at h
    obtain ⟨⟨h1, h2⟩, h3⟩ := h
    by_cases hij : i = j
    · subst hij
      refine ⟨some (k, e.val), by simp [Instr.findNow, Instr.sameNow, h1], (fun h => nomatch h), fun n v hr => ?_⟩
      simp only [Option.some.injEq, Prod.mk.injEq] at hr
      obtain ⟨rfl, rfl⟩ := hr
      exact ⟨[], b, l, rfl, rfl, fun x hx => by simp at hx, h2⟩
    · obtain ⟨r, hr, hn, hs⟩ := findNow_lm i es l (k + 1) h3
      refine ⟨r, by simp [Instr.findNow, Instr.sameNow, h1, show (i == j) = false by simpa using hij, hr], fun h x hx => ?_, fun n v hrr => ?_⟩
      · rcases List.mem_cons.1 hx with rfl | hx
        · exact fun e => hij e.symm
        · exact hn h x hx
      · obtain ⟨pre, z, post, e1, e2, e3, e4⟩ := hs n v hrr
        refine ⟨(j, b) :: pre, z, post, by rw [e1]; rfl, by simp; omega, fun x hx => ?_, e4⟩
        rcases List.mem_cons.1 hx with rfl | hx
        · exact fun e => hij e.symm
        · exact e3 x hx
theorem lw_none {l : List (Int × Int)} {i : Int} (h : ∀ x ∈ l, x.1 ≠ i) : lw l i = 0 := by
  unfold lw
  rw [List.find?_eq_none.2 (fun x hx => by simpa using h x hx)]
  rfl
theorem lw_app {pre post : List (Int × Int)} {i z j : Int} (h : ∀ x ∈ pre, x.1 ≠ i) : lw (pre ++ (i, z) :: post) j = if j = i then z else lw (pre ++ post) j := by
  unfold lw
  by_cases e : j = i
  · subst e
    rw [if_pos rfl, List.find?_append, List.find?_eq_none.2 (fun x hx => by simpa using h x hx)]
    simp
  · rw [if_neg e, List.find?_append, List.find?_append, List.find?_cons_of_neg (by simpa using fun e' => e e'.symm)]
theorem underL : Try.prog.underlying 44 = some (.map 2 3) := by kernel_rfl
theorem underI : Try.prog.underlying 2 = some (.int .i64) := by kernel_rfl
theorem look_lm (w : World) (r : Nat) (l : List (Int × Int)) (h : Lm w r l) (i : Int) : (Instr.lookup 44 (.map (some r)) (.int .i64 i) false).run Try.prog w = .ok (.int .i64 (lw l i)) w := by
  obtain ⟨es, ck, hb, he⟩ := h
  obtain ⟨q, h1, h2, h3⟩ := findNow_lm i es.toList l 0 he
  have hz : ∀ w, (zeroValue 3).run Try.prog w = .ok (.int .i64 0) w := fun _ => by kernel_rfl
  have hc : ∀ b w, (Instr.checkKey b 10000 2 (.int .i64 i)).run Try.prog w = .ok () w := fun _ _ => by kernel_rfl
  have hg : (getObj r).run Try.prog w = .ok (.map es ck) w := by simp [getObj, Sem.run, hb]
  simp only [Instr.lookup, Sem.run_bind, run_underlying underL, Result.andThen_ok, hg, Sem.run_pure, hc, Instr.findKey, run_underlying underI, h1]
  cases q with
  | none => simp [lw_none (h2 rfl), hz]
  | some x =>
    obtain ⟨k, v⟩ := x
    obtain ⟨pre, z, post, e1, e2, e3, e4⟩ := h3 k v rfl
    simp [e1, lw_app e3, e4]
theorem upd_lm (w : World) (r : Nat) (l : List (Int × Int)) (h : Lm w r l) (i v : Int) :
    ∃ w' l', (Instr.mapUpdate 44 (.map (some r)) (.int .i64 i) (.int .i64 v)).run Try.prog w = .ok () w' ∧ Lm w' r l' ∧ (∀ j, lw l' j = if j = i then v else lw l j) ∧ w.grownBy w' (some r) ∧ w'.heap.size = w.heap.size := by
  obtain ⟨es, ck, hb, he⟩ := h
  obtain ⟨q, h1, h2, h3⟩ := findNow_lm i es.toList l 0 he
  have hc : ∀ b w, (Instr.checkKey b 10000 2 (.int .i64 i)).run Try.prog w = .ok () w := fun _ _ => by kernel_rfl
  have hg : (getObj r).run Try.prog w = .ok (.map es ck) w := by simp [getObj, Sem.run, hb]
  have hs : ∀ o, (setObj r o).run Try.prog w = .ok () { w with heap := w.heap.setIfInBounds r o } := fun o => by simp [setObj, Sem.run, hb]
  have hlt : r < w.heap.size := (Array.getElem?_eq_some_iff.1 hb).1
  have fr : ∀ o, w.grownBy { w with heap := w.heap.setIfInBounds r o } (some r) := fun o => by
    refine ⟨rfl, rfl, rfl, by simp, fun k hk hne => ?_⟩
    have hne' : r ≠ k := fun e => hne (by rw [e])
    simp [hne']
  simp only [Instr.mapUpdate, Sem.run_bind, run_underlying underL, Result.andThen_ok, hg, Sem.run_pure, hc, Instr.findKey, run_underlying underI, h1]
  cases q with
  | none =>
    refine ⟨_, l ++ [(i, v)], hs _, ⟨es.push ⟨.int .i64 i, .int .i64 v, ck⟩, ck + 1, by simp [hlt], by simp [he]⟩, fun j => ?_, fr _, by simp⟩
    rw [lw_app (h2 rfl)]
    simp
  | some x =>
    obtain ⟨k, v0⟩ := x
    obtain ⟨pre, z, post, e1, e2, e3, e4⟩ := h3 k v0 rfl
    rw [Nat.zero_add] at e2
    have ek : es[k]?.map (fun e => (e.key, e.val)) = some (Value.int .i64 i, Value.int .i64 z) := by
      have := congrArg (fun l => l[k]?) he
      simp only [List.getElem?_map, Array.getElem?_toList] at this
      rw [this, e1, List.getElem?_append_right (by omega), e2, Nat.sub_self]
      rfl
    obtain ⟨e0, he0, hk0⟩ : ∃ e0, es[k]? = some e0 ∧ e0.key = .int .i64 i := by
      cases h : es[k]? with
      | none => rw [h] at ek; simp at ek
      | some e0 => rw [h] at ek; simp at ek; exact ⟨e0, rfl, ek.1⟩
    have hkk : ∀ w, (Instr.keyThatStays (((es[k]?).map (·.key)).getD (.int .i64 i)) (.int .i64 i)).run Try.prog w = .ok (.int .i64 i) w := fun w => by
      rw [he0]
      simp [hk0, Instr.keyThatStays, Instr.sameBits]
    refine ⟨_, pre ++ (i, v) :: post, by simp only [Sem.run_bind, hkk, Result.andThen_ok]; exact hs _, ⟨es.modify k (fun e => { e with key := .int .i64 i, val := .int .i64 v }), ck, by simp [hlt], ?_⟩, fun j => ?_, fr _, by simp⟩
    · apply List.ext_getElem?
      intro n
      rw [List.getElem?_map, Array.toList_modify, List.getElem?_modify, List.getElem?_map]
      by_cases c : n = k
      · subst c
        rw [Array.getElem?_toList, he0, List.getElem?_append_right (by omega), e2, Nat.sub_self]
        simp
      · have hn := congrArg (fun l => l[n]?) he
        simp only [List.getElem?_map] at hn
        have e5 : (pre ++ (i, v) :: post)[n]? = l[n]? := by
          rw [e1]
          by_cases c2 : n < pre.length
          · rw [List.getElem?_append_left c2, List.getElem?_append_left c2]
          · rw [List.getElem?_append_right (by omega), List.getElem?_append_right (by omega)]
            obtain ⟨m, hm⟩ : ∃ m, n - pre.length = m + 1 := ⟨n - pre.length - 1, by omega⟩
            rw [hm]
            rfl
        rw [e5, ← hn]
        simp [Ne.symm c]
    · rw [lw_app e3, e1, lw_app e3]
      by_cases c : j = i
      · rw [if_pos c, if_pos c]
      · rw [if_neg c, if_neg c, if_neg c]


/-- A row of requests does not lie where a map lies. -/
theorem al_map {w w' : World} {sv : Value} {L : List Ak} (h : Al w sv L) {r : Nat} {em : List (Int × Int)} (hm : Lm w r em) (hg : w.grownBy w' (some r)) : Al w' sv L := by
  obtain ⟨ad, cap, e, h⟩ := h
  refine ⟨ad, cap, e, ?_⟩
  rcases h with h | ⟨b, of, e2, h⟩
  · exact .inl h
  · refine .inr ⟨b, of, e2, fun j y hj q v hv => ?_⟩
    have h9 := h j y hj q v hv
    have hne : b ≠ r := fun e3 => by
      subst e3
      obtain ⟨es, ck, hh, -⟩ := hm
      simp [World.cell?, hh] at h9
    rw [← h9]
    exact World.cell?_of_block (hg.block b (World.block_lt_of_cell? w _ h9) (fun e => hne (by injection e)))
/-- The law on its way: the state's box, the map, the row. -/
structure Rw (w : World) (r : Nat) (nx : Int) (sv : Value) (L : List Ak) (em : List (Int × Int)) (wx : World) : Prop where
  below : Below w.heap.size w wx
  st : Bk wx w.heap.size #[.int .i64 nx, sv] 24
  m : Lm wx r em
  al : Al wx sv L
theorem Lm.lt {w : World} {r : Nat} {l : List (Int × Int)} (h : Lm w r l) : r < w.heap.size := by
  obtain ⟨es, ck, hh, -⟩ := h
  exact (Array.getElem?_eq_some_iff.1 hh).1
theorem Rw.step {w : World} {r : Nat} {nx : Int} {sv : Value} {L : List Ak} {em : List (Int × Int)} {wx wy : World} (h : Rw w r nx sv L em wx) (hb : Below wx.heap.size wx wy) : Rw w r nx sv L em wy :=
  ⟨h.below.trans (hb.mono h.below.size), h.st.below hb, h.m.heap (hb.block r h.m.lt), h.al.below hb⟩
theorem Rw.set {w : World} {r : Nat} {nx : Int} {sv : Value} {L : List Ak} {em : List (Int × Int)} {wx wy : World} (h : Rw w r nx sv L em wx) {nx' : Int} {sv' : Value} {L' : List Ak} (ha : Al wx sv' L') (hr : r ≠ w.heap.size) (hy : wy = (wx.setCell ⟨w.heap.size, 0, none⟩ (.int .i64 nx')).setCell ⟨w.heap.size, 1, none⟩ sv') : Rw w r nx' sv' L' em wy := by
  have ha2 : Al wy sv' L' := by rw [hy]; exact al_set2 ha h.st _ _
  subst hy
  exact ⟨(h.below.setCell (p := ⟨w.heap.size, 0, none⟩) (by simp) _).setCell (p := ⟨w.heap.size, 1, none⟩) (by simp) _, (h.st.set 0 _).set 1 _, h.m.heap ((Below.heap_setCell _ _ _ _ (by simpa using hr)).trans (Below.heap_setCell _ _ _ _ (by simpa using hr))), ha2⟩
theorem Rw.upd {w : World} {r : Nat} {nx : Int} {sv : Value} {L : List Ak} {em em' : List (Int × Int)} {wx wy : World} (h : Rw w r nx sv L em wx) (hr : w.heap.size < r) (hm : Lm wy r em') (hg : wx.grownBy wy (some r)) : Rw w r nx sv L em' wy :=
  ⟨⟨hg.os.trans h.below.os, hg.tape.trans h.below.tape, hg.output.trans h.below.output, Nat.le_trans h.below.size hg.size, fun k hk => (hg.block k (Nat.lt_of_lt_of_le hk h.below.size) (by simp; omega)).trans (h.below.block k hk)⟩, h.st.grown hg (by simp; omega), hm, al_map h.al h.m hg⟩

/-- A turn. -/
structure Tn where
  op : Int
  co : Int
  tp : ByteArray
  la : Int
  un : Int
abbrev Tn.cs (x : Tn) : Array Value := #[.int .i64 x.op, .int .i64 x.co, .string x.tp, .int .i64 x.la, .int .i64 x.un]
abbrev Tn.cl (x : Tn) : List Value := x.cs.toList
theorem t5 {w : World} {b o : Nat} {x : Tn} (h : ∀ (q : Nat) v, x.cl[q]? = some v → w.cell? ⟨b, o + q, none⟩ = some v) : w.cell? ⟨b, o, none⟩ = some (.int .i64 x.op) ∧ w.cell? ⟨b, o + 1, none⟩ = some (.int .i64 x.co) ∧ w.cell? ⟨b, o + 2, none⟩ = some (.string x.tp) ∧ w.cell? ⟨b, o + 3, none⟩ = some (.int .i64 x.la) ∧ w.cell? ⟨b, o + 4, none⟩ = some (.int .i64 x.un) :=
  ⟨h 0 _ rfl, h 1 _ rfl, h 2 _ rfl, h 3 _ rfl, h 4 _ rfl⟩
end Go.Proofs.Ytgghppojjhnbeaa
