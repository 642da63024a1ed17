/- What is lost and told, in plain words; a map of numbers in memory; no condition but those that each theorem names. -/
import Derived.Test.YtdgjhclncjoonaaQm
namespace Go.Proofs.Ytdgjhclncjoonaa
open Go.RowKit

/-- Messages that wait after j were put: numbers from 1 to j, rising. -/
def Lv (l : List Ms) (j : Nat) : Prop := (∀ x ∈ l, ∃ (i : Nat) (p : Int), x = mN ((i : Int) + 1) p ∧ i < j) ∧ l.Pairwise fun x y => x.id < y.id
/-- The fates: 1 of what waits no more, else 0. -/
def Ft (n j : Nat) (l : List Ms) (ft : Nat → Int) : Prop := ∀ i, i < n → ft i = if i < j ∧ ∀ x ∈ l, x.id ≠ (i : Int) + 1 then 1 else 0
/-- Of one priority only what came later waits. -/
def Lz (l : List Ms) (ls : Int → Int) : Prop := ∀ x ∈ l, ls x.pr < x.id
def inc (ft : Nat → Int) (k : Nat) : Nat → Int := fun i => if i = k then ft i + 1 else ft i
theorem Lv.put {l : List Ms} {j : Nat} (h : Lv l j) (p : Int) : Lv (l ++ [mN ((j : Int) + 1) p]) (j + 1) := by
  refine ⟨fun x hx => ?_, List.pairwise_append.2 ⟨h.2, by simp, fun x hx y hy => ?_⟩⟩
  · rcases List.mem_append.1 hx with hx | hx
    · obtain ⟨i, q, e, hi⟩ := h.1 x hx
      exact ⟨i, q, e, by omega⟩
    · simp at hx
      exact ⟨j, p, hx, by omega⟩
  · obtain ⟨i, q, rfl, hi⟩ := h.1 x hx
    simp at hy
    subst hy
    simp [mN]
    omega
theorem Lv.more {l : List Ms} {j : Nat} (h : Lv l j) : Lv l (j + 1) := ⟨fun x hx => by obtain ⟨i, q, e, hi⟩ := h.1 x hx; exact ⟨i, q, e, by omega⟩, h.2⟩
theorem Ft.put {n j : Nat} {l : List Ms} {ft : Nat → Int} (h : Ft n j l ft) (p : Int) : Ft n (j + 1) (l ++ [mN ((j : Int) + 1) p]) ft := fun i hi => by
  rw [h i hi]
  by_cases c : i < j ∧ ∀ x ∈ l, x.id ≠ (i : Int) + 1
  · rw [if_pos c, if_pos]
    refine ⟨by omega, fun x hx => ?_⟩
    rcases List.mem_append.1 hx with hx | hx
    · exact c.2 x hx
    · simp at hx; subst hx; simp [mN]; omega
  · rw [if_neg c, if_neg]
    rintro ⟨c1, c2⟩
    refine c ⟨?_, fun x hx => c2 x (List.mem_append_left _ hx)⟩
    have := c2 (mN ((j : Int) + 1) p) (by simp)
    simp [mN] at this
    omega
theorem Ft.lost {n j : Nat} {l : List Ms} {ft : Nat → Int} (h : Ft n j l ft) (hv : Lv l j) : Ft n (j + 1) l (inc ft j) := fun i hi => by
  unfold inc
  rw [h i hi]
  by_cases e : i = j
  · subst e
    rw [if_pos rfl, if_neg (by omega), if_pos]
    · rfl
    · refine ⟨by omega, fun x hx => ?_⟩
      obtain ⟨k, q, rfl, hk⟩ := hv.1 x hx
      simp [mN]; omega
  · rw [if_neg e]
    by_cases c : i < j ∧ ∀ x ∈ l, x.id ≠ (i : Int) + 1
    · rw [if_pos c, if_pos ⟨by omega, c.2⟩]
    · rw [if_neg c, if_neg]
      rintro ⟨c1, c2⟩
      exact c ⟨by omega, c2⟩
theorem Lv.out {l : List Ms} {j : Nat} (h : Lv l j) (k : Nat) : Lv (l.eraseIdx k) j :=
  ⟨fun x hx => h.1 x (List.mem_of_mem_eraseIdx hx), h.2.sublist (List.eraseIdx_sublist l k)⟩
theorem Lv.cut {l : List Ms} {j k : Nat} {y : Ms} (h : Lv l j) (hy : l[k]? = some y) : ∃ A B, l = A ++ y :: B ∧ A.length = k ∧ l.eraseIdx k = A ++ B ∧ (∀ x ∈ A, x.id < y.id) ∧ ∀ x ∈ B, y.id < x.id := by
  obtain ⟨hk, e⟩ := List.getElem?_eq_some_iff.1 hy
  refine ⟨l.take k, l.drop (k + 1), ?_, by simp; omega, by rw [List.eraseIdx_eq_take_drop_succ], ?_⟩
  · rw [← e, ← List.drop_eq_getElem_cons hk, List.take_append_drop]
  · have hp := h.2
    rw [show l = l.take k ++ y :: l.drop (k + 1) by rw [← e, ← List.drop_eq_getElem_cons hk, List.take_append_drop], List.pairwise_append] at hp
    exact ⟨fun x hx => hp.2.2 x hx y (by simp), fun x hx => (List.pairwise_cons.1 hp.2.1).1 x hx⟩
theorem Ft.out {n j k : Nat} {l : List Ms} {ft : Nat → Int} {y : Ms} (h : Ft n j l ft) (hv : Lv l j) (hy : l[k]? = some y) (hn : j ≤ n) : ∃ (i : Nat) (p : Int), y = mN ((i : Int) + 1) p ∧ i < n ∧ ft i = 0 ∧ Ft n j (l.eraseIdx k) (inc ft i) := by
  obtain ⟨i, p, e, hi⟩ := hv.1 y (List.mem_of_getElem? hy)
  obtain ⟨A, B, e1, e2, e3, e4, e5⟩ := hv.cut hy
  have hyi : y.id = (i : Int) + 1 := by rw [e]; rfl
  have h0 : ft i = 0 := by
    rw [h i (by omega), if_neg]
    rintro ⟨-, c⟩
    exact c y (List.mem_of_getElem? hy) hyi
  refine ⟨i, p, e, by omega, h0, fun q hq => ?_⟩
  unfold inc
  by_cases eq : q = i
  · subst eq
    rw [if_pos rfl, h0, if_pos]
    · rfl
    · refine ⟨hi, fun x hx => ?_⟩
      rw [e3] at hx
      rcases List.mem_append.1 hx with hx | hx
      · have := e4 x hx; omega
      · have := e5 x hx; omega
  · rw [if_neg eq, h q hq]
    by_cases c : q < j ∧ ∀ x ∈ l, x.id ≠ (q : Int) + 1
    · rw [if_pos c, if_pos ⟨c.1, fun x hx => c.2 x (List.mem_of_mem_eraseIdx hx)⟩]
    · rw [if_neg c, if_neg]
      rintro ⟨c1, c2⟩
      refine c ⟨c1, fun x hx => ?_⟩
      rw [e1] at hx
      rcases List.mem_append.1 hx with hx | hx
      · exact c2 x (by rw [e3]; exact List.mem_append_left _ hx)
      · rcases List.mem_cons.1 hx with rfl | hx
        · omega
        · exact c2 x (by rw [e3]; exact List.mem_append_right _ hx)
theorem Lz.sub {l m : List Ms} {ls : Int → Int} (h : Lz l ls) (hs : ∀ x ∈ m, x ∈ l) : Lz m ls := fun x hx => h x (hs x hx)
/-- The one that is taken is later than the last one of its priority, and those that wait behind it are later still. -/
theorem Lz.take {l : List Ms} {j k : Nat} {ls ls' : Int → Int} {y : Ms} (h : Lz l ls) (hv : Lv l j) (hb : Best true (prl l) l.length k) (hy : l[k]? = some y) (hu : ∀ i, ls' i = if i = y.pr then y.id else ls i) : ls y.pr < y.id ∧ Lz (l.eraseIdx k) ls' := by
  refine ⟨h y (List.mem_of_getElem? hy), fun x hx => ?_⟩
  rw [hu]
  by_cases e : x.pr = y.pr
  · rw [if_pos e]
    obtain ⟨A, B, e1, e2, e3, e4, e5⟩ := hv.cut hy
    rw [e3] at hx
    rcases List.mem_append.1 hx with hx | hx
    · exfalso
      obtain ⟨c, hc, ec⟩ := List.mem_iff_getElem.1 hx
      have hc2 : l[c]? = some x := by rw [e1, List.getElem?_append_left hc, List.getElem?_eq_getElem hc, ec]
      have hcl : c < l.length := (List.getElem?_eq_some_iff.1 hc2).1
      have := hb.2 c hcl
      simp [nb, ahd, prl_at hc2, prl_at hy, e] at this
      omega
    · exact e5 x hx
  · rw [if_neg e]
    exact h x (List.mem_of_mem_eraseIdx hx)
theorem Ft.done {n : Nat} {ft : Nat → Int} (h : Ft n n [] ft) : ∀ i, i < n → ft i = 1 := fun i hi => by rw [h i hi, if_pos ⟨hi, by simp⟩]

/-- A map of numbers. -/
def Lm (w : World) (r : Nat) (l : List (Int × Int)) : Prop :=
  ∃ (es : Array MapEntry) (ck : Nat), w.heap[r]? = some (.map es ck) ∧ es.toList.map (fun e => (e.key, e.val)) = l.map fun x => (Value.int .i64 x.1, Value.int .i64 x.2)
def lw (l : List (Int × Int)) (i : Int) : Int := ((l.find? fun x => x.1 == i).map (·.2)).getD 0
theorem Lm.heap {w w' : World} {r : Nat} {l : List (Int × Int)} (h : Lm w r l) (hh : w'.heap[r]? = w.heap[r]?) : Lm w' r l := by
  obtain ⟨es, ck, h1, h2⟩ := h
  exact ⟨es, ck, hh.trans h1, h2⟩
theorem findNow_lm (i : Int) : ∀ (es : List MapEntry) (l : List (Int × Int)) (k : Nat), es.map (fun e => (e.key, e.val)) = l.map (fun x => (Value.int .i64 x.1, Value.int .i64 x.2)) →
    ∃ r, Instr.findNow (.int .i64) (.int .i64 i) es k = some r ∧ (r = none → ∀ x ∈ l, x.1 ≠ i) ∧ ∀ n v, r = some (n, v) → ∃ pre z post, l = pre ++ (i, z) :: post ∧ k + pre.length = n ∧ (∀ x ∈ pre, x.1 ≠ i) ∧ v = .int .i64 z
  | [], [], _, _ => ⟨none, rfl, fun _ x hx => by simp at hx, fun n v h => nomatch h⟩
  | [], _ :: _, _, h => by simp at h
  | _ :: _, [], _, h => by simp at h
  | e :: es, (j, b) :: l, k, h => by
    simp only [List.map_cons, List.cons.injEq, Prod.mk.injEq] at h
    obtain ⟨⟨h1, h2⟩, h3⟩ := h
    by_cases hij : i = j
    · subst hij
      refine ⟨some (k, e.val), by simp [Instr.findNow, Instr.sameNow, h1], (fun h => nomatch h), fun n v hr => ?_⟩
      simp only [Option.some.injEq, Prod.mk.injEq] at hr
      obtain ⟨rfl, rfl⟩ := hr
      exact ⟨[], b, l, rfl, rfl, fun x hx => by simp at hx, h2⟩
    · obtain ⟨r, hr, hn, hs⟩ := findNow_lm i es l (k + 1) h3
      refine ⟨r, by simp [Instr.findNow, Instr.sameNow, h1, show (i == j) = false by simpa using hij, hr], fun h x hx => ?_, fun n v hrr => ?_⟩
      · rcases List.mem_cons.1 hx with rfl | hx
        · exact fun e => hij e.symm
        · exact hn h x hx
      · obtain ⟨pre, z, post, e1, e2, e3, e4⟩ := hs n v hrr
        refine ⟨(j, b) :: pre, z, post, by rw [e1]; rfl, by simp; omega, fun x hx => ?_, e4⟩
        rcases List.mem_cons.1 hx with rfl | hx
        · exact fun e => hij e.symm
        · exact e3 x hx
theorem lw_none {l : List (Int × Int)} {i : Int} (h : ∀ x ∈ l, x.1 ≠ i) : lw l i = 0 := by
  unfold lw
  rw [List.find?_eq_none.2 (fun x hx => by simpa using h x hx)]
  rfl
theorem lw_app {pre post : List (Int × Int)} {i z j : Int} (h : ∀ x ∈ pre, x.1 ≠ i) : lw (pre ++ (i, z) :: post) j = if j = i then z else lw (pre ++ post) j := by
  unfold lw
  by_cases e : j = i
  · subst e
    rw [if_pos rfl, List.find?_append, List.find?_eq_none.2 (fun x hx => by simpa using h x hx)]
    simp
  · rw [if_neg e, List.find?_append, List.find?_append, List.find?_cons_of_neg (by simpa using fun e' => e e'.symm)]
theorem underL : Try.prog.underlying 50 = some (.map 3 2) := by kernel_rfl
theorem underI : Try.prog.underlying 3 = some (.int .i64) := by kernel_rfl
theorem look_lm (w : World) (r : Nat) (l : List (Int × Int)) (h : Lm w r l) (i : Int) : (Instr.lookup 50 (.map (some r)) (.int .i64 i) false).run Try.prog w = .ok (.int .i64 (lw l i)) w := by
  obtain ⟨es, ck, hb, he⟩ := h
  obtain ⟨q, h1, h2, h3⟩ := findNow_lm i es.toList l 0 he
  have hz : ∀ w, (zeroValue 2).run Try.prog w = .ok (.int .i64 0) w := fun _ => by kernel_rfl
  have hc : ∀ b w, (Instr.checkKey b 10000 3 (.int .i64 i)).run Try.prog w = .ok () w := fun _ _ => by kernel_rfl
  have hg : (getObj r).run Try.prog w = .ok (.map es ck) w := by simp [getObj, Sem.run, hb]
  simp only [Instr.lookup, Sem.run_bind, run_underlying underL, Result.andThen_ok, hg, Sem.run_pure, hc, Instr.findKey, run_underlying underI, h1]
  cases q with
  | none => simp [lw_none (h2 rfl), hz]
  | some x =>
    obtain ⟨k, v⟩ := x
    obtain ⟨pre, z, post, e1, e2, e3, e4⟩ := h3 k v rfl
    simp [e1, lw_app e3, e4]
theorem upd_lm (w : World) (r : Nat) (l : List (Int × Int)) (h : Lm w r l) (i v : Int) :
    ∃ w' l', (Instr.mapUpdate 50 (.map (some r)) (.int .i64 i) (.int .i64 v)).run Try.prog w = .ok () w' ∧ Lm w' r l' ∧ (∀ j, lw l' j = if j = i then v else lw l j) ∧ Ke r w w' ∧ w'.heap.size = w.heap.size := by
  obtain ⟨es, ck, hb, he⟩ := h
  obtain ⟨q, h1, h2, h3⟩ := findNow_lm i es.toList l 0 he
  have hc : ∀ b w, (Instr.checkKey b 10000 3 (.int .i64 i)).run Try.prog w = .ok () w := fun _ _ => by kernel_rfl
  have hg : (getObj r).run Try.prog w = .ok (.map es ck) w := by simp [getObj, Sem.run, hb]
  have hs : ∀ o, (setObj r o).run Try.prog w = .ok () { w with heap := w.heap.setIfInBounds r o } := fun o => by simp [setObj, Sem.run, hb]
  have hlt : r < w.heap.size := (Array.getElem?_eq_some_iff.1 hb).1
  have fr : ∀ o, Ke r w { w with heap := w.heap.setIfInBounds r o } := fun o => by
    refine ⟨rfl, rfl, rfl, by simp, fun k hk hne => ?_⟩
    simp [Ne.symm hne]
  simp only [Instr.mapUpdate, Sem.run_bind, run_underlying underL, Result.andThen_ok, hg, Sem.run_pure, hc, Instr.findKey, run_underlying underI, h1]
  cases q with
  | none =>
    refine ⟨_, l ++ [(i, v)], hs _, ⟨es.push ⟨.int .i64 i, .int .i64 v, ck⟩, ck + 1, by simp [hlt], by simp [he]⟩, fun j => ?_, fr _, by simp⟩
    rw [lw_app (h2 rfl)]
    simp
  | some x =>
    obtain ⟨k, v0⟩ := x
    obtain ⟨pre, z, post, e1, e2, e3, e4⟩ := h3 k v0 rfl
    rw [Nat.zero_add] at e2
    have ek : es[k]?.map (fun e => (e.key, e.val)) = some (Value.int .i64 i, Value.int .i64 z) := by
      have := congrArg (fun l => l[k]?) he
      simp only [List.getElem?_map, Array.getElem?_toList] at this
      rw [this, e1, List.getElem?_append_right (by omega), e2, Nat.sub_self]
      rfl
    obtain ⟨e0, he0, hk0⟩ : ∃ e0, es[k]? = some e0 ∧ e0.key = .int .i64 i := by
      cases h : es[k]? with
      | none => rw [h] at ek; simp at ek
      | some e0 => rw [h] at ek; simp at ek; exact ⟨e0, rfl, ek.1⟩
    have hkk : ∀ w, (Instr.keyThatStays (((es[k]?).map (·.key)).getD (.int .i64 i)) (.int .i64 i)).run Try.prog w = .ok (.int .i64 i) w := fun w => by
      rw [he0]
      simp [hk0, Instr.keyThatStays, Instr.sameBits]
    refine ⟨_, pre ++ (i, v) :: post, by simp only [Sem.run_bind, hkk, Result.andThen_ok]; exact hs _, ⟨es.modify k (fun e => { e with key := .int .i64 i, val := .int .i64 v }), ck, by simp [hlt], ?_⟩, fun j => ?_, fr _, by simp⟩
    · apply List.ext_getElem?
      intro n
      rw [List.getElem?_map, Array.toList_modify, List.getElem?_modify, List.getElem?_map]
      by_cases c : n = k
      · subst c
        rw [Array.getElem?_toList, he0, List.getElem?_append_right (by omega), e2, Nat.sub_self]
        simp
      · have hn := congrArg (fun l => l[n]?) he
        simp only [List.getElem?_map] at hn
        have e5 : (pre ++ (i, v) :: post)[n]? = l[n]? := by
          rw [e1]
          by_cases c2 : n < pre.length
          · rw [List.getElem?_append_left c2, List.getElem?_append_left c2]
          · rw [List.getElem?_append_right (by omega), List.getElem?_append_right (by omega)]
            obtain ⟨m, hm⟩ : ∃ m, n - pre.length = m + 1 := ⟨n - pre.length - 1, by omega⟩
            rw [hm]
            rfl
        rw [e5, ← hn]
        simp [Ne.symm c]
    · rw [lw_app e3, e1, lw_app e3]
      by_cases c : j = i
      · rw [if_pos c, if_pos c]
      · rw [if_neg c, if_neg c, if_neg c]
end Go.Proofs.Ytdgjhclncjoonaa
