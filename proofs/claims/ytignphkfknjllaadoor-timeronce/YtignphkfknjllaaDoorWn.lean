/- The map of the timers that wait, and a row of what has fired; the conditions: map and row in memory. -/
import Derived.Test.YtignphkfknjllaaDoorWj
import Derived.Deep.AppendLies
import Derived.Laws.CopyOwn
namespace Go.Proofs.YtignphkfknjllaaDoor
open Go.RowKit

/-- The map: numbers and blocks. -/
def Mp (w : World) (r : Nat) (l : List (Int × Nat)) : Prop :=
  ∃ (es : Array MapEntry) (ck : Nat), w.heap[r]? = some (.map es ck) ∧ es.toList.map (fun e => (e.key, e.val)) = l.map fun x => (Value.int .i64 x.1, Value.pointer (some ⟨x.2, 0, none⟩))
def lk (l : List (Int × Nat)) (i : Int) : Option Nat := (l.find? fun x => x.1 == i).map (·.2)
theorem findNow_lk (i : Int) : ∀ (es : List MapEntry) (l : List (Int × Nat)) (k : Nat), es.map (fun e => (e.key, e.val)) = l.map (fun x => (Value.int .i64 x.1, Value.pointer (some ⟨x.2, 0, none⟩))) →
    ∃ r, Instr.findNow (.int .i64) (.int .i64 i) es k = some r ∧ r.map (·.2) = (lk l i).map (fun b => Value.pointer (some ⟨b, 0, none⟩)) ∧ ((l.map (·.1)).Nodup → ∀ n v, r = some (n, v) → k ≤ n ∧ (es.eraseIdx (n - k)).map (fun e => (e.key, e.val)) = (l.filter fun x => x.1 != i).map (fun x => (Value.int .i64 x.1, Value.pointer (some ⟨x.2, 0, none⟩))))
  | [], [], _, _ => ⟨none, rfl, rfl, fun _ n v h => nomatch h⟩
  | [], _ :: _, _, h => by simp at h
  | _ :: _, [], _, h => by simp at h
  | e :: es, (j, b) :: l, k, h => by
    simp only [List.map_cons, List.cons.injEq, Prod.mk.injEq] at h
    obtain ⟨⟨h1, h2⟩, h3⟩ := h
    by_cases hij : i = j
    · subst hij
      refine ⟨some (k, e.val), by simp [Instr.findNow, Instr.sameNow, h1], by simp [lk, h2], fun hn n v hr => ?_⟩
      simp only [Option.some.injEq, Prod.mk.injEq] at hr
      obtain ⟨rfl, rfl⟩ := hr
      refine ⟨Nat.le_refl _, ?_⟩
      rw [Nat.sub_self, List.eraseIdx_cons_zero, h3]
      simp only [List.map_cons, List.nodup_cons] at hn
      rw [List.filter_cons_of_neg (by simp)]
      congr 1
      symm
      rw [List.filter_eq_self]
      intro x hx
      simp
      intro e'
      exact hn.1 (List.mem_map.2 ⟨x, hx, e'⟩)
    · obtain ⟨r, hr, hr', hd⟩ := findNow_lk i es l (k + 1) h3
      have hji : ((j : Int) == i) = false := by simpa using fun e => hij e.symm
      refine ⟨r, by simp [Instr.findNow, Instr.sameNow, h1, show (i == j) = false by simpa using hij, hr], by rw [hr']; simp [lk, hji], fun hn n v hrr => ?_⟩
      simp only [List.map_cons, List.nodup_cons] at hn
      obtain ⟨a1, a2⟩ := hd hn.2 n v hrr
      refine ⟨by omega, ?_⟩
      rw [show n - k = (n - (k + 1)) + 1 by omega, List.eraseIdx_cons_succ, List.map_cons, a2, h1, h2, List.filter_cons_of_pos (by simpa using fun e => hij e.symm)]
      rfl
theorem underM : Tryd.prog.underlying 47 = some (.map 2 48) := by kernel_rfl
theorem underK : Tryd.prog.underlying 2 = some (.int .i64) := by kernel_rfl
theorem look_mp (w : World) (r : Nat) (l : List (Int × Nat)) (h : Mp w r l) (i : Int) (ok : Bool) :
    (Instr.lookup 47 (.map (some r)) (.int .i64 i) ok).run Tryd.prog w = .ok (if ok then .tuple #[.pointer ((lk l i).map fun b => ⟨b, 0, none⟩), .bool (lk l i).isSome] else .pointer ((lk l i).map fun b => ⟨b, 0, none⟩)) w := by
  obtain ⟨es, ck, hb, he⟩ := h
  obtain ⟨q, h1, h2, _⟩ := findNow_lk i es.toList l 0 he
  have hz : ∀ w, (zeroValue 48).run Tryd.prog w = .ok (.pointer none) w := fun _ => by kernel_rfl
  have hc : ∀ b w, (Instr.checkKey b 10000 2 (.int .i64 i)).run Tryd.prog w = .ok () w := fun _ _ => by kernel_rfl
  have hg : (getObj r).run Tryd.prog w = .ok (.map es ck) w := by simp [getObj, Sem.run, hb]
  simp only [Instr.lookup, Sem.run_bind, run_underlying underM, Result.andThen_ok, hg, Sem.run_pure, hc, Instr.findKey, run_underlying underK, h1]
  cases q with
  | none =>
    have : lk l i = none := by simpa using h2.symm
    cases ok <;> simp [this, hz]
  | some x =>
    obtain ⟨k, v⟩ := x
    cases hl : lk l i with
    | none => rw [hl] at h2; simp at h2
    | some b => rw [hl] at h2; simp at h2; cases ok <;> simp [h2]
theorem upd_mp (w : World) (r : Nat) (l : List (Int × Nat)) (h : Mp w r l) (i : Int) (b : Nat) (hn : lk l i = none) :
    ∃ w', (Instr.mapUpdate 47 (.map (some r)) (.int .i64 i) (.pointer (some ⟨b, 0, none⟩))).run Tryd.prog w = .ok () w' ∧ Mp w' r (l ++ [(i, b)]) ∧ w.grownBy w' (some r) ∧ w'.heap.size = w.heap.size := by
  obtain ⟨es, ck, hb, he⟩ := h
  obtain ⟨q, h1, h2, _⟩ := findNow_lk i es.toList l 0 he
  have hc : ∀ b w, (Instr.checkKey b 10000 2 (.int .i64 i)).run Tryd.prog w = .ok () w := fun _ _ => by kernel_rfl
  have hq : q = none := by
    rw [hn] at h2
    cases q with
    | none => rfl
    | some x => simp at h2
  subst hq
  have hg : (getObj r).run Tryd.prog w = .ok (.map es ck) w := by simp [getObj, Sem.run, hb]
  have hs : ∀ o, (setObj r o).run Tryd.prog w = .ok () { w with heap := w.heap.setIfInBounds r o } := fun o => by simp [setObj, Sem.run, hb]
  simp only [Instr.mapUpdate, Sem.run_bind, run_underlying underM, Result.andThen_ok, hg, Sem.run_pure, hc, Instr.findKey, run_underlying underK, h1]
  refine ⟨_, hs _, ?_, ?_, by simp⟩
  · refine ⟨es.push ⟨.int .i64 i, .pointer (some ⟨b, 0, none⟩), ck⟩, ck + 1, ?_, ?_⟩
    · have hlt : r < w.heap.size := (Array.getElem?_eq_some_iff.1 hb).1
      simp [hlt]
    · simp [he]
  · refine ⟨rfl, rfl, rfl, by simp, fun k hk hne => ?_⟩
    have : r ≠ k := fun e => hne (by rw [e])
    simp [this]
theorem del_mp (w : World) (r : Nat) (l : List (Int × Nat)) (h : Mp w r l) (i : Int) (T : TypeId) (hn : (l.map (·.1)).Nodup) :
    ∃ w', (Builtin.delete_ #[47, 2] T #[.map (some r), .int .i64 i]).run Tryd.prog w = .ok (.tuple #[]) w' ∧ Mp w' r (l.filter fun x => x.1 != i) ∧ w.grownBy w' (some r) ∧ w'.heap.size = w.heap.size := by
  obtain ⟨es, ck, hb, he⟩ := h
  obtain ⟨q, h1, h2, h3⟩ := findNow_lk i es.toList l 0 he
  have hc : ∀ b w, (Instr.checkKey b 10000 2 (.int .i64 i)).run Tryd.prog w = .ok () w := fun _ _ => by kernel_rfl
  have hg : (getObj r).run Tryd.prog w = .ok (.map es ck) w := by simp [getObj, Sem.run, hb]
  have hs : ∀ o, (setObj r o).run Tryd.prog w = .ok () { w with heap := w.heap.setIfInBounds r o } := fun o => by simp [setObj, Sem.run, hb]
  have hlt : r < w.heap.size := (Array.getElem?_eq_some_iff.1 hb).1
  have fr : ∀ o, w.grownBy { w with heap := w.heap.setIfInBounds r o } (some r) := fun o => by
    refine ⟨rfl, rfl, rfl, by simp, fun k hk hne => ?_⟩
    have : r ≠ k := fun e => hne (by rw [e])
    simp [this]
  cases q with
  | none =>
    refine ⟨_, by simp [Builtin.delete_, Sem.run_bind, run_underlying underM, hg, hc, Instr.findKey, run_underlying underK, h1, hs]; rfl, ⟨es, ck, by simp [hlt], ?_⟩, fr _, by simp⟩
    have hl : lk l i = none := by simpa using h2.symm
    rw [he]
    congr 1
    symm
    rw [List.filter_eq_self]
    intro x hx
    simp
    intro e
    unfold lk at hl
    simp at hl
    exact hl x.1 x.2 hx e
  | some x =>
    obtain ⟨n, v⟩ := x
    obtain ⟨_, a2⟩ := h3 hn n v rfl
    refine ⟨_, by simp [Builtin.delete_, Sem.run_bind, run_underlying underM, hg, hc, Instr.findKey, run_underlying underK, h1, hs]; rfl, ⟨es.eraseIdxIfInBounds n, ck, by simp [hlt], ?_⟩, fr _, by simp⟩
    rw [← a2, Nat.sub_zero]
    congr 1
    rw [Array.eraseIdxIfInBounds]
    split
    · simp
    · rename_i hh
      rw [List.eraseIdx_of_length_le (by simpa using hh)]
theorem Mp.lt {w : World} {r : Nat} {l : List (Int × Nat)} (h : Mp w r l) : r < w.heap.size := by
  obtain ⟨es, ck, hb, -⟩ := h; exact (Array.getElem?_eq_some_iff.1 hb).1
theorem Mp.blk {w w' : World} {r : Nat} {l : List (Int × Nat)} (h : Mp w r l) (hb : w'.heap[r]? = w.heap[r]?) : Mp w' r l := by
  obtain ⟨es, ck, h1, h2⟩ := h
  exact ⟨es, ck, hb.trans h1, h2⟩
theorem Mp.ne {w : World} {r N : Nat} {T : TypeId} {l : List (Int × Nat)} (h : Mp w r l) (hN : ∃ cs, Bk w N cs T) : N ≠ r := by
  rintro rfl
  obtain ⟨es, ck, h1, _⟩ := h
  obtain ⟨cs, h2⟩ := hN
  unfold Bk at h2
  rw [h1] at h2
  simp at h2
/-- delete, as one operation. -/
theorem wp_del {o : Oper} {a : Act} {K : Act → World → Prop} {Q : Exit → Act → World → Prop} {w : World} (s x : Operand)
    (ho : o.op = .call { callee := .builtin .delete, args := #[s, x], argTypes := #[47, 2] }) (r : Nat) (i : Int) (l : List (Int × Nat)) (hs : a.eval s = .map (some r)) (hx : a.eval x = .int .i64 i) (hp : Mp w r l) (hn : (l.map (·.1)).Nodup)
    (h : ∀ w', Mp w' r (l.filter fun x => x.1 != i) → w.grownBy w' (some r) → w'.heap.size = w.heap.size → K (a.put o.dst (.tuple #[])) w') : Oper.wp Tryd.prog o a w K Q := by
  obtain ⟨w', h1, h2, h3, h4⟩ := del_mp w r l hp i o.type hn
  unfold Oper.wp
  simp [execOp, ho, resolve, invoke, builtin, hs, hx, h1, Result.andThen]
  exact h w' h2 h3 h4

/-- What has fired, cell by cell. -/
def fc (F : List Tm) : List Value := F.flatMap fun t => [.int .i64 t.a, .int .i64 t.i]
theorem fc_len (F : List Tm) : (fc F).length = F.length * 2 := by
  induction F with
  | nil => rfl
  | cons t F ih => simp only [fc, List.flatMap_cons, List.length_append, List.length_cons, List.length_nil] at ih ⊢; omega
theorem fc_app (F G : List Tm) : fc (F ++ G) = fc F ++ fc G := List.flatMap_append
/-- A row of what has fired, of one's own. -/
def FR (w : World) (L : Nat) (F : List Tm) (sl : Value) : Prop := w.ownsRow L 45 2 sl F.length (fc F) ∧ (F = [] → sl = .slice none 0 0)
theorem infoF : (Tryd.prog.info? 45).map (fun i => (i.zero, i.size, i.bytes)) = some (some (.agg #[.int .i64 0, .int .i64 0]), 2, 16) := by kernel_rfl
theorem info_parts {P : Program} {T : TypeId} {z : Option Value} {s y : Nat} (h : (P.info? T).map (fun i => (i.zero, i.size, i.bytes)) = some (z, s, y)) : ∃ i, P.info? T = some i ∧ i.zero = z ∧ i.size = s ∧ i.bytes = y := by
  cases hi : P.info? T with
  | none => rw [hi] at h; simp at h
  | some i => rw [hi] at h; simp at h; exact ⟨i, rfl, h.1, h.2.1, h.2.2⟩
theorem FR.nil (w : World) (L : Nat) : FR w L [] (.slice none 0 0) := ⟨World.ownsRow_nil _ _ _ _, fun _ => rfl⟩
theorem FR.blk {w w' : World} {L : Nat} {F : List Tm} {sl : Value} (h : FR w L F sl) (hk : ∀ g, sl.ownBlock = some g → w'.heap[g]? = w.heap[g]?) : FR w' L F sl := by
  refine ⟨⟨h.1.1, ?_⟩, h.2⟩
  rcases h.1.2 with hn | ⟨g, cap, cur, hv, hb, hg, rest⟩
  · exact .inl hn
  · refine .inr ⟨g, cap, cur, hv, hb, (hk g (by rw [hv]; rfl)).trans hg, rest⟩
theorem FR.own {w : World} {L : Nat} {F : List Tm} {sl : Value} (h : FR w L F sl) {g : Nat} (hg : sl.ownBlock = some g) : L ≤ g ∧ g < w.heap.size ∧ ∃ cs, Bk w g cs 45 := by
  rcases h.1.2 with ⟨hv, _⟩ | ⟨g', cap, cur, hv, hb, hg', rest⟩
  · rw [hv] at hg; cases hg
  · rw [hv] at hg
    cases hg
    exact ⟨hb, (Array.getElem?_eq_some_iff.1 hg').1, cur, hg'⟩
theorem FR.form {w : World} {L : Nat} {F : List Tm} {sl : Value} (h : FR w L F sl) : ∃ ad c, sl = .slice ad F.length c := by
  rcases h.1.2 with ⟨hv, h0⟩ | ⟨g, cap, cur, hv, _⟩
  · exact ⟨none, 0, by rw [h0]; exact hv⟩
  · exact ⟨_, cap, hv⟩
theorem fc_one {w : World} {Y : Nat} {t : Tm} (h : Bk w Y #[.int .i64 t.a, .int .i64 t.i] 45) : ∀ j u, (fc [t])[j]? = some u → w.cell? ((⟨Y, 0, none⟩ : Addr).add j) = some u := by
  intro j u hu
  have hadd : (⟨Y, 0, none⟩ : Addr).add j = ⟨Y, 0 + j, none⟩ := by unfold Addr.add; split <;> simp_all
  rw [hadd, h.c (0 + j), Nat.zero_add]
  match j, hu with
  | 0, hu => simpa [fc] using hu
  | 1, hu => simpa [fc] using hu
  | j + 2, hu => simp [fc] at hu
theorem fc_cells (F : List Tm) : ∀ u ∈ fc F, u.oneCell' = true := by
  intro u hu
  simp [fc] at hu
  obtain ⟨t, _, rfl | rfl⟩ := hu <;> rfl
/-- One more that has fired. -/
theorem wp_fr {o : Oper} {a : Act} {K : Act → World → Prop} {Q : Exit → Act → World → Prop} {w : World} (s x : Operand)
    (ho : o.op = .call { callee := .builtin .append, args := #[s, x], argTypes := #[35, 35] }) (L : Nat) (F : List Tm) (sl : Value) (hs : a.eval s = sl) (hp : FR w L F sl)
    (Y : Nat) (t : Tm) (hx : a.eval x = .slice (some ⟨Y, 0, none⟩) 1 1) (hy : Bk w Y #[.int .i64 t.a, .int .i64 t.i] 45) (hlen : F.length + 1 ≤ 8796093022208) (hL : L ≤ w.heap.size)
    (h : ∀ sl' w', FR w' L (F ++ [t]) sl' → w.grownBy w' sl.ownBlock → K (a.put o.dst sl') w') : Oper.wp Tryd.prog o a w K Q := by
  obtain ⟨i0, hi0, hz0, hz1, hz2⟩ := info_parts infoF
  refine wp_append_lies _ s x 35 ho L 45 i0 _ 2 16 Tryd.underlying35 hi0 hz0 hz1 hz2 rfl (by decide) sl F.length (fc F) hs hp.1 ⟨Y, 0, none⟩ 1 1 (fc [t]) hx rfl (fc_one hy) (fc_cells _) (by decide) (by unfold maxLen; omega) (by omega) hL _ rfl ?_
  intro g cap w' own gr at' lt'
  refine h _ w' ?_ gr
  unfold FR
  rw [fc_app, List.length_append]
  exact ⟨own, fun e => by simp at e⟩
end Go.Proofs.YtignphkfknjllaaDoor
