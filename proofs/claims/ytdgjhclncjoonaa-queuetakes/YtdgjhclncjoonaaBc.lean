/- Messages copied into a row that one's own call made; the conditions: the messages in memory, the row of a size that can be. -/
import Derived.Test.YtdgjhclncjoonaaBb
namespace Go.Proofs.Ytdgjhclncjoonaa
open Go.RowKit

theorem run_copy_wide {P : Program} (w : World) (dT sT ty elem : TypeId) (z g o dLen dCap : Nat) (a : Addr) (sLen sCap : Nat) (cur : Array Value) (t : TypeId) (cs : List Value)
    (hu : P.underlying dT = some (.slice elem)) (i : TypeInfo) (hq : P.info? elem = some i) (hi : i.size = z)
    (hg : w.heap[g]? = some (.cells cur t (0, 0))) (hn : cs.length = Nat.min sLen dLen * z)
    (hsrc : ∀ j v, cs[j]? = some v → w.cell? (a.add j) = some v) (hfit : o + cs.length ≤ cur.size) (h1 : ∀ v ∈ cs, v.oneCell' = true) :
    (Builtin.copy_ #[dT, sT] ty #[.slice (some ⟨g, o, none⟩) dLen dCap, .slice (some a) sLen sCap]).run P w =
      .ok (goInt (Nat.min sLen dLen)) (w.setRow g (cur.toList.take o ++ cs ++ cur.toList.drop (o + cs.length)).toArray) := by
  have hl := run_loadCells_list (P := P) w a cs hsrc
  have hst := run_storeCells_at P g o t cs 0 cur w hg (by simpa using hfit) h1
  simp [Builtin.copy_, run_underlying hu, Builtin.lenOf, Builtin.firstCells, sizeOf, typeInfo, hq, hi, ← hn, hl, hst]
theorem run_copy_zero {P : Program} (w : World) (dT sT ty elem : TypeId) (dp sp : Option Addr) (dLen dCap sCap : Nat) 
    (hu : P.underlying dT = some (.slice elem)) (i : TypeInfo) (hq : P.info? elem = some i) :
    (Builtin.copy_ #[dT, sT] ty #[.slice dp dLen dCap, .slice sp 0 sCap]).run P w = .ok (goInt 0) w := by
  have h0 : Nat.min 0 dLen = 0 := Nat.zero_min _
  have hl : ∀ a : Addr, (loadCells a 0).run P w = .ok #[] w := fun a => by
    have := run_loadCells_list (P := P) w a [] (by simp)
    simpa using this
  cases sp <;> cases dp <;> simp [Builtin.copy_, run_underlying hu, Builtin.lenOf, Builtin.firstCells, sizeOf, typeInfo, hq, h0, hl, storeCells]

/-- What a row of messages is, read off a block's cells. -/
def Cr (F : Nat → Prop) (w : World) (cur : Array Value) (off : Nat) (m : List Ms) : Prop := ∀ q x, m[q]? = some x → ∃ d : Bo, (∀ i, i < 13 → cur[off + q * 13 + i]? = (x.cs d)[i]?) ∧ Rz F w x.n d.vs x.t

theorem wpList_mcopy {ops : Array Oper} {rest : List Oper} {o : Oper} {a : Act} {Q : Exit → Act → World → Prop} {w : World} (hgd : o.guard = none) (d s : Operand)
    (ho : o.op = .call { callee := .builtin .copy, args := #[d, s], argTypes := #[22, 22] })
    (dp sp : Option Addr) (dLen dCap sCap : Nat) (m : List Ms) (hd : a.eval d = .slice dp dLen dCap) (hs : a.eval s = .slice sp m.length sCap) (hle : m.length ≤ dLen)
    (g off : Nat) (hdp : m ≠ [] → dp = some ⟨g, off, none⟩) (cur : Array Value) (hg : w.heap[g]? = some (.cells cur 30 (0, 0))) (hfit : off + m.length * 13 ≤ cur.size) (F : Nat → Prop) (hm : Mz F w sp m)
    (h : ∀ w' cur', w'.heap[g]? = some (.cells cur' 30 (0, 0)) → cur'.size = cur.size → (∀ i, (i < off ∨ off + m.length * 13 ≤ i) → cur'[i]? = cur[i]?) → Cr F w cur' off m → (∀ b, b ≠ g → w'.heap[b]? = w.heap[b]?) → Below g w w' → wpList Try.prog ops Q rest (a.put o.dst (goInt m.length)) w') : wpList Try.prog ops Q (o :: rest) a w := by
  obtain ⟨i0, hi0, hz0, hz1, hz2⟩ := infoM_parts
  by_cases hm0 : m = []
  · subst hm0
    refine wpList_plain hgd fun K hK' => ?_
    have hrun := run_copy_zero (P := Try.prog) w 22 22 o.type 30 dp sp dLen dCap sCap Try.underlying22 i0 hi0
    unfold Oper.wp
    simp only [List.length_nil] at hs
    simp [execOp, ho, resolve, invoke, builtin, hd, hs, hrun, Result.andThen]
    exact hK' _ _ (by simpa using h w cur hg rfl (fun _ _ => rfl) (fun q x hq => by simp at hq) (fun _ _ => rfl) (Below.refl _ _))
  · obtain rfl := hdp hm0
    rcases hm with hm | ⟨b, of, rfl, hb, hm⟩
    · exact absurd hm hm0
    obtain ⟨news, n1, n2, n3, n4⟩ := Mz.news hm
    have hmin : Nat.min m.length dLen = m.length := Nat.min_eq_left hle
    refine wpList_plain hgd fun K hK' => ?_
    have hrun := run_copy_wide (P := Try.prog) w 22 22 o.type 30 13 g off dLen dCap ⟨b, of, none⟩ m.length sCap cur 30 news Try.underlying22 i0 hi0 hz1 hg (by rw [hmin]; exact n1) n2 (by omega) n3
    rw [hmin] at hrun
    unfold Oper.wp
    simp [execOp, ho, resolve, invoke, builtin, hd, hs, hrun, Result.andThen]
    have hl1 : (cur.toList.take off).length = off := by simp; omega
    refine hK' _ _ (h _ (cur.toList.take off ++ (news ++ cur.toList.drop (off + news.length))).toArray (setRow_heap w g cur _ _ _ hg) (by simp; omega) (fun i hi => ?_) (fun q x hq => ?_) (fun b hb => setRow_other w g b _ hb) (below_setRow (Below.refl _ _) (Nat.le_refl _) _))
    · simp only [List.getElem?_toArray]
      rcases hi with hi | hi
      · rw [List.getElem?_append_left (by omega), List.getElem?_take, if_pos hi, Array.getElem?_toList]
      · rw [List.getElem?_append_right (by omega), List.getElem?_append_right (by omega), List.getElem?_drop, Array.getElem?_toList]
        congr 1
        omega
    · obtain ⟨d', c', r'⟩ := n4 q x hq
      refine ⟨d', fun i hi => ?_, r'⟩
      have hql : q < m.length := (List.getElem?_eq_some_iff.1 hq).1
      simp only [List.getElem?_toArray]
      rw [List.getElem?_append_right (by omega), List.getElem?_append_left (by omega), hl1, show off + q * 13 + i - off = q * 13 + i by omega]
      have := c' i hi
      simpa using this

/-- A row of messages within a block of its own before place j: those ahead have bodies of their own, from L on; those behind have them where they were. -/
structure Cd (w : World) (N : Nat) (l : List Ms) (j : Nat) (wr : World) : Prop where
  b : Below w.heap.size w wr
  z : ∃ cur : Array Value, wr.heap[N]? = some (.cells cur 30 (0, 0)) ∧ cur.size = l.length * 13
  k : ∀ q x, l[q]? = some x → ∃ d : Bo, C13 wr N (q * 13) x d ∧ (q < j → Dt.Rf (fun g => N < g ∧ g < wr.heap.size) wr x.n d.vs x.t) ∧ (j ≤ q → Dt.Rep w x.n d.vs x.t)
theorem Cd.lt {w : World} {N : Nat} {l : List Ms} {j : Nat} {wr : World} (h : Cd w N l j wr) : N < wr.heap.size := by obtain ⟨c, h, -⟩ := h.z; exact (Array.getElem?_eq_some_iff.1 h).1
theorem Cd.f {w : World} {N : Nat} {l : List Ms} {j : Nat} {wr : World} (h : Cd w N l j wr) (q : Nat) : wr.frozen? ⟨N, q, none⟩ = false := by obtain ⟨c, h, -⟩ := h.z; simp [World.frozen?, h]
theorem Cd.below {w : World} {N : Nat} {l : List Ms} {j : Nat} {wr w' : World} (h : Cd w N l j wr) (hb : Below wr.heap.size wr w') : Cd w N l j w' := by
  have hl := h.lt
  obtain ⟨c, z1, z2⟩ := h.z
  refine ⟨h.b.trans (hb.mono h.b.size), ⟨c, (hb.block N hl).trans z1, z2⟩, fun q x hq => ?_⟩
  obtain ⟨d, k1, k2, k3⟩ := h.k q x hq
  exact ⟨d, k1.heap (hb.block N hl), fun hj => Dt.Rf.to (fun g hg => ⟨⟨hg.1, Nat.lt_of_lt_of_le hg.2 hb.size⟩, hb.block g hg.2⟩) _ _ _ (k2 hj), k3⟩
/-- One body more. -/
theorem Cd.step {w : World} {N : Nat} {l : List Ms} {j : Nat} {wr w2 : World} (hN : w.heap.size ≤ N) (h : Cd w N l j wr) (hb : Below wr.heap.size wr w2) (x : Ms) (hx : l[j]? = some x) (d' : Bo) (r : Dt.Rf (fun g => wr.heap.size ≤ g ∧ g < w2.heap.size) w2 x.n d'.vs x.t)
    {W : World} (hW : W = ((((w2.setCell ⟨N, j * 13 + 2, none⟩ (.int .i64 d'.k)).setCell ⟨N, j * 13 + 3, none⟩ (.int .i64 d'.i)).setCell ⟨N, j * 13 + 4, none⟩ (.int .u64 d'.u)).setCell ⟨N, j * 13 + 5, none⟩ (.string d'.s)).setCell ⟨N, j * 13 + 6, none⟩ (.slice d'.a d'.l d'.c)) : Cd w N l (j + 1) W := by
  have h2 := h.below hb
  have hl := h.lt
  obtain ⟨c, z1, z2⟩ := h2.z
  have hj : j < l.length := (List.getElem?_eq_some_iff.1 hx).1
  have oth : ∀ b, b ≠ N → W.heap[b]? = w2.heap[b]? := fun b hb => by
    subst hW
    rw [Below.heap_setCell _ _ _ b hb, Below.heap_setCell _ _ _ b hb, Below.heap_setCell _ _ _ b hb, Below.heap_setCell _ _ _ b hb, Below.heap_setCell _ _ _ b hb]
  have sz : W.heap.size = w2.heap.size := by subst hW; simp
  have B2 : Below w.heap.size w W := by
    subst hW
    exact (((((h2.b.setCell hN _).setCell hN _).setCell hN _).setCell hN _).setCell hN _)
  have Bk2 : Bk w2 N c 30 := z1
  have BW : Bk W N (((((c.setIfInBounds (j * 13 + 2) (.int .i64 d'.k)).setIfInBounds (j * 13 + 3) (.int .i64 d'.i)).setIfInBounds (j * 13 + 4) (.int .u64 d'.u)).setIfInBounds (j * 13 + 5) (.string d'.s)).setIfInBounds (j * 13 + 6) (.slice d'.a d'.l d'.c)) 30 := by
    subst hW
    exact ((((Bk2.set _ _).set _ _).set _ _).set _ _).set _ _
  have far : ∀ o, (o < j * 13 + 2 ∨ j * 13 + 6 < o) → W.cell? ⟨N, o, none⟩ = w2.cell? ⟨N, o, none⟩ := fun o ho => by
    subst hW
    rw [World.cell?_setCell_other, World.cell?_setCell_other, World.cell?_setCell_other, World.cell?_setCell_other, World.cell?_setCell_other]
    all_goals (simp only [ne_eq, Addr.mk.injEq]; omega)
  refine ⟨B2, ⟨_, BW, by simpa using z2⟩, fun q y hq => ?_⟩
  obtain ⟨d, k1, k2, k3⟩ := h2.k q y hq
  have hql : q < l.length := (List.getElem?_eq_some_iff.1 hq).1
  have fr : ∀ g, (N < g ∧ g < w2.heap.size) → (N < g ∧ g < W.heap.size) ∧ W.heap[g]? = w2.heap[g]? := fun g hg => ⟨⟨hg.1, by omega⟩, oth g (by omega)⟩
  by_cases e : q = j
  · subst e
    rw [hx] at hq
    obtain rfl := Option.some.inj hq
    refine ⟨d', C13.of fun i hi => ?_, fun _ => Dt.Rf.to (fun g hg => fr g ⟨by omega, hg.2⟩) _ _ _ r, fun hh => absurd hh (by omega)⟩
    have hc : w2.cell? ⟨N, q * 13 + i, none⟩ = (x.cs d)[i]? := k1.at i hi
    by_cases hi2 : i < 2 ∨ 6 < i
    · rw [far _ (by omega), hc]
      match i, hi, hi2 with
      | 0, _, _ => rfl
      | 1, _, _ => rfl
      | 7, _, _ => rfl
      | 8, _, _ => rfl
      | 9, _, _ => rfl
      | 10, _, _ => rfl
      | 11, _, _ => rfl
      | 12, _, _ => rfl
      | 2, _, hh | 3, _, hh | 4, _, hh | 5, _, hh | 6, _, hh => omega
    · rw [BW.c]
      have hs : q * 13 + 12 < c.size := by omega
      match i, hi, hi2 with
      | 2, _, _ => simp [Array.getElem?_setIfInBounds]; omega
      | 3, _, _ => simp [Array.getElem?_setIfInBounds]; omega
      | 4, _, _ => simp [Array.getElem?_setIfInBounds]; omega
      | 5, _, _ => simp [Array.getElem?_setIfInBounds]; omega
      | 6, _, _ => simp [Array.getElem?_setIfInBounds]; omega
      | 0, _, hh | 1, _, hh | 7, _, hh | 8, _, hh | 9, _, hh | 10, _, hh | 11, _, hh | 12, _, hh => omega
  · refine ⟨d, C13.of fun i hi => ?_, fun hh => Dt.Rf.to fr _ _ _ (k2 (by omega)), fun hh => k3 (by omega)⟩
    rw [far _ (by omega)]
    exact k1.at i hi
/-- The finished row. -/
theorem Cd.done {w : World} {N : Nat} {l : List Ms} {wr : World} (hN : w.heap.size ≤ N) (h : Cd w N l l.length wr) : Mf (fun g => w.heap.size ≤ g ∧ g < wr.heap.size) wr (some ⟨N, 0, none⟩) l := by
  refine .inr ⟨N, rfl, ⟨hN, h.lt⟩, h.f, fun j x hj => ?_⟩
  obtain ⟨d, k1, k2, -⟩ := h.k j x hj
  exact ⟨d, k1, Dt.Rf.to (fun g hg => ⟨⟨⟨by omega, hg.2⟩, by omega⟩, rfl⟩) _ _ _ (k2 (List.getElem?_eq_some_iff.1 hj).1)⟩
end Go.Proofs.Ytdgjhclncjoonaa
