/- The map of boxes that the package makes: a look-up, a store, and what its pointer answers; the conditions: the map and its boxes in memory. -/
import Derived.Test.YtfanoiomiijlgaaDoorEqv
import Derived.MapKept
import Derived.Deep.RegionHeld3
namespace Go.Proofs.YtfanoiomiijlgaaDoor
open Go.RowKit

/-- The map of boxes. -/
def Mp (w : World) (r : Nat) (l : List (Int × Nat)) : Prop :=
  ∃ (es : Array MapEntry) (ck : Nat), w.heap[r]? = some (.map es ck) ∧ es.toList.map (fun e => (e.key, e.val)) = l.map fun x => (Value.int .i64 x.1, Value.pointer (some ⟨x.2, 0, none⟩))
def lk (l : List (Int × Nat)) (i : Int) : Option Nat := (l.find? fun x => x.1 == i).map (·.2)

theorem findNow_lk (i : Int) : ∀ (es : List MapEntry) (l : List (Int × Nat)) (k : Nat), es.map (fun e => (e.key, e.val)) = l.map (fun x => (Value.int .i64 x.1, Value.pointer (some ⟨x.2, 0, none⟩))) →
    ∃ r, Instr.findNow (.int .i64) (.int .i64 i) es k = some r ∧ r.map (·.2) = (lk l i).map fun b => Value.pointer (some ⟨b, 0, none⟩)
  | [], [], _, _ => ⟨none, rfl, rfl⟩
  | [], _ :: _, _, h => by simp at h
  | _ :: _, [], _, h => by simp at h
  | e :: es, (j, b) :: l, k, h => by
    simp only [List.map_cons, List.cons.injEq, Prod.mk.injEq] at h
    obtain ⟨⟨h1, h2⟩, h3⟩ := h
    by_cases hij : i = j
    · subst hij
      exact ⟨some (k, e.val), by simp [Instr.findNow, Instr.sameNow, h1], by simp [lk, h2]⟩
    · obtain ⟨r, hr, hr'⟩ := findNow_lk i es l (k + 1) h3
      refine ⟨r, by simp [Instr.findNow, Instr.sameNow, h1, show (i == j) = false by simpa using hij, hr], ?_⟩
      rw [hr']
      have : ((j : Int) == i) = false := by simpa using fun e => hij e.symm
      simp [lk, this]

theorem look_mp (w : World) (r : Nat) (l : List (Int × Nat)) (h : Mp w r l) (i : Int) :
    (Instr.lookup 43 (.map (some r)) (.int .i64 i) false).run Tryd.prog w = .ok (.pointer ((lk l i).map fun b => ⟨b, 0, none⟩)) w := by
  obtain ⟨es, ck, hb, he⟩ := h
  obtain ⟨q, h1, h2⟩ := findNow_lk i es.toList l 0 he
  have hu : Tryd.prog.underlying 43 = some (.map 2 71) := by kernel_rfl
  have hk : Tryd.prog.underlying 2 = some (.int .i64) := by kernel_rfl
  have hz : ∀ w, (zeroValue 71).run Tryd.prog w = .ok (.pointer none) w := fun _ => by kernel_rfl
  have hc : ∀ b w, (Instr.checkKey b 10000 2 (.int .i64 i)).run Tryd.prog w = .ok () w := fun _ _ => by kernel_rfl
  have hg : (getObj r).run Tryd.prog w = .ok (.map es ck) w := by simp [getObj, Sem.run, hb]
  simp only [Instr.lookup, Sem.run_bind, run_underlying hu, Result.andThen_ok, hg, Sem.run_pure, hc, Instr.findKey, run_underlying hk, h1]
  cases q with
  | none =>
    have : lk l i = none := by simpa using h2.symm
    simp [this, hz]
  | some x =>
    obtain ⟨k, v⟩ := x
    cases hl : lk l i with
    | none => rw [hl] at h2; simp at h2
    | some b => rw [hl] at h2; simp at h2; simp [h2]

theorem upd_mp (w : World) (r : Nat) (l : List (Int × Nat)) (h : Mp w r l) (i : Int) (b : Nat) (hn : lk l i = none) :
    ∃ w', (Instr.mapUpdate 43 (.map (some r)) (.int .i64 i) (.pointer (some ⟨b, 0, none⟩))).run Tryd.prog w = .ok () w' ∧ Mp w' r (l ++ [(i, b)]) ∧ w.grownBy w' (some r) := by
  obtain ⟨es, ck, hb, he⟩ := h
  obtain ⟨q, h1, h2⟩ := findNow_lk i es.toList l 0 he
  have hu : Tryd.prog.underlying 43 = some (.map 2 71) := by kernel_rfl
  have hk : Tryd.prog.underlying 2 = some (.int .i64) := by kernel_rfl
  have hc : ∀ b w, (Instr.checkKey b 10000 2 (.int .i64 i)).run Tryd.prog w = .ok () w := fun _ _ => by kernel_rfl
  have hq : q = none := by
    rw [hn] at h2
    cases q with
    | none => rfl
    | some x => simp at h2
  subst hq
  have hg : (getObj r).run Tryd.prog w = .ok (.map es ck) w := by simp [getObj, Sem.run, hb]
  have hs : ∀ o, (setObj r o).run Tryd.prog w = .ok () { w with heap := w.heap.setIfInBounds r o } := fun o => by simp [setObj, Sem.run, hb]
  simp only [Instr.mapUpdate, Sem.run_bind, run_underlying hu, Result.andThen_ok, hg, Sem.run_pure, hc, Instr.findKey, run_underlying hk, h1]
  refine ⟨_, hs _, ?_, ?_⟩
  · refine ⟨es.push ⟨.int .i64 i, .pointer (some ⟨b, 0, none⟩), ck⟩, ck + 1, ?_, ?_⟩
    · have hlt : r < w.heap.size := (Array.getElem?_eq_some_iff.1 hb).1
      simp [hlt]
    · simp [he]
  · refine ⟨rfl, rfl, rfl, by simp, fun k hk hne => ?_⟩
    have : r ≠ k := fun e => hne (by rw [e])
    simp [this]

theorem Mp.lt {w : World} {r : Nat} {l : List (Int × Nat)} (h : Mp w r l) : r < w.heap.size := by
  obtain ⟨es, ck, hb, -⟩ := h; exact (Array.getElem?_eq_some_iff.1 hb).1
theorem Mp.below {w w' : World} {r : Nat} {l : List (Int × Nat)} (h : Mp w r l) (hb : Below w.heap.size w w') : Mp w' r l := by
  have := h.lt
  obtain ⟨es, ck, h1, h2⟩ := h
  exact ⟨es, ck, (hb.block r this).trans h1, h2⟩
theorem Bx.below {w w' : World} {l : List (Int × Nat)} (h : Bx w l) (hb : Below w.heap.size w w') : Bx w' l :=
  ⟨fun i b hm => by
    obtain ⟨cs, hc⟩ := h.1 i b hm
    exact ⟨cs, (hb.block b (Array.getElem?_eq_some_iff.1 hc).1).trans hc⟩, h.2⟩
theorem Bx.grown {w w' : World} {r : Nat} {l l' : List (Int × Nat)} (h : Bx w l) (hm : Mp w r l') (hg : w.grownBy w' (some r)) : Bx w' l := by
  refine ⟨fun i b hm' => ?_, h.2⟩
  obtain ⟨cs, hc⟩ := h.1 i b hm'
  refine ⟨cs, (hg.block b (Array.getElem?_eq_some_iff.1 hc).1 (fun e => ?_)).trans hc⟩
  obtain ⟨es, ck, h1, -⟩ := hm
  rw [Option.some.inj e, h1] at hc
  cases hc
theorem lk_mem {l : List (Int × Nat)} {i : Int} {b : Nat} (h : lk l i = some b) : (i, b) ∈ l := by
  unfold lk at h
  cases hf : l.find? (fun x => x.1 == i) with
  | none => rw [hf] at h; cases h
  | some x =>
    rw [hf] at h
    have h1 := List.mem_of_find?_eq_some hf
    have h2 := List.find?_some hf
    have : x.1 = i := by simpa using h2
    have h3 : x.2 = b := by simpa using h
    rw [← this, ← h3]; exact h1
theorem lk_none {l : List (Int × Nat)} {i : Int} (h : lk l i = none) (b : Nat) : (i, b) ∉ l := by
  intro hm
  unfold lk at h
  have : l.find? (fun x => x.1 == i) = none := by simpa using h
  have := List.find?_eq_none.1 this (i, b) hm
  simp at this
theorem below1 (w : World) (o : Obj) : Below w.heap.size w (w.alloc o) := (Below.refl _ w).alloc (Nat.le_refl _) _
theorem Bx.push {w w' : World} {l : List (Int × Nat)} {i : Int} (h : Bx w l) (hb : Below w.heap.size w w') (cs : Array Value) (hc : w'.heap[w.heap.size]? = some (.cells cs 86 (0, 0))) (hn : lk l i = none) : Bx w' (l ++ [(i, w.heap.size)]) := by
  have h' := h.below hb
  have fresh : ∀ j b, (j, b) ∈ l → b < w.heap.size := fun j b hm => by
    obtain ⟨cs, hc⟩ := h.1 j b hm; exact (Array.getElem?_eq_some_iff.1 hc).1
  refine ⟨fun j b hm => ?_, fun j b k c h1 h2 => ?_⟩
  · rcases List.mem_append.1 hm with hm | hm
    · exact h'.1 j b hm
    · simp at hm; obtain ⟨rfl, rfl⟩ := hm; exact ⟨cs, hc⟩
  · rcases List.mem_append.1 h1 with g1 | g1
    · rcases List.mem_append.1 h2 with g2 | g2
      · exact h.2 j b k c g1 g2
      · simp at g2
        obtain ⟨e1, e2⟩ := g2
        have := fresh j b g1
        constructor
        · intro e; rw [e, e1] at g1; exact absurd g1 (lk_none hn b)
        · intro e; omega
    · simp at g1
      obtain ⟨e1, e2⟩ := g1
      rcases List.mem_append.1 h2 with g2 | g2
      · have := fresh k c g2
        constructor
        · intro e; rw [← e, e1] at g2; exact absurd g2 (lk_none hn c)
        · intro e; omega
      · simp at g2
        obtain ⟨e3, e4⟩ := g2
        constructor
        · intro _; omega
        · intro _; omega

set_option maxRecDepth 100000 in
set_option maxHeartbeats 1000000 in
theorem pointer_sh (r : Nat) (l : List (Int × Nat)) (k i u : Int) (s : ByteArray) (ad : Option Addr) (len cap : Nat) (w : World) (hm : Mp w r l) (hb : Bx w l) :
    Calls Tryd.prog 30 #[.agg #[.map (some r)], .agg #[.int .i64 k, .int .i64 i, .int .u64 u, .string s, .slice ad len cap]] w fun e w' =>
      ∃ b l', e = .returned (.pointer (some ⟨b, 0, none⟩)) ∧ (i, b) ∈ l' ∧ Mp w' r l' ∧ Bx w' l' ∧ (∀ x ∈ l, x ∈ l') ∧ w.grownBy w' (some r) := by
  have hen : ∀ w, (binOp .eql 43 (.map (some r)) (.map none)).run Tryd.prog w = .ok (.bool false) w := fun _ => by kernel_rfl
  have b2 : Below w.heap.size w ((w.alloc (.cells #[.map (some r)] 45)).alloc (.cells #[.int .i64 k, .int .i64 i, .int .u64 u, .string s, .slice ad len cap] 25)) := ((Below.refl _ w).alloc (Nat.le_refl _) _).alloc (by simp) _
  cases hl : lk l i with
  | some b =>
    have hlook := look_mp _ r l (hm.below b2) i
    rw [hl] at hlook
    go_enter Tryd.func30, Tryd.ntmps30
    go_wp2
    go_ret
    exact ⟨b, l, rfl, lk_mem hl, hm.below b2, hb.below b2, fun _ h => h, grown_below b2⟩
  | none =>
    have hlook := look_mp _ r l (hm.below b2) i
    rw [hl] at hlook
    have b3 := b2.alloc (by simp; omega) (.cells #[.int .i64 i, .nilIface] 86)
    obtain ⟨w', hu, hm', hg⟩ := upd_mp _ r l (hm.below b3) i (w.heap.size + 1 + 1) hl
    have hB : Bx w' (l ++ [(i, w.heap.size + 1 + 1)]) := by
      have h2 := hb.below b2
      have := Bx.push (i := i) h2 (below1 _ (.cells #[.int .i64 i, .nilIface] 86)) #[.int .i64 i, .nilIface] (heap_alloc_new _ _) hl
      rw [World.size_alloc, World.size_alloc] at this
      exact this.grown (hm.below b3) hg
    have hG : w.grownBy w' (some r) := grown_trans (grown_below b3) hg
    go_enter Tryd.func30, Tryd.ntmps30
    go_wp2
    go_ret
    exact ⟨_, _, rfl, by simp, hm', hB, fun x hx => by simp [hx], hG⟩
end Go.Proofs.YtfanoiomiijlgaaDoor
