/- The map of boxes that the package makes: a look-up, a store, and what its pointer answers; the conditions: the map and its boxes in memory. -/
import Derived.Test.YtgijdiplhcoojaaGreatDoorXEqv
import Derived.MapKept
import Derived.Deep.RegionHeld3
import Derived.Laws.MakeOwn
namespace Go.Proofs.YtgijdiplhcoojaaGreatDoor.Dt
open Go.RowKit

/-- The map of boxes. -/
def Mp (w : World) (r : Nat) (l : List (Int × Nat)) : Prop :=
  ∃ (es : Array MapEntry) (ck : Nat), w.heap[r]? = some (.map es ck) ∧ es.toList.map (fun e => (e.key, e.val)) = l.map fun x => (Value.int .i64 x.1, Value.pointer (some ⟨x.2, 0, none⟩))
def lk (l : List (Int × Nat)) (i : Int) : Option Nat := (l.find? fun x => x.1 == i).map (·.2)

theorem findNow_lk (i : Int) : ∀ (es : List MapEntry) (l : List (Int × Nat)) (k : Nat), es.map (fun e => (e.key, e.val)) = l.map (fun x => (Value.int .i64 x.1, Value.pointer (some ⟨x.2, 0, none⟩))) →
    ∃ r, Instr.findNow (.int .i64) (.int .i64 i) es k = some r ∧ r.map (·.2) = (lk l i).map fun b => Value.pointer (some ⟨b, 0, none⟩)
  | [], [], _, _ => ⟨none, rfl, rfl⟩
  | [], _ :: _, _, h => by simp at h
  | _ :: _, [], _, h => by simp at h
  | e :: es, (j, b) :: l, k, h => by
    simp only [List.map_cons, List.cons.injEq, Prod.mk.injEq] at h
    obtain ⟨⟨h1, h2⟩, h3⟩ := h
    by_cases hij : i = j
    · subst hij
      exact ⟨some (k, e.val), by simp [Instr.findNow, Instr.sameNow, h1], by simp [lk, h2]⟩
    · obtain ⟨r, hr, hr'⟩ := findNow_lk i es l (k + 1) h3
      refine ⟨r, by simp [Instr.findNow, Instr.sameNow, h1, show (i == j) = false by simpa using hij, hr], ?_⟩
      rw [hr']
      have : ((j : Int) == i) = false := by simpa using fun e => hij e.symm
      simp [lk, this]

theorem look_mp (w : World) (r : Nat) (l : List (Int × Nat)) (h : Mp w r l) (i : Int) :
    (Instr.lookup 83 (.map (some r)) (.int .i64 i) false).run Tryz.prog w = .ok (.pointer ((lk l i).map fun b => ⟨b, 0, none⟩)) w := by
  obtain ⟨es, ck, hb, he⟩ := h
  obtain ⟨q, h1, h2⟩ := findNow_lk i es.toList l 0 he
  have hu : Tryz.prog.underlying 83 = some (.map 2 121) := by kernel_rfl
  have hk : Tryz.prog.underlying 2 = some (.int .i64) := by kernel_rfl
  have hz : ∀ w, (zeroValue 121).run Tryz.prog w = .ok (.pointer none) w := fun _ => by kernel_rfl
  have hc : ∀ b w, (Instr.checkKey b 10000 2 (.int .i64 i)).run Tryz.prog w = .ok () w := fun _ _ => by kernel_rfl
  have hg : (getObj r).run Tryz.prog w = .ok (.map es ck) w := by simp [getObj, Sem.run, hb]
  simp only [Instr.lookup, Sem.run_bind, run_underlying hu, Result.andThen_ok, hg, Sem.run_pure, hc, Instr.findKey, run_underlying hk, h1]
  cases q with
  | none =>
    have : lk l i = none := by simpa using h2.symm
    simp [this, hz]
  | some x =>
    obtain ⟨k, v⟩ := x
    cases hl : lk l i with
    | none => rw [hl] at h2; simp at h2
    | some b => rw [hl] at h2; simp at h2; simp [h2]

theorem upd_mp (w : World) (r : Nat) (l : List (Int × Nat)) (h : Mp w r l) (i : Int) (b : Nat) (hn : lk l i = none) :
    ∃ w', (Instr.mapUpdate 83 (.map (some r)) (.int .i64 i) (.pointer (some ⟨b, 0, none⟩))).run Tryz.prog w = .ok () w' ∧ Mp w' r (l ++ [(i, b)]) ∧ w.grownBy w' (some r) := by
  obtain ⟨es, ck, hb, he⟩ := h
  obtain ⟨q, h1, h2⟩ := findNow_lk i es.toList l 0 he
  have hu : Tryz.prog.underlying 83 = some (.map 2 121) := by kernel_rfl
  have hk : Tryz.prog.underlying 2 = some (.int .i64) := by kernel_rfl
  have hc : ∀ b w, (Instr.checkKey b 10000 2 (.int .i64 i)).run Tryz.prog w = .ok () w := fun _ _ => by kernel_rfl
  have hq : q = none := by
    rw [hn] at h2
    cases q with
    | none => rfl
    | some x => simp at h2
  subst hq
  have hg : (getObj r).run Tryz.prog w = .ok (.map es ck) w := by simp [getObj, Sem.run, hb]
  have hs : ∀ o, (setObj r o).run Tryz.prog w = .ok () { w with heap := w.heap.setIfInBounds r o } := fun o => by simp [setObj, Sem.run, hb]
  simp only [Instr.mapUpdate, Sem.run_bind, run_underlying hu, Result.andThen_ok, hg, Sem.run_pure, hc, Instr.findKey, run_underlying hk, h1]
  refine ⟨_, hs _, ?_, ?_⟩
  · refine ⟨es.push ⟨.int .i64 i, .pointer (some ⟨b, 0, none⟩), ck⟩, ck + 1, ?_, ?_⟩
    · have hlt : r < w.heap.size := (Array.getElem?_eq_some_iff.1 hb).1
      simp [hlt]
    · simp [he]
  · refine ⟨rfl, rfl, rfl, by simp, fun k hk hne => ?_⟩
    have : r ≠ k := fun e => hne (by rw [e])
    simp [this]

theorem Mp.lt {w : World} {r : Nat} {l : List (Int × Nat)} (h : Mp w r l) : r < w.heap.size := by
  obtain ⟨es, ck, hb, -⟩ := h; exact (Array.getElem?_eq_some_iff.1 hb).1
theorem Mp.below {w w' : World} {r : Nat} {l : List (Int × Nat)} (h : Mp w r l) (hb : Below w.heap.size w w') : Mp w' r l := by
  have := h.lt
  obtain ⟨es, ck, h1, h2⟩ := h
  exact ⟨es, ck, (hb.block r this).trans h1, h2⟩
theorem Bx.below {w w' : World} {l : List (Int × Nat)} (h : Bx w l) (hb : Below w.heap.size w w') : Bx w' l :=
  ⟨fun i b hm => by
    obtain ⟨cs, hc⟩ := h.1 i b hm
    exact ⟨cs, (hb.block b (Array.getElem?_eq_some_iff.1 hc).1).trans hc⟩, h.2⟩
theorem Bx.grown {w w' : World} {r : Nat} {l l' : List (Int × Nat)} (h : Bx w l) (hm : Mp w r l') (hg : w.grownBy w' (some r)) : Bx w' l := by
  refine ⟨fun i b hm' => ?_, h.2⟩
  obtain ⟨cs, hc⟩ := h.1 i b hm'
  refine ⟨cs, (hg.block b (Array.getElem?_eq_some_iff.1 hc).1 (fun e => ?_)).trans hc⟩
  obtain ⟨es, ck, h1, -⟩ := hm
  rw [Option.some.inj e, h1] at hc
  cases hc
theorem lk_mem {l : List (Int × Nat)} {i : Int} {b : Nat} (h : lk l i = some b) : (i, b) ∈ l := by
  unfold lk at h
  cases hf : l.find? (fun x => x.1 == i) with
  | none => rw [hf] at h; cases h
  | some x =>
    rw [hf] at h
    have h1 := List.mem_of_find?_eq_some hf
    have h2 := List.find?_some hf
    have : x.1 = i := by simpa using h2
    have h3 : x.2 = b := by simpa using h
    rw [← this, ← h3]; exact h1
theorem lk_none {l : List (Int × Nat)} {i : Int} (h : lk l i = none) (b : Nat) : (i, b) ∉ l := by
  intro hm
  unfold lk at h
  have : l.find? (fun x => x.1 == i) = none := by simpa using h
  have := List.find?_eq_none.1 this (i, b) hm
  simp at this
theorem below1 (w : World) (o : Obj) : Below w.heap.size w (w.alloc o) := (Below.refl _ w).alloc (Nat.le_refl _) _
theorem Bx.push {w w' : World} {l : List (Int × Nat)} {i : Int} (h : Bx w l) (hb : Below w.heap.size w w') (cs : Array Value) (hc : w'.heap[w.heap.size]? = some (.cells cs 151 (0, 0))) (hn : lk l i = none) : Bx w' (l ++ [(i, w.heap.size)]) := by
  have h' := h.below hb
  have fresh : ∀ j b, (j, b) ∈ l → b < w.heap.size := fun j b hm => by
    obtain ⟨cs, hc⟩ := h.1 j b hm; exact (Array.getElem?_eq_some_iff.1 hc).1
  refine ⟨fun j b hm => ?_, fun j b k c h1 h2 => ?_⟩
  · rcases List.mem_append.1 hm with hm | hm
    · exact h'.1 j b hm
    · simp at hm; obtain ⟨rfl, rfl⟩ := hm; exact ⟨cs, hc⟩
  · rcases List.mem_append.1 h1 with g1 | g1
    · rcases List.mem_append.1 h2 with g2 | g2
      · exact h.2 j b k c g1 g2
      · simp at g2
        obtain ⟨e1, e2⟩ := g2
        have := fresh j b g1
        constructor
        · intro e; rw [e, e1] at g1; exact absurd g1 (lk_none hn b)
        · intro e; omega
    · simp at g1
      obtain ⟨e1, e2⟩ := g1
      rcases List.mem_append.1 h2 with g2 | g2
      · have := fresh k c g2
        constructor
        · intro e; rw [← e, e1] at g2; exact absurd g2 (lk_none hn c)
        · intro e; omega
      · simp at g2
        obtain ⟨e3, e4⟩ := g2
        constructor
        · intro _; omega
        · intro _; omega

set_option maxRecDepth 100000 in
set_option maxHeartbeats 1000000 in
theorem pointer_sh (r : Nat) (l : List (Int × Nat)) (k i u : Int) (s : ByteArray) (ad : Option Addr) (len cap : Nat) (w : World) (hm : Mp w r l) (hb : Bx w l) :
    Calls Tryz.prog 60 #[.agg #[.map (some r)], .agg #[.int .i64 k, .int .i64 i, .int .u64 u, .string s, .slice ad len cap]] w fun e w' =>
      ∃ b l', e = .returned (.pointer (some ⟨b, 0, none⟩)) ∧ (i, b) ∈ l' ∧ Mp w' r l' ∧ Bx w' l' ∧ (∀ x ∈ l, x ∈ l') ∧ w.grownBy w' (some r) := by
  have hen : ∀ w, (binOp .eql 83 (.map (some r)) (.map none)).run Tryz.prog w = .ok (.bool false) w := fun _ => by kernel_rfl
  have b2 : Below w.heap.size w ((w.alloc (.cells #[.map (some r)] 85)).alloc (.cells #[.int .i64 k, .int .i64 i, .int .u64 u, .string s, .slice ad len cap] 25)) := ((Below.refl _ w).alloc (Nat.le_refl _) _).alloc (by simp) _
  cases hl : lk l i with
  | some b =>
    have hlook := look_mp _ r l (hm.below b2) i
    rw [hl] at hlook
    go_enter Tryz.func60, Tryz.ntmps60
    go_wp2
    go_ret
    exact ⟨b, l, rfl, lk_mem hl, hm.below b2, hb.below b2, fun _ h => h, grown_below b2⟩
  | none =>
    have hlook := look_mp _ r l (hm.below b2) i
    rw [hl] at hlook
    have b3 := b2.alloc (by simp; omega) (.cells #[.int .i64 i, .nilIface] 151)
    obtain ⟨w', hu, hm', hg⟩ := upd_mp _ r l (hm.below b3) i (w.heap.size + 1 + 1) hl
    have hB : Bx w' (l ++ [(i, w.heap.size + 1 + 1)]) := by
      have h2 := hb.below b2
      have := Bx.push (i := i) h2 (below1 _ (.cells #[.int .i64 i, .nilIface] 151)) #[.int .i64 i, .nilIface] (heap_alloc_new _ _) hl
      rw [World.size_alloc, World.size_alloc] at this
      exact this.grown (hm.below b3) hg
    have hG : w.grownBy w' (some r) := grown_trans (grown_below b3) hg
    go_enter Tryz.func60, Tryz.ntmps60
    go_wp2
    go_ret
    exact ⟨_, _, rfl, by simp, hm', hB, fun x hx => by simp [hx], hG⟩
end Go.Proofs.YtgijdiplhcoojaaGreatDoor.Dt
/- The package's row and place, with boxes by number, over a list's trees; the conditions: the trees in memory and valid, the map and its boxes in memory, and value's own contract for the parts. -/
namespace Go.Proofs.YtgijdiplhcoojaaGreatDoor.Dt
open Go.RowKit
theorem grown_setNew {w0 w : World} {row : Option Nat} (h : w0.grownBy w row) {N o : Nat} (hN : w0.heap.size ≤ N) (u : Value) : w0.grownBy (w.setCell ⟨N, o, none⟩ u) row :=
  ⟨h.os, h.tape, h.output, by have := h.size; simp only [World.setCell, Array.size_modify]; exact this,
    fun k hk hn => (Below.heap_setCell w ⟨N, o, none⟩ u k (by show k ≠ N; omega)).trans (h.block k hk hn)⟩
def ShT (w w' : World) (r : Nat) (l l' : List (Int × Nat)) : Prop := Mp w' r l' ∧ Bx w' l' ∧ (∀ x ∈ l, x ∈ l') ∧ w.grownBy w' (some r)
/-- A block holds one cell. -/
def C1 (w : World) (N : Nat) (t : TypeId) (v : Value) : Prop := w.heap[N]? = some (.cells #[v] t (0, 0))
theorem C1.lt {w : World} {N : Nat} {t : TypeId} {v : Value} (h : C1 w N t v) : N < w.heap.size := (Array.getElem?_eq_some_iff.1 h).1
theorem C1.below {w w' : World} {N : Nat} {t : TypeId} {v : Value} (h : C1 w N t v) (hb : Below w.heap.size w w') : C1 w' N t v := (hb.block N h.lt).trans h
theorem C1.kept {w w' : World} {N r : Nat} {t : TypeId} {v : Value} (h : C1 w N t v) (hg : w.grownBy w' (some r)) (hne : N ≠ r) : C1 w' N t v := (hg.block N h.lt (fun e => hne (Option.some.inj e))).trans h
theorem C1.c {w : World} {N : Nat} {t : TypeId} {v : Value} (h : C1 w N t v) : w.cell? ⟨N, 0, none⟩ = some v := by unfold C1 at h; simp [World.cell?, h]
theorem C1.f {w : World} {N o : Nat} {t : TypeId} {v : Value} (h : C1 w N t v) : w.frozen? ⟨N, o, none⟩ = false := by unfold C1 at h; simp [World.frozen?, h]
theorem C1.new (w : World) (t : TypeId) (v : Value) : C1 (w.alloc (.cells #[v] t)) w.heap.size t v := heap_alloc_new w _
theorem C1.set {w : World} {N : Nat} {t : TypeId} {v : Value} (h : C1 w N t v) (a : Addr) (x : Value) (hne : N ≠ a.block) : C1 (w.setCell a x) N t v := (Below.heap_setCell w a x N hne).trans h

/-- A block holds n values. -/
def Rb (w : World) (N n : Nat) : Prop := ∃ cs : Array Value, w.heap[N]? = some (.cells cs 20 (0, 0)) ∧ cs.size = n
theorem Rb.lt {w : World} {N n : Nat} (h : Rb w N n) : N < w.heap.size := by obtain ⟨cs, h, -⟩ := h; exact (Array.getElem?_eq_some_iff.1 h).1
theorem Rb.below {w w' : World} {N n : Nat} (h : Rb w N n) (hb : Below w.heap.size w w') : Rb w' N n := by
  have := h.lt; obtain ⟨cs, h1, h2⟩ := h; exact ⟨cs, (hb.block N this).trans h1, h2⟩
theorem Rb.kept {w w' : World} {N n r : Nat} (h : Rb w N n) (hg : w.grownBy w' (some r)) (hne : N ≠ r) : Rb w' N n := by
  have := h.lt; obtain ⟨cs, h1, h2⟩ := h; exact ⟨cs, (hg.block N this (fun e => hne (Option.some.inj e))).trans h1, h2⟩
theorem Rb.c {w : World} {N n j : Nat} (h : Rb w N n) (hj : j < n) : ∃ x, w.cell? ⟨N, j, none⟩ = some x := by
  obtain ⟨cs, h1, h2⟩ := h; exact ⟨cs[j]'(by omega), by simp [World.cell?, h1, h2, hj]⟩
theorem Rb.f {w : World} {N n o : Nat} (h : Rb w N n) : w.frozen? ⟨N, o, none⟩ = false := by
  obtain ⟨cs, h1, h2⟩ := h; simp [World.frozen?, h1]
theorem Rb.set {w : World} {N n j : Nat} (h : Rb w N n) (x : Value) : Rb (w.setCell ⟨N, j, none⟩ x) N n := by
  obtain ⟨cs, h1, h2⟩ := h
  exact ⟨cs.setIfInBounds j x, by simp [World.setCell, Array.getElem?_modify, h1], by simp [h2]⟩
theorem Mp.set {w : World} {r : Nat} {l : List (Int × Nat)} (h : Mp w r l) (a : Addr) (x : Value) (hne : r ≠ a.block) : Mp (w.setCell a x) r l := by
  obtain ⟨es, ck, h1, h2⟩ := h; exact ⟨es, ck, (Below.heap_setCell w a x r hne).trans h1, h2⟩
theorem Bx.set {w : World} {l : List (Int × Nat)} (h : Bx w l) (N o : Nat) (x : Value) : Bx (w.setCell ⟨N, o, none⟩ x) l := by
  refine ⟨fun i b hm => ?_, h.2⟩
  obtain ⟨cs, hc⟩ := h.1 i b hm
  by_cases e : b = N
  · subst e; exact ⟨cs.setIfInBounds o x, by simp [World.setCell, Array.getElem?_modify, hc]⟩
  · exact ⟨cs, (Below.heap_setCell w ⟨N, o, none⟩ x b e).trans hc⟩

theorem vs_any {l : List (Int × Nat)} {n : Nat} {v : Value} {t : Tr n} (h : VS l n v t) : v = .nilIface ∨ ∃ T z, v = .iface T z := by
  match n, t, h with
  | n + 1, t, h =>
    rcases vs_ty h with ⟨-, e⟩ | ⟨-, -, z, e⟩
    · exact .inl e
    · exact .inr ⟨_, z, e⟩
set_option maxRecDepth 100000 in
set_option maxHeartbeats 2000000 in
theorem row_sh (W0 : World) (r : Nat) (hr : W0.heap.size ≤ r) (m : Nat) (ks : List (Tr m))
    (ih : ∀ (t : Tr m) (v0 v1 v2 v3 v4 : Value) (l : List (Int × Nat)) (w : World), rgt m t = true → (pts m t).1 ≤ 4096 → Rep W0 m [v0, v1, v2, v3, v4] t → Below W0.heap.size W0 w → Mp w r l → Bx w l →
      Calls Tryz.prog 48 #[.agg #[.map (some r)], .agg #[v0, v1, v2, v3, v4]] w fun e w' => ∃ v l', e = .returned v ∧ VS l' m v t ∧ ShT w w' r l l')
    (ad : Option Addr) (cap : Nat) (l : List (Int × Nat)) (w : World) (hb0 : Below W0.heap.size W0 w) (hm : Mp w r l) (hb : Bx w l) (hn : ks.length ≤ 4096) (hrg : ks.all (rgt m) = true) (hps : ∀ t ∈ ks, (pts m t).1 ≤ 4096)
    (hk : ks = [] ∨ ∃ g o, ad = some ⟨g, o, none⟩ ∧ ∀ (j : Nat) (t' : Tr m), ks[j]? = some t' → ∃ v0 v1 v2 v3 v4, W0.cell? ⟨g, o + j * 5, none⟩ = some v0 ∧ W0.cell? ⟨g, o + j * 5 + 1, none⟩ = some v1 ∧ W0.cell? ⟨g, o + j * 5 + 2, none⟩ = some v2 ∧ W0.cell? ⟨g, o + j * 5 + 3, none⟩ = some v3 ∧ W0.cell? ⟨g, o + j * 5 + 4, none⟩ = some v4 ∧ Rep W0 m [v0, v1, v2, v3, v4] t') :
    Calls Tryz.prog 58 #[.agg #[.map (some r)], .slice ad ks.length cap] w fun e w' => ∃ v l', e = .returned v ∧ ShT w w' r l l' := by
  have hz20 : Tryz.prog.info? 20 = some Tryz.t20 := by kernel_rfl
  have hsz : Tryz.t20.size = 1 := by kernel_rfl
  have hby : Tryz.t20.bytes = 16 := by kernel_rfl
  have hze : Tryz.t20.zero = some .nilIface := by kernel_rfl
  have hmk : ∀ w : World, (Instr.makeSlice 114 (.int .i64 ks.length) (.int .i64 ks.length)).run Tryz.prog w = .ok (.slice (some ⟨w.heap.size, 0, none⟩) ks.length ks.length) (w.alloc (.cells (madeCells (Value.cells .nilIface) ks.length) 20)) := fun w => by
    have := run_makeSlice (P := Tryz.prog) w 114 20 Tryz.t20 .nilIface Tryz.underlying114 hz20 hze .i64 .i64 ks.length ks.length (by omega) (Int.le_refl _) (by rw [hsz]; simp; omega) (by rw [hby]; omega) (by omega)
    simpa [hsz] using this
  have hrl := hm.lt
  have hb0s := hb0.size
  have b1 := below1 w (.cells #[.map (some r)] 85)
  have b2 : Below w.heap.size w ((w.alloc (.cells #[.map (some r)] 85)).alloc (.cells (madeCells (Value.cells .nilIface) ks.length) 20)) := b1.alloc (by simp) _
  have c2 := (C1.new w 85 (.map (some r))).below (below1 _ (.cells (madeCells (Value.cells .nilIface) ks.length) 20))
  have r2 : Rb ((w.alloc (.cells #[.map (some r)] 85)).alloc (.cells (madeCells (Value.cells .nilIface) ks.length) 20)) (w.heap.size + 1) ks.length := by
    refine ⟨_, ?_, size_madeCells (Value.cells .nilIface) ks.length⟩
    have := heap_alloc_new (w.alloc (.cells #[.map (some r)] 85)) (.cells (madeCells (Value.cells .nilIface) ks.length) 20)
    rwa [World.size_alloc] at this
  have HI := Lib.hid ih
  have HK := Lib.hid hk
  have HR := Lib.hid hrg
  have HP := Lib.hid hps
  clear ih hk hrg hps hz20 hsz hby hze b1
  generalize madeCells (Value.cells .nilIface) ks.length = mc at *
  go_enter Tryz.func58, Tryz.ntmps58
  go_wp2_with fail
  go_loopw [13] (fun si wr => ∃ (j : Nat) (l' : List (Int × Nat)), si = .int .i64 j ∧ j ≤ ks.length ∧ Mp wr r l' ∧ Bx wr l' ∧ (∀ x ∈ l, x ∈ l') ∧ C1 wr w.heap.size 85 (.map (some r)) ∧ Rb wr (w.heap.size + 1) ks.length ∧ Below W0.heap.size W0 wr ∧ w.grownBy wr (some r)) (fun si _ => ks.length - (intOf si).toNat)
  case atStart => exact ⟨0, l, rfl, Nat.zero_le _, hm.below b2, hb.below b2, fun _ h => h, c2, r2, hb0.trans (b2.mono hb0.size), grown_below b2⟩
  case round =>
    obtain ⟨j, l', rfl, hj, m1, x1, s1, c1, r1, o1, g1⟩ := hrel
    by_cases hlt : j < ks.length
    · have hne : ks ≠ [] := by intro e; rw [e] at hlt; exact absurd hlt (Nat.not_lt_zero _)
      rcases HK.out with hk | ⟨g, o, hk1, hk2⟩
      · exact absurd hk hne
      subst hk1
      obtain ⟨v0, v1, v2, v3, v4, e0, e1, e2, e3, e4, rk⟩ := hk2 j _ (List.getElem?_eq_getElem hlt)
      have hg : g < W0.heap.size := World.block_lt_of_cell? W0 _ e0
      have y0 := (o1.cell (p := ⟨g, o + j * 5, none⟩) hg).trans e0
      have y1 := (o1.cell (p := ⟨g, o + j * 5 + 1, none⟩) hg).trans e1
      have y2 := (o1.cell (p := ⟨g, o + j * 5 + 2, none⟩) hg).trans e2
      have y3 := (o1.cell (p := ⟨g, o + j * 5 + 3, none⟩) hg).trans e3
      have y4 := (o1.cell (p := ⟨g, o + j * 5 + 4, none⟩) hg).trans e4
      clear e0 e1 e2 e3 e4 hk2 HK
      obtain ⟨u0, u1, u2, u3, a4, n4, c4', rfl, rfl, rfl, rfl, rfl⟩ := rep_shape rk
      have cc := c1.c
      have zc := c1.lt
      go_wp2_with fail
      have ba := below1 wr (.cells #[.int .i64 u0, .int .i64 u1, .int .u64 u2, .string u3, .slice a4 n4 c4'] 25)
      have hrt : rgt m ks[j] = true := List.all_eq_true.1 HR.out _ (List.getElem_mem hlt)
      refine (HI.out ks[j] _ _ _ _ _ l' _ hrt (HP.out _ (List.getElem_mem hlt)) rk (o1.trans (ba.mono o1.size)) (m1.below ba) (x1.below ba)).mono ?_
      rintro e w2 ⟨v, l2, rfl, vs, m2, x2, s2, g2⟩
      have hr2 : w.heap.size + 1 ≠ r := by omega
      have hr3 : w.heap.size ≠ r := by omega
      have k2 := (r1.below ba).kept g2 hr2
      have q2 := (c1.below ba).kept g2 hr3
      obtain ⟨x, kc⟩ := k2.c hlt
      have kf := k2.f (o := j)
      have G2 := grown_trans g1 (grown_trans (grown_below (row := some r) ba) g2)
      have o2 : Below W0.heap.size W0 w2 := (o1.trans (ba.mono o1.size)).grown g2 (Nat.le_trans o1.size ba.size) (fun k hk => by have := Option.some.inj hk; omega)
      clear y0 y1 y2 y3 y4 rk ba g2 cc
      rcases vs_any vs with rfl | ⟨T, z, rfl⟩
      · clear vs
        go_wp2_with fail
        refine ⟨⟨j + 1, l2, by go_num, by omega, m2.set _ _ (by show r ≠ w.heap.size + 1; omega), x2.set _ _ _, fun x hx => s2 x (s1 x hx), q2.set _ _ (by show w.heap.size ≠ w.heap.size + 1; omega), k2.set _, o2.setCell (by show W0.heap.size ≤ w.heap.size + 1; omega) _, ?_⟩, by simp [intOf]; omega⟩
        exact grown_setNew G2 (Nat.le_succ _) _
      · clear vs
        go_wp2_with fail
        refine ⟨⟨j + 1, l2, by go_num, by omega, m2.set _ _ (by show r ≠ w.heap.size + 1; omega), x2.set _ _ _, fun x hx => s2 x (s1 x hx), q2.set _ _ (by show w.heap.size ≠ w.heap.size + 1; omega), k2.set _, o2.setCell (by show W0.heap.size ≤ w.heap.size + 1; omega) _, ?_⟩, by simp [intOf]; omega⟩
        exact grown_setNew G2 (Nat.le_succ _) _
    · have hje : j = ks.length := by omega
      subst hje
      go_wp2_with fail
      go_ret
      exact ⟨_, l', rfl, m1, x1, s1, g1⟩

set_option maxRecDepth 100000 in
set_option maxHeartbeats 2000000 in
theorem place_sh (W0 : World) (r : Nat) (m : Nat) (ks : List (Tr m))
    (ih : ∀ (t : Tr m) (v0 v1 v2 v3 v4 : Value) (l : List (Int × Nat)) (w : World), rgt m t = true → (pts m t).1 ≤ 4096 → Rep W0 m [v0, v1, v2, v3, v4] t → Below W0.heap.size W0 w → Mp w r l → Bx w l →
      Calls Tryz.prog 48 #[.agg #[.map (some r)], .agg #[v0, v1, v2, v3, v4]] w fun e w' => ∃ v l', e = .returned v ∧ VS l' m v t ∧ ShT w w' r l l')
    (ad : Option Addr) (cap : Nat) (l : List (Int × Nat)) (w : World) (hr : W0.heap.size ≤ r) (hb0 : Below W0.heap.size W0 w) (hm : Mp w r l) (hb : Bx w l) (hrg : ks.all (rgt m) = true) (hps : ∀ t ∈ ks, (pts m t).1 ≤ 4096)
    (hk : ks = [] ∨ ∃ g o, ad = some ⟨g, o, none⟩ ∧ ∀ (j : Nat) (t' : Tr m), ks[j]? = some t' → ∃ v0 v1 v2 v3 v4, W0.cell? ⟨g, o + j * 5, none⟩ = some v0 ∧ W0.cell? ⟨g, o + j * 5 + 1, none⟩ = some v1 ∧ W0.cell? ⟨g, o + j * 5 + 2, none⟩ = some v2 ∧ W0.cell? ⟨g, o + j * 5 + 3, none⟩ = some v3 ∧ W0.cell? ⟨g, o + j * 5 + 4, none⟩ = some v4 ∧ Rep W0 m [v0, v1, v2, v3, v4] t')
    (j : Nat) (hlt : j < ks.length) :
    Calls Tryz.prog 59 #[.agg #[.map (some r)], .slice ad ks.length cap, .int .i64 j] w fun e w' => ∃ v l', e = .returned v ∧ VS l' m v ks[j] ∧ ShT w w' r l l' := by
  have hne : ks ≠ [] := by intro e; rw [e] at hlt; exact absurd hlt (Nat.not_lt_zero _)
  rcases hk with hk | ⟨g, o, hk1, hk2⟩
  · exact absurd hk hne
  subst hk1
  obtain ⟨v0, v1, v2, v3, v4, e0, e1, e2, e3, e4, rk⟩ := hk2 j _ (List.getElem?_eq_getElem hlt)
  have b1 := below1 w (.cells #[.map (some r)] 85)
  have o1 : Below W0.heap.size W0 (w.alloc (.cells #[.map (some r)] 85)) := hb0.trans (b1.mono hb0.size)
  have hg : g < W0.heap.size := World.block_lt_of_cell? W0 _ e0
  have y0 := (o1.cell (p := ⟨g, o + j * 5, none⟩) hg).trans e0
  have y1 := (o1.cell (p := ⟨g, o + j * 5 + 1, none⟩) hg).trans e1
  have y2 := (o1.cell (p := ⟨g, o + j * 5 + 2, none⟩) hg).trans e2
  have y3 := (o1.cell (p := ⟨g, o + j * 5 + 3, none⟩) hg).trans e3
  have y4 := (o1.cell (p := ⟨g, o + j * 5 + 4, none⟩) hg).trans e4
  clear hk2
  obtain ⟨u0, u1, u2, u3, a4, n4, c4', rfl, rfl, rfl, rfl, rfl⟩ := rep_shape rk
  have hrt : rgt m ks[j] = true := List.all_eq_true.1 hrg _ (List.getElem_mem hlt)
  have bd := b1.drew
  have hrl := hm.lt
  have hb0s := hb0.size
  have HS : Hid (∀ w' : World, Below W0.heap.size W0 w' → w'.cell? ⟨w.heap.size, 0, none⟩ = some (.map (some r)) → w'.cell? ⟨w.heap.size, 0, none⟩ = some (.map (some r)) ∧ w'.cell? ⟨g, o + j * 5, none⟩ = some (.int .i64 u0) ∧ w'.cell? ⟨g, o + j * 5 + 1, none⟩ = some (.int .i64 u1) ∧ w'.cell? ⟨g, o + j * 5 + 2, none⟩ = some (.int .u64 u2) ∧ w'.cell? ⟨g, o + j * 5 + 3, none⟩ = some (.string u3) ∧ w'.cell? ⟨g, o + j * 5 + 4, none⟩ = some (.slice a4 n4 c4')) := fun w' h hc =>
    ⟨hc, (h.cell (p := ⟨g, o + j * 5, none⟩) hg).trans e0, (h.cell (p := ⟨g, o + j * 5 + 1, none⟩) hg).trans e1, (h.cell (p := ⟨g, o + j * 5 + 2, none⟩) hg).trans e2, (h.cell (p := ⟨g, o + j * 5 + 3, none⟩) hg).trans e3, (h.cell (p := ⟨g, o + j * 5 + 4, none⟩) hg).trans e4⟩
  have HI : Hid (Calls Tryz.prog 48 #[.agg #[.map (some r)], .agg #[.int .i64 u0, .int .i64 u1, .int .u64 u2, .string u3, .slice a4 n4 c4']] (w.alloc (.cells #[.map (some r)] 85)).drew fun e w' => ∃ v l', e = .returned v ∧ VS l' m v ks[j] ∧ ShT w w' r l l' ∧ Below W0.heap.size W0 w' ∧ w'.cell? ⟨w.heap.size, 0, none⟩ = some (.map (some r))) :=
    (ih ks[j] _ _ _ _ _ l _ hrt (hps _ (List.getElem_mem hlt)) rk o1.drew (hm.below bd) (hb.below bd)).mono fun e w' ⟨v, l', he, vs, m2, x2, s2, g2⟩ =>
      ⟨v, l', he, vs, ⟨m2, x2, s2, grown_trans (grown_below (row := some r) bd) g2⟩, o1.drew.grown g2 (by have := o1.size; exact this) (fun k hk => by have := Option.some.inj hk; omega), ((show C1 (w.alloc (.cells #[.map (some r)] 85)).drew w.heap.size 85 (.map (some r)) from C1.new w 85 _).kept g2 (by omega)).c⟩
  clear e0 e1 e2 e3 e4
  have hje : ¬ ((ks.length : Int) ≤ (j : Int)) := by omega
  clear ih rk hrg hps hrt
  go_enter Tryz.func59, Tryz.ntmps59
  go_wp2_with fail
  go_region_held3 (fun w' => w'.cell? ⟨w.heap.size, 0, none⟩ = some (.map (some r)) ∧ w'.cell? ⟨g, o + j * 5, none⟩ = some (.int .i64 u0) ∧ w'.cell? ⟨g, o + j * 5 + 1, none⟩ = some (.int .i64 u1) ∧ w'.cell? ⟨g, o + j * 5 + 2, none⟩ = some (.int .u64 u2) ∧ w'.cell? ⟨g, o + j * 5 + 3, none⟩ = some (.string u3) ∧ w'.cell? ⟨g, o + j * 5 + 4, none⟩ = some (.slice a4 n4 c4')) (first | exact HS.out _ (by assumption) (by assumption) | go_keep) ((go_at_call 48; refine HI.out.mono ?_; rintro e w2 ⟨v, l2, rfl, vs, sh2, ow2, cw2⟩))
  all_goals go_wp2_with fail
  all_goals go_ret
  all_goals exact ⟨_, l2, rfl, vs, sh2⟩
end Go.Proofs.YtgijdiplhcoojaaGreatDoor.Dt
