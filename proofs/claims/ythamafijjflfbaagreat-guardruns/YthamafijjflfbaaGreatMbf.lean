/- The map of boxes that the package makes: a look-up, a store, and what its pointer answers; the conditions: the map and its boxes in memory. -/
import Derived.Test.YthamafijjflfbaaGreatMbe
import Derived.MapKept
import Derived.Deep.RegionHeld3
import Derived.Test.YthamafijjflfbaaGreatMaf
import Derived.Laws.MakeOwn
import Derived.Test.YthamafijjflfbaaGreatMae
import Derived.Laws.IdiomStrings
namespace Go.Proofs.YthamafijjflfbaaGreat.Dt
open Go.RowKit

/-- The map of boxes. -/
def Mp (w : World) (r : Nat) (l : List (Int × Nat)) : Prop :=
  ∃ (es : Array MapEntry) (ck : Nat), w.heap[r]? = some (.map es ck) ∧ es.toList.map (fun e => (e.key, e.val)) = l.map fun x => (Value.int .i64 x.1, Value.pointer (some ⟨x.2, 0, none⟩))
def lk (l : List (Int × Nat)) (i : Int) : Option Nat := (l.find? fun x => x.1 == i).map (·.2)

theorem findNow_lk (i : Int) : ∀ (es : List MapEntry) (l : List (Int × Nat)) (k : Nat), es.map (fun e => (e.key, e.val)) = l.map (fun x => (Value.int .i64 x.1, Value.pointer (some ⟨x.2, 0, none⟩))) →
    ∃ r, Instr.findNow (.int .i64) (.int .i64 i) es k = some r ∧ r.map (·.2) = (lk l i).map fun b => Value.pointer (some ⟨b, 0, none⟩)
  | [], [], _, _ => ⟨none, rfl, rfl⟩
  | [], _ :: _, _, h => by simp at h
  | _ :: _, [], _, h => by simp at h
  | e :: es, (j, b) :: l, k, h => by
    simp only [List.map_cons, List.cons.injEq, Prod.mk.injEq] at h
    obtain ⟨⟨h1, h2⟩, h3⟩ := h
    by_cases hij : i = j
    · subst hij
      exact ⟨some (k, e.val), by simp [Instr.findNow, Instr.sameNow, h1], by simp [lk, h2]⟩
    · obtain ⟨r, hr, hr'⟩ := findNow_lk i es l (k + 1) h3
      refine ⟨r, by simp [Instr.findNow, Instr.sameNow, h1, show (i == j) = false by simpa using hij, hr], ?_⟩
      rw [hr']
      have : ((j : Int) == i) = false := by simpa using fun e => hij e.symm
      simp [lk, this]

theorem look_mp (w : World) (r : Nat) (l : List (Int × Nat)) (h : Mp w r l) (i : Int) :
    (Instr.lookup 105 (.map (some r)) (.int .i64 i) false).run Tryz.prog w = .ok (.pointer ((lk l i).map fun b => ⟨b, 0, none⟩)) w := by
  obtain ⟨es, ck, hb, he⟩ := h
  obtain ⟨q, h1, h2⟩ := findNow_lk i es.toList l 0 he
  have hu : Tryz.prog.underlying 105 = some (.map 2 141) := by kernel_rfl
  have hk : Tryz.prog.underlying 2 = some (.int .i64) := by kernel_rfl
  have hz : ∀ w, (zeroValue 141).run Tryz.prog w = .ok (.pointer none) w := fun _ => by kernel_rfl
  have hc : ∀ b w, (Instr.checkKey b 10000 2 (.int .i64 i)).run Tryz.prog w = .ok () w := fun _ _ => by kernel_rfl
  have hg : (getObj r).run Tryz.prog w = .ok (.map es ck) w := by simp [getObj, Sem.run, hb]
  simp only [Instr.lookup, Sem.run_bind, run_underlying hu, Result.andThen_ok, hg, Sem.run_pure, hc, Instr.findKey, run_underlying hk, h1]
  cases q with
  | none =>
    have : lk l i = none := by simpa using h2.symm
    simp [this, hz]
  | some x =>
    obtain ⟨k, v⟩ := x
    cases hl : lk l i with
    | none => rw [hl] at h2; simp at h2
    | some b => rw [hl] at h2; simp at h2; simp [h2]

theorem upd_mp (w : World) (r : Nat) (l : List (Int × Nat)) (h : Mp w r l) (i : Int) (b : Nat) (hn : lk l i = none) :
    ∃ w', (Instr.mapUpdate 105 (.map (some r)) (.int .i64 i) (.pointer (some ⟨b, 0, none⟩))).run Tryz.prog w = .ok () w' ∧ Mp w' r (l ++ [(i, b)]) ∧ w.grownBy w' (some r) := by
  obtain ⟨es, ck, hb, he⟩ := h
  obtain ⟨q, h1, h2⟩ := findNow_lk i es.toList l 0 he
  have hu : Tryz.prog.underlying 105 = some (.map 2 141) := by kernel_rfl
  have hk : Tryz.prog.underlying 2 = some (.int .i64) := by kernel_rfl
  have hc : ∀ b w, (Instr.checkKey b 10000 2 (.int .i64 i)).run Tryz.prog w = .ok () w := fun _ _ => by kernel_rfl
  have hq : q = none := by
    rw [hn] at h2
    cases q with
    | none => rfl
    | some x => simp at h2
  subst hq
  have hg : (getObj r).run Tryz.prog w = .ok (.map es ck) w := by simp [getObj, Sem.run, hb]
  have hs : ∀ o, (setObj r o).run Tryz.prog w = .ok () { w with heap := w.heap.setIfInBounds r o } := fun o => by simp [setObj, Sem.run, hb]
  simp only [Instr.mapUpdate, Sem.run_bind, run_underlying hu, Result.andThen_ok, hg, Sem.run_pure, hc, Instr.findKey, run_underlying hk, h1]
  refine ⟨_, hs _, ?_, ?_⟩
  · refine ⟨es.push ⟨.int .i64 i, .pointer (some ⟨b, 0, none⟩), ck⟩, ck + 1, ?_, ?_⟩
    · have hlt : r < w.heap.size := (Array.getElem?_eq_some_iff.1 hb).1
      simp [hlt]
    · simp [he]
  · refine ⟨rfl, rfl, rfl, by simp, fun k hk hne => ?_⟩
    have : r ≠ k := fun e => hne (by rw [e])
    simp [this]

theorem Mp.lt {w : World} {r : Nat} {l : List (Int × Nat)} (h : Mp w r l) : r < w.heap.size := by
  obtain ⟨es, ck, hb, -⟩ := h; exact (Array.getElem?_eq_some_iff.1 hb).1
theorem Mp.below {w w' : World} {r : Nat} {l : List (Int × Nat)} (h : Mp w r l) (hb : Below w.heap.size w w') : Mp w' r l := by
  have := h.lt
  obtain ⟨es, ck, h1, h2⟩ := h
  exact ⟨es, ck, (hb.block r this).trans h1, h2⟩
theorem Bx.below {w w' : World} {l : List (Int × Nat)} (h : Bx w l) (hb : Below w.heap.size w w') : Bx w' l :=
  ⟨fun i b hm => by
    obtain ⟨cs, hc⟩ := h.1 i b hm
    exact ⟨cs, (hb.block b (Array.getElem?_eq_some_iff.1 hc).1).trans hc⟩, h.2⟩
theorem Bx.grown {w w' : World} {r : Nat} {l l' : List (Int × Nat)} (h : Bx w l) (hm : Mp w r l') (hg : w.grownBy w' (some r)) : Bx w' l := by
  refine ⟨fun i b hm' => ?_, h.2⟩
  obtain ⟨cs, hc⟩ := h.1 i b hm'
  refine ⟨cs, (hg.block b (Array.getElem?_eq_some_iff.1 hc).1 (fun e => ?_)).trans hc⟩
  obtain ⟨es, ck, h1, -⟩ := hm
  rw [Option.some.inj e, h1] at hc
  cases hc
theorem lk_mem {l : List (Int × Nat)} {i : Int} {b : Nat} (h : lk l i = some b) : (i, b) ∈ l := by
  unfold lk at h
  cases hf : l.find? (fun x => x.1 == i) with
  | none => rw [hf] at h; cases h
  | some x =>
    rw [hf] at h
    have h1 := List.mem_of_find?_eq_some hf
    have h2 := List.find?_some hf
    have : x.1 = i := by simpa using h2
    have h3 : x.2 = b := by simpa using h
    rw [← this, ← h3]; exact h1
theorem lk_none {l : List (Int × Nat)} {i : Int} (h : lk l i = none) (b : Nat) : (i, b) ∉ l := by
  intro hm
  unfold lk at h
  have : l.find? (fun x => x.1 == i) = none := by simpa using h
  have := List.find?_eq_none.1 this (i, b) hm
  simp at this
theorem below1 (w : World) (o : Obj) : Below w.heap.size w (w.alloc o) := (Below.refl _ w).alloc (Nat.le_refl _) _
theorem Bx.push {w w' : World} {l : List (Int × Nat)} {i : Int} (h : Bx w l) (hb : Below w.heap.size w w') (cs : Array Value) (hc : w'.heap[w.heap.size]? = some (.cells cs 177 (0, 0))) (hn : lk l i = none) : Bx w' (l ++ [(i, w.heap.size)]) := by
  have h' := h.below hb
  have fresh : ∀ j b, (j, b) ∈ l → b < w.heap.size := fun j b hm => by
    obtain ⟨cs, hc⟩ := h.1 j b hm; exact (Array.getElem?_eq_some_iff.1 hc).1
  refine ⟨fun j b hm => ?_, fun j b k c h1 h2 => ?_⟩
  · rcases List.mem_append.1 hm with hm | hm
    · exact h'.1 j b hm
    · simp at hm; obtain ⟨rfl, rfl⟩ := hm; exact ⟨cs, hc⟩
  · rcases List.mem_append.1 h1 with g1 | g1
    · rcases List.mem_append.1 h2 with g2 | g2
      · exact h.2 j b k c g1 g2
      · simp at g2
        obtain ⟨e1, e2⟩ := g2
        have := fresh j b g1
        constructor
        · intro e; rw [e, e1] at g1; exact absurd g1 (lk_none hn b)
        · intro e; omega
    · simp at g1
      obtain ⟨e1, e2⟩ := g1
      rcases List.mem_append.1 h2 with g2 | g2
      · have := fresh k c g2
        constructor
        · intro e; rw [← e, e1] at g2; exact absurd g2 (lk_none hn c)
        · intro e; omega
      · simp at g2
        obtain ⟨e3, e4⟩ := g2
        constructor
        · intro _; omega
        · intro _; omega

set_option maxRecDepth 100000 in
set_option maxHeartbeats 1000000 in
theorem pointer_sh (r : Nat) (l : List (Int × Nat)) (k i u : Int) (s : ByteArray) (ad : Option Addr) (len cap : Nat) (w : World) (hm : Mp w r l) (hb : Bx w l) :
    Calls Tryz.prog 83 #[.agg #[.map (some r)], .agg #[.int .i64 k, .int .i64 i, .int .u64 u, .string s, .slice ad len cap]] w fun e w' =>
      ∃ b l', e = .returned (.pointer (some ⟨b, 0, none⟩)) ∧ (i, b) ∈ l' ∧ Mp w' r l' ∧ Bx w' l' ∧ (∀ x ∈ l, x ∈ l') ∧ w.grownBy w' (some r) := by
  have hen : ∀ w, (binOp .eql 105 (.map (some r)) (.map none)).run Tryz.prog w = .ok (.bool false) w := fun _ => by kernel_rfl
  have b2 : Below w.heap.size w ((w.alloc (.cells #[.map (some r)] 107)).alloc (.cells #[.int .i64 k, .int .i64 i, .int .u64 u, .string s, .slice ad len cap] 25)) := ((Below.refl _ w).alloc (Nat.le_refl _) _).alloc (by simp) _
  cases hl : lk l i with
  | some b =>
    have hlook := look_mp _ r l (hm.below b2) i
    rw [hl] at hlook
    go_enter Tryz.func83, Tryz.ntmps83
    go_wp2
    go_ret
    exact ⟨b, l, rfl, lk_mem hl, hm.below b2, hb.below b2, fun _ h => h, grown_below b2⟩
  | none =>
    have hlook := look_mp _ r l (hm.below b2) i
    rw [hl] at hlook
    have b3 := b2.alloc (by simp; omega) (.cells #[.int .i64 i, .nilIface] 177)
    obtain ⟨w', hu, hm', hg⟩ := upd_mp _ r l (hm.below b3) i (w.heap.size + 1 + 1) hl
    have hB : Bx w' (l ++ [(i, w.heap.size + 1 + 1)]) := by
      have h2 := hb.below b2
      have := Bx.push (i := i) h2 (below1 _ (.cells #[.int .i64 i, .nilIface] 177)) #[.int .i64 i, .nilIface] (heap_alloc_new _ _) hl
      rw [World.size_alloc, World.size_alloc] at this
      exact this.grown (hm.below b3) hg
    have hG : w.grownBy w' (some r) := grown_trans (grown_below b3) hg
    go_enter Tryz.func83, Tryz.ntmps83
    go_wp2
    go_ret
    exact ⟨_, _, rfl, by simp, hm', hB, fun x hx => by simp [hx], hG⟩
end Go.Proofs.YthamafijjflfbaaGreat.Dt
/- The package's row and place, with boxes by number, over a list's trees; the conditions: the trees in memory and valid, the map and its boxes in memory, and value's own contract for the parts. -/
namespace Go.Proofs.YthamafijjflfbaaGreat.Dt
open Go.RowKit
theorem grown_setNew {w0 w : World} {row : Option Nat} (h : w0.grownBy w row) {N o : Nat} (hN : w0.heap.size ≤ N) (u : Value) : w0.grownBy (w.setCell ⟨N, o, none⟩ u) row :=
  ⟨h.os, h.tape, h.output, by have := h.size; simp only [World.setCell, Array.size_modify]; exact this,
    fun k hk hn => (Below.heap_setCell w ⟨N, o, none⟩ u k (by show k ≠ N; omega)).trans (h.block k hk hn)⟩
def ShT (w w' : World) (r : Nat) (l l' : List (Int × Nat)) : Prop := Mp w' r l' ∧ Bx w' l' ∧ (∀ x ∈ l, x ∈ l') ∧ w.grownBy w' (some r)
theorem Mp.set {w : World} {r : Nat} {l : List (Int × Nat)} (h : Mp w r l) (a : Addr) (x : Value) (hne : r ≠ a.block) : Mp (w.setCell a x) r l := by
  obtain ⟨es, ck, h1, h2⟩ := h; exact ⟨es, ck, (Below.heap_setCell w a x r hne).trans h1, h2⟩
theorem Bx.set {w : World} {l : List (Int × Nat)} (h : Bx w l) (N o : Nat) (x : Value) : Bx (w.setCell ⟨N, o, none⟩ x) l := by
  refine ⟨fun i b hm => ?_, h.2⟩
  obtain ⟨cs, hc⟩ := h.1 i b hm
  by_cases e : b = N
  · subst e; exact ⟨cs.setIfInBounds o x, by simp [World.setCell, Array.getElem?_modify, hc]⟩
  · exact ⟨cs, (Below.heap_setCell w ⟨N, o, none⟩ x b e).trans hc⟩

theorem vs_any {l : List (Int × Nat)} {n : Nat} {v : Value} {t : Tr n} (h : VS l n v t) : v = .nilIface ∨ ∃ T z, v = .iface T z := by
  match n, t, h with
  | n + 1, t, h =>
    rcases vs_ty h with ⟨-, e⟩ | ⟨-, -, z, e⟩
    · exact .inl e
    · exact .inr ⟨_, z, e⟩
set_option maxRecDepth 100000 in
set_option maxHeartbeats 2000000 in
theorem row_sh (W0 : World) (r : Nat) (hr : W0.heap.size ≤ r) (m : Nat) (ks : List (Tr m))
    (ih : ∀ (t : Tr m) (v0 v1 v2 v3 v4 : Value) (l : List (Int × Nat)) (w : World), rgt m t = true → (pts m t).1 ≤ 4096 → Rep W0 m [v0, v1, v2, v3, v4] t → Below W0.heap.size W0 w → Mp w r l → Bx w l →
      Calls Tryz.prog 63 #[.agg #[.map (some r)], .agg #[v0, v1, v2, v3, v4]] w fun e w' => ∃ v l', e = .returned v ∧ VS l' m v t ∧ ShT w w' r l l')
    (ad : Option Addr) (cap : Nat) (l : List (Int × Nat)) (w : World) (hb0 : Below W0.heap.size W0 w) (hm : Mp w r l) (hb : Bx w l) (hn : ks.length ≤ 4096) (hrg : ks.all (rgt m) = true) (hps : ∀ t ∈ ks, (pts m t).1 ≤ 4096)
    (hk : ks = [] ∨ ∃ g o, ad = some ⟨g, o, none⟩ ∧ ∀ (j : Nat) (t' : Tr m), ks[j]? = some t' → ∃ v0 v1 v2 v3 v4, W0.cell? ⟨g, o + j * 5, none⟩ = some v0 ∧ W0.cell? ⟨g, o + j * 5 + 1, none⟩ = some v1 ∧ W0.cell? ⟨g, o + j * 5 + 2, none⟩ = some v2 ∧ W0.cell? ⟨g, o + j * 5 + 3, none⟩ = some v3 ∧ W0.cell? ⟨g, o + j * 5 + 4, none⟩ = some v4 ∧ Rep W0 m [v0, v1, v2, v3, v4] t') :
    Calls Tryz.prog 81 #[.agg #[.map (some r)], .slice ad ks.length cap] w fun e w' => ∃ v l', e = .returned v ∧ ShT w w' r l l' := by
  have hz20 : Tryz.prog.info? 20 = some Tryz.t20 := by kernel_rfl
  have hsz : Tryz.t20.size = 1 := by kernel_rfl
  have hby : Tryz.t20.bytes = 16 := by kernel_rfl
  have hze : Tryz.t20.zero = some .nilIface := by kernel_rfl
  have hmk : ∀ w : World, (Instr.makeSlice 137 (.int .i64 ks.length) (.int .i64 ks.length)).run Tryz.prog w = .ok (.slice (some ⟨w.heap.size, 0, none⟩) ks.length ks.length) (w.alloc (.cells (madeCells (Value.cells .nilIface) ks.length) 20)) := fun w => by
    have := run_makeSlice (P := Tryz.prog) w 137 20 Tryz.t20 .nilIface Tryz.underlying137 hz20 hze .i64 .i64 ks.length ks.length (by omega) (Int.le_refl _) (by rw [hsz]; simp; omega) (by rw [hby]; omega) (by omega)
    simpa [hsz] using this
  have hrl := hm.lt
  have hb0s := hb0.size
  have b1 := below1 w (.cells #[.map (some r)] 107)
  have b2 : Below w.heap.size w ((w.alloc (.cells #[.map (some r)] 107)).alloc (.cells (madeCells (Value.cells .nilIface) ks.length) 20)) := b1.alloc (by simp) _
  have c2 := (C1.new w 107 (.map (some r))).below (below1 _ (.cells (madeCells (Value.cells .nilIface) ks.length) 20))
  have r2 : Rb ((w.alloc (.cells #[.map (some r)] 107)).alloc (.cells (madeCells (Value.cells .nilIface) ks.length) 20)) (w.heap.size + 1) ks.length := by
    refine ⟨_, ?_, size_madeCells (Value.cells .nilIface) ks.length⟩
    have := heap_alloc_new (w.alloc (.cells #[.map (some r)] 107)) (.cells (madeCells (Value.cells .nilIface) ks.length) 20)
    rwa [World.size_alloc] at this
  have HI := Lib.hid ih
  have HK := Lib.hid hk
  have HR := Lib.hid hrg
  have HP := Lib.hid hps
  clear ih hk hrg hps hz20 hsz hby hze b1
  generalize madeCells (Value.cells .nilIface) ks.length = mc at *
  go_enter Tryz.func81, Tryz.ntmps81
  go_wp2_with fail
  go_loopw [13] (fun si wr => ∃ (j : Nat) (l' : List (Int × Nat)), si = .int .i64 j ∧ j ≤ ks.length ∧ Mp wr r l' ∧ Bx wr l' ∧ (∀ x ∈ l, x ∈ l') ∧ C1 wr w.heap.size 107 (.map (some r)) ∧ Rb wr (w.heap.size + 1) ks.length ∧ Below W0.heap.size W0 wr ∧ w.grownBy wr (some r)) (fun si _ => ks.length - (intOf si).toNat)
  case atStart => exact ⟨0, l, rfl, Nat.zero_le _, hm.below b2, hb.below b2, fun _ h => h, c2, r2, hb0.trans (b2.mono hb0.size), grown_below b2⟩
  case round =>
    obtain ⟨j, l', rfl, hj, m1, x1, s1, c1, r1, o1, g1⟩ := hrel
    by_cases hlt : j < ks.length
    · have hne : ks ≠ [] := by intro e; rw [e] at hlt; exact absurd hlt (Nat.not_lt_zero _)
      rcases HK.out with hk | ⟨g, o, hk1, hk2⟩
      · exact absurd hk hne
      subst hk1
      obtain ⟨v0, v1, v2, v3, v4, e0, e1, e2, e3, e4, rk⟩ := hk2 j _ (List.getElem?_eq_getElem hlt)
      have hg : g < W0.heap.size := World.block_lt_of_cell? W0 _ e0
      have y0 := (o1.cell (p := ⟨g, o + j * 5, none⟩) hg).trans e0
      have y1 := (o1.cell (p := ⟨g, o + j * 5 + 1, none⟩) hg).trans e1
      have y2 := (o1.cell (p := ⟨g, o + j * 5 + 2, none⟩) hg).trans e2
      have y3 := (o1.cell (p := ⟨g, o + j * 5 + 3, none⟩) hg).trans e3
      have y4 := (o1.cell (p := ⟨g, o + j * 5 + 4, none⟩) hg).trans e4
      clear e0 e1 e2 e3 e4 hk2 HK
      obtain ⟨u0, u1, u2, u3, a4, n4, c4', rfl, rfl, rfl, rfl, rfl⟩ := rep_shape rk
      have cc := c1.c
      have zc := c1.lt
      go_wp2_with fail
      have ba := below1 wr (.cells #[.int .i64 u0, .int .i64 u1, .int .u64 u2, .string u3, .slice a4 n4 c4'] 25)
      have hrt : rgt m ks[j] = true := List.all_eq_true.1 HR.out _ (List.getElem_mem hlt)
      refine (HI.out ks[j] _ _ _ _ _ l' _ hrt (HP.out _ (List.getElem_mem hlt)) rk (o1.trans (ba.mono o1.size)) (m1.below ba) (x1.below ba)).mono ?_
      rintro e w2 ⟨v, l2, rfl, vs, m2, x2, s2, g2⟩
      have hr2 : w.heap.size + 1 ≠ r := by omega
      have hr3 : w.heap.size ≠ r := by omega
      have k2 := (r1.below ba).kept g2 hr2
      have q2 := (c1.below ba).kept g2 hr3
      obtain ⟨x, kc⟩ := k2.c hlt
      have kf := k2.f (o := j)
      have G2 := grown_trans g1 (grown_trans (grown_below (row := some r) ba) g2)
      have o2 : Below W0.heap.size W0 w2 := (o1.trans (ba.mono o1.size)).grown g2 (Nat.le_trans o1.size ba.size) (fun k hk => by have := Option.some.inj hk; omega)
      clear y0 y1 y2 y3 y4 rk ba g2 cc
      rcases vs_any vs with rfl | ⟨T, z, rfl⟩
      · clear vs
        go_wp2_with fail
        refine ⟨⟨j + 1, l2, by go_num, by omega, m2.set _ _ (by show r ≠ w.heap.size + 1; omega), x2.set _ _ _, fun x hx => s2 x (s1 x hx), q2.set _ _ (by show w.heap.size ≠ w.heap.size + 1; omega), k2.set _, o2.setCell (by show W0.heap.size ≤ w.heap.size + 1; omega) _, ?_⟩, by simp [intOf]; omega⟩
        exact grown_setNew G2 (Nat.le_succ _) _
      · clear vs
        go_wp2_with fail
        refine ⟨⟨j + 1, l2, by go_num, by omega, m2.set _ _ (by show r ≠ w.heap.size + 1; omega), x2.set _ _ _, fun x hx => s2 x (s1 x hx), q2.set _ _ (by show w.heap.size ≠ w.heap.size + 1; omega), k2.set _, o2.setCell (by show W0.heap.size ≤ w.heap.size + 1; omega) _, ?_⟩, by simp [intOf]; omega⟩
        exact grown_setNew G2 (Nat.le_succ _) _
    · have hje : j = ks.length := by omega
      subst hje
      go_wp2_with fail
      go_ret
      exact ⟨_, l', rfl, m1, x1, s1, g1⟩

set_option maxRecDepth 100000 in
set_option maxHeartbeats 2000000 in
theorem place_sh (W0 : World) (r : Nat) (m : Nat) (ks : List (Tr m))
    (ih : ∀ (t : Tr m) (v0 v1 v2 v3 v4 : Value) (l : List (Int × Nat)) (w : World), rgt m t = true → (pts m t).1 ≤ 4096 → Rep W0 m [v0, v1, v2, v3, v4] t → Below W0.heap.size W0 w → Mp w r l → Bx w l →
      Calls Tryz.prog 63 #[.agg #[.map (some r)], .agg #[v0, v1, v2, v3, v4]] w fun e w' => ∃ v l', e = .returned v ∧ VS l' m v t ∧ ShT w w' r l l')
    (ad : Option Addr) (cap : Nat) (l : List (Int × Nat)) (w : World) (hr : W0.heap.size ≤ r) (hb0 : Below W0.heap.size W0 w) (hm : Mp w r l) (hb : Bx w l) (hrg : ks.all (rgt m) = true) (hps : ∀ t ∈ ks, (pts m t).1 ≤ 4096)
    (hk : ks = [] ∨ ∃ g o, ad = some ⟨g, o, none⟩ ∧ ∀ (j : Nat) (t' : Tr m), ks[j]? = some t' → ∃ v0 v1 v2 v3 v4, W0.cell? ⟨g, o + j * 5, none⟩ = some v0 ∧ W0.cell? ⟨g, o + j * 5 + 1, none⟩ = some v1 ∧ W0.cell? ⟨g, o + j * 5 + 2, none⟩ = some v2 ∧ W0.cell? ⟨g, o + j * 5 + 3, none⟩ = some v3 ∧ W0.cell? ⟨g, o + j * 5 + 4, none⟩ = some v4 ∧ Rep W0 m [v0, v1, v2, v3, v4] t')
    (j : Nat) (hlt : j < ks.length) :
    Calls Tryz.prog 82 #[.agg #[.map (some r)], .slice ad ks.length cap, .int .i64 j] w fun e w' => ∃ v l', e = .returned v ∧ VS l' m v ks[j] ∧ ShT w w' r l l' := by
  have hne : ks ≠ [] := by intro e; rw [e] at hlt; exact absurd hlt (Nat.not_lt_zero _)
  rcases hk with hk | ⟨g, o, hk1, hk2⟩
  · exact absurd hk hne
  subst hk1
  obtain ⟨v0, v1, v2, v3, v4, e0, e1, e2, e3, e4, rk⟩ := hk2 j _ (List.getElem?_eq_getElem hlt)
  have b1 := below1 w (.cells #[.map (some r)] 107)
  have o1 : Below W0.heap.size W0 (w.alloc (.cells #[.map (some r)] 107)) := hb0.trans (b1.mono hb0.size)
  have hg : g < W0.heap.size := World.block_lt_of_cell? W0 _ e0
  have y0 := (o1.cell (p := ⟨g, o + j * 5, none⟩) hg).trans e0
  have y1 := (o1.cell (p := ⟨g, o + j * 5 + 1, none⟩) hg).trans e1
  have y2 := (o1.cell (p := ⟨g, o + j * 5 + 2, none⟩) hg).trans e2
  have y3 := (o1.cell (p := ⟨g, o + j * 5 + 3, none⟩) hg).trans e3
  have y4 := (o1.cell (p := ⟨g, o + j * 5 + 4, none⟩) hg).trans e4
  clear hk2
  obtain ⟨u0, u1, u2, u3, a4, n4, c4', rfl, rfl, rfl, rfl, rfl⟩ := rep_shape rk
  have hrt : rgt m ks[j] = true := List.all_eq_true.1 hrg _ (List.getElem_mem hlt)
  have bd := b1.drew
  have hrl := hm.lt
  have hb0s := hb0.size
  have HS : Hid (∀ w' : World, Below W0.heap.size W0 w' → w'.cell? ⟨w.heap.size, 0, none⟩ = some (.map (some r)) → w'.cell? ⟨w.heap.size, 0, none⟩ = some (.map (some r)) ∧ w'.cell? ⟨g, o + j * 5, none⟩ = some (.int .i64 u0) ∧ w'.cell? ⟨g, o + j * 5 + 1, none⟩ = some (.int .i64 u1) ∧ w'.cell? ⟨g, o + j * 5 + 2, none⟩ = some (.int .u64 u2) ∧ w'.cell? ⟨g, o + j * 5 + 3, none⟩ = some (.string u3) ∧ w'.cell? ⟨g, o + j * 5 + 4, none⟩ = some (.slice a4 n4 c4')) := fun w' h hc =>
    ⟨hc, (h.cell (p := ⟨g, o + j * 5, none⟩) hg).trans e0, (h.cell (p := ⟨g, o + j * 5 + 1, none⟩) hg).trans e1, (h.cell (p := ⟨g, o + j * 5 + 2, none⟩) hg).trans e2, (h.cell (p := ⟨g, o + j * 5 + 3, none⟩) hg).trans e3, (h.cell (p := ⟨g, o + j * 5 + 4, none⟩) hg).trans e4⟩
  have HI : Hid (Calls Tryz.prog 63 #[.agg #[.map (some r)], .agg #[.int .i64 u0, .int .i64 u1, .int .u64 u2, .string u3, .slice a4 n4 c4']] (w.alloc (.cells #[.map (some r)] 107)).drew fun e w' => ∃ v l', e = .returned v ∧ VS l' m v ks[j] ∧ ShT w w' r l l' ∧ Below W0.heap.size W0 w' ∧ w'.cell? ⟨w.heap.size, 0, none⟩ = some (.map (some r))) :=
    (ih ks[j] _ _ _ _ _ l _ hrt (hps _ (List.getElem_mem hlt)) rk o1.drew (hm.below bd) (hb.below bd)).mono fun e w' ⟨v, l', he, vs, m2, x2, s2, g2⟩ =>
      ⟨v, l', he, vs, ⟨m2, x2, s2, grown_trans (grown_below (row := some r) bd) g2⟩, o1.drew.grown g2 (by have := o1.size; exact this) (fun k hk => by have := Option.some.inj hk; omega), ((show C1 (w.alloc (.cells #[.map (some r)] 107)).drew w.heap.size 107 (.map (some r)) from C1.new w 107 _).kept g2 (by omega)).c⟩
  clear e0 e1 e2 e3 e4
  have hje : ¬ ((ks.length : Int) ≤ (j : Int)) := by omega
  clear ih rk hrg hps hrt
  go_enter Tryz.func82, Tryz.ntmps82
  go_wp2_with fail
  go_region_held3 (fun w' => w'.cell? ⟨w.heap.size, 0, none⟩ = some (.map (some r)) ∧ w'.cell? ⟨g, o + j * 5, none⟩ = some (.int .i64 u0) ∧ w'.cell? ⟨g, o + j * 5 + 1, none⟩ = some (.int .i64 u1) ∧ w'.cell? ⟨g, o + j * 5 + 2, none⟩ = some (.int .u64 u2) ∧ w'.cell? ⟨g, o + j * 5 + 3, none⟩ = some (.string u3) ∧ w'.cell? ⟨g, o + j * 5 + 4, none⟩ = some (.slice a4 n4 c4')) (first | exact HS.out _ (by assumption) (by assumption) | go_keep) ((go_at_call 63; refine HI.out.mono ?_; rintro e w2 ⟨v, l2, rfl, vs, sh2, ow2, cw2⟩))
  all_goals go_wp2_with fail
  all_goals go_ret
  all_goals exact ⟨_, l2, rfl, vs, sh2⟩
end Go.Proofs.YthamafijjflfbaaGreat.Dt
/- The package's value, with boxes by number, of a valid value's tree: what == is then asked of; the conditions: the tree in memory and valid, of 4096 parts at most, the map and its boxes in memory. -/
namespace Go.Proofs.YthamafijjflfbaaGreat.Dt
open Go.RowKit
set_option maxRecDepth 100000 in
set_option maxHeartbeats 1000000 in
theorem shLeaf7 (r : Option Nat) (i u : Int) (s : ByteArray) (ad : Option Addr) (len cap : Nat) (w : World) :
    Calls Tryz.prog 63 #[.agg #[.map r], .agg #[.int .i64 7, .int .i64 i, .int .u64 u, .string s, .slice ad len cap]] w fun e w' => ∃ x, e = .returned (.iface 135 x) ∧ Below w.heap.size w w' := by
  have hcv : ∀ w : World, (convert 9 135 (.string s)).run Tryz.prog w = _ := fun w => run_bytes_of_string (P := Tryz.prog) w 9 135 5 s Tryz.underlying9 Tryz.underlying135 Tryz.underlying5
  go_enter Tryz.func63, Tryz.ntmps63
  go_wp2
  go_ret
  exact ⟨_, rfl, (((Below.refl _ w).alloc (Nat.le_refl _) _).alloc (by simp) _).drew.alloc (by simp [World.drew]; omega) _⟩

theorem vs_mono {l l' : List (Int × Nat)} (h : ∀ x ∈ l, x ∈ l') : ∀ (n : Nat) (v : Value) (t : Tr n), VS l n v t → VS l' n v t
  | 0, _, _, hv => hv
  | n + 1, v, t, hv => by
    simp only [VS] at hv ⊢
    rcases hv with q | q | q | q | q | q | q | q | q | ⟨k, x, y, t0, t1, e1, e2, e3, e4⟩ | q | ⟨k, b, e1, e2⟩ | q | q
    case inr.inr.inr.inr.inr.inr.inr.inr.inr.inl => exact .inr (.inr (.inr (.inr (.inr (.inr (.inr (.inr (.inr (.inl ⟨k, x, y, t0, t1, e1, e2, vs_mono h n _ _ e3, vs_mono h n _ _ e4⟩)))))))))
    case inr.inr.inr.inr.inr.inr.inr.inr.inr.inr.inr.inl => exact .inr (.inr (.inr (.inr (.inr (.inr (.inr (.inr (.inr (.inr (.inr (.inl ⟨k, b, h _ e1, e2⟩)))))))))))
    all_goals simp only [q, true_or, or_true, true_and]
/-- What a call of place leaves as it is. -/
structure Kp (W0 w : World) (r : Nat) (l : List (Int × Nat)) (it ut : Int) (tx : ByteArray) (ad : Option Addr) (len cap : Nat) (l' : List (Int × Nat)) (w' : World) : Prop where
  m : Mp w' r l'
  x : Bx w' l'
  s : ∀ x ∈ l, x ∈ l'
  g : w.grownBy w' (some r)
  b : Below W0.heap.size W0 w'
  c : C1 w' w.heap.size 107 (.map (some r))
  d : D5 w' (w.heap.size + 1) (.int .i64 9) (.int .i64 it) (.int .u64 ut) (.string tx) (.slice ad len cap)
theorem Kp.drew {W0 w : World} {r : Nat} {l : List (Int × Nat)} {it ut : Int} {tx : ByteArray} {ad : Option Addr} {len cap : Nat} {l' : List (Int × Nat)} {w' : World} (h : Kp W0 w r l it ut tx ad len cap l' w') : Kp W0 w r l it ut tx ad len cap l' w'.drew :=
  have q : Below w'.heap.size w' w'.drew := Below.drew (Below.refl _ _)
  ⟨h.m.below q, h.x.below q, h.s, grown_trans h.g (grown_below q), h.b.drew, h.c.below q, h.d.below q⟩
theorem Kp.step {W0 w : World} {r : Nat} {l : List (Int × Nat)} {it ut : Int} {tx : ByteArray} {ad : Option Addr} {len cap : Nat} {l1 l2 : List (Int × Nat)} {w1 w2 : World} (h : Kp W0 w r l it ut tx ad len cap l1 w1) (hl : r < w.heap.size) (hr : W0.heap.size ≤ r) (hs : W0.heap.size ≤ w.heap.size) (sh : ShT w1 w2 r l1 l2) : Kp W0 w r l it ut tx ad len cap l2 w2 := by
  obtain ⟨a1, a2, a3, a4⟩ := sh
  exact ⟨a1, a2, fun x hx => a3 x (h.s x hx), grown_trans h.g a4, h.b.grown a4 (Nat.le_trans hs h.g.size) (fun k hk => by have := Option.some.inj hk; omega), h.c.kept a4 (by omega), h.d.kept a4 (by omega)⟩
/-- Nil, or a value in an interface. -/
def Sx (v : Value) : Prop := v = .nilIface ∨ ∃ T z, v = .iface T z
theorem vs_nil {l : List (Int × Nat)} {n : Nat} {v : Value} {t : Tr n} (h : VS l n v t) (k : nilT n t) : v = .nilIface := by
  match n, t, h, k with
  | n + 1, t, h, k =>
    rcases vs_ty h with ⟨-, e⟩ | ⟨h1, -⟩
    · exact e
    · simp only [nilT] at k; omega
theorem vs_val {l : List (Int × Nat)} {n : Nat} {v : Value} {t : Tr n} (h : VS l n v t) (k : ¬ nilT n t) : ∃ T z, v = .iface T z := by
  match n, t, h, k with
  | n + 1, t, h, k =>
    rcases vs_ty h with ⟨e, -⟩ | ⟨-, -, z, e⟩
    · exact absurd e k
    · exact ⟨_, z, e⟩
set_option maxRecDepth 100000 in
set_option maxHeartbeats 2000000 in
theorem value_sh (W0 : World) (r : Nat) (hr : W0.heap.size ≤ r) : ∀ (m : Nat) (t : Tr m) (v0 v1 v2 v3 v4 : Value) (l : List (Int × Nat)) (w : World), rgt m t = true → (pts m t).1 ≤ 4096 → Rep W0 m [v0, v1, v2, v3, v4] t → Below W0.heap.size W0 w → Mp w r l → Bx w l →
      Calls Tryz.prog 63 #[.agg #[.map (some r)], .agg #[v0, v1, v2, v3, v4]] w fun e w' => ∃ v l', e = .returned v ∧ VS l' m v t ∧ ShT w w' r l l' := by
  intro m
  induction m with
  | zero => intro t; exact t.elim
  | succ n ih =>
    intro t v0 v1 v2 v3 v4 l w hrg hps hrep hb0 hm hb
    obtain ⟨ad, cap, e, htx, hlen, hcap, hk⟩ := hrep
    simp only [List.cons.injEq, and_true] at e
    obtain ⟨rfl, rfl, rfl, rfl, rfl⟩ := e
    obtain ⟨hp1, hp2⟩ := pts_kids hps
    simp only [rgt, Bool.and_eq_true] at hrg
    obtain ⟨hok, hall⟩ := hrg
    have okp := ok_plain hok
    have fin : ∀ (v : Value) (e : Ending), VS l (n + 1) v t → ∀ w', e = .returned v ∧ Below w.heap.size w w' → ∃ v l', e = .returned v ∧ VS l' (n + 1) v t ∧ ShT w w' r l l' := fun v e hv w' hw =>
      ⟨v, l, hw.1, hv, hm.below hw.2, hb.below hw.2, fun _ h => h, grown_below hw.2⟩
    obtain h | h | h | h | h | h | h | h | h | h | h | h | h | h : t.kd = 0 ∨ t.kd = 1 ∨ t.kd = 2 ∨ t.kd = 3 ∨ t.kd = 4 ∨ t.kd = 5 ∨ t.kd = 6 ∨ t.kd = 7 ∨ t.kd = 8 ∨ t.kd = 9 ∨ t.kd = 10 ∨ t.kd = 11 ∨ t.kd = 12 ∨ t.kd = 13 := by omega
    · rw [h]
      exact (shLeaf0 (some r) t.it t.ut t.tx ad t.ks.length cap w).mono fun e w' hw => fin _ e (by simp [VS, h]) w' hw
    · rw [h]
      exact (shLeaf1 (some r) t.it t.ut t.tx ad t.ks.length cap w).mono fun e w' hw => fin _ e (by simp [VS, h]) w' hw
    · rw [h]
      exact (shLeaf2 (some r) t.it t.ut t.tx ad t.ks.length cap w).mono fun e w' hw => fin _ e (by simp [VS, h]) w' hw
    · rw [h]
      exact (shLeaf3 (some r) t.it t.ut t.tx ad t.ks.length cap w).mono fun e w' hw => fin _ e (by simp [VS, h]) w' hw
    · rw [h]
      exact (shLeaf4 (some r) t.it t.ut t.tx ad t.ks.length cap w).mono fun e w' hw => fin _ e (by simp [VS, h]) w' hw
    · rw [h]
      exact (shLeaf5 (some r) t.it t.ut t.tx ad t.ks.length cap w).mono fun e w' hw => fin _ e (by simp [VS, h]) w' hw
    · rw [h]
      exact (shLeaf6 (some r) t.it t.ut t.tx ad t.ks.length cap w).mono fun e w' hw => fin _ e (by simp [VS, h]) w' hw
    · rw [h]
      exact (shLeaf7 (some r) t.it t.ut t.tx ad t.ks.length cap w).mono fun e w' ⟨x, hw⟩ => fin (.iface 135 x) e (by simp [VS, h]) w' hw
    · rw [h]
      have b2 : Below w.heap.size w ((w.alloc (.cells #[.map (some r)] 107)).alloc (.cells #[.int .i64 8, .int .i64 t.it, .int .u64 t.ut, .string t.tx, .slice ad t.ks.length cap] 25)) := ((Below.refl _ w).alloc (Nat.le_refl _) _).alloc (by simp) _
      have HC := Lib.hid (row_sh W0 r hr n t.ks ih ad cap l _ (hb0.trans (b2.mono hb0.size)) (hm.below b2) (hb.below b2) hp1 hall hp2 hk)
      have HF : Hid (∀ (v : Value) (l' : List (Int × Nat)) (w' : World), ShT ((w.alloc (.cells #[.map (some r)] 107)).alloc (.cells #[.int .i64 8, .int .i64 t.it, .int .u64 t.ut, .string t.tx, .slice ad t.ks.length cap] 25)) w' r l l' → ∃ v' l'', Ending.returned (.iface 137 v) = .returned v' ∧ VS l'' (n + 1) v' t ∧ ShT w w' r l l'') := fun v l' w' ⟨a1, a2, a3, a4⟩ => ⟨_, l', rfl, by simp [VS, h], a1, a2, a3, grown_trans (grown_below b2) a4⟩
      clear ih hk hall hp2 fin okp hok hps h
      go_enter Tryz.func63, Tryz.ntmps63
      go_wp2_with fail
      refine HC.out.mono ?_
      rintro e w2 ⟨v, l2, rfl, sh⟩
      go_wp2
      go_ret
      exact HF.out v l2 _ sh
    · rw [h]
      have h2 : t.ks.length = 2 := okp.2.1 h
      have HN := Lib.hid (And.intro h h2)
      have HKP : Hid (∀ (j : Int) (q : Nat) (_ : j = q) (hq : q < t.ks.length) (l1 : List (Int × Nat)) (wx : World), Kp W0 w r l t.it t.ut t.tx ad t.ks.length cap l1 wx → Calls Tryz.prog 82 #[.agg #[.map (some r)], .slice ad t.ks.length cap, .int .i64 j] wx fun e w' => ∃ v l', e = .returned v ∧ Sx v ∧ Hid (VS l' n v t.ks[q]) ∧ Hid (∀ x ∈ l1, x ∈ l') ∧ Kp W0 w r l t.it t.ut t.tx ad t.ks.length cap l' w') := fun j q e hq l1 wx kx => by
        subst e
        exact (place_sh W0 r n t.ks ih ad cap l1 wx hr kx.b kx.m kx.x hall hp2 hk q hq).mono fun e w' ⟨v, l', he, vs, sh⟩ => ⟨v, l', he, vs_any vs, vs, sh.2.2.1, kx.step hm.lt hr hb0.size sh⟩
      clear ih hk hall hp2 fin okp hok hps h hp1
      have b2 : Below w.heap.size w ((w.alloc (.cells #[.map (some r)] 107)).alloc (.cells #[.int .i64 9, .int .i64 t.it, .int .u64 t.ut, .string t.tx, .slice ad t.ks.length cap] 25)) := ((Below.refl _ w).alloc (Nat.le_refl _) _).alloc (by simp) _
      have kp0 : Kp W0 w r l t.it t.ut t.tx ad t.ks.length cap l ((w.alloc (.cells #[.map (some r)] 107)).alloc (.cells #[.int .i64 9, .int .i64 t.it, .int .u64 t.ut, .string t.tx, .slice ad t.ks.length cap] 25)) := by
        refine ⟨hm.below b2, hb.below b2, fun _ h => h, grown_below b2, hb0.trans (b2.mono hb0.size), (C1.new w 107 _).below (below1 _ _), ?_⟩
        have := D5.new (w.alloc (.cells #[.map (some r)] 107)) (.int .i64 9) (.int .i64 t.it) (.int .u64 t.ut) (.string t.tx) (.slice ad t.ks.length cap)
        rwa [World.size_alloc] at this
      have KS : Hid (∀ (l' : List (Int × Nat)) (w' : World), Kp W0 w r l t.it t.ut t.tx ad t.ks.length cap l' w' → w'.cell? ⟨w.heap.size, 0, none⟩ = some (.map (some r)) ∧ w'.cell? ⟨w.heap.size + 1, 4, none⟩ = some (.slice ad t.ks.length cap)) := fun l' w' k => ⟨k.c.c, k.d.c.2.2.2.2⟩
      have HF : Hid (∀ (va vb : Value) (la lb : List (Int × Nat)) (w' : World) (h0 : 0 < t.ks.length) (h1 : 1 < t.ks.length), Hid (VS la n va t.ks[0]) → Hid (∀ x ∈ la, x ∈ lb) → Hid (VS lb n vb t.ks[1]) → Kp W0 w r l t.it t.ut t.tx ad t.ks.length cap lb w' → ∃ v' l'', Ending.returned (.iface 140 (.agg #[va, vb])) = .returned v' ∧ VS l'' (n + 1) v' t ∧ ShT w w' r l l'') := fun va vb la lb w' h0 h1 v1 mo v2 k => by
        obtain ⟨hkd, hl2⟩ := HN.out
        obtain ⟨t0, t1, e2⟩ := list_two hl2
        refine ⟨_, lb, rfl, ?_, k.m, k.x, k.s, k.g⟩
        have e0 : t.ks[0] = t0 := by simp [e2]
        have e1 : t.ks[1] = t1 := by simp [e2]
        have v1' := v1.out
        have v2' := v2.out
        rw [e0] at v1'
        rw [e1] at v2'
        simp only [VS, hkd]
        simp
        exact ⟨_, _, ⟨rfl, rfl⟩, t0, t1, e2, vs_mono mo.out n _ _ v1', v2'⟩
      have h01 : Hid (0 < t.ks.length ∧ 1 < t.ks.length) := ⟨by omega, by omega⟩
      clear hm hb hb0 htx hlen hcap b2 h2
      by_cases hA : nilT n (t.ks[0]'h01.out.1)
      · by_cases hB : nilT n (t.ks[1]'h01.out.2)
        · have KA : Hid (∀ (l1 : List (Int × Nat)) (wx : World), Kp W0 w r l t.it t.ut t.tx ad t.ks.length cap l1 wx → Calls Tryz.prog 82 #[.agg #[.map (some r)], .slice ad t.ks.length cap, .int .i64 0] wx fun e w' => ∃ l', e = .returned Value.nilIface ∧ Sx Value.nilIface ∧ Hid (VS l' n Value.nilIface (t.ks[0]'h01.out.1)) ∧ Hid (∀ x ∈ l1, x ∈ l') ∧ Kp W0 w r l t.it t.ut t.tx ad t.ks.length cap l' w') := fun l1 wx kx =>
            (HKP.out 0 0 rfl h01.out.1 l1 wx kx).mono fun e w' ⟨v, l', he, sx, vs, mo, k⟩ => by obtain rfl := vs_nil vs.out hA; exact ⟨l', he, sx, vs, mo, k⟩
          have KB : Hid (∀ (l1 : List (Int × Nat)) (wx : World), Kp W0 w r l t.it t.ut t.tx ad t.ks.length cap l1 wx → Calls Tryz.prog 82 #[.agg #[.map (some r)], .slice ad t.ks.length cap, .int .i64 1] wx fun e w' => ∃ l', e = .returned Value.nilIface ∧ Sx Value.nilIface ∧ Hid (VS l' n Value.nilIface (t.ks[1]'h01.out.2)) ∧ Hid (∀ x ∈ l1, x ∈ l') ∧ Kp W0 w r l t.it t.ut t.tx ad t.ks.length cap l' w') := fun l1 wx kx =>
            (HKP.out 1 1 rfl h01.out.2 l1 wx kx).mono fun e w' ⟨v, l', he, sx, vs, mo, k⟩ => by obtain rfl := vs_nil vs.out hB; exact ⟨l', he, sx, vs, mo, k⟩
          clear HKP hA hB
          go_enter Tryz.func63, Tryz.ntmps63
          go_wp2_with fail
          go_region_held3 (fun w' => w'.cell? ⟨w.heap.size, 0, none⟩ = some (.map (some r)) ∧ w'.cell? ⟨w.heap.size + 1, 4, none⟩ = some (.slice ad t.ks.length cap)) (exact KS.out _ _ (by first | assumption | exact Kp.drew (by assumption))) (first | (go_at_call 82; have hs0 := ‹Sx _›; refine (KB.out _ _ (by first | assumption | exact Kp.drew (by assumption))).mono ?_; rintro e wb ⟨lb, rfl, sb, VB, mb, kb⟩) | (go_at_call 82; refine (KA.out _ _ (by first | assumption | exact Kp.drew (by assumption))).mono ?_; rintro e wa ⟨la, rfl, sa, VA, ma, ka⟩))
          all_goals go_wp2
          all_goals go_ret
          all_goals exact HF.out .nilIface .nilIface la lb _ h01.out.1 h01.out.2 VA mb VB kb
        · have KA : Hid (∀ (l1 : List (Int × Nat)) (wx : World), Kp W0 w r l t.it t.ut t.tx ad t.ks.length cap l1 wx → Calls Tryz.prog 82 #[.agg #[.map (some r)], .slice ad t.ks.length cap, .int .i64 0] wx fun e w' => ∃ l', e = .returned Value.nilIface ∧ Sx Value.nilIface ∧ Hid (VS l' n Value.nilIface (t.ks[0]'h01.out.1)) ∧ Hid (∀ x ∈ l1, x ∈ l') ∧ Kp W0 w r l t.it t.ut t.tx ad t.ks.length cap l' w') := fun l1 wx kx =>
            (HKP.out 0 0 rfl h01.out.1 l1 wx kx).mono fun e w' ⟨v, l', he, sx, vs, mo, k⟩ => by obtain rfl := vs_nil vs.out hA; exact ⟨l', he, sx, vs, mo, k⟩
          have KB : Hid (∀ (l1 : List (Int × Nat)) (wx : World), Kp W0 w r l t.it t.ut t.tx ad t.ks.length cap l1 wx → Calls Tryz.prog 82 #[.agg #[.map (some r)], .slice ad t.ks.length cap, .int .i64 1] wx fun e w' => ∃ T z l', e = .returned (Value.iface T z) ∧ Sx (Value.iface T z) ∧ Hid (VS l' n (Value.iface T z) (t.ks[1]'h01.out.2)) ∧ Hid (∀ x ∈ l1, x ∈ l') ∧ Kp W0 w r l t.it t.ut t.tx ad t.ks.length cap l' w') := fun l1 wx kx =>
            (HKP.out 1 1 rfl h01.out.2 l1 wx kx).mono fun e w' ⟨v, l', he, sx, vs, mo, k⟩ => by obtain ⟨T, z, rfl⟩ := vs_val vs.out hB; exact ⟨T, z, l', he, sx, vs, mo, k⟩
          clear HKP hA hB
          go_enter Tryz.func63, Tryz.ntmps63
          go_wp2_with fail
          go_region_held3 (fun w' => w'.cell? ⟨w.heap.size, 0, none⟩ = some (.map (some r)) ∧ w'.cell? ⟨w.heap.size + 1, 4, none⟩ = some (.slice ad t.ks.length cap)) (exact KS.out _ _ (by first | assumption | exact Kp.drew (by assumption))) (first | (go_at_call 82; have hs0 := ‹Sx _›; refine (KB.out _ _ (by first | assumption | exact Kp.drew (by assumption))).mono ?_; rintro e wb ⟨Tb, zb, lb, rfl, sb, VB, mb, kb⟩) | (go_at_call 82; refine (KA.out _ _ (by first | assumption | exact Kp.drew (by assumption))).mono ?_; rintro e wa ⟨la, rfl, sa, VA, ma, ka⟩))
          all_goals go_wp2
          all_goals go_ret
          all_goals exact HF.out .nilIface (.iface Tb zb) la lb _ h01.out.1 h01.out.2 VA mb VB kb
      · by_cases hB : nilT n (t.ks[1]'h01.out.2)
        · have KA : Hid (∀ (l1 : List (Int × Nat)) (wx : World), Kp W0 w r l t.it t.ut t.tx ad t.ks.length cap l1 wx → Calls Tryz.prog 82 #[.agg #[.map (some r)], .slice ad t.ks.length cap, .int .i64 0] wx fun e w' => ∃ T z l', e = .returned (Value.iface T z) ∧ Sx (Value.iface T z) ∧ Hid (VS l' n (Value.iface T z) (t.ks[0]'h01.out.1)) ∧ Hid (∀ x ∈ l1, x ∈ l') ∧ Kp W0 w r l t.it t.ut t.tx ad t.ks.length cap l' w') := fun l1 wx kx =>
            (HKP.out 0 0 rfl h01.out.1 l1 wx kx).mono fun e w' ⟨v, l', he, sx, vs, mo, k⟩ => by obtain ⟨T, z, rfl⟩ := vs_val vs.out hA; exact ⟨T, z, l', he, sx, vs, mo, k⟩
          have KB : Hid (∀ (l1 : List (Int × Nat)) (wx : World), Kp W0 w r l t.it t.ut t.tx ad t.ks.length cap l1 wx → Calls Tryz.prog 82 #[.agg #[.map (some r)], .slice ad t.ks.length cap, .int .i64 1] wx fun e w' => ∃ l', e = .returned Value.nilIface ∧ Sx Value.nilIface ∧ Hid (VS l' n Value.nilIface (t.ks[1]'h01.out.2)) ∧ Hid (∀ x ∈ l1, x ∈ l') ∧ Kp W0 w r l t.it t.ut t.tx ad t.ks.length cap l' w') := fun l1 wx kx =>
            (HKP.out 1 1 rfl h01.out.2 l1 wx kx).mono fun e w' ⟨v, l', he, sx, vs, mo, k⟩ => by obtain rfl := vs_nil vs.out hB; exact ⟨l', he, sx, vs, mo, k⟩
          clear HKP hA hB
          go_enter Tryz.func63, Tryz.ntmps63
          go_wp2_with fail
          go_region_held3 (fun w' => w'.cell? ⟨w.heap.size, 0, none⟩ = some (.map (some r)) ∧ w'.cell? ⟨w.heap.size + 1, 4, none⟩ = some (.slice ad t.ks.length cap)) (exact KS.out _ _ (by first | assumption | exact Kp.drew (by assumption))) (first | (go_at_call 82; have hs0 := ‹Sx _›; refine (KB.out _ _ (by first | assumption | exact Kp.drew (by assumption))).mono ?_; rintro e wb ⟨lb, rfl, sb, VB, mb, kb⟩) | (go_at_call 82; refine (KA.out _ _ (by first | assumption | exact Kp.drew (by assumption))).mono ?_; rintro e wa ⟨Ta, za, la, rfl, sa, VA, ma, ka⟩))
          all_goals go_wp2
          all_goals go_ret
          all_goals exact HF.out (.iface Ta za) .nilIface la lb _ h01.out.1 h01.out.2 VA mb VB kb
        · have KA : Hid (∀ (l1 : List (Int × Nat)) (wx : World), Kp W0 w r l t.it t.ut t.tx ad t.ks.length cap l1 wx → Calls Tryz.prog 82 #[.agg #[.map (some r)], .slice ad t.ks.length cap, .int .i64 0] wx fun e w' => ∃ T z l', e = .returned (Value.iface T z) ∧ Sx (Value.iface T z) ∧ Hid (VS l' n (Value.iface T z) (t.ks[0]'h01.out.1)) ∧ Hid (∀ x ∈ l1, x ∈ l') ∧ Kp W0 w r l t.it t.ut t.tx ad t.ks.length cap l' w') := fun l1 wx kx =>
            (HKP.out 0 0 rfl h01.out.1 l1 wx kx).mono fun e w' ⟨v, l', he, sx, vs, mo, k⟩ => by obtain ⟨T, z, rfl⟩ := vs_val vs.out hA; exact ⟨T, z, l', he, sx, vs, mo, k⟩
          have KB : Hid (∀ (l1 : List (Int × Nat)) (wx : World), Kp W0 w r l t.it t.ut t.tx ad t.ks.length cap l1 wx → Calls Tryz.prog 82 #[.agg #[.map (some r)], .slice ad t.ks.length cap, .int .i64 1] wx fun e w' => ∃ T z l', e = .returned (Value.iface T z) ∧ Sx (Value.iface T z) ∧ Hid (VS l' n (Value.iface T z) (t.ks[1]'h01.out.2)) ∧ Hid (∀ x ∈ l1, x ∈ l') ∧ Kp W0 w r l t.it t.ut t.tx ad t.ks.length cap l' w') := fun l1 wx kx =>
            (HKP.out 1 1 rfl h01.out.2 l1 wx kx).mono fun e w' ⟨v, l', he, sx, vs, mo, k⟩ => by obtain ⟨T, z, rfl⟩ := vs_val vs.out hB; exact ⟨T, z, l', he, sx, vs, mo, k⟩
          clear HKP hA hB
          go_enter Tryz.func63, Tryz.ntmps63
          go_wp2_with fail
          go_region_held3 (fun w' => w'.cell? ⟨w.heap.size, 0, none⟩ = some (.map (some r)) ∧ w'.cell? ⟨w.heap.size + 1, 4, none⟩ = some (.slice ad t.ks.length cap)) (exact KS.out _ _ (by first | assumption | exact Kp.drew (by assumption))) (first | (go_at_call 82; have hs0 := ‹Sx _›; refine (KB.out _ _ (by first | assumption | exact Kp.drew (by assumption))).mono ?_; rintro e wb ⟨Tb, zb, lb, rfl, sb, VB, mb, kb⟩) | (go_at_call 82; refine (KA.out _ _ (by first | assumption | exact Kp.drew (by assumption))).mono ?_; rintro e wa ⟨Ta, za, la, rfl, sa, VA, ma, ka⟩))
          all_goals go_wp2
          all_goals go_ret
          all_goals exact HF.out (.iface Ta za) (.iface Tb zb) la lb _ h01.out.1 h01.out.2 VA mb VB kb
    · rw [h]
      exact (shLeaf10 (some r) t.it t.ut t.tx ad t.ks.length cap w).mono fun e w' hw => fin _ e (by simp [VS, h]) w' hw
    · rw [h]
      have b2 : Below w.heap.size w ((w.alloc (.cells #[.map (some r)] 107)).alloc (.cells #[.int .i64 11, .int .i64 t.it, .int .u64 t.ut, .string t.tx, .slice ad t.ks.length cap] 25)) := ((Below.refl _ w).alloc (Nat.le_refl _) _).alloc (by simp) _
      have HC := Lib.hid (pointer_sh r l 11 t.it t.ut t.tx ad t.ks.length cap _ (hm.below b2) (hb.below b2))
      have HF : Hid (∀ (b : Nat) (l' : List (Int × Nat)) (w' : World), (t.it, b) ∈ l' → ShT ((w.alloc (.cells #[.map (some r)] 107)).alloc (.cells #[.int .i64 11, .int .i64 t.it, .int .u64 t.ut, .string t.tx, .slice ad t.ks.length cap] 25)) w' r l l' → ∃ v' l'', Ending.returned (.iface 141 (.pointer (some ⟨b, 0, none⟩))) = .returned v' ∧ VS l'' (n + 1) v' t ∧ ShT w w' r l l'') := fun b l' w' hb ⟨a1, a2, a3, a4⟩ => ⟨_, l', rfl, by simp [VS, h]; exact hb, a1, a2, a3, grown_trans (grown_below b2) a4⟩
      clear ih hk hall hp2 fin okp hok hps h
      go_enter Tryz.func63, Tryz.ntmps63
      go_wp2_with fail
      refine HC.out.mono ?_
      rintro e w2 ⟨b, l2, rfl, hbm, sh1, sh2, sh3, sh4⟩
      go_wp2
      go_ret
      exact HF.out b l2 _ hbm ⟨sh1, sh2, sh3, sh4⟩
    · rw [h]
      exact (shLeaf12 (some r) t.it t.ut t.tx ad t.ks.length cap w).mono fun e w' hw => fin _ e (by simp [VS, h]) w' hw
    · rw [h]
      exact (shLeaf13 (some r) t.it t.ut t.tx ad t.ks.length cap w).mono fun e w' hw => fin _ e (by simp [VS, h]) w' hw
end Go.Proofs.YthamafijjflfbaaGreat.Dt
