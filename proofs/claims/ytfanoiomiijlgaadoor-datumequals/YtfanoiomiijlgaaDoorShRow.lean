/- The package's row and place, with boxes by number, over a list's trees; the conditions: the trees in memory and valid, the map and its boxes in memory, and value's own contract for the parts. -/
import Derived.Test.YtfanoiomiijlgaaDoorSh
import Derived.Laws.MakeOwn
namespace Go.Proofs.YtfanoiomiijlgaaDoor
open Go.RowKit
def ShT (w w' : World) (r : Nat) (l l' : List (Int × Nat)) : Prop := Mp w' r l' ∧ Bx w' l' ∧ (∀ x ∈ l, x ∈ l') ∧ w.grownBy w' (some r)
/-- A block holds one cell. -/
def C1 (w : World) (N : Nat) (t : TypeId) (v : Value) : Prop := w.heap[N]? = some (.cells #[v] t (0, 0))
theorem C1.lt {w : World} {N : Nat} {t : TypeId} {v : Value} (h : C1 w N t v) : N < w.heap.size := (Array.getElem?_eq_some_iff.1 h).1
theorem C1.below {w w' : World} {N : Nat} {t : TypeId} {v : Value} (h : C1 w N t v) (hb : Below w.heap.size w w') : C1 w' N t v := (hb.block N h.lt).trans h
theorem C1.kept {w w' : World} {N r : Nat} {t : TypeId} {v : Value} (h : C1 w N t v) (hg : w.grownBy w' (some r)) (hne : N ≠ r) : C1 w' N t v := (hg.block N h.lt (fun e => hne (Option.some.inj e))).trans h
theorem C1.c {w : World} {N : Nat} {t : TypeId} {v : Value} (h : C1 w N t v) : w.cell? ⟨N, 0, none⟩ = some v := by unfold C1 at h; simp [World.cell?, h]
theorem C1.f {w : World} {N o : Nat} {t : TypeId} {v : Value} (h : C1 w N t v) : w.frozen? ⟨N, o, none⟩ = false := by unfold C1 at h; simp [World.frozen?, h]
theorem C1.new (w : World) (t : TypeId) (v : Value) : C1 (w.alloc (.cells #[v] t)) w.heap.size t v := heap_alloc_new w _
theorem C1.set {w : World} {N : Nat} {t : TypeId} {v : Value} (h : C1 w N t v) (a : Addr) (x : Value) (hne : N ≠ a.block) : C1 (w.setCell a x) N t v := (Below.heap_setCell w a x N hne).trans h
theorem D5.below {w w' : World} {N : Nat} {v0 v1 v2 v3 v4 : Value} (h : D5 w N v0 v1 v2 v3 v4) (hb : Below w.heap.size w w') : D5 w' N v0 v1 v2 v3 v4 := (hb.block N h.lt).trans h

/-- A block holds n values. -/
def Rb (w : World) (N n : Nat) : Prop := ∃ cs : Array Value, w.heap[N]? = some (.cells cs 20 (0, 0)) ∧ cs.size = n
theorem Rb.lt {w : World} {N n : Nat} (h : Rb w N n) : N < w.heap.size := by obtain ⟨cs, h, -⟩ := h; exact (Array.getElem?_eq_some_iff.1 h).1
theorem Rb.below {w w' : World} {N n : Nat} (h : Rb w N n) (hb : Below w.heap.size w w') : Rb w' N n := by
  have := h.lt; obtain ⟨cs, h1, h2⟩ := h; exact ⟨cs, (hb.block N this).trans h1, h2⟩
theorem Rb.kept {w w' : World} {N n r : Nat} (h : Rb w N n) (hg : w.grownBy w' (some r)) (hne : N ≠ r) : Rb w' N n := by
  have := h.lt; obtain ⟨cs, h1, h2⟩ := h; exact ⟨cs, (hg.block N this (fun e => hne (Option.some.inj e))).trans h1, h2⟩
theorem Rb.c {w : World} {N n j : Nat} (h : Rb w N n) (hj : j < n) : ∃ x, w.cell? ⟨N, j, none⟩ = some x := by
  obtain ⟨cs, h1, h2⟩ := h; exact ⟨cs[j]'(by omega), by simp [World.cell?, h1, h2, hj]⟩
theorem Rb.f {w : World} {N n o : Nat} (h : Rb w N n) : w.frozen? ⟨N, o, none⟩ = false := by
  obtain ⟨cs, h1, h2⟩ := h; simp [World.frozen?, h1]
theorem Rb.set {w : World} {N n j : Nat} (h : Rb w N n) (x : Value) : Rb (w.setCell ⟨N, j, none⟩ x) N n := by
  obtain ⟨cs, h1, h2⟩ := h
  exact ⟨cs.setIfInBounds j x, by simp [World.setCell, Array.getElem?_modify, h1], by simp [h2]⟩
theorem Mp.set {w : World} {r : Nat} {l : List (Int × Nat)} (h : Mp w r l) (a : Addr) (x : Value) (hne : r ≠ a.block) : Mp (w.setCell a x) r l := by
  obtain ⟨es, ck, h1, h2⟩ := h; exact ⟨es, ck, (Below.heap_setCell w a x r hne).trans h1, h2⟩
theorem Bx.set {w : World} {l : List (Int × Nat)} (h : Bx w l) (N o : Nat) (x : Value) : Bx (w.setCell ⟨N, o, none⟩ x) l := by
  refine ⟨fun i b hm => ?_, h.2⟩
  obtain ⟨cs, hc⟩ := h.1 i b hm
  by_cases e : b = N
  · subst e; exact ⟨cs.setIfInBounds o x, by simp [World.setCell, Array.getElem?_modify, hc]⟩
  · exact ⟨cs, (Below.heap_setCell w ⟨N, o, none⟩ x b e).trans hc⟩

theorem vs_any {l : List (Int × Nat)} {n : Nat} {v : Value} {t : Tr n} (h : VS l n v t) : v = .nilIface ∨ ∃ T z, v = .iface T z := by
  match n, t, h with
  | n + 1, t, h =>
    rcases vs_ty h with ⟨-, e⟩ | ⟨-, -, z, e⟩
    · exact .inl e
    · exact .inr ⟨_, z, e⟩
set_option maxRecDepth 100000 in
set_option maxHeartbeats 2000000 in
theorem row_sh (W0 : World) (r : Nat) (hr : W0.heap.size ≤ r) (m : Nat) (ks : List (Tr m))
    (ih : ∀ (t : Tr m) (v0 v1 v2 v3 v4 : Value) (l : List (Int × Nat)) (w : World), rgt m t = true → (pts m t).1 ≤ 4096 → Rep W0 m [v0, v1, v2, v3, v4] t → Below W0.heap.size W0 w → Mp w r l → Bx w l →
      Calls Tryd.prog 21 #[.agg #[.map (some r)], .agg #[v0, v1, v2, v3, v4]] w fun e w' => ∃ v l', e = .returned v ∧ VS l' m v t ∧ ShT w w' r l l')
    (ad : Option Addr) (cap : Nat) (l : List (Int × Nat)) (w : World) (hb0 : Below W0.heap.size W0 w) (hm : Mp w r l) (hb : Bx w l) (hn : ks.length ≤ 4096) (hrg : ks.all (rgt m) = true) (hps : ∀ t ∈ ks, (pts m t).1 ≤ 4096)
    (hk : ks = [] ∨ ∃ g o, ad = some ⟨g, o, none⟩ ∧ ∀ (j : Nat) (t' : Tr m), ks[j]? = some t' → ∃ v0 v1 v2 v3 v4, W0.cell? ⟨g, o + j * 5, none⟩ = some v0 ∧ W0.cell? ⟨g, o + j * 5 + 1, none⟩ = some v1 ∧ W0.cell? ⟨g, o + j * 5 + 2, none⟩ = some v2 ∧ W0.cell? ⟨g, o + j * 5 + 3, none⟩ = some v3 ∧ W0.cell? ⟨g, o + j * 5 + 4, none⟩ = some v4 ∧ Rep W0 m [v0, v1, v2, v3, v4] t') :
    Calls Tryd.prog 28 #[.agg #[.map (some r)], .slice ad ks.length cap] w fun e w' => ∃ v l', e = .returned v ∧ ShT w w' r l l' := by
  have hz20 : Tryd.prog.info? 20 = some Tryd.t20 := by kernel_rfl
  have hsz : Tryd.t20.size = 1 := by kernel_rfl
  have hby : Tryd.t20.bytes = 16 := by kernel_rfl
  have hze : Tryd.t20.zero = some .nilIface := by kernel_rfl
  have hmk : ∀ w : World, (Instr.makeSlice 64 (.int .i64 ks.length) (.int .i64 ks.length)).run Tryd.prog w = .ok (.slice (some ⟨w.heap.size, 0, none⟩) ks.length ks.length) (w.alloc (.cells (madeCells (Value.cells .nilIface) ks.length) 20)) := fun w => by
    have := run_makeSlice (P := Tryd.prog) w 64 20 Tryd.t20 .nilIface Tryd.underlying64 hz20 hze .i64 .i64 ks.length ks.length (by omega) (Int.le_refl _) (by rw [hsz]; simp; omega) (by rw [hby]; omega) (by omega)
    simpa [hsz] using this
  have hrl := hm.lt
  have hb0s := hb0.size
  have b1 := below1 w (.cells #[.map (some r)] 45)
  have b2 : Below w.heap.size w ((w.alloc (.cells #[.map (some r)] 45)).alloc (.cells (madeCells (Value.cells .nilIface) ks.length) 20)) := b1.alloc (by simp) _
  have c2 := (C1.new w 45 (.map (some r))).below (below1 _ (.cells (madeCells (Value.cells .nilIface) ks.length) 20))
  have r2 : Rb ((w.alloc (.cells #[.map (some r)] 45)).alloc (.cells (madeCells (Value.cells .nilIface) ks.length) 20)) (w.heap.size + 1) ks.length := by
    refine ⟨_, ?_, size_madeCells (Value.cells .nilIface) ks.length⟩
    have := heap_alloc_new (w.alloc (.cells #[.map (some r)] 45)) (.cells (madeCells (Value.cells .nilIface) ks.length) 20)
    rwa [World.size_alloc] at this
  have HI := Lib.hid ih
  have HK := Lib.hid hk
  have HR := Lib.hid hrg
  have HP := Lib.hid hps
  clear ih hk hrg hps hz20 hsz hby hze b1
  generalize madeCells (Value.cells .nilIface) ks.length = mc at *
  go_enter Tryd.func28, Tryd.ntmps28
  go_wp2_with fail
  go_loopw [13] (fun si wr => ∃ (j : Nat) (l' : List (Int × Nat)), si = .int .i64 j ∧ j ≤ ks.length ∧ Mp wr r l' ∧ Bx wr l' ∧ (∀ x ∈ l, x ∈ l') ∧ C1 wr w.heap.size 45 (.map (some r)) ∧ Rb wr (w.heap.size + 1) ks.length ∧ Below W0.heap.size W0 wr ∧ w.grownBy wr (some r)) (fun si _ => ks.length - (intOf si).toNat)
  case atStart => exact ⟨0, l, rfl, Nat.zero_le _, hm.below b2, hb.below b2, fun _ h => h, c2, r2, hb0.trans (b2.mono hb0.size), grown_below b2⟩
  case round =>
    obtain ⟨j, l', rfl, hj, m1, x1, s1, c1, r1, o1, g1⟩ := hrel
    by_cases hlt : j < ks.length
    · have hne : ks ≠ [] := by intro e; rw [e] at hlt; exact absurd hlt (Nat.not_lt_zero _)
      rcases HK.out with hk | ⟨g, o, hk1, hk2⟩
      · exact absurd hk hne
      subst hk1
      obtain ⟨v0, v1, v2, v3, v4, e0, e1, e2, e3, e4, rk⟩ := hk2 j _ (List.getElem?_eq_getElem hlt)
      have hg : g < W0.heap.size := World.block_lt_of_cell? W0 _ e0
      have y0 := (o1.cell (p := ⟨g, o + j * 5, none⟩) hg).trans e0
      have y1 := (o1.cell (p := ⟨g, o + j * 5 + 1, none⟩) hg).trans e1
      have y2 := (o1.cell (p := ⟨g, o + j * 5 + 2, none⟩) hg).trans e2
      have y3 := (o1.cell (p := ⟨g, o + j * 5 + 3, none⟩) hg).trans e3
      have y4 := (o1.cell (p := ⟨g, o + j * 5 + 4, none⟩) hg).trans e4
      clear e0 e1 e2 e3 e4 hk2 HK
      obtain ⟨u0, u1, u2, u3, a4, n4, c4', rfl, rfl, rfl, rfl, rfl⟩ := rep_shape rk
      have cc := c1.c
      have zc := c1.lt
      go_wp2_with fail
      have ba := below1 wr (.cells #[.int .i64 u0, .int .i64 u1, .int .u64 u2, .string u3, .slice a4 n4 c4'] 25)
      have hrt : rgt m ks[j] = true := List.all_eq_true.1 HR.out _ (List.getElem_mem hlt)
      refine (HI.out ks[j] _ _ _ _ _ l' _ hrt (HP.out _ (List.getElem_mem hlt)) rk (o1.trans (ba.mono o1.size)) (m1.below ba) (x1.below ba)).mono ?_
      rintro e w2 ⟨v, l2, rfl, vs, m2, x2, s2, g2⟩
      have hr2 : w.heap.size + 1 ≠ r := by omega
      have hr3 : w.heap.size ≠ r := by omega
      have k2 := (r1.below ba).kept g2 hr2
      have q2 := (c1.below ba).kept g2 hr3
      obtain ⟨x, kc⟩ := k2.c hlt
      have kf := k2.f (o := j)
      have G2 := grown_trans g1 (grown_trans (grown_below (row := some r) ba) g2)
      have o2 : Below W0.heap.size W0 w2 := (o1.trans (ba.mono o1.size)).grown g2 (Nat.le_trans o1.size ba.size) (fun k hk => by have := Option.some.inj hk; omega)
      clear y0 y1 y2 y3 y4 rk ba g2 cc
      rcases vs_any vs with rfl | ⟨T, z, rfl⟩
      · clear vs
        go_wp2_with fail
        refine ⟨⟨j + 1, l2, by go_num, by omega, m2.set _ _ (by show r ≠ w.heap.size + 1; omega), x2.set _ _ _, fun x hx => s2 x (s1 x hx), q2.set _ _ (by show w.heap.size ≠ w.heap.size + 1; omega), k2.set _, o2.setCell (by show W0.heap.size ≤ w.heap.size + 1; omega) _, ?_⟩, by simp [intOf]; omega⟩
        exact grown_setNew G2 (Nat.le_succ _) _
      · clear vs
        go_wp2_with fail
        refine ⟨⟨j + 1, l2, by go_num, by omega, m2.set _ _ (by show r ≠ w.heap.size + 1; omega), x2.set _ _ _, fun x hx => s2 x (s1 x hx), q2.set _ _ (by show w.heap.size ≠ w.heap.size + 1; omega), k2.set _, o2.setCell (by show W0.heap.size ≤ w.heap.size + 1; omega) _, ?_⟩, by simp [intOf]; omega⟩
        exact grown_setNew G2 (Nat.le_succ _) _
    · have hje : j = ks.length := by omega
      subst hje
      go_wp2_with fail
      go_ret
      exact ⟨_, l', rfl, m1, x1, s1, g1⟩

set_option maxRecDepth 100000 in
set_option maxHeartbeats 2000000 in
theorem place_sh (W0 : World) (r : Nat) (m : Nat) (ks : List (Tr m))
    (ih : ∀ (t : Tr m) (v0 v1 v2 v3 v4 : Value) (l : List (Int × Nat)) (w : World), rgt m t = true → (pts m t).1 ≤ 4096 → Rep W0 m [v0, v1, v2, v3, v4] t → Below W0.heap.size W0 w → Mp w r l → Bx w l →
      Calls Tryd.prog 21 #[.agg #[.map (some r)], .agg #[v0, v1, v2, v3, v4]] w fun e w' => ∃ v l', e = .returned v ∧ VS l' m v t ∧ ShT w w' r l l')
    (ad : Option Addr) (cap : Nat) (l : List (Int × Nat)) (w : World) (hr : W0.heap.size ≤ r) (hb0 : Below W0.heap.size W0 w) (hm : Mp w r l) (hb : Bx w l) (hrg : ks.all (rgt m) = true) (hps : ∀ t ∈ ks, (pts m t).1 ≤ 4096)
    (hk : ks = [] ∨ ∃ g o, ad = some ⟨g, o, none⟩ ∧ ∀ (j : Nat) (t' : Tr m), ks[j]? = some t' → ∃ v0 v1 v2 v3 v4, W0.cell? ⟨g, o + j * 5, none⟩ = some v0 ∧ W0.cell? ⟨g, o + j * 5 + 1, none⟩ = some v1 ∧ W0.cell? ⟨g, o + j * 5 + 2, none⟩ = some v2 ∧ W0.cell? ⟨g, o + j * 5 + 3, none⟩ = some v3 ∧ W0.cell? ⟨g, o + j * 5 + 4, none⟩ = some v4 ∧ Rep W0 m [v0, v1, v2, v3, v4] t')
    (j : Nat) (hlt : j < ks.length) :
    Calls Tryd.prog 29 #[.agg #[.map (some r)], .slice ad ks.length cap, .int .i64 j] w fun e w' => ∃ v l', e = .returned v ∧ VS l' m v ks[j] ∧ ShT w w' r l l' := by
  have hne : ks ≠ [] := by intro e; rw [e] at hlt; exact absurd hlt (Nat.not_lt_zero _)
  rcases hk with hk | ⟨g, o, hk1, hk2⟩
  · exact absurd hk hne
  subst hk1
  obtain ⟨v0, v1, v2, v3, v4, e0, e1, e2, e3, e4, rk⟩ := hk2 j _ (List.getElem?_eq_getElem hlt)
  have b1 := below1 w (.cells #[.map (some r)] 45)
  have o1 : Below W0.heap.size W0 (w.alloc (.cells #[.map (some r)] 45)) := hb0.trans (b1.mono hb0.size)
  have hg : g < W0.heap.size := World.block_lt_of_cell? W0 _ e0
  have y0 := (o1.cell (p := ⟨g, o + j * 5, none⟩) hg).trans e0
  have y1 := (o1.cell (p := ⟨g, o + j * 5 + 1, none⟩) hg).trans e1
  have y2 := (o1.cell (p := ⟨g, o + j * 5 + 2, none⟩) hg).trans e2
  have y3 := (o1.cell (p := ⟨g, o + j * 5 + 3, none⟩) hg).trans e3
  have y4 := (o1.cell (p := ⟨g, o + j * 5 + 4, none⟩) hg).trans e4
  clear hk2
  obtain ⟨u0, u1, u2, u3, a4, n4, c4', rfl, rfl, rfl, rfl, rfl⟩ := rep_shape rk
  have hrt : rgt m ks[j] = true := List.all_eq_true.1 hrg _ (List.getElem_mem hlt)
  have bd := b1.drew
  have hrl := hm.lt
  have hb0s := hb0.size
  have HS : Hid (∀ w' : World, Below W0.heap.size W0 w' → w'.cell? ⟨w.heap.size, 0, none⟩ = some (.map (some r)) → w'.cell? ⟨w.heap.size, 0, none⟩ = some (.map (some r)) ∧ w'.cell? ⟨g, o + j * 5, none⟩ = some (.int .i64 u0) ∧ w'.cell? ⟨g, o + j * 5 + 1, none⟩ = some (.int .i64 u1) ∧ w'.cell? ⟨g, o + j * 5 + 2, none⟩ = some (.int .u64 u2) ∧ w'.cell? ⟨g, o + j * 5 + 3, none⟩ = some (.string u3) ∧ w'.cell? ⟨g, o + j * 5 + 4, none⟩ = some (.slice a4 n4 c4')) := fun w' h hc =>
    ⟨hc, (h.cell (p := ⟨g, o + j * 5, none⟩) hg).trans e0, (h.cell (p := ⟨g, o + j * 5 + 1, none⟩) hg).trans e1, (h.cell (p := ⟨g, o + j * 5 + 2, none⟩) hg).trans e2, (h.cell (p := ⟨g, o + j * 5 + 3, none⟩) hg).trans e3, (h.cell (p := ⟨g, o + j * 5 + 4, none⟩) hg).trans e4⟩
  have HI : Hid (Calls Tryd.prog 21 #[.agg #[.map (some r)], .agg #[.int .i64 u0, .int .i64 u1, .int .u64 u2, .string u3, .slice a4 n4 c4']] (w.alloc (.cells #[.map (some r)] 45)).drew fun e w' => ∃ v l', e = .returned v ∧ VS l' m v ks[j] ∧ ShT w w' r l l' ∧ Below W0.heap.size W0 w' ∧ w'.cell? ⟨w.heap.size, 0, none⟩ = some (.map (some r))) :=
    (ih ks[j] _ _ _ _ _ l _ hrt (hps _ (List.getElem_mem hlt)) rk o1.drew (hm.below bd) (hb.below bd)).mono fun e w' ⟨v, l', he, vs, m2, x2, s2, g2⟩ =>
      ⟨v, l', he, vs, ⟨m2, x2, s2, grown_trans (grown_below (row := some r) bd) g2⟩, o1.drew.grown g2 (by have := o1.size; exact this) (fun k hk => by have := Option.some.inj hk; omega), ((show C1 (w.alloc (.cells #[.map (some r)] 45)).drew w.heap.size 45 (.map (some r)) from C1.new w 45 _).kept g2 (by omega)).c⟩
  clear e0 e1 e2 e3 e4
  have hje : ¬ ((ks.length : Int) ≤ (j : Int)) := by omega
  clear ih rk hrg hps hrt
  go_enter Tryd.func29, Tryd.ntmps29
  go_wp2_with fail
  go_region_held3 (fun w' => w'.cell? ⟨w.heap.size, 0, none⟩ = some (.map (some r)) ∧ w'.cell? ⟨g, o + j * 5, none⟩ = some (.int .i64 u0) ∧ w'.cell? ⟨g, o + j * 5 + 1, none⟩ = some (.int .i64 u1) ∧ w'.cell? ⟨g, o + j * 5 + 2, none⟩ = some (.int .u64 u2) ∧ w'.cell? ⟨g, o + j * 5 + 3, none⟩ = some (.string u3) ∧ w'.cell? ⟨g, o + j * 5 + 4, none⟩ = some (.slice a4 n4 c4')) (first | exact HS.out _ (by assumption) (by assumption) | go_keep) ((go_at_call 21; refine HI.out.mono ?_; rintro e w2 ⟨v, l2, rfl, vs, sh2, ow2, cw2⟩))
  all_goals go_wp2_with fail
  all_goals go_ret
  all_goals exact ⟨_, l2, rfl, vs, sh2⟩
end Go.Proofs.YtfanoiomiijlgaaDoor
