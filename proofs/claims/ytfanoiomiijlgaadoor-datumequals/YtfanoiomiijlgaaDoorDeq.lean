/- The package's Equal of two valid values' trees: the document's answer; the conditions: the trees in memory and valid, of 4096 parts and 16 deep at most. -/
import Derived.Test.YtfanoiomiijlgaaDoorVal
import Derived.Defers
import Derived.Recover
namespace Go.Proofs.YtfanoiomiijlgaaDoor
open Go.RowKit
set_option maxRecDepth 100000 in
set_option maxHeartbeats 1000000 in
theorem sharing (w : World) : Calls Tryd.prog 20 #[] w fun e w' => ∃ k, e = .returned (.agg #[.map (some k)]) ∧ Below w.heap.size w w' ∧ w.heap.size ≤ k ∧ Mp w' k [] := by
  have hmm := @run_makeMap Tryd.prog
  go_enter Tryd.func20, Tryd.ntmps20
  go_wp2
  refine bodyPost_ret (v := .agg #[.map (some (w.heap.size+1))]) (by simp [results, Tryd.results20, go_sem]) rfl ⟨_, rfl, ?_, by omega, ?_⟩
  · exact ((Below.refl _ w).alloc (Nat.le_refl _) _).alloc (by simp) _
  · refine ⟨#[], 0, ?_, rfl⟩
    have := heap_alloc_new (w.alloc (.cells #[.map (some (w.heap.size + 1))] 45)) (.map #[] 0)
    rw [World.size_alloc] at this
    exact this

theorem eq_idle (p q : Addr) (w : World) :
    CallsD Tryd.prog 22 #[.pointer (some p), .pointer (some q)] .returning w fun e u' w' => e = .returned (.tuple #[]) ∧ u' = .returning ∧ w' = w := by
  refine callsD_of_wpS Tryd.func22 rfl fun c₀ cs hu => ?_
  apply wpS_seq
  apply wpS_region
  simp [wpOpsS, go_sem, recoverD, hu, Tryd.ntmps22, Exit.thenS]
  refine wpS_cond (t := false) (by simp [Act.eval, Array.replicate]) ?_
  simp only [Bool.false_eq_true, if_false]
  refine wpS_of_wp (wp_skip ?_)
  cases c₀
  simp_all [bodyPostS, results, Tryd.results22]

theorem eq_catch (A B : Nat) (hAB : B ≠ A) (u : TypeId) (pv : Value) (older : List PanicEntry) (w : World) (x : Bool) (y : Int) (hc : w.cell? ⟨A, 0, none⟩ = some (.bool x)) (hz : w.frozen? ⟨A, 0, none⟩ = false) (hc' : w.cell? ⟨B, 0, none⟩ = some (.int .i64 y)) (hz' : w.frozen? ⟨B, 0, none⟩ = false) :
    CallsD Tryd.prog 22 #[.pointer (some ⟨A, 0, none⟩), .pointer (some ⟨B, 0, none⟩)] (.panicking ({ v := .iface u pv, recovered := false } :: older)) w fun e u' w' =>
      e = .returned (.tuple #[]) ∧ u' = .panicking ({ v := .iface u pv, recovered := true } :: older) ∧ w' = (w.setCell ⟨A, 0, none⟩ (.bool false)).setCell ⟨B, 0, none⟩ (.int .i64 10) := by
  have hne : (⟨B, 0, none⟩ : Addr) ≠ ⟨A, 0, none⟩ := by simp only [ne_eq, Addr.mk.injEq]; exact fun h => hAB h.1
  have hk : (w.setCell ⟨A, 0, none⟩ (.bool false)).cell? ⟨B, 0, none⟩ = some (.int .i64 y) := by rw [World.cell?_setCell_other]; exact hc'; exact hne.symm
  have hl : (w.setCell ⟨A, 0, none⟩ (.bool false)).frozen? ⟨B, 0, none⟩ = false := by simpa using hz'
  refine callsD_of_wpS Tryd.func22 rfl fun c₀ cs hu => ?_
  apply wpS_seq
  apply wpS_region
  simp [wpOpsS, go_sem, recoverD, hu, Tryd.ntmps22, Exit.thenS]
  refine wpS_cond (t := true) (by simp [Act.eval, Array.replicate]) ?_
  simp only [if_true]
  apply wpS_region
  simp [wpOpsS, go_sem, hc, hz, hk, hl, bodyPostS, results, Tryd.results22]

theorem beq_run (x y : Value) (hx : Sx x) (hy : Sx y) (w : World) : (binOp .eql 20 x y).run Tryd.prog w = ((Op.equal 20 x y).run Tryd.prog w).andThen fun b w => .ok (.bool b) w := by
  rcases hx with rfl | ⟨T, z, rfl⟩ <;> rcases hy with rfl | ⟨T', z', rfl⟩ <;> simp [binOp]

theorem bnn (w : World) : (binOp .eql 20 .nilIface .nilIface).run Tryd.prog w = .ok (.bool true) w := by kernel_rfl
theorem bnv (T : TypeId) (z : Value) (w : World) : (binOp .eql 20 .nilIface (.iface T z)).run Tryd.prog w = .ok (.bool false) w := by kernel_rfl
theorem bvn (T : TypeId) (z : Value) (w : World) : (binOp .eql 20 (.iface T z) .nilIface).run Tryd.prog w = .ok (.bool false) w := by kernel_rfl

/-- What a call of value leaves as it is. -/
structure Kq (w : World) (k M : Nat) (v0 v1 v2 v3 v4 x0 x1 x2 x3 x4 : Value) (l' : List (Int × Nat)) (w' : World) : Prop where
  m : Mp w' k l'
  x : Bx w' l'
  b : Below w.heap.size w w'
  p : D5 w' w.heap.size v0 v1 v2 v3 v4
  q : D5 w' (w.heap.size + 1) x0 x1 x2 x3 x4
  c : C1 w' (w.heap.size + 1 + 1) 4 (.bool false)
  d : C1 w' (w.heap.size + 1 + 1 + 1) 31 (.int .i64 0)
  e : C1 w' M 45 (.map (some k))
theorem Kq.drew {w : World} {k M : Nat} {v0 v1 v2 v3 v4 x0 x1 x2 x3 x4 : Value} {l' : List (Int × Nat)} {w' : World} (h : Kq w k M v0 v1 v2 v3 v4 x0 x1 x2 x3 x4 l' w') : Kq w k M v0 v1 v2 v3 v4 x0 x1 x2 x3 x4 l' w'.drew :=
  have y : Below w'.heap.size w' w'.drew := Below.drew (Below.refl _ _)
  ⟨h.m.below y, h.x.below y, h.b.drew, h.p.below y, h.q.below y, h.c.below y, h.d.below y, h.e.below y⟩
theorem Kq.step {w : World} {k M : Nat} {v0 v1 v2 v3 v4 x0 x1 x2 x3 x4 : Value} {l1 l2 : List (Int × Nat)} {w1 w2 : World} (h : Kq w k M v0 v1 v2 v3 v4 x0 x1 x2 x3 x4 l1 w1) (hk : w.heap.size + 4 ≤ k) (hM : M ≠ k) (sh : ShT w1 w2 k l1 l2) : Kq w k M v0 v1 v2 v3 v4 x0 x1 x2 x3 x4 l2 w2 := by
  obtain ⟨a1, a2, a3, a4⟩ := sh
  exact ⟨a1, a2, h.b.grown a4 h.b.size (fun j hj => by have := Option.some.inj hj; omega), h.p.kept a4 (by omega), h.q.kept a4 (by omega), h.c.kept a4 (by omega), h.d.kept a4 (by omega), h.e.kept a4 hM⟩

set_option maxRecDepth 100000 in
set_option maxHeartbeats 2000000 in
theorem dequal_any (n m : Nat) (a : Tr n) (b : Tr m) (v0 v1 v2 v3 v4 x0 x1 x2 x3 x4 : Value) (w : World) (hn : n ≤ 16) (ra : rgt n a = true) (rb : rgt m b = true) (pa : (pts n a).1 ≤ 4096) (pb : (pts m b).1 ≤ 4096) (ha : Rep w n [v0, v1, v2, v3, v4] a) (hb : Rep w m [x0, x1, x2, x3, x4] b) :
    Calls Tryd.prog 11 #[.agg #[v0, v1, v2, v3, v4], .agg #[x0, x1, x2, x3, x4]] w fun e w' => e = .returned (.tuple #[.bool (eqT n m a b).1, .int .i64 (eqT n m a b).2]) ∧ Below w.heap.size w w' := by
  have hmf : ∀ (fn : Fn) (first cap : Array Value) (w : World), (Instr.makeFunc fn first cap).run Tryd.prog w = .ok (.func fn first cap) w := fun _ _ _ _ => rfl
  obtain ⟨k, i, u, s, ad, len, cap, rfl, rfl, rfl, rfl, rfl⟩ := rep_shape ha
  obtain ⟨j, i', v, z, bd, len', cap', rfl, rfl, rfl, rfl, rfl⟩ := rep_shape hb
  have b0 : ∀ o1 o2 o3 o4 : Obj, Below w.heap.size w ((((w.alloc o1).alloc o2).alloc o3).alloc o4) := fun o1 o2 o3 o4 => ((((Below.refl _ w).alloc (Nat.le_refl _) _).alloc (by simp) _).alloc (by simp; omega) _).alloc (by simp; omega) _
  have da : ∀ o2 o3 o4 : Obj, D5 ((((w.alloc (.cells #[.int .i64 k, .int .i64 i, .int .u64 u, .string s, .slice ad len cap] 25)).alloc o2).alloc o3).alloc o4) w.heap.size (.int .i64 k) (.int .i64 i) (.int .u64 u) (.string s) (.slice ad len cap) := fun o2 o3 o4 =>
    (((D5.new w _ _ _ _ _).below (below1 _ o2)).below (below1 _ o3)).below (below1 _ o4)
  have db : ∀ o1 o3 o4 : Obj, D5 ((((w.alloc o1).alloc (.cells #[.int .i64 j, .int .i64 i', .int .u64 v, .string z, .slice bd len' cap'] 25)).alloc o3).alloc o4) (w.heap.size + 1) (.int .i64 j) (.int .i64 i') (.int .u64 v) (.string z) (.slice bd len' cap') := fun o1 o3 o4 => by
    have := D5.new (w.alloc o1) (.int .i64 j) (.int .i64 i') (.int .u64 v) (.string z) (.slice bd len' cap')
    rw [World.size_alloc] at this
    exact (this.below (below1 _ o3)).below (below1 _ o4)
  have dc : ∀ o1 o2 o4 : Obj, C1 ((((w.alloc o1).alloc o2).alloc (.cells #[.bool false] 4)).alloc o4) (w.heap.size + 1 + 1) 4 (.bool false) := fun o1 o2 o4 => by
    have := C1.new ((w.alloc o1).alloc o2) 4 (.bool false)
    rw [World.size_alloc, World.size_alloc] at this
    exact this.below (below1 _ o4)
  have dd : ∀ o1 o2 o3 : Obj, C1 ((((w.alloc o1).alloc o2).alloc o3).alloc (.cells #[.int .i64 0] 31)) (w.heap.size + 1 + 1 + 1) 31 (.int .i64 0) := fun o1 o2 o3 => by
    have := C1.new (((w.alloc o1).alloc o2).alloc o3) 31 (.int .i64 0)
    rw [World.size_alloc, World.size_alloc, World.size_alloc] at this
    exact this
  have HV := Lib.hid (And.intro ra (And.intro rb (And.intro pa (And.intro pb (And.intro ha hb)))))
  clear ra rb pa pb ha hb
  go_enter_defers Tryd.func11, Tryd.ntmps11
  go_wp2_with fail
  refine (sharing _).mono ?_
  rintro e w1 ⟨mk, rfl, b1, hmk, mp1⟩
  have hmk' : w.heap.size + 4 ≤ mk := by simp at hmk; omega
  have mpl := mp1.lt
  have bm := below1 w1 (.cells #[.map (some mk)] 45)
  have kq0 : Kq w mk w1.heap.size (.int .i64 k) (.int .i64 i) (.int .u64 u) (.string s) (.slice ad len cap) (.int .i64 j) (.int .i64 i') (.int .u64 v) (.string z) (.slice bd len' cap') [] (w1.alloc (.cells #[.map (some mk)] 45)) :=
    ⟨mp1.below bm, ⟨fun _ _ h => by simp at h, fun _ _ _ _ h => by simp at h⟩, ((b0 _ _ _ _).trans (b1.mono (by simp; omega))).trans (bm.mono (Nat.le_trans (by simp; omega) b1.size)), ((da _ _ _).below b1).below bm, ((db _ _ _).below b1).below bm, ((dc _ _ _).below b1).below bm, ((dd _ _ _).below b1).below bm, C1.new w1 45 _⟩
  have hMk : w1.heap.size ≠ mk := by omega
  clear da db dc dd b0 b1 bm mp1 hmk
  have KS : Hid (∀ (l' : List (Int × Nat)) (w' : World), Kq w mk w1.heap.size (.int .i64 k) (.int .i64 i) (.int .u64 u) (.string s) (.slice ad len cap) (.int .i64 j) (.int .i64 i') (.int .u64 v) (.string z) (.slice bd len' cap') l' w' →
      w'.cell? ⟨w1.heap.size, 0, none⟩ = some (.map (some mk)) ∧ (w'.cell? ⟨w.heap.size, 0, none⟩ = some (.int .i64 k) ∧ w'.cell? ⟨w.heap.size, 1, none⟩ = some (.int .i64 i) ∧ w'.cell? ⟨w.heap.size, 2, none⟩ = some (.int .u64 u) ∧ w'.cell? ⟨w.heap.size, 3, none⟩ = some (.string s) ∧ w'.cell? ⟨w.heap.size, 4, none⟩ = some (.slice ad len cap)) ∧ w'.cell? ⟨w.heap.size + 1, 0, none⟩ = some (.int .i64 j) ∧ w'.cell? ⟨w.heap.size + 1, 1, none⟩ = some (.int .i64 i') ∧ w'.cell? ⟨w.heap.size + 1, 2, none⟩ = some (.int .u64 v) ∧ w'.cell? ⟨w.heap.size + 1, 3, none⟩ = some (.string z) ∧ w'.cell? ⟨w.heap.size + 1, 4, none⟩ = some (.slice bd len' cap')) := fun l' w' h => ⟨h.e.c, h.p.c, h.q.c⟩
  have KA : Hid (∀ (l1 : List (Int × Nat)) (wx : World), Kq w mk w1.heap.size (.int .i64 k) (.int .i64 i) (.int .u64 u) (.string s) (.slice ad len cap) (.int .i64 j) (.int .i64 i') (.int .u64 v) (.string z) (.slice bd len' cap') l1 wx → Calls Tryd.prog 21 #[.agg #[.map (some mk)], .agg #[.int .i64 k, .int .i64 i, .int .u64 u, .string s, .slice ad len cap]] wx fun e w' => ∃ v' l', e = .returned v' ∧ Sx v' ∧ Hid (VS l' n v' a) ∧ Kq w mk w1.heap.size (.int .i64 k) (.int .i64 i) (.int .u64 u) (.string s) (.slice ad len cap) (.int .i64 j) (.int .i64 i') (.int .u64 v) (.string z) (.slice bd len' cap') l' w') := fun l1 wx kx =>
    (value_sh w mk (by omega) n a _ _ _ _ _ l1 wx HV.out.1 HV.out.2.2.1 HV.out.2.2.2.2.1 kx.b kx.m kx.x).mono fun e w' ⟨v', l', he, vs, sh⟩ => ⟨v', l', he, vs_any vs, vs, kx.step hmk' hMk sh⟩
  have KB : Hid (∀ (l1 : List (Int × Nat)) (wx : World), Kq w mk w1.heap.size (.int .i64 k) (.int .i64 i) (.int .u64 u) (.string s) (.slice ad len cap) (.int .i64 j) (.int .i64 i') (.int .u64 v) (.string z) (.slice bd len' cap') l1 wx → Calls Tryd.prog 21 #[.agg #[.map (some mk)], .agg #[.int .i64 j, .int .i64 i', .int .u64 v, .string z, .slice bd len' cap']] wx fun e w' => ∃ v' l', e = .returned v' ∧ Sx v' ∧ Hid (VS l' m v' b) ∧ Hid (∀ x ∈ l1, x ∈ l') ∧ Kq w mk w1.heap.size (.int .i64 k) (.int .i64 i) (.int .u64 u) (.string s) (.slice ad len cap) (.int .i64 j) (.int .i64 i') (.int .u64 v) (.string z) (.slice bd len' cap') l' w') := fun l1 wx kx =>
    (value_sh w mk (by omega) m b _ _ _ _ _ l1 wx HV.out.2.1 HV.out.2.2.2.1 HV.out.2.2.2.2.2 kx.b kx.m kx.x).mono fun e w' ⟨v', l', he, vs, sh⟩ => ⟨v', l', he, vs_any vs, vs, sh.2.2.1, kx.step hmk' hMk sh⟩
  go_wp2_with fail
  go_region_held3 (fun w' => w'.cell? ⟨w1.heap.size, 0, none⟩ = some (.map (some mk)) ∧ (w'.cell? ⟨w.heap.size, 0, none⟩ = some (.int .i64 k) ∧ w'.cell? ⟨w.heap.size, 1, none⟩ = some (.int .i64 i) ∧ w'.cell? ⟨w.heap.size, 2, none⟩ = some (.int .u64 u) ∧ w'.cell? ⟨w.heap.size, 3, none⟩ = some (.string s) ∧ w'.cell? ⟨w.heap.size, 4, none⟩ = some (.slice ad len cap)) ∧ w'.cell? ⟨w.heap.size + 1, 0, none⟩ = some (.int .i64 j) ∧ w'.cell? ⟨w.heap.size + 1, 1, none⟩ = some (.int .i64 i') ∧ w'.cell? ⟨w.heap.size + 1, 2, none⟩ = some (.int .u64 v) ∧ w'.cell? ⟨w.heap.size + 1, 3, none⟩ = some (.string z) ∧ w'.cell? ⟨w.heap.size + 1, 4, none⟩ = some (.slice bd len' cap')) (exact KS.out _ _ (by first | assumption | exact Kq.drew (by assumption))) (first | (go_at_call 21; have hs0 := ‹Sx _›; refine (KB.out _ _ (by first | assumption | exact Kq.drew (by assumption))).mono ?_; rintro e wb ⟨vb, lb, rfl, sb, VB, mb, kb⟩) | (go_at_call 21; refine (KA.out _ _ (by first | assumption | exact Kq.drew (by assumption))).mono ?_; rintro e wa ⟨va, la, rfl, sa, VA, ka⟩))
  have R := eq_run lb wb kb.x n m a b va vb 9997 HV.out.1 HV.out.2.1 (vs_mono mb.out n _ _ VA.out) VB.out (by omega)
  have br := beq_run va vb sa sb wb
  rw [show Op.equal 20 va vb = Op.equalIn (9997 + 3) 20 va vb from rfl] at br
  have c4 := kb.c.c
  have c5 := kb.c.f (o := 0)
  have f4 := kb.d.c
  have f5 := kb.d.f (o := 0)
  have B3 := kb.b
  have hne : (⟨w.heap.size + 1 + 1 + 1, 0, none⟩ : Addr) ≠ ⟨w.heap.size + 1 + 1, 0, none⟩ := by simp
  clear KS KA KB HV VA VB mb ka kb kq0
  rcases R with ⟨hz, hr⟩ | ⟨hz, hfa, pv, hr⟩
  · rw [hr] at br
    simp only [Result.andThen_ok] at br
    have HZ := Lib.hid hz
    generalize hres : (eqT n m a b).1 = res at br
    have HR := Lib.hid hres
    clear hr hz hres hs0
    rcases sa with rfl | ⟨T, z1, rfl⟩
    · rcases sb with rfl | ⟨T', z2, rfl⟩
      · have hq := bnn wb
        rw [hq] at br
        obtain rfl : res = true := by injection br with h; injection h with h'; exact h'.symm
        have heq := fun w => bnn w
        have hg : ∀ w, (eqGuard .eql 20 (.tmp 17) (.tmp 18) .nilIface .nilIface).run Tryd.prog w = .ok () w := fun _ => by kernel_rfl
        clear br hq
        go_wp2
        refine leaves_cons (f := 22) (args := #[.pointer (some ⟨w.heap.size + 1 + 1, 0, none⟩), .pointer (some ⟨w.heap.size + 1 + 1 + 1, 0, none⟩)]) (by simp) (by simp [go_sem]) ?_
        refine (eq_idle ⟨w.heap.size + 1 + 1, 0, none⟩ ⟨w.heap.size + 1 + 1 + 1, 0, none⟩ _).mono ?_
        rintro e u' w'' ⟨rfl, rfl, rfl⟩
        have g1 : (wb.setCell ⟨w.heap.size + 1 + 1, 0, none⟩ (.bool true)).cell? ⟨w.heap.size + 1 + 1, 0, none⟩ = some (.bool true) := by simp [World.cell?_setCell_same, c4]
        have g2 : ((wb.setCell ⟨w.heap.size + 1 + 1, 0, none⟩ (.bool true)).setCell ⟨w.heap.size + 1 + 1 + 1, 0, none⟩ (.int .i64 0)).cell? ⟨w.heap.size + 1 + 1 + 1, 0, none⟩ = some (.int .i64 0) := by simp [World.cell?_setCell_same, World.cell?_setCell_other, f4]
        simp [Leaves, settle, results, Tryd.results11, go_sem, g1, g2, HZ.out, HR.out]
        exact (B3.setCell (by show w.heap.size ≤ w.heap.size + 1 + 1; omega) _).setCell (by show w.heap.size ≤ w.heap.size + 1 + 1 + 1; omega) _
      · have hq := bnv T' z2 wb
        rw [hq] at br
        obtain rfl : res = false := by injection br with h; injection h with h'; exact h'.symm
        have heq := fun w => bnv T' z2 w
        have hg : ∀ w, (eqGuard .eql 20 (.tmp 17) (.tmp 18) .nilIface (.iface T' z2)).run Tryd.prog w = .ok () w := fun _ => by kernel_rfl
        clear br hq
        go_wp2
        refine leaves_cons (f := 22) (args := #[.pointer (some ⟨w.heap.size + 1 + 1, 0, none⟩), .pointer (some ⟨w.heap.size + 1 + 1 + 1, 0, none⟩)]) (by simp) (by simp [go_sem]) ?_
        refine (eq_idle ⟨w.heap.size + 1 + 1, 0, none⟩ ⟨w.heap.size + 1 + 1 + 1, 0, none⟩ _).mono ?_
        rintro e u' w'' ⟨rfl, rfl, rfl⟩
        have g1 : (wb.setCell ⟨w.heap.size + 1 + 1, 0, none⟩ (.bool false)).cell? ⟨w.heap.size + 1 + 1, 0, none⟩ = some (.bool false) := by simp [World.cell?_setCell_same, c4]
        have g2 : ((wb.setCell ⟨w.heap.size + 1 + 1, 0, none⟩ (.bool false)).setCell ⟨w.heap.size + 1 + 1 + 1, 0, none⟩ (.int .i64 0)).cell? ⟨w.heap.size + 1 + 1 + 1, 0, none⟩ = some (.int .i64 0) := by simp [World.cell?_setCell_same, World.cell?_setCell_other, f4]
        simp [Leaves, settle, results, Tryd.results11, go_sem, g1, g2, HZ.out, HR.out]
        exact (B3.setCell (by show w.heap.size ≤ w.heap.size + 1 + 1; omega) _).setCell (by show w.heap.size ≤ w.heap.size + 1 + 1 + 1; omega) _
    · rcases sb with rfl | ⟨T', z2, rfl⟩
      · have hq := bvn T z1 wb
        rw [hq] at br
        obtain rfl : res = false := by injection br with h; injection h with h'; exact h'.symm
        have heq := fun w => bvn T z1 w
        have hg : ∀ w, (eqGuard .eql 20 (.tmp 17) (.tmp 18) (.iface T z1) .nilIface).run Tryd.prog w = .ok () w := fun _ => by kernel_rfl
        clear br hq
        go_wp2
        refine leaves_cons (f := 22) (args := #[.pointer (some ⟨w.heap.size + 1 + 1, 0, none⟩), .pointer (some ⟨w.heap.size + 1 + 1 + 1, 0, none⟩)]) (by simp) (by simp [go_sem]) ?_
        refine (eq_idle ⟨w.heap.size + 1 + 1, 0, none⟩ ⟨w.heap.size + 1 + 1 + 1, 0, none⟩ _).mono ?_
        rintro e u' w'' ⟨rfl, rfl, rfl⟩
        have g1 : (wb.setCell ⟨w.heap.size + 1 + 1, 0, none⟩ (.bool false)).cell? ⟨w.heap.size + 1 + 1, 0, none⟩ = some (.bool false) := by simp [World.cell?_setCell_same, c4]
        have g2 : ((wb.setCell ⟨w.heap.size + 1 + 1, 0, none⟩ (.bool false)).setCell ⟨w.heap.size + 1 + 1 + 1, 0, none⟩ (.int .i64 0)).cell? ⟨w.heap.size + 1 + 1 + 1, 0, none⟩ = some (.int .i64 0) := by simp [World.cell?_setCell_same, World.cell?_setCell_other, f4]
        simp [Leaves, settle, results, Tryd.results11, go_sem, g1, g2, HZ.out, HR.out]
        exact (B3.setCell (by show w.heap.size ≤ w.heap.size + 1 + 1; omega) _).setCell (by show w.heap.size ≤ w.heap.size + 1 + 1 + 1; omega) _
      · have hg : ∀ w, (eqGuard .eql 20 (.tmp 17) (.tmp 18) (.iface T z1) (.iface T' z2)).run Tryd.prog w = .ok () w := fun _ => by kernel_rfl
        go_wp2
        refine leaves_cons (f := 22) (args := #[.pointer (some ⟨w.heap.size + 1 + 1, 0, none⟩), .pointer (some ⟨w.heap.size + 1 + 1 + 1, 0, none⟩)]) (by simp) (by simp [go_sem]) ?_
        refine (eq_idle ⟨w.heap.size + 1 + 1, 0, none⟩ ⟨w.heap.size + 1 + 1 + 1, 0, none⟩ _).mono ?_
        rintro e u' w'' ⟨rfl, rfl, rfl⟩
        have g1 : (wb.setCell ⟨w.heap.size + 1 + 1, 0, none⟩ (.bool res)).cell? ⟨w.heap.size + 1 + 1, 0, none⟩ = some (.bool res) := by simp [World.cell?_setCell_same, c4]
        have g2 : ((wb.setCell ⟨w.heap.size + 1 + 1, 0, none⟩ (.bool res)).setCell ⟨w.heap.size + 1 + 1 + 1, 0, none⟩ (.int .i64 0)).cell? ⟨w.heap.size + 1 + 1 + 1, 0, none⟩ = some (.int .i64 0) := by simp [World.cell?_setCell_same, World.cell?_setCell_other, f4]
        simp [Leaves, settle, results, Tryd.results11, go_sem, g1, g2, HZ.out, HR.out]
        exact (B3.setCell (by show w.heap.size ≤ w.heap.size + 1 + 1; omega) _).setCell (by show w.heap.size ≤ w.heap.size + 1 + 1 + 1; omega) _
  · rw [hr] at br
    simp only [Result.andThen_halt] at br
    have HZ := Lib.hid hz
    have HF := Lib.hid hfa
    clear hr hz hfa hs0
    rcases sa with rfl | ⟨T, z1, rfl⟩
    · rcases sb with rfl | ⟨T', z2, rfl⟩
      · rw [bnn wb] at br
        cases br
      · rw [bnv T' z2 wb] at br
        cases br
    · rcases sb with rfl | ⟨T', z2, rfl⟩
      · rw [bvn T z1 wb] at br
        cases br
      · have hg : ∀ w, (eqGuard .eql 20 (.tmp 17) (.tmp 18) (.iface T z1) (.iface T' z2)).run Tryd.prog w = .ok () w := fun _ => by kernel_rfl
        go_wp2
        refine leaves_cons (f := 22) (args := #[.pointer (some ⟨w.heap.size + 1 + 1, 0, none⟩), .pointer (some ⟨w.heap.size + 1 + 1 + 1, 0, none⟩)]) (by simp) (by simp [go_sem]) ?_
        refine (eq_catch (w.heap.size + 1 + 1) (w.heap.size + 1 + 1 + 1) (by omega) 10 pv [] _ false 0 c4 c5 f4 f5).mono ?_
        rintro e u' w'' ⟨rfl, rfl, rfl⟩
        have g1 : (wb.setCell ⟨w.heap.size + 1 + 1, 0, none⟩ (.bool false)).cell? ⟨w.heap.size + 1 + 1, 0, none⟩ = some (.bool false) := by simp [World.cell?_setCell_same, c4]
        have g2 : ((wb.setCell ⟨w.heap.size + 1 + 1, 0, none⟩ (.bool false)).setCell ⟨w.heap.size + 1 + 1 + 1, 0, none⟩ (.int .i64 10)).cell? ⟨w.heap.size + 1 + 1 + 1, 0, none⟩ = some (.int .i64 10) := by simp [World.cell?_setCell_same, World.cell?_setCell_other, f4]
        simp [Leaves, settle, results, Tryd.results11, go_sem, g1, g2, HZ.out, HF.out]
        exact (B3.setCell (by show w.heap.size ≤ w.heap.size + 1 + 1; omega) _).setCell (by show w.heap.size ≤ w.heap.size + 1 + 1 + 1; omega) _
end Go.Proofs.YtfanoiomiijlgaaDoor
