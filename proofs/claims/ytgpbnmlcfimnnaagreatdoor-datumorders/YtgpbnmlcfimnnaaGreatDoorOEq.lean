/- What the package's Equal answers of two values of one kind that has an order: it returns, with the answer of ==, and with new memory alone; no condition but the kind. -/
import Derived.Test.YtgpbnmlcfimnnaaGreatDoorOLeaf
import Derived.Defers
import Derived.Recover
namespace Go.Proofs.YtgpbnmlcfimnnaaGreatDoor.Dt
open Go.RowKit
set_option maxRecDepth 100000 in
set_option maxHeartbeats 1000000 in
theorem sharing (w : World) : Calls Tryz.prog 18 #[] w fun e w' => ∃ k, e = .returned (.agg #[.map (some k)]) ∧ Below w.heap.size w w' := by
  have hmm := @run_makeMap Tryz.prog
  go_enter Tryz.func18, Tryz.ntmps18
  go_wp2
  refine bodyPost_ret (v := .agg #[.map (some (w.heap.size+1))]) (by simp [results, Tryz.results18, go_sem]) rfl ⟨_, rfl, ?_⟩
  exact ((Below.refl _ w).alloc (Nat.le_refl _) _).alloc (by simp) _


theorem eq_idle (p q : Addr) (w : World) :
    CallsD Tryz.prog 20 #[.pointer (some p), .pointer (some q)] .returning w fun e u' w' => e = .returned (.tuple #[]) ∧ u' = .returning ∧ w' = w := by
  refine callsD_of_wpS Tryz.func20 rfl fun c₀ cs hu => ?_
  apply wpS_seq
  apply wpS_region
  simp [wpOpsS, go_sem, recoverD, hu, Tryz.ntmps20, Exit.thenS]
  refine wpS_cond (t := false) (by simp [Act.eval, Array.replicate]) ?_
  simp only [Bool.false_eq_true, if_false]
  refine wpS_of_wp (wp_skip ?_)
  cases c₀
  simp_all [bodyPostS, results, Tryz.results20]

/-- A block holds one cell. -/
def C1 (w : World) (N : Nat) (t : TypeId) (v : Value) : Prop := w.heap[N]? = some (.cells #[v] t (0, 0))
theorem C1.lt {w : World} {N : Nat} {t : TypeId} {v : Value} (h : C1 w N t v) : N < w.heap.size := (Array.getElem?_eq_some_iff.1 h).1
theorem C1.below {w w' : World} {N : Nat} {t : TypeId} {v : Value} (h : C1 w N t v) (hb : Below w.heap.size w w') : C1 w' N t v := (hb.block N h.lt).trans h
theorem C1.c {w : World} {N : Nat} {t : TypeId} {v : Value} (h : C1 w N t v) : w.cell? ⟨N, 0, none⟩ = some v := by unfold C1 at h; simp [World.cell?, h]
theorem C1.f {w : World} {N o : Nat} {t : TypeId} {v : Value} (h : C1 w N t v) : w.frozen? ⟨N, o, none⟩ = false := by unfold C1 at h; simp [World.frozen?, h]
theorem C1.new (w : World) (t : TypeId) (v : Value) : C1 (w.alloc (.cells #[v] t)) w.heap.size t v := heap_alloc_new w _

set_option maxRecDepth 100000 in
set_option maxHeartbeats 2000000 in
theorem odEqual1 (i u j v : Int) (s z : ByteArray) (ad bd : Option Addr) (len cap len' cap' : Nat) (w : World) :
    Calls Tryz.prog 8 #[.agg #[.int .i64 1, .int .i64 i, .int .u64 u, .string s, .slice ad len cap], .agg #[.int .i64 1, .int .i64 j, .int .u64 v, .string z, .slice bd len' cap']] w fun e w' => e = .returned (.tuple #[.bool (i == j), .int .i64 0]) ∧ Below w.heap.size w w' := by
  have hmf : ∀ (fn : Fn) (first cap : Array Value) (w : World), (Instr.makeFunc fn first cap).run Tryz.prog w = .ok (.func fn first cap) w := fun _ _ _ _ => rfl
  have heq : ∀ w, (binOp .eql 20 (.iface 73 (.int .i64 i)) (.iface 73 (.int .i64 j))).run Tryz.prog w = .ok (.bool (i == j)) w := fun _ => by kernel_rfl
  have b0 : ∀ o1 o2 o3 o4 : Obj, Below w.heap.size w ((((w.alloc o1).alloc o2).alloc o3).alloc o4) := fun o1 o2 o3 o4 => ((((Below.refl _ w).alloc (Nat.le_refl _) _).alloc (by simp) _).alloc (by simp; omega) _).alloc (by simp; omega) _
  have da : ∀ o2 o3 o4 : Obj, D5 ((((w.alloc (.cells #[.int .i64 1, .int .i64 i, .int .u64 u, .string s, .slice ad len cap] 25)).alloc o2).alloc o3).alloc o4) w.heap.size (.int .i64 1) (.int .i64 i) (.int .u64 u) (.string s) (.slice ad len cap) := fun o2 o3 o4 =>
    (((D5.new w _ _ _ _ _).below (below1 _ o2)).below (below1 _ o3)).below (below1 _ o4)
  have db : ∀ o1 o3 o4 : Obj, D5 ((((w.alloc o1).alloc (.cells #[.int .i64 1, .int .i64 j, .int .u64 v, .string z, .slice bd len' cap'] 25)).alloc o3).alloc o4) (w.heap.size + 1) (.int .i64 1) (.int .i64 j) (.int .u64 v) (.string z) (.slice bd len' cap') := fun o1 o3 o4 => by
    have := D5.new (w.alloc o1) (.int .i64 1) (.int .i64 j) (.int .u64 v) (.string z) (.slice bd len' cap')
    rw [World.size_alloc] at this
    exact (this.below (below1 _ o3)).below (below1 _ o4)
  have dc : ∀ o1 o2 o4 : Obj, C1 ((((w.alloc o1).alloc o2).alloc (.cells #[.bool false] 4)).alloc o4) (w.heap.size + 1 + 1) 4 (.bool false) := fun o1 o2 o4 => by
    have := C1.new ((w.alloc o1).alloc o2) 4 (.bool false)
    rw [World.size_alloc, World.size_alloc] at this
    exact this.below (below1 _ o4)
  have dd : ∀ o1 o2 o3 : Obj, C1 ((((w.alloc o1).alloc o2).alloc o3).alloc (.cells #[.int .i64 0] 29)) (w.heap.size + 1 + 1 + 1) 29 (.int .i64 0) := fun o1 o2 o3 => by
    have := C1.new (((w.alloc o1).alloc o2).alloc o3) 29 (.int .i64 0)
    rw [World.size_alloc, World.size_alloc, World.size_alloc] at this
    exact this
  go_enter_defers Tryz.func8, Tryz.ntmps8
  go_wp2_with fail
  refine (sharing _).mono ?_
  rintro e w1 ⟨mk, rfl, b1⟩
  have a1 := (da _ _ _).below b1
  have e1 := (db _ _ _).below b1
  have c1 := (dc _ _ _).below b1
  have f1 := (dd _ _ _).below b1
  have B1 := (b0 _ _ _ _).trans (b1.mono (by simp; omega))
  clear da db dc dd b0 b1
  have bm := below1 w1 (.cells #[.map (some mk)] 48)
  have m2 := C1.new w1 48 (.map (some mk))
  have a2 := a1.below bm
  have e2 := e1.below bm
  have c2 := c1.below bm
  have f2 := f1.below bm
  have B2 := B1.trans (bm.mono B1.size)
  have hlt := f1.lt
  have hB := B1.size
  clear bm a1 e1 c1 f1 B1
  have KS : Hid (∀ w' : World, Below (w1.heap.size + 1) (w1.alloc (.cells #[.map (some mk)] 48)) w' →
      w'.cell? ⟨w1.heap.size, 0, none⟩ = some (.map (some mk)) ∧ (w'.cell? ⟨w.heap.size, 0, none⟩ = some (.int .i64 1) ∧ w'.cell? ⟨w.heap.size, 1, none⟩ = some (.int .i64 i) ∧ w'.cell? ⟨w.heap.size, 2, none⟩ = some (.int .u64 u) ∧ w'.cell? ⟨w.heap.size, 3, none⟩ = some (.string s) ∧ w'.cell? ⟨w.heap.size, 4, none⟩ = some (.slice ad len cap)) ∧ w'.cell? ⟨w.heap.size + 1, 0, none⟩ = some (.int .i64 1) ∧ w'.cell? ⟨w.heap.size + 1, 1, none⟩ = some (.int .i64 j) ∧ w'.cell? ⟨w.heap.size + 1, 2, none⟩ = some (.int .u64 v) ∧ w'.cell? ⟨w.heap.size + 1, 3, none⟩ = some (.string z) ∧ w'.cell? ⟨w.heap.size + 1, 4, none⟩ = some (.slice bd len' cap')) := fun w' h => by
    have h' : Below (w1.alloc (.cells #[.map (some mk)] 48)).heap.size (w1.alloc (.cells #[.map (some mk)] 48)) w' := by rw [World.size_alloc]; exact h
    exact ⟨(m2.below h').c, (a2.below h').c, (e2.below h').c⟩
  have KG : Hid (∀ (i u : Int) (s : ByteArray) (ad : Option Addr) (len cap : Nat) (wx : World), Below (w1.heap.size + 1) (w1.alloc (.cells #[.map (some mk)] 48)) wx → Calls Tryz.prog 19 #[.agg #[.map (some mk)], .agg #[.int .i64 1, .int .i64 i, .int .u64 u, .string s, .slice ad len cap]] wx fun e w' => e = .returned (.iface 73 (.int .i64 i)) ∧ Below (w1.heap.size + 1) (w1.alloc (.cells #[.map (some mk)] 48)) w') := fun i u s ad len cap wx hx =>
    (odLeaf1 (some mk) i u s ad len cap wx).mono fun e w' ⟨he, hb⟩ => ⟨he, hx.trans (hb.mono (by have := hx.size; rwa [World.size_alloc] at this))⟩
  have HM := Lib.hid (And.intro m2 (And.intro a2 (And.intro e2 (And.intro c2 (And.intro f2 B2)))))
  clear m2 a2 e2 c2 f2 B2
  go_wp2_with fail
  go_region_held3 (fun w' => w'.cell? ⟨w1.heap.size, 0, none⟩ = some (.map (some mk)) ∧ (w'.cell? ⟨w.heap.size, 0, none⟩ = some (.int .i64 1) ∧ w'.cell? ⟨w.heap.size, 1, none⟩ = some (.int .i64 i) ∧ w'.cell? ⟨w.heap.size, 2, none⟩ = some (.int .u64 u) ∧ w'.cell? ⟨w.heap.size, 3, none⟩ = some (.string s) ∧ w'.cell? ⟨w.heap.size, 4, none⟩ = some (.slice ad len cap)) ∧ w'.cell? ⟨w.heap.size + 1, 0, none⟩ = some (.int .i64 1) ∧ w'.cell? ⟨w.heap.size + 1, 1, none⟩ = some (.int .i64 j) ∧ w'.cell? ⟨w.heap.size + 1, 2, none⟩ = some (.int .u64 v) ∧ w'.cell? ⟨w.heap.size + 1, 3, none⟩ = some (.string z) ∧ w'.cell? ⟨w.heap.size + 1, 4, none⟩ = some (.slice bd len' cap')) (exact KS.out _ (by first | assumption | exact Below.refl _ _ | exact Below.drew (Below.refl _ _))) (first | (go_at_call 19; refine (KG.out _ _ _ _ _ _ _ (by first | assumption | exact Below.drew (Below.refl _ _) | exact Below.refl _ _ | exact Below.drew (by assumption))).mono ?_; rintro e wn ⟨rfl, bn⟩))
  obtain ⟨-, -, -, c2, f2, B2⟩ := HM.out
  have hbn : Below (w1.alloc (.cells #[.map (some mk)] 48)).heap.size (w1.alloc (.cells #[.map (some mk)] 48)) wn := by rw [World.size_alloc]; exact bn
  have c3 := c2.below hbn
  have f3 := f2.below hbn
  have B3 := B2.trans (hbn.mono B2.size)
  have c4 := c3.c
  have c5 := c3.f (o := 0)
  have f4 := f3.c
  have f5 := f3.f (o := 0)
  clear KS KG HM c2 f2 B2 hbn c3 f3 bn
  go_wp2
  refine leaves_cons (f := 20) (args := #[.pointer (some ⟨w.heap.size + 1 + 1, 0, none⟩), .pointer (some ⟨w.heap.size + 1 + 1 + 1, 0, none⟩)]) (by simp) (by simp [go_sem]) ?_
  refine (eq_idle ⟨w.heap.size + 1 + 1, 0, none⟩ ⟨w.heap.size + 1 + 1 + 1, 0, none⟩ _).mono ?_
  rintro e u' w'' ⟨rfl, rfl, rfl⟩
  have hne : (⟨w.heap.size + 1 + 1 + 1, 0, none⟩ : Addr) ≠ ⟨w.heap.size + 1 + 1, 0, none⟩ := by simp
  have g1 : (wn.setCell ⟨w.heap.size + 1 + 1, 0, none⟩ (.bool (i == j))).cell? ⟨w.heap.size + 1 + 1, 0, none⟩ = some (.bool (i == j)) := by simp [World.cell?_setCell_same, c4]
  have g2 : ((wn.setCell ⟨w.heap.size + 1 + 1, 0, none⟩ (.bool (i == j))).setCell ⟨w.heap.size + 1 + 1 + 1, 0, none⟩ (.int .i64 0)).cell? ⟨w.heap.size + 1 + 1 + 1, 0, none⟩ = some (.int .i64 0) := by simp [World.cell?_setCell_same, World.cell?_setCell_other, f4]
  simp [Leaves, settle, results, Tryz.results8, go_sem, g1, g2]
  exact (B3.setCell (by show w.heap.size ≤ w.heap.size + 1 + 1; omega) _).setCell (by show w.heap.size ≤ w.heap.size + 1 + 1 + 1; omega) _
set_option maxRecDepth 100000 in
set_option maxHeartbeats 2000000 in
theorem odEqual2 (i u j v : Int) (s z : ByteArray) (ad bd : Option Addr) (len cap len' cap' : Nat) (w : World) :
    Calls Tryz.prog 8 #[.agg #[.int .i64 2, .int .i64 i, .int .u64 u, .string s, .slice ad len cap], .agg #[.int .i64 2, .int .i64 j, .int .u64 v, .string z, .slice bd len' cap']] w fun e w' => e = .returned (.tuple #[.bool (i == j), .int .i64 0]) ∧ Below w.heap.size w w' := by
  have hmf : ∀ (fn : Fn) (first cap : Array Value) (w : World), (Instr.makeFunc fn first cap).run Tryz.prog w = .ok (.func fn first cap) w := fun _ _ _ _ => rfl
  have heq : ∀ w, (binOp .eql 20 (.iface 74 (.int .i64 i)) (.iface 74 (.int .i64 j))).run Tryz.prog w = .ok (.bool (i == j)) w := fun _ => by kernel_rfl
  have b0 : ∀ o1 o2 o3 o4 : Obj, Below w.heap.size w ((((w.alloc o1).alloc o2).alloc o3).alloc o4) := fun o1 o2 o3 o4 => ((((Below.refl _ w).alloc (Nat.le_refl _) _).alloc (by simp) _).alloc (by simp; omega) _).alloc (by simp; omega) _
  have da : ∀ o2 o3 o4 : Obj, D5 ((((w.alloc (.cells #[.int .i64 2, .int .i64 i, .int .u64 u, .string s, .slice ad len cap] 25)).alloc o2).alloc o3).alloc o4) w.heap.size (.int .i64 2) (.int .i64 i) (.int .u64 u) (.string s) (.slice ad len cap) := fun o2 o3 o4 =>
    (((D5.new w _ _ _ _ _).below (below1 _ o2)).below (below1 _ o3)).below (below1 _ o4)
  have db : ∀ o1 o3 o4 : Obj, D5 ((((w.alloc o1).alloc (.cells #[.int .i64 2, .int .i64 j, .int .u64 v, .string z, .slice bd len' cap'] 25)).alloc o3).alloc o4) (w.heap.size + 1) (.int .i64 2) (.int .i64 j) (.int .u64 v) (.string z) (.slice bd len' cap') := fun o1 o3 o4 => by
    have := D5.new (w.alloc o1) (.int .i64 2) (.int .i64 j) (.int .u64 v) (.string z) (.slice bd len' cap')
    rw [World.size_alloc] at this
    exact (this.below (below1 _ o3)).below (below1 _ o4)
  have dc : ∀ o1 o2 o4 : Obj, C1 ((((w.alloc o1).alloc o2).alloc (.cells #[.bool false] 4)).alloc o4) (w.heap.size + 1 + 1) 4 (.bool false) := fun o1 o2 o4 => by
    have := C1.new ((w.alloc o1).alloc o2) 4 (.bool false)
    rw [World.size_alloc, World.size_alloc] at this
    exact this.below (below1 _ o4)
  have dd : ∀ o1 o2 o3 : Obj, C1 ((((w.alloc o1).alloc o2).alloc o3).alloc (.cells #[.int .i64 0] 29)) (w.heap.size + 1 + 1 + 1) 29 (.int .i64 0) := fun o1 o2 o3 => by
    have := C1.new (((w.alloc o1).alloc o2).alloc o3) 29 (.int .i64 0)
    rw [World.size_alloc, World.size_alloc, World.size_alloc] at this
    exact this
  go_enter_defers Tryz.func8, Tryz.ntmps8
  go_wp2_with fail
  refine (sharing _).mono ?_
  rintro e w1 ⟨mk, rfl, b1⟩
  have a1 := (da _ _ _).below b1
  have e1 := (db _ _ _).below b1
  have c1 := (dc _ _ _).below b1
  have f1 := (dd _ _ _).below b1
  have B1 := (b0 _ _ _ _).trans (b1.mono (by simp; omega))
  clear da db dc dd b0 b1
  have bm := below1 w1 (.cells #[.map (some mk)] 48)
  have m2 := C1.new w1 48 (.map (some mk))
  have a2 := a1.below bm
  have e2 := e1.below bm
  have c2 := c1.below bm
  have f2 := f1.below bm
  have B2 := B1.trans (bm.mono B1.size)
  have hlt := f1.lt
  have hB := B1.size
  clear bm a1 e1 c1 f1 B1
  have KS : Hid (∀ w' : World, Below (w1.heap.size + 1) (w1.alloc (.cells #[.map (some mk)] 48)) w' →
      w'.cell? ⟨w1.heap.size, 0, none⟩ = some (.map (some mk)) ∧ (w'.cell? ⟨w.heap.size, 0, none⟩ = some (.int .i64 2) ∧ w'.cell? ⟨w.heap.size, 1, none⟩ = some (.int .i64 i) ∧ w'.cell? ⟨w.heap.size, 2, none⟩ = some (.int .u64 u) ∧ w'.cell? ⟨w.heap.size, 3, none⟩ = some (.string s) ∧ w'.cell? ⟨w.heap.size, 4, none⟩ = some (.slice ad len cap)) ∧ w'.cell? ⟨w.heap.size + 1, 0, none⟩ = some (.int .i64 2) ∧ w'.cell? ⟨w.heap.size + 1, 1, none⟩ = some (.int .i64 j) ∧ w'.cell? ⟨w.heap.size + 1, 2, none⟩ = some (.int .u64 v) ∧ w'.cell? ⟨w.heap.size + 1, 3, none⟩ = some (.string z) ∧ w'.cell? ⟨w.heap.size + 1, 4, none⟩ = some (.slice bd len' cap')) := fun w' h => by
    have h' : Below (w1.alloc (.cells #[.map (some mk)] 48)).heap.size (w1.alloc (.cells #[.map (some mk)] 48)) w' := by rw [World.size_alloc]; exact h
    exact ⟨(m2.below h').c, (a2.below h').c, (e2.below h').c⟩
  have KG : Hid (∀ (i u : Int) (s : ByteArray) (ad : Option Addr) (len cap : Nat) (wx : World), Below (w1.heap.size + 1) (w1.alloc (.cells #[.map (some mk)] 48)) wx → Calls Tryz.prog 19 #[.agg #[.map (some mk)], .agg #[.int .i64 2, .int .i64 i, .int .u64 u, .string s, .slice ad len cap]] wx fun e w' => e = .returned (.iface 74 (.int .i64 i)) ∧ Below (w1.heap.size + 1) (w1.alloc (.cells #[.map (some mk)] 48)) w') := fun i u s ad len cap wx hx =>
    (odLeaf2 (some mk) i u s ad len cap wx).mono fun e w' ⟨he, hb⟩ => ⟨he, hx.trans (hb.mono (by have := hx.size; rwa [World.size_alloc] at this))⟩
  have HM := Lib.hid (And.intro m2 (And.intro a2 (And.intro e2 (And.intro c2 (And.intro f2 B2)))))
  clear m2 a2 e2 c2 f2 B2
  go_wp2_with fail
  go_region_held3 (fun w' => w'.cell? ⟨w1.heap.size, 0, none⟩ = some (.map (some mk)) ∧ (w'.cell? ⟨w.heap.size, 0, none⟩ = some (.int .i64 2) ∧ w'.cell? ⟨w.heap.size, 1, none⟩ = some (.int .i64 i) ∧ w'.cell? ⟨w.heap.size, 2, none⟩ = some (.int .u64 u) ∧ w'.cell? ⟨w.heap.size, 3, none⟩ = some (.string s) ∧ w'.cell? ⟨w.heap.size, 4, none⟩ = some (.slice ad len cap)) ∧ w'.cell? ⟨w.heap.size + 1, 0, none⟩ = some (.int .i64 2) ∧ w'.cell? ⟨w.heap.size + 1, 1, none⟩ = some (.int .i64 j) ∧ w'.cell? ⟨w.heap.size + 1, 2, none⟩ = some (.int .u64 v) ∧ w'.cell? ⟨w.heap.size + 1, 3, none⟩ = some (.string z) ∧ w'.cell? ⟨w.heap.size + 1, 4, none⟩ = some (.slice bd len' cap')) (exact KS.out _ (by first | assumption | exact Below.refl _ _ | exact Below.drew (Below.refl _ _))) (first | (go_at_call 19; refine (KG.out _ _ _ _ _ _ _ (by first | assumption | exact Below.drew (Below.refl _ _) | exact Below.refl _ _ | exact Below.drew (by assumption))).mono ?_; rintro e wn ⟨rfl, bn⟩))
  obtain ⟨-, -, -, c2, f2, B2⟩ := HM.out
  have hbn : Below (w1.alloc (.cells #[.map (some mk)] 48)).heap.size (w1.alloc (.cells #[.map (some mk)] 48)) wn := by rw [World.size_alloc]; exact bn
  have c3 := c2.below hbn
  have f3 := f2.below hbn
  have B3 := B2.trans (hbn.mono B2.size)
  have c4 := c3.c
  have c5 := c3.f (o := 0)
  have f4 := f3.c
  have f5 := f3.f (o := 0)
  clear KS KG HM c2 f2 B2 hbn c3 f3 bn
  go_wp2
  refine leaves_cons (f := 20) (args := #[.pointer (some ⟨w.heap.size + 1 + 1, 0, none⟩), .pointer (some ⟨w.heap.size + 1 + 1 + 1, 0, none⟩)]) (by simp) (by simp [go_sem]) ?_
  refine (eq_idle ⟨w.heap.size + 1 + 1, 0, none⟩ ⟨w.heap.size + 1 + 1 + 1, 0, none⟩ _).mono ?_
  rintro e u' w'' ⟨rfl, rfl, rfl⟩
  have hne : (⟨w.heap.size + 1 + 1 + 1, 0, none⟩ : Addr) ≠ ⟨w.heap.size + 1 + 1, 0, none⟩ := by simp
  have g1 : (wn.setCell ⟨w.heap.size + 1 + 1, 0, none⟩ (.bool (i == j))).cell? ⟨w.heap.size + 1 + 1, 0, none⟩ = some (.bool (i == j)) := by simp [World.cell?_setCell_same, c4]
  have g2 : ((wn.setCell ⟨w.heap.size + 1 + 1, 0, none⟩ (.bool (i == j))).setCell ⟨w.heap.size + 1 + 1 + 1, 0, none⟩ (.int .i64 0)).cell? ⟨w.heap.size + 1 + 1 + 1, 0, none⟩ = some (.int .i64 0) := by simp [World.cell?_setCell_same, World.cell?_setCell_other, f4]
  simp [Leaves, settle, results, Tryz.results8, go_sem, g1, g2]
  exact (B3.setCell (by show w.heap.size ≤ w.heap.size + 1 + 1; omega) _).setCell (by show w.heap.size ≤ w.heap.size + 1 + 1 + 1; omega) _
set_option maxRecDepth 100000 in
set_option maxHeartbeats 2000000 in
theorem odEqual3 (i u j v : Int) (s z : ByteArray) (ad bd : Option Addr) (len cap len' cap' : Nat) (w : World) :
    Calls Tryz.prog 8 #[.agg #[.int .i64 3, .int .i64 i, .int .u64 u, .string s, .slice ad len cap], .agg #[.int .i64 3, .int .i64 j, .int .u64 v, .string z, .slice bd len' cap']] w fun e w' => e = .returned (.tuple #[.bool (FloatKind.f64.format.order u.toNat v.toNat == some .eq), .int .i64 0]) ∧ Below w.heap.size w w' := by
  have hmf : ∀ (fn : Fn) (first cap : Array Value) (w : World), (Instr.makeFunc fn first cap).run Tryz.prog w = .ok (.func fn first cap) w := fun _ _ _ _ => rfl
  have heq : ∀ w, (binOp .eql 20 (.iface 76 (.float .f64 u.toNat)) (.iface 76 (.float .f64 v.toNat))).run Tryz.prog w = .ok (.bool (FloatKind.f64.format.order u.toNat v.toNat == some .eq)) w := fun _ => by kernel_rfl
  have b0 : ∀ o1 o2 o3 o4 : Obj, Below w.heap.size w ((((w.alloc o1).alloc o2).alloc o3).alloc o4) := fun o1 o2 o3 o4 => ((((Below.refl _ w).alloc (Nat.le_refl _) _).alloc (by simp) _).alloc (by simp; omega) _).alloc (by simp; omega) _
  have da : ∀ o2 o3 o4 : Obj, D5 ((((w.alloc (.cells #[.int .i64 3, .int .i64 i, .int .u64 u, .string s, .slice ad len cap] 25)).alloc o2).alloc o3).alloc o4) w.heap.size (.int .i64 3) (.int .i64 i) (.int .u64 u) (.string s) (.slice ad len cap) := fun o2 o3 o4 =>
    (((D5.new w _ _ _ _ _).below (below1 _ o2)).below (below1 _ o3)).below (below1 _ o4)
  have db : ∀ o1 o3 o4 : Obj, D5 ((((w.alloc o1).alloc (.cells #[.int .i64 3, .int .i64 j, .int .u64 v, .string z, .slice bd len' cap'] 25)).alloc o3).alloc o4) (w.heap.size + 1) (.int .i64 3) (.int .i64 j) (.int .u64 v) (.string z) (.slice bd len' cap') := fun o1 o3 o4 => by
    have := D5.new (w.alloc o1) (.int .i64 3) (.int .i64 j) (.int .u64 v) (.string z) (.slice bd len' cap')
    rw [World.size_alloc] at this
    exact (this.below (below1 _ o3)).below (below1 _ o4)
  have dc : ∀ o1 o2 o4 : Obj, C1 ((((w.alloc o1).alloc o2).alloc (.cells #[.bool false] 4)).alloc o4) (w.heap.size + 1 + 1) 4 (.bool false) := fun o1 o2 o4 => by
    have := C1.new ((w.alloc o1).alloc o2) 4 (.bool false)
    rw [World.size_alloc, World.size_alloc] at this
    exact this.below (below1 _ o4)
  have dd : ∀ o1 o2 o3 : Obj, C1 ((((w.alloc o1).alloc o2).alloc o3).alloc (.cells #[.int .i64 0] 29)) (w.heap.size + 1 + 1 + 1) 29 (.int .i64 0) := fun o1 o2 o3 => by
    have := C1.new (((w.alloc o1).alloc o2).alloc o3) 29 (.int .i64 0)
    rw [World.size_alloc, World.size_alloc, World.size_alloc] at this
    exact this
  go_enter_defers Tryz.func8, Tryz.ntmps8
  go_wp2_with fail
  refine (sharing _).mono ?_
  rintro e w1 ⟨mk, rfl, b1⟩
  have a1 := (da _ _ _).below b1
  have e1 := (db _ _ _).below b1
  have c1 := (dc _ _ _).below b1
  have f1 := (dd _ _ _).below b1
  have B1 := (b0 _ _ _ _).trans (b1.mono (by simp; omega))
  clear da db dc dd b0 b1
  have bm := below1 w1 (.cells #[.map (some mk)] 48)
  have m2 := C1.new w1 48 (.map (some mk))
  have a2 := a1.below bm
  have e2 := e1.below bm
  have c2 := c1.below bm
  have f2 := f1.below bm
  have B2 := B1.trans (bm.mono B1.size)
  have hlt := f1.lt
  have hB := B1.size
  clear bm a1 e1 c1 f1 B1
  have KS : Hid (∀ w' : World, Below (w1.heap.size + 1) (w1.alloc (.cells #[.map (some mk)] 48)) w' →
      w'.cell? ⟨w1.heap.size, 0, none⟩ = some (.map (some mk)) ∧ (w'.cell? ⟨w.heap.size, 0, none⟩ = some (.int .i64 3) ∧ w'.cell? ⟨w.heap.size, 1, none⟩ = some (.int .i64 i) ∧ w'.cell? ⟨w.heap.size, 2, none⟩ = some (.int .u64 u) ∧ w'.cell? ⟨w.heap.size, 3, none⟩ = some (.string s) ∧ w'.cell? ⟨w.heap.size, 4, none⟩ = some (.slice ad len cap)) ∧ w'.cell? ⟨w.heap.size + 1, 0, none⟩ = some (.int .i64 3) ∧ w'.cell? ⟨w.heap.size + 1, 1, none⟩ = some (.int .i64 j) ∧ w'.cell? ⟨w.heap.size + 1, 2, none⟩ = some (.int .u64 v) ∧ w'.cell? ⟨w.heap.size + 1, 3, none⟩ = some (.string z) ∧ w'.cell? ⟨w.heap.size + 1, 4, none⟩ = some (.slice bd len' cap')) := fun w' h => by
    have h' : Below (w1.alloc (.cells #[.map (some mk)] 48)).heap.size (w1.alloc (.cells #[.map (some mk)] 48)) w' := by rw [World.size_alloc]; exact h
    exact ⟨(m2.below h').c, (a2.below h').c, (e2.below h').c⟩
  have KG : Hid (∀ (i u : Int) (s : ByteArray) (ad : Option Addr) (len cap : Nat) (wx : World), Below (w1.heap.size + 1) (w1.alloc (.cells #[.map (some mk)] 48)) wx → Calls Tryz.prog 19 #[.agg #[.map (some mk)], .agg #[.int .i64 3, .int .i64 i, .int .u64 u, .string s, .slice ad len cap]] wx fun e w' => e = .returned (.iface 76 (.float .f64 u.toNat)) ∧ Below (w1.heap.size + 1) (w1.alloc (.cells #[.map (some mk)] 48)) w') := fun i u s ad len cap wx hx =>
    (odLeaf3 (some mk) i u s ad len cap wx).mono fun e w' ⟨he, hb⟩ => ⟨he, hx.trans (hb.mono (by have := hx.size; rwa [World.size_alloc] at this))⟩
  have HM := Lib.hid (And.intro m2 (And.intro a2 (And.intro e2 (And.intro c2 (And.intro f2 B2)))))
  clear m2 a2 e2 c2 f2 B2
  go_wp2_with fail
  go_region_held3 (fun w' => w'.cell? ⟨w1.heap.size, 0, none⟩ = some (.map (some mk)) ∧ (w'.cell? ⟨w.heap.size, 0, none⟩ = some (.int .i64 3) ∧ w'.cell? ⟨w.heap.size, 1, none⟩ = some (.int .i64 i) ∧ w'.cell? ⟨w.heap.size, 2, none⟩ = some (.int .u64 u) ∧ w'.cell? ⟨w.heap.size, 3, none⟩ = some (.string s) ∧ w'.cell? ⟨w.heap.size, 4, none⟩ = some (.slice ad len cap)) ∧ w'.cell? ⟨w.heap.size + 1, 0, none⟩ = some (.int .i64 3) ∧ w'.cell? ⟨w.heap.size + 1, 1, none⟩ = some (.int .i64 j) ∧ w'.cell? ⟨w.heap.size + 1, 2, none⟩ = some (.int .u64 v) ∧ w'.cell? ⟨w.heap.size + 1, 3, none⟩ = some (.string z) ∧ w'.cell? ⟨w.heap.size + 1, 4, none⟩ = some (.slice bd len' cap')) (exact KS.out _ (by first | assumption | exact Below.refl _ _ | exact Below.drew (Below.refl _ _))) (first | (go_at_call 19; refine (KG.out _ _ _ _ _ _ _ (by first | assumption | exact Below.drew (Below.refl _ _) | exact Below.refl _ _ | exact Below.drew (by assumption))).mono ?_; rintro e wn ⟨rfl, bn⟩))
  obtain ⟨-, -, -, c2, f2, B2⟩ := HM.out
  have hbn : Below (w1.alloc (.cells #[.map (some mk)] 48)).heap.size (w1.alloc (.cells #[.map (some mk)] 48)) wn := by rw [World.size_alloc]; exact bn
  have c3 := c2.below hbn
  have f3 := f2.below hbn
  have B3 := B2.trans (hbn.mono B2.size)
  have c4 := c3.c
  have c5 := c3.f (o := 0)
  have f4 := f3.c
  have f5 := f3.f (o := 0)
  clear KS KG HM c2 f2 B2 hbn c3 f3 bn
  go_wp2
  refine leaves_cons (f := 20) (args := #[.pointer (some ⟨w.heap.size + 1 + 1, 0, none⟩), .pointer (some ⟨w.heap.size + 1 + 1 + 1, 0, none⟩)]) (by simp) (by simp [go_sem]) ?_
  refine (eq_idle ⟨w.heap.size + 1 + 1, 0, none⟩ ⟨w.heap.size + 1 + 1 + 1, 0, none⟩ _).mono ?_
  rintro e u' w'' ⟨rfl, rfl, rfl⟩
  have hne : (⟨w.heap.size + 1 + 1 + 1, 0, none⟩ : Addr) ≠ ⟨w.heap.size + 1 + 1, 0, none⟩ := by simp
  have g1 : (wn.setCell ⟨w.heap.size + 1 + 1, 0, none⟩ (.bool (FloatKind.f64.format.order u.toNat v.toNat == some .eq))).cell? ⟨w.heap.size + 1 + 1, 0, none⟩ = some (.bool (FloatKind.f64.format.order u.toNat v.toNat == some .eq)) := by simp [World.cell?_setCell_same, c4]
  have g2 : ((wn.setCell ⟨w.heap.size + 1 + 1, 0, none⟩ (.bool (FloatKind.f64.format.order u.toNat v.toNat == some .eq))).setCell ⟨w.heap.size + 1 + 1 + 1, 0, none⟩ (.int .i64 0)).cell? ⟨w.heap.size + 1 + 1 + 1, 0, none⟩ = some (.int .i64 0) := by simp [World.cell?_setCell_same, World.cell?_setCell_other, f4]
  simp [Leaves, settle, results, Tryz.results8, go_sem, g1, g2]
  exact (B3.setCell (by show w.heap.size ≤ w.heap.size + 1 + 1; omega) _).setCell (by show w.heap.size ≤ w.heap.size + 1 + 1 + 1; omega) _
set_option maxRecDepth 100000 in
set_option maxHeartbeats 2000000 in
theorem odEqual4 (i u j v : Int) (s z : ByteArray) (ad bd : Option Addr) (len cap len' cap' : Nat) (w : World) :
    Calls Tryz.prog 8 #[.agg #[.int .i64 4, .int .i64 i, .int .u64 u, .string s, .slice ad len cap], .agg #[.int .i64 4, .int .i64 j, .int .u64 v, .string z, .slice bd len' cap']] w fun e w' => e = .returned (.tuple #[.bool (s == z), .int .i64 0]) ∧ Below w.heap.size w w' := by
  have hmf : ∀ (fn : Fn) (first cap : Array Value) (w : World), (Instr.makeFunc fn first cap).run Tryz.prog w = .ok (.func fn first cap) w := fun _ _ _ _ => rfl
  have heq : ∀ w, (binOp .eql 20 (.iface 78 (.string s)) (.iface 78 (.string z))).run Tryz.prog w = .ok (.bool (s == z)) w := fun _ => by kernel_rfl
  have b0 : ∀ o1 o2 o3 o4 : Obj, Below w.heap.size w ((((w.alloc o1).alloc o2).alloc o3).alloc o4) := fun o1 o2 o3 o4 => ((((Below.refl _ w).alloc (Nat.le_refl _) _).alloc (by simp) _).alloc (by simp; omega) _).alloc (by simp; omega) _
  have da : ∀ o2 o3 o4 : Obj, D5 ((((w.alloc (.cells #[.int .i64 4, .int .i64 i, .int .u64 u, .string s, .slice ad len cap] 25)).alloc o2).alloc o3).alloc o4) w.heap.size (.int .i64 4) (.int .i64 i) (.int .u64 u) (.string s) (.slice ad len cap) := fun o2 o3 o4 =>
    (((D5.new w _ _ _ _ _).below (below1 _ o2)).below (below1 _ o3)).below (below1 _ o4)
  have db : ∀ o1 o3 o4 : Obj, D5 ((((w.alloc o1).alloc (.cells #[.int .i64 4, .int .i64 j, .int .u64 v, .string z, .slice bd len' cap'] 25)).alloc o3).alloc o4) (w.heap.size + 1) (.int .i64 4) (.int .i64 j) (.int .u64 v) (.string z) (.slice bd len' cap') := fun o1 o3 o4 => by
    have := D5.new (w.alloc o1) (.int .i64 4) (.int .i64 j) (.int .u64 v) (.string z) (.slice bd len' cap')
    rw [World.size_alloc] at this
    exact (this.below (below1 _ o3)).below (below1 _ o4)
  have dc : ∀ o1 o2 o4 : Obj, C1 ((((w.alloc o1).alloc o2).alloc (.cells #[.bool false] 4)).alloc o4) (w.heap.size + 1 + 1) 4 (.bool false) := fun o1 o2 o4 => by
    have := C1.new ((w.alloc o1).alloc o2) 4 (.bool false)
    rw [World.size_alloc, World.size_alloc] at this
    exact this.below (below1 _ o4)
  have dd : ∀ o1 o2 o3 : Obj, C1 ((((w.alloc o1).alloc o2).alloc o3).alloc (.cells #[.int .i64 0] 29)) (w.heap.size + 1 + 1 + 1) 29 (.int .i64 0) := fun o1 o2 o3 => by
    have := C1.new (((w.alloc o1).alloc o2).alloc o3) 29 (.int .i64 0)
    rw [World.size_alloc, World.size_alloc, World.size_alloc] at this
    exact this
  go_enter_defers Tryz.func8, Tryz.ntmps8
  go_wp2_with fail
  refine (sharing _).mono ?_
  rintro e w1 ⟨mk, rfl, b1⟩
  have a1 := (da _ _ _).below b1
  have e1 := (db _ _ _).below b1
  have c1 := (dc _ _ _).below b1
  have f1 := (dd _ _ _).below b1
  have B1 := (b0 _ _ _ _).trans (b1.mono (by simp; omega))
  clear da db dc dd b0 b1
  have bm := below1 w1 (.cells #[.map (some mk)] 48)
  have m2 := C1.new w1 48 (.map (some mk))
  have a2 := a1.below bm
  have e2 := e1.below bm
  have c2 := c1.below bm
  have f2 := f1.below bm
  have B2 := B1.trans (bm.mono B1.size)
  have hlt := f1.lt
  have hB := B1.size
  clear bm a1 e1 c1 f1 B1
  have KS : Hid (∀ w' : World, Below (w1.heap.size + 1) (w1.alloc (.cells #[.map (some mk)] 48)) w' →
      w'.cell? ⟨w1.heap.size, 0, none⟩ = some (.map (some mk)) ∧ (w'.cell? ⟨w.heap.size, 0, none⟩ = some (.int .i64 4) ∧ w'.cell? ⟨w.heap.size, 1, none⟩ = some (.int .i64 i) ∧ w'.cell? ⟨w.heap.size, 2, none⟩ = some (.int .u64 u) ∧ w'.cell? ⟨w.heap.size, 3, none⟩ = some (.string s) ∧ w'.cell? ⟨w.heap.size, 4, none⟩ = some (.slice ad len cap)) ∧ w'.cell? ⟨w.heap.size + 1, 0, none⟩ = some (.int .i64 4) ∧ w'.cell? ⟨w.heap.size + 1, 1, none⟩ = some (.int .i64 j) ∧ w'.cell? ⟨w.heap.size + 1, 2, none⟩ = some (.int .u64 v) ∧ w'.cell? ⟨w.heap.size + 1, 3, none⟩ = some (.string z) ∧ w'.cell? ⟨w.heap.size + 1, 4, none⟩ = some (.slice bd len' cap')) := fun w' h => by
    have h' : Below (w1.alloc (.cells #[.map (some mk)] 48)).heap.size (w1.alloc (.cells #[.map (some mk)] 48)) w' := by rw [World.size_alloc]; exact h
    exact ⟨(m2.below h').c, (a2.below h').c, (e2.below h').c⟩
  have KG : Hid (∀ (i u : Int) (s : ByteArray) (ad : Option Addr) (len cap : Nat) (wx : World), Below (w1.heap.size + 1) (w1.alloc (.cells #[.map (some mk)] 48)) wx → Calls Tryz.prog 19 #[.agg #[.map (some mk)], .agg #[.int .i64 4, .int .i64 i, .int .u64 u, .string s, .slice ad len cap]] wx fun e w' => e = .returned (.iface 78 (.string s)) ∧ Below (w1.heap.size + 1) (w1.alloc (.cells #[.map (some mk)] 48)) w') := fun i u s ad len cap wx hx =>
    (odLeaf4 (some mk) i u s ad len cap wx).mono fun e w' ⟨he, hb⟩ => ⟨he, hx.trans (hb.mono (by have := hx.size; rwa [World.size_alloc] at this))⟩
  have HM := Lib.hid (And.intro m2 (And.intro a2 (And.intro e2 (And.intro c2 (And.intro f2 B2)))))
  clear m2 a2 e2 c2 f2 B2
  go_wp2_with fail
  go_region_held3 (fun w' => w'.cell? ⟨w1.heap.size, 0, none⟩ = some (.map (some mk)) ∧ (w'.cell? ⟨w.heap.size, 0, none⟩ = some (.int .i64 4) ∧ w'.cell? ⟨w.heap.size, 1, none⟩ = some (.int .i64 i) ∧ w'.cell? ⟨w.heap.size, 2, none⟩ = some (.int .u64 u) ∧ w'.cell? ⟨w.heap.size, 3, none⟩ = some (.string s) ∧ w'.cell? ⟨w.heap.size, 4, none⟩ = some (.slice ad len cap)) ∧ w'.cell? ⟨w.heap.size + 1, 0, none⟩ = some (.int .i64 4) ∧ w'.cell? ⟨w.heap.size + 1, 1, none⟩ = some (.int .i64 j) ∧ w'.cell? ⟨w.heap.size + 1, 2, none⟩ = some (.int .u64 v) ∧ w'.cell? ⟨w.heap.size + 1, 3, none⟩ = some (.string z) ∧ w'.cell? ⟨w.heap.size + 1, 4, none⟩ = some (.slice bd len' cap')) (exact KS.out _ (by first | assumption | exact Below.refl _ _ | exact Below.drew (Below.refl _ _))) (first | (go_at_call 19; refine (KG.out _ _ _ _ _ _ _ (by first | assumption | exact Below.drew (Below.refl _ _) | exact Below.refl _ _ | exact Below.drew (by assumption))).mono ?_; rintro e wn ⟨rfl, bn⟩))
  obtain ⟨-, -, -, c2, f2, B2⟩ := HM.out
  have hbn : Below (w1.alloc (.cells #[.map (some mk)] 48)).heap.size (w1.alloc (.cells #[.map (some mk)] 48)) wn := by rw [World.size_alloc]; exact bn
  have c3 := c2.below hbn
  have f3 := f2.below hbn
  have B3 := B2.trans (hbn.mono B2.size)
  have c4 := c3.c
  have c5 := c3.f (o := 0)
  have f4 := f3.c
  have f5 := f3.f (o := 0)
  clear KS KG HM c2 f2 B2 hbn c3 f3 bn
  go_wp2
  refine leaves_cons (f := 20) (args := #[.pointer (some ⟨w.heap.size + 1 + 1, 0, none⟩), .pointer (some ⟨w.heap.size + 1 + 1 + 1, 0, none⟩)]) (by simp) (by simp [go_sem]) ?_
  refine (eq_idle ⟨w.heap.size + 1 + 1, 0, none⟩ ⟨w.heap.size + 1 + 1 + 1, 0, none⟩ _).mono ?_
  rintro e u' w'' ⟨rfl, rfl, rfl⟩
  have hne : (⟨w.heap.size + 1 + 1 + 1, 0, none⟩ : Addr) ≠ ⟨w.heap.size + 1 + 1, 0, none⟩ := by simp
  have g1 : (wn.setCell ⟨w.heap.size + 1 + 1, 0, none⟩ (.bool (s == z))).cell? ⟨w.heap.size + 1 + 1, 0, none⟩ = some (.bool (s == z)) := by simp [World.cell?_setCell_same, c4]
  have g2 : ((wn.setCell ⟨w.heap.size + 1 + 1, 0, none⟩ (.bool (s == z))).setCell ⟨w.heap.size + 1 + 1 + 1, 0, none⟩ (.int .i64 0)).cell? ⟨w.heap.size + 1 + 1 + 1, 0, none⟩ = some (.int .i64 0) := by simp [World.cell?_setCell_same, World.cell?_setCell_other, f4]
  simp [Leaves, settle, results, Tryz.results8, go_sem, g1, g2]
  exact (B3.setCell (by show w.heap.size ≤ w.heap.size + 1 + 1; omega) _).setCell (by show w.heap.size ≤ w.heap.size + 1 + 1 + 1; omega) _
set_option maxRecDepth 100000 in
set_option maxHeartbeats 2000000 in
theorem odEqual5 (i u j v : Int) (s z : ByteArray) (ad bd : Option Addr) (len cap len' cap' : Nat) (w : World) :
    Calls Tryz.prog 8 #[.agg #[.int .i64 5, .int .i64 i, .int .u64 u, .string s, .slice ad len cap], .agg #[.int .i64 5, .int .i64 j, .int .u64 v, .string z, .slice bd len' cap']] w fun e w' => e = .returned (.tuple #[.bool (s == z), .int .i64 0]) ∧ Below w.heap.size w w' := by
  have hmf : ∀ (fn : Fn) (first cap : Array Value) (w : World), (Instr.makeFunc fn first cap).run Tryz.prog w = .ok (.func fn first cap) w := fun _ _ _ _ => rfl
  have heq : ∀ w, (binOp .eql 20 (.iface 79 (.string s)) (.iface 79 (.string z))).run Tryz.prog w = .ok (.bool (s == z)) w := fun _ => by kernel_rfl
  have b0 : ∀ o1 o2 o3 o4 : Obj, Below w.heap.size w ((((w.alloc o1).alloc o2).alloc o3).alloc o4) := fun o1 o2 o3 o4 => ((((Below.refl _ w).alloc (Nat.le_refl _) _).alloc (by simp) _).alloc (by simp; omega) _).alloc (by simp; omega) _
  have da : ∀ o2 o3 o4 : Obj, D5 ((((w.alloc (.cells #[.int .i64 5, .int .i64 i, .int .u64 u, .string s, .slice ad len cap] 25)).alloc o2).alloc o3).alloc o4) w.heap.size (.int .i64 5) (.int .i64 i) (.int .u64 u) (.string s) (.slice ad len cap) := fun o2 o3 o4 =>
    (((D5.new w _ _ _ _ _).below (below1 _ o2)).below (below1 _ o3)).below (below1 _ o4)
  have db : ∀ o1 o3 o4 : Obj, D5 ((((w.alloc o1).alloc (.cells #[.int .i64 5, .int .i64 j, .int .u64 v, .string z, .slice bd len' cap'] 25)).alloc o3).alloc o4) (w.heap.size + 1) (.int .i64 5) (.int .i64 j) (.int .u64 v) (.string z) (.slice bd len' cap') := fun o1 o3 o4 => by
    have := D5.new (w.alloc o1) (.int .i64 5) (.int .i64 j) (.int .u64 v) (.string z) (.slice bd len' cap')
    rw [World.size_alloc] at this
    exact (this.below (below1 _ o3)).below (below1 _ o4)
  have dc : ∀ o1 o2 o4 : Obj, C1 ((((w.alloc o1).alloc o2).alloc (.cells #[.bool false] 4)).alloc o4) (w.heap.size + 1 + 1) 4 (.bool false) := fun o1 o2 o4 => by
    have := C1.new ((w.alloc o1).alloc o2) 4 (.bool false)
    rw [World.size_alloc, World.size_alloc] at this
    exact this.below (below1 _ o4)
  have dd : ∀ o1 o2 o3 : Obj, C1 ((((w.alloc o1).alloc o2).alloc o3).alloc (.cells #[.int .i64 0] 29)) (w.heap.size + 1 + 1 + 1) 29 (.int .i64 0) := fun o1 o2 o3 => by
    have := C1.new (((w.alloc o1).alloc o2).alloc o3) 29 (.int .i64 0)
    rw [World.size_alloc, World.size_alloc, World.size_alloc] at this
    exact this
  go_enter_defers Tryz.func8, Tryz.ntmps8
  go_wp2_with fail
  refine (sharing _).mono ?_
  rintro e w1 ⟨mk, rfl, b1⟩
  have a1 := (da _ _ _).below b1
  have e1 := (db _ _ _).below b1
  have c1 := (dc _ _ _).below b1
  have f1 := (dd _ _ _).below b1
  have B1 := (b0 _ _ _ _).trans (b1.mono (by simp; omega))
  clear da db dc dd b0 b1
  have bm := below1 w1 (.cells #[.map (some mk)] 48)
  have m2 := C1.new w1 48 (.map (some mk))
  have a2 := a1.below bm
  have e2 := e1.below bm
  have c2 := c1.below bm
  have f2 := f1.below bm
  have B2 := B1.trans (bm.mono B1.size)
  have hlt := f1.lt
  have hB := B1.size
  clear bm a1 e1 c1 f1 B1
  have KS : Hid (∀ w' : World, Below (w1.heap.size + 1) (w1.alloc (.cells #[.map (some mk)] 48)) w' →
      w'.cell? ⟨w1.heap.size, 0, none⟩ = some (.map (some mk)) ∧ (w'.cell? ⟨w.heap.size, 0, none⟩ = some (.int .i64 5) ∧ w'.cell? ⟨w.heap.size, 1, none⟩ = some (.int .i64 i) ∧ w'.cell? ⟨w.heap.size, 2, none⟩ = some (.int .u64 u) ∧ w'.cell? ⟨w.heap.size, 3, none⟩ = some (.string s) ∧ w'.cell? ⟨w.heap.size, 4, none⟩ = some (.slice ad len cap)) ∧ w'.cell? ⟨w.heap.size + 1, 0, none⟩ = some (.int .i64 5) ∧ w'.cell? ⟨w.heap.size + 1, 1, none⟩ = some (.int .i64 j) ∧ w'.cell? ⟨w.heap.size + 1, 2, none⟩ = some (.int .u64 v) ∧ w'.cell? ⟨w.heap.size + 1, 3, none⟩ = some (.string z) ∧ w'.cell? ⟨w.heap.size + 1, 4, none⟩ = some (.slice bd len' cap')) := fun w' h => by
    have h' : Below (w1.alloc (.cells #[.map (some mk)] 48)).heap.size (w1.alloc (.cells #[.map (some mk)] 48)) w' := by rw [World.size_alloc]; exact h
    exact ⟨(m2.below h').c, (a2.below h').c, (e2.below h').c⟩
  have KG : Hid (∀ (i u : Int) (s : ByteArray) (ad : Option Addr) (len cap : Nat) (wx : World), Below (w1.heap.size + 1) (w1.alloc (.cells #[.map (some mk)] 48)) wx → Calls Tryz.prog 19 #[.agg #[.map (some mk)], .agg #[.int .i64 5, .int .i64 i, .int .u64 u, .string s, .slice ad len cap]] wx fun e w' => e = .returned (.iface 79 (.string s)) ∧ Below (w1.heap.size + 1) (w1.alloc (.cells #[.map (some mk)] 48)) w') := fun i u s ad len cap wx hx =>
    (odLeaf5 (some mk) i u s ad len cap wx).mono fun e w' ⟨he, hb⟩ => ⟨he, hx.trans (hb.mono (by have := hx.size; rwa [World.size_alloc] at this))⟩
  have HM := Lib.hid (And.intro m2 (And.intro a2 (And.intro e2 (And.intro c2 (And.intro f2 B2)))))
  clear m2 a2 e2 c2 f2 B2
  go_wp2_with fail
  go_region_held3 (fun w' => w'.cell? ⟨w1.heap.size, 0, none⟩ = some (.map (some mk)) ∧ (w'.cell? ⟨w.heap.size, 0, none⟩ = some (.int .i64 5) ∧ w'.cell? ⟨w.heap.size, 1, none⟩ = some (.int .i64 i) ∧ w'.cell? ⟨w.heap.size, 2, none⟩ = some (.int .u64 u) ∧ w'.cell? ⟨w.heap.size, 3, none⟩ = some (.string s) ∧ w'.cell? ⟨w.heap.size, 4, none⟩ = some (.slice ad len cap)) ∧ w'.cell? ⟨w.heap.size + 1, 0, none⟩ = some (.int .i64 5) ∧ w'.cell? ⟨w.heap.size + 1, 1, none⟩ = some (.int .i64 j) ∧ w'.cell? ⟨w.heap.size + 1, 2, none⟩ = some (.int .u64 v) ∧ w'.cell? ⟨w.heap.size + 1, 3, none⟩ = some (.string z) ∧ w'.cell? ⟨w.heap.size + 1, 4, none⟩ = some (.slice bd len' cap')) (exact KS.out _ (by first | assumption | exact Below.refl _ _ | exact Below.drew (Below.refl _ _))) (first | (go_at_call 19; refine (KG.out _ _ _ _ _ _ _ (by first | assumption | exact Below.drew (Below.refl _ _) | exact Below.refl _ _ | exact Below.drew (by assumption))).mono ?_; rintro e wn ⟨rfl, bn⟩))
  obtain ⟨-, -, -, c2, f2, B2⟩ := HM.out
  have hbn : Below (w1.alloc (.cells #[.map (some mk)] 48)).heap.size (w1.alloc (.cells #[.map (some mk)] 48)) wn := by rw [World.size_alloc]; exact bn
  have c3 := c2.below hbn
  have f3 := f2.below hbn
  have B3 := B2.trans (hbn.mono B2.size)
  have c4 := c3.c
  have c5 := c3.f (o := 0)
  have f4 := f3.c
  have f5 := f3.f (o := 0)
  clear KS KG HM c2 f2 B2 hbn c3 f3 bn
  go_wp2
  refine leaves_cons (f := 20) (args := #[.pointer (some ⟨w.heap.size + 1 + 1, 0, none⟩), .pointer (some ⟨w.heap.size + 1 + 1 + 1, 0, none⟩)]) (by simp) (by simp [go_sem]) ?_
  refine (eq_idle ⟨w.heap.size + 1 + 1, 0, none⟩ ⟨w.heap.size + 1 + 1 + 1, 0, none⟩ _).mono ?_
  rintro e u' w'' ⟨rfl, rfl, rfl⟩
  have hne : (⟨w.heap.size + 1 + 1 + 1, 0, none⟩ : Addr) ≠ ⟨w.heap.size + 1 + 1, 0, none⟩ := by simp
  have g1 : (wn.setCell ⟨w.heap.size + 1 + 1, 0, none⟩ (.bool (s == z))).cell? ⟨w.heap.size + 1 + 1, 0, none⟩ = some (.bool (s == z)) := by simp [World.cell?_setCell_same, c4]
  have g2 : ((wn.setCell ⟨w.heap.size + 1 + 1, 0, none⟩ (.bool (s == z))).setCell ⟨w.heap.size + 1 + 1 + 1, 0, none⟩ (.int .i64 0)).cell? ⟨w.heap.size + 1 + 1 + 1, 0, none⟩ = some (.int .i64 0) := by simp [World.cell?_setCell_same, World.cell?_setCell_other, f4]
  simp [Leaves, settle, results, Tryz.results8, go_sem, g1, g2]
  exact (B3.setCell (by show w.heap.size ≤ w.heap.size + 1 + 1; omega) _).setCell (by show w.heap.size ≤ w.heap.size + 1 + 1 + 1; omega) _
end Go.Proofs.YtgpbnmlcfimnnaaGreatDoor.Dt
