/- A work's handle and the package's Handle, by what the inner call comes to; the conditions: not closed, not late. -/
import Derived.Test.YthgfijhbeahkhaaGreatDoorHf
namespace Go.Proofs.YthgfijhbeahkhaaGreatDoor
open Go.RowKit

theorem below3 (w : World) (o p q : Obj) : Below w.heap.size w (((w.alloc o).alloc p).alloc q) := (below2 w o p).alloc (by simp; omega) q
theorem below_drewN (w : World) (k B : Nat) : Below B w (w.drewN k) := ⟨rfl, rfl, rfl, Nat.le_refl _, fun _ _ => rfl⟩
theorem Bk.new3 (w : World) (o p : Obj) (cs : Array Value) (T : TypeId) : Bk (((w.alloc o).alloc p).alloc (.cells cs T)) (w.heap.size + 1 + 1) cs T := by have := Bk.new2 (w.alloc o) p cs T; rwa [World.size_alloc] at this

set_option maxRecDepth 100000 in
set_option maxHeartbeats 1000000 in
theorem handle_by (b : Nat) (op num cp cn ac lk li lu : Int) (ls : ByteArray) (la : Option Addr) (ln lc : Nat) (ta : Option Addr) (tn tc : Nat) (un now : Int) (T : TypeId) (z : Value) (dk di du : Int) (ds : ByteArray) (da : Option Addr) (dn dc : Nat)
    (er co pk pn : Int) (has : Bool) (k i u : Int) (s : ByteArray) (a : Option Addr) (n c : Nat) (w : World)
    (W : Bk w b (wcs op num cp cn ac lk li lu ls la ln lc ta tn tc false un now (.iface T z)) 69) (hl : ¬ (0 < un ∧ un < now)) (L N : Nat) (hL : L ≤ N) (hN : N ≤ w.heap.size) (P : World → Prop) (hP : ∀ w' w'', P w' → w'.heap.size ≤ w''.heap.size → (∀ g, g < w'.heap.size → g ≠ w.heap.size + 2 → w''.heap[g]? = w'.heap[g]?) → P w'')
    (hC : ∀ wx, Xi w.heap.size (w.heap.size + 1) b T z dk di du ds da dn dc wx → Below w.heap.size w wx → wx.heap.size = w.heap.size + 3 → Calls Tryz.prog 66 #[.func (.func 67) #[] #[.pointer (some ⟨w.heap.size, 0, none⟩), .pointer (some ⟨w.heap.size + 1, 0, none⟩)]] wx fun e w' => e = .returned (.agg (rcs er co pk pn has k i u s a n c)) ∧ P w' ∧ Fr L N wx w') :
    Calls Tryz.prog 32 #[.pointer (some ⟨b, 0, none⟩), .agg #[.int .i64 dk, .int .i64 di, .int .u64 du, .string ds, .slice da dn dc]] w fun e w' => e = .returned (.agg (rcs er co pk pn has k i u s a n c)) ∧ P w' ∧ Fr L N w w' := by
  have hmf : ∀ (fn : Fn) (first cap : Array Value) (w : World), (Instr.makeFunc fn first cap).run Tryz.prog w = .ok (.func fn first cap) w := fun _ _ _ _ => rfl
  have HC := Lib.hid hC
  have hP' := Lib.hid hP
  clear hC hP
  have hb := W.lt
  have B0 := below3 w (.cells #[.pointer (some ⟨b, 0, none⟩)] 63) (.cells #[.int .i64 dk, .int .i64 di, .int .u64 du, .string ds, .slice da dn dc] 29) (.cells (rErr 0 0 0 0) 39)
  have W0 := W.step B0
  have w11 := W0.c 11
  have w12 := W0.c 12
  have w13 := W0.c 13
  have w14 := W0.c 14
  have R0 := Bk.new3 w (.cells #[.pointer (some ⟨b, 0, none⟩)] 63) (.cells #[.int .i64 dk, .int .i64 di, .int .u64 du, .string ds, .slice da dn dc] 29) (rErr 0 0 0 0) 39
  have Z0 : (((w.alloc (.cells #[.pointer (some ⟨b, 0, none⟩)] 63)).alloc (.cells #[.int .i64 dk, .int .i64 di, .int .u64 du, .string ds, .slice da dn dc] 29)).alloc (.cells (rErr 0 0 0 0) 39)).heap.size = w.heap.size + 3 := by simp
  have X0 : Xi w.heap.size (w.heap.size + 1) b T z dk di du ds da dn dc (((w.alloc (.cells #[.pointer (some ⟨b, 0, none⟩)] 63)).alloc (.cells #[.int .i64 dk, .int .i64 di, .int .u64 du, .string ds, .slice da dn dc] 29)).alloc (.cells (rErr 0 0 0 0) 39)) := ⟨((Bk.new w _ _).alloc _).alloc _, (Bk.new2 w _ _ _).alloc _, w14, Nat.lt_of_lt_of_le hb B0.size⟩
  simp only [Array.getElem?_eq_getElem, List.size_toArray, List.length_cons, List.length_nil, Nat.reduceAdd, Nat.reduceLT, List.getElem_toArray, List.getElem_cons_succ, List.getElem_cons_zero] at w11 w12 w13 w14
  go_enter Tryz.func32, Tryz.ntmps32
  go_wp2_with fail
  have cpw : (((w.alloc (.cells #[.pointer (some ⟨b, 0, none⟩)] 63)).alloc (.cells #[.int .i64 dk, .int .i64 di, .int .u64 du, .string ds, .slice da dn dc] 29)).alloc (.cells (rErr 0 0 0 0) 39)).cell? ⟨w.heap.size, 0, none⟩ = some (.pointer (some ⟨b, 0, none⟩)) := X0.pw.c 0
  clear w11 W0
  generalize (((w.alloc (.cells #[.pointer (some ⟨b, 0, none⟩)] 63)).alloc (.cells #[.int .i64 dk, .int .i64 di, .int .u64 du, .string ds, .slice da dn dc] 29)).alloc (.cells (rErr 0 0 0 0) 39)) = w3 at *
  clear w14
  by_cases h0 : 0 < un
  · have h1 : decide (0 < un) = true := by simp [h0]
    have h2 : decide (un < now) = false := by simp; omega
    have h3 : ¬ un < now := by omega
    go_quiet (fail)
    have B1 := B0.trans (below_drewN w3 nq w.heap.size)
    have X1 := X0.below (below_drewN w3 nq w3.heap.size)
    have R1 : Bk (w3.drewN nq) (w.heap.size + 1 + 1) (rErr 0 0 0 0) 39 := R0.step (below_drewN w3 nq w3.heap.size)
    have Z1 : (w3.drewN nq).heap.size = w.heap.size + 3 := Z0
    clear h1 h2 h3 h0 B0 X0 R0 w12 w13 cpw Z0
    generalize w3.drewN nq = w4 at *
    go_wp2_with fail
    refine (HC.out _ X1 B1 Z1).mono ?_
    rintro e w5 ⟨rfl, p5, f5⟩
    have R5 := R1.fr f5 (.inr (by omega))
    have F5 : Fr L N w w5 := (Fr.of B1 (by omega)).trans f5
    obtain ⟨c0, c1, c2, c3, c4, c5, c6, c7, c8, c9⟩ := R5.c10
    have z5 := R5.f
    have p5' := Lib.hid p5
    clear p5 f5 R1 X1 B1 HC
    go_wp2_with fail
    obtain ⟨k1, k2, k3, k4⟩ := set10 R5 (.int .i64 er) (.int .i64 co) (.int .i64 pk) (.int .i64 pn) (.bool has) (.int .i64 k) (.int .i64 i) (.int .u64 u) (.string s) (.slice a n c) rfl
    have KP : Hid (P _) := hP'.out w5 _ p5'.out (Nat.le_of_eq k2.symm) fun g _ hg => k3 g hg
    have KF : Fr L N w _ := ⟨F5.b.trans (k4.mono (by omega)), fun g h1 h2 => (k3 g (by omega)).trans (F5.up g h1 h2)⟩
    obtain ⟨q0, q1, q2, q3, q4, q5, q6, q7, q8, q9⟩ := k1.c10
    refine bodyPost_ret (v := .agg (rcs er co pk pn has k i u s a n c)) ?_ rfl ⟨rfl, KP.out, KF⟩
    simp [results, Tryz.results32, go_sem, q0, q1, q2, q3, q4, q5, q6, q7, q8, q9]
  · have h1 : decide (0 < un) = false := by simp [h0]
    go_quiet (fail)
    have B1 := B0.trans (below_drewN w3 nq w.heap.size)
    have X1 := X0.below (below_drewN w3 nq w3.heap.size)
    have R1 : Bk (w3.drewN nq) (w.heap.size + 1 + 1) (rErr 0 0 0 0) 39 := R0.step (below_drewN w3 nq w3.heap.size)
    have Z1 : (w3.drewN nq).heap.size = w.heap.size + 3 := Z0
    clear h1 h0 B0 X0 R0 w12 w13 cpw Z0
    generalize w3.drewN nq = w4 at *
    go_wp2_with fail
    refine (HC.out _ X1 B1 Z1).mono ?_
    rintro e w5 ⟨rfl, p5, f5⟩
    have R5 := R1.fr f5 (.inr (by omega))
    have F5 : Fr L N w w5 := (Fr.of B1 (by omega)).trans f5
    obtain ⟨c0, c1, c2, c3, c4, c5, c6, c7, c8, c9⟩ := R5.c10
    have z5 := R5.f
    have p5' := Lib.hid p5
    clear p5 f5 R1 X1 B1 HC
    go_wp2_with fail
    obtain ⟨k1, k2, k3, k4⟩ := set10 R5 (.int .i64 er) (.int .i64 co) (.int .i64 pk) (.int .i64 pn) (.bool has) (.int .i64 k) (.int .i64 i) (.int .u64 u) (.string s) (.slice a n c) rfl
    have KP : Hid (P _) := hP'.out w5 _ p5'.out (Nat.le_of_eq k2.symm) fun g _ hg => k3 g hg
    have KF : Fr L N w _ := ⟨F5.b.trans (k4.mono (by omega)), fun g h1 h2 => (k3 g (by omega)).trans (F5.up g h1 h2)⟩
    obtain ⟨q0, q1, q2, q3, q4, q5, q6, q7, q8, q9⟩ := k1.c10
    refine bodyPost_ret (v := .agg (rcs er co pk pn has k i u s a n c)) ?_ rfl ⟨rfl, KP.out, KF⟩
    simp [results, Tryz.results32, go_sem, q0, q1, q2, q3, q4, q5, q6, q7, q8, q9]
end Go.Proofs.YthgfijhbeahkhaaGreatDoor
