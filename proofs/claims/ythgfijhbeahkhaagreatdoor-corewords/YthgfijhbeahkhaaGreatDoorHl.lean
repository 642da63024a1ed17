/- The store at its beginning: what it knows, and a number put into it; no condition. -/
import Derived.Test.YthgfijhbeahkhaaGreatDoorHj
import Derived.Test.YthgfijhbeahkhaaGreatDoorKm
namespace Go.Proofs.YthgfijhbeahkhaaGreatDoor
open Go.RowKit

theorem Bk.c4 {w : World} {N : Nat} {v0 v1 v2 v3 : Value} {T : TypeId} (h : Bk w N #[v0, v1, v2, v3] T) : w.cell? ⟨N, 0, none⟩ = some v0 ∧ w.cell? ⟨N, 1, none⟩ = some v1 ∧ w.cell? ⟨N, 2, none⟩ = some v2 ∧ w.cell? ⟨N, 3, none⟩ = some v3 := ⟨h.c 0, h.c 1, h.c 2, h.c 3⟩

set_option maxRecDepth 100000 in
set_option maxHeartbeats 1000000 in
theorem newSharing (w : World) : Calls Tryz.prog 99 #[] w fun e w' => ∃ m, e = .returned (.agg #[.map (some m)]) ∧ w'.heap[m]? = some (.map #[] 0) ∧ w.heap.size ≤ m ∧ Below w.heap.size w w' := by
  have hmm := @run_makeMap Tryz.prog
  go_enter Tryz.func99, Tryz.ntmps99
  go_wp2
  refine bodyPost_ret (v := .agg #[.map (some (w.heap.size + 1))]) (by simp [results, Tryz.results99, go_sem]) rfl ⟨w.heap.size + 1, rfl, ?_, by omega, below2 w _ _⟩
  have := heap_alloc_new (w.alloc (.cells #[.map (some (w.heap.size + 1))] 133)) (.map #[] 0)
  simpa using this

set_option maxRecDepth 100000 in
set_option maxHeartbeats 1000000 in
theorem know_none (sb b : Nat) (num : Int) (w : World) (hS : Bk w sb #[.pointer (some ⟨b, 3, none⟩), .int .i64 num, .map none, .map none] 136) (hL : w.cell? ⟨b, 10, none⟩ = some (.slice none 0 0)) (hb : b < w.heap.size) (hne : b ≠ sb) :
    Calls Tryz.prog 138 #[.pointer (some ⟨sb, 0, none⟩)] w fun e w' => ∃ m p, e = .returned (.tuple #[]) ∧ Bk w' sb #[.pointer (some ⟨b, 3, none⟩), .int .i64 num, .map (some m), .map (some p)] 136 ∧ w'.heap[m]? = some (.map #[] 0) ∧ w'.heap[p]? = some (.map #[] 0) ∧ w.heap.size ≤ m ∧ w.heap.size ≤ p ∧ m ≠ p ∧ w.heap.size ≤ w'.heap.size ∧ (∀ g, g < w.heap.size → g ≠ sb → w'.heap[g]? = w.heap[g]?) ∧ Below sb w w' := by
  obtain ⟨c0, c1, c2, c3⟩ := hS.c4
  have HN := Lib.hid newSharing
  have hmm := @run_makeMap Tryz.prog
  have hne0 : ∀ w : World, (binOp .neq 134 (.map none) (.map none)).run Tryz.prog w = .ok (.bool false) w := fun _ => by kernel_rfl
  go_enter Tryz.func138, Tryz.ntmps138
  go_wp2_with fail
  refine (HN.out _).mono ?_
  rintro e w1 ⟨m, rfl, m1, hm, b1⟩
  have S1 := hS.step b1
  have L1 : w1.cell? ⟨b, 10, none⟩ = some (.slice none 0 0) := (b1.cell (p := ⟨b, 10, none⟩) hb).trans hL
  obtain ⟨s0, s1, s2, s3⟩ := S1.c4
  have fs := S1.f
  have hlt := S1.lt
  clear c0 c1 c2 c3
  have S2 : Bk (((w1.setCell ⟨sb, 2, none⟩ (.map (some m))).setCell ⟨sb, 3, none⟩ (.map (some w1.heap.size))).alloc (.map #[] 0)) sb #[.pointer (some ⟨b, 3, none⟩), .int .i64 num, .map (some m), .map (some w1.heap.size)] 136 := Bk.alloc ((S1.set 2 _).set 3 _) _
  have hb1 : b < w1.heap.size := Nat.lt_of_lt_of_le hb b1.size
  have L2 : (((w1.setCell ⟨sb, 2, none⟩ (.map (some m))).setCell ⟨sb, 3, none⟩ (.map (some w1.heap.size))).alloc (.map #[] 0)).cell? ⟨b, 10, none⟩ = some (.slice none 0 0) := by
    refine ((below1 _ _).cell (p := ⟨b, 10, none⟩) (by simpa using hb1)).trans ?_
    rw [World.cell?_setCell_far _ _ _ _ (by simpa using hne.symm), World.cell?_setCell_far _ _ _ _ (by simpa using hne.symm)]
    exact L1
  have K2 : (((w1.setCell ⟨sb, 2, none⟩ (.map (some m))).setCell ⟨sb, 3, none⟩ (.map (some w1.heap.size))).alloc (.map #[] 0)).heap[m]? = some (.map #[] 0) := by
    have hml : m < w1.heap.size := (Array.getElem?_eq_some_iff.1 m1).1
    have hms : m ≠ sb := by have := hS.lt; omega
    rw [(below1 _ _).block m (by simpa using hml), Below.heap_setCell _ _ _ _ (by simpa using hms), Below.heap_setCell _ _ _ _ (by simpa using hms)]
    exact m1
  have P2 : (((w1.setCell ⟨sb, 2, none⟩ (.map (some m))).setCell ⟨sb, 3, none⟩ (.map (some w1.heap.size))).alloc (.map #[] 0)).heap[w1.heap.size]? = some (.map #[] 0) := by
    have := heap_alloc_new ((w1.setCell ⟨sb, 2, none⟩ (.map (some m))).setCell ⟨sb, 3, none⟩ (.map (some w1.heap.size))) (.map #[] 0)
    simpa using this
  have G2 : ∀ g, g < w.heap.size → g ≠ sb → (((w1.setCell ⟨sb, 2, none⟩ (.map (some m))).setCell ⟨sb, 3, none⟩ (.map (some w1.heap.size))).alloc (.map #[] 0)).heap[g]? = w.heap[g]? := fun g h1 h2 => by
    have hgl : g < w1.heap.size := Nat.lt_of_lt_of_le h1 b1.size
    rw [(below1 _ _).block g (by simpa using hgl), Below.heap_setCell _ _ _ _ (by simpa using h2), Below.heap_setCell _ _ _ _ (by simpa using h2)]
    exact b1.block g h1
  have B2 : Below sb w (((w1.setCell ⟨sb, 2, none⟩ (.map (some m))).setCell ⟨sb, 3, none⟩ (.map (some w1.heap.size))).alloc (.map #[] 0)) := (((b1.mono (Nat.le_of_lt hS.lt)).setCell (Nat.le_refl _) _).setCell (Nat.le_refl _) _).alloc (by simpa using Nat.le_of_lt hlt) _
  have hmm1 : m ≠ w1.heap.size := by have : m < w1.heap.size := (Array.getElem?_eq_some_iff.1 m1).1; omega
  have hz1 := b1.size
  have KK : Hid (∃ m' p', Bk (((w1.setCell ⟨sb, 2, none⟩ (.map (some m))).setCell ⟨sb, 3, none⟩ (.map (some w1.heap.size))).alloc (.map #[] 0)) sb #[.pointer (some ⟨b, 3, none⟩), .int .i64 num, .map (some m'), .map (some p')] 136 ∧ (((w1.setCell ⟨sb, 2, none⟩ (.map (some m))).setCell ⟨sb, 3, none⟩ (.map (some w1.heap.size))).alloc (.map #[] 0)).heap[m']? = some (.map #[] 0) ∧ (((w1.setCell ⟨sb, 2, none⟩ (.map (some m))).setCell ⟨sb, 3, none⟩ (.map (some w1.heap.size))).alloc (.map #[] 0)).heap[p']? = some (.map #[] 0) ∧ w.heap.size ≤ m' ∧ w.heap.size ≤ p' ∧ m' ≠ p' ∧ w.heap.size ≤ (((w1.setCell ⟨sb, 2, none⟩ (.map (some m))).setCell ⟨sb, 3, none⟩ (.map (some w1.heap.size))).alloc (.map #[] 0)).heap.size ∧ (∀ g, g < w.heap.size → g ≠ sb → (((w1.setCell ⟨sb, 2, none⟩ (.map (some m))).setCell ⟨sb, 3, none⟩ (.map (some w1.heap.size))).alloc (.map #[] 0)).heap[g]? = w.heap[g]?) ∧ Below sb w (((w1.setCell ⟨sb, 2, none⟩ (.map (some m))).setCell ⟨sb, 3, none⟩ (.map (some w1.heap.size))).alloc (.map #[] 0))) := ⟨m, w1.heap.size, S2, K2, P2, hm, hz1, hmm1, B2.size, G2, B2⟩
  clear K2 P2 G2 B2 hmm1 hz1
  obtain ⟨t0, t1, t2, t3⟩ := S2.c4
  go_wp2_with fail
  generalize (((w1.setCell ⟨sb, 2, none⟩ (.map (some m))).setCell ⟨sb, 3, none⟩ (.map (some w1.heap.size))).alloc (.map #[] 0)) = w2 at *
  go_loopw [25] (fun si wr => si = .int .i64 0 ∧ wr = w2) (fun _ _ => 0)
  case atStart => exact ⟨rfl, rfl⟩
  case round =>
    obtain ⟨rfl, rfl⟩ := hrel
    go_wp2_with fail
    obtain ⟨m', p', kk⟩ := KK.out
    go_end0
    exact ⟨m', p', rfl, kk⟩

set_option maxRecDepth 100000 in
set_option maxHeartbeats 1000000 in
theorem plain_wh (x : Int) (w : World) : Calls Tryz.prog 96 #[.iface 162 (.int .i64 x)] w fun e w' => e = .returned (.agg #[.int .i64 1, .int .i64 x, .int .u64 0, .string ⟨#[]⟩, .slice none 0 0]) ∧ Below w.heap.size w w' := by
  have a0 : ∀ w : World, (Instr.typeAssert (.iface 162 (.int .i64 x)) 20 162 true).run Tryz.prog w = .ok (.tuple #[.int .i64 x, .bool true]) w := fun w => as_yes Tryz.underlying162 (fun m h => by cases h) (z := .int .i64 0) (by kernel_rfl)
  go_enter Tryz.func96, Tryz.ntmps96
  go_wp2
  exact bodyPost_ret (v := .agg #[.int .i64 1, .int .i64 x, .int .u64 0, .string ⟨#[]⟩, .slice none 0 0]) (by simp [results, Tryz.results96, go_sem]) rfl ⟨rfl, below1 w _⟩

set_option maxRecDepth 100000 in
set_option maxHeartbeats 1000000 in
theorem whole_any (x : Int) (w : World) : Calls Tryz.prog 78 #[.int .i64 x] w fun e w' => e = .returned (.agg #[.int .i64 1, .int .i64 x, .int .u64 0, .string ⟨#[]⟩, .slice none 0 0]) ∧ Below w.heap.size w w' := by
  have H := Lib.hid plain_wh
  have R0 := Bk.new w #[.int .i64 0, .int .i64 0, .int .u64 0, .string ⟨#[]⟩, .slice none 0 0] 29
  have B0 := below1 w (.cells #[.int .i64 0, .int .i64 0, .int .u64 0, .string ⟨#[]⟩, .slice none 0 0] 29)
  go_enter Tryz.func78, Tryz.ntmps78
  go_wp2_with fail
  refine (H.out x _).mono ?_
  rintro e w1 ⟨rfl, b1⟩
  have R1 := R0.step b1
  have B1 := B0.trans (b1.mono B0.size)
  obtain ⟨z0, z1, z2, z3, z4⟩ := R1.c5
  have f1 := R1.f
  go_wp2
  refine bodyPost_ret (v := .agg #[.int .i64 1, .int .i64 x, .int .u64 0, .string ⟨#[]⟩, .slice none 0 0]) (by simp [results, Tryz.results78, go_sem, World.cell?_setCell_same, World.cell?_setCell_other, z0, z1, z2, z3, z4]) rfl ⟨rfl, ?_⟩
  repeat' refine Below.setCell ?_ (by simp) _
  exact B1

set_option maxRecDepth 100000 in
set_option maxHeartbeats 1000000 in
theorem of_whole (mv : Value) (x : Int) (w : World) : Calls Tryz.prog 101 #[.agg #[mv], .agg #[.int .i64 1, .int .i64 x, .int .u64 0, .string ⟨#[]⟩, .slice none 0 0]] w fun e w' => e = .returned (.iface 162 (.int .i64 x)) ∧ Below w.heap.size w w' := by
  go_enter Tryz.func101, Tryz.ntmps101
  go_wp2
  go_ret
  exact ⟨rfl, below2 w _ _⟩

set_option maxRecDepth 100000 in
set_option maxHeartbeats 1000000 in
theorem answered_any (k i u : Int) (s : ByteArray) (a : Option Addr) (n c : Nat) (w : World) : Calls Tryz.prog 95 #[.agg #[.int .i64 k, .int .i64 i, .int .u64 u, .string s, .slice a n c]] w fun e w' => e = .returned (.tuple #[.agg #[.bool true, .int .i64 k, .int .i64 i, .int .u64 u, .string s, .slice a n c], .nilIface]) ∧ Below w.heap.size w w' := by
  go_enter Tryz.func95, Tryz.ntmps95
  go_wp2
  exact bodyPost_ret (v := .tuple #[.agg #[.bool true, .int .i64 k, .int .i64 i, .int .u64 u, .string s, .slice a n c], .nilIface]) (by simp [results, Tryz.results95, go_sem]) rfl ⟨rfl, below2 w _ _⟩
end Go.Proofs.YthgfijhbeahkhaaGreatDoor
