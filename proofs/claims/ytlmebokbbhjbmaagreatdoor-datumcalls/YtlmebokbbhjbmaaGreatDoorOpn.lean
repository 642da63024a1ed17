/- The package's Open of a pointer: the plain data of what lies in the box, in new memory; the conditions: the tree in memory, valid, its bits within 64. -/
import Derived.Test.YtlmebokbbhjbmaaGreatDoorDSam
import Derived.Defers
import Derived.Recover
namespace Go.Proofs.YtlmebokbbhjbmaaGreatDoor.Dt
open Go.RowKit
theorem opn_idle (p q : Addr) (w : World) :
    CallsD Tryz.prog 27 #[.pointer (some p), .pointer (some q)] .returning w fun e u' w' => e = .returned (.tuple #[]) ∧ u' = .returning ∧ w' = w := by
  refine callsD_of_wpS Tryz.func27 rfl fun c₀ cs hu => ?_
  apply wpS_seq
  apply wpS_region
  simp [wpOpsS, go_sem, recoverD, hu, Tryz.ntmps27, Exit.thenS]
  refine wpS_cond (t := false) (by simp [Act.eval, Array.replicate]) ?_
  simp only [Bool.false_eq_true, if_false]
  refine wpS_of_wp (wp_skip ?_)
  cases c₀
  simp_all [bodyPostS, results, Tryz.results27]
theorem boxOpen (b : Nat) (i : Int) (u : Value) (w : World) (h : w.heap[b]? = some (.cells #[.int .i64 i, u] 127 (0, 0))) (hu : Sx u) : Calls Tryz.prog 143 #[.pointer (some ⟨b, 0, none⟩)] w fun e w' => e = .returned u ∧ Below w.heap.size w w' := by
  have c1 : w.cell? ⟨b, 1, none⟩ = some u := by simp [World.cell?, h]
  rcases hu with rfl | ⟨T, z, rfl⟩
  all_goals
    go_enter Tryz.func143, Tryz.ntmps143
    go_wp2
    go_ret
    exact ⟨rfl, Below.refl _ _⟩
/-- A value's block, a result's and an error's. -/
def Th (w : World) (v0 v1 v2 v3 v4 : Value) (w' : World) : Prop := Below (w.heap.size + 3) (((w.alloc (.cells #[v0, v1, v2, v3, v4] 25)).alloc (.cells #[.int .i64 0, .int .i64 0, .int .u64 0, .string ⟨#[]⟩, .slice none 0 0] 25)).alloc (.cells #[.int .i64 0] 28)) w'
theorem Th.below {w : World} {v0 v1 v2 v3 v4 : Value} {w' : World} (h : Th w v0 v1 v2 v3 v4 w') : Below w.heap.size w w' := ((((Below.refl _ w).alloc (Nat.le_refl _) _).alloc (by simp) _).alloc (by simp; omega) _).trans (Below.mono h (by omega))
theorem Th.step {w : World} {v0 v1 v2 v3 v4 : Value} {w1 w2 : World} (h : Th w v0 v1 v2 v3 v4 w1) (hb : Below w1.heap.size w1 w2) : Th w v0 v1 v2 v3 v4 w2 := by
  have := Below.size h
  simp at this
  exact Below.trans h (hb.mono (by omega))
theorem Th.drew {w : World} {v0 v1 v2 v3 v4 : Value} {w' : World} (h : Th w v0 v1 v2 v3 v4 w') : Th w v0 v1 v2 v3 v4 w'.drew := Below.drew h
theorem Th.start (w : World) (v0 v1 v2 v3 v4 : Value) : Th w v0 v1 v2 v3 v4 (((w.alloc (.cells #[v0, v1, v2, v3, v4] 25)).alloc (.cells #[.int .i64 0, .int .i64 0, .int .u64 0, .string ⟨#[]⟩, .slice none 0 0] 25)).alloc (.cells #[.int .i64 0] 28)) := Below.refl _ _
theorem Th.size3 {w : World} {v0 v1 v2 v3 v4 : Value} {w' : World} (h : Th w v0 v1 v2 v3 v4 w') : w.heap.size + 3 ≤ w'.heap.size := by
  have := Below.size h
  simp at this
  omega
theorem Th.d {w : World} {v0 v1 v2 v3 v4 : Value} {w' : World} (h : Th w v0 v1 v2 v3 v4 w') :
    (w'.cell? ⟨w.heap.size + 1, 0, none⟩ = some (.int .i64 0) ∧ w'.cell? ⟨w.heap.size + 1, 1, none⟩ = some (.int .i64 0) ∧ w'.cell? ⟨w.heap.size + 1, 2, none⟩ = some (.int .u64 0) ∧ w'.cell? ⟨w.heap.size + 1, 3, none⟩ = some (.string ⟨#[]⟩) ∧ w'.cell? ⟨w.heap.size + 1, 4, none⟩ = some (.slice none 0 0)) ∧ w'.cell? ⟨w.heap.size + 1 + 1, 0, none⟩ = some (.int .i64 0) ∧ (∀ o, w'.frozen? ⟨w.heap.size + 1, o, none⟩ = false) ∧ ∀ o, w'.frozen? ⟨w.heap.size + 1 + 1, o, none⟩ = false := by
  have e1 := heap_alloc_new (w.alloc (.cells #[v0, v1, v2, v3, v4] 25)) (.cells #[.int .i64 0, .int .i64 0, .int .u64 0, .string ⟨#[]⟩, .slice none 0 0] 25)
  have e2 := heap_alloc_new ((w.alloc (.cells #[v0, v1, v2, v3, v4] 25)).alloc (.cells #[.int .i64 0, .int .i64 0, .int .u64 0, .string ⟨#[]⟩, .slice none 0 0] 25)) (.cells #[.int .i64 0] 28)
  simp only [World.size_alloc] at e1 e2
  have h1 : w'.heap[w.heap.size + 1]? = some (.cells #[.int .i64 0, .int .i64 0, .int .u64 0, .string ⟨#[]⟩, .slice none 0 0] 25 (0, 0)) := (Below.block h (w.heap.size + 1) (by omega)).trans (((below1 _ _).block _ (by simp)).trans e1)
  have h2 : w'.heap[w.heap.size + 1 + 1]? = some (.cells #[.int .i64 0] 28 (0, 0)) := (Below.block h (w.heap.size + 2) (by omega)).trans e2
  simp [World.cell?, World.frozen?, h1, h2]

set_option maxRecDepth 100000 in
set_option maxHeartbeats 4000000 in
theorem open_box (m : Nat) (t : Tr (m + 1)) (i : Int) (ad : Option Addr) (cap : Nat) (w : World) (hrg : rgt (m + 1) t = true) (h64 : r64 (m + 1) t) (hps : (pts (m + 1) t).1 ≤ 4096)
    (hO : ∀ wx, Below w.heap.size w wx → Calls Tryz.prog 24 #[.agg #[.int .i64 11, .int .i64 i, .int .u64 0, .string ⟨#[]⟩, .slice ad 1 cap]] wx fun e w' => ∃ bx u F0, e = .returned (.iface 110 (.pointer (some ⟨bx, 0, none⟩))) ∧ Hid (w'.heap[bx]? = some (.cells #[.int .i64 i, u] 127 (0, 0)) ∧ VR F0 w' (m + 1) u t) ∧ Below wx.heap.size wx w') :
    Calls Tryz.prog 12 #[.agg #[.int .i64 11, .int .i64 i, .int .u64 0, .string ⟨#[]⟩, .slice ad 1 cap]] w fun e w' => ∃ v0 v1 v2 v3 v4, e = .returned (.tuple #[.agg #[v0, v1, v2, v3, v4], .int .i64 0]) ∧ Rf (fun g => w.heap.size ≤ g ∧ g < w'.heap.size) w' (m + 1) [v0, v1, v2, v3, v4] t ∧ (∀ g o l c, v4 = .slice (some ⟨g, o, none⟩) l c → ∀ q, w'.frozen? ⟨g, q, none⟩ = false) ∧ Below w.heap.size w w' := by
  have hmf : ∀ (fn : Fn) (first cap : Array Value) (w : World), (Instr.makeFunc fn first cap).run Tryz.prog w = .ok (.func fn first cap) w := fun _ _ _ _ => rfl
  have hmm : ∀ (bx : Nat) (w : World), (method 323 110 (.pointer (some ⟨bx, 0, none⟩)) "Open").run Tryz.prog w = .ok (143, .pointer (some ⟨bx, 0, none⟩)) w := fun _ _ => by kernel_rfl
  have hcf : ∀ (args : Array Value) (w : World), (callFunc 143 args).run Tryz.prog w = .ok (.enter 143 args) w := fun _ _ => by kernel_rfl
  have has : ∀ (bx : Nat) (w : World), (Instr.typeAssert (.iface 110 (.pointer (some ⟨bx, 0, none⟩))) 20 65 true).run Tryz.prog w = .ok (.tuple #[.iface 110 (.pointer (some ⟨bx, 0, none⟩)), .bool true]) w := fun bx w => run_typeAssert_hasB Tryz.underlying65 (by kernel_rfl) _ _ w
  have HO := Lib.hid hO
  have HP : Hid (∀ (F0 : Nat → Prop) (W0 : World) (v : Value) (w : World), Hid (VR F0 W0 (m + 1) v t) → Below W0.heap.size W0 w → Calls Tryz.prog 28 #[v] w fun e w' => ∃ (u0 u1 u2 : Int) (u3 : ByteArray) (a4 : Option Addr) (n4 c4 : Nat), e = .returned (.agg #[.int .i64 u0, .int .i64 u1, .int .u64 u2, .string u3, .slice a4 n4 c4]) ∧ Hid (Rf (fun g => w.heap.size ≤ g ∧ g < w'.heap.size) w' (m + 1) [.int .i64 u0, .int .i64 u1, .int .u64 u2, .string u3, .slice a4 n4 c4] t) ∧ Hid (∀ g o l c, Value.slice a4 n4 c4 = .slice (some ⟨g, o, none⟩) l c → ∀ q, w'.frozen? ⟨g, q, none⟩ = false) ∧ Below w.heap.size w w') := fun F0 W0 v w hv hb => (plain_top F0 W0 m t v w hrg h64 hps hv.out hb).mono fun e w' ⟨v0, v1, v2, v3, v4, he, rf, uf, hb'⟩ => by
    obtain ⟨u0, u1, u2, u3, a4, n4, c4', rfl, rfl, rfl, rfl, rfl⟩ := rep_shape (Rf.rep _ _ _ rf)
    exact ⟨u0, u1, u2, u3, a4, n4, c4', he, rf, uf, hb'⟩
  have hb0 := Th.start w (.int .i64 11) (.int .i64 i) (.int .u64 0) (.string ⟨#[]⟩) (.slice ad 1 cap)
  clear hO hrg h64 hps
  go_enter_defers Tryz.func12, Tryz.ntmps12
  go_wp2_with fail
  refine (HO.out _ hb0.below).mono ?_
  rintro e w1 ⟨bx, u, F0, rfl, hv, b1⟩
  have h1 := hb0.step b1
  have hs := vr_any hv.out.2
  have HB := Lib.hid (boxOpen bx i u w1 hv.out.1 hs)
  have vr : Hid (VR F0 w1 (m + 1) u t) := hv.out.2
  clear hv
  rcases hs with rfl | ⟨T, z, rfl⟩
  all_goals
    go_wp2_with fail
    refine HB.out.mono ?_
    rintro e w2 ⟨rfl, b2⟩
    have h2 := h1.step b2
    go_wp2_with fail
    refine (HP.out _ _ _ _ vr b2).mono ?_
    rintro e w3 ⟨u0, u1, u2, u3, a4, n4, c4, rfl, rf, uf, b3⟩
    have h3 := h2.step b3
    obtain ⟨⟨d0, d1, d2, d3, d4⟩, f0, fz, fz'⟩ := h3.d
    have B := h3.below
    have z2 := h2.size3
    go_wp2
    refine leaves_cons (f := 27) (args := #[.pointer (some ⟨w.heap.size + 1, 0, none⟩), .pointer (some ⟨w.heap.size + 1 + 1, 0, none⟩)]) (by simp) (by simp [go_sem]) ?_
    refine (opn_idle _ _ _).mono ?_
    rintro e u' w'' ⟨rfl, rfl, rfl⟩
    simp [Leaves, settle, results, Tryz.results12, go_sem, World.cell?_setCell_same, World.cell?_setCell_other, d0, d1, d2, d3, d4, f0]
    refine ⟨_, _, _, _, _, ⟨rfl, rfl, rfl, rfl, rfl⟩, ?_, ?_, ?_⟩
    · refine Rf.to (fun q hq => ⟨⟨by have := hq.1; omega, hq.2⟩, ?_⟩) _ _ _ rf.out
      have hne : q ≠ w.heap.size + 1 := by have := hq.1; omega
      have hne' : q ≠ w.heap.size + 1 + 1 := by have := hq.1; omega
      rw [Below.heap_setCell _ _ _ q hne', Below.heap_setCell _ _ _ q hne, Below.heap_setCell _ _ _ q hne, Below.heap_setCell _ _ _ q hne, Below.heap_setCell _ _ _ q hne, Below.heap_setCell _ _ _ q hne]
    · intro g o l c h q
      have := uf.out g o l c (by simpa using h) q
      simpa using this
    · exact (((((B.setCell (by show w.heap.size ≤ w.heap.size + 1; omega) _).setCell (by show w.heap.size ≤ w.heap.size + 1; omega) _).setCell (by show w.heap.size ≤ w.heap.size + 1; omega) _).setCell (by show w.heap.size ≤ w.heap.size + 1; omega) _).setCell (by show w.heap.size ≤ w.heap.size + 1; omega) _).setCell (by show w.heap.size ≤ w.heap.size + 1 + 1; omega) _
end Go.Proofs.YtlmebokbbhjbmaaGreatDoor.Dt
