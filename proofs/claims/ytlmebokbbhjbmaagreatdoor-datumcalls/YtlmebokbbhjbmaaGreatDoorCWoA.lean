/- The package's Words where no method panics; the conditions: what the package's value is, the number within 64 bits, the table of powers. -/
import Derived.Test.YtlmebokbbhjbmaaGreatDoorCWor
import Derived.Defers
import Derived.Recover
namespace Go.Proofs.YtlmebokbbhjbmaaGreatDoor.Dt
open Go.RowKit
theorem wor_idle (p q : Addr) (w : World) :
    CallsD Tryz.prog 26 #[.pointer (some p), .pointer (some q)] .returning w fun e u' w' => e = .returned (.tuple #[]) ∧ u' = .returning ∧ w' = w := by
  refine callsD_of_wpS Tryz.func26 rfl fun c₀ cs hu => ?_
  apply wpS_seq
  apply wpS_region
  simp [wpOpsS, go_sem, recoverD, hu, Tryz.ntmps26, Exit.thenS]
  refine wpS_cond (t := false) (by simp [Act.eval, Array.replicate]) ?_
  simp only [Bool.false_eq_true, if_false]
  refine wpS_of_wp (wp_skip ?_)
  cases c₀
  simp_all [bodyPostS, results, Tryz.results26]
/-- A value's block, a text's and an error's. -/
def Tw (w : World) (D : Obj) (w' : World) : Prop := Below (w.heap.size + 3) (((w.alloc D).alloc (.cells #[.string ⟨#[]⟩] 9)).alloc (.cells #[.int .i64 0] 28)) w'
theorem Tw.below {w : World} {D : Obj} {w' : World} (h : Tw w D w') : Below w.heap.size w w' := ((((Below.refl _ w).alloc (Nat.le_refl _) _).alloc (by simp) _).alloc (by simp; omega) _).trans (Below.mono h (by omega))
theorem Tw.step {w : World} {D : Obj} {w1 w2 : World} (h : Tw w D w1) (hb : Below w1.heap.size w1 w2) : Tw w D w2 := by
  have := Below.size h
  simp at this
  exact Below.trans h (hb.mono (by omega))
theorem Tw.start (w : World) (D : Obj) : Tw w D (((w.alloc D).alloc (.cells #[.string ⟨#[]⟩] 9)).alloc (.cells #[.int .i64 0] 28)) := Below.refl _ _
theorem Tw.d {w : World} {D : Obj} {w' : World} (h : Tw w D w') :
    w'.cell? ⟨w.heap.size + 1, 0, none⟩ = some (.string ⟨#[]⟩) ∧ w'.cell? ⟨w.heap.size + 1 + 1, 0, none⟩ = some (.int .i64 0) ∧ w'.frozen? ⟨w.heap.size + 1, 0, none⟩ = false ∧ w'.frozen? ⟨w.heap.size + 1 + 1, 0, none⟩ = false := by
  have e1 := heap_alloc_new (w.alloc D) (.cells #[.string ⟨#[]⟩] 9)
  have e2 := heap_alloc_new ((w.alloc D).alloc (.cells #[.string ⟨#[]⟩] 9)) (.cells #[.int .i64 0] 28)
  simp only [World.size_alloc] at e1 e2
  have h1 : w'.heap[w.heap.size + 1]? = some (.cells #[.string ⟨#[]⟩] 9 (0, 0)) := (Below.block h (w.heap.size + 1) (by omega)).trans (((below1 _ _).block _ (by simp)).trans e1)
  have h2 : w'.heap[w.heap.size + 1 + 1]? = some (.cells #[.int .i64 0] 28 (0, 0)) := (Below.block h (w.heap.size + 2) (by omega)).trans e2
  simp [World.cell?, World.frozen?, h1, h2]
set_option maxRecDepth 100000 in
set_option maxHeartbeats 2000000 in
theorem worFail (k i u : Int) (s0 : ByteArray) (ad : Option Addr) (len cap : Nat) (w : World) (j : Int) (hj : I64 j) (r : ByteArray) (HT : Hid (∀ wx, Below w.heap.size w wx → P10 wx)) (R : ByteArray) (hR : R = if r.size = 0 then wnum errW j else r)
    (hO : ∀ wx, Below w.heap.size w wx → Calls Tryz.prog 24 #[.agg #[.int .i64 k, .int .i64 i, .int .u64 u, .string s0, .slice ad len cap]] wx fun e w' => e = .returned (.iface 109 (.agg #[.int .i64 j, .string r])) ∧ Below wx.heap.size wx w') :
    Calls Tryz.prog 10 #[.agg #[.int .i64 k, .int .i64 i, .int .u64 u, .string s0, .slice ad len cap]] w fun e w' => e = .returned (.tuple #[.string R, .int .i64 0]) ∧ Below w.heap.size w w' := by
  have hmf : ∀ (fn : Fn) (first cap : Array Value) (w : World), (Instr.makeFunc fn first cap).run Tryz.prog w = .ok (.func fn first cap) w := fun _ _ _ _ => rfl
  have hmm : ∀ (z : Value) (w : World), (method 323 109 z "Error").run Tryz.prog w = .ok (140, z) w := fun _ _ => by kernel_rfl
  have hcf : ∀ (args : Array Value) (w : World), (callFunc 140 args).run Tryz.prog w = .ok (.enter 140 args) w := fun _ _ => by kernel_rfl
  have has : ∀ (z : Value) (w : World), (Instr.typeAssert (.iface 109 z) 20 62 true).run Tryz.prog w = .ok (.tuple #[.iface 109 z, .bool true]) w := fun z w => run_typeAssert_hasB Tryz.underlying62 (by kernel_rfl) _ _ w
  have h0 := Tw.start w (.cells #[.int .i64 k, .int .i64 i, .int .u64 u, .string s0, .slice ad len cap] 25)
  have HO := Lib.hid hO
  clear hO
  go_enter_defers Tryz.func10, Tryz.ntmps10
  go_wp2_with fail
  refine (HO.out _ h0.below).mono ?_
  rintro e w1 ⟨rfl, b1⟩
  have h1 := h0.step b1
  have B1 := h1.below
  go_wp2_with fail
  refine (errFail j r hj _ (HT.out _ B1)).mono ?_
  rw [← hR]
  clear hR
  rintro e w2 ⟨rfl, b2⟩
  have h2 := h1.step b2
  obtain ⟨d0, f0, fz, fz'⟩ := h2.d
  have B := h2.below
  go_wp2
  refine leaves_cons (f := 26) (args := #[.pointer (some ⟨w.heap.size + 1, 0, none⟩), .pointer (some ⟨w.heap.size + 1 + 1, 0, none⟩)]) (by simp) (by simp [go_sem]) ?_
  refine (wor_idle _ _ _).mono ?_
  rintro e u' w'' ⟨rfl, rfl, rfl⟩
  simp [Leaves, settle, results, Tryz.results10, go_sem, World.cell?_setCell_same, World.cell?_setCell_other, d0, f0]
  exact (B.setCell (by show w.heap.size ≤ w.heap.size + 1; omega) _).setCell (by show w.heap.size ≤ w.heap.size + 1 + 1; omega) _
set_option maxRecDepth 100000 in
set_option maxHeartbeats 2000000 in
theorem worBox (k i u : Int) (s0 : ByteArray) (ad : Option Addr) (len cap : Nat) (w : World) (j : Int) (hj : I64 j) (HT : Hid (∀ wx, Below w.heap.size w wx → P10 wx)) (R : ByteArray) (hR : R = wnum boxW j)
    (hO : ∀ wx, Below w.heap.size w wx → Calls Tryz.prog 24 #[.agg #[.int .i64 k, .int .i64 i, .int .u64 u, .string s0, .slice ad len cap]] wx fun e w' => ∃ b x, e = .returned (.iface 110 (.pointer (some ⟨b, 0, none⟩))) ∧ Hid (w'.heap[b]? = some (.cells #[.int .i64 j, x] 127 (0, 0))) ∧ Below wx.heap.size wx w') :
    Calls Tryz.prog 10 #[.agg #[.int .i64 k, .int .i64 i, .int .u64 u, .string s0, .slice ad len cap]] w fun e w' => e = .returned (.tuple #[.string R, .int .i64 0]) ∧ Below w.heap.size w w' := by
  have hmf : ∀ (fn : Fn) (first cap : Array Value) (w : World), (Instr.makeFunc fn first cap).run Tryz.prog w = .ok (.func fn first cap) w := fun _ _ _ _ => rfl
  have hmm : ∀ (z : Value) (w : World), (method 323 110 z "Error").run Tryz.prog w = .ok (142, z) w := fun _ _ => by kernel_rfl
  have hcf : ∀ (args : Array Value) (w : World), (callFunc 142 args).run Tryz.prog w = .ok (.enter 142 args) w := fun _ _ => by kernel_rfl
  have has : ∀ (z : Value) (w : World), (Instr.typeAssert (.iface 110 z) 20 62 true).run Tryz.prog w = .ok (.tuple #[.iface 110 z, .bool true]) w := fun z w => run_typeAssert_hasB Tryz.underlying62 (by kernel_rfl) _ _ w
  have h0 := Tw.start w (.cells #[.int .i64 k, .int .i64 i, .int .u64 u, .string s0, .slice ad len cap] 25)
  have HO := Lib.hid hO
  clear hO
  go_enter_defers Tryz.func10, Tryz.ntmps10
  go_wp2_with fail
  refine (HO.out _ h0.below).mono ?_
  rintro e w1 ⟨b, x, rfl, hh, b1⟩
  have h1 := h0.step b1
  have B1 := h1.below
  go_wp2_with fail
  refine (errBox b j hj x _ hh.out (HT.out _ B1)).mono ?_
  rw [← hR]
  clear hR
  rintro e w2 ⟨rfl, b2⟩
  have h2 := h1.step b2
  obtain ⟨d0, f0, fz, fz'⟩ := h2.d
  have B := h2.below
  go_wp2
  refine leaves_cons (f := 26) (args := #[.pointer (some ⟨w.heap.size + 1, 0, none⟩), .pointer (some ⟨w.heap.size + 1 + 1, 0, none⟩)]) (by simp) (by simp [go_sem]) ?_
  refine (wor_idle _ _ _).mono ?_
  rintro e u' w'' ⟨rfl, rfl, rfl⟩
  simp [Leaves, settle, results, Tryz.results10, go_sem, World.cell?_setCell_same, World.cell?_setCell_other, d0, f0]
  exact (B.setCell (by show w.heap.size ≤ w.heap.size + 1; omega) _).setCell (by show w.heap.size ≤ w.heap.size + 1 + 1; omega) _
set_option maxRecDepth 100000 in
set_option maxHeartbeats 2000000 in
theorem worNo (k i u : Int) (s0 : ByteArray) (ad : Option Addr) (len cap : Nat) (w : World)
    (hO : ∀ wx, Below w.heap.size w wx → Calls Tryz.prog 24 #[.agg #[.int .i64 k, .int .i64 i, .int .u64 u, .string s0, .slice ad len cap]] wx fun e w' => ∃ v, e = .returned v ∧ Sx v ∧ Hid (∀ w, (Instr.typeAssert v 20 62 true).run Tryz.prog w = .ok (.tuple #[.nilIface, .bool false]) w) ∧ Below wx.heap.size wx w') :
    Calls Tryz.prog 10 #[.agg #[.int .i64 k, .int .i64 i, .int .u64 u, .string s0, .slice ad len cap]] w fun e w' => e = .returned (.tuple #[.string ⟨#[]⟩, .int .i64 12]) ∧ Below w.heap.size w w' := by
  have hmf : ∀ (fn : Fn) (first cap : Array Value) (w : World), (Instr.makeFunc fn first cap).run Tryz.prog w = .ok (.func fn first cap) w := fun _ _ _ _ => rfl
  have h0 := Tw.start w (.cells #[.int .i64 k, .int .i64 i, .int .u64 u, .string s0, .slice ad len cap] 25)
  have HO := Lib.hid hO
  clear hO
  go_enter_defers Tryz.func10, Tryz.ntmps10
  go_wp2_with fail
  refine (HO.out _ h0.below).mono ?_
  rintro e w1 ⟨v, rfl, hs, ha, b1⟩
  have h2 := h0.step b1
  rcases hs with rfl | ⟨T, z, rfl⟩
  all_goals
    have has := ha.out
    obtain ⟨d0, f0, fz, fz'⟩ := h2.d
    have B := h2.below
    go_wp2
    refine leaves_cons (f := 26) (args := #[.pointer (some ⟨w.heap.size + 1, 0, none⟩), .pointer (some ⟨w.heap.size + 1 + 1, 0, none⟩)]) (by simp) (by simp [go_sem]) ?_
    refine (wor_idle _ _ _).mono ?_
    rintro e u' w'' ⟨rfl, rfl, rfl⟩
    simp [Leaves, settle, results, Tryz.results10, go_sem, World.cell?_setCell_same, World.cell?_setCell_other, d0, f0]
    exact (B.setCell (by show w.heap.size ≤ w.heap.size + 1; omega) _).setCell (by show w.heap.size ≤ w.heap.size + 1 + 1; omega) _
end Go.Proofs.YtlmebokbbhjbmaaGreatDoor.Dt
