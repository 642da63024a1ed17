/- The package's Words of a value's tree: what the document's answers; the conditions: the tree in memory, valid, its number within 64 bits, the table of powers. -/
import Derived.Test.YtlmebokbbhjbmaaGreatDoorCWoA
import Derived.Test.YtlmebokbbhjbmaaGreatDoorCLnA
namespace Go.Proofs.YtlmebokbbhjbmaaGreatDoor.Dt
open Go.RowKit
theorem errNil (w : World) : Calls Tryz.prog 142 #[.pointer none] w fun e w' => ∃ T z, e = .panicked [{ v := .iface T z, recovered := false }] ∧ w' = w := by
  go_enter Tryz.func142, Tryz.ntmps142
  go_wp2
  exact ⟨rfl, _, _, rfl, rfl⟩
theorem wor_catch (A B : Nat) (T : TypeId) (z : Value) (older : List PanicEntry) (w : World) (x : Value) (y : Value) (hne : A ≠ B) (hc : w.cell? ⟨A, 0, none⟩ = some x) (hz : w.frozen? ⟨A, 0, none⟩ = false) (hc' : w.cell? ⟨B, 0, none⟩ = some y) (hz' : w.frozen? ⟨B, 0, none⟩ = false) :
    CallsD Tryz.prog 26 #[.pointer (some ⟨A, 0, none⟩), .pointer (some ⟨B, 0, none⟩)] (.panicking ({ v := .iface T z, recovered := false } :: older)) w fun e u' w' =>
      e = .returned (.tuple #[]) ∧ u' = .panicking ({ v := .iface T z, recovered := true } :: older) ∧ w' = (w.setCell ⟨A, 0, none⟩ (.string ⟨#[]⟩)).setCell ⟨B, 0, none⟩ (.int .i64 13) := by
  refine callsD_of_wpS Tryz.func26 rfl fun c₀ cs hu => ?_
  apply wpS_seq
  apply wpS_region
  simp [wpOpsS, go_sem, recoverD, hu, Tryz.ntmps26, Exit.thenS]
  refine wpS_cond (t := true) (by simp [Act.eval, Array.replicate]) ?_
  simp only [if_true]
  apply wpS_region
  simp [wpOpsS, go_sem, hc, hz, hc', hz', World.cell?_setCell_other, bodyPostS, results, Tryz.results26]
set_option maxRecDepth 100000 in
set_option maxHeartbeats 2000000 in
theorem worNil (k i u : Int) (s0 : ByteArray) (ad : Option Addr) (len cap : Nat) (w : World)
    (hO : ∀ wx, Below w.heap.size w wx → Calls Tryz.prog 24 #[.agg #[.int .i64 k, .int .i64 i, .int .u64 u, .string s0, .slice ad len cap]] wx fun e w' => e = .returned (.iface 110 (.pointer none)) ∧ Below wx.heap.size wx w') :
    Calls Tryz.prog 10 #[.agg #[.int .i64 k, .int .i64 i, .int .u64 u, .string s0, .slice ad len cap]] w fun e w' => e = .returned (.tuple #[.string ⟨#[]⟩, .int .i64 13]) ∧ Below w.heap.size w w' := by
  have hmf : ∀ (fn : Fn) (first cap : Array Value) (w : World), (Instr.makeFunc fn first cap).run Tryz.prog w = .ok (.func fn first cap) w := fun _ _ _ _ => rfl
  have hmm : ∀ (z : Value) (w : World), (method 323 110 z "Error").run Tryz.prog w = .ok (142, z) w := fun _ _ => by kernel_rfl
  have hcf : ∀ (args : Array Value) (w : World), (callFunc 142 args).run Tryz.prog w = .ok (.enter 142 args) w := fun _ _ => by kernel_rfl
  have has : ∀ (z : Value) (w : World), (Instr.typeAssert (.iface 110 z) 20 62 true).run Tryz.prog w = .ok (.tuple #[.iface 110 z, .bool true]) w := fun z w => run_typeAssert_hasB Tryz.underlying62 (by kernel_rfl) _ _ w
  have h0 := Tw.start w (.cells #[.int .i64 k, .int .i64 i, .int .u64 u, .string s0, .slice ad len cap] 25)
  have HO := Lib.hid hO
  clear hO
  go_enter_defers Tryz.func10, Tryz.ntmps10
  go_wp2_with fail
  refine (HO.out _ h0.below).mono ?_
  rintro e w1 ⟨rfl, b1⟩
  have h1 := h0.step b1
  go_wp2_with fail
  refine (errNil _).mono ?_
  rintro e w2 ⟨T, z, rfl, rfl⟩
  obtain ⟨d0, f0, fz, fz'⟩ := h1.d
  have B := h1.below
  go_wp2
  refine leaves_cons (f := 26) (args := #[.pointer (some ⟨w.heap.size + 1, 0, none⟩), .pointer (some ⟨w.heap.size + 1 + 1, 0, none⟩)]) (by simp) (by simp [go_sem]) ?_
  refine (wor_catch _ _ T z [] _ _ _ (by omega) d0 fz f0 fz').mono ?_
  rintro e u' w'' ⟨rfl, rfl, rfl⟩
  simp [Leaves, settle, results, Tryz.results10, go_sem, World.cell?_setCell_same, World.cell?_setCell_other, d0, f0]
  exact (B.setCell (by show w.heap.size ≤ w.heap.size + 1; omega) _).setCell (by show w.heap.size ≤ w.heap.size + 1 + 1; omega) _
set_option maxRecDepth 100000 in
set_option maxHeartbeats 1000000 in
/-- The package's Words of a tree: what the document's answers. -/
theorem wor_any (W0 : World) (m : Nat) (t : Tr (m + 1)) (k i u : Int) (s0 : ByteArray) (ad : Option Addr) (len cap : Nat) (w : World) (hrg : rgt (m + 1) t = true) (hps : (pts (m + 1) t).1 ≤ 4096) (hrep : Rep W0 (m + 1) [.int .i64 k, .int .i64 i, .int .u64 u, .string s0, .slice ad len cap] t) (hb : Below W0.heap.size W0 w) (hi : I64 t.it) (hT : P10 W0) :
    Calls Tryz.prog 10 #[.agg #[.int .i64 k, .int .i64 i, .int .u64 u, .string s0, .slice ad len cap]] w fun e w' => e = .returned (.tuple #[.string (worP t.kd t.it t.tx).1, .int .i64 (worP t.kd t.it t.tx).2]) ∧ Below w.heap.size w w' := by
  have HO : ∀ wx, Below w.heap.size w wx → Calls Tryz.prog 24 #[.agg #[.int .i64 k, .int .i64 i, .int .u64 u, .string s0, .slice ad len cap]] wx fun e w' => ∃ v, e = .returned v ∧ Hid (VR (fun g => wx.heap.size ≤ g ∧ g < w'.heap.size) w' (m + 1) v t) ∧ Below wx.heap.size wx w' := fun wx hx => of_any W0 (m + 1) t k i u s0 ad len cap wx hrg hps hrep (hb.trans (hx.mono hb.size))
  have HT : Hid (∀ wx, Below w.heap.size w wx → P10 wx) := fun wx hx => hT.below (hb.trans (hx.mono hb.size))
  by_cases h10 : t.kd = 10
  · have e1 : worP t.kd t.it t.tx = (if t.tx.size = 0 then wnum errW t.it else t.tx, 0) := by
      by_cases hz : t.tx.size = 0 <;> simp [worP, h10, hz]
    rw [e1]
    refine worFail k i u s0 ad len cap w t.it hi t.tx HT _ rfl fun wx hx => (HO wx hx).mono fun e w' ⟨v, he, vr, hb'⟩ => ?_
    rcases vr_cases vr.out with ⟨q, rfl⟩ | ⟨q, rfl⟩ | ⟨q, rfl⟩ | ⟨q, rfl⟩ | ⟨q, rfl⟩ | ⟨q, rfl⟩ | ⟨q, rfl⟩ | ⟨q, a, c, rfl⟩ | ⟨q, a, c, rfl⟩ | ⟨q, x, y, rfl, hx, hy⟩ | ⟨q, rfl⟩ | ⟨q, b, u, rfl, hh, hu⟩ | ⟨q, rfl⟩ | ⟨q, rfl⟩
    all_goals first | omega | exact ⟨he, hb'⟩
  by_cases h11 : t.kd = 11
  · have e1 : worP t.kd t.it t.tx = (wnum boxW t.it, 0) := by simp [worP, h11]
    rw [e1]
    refine worBox k i u s0 ad len cap w t.it hi HT _ rfl fun wx hx => (HO wx hx).mono fun e w' ⟨v, he, vr, hb'⟩ => ?_
    rcases vr_cases vr.out with ⟨q, rfl⟩ | ⟨q, rfl⟩ | ⟨q, rfl⟩ | ⟨q, rfl⟩ | ⟨q, rfl⟩ | ⟨q, rfl⟩ | ⟨q, rfl⟩ | ⟨q, a, c, rfl⟩ | ⟨q, a, c, rfl⟩ | ⟨q, x, y, rfl, hx, hy⟩ | ⟨q, rfl⟩ | ⟨q, b, u, rfl, hh, hu⟩ | ⟨q, rfl⟩ | ⟨q, rfl⟩
    all_goals first | omega | exact ⟨_, _, he, hh, hb'⟩
  by_cases h12 : t.kd = 12
  · have e1 : worP t.kd t.it t.tx = (⟨#[]⟩, 13) := by simp [worP, h12]
    rw [e1]
    refine worNil k i u s0 ad len cap w fun wx hx => (HO wx hx).mono fun e w' ⟨v, he, vr, hb'⟩ => ?_
    rcases vr_cases vr.out with ⟨q, rfl⟩ | ⟨q, rfl⟩ | ⟨q, rfl⟩ | ⟨q, rfl⟩ | ⟨q, rfl⟩ | ⟨q, rfl⟩ | ⟨q, rfl⟩ | ⟨q, a, c, rfl⟩ | ⟨q, a, c, rfl⟩ | ⟨q, x, y, rfl, hx, hy⟩ | ⟨q, rfl⟩ | ⟨q, b, u, rfl, hh, hu⟩ | ⟨q, rfl⟩ | ⟨q, rfl⟩
    all_goals first | omega | exact ⟨he, hb'⟩
  · have e1 : worP t.kd t.it t.tx = (⟨#[]⟩, 12) := by simp [worP, *]
    rw [e1]
    refine worNo k i u s0 ad len cap w fun wx hx => (HO wx hx).mono fun e w' ⟨v, he, vr, hb'⟩ => ?_
    rcases vr_cases vr.out with ⟨q, rfl⟩ | ⟨q, rfl⟩ | ⟨q, rfl⟩ | ⟨q, rfl⟩ | ⟨q, rfl⟩ | ⟨q, rfl⟩ | ⟨q, rfl⟩ | ⟨q, a, c, rfl⟩ | ⟨q, a, c, rfl⟩ | ⟨q, x, y, rfl, hx, hy⟩ | ⟨q, rfl⟩ | ⟨q, b, u, rfl, hh, hu⟩ | ⟨q, rfl⟩ | ⟨q, rfl⟩
    all_goals first | omega | exact ⟨_, he, .inl rfl, fun w => assert_nil Tryz.underlying62 (by kernel_rfl), hb'⟩ | exact ⟨_, he, .inr ⟨_, _, rfl⟩, fun w => run_typeAssert_lacksB Tryz.underlying62 (by kernel_rfl) (by kernel_rfl) _ _ w, hb'⟩
end Go.Proofs.YtlmebokbbhjbmaaGreatDoor.Dt
