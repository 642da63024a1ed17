/- The package's Label of a value's tree: what the document's answers; the conditions: the tree in memory, valid, its number within 64 bits, the table of powers. -/
import Derived.Test.YtlmebokbbhjbmaaGreatDoorCLnA
import Derived.Test.YtlmebokbbhjbmaaGreatDoorCLab
namespace Go.Proofs.YtlmebokbbhjbmaaGreatDoor.Dt
open Go.RowKit
set_option maxRecDepth 100000 in
set_option maxHeartbeats 2000000 in
theorem labName (k i u : Int) (s0 : ByteArray) (ad : Option Addr) (len cap : Nat) (w : World) (r : ByteArray)
    (hO : ∀ wx, Below w.heap.size w wx → Calls Tryz.prog 24 #[.agg #[.int .i64 k, .int .i64 i, .int .u64 u, .string s0, .slice ad len cap]] wx fun e w' => e = .returned (.iface 99 (.string r)) ∧ Below wx.heap.size wx w') :
    Calls Tryz.prog 8 #[.agg #[.int .i64 k, .int .i64 i, .int .u64 u, .string s0, .slice ad len cap]] w fun e w' => e = .returned (.tuple #[.string (r), .int .i64 0]) ∧ Below w.heap.size w w' := by
  have hmf : ∀ (fn : Fn) (first cap : Array Value) (w : World), (Instr.makeFunc fn first cap).run Tryz.prog w = .ok (.func fn first cap) w := fun _ _ _ _ => rfl
  have hmm : ∀ (z : Value) (w : World), (method 323 99 z "Name").run Tryz.prog w = .ok (134, z) w := fun _ _ => by kernel_rfl
  have hcf : ∀ (args : Array Value) (w : World), (callFunc 134 args).run Tryz.prog w = .ok (.enter 134 args) w := fun _ _ => by kernel_rfl
  have has : ∀ (z : Value) (w : World), (Instr.typeAssert (.iface 99 z) 20 57 true).run Tryz.prog w = .ok (.tuple #[.iface 99 z, .bool true]) w := fun z w => run_typeAssert_hasB Tryz.underlying57 (by kernel_rfl) _ _ w
  have b0 := below1 w (.cells #[.int .i64 k, .int .i64 i, .int .u64 u, .string s0, .slice ad len cap] 25)
  have HO := Lib.hid hO
  clear hO
  go_enter Tryz.func8, Tryz.ntmps8
  go_wp2_with fail
  refine (HO.out _ b0).mono ?_
  rintro e w1 ⟨rfl, b1⟩
  have B1 := b0.trans (b1.mono b0.size)
  go_wp2_with fail
  refine (nameName r _).mono ?_
  rintro e w2 ⟨rfl, b2⟩
  have B2 := B1.trans (b2.mono B1.size)
  go_wp2
  go_ret2
  exact ⟨rfl, B2⟩
set_option maxRecDepth 100000 in
set_option maxHeartbeats 2000000 in
theorem labKey (k i u : Int) (s0 : ByteArray) (ad : Option Addr) (len cap : Nat) (w : World) (j : Int) (hj : I64 j) (HT : Hid (∀ wx, Below w.heap.size w wx → P10 wx))
    (hO : ∀ wx, Below w.heap.size w wx → Calls Tryz.prog 24 #[.agg #[.int .i64 k, .int .i64 i, .int .u64 u, .string s0, .slice ad len cap]] wx fun e w' => e = .returned (.iface 96 (.int .i64 j)) ∧ Below wx.heap.size wx w') :
    Calls Tryz.prog 8 #[.agg #[.int .i64 k, .int .i64 i, .int .u64 u, .string s0, .slice ad len cap]] w fun e w' => e = .returned (.tuple #[.string (wnum keyW j), .int .i64 0]) ∧ Below w.heap.size w w' := by
  have hmf : ∀ (fn : Fn) (first cap : Array Value) (w : World), (Instr.makeFunc fn first cap).run Tryz.prog w = .ok (.func fn first cap) w := fun _ _ _ _ => rfl
  have hmm : ∀ (z : Value) (w : World), (method 323 96 z "Name").run Tryz.prog w = .ok (124, z) w := fun _ _ => by kernel_rfl
  have hcf : ∀ (args : Array Value) (w : World), (callFunc 124 args).run Tryz.prog w = .ok (.enter 124 args) w := fun _ _ => by kernel_rfl
  have has : ∀ (z : Value) (w : World), (Instr.typeAssert (.iface 96 z) 20 57 true).run Tryz.prog w = .ok (.tuple #[.iface 96 z, .bool true]) w := fun z w => run_typeAssert_hasB Tryz.underlying57 (by kernel_rfl) _ _ w
  have b0 := below1 w (.cells #[.int .i64 k, .int .i64 i, .int .u64 u, .string s0, .slice ad len cap] 25)
  have HO := Lib.hid hO
  clear hO
  go_enter Tryz.func8, Tryz.ntmps8
  go_wp2_with fail
  refine (HO.out _ b0).mono ?_
  rintro e w1 ⟨rfl, b1⟩
  have B1 := b0.trans (b1.mono b0.size)
  go_wp2_with fail
  refine (nameKey j hj _ (HT.out _ B1)).mono ?_
  rintro e w2 ⟨rfl, b2⟩
  have B2 := B1.trans (b2.mono B1.size)
  go_wp2
  go_ret2
  exact ⟨rfl, B2⟩
set_option maxRecDepth 100000 in
set_option maxHeartbeats 2000000 in
theorem labFail (k i u : Int) (s0 : ByteArray) (ad : Option Addr) (len cap : Nat) (w : World) (j : Int) (r : ByteArray)
    (hO : ∀ wx, Below w.heap.size w wx → Calls Tryz.prog 24 #[.agg #[.int .i64 k, .int .i64 i, .int .u64 u, .string s0, .slice ad len cap]] wx fun e w' => e = .returned (.iface 109 (.agg #[.int .i64 j, .string r])) ∧ Below wx.heap.size wx w') :
    Calls Tryz.prog 8 #[.agg #[.int .i64 k, .int .i64 i, .int .u64 u, .string s0, .slice ad len cap]] w fun e w' => e = .returned (.tuple #[.string (r), .int .i64 0]) ∧ Below w.heap.size w w' := by
  have hmf : ∀ (fn : Fn) (first cap : Array Value) (w : World), (Instr.makeFunc fn first cap).run Tryz.prog w = .ok (.func fn first cap) w := fun _ _ _ _ => rfl
  have hmm : ∀ (z : Value) (w : World), (method 323 109 z "Name").run Tryz.prog w = .ok (141, z) w := fun _ _ => by kernel_rfl
  have hcf : ∀ (args : Array Value) (w : World), (callFunc 141 args).run Tryz.prog w = .ok (.enter 141 args) w := fun _ _ => by kernel_rfl
  have has : ∀ (z : Value) (w : World), (Instr.typeAssert (.iface 109 z) 20 57 true).run Tryz.prog w = .ok (.tuple #[.iface 109 z, .bool true]) w := fun z w => run_typeAssert_hasB Tryz.underlying57 (by kernel_rfl) _ _ w
  have b0 := below1 w (.cells #[.int .i64 k, .int .i64 i, .int .u64 u, .string s0, .slice ad len cap] 25)
  have HO := Lib.hid hO
  clear hO
  go_enter Tryz.func8, Tryz.ntmps8
  go_wp2_with fail
  refine (HO.out _ b0).mono ?_
  rintro e w1 ⟨rfl, b1⟩
  have B1 := b0.trans (b1.mono b0.size)
  go_wp2_with fail
  refine (nameFail j r _).mono ?_
  rintro e w2 ⟨rfl, b2⟩
  have B2 := B1.trans (b2.mono B1.size)
  go_wp2
  go_ret2
  exact ⟨rfl, B2⟩
set_option maxRecDepth 100000 in
set_option maxHeartbeats 2000000 in
theorem labNo (k i u : Int) (s0 : ByteArray) (ad : Option Addr) (len cap : Nat) (w : World)
    (hO : ∀ wx, Below w.heap.size w wx → Calls Tryz.prog 24 #[.agg #[.int .i64 k, .int .i64 i, .int .u64 u, .string s0, .slice ad len cap]] wx fun e w' => ∃ v, e = .returned v ∧ Sx v ∧ Hid (∀ w, (Instr.typeAssert v 20 57 true).run Tryz.prog w = .ok (.tuple #[.nilIface, .bool false]) w) ∧ Below wx.heap.size wx w') :
    Calls Tryz.prog 8 #[.agg #[.int .i64 k, .int .i64 i, .int .u64 u, .string s0, .slice ad len cap]] w fun e w' => e = .returned (.tuple #[.string ⟨#[]⟩, .int .i64 12]) ∧ Below w.heap.size w w' := by
  have b0 := below1 w (.cells #[.int .i64 k, .int .i64 i, .int .u64 u, .string s0, .slice ad len cap] 25)
  have HO := Lib.hid hO
  clear hO
  go_enter Tryz.func8, Tryz.ntmps8
  go_wp2_with fail
  refine (HO.out _ b0).mono ?_
  rintro e w1 ⟨v, rfl, hs, ha, b1⟩
  have B1 := b0.trans (b1.mono b0.size)
  rcases hs with rfl | ⟨T, z, rfl⟩
  all_goals
    have has := ha.out
    go_wp2
    go_ret2
    exact ⟨rfl, B1⟩
set_option maxRecDepth 100000 in
set_option maxHeartbeats 1000000 in
theorem lab_any (W0 : World) (m : Nat) (t : Tr (m + 1)) (k i u : Int) (s0 : ByteArray) (ad : Option Addr) (len cap : Nat) (w : World) (hrg : rgt (m + 1) t = true) (hps : (pts (m + 1) t).1 ≤ 4096) (hrep : Rep W0 (m + 1) [.int .i64 k, .int .i64 i, .int .u64 u, .string s0, .slice ad len cap] t) (hb : Below W0.heap.size W0 w) (hi : I64 t.it) (hT : P10 W0) :
    Calls Tryz.prog 8 #[.agg #[.int .i64 k, .int .i64 i, .int .u64 u, .string s0, .slice ad len cap]] w fun e w' => e = .returned (.tuple #[.string (labP t.kd t.it t.tx).1, .int .i64 (labP t.kd t.it t.tx).2]) ∧ Below w.heap.size w w' := by
  have HO : ∀ wx, Below w.heap.size w wx → Calls Tryz.prog 24 #[.agg #[.int .i64 k, .int .i64 i, .int .u64 u, .string s0, .slice ad len cap]] wx fun e w' => ∃ v, e = .returned v ∧ Hid (VR (fun g => wx.heap.size ≤ g ∧ g < w'.heap.size) w' (m + 1) v t) ∧ Below wx.heap.size wx w' := fun wx hx => of_any W0 (m + 1) t k i u s0 ad len cap wx hrg hps hrep (hb.trans (hx.mono hb.size))
  by_cases h5 : t.kd = 5
  · have e1 : labP t.kd t.it t.tx = (t.tx, 0) := by simp [labP, h5]
    rw [e1]
    refine labName k i u s0 ad len cap w t.tx fun wx hx => (HO wx hx).mono fun e w' ⟨v, he, vr, hb'⟩ => ?_
    rcases vr_cases vr.out with ⟨q, rfl⟩ | ⟨q, rfl⟩ | ⟨q, rfl⟩ | ⟨q, rfl⟩ | ⟨q, rfl⟩ | ⟨q, rfl⟩ | ⟨q, rfl⟩ | ⟨q, a, c, rfl⟩ | ⟨q, a, c, rfl⟩ | ⟨q, x, y, rfl, hx, hy⟩ | ⟨q, rfl⟩ | ⟨q, b, u, rfl, hh, hu⟩ | ⟨q, rfl⟩ | ⟨q, rfl⟩
    all_goals first | omega | exact ⟨he, hb'⟩
  by_cases h10 : t.kd = 10
  · have e1 : labP t.kd t.it t.tx = (t.tx, 0) := by simp [labP, h10]
    rw [e1]
    refine labFail k i u s0 ad len cap w t.it t.tx fun wx hx => (HO wx hx).mono fun e w' ⟨v, he, vr, hb'⟩ => ?_
    rcases vr_cases vr.out with ⟨q, rfl⟩ | ⟨q, rfl⟩ | ⟨q, rfl⟩ | ⟨q, rfl⟩ | ⟨q, rfl⟩ | ⟨q, rfl⟩ | ⟨q, rfl⟩ | ⟨q, a, c, rfl⟩ | ⟨q, a, c, rfl⟩ | ⟨q, x, y, rfl, hx, hy⟩ | ⟨q, rfl⟩ | ⟨q, b, u, rfl, hh, hu⟩ | ⟨q, rfl⟩ | ⟨q, rfl⟩
    all_goals first | omega | exact ⟨he, hb'⟩
  by_cases h2 : t.kd = 2
  · have e1 : labP t.kd t.it t.tx = (wnum keyW t.it, 0) := by simp [labP, h2]
    rw [e1]
    refine labKey k i u s0 ad len cap w t.it hi (fun wx hx => hT.below (hb.trans (hx.mono hb.size))) fun wx hx => (HO wx hx).mono fun e w' ⟨v, he, vr, hb'⟩ => ?_
    rcases vr_cases vr.out with ⟨q, rfl⟩ | ⟨q, rfl⟩ | ⟨q, rfl⟩ | ⟨q, rfl⟩ | ⟨q, rfl⟩ | ⟨q, rfl⟩ | ⟨q, rfl⟩ | ⟨q, a, c, rfl⟩ | ⟨q, a, c, rfl⟩ | ⟨q, x, y, rfl, hx, hy⟩ | ⟨q, rfl⟩ | ⟨q, b, u, rfl, hh, hu⟩ | ⟨q, rfl⟩ | ⟨q, rfl⟩
    all_goals first | omega | exact ⟨he, hb'⟩
  · have e1 : labP t.kd t.it t.tx = (⟨#[]⟩, 12) := by simp [labP, *]
    rw [e1]
    refine labNo k i u s0 ad len cap w fun wx hx => (HO wx hx).mono fun e w' ⟨v, he, vr, hb'⟩ => ?_
    rcases vr_cases vr.out with ⟨q, rfl⟩ | ⟨q, rfl⟩ | ⟨q, rfl⟩ | ⟨q, rfl⟩ | ⟨q, rfl⟩ | ⟨q, rfl⟩ | ⟨q, rfl⟩ | ⟨q, a, c, rfl⟩ | ⟨q, a, c, rfl⟩ | ⟨q, x, y, rfl, hx, hy⟩ | ⟨q, rfl⟩ | ⟨q, b, u, rfl, hh, hu⟩ | ⟨q, rfl⟩ | ⟨q, rfl⟩
    all_goals first | omega | exact ⟨_, he, .inl rfl, fun w => assert_nil Tryz.underlying57 (by kernel_rfl), hb'⟩ | exact ⟨_, he, .inr ⟨_, _, rfl⟩, fun w => run_typeAssert_lacksB Tryz.underlying57 (by kernel_rfl) (by kernel_rfl) _ _ w, hb'⟩
end Go.Proofs.YtlmebokbbhjbmaaGreatDoor.Dt
