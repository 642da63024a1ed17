/- The package's map name; the conditions: the value in memory, valid, the table of powers as it is laid. -/
import Derived.Test.YtajagjcfmaggiaaGreatDoorKCdh
import Derived.Test.YtajagjcfmaggiaaGreatDoorKCba
namespace Go.Proofs.YtajagjcfmaggiaaGreatDoor
open Go.RowKit

/-- A text's value. -/
theorem vr_text (F : Nat → Prop) (w : World) (s : ByteArray) : Dt.VR F w 1 (.iface 101 (.string s)) (txT 0 s) := by
  simp only [Dt.VR]
  simp [txT, nd, Dt.Tr.kd, Dt.Tr.tx]
theorem pln_text (s : ByteArray) (hs : s.size ≤ 65535) (W : World) : Calls Tryz.prog 82 #[.iface 101 (.string s)] W fun e w' => ∃ (u0 u1 u2 : Int) (u3 : ByteArray) (a4 : Option Addr) (n4 c4 : Nat), e = .returned (.agg #[.int .i64 u0, .int .i64 u1, .int .u64 u2, .string u3, .slice a4 n4 c4]) ∧ Hid (Dt.Rep w' 1 [.int .i64 u0, .int .i64 u1, .int .u64 u2, .string u3, .slice a4 n4 c4] (txT 0 s)) ∧ Below W.heap.size W w' :=
  have o : Ok 1 (txT 0 s) := ok_leaf (m := 0) 4 0 0 s (by simp [Dt.okB]; exact hs) u00 i00
  Dt.pln (txT 0 s) _ (vB_to o.v).1 o.r6 (vB_to o.v).2.1 (fun F w => vr_text F w s) W

set_option maxRecDepth 100000 in
set_option maxHeartbeats 1000000 in
theorem name_Name (tp : ByteArray) (k i u : Int) (s : ByteArray) (a : Option Addr) (n c : Nat) (w : World) (D : Nat → Prop) (r : ByteArray) (hs : (ByteArray.size r) ≤ 65535)
    (hO : ∀ wx, Below w.heap.size w wx → Calls Tryz.prog 76 #[.agg #[.int .i64 k, .int .i64 i, .int .u64 u, .string s, .slice a n c]] wx fun e w' => e = .returned (.iface 143 (.string r)) ∧ Below wx.heap.size wx w') :
    Calls Tryz.prog 59 #[.string tp, .agg #[.int .i64 k, .int .i64 i, .int .u64 u, .string s, .slice a n c]] w (GR D (good (txT 0 r)) w) := by
  have hmf : ∀ (fn : Fn) (first cap : Array Value) (w : World), (Instr.makeFunc fn first cap).run Tryz.prog w = .ok (.func fn first cap) w := fun _ _ _ _ => rfl
  have hmm : ∀ (z : Value) (w : World), (method 367 143 z "Name").run Tryz.prog w = .ok (215, z) w := fun _ _ => by kernel_rfl
  have hcf : ∀ (args : Array Value) (w : World), (callFunc 215 args).run Tryz.prog w = .ok (.enter 215 args) w := fun _ _ => by kernel_rfl
  have has : ∀ (z : Value) (w : World), (Instr.typeAssert (.iface 143 z) 20 98 true).run Tryz.prog w = .ok (.tuple #[.iface 143 z, .bool true]) w := fun z w => run_typeAssert_hasB Tryz.underlying98 (by kernel_rfl) _ _ w
  have HO := Lib.hid hO
  have HP := Lib.hid (pln_text r hs)

  clear hO hs
  have B0 := below2 w (.cells #[.int .i64 k, .int .i64 i, .int .u64 u, .string s, .slice a n c] 25) (.cells (rErr 0 0 0 0) 33)
  have D0 : Bk ((w.alloc (.cells #[.int .i64 k, .int .i64 i, .int .u64 u, .string s, .slice a n c] 25)).alloc (.cells (rErr 0 0 0 0) 33)) w.heap.size #[.int .i64 k, .int .i64 i, .int .u64 u, .string s, .slice a n c] 25 := (Bk.new w _ _).alloc _
  have R0 := Bk.new2 w (.cells #[.int .i64 k, .int .i64 i, .int .u64 u, .string s, .slice a n c] 25) (rErr 0 0 0 0) 33
  go_enter Tryz.func59, Tryz.ntmps59
  go_wp2_with fail
  refine (HO.out _ B0).mono ?_
  rintro e w1 ⟨rfl, b1⟩
  have B1 := B0.trans (b1.mono B0.size)
  have R1 := R0.step b1
  clear D0 R0
  go_wp2_with fail
  refine (Dt.nameName r _).mono ?_
  rintro e w2 ⟨rfl, b2⟩
  have B2 := B1.trans (b2.mono B1.size)
  have R2 := R1.step b2
  clear R1 b1 b2
  go_wp2_with fail
  refine (HP.out _).mono ?_
  rintro e w3 ⟨y0, y1, y2, y3, y4, y5, y6, rfl, ry, b3⟩
  have RY := Lib.hid ry
  have R3 := R2.step b3
  have B3 := B2.trans (b3.mono B2.size)
  clear ry R2 b3
  go_wp2_with fail
  refine (told_ok y0 y1 y2 y3 y4 y5 y6 _).mono ?_
  rintro e w4 ⟨rfl, b5⟩
  have r9 := R3.step b5
  have B9 := B3.trans (b5.mono B3.size)
  obtain ⟨c0, c1, c2, c3, c4, c5, c6, c7, c8, c9⟩ := r9.c10
  have z2 := r9.f
  go_wp2_with fail
  obtain ⟨k1, k2, k3, k4⟩ := set10 r9 (.int .i64 0) (.int .i64 0) (.int .i64 0) (.int .i64 0) (.bool true) (.int .i64 y0) (.int .i64 y1) (.int .u64 y2) (.string y3) (.slice y4 y5 y6) rfl
  have KF := B9.trans (k4.mono (by omega))
  obtain ⟨q0, q1, q2, q3, q4, q5, q6, q7, q8, q9⟩ := k1.c10
  refine bodyPost_ret (v := .agg (rcs 0 0 0 0 true y0 y1 y2 y3 y4 y5 y6)) ?_ rfl ⟨y0, y1, y2, y3, y4, y5, y6, rfl, rz_leaf (t := txT 0 r) rfl RY.out.out, KF⟩
  simp [results, Tryz.results59, go_sem, q0, q1, q2, q3, q4, q5, q6, q7, q8, q9]

set_option maxRecDepth 100000 in
set_option maxHeartbeats 1000000 in
theorem name_Key (tp : ByteArray) (k i u : Int) (s : ByteArray) (a : Option Addr) (n c : Nat) (w : World) (D : Nat → Prop) (L : Lb) (j : Int) (hj : Dt.I64 j) (hT : NameOk L w) (hs : (ByteArray.size (L.1 j)) ≤ 65535)
    (hO : ∀ wx, Below w.heap.size w wx → Calls Tryz.prog 76 #[.agg #[.int .i64 k, .int .i64 i, .int .u64 u, .string s, .slice a n c]] wx fun e w' => e = .returned (.iface 141 (.int .i64 j)) ∧ Below wx.heap.size wx w') :
    Calls Tryz.prog 59 #[.string tp, .agg #[.int .i64 k, .int .i64 i, .int .u64 u, .string s, .slice a n c]] w (GR D (good (txT 0 (L.1 j))) w) := by
  have hmf : ∀ (fn : Fn) (first cap : Array Value) (w : World), (Instr.makeFunc fn first cap).run Tryz.prog w = .ok (.func fn first cap) w := fun _ _ _ _ => rfl
  have hmm : ∀ (z : Value) (w : World), (method 367 141 z "Name").run Tryz.prog w = .ok (211, z) w := fun _ _ => by kernel_rfl
  have hcf : ∀ (args : Array Value) (w : World), (callFunc 211 args).run Tryz.prog w = .ok (.enter 211 args) w := fun _ _ => by kernel_rfl
  have has : ∀ (z : Value) (w : World), (Instr.typeAssert (.iface 141 z) 20 98 true).run Tryz.prog w = .ok (.tuple #[.iface 141 z, .bool true]) w := fun z w => run_typeAssert_hasB Tryz.underlying98 (by kernel_rfl) _ _ w
  have HO := Lib.hid hO
  have HP := Lib.hid (pln_text (L.1 j) hs)
  have HT := Lib.hid hT
  clear hO hs hT
  have B0 := below2 w (.cells #[.int .i64 k, .int .i64 i, .int .u64 u, .string s, .slice a n c] 25) (.cells (rErr 0 0 0 0) 33)
  have D0 : Bk ((w.alloc (.cells #[.int .i64 k, .int .i64 i, .int .u64 u, .string s, .slice a n c] 25)).alloc (.cells (rErr 0 0 0 0) 33)) w.heap.size #[.int .i64 k, .int .i64 i, .int .u64 u, .string s, .slice a n c] 25 := (Bk.new w _ _).alloc _
  have R0 := Bk.new2 w (.cells #[.int .i64 k, .int .i64 i, .int .u64 u, .string s, .slice a n c] 25) (rErr 0 0 0 0) 33
  go_enter Tryz.func59, Tryz.ntmps59
  go_wp2_with fail
  refine (HO.out _ B0).mono ?_
  rintro e w1 ⟨rfl, b1⟩
  have B1 := B0.trans (b1.mono B0.size)
  have R1 := R0.step b1
  clear D0 R0
  go_wp2_with fail
  refine (HT.out j hj _ B1).mono ?_
  rintro e w2 ⟨rfl, b2⟩
  have B2 := B1.trans (b2.mono B1.size)
  have R2 := R1.step b2
  clear R1 b1 b2
  go_wp2_with fail
  refine (HP.out _).mono ?_
  rintro e w3 ⟨y0, y1, y2, y3, y4, y5, y6, rfl, ry, b3⟩
  have RY := Lib.hid ry
  have R3 := R2.step b3
  have B3 := B2.trans (b3.mono B2.size)
  clear ry R2 b3
  go_wp2_with fail
  refine (told_ok y0 y1 y2 y3 y4 y5 y6 _).mono ?_
  rintro e w4 ⟨rfl, b5⟩
  have r9 := R3.step b5
  have B9 := B3.trans (b5.mono B3.size)
  obtain ⟨c0, c1, c2, c3, c4, c5, c6, c7, c8, c9⟩ := r9.c10
  have z2 := r9.f
  go_wp2_with fail
  obtain ⟨k1, k2, k3, k4⟩ := set10 r9 (.int .i64 0) (.int .i64 0) (.int .i64 0) (.int .i64 0) (.bool true) (.int .i64 y0) (.int .i64 y1) (.int .u64 y2) (.string y3) (.slice y4 y5 y6) rfl
  have KF := B9.trans (k4.mono (by omega))
  obtain ⟨q0, q1, q2, q3, q4, q5, q6, q7, q8, q9⟩ := k1.c10
  refine bodyPost_ret (v := .agg (rcs 0 0 0 0 true y0 y1 y2 y3 y4 y5 y6)) ?_ rfl ⟨y0, y1, y2, y3, y4, y5, y6, rfl, rz_leaf (t := txT 0 (L.1 j)) rfl RY.out.out, KF⟩
  simp [results, Tryz.results59, go_sem, q0, q1, q2, q3, q4, q5, q6, q7, q8, q9]

set_option maxRecDepth 100000 in
set_option maxHeartbeats 1000000 in
theorem name_Fail (tp : ByteArray) (k i u : Int) (s : ByteArray) (a : Option Addr) (n c : Nat) (w : World) (D : Nat → Prop) (j : Int) (r : ByteArray) (hs : (ByteArray.size r) ≤ 65535)
    (hO : ∀ wx, Below w.heap.size w wx → Calls Tryz.prog 76 #[.agg #[.int .i64 k, .int .i64 i, .int .u64 u, .string s, .slice a n c]] wx fun e w' => e = .returned (.iface 154 (.agg #[.int .i64 j, .string r])) ∧ Below wx.heap.size wx w') :
    Calls Tryz.prog 59 #[.string tp, .agg #[.int .i64 k, .int .i64 i, .int .u64 u, .string s, .slice a n c]] w (GR D (good (txT 0 r)) w) := by
  have hmf : ∀ (fn : Fn) (first cap : Array Value) (w : World), (Instr.makeFunc fn first cap).run Tryz.prog w = .ok (.func fn first cap) w := fun _ _ _ _ => rfl
  have hmm : ∀ (z : Value) (w : World), (method 367 154 z "Name").run Tryz.prog w = .ok (221, z) w := fun _ _ => by kernel_rfl
  have hcf : ∀ (args : Array Value) (w : World), (callFunc 221 args).run Tryz.prog w = .ok (.enter 221 args) w := fun _ _ => by kernel_rfl
  have has : ∀ (z : Value) (w : World), (Instr.typeAssert (.iface 154 z) 20 98 true).run Tryz.prog w = .ok (.tuple #[.iface 154 z, .bool true]) w := fun z w => run_typeAssert_hasB Tryz.underlying98 (by kernel_rfl) _ _ w
  have HO := Lib.hid hO
  have HP := Lib.hid (pln_text r hs)

  clear hO hs
  have B0 := below2 w (.cells #[.int .i64 k, .int .i64 i, .int .u64 u, .string s, .slice a n c] 25) (.cells (rErr 0 0 0 0) 33)
  have D0 : Bk ((w.alloc (.cells #[.int .i64 k, .int .i64 i, .int .u64 u, .string s, .slice a n c] 25)).alloc (.cells (rErr 0 0 0 0) 33)) w.heap.size #[.int .i64 k, .int .i64 i, .int .u64 u, .string s, .slice a n c] 25 := (Bk.new w _ _).alloc _
  have R0 := Bk.new2 w (.cells #[.int .i64 k, .int .i64 i, .int .u64 u, .string s, .slice a n c] 25) (rErr 0 0 0 0) 33
  go_enter Tryz.func59, Tryz.ntmps59
  go_wp2_with fail
  refine (HO.out _ B0).mono ?_
  rintro e w1 ⟨rfl, b1⟩
  have B1 := B0.trans (b1.mono B0.size)
  have R1 := R0.step b1
  clear D0 R0
  go_wp2_with fail
  refine (Dt.nameFail j r _).mono ?_
  rintro e w2 ⟨rfl, b2⟩
  have B2 := B1.trans (b2.mono B1.size)
  have R2 := R1.step b2
  clear R1 b1 b2
  go_wp2_with fail
  refine (HP.out _).mono ?_
  rintro e w3 ⟨y0, y1, y2, y3, y4, y5, y6, rfl, ry, b3⟩
  have RY := Lib.hid ry
  have R3 := R2.step b3
  have B3 := B2.trans (b3.mono B2.size)
  clear ry R2 b3
  go_wp2_with fail
  refine (told_ok y0 y1 y2 y3 y4 y5 y6 _).mono ?_
  rintro e w4 ⟨rfl, b5⟩
  have r9 := R3.step b5
  have B9 := B3.trans (b5.mono B3.size)
  obtain ⟨c0, c1, c2, c3, c4, c5, c6, c7, c8, c9⟩ := r9.c10
  have z2 := r9.f
  go_wp2_with fail
  obtain ⟨k1, k2, k3, k4⟩ := set10 r9 (.int .i64 0) (.int .i64 0) (.int .i64 0) (.int .i64 0) (.bool true) (.int .i64 y0) (.int .i64 y1) (.int .u64 y2) (.string y3) (.slice y4 y5 y6) rfl
  have KF := B9.trans (k4.mono (by omega))
  obtain ⟨q0, q1, q2, q3, q4, q5, q6, q7, q8, q9⟩ := k1.c10
  refine bodyPost_ret (v := .agg (rcs 0 0 0 0 true y0 y1 y2 y3 y4 y5 y6)) ?_ rfl ⟨y0, y1, y2, y3, y4, y5, y6, rfl, rz_leaf (t := txT 0 r) rfl RY.out.out, KF⟩
  simp [results, Tryz.results59, go_sem, q0, q1, q2, q3, q4, q5, q6, q7, q8, q9]

set_option maxRecDepth 100000 in
set_option maxHeartbeats 1000000 in
theorem name_no (tp : ByteArray) (k i u : Int) (s : ByteArray) (a : Option Addr) (n c : Nat) (w : World) (D : Nat → Prop)
    (hO : ∀ wx, Below w.heap.size w wx → Calls Tryz.prog 76 #[.agg #[.int .i64 k, .int .i64 i, .int .u64 u, .string s, .slice a n c]] wx fun e w' => ∃ v, e = .returned v ∧ Sx v ∧ Hid (∀ w, (Instr.typeAssert v 20 98 true).run Tryz.prog w = .ok (.tuple #[.nilIface, .bool false]) w) ∧ Below wx.heap.size wx w') :
    Calls Tryz.prog 59 #[.string tp, .agg #[.int .i64 k, .int .i64 i, .int .u64 u, .string s, .slice a n c]] w (GR D (bad 12 0 0) w) := by
  have HO := Lib.hid hO
  clear hO
  have B0 := below2 w (.cells #[.int .i64 k, .int .i64 i, .int .u64 u, .string s, .slice a n c] 25) (.cells (rErr 0 0 0 0) 33)
  have D0 : Bk ((w.alloc (.cells #[.int .i64 k, .int .i64 i, .int .u64 u, .string s, .slice a n c] 25)).alloc (.cells (rErr 0 0 0 0) 33)) w.heap.size #[.int .i64 k, .int .i64 i, .int .u64 u, .string s, .slice a n c] 25 := (Bk.new w _ _).alloc _
  have R0 := Bk.new2 w (.cells #[.int .i64 k, .int .i64 i, .int .u64 u, .string s, .slice a n c] 25) (rErr 0 0 0 0) 33
  go_enter Tryz.func59, Tryz.ntmps59
  go_wp2_with fail
  refine (HO.out _ B0).mono ?_
  rintro e w1 ⟨v, rfl, hs, ha, b1⟩
  have B1 := B0.trans (b1.mono B0.size)
  have R1 := R0.step b1
  have D1 := D0.step b1
  obtain ⟨d0, d1, d2, d3, d4⟩ := D1.c5
  clear D0 R0
  rcases hs with rfl | ⟨T, z, rfl⟩
  all_goals
    have has := ha.out
    go_wp2_with fail
    refine (told_12 k i u s a n c _).mono ?_
    rintro e w2 ⟨rfl, b2⟩
    clear D1 d0 d1 d2 d3 d4
    have r2 := R1.step b2
    have B2 := B1.trans (b2.mono B1.size)
    obtain ⟨c0, c1, c2, c3, c4, c5, c6, c7, c8, c9⟩ := r2.c10
    have z2 := r2.f
    go_wp2_with fail
    obtain ⟨k1, k2, k3, k4⟩ := set10 r2 (.int .i64 12) (.int .i64 0) (.int .i64 0) (.int .i64 0) (.bool false) (.int .i64 0) (.int .i64 0) (.int .u64 0) (.string ⟨#[]⟩) (.slice none 0 0) rfl
    have KF := B2.trans (k4.mono (by omega))
    obtain ⟨q0, q1, q2, q3, q4, q5, q6, q7, q8, q9⟩ := k1.c10
    refine bodyPost_ret (v := .agg (rcs 12 0 0 0 false 0 0 0 ⟨#[]⟩ none 0 0)) ?_ rfl (gr_bad ⟨rfl, KF⟩)
    simp [results, Tryz.results59, go_sem, q0, q1, q2, q3, q4, q5, q6, q7, q8, q9]

end Go.Proofs.YtajagjcfmaggiaaGreatDoor
/- Each of the package's maps over a value's tree: what comes is what the document's table has; the conditions: the value in memory, valid, the tables as they are laid, the topic not too long. -/
namespace Go.Proofs.YtajagjcfmaggiaaGreatDoor
open Go.RowKit

/-- The function of a map. -/
def mfn (op : Int) : Nat := if op = 1 then 51 else if op = 2 then 53 else if op = 3 then 55 else if op = 4 then 57 else if op = 5 then 59 else if op = 6 then 61 else if op = 7 then 63 else if op = 8 then 65 else 49

set_option maxRecDepth 100000 in
theorem name_any (L : Lb) (tp : ByteArray) (k i u : Int) (s : ByteArray) (a : Option Addr) (n c : Nat) {m : Nat} (t : Dt.Tr (m + 1)) (ho : Ok (m + 1) t) (w : World) (D : Nat → Prop) (hv : Vl w m t k i u s a n c) (hT : t.kd = 2 → NameOk L w) :
    Calls Tryz.prog 59 #[.string tp, .agg #[.int .i64 k, .int .i64 i, .int .u64 u, .string s, .slice a n c]] w (GR D (if (labL L t.kd t.it t.tx).2 = 0 then good (txT 0 (labL L t.kd t.it t.tx).1) else bad 12 0 0) w) := by
  have HO : ∀ wx, Below w.heap.size w wx → Calls Tryz.prog 76 #[.agg #[.int .i64 k, .int .i64 i, .int .u64 u, .string s, .slice a n c]] wx fun e w' => ∃ v, e = .returned v ∧ Hid (Dt.VR (fun g => wx.heap.size ≤ g ∧ g < w'.heap.size) w' (m + 1) v t) ∧ Below wx.heap.size wx w' := fun wx hx => (of_val w m t k i u s a n c wx hv.rg hv.ps hv.rep hx).mono fun e w' ⟨v, he, _, vr, hb'⟩ => ⟨v, he, vr, hb'⟩
  have hs := lab_size L ho
  by_cases h5 : t.kd = 5
  · have e1 : labL L t.kd t.it t.tx = (t.tx, 0) := by simp [labL, h5]
    rw [e1] at hs ⊢
    rw [if_pos rfl]
    refine name_Name tp k i u s a n c w D t.tx hs fun wx hx => (HO wx hx).mono fun e w' ⟨v, he, vr, hb'⟩ => ?_
    rcases Dt.vr_cases vr.out with ⟨q, rfl⟩ | ⟨q, rfl⟩ | ⟨q, rfl⟩ | ⟨q, rfl⟩ | ⟨q, rfl⟩ | ⟨q, rfl⟩ | ⟨q, rfl⟩ | ⟨q, a', c', rfl⟩ | ⟨q, a', c', rfl⟩ | ⟨q, x, y, rfl, hx, hy⟩ | ⟨q, rfl⟩ | ⟨q, b, u', rfl, hh, hu⟩ | ⟨q, rfl⟩ | ⟨q, rfl⟩
    all_goals first | omega | exact ⟨he, hb'⟩
  by_cases h10 : t.kd = 10
  · have e1 : labL L t.kd t.it t.tx = (t.tx, 0) := by simp [labL, h10]
    rw [e1] at hs ⊢
    rw [if_pos rfl]
    refine name_Fail tp k i u s a n c w D t.it t.tx hs fun wx hx => (HO wx hx).mono fun e w' ⟨v, he, vr, hb'⟩ => ?_
    rcases Dt.vr_cases vr.out with ⟨q, rfl⟩ | ⟨q, rfl⟩ | ⟨q, rfl⟩ | ⟨q, rfl⟩ | ⟨q, rfl⟩ | ⟨q, rfl⟩ | ⟨q, rfl⟩ | ⟨q, a', c', rfl⟩ | ⟨q, a', c', rfl⟩ | ⟨q, x, y, rfl, hx, hy⟩ | ⟨q, rfl⟩ | ⟨q, b, u', rfl, hh, hu⟩ | ⟨q, rfl⟩ | ⟨q, rfl⟩
    all_goals first | omega | exact ⟨he, hb'⟩
  by_cases h2 : t.kd = 2
  · have e1 : labL L t.kd t.it t.tx = (L.1 t.it, 0) := by simp [labL, h2]
    rw [e1] at hs ⊢
    rw [if_pos rfl]
    refine name_Key tp k i u s a n c w D L t.it ho.i6.1 (hT h2) hs fun wx hx => (HO wx hx).mono fun e w' ⟨v, he, vr, hb'⟩ => ?_
    rcases Dt.vr_cases vr.out with ⟨q, rfl⟩ | ⟨q, rfl⟩ | ⟨q, rfl⟩ | ⟨q, rfl⟩ | ⟨q, rfl⟩ | ⟨q, rfl⟩ | ⟨q, rfl⟩ | ⟨q, a', c', rfl⟩ | ⟨q, a', c', rfl⟩ | ⟨q, x, y, rfl, hx, hy⟩ | ⟨q, rfl⟩ | ⟨q, b, u', rfl, hh, hu⟩ | ⟨q, rfl⟩ | ⟨q, rfl⟩
    all_goals first | omega | exact ⟨he, hb'⟩
  · have e1 : labL L t.kd t.it t.tx = (⟨#[]⟩, 12) := by simp [labL, *]
    rw [e1]
    rw [if_neg (by decide)]
    refine name_no tp k i u s a n c w D fun wx hx => (HO wx hx).mono fun e w' ⟨v, he, vr, hb'⟩ => ?_
    rcases Dt.vr_cases vr.out with ⟨q, rfl⟩ | ⟨q, rfl⟩ | ⟨q, rfl⟩ | ⟨q, rfl⟩ | ⟨q, rfl⟩ | ⟨q, rfl⟩ | ⟨q, rfl⟩ | ⟨q, a', c', rfl⟩ | ⟨q, a', c', rfl⟩ | ⟨q, x, y, rfl, hx, hy⟩ | ⟨q, rfl⟩ | ⟨q, b, u', rfl, hh, hu⟩ | ⟨q, rfl⟩ | ⟨q, rfl⟩
    all_goals first | omega | exact ⟨_, he, .inl rfl, fun w => assert_nil Tryz.underlying98 (by kernel_rfl), hb'⟩ | exact ⟨_, he, .inr ⟨_, _, rfl⟩, fun w => run_typeAssert_lacksB Tryz.underlying98 (by kernel_rfl) (by kernel_rfl) _ _ w, hb'⟩

theorem Ok.vl {m : Nat} {t : Dt.Tr (m + 1)} (h : Ok (m + 1) t) {w : World} {D : Nat → Prop} {k i u : Int} {s : ByteArray} {a : Option Addr} {n c : Nat} (hr : Rz D w (m + 1) [.int .i64 k, .int .i64 i, .int .u64 u, .string s, .slice a n c] t) : Vl w m t k i u s a n c := ⟨(vB_to h.v).1, (vB_to h.v).2.1, h.r6, Rz.rep _ _ _ hr⟩

theorem body_any (L : Lb) (op : Int) (tp : ByteArray) (htp : tp.size ≤ maxLen) (k i u : Int) (s : ByteArray) (a : Option Addr) (n c : Nat) {m : Nat} (t : Dt.Tr (m + 1)) (ho : Ok (m + 1) t) (w : World) (D : Nat → Prop) (hD : ∀ g, D g → g < w.heap.size) (hr : Rz D w (m + 1) [.int .i64 k, .int .i64 i, .int .u64 u, .string s, .slice a n c] t) (hT : Dt.Tab14 w) (hP : op = 5 → t.kd = 2 → NameOk L w) :
    Calls Tryz.prog (mfn op) #[.string tp, .agg #[.int .i64 k, .int .i64 i, .int .u64 u, .string s, .slice a n c]] w (GR D (mapP L op tp t) w) := by
  have hv : Vl w m t k i u s a n c := ho.vl hr
  have ek : t.kd = k := hv.eq.1
  have B := fun wx (hx : Below w.heap.size w wx) => hx
  unfold mfn mapP
  by_cases o1 : op = 1
  · rw [if_pos o1, if_pos o1]
    cases hq : impl t.kd 5 with
    | false =>
      rw [if_neg (by decide)]
      rw [ek] at hq ⊢
      exact double_no tp k i u s a n c w D _ fun wx hx => gpFace_no k i u s a n c 0 0 0 ⟨#[]⟩ none 0 0 5 hq wx
    | true =>
      rw [if_pos rfl]
      have hk := of_decide_eq_true ((impl5 ho.kind).symm.trans hq)
      obtain ⟨e1, e2, e3, -⟩ := rz_kd hr
      have hF : ∀ wx, Below w.heap.size w wx → Calls Tryz.prog 77 #[.agg (acs 3 k i u s a n c 0 0 0 ⟨#[]⟩ none 0 0 5)] wx (GP 0 0 0 true (m + 1) t wx) := fun wx hx => gpFace w m t k i u s a n c 0 0 0 ⟨#[]⟩ none 0 0 5 hv (ek ▸ hq) wx hx
      rw [← e1, ← e2, ← e3]
      rcases hk with e | e
      · obtain rfl : k = 1 := e1.trans e
        exact double_yes tp 1 i u s a n c t (Dt.lf 1 (wrap64 (i + i)) 0) rfl w D hF fun wx hx => Dt.adGo1S i u i u s s a a n c n c wx
      · obtain rfl : k = 3 := e1.trans e
        exact double_yes tp 3 i u s a n c t (Dt.lf 3 0 (Dt.addF u.toNat u.toNat : Nat)) rfl w D hF fun wx hx => Dt.adGo3S i u i u s s a a n c n c wx
  rw [if_neg o1, if_neg o1]
  by_cases o2 : op = 2
  · rw [if_pos o2, if_pos o2]
    cases hq : Dt.vB _ (lsT t) with
    | true => rw [if_pos rfl]; exact list_yes tp k i u s a n c t w D hD hr hT hq
    | false => rw [if_neg (by decide)]; exact list_no tp k i u s a n c t w D hD hr hT hq
  rw [if_neg o2, if_neg o2]
  by_cases o3 : op = 3
  · rw [if_pos o3, if_pos o3]
    by_cases k11 : t.kd = 11
    · rw [if_pos k11]
      have h1 := ho.ok
      rw [k11] at h1
      obtain ⟨kid, hkid⟩ := List.length_eq_one_iff.1 (Dt.ok11 h1).2.2.2
      rw [hkid]
      exact open_by tp k i u s a n c w D 0 0 0 true m kid fun wx hx => gpOpen w m t k i u s a n c 0 0 0 ⟨#[]⟩ none 0 0 0 hv (ek ▸ k11) kid hkid wx hx
    rw [if_neg k11]
    by_cases k12 : t.kd = 12
    · rw [if_pos k12]
      exact open_by tp k i u s a n c w D 110 3 0 false 1 (lfT 0 0) fun wx hx => gpOpen_nil w m t k i u s a n c 0 0 0 ⟨#[]⟩ none 0 0 0 hv (ek ▸ k12) wx hx
    · rw [if_neg k12]
      have hq := impl3 t.kd ho.kind k11 k12
      rw [ek] at hq ⊢
      exact open_by tp k i u s a n c w D 110 2 (lackM k 3) false 1 (lfT 0 0) fun wx hx => gpOpen_no k i u s a n c 0 0 0 ⟨#[]⟩ none 0 0 0 hq wx
  rw [if_neg o3, if_neg o3]
  by_cases o4 : op = 4
  · rw [if_pos o4, if_pos o4]
    by_cases h0 : (Dt.lenP t.kd t.tx.size t.ks.length).2 = 0
    · rw [if_pos h0]
      exact size_by tp k i u s a n c w D 0 0 0 true 1 _ fun wx hx => gpSize w m t k i u s a n c 0 0 0 ⟨#[]⟩ none 0 0 0 hv h0 wx hx
    · rw [if_neg h0]
      exact size_by tp k i u s a n c w D 12 0 0 false 1 _ fun wx hx => gpSize_no w m t k i u s a n c 0 0 0 ⟨#[]⟩ none 0 0 0 hv h0 wx hx
  rw [if_neg o4, if_neg o4]
  by_cases o5 : op = 5
  · rw [if_pos o5, if_pos o5]
    exact name_any L tp k i u s a n c t ho w D hv (hP o5)
  rw [if_neg o5, if_neg o5]
  by_cases o6 : op = 6
  · rw [if_pos o6, if_pos o6]
    by_cases k6 : t.kd = 6
    · rw [if_pos k6]
      exact not_yes tp k i u s a n c t w D k6 fun wx hx => gpAssert w m t k i u s a n c 0 0 0 ⟨#[]⟩ none 0 0 6 hv (by rw [← ek, k6]; decide) wx hx
    · rw [if_neg k6, ek]
      rw [ek] at k6
      exact not_no tp k i u s a n c w D k fun wx hx => gpAssert_no w m t k i u s a n c 0 0 0 ⟨#[]⟩ none 0 0 6 hv (by simp [tkd, k6]) wx hx
  rw [if_neg o6, if_neg o6]
  by_cases o7 : op = 7
  · rw [if_pos o7, if_pos o7]
    cases hq : Dt.vB _ (prT tp t) with
    | true => rw [if_pos rfl]; exact pair_yes tp htp k i u s a n c t w D hD hr hT hq
    | false => rw [if_neg (by decide)]; exact pair_no tp htp k i u s a n c t w D hD hr hT hq
  rw [if_neg o7, if_neg o7]
  by_cases o8 : op = 8
  · rw [if_pos o8, if_pos o8]
    exact key_any tp k i u s a n c t w D hD hr
  · rw [if_neg o8, if_neg o8]
    exact (nothing_any tp k i u s a n c w).mono fun _ _ h => gr_bad h
end Go.Proofs.YtajagjcfmaggiaaGreatDoor
