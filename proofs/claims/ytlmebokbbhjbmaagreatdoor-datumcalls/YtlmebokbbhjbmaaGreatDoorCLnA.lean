/- The package's Length of a value's tree: what the document's answers; the conditions: the tree in memory, valid. -/
import Derived.Test.YtlmebokbbhjbmaaGreatDoorCOf
import Derived.Test.YtlmebokbbhjbmaaGreatDoorCLen
namespace Go.Proofs.YtlmebokbbhjbmaaGreatDoor.Dt
open Go.RowKit
/-- What stands for a tree, by its kind. -/
theorem vr_cases {F : Nat → Prop} {w : World} {n : Nat} {v : Value} {t : Tr (n + 1)} (h : VR F w (n + 1) v t) :
    (t.kd = 0 ∧ v = .nilIface) ∨ (t.kd = 1 ∧ v = .iface 95 (.int .i64 t.it)) ∨ (t.kd = 2 ∧ v = .iface 96 (.int .i64 t.it)) ∨ (t.kd = 3 ∧ v = .iface 97 (.float .f64 t.ut.toNat)) ∨
    (t.kd = 4 ∧ v = .iface 98 (.string t.tx)) ∨ (t.kd = 5 ∧ v = .iface 99 (.string t.tx)) ∨ (t.kd = 6 ∧ v = .iface 100 (.bool (t.it != 0))) ∨
    (t.kd = 7 ∧ ∃ a c, v = .iface 102 (.slice a t.tx.size c)) ∨ (t.kd = 8 ∧ ∃ a c, v = .iface 104 (.slice a t.ks.length c)) ∨
    (t.kd = 9 ∧ ∃ x y, v = .iface 107 (.agg #[x, y]) ∧ Sx x ∧ Sx y) ∨ (t.kd = 10 ∧ v = .iface 109 (.agg #[.int .i64 t.it, .string t.tx])) ∨
    (t.kd = 11 ∧ ∃ b u, v = .iface 110 (.pointer (some ⟨b, 0, none⟩)) ∧ w.heap[b]? = some (.cells #[.int .i64 t.it, u] 127 (0, 0)) ∧ Sx u) ∨ (t.kd = 12 ∧ v = .iface 110 (.pointer none)) ∨ (t.kd = 13 ∧ v = .iface 113 (.agg #[])) := by
  simp only [VR] at h
  rcases h with q | q | q | q | q | q | q | ⟨k, g, c, cs, fr, e1, e2, e3, e4⟩ | ⟨k, a, c, e1, e2⟩ | ⟨k, x, y, t0, t1, e1, e2, e3, e4⟩ | q | ⟨k, b, u, t0, e1, e2, e3, e4, e5⟩ | q | q
  · exact .inl q
  · exact .inr (.inl q)
  · exact .inr (.inr (.inl q))
  · exact .inr (.inr (.inr (.inl q)))
  · exact .inr (.inr (.inr (.inr (.inl q))))
  · exact .inr (.inr (.inr (.inr (.inr (.inl q)))))
  · exact .inr (.inr (.inr (.inr (.inr (.inr (.inl q))))))
  · exact .inr (.inr (.inr (.inr (.inr (.inr (.inr (.inl ⟨k, _, c, e1⟩)))))))
  · exact .inr (.inr (.inr (.inr (.inr (.inr (.inr (.inr (.inl ⟨k, a, c, e1⟩))))))))
  · exact .inr (.inr (.inr (.inr (.inr (.inr (.inr (.inr (.inr (.inl ⟨k, x, y, e1, vr_any e3, vr_any e4⟩)))))))))
  · exact .inr (.inr (.inr (.inr (.inr (.inr (.inr (.inr (.inr (.inr (.inl q))))))))))
  · exact .inr (.inr (.inr (.inr (.inr (.inr (.inr (.inr (.inr (.inr (.inr (.inl ⟨k, b, u, e1, e4, vr_any e5⟩)))))))))))
  · exact .inr (.inr (.inr (.inr (.inr (.inr (.inr (.inr (.inr (.inr (.inr (.inr (.inl q))))))))))))
  · exact .inr (.inr (.inr (.inr (.inr (.inr (.inr (.inr (.inr (.inr (.inr (.inr (.inr q))))))))))))
set_option maxRecDepth 100000 in
set_option maxHeartbeats 2000000 in
theorem lenNo (k i u : Int) (s0 : ByteArray) (ad : Option Addr) (len cap : Nat) (w : World)
    (hO : ∀ wx, Below w.heap.size w wx → Calls Tryz.prog 24 #[.agg #[.int .i64 k, .int .i64 i, .int .u64 u, .string s0, .slice ad len cap]] wx fun e w' => ∃ v, e = .returned v ∧ Sx v ∧ Hid (∀ w, (Instr.typeAssert v 20 52 true).run Tryz.prog w = .ok (.tuple #[.nilIface, .bool false]) w) ∧ Below wx.heap.size wx w') :
    Calls Tryz.prog 6 #[.agg #[.int .i64 k, .int .i64 i, .int .u64 u, .string s0, .slice ad len cap]] w fun e w' => e = .returned (.tuple #[.int .i64 0, .int .i64 12]) ∧ Below w.heap.size w w' := by
  have b0 := below1 w (.cells #[.int .i64 k, .int .i64 i, .int .u64 u, .string s0, .slice ad len cap] 25)
  have HO := Lib.hid hO
  clear hO
  go_enter Tryz.func6, Tryz.ntmps6
  go_wp2_with fail
  refine (HO.out _ b0).mono ?_
  rintro e w1 ⟨v, rfl, hs, ha, b1⟩
  have B1 := b0.trans (b1.mono b0.size)
  rcases hs with rfl | ⟨T, z, rfl⟩
  all_goals
    have has := ha.out
    go_wp2
    go_ret2
    exact ⟨rfl, B1⟩
set_option maxRecDepth 100000 in
set_option maxHeartbeats 1000000 in
theorem len_any (W0 : World) (m : Nat) (t : Tr (m + 1)) (k i u : Int) (s0 : ByteArray) (ad : Option Addr) (len cap : Nat) (w : World) (hrg : rgt (m + 1) t = true) (hps : (pts (m + 1) t).1 ≤ 4096) (hrep : Rep W0 (m + 1) [.int .i64 k, .int .i64 i, .int .u64 u, .string s0, .slice ad len cap] t) (hb : Below W0.heap.size W0 w) :
    Calls Tryz.prog 6 #[.agg #[.int .i64 k, .int .i64 i, .int .u64 u, .string s0, .slice ad len cap]] w fun e w' => e = .returned (.tuple #[.int .i64 (lenP t.kd t.tx.size t.ks.length).1, .int .i64 (lenP t.kd t.tx.size t.ks.length).2]) ∧ Below w.heap.size w w' := by
  have HO : ∀ wx, Below w.heap.size w wx → Calls Tryz.prog 24 #[.agg #[.int .i64 k, .int .i64 i, .int .u64 u, .string s0, .slice ad len cap]] wx fun e w' => ∃ v, e = .returned v ∧ Hid (VR (fun g => wx.heap.size ≤ g ∧ g < w'.heap.size) w' (m + 1) v t) ∧ Below wx.heap.size wx w' := fun wx hx => of_any W0 (m + 1) t k i u s0 ad len cap wx hrg hps hrep (hb.trans (hx.mono hb.size))
  by_cases h4 : t.kd = 4
  · have e1 : lenP t.kd t.tx.size t.ks.length = ((t.tx.size : Int), 0) := by simp [lenP, h4]
    rw [e1]
    refine lenText k i u _ s0 ad len cap w fun wx hx => (HO wx hx).mono fun e w' ⟨v, he, vr, hb'⟩ => ?_
    rcases vr_cases vr.out with ⟨q, rfl⟩ | ⟨q, rfl⟩ | ⟨q, rfl⟩ | ⟨q, rfl⟩ | ⟨q, rfl⟩ | ⟨q, rfl⟩ | ⟨q, rfl⟩ | ⟨q, a, c, rfl⟩ | ⟨q, a, c, rfl⟩ | ⟨q, x, y, rfl, hx, hy⟩ | ⟨q, rfl⟩ | ⟨q, b, u, rfl, hh, hu⟩ | ⟨q, rfl⟩ | ⟨q, rfl⟩
    all_goals first | omega | exact ⟨_, he, rfl, hb'⟩
  by_cases h5 : t.kd = 5
  · have e1 : lenP t.kd t.tx.size t.ks.length = ((t.tx.size : Int), 0) := by simp [lenP, h5]
    rw [e1]
    refine lenName k i u _ s0 ad len cap w fun wx hx => (HO wx hx).mono fun e w' ⟨v, he, vr, hb'⟩ => ?_
    rcases vr_cases vr.out with ⟨q, rfl⟩ | ⟨q, rfl⟩ | ⟨q, rfl⟩ | ⟨q, rfl⟩ | ⟨q, rfl⟩ | ⟨q, rfl⟩ | ⟨q, rfl⟩ | ⟨q, a, c, rfl⟩ | ⟨q, a, c, rfl⟩ | ⟨q, x, y, rfl, hx, hy⟩ | ⟨q, rfl⟩ | ⟨q, b, u, rfl, hh, hu⟩ | ⟨q, rfl⟩ | ⟨q, rfl⟩
    all_goals first | omega | exact ⟨_, he, rfl, hb'⟩
  by_cases h7 : t.kd = 7
  · have e1 : lenP t.kd t.tx.size t.ks.length = ((t.tx.size : Int), 0) := by simp [lenP, h7]
    rw [e1]
    refine lenOct k i u _ s0 ad len cap w fun wx hx => (HO wx hx).mono fun e w' ⟨v, he, vr, hb'⟩ => ?_
    rcases vr_cases vr.out with ⟨q, rfl⟩ | ⟨q, rfl⟩ | ⟨q, rfl⟩ | ⟨q, rfl⟩ | ⟨q, rfl⟩ | ⟨q, rfl⟩ | ⟨q, rfl⟩ | ⟨q, a, c, rfl⟩ | ⟨q, a, c, rfl⟩ | ⟨q, x, y, rfl, hx, hy⟩ | ⟨q, rfl⟩ | ⟨q, b, u, rfl, hh, hu⟩ | ⟨q, rfl⟩ | ⟨q, rfl⟩
    all_goals first | omega | exact ⟨_, _, _, he, rfl, hb'⟩
  by_cases h8 : t.kd = 8
  · have e1 : lenP t.kd t.tx.size t.ks.length = ((t.ks.length : Int), 0) := by simp [lenP, h8]
    rw [e1]
    refine lenRow k i u _ s0 ad len cap w fun wx hx => (HO wx hx).mono fun e w' ⟨v, he, vr, hb'⟩ => ?_
    rcases vr_cases vr.out with ⟨q, rfl⟩ | ⟨q, rfl⟩ | ⟨q, rfl⟩ | ⟨q, rfl⟩ | ⟨q, rfl⟩ | ⟨q, rfl⟩ | ⟨q, rfl⟩ | ⟨q, a, c, rfl⟩ | ⟨q, a, c, rfl⟩ | ⟨q, x, y, rfl, hx, hy⟩ | ⟨q, rfl⟩ | ⟨q, b, u, rfl, hh, hu⟩ | ⟨q, rfl⟩ | ⟨q, rfl⟩
    all_goals first | omega | exact ⟨_, _, _, he, rfl, hb'⟩
  by_cases h9 : t.kd = 9
  · have e1 : lenP t.kd t.tx.size t.ks.length = ((2 : Int), 0) := by simp [lenP, h9]
    rw [e1]
    refine lenPair k i u _ s0 ad len cap w fun wx hx => (HO wx hx).mono fun e w' ⟨v, he, vr, hb'⟩ => ?_
    rcases vr_cases vr.out with ⟨q, rfl⟩ | ⟨q, rfl⟩ | ⟨q, rfl⟩ | ⟨q, rfl⟩ | ⟨q, rfl⟩ | ⟨q, rfl⟩ | ⟨q, rfl⟩ | ⟨q, a, c, rfl⟩ | ⟨q, a, c, rfl⟩ | ⟨q, x, y, rfl, hx, hy⟩ | ⟨q, rfl⟩ | ⟨q, b, u, rfl, hh, hu⟩ | ⟨q, rfl⟩ | ⟨q, rfl⟩
    all_goals first | omega | exact ⟨_, _, he, hx, hy, rfl, hb'⟩
  by_cases h11 : t.kd = 11
  · have e1 : lenP t.kd t.tx.size t.ks.length = ((1 : Int), 0) := by simp [lenP, h11]
    rw [e1]
    refine lenBox k i u _ s0 ad len cap w fun wx hx => (HO wx hx).mono fun e w' ⟨v, he, vr, hb'⟩ => ?_
    rcases vr_cases vr.out with ⟨q, rfl⟩ | ⟨q, rfl⟩ | ⟨q, rfl⟩ | ⟨q, rfl⟩ | ⟨q, rfl⟩ | ⟨q, rfl⟩ | ⟨q, rfl⟩ | ⟨q, a, c, rfl⟩ | ⟨q, a, c, rfl⟩ | ⟨q, x, y, rfl, hx, hy⟩ | ⟨q, rfl⟩ | ⟨q, b, u, rfl, hh, hu⟩ | ⟨q, rfl⟩ | ⟨q, rfl⟩
    all_goals first | omega | exact ⟨_, he, rfl, hb'⟩
  by_cases h12 : t.kd = 12
  · have e1 : lenP t.kd t.tx.size t.ks.length = ((0 : Int), 0) := by simp [lenP, h12]
    rw [e1]
    refine lenNob k i u _ s0 ad len cap w fun wx hx => (HO wx hx).mono fun e w' ⟨v, he, vr, hb'⟩ => ?_
    rcases vr_cases vr.out with ⟨q, rfl⟩ | ⟨q, rfl⟩ | ⟨q, rfl⟩ | ⟨q, rfl⟩ | ⟨q, rfl⟩ | ⟨q, rfl⟩ | ⟨q, rfl⟩ | ⟨q, a, c, rfl⟩ | ⟨q, a, c, rfl⟩ | ⟨q, x, y, rfl, hx, hy⟩ | ⟨q, rfl⟩ | ⟨q, b, u, rfl, hh, hu⟩ | ⟨q, rfl⟩ | ⟨q, rfl⟩
    all_goals first | omega | exact ⟨he, rfl, hb'⟩
  · have e1 : lenP t.kd t.tx.size t.ks.length = (0, 12) := by simp [lenP, *]
    rw [e1]
    refine lenNo k i u s0 ad len cap w fun wx hx => (HO wx hx).mono fun e w' ⟨v, he, vr, hb'⟩ => ?_
    rcases vr_cases vr.out with ⟨q, rfl⟩ | ⟨q, rfl⟩ | ⟨q, rfl⟩ | ⟨q, rfl⟩ | ⟨q, rfl⟩ | ⟨q, rfl⟩ | ⟨q, rfl⟩ | ⟨q, a, c, rfl⟩ | ⟨q, a, c, rfl⟩ | ⟨q, x, y, rfl, hx, hy⟩ | ⟨q, rfl⟩ | ⟨q, b, u, rfl, hh, hu⟩ | ⟨q, rfl⟩ | ⟨q, rfl⟩
    all_goals first | omega | exact ⟨_, he, .inl rfl, fun w => assert_nil Tryz.underlying52 (by kernel_rfl), hb'⟩ | exact ⟨_, he, .inr ⟨_, _, rfl⟩, fun w => run_typeAssert_lacksB Tryz.underlying52 (by kernel_rfl) (by kernel_rfl) _ _ w, hb'⟩
end Go.Proofs.YtlmebokbbhjbmaaGreatDoor.Dt
