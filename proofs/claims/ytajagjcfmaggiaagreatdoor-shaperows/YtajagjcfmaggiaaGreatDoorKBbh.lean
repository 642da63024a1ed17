/- The document's Map over a value's tree, map by map; the conditions: the value in memory, valid, the tables as they are laid, the topic not too long. -/
import Derived.Test.YtajagjcfmaggiaaGreatDoorKBbg
import Derived.Test.YtajagjcfmaggiaaGreatDoorKBbe
namespace Go.Proofs.YtajagjcfmaggiaaGreatDoor
open Go.RowKit

theorem rface_gp (f : Int) (k i u : Int) (s : ByteArray) (a : Option Addr) (n c : Nat) {m : Nat} (t : Dt.Tr (m + 1)) (W0 : World) (hv : Vl W0 m t k i u s a n c) (hq : impl k f = true) (w : World) (hb : Below W0.heap.size W0 w) : Calls Tryz.prog 23 #[.agg #[.int .i64 k, .int .i64 i, .int .u64 u, .string s, .slice a n c], .int .i64 f] w (GP 0 0 0 true (m + 1) t w) := (rface_ok W0 m t k i u s a n c hv f hq w hb _ rfl).mono fun _ _ q => gp_rf (by omega) q
theorem rface_gp_no (f : Int) (k i u : Int) (s : ByteArray) (a : Option Addr) (n c : Nat) (hk : 0 ≤ k ∧ k ≤ 13) (hq : impl k f = false) (w : World) : Calls Tryz.prog 23 #[.agg #[.int .i64 k, .int .i64 i, .int .u64 u, .string s, .slice a n c], .int .i64 f] w (GP 110 2 (lackM k f) false 1 (lfT 0 0) w) := (rface_any k i u s a n c f hk hq w).mono fun _ _ q => gp_err q
theorem ropen_gp (i u : Int) (s : ByteArray) (a : Option Addr) (n c : Nat) {m : Nat} (t : Dt.Tr (m + 1)) (W0 : World) (h : Vl W0 m t 11 i u s a n c) (kid : Dt.Tr m) (hkid : t.ks = [kid]) (w : World) (hb : Below W0.heap.size W0 w) : Calls Tryz.prog 27 #[.agg #[.int .i64 11, .int .i64 i, .int .u64 u, .string s, .slice a n c]] w (GP 0 0 0 true m kid w) := by
  have kp := (h.kid (t' := kid) (by rw [hkid]; simp)).2.1
  refine (ropen_yes 11 i u s a n c w (w.heap.size + 2) (by omega) _ (st_rf (w.heap.size + 2) m kid) (fun wy hy => ?_) fun wy hy zy => ?_).mono fun _ _ q => gp_rf (by omega) q
  · exact (rface_ok W0 m t 11 i u s a n c h 3 rfl wy (hb.trans (hy.mono hb.size)) _ rfl).mono fun e w' ⟨k, i, u, s, a, n, c, he, _, hb'⟩ => ⟨k, i, u, s, a, n, c, he, hb'⟩
  · obtain ⟨ad, cap, e1, -, -, -, e5⟩ := (h.below (hb.trans (hy.mono hb.size))).rep
    rcases e5 with e5 | ⟨g, o, rfl, e7⟩
    · rw [hkid] at e5; cases e5
    · obtain ⟨v0, v1, v2, v3, v4, c0, c1, c2, c3, c4, r⟩ := e7 0 kid (by rw [hkid]; rfl)
      obtain ⟨u0, u1, u2, u3, a4, n4, c4', rfl, rfl, rfl, rfl, rfl⟩ := Dt.rep_shape r
      simp only [List.cons.injEq, Value.slice.injEq, and_true] at e1
      obtain ⟨-, -, -, -, rfl, rfl, rfl⟩ := e1
      simp only [Nat.zero_mul, Nat.add_zero] at c0 c1 c2 c3 c4
      exact (r1open_box i u s g o _ _ (by rw [hkid]; simp) u0 u1 u2 u3 a4 n4 c4' wy (wy.heap.size + 2) (Nat.le_refl _) _ (st_rf (wy.heap.size + 2) m kid) (World.block_lt_of_cell? wy _ c0) c0 c1 c2 c3 c4 fun wz hz zz => rcopy_rf wy m kid u0 u1 u2 u3 a4 n4 c4' kp r wz hz _ (by omega)).mono fun e w' ⟨k, i, u, s, a, n, c, he, rf, hb'⟩ => ⟨k, i, u, s, a, n, c, he, Dt.Rf.to (fun g hg => ⟨⟨by have := hg.1; omega, hg.2⟩, rfl⟩) _ _ _ rf, hb'⟩
theorem ropen_gp_nil (i u : Int) (s : ByteArray) (a : Option Addr) (n c : Nat) {m : Nat} (t : Dt.Tr (m + 1)) (W0 : World) (h : Vl W0 m t 12 i u s a n c) (w : World) (hb : Below W0.heap.size W0 w) : Calls Tryz.prog 27 #[.agg #[.int .i64 12, .int .i64 i, .int .u64 u, .string s, .slice a n c]] w (GP 110 3 0 false 1 (lfT 0 0) w) := by
  refine (ropen_nil 12 i u s a n c w (fun wy hy => ?_) fun wy hy => r1open_nil i u s a n c wy).mono fun _ _ q => gp_err q
  exact (rface_ok W0 m t 12 i u s a n c h 3 rfl wy (hb.trans (hy.mono hb.size)) _ rfl).mono fun e w' ⟨k, i, u, s, a, n, c, he, _, hb'⟩ => ⟨k, i, u, s, a, n, c, he, hb'⟩
theorem ropen_gp_no (k i u : Int) (s : ByteArray) (a : Option Addr) (n c : Nat) (hk : 0 ≤ k ∧ k ≤ 13) (hq : impl k 3 = false) (w : World) : Calls Tryz.prog 27 #[.agg #[.int .i64 k, .int .i64 i, .int .u64 u, .string s, .slice a n c]] w (GP 110 2 (lackM k 3) false 1 (lfT 0 0) w) := (ropen_no k i u s a n c (lackM k 3) w fun wy _ => rface_any k i u s a n c 3 hk hq wy).mono fun _ _ q => gp_err q
theorem rkind_gp (i u : Int) (s : ByteArray) (a : Option Addr) (n c : Nat) {m : Nat} (t : Dt.Tr (m + 1)) (W0 : World) (h : Vl W0 m t 6 i u s a n c) (w : World) (hb : Below W0.heap.size W0 w) : Calls Tryz.prog 30 #[.agg #[.int .i64 6, .int .i64 i, .int .u64 u, .string s, .slice a n c], .int .i64 6] w (GP 0 0 0 true (m + 1) t w) := by
  refine (rkind_yes 6 i u s a n c 6 w (w.heap.size + 2) (by omega) _ (st_rf (w.heap.size + 2) (m + 1) t) (by decide) (by decide) (fun wx hx => ?_) fun wx hx zx => ?_).mono fun _ _ q => gp_rf (by omega) q
  · exact (match_kind 6 (by decide) i u s a n c 6 (by decide) (by decide) wx).mono fun e w' ⟨he, hb'⟩ => ⟨he, hb'⟩
  · exact rcopy_rf W0 (m + 1) t 6 i u s a n c h.ps h.rep wx (hb.trans (hx.mono hb.size)) _ zx
theorem rkind_gp_no (k i u : Int) (s : ByteArray) (a : Option Addr) (n c : Nat) (hk : 0 ≤ k ∧ k ≤ 13) (h6 : k ≠ 6) (w : World) : Calls Tryz.prog 30 #[.agg #[.int .i64 k, .int .i64 i, .int .u64 u, .string s, .slice a n c], .int .i64 6] w (GP 110 2 k false 1 (lfT 0 0) w) := by
  obtain ⟨j, rfl⟩ : ∃ j : Nat, k = (j : Int) := ⟨k.toNat, by omega⟩
  refine (rkind_no (j : Int) i u s a n c 6 w (by decide) (by decide) fun wx _ => ?_).mono fun _ _ q => gp_err q
  have e : tkd 6 (j : Int) = false := by simp [tkd]; omega
  exact e ▸ match_kind j (by omega) i u s a n c 6 (by decide) (by decide) wx
theorem radd_any (k i u : Int) (s : ByteArray) (a : Option Addr) (n c : Nat) (hk : k = 1 ∨ k = 3) (w : World) : Calls Tryz.prog 24 #[.agg #[.int .i64 k, .int .i64 i, .int .u64 u, .string s, .slice a n c], .agg #[.int .i64 k, .int .i64 i, .int .u64 u, .string s, .slice a n c]] w fun e w' => ∃ (y0 y1 y2 : Int) (y3 : ByteArray) (y4 : Option Addr) (y5 y6 : Nat), e = .returned (.tuple #[.agg #[.int .i64 y0, .int .i64 y1, .int .u64 y2, .string y3, .slice y4 y5 y6], .int .i64 0]) ∧ Hid (Dt.Rep w' 1 [.int .i64 y0, .int .i64 y1, .int .u64 y2, .string y3, .slice y4 y5 y6] (Dt.addT k i u k i u)) ∧ Below w.heap.size w w' := by
  rcases hk with rfl | rfl
  · have e1 : Dt.addT 1 i u 1 i u = Dt.lf 1 (wrap64 (i + i)) 0 := by simp [Dt.addT]
    rw [e1]
    exact (Dt.refAd1 i u i u s s a a n c n c w).mono fun e w' ⟨he, hb'⟩ => ⟨1, wrap64 (i + i), 0, ⟨#[]⟩, none, 0, 0, he, Dt.rep1 _ _ _ _, hb'⟩
  · have e1 : Dt.addT 3 i u 3 i u = Dt.lf 3 0 (Dt.addF u.toNat u.toNat : Nat) := by simp [Dt.addT]
    rw [e1]
    rcases Dt.add_cases u.toNat u.toNat 71 with ⟨e0, R, F, hx, hF, hn⟩ | ⟨F, hx, hF, hn⟩
    · rw [e0]
      exact (Dt.refAd3N i u i u s s a a n c n c w R F hx hF hn).mono fun e w' ⟨he, hb'⟩ => ⟨3, 0, 9221120237041090561, ⟨#[]⟩, none, 0, 0, he, Dt.rep1 _ _ _ _, hb'⟩
    · exact (Dt.refAd3R i u i u s s a a n c n c w _ F hx hF hn).mono fun e w' ⟨he, hb'⟩ => ⟨3, 0, (Dt.addF u.toNat u.toNat : Nat), ⟨#[]⟩, none, 0, 0, he, Dt.rep1 _ _ _ _, hb'⟩

set_option maxRecDepth 100000 in
set_option maxHeartbeats 1000000 in
theorem rm_open (tp : ByteArray) (k i u : Int) (s : ByteArray) (a : Option Addr) (n c : Nat) (w : World) (D : Nat → Prop) (er pk pn : Int) (has : Bool) (m : Nat) (t : Dt.Tr m) (hT : ∀ wx, Below w.heap.size w wx → Calls Tryz.prog 27 #[.agg #[.int .i64 k, .int .i64 i, .int .u64 u, .string s, .slice a n c]] wx (GP er pk pn has m t wx)) : Calls Tryz.prog 12 #[.int .i64 3, .string tp, .agg #[.int .i64 k, .int .i64 i, .int .u64 u, .string s, .slice a n c]] w (GR D ⟨er, pk, pn, has, m, t⟩ w) := by
  have HT := Lib.hid hT
  clear hT
  have B0 := below2 w (.cells #[.int .i64 k, .int .i64 i, .int .u64 u, .string s, .slice a n c] 25) (.cells (rErr 0 0 0 0) 33)
  have D0 : Bk ((w.alloc (.cells #[.int .i64 k, .int .i64 i, .int .u64 u, .string s, .slice a n c] 25)).alloc (.cells (rErr 0 0 0 0) 33)) w.heap.size #[.int .i64 k, .int .i64 i, .int .u64 u, .string s, .slice a n c] 25 := (Bk.new w _ _).alloc _
  have R0 := Bk.new2 w (.cells #[.int .i64 k, .int .i64 i, .int .u64 u, .string s, .slice a n c] 25) (rErr 0 0 0 0) 33
  go_enter Tryz.func12, Tryz.ntmps12
  go_wp2_with fail
  refine (HT.out _ B0).mono ?_
  rintro e w2 ⟨k', i', u', s', a', n', c', rfl, rf, b2⟩
  have RF := Lib.hid rf
  clear rf
  have r2 := R0.step b2
  have B2 := B0.trans (b2.mono B0.size)
  obtain ⟨c0, c1, c2, c3, c4, c5, c6, c7, c8, c9⟩ := r2.c10
  have z2 := r2.f
  go_wp2_with fail
  obtain ⟨k1, k2, k3, k4⟩ := set10 r2 (.int .i64 er) (.int .i64 0) (.int .i64 pk) (.int .i64 pn) (.bool has) (.int .i64 k') (.int .i64 i') (.int .u64 u') (.string s') (.slice a' n' c') rfl
  have KF := B2.trans (k4.mono (by omega))
  obtain ⟨q0, q1, q2, q3, q4, q5, q6, q7, q8, q9⟩ := k1.c10
  refine bodyPost_ret (v := .agg (rcs er 0 pk pn has k' i' u' s' a' n' c')) ?_ rfl ⟨k', i', u', s', a', n', c', rfl, ?hz, KF⟩
  case hz =>
    exact Rz.to (fun g hg => by
      have hg1 : w.heap.size + 1 + 1 ≤ g := by simpa using hg.1
      exact ⟨.inr ⟨by omega, by have := hg.2; omega⟩, k3 g (by omega)⟩) _ _ _ (Rz.of_rf _ _ _ RF.out)
  simp [results, Tryz.results12, go_sem, q0, q1, q2, q3, q4, q5, q6, q7, q8, q9]

set_option maxRecDepth 100000 in
set_option maxHeartbeats 1000000 in
theorem rm_double_no (tp : ByteArray) (k i u : Int) (s : ByteArray) (a : Option Addr) (n c : Nat) (w : World) (D : Nat → Prop) (pn : Int) (hT : ∀ wx, Below w.heap.size w wx → Calls Tryz.prog 23 #[.agg #[.int .i64 k, .int .i64 i, .int .u64 u, .string s, .slice a n c], .int .i64 5] wx (GP 110 2 pn false 1 (lfT 0 0) wx)) : Calls Tryz.prog 12 #[.int .i64 1, .string tp, .agg #[.int .i64 k, .int .i64 i, .int .u64 u, .string s, .slice a n c]] w (GR D (bad 110 2 pn) w) := by
  have HT := Lib.hid hT
  clear hT
  have B0 := below2 w (.cells #[.int .i64 k, .int .i64 i, .int .u64 u, .string s, .slice a n c] 25) (.cells (rErr 0 0 0 0) 33)
  have D0 : Bk ((w.alloc (.cells #[.int .i64 k, .int .i64 i, .int .u64 u, .string s, .slice a n c] 25)).alloc (.cells (rErr 0 0 0 0) 33)) w.heap.size #[.int .i64 k, .int .i64 i, .int .u64 u, .string s, .slice a n c] 25 := (Bk.new w _ _).alloc _
  have R0 := Bk.new2 w (.cells #[.int .i64 k, .int .i64 i, .int .u64 u, .string s, .slice a n c] 25) (rErr 0 0 0 0) 33
  go_enter Tryz.func12, Tryz.ntmps12
  go_wp2_with fail
  refine (HT.out _ B0).mono ?_
  rintro e w2 ⟨k', i', u', s', a', n', c', rfl, rf, b2⟩
  obtain ⟨e1, e2, e3, e4, e5, -⟩ := rz_kd (Rz.of_rf _ _ _ rf)
  obtain rfl : k' = 0 := e1
  obtain rfl : i' = 0 := e2
  obtain rfl : u' = 0 := e3
  obtain rfl : s' = ⟨#[]⟩ := e4
  obtain rfl : n' = 0 := e5
  have RF := Lib.hid rf
  clear rf
  have R1 := R0.step b2
  have B1 := B0.trans (b2.mono B0.size)
  obtain ⟨c0, c1, c2, c3, c4, c5, c6, c7, c8, c9⟩ := R1.c10
  have z2 := R1.f
  have hlt := R1.lt
  go_wp2_with fail
  obtain ⟨k1, k2, k3, k4⟩ := set10 R1 (.int .i64 110) (.int .i64 0) (.int .i64 2) (.int .i64 pn) (.bool false) (.int .i64 0) (.int .i64 0) (.int .u64 0) (.string ⟨#[]⟩) (.slice a' 0 c') rfl
  have KE := B1.trans (k4.mono (by omega))
  have KF := KE.trans ((below1 _ (.cells (rcs 110 0 2 pn false 0 0 0 ⟨#[]⟩ a' 0 c') 33)).mono KE.size)
  have k5 := k1.alloc (.cells (rcs 110 0 2 pn false 0 0 0 ⟨#[]⟩ a' 0 c') 33)
  obtain ⟨q0, q1, q2, q3, q4, q5, q6, q7, q8, q9⟩ := k5.c10
  refine bodyPost_ret (v := .agg (rcs 110 0 2 pn false 0 0 0 ⟨#[]⟩ a' 0 c')) ?_ rfl ⟨0, 0, 0, ⟨#[]⟩, a', 0, c', rfl, ⟨a', c', rfl, Nat.zero_le _, Nat.zero_le _, (rz_kd (Rz.of_rf _ _ _ RF.out)).2.2.2.2.2.2, .inl rfl⟩, KF⟩
  simp [results, Tryz.results12, go_sem, q0, q1, q2, q3, q4, q5, q6, q7, q8, q9]

set_option maxRecDepth 100000 in
set_option maxHeartbeats 1000000 in
theorem rm_not_no (tp : ByteArray) (k i u : Int) (s : ByteArray) (a : Option Addr) (n c : Nat) (w : World) (D : Nat → Prop) (pn : Int) (hT : ∀ wx, Below w.heap.size w wx → Calls Tryz.prog 30 #[.agg #[.int .i64 k, .int .i64 i, .int .u64 u, .string s, .slice a n c], .int .i64 6] wx (GP 110 2 pn false 1 (lfT 0 0) wx)) : Calls Tryz.prog 12 #[.int .i64 6, .string tp, .agg #[.int .i64 k, .int .i64 i, .int .u64 u, .string s, .slice a n c]] w (GR D (bad 110 2 pn) w) := by
  have HT := Lib.hid hT
  clear hT
  have B0 := below2 w (.cells #[.int .i64 k, .int .i64 i, .int .u64 u, .string s, .slice a n c] 25) (.cells (rErr 0 0 0 0) 33)
  have D0 : Bk ((w.alloc (.cells #[.int .i64 k, .int .i64 i, .int .u64 u, .string s, .slice a n c] 25)).alloc (.cells (rErr 0 0 0 0) 33)) w.heap.size #[.int .i64 k, .int .i64 i, .int .u64 u, .string s, .slice a n c] 25 := (Bk.new w _ _).alloc _
  have R0 := Bk.new2 w (.cells #[.int .i64 k, .int .i64 i, .int .u64 u, .string s, .slice a n c] 25) (rErr 0 0 0 0) 33
  go_enter Tryz.func12, Tryz.ntmps12
  go_wp2_with fail
  refine (HT.out _ B0).mono ?_
  rintro e w2 ⟨k', i', u', s', a', n', c', rfl, rf, b2⟩
  obtain ⟨e1, e2, e3, e4, e5, -⟩ := rz_kd (Rz.of_rf _ _ _ rf)
  obtain rfl : k' = 0 := e1
  obtain rfl : i' = 0 := e2
  obtain rfl : u' = 0 := e3
  obtain rfl : s' = ⟨#[]⟩ := e4
  obtain rfl : n' = 0 := e5
  have RF := Lib.hid rf
  clear rf
  have R1 := R0.step b2
  have B1 := B0.trans (b2.mono B0.size)
  obtain ⟨c0, c1, c2, c3, c4, c5, c6, c7, c8, c9⟩ := R1.c10
  have z2 := R1.f
  have hlt := R1.lt
  go_wp2_with fail
  obtain ⟨k1, k2, k3, k4⟩ := set10 R1 (.int .i64 110) (.int .i64 0) (.int .i64 2) (.int .i64 pn) (.bool false) (.int .i64 0) (.int .i64 0) (.int .u64 0) (.string ⟨#[]⟩) (.slice a' 0 c') rfl
  have KE := B1.trans (k4.mono (by omega))
  have KF := KE.trans ((below1 _ (.cells (rcs 110 0 2 pn false 0 0 0 ⟨#[]⟩ a' 0 c') 33)).mono KE.size)
  have k5 := k1.alloc (.cells (rcs 110 0 2 pn false 0 0 0 ⟨#[]⟩ a' 0 c') 33)
  obtain ⟨q0, q1, q2, q3, q4, q5, q6, q7, q8, q9⟩ := k5.c10
  refine bodyPost_ret (v := .agg (rcs 110 0 2 pn false 0 0 0 ⟨#[]⟩ a' 0 c')) ?_ rfl ⟨0, 0, 0, ⟨#[]⟩, a', 0, c', rfl, ⟨a', c', rfl, Nat.zero_le _, Nat.zero_le _, (rz_kd (Rz.of_rf _ _ _ RF.out)).2.2.2.2.2.2, .inl rfl⟩, KF⟩
  simp [results, Tryz.results12, go_sem, q0, q1, q2, q3, q4, q5, q6, q7, q8, q9]

set_option maxRecDepth 100000 in
set_option maxHeartbeats 1000000 in
theorem rm_not_yes (tp : ByteArray) (k i u : Int) (s : ByteArray) (a : Option Addr) (n c : Nat) (w : World) (D : Nat → Prop) {m : Nat} (t : Dt.Tr (m + 1)) (hk : t.kd = 6) (hT : ∀ wx, Below w.heap.size w wx → Calls Tryz.prog 30 #[.agg #[.int .i64 k, .int .i64 i, .int .u64 u, .string s, .slice a n c], .int .i64 6] wx (GP 0 0 0 true (m + 1) t wx)) : Calls Tryz.prog 12 #[.int .i64 6, .string tp, .agg #[.int .i64 k, .int .i64 i, .int .u64 u, .string s, .slice a n c]] w (GR D (good (nd 6 (wrap64 (1 - t.it)) t.ut t.tx t.ks)) w) := by
  have HT := Lib.hid hT
  have HK := Lib.hid hk
  clear hT hk
  have B0 := below2 w (.cells #[.int .i64 k, .int .i64 i, .int .u64 u, .string s, .slice a n c] 25) (.cells (rErr 0 0 0 0) 33)
  have D0 : Bk ((w.alloc (.cells #[.int .i64 k, .int .i64 i, .int .u64 u, .string s, .slice a n c] 25)).alloc (.cells (rErr 0 0 0 0) 33)) w.heap.size #[.int .i64 k, .int .i64 i, .int .u64 u, .string s, .slice a n c] 25 := (Bk.new w _ _).alloc _
  have R0 := Bk.new2 w (.cells #[.int .i64 k, .int .i64 i, .int .u64 u, .string s, .slice a n c] 25) (rErr 0 0 0 0) 33
  go_enter Tryz.func12, Tryz.ntmps12
  go_wp2_with fail
  refine (HT.out _ B0).mono ?_
  rintro e w2 ⟨k', i', u', s', a', n', c', rfl, rf, b2⟩
  have RF := Lib.hid rf
  clear rf
  have R1 := R0.step b2
  have B1 := B0.trans (b2.mono B0.size)
  obtain ⟨c0, c1, c2, c3, c4, c5, c6, c7, c8, c9⟩ := R1.c10
  have z2 := R1.f
  have hlt := R1.lt
  go_wp2_with fail
  obtain ⟨k1, k2, k3, k4⟩ := set10 R1 (.int .i64 0) (.int .i64 0) (.int .i64 0) (.int .i64 0) (.bool true) (.int .i64 k') (.int .i64 (wrap64 (1 - i'))) (.int .u64 u') (.string s') (.slice a' n' c') rfl
  have KE := B1.trans (k4.mono (by omega))
  have KF := KE.trans ((below1 _ (.cells #[.int .i64 0, .int .i64 0, .int .i64 0, .int .i64 0, .bool true, .int .i64 k', .int .i64 (wrap64 (1 - i')), .int .u64 u', .string s', .slice a' n' c'] 33)).mono KE.size)
  have k5 := k1.alloc (.cells #[.int .i64 0, .int .i64 0, .int .i64 0, .int .i64 0, .bool true, .int .i64 k', .int .i64 (wrap64 (1 - i')), .int .u64 u', .string s', .slice a' n' c'] 33)
  obtain ⟨q0, q1, q2, q3, q4, q5, q6, q7, q8, q9⟩ := k5.c10
  refine bodyPost_ret (v := .agg (rcs 0 0 0 0 true k' (wrap64 (1 - i')) u' s' a' n' c')) ?_ rfl (not_end HK.out RF.out k2 k3 KF)
  simp [results, Tryz.results12, go_sem, q0, q1, q2, q3, q4, q5, q6, q7, q8, q9]

set_option maxRecDepth 100000 in
set_option maxHeartbeats 1000000 in
theorem rm_double_yes (tp : ByteArray) (k i u : Int) (s : ByteArray) (a : Option Addr) (n c : Nat) (w : World) (D : Nat → Prop) {m : Nat} (t : Dt.Tr (m + 1)) (L : Dt.Tr 1) (hL : L.ks = []) (hT : ∀ wx, Below w.heap.size w wx → Calls Tryz.prog 23 #[.agg #[.int .i64 k, .int .i64 i, .int .u64 u, .string s, .slice a n c], .int .i64 5] wx (GP 0 0 0 true (m + 1) t wx)) (hA : ∀ wx, Below w.heap.size w wx → Calls Tryz.prog 24 #[.agg #[.int .i64 k, .int .i64 i, .int .u64 u, .string s, .slice a n c], .agg #[.int .i64 k, .int .i64 i, .int .u64 u, .string s, .slice a n c]] wx fun e w' => ∃ (y0 y1 y2 : Int) (y3 : ByteArray) (y4 : Option Addr) (y5 y6 : Nat), e = .returned (.tuple #[.agg #[.int .i64 y0, .int .i64 y1, .int .u64 y2, .string y3, .slice y4 y5 y6], .int .i64 0]) ∧ Hid (Dt.Rep w' 1 [.int .i64 y0, .int .i64 y1, .int .u64 y2, .string y3, .slice y4 y5 y6] L) ∧ Below wx.heap.size wx w') : Calls Tryz.prog 12 #[.int .i64 1, .string tp, .agg #[.int .i64 k, .int .i64 i, .int .u64 u, .string s, .slice a n c]] w (GR D (good L) w) := by
  have HT := Lib.hid hT
  have HA := Lib.hid hA
  have HL := Lib.hid hL
  clear hT hA hL
  have B0 := below2 w (.cells #[.int .i64 k, .int .i64 i, .int .u64 u, .string s, .slice a n c] 25) (.cells (rErr 0 0 0 0) 33)
  have D0 : Bk ((w.alloc (.cells #[.int .i64 k, .int .i64 i, .int .u64 u, .string s, .slice a n c] 25)).alloc (.cells (rErr 0 0 0 0) 33)) w.heap.size #[.int .i64 k, .int .i64 i, .int .u64 u, .string s, .slice a n c] 25 := (Bk.new w _ _).alloc _
  have R0 := Bk.new2 w (.cells #[.int .i64 k, .int .i64 i, .int .u64 u, .string s, .slice a n c] 25) (rErr 0 0 0 0) 33
  go_enter Tryz.func12, Tryz.ntmps12
  go_wp2_with fail
  refine (HT.out _ B0).mono ?_
  rintro e w2 ⟨k', i', u', s', a', n', c', rfl, rf, b2⟩
  clear rf
  have b3 := b2.trans ((below1 w2 (.cells (rcs 0 0 0 0 true k' i' u' s' a' n' c') 33)).mono b2.size)
  have R1 := R0.step b3
  have D1 := D0.step b2
  have B1 := B0.trans (b3.mono B0.size)
  have hl1 := D1.lt
  obtain ⟨d0, d1, d2, d3, d4⟩ := D1.c5
  go_wp2_with fail
  refine (HA.out _ B1).mono ?_
  rintro e w3 ⟨y0, y1, y2, y3, y4, y5, y6, rfl, ry, b4⟩
  have b4' := b4.trans ((below1 w3 (.cells #[.int .i64 y0, .int .i64 y1, .int .u64 y2, .string y3, .slice y4 y5 y6] 25)).mono b4.size)
  have R2 := R1.step b4'
  have B2 := B1.trans (b4'.mono B1.size)
  have RY := Lib.hid ry
  clear R1 D1 B1 d0 d1 d2 d3 d4 hl1 b3 b2 ry
  go_wp2_with fail
  refine (rgave_any y0 y1 y2 y3 y4 y5 y6 _).mono ?_
  rintro e w4 ⟨rfl, b5⟩
  have r9 := R2.step b5
  have B9 := B2.trans (b5.mono B2.size)
  obtain ⟨c0, c1, c2, c3, c4, c5, c6, c7, c8, c9⟩ := r9.c10
  have z2 := r9.f
  go_wp2_with fail
  obtain ⟨k1, k2, k3, k4⟩ := set10 r9 (.int .i64 0) (.int .i64 0) (.int .i64 0) (.int .i64 0) (.bool true) (.int .i64 y0) (.int .i64 y1) (.int .u64 y2) (.string y3) (.slice y4 y5 y6) rfl
  have KF := B9.trans (k4.mono (by omega))
  obtain ⟨q0, q1, q2, q3, q4, q5, q6, q7, q8, q9⟩ := k1.c10
  refine bodyPost_ret (v := .agg (rcs 0 0 0 0 true y0 y1 y2 y3 y4 y5 y6)) ?_ rfl ⟨y0, y1, y2, y3, y4, y5, y6, rfl, rz_leaf HL.out RY.out.out, KF⟩
  simp [results, Tryz.results12, go_sem, q0, q1, q2, q3, q4, q5, q6, q7, q8, q9]

set_option maxRecDepth 100000 in
set_option maxHeartbeats 1000000 in
theorem rm_size_yes (tp : ByteArray) (k i u : Int) (s : ByteArray) (a : Option Addr) (n c : Nat) (w : World) (D : Nat → Prop) (x : Int) (hT : ∀ wx, Below w.heap.size w wx → Calls Tryz.prog 28 #[.agg #[.int .i64 k, .int .i64 i, .int .u64 u, .string s, .slice a n c]] wx fun e w' => e = .returned (.tuple #[(.int .i64 x), .int .i64 0]) ∧ Below wx.heap.size wx w') : Calls Tryz.prog 12 #[.int .i64 4, .string tp, .agg #[.int .i64 k, .int .i64 i, .int .u64 u, .string s, .slice a n c]] w (GR D (good (lfT 1 x)) w) := by
  have HT := Lib.hid hT
  clear hT
  have B0 := below2 w (.cells #[.int .i64 k, .int .i64 i, .int .u64 u, .string s, .slice a n c] 25) (.cells (rErr 0 0 0 0) 33)
  have D0 : Bk ((w.alloc (.cells #[.int .i64 k, .int .i64 i, .int .u64 u, .string s, .slice a n c] 25)).alloc (.cells (rErr 0 0 0 0) 33)) w.heap.size #[.int .i64 k, .int .i64 i, .int .u64 u, .string s, .slice a n c] 25 := (Bk.new w _ _).alloc _
  have R0 := Bk.new2 w (.cells #[.int .i64 k, .int .i64 i, .int .u64 u, .string s, .slice a n c] 25) (rErr 0 0 0 0) 33
  go_enter Tryz.func12, Tryz.ntmps12
  go_wp2_with fail
  refine (HT.out _ B0).mono ?_
  rintro e w2 ⟨rfl, b2⟩
  have R1 := R0.step b2
  have B1 := B0.trans (b2.mono B0.size)
  clear b2 R0 D0
  go_wp2_with fail
  refine (rgave_any 1 x 0 ⟨#[]⟩ none 0 0 _).mono ?_
  rintro e w4 ⟨rfl, b5⟩
  have r9 := R1.step b5
  have B9 := B1.trans (b5.mono B1.size)
  obtain ⟨c0, c1, c2, c3, c4, c5, c6, c7, c8, c9⟩ := r9.c10
  have z2 := r9.f
  go_wp2_with fail
  obtain ⟨k1, k2, k3, k4⟩ := set10 r9 (.int .i64 0) (.int .i64 0) (.int .i64 0) (.int .i64 0) (.bool true) (.int .i64 1) (.int .i64 x) (.int .u64 0) (.string ⟨#[]⟩) (.slice none 0 0) rfl
  have KF := B9.trans (k4.mono (by omega))
  obtain ⟨q0, q1, q2, q3, q4, q5, q6, q7, q8, q9⟩ := k1.c10
  refine bodyPost_ret (v := .agg (rcs 0 0 0 0 true 1 x 0 ⟨#[]⟩ none 0 0)) ?_ rfl ⟨1, x, 0, ⟨#[]⟩, none, 0, 0, rfl, ⟨none, 0, rfl, Nat.zero_le _, Nat.zero_le _, Nat.zero_le _, .inl rfl⟩, KF⟩
  simp [results, Tryz.results12, go_sem, q0, q1, q2, q3, q4, q5, q6, q7, q8, q9]

set_option maxRecDepth 100000 in
set_option maxHeartbeats 1000000 in
theorem rm_size_no (tp : ByteArray) (k i u : Int) (s : ByteArray) (a : Option Addr) (n c : Nat) (w : World) (D : Nat → Prop) (x : Int) (hT : ∀ wx, Below w.heap.size w wx → Calls Tryz.prog 28 #[.agg #[.int .i64 k, .int .i64 i, .int .u64 u, .string s, .slice a n c]] wx fun e w' => e = .returned (.tuple #[(.int .i64 x), .int .i64 12]) ∧ Below wx.heap.size wx w') : Calls Tryz.prog 12 #[.int .i64 4, .string tp, .agg #[.int .i64 k, .int .i64 i, .int .u64 u, .string s, .slice a n c]] w (GR D (bad 12 0 0) w) := by
  have HT := Lib.hid hT
  clear hT
  have B0 := below2 w (.cells #[.int .i64 k, .int .i64 i, .int .u64 u, .string s, .slice a n c] 25) (.cells (rErr 0 0 0 0) 33)
  have D0 : Bk ((w.alloc (.cells #[.int .i64 k, .int .i64 i, .int .u64 u, .string s, .slice a n c] 25)).alloc (.cells (rErr 0 0 0 0) 33)) w.heap.size #[.int .i64 k, .int .i64 i, .int .u64 u, .string s, .slice a n c] 25 := (Bk.new w _ _).alloc _
  have R0 := Bk.new2 w (.cells #[.int .i64 k, .int .i64 i, .int .u64 u, .string s, .slice a n c] 25) (rErr 0 0 0 0) 33
  go_enter Tryz.func12, Tryz.ntmps12
  go_wp2_with fail
  refine (HT.out _ B0).mono ?_
  rintro e w2 ⟨rfl, b2⟩
  have r2 := R0.step b2
  have B2 := B0.trans (b2.mono B0.size)
  obtain ⟨c0, c1, c2, c3, c4, c5, c6, c7, c8, c9⟩ := r2.c10
  have z2 := r2.f
  go_wp2_with fail
  obtain ⟨k1, k2, k3, k4⟩ := set10 r2 (.int .i64 12) (.int .i64 0) (.int .i64 0) (.int .i64 0) (.bool false) (.int .i64 0) (.int .i64 0) (.int .u64 0) (.string ⟨#[]⟩) (.slice none 0 0) rfl
  have KF := B2.trans (k4.mono (by omega))
  obtain ⟨q0, q1, q2, q3, q4, q5, q6, q7, q8, q9⟩ := k1.c10
  refine bodyPost_ret (v := .agg (rcs 12 0 0 0 false 0 0 0 ⟨#[]⟩ none 0 0)) ?_ rfl (gr_bad ⟨rfl, KF⟩)
  simp [results, Tryz.results12, go_sem, q0, q1, q2, q3, q4, q5, q6, q7, q8, q9]

set_option maxRecDepth 100000 in
set_option maxHeartbeats 1000000 in
theorem rm_name_yes (tp : ByteArray) (k i u : Int) (s : ByteArray) (a : Option Addr) (n c : Nat) (w : World) (D : Nat → Prop) (x : ByteArray) (hs : x.size ≤ maxLen) (hT : ∀ wx, Below w.heap.size w wx → Calls Tryz.prog 29 #[.agg #[.int .i64 k, .int .i64 i, .int .u64 u, .string s, .slice a n c]] wx fun e w' => e = .returned (.tuple #[(.string x), .int .i64 0]) ∧ Below wx.heap.size wx w') : Calls Tryz.prog 12 #[.int .i64 5, .string tp, .agg #[.int .i64 k, .int .i64 i, .int .u64 u, .string s, .slice a n c]] w (GR D (good (txT 0 x)) w) := by
  have HT := Lib.hid hT
  clear hT
  have B0 := below2 w (.cells #[.int .i64 k, .int .i64 i, .int .u64 u, .string s, .slice a n c] 25) (.cells (rErr 0 0 0 0) 33)
  have D0 : Bk ((w.alloc (.cells #[.int .i64 k, .int .i64 i, .int .u64 u, .string s, .slice a n c] 25)).alloc (.cells (rErr 0 0 0 0) 33)) w.heap.size #[.int .i64 k, .int .i64 i, .int .u64 u, .string s, .slice a n c] 25 := (Bk.new w _ _).alloc _
  have R0 := Bk.new2 w (.cells #[.int .i64 k, .int .i64 i, .int .u64 u, .string s, .slice a n c] 25) (rErr 0 0 0 0) 33
  go_enter Tryz.func12, Tryz.ntmps12
  go_wp2_with fail
  refine (HT.out _ B0).mono ?_
  rintro e w2 ⟨rfl, b2⟩
  have R1 := R0.step b2
  have B1 := B0.trans (b2.mono B0.size)
  clear b2 R0 D0
  go_wp2_with fail
  refine (rgave_any 4 0 0 x none 0 0 _).mono ?_
  rintro e w4 ⟨rfl, b5⟩
  have r9 := R1.step b5
  have B9 := B1.trans (b5.mono B1.size)
  obtain ⟨c0, c1, c2, c3, c4, c5, c6, c7, c8, c9⟩ := r9.c10
  have z2 := r9.f
  go_wp2_with fail
  obtain ⟨k1, k2, k3, k4⟩ := set10 r9 (.int .i64 0) (.int .i64 0) (.int .i64 0) (.int .i64 0) (.bool true) (.int .i64 4) (.int .i64 0) (.int .u64 0) (.string x) (.slice none 0 0) rfl
  have KF := B9.trans (k4.mono (by omega))
  obtain ⟨q0, q1, q2, q3, q4, q5, q6, q7, q8, q9⟩ := k1.c10
  refine bodyPost_ret (v := .agg (rcs 0 0 0 0 true 4 0 0 x none 0 0)) ?_ rfl ⟨4, 0, 0, x, none, 0, 0, rfl, ⟨none, 0, rfl, hs, Nat.zero_le _, Nat.zero_le _, .inl rfl⟩, KF⟩
  simp [results, Tryz.results12, go_sem, q0, q1, q2, q3, q4, q5, q6, q7, q8, q9]

set_option maxRecDepth 100000 in
set_option maxHeartbeats 1000000 in
theorem rm_name_no (tp : ByteArray) (k i u : Int) (s : ByteArray) (a : Option Addr) (n c : Nat) (w : World) (D : Nat → Prop) (x : ByteArray) (hT : ∀ wx, Below w.heap.size w wx → Calls Tryz.prog 29 #[.agg #[.int .i64 k, .int .i64 i, .int .u64 u, .string s, .slice a n c]] wx fun e w' => e = .returned (.tuple #[(.string x), .int .i64 12]) ∧ Below wx.heap.size wx w') : Calls Tryz.prog 12 #[.int .i64 5, .string tp, .agg #[.int .i64 k, .int .i64 i, .int .u64 u, .string s, .slice a n c]] w (GR D (bad 12 0 0) w) := by
  have HT := Lib.hid hT
  clear hT
  have B0 := below2 w (.cells #[.int .i64 k, .int .i64 i, .int .u64 u, .string s, .slice a n c] 25) (.cells (rErr 0 0 0 0) 33)
  have D0 : Bk ((w.alloc (.cells #[.int .i64 k, .int .i64 i, .int .u64 u, .string s, .slice a n c] 25)).alloc (.cells (rErr 0 0 0 0) 33)) w.heap.size #[.int .i64 k, .int .i64 i, .int .u64 u, .string s, .slice a n c] 25 := (Bk.new w _ _).alloc _
  have R0 := Bk.new2 w (.cells #[.int .i64 k, .int .i64 i, .int .u64 u, .string s, .slice a n c] 25) (rErr 0 0 0 0) 33
  go_enter Tryz.func12, Tryz.ntmps12
  go_wp2_with fail
  refine (HT.out _ B0).mono ?_
  rintro e w2 ⟨rfl, b2⟩
  have r2 := R0.step b2
  have B2 := B0.trans (b2.mono B0.size)
  obtain ⟨c0, c1, c2, c3, c4, c5, c6, c7, c8, c9⟩ := r2.c10
  have z2 := r2.f
  go_wp2_with fail
  obtain ⟨k1, k2, k3, k4⟩ := set10 r2 (.int .i64 12) (.int .i64 0) (.int .i64 0) (.int .i64 0) (.bool false) (.int .i64 0) (.int .i64 0) (.int .u64 0) (.string ⟨#[]⟩) (.slice none 0 0) rfl
  have KF := B2.trans (k4.mono (by omega))
  obtain ⟨q0, q1, q2, q3, q4, q5, q6, q7, q8, q9⟩ := k1.c10
  refine bodyPost_ret (v := .agg (rcs 12 0 0 0 false 0 0 0 ⟨#[]⟩ none 0 0)) ?_ rfl (gr_bad ⟨rfl, KF⟩)
  simp [results, Tryz.results12, go_sem, q0, q1, q2, q3, q4, q5, q6, q7, q8, q9]

end Go.Proofs.YtajagjcfmaggiaaGreatDoor
/- The document's Map, the maps that lay something together, and all of it; the conditions: the value in memory, valid, the tables as they are laid, the topic not too long. -/
namespace Go.Proofs.YtajagjcfmaggiaaGreatDoor
open Go.RowKit

set_option maxRecDepth 100000 in
set_option maxHeartbeats 1000000 in
theorem made_yes (k i u : Int) (s : ByteArray) (a : Option Addr) (n c : Nat) {m : Nat} (t : Dt.Tr m) (w : World) (hr : Dt.Rep w m [.int .i64 k, .int .i64 i, .int .u64 u, .string s, .slice a n c] t) (hv : Dt.vB m t = true) : Calls Tryz.prog 26 #[.agg #[.int .i64 k, .int .i64 i, .int .u64 u, .string s, .slice a n c]] w fun e w' => e = .returned (.agg (rcs 0 0 0 0 true k i u s a n c)) ∧ Below w.heap.size w w' := by
  have B0 := below2 w (.cells #[.int .i64 k, .int .i64 i, .int .u64 u, .string s, .slice a n c] 25) (.cells (rErr 0 0 0 0) 33)
  have D0 : Bk ((w.alloc (.cells #[.int .i64 k, .int .i64 i, .int .u64 u, .string s, .slice a n c] 25)).alloc (.cells (rErr 0 0 0 0) 33)) w.heap.size #[.int .i64 k, .int .i64 i, .int .u64 u, .string s, .slice a n c] 25 := (Bk.new w _ _).alloc _
  have R0 := Bk.new2 w (.cells #[.int .i64 k, .int .i64 i, .int .u64 u, .string s, .slice a n c] 25) (rErr 0 0 0 0) 33
  go_enter Tryz.func26, Tryz.ntmps26
  have HV := Lib.hid (Dt.refValid m t _ _ _ _ _ _ (Dt.Rep.below B0 _ _ _ hr))
  rw [hv] at HV
  clear hr hv
  go_wp2_with fail
  refine HV.out.mono ?_
  rintro e w1 ⟨rfl, b1⟩
  have D1 := D0.step b1
  have RX := R0.step b1
  have BX := B0.trans (b1.mono B0.size)
  clear b1 B0 R0 D0 HV
  obtain ⟨d0, d1, d2, d3, d4⟩ := D1.c5
  go_wp2_with fail
  clear D1 d0 d1 d2 d3 d4
  refine (rgave_any k i u s a n c _).mono ?_
  rintro e w2 ⟨rfl, b2⟩
  have r2 := RX.step b2
  have B2 := BX.trans (b2.mono BX.size)
  obtain ⟨c0, c1, c2, c3, c4, c5, c6, c7, c8, c9⟩ := r2.c10
  have z2 := r2.f
  go_wp2_with fail
  obtain ⟨k1, k2, k3, k4⟩ := set10 r2 (.int .i64 0) (.int .i64 0) (.int .i64 0) (.int .i64 0) (.bool true) (.int .i64 k) (.int .i64 i) (.int .u64 u) (.string s) (.slice a n c) rfl
  have KF := B2.trans (k4.mono (by omega))
  obtain ⟨q0, q1, q2, q3, q4, q5, q6, q7, q8, q9⟩ := k1.c10
  refine bodyPost_ret (v := .agg (rcs 0 0 0 0 true k i u s a n c)) ?_ rfl ⟨rfl, KF⟩
  simp [results, Tryz.results26, go_sem, q0, q1, q2, q3, q4, q5, q6, q7, q8, q9]

set_option maxRecDepth 100000 in
set_option maxHeartbeats 1000000 in
theorem made_no (k i u : Int) (s : ByteArray) (a : Option Addr) (n c : Nat) {m : Nat} (t : Dt.Tr m) (w : World) (hr : Dt.Rep w m [.int .i64 k, .int .i64 i, .int .u64 u, .string s, .slice a n c] t) (hv : Dt.vB m t = false) : Calls Tryz.prog 26 #[.agg #[.int .i64 k, .int .i64 i, .int .u64 u, .string s, .slice a n c]] w fun e w' => e = .returned (.agg (rcs 14 0 0 0 false 0 0 0 ⟨#[]⟩ none 0 0)) ∧ Below w.heap.size w w' := by
  have B0 := below2 w (.cells #[.int .i64 k, .int .i64 i, .int .u64 u, .string s, .slice a n c] 25) (.cells (rErr 0 0 0 0) 33)
  have D0 : Bk ((w.alloc (.cells #[.int .i64 k, .int .i64 i, .int .u64 u, .string s, .slice a n c] 25)).alloc (.cells (rErr 0 0 0 0) 33)) w.heap.size #[.int .i64 k, .int .i64 i, .int .u64 u, .string s, .slice a n c] 25 := (Bk.new w _ _).alloc _
  have R0 := Bk.new2 w (.cells #[.int .i64 k, .int .i64 i, .int .u64 u, .string s, .slice a n c] 25) (rErr 0 0 0 0) 33
  go_enter Tryz.func26, Tryz.ntmps26
  have HV := Lib.hid (Dt.refValid m t _ _ _ _ _ _ (Dt.Rep.below B0 _ _ _ hr))
  rw [hv] at HV
  clear hr hv
  go_wp2_with fail
  refine HV.out.mono ?_
  rintro e w1 ⟨rfl, b1⟩
  have r2 := R0.step b1
  have B2 := B0.trans (b1.mono B0.size)
  obtain ⟨c0, c1, c2, c3, c4, c5, c6, c7, c8, c9⟩ := r2.c10
  have z2 := r2.f
  go_wp2_with fail
  obtain ⟨k1, k2, k3, k4⟩ := set10 r2 (.int .i64 14) (.int .i64 0) (.int .i64 0) (.int .i64 0) (.bool false) (.int .i64 0) (.int .i64 0) (.int .u64 0) (.string ⟨#[]⟩) (.slice none 0 0) rfl
  have KF := B2.trans (k4.mono (by omega))
  obtain ⟨q0, q1, q2, q3, q4, q5, q6, q7, q8, q9⟩ := k1.c10
  refine bodyPost_ret (v := .agg (rcs 14 0 0 0 false 0 0 0 ⟨#[]⟩ none 0 0)) ?_ rfl ⟨rfl, KF⟩
  simp [results, Tryz.results26, go_sem, q0, q1, q2, q3, q4, q5, q6, q7, q8, q9]

set_option maxRecDepth 100000 in
set_option maxHeartbeats 1000000 in
theorem rm_list_yes (tp : ByteArray) (k i u : Int) (s : ByteArray) (a : Option Addr) (n c : Nat) (w : World) (D : Nat → Prop) {m : Nat} (t : Dt.Tr (m + 1)) (hv : Dt.vB _ (lsT t) = true) (hC : ∀ wx, Below w.heap.size w wx → w.heap.size + 1 + 1 ≤ wx.heap.size → Calls Tryz.prog 9 #[.agg #[.int .i64 k, .int .i64 i, .int .u64 u, .string s, .slice a n c]] wx fun e w' => ∃ y0 y1 y2 y3 y4 y5 y6, e = .returned (.agg #[.int .i64 y0, .int .i64 y1, .int .u64 y2, .string y3, .slice y4 y5 y6]) ∧ Dt.Rf (fun g => w.heap.size + 1 + 1 ≤ g ∧ g < w'.heap.size) w' (m + 1) [.int .i64 y0, .int .i64 y1, .int .u64 y2, .string y3, .slice y4 y5 y6] t ∧ Below wx.heap.size wx w') : Calls Tryz.prog 12 #[.int .i64 2, .string tp, .agg #[.int .i64 k, .int .i64 i, .int .u64 u, .string s, .slice a n c]] w (GR D (good (lsT t)) w) := by
  have HC := Lib.hid hC
  have HV := Lib.hid hv
  clear hC hv
  have B0 := below2 w (.cells #[.int .i64 k, .int .i64 i, .int .u64 u, .string s, .slice a n c] 25) (.cells (rErr 0 0 0 0) 33)
  have D0 : Bk ((w.alloc (.cells #[.int .i64 k, .int .i64 i, .int .u64 u, .string s, .slice a n c] 25)).alloc (.cells (rErr 0 0 0 0) 33)) w.heap.size #[.int .i64 k, .int .i64 i, .int .u64 u, .string s, .slice a n c] 25 := (Bk.new w _ _).alloc _
  have R0 := Bk.new2 w (.cells #[.int .i64 k, .int .i64 i, .int .u64 u, .string s, .slice a n c] 25) (rErr 0 0 0 0) 33
  go_enter Tryz.func12, Tryz.ntmps12
  go_wp2_with fail
  refine (HC.out _ B0 (by simp)).mono ?_
  rintro e w2 ⟨y0, y1, y2, y3, y4, y5, y6, rfl, rf, b2⟩
  have RF := Lib.hid rf
  have b2' := b2.trans ((below1 w2 (.cells #[.int .i64 y0, .int .i64 y1, .int .u64 y2, .string y3, .slice y4 y5 y6] 25)).mono b2.size)
  have R1 := R0.step b2'
  have B1 := B0.trans (b2'.mono B0.size)
  have N1 := Bk.new w2 #[.int .i64 y0, .int .i64 y1, .int .u64 y2, .string y3, .slice y4 y5 y6] 25
  have HM := Lib.hid (made_yes 8 0 0 ⟨#[]⟩ (some ⟨w2.heap.size, 0, none⟩) 1 1 (lsT t) _ (Rz.rep _ _ _ (rz_of_cells y0 y1 y2 y3 y4 y5 y6 (F := fun _ => True) (Rz.to (fun g hg => ⟨trivial, (below1 w2 _).block g hg.2⟩) _ _ _ (Rz.of_rf _ _ _ rf)) trivial N1)) HV.out)
  clear rf R0 D0 b2'
  go_wp2_with fail
  refine HM.out.mono ?_
  rintro e w3 ⟨rfl, b3⟩
  have r2 := R1.step b3
  have B2 := B1.trans (b3.mono B1.size)
  obtain ⟨c0, c1, c2, c3, c4, c5, c6, c7, c8, c9⟩ := r2.c10
  have z2 := r2.f
  go_wp2_with fail
  obtain ⟨k1, k2, k3, k4⟩ := set10 r2 (.int .i64 0) (.int .i64 0) (.int .i64 0) (.int .i64 0) (.bool true) (.int .i64 8) (.int .i64 0) (.int .u64 0) (.string ⟨#[]⟩) (.slice (some ⟨w2.heap.size, 0, none⟩) 1 1) rfl
  have KF := B2.trans (k4.mono (by omega))
  obtain ⟨q0, q1, q2, q3, q4, q5, q6, q7, q8, q9⟩ := k1.c10
  refine bodyPost_ret (v := .agg (rcs 0 0 0 0 true 8 0 0 ⟨#[]⟩ (some ⟨w2.heap.size, 0, none⟩) 1 1)) ?_ rfl ⟨8, 0, 0, ⟨#[]⟩, some ⟨w2.heap.size, 0, none⟩, 1, 1, rfl, ?hz, KF⟩
  case hz =>
    have hl0 := r2.lt
    have hb3 := b3.size
    have hb4 : w2.heap.size + 1 = (w2.alloc (.cells #[.int .i64 y0, .int .i64 y1, .int .u64 y2, .string y3, .slice y4 y5 y6] 25)).heap.size := by simp
    have hb2 : w.heap.size + 1 + 1 ≤ w2.heap.size := by have := b2.size; simp at this; omega
    have N2 : Bk _ w2.heap.size #[.int .i64 y0, .int .i64 y1, .int .u64 y2, .string y3, .slice y4 y5 y6] 25 := (k3 w2.heap.size (by omega)).trans (N1.step b3)
    refine rz_of_cells y0 y1 y2 y3 y4 y5 y6 (Rz.to (fun g hg => ?_) _ _ _ (Rz.of_rf _ _ _ RF.out)) (.inr ⟨by omega, N2.lt⟩) N2
    have hg1 : w.heap.size + 1 + 1 ≤ g := hg.1
    have hg2 := hg.2
    exact ⟨.inr ⟨by omega, by omega⟩, (k3 g (by omega)).trans ((b3.block g (by omega)).trans ((below1 w2 _).block g hg2))⟩
  simp [results, Tryz.results12, go_sem, q0, q1, q2, q3, q4, q5, q6, q7, q8, q9]

set_option maxRecDepth 100000 in
set_option maxHeartbeats 1000000 in
theorem rm_list_no (tp : ByteArray) (k i u : Int) (s : ByteArray) (a : Option Addr) (n c : Nat) (w : World) (D : Nat → Prop) {m : Nat} (t : Dt.Tr (m + 1)) (hv : Dt.vB _ (lsT t) = false) (hC : ∀ wx, Below w.heap.size w wx → w.heap.size + 1 + 1 ≤ wx.heap.size → Calls Tryz.prog 9 #[.agg #[.int .i64 k, .int .i64 i, .int .u64 u, .string s, .slice a n c]] wx fun e w' => ∃ y0 y1 y2 y3 y4 y5 y6, e = .returned (.agg #[.int .i64 y0, .int .i64 y1, .int .u64 y2, .string y3, .slice y4 y5 y6]) ∧ Dt.Rf (fun g => w.heap.size + 1 + 1 ≤ g ∧ g < w'.heap.size) w' (m + 1) [.int .i64 y0, .int .i64 y1, .int .u64 y2, .string y3, .slice y4 y5 y6] t ∧ Below wx.heap.size wx w') : Calls Tryz.prog 12 #[.int .i64 2, .string tp, .agg #[.int .i64 k, .int .i64 i, .int .u64 u, .string s, .slice a n c]] w (GR D (bad 14 0 0) w) := by
  have HC := Lib.hid hC
  have HV := Lib.hid hv
  clear hC hv
  have B0 := below2 w (.cells #[.int .i64 k, .int .i64 i, .int .u64 u, .string s, .slice a n c] 25) (.cells (rErr 0 0 0 0) 33)
  have D0 : Bk ((w.alloc (.cells #[.int .i64 k, .int .i64 i, .int .u64 u, .string s, .slice a n c] 25)).alloc (.cells (rErr 0 0 0 0) 33)) w.heap.size #[.int .i64 k, .int .i64 i, .int .u64 u, .string s, .slice a n c] 25 := (Bk.new w _ _).alloc _
  have R0 := Bk.new2 w (.cells #[.int .i64 k, .int .i64 i, .int .u64 u, .string s, .slice a n c] 25) (rErr 0 0 0 0) 33
  go_enter Tryz.func12, Tryz.ntmps12
  go_wp2_with fail
  refine (HC.out _ B0 (by simp)).mono ?_
  rintro e w2 ⟨y0, y1, y2, y3, y4, y5, y6, rfl, rf, b2⟩
  have RF := Lib.hid rf
  have b2' := b2.trans ((below1 w2 (.cells #[.int .i64 y0, .int .i64 y1, .int .u64 y2, .string y3, .slice y4 y5 y6] 25)).mono b2.size)
  have R1 := R0.step b2'
  have B1 := B0.trans (b2'.mono B0.size)
  have N1 := Bk.new w2 #[.int .i64 y0, .int .i64 y1, .int .u64 y2, .string y3, .slice y4 y5 y6] 25
  have HM := Lib.hid (made_no 8 0 0 ⟨#[]⟩ (some ⟨w2.heap.size, 0, none⟩) 1 1 (lsT t) _ (Rz.rep _ _ _ (rz_of_cells y0 y1 y2 y3 y4 y5 y6 (F := fun _ => True) (Rz.to (fun g hg => ⟨trivial, (below1 w2 _).block g hg.2⟩) _ _ _ (Rz.of_rf _ _ _ rf)) trivial N1)) HV.out)
  clear rf R0 D0 b2'
  go_wp2_with fail
  refine HM.out.mono ?_
  rintro e w3 ⟨rfl, b3⟩
  have r2 := R1.step b3
  have B2 := B1.trans (b3.mono B1.size)
  obtain ⟨c0, c1, c2, c3, c4, c5, c6, c7, c8, c9⟩ := r2.c10
  have z2 := r2.f
  go_wp2_with fail
  obtain ⟨k1, k2, k3, k4⟩ := set10 r2 (.int .i64 14) (.int .i64 0) (.int .i64 0) (.int .i64 0) (.bool false) (.int .i64 0) (.int .i64 0) (.int .u64 0) (.string ⟨#[]⟩) (.slice none 0 0) rfl
  have KF := B2.trans (k4.mono (by omega))
  obtain ⟨q0, q1, q2, q3, q4, q5, q6, q7, q8, q9⟩ := k1.c10
  refine bodyPost_ret (v := .agg (rcs 14 0 0 0 false 0 0 0 ⟨#[]⟩ none 0 0)) ?_ rfl (gr_bad ⟨rfl, KF⟩)
  simp [results, Tryz.results12, go_sem, q0, q1, q2, q3, q4, q5, q6, q7, q8, q9]

set_option maxRecDepth 100000 in
set_option maxHeartbeats 1000000 in
theorem rm_pair_yes (tp : ByteArray) (k i u : Int) (s : ByteArray) (a : Option Addr) (n c : Nat) (w : World) (D : Nat → Prop) {m : Nat} (t : Dt.Tr (m + 1)) (hv : Dt.vB _ (prT tp t) = true) (htp : tp.size ≤ maxLen) (hC : ∀ wx, Below w.heap.size w wx → w.heap.size + 1 + 1 ≤ wx.heap.size → Calls Tryz.prog 9 #[.agg #[.int .i64 k, .int .i64 i, .int .u64 u, .string s, .slice a n c]] wx fun e w' => ∃ y0 y1 y2 y3 y4 y5 y6, e = .returned (.agg #[.int .i64 y0, .int .i64 y1, .int .u64 y2, .string y3, .slice y4 y5 y6]) ∧ Dt.Rf (fun g => w.heap.size + 1 + 1 ≤ g ∧ g < w'.heap.size) w' (m + 1) [.int .i64 y0, .int .i64 y1, .int .u64 y2, .string y3, .slice y4 y5 y6] t ∧ Below wx.heap.size wx w') : Calls Tryz.prog 12 #[.int .i64 7, .string tp, .agg #[.int .i64 k, .int .i64 i, .int .u64 u, .string s, .slice a n c]] w (GR D (good (prT tp t)) w) := by
  have HC := Lib.hid hC
  have HV := Lib.hid hv
  clear hC hv
  have B0 := below2 w (.cells #[.int .i64 k, .int .i64 i, .int .u64 u, .string s, .slice a n c] 25) (.cells (rErr 0 0 0 0) 33)
  have D0 : Bk ((w.alloc (.cells #[.int .i64 k, .int .i64 i, .int .u64 u, .string s, .slice a n c] 25)).alloc (.cells (rErr 0 0 0 0) 33)) w.heap.size #[.int .i64 k, .int .i64 i, .int .u64 u, .string s, .slice a n c] 25 := (Bk.new w _ _).alloc _
  have R0 := Bk.new2 w (.cells #[.int .i64 k, .int .i64 i, .int .u64 u, .string s, .slice a n c] 25) (rErr 0 0 0 0) 33
  go_enter Tryz.func12, Tryz.ntmps12
  go_wp2_with fail
  refine (HC.out _ B0 (by simp)).mono ?_
  rintro e w2 ⟨y0, y1, y2, y3, y4, y5, y6, rfl, rf, b2⟩
  have RF := Lib.hid rf
  have b2' := b2.trans ((below1 w2 (.cells (CS10 tp y0 y1 y2 y3 y4 y5 y6) 25)).mono b2.size)
  have R1 := R0.step b2'
  have B1 := B0.trans (b2'.mono B0.size)
  have N1 := Bk.new w2 (CS10 tp y0 y1 y2 y3 y4 y5 y6) 25
  have HM := Lib.hid (made_yes 9 0 0 ⟨#[]⟩ (some ⟨w2.heap.size, 0, none⟩) 2 2 (prT tp t) _ (Rz.rep _ _ _ (rz_of_pair tp htp y0 y1 y2 y3 y4 y5 y6 (F := fun _ => True) (Rz.to (fun g hg => ⟨trivial, (below1 w2 _).block g hg.2⟩) _ _ _ (Rz.of_rf _ _ _ rf)) trivial N1)) HV.out)
  clear rf R0 D0 b2'
  go_wp2_with fail
  refine HM.out.mono ?_
  rintro e w3 ⟨rfl, b3⟩
  have r2 := R1.step b3
  have B2 := B1.trans (b3.mono B1.size)
  obtain ⟨c0, c1, c2, c3, c4, c5, c6, c7, c8, c9⟩ := r2.c10
  have z2 := r2.f
  go_wp2_with fail
  obtain ⟨k1, k2, k3, k4⟩ := set10 r2 (.int .i64 0) (.int .i64 0) (.int .i64 0) (.int .i64 0) (.bool true) (.int .i64 9) (.int .i64 0) (.int .u64 0) (.string ⟨#[]⟩) (.slice (some ⟨w2.heap.size, 0, none⟩) 2 2) rfl
  have KF := B2.trans (k4.mono (by omega))
  obtain ⟨q0, q1, q2, q3, q4, q5, q6, q7, q8, q9⟩ := k1.c10
  refine bodyPost_ret (v := .agg (rcs 0 0 0 0 true 9 0 0 ⟨#[]⟩ (some ⟨w2.heap.size, 0, none⟩) 2 2)) ?_ rfl ⟨9, 0, 0, ⟨#[]⟩, some ⟨w2.heap.size, 0, none⟩, 2, 2, rfl, ?hz, KF⟩
  case hz =>
    have hl0 := r2.lt
    have hb3 := b3.size
    have hb4 : w2.heap.size + 1 = (w2.alloc (.cells (CS10 tp y0 y1 y2 y3 y4 y5 y6) 25)).heap.size := by simp
    have hb2 : w.heap.size + 1 + 1 ≤ w2.heap.size := by have := b2.size; simp at this; omega
    have N2 : Bk _ w2.heap.size (CS10 tp y0 y1 y2 y3 y4 y5 y6) 25 := (k3 w2.heap.size (by omega)).trans (N1.step b3)
    refine rz_of_pair tp htp y0 y1 y2 y3 y4 y5 y6 (Rz.to (fun g hg => ?_) _ _ _ (Rz.of_rf _ _ _ RF.out)) (.inr ⟨by omega, N2.lt⟩) N2
    have hg1 : w.heap.size + 1 + 1 ≤ g := hg.1
    have hg2 := hg.2
    exact ⟨.inr ⟨by omega, by omega⟩, (k3 g (by omega)).trans ((b3.block g (by omega)).trans ((below1 w2 _).block g hg2))⟩
  simp [results, Tryz.results12, go_sem, q0, q1, q2, q3, q4, q5, q6, q7, q8, q9]

set_option maxRecDepth 100000 in
set_option maxHeartbeats 1000000 in
theorem rm_pair_no (tp : ByteArray) (k i u : Int) (s : ByteArray) (a : Option Addr) (n c : Nat) (w : World) (D : Nat → Prop) {m : Nat} (t : Dt.Tr (m + 1)) (hv : Dt.vB _ (prT tp t) = false) (htp : tp.size ≤ maxLen) (hC : ∀ wx, Below w.heap.size w wx → w.heap.size + 1 + 1 ≤ wx.heap.size → Calls Tryz.prog 9 #[.agg #[.int .i64 k, .int .i64 i, .int .u64 u, .string s, .slice a n c]] wx fun e w' => ∃ y0 y1 y2 y3 y4 y5 y6, e = .returned (.agg #[.int .i64 y0, .int .i64 y1, .int .u64 y2, .string y3, .slice y4 y5 y6]) ∧ Dt.Rf (fun g => w.heap.size + 1 + 1 ≤ g ∧ g < w'.heap.size) w' (m + 1) [.int .i64 y0, .int .i64 y1, .int .u64 y2, .string y3, .slice y4 y5 y6] t ∧ Below wx.heap.size wx w') : Calls Tryz.prog 12 #[.int .i64 7, .string tp, .agg #[.int .i64 k, .int .i64 i, .int .u64 u, .string s, .slice a n c]] w (GR D (bad 14 0 0) w) := by
  have HC := Lib.hid hC
  have HV := Lib.hid hv
  clear hC hv
  have B0 := below2 w (.cells #[.int .i64 k, .int .i64 i, .int .u64 u, .string s, .slice a n c] 25) (.cells (rErr 0 0 0 0) 33)
  have D0 : Bk ((w.alloc (.cells #[.int .i64 k, .int .i64 i, .int .u64 u, .string s, .slice a n c] 25)).alloc (.cells (rErr 0 0 0 0) 33)) w.heap.size #[.int .i64 k, .int .i64 i, .int .u64 u, .string s, .slice a n c] 25 := (Bk.new w _ _).alloc _
  have R0 := Bk.new2 w (.cells #[.int .i64 k, .int .i64 i, .int .u64 u, .string s, .slice a n c] 25) (rErr 0 0 0 0) 33
  go_enter Tryz.func12, Tryz.ntmps12
  go_wp2_with fail
  refine (HC.out _ B0 (by simp)).mono ?_
  rintro e w2 ⟨y0, y1, y2, y3, y4, y5, y6, rfl, rf, b2⟩
  have RF := Lib.hid rf
  have b2' := b2.trans ((below1 w2 (.cells (CS10 tp y0 y1 y2 y3 y4 y5 y6) 25)).mono b2.size)
  have R1 := R0.step b2'
  have B1 := B0.trans (b2'.mono B0.size)
  have N1 := Bk.new w2 (CS10 tp y0 y1 y2 y3 y4 y5 y6) 25
  have HM := Lib.hid (made_no 9 0 0 ⟨#[]⟩ (some ⟨w2.heap.size, 0, none⟩) 2 2 (prT tp t) _ (Rz.rep _ _ _ (rz_of_pair tp htp y0 y1 y2 y3 y4 y5 y6 (F := fun _ => True) (Rz.to (fun g hg => ⟨trivial, (below1 w2 _).block g hg.2⟩) _ _ _ (Rz.of_rf _ _ _ rf)) trivial N1)) HV.out)
  clear rf R0 D0 b2'
  go_wp2_with fail
  refine HM.out.mono ?_
  rintro e w3 ⟨rfl, b3⟩
  have r2 := R1.step b3
  have B2 := B1.trans (b3.mono B1.size)
  obtain ⟨c0, c1, c2, c3, c4, c5, c6, c7, c8, c9⟩ := r2.c10
  have z2 := r2.f
  go_wp2_with fail
  obtain ⟨k1, k2, k3, k4⟩ := set10 r2 (.int .i64 14) (.int .i64 0) (.int .i64 0) (.int .i64 0) (.bool false) (.int .i64 0) (.int .i64 0) (.int .u64 0) (.string ⟨#[]⟩) (.slice none 0 0) rfl
  have KF := B2.trans (k4.mono (by omega))
  obtain ⟨q0, q1, q2, q3, q4, q5, q6, q7, q8, q9⟩ := k1.c10
  refine bodyPost_ret (v := .agg (rcs 14 0 0 0 false 0 0 0 ⟨#[]⟩ none 0 0)) ?_ rfl (gr_bad ⟨rfl, KF⟩)
  simp [results, Tryz.results12, go_sem, q0, q1, q2, q3, q4, q5, q6, q7, q8, q9]

set_option maxRecDepth 100000 in
set_option maxHeartbeats 1000000 in
theorem rm_key_1 (tp : ByteArray) (k i u : Int) (s : ByteArray) (a : Option Addr) (n c : Nat) (hk : k = 1) (w : World) (D : Nat → Prop) {m : Nat} (t : Dt.Tr (m + 1)) (hC : ∀ wx, Below w.heap.size w wx → w.heap.size + 1 + 1 ≤ wx.heap.size → Calls Tryz.prog 9 #[.agg #[.int .i64 k, .int .i64 i, .int .u64 u, .string s, .slice a n c]] wx fun e w' => ∃ y0 y1 y2 y3 y4 y5 y6, e = .returned (.agg #[.int .i64 y0, .int .i64 y1, .int .u64 y2, .string y3, .slice y4 y5 y6]) ∧ Dt.Rf (fun g => w.heap.size + 1 + 1 ≤ g ∧ g < w'.heap.size) w' (m + 1) [.int .i64 y0, .int .i64 y1, .int .u64 y2, .string y3, .slice y4 y5 y6] t ∧ Below wx.heap.size wx w') : Calls Tryz.prog 12 #[.int .i64 8, .string tp, .agg #[.int .i64 k, .int .i64 i, .int .u64 u, .string s, .slice a n c]] w fun e w' => ∃ y0 y1 y2 y3 y4 y5 y6, e = .returned (.agg (rcs 0 0 0 0 true y0 y1 y2 y3 y4 y5 y6)) ∧ Rz (fun g => D g ∨ (w.heap.size ≤ g ∧ g < w'.heap.size)) w' (m + 1) [.int .i64 y0, .int .i64 y1, .int .u64 y2, .string y3, .slice y4 y5 y6] (nd 2 y1 t.ut t.tx t.ks) ∧ y1 = t.it ∧ Below w.heap.size w w' := by
  subst hk
  have HC := Lib.hid hC
  clear hC
  have B0 := below2 w (.cells #[.int .i64 1, .int .i64 i, .int .u64 u, .string s, .slice a n c] 25) (.cells (rErr 0 0 0 0) 33)
  have D0 : Bk ((w.alloc (.cells #[.int .i64 1, .int .i64 i, .int .u64 u, .string s, .slice a n c] 25)).alloc (.cells (rErr 0 0 0 0) 33)) w.heap.size #[.int .i64 1, .int .i64 i, .int .u64 u, .string s, .slice a n c] 25 := (Bk.new w _ _).alloc _
  have R0 := Bk.new2 w (.cells #[.int .i64 1, .int .i64 i, .int .u64 u, .string s, .slice a n c] 25) (rErr 0 0 0 0) 33
  go_enter Tryz.func12, Tryz.ntmps12
  go_wp2_with fail
  refine (HC.out _ B0 (by simp)).mono ?_
  rintro e w2 ⟨y0, y1, y2, y3, y4, y5, y6, rfl, rf, b2⟩
  have RF := Lib.hid rf
  have b2' := b2.trans ((below1 w2 (.cells #[.int .i64 2, .int .i64 y1, .int .u64 y2, .string y3, .slice y4 y5 y6] 25)).mono b2.size)
  have R1 := R0.step b2'
  have B1 := B0.trans (b2'.mono B0.size)
  have D1 := D0.step b2
  obtain ⟨d0, d1, d2, d3, d4⟩ := D1.c5
  have hl1 := D1.lt
  clear rf R0 D0 b2'
  go_wp2_with fail
  clear D1 d0 d1 d2 d3 d4 hl1
  refine (rgave_any 2 y1 y2 y3 y4 y5 y6 _).mono ?_
  rintro e w3 ⟨rfl, b3⟩
  have r2 := R1.step b3
  have B2 := B1.trans (b3.mono B1.size)
  obtain ⟨c0, c1, c2, c3, c4, c5, c6, c7, c8, c9⟩ := r2.c10
  have z2 := r2.f
  go_wp2_with fail
  obtain ⟨k1, k2, k3, k4⟩ := set10 r2 (.int .i64 0) (.int .i64 0) (.int .i64 0) (.int .i64 0) (.bool true) (.int .i64 2) (.int .i64 y1) (.int .u64 y2) (.string y3) (.slice y4 y5 y6) rfl
  have KF := B2.trans (k4.mono (by omega))
  obtain ⟨q0, q1, q2, q3, q4, q5, q6, q7, q8, q9⟩ := k1.c10
  refine bodyPost_ret (v := .agg (rcs 0 0 0 0 true 2 y1 y2 y3 y4 y5 y6)) ?_ rfl ⟨2, y1, y2, y3, y4, y5, y6, rfl, ?hz, (rz_kd (Rz.of_rf _ _ _ RF.out)).2.1, KF⟩
  case hz =>
    have hb3 := b3.size
    have hb4 : w2.heap.size + 1 = (w2.alloc (.cells #[.int .i64 2, .int .i64 y1, .int .u64 y2, .string y3, .slice y4 y5 y6] 25)).heap.size := by simp
    have hb2 : w.heap.size + 1 + 1 ≤ w2.heap.size := by have := b2.size; simp at this; omega
    refine rz_like (Rz.to (fun g hg => ?_) _ _ _ (Rz.of_rf _ _ _ RF.out)) 2 y1
    have hg1 : w.heap.size + 1 + 1 ≤ g := hg.1
    have hg2 := hg.2
    exact ⟨.inr ⟨by omega, by omega⟩, (k3 g (by omega)).trans ((b3.block g (by omega)).trans ((below1 w2 _).block g hg2))⟩
  simp [results, Tryz.results12, go_sem, q0, q1, q2, q3, q4, q5, q6, q7, q8, q9]

set_option maxRecDepth 100000 in
set_option maxHeartbeats 1000000 in
theorem rm_key_4 (tp : ByteArray) (k i u : Int) (s : ByteArray) (a : Option Addr) (n c : Nat) (hk : k = 4) (w : World) (D : Nat → Prop) {m : Nat} (t : Dt.Tr (m + 1)) (hC : ∀ wx, Below w.heap.size w wx → w.heap.size + 1 + 1 ≤ wx.heap.size → Calls Tryz.prog 9 #[.agg #[.int .i64 k, .int .i64 i, .int .u64 u, .string s, .slice a n c]] wx fun e w' => ∃ y0 y1 y2 y3 y4 y5 y6, e = .returned (.agg #[.int .i64 y0, .int .i64 y1, .int .u64 y2, .string y3, .slice y4 y5 y6]) ∧ Dt.Rf (fun g => w.heap.size + 1 + 1 ≤ g ∧ g < w'.heap.size) w' (m + 1) [.int .i64 y0, .int .i64 y1, .int .u64 y2, .string y3, .slice y4 y5 y6] t ∧ Below wx.heap.size wx w') : Calls Tryz.prog 12 #[.int .i64 8, .string tp, .agg #[.int .i64 k, .int .i64 i, .int .u64 u, .string s, .slice a n c]] w fun e w' => ∃ y0 y1 y2 y3 y4 y5 y6, e = .returned (.agg (rcs 0 0 0 0 true y0 y1 y2 y3 y4 y5 y6)) ∧ Rz (fun g => D g ∨ (w.heap.size ≤ g ∧ g < w'.heap.size)) w' (m + 1) [.int .i64 y0, .int .i64 y1, .int .u64 y2, .string y3, .slice y4 y5 y6] (nd 5 y1 t.ut t.tx t.ks) ∧ y1 = t.it ∧ Below w.heap.size w w' := by
  subst hk
  have HC := Lib.hid hC
  clear hC
  have B0 := below2 w (.cells #[.int .i64 4, .int .i64 i, .int .u64 u, .string s, .slice a n c] 25) (.cells (rErr 0 0 0 0) 33)
  have D0 : Bk ((w.alloc (.cells #[.int .i64 4, .int .i64 i, .int .u64 u, .string s, .slice a n c] 25)).alloc (.cells (rErr 0 0 0 0) 33)) w.heap.size #[.int .i64 4, .int .i64 i, .int .u64 u, .string s, .slice a n c] 25 := (Bk.new w _ _).alloc _
  have R0 := Bk.new2 w (.cells #[.int .i64 4, .int .i64 i, .int .u64 u, .string s, .slice a n c] 25) (rErr 0 0 0 0) 33
  go_enter Tryz.func12, Tryz.ntmps12
  go_wp2_with fail
  refine (HC.out _ B0 (by simp)).mono ?_
  rintro e w2 ⟨y0, y1, y2, y3, y4, y5, y6, rfl, rf, b2⟩
  have RF := Lib.hid rf
  have b2' := b2.trans ((below1 w2 (.cells #[.int .i64 5, .int .i64 y1, .int .u64 y2, .string y3, .slice y4 y5 y6] 25)).mono b2.size)
  have R1 := R0.step b2'
  have B1 := B0.trans (b2'.mono B0.size)
  have D1 := D0.step b2
  obtain ⟨d0, d1, d2, d3, d4⟩ := D1.c5
  have hl1 := D1.lt
  clear rf R0 D0 b2'
  go_wp2_with fail
  clear D1 d0 d1 d2 d3 d4 hl1
  refine (rgave_any 5 y1 y2 y3 y4 y5 y6 _).mono ?_
  rintro e w3 ⟨rfl, b3⟩
  have r2 := R1.step b3
  have B2 := B1.trans (b3.mono B1.size)
  obtain ⟨c0, c1, c2, c3, c4, c5, c6, c7, c8, c9⟩ := r2.c10
  have z2 := r2.f
  go_wp2_with fail
  obtain ⟨k1, k2, k3, k4⟩ := set10 r2 (.int .i64 0) (.int .i64 0) (.int .i64 0) (.int .i64 0) (.bool true) (.int .i64 5) (.int .i64 y1) (.int .u64 y2) (.string y3) (.slice y4 y5 y6) rfl
  have KF := B2.trans (k4.mono (by omega))
  obtain ⟨q0, q1, q2, q3, q4, q5, q6, q7, q8, q9⟩ := k1.c10
  refine bodyPost_ret (v := .agg (rcs 0 0 0 0 true 5 y1 y2 y3 y4 y5 y6)) ?_ rfl ⟨5, y1, y2, y3, y4, y5, y6, rfl, ?hz, (rz_kd (Rz.of_rf _ _ _ RF.out)).2.1, KF⟩
  case hz =>
    have hb3 := b3.size
    have hb4 : w2.heap.size + 1 = (w2.alloc (.cells #[.int .i64 5, .int .i64 y1, .int .u64 y2, .string y3, .slice y4 y5 y6] 25)).heap.size := by simp
    have hb2 : w.heap.size + 1 + 1 ≤ w2.heap.size := by have := b2.size; simp at this; omega
    refine rz_like (Rz.to (fun g hg => ?_) _ _ _ (Rz.of_rf _ _ _ RF.out)) 5 y1
    have hg1 : w.heap.size + 1 + 1 ≤ g := hg.1
    have hg2 := hg.2
    exact ⟨.inr ⟨by omega, by omega⟩, (k3 g (by omega)).trans ((b3.block g (by omega)).trans ((below1 w2 _).block g hg2))⟩
  simp [results, Tryz.results12, go_sem, q0, q1, q2, q3, q4, q5, q6, q7, q8, q9]

set_option maxRecDepth 100000 in
set_option maxHeartbeats 1000000 in
theorem rm_key_0 (tp : ByteArray) (k i u : Int) (s : ByteArray) (a : Option Addr) (n c : Nat) (hk : k ≠ 1 ∧ k ≠ 4) (w : World) (D : Nat → Prop) {m : Nat} (t : Dt.Tr (m + 1)) (hC : ∀ wx, Below w.heap.size w wx → w.heap.size + 1 + 1 ≤ wx.heap.size → Calls Tryz.prog 9 #[.agg #[.int .i64 k, .int .i64 i, .int .u64 u, .string s, .slice a n c]] wx fun e w' => ∃ y0 y1 y2 y3 y4 y5 y6, e = .returned (.agg #[.int .i64 y0, .int .i64 y1, .int .u64 y2, .string y3, .slice y4 y5 y6]) ∧ Dt.Rf (fun g => w.heap.size + 1 + 1 ≤ g ∧ g < w'.heap.size) w' (m + 1) [.int .i64 y0, .int .i64 y1, .int .u64 y2, .string y3, .slice y4 y5 y6] t ∧ Below wx.heap.size wx w') : Calls Tryz.prog 12 #[.int .i64 8, .string tp, .agg #[.int .i64 k, .int .i64 i, .int .u64 u, .string s, .slice a n c]] w fun e w' => ∃ y0 y1 y2 y3 y4 y5 y6, e = .returned (.agg (rcs 0 0 0 0 true y0 y1 y2 y3 y4 y5 y6)) ∧ Rz (fun g => D g ∨ (w.heap.size ≤ g ∧ g < w'.heap.size)) w' (m + 1) [.int .i64 y0, .int .i64 y1, .int .u64 y2, .string y3, .slice y4 y5 y6] (nd y0 y1 t.ut t.tx t.ks) ∧ (y0 = t.kd) ∧ y1 = t.it ∧ Below w.heap.size w w' := by
  have g1 : (k == 1) = false := by simpa using hk.1
  have g4 : (k == 4) = false := by simpa using hk.2
  have HK := Lib.hid hk
  clear hk
  have HC := Lib.hid hC
  clear hC
  have B0 := below2 w (.cells #[.int .i64 k, .int .i64 i, .int .u64 u, .string s, .slice a n c] 25) (.cells (rErr 0 0 0 0) 33)
  have D0 : Bk ((w.alloc (.cells #[.int .i64 k, .int .i64 i, .int .u64 u, .string s, .slice a n c] 25)).alloc (.cells (rErr 0 0 0 0) 33)) w.heap.size #[.int .i64 k, .int .i64 i, .int .u64 u, .string s, .slice a n c] 25 := (Bk.new w _ _).alloc _
  have R0 := Bk.new2 w (.cells #[.int .i64 k, .int .i64 i, .int .u64 u, .string s, .slice a n c] 25) (rErr 0 0 0 0) 33
  go_enter Tryz.func12, Tryz.ntmps12
  go_wp2_with fail
  refine (HC.out _ B0 (by simp)).mono ?_
  rintro e w2 ⟨y0, y1, y2, y3, y4, y5, y6, rfl, rf, b2⟩
  have RF := Lib.hid rf
  have b2' := b2.trans ((below1 w2 (.cells #[.int .i64 y0, .int .i64 y1, .int .u64 y2, .string y3, .slice y4 y5 y6] 25)).mono b2.size)
  have R1 := R0.step b2'
  have B1 := B0.trans (b2'.mono B0.size)
  have D1 := D0.step b2
  obtain ⟨d0, d1, d2, d3, d4⟩ := D1.c5
  have hl1 := D1.lt
  clear rf R0 D0 b2'
  go_wp2_with fail
  clear D1 d0 d1 d2 d3 d4 hl1
  refine (rgave_any y0 y1 y2 y3 y4 y5 y6 _).mono ?_
  rintro e w3 ⟨rfl, b3⟩
  have r2 := R1.step b3
  have B2 := B1.trans (b3.mono B1.size)
  obtain ⟨c0, c1, c2, c3, c4, c5, c6, c7, c8, c9⟩ := r2.c10
  have z2 := r2.f
  go_wp2_with fail
  obtain ⟨k1, k2, k3, k4⟩ := set10 r2 (.int .i64 0) (.int .i64 0) (.int .i64 0) (.int .i64 0) (.bool true) (.int .i64 y0) (.int .i64 y1) (.int .u64 y2) (.string y3) (.slice y4 y5 y6) rfl
  have KF := B2.trans (k4.mono (by omega))
  obtain ⟨q0, q1, q2, q3, q4, q5, q6, q7, q8, q9⟩ := k1.c10
  refine bodyPost_ret (v := .agg (rcs 0 0 0 0 true y0 y1 y2 y3 y4 y5 y6)) ?_ rfl ⟨y0, y1, y2, y3, y4, y5, y6, rfl, ?hz, (rz_kd (Rz.of_rf _ _ _ RF.out)).1, (rz_kd (Rz.of_rf _ _ _ RF.out)).2.1, KF⟩
  case hz =>
    have hb3 := b3.size
    have hb4 : w2.heap.size + 1 = (w2.alloc (.cells #[.int .i64 y0, .int .i64 y1, .int .u64 y2, .string y3, .slice y4 y5 y6] 25)).heap.size := by simp
    have hb2 : w.heap.size + 1 + 1 ≤ w2.heap.size := by have := b2.size; simp at this; omega
    refine rz_like (Rz.to (fun g hg => ?_) _ _ _ (Rz.of_rf _ _ _ RF.out)) y0 y1
    have hg1 : w.heap.size + 1 + 1 ≤ g := hg.1
    have hg2 := hg.2
    exact ⟨.inr ⟨by omega, by omega⟩, (k3 g (by omega)).trans ((b3.block g (by omega)).trans ((below1 w2 _).block g hg2))⟩
  simp [results, Tryz.results12, go_sem, q0, q1, q2, q3, q4, q5, q6, q7, q8, q9]

set_option maxRecDepth 100000 in
set_option maxHeartbeats 1000000 in
theorem rm_other (op : Int) (tp : ByteArray) (k i u : Int) (s : ByteArray) (a : Option Addr) (n c : Nat) (w : World) (h1 : (op == 1) = false) (h2 : (op == 2) = false) (h3 : (op == 3) = false) (h4 : (op == 4) = false) (h5 : (op == 5) = false) (h6 : (op == 6) = false) (h7 : (op == 7) = false) (h8 : (op == 8) = false) : Calls Tryz.prog 12 #[.int .i64 op, .string tp, .agg #[.int .i64 k, .int .i64 i, .int .u64 u, .string s, .slice a n c]] w fun e w' => e = .returned (.agg (rErr 12 0 0 0)) ∧ Below w.heap.size w w' := by
  go_enter Tryz.func12, Tryz.ntmps12
  go_wp2
  exact bodyPost_ret (v := .agg (rErr 12 0 0 0)) (by simp [results, Tryz.results12, go_sem]) rfl ⟨rfl, below2 w _ _⟩

end Go.Proofs.YtajagjcfmaggiaaGreatDoor
/- The document's Map over a value's tree: what comes is what the plain function has; the conditions: the value in memory, valid, the tables as they are laid, the topic not too long. -/
namespace Go.Proofs.YtajagjcfmaggiaaGreatDoor
open Go.RowKit

theorem len_12 (k : Int) (z l : Nat) : (Dt.lenP k z l).2 = 0 ∨ (Dt.lenP k z l).2 = 12 := by
  unfold Dt.lenP
  repeat' split
  all_goals simp
theorem lab_12 (k i : Int) (s : ByteArray) : (Dt.labP k i s).2 = 0 ∨ (Dt.labP k i s).2 = 12 := by
  unfold Dt.labP
  repeat' split
  all_goals simp
theorem rmap_any (op : Int) (tp : ByteArray) (htp : tp.size ≤ maxLen) (k i u : Int) (s : ByteArray) (a : Option Addr) (n c : Nat) {m : Nat} (t : Dt.Tr (m + 1)) (ho : Ok (m + 1) t) (w : World) (D : Nat → Prop) (hr : Rz D w (m + 1) [.int .i64 k, .int .i64 i, .int .u64 u, .string s, .slice a n c] t) (hT : Dt.P10 w) :
    Calls Tryz.prog 12 #[.int .i64 op, .string tp, .agg #[.int .i64 k, .int .i64 i, .int .u64 u, .string s, .slice a n c]] w (GR D (mapP keyL op tp t) w) := by
  have hv : Vl w m t k i u s a n c := ho.vl hr
  have ek : t.kd = k := hv.eq.1
  obtain ⟨e1, e2, e3, e4, e5, e6, e7⟩ := rz_kd hr
  have hk13 : 0 ≤ k ∧ k ≤ 13 := ek ▸ ho.kind
  have HC : ∀ wx, Below w.heap.size w wx → w.heap.size + 1 + 1 ≤ wx.heap.size → Calls Tryz.prog 9 #[.agg #[.int .i64 k, .int .i64 i, .int .u64 u, .string s, .slice a n c]] wx fun e w' => ∃ y0 y1 y2 y3 y4 y5 y6, e = .returned (.agg #[.int .i64 y0, .int .i64 y1, .int .u64 y2, .string y3, .slice y4 y5 y6]) ∧ Dt.Rf (fun g => w.heap.size + 1 + 1 ≤ g ∧ g < w'.heap.size) w' (m + 1) [.int .i64 y0, .int .i64 y1, .int .u64 y2, .string y3, .slice y4 y5 y6] t ∧ Below wx.heap.size wx w' := fun wx hx hs => rcopy_rf w (m + 1) t k i u s a n c hv.ps hv.rep wx hx _ hs
  unfold mapP
  by_cases o1 : op = 1
  · rw [if_pos o1]
    subst o1
    cases hq : impl t.kd 5 with
    | false =>
      rw [if_neg (by decide)]
      rw [ek] at hq ⊢
      exact rm_double_no tp k i u s a n c w D _ fun wx hx => rface_gp_no 5 k i u s a n c hk13 hq wx
    | true =>
      rw [if_pos rfl]
      have hk := of_decide_eq_true ((impl5 ho.kind).symm.trans hq)
      rw [← e1, ← e2, ← e3]
      rw [← e1] at hk hq
      refine rm_double_yes tp k i u s a n c w D t _ ?_ (fun wx hx => rface_gp 5 k i u s a n c t w hv hq wx hx) fun wx hx => radd_any k i u s a n c hk wx
      rcases hk with rfl | rfl <;> rfl
  rw [if_neg o1]
  by_cases o2 : op = 2
  · rw [if_pos o2]
    subst o2
    cases hq : Dt.vB _ (lsT t) with
    | true => rw [if_pos rfl]; exact rm_list_yes tp k i u s a n c w D t hq HC
    | false => rw [if_neg (by decide)]; exact rm_list_no tp k i u s a n c w D t hq HC
  rw [if_neg o2]
  by_cases o3 : op = 3
  · rw [if_pos o3]
    subst o3
    by_cases k11 : t.kd = 11
    · rw [if_pos k11]
      have h1 := ho.ok
      rw [k11] at h1
      obtain ⟨kid, hkid⟩ := List.length_eq_one_iff.1 (Dt.ok11 h1).2.2.2
      rw [hkid]
      obtain rfl : k = 11 := e1.trans k11
      exact rm_open tp 11 i u s a n c w D 0 0 0 true m kid fun wx hx => ropen_gp i u s a n c t w hv kid hkid wx hx
    rw [if_neg k11]
    by_cases k12 : t.kd = 12
    · rw [if_pos k12]
      obtain rfl : k = 12 := e1.trans k12
      exact rm_open tp 12 i u s a n c w D 110 3 0 false 1 (lfT 0 0) fun wx hx => ropen_gp_nil i u s a n c t w hv wx hx
    · rw [if_neg k12]
      have hq := impl3 t.kd ho.kind k11 k12
      rw [ek] at hq ⊢
      exact rm_open tp k i u s a n c w D 110 2 (lackM k 3) false 1 (lfT 0 0) fun wx hx => ropen_gp_no k i u s a n c hk13 hq wx
  rw [if_neg o3]
  by_cases o4 : op = 4
  · rw [if_pos o4]
    subst o4
    have e0 : Dt.lenP t.kd t.tx.size t.ks.length = Dt.lenP k s.size n := by rw [e1, e4, e5]
    rw [e0]
    by_cases h0 : (Dt.lenP k s.size n).2 = 0
    · rw [if_pos h0]
      refine rm_size_yes tp k i u s a n c w D _ fun wx hx => ?_
      have := Dt.refLen k i u s a n c wx
      rw [h0] at this
      exact this
    · rw [if_neg h0]
      refine rm_size_no tp k i u s a n c w D (Dt.lenP k s.size n).1 fun wx hx => ?_
      have h12 : (Dt.lenP k s.size n).2 = 12 := (len_12 k s.size n).resolve_left h0
      have := Dt.refLen k i u s a n c wx
      rw [h12] at this
      exact this
  rw [if_neg o4]
  by_cases o5 : op = 5
  · rw [if_pos o5]
    subst o5
    have hl := lab_size keyL ho
    rw [labL_key] at hl ⊢
    have hi := ho.i6.1
    rw [← e1, ← e2, ← e4] at hl ⊢
    rw [← e2] at hi
    by_cases h0 : (Dt.labP k i s).2 = 0
    · rw [if_pos h0]
      refine rm_name_yes tp k i u s a n c w D _ (by unfold maxLen; omega) fun wx hx => ?_
      have := Dt.refLab k i u s a n c wx hi (hT.below hx)
      rw [h0] at this
      exact this
    · rw [if_neg h0]
      refine rm_name_no tp k i u s a n c w D (Dt.labP k i s).1 fun wx hx => ?_
      have h12 : (Dt.labP k i s).2 = 12 := (lab_12 k i s).resolve_left h0
      have := Dt.refLab k i u s a n c wx hi (hT.below hx)
      rw [h12] at this
      exact this
  rw [if_neg o5]
  by_cases o6 : op = 6
  · rw [if_pos o6]
    subst o6
    by_cases k6 : t.kd = 6
    · rw [if_pos k6]
      obtain rfl : k = 6 := e1.trans k6
      exact rm_not_yes tp 6 i u s a n c w D t k6 fun wx hx => rkind_gp i u s a n c t w hv wx hx
    · rw [if_neg k6, ek]
      rw [ek] at k6
      exact rm_not_no tp k i u s a n c w D k fun wx hx => rkind_gp_no k i u s a n c hk13 k6 wx
  rw [if_neg o6]
  by_cases o7 : op = 7
  · rw [if_pos o7]
    subst o7
    cases hq : Dt.vB _ (prT tp t) with
    | true => rw [if_pos rfl]; exact rm_pair_yes tp k i u s a n c w D t hq htp HC
    | false => rw [if_neg (by decide)]; exact rm_pair_no tp k i u s a n c w D t hq htp HC
  rw [if_neg o7]
  by_cases o8 : op = 8
  · rw [if_pos o8]
    subst o8
    unfold kyT
    by_cases k1 : k = 1
    · have ee : kyK t.kd = 2 := by rw [ek, k1]; rfl
      rw [ee]
      exact (rm_key_1 tp k i u s a n c k1 w D t HC).mono fun e w' ⟨y0, y1, y2, y3, y4, y5, y6, he, hz, h1, hb⟩ => ⟨y0, y1, y2, y3, y4, y5, y6, he, h1 ▸ hz, hb⟩
    by_cases k4 : k = 4
    · have ee : kyK t.kd = 5 := by rw [ek, k4]; rfl
      rw [ee]
      exact (rm_key_4 tp k i u s a n c k4 w D t HC).mono fun e w' ⟨y0, y1, y2, y3, y4, y5, y6, he, hz, h1, hb⟩ => ⟨y0, y1, y2, y3, y4, y5, y6, he, h1 ▸ hz, hb⟩
    · have ee : kyK t.kd = t.kd := by rw [ek]; simp [kyK, k1, k4]
      rw [ee]
      refine (rm_key_0 tp k i u s a n c ⟨k1, k4⟩ w D t HC).mono fun e w' ⟨y0, y1, y2, y3, y4, y5, y6, he, hz, h0, h1, hb⟩ => ⟨y0, y1, y2, y3, y4, y5, y6, he, ?_, hb⟩
      rw [← h0, ← h1]
      exact hz
  · rw [if_neg o8]
    exact (rm_other op tp k i u s a n c w (by simpa using o1) (by simpa using o2) (by simpa using o3) (by simpa using o4) (by simpa using o5) (by simpa using o6) (by simpa using o7) (by simpa using o8)).mono fun _ _ h => gr_bad h
end Go.Proofs.YtajagjcfmaggiaaGreatDoor
/- The package's table of maps; no condition. -/
namespace Go.Proofs.YtajagjcfmaggiaaGreatDoor
open Go.RowKit

/-- The function of a map's kinds. -/
def kfn (op : Int) : Nat := if op = 1 then 52 else if op = 2 then 54 else if op = 3 then 56 else if op = 4 then 58 else if op = 5 then 60 else if op = 6 then 62 else if op = 7 then 64 else if op = 8 then 66 else 50
theorem tbl_m (op : Int) (h0 : 0 ≤ op) (h9 : op < 9) : ([.func (.func 49) #[] #[], .func (.func 50) #[] #[], .func (.func 51) #[] #[], .func (.func 52) #[] #[], .func (.func 53) #[] #[], .func (.func 54) #[] #[], .func (.func 55) #[] #[], .func (.func 56) #[] #[], .func (.func 57) #[] #[], .func (.func 58) #[] #[], .func (.func 59) #[] #[], .func (.func 60) #[] #[], .func (.func 61) #[] #[], .func (.func 62) #[] #[], .func (.func 63) #[] #[], .func (.func 64) #[] #[], .func (.func 65) #[] #[], .func (.func 66) #[] #[]] : List Value)[op.toNat * 2]? = some (.func (.func (mfn op)) #[] #[]) ∧ ([.func (.func 49) #[] #[], .func (.func 50) #[] #[], .func (.func 51) #[] #[], .func (.func 52) #[] #[], .func (.func 53) #[] #[], .func (.func 54) #[] #[], .func (.func 55) #[] #[], .func (.func 56) #[] #[], .func (.func 57) #[] #[], .func (.func 58) #[] #[], .func (.func 59) #[] #[], .func (.func 60) #[] #[], .func (.func 61) #[] #[], .func (.func 62) #[] #[], .func (.func 63) #[] #[], .func (.func 64) #[] #[], .func (.func 65) #[] #[], .func (.func 66) #[] #[]] : List Value)[op.toNat * 2 + 1]? = some (.func (.func (kfn op)) #[] #[]) := by
  have : op = 0 ∨ op = 1 ∨ op = 2 ∨ op = 3 ∨ op = 4 ∨ op = 5 ∨ op = 6 ∨ op = 7 ∨ op = 8 := by omega
  rcases this with rfl | rfl | rfl | rfl | rfl | rfl | rfl | rfl | rfl <;> exact ⟨rfl, rfl⟩

set_option maxRecDepth 100000 in
set_option maxHeartbeats 1000000 in
theorem mo_in (op : Int) (h0 : 0 ≤ op) (h9 : op < 9) (w : World) : Calls Tryz.prog 35 #[.int .i64 op] w fun e w' => e = .returned (.agg #[.func (.func (mfn op)) #[] #[], .func (.func (kfn op)) #[] #[]]) ∧ Below w.heap.size w w' := by
  have hsf : ∀ (a : Addr) (f : Fn) (fs cs : Array Value) (m : Mode) (w : World), (store a (.func f fs cs) m).run Tryz.prog w = stored Tryz.prog w a (.func f fs cs) m := fun a f fs cs m w => run_store Tryz.prog w a _ m rfl
  obtain ⟨hL0, hL1⟩ := tbl_m op h0 h9
  have g0 : decide (op < 0) = false := decide_eq_false (by omega)
  have g9 : decide (9 ≤ op) = false := decide_eq_false (by omega)
  go_enter Tryz.func35, Tryz.ntmps35
  go_wp2
  exact bodyPost_ret (v := .agg #[.func (.func (mfn op)) #[] #[], .func (.func (kfn op)) #[] #[]]) (by simp [results, Tryz.results35, go_sem]) rfl ⟨rfl, below2 w _ _⟩

set_option maxRecDepth 100000 in
set_option maxHeartbeats 1000000 in
theorem mo_lo (op : Int) (h : decide (op < 0) = true) (w : World) : Calls Tryz.prog 35 #[.int .i64 op] w fun e w' => e = .returned (.agg #[.func (.func 49) #[] #[], .func (.func 50) #[] #[]]) ∧ Below w.heap.size w w' := by
  have hsf : ∀ (a : Addr) (f : Fn) (fs cs : Array Value) (m : Mode) (w : World), (store a (.func f fs cs) m).run Tryz.prog w = stored Tryz.prog w a (.func f fs cs) m := fun a f fs cs m w => run_store Tryz.prog w a _ m rfl
  go_enter Tryz.func35, Tryz.ntmps35
  go_wp2
  exact bodyPost_ret (v := .agg #[.func (.func 49) #[] #[], .func (.func 50) #[] #[]]) (by simp [results, Tryz.results35, go_sem]) rfl ⟨rfl, below2 w _ _⟩

set_option maxRecDepth 100000 in
set_option maxHeartbeats 1000000 in
theorem mo_hi (op : Int) (h : decide (op < 0) = false) (h9 : decide (9 ≤ op) = true) (w : World) : Calls Tryz.prog 35 #[.int .i64 op] w fun e w' => e = .returned (.agg #[.func (.func 49) #[] #[], .func (.func 50) #[] #[]]) ∧ Below w.heap.size w w' := by
  have hsf : ∀ (a : Addr) (f : Fn) (fs cs : Array Value) (m : Mode) (w : World), (store a (.func f fs cs) m).run Tryz.prog w = stored Tryz.prog w a (.func f fs cs) m := fun a f fs cs m w => run_store Tryz.prog w a _ m rfl
  go_enter Tryz.func35, Tryz.ntmps35
  go_wp2
  exact bodyPost_ret (v := .agg #[.func (.func 49) #[] #[], .func (.func 50) #[] #[]]) (by simp [results, Tryz.results35, go_sem]) rfl ⟨rfl, below2 w _ _⟩

theorem mappingOf_any (op : Int) (w : World) : Calls Tryz.prog 35 #[.int .i64 op] w fun e w' => e = .returned (.agg #[.func (.func (mfn op)) #[] #[], .func (.func (kfn op)) #[] #[]]) ∧ Below w.heap.size w w' := by
  by_cases h0 : op < 0
  · have e1 : mfn op = 49 := by unfold mfn; rw [if_neg (by omega), if_neg (by omega), if_neg (by omega), if_neg (by omega), if_neg (by omega), if_neg (by omega), if_neg (by omega), if_neg (by omega)]
    have e2 : kfn op = 50 := by unfold kfn; rw [if_neg (by omega), if_neg (by omega), if_neg (by omega), if_neg (by omega), if_neg (by omega), if_neg (by omega), if_neg (by omega), if_neg (by omega)]
    rw [e1, e2]
    exact mo_lo op (decide_eq_true h0) w
  by_cases h9 : 9 ≤ op
  · have e1 : mfn op = 49 := by unfold mfn; rw [if_neg (by omega), if_neg (by omega), if_neg (by omega), if_neg (by omega), if_neg (by omega), if_neg (by omega), if_neg (by omega), if_neg (by omega)]
    have e2 : kfn op = 50 := by unfold kfn; rw [if_neg (by omega), if_neg (by omega), if_neg (by omega), if_neg (by omega), if_neg (by omega), if_neg (by omega), if_neg (by omega), if_neg (by omega)]
    rw [e1, e2]
    exact mo_hi op (decide_eq_false h0) (decide_eq_true h9) w
  · exact mo_in op (by omega) (by omega) w
theorem mfn_cases (op : Int) : mfn op = 51 ∨ mfn op = 53 ∨ mfn op = 55 ∨ mfn op = 57 ∨ mfn op = 59 ∨ mfn op = 61 ∨ mfn op = 63 ∨ mfn op = 65 ∨ mfn op = 49 := by
  unfold mfn
  repeat' split
  all_goals simp
theorem mcall (op : Int) (args : Array Value) (w : World) : (callFunc (mfn op) args).run Tryz.prog w = .ok (.enter (mfn op) args) w := by
  rcases mfn_cases op with h | h | h | h | h | h | h | h | h <;> rw [h] <;> kernel_rfl
end Go.Proofs.YtajagjcfmaggiaaGreatDoor
