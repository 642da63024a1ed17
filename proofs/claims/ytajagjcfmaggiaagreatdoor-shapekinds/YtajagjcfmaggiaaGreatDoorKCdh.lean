/- The package's maps open, size, not, double; the conditions: the value in memory, valid. -/
import Derived.Test.YtajagjcfmaggiaaGreatDoorKCdg
namespace Go.Proofs.YtajagjcfmaggiaaGreatDoor
open Go.RowKit

theorem rz_leaf {F : Nat → Prop} {w w' : World} {m : Nat} {t : Dt.Tr (m + 1)} {cs : List Value} (hk : t.ks = []) (h : Dt.Rep w (m + 1) cs t) : Rz F w' (m + 1) cs t := by
  obtain ⟨ad, cap, e, h1, h2, h3, -⟩ := h
  exact ⟨ad, cap, e, h1, h2, h3, .inl hk⟩

set_option maxRecDepth 100000 in
set_option maxHeartbeats 1000000 in
theorem open_by (tp : ByteArray) (k i u : Int) (s : ByteArray) (a : Option Addr) (n c : Nat) (w : World) (D : Nat → Prop) (er pk pn : Int) (has : Bool) (m : Nat) (t : Dt.Tr m) (hT : ∀ wx, Below w.heap.size w wx → Calls Tryz.prog 77 #[.agg (acs 5 k i u s a n c 0 0 0 ⟨#[]⟩ none 0 0 0)] wx (GP er pk pn has m t wx)) : Calls Tryz.prog 55 #[.string tp, .agg #[.int .i64 k, .int .i64 i, .int .u64 u, .string s, .slice a n c]] w (GR D ⟨er, pk, pn, has, m, t⟩ w) := by
  have HT := Lib.hid hT
  clear hT
  have B0 := below2 w (.cells #[.int .i64 k, .int .i64 i, .int .u64 u, .string s, .slice a n c] 25) (.cells (rErr 0 0 0 0) 33)
  have D0 : Bk ((w.alloc (.cells #[.int .i64 k, .int .i64 i, .int .u64 u, .string s, .slice a n c] 25)).alloc (.cells (rErr 0 0 0 0) 33)) w.heap.size #[.int .i64 k, .int .i64 i, .int .u64 u, .string s, .slice a n c] 25 := (Bk.new w _ _).alloc _
  have R0 := Bk.new2 w (.cells #[.int .i64 k, .int .i64 i, .int .u64 u, .string s, .slice a n c] 25) (rErr 0 0 0 0) 33
  go_enter Tryz.func55, Tryz.ntmps55
  go_wp2_with fail
  refine (HT.out _ B0).mono ?_
  rintro e w2 ⟨k', i', u', s', a', n', c', rfl, rf, b2⟩
  have RF := Lib.hid rf
  clear rf
  have r2 := R0.step b2
  have B2 := B0.trans (b2.mono B0.size)
  obtain ⟨c0, c1, c2, c3, c4, c5, c6, c7, c8, c9⟩ := r2.c10
  have z2 := r2.f
  go_wp2_with fail
  obtain ⟨k1, k2, k3, k4⟩ := set10 r2 (.int .i64 er) (.int .i64 0) (.int .i64 pk) (.int .i64 pn) (.bool has) (.int .i64 k') (.int .i64 i') (.int .u64 u') (.string s') (.slice a' n' c') rfl
  have KF := B2.trans (k4.mono (by omega))
  obtain ⟨q0, q1, q2, q3, q4, q5, q6, q7, q8, q9⟩ := k1.c10
  refine bodyPost_ret (v := .agg (rcs er 0 pk pn has k' i' u' s' a' n' c')) ?_ rfl ⟨k', i', u', s', a', n', c', rfl, ?hz, KF⟩
  case hz =>
    exact Rz.to (fun g hg => by
      have hg1 : w.heap.size + 1 + 1 ≤ g := by simpa using hg.1
      exact ⟨.inr ⟨by omega, by have := hg.2; omega⟩, k3 g (by omega)⟩) _ _ _ (Rz.of_rf _ _ _ RF.out)
  simp [results, Tryz.results55, go_sem, q0, q1, q2, q3, q4, q5, q6, q7, q8, q9]

set_option maxRecDepth 100000 in
set_option maxHeartbeats 1000000 in
theorem size_by (tp : ByteArray) (k i u : Int) (s : ByteArray) (a : Option Addr) (n c : Nat) (w : World) (D : Nat → Prop) (er pk pn : Int) (has : Bool) (m : Nat) (t : Dt.Tr m) (hT : ∀ wx, Below w.heap.size w wx → Calls Tryz.prog 77 #[.agg (acs 10 k i u s a n c 0 0 0 ⟨#[]⟩ none 0 0 0)] wx (GP er pk pn has m t wx)) : Calls Tryz.prog 57 #[.string tp, .agg #[.int .i64 k, .int .i64 i, .int .u64 u, .string s, .slice a n c]] w (GR D ⟨er, pk, pn, has, m, t⟩ w) := by
  have HT := Lib.hid hT
  clear hT
  have B0 := below2 w (.cells #[.int .i64 k, .int .i64 i, .int .u64 u, .string s, .slice a n c] 25) (.cells (rErr 0 0 0 0) 33)
  have D0 : Bk ((w.alloc (.cells #[.int .i64 k, .int .i64 i, .int .u64 u, .string s, .slice a n c] 25)).alloc (.cells (rErr 0 0 0 0) 33)) w.heap.size #[.int .i64 k, .int .i64 i, .int .u64 u, .string s, .slice a n c] 25 := (Bk.new w _ _).alloc _
  have R0 := Bk.new2 w (.cells #[.int .i64 k, .int .i64 i, .int .u64 u, .string s, .slice a n c] 25) (rErr 0 0 0 0) 33
  go_enter Tryz.func57, Tryz.ntmps57
  go_wp2_with fail
  refine (HT.out _ B0).mono ?_
  rintro e w2 ⟨k', i', u', s', a', n', c', rfl, rf, b2⟩
  have RF := Lib.hid rf
  clear rf
  have r2 := R0.step b2
  have B2 := B0.trans (b2.mono B0.size)
  obtain ⟨c0, c1, c2, c3, c4, c5, c6, c7, c8, c9⟩ := r2.c10
  have z2 := r2.f
  go_wp2_with fail
  obtain ⟨k1, k2, k3, k4⟩ := set10 r2 (.int .i64 er) (.int .i64 0) (.int .i64 pk) (.int .i64 pn) (.bool has) (.int .i64 k') (.int .i64 i') (.int .u64 u') (.string s') (.slice a' n' c') rfl
  have KF := B2.trans (k4.mono (by omega))
  obtain ⟨q0, q1, q2, q3, q4, q5, q6, q7, q8, q9⟩ := k1.c10
  refine bodyPost_ret (v := .agg (rcs er 0 pk pn has k' i' u' s' a' n' c')) ?_ rfl ⟨k', i', u', s', a', n', c', rfl, ?hz, KF⟩
  case hz =>
    exact Rz.to (fun g hg => by
      have hg1 : w.heap.size + 1 + 1 ≤ g := by simpa using hg.1
      exact ⟨.inr ⟨by omega, by have := hg.2; omega⟩, k3 g (by omega)⟩) _ _ _ (Rz.of_rf _ _ _ RF.out)
  simp [results, Tryz.results57, go_sem, q0, q1, q2, q3, q4, q5, q6, q7, q8, q9]

theorem not_end {D : Nat → Prop} {m : Nat} {t : Dt.Tr (m + 1)} {w w2 W : World} {o : Obj} {k' i' u' : Int} {s' : ByteArray} {a' : Option Addr} {n' c' : Nat} {o1 o2 : Obj} (hk : t.kd = 6) (rf : Dt.Rf (fun g => ((w.alloc o1).alloc o2).heap.size ≤ g ∧ g < w2.heap.size) w2 (m + 1) [.int .i64 k', .int .i64 i', .int .u64 u', .string s', .slice a' n' c'] t) (k2 : W.heap.size = w2.heap.size) (k3 : ∀ g, g ≠ w.heap.size + 1 → W.heap[g]? = w2.heap[g]?) (KF : Below w.heap.size w (W.alloc o)) :
    GR D (good (nd 6 (wrap64 (1 - t.it)) t.ut t.tx t.ks)) w (.returned (.agg (rcs 0 0 0 0 true k' (wrap64 (1 - i')) u' s' a' n' c'))) (W.alloc o) := by
  have q := Rz.to (F' := fun g => D g ∨ (w.heap.size ≤ g ∧ g < (W.alloc o).heap.size)) (w' := W.alloc o) (fun g hg => by
    have hg1 : w.heap.size + 1 + 1 ≤ g := by simpa using hg.1
    have hg2 := hg.2
    exact ⟨.inr ⟨by omega, by rw [World.size_alloc, k2]; omega⟩, ((below1 _ _).block g (by rw [k2]; exact hg2)).trans (k3 g (by omega))⟩) _ _ _ (Rz.of_rf _ _ _ rf)
  have e := rz_kd q
  have z := rz_like q k' (wrap64 (1 - i'))
  rw [hk] at e
  obtain ⟨rfl, rfl, -⟩ := e
  exact ⟨_, _, _, _, _, _, _, rfl, z, KF⟩

set_option maxRecDepth 100000 in
set_option maxHeartbeats 1000000 in
theorem not_yes (tp : ByteArray) (k i u : Int) (s : ByteArray) (a : Option Addr) (n c : Nat) {m : Nat} (t : Dt.Tr (m + 1)) (w : World) (D : Nat → Prop) (hk : t.kd = 6) (hT : ∀ wx, Below w.heap.size w wx → Calls Tryz.prog 77 #[.agg (acs 2 k i u s a n c 0 0 0 ⟨#[]⟩ none 0 0 6)] wx (GP 0 0 0 true (m + 1) t wx)) : Calls Tryz.prog 61 #[.string tp, .agg #[.int .i64 k, .int .i64 i, .int .u64 u, .string s, .slice a n c]] w (GR D (good (nd 6 (wrap64 (1 - t.it)) t.ut t.tx t.ks)) w) := by
  have HT := Lib.hid hT
  have HK := Lib.hid hk
  clear hT hk
  have B0 := below2 w (.cells #[.int .i64 k, .int .i64 i, .int .u64 u, .string s, .slice a n c] 25) (.cells (rErr 0 0 0 0) 33)
  have D0 : Bk ((w.alloc (.cells #[.int .i64 k, .int .i64 i, .int .u64 u, .string s, .slice a n c] 25)).alloc (.cells (rErr 0 0 0 0) 33)) w.heap.size #[.int .i64 k, .int .i64 i, .int .u64 u, .string s, .slice a n c] 25 := (Bk.new w _ _).alloc _
  have R0 := Bk.new2 w (.cells #[.int .i64 k, .int .i64 i, .int .u64 u, .string s, .slice a n c] 25) (rErr 0 0 0 0) 33
  go_enter Tryz.func61, Tryz.ntmps61
  go_wp2_with fail
  refine (HT.out _ B0).mono ?_
  rintro e w2 ⟨k', i', u', s', a', n', c', rfl, rf, b2⟩
  have RF := Lib.hid rf
  clear rf
  have R1 := R0.step b2
  have B1 := B0.trans (b2.mono B0.size)
  obtain ⟨c0, c1, c2, c3, c4, c5, c6, c7, c8, c9⟩ := R1.c10
  have z2 := R1.f
  have hlt := R1.lt
  go_wp2_with fail
  obtain ⟨k1, k2, k3, k4⟩ := set10 R1 (.int .i64 0) (.int .i64 0) (.int .i64 0) (.int .i64 0) (.bool true) (.int .i64 k') (.int .i64 (wrap64 (1 - i'))) (.int .u64 u') (.string s') (.slice a' n' c') rfl
  have KE := B1.trans (k4.mono (by omega))
  have KF := KE.trans ((below1 _ (.cells #[.int .i64 0, .int .i64 0, .int .i64 0, .int .i64 0, .bool true, .int .i64 k', .int .i64 (wrap64 (1 - i')), .int .u64 u', .string s', .slice a' n' c'] 33)).mono KE.size)
  have k5 := k1.alloc (.cells #[.int .i64 0, .int .i64 0, .int .i64 0, .int .i64 0, .bool true, .int .i64 k', .int .i64 (wrap64 (1 - i')), .int .u64 u', .string s', .slice a' n' c'] 33)
  obtain ⟨q0, q1, q2, q3, q4, q5, q6, q7, q8, q9⟩ := k5.c10
  refine bodyPost_ret (v := .agg (rcs 0 0 0 0 true k' (wrap64 (1 - i')) u' s' a' n' c')) ?_ rfl (not_end HK.out RF.out k2 k3 KF)
  simp [results, Tryz.results61, go_sem, q0, q1, q2, q3, q4, q5, q6, q7, q8, q9]

set_option maxRecDepth 100000 in
set_option maxHeartbeats 1000000 in
theorem not_no (tp : ByteArray) (k i u : Int) (s : ByteArray) (a : Option Addr) (n c : Nat) (w : World) (D : Nat → Prop) (pn : Int) (hT : ∀ wx, Below w.heap.size w wx → Calls Tryz.prog 77 #[.agg (acs 2 k i u s a n c 0 0 0 ⟨#[]⟩ none 0 0 6)] wx (GP 110 2 pn false 1 (lfT 0 0) wx)) : Calls Tryz.prog 61 #[.string tp, .agg #[.int .i64 k, .int .i64 i, .int .u64 u, .string s, .slice a n c]] w (GR D (bad 110 2 pn) w) := by
  have HT := Lib.hid hT
  clear hT
  have B0 := below2 w (.cells #[.int .i64 k, .int .i64 i, .int .u64 u, .string s, .slice a n c] 25) (.cells (rErr 0 0 0 0) 33)
  have D0 : Bk ((w.alloc (.cells #[.int .i64 k, .int .i64 i, .int .u64 u, .string s, .slice a n c] 25)).alloc (.cells (rErr 0 0 0 0) 33)) w.heap.size #[.int .i64 k, .int .i64 i, .int .u64 u, .string s, .slice a n c] 25 := (Bk.new w _ _).alloc _
  have R0 := Bk.new2 w (.cells #[.int .i64 k, .int .i64 i, .int .u64 u, .string s, .slice a n c] 25) (rErr 0 0 0 0) 33
  go_enter Tryz.func61, Tryz.ntmps61
  go_wp2_with fail
  refine (HT.out _ B0).mono ?_
  rintro e w2 ⟨k', i', u', s', a', n', c', rfl, rf, b2⟩
  obtain ⟨e1, e2, e3, e4, e5, -⟩ := rz_kd (Rz.of_rf _ _ _ rf)
  obtain rfl : k' = 0 := e1
  obtain rfl : i' = 0 := e2
  obtain rfl : u' = 0 := e3
  obtain rfl : s' = ⟨#[]⟩ := e4
  obtain rfl : n' = 0 := e5
  have RF := Lib.hid rf
  clear rf
  have R1 := R0.step b2
  have B1 := B0.trans (b2.mono B0.size)
  obtain ⟨c0, c1, c2, c3, c4, c5, c6, c7, c8, c9⟩ := R1.c10
  have z2 := R1.f
  have hlt := R1.lt
  go_wp2_with fail
  obtain ⟨k1, k2, k3, k4⟩ := set10 R1 (.int .i64 110) (.int .i64 0) (.int .i64 2) (.int .i64 pn) (.bool false) (.int .i64 0) (.int .i64 0) (.int .u64 0) (.string ⟨#[]⟩) (.slice a' 0 c') rfl
  have KE := B1.trans (k4.mono (by omega))
  have KF := KE.trans ((below1 _ (.cells (rcs 110 0 2 pn false 0 0 0 ⟨#[]⟩ a' 0 c') 33)).mono KE.size)
  have k5 := k1.alloc (.cells (rcs 110 0 2 pn false 0 0 0 ⟨#[]⟩ a' 0 c') 33)
  obtain ⟨q0, q1, q2, q3, q4, q5, q6, q7, q8, q9⟩ := k5.c10
  refine bodyPost_ret (v := .agg (rcs 110 0 2 pn false 0 0 0 ⟨#[]⟩ a' 0 c')) ?_ rfl ⟨0, 0, 0, ⟨#[]⟩, a', 0, c', rfl, ⟨a', c', rfl, Nat.zero_le _, Nat.zero_le _, (rz_kd (Rz.of_rf _ _ _ RF.out)).2.2.2.2.2.2, .inl rfl⟩, KF⟩
  simp [results, Tryz.results61, go_sem, q0, q1, q2, q3, q4, q5, q6, q7, q8, q9]

set_option maxRecDepth 100000 in
set_option maxHeartbeats 1000000 in
theorem double_no (tp : ByteArray) (k i u : Int) (s : ByteArray) (a : Option Addr) (n c : Nat) (w : World) (D : Nat → Prop) (pn : Int) (hT : ∀ wx, Below w.heap.size w wx → Calls Tryz.prog 77 #[.agg (acs 3 k i u s a n c 0 0 0 ⟨#[]⟩ none 0 0 5)] wx (GP 110 2 pn false 1 (lfT 0 0) wx)) : Calls Tryz.prog 51 #[.string tp, .agg #[.int .i64 k, .int .i64 i, .int .u64 u, .string s, .slice a n c]] w (GR D (bad 110 2 pn) w) := by
  have HT := Lib.hid hT
  clear hT
  have B0 := below2 w (.cells #[.int .i64 k, .int .i64 i, .int .u64 u, .string s, .slice a n c] 25) (.cells (rErr 0 0 0 0) 33)
  have D0 : Bk ((w.alloc (.cells #[.int .i64 k, .int .i64 i, .int .u64 u, .string s, .slice a n c] 25)).alloc (.cells (rErr 0 0 0 0) 33)) w.heap.size #[.int .i64 k, .int .i64 i, .int .u64 u, .string s, .slice a n c] 25 := (Bk.new w _ _).alloc _
  have R0 := Bk.new2 w (.cells #[.int .i64 k, .int .i64 i, .int .u64 u, .string s, .slice a n c] 25) (rErr 0 0 0 0) 33
  go_enter Tryz.func51, Tryz.ntmps51
  go_wp2_with fail
  refine (HT.out _ B0).mono ?_
  rintro e w2 ⟨k', i', u', s', a', n', c', rfl, rf, b2⟩
  obtain ⟨e1, e2, e3, e4, e5, -⟩ := rz_kd (Rz.of_rf _ _ _ rf)
  obtain rfl : k' = 0 := e1
  obtain rfl : i' = 0 := e2
  obtain rfl : u' = 0 := e3
  obtain rfl : s' = ⟨#[]⟩ := e4
  obtain rfl : n' = 0 := e5
  have RF := Lib.hid rf
  clear rf
  have R1 := R0.step b2
  have B1 := B0.trans (b2.mono B0.size)
  obtain ⟨c0, c1, c2, c3, c4, c5, c6, c7, c8, c9⟩ := R1.c10
  have z2 := R1.f
  have hlt := R1.lt
  go_wp2_with fail
  obtain ⟨k1, k2, k3, k4⟩ := set10 R1 (.int .i64 110) (.int .i64 0) (.int .i64 2) (.int .i64 pn) (.bool false) (.int .i64 0) (.int .i64 0) (.int .u64 0) (.string ⟨#[]⟩) (.slice a' 0 c') rfl
  have KE := B1.trans (k4.mono (by omega))
  have KF := KE.trans ((below1 _ (.cells (rcs 110 0 2 pn false 0 0 0 ⟨#[]⟩ a' 0 c') 33)).mono KE.size)
  have k5 := k1.alloc (.cells (rcs 110 0 2 pn false 0 0 0 ⟨#[]⟩ a' 0 c') 33)
  obtain ⟨q0, q1, q2, q3, q4, q5, q6, q7, q8, q9⟩ := k5.c10
  refine bodyPost_ret (v := .agg (rcs 110 0 2 pn false 0 0 0 ⟨#[]⟩ a' 0 c')) ?_ rfl ⟨0, 0, 0, ⟨#[]⟩, a', 0, c', rfl, ⟨a', c', rfl, Nat.zero_le _, Nat.zero_le _, (rz_kd (Rz.of_rf _ _ _ RF.out)).2.2.2.2.2.2, .inl rfl⟩, KF⟩
  simp [results, Tryz.results51, go_sem, q0, q1, q2, q3, q4, q5, q6, q7, q8, q9]

set_option maxRecDepth 100000 in
set_option maxHeartbeats 1000000 in
theorem double_yes (tp : ByteArray) (k i u : Int) (s : ByteArray) (a : Option Addr) (n c : Nat) {m : Nat} (t : Dt.Tr (m + 1)) (L : Dt.Tr 1) (hL : L.ks = []) (w : World) (D : Nat → Prop) (hT : ∀ wx, Below w.heap.size w wx → Calls Tryz.prog 77 #[.agg (acs 3 k i u s a n c 0 0 0 ⟨#[]⟩ none 0 0 5)] wx (GP 0 0 0 true (m + 1) t wx))
    (hA : ∀ wx, Below w.heap.size w wx → Calls Tryz.prog 78 #[.agg #[.int .i64 k, .int .i64 i, .int .u64 u, .string s, .slice a n c], .agg #[.int .i64 k, .int .i64 i, .int .u64 u, .string s, .slice a n c]] wx fun e w' => ∃ (y0 y1 y2 : Int) (y3 : ByteArray) (y4 : Option Addr) (y5 y6 : Nat), e = .returned (.tuple #[.agg #[.int .i64 y0, .int .i64 y1, .int .u64 y2, .string y3, .slice y4 y5 y6], .int .i64 0]) ∧ Hid (Dt.Rep w' 1 [.int .i64 y0, .int .i64 y1, .int .u64 y2, .string y3, .slice y4 y5 y6] L) ∧ Below wx.heap.size wx w') : Calls Tryz.prog 51 #[.string tp, .agg #[.int .i64 k, .int .i64 i, .int .u64 u, .string s, .slice a n c]] w (GR D (good L) w) := by
  have HT := Lib.hid hT
  have HA := Lib.hid hA
  have HL := Lib.hid hL
  clear hT hA hL
  have B0 := below2 w (.cells #[.int .i64 k, .int .i64 i, .int .u64 u, .string s, .slice a n c] 25) (.cells (rErr 0 0 0 0) 33)
  have D0 : Bk ((w.alloc (.cells #[.int .i64 k, .int .i64 i, .int .u64 u, .string s, .slice a n c] 25)).alloc (.cells (rErr 0 0 0 0) 33)) w.heap.size #[.int .i64 k, .int .i64 i, .int .u64 u, .string s, .slice a n c] 25 := (Bk.new w _ _).alloc _
  have R0 := Bk.new2 w (.cells #[.int .i64 k, .int .i64 i, .int .u64 u, .string s, .slice a n c] 25) (rErr 0 0 0 0) 33
  go_enter Tryz.func51, Tryz.ntmps51
  go_wp2_with fail
  refine (HT.out _ B0).mono ?_
  rintro e w2 ⟨k', i', u', s', a', n', c', rfl, rf, b2⟩
  clear rf
  have b3 := b2.trans ((below1 w2 (.cells (rcs 0 0 0 0 true k' i' u' s' a' n' c') 33)).mono b2.size)
  have R1 := R0.step b3
  have D1 := D0.step b2
  have B1 := B0.trans (b3.mono B0.size)
  have hl1 := D1.lt
  obtain ⟨d0, d1, d2, d3, d4⟩ := D1.c5
  go_wp2_with fail
  refine (HA.out _ B1).mono ?_
  rintro e w3 ⟨y0, y1, y2, y3, y4, y5, y6, rfl, ry, b4⟩
  have R2 := R1.step b4
  have B2 := B1.trans (b4.mono B1.size)
  have RY := Lib.hid ry
  clear R1 D1 B1 d0 d1 d2 d3 d4 hl1 b3 b2 ry
  go_wp2_with fail
  refine (told_ok y0 y1 y2 y3 y4 y5 y6 _).mono ?_
  rintro e w4 ⟨rfl, b5⟩
  have r9 := R2.step b5
  have B9 := B2.trans (b5.mono B2.size)
  obtain ⟨c0, c1, c2, c3, c4, c5, c6, c7, c8, c9⟩ := r9.c10
  have z2 := r9.f
  go_wp2_with fail
  obtain ⟨k1, k2, k3, k4⟩ := set10 r9 (.int .i64 0) (.int .i64 0) (.int .i64 0) (.int .i64 0) (.bool true) (.int .i64 y0) (.int .i64 y1) (.int .u64 y2) (.string y3) (.slice y4 y5 y6) rfl
  have KF := B9.trans (k4.mono (by omega))
  obtain ⟨q0, q1, q2, q3, q4, q5, q6, q7, q8, q9⟩ := k1.c10
  refine bodyPost_ret (v := .agg (rcs 0 0 0 0 true y0 y1 y2 y3 y4 y5 y6)) ?_ rfl ⟨y0, y1, y2, y3, y4, y5, y6, rfl, rz_leaf HL.out RY.out.out, KF⟩
  simp [results, Tryz.results51, go_sem, q0, q1, q2, q3, q4, q5, q6, q7, q8, q9]

end Go.Proofs.YtajagjcfmaggiaaGreatDoor
