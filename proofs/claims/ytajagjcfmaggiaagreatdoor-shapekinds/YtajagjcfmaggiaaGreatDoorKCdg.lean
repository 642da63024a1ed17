/- The package's maps key, list, pair; the conditions: the value in memory, valid, the package's table as it is laid. -/
import Derived.Test.YtajagjcfmaggiaaGreatDoorKCdf
namespace Go.Proofs.YtajagjcfmaggiaaGreatDoor
open Go.RowKit

theorem rz_below {D : Nat → Prop} {w w' : World} (hD : ∀ g, D g → g < w.heap.size) (hb : Below w.heap.size w w') {n : Nat} {cs : List Value} {t : Dt.Tr n} (h : Rz D w n cs t) : Rz (fun g => D g ∨ (w.heap.size ≤ g ∧ g < w'.heap.size)) w' n cs t := Rz.to (fun g hg => ⟨.inl hg, hb.block g (hD g hg)⟩) _ _ _ h
theorem rz_like {F : Nat → Prop} {w : World} {m : Nat} {t : Dt.Tr (m + 1)} {k i u : Int} {s : ByteArray} {a : Option Addr} {n c : Nat} (h : Rz F w (m + 1) [.int .i64 k, .int .i64 i, .int .u64 u, .string s, .slice a n c] t) (k' i' : Int) : Rz F w (m + 1) [.int .i64 k', .int .i64 i', .int .u64 u, .string s, .slice a n c] (nd k' i' t.ut t.tx t.ks) := by
  obtain ⟨ad, cap, e, h1, h2, h3, h4⟩ := h
  simp only [List.cons.injEq, Value.int.injEq, Value.string.injEq, Value.slice.injEq, true_and, and_true] at e
  obtain ⟨-, -, rfl, rfl, rfl, rfl, rfl⟩ := e
  exact ⟨a, c, rfl, h1, h2, h3, h4⟩
theorem rz_kd {F : Nat → Prop} {w : World} {m : Nat} {t : Dt.Tr (m + 1)} {k i u : Int} {s : ByteArray} {a : Option Addr} {n c : Nat} (h : Rz F w (m + 1) [.int .i64 k, .int .i64 i, .int .u64 u, .string s, .slice a n c] t) : k = t.kd ∧ i = t.it ∧ u = t.ut ∧ s = t.tx ∧ n = t.ks.length ∧ s.size ≤ maxLen ∧ c ≤ maxLen := by
  obtain ⟨ad, cap, e, h1, h2, h3, h4⟩ := h
  simp only [List.cons.injEq, Value.int.injEq, Value.string.injEq, Value.slice.injEq, true_and, and_true] at e
  obtain ⟨rfl, rfl, rfl, rfl, rfl, rfl, rfl⟩ := e
  exact ⟨rfl, rfl, rfl, rfl, rfl, h1, h3⟩

set_option maxRecDepth 100000 in
set_option maxHeartbeats 1000000 in
theorem key_any (tp : ByteArray) (k i u : Int) (s : ByteArray) (a : Option Addr) (n c : Nat) {m : Nat} (t : Dt.Tr (m + 1)) (w : World) (D : Nat → Prop) (hD : ∀ g, D g → g < w.heap.size) (hr : Rz D w (m + 1) [.int .i64 k, .int .i64 i, .int .u64 u, .string s, .slice a n c] t) : Calls Tryz.prog 65 #[.string tp, .agg #[.int .i64 k, .int .i64 i, .int .u64 u, .string s, .slice a n c]] w (GR D (good (kyT t)) w) := by
  have HK := Lib.hid (keyKind_any k)
  have HR := Lib.hid hr
  have HD := Lib.hid hD
  clear hr hD
  have B0 := below2 w (.cells #[.int .i64 (kyK k), .int .i64 i, .int .u64 u, .string s, .slice a n c] 25) (.cells (rErr 0 0 0 0) 33)
  have R0 := Bk.new2 w (.cells #[.int .i64 (kyK k), .int .i64 i, .int .u64 u, .string s, .slice a n c] 25) (rErr 0 0 0 0) 33
  go_enter Tryz.func65, Tryz.ntmps65
  go_wp2_with fail
  refine (HK.out _).mono ?_
  rintro e w1 ⟨rfl, hw⟩
  subst hw
  go_wp2_with fail
  refine (told_ok (kyK k) i u s a n c _).mono ?_
  rintro e w2 ⟨rfl, b2⟩
  have r2 := R0.step b2
  have B2 := B0.trans (b2.mono B0.size)
  obtain ⟨c0, c1, c2, c3, c4, c5, c6, c7, c8, c9⟩ := r2.c10
  have z2 := r2.f
  go_wp2_with fail
  obtain ⟨k1, k2, k3, k4⟩ := set10 r2 (.int .i64 0) (.int .i64 0) (.int .i64 0) (.int .i64 0) (.bool true) (.int .i64 (kyK k)) (.int .i64 i) (.int .u64 u) (.string s) (.slice a n c) rfl
  have KF := B2.trans (k4.mono (by omega))
  obtain ⟨q0, q1, q2, q3, q4, q5, q6, q7, q8, q9⟩ := k1.c10
  refine bodyPost_ret (v := .agg (rcs 0 0 0 0 true (kyK k) i u s a n c)) ?_ rfl ⟨kyK k, i, u, s, a, n, c, rfl, ?hz, KF⟩
  case hz =>
    have e := rz_kd HR.out
    have hk : kyT t = nd (kyK k) i t.ut t.tx t.ks := by unfold kyT; rw [← e.1, ← e.2.1]
    show Rz _ _ (m + 1) _ (kyT t)
    rw [hk]
    exact rz_like (rz_below HD.out KF HR.out) (kyK k) i
  simp [results, Tryz.results65, go_sem, q0, q1, q2, q3, q4, q5, q6, q7, q8, q9]

set_option maxRecDepth 100000 in
set_option maxHeartbeats 1000000 in
theorem list_yes (tp : ByteArray) (k i u : Int) (s : ByteArray) (a : Option Addr) (n c : Nat) {m : Nat} (t : Dt.Tr (m + 1)) (w : World) (D : Nat → Prop) (hD : ∀ g, D g → g < w.heap.size) (hr : Rz D w (m + 1) [.int .i64 k, .int .i64 i, .int .u64 u, .string s, .slice a n c] t) (hT : Dt.Tab14 w) (hv : Dt.vB _ (lsT t) = true) : Calls Tryz.prog 53 #[.string tp, .agg #[.int .i64 k, .int .i64 i, .int .u64 u, .string s, .slice a n c]] w (GR D (good (lsT t)) w) := by
  have HR := Lib.hid hr
  have HD := Lib.hid hD
  have B1 : Below w.heap.size w (((w.alloc (.cells #[.int .i64 k, .int .i64 i, .int .u64 u, .string s, .slice a n c] 25)).alloc (.cells (rErr 0 0 0 0) 33)).alloc (.cells #[.int .i64 k, .int .i64 i, .int .u64 u, .string s, .slice a n c] 25)) := (below2 w _ _).trans ((below1 _ _).mono (by simp; omega))
  have R1 : Bk (((w.alloc (.cells #[.int .i64 k, .int .i64 i, .int .u64 u, .string s, .slice a n c] 25)).alloc (.cells (rErr 0 0 0 0) 33)).alloc (.cells #[.int .i64 k, .int .i64 i, .int .u64 u, .string s, .slice a n c] 25)) (w.heap.size + 1) (rErr 0 0 0 0) 33 := (Bk.new2 w _ _ _).alloc _
  have N1 : Bk (((w.alloc (.cells #[.int .i64 k, .int .i64 i, .int .u64 u, .string s, .slice a n c] 25)).alloc (.cells (rErr 0 0 0 0) 33)).alloc (.cells #[.int .i64 k, .int .i64 i, .int .u64 u, .string s, .slice a n c] 25)) (w.heap.size + 1 + 1) #[.int .i64 k, .int .i64 i, .int .u64 u, .string s, .slice a n c] 25 := by
    have := Bk.new ((w.alloc (.cells #[.int .i64 k, .int .i64 i, .int .u64 u, .string s, .slice a n c] 25)).alloc (.cells (rErr 0 0 0 0) 33)) #[.int .i64 k, .int .i64 i, .int .u64 u, .string s, .slice a n c] 25
    rwa [World.size_alloc, World.size_alloc] at this
  have HA := Lib.hid (around_yes 8 0 0 ⟨#[]⟩ (some ⟨w.heap.size + 1 + 1, 0, none⟩) 1 1 (lsT t) _ (Rz.rep _ _ _ (rz_of_cells k i u s a n c (rz_below hD B1 hr) (.inr ⟨by omega, N1.lt⟩) N1)) (hT.below B1) hv)
  clear hr hD hT hv
  go_enter Tryz.func53, Tryz.ntmps53
  go_wp2_with fail
  refine HA.out.mono ?_
  rintro e w2 ⟨rfl, b2⟩
  have r2 := R1.step b2
  have B2 := B1.trans (b2.mono B1.size)
  obtain ⟨c0, c1, c2, c3, c4, c5, c6, c7, c8, c9⟩ := r2.c10
  have z2 := r2.f
  go_wp2_with fail
  obtain ⟨k1, k2, k3, k4⟩ := set10 r2 (.int .i64 0) (.int .i64 0) (.int .i64 0) (.int .i64 0) (.bool true) (.int .i64 8) (.int .i64 0) (.int .u64 0) (.string ⟨#[]⟩) (.slice (some ⟨w.heap.size + 1 + 1, 0, none⟩) 1 1) rfl
  have KF := B2.trans (k4.mono (by omega))
  obtain ⟨q0, q1, q2, q3, q4, q5, q6, q7, q8, q9⟩ := k1.c10
  refine bodyPost_ret (v := .agg (rcs 0 0 0 0 true 8 0 0 ⟨#[]⟩ (some ⟨w.heap.size + 1 + 1, 0, none⟩) 1 1)) ?_ rfl ⟨8, 0, 0, ⟨#[]⟩, some ⟨w.heap.size + 1 + 1, 0, none⟩, 1, 1, rfl, ?hz, KF⟩
  case hz =>
    have N2 : Bk _ (w.heap.size + 1 + 1) #[.int .i64 k, .int .i64 i, .int .u64 u, .string s, .slice a n c] 25 := (k3 (w.heap.size + 1 + 1) (by omega)).trans (N1.step b2)
    exact rz_of_cells k i u s a n c (rz_below HD.out KF HR.out) (.inr ⟨by omega, N2.lt⟩) N2
  simp [results, Tryz.results53, go_sem, q0, q1, q2, q3, q4, q5, q6, q7, q8, q9]

set_option maxRecDepth 100000 in
set_option maxHeartbeats 1000000 in
theorem list_no (tp : ByteArray) (k i u : Int) (s : ByteArray) (a : Option Addr) (n c : Nat) {m : Nat} (t : Dt.Tr (m + 1)) (w : World) (D : Nat → Prop) (hD : ∀ g, D g → g < w.heap.size) (hr : Rz D w (m + 1) [.int .i64 k, .int .i64 i, .int .u64 u, .string s, .slice a n c] t) (hT : Dt.Tab14 w) (hv : Dt.vB _ (lsT t) = false) : Calls Tryz.prog 53 #[.string tp, .agg #[.int .i64 k, .int .i64 i, .int .u64 u, .string s, .slice a n c]] w (GR D (bad 14 0 0) w) := by
  have HR := Lib.hid hr
  have HD := Lib.hid hD
  have B1 : Below w.heap.size w (((w.alloc (.cells #[.int .i64 k, .int .i64 i, .int .u64 u, .string s, .slice a n c] 25)).alloc (.cells (rErr 0 0 0 0) 33)).alloc (.cells #[.int .i64 k, .int .i64 i, .int .u64 u, .string s, .slice a n c] 25)) := (below2 w _ _).trans ((below1 _ _).mono (by simp; omega))
  have R1 : Bk (((w.alloc (.cells #[.int .i64 k, .int .i64 i, .int .u64 u, .string s, .slice a n c] 25)).alloc (.cells (rErr 0 0 0 0) 33)).alloc (.cells #[.int .i64 k, .int .i64 i, .int .u64 u, .string s, .slice a n c] 25)) (w.heap.size + 1) (rErr 0 0 0 0) 33 := (Bk.new2 w _ _ _).alloc _
  have N1 : Bk (((w.alloc (.cells #[.int .i64 k, .int .i64 i, .int .u64 u, .string s, .slice a n c] 25)).alloc (.cells (rErr 0 0 0 0) 33)).alloc (.cells #[.int .i64 k, .int .i64 i, .int .u64 u, .string s, .slice a n c] 25)) (w.heap.size + 1 + 1) #[.int .i64 k, .int .i64 i, .int .u64 u, .string s, .slice a n c] 25 := by
    have := Bk.new ((w.alloc (.cells #[.int .i64 k, .int .i64 i, .int .u64 u, .string s, .slice a n c] 25)).alloc (.cells (rErr 0 0 0 0) 33)) #[.int .i64 k, .int .i64 i, .int .u64 u, .string s, .slice a n c] 25
    rwa [World.size_alloc, World.size_alloc] at this
  have HA := Lib.hid (around_no 8 0 0 ⟨#[]⟩ (some ⟨w.heap.size + 1 + 1, 0, none⟩) 1 1 (lsT t) _ (Rz.rep _ _ _ (rz_of_cells k i u s a n c (rz_below hD B1 hr) (.inr ⟨by omega, N1.lt⟩) N1)) (hT.below B1) hv)
  clear hr hD hT hv
  go_enter Tryz.func53, Tryz.ntmps53
  go_wp2_with fail
  refine HA.out.mono ?_
  rintro e w2 ⟨rfl, b2⟩
  have r2 := R1.step b2
  have B2 := B1.trans (b2.mono B1.size)
  obtain ⟨c0, c1, c2, c3, c4, c5, c6, c7, c8, c9⟩ := r2.c10
  have z2 := r2.f
  go_wp2_with fail
  obtain ⟨k1, k2, k3, k4⟩ := set10 r2 (.int .i64 14) (.int .i64 0) (.int .i64 0) (.int .i64 0) (.bool false) (.int .i64 0) (.int .i64 0) (.int .u64 0) (.string ⟨#[]⟩) (.slice none 0 0) rfl
  have KF := B2.trans (k4.mono (by omega))
  obtain ⟨q0, q1, q2, q3, q4, q5, q6, q7, q8, q9⟩ := k1.c10
  refine bodyPost_ret (v := .agg (rcs 14 0 0 0 false 0 0 0 ⟨#[]⟩ none 0 0)) ?_ rfl (gr_bad ⟨rfl, KF⟩)
  simp [results, Tryz.results53, go_sem, q0, q1, q2, q3, q4, q5, q6, q7, q8, q9]

set_option maxRecDepth 100000 in
set_option maxHeartbeats 1000000 in
theorem pair_yes (tp : ByteArray) (htp : tp.size ≤ maxLen) (k i u : Int) (s : ByteArray) (a : Option Addr) (n c : Nat) {m : Nat} (t : Dt.Tr (m + 1)) (w : World) (D : Nat → Prop) (hD : ∀ g, D g → g < w.heap.size) (hr : Rz D w (m + 1) [.int .i64 k, .int .i64 i, .int .u64 u, .string s, .slice a n c] t) (hT : Dt.Tab14 w) (hv : Dt.vB _ (prT tp t) = true) : Calls Tryz.prog 63 #[.string tp, .agg #[.int .i64 k, .int .i64 i, .int .u64 u, .string s, .slice a n c]] w (GR D (good (prT tp t)) w) := by
  have HR := Lib.hid hr
  have HD := Lib.hid hD
  have B1 : Below w.heap.size w (((w.alloc (.cells #[.int .i64 k, .int .i64 i, .int .u64 u, .string s, .slice a n c] 25)).alloc (.cells (rErr 0 0 0 0) 33)).alloc (.cells (CS10 tp k i u s a n c) 25)) := (below2 w _ _).trans ((below1 _ _).mono (by simp; omega))
  have R1 : Bk (((w.alloc (.cells #[.int .i64 k, .int .i64 i, .int .u64 u, .string s, .slice a n c] 25)).alloc (.cells (rErr 0 0 0 0) 33)).alloc (.cells (CS10 tp k i u s a n c) 25)) (w.heap.size + 1) (rErr 0 0 0 0) 33 := (Bk.new2 w _ _ _).alloc _
  have N1 : Bk (((w.alloc (.cells #[.int .i64 k, .int .i64 i, .int .u64 u, .string s, .slice a n c] 25)).alloc (.cells (rErr 0 0 0 0) 33)).alloc (.cells (CS10 tp k i u s a n c) 25)) (w.heap.size + 1 + 1) (CS10 tp k i u s a n c) 25 := by
    have := Bk.new ((w.alloc (.cells #[.int .i64 k, .int .i64 i, .int .u64 u, .string s, .slice a n c] 25)).alloc (.cells (rErr 0 0 0 0) 33)) (CS10 tp k i u s a n c) 25
    rwa [World.size_alloc, World.size_alloc] at this
  have HA := Lib.hid (around_yes 9 0 0 ⟨#[]⟩ (some ⟨w.heap.size + 1 + 1, 0, none⟩) 2 2 (prT tp t) _ (Rz.rep _ _ _ (rz_of_pair tp htp k i u s a n c (rz_below hD B1 hr) (.inr ⟨by omega, N1.lt⟩) N1)) (hT.below B1) hv)
  clear hr hD hT hv
  go_enter Tryz.func63, Tryz.ntmps63
  go_wp2_with fail
  refine HA.out.mono ?_
  rintro e w2 ⟨rfl, b2⟩
  have r2 := R1.step b2
  have B2 := B1.trans (b2.mono B1.size)
  obtain ⟨c0, c1, c2, c3, c4, c5, c6, c7, c8, c9⟩ := r2.c10
  have z2 := r2.f
  go_wp2_with fail
  obtain ⟨k1, k2, k3, k4⟩ := set10 r2 (.int .i64 0) (.int .i64 0) (.int .i64 0) (.int .i64 0) (.bool true) (.int .i64 9) (.int .i64 0) (.int .u64 0) (.string ⟨#[]⟩) (.slice (some ⟨w.heap.size + 1 + 1, 0, none⟩) 2 2) rfl
  have KF := B2.trans (k4.mono (by omega))
  obtain ⟨q0, q1, q2, q3, q4, q5, q6, q7, q8, q9⟩ := k1.c10
  refine bodyPost_ret (v := .agg (rcs 0 0 0 0 true 9 0 0 ⟨#[]⟩ (some ⟨w.heap.size + 1 + 1, 0, none⟩) 2 2)) ?_ rfl ⟨9, 0, 0, ⟨#[]⟩, some ⟨w.heap.size + 1 + 1, 0, none⟩, 2, 2, rfl, ?hz, KF⟩
  case hz =>
    have N2 : Bk _ (w.heap.size + 1 + 1) (CS10 tp k i u s a n c) 25 := (k3 (w.heap.size + 1 + 1) (by omega)).trans (N1.step b2)
    exact rz_of_pair tp htp k i u s a n c (rz_below HD.out KF HR.out) (.inr ⟨by omega, N2.lt⟩) N2
  simp [results, Tryz.results63, go_sem, q0, q1, q2, q3, q4, q5, q6, q7, q8, q9]

set_option maxRecDepth 100000 in
set_option maxHeartbeats 1000000 in
theorem pair_no (tp : ByteArray) (htp : tp.size ≤ maxLen) (k i u : Int) (s : ByteArray) (a : Option Addr) (n c : Nat) {m : Nat} (t : Dt.Tr (m + 1)) (w : World) (D : Nat → Prop) (hD : ∀ g, D g → g < w.heap.size) (hr : Rz D w (m + 1) [.int .i64 k, .int .i64 i, .int .u64 u, .string s, .slice a n c] t) (hT : Dt.Tab14 w) (hv : Dt.vB _ (prT tp t) = false) : Calls Tryz.prog 63 #[.string tp, .agg #[.int .i64 k, .int .i64 i, .int .u64 u, .string s, .slice a n c]] w (GR D (bad 14 0 0) w) := by
  have HR := Lib.hid hr
  have HD := Lib.hid hD
  have B1 : Below w.heap.size w (((w.alloc (.cells #[.int .i64 k, .int .i64 i, .int .u64 u, .string s, .slice a n c] 25)).alloc (.cells (rErr 0 0 0 0) 33)).alloc (.cells (CS10 tp k i u s a n c) 25)) := (below2 w _ _).trans ((below1 _ _).mono (by simp; omega))
  have R1 : Bk (((w.alloc (.cells #[.int .i64 k, .int .i64 i, .int .u64 u, .string s, .slice a n c] 25)).alloc (.cells (rErr 0 0 0 0) 33)).alloc (.cells (CS10 tp k i u s a n c) 25)) (w.heap.size + 1) (rErr 0 0 0 0) 33 := (Bk.new2 w _ _ _).alloc _
  have N1 : Bk (((w.alloc (.cells #[.int .i64 k, .int .i64 i, .int .u64 u, .string s, .slice a n c] 25)).alloc (.cells (rErr 0 0 0 0) 33)).alloc (.cells (CS10 tp k i u s a n c) 25)) (w.heap.size + 1 + 1) (CS10 tp k i u s a n c) 25 := by
    have := Bk.new ((w.alloc (.cells #[.int .i64 k, .int .i64 i, .int .u64 u, .string s, .slice a n c] 25)).alloc (.cells (rErr 0 0 0 0) 33)) (CS10 tp k i u s a n c) 25
    rwa [World.size_alloc, World.size_alloc] at this
  have HA := Lib.hid (around_no 9 0 0 ⟨#[]⟩ (some ⟨w.heap.size + 1 + 1, 0, none⟩) 2 2 (prT tp t) _ (Rz.rep _ _ _ (rz_of_pair tp htp k i u s a n c (rz_below hD B1 hr) (.inr ⟨by omega, N1.lt⟩) N1)) (hT.below B1) hv)
  clear hr hD hT hv
  go_enter Tryz.func63, Tryz.ntmps63
  go_wp2_with fail
  refine HA.out.mono ?_
  rintro e w2 ⟨rfl, b2⟩
  have r2 := R1.step b2
  have B2 := B1.trans (b2.mono B1.size)
  obtain ⟨c0, c1, c2, c3, c4, c5, c6, c7, c8, c9⟩ := r2.c10
  have z2 := r2.f
  go_wp2_with fail
  obtain ⟨k1, k2, k3, k4⟩ := set10 r2 (.int .i64 14) (.int .i64 0) (.int .i64 0) (.int .i64 0) (.bool false) (.int .i64 0) (.int .i64 0) (.int .u64 0) (.string ⟨#[]⟩) (.slice none 0 0) rfl
  have KF := B2.trans (k4.mono (by omega))
  obtain ⟨q0, q1, q2, q3, q4, q5, q6, q7, q8, q9⟩ := k1.c10
  refine bodyPost_ret (v := .agg (rcs 14 0 0 0 false 0 0 0 ⟨#[]⟩ none 0 0)) ?_ rfl (gr_bad ⟨rfl, KF⟩)
  simp [results, Tryz.results63, go_sem, q0, q1, q2, q3, q4, q5, q6, q7, q8, q9]

end Go.Proofs.YtajagjcfmaggiaaGreatDoor
