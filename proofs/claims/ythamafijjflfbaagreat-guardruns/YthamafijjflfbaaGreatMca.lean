/- The document's answer to each act, by what its pieces come to; the conditions: the pieces. -/
import Derived.Test.YthamafijjflfbaaGreatMad
import Derived.Test.YthamafijjflfbaaGreatMbi
import Derived.Test.YthamafijjflfbaaGreatMbj
import Derived.Test.YthamafijjflfbaaGreatMbc
import Derived.Test.YthamafijjflfbaaGreatMaa
namespace Go.Proofs.YthamafijjflfbaaGreat
open Go.RowKit

set_option maxRecDepth 100000 in
set_option maxHeartbeats 1000000 in
theorem rt_give (ak ai au : Int) (az : ByteArray) (aa : Option Addr) (an ac : Nat) (bk bi bu : Int) (bs : ByteArray) (ba : Option Addr) (bn bc : Nat) (num : Int) (w : World) (H : Nat) (hH : w.heap.size + 2 ≤ H) (P : BodyP) (hP : St H P)
    (hM : ∀ wx, Below w.heap.size w wx → wx.heap.size = w.heap.size + 2 → Calls Tryz.prog 9 #[.agg #[.int .i64 ak, .int .i64 ai, .int .u64 au, .string az, .slice aa an ac]] wx fun e w' => ∃ k i u s a n c, e = .returned (.agg #[.int .i64 k, .int .i64 i, .int .u64 u, .string s, .slice a n c]) ∧ P k i u s a n c w' ∧ Below wx.heap.size wx w') :
    Calls Tryz.prog 12 #[.agg (acs 1 ak ai au az aa an ac bk bi bu bs ba bn bc num)] w fun e w' => ∃ k i u s a n c, e = .returned (.agg (rcs 0 0 0 0 true k i u s a n c)) ∧ P k i u s a n c w' ∧ Below w.heap.size w w' := by
  have HM := Lib.hid hM
  have hP' := Lib.hid hP
  clear hM hP
  have GV : Hid (∀ (k i b : Int) (s : ByteArray) (ad : Option Addr) (len cap : Nat) (w : World), Calls Tryz.prog 22 #[.agg #[.int .i64 k, .int .i64 i, .int .u64 b, .string s, .slice ad len cap]] w fun e w' => e = .returned (.agg (rcs 0 0 0 0 true k i b s ad len cap)) ∧ Below w.heap.size w w') := rgave_any
  have B0 := below2 w (.cells (acs 1 ak ai au az aa an ac bk bi bu bs ba bn bc num) 27) (.cells (rErr 0 0 0 0) 35)
  have R0 := Bk.new2 w (.cells (acs 1 ak ai au az aa an ac bk bi bu bs ba bn bc num) 27) (rErr 0 0 0 0) 35
  go_enter Tryz.func12, Tryz.ntmps12
  go_wp2_with fail
  refine (HM.out _ B0 (by simp)).mono ?_
  rintro e w1 ⟨k, i, u, s, a, n, c, rfl, p0, b1⟩
  have p1 := Lib.hid p0
  have B1 := B0.trans (b1.mono B0.size)
  have R1 := R0.step b1
  clear p0 b1 B0 R0
  go_wp2_with fail
  refine (GV.out k i u s a n c _).mono ?_
  rintro e w2 ⟨rfl, b2⟩
  have r2 := R1.step b2
  have B2 := B1.trans (b2.mono B1.size)
  have PP := Lib.hid (hP'.out.below p1.out b2)
  clear p1 R1 b2 B1
  obtain ⟨c0, c1, c2, c3, c4, c5, c6, c7, c8, c9⟩ := r2.c10
  have z2 := r2.f
  go_wp2_with fail
  obtain ⟨k1, k2, k3, k4⟩ := set10 r2 (.int .i64 0) (.int .i64 0) (.int .i64 0) (.int .i64 0) (.bool true) (.int .i64 k) (.int .i64 i) (.int .u64 u) (.string s) (.slice a n c) rfl
  have KP := Lib.hid (hP'.out _ _ _ _ _ _ _ w2 _ PP.out (Nat.le_of_eq k2.symm) fun g hg _ => k3 g (by omega))
  have KF := B2.trans (k4.mono (by omega))
  obtain ⟨q0, q1, q2, q3, q4, q5, q6, q7, q8, q9⟩ := k1.c10
  refine bodyPost_ret (v := .agg (rcs 0 0 0 0 true k i u s a n c)) ?_ rfl ⟨k, i, u, s, a, n, c, rfl, KP.out, KF⟩
  simp [results, Tryz.results12, go_sem, q0, q1, q2, q3, q4, q5, q6, q7, q8, q9]

set_option maxRecDepth 100000 in
set_option maxHeartbeats 1000000 in
theorem rt_kind (ak ai au : Int) (az : ByteArray) (aa : Option Addr) (an ac : Nat) (bk bi bu : Int) (bs : ByteArray) (ba : Option Addr) (bn bc : Nat) (num : Int) (w : World) (er pk pn : Int) (has : Bool) (H : Nat) (hH : w.heap.size + 2 ≤ H) (P : BodyP) (hP : St H P)
    (hM : ∀ wx, Below w.heap.size w wx → wx.heap.size = w.heap.size + 2 → Calls Tryz.prog 23 #[.agg #[.int .i64 ak, .int .i64 ai, .int .u64 au, .string az, .slice aa an ac], .int .i64 num] wx fun e w' => ∃ k i u s a n c, e = .returned (.agg (rcs er 0 pk pn has k i u s a n c)) ∧ P k i u s a n c w' ∧ Below wx.heap.size wx w') :
    Calls Tryz.prog 12 #[.agg (acs 2 ak ai au az aa an ac bk bi bu bs ba bn bc num)] w fun e w' => ∃ k i u s a n c, e = .returned (.agg (rcs er 0 pk pn has k i u s a n c)) ∧ P k i u s a n c w' ∧ Below w.heap.size w w' := by
  have HM := Lib.hid hM
  have hP' := Lib.hid hP
  clear hM hP
  have B0 := below2 w (.cells (acs 2 ak ai au az aa an ac bk bi bu bs ba bn bc num) 27) (.cells (rErr 0 0 0 0) 35)
  have R0 := Bk.new2 w (.cells (acs 2 ak ai au az aa an ac bk bi bu bs ba bn bc num) 27) (rErr 0 0 0 0) 35
  go_enter Tryz.func12, Tryz.ntmps12
  go_wp2_with fail
  refine (HM.out _ B0 (by simp)).mono ?_
  rintro e w1 ⟨k, i, u, s, a, n, c, rfl, p0, b1⟩
  have PP := Lib.hid p0
  have B2 := B0.trans (b1.mono B0.size)
  have r2 := R0.step b1
  clear p0 b1 B0 R0
  obtain ⟨c0, c1, c2, c3, c4, c5, c6, c7, c8, c9⟩ := r2.c10
  have z2 := r2.f
  go_wp2_with fail
  obtain ⟨k1, k2, k3, k4⟩ := set10 r2 (.int .i64 er) (.int .i64 0) (.int .i64 pk) (.int .i64 pn) (.bool has) (.int .i64 k) (.int .i64 i) (.int .u64 u) (.string s) (.slice a n c) rfl
  have KP := Lib.hid (hP'.out _ _ _ _ _ _ _ w1 _ PP.out (Nat.le_of_eq k2.symm) fun g hg _ => k3 g (by omega))
  have KF := B2.trans (k4.mono (by omega))
  obtain ⟨q0, q1, q2, q3, q4, q5, q6, q7, q8, q9⟩ := k1.c10
  refine bodyPost_ret (v := .agg (rcs er 0 pk pn has k i u s a n c)) ?_ rfl ⟨k, i, u, s, a, n, c, rfl, KP.out, KF⟩
  simp [results, Tryz.results12, go_sem, q0, q1, q2, q3, q4, q5, q6, q7, q8, q9]

set_option maxRecDepth 100000 in
set_option maxHeartbeats 1000000 in
theorem rt_face (ak ai au : Int) (az : ByteArray) (aa : Option Addr) (an ac : Nat) (bk bi bu : Int) (bs : ByteArray) (ba : Option Addr) (bn bc : Nat) (num : Int) (w : World) (er pk pn : Int) (has : Bool) (H : Nat) (hH : w.heap.size + 2 ≤ H) (P : BodyP) (hP : St H P)
    (hM : ∀ wx, Below w.heap.size w wx → wx.heap.size = w.heap.size + 2 → Calls Tryz.prog 24 #[.agg #[.int .i64 ak, .int .i64 ai, .int .u64 au, .string az, .slice aa an ac], .int .i64 num] wx fun e w' => ∃ k i u s a n c, e = .returned (.agg (rcs er 0 pk pn has k i u s a n c)) ∧ P k i u s a n c w' ∧ Below wx.heap.size wx w') :
    Calls Tryz.prog 12 #[.agg (acs 3 ak ai au az aa an ac bk bi bu bs ba bn bc num)] w fun e w' => ∃ k i u s a n c, e = .returned (.agg (rcs er 0 pk pn has k i u s a n c)) ∧ P k i u s a n c w' ∧ Below w.heap.size w w' := by
  have HM := Lib.hid hM
  have hP' := Lib.hid hP
  clear hM hP
  have B0 := below2 w (.cells (acs 3 ak ai au az aa an ac bk bi bu bs ba bn bc num) 27) (.cells (rErr 0 0 0 0) 35)
  have R0 := Bk.new2 w (.cells (acs 3 ak ai au az aa an ac bk bi bu bs ba bn bc num) 27) (rErr 0 0 0 0) 35
  go_enter Tryz.func12, Tryz.ntmps12
  go_wp2_with fail
  refine (HM.out _ B0 (by simp)).mono ?_
  rintro e w1 ⟨k, i, u, s, a, n, c, rfl, p0, b1⟩
  have PP := Lib.hid p0
  have B2 := B0.trans (b1.mono B0.size)
  have r2 := R0.step b1
  clear p0 b1 B0 R0
  obtain ⟨c0, c1, c2, c3, c4, c5, c6, c7, c8, c9⟩ := r2.c10
  have z2 := r2.f
  go_wp2_with fail
  obtain ⟨k1, k2, k3, k4⟩ := set10 r2 (.int .i64 er) (.int .i64 0) (.int .i64 pk) (.int .i64 pn) (.bool has) (.int .i64 k) (.int .i64 i) (.int .u64 u) (.string s) (.slice a n c) rfl
  have KP := Lib.hid (hP'.out _ _ _ _ _ _ _ w1 _ PP.out (Nat.le_of_eq k2.symm) fun g hg _ => k3 g (by omega))
  have KF := B2.trans (k4.mono (by omega))
  obtain ⟨q0, q1, q2, q3, q4, q5, q6, q7, q8, q9⟩ := k1.c10
  refine bodyPost_ret (v := .agg (rcs er 0 pk pn has k i u s a n c)) ?_ rfl ⟨k, i, u, s, a, n, c, rfl, KP.out, KF⟩
  simp [results, Tryz.results12, go_sem, q0, q1, q2, q3, q4, q5, q6, q7, q8, q9]

set_option maxRecDepth 100000 in
set_option maxHeartbeats 1000000 in
theorem rt_open (ak ai au : Int) (az : ByteArray) (aa : Option Addr) (an ac : Nat) (bk bi bu : Int) (bs : ByteArray) (ba : Option Addr) (bn bc : Nat) (num : Int) (w : World) (er pk pn : Int) (has : Bool) (H : Nat) (hH : w.heap.size + 2 ≤ H) (P : BodyP) (hP : St H P)
    (hM : ∀ wx, Below w.heap.size w wx → wx.heap.size = w.heap.size + 2 → Calls Tryz.prog 26 #[.agg #[.int .i64 ak, .int .i64 ai, .int .u64 au, .string az, .slice aa an ac]] wx fun e w' => ∃ k i u s a n c, e = .returned (.agg (rcs er 0 pk pn has k i u s a n c)) ∧ P k i u s a n c w' ∧ Below wx.heap.size wx w') :
    Calls Tryz.prog 12 #[.agg (acs 5 ak ai au az aa an ac bk bi bu bs ba bn bc num)] w fun e w' => ∃ k i u s a n c, e = .returned (.agg (rcs er 0 pk pn has k i u s a n c)) ∧ P k i u s a n c w' ∧ Below w.heap.size w w' := by
  have HM := Lib.hid hM
  have hP' := Lib.hid hP
  clear hM hP
  have B0 := below2 w (.cells (acs 5 ak ai au az aa an ac bk bi bu bs ba bn bc num) 27) (.cells (rErr 0 0 0 0) 35)
  have R0 := Bk.new2 w (.cells (acs 5 ak ai au az aa an ac bk bi bu bs ba bn bc num) 27) (rErr 0 0 0 0) 35
  go_enter Tryz.func12, Tryz.ntmps12
  go_wp2_with fail
  refine (HM.out _ B0 (by simp)).mono ?_
  rintro e w1 ⟨k, i, u, s, a, n, c, rfl, p0, b1⟩
  have PP := Lib.hid p0
  have B2 := B0.trans (b1.mono B0.size)
  have r2 := R0.step b1
  clear p0 b1 B0 R0
  obtain ⟨c0, c1, c2, c3, c4, c5, c6, c7, c8, c9⟩ := r2.c10
  have z2 := r2.f
  go_wp2_with fail
  obtain ⟨k1, k2, k3, k4⟩ := set10 r2 (.int .i64 er) (.int .i64 0) (.int .i64 pk) (.int .i64 pn) (.bool has) (.int .i64 k) (.int .i64 i) (.int .u64 u) (.string s) (.slice a n c) rfl
  have KP := Lib.hid (hP'.out _ _ _ _ _ _ _ w1 _ PP.out (Nat.le_of_eq k2.symm) fun g hg _ => k3 g (by omega))
  have KF := B2.trans (k4.mono (by omega))
  obtain ⟨q0, q1, q2, q3, q4, q5, q6, q7, q8, q9⟩ := k1.c10
  refine bodyPost_ret (v := .agg (rcs er 0 pk pn has k i u s a n c)) ?_ rfl ⟨k, i, u, s, a, n, c, rfl, KP.out, KF⟩
  simp [results, Tryz.results12, go_sem, q0, q1, q2, q3, q4, q5, q6, q7, q8, q9]

set_option maxRecDepth 100000 in
set_option maxHeartbeats 1000000 in
theorem rt_own (ak ai au : Int) (az : ByteArray) (aa : Option Addr) (an ac : Nat) (bk bi bu : Int) (bs : ByteArray) (ba : Option Addr) (bn bc : Nat) (num : Int) (w : World) :
    Calls Tryz.prog 12 #[.agg (acs 8 ak ai au az aa an ac bk bi bu bs ba bn bc num)] w fun e w' => e = .returned (.agg (rErr 110 0 1 num)) ∧ Below w.heap.size w w' := by
  have RP := Lib.hid rpan_any
  have B0 := below2 w (.cells (acs 8 ak ai au az aa an ac bk bi bu bs ba bn bc num) 27) (.cells (rErr 0 0 0 0) 35)
  have R0 := Bk.new2 w (.cells (acs 8 ak ai au az aa an ac bk bi bu bs ba bn bc num) 27) (rErr 0 0 0 0) 35
  go_enter Tryz.func12, Tryz.ntmps12
  go_wp2_with fail
  refine (RP.out _ _ _).mono ?_
  rintro e w9 ⟨rfl, b9⟩
  have B2 := B0.trans (b9.mono B0.size)
  have r2 := R0.step b9
  clear b9 B0 R0
  obtain ⟨c0, c1, c2, c3, c4, c5, c6, c7, c8, c9⟩ := r2.c10
  have z2 := r2.f
  go_wp2_with fail
  obtain ⟨k1, k2, k3, k4⟩ := set10 r2 (.int .i64 110) (.int .i64 0) (.int .i64 1) (.int .i64 num) (.bool false) (.int .i64 0) (.int .i64 0) (.int .u64 0) (.string ⟨#[]⟩) (.slice none 0 0) rfl
  have KF := B2.trans (k4.mono (by omega))
  obtain ⟨q0, q1, q2, q3, q4, q5, q6, q7, q8, q9⟩ := k1.c10
  refine bodyPost_ret (v := .agg (rErr 110 0 1 num)) ?_ rfl ⟨rfl, KF⟩
  simp [results, Tryz.results12, go_sem, q0, q1, q2, q3, q4, q5, q6, q7, q8, q9]

set_option maxRecDepth 100000 in
set_option maxHeartbeats 1000000 in
theorem rt_error (ak ai au : Int) (az : ByteArray) (aa : Option Addr) (an ac : Nat) (bk bi bu : Int) (bs : ByteArray) (ba : Option Addr) (bn bc : Nat) (num : Int) (w : World) :
    Calls Tryz.prog 12 #[.agg (acs 9 ak ai au az aa an ac bk bi bu bs ba bn bc num)] w fun e w' => e = .returned (.agg (rErr 110 0 7 num)) ∧ Below w.heap.size w w' := by
  have RP := Lib.hid rpan_any
  have B0 := below2 w (.cells (acs 9 ak ai au az aa an ac bk bi bu bs ba bn bc num) 27) (.cells (rErr 0 0 0 0) 35)
  have R0 := Bk.new2 w (.cells (acs 9 ak ai au az aa an ac bk bi bu bs ba bn bc num) 27) (rErr 0 0 0 0) 35
  go_enter Tryz.func12, Tryz.ntmps12
  go_wp2_with fail
  refine (RP.out _ _ _).mono ?_
  rintro e w9 ⟨rfl, b9⟩
  have B2 := B0.trans (b9.mono B0.size)
  have r2 := R0.step b9
  clear b9 B0 R0
  obtain ⟨c0, c1, c2, c3, c4, c5, c6, c7, c8, c9⟩ := r2.c10
  have z2 := r2.f
  go_wp2_with fail
  obtain ⟨k1, k2, k3, k4⟩ := set10 r2 (.int .i64 110) (.int .i64 0) (.int .i64 7) (.int .i64 num) (.bool false) (.int .i64 0) (.int .i64 0) (.int .u64 0) (.string ⟨#[]⟩) (.slice none 0 0) rfl
  have KF := B2.trans (k4.mono (by omega))
  obtain ⟨q0, q1, q2, q3, q4, q5, q6, q7, q8, q9⟩ := k1.c10
  refine bodyPost_ret (v := .agg (rErr 110 0 7 num)) ?_ rfl ⟨rfl, KF⟩
  simp [results, Tryz.results12, go_sem, q0, q1, q2, q3, q4, q5, q6, q7, q8, q9]

set_option maxRecDepth 100000 in
set_option maxHeartbeats 1000000 in
theorem rt_index_bad (ak ai au : Int) (az : ByteArray) (aa : Option Addr) (an ac : Nat) (bk bi bu : Int) (bs : ByteArray) (ba : Option Addr) (bn bc : Nat) (num : Int) (w : World) (hk : (ak == 8) = false) :
    Calls Tryz.prog 12 #[.agg (acs 4 ak ai au az aa an ac bk bi bu bs ba bn bc num)] w fun e w' => e = .returned (.agg (rErr 110 0 2 ak)) ∧ Below w.heap.size w w' := by
  have RP := Lib.hid rpan_any
  have B0 := below2 w (.cells (acs 4 ak ai au az aa an ac bk bi bu bs ba bn bc num) 27) (.cells (rErr 0 0 0 0) 35)
  have R0 := Bk.new2 w (.cells (acs 4 ak ai au az aa an ac bk bi bu bs ba bn bc num) 27) (rErr 0 0 0 0) 35
  go_enter Tryz.func12, Tryz.ntmps12
  go_wp2_with fail
  refine (RP.out _ _ _).mono ?_
  rintro e w9 ⟨rfl, b9⟩
  have B2 := B0.trans (b9.mono B0.size)
  have r2 := R0.step b9
  clear b9 B0 R0
  obtain ⟨c0, c1, c2, c3, c4, c5, c6, c7, c8, c9⟩ := r2.c10
  have z2 := r2.f
  go_wp2_with fail
  obtain ⟨k1, k2, k3, k4⟩ := set10 r2 (.int .i64 110) (.int .i64 0) (.int .i64 2) (.int .i64 ak) (.bool false) (.int .i64 0) (.int .i64 0) (.int .u64 0) (.string ⟨#[]⟩) (.slice none 0 0) rfl
  have KF := B2.trans (k4.mono (by omega))
  obtain ⟨q0, q1, q2, q3, q4, q5, q6, q7, q8, q9⟩ := k1.c10
  refine bodyPost_ret (v := .agg (rErr 110 0 2 ak)) ?_ rfl ⟨rfl, KF⟩
  simp [results, Tryz.results12, go_sem, q0, q1, q2, q3, q4, q5, q6, q7, q8, q9]

set_option maxRecDepth 100000 in
set_option maxHeartbeats 1000000 in
theorem rt_index_lo (ak ai au : Int) (az : ByteArray) (aa : Option Addr) (an ac : Nat) (bk bi bu : Int) (bs : ByteArray) (ba : Option Addr) (bn bc : Nat) (num : Int) (w : World) (hk : (ak == 8) = true) (hn : decide (num < 0) = true) :
    Calls Tryz.prog 12 #[.agg (acs 4 ak ai au az aa an ac bk bi bu bs ba bn bc num)] w fun e w' => e = .returned (.agg (rErr 110 0 4 num)) ∧ Below w.heap.size w w' := by
  have RP := Lib.hid rpan_any
  have B0 := below2 w (.cells (acs 4 ak ai au az aa an ac bk bi bu bs ba bn bc num) 27) (.cells (rErr 0 0 0 0) 35)
  have R0 := Bk.new2 w (.cells (acs 4 ak ai au az aa an ac bk bi bu bs ba bn bc num) 27) (rErr 0 0 0 0) 35
  go_enter Tryz.func12, Tryz.ntmps12
  go_wp2_with fail
  refine (RP.out _ _ _).mono ?_
  rintro e w9 ⟨rfl, b9⟩
  have B2 := B0.trans (b9.mono B0.size)
  have r2 := R0.step b9
  clear b9 B0 R0
  obtain ⟨c0, c1, c2, c3, c4, c5, c6, c7, c8, c9⟩ := r2.c10
  have z2 := r2.f
  go_wp2_with fail
  obtain ⟨k1, k2, k3, k4⟩ := set10 r2 (.int .i64 110) (.int .i64 0) (.int .i64 4) (.int .i64 num) (.bool false) (.int .i64 0) (.int .i64 0) (.int .u64 0) (.string ⟨#[]⟩) (.slice none 0 0) rfl
  have KF := B2.trans (k4.mono (by omega))
  obtain ⟨q0, q1, q2, q3, q4, q5, q6, q7, q8, q9⟩ := k1.c10
  refine bodyPost_ret (v := .agg (rErr 110 0 4 num)) ?_ rfl ⟨rfl, KF⟩
  simp [results, Tryz.results12, go_sem, q0, q1, q2, q3, q4, q5, q6, q7, q8, q9]

set_option maxRecDepth 100000 in
set_option maxHeartbeats 1000000 in
theorem rt_index_hi (ak ai au : Int) (az : ByteArray) (aa : Option Addr) (an ac : Nat) (bk bi bu : Int) (bs : ByteArray) (ba : Option Addr) (bn bc : Nat) (num : Int) (w : World) (hk : (ak == 8) = true) (hn : decide (num < 0) = false) (hm : decide ((an : Int) ≤ num) = true) :
    Calls Tryz.prog 12 #[.agg (acs 4 ak ai au az aa an ac bk bi bu bs ba bn bc num)] w fun e w' => e = .returned (.agg (rErr 110 0 4 num)) ∧ Below w.heap.size w w' := by
  have RP := Lib.hid rpan_any
  have B0 := below2 w (.cells (acs 4 ak ai au az aa an ac bk bi bu bs ba bn bc num) 27) (.cells (rErr 0 0 0 0) 35)
  have R0 := Bk.new2 w (.cells (acs 4 ak ai au az aa an ac bk bi bu bs ba bn bc num) 27) (rErr 0 0 0 0) 35
  go_enter Tryz.func12, Tryz.ntmps12
  go_wp2_with fail
  refine (RP.out _ _ _).mono ?_
  rintro e w9 ⟨rfl, b9⟩
  have B2 := B0.trans (b9.mono B0.size)
  have r2 := R0.step b9
  clear b9 B0 R0
  obtain ⟨c0, c1, c2, c3, c4, c5, c6, c7, c8, c9⟩ := r2.c10
  have z2 := r2.f
  go_wp2_with fail
  obtain ⟨k1, k2, k3, k4⟩ := set10 r2 (.int .i64 110) (.int .i64 0) (.int .i64 4) (.int .i64 num) (.bool false) (.int .i64 0) (.int .i64 0) (.int .u64 0) (.string ⟨#[]⟩) (.slice none 0 0) rfl
  have KF := B2.trans (k4.mono (by omega))
  obtain ⟨q0, q1, q2, q3, q4, q5, q6, q7, q8, q9⟩ := k1.c10
  refine bodyPost_ret (v := .agg (rErr 110 0 4 num)) ?_ rfl ⟨rfl, KF⟩
  simp [results, Tryz.results12, go_sem, q0, q1, q2, q3, q4, q5, q6, q7, q8, q9]

set_option maxRecDepth 100000 in
set_option maxHeartbeats 1000000 in
theorem rt_divide_a (ak ai au : Int) (az : ByteArray) (aa : Option Addr) (an ac : Nat) (bk bi bu : Int) (bs : ByteArray) (ba : Option Addr) (bn bc : Nat) (num : Int) (w : World) (hk : (ak == 1) = false) :
    Calls Tryz.prog 12 #[.agg (acs 7 ak ai au az aa an ac bk bi bu bs ba bn bc num)] w fun e w' => e = .returned (.agg (rErr 110 0 2 ak)) ∧ Below w.heap.size w w' := by
  have RP := Lib.hid rpan_any
  have B0 := below2 w (.cells (acs 7 ak ai au az aa an ac bk bi bu bs ba bn bc num) 27) (.cells (rErr 0 0 0 0) 35)
  have R0 := Bk.new2 w (.cells (acs 7 ak ai au az aa an ac bk bi bu bs ba bn bc num) 27) (rErr 0 0 0 0) 35
  go_enter Tryz.func12, Tryz.ntmps12
  go_wp2_with fail
  refine (RP.out _ _ _).mono ?_
  rintro e w9 ⟨rfl, b9⟩
  have B2 := B0.trans (b9.mono B0.size)
  have r2 := R0.step b9
  clear b9 B0 R0
  obtain ⟨c0, c1, c2, c3, c4, c5, c6, c7, c8, c9⟩ := r2.c10
  have z2 := r2.f
  go_wp2_with fail
  obtain ⟨k1, k2, k3, k4⟩ := set10 r2 (.int .i64 110) (.int .i64 0) (.int .i64 2) (.int .i64 ak) (.bool false) (.int .i64 0) (.int .i64 0) (.int .u64 0) (.string ⟨#[]⟩) (.slice none 0 0) rfl
  have KF := B2.trans (k4.mono (by omega))
  obtain ⟨q0, q1, q2, q3, q4, q5, q6, q7, q8, q9⟩ := k1.c10
  refine bodyPost_ret (v := .agg (rErr 110 0 2 ak)) ?_ rfl ⟨rfl, KF⟩
  simp [results, Tryz.results12, go_sem, q0, q1, q2, q3, q4, q5, q6, q7, q8, q9]

set_option maxRecDepth 100000 in
set_option maxHeartbeats 1000000 in
theorem rt_divide_b (ak ai au : Int) (az : ByteArray) (aa : Option Addr) (an ac : Nat) (bk bi bu : Int) (bs : ByteArray) (ba : Option Addr) (bn bc : Nat) (num : Int) (w : World) (hk : (ak == 1) = true) (hk' : (bk == 1) = false) :
    Calls Tryz.prog 12 #[.agg (acs 7 ak ai au az aa an ac bk bi bu bs ba bn bc num)] w fun e w' => e = .returned (.agg (rErr 110 0 2 bk)) ∧ Below w.heap.size w w' := by
  have RP := Lib.hid rpan_any
  have B0 := below2 w (.cells (acs 7 ak ai au az aa an ac bk bi bu bs ba bn bc num) 27) (.cells (rErr 0 0 0 0) 35)
  have R0 := Bk.new2 w (.cells (acs 7 ak ai au az aa an ac bk bi bu bs ba bn bc num) 27) (rErr 0 0 0 0) 35
  go_enter Tryz.func12, Tryz.ntmps12
  go_wp2_with fail
  refine (RP.out _ _ _).mono ?_
  rintro e w9 ⟨rfl, b9⟩
  have B2 := B0.trans (b9.mono B0.size)
  have r2 := R0.step b9
  clear b9 B0 R0
  obtain ⟨c0, c1, c2, c3, c4, c5, c6, c7, c8, c9⟩ := r2.c10
  have z2 := r2.f
  go_wp2_with fail
  obtain ⟨k1, k2, k3, k4⟩ := set10 r2 (.int .i64 110) (.int .i64 0) (.int .i64 2) (.int .i64 bk) (.bool false) (.int .i64 0) (.int .i64 0) (.int .u64 0) (.string ⟨#[]⟩) (.slice none 0 0) rfl
  have KF := B2.trans (k4.mono (by omega))
  obtain ⟨q0, q1, q2, q3, q4, q5, q6, q7, q8, q9⟩ := k1.c10
  refine bodyPost_ret (v := .agg (rErr 110 0 2 bk)) ?_ rfl ⟨rfl, KF⟩
  simp [results, Tryz.results12, go_sem, q0, q1, q2, q3, q4, q5, q6, q7, q8, q9]

set_option maxRecDepth 100000 in
set_option maxHeartbeats 1000000 in
theorem rt_divide_zero (ak ai au : Int) (az : ByteArray) (aa : Option Addr) (an ac : Nat) (bk bi bu : Int) (bs : ByteArray) (ba : Option Addr) (bn bc : Nat) (num : Int) (w : World) (hk : (ak == 1) = true) (hk' : (bk == 1) = true) (hz : (bi == 0) = true) :
    Calls Tryz.prog 12 #[.agg (acs 7 ak ai au az aa an ac bk bi bu bs ba bn bc num)] w fun e w' => e = .returned (.agg (rErr 110 0 6 0)) ∧ Below w.heap.size w w' := by
  have RP := Lib.hid rpan_any
  have B0 := below2 w (.cells (acs 7 ak ai au az aa an ac bk bi bu bs ba bn bc num) 27) (.cells (rErr 0 0 0 0) 35)
  have R0 := Bk.new2 w (.cells (acs 7 ak ai au az aa an ac bk bi bu bs ba bn bc num) 27) (rErr 0 0 0 0) 35
  go_enter Tryz.func12, Tryz.ntmps12
  go_wp2_with fail
  refine (RP.out _ _ _).mono ?_
  rintro e w9 ⟨rfl, b9⟩
  have B2 := B0.trans (b9.mono B0.size)
  have r2 := R0.step b9
  clear b9 B0 R0
  obtain ⟨c0, c1, c2, c3, c4, c5, c6, c7, c8, c9⟩ := r2.c10
  have z2 := r2.f
  go_wp2_with fail
  obtain ⟨k1, k2, k3, k4⟩ := set10 r2 (.int .i64 110) (.int .i64 0) (.int .i64 6) (.int .i64 0) (.bool false) (.int .i64 0) (.int .i64 0) (.int .u64 0) (.string ⟨#[]⟩) (.slice none 0 0) rfl
  have KF := B2.trans (k4.mono (by omega))
  obtain ⟨q0, q1, q2, q3, q4, q5, q6, q7, q8, q9⟩ := k1.c10
  refine bodyPost_ret (v := .agg (rErr 110 0 6 0)) ?_ rfl ⟨rfl, KF⟩
  simp [results, Tryz.results12, go_sem, q0, q1, q2, q3, q4, q5, q6, q7, q8, q9]

set_option maxRecDepth 100000 in
set_option maxHeartbeats 1000000 in
theorem rt_compare_no (ak ai au : Int) (az : ByteArray) (aa : Option Addr) (an ac : Nat) (bk bi bu : Int) (bs : ByteArray) (ba : Option Addr) (bn bc : Nat) (num : Int) (w : World) (res : Bool) (code : Int) (hc : (code == 0) = false) (hq : ∀ wx, Below w.heap.size w wx → Calls Tryz.prog 27 #[.agg #[.int .i64 ak, .int .i64 ai, .int .u64 au, .string az, .slice aa an ac], .agg #[.int .i64 bk, .int .i64 bi, .int .u64 bu, .string bs, .slice ba bn bc]] wx fun e w' => e = .returned (.tuple #[.bool res, .int .i64 code]) ∧ Below wx.heap.size wx w') :
    Calls Tryz.prog 12 #[.agg (acs 6 ak ai au az aa an ac bk bi bu bs ba bn bc num)] w fun e w' => e = .returned (.agg (rErr 110 0 5 0)) ∧ Below w.heap.size w w' := by
  have RP := Lib.hid rpan_any
  have HQ := Lib.hid hq
  clear hq
  have B0 := below2 w (.cells (acs 6 ak ai au az aa an ac bk bi bu bs ba bn bc num) 27) (.cells (rErr 0 0 0 0) 35)
  have R0 := Bk.new2 w (.cells (acs 6 ak ai au az aa an ac bk bi bu bs ba bn bc num) 27) (rErr 0 0 0 0) 35
  go_enter Tryz.func12, Tryz.ntmps12
  go_wp2_with fail
  refine (HQ.out _ B0).mono ?_
  rintro e w1 ⟨rfl, bs⟩
  have B0 := B0.trans (bs.mono B0.size)
  have R0 := R0.step bs
  clear bs
  go_wp2_with fail
  refine (RP.out _ _ _).mono ?_
  rintro e w9 ⟨rfl, b9⟩
  have B2 := B0.trans (b9.mono B0.size)
  have r2 := R0.step b9
  clear b9 B0 R0
  obtain ⟨c0, c1, c2, c3, c4, c5, c6, c7, c8, c9⟩ := r2.c10
  have z2 := r2.f
  go_wp2_with fail
  obtain ⟨k1, k2, k3, k4⟩ := set10 r2 (.int .i64 110) (.int .i64 0) (.int .i64 5) (.int .i64 0) (.bool false) (.int .i64 0) (.int .i64 0) (.int .u64 0) (.string ⟨#[]⟩) (.slice none 0 0) rfl
  have KF := B2.trans (k4.mono (by omega))
  obtain ⟨q0, q1, q2, q3, q4, q5, q6, q7, q8, q9⟩ := k1.c10
  refine bodyPost_ret (v := .agg (rErr 110 0 5 0)) ?_ rfl ⟨rfl, KF⟩
  simp [results, Tryz.results12, go_sem, q0, q1, q2, q3, q4, q5, q6, q7, q8, q9]

set_option maxRecDepth 100000 in
set_option maxHeartbeats 1000000 in
theorem rt_compare_t (ak ai au : Int) (az : ByteArray) (aa : Option Addr) (an ac : Nat) (bk bi bu : Int) (bs : ByteArray) (ba : Option Addr) (bn bc : Nat) (num : Int) (w : World) (hq : ∀ wx, Below w.heap.size w wx → Calls Tryz.prog 27 #[.agg #[.int .i64 ak, .int .i64 ai, .int .u64 au, .string az, .slice aa an ac], .agg #[.int .i64 bk, .int .i64 bi, .int .u64 bu, .string bs, .slice ba bn bc]] wx fun e w' => e = .returned (.tuple #[.bool true, .int .i64 0]) ∧ Below wx.heap.size wx w') :
    Calls Tryz.prog 12 #[.agg (acs 6 ak ai au az aa an ac bk bi bu bs ba bn bc num)] w fun e w' => e = .returned (.agg (rcs 0 0 0 0 true 6 1 0 ⟨#[]⟩ none 0 0)) ∧ Below w.heap.size w w' := by
  have RG := Lib.hid rgave_any
  have HQ := Lib.hid hq
  clear hq
  have B0 := below2 w (.cells (acs 6 ak ai au az aa an ac bk bi bu bs ba bn bc num) 27) (.cells (rErr 0 0 0 0) 35)
  have R0 := Bk.new2 w (.cells (acs 6 ak ai au az aa an ac bk bi bu bs ba bn bc num) 27) (rErr 0 0 0 0) 35
  go_enter Tryz.func12, Tryz.ntmps12
  go_wp2_with fail
  refine (HQ.out _ B0).mono ?_
  rintro e w1 ⟨rfl, bs⟩
  have B0 := B0.trans (bs.mono B0.size)
  have R0 := R0.step bs
  clear bs
  go_wp2_with fail
  refine (RG.out _ _ _ _ _ _ _ _).mono ?_
  rintro e w9 ⟨rfl, b9⟩
  have B2 := B0.trans (b9.mono B0.size)
  have r2 := R0.step b9
  clear b9 B0 R0
  obtain ⟨c0, c1, c2, c3, c4, c5, c6, c7, c8, c9⟩ := r2.c10
  have z2 := r2.f
  go_wp2_with fail
  obtain ⟨k1, k2, k3, k4⟩ := set10 r2 (.int .i64 0) (.int .i64 0) (.int .i64 0) (.int .i64 0) (.bool true) (.int .i64 6) (.int .i64 1) (.int .u64 0) (.string ⟨#[]⟩) (.slice none 0 0) rfl
  have KF := B2.trans (k4.mono (by omega))
  obtain ⟨q0, q1, q2, q3, q4, q5, q6, q7, q8, q9⟩ := k1.c10
  refine bodyPost_ret (v := .agg (rcs 0 0 0 0 true 6 1 0 ⟨#[]⟩ none 0 0)) ?_ rfl ⟨rfl, KF⟩
  simp [results, Tryz.results12, go_sem, q0, q1, q2, q3, q4, q5, q6, q7, q8, q9]

set_option maxRecDepth 100000 in
set_option maxHeartbeats 1000000 in
theorem rt_compare_f (ak ai au : Int) (az : ByteArray) (aa : Option Addr) (an ac : Nat) (bk bi bu : Int) (bs : ByteArray) (ba : Option Addr) (bn bc : Nat) (num : Int) (w : World) (hq : ∀ wx, Below w.heap.size w wx → Calls Tryz.prog 27 #[.agg #[.int .i64 ak, .int .i64 ai, .int .u64 au, .string az, .slice aa an ac], .agg #[.int .i64 bk, .int .i64 bi, .int .u64 bu, .string bs, .slice ba bn bc]] wx fun e w' => e = .returned (.tuple #[.bool false, .int .i64 0]) ∧ Below wx.heap.size wx w') :
    Calls Tryz.prog 12 #[.agg (acs 6 ak ai au az aa an ac bk bi bu bs ba bn bc num)] w fun e w' => e = .returned (.agg (rcs 0 0 0 0 true 6 0 0 ⟨#[]⟩ none 0 0)) ∧ Below w.heap.size w w' := by
  have RG := Lib.hid rgave_any
  have HQ := Lib.hid hq
  clear hq
  have B0 := below2 w (.cells (acs 6 ak ai au az aa an ac bk bi bu bs ba bn bc num) 27) (.cells (rErr 0 0 0 0) 35)
  have R0 := Bk.new2 w (.cells (acs 6 ak ai au az aa an ac bk bi bu bs ba bn bc num) 27) (rErr 0 0 0 0) 35
  go_enter Tryz.func12, Tryz.ntmps12
  go_wp2_with fail
  refine (HQ.out _ B0).mono ?_
  rintro e w1 ⟨rfl, bs⟩
  have B0 := B0.trans (bs.mono B0.size)
  have R0 := R0.step bs
  clear bs
  go_wp2_with fail
  refine (RG.out _ _ _ _ _ _ _ _).mono ?_
  rintro e w9 ⟨rfl, b9⟩
  have B2 := B0.trans (b9.mono B0.size)
  have r2 := R0.step b9
  clear b9 B0 R0
  obtain ⟨c0, c1, c2, c3, c4, c5, c6, c7, c8, c9⟩ := r2.c10
  have z2 := r2.f
  go_wp2_with fail
  obtain ⟨k1, k2, k3, k4⟩ := set10 r2 (.int .i64 0) (.int .i64 0) (.int .i64 0) (.int .i64 0) (.bool true) (.int .i64 6) (.int .i64 0) (.int .u64 0) (.string ⟨#[]⟩) (.slice none 0 0) rfl
  have KF := B2.trans (k4.mono (by omega))
  obtain ⟨q0, q1, q2, q3, q4, q5, q6, q7, q8, q9⟩ := k1.c10
  refine bodyPost_ret (v := .agg (rcs 0 0 0 0 true 6 0 0 ⟨#[]⟩ none 0 0)) ?_ rfl ⟨rfl, KF⟩
  simp [results, Tryz.results12, go_sem, q0, q1, q2, q3, q4, q5, q6, q7, q8, q9]

set_option maxRecDepth 100000 in
set_option maxHeartbeats 1000000 in
theorem rt_divide (ak ai au : Int) (az : ByteArray) (aa : Option Addr) (an ac : Nat) (bk bi bu : Int) (bs : ByteArray) (ba : Option Addr) (bn bc : Nat) (num : Int) (w : World) (hk : (ak == 1) = true) (hk' : (bk == 1) = true) (hz : bi ≠ 0) :
    Calls Tryz.prog 12 #[.agg (acs 7 ak ai au az aa an ac bk bi bu bs ba bn bc num)] w fun e w' => e = .returned (.agg (rcs 0 0 0 0 true 1 (quoI ai bi) 0 ⟨#[]⟩ none 0 0)) ∧ Below w.heap.size w w' := by
  have RG := Lib.hid rgave_any
  have QU : Hid (∀ w, Calls Tryz.prog 29 #[.int .i64 ai, .int .i64 bi] w fun e w' => e = .returned (.int .i64 (quoI ai bi)) ∧ w' = w) := fun w => rquo_any ai bi hz w
  have NU := Lib.hid rnum_any
  have hz' : (bi == 0) = false := by simpa using hz
  clear hz
  have B0 := below2 w (.cells (acs 7 ak ai au az aa an ac bk bi bu bs ba bn bc num) 27) (.cells (rErr 0 0 0 0) 35)
  have R0 := Bk.new2 w (.cells (acs 7 ak ai au az aa an ac bk bi bu bs ba bn bc num) 27) (rErr 0 0 0 0) 35
  go_enter Tryz.func12, Tryz.ntmps12
  go_wp2_with fail
  refine (QU.out _).mono ?_
  rintro e w1 ⟨rfl, rfl⟩
  go_wp2_with fail
  refine (NU.out _ _).mono ?_
  rintro e w2 ⟨rfl, bs⟩
  have B0 := B0.trans (bs.mono B0.size)
  have R0 := R0.step bs
  clear bs
  go_wp2_with fail
  refine (RG.out _ _ _ _ _ _ _ _).mono ?_
  rintro e w9 ⟨rfl, b9⟩
  have B2 := B0.trans (b9.mono B0.size)
  have r2 := R0.step b9
  clear b9 B0 R0
  obtain ⟨c0, c1, c2, c3, c4, c5, c6, c7, c8, c9⟩ := r2.c10
  have z2 := r2.f
  go_wp2_with fail
  obtain ⟨k1, k2, k3, k4⟩ := set10 r2 (.int .i64 0) (.int .i64 0) (.int .i64 0) (.int .i64 0) (.bool true) (.int .i64 1) (.int .i64 (quoI ai bi)) (.int .u64 0) (.string ⟨#[]⟩) (.slice none 0 0) rfl
  have KF := B2.trans (k4.mono (by omega))
  obtain ⟨q0, q1, q2, q3, q4, q5, q6, q7, q8, q9⟩ := k1.c10
  refine bodyPost_ret (v := .agg (rcs 0 0 0 0 true 1 (quoI ai bi) 0 ⟨#[]⟩ none 0 0)) ?_ rfl ⟨rfl, KF⟩
  simp [results, Tryz.results12, go_sem, q0, q1, q2, q3, q4, q5, q6, q7, q8, q9]

set_option maxRecDepth 100000 in
set_option maxHeartbeats 1000000 in
theorem rt_size (ak ai au : Int) (az : ByteArray) (aa : Option Addr) (an ac : Nat) (bk bi bu : Int) (bs : ByteArray) (ba : Option Addr) (bn bc : Nat) (num : Int) (w : World) (L C : Int) (hC : C = 0) (hl : ∀ wx, Below w.heap.size w wx → Calls Tryz.prog 30 #[.agg #[.int .i64 ak, .int .i64 ai, .int .u64 au, .string az, .slice aa an ac]] wx fun e w' => e = .returned (.tuple #[.int .i64 L, .int .i64 C]) ∧ Below wx.heap.size wx w') :
    Calls Tryz.prog 12 #[.agg (acs 10 ak ai au az aa an ac bk bi bu bs ba bn bc num)] w fun e w' => e = .returned (.agg (rcs 0 0 0 0 true 1 L 0 ⟨#[]⟩ none 0 0)) ∧ Below w.heap.size w w' := by
  have RG := Lib.hid rgave_any
  have NU := Lib.hid rnum_any
  subst hC
  have HL := Lib.hid hl
  clear hl
  have B0 := below2 w (.cells (acs 10 ak ai au az aa an ac bk bi bu bs ba bn bc num) 27) (.cells (rErr 0 0 0 0) 35)
  have R0 := Bk.new2 w (.cells (acs 10 ak ai au az aa an ac bk bi bu bs ba bn bc num) 27) (rErr 0 0 0 0) 35
  go_enter Tryz.func12, Tryz.ntmps12
  go_wp2_with fail
  refine (HL.out _ B0).mono ?_
  rintro e w1 ⟨rfl, bs⟩
  have B0 := B0.trans (bs.mono B0.size)
  have R0 := R0.step bs
  clear bs
  go_wp2_with fail
  refine (NU.out _ _).mono ?_
  rintro e w2 ⟨rfl, bs⟩
  have B0 := B0.trans (bs.mono B0.size)
  have R0 := R0.step bs
  clear bs
  go_wp2_with fail
  refine (RG.out _ _ _ _ _ _ _ _).mono ?_
  rintro e w9 ⟨rfl, b9⟩
  have B2 := B0.trans (b9.mono B0.size)
  have r2 := R0.step b9
  clear b9 B0 R0
  obtain ⟨c0, c1, c2, c3, c4, c5, c6, c7, c8, c9⟩ := r2.c10
  have z2 := r2.f
  go_wp2_with fail
  obtain ⟨k1, k2, k3, k4⟩ := set10 r2 (.int .i64 0) (.int .i64 0) (.int .i64 0) (.int .i64 0) (.bool true) (.int .i64 1) (.int .i64 L) (.int .u64 0) (.string ⟨#[]⟩) (.slice none 0 0) rfl
  have KF := B2.trans (k4.mono (by omega))
  obtain ⟨q0, q1, q2, q3, q4, q5, q6, q7, q8, q9⟩ := k1.c10
  refine bodyPost_ret (v := .agg (rcs 0 0 0 0 true 1 L 0 ⟨#[]⟩ none 0 0)) ?_ rfl ⟨rfl, KF⟩
  simp [results, Tryz.results12, go_sem, q0, q1, q2, q3, q4, q5, q6, q7, q8, q9]

set_option maxRecDepth 100000 in
set_option maxHeartbeats 1000000 in
theorem rt_size_no (ak ai au : Int) (az : ByteArray) (aa : Option Addr) (an ac : Nat) (bk bi bu : Int) (bs : ByteArray) (ba : Option Addr) (bn bc : Nat) (num : Int) (w : World) (L C : Int) (hC : (C == 0) = false) (hl : ∀ wx, Below w.heap.size w wx → Calls Tryz.prog 30 #[.agg #[.int .i64 ak, .int .i64 ai, .int .u64 au, .string az, .slice aa an ac]] wx fun e w' => e = .returned (.tuple #[.int .i64 L, .int .i64 C]) ∧ Below wx.heap.size wx w') :
    Calls Tryz.prog 12 #[.agg (acs 10 ak ai au az aa an ac bk bi bu bs ba bn bc num)] w fun e w' => e = .returned (.agg (rErr 12 0 0 0)) ∧ Below w.heap.size w w' := by
  have HL := Lib.hid hl
  clear hl
  have B0 := below2 w (.cells (acs 10 ak ai au az aa an ac bk bi bu bs ba bn bc num) 27) (.cells (rErr 0 0 0 0) 35)
  have R0 := Bk.new2 w (.cells (acs 10 ak ai au az aa an ac bk bi bu bs ba bn bc num) 27) (rErr 0 0 0 0) 35
  go_enter Tryz.func12, Tryz.ntmps12
  go_wp2_with fail
  refine (HL.out _ B0).mono ?_
  rintro e w1 ⟨rfl, bs⟩
  have B0 := B0.trans (bs.mono B0.size)
  have R0 := R0.step bs
  clear bs
  obtain ⟨c0, c1, c2, c3, c4, c5, c6, c7, c8, c9⟩ := R0.c10
  have z2 := R0.f
  go_wp2_with fail
  obtain ⟨k1, k2, k3, k4⟩ := set10 R0 (.int .i64 12) (.int .i64 0) (.int .i64 0) (.int .i64 0) (.bool false) (.int .i64 0) (.int .i64 0) (.int .u64 0) (.string ⟨#[]⟩) (.slice none 0 0) rfl
  have KF := B0.trans (k4.mono (by omega))
  obtain ⟨q0, q1, q2, q3, q4, q5, q6, q7, q8, q9⟩ := k1.c10
  refine bodyPost_ret (v := .agg (rErr 12 0 0 0)) ?_ rfl ⟨rfl, KF⟩
  simp [results, Tryz.results12, go_sem, q0, q1, q2, q3, q4, q5, q6, q7, q8, q9]

set_option maxRecDepth 100000 in
set_option maxHeartbeats 1000000 in
theorem rt_other (op : Int) (ak ai au : Int) (az : ByteArray) (aa : Option Addr) (an ac : Nat) (bk bi bu : Int) (bs : ByteArray) (ba : Option Addr) (bn bc : Nat) (num : Int) (w : World) (h1 : (op == 1) = false) (h2 : (op == 2) = false) (h3 : (op == 3) = false) (h4 : (op == 4) = false) (h5 : (op == 5) = false) (h6 : (op == 6) = false) (h7 : (op == 7) = false) (h8 : (op == 8) = false) (h9 : (op == 9) = false) (h10 : (op == 10) = false) :
    Calls Tryz.prog 12 #[.agg (acs op ak ai au az aa an ac bk bi bu bs ba bn bc num)] w fun e w' => e = .returned (.agg (rErr 12 0 0 0)) ∧ Below w.heap.size w w' := by
  have B0 := below2 w (.cells (acs op ak ai au az aa an ac bk bi bu bs ba bn bc num) 27) (.cells (rErr 0 0 0 0) 35)
  go_enter Tryz.func12, Tryz.ntmps12
  go_wp2_with fail
  exact bodyPost_ret (v := .agg (rErr 12 0 0 0)) (by simp [results, Tryz.results12, go_sem]) rfl ⟨rfl, by first | exact B0 | exact below2 _ _ _⟩

set_option maxRecDepth 100000 in
set_option maxHeartbeats 1000000 in
theorem rt_index (ai au : Int) (az : ByteArray) (an ac : Nat) (bk bi bu : Int) (bs : ByteArray) (ba : Option Addr) (bn bc : Nat) (j g o : Nat) (x0 x1 x2 : Int) (x3 : ByteArray) (x4 : Option Addr) (x5 x6 : Nat) (w : World) (H : Nat) (hH : w.heap.size + 2 ≤ H) (P : BodyP) (hP : St H P) (hj : j < an) (hg : g < w.heap.size)
    (y0 : w.cell? ⟨g, o + j * 5, none⟩ = some (.int .i64 x0)) (y1 : w.cell? ⟨g, o + j * 5 + 1, none⟩ = some (.int .i64 x1)) (y2 : w.cell? ⟨g, o + j * 5 + 2, none⟩ = some (.int .u64 x2)) (y3 : w.cell? ⟨g, o + j * 5 + 3, none⟩ = some (.string x3)) (y4 : w.cell? ⟨g, o + j * 5 + 4, none⟩ = some (.slice x4 x5 x6))
    (hM : ∀ wx, Below w.heap.size w wx → wx.heap.size = w.heap.size + 2 → Calls Tryz.prog 9 #[.agg #[.int .i64 x0, .int .i64 x1, .int .u64 x2, .string x3, .slice x4 x5 x6]] wx fun e w' => ∃ k i u s a n c, e = .returned (.agg #[.int .i64 k, .int .i64 i, .int .u64 u, .string s, .slice a n c]) ∧ P k i u s a n c w' ∧ Below wx.heap.size wx w') :
    Calls Tryz.prog 12 #[.agg (acs 4 8 ai au az (some ⟨g, o, none⟩) an ac bk bi bu bs ba bn bc (j : Int))] w fun e w' => ∃ k i u s a n c, e = .returned (.agg (rcs 0 0 0 0 true k i u s a n c)) ∧ P k i u s a n c w' ∧ Below w.heap.size w w' := by
  have HM := Lib.hid hM
  have hP' := Lib.hid hP
  have n0 : decide ((j : Int) < 0) = false := by simp
  have n1 : decide ((an : Int) ≤ (j : Int)) = false := by simp; omega
  clear hM hP
  have GV := Lib.hid rgave_any
  have B0 := below2 w (.cells (acs 4 8 ai au az (some ⟨g, o, none⟩) an ac bk bi bu bs ba bn bc (j : Int)) 27) (.cells (rErr 0 0 0 0) 35)
  have R0 := Bk.new2 w (.cells (acs 4 8 ai au az (some ⟨g, o, none⟩) an ac bk bi bu bs ba bn bc (j : Int)) 27) (rErr 0 0 0 0) 35
  go_enter Tryz.func12, Tryz.ntmps12
  go_wp2_with fail
  refine (HM.out _ B0 (by simp)).mono ?_
  rintro e w1 ⟨k, i, u, s, a, n, c, rfl, p0, b1⟩
  have p1 := Lib.hid p0
  have B1 := B0.trans (b1.mono B0.size)
  have R1 := R0.step b1
  clear p0 b1 B0 R0 y0 y1 y2 y3 y4 n0 n1 hj hg
  go_wp2_with fail
  refine (GV.out k i u s a n c _).mono ?_
  rintro e w2 ⟨rfl, b2⟩
  have r2 := R1.step b2
  have B2 := B1.trans (b2.mono B1.size)
  have PP := Lib.hid (hP'.out.below p1.out b2)
  clear p1 R1 b2 B1
  obtain ⟨c0, c1, c2, c3, c4, c5, c6, c7, c8, c9⟩ := r2.c10
  have z2 := r2.f
  go_wp2_with fail
  obtain ⟨k1, k2, k3, k4⟩ := set10 r2 (.int .i64 0) (.int .i64 0) (.int .i64 0) (.int .i64 0) (.bool true) (.int .i64 k) (.int .i64 i) (.int .u64 u) (.string s) (.slice a n c) rfl
  have KP := Lib.hid (hP'.out _ _ _ _ _ _ _ w2 _ PP.out (Nat.le_of_eq k2.symm) fun g hg _ => k3 g (by omega))
  have KF := B2.trans (k4.mono (by omega))
  obtain ⟨q0, q1, q2, q3, q4, q5, q6, q7, q8, q9⟩ := k1.c10
  refine bodyPost_ret (v := .agg (rcs 0 0 0 0 true k i u s a n c)) ?_ rfl ⟨k, i, u, s, a, n, c, rfl, KP.out, KF⟩
  simp [results, Tryz.results12, go_sem, q0, q1, q2, q3, q4, q5, q6, q7, q8, q9]
end Go.Proofs.YthamafijjflfbaaGreat
/- The document's box opened; the conditions: what its pieces come to. -/
namespace Go.Proofs.YthamafijjflfbaaGreat
open Go.RowKit

set_option maxRecDepth 100000 in
set_option maxHeartbeats 1000000 in
theorem r1open_nil (i b : Int) (s : ByteArray) (ad : Option Addr) (len cap : Nat) (w : World) :
    Calls Tryz.prog 48 #[.agg #[.int .i64 12, .int .i64 i, .int .u64 b, .string s, .slice ad len cap]] w fun e w' => e = .returned (.tuple #[.agg #[.int .i64 0, .int .i64 0, .int .u64 0, .string ⟨#[]⟩, .slice none 0 0], .int .i64 13]) ∧ Below w.heap.size w w' := by
  have B0 := below2 w (.cells #[.int .i64 12, .int .i64 i, .int .u64 b, .string s, .slice ad len cap] 25) (.cells #[.int .i64 0, .int .i64 0, .int .u64 0, .string ⟨#[]⟩, .slice none 0 0] 25)
  go_enter Tryz.func48, Tryz.ntmps48
  go_wp2_with fail
  exact bodyPost_ret (v := .tuple #[.agg #[.int .i64 0, .int .i64 0, .int .u64 0, .string ⟨#[]⟩, .slice none 0 0], .int .i64 13]) (by simp [results, Tryz.results48, go_sem]) rfl ⟨rfl, by first | exact B0 | exact below2 _ _ _⟩

set_option maxRecDepth 100000 in
set_option maxHeartbeats 1000000 in
theorem r1open_box (i b : Int) (s : ByteArray) (g o len cap : Nat) (hl : 0 < len) (x0 x1 x2 : Int) (x3 : ByteArray) (x4 : Option Addr) (x5 x6 : Nat) (w : World) (H : Nat) (hH : w.heap.size + 2 ≤ H) (P : BodyP) (hP : St H P) (hg : g < w.heap.size)
    (y0 : w.cell? ⟨g, o, none⟩ = some (.int .i64 x0)) (y1 : w.cell? ⟨g, o + 1, none⟩ = some (.int .i64 x1)) (y2 : w.cell? ⟨g, o + 2, none⟩ = some (.int .u64 x2)) (y3 : w.cell? ⟨g, o + 3, none⟩ = some (.string x3)) (y4 : w.cell? ⟨g, o + 4, none⟩ = some (.slice x4 x5 x6))
    (hM : ∀ wx, Below w.heap.size w wx → wx.heap.size = w.heap.size + 2 → Calls Tryz.prog 9 #[.agg #[.int .i64 x0, .int .i64 x1, .int .u64 x2, .string x3, .slice x4 x5 x6]] wx fun e w' => ∃ k i u s a n c, e = .returned (.agg #[.int .i64 k, .int .i64 i, .int .u64 u, .string s, .slice a n c]) ∧ P k i u s a n c w' ∧ Below wx.heap.size wx w') :
    Calls Tryz.prog 48 #[.agg #[.int .i64 11, .int .i64 i, .int .u64 b, .string s, .slice (some ⟨g, o, none⟩) len cap]] w fun e w' => ∃ k i u s a n c, e = .returned (.tuple #[.agg #[.int .i64 k, .int .i64 i, .int .u64 u, .string s, .slice a n c], .int .i64 0]) ∧ P k i u s a n c w' ∧ Below w.heap.size w w' := by
  have HM := Lib.hid hM
  have hP' := Lib.hid hP
  clear hM hP
  have B0 := below2 w (.cells #[.int .i64 11, .int .i64 i, .int .u64 b, .string s, .slice (some ⟨g, o, none⟩) len cap] 25) (.cells #[.int .i64 0, .int .i64 0, .int .u64 0, .string ⟨#[]⟩, .slice none 0 0] 25)
  have R0 := Bk.new2 w (.cells #[.int .i64 11, .int .i64 i, .int .u64 b, .string s, .slice (some ⟨g, o, none⟩) len cap] 25) #[.int .i64 0, .int .i64 0, .int .u64 0, .string ⟨#[]⟩, .slice none 0 0] 25
  go_enter Tryz.func48, Tryz.ntmps48
  go_wp2_with fail
  refine (HM.out _ B0 (by simp)).mono ?_
  rintro e w1 ⟨k', i', u', s', a', n', c', rfl, p0, b1⟩
  have P1 := Lib.hid p0
  have B1 := B0.trans (b1.mono B0.size)
  have R1 := R0.step b1
  clear p0 b1 B0 R0 y0 y1 y2 y3 y4 hg hl
  obtain ⟨c0, c1, c2, c3, c4⟩ := R1.c5
  have z1 := R1.f
  go_wp2_with fail
  obtain ⟨k1, k2, k3, k4⟩ := set5 R1 (.int .i64 k') (.int .i64 i') (.int .u64 u') (.string s') (.slice a' n' c') rfl
  have KP := Lib.hid (hP'.out _ _ _ _ _ _ _ _ _ P1.out (Nat.le_of_eq k2.symm) fun g hg _ => k3 g (by omega))
  have KF := B1.trans (k4.mono (by omega))
  obtain ⟨q0, q1, q2, q3, q4⟩ := k1.c5
  refine bodyPost_ret (v := .tuple #[.agg #[.int .i64 k', .int .i64 i', .int .u64 u', .string s', .slice a' n' c'], .int .i64 0]) ?_ rfl ⟨k', i', u', s', a', n', c', rfl, KP.out, KF⟩
  simp [results, Tryz.results48, go_sem, q0, q1, q2, q3, q4]

set_option maxRecDepth 100000 in
set_option maxHeartbeats 1000000 in
theorem ropen_no (k i b : Int) (s : ByteArray) (ad : Option Addr) (len cap : Nat) (m : Int) (w : World)
    (hF : ∀ wx, Below w.heap.size w wx → Calls Tryz.prog 24 #[.agg #[.int .i64 k, .int .i64 i, .int .u64 b, .string s, .slice ad len cap], .int .i64 3] wx fun e w' => e = .returned (.agg (rErr 110 0 2 m)) ∧ Below wx.heap.size wx w') :
    Calls Tryz.prog 26 #[.agg #[.int .i64 k, .int .i64 i, .int .u64 b, .string s, .slice ad len cap]] w fun e w' => e = .returned (.agg (rErr 110 0 2 m)) ∧ Below w.heap.size w w' := by
  have HF := Lib.hid hF
  clear hF
  have B0 := below2 w (.cells #[.int .i64 k, .int .i64 i, .int .u64 b, .string s, .slice ad len cap] 25) (.cells (rErr 0 0 0 0) 35)
  have D0 : Bk ((w.alloc (.cells #[.int .i64 k, .int .i64 i, .int .u64 b, .string s, .slice ad len cap] 25)).alloc (.cells (rErr 0 0 0 0) 35)) w.heap.size #[.int .i64 k, .int .i64 i, .int .u64 b, .string s, .slice ad len cap] 25 := (Bk.new w _ _).alloc _
  have R0 := Bk.new2 w (.cells #[.int .i64 k, .int .i64 i, .int .u64 b, .string s, .slice ad len cap] 25) (rErr 0 0 0 0) 35
  go_enter Tryz.func26, Tryz.ntmps26
  go_wp2_with fail
  refine (HF.out _ B0).mono ?_
  rintro e w1 ⟨rfl, b1⟩
  have e1 := below1 w1 (.cells (rErr 110 0 2 m) 35)
  have B2 := (B0.trans (b1.mono B0.size)).trans (e1.mono (Nat.le_trans B0.size b1.size))
  have r2 := (R0.step b1).step e1
  clear b1 e1 B0 R0 D0
  obtain ⟨c0, c1, c2, c3, c4, c5, c6, c7, c8, c9⟩ := r2.c10
  have z2 := r2.f
  go_wp2_with fail
  obtain ⟨k1, k2, k3, k4⟩ := set10 r2 (.int .i64 110) (.int .i64 0) (.int .i64 2) (.int .i64 m) (.bool false) (.int .i64 0) (.int .i64 0) (.int .u64 0) (.string ⟨#[]⟩) (.slice none 0 0) rfl
  have KF := B2.trans (k4.mono (by omega))
  obtain ⟨q0, q1, q2, q3, q4, q5, q6, q7, q8, q9⟩ := k1.c10
  refine bodyPost_ret (v := .agg (rErr 110 0 2 m)) ?_ rfl ⟨rfl, KF⟩
  simp [results, Tryz.results26, go_sem, q0, q1, q2, q3, q4, q5, q6, q7, q8, q9]

set_option maxRecDepth 100000 in
set_option maxHeartbeats 1000000 in
theorem ropen_nil (k i b : Int) (s : ByteArray) (ad : Option Addr) (len cap : Nat) (w : World)
    (hF : ∀ wx, Below w.heap.size w wx → Calls Tryz.prog 24 #[.agg #[.int .i64 k, .int .i64 i, .int .u64 b, .string s, .slice ad len cap], .int .i64 3] wx fun e w' => ∃ k i u s a n c, e = .returned (.agg (rcs 0 0 0 0 true k i u s a n c)) ∧ Below wx.heap.size wx w')
    (hO : ∀ wx, Below w.heap.size w wx → Calls Tryz.prog 48 #[.agg #[.int .i64 k, .int .i64 i, .int .u64 b, .string s, .slice ad len cap]] wx fun e w' => e = .returned (.tuple #[.agg #[.int .i64 0, .int .i64 0, .int .u64 0, .string ⟨#[]⟩, .slice none 0 0], .int .i64 13]) ∧ Below wx.heap.size wx w') :
    Calls Tryz.prog 26 #[.agg #[.int .i64 k, .int .i64 i, .int .u64 b, .string s, .slice ad len cap]] w fun e w' => e = .returned (.agg (rErr 110 0 3 0)) ∧ Below w.heap.size w w' := by
  have HF := Lib.hid hF
  have HO := Lib.hid hO
  have RP := Lib.hid rpan_any
  clear hF hO
  have B0 := below2 w (.cells #[.int .i64 k, .int .i64 i, .int .u64 b, .string s, .slice ad len cap] 25) (.cells (rErr 0 0 0 0) 35)
  have D0 : Bk ((w.alloc (.cells #[.int .i64 k, .int .i64 i, .int .u64 b, .string s, .slice ad len cap] 25)).alloc (.cells (rErr 0 0 0 0) 35)) w.heap.size #[.int .i64 k, .int .i64 i, .int .u64 b, .string s, .slice ad len cap] 25 := (Bk.new w _ _).alloc _
  have R0 := Bk.new2 w (.cells #[.int .i64 k, .int .i64 i, .int .u64 b, .string s, .slice ad len cap] 25) (rErr 0 0 0 0) 35
  go_enter Tryz.func26, Tryz.ntmps26
  go_wp2_with fail
  refine (HF.out _ B0).mono ?_
  rintro e w1 ⟨k5, i5, u5, s5, a5, n5, c5, rfl, b1⟩
  have e1 := below1 w1 (.cells (rcs 0 0 0 0 true k5 i5 u5 s5 a5 n5 c5) 35)
  have B1 := (B0.trans (b1.mono B0.size)).trans (e1.mono (Nat.le_trans B0.size b1.size))
  have D1 := (D0.step b1).step e1
  have R1 := (R0.step b1).step e1
  clear b1 e1 B0 D0 R0
  obtain ⟨d0, d1, d2, d3, d4⟩ := D1.c5
  go_wp2_with fail
  refine (HO.out _ B1).mono ?_
  rintro e w2 ⟨rfl, b2⟩
  have e2 := below1 w2 (.cells #[.int .i64 0, .int .i64 0, .int .u64 0, .string ⟨#[]⟩, .slice none 0 0] 25)
  have B3 := (B1.trans (b2.mono B1.size)).trans (e2.mono (Nat.le_trans B1.size b2.size))
  have R3 := (R1.step b2).step e2
  clear b2 e2 B1 R1 D1 d0 d1 d2 d3 d4
  go_wp2_with fail
  refine (RP.out _ _ _).mono ?_
  rintro e w3 ⟨rfl, b3⟩
  have r2 := R3.step b3
  have B2 := B3.trans (b3.mono B3.size)
  clear b3 B3 R3
  obtain ⟨c0, c1, c2, c3, c4, c5, c6, c7, c8, c9⟩ := r2.c10
  have z2 := r2.f
  go_wp2_with fail
  obtain ⟨k1, k2, k3, k4⟩ := set10 r2 (.int .i64 110) (.int .i64 0) (.int .i64 3) (.int .i64 0) (.bool false) (.int .i64 0) (.int .i64 0) (.int .u64 0) (.string ⟨#[]⟩) (.slice none 0 0) rfl
  have KF := B2.trans (k4.mono (by omega))
  obtain ⟨q0, q1, q2, q3, q4, q5, q6, q7, q8, q9⟩ := k1.c10
  refine bodyPost_ret (v := .agg (rErr 110 0 3 0)) ?_ rfl ⟨rfl, KF⟩
  simp [results, Tryz.results26, go_sem, q0, q1, q2, q3, q4, q5, q6, q7, q8, q9]

set_option maxRecDepth 100000 in
set_option maxHeartbeats 1000000 in
theorem ropen_yes (k i b : Int) (s : ByteArray) (ad : Option Addr) (len cap : Nat) (w : World) (H : Nat) (hH : w.heap.size + 2 ≤ H) (P : BodyP) (hP : St H P)
    (hF : ∀ wx, Below w.heap.size w wx → Calls Tryz.prog 24 #[.agg #[.int .i64 k, .int .i64 i, .int .u64 b, .string s, .slice ad len cap], .int .i64 3] wx fun e w' => ∃ k i u s a n c, e = .returned (.agg (rcs 0 0 0 0 true k i u s a n c)) ∧ Below wx.heap.size wx w')
    (hO : ∀ wx, Below w.heap.size w wx → w.heap.size + 2 ≤ wx.heap.size → Calls Tryz.prog 48 #[.agg #[.int .i64 k, .int .i64 i, .int .u64 b, .string s, .slice ad len cap]] wx fun e w' => ∃ k i u s a n c, e = .returned (.tuple #[.agg #[.int .i64 k, .int .i64 i, .int .u64 u, .string s, .slice a n c], .int .i64 0]) ∧ P k i u s a n c w' ∧ Below wx.heap.size wx w') :
    Calls Tryz.prog 26 #[.agg #[.int .i64 k, .int .i64 i, .int .u64 b, .string s, .slice ad len cap]] w fun e w' => ∃ k i u s a n c, e = .returned (.agg (rcs 0 0 0 0 true k i u s a n c)) ∧ P k i u s a n c w' ∧ Below w.heap.size w w' := by
  have HF := Lib.hid hF
  have HO := Lib.hid hO
  have RG := Lib.hid rgave_any
  have hP' := Lib.hid hP
  clear hF hO hP
  have B0 := below2 w (.cells #[.int .i64 k, .int .i64 i, .int .u64 b, .string s, .slice ad len cap] 25) (.cells (rErr 0 0 0 0) 35)
  have D0 : Bk ((w.alloc (.cells #[.int .i64 k, .int .i64 i, .int .u64 b, .string s, .slice ad len cap] 25)).alloc (.cells (rErr 0 0 0 0) 35)) w.heap.size #[.int .i64 k, .int .i64 i, .int .u64 b, .string s, .slice ad len cap] 25 := (Bk.new w _ _).alloc _
  have R0 := Bk.new2 w (.cells #[.int .i64 k, .int .i64 i, .int .u64 b, .string s, .slice ad len cap] 25) (rErr 0 0 0 0) 35
  go_enter Tryz.func26, Tryz.ntmps26
  go_wp2_with fail
  refine (HF.out _ B0).mono ?_
  rintro e w1 ⟨k5, i5, u5, s5, a5, n5, c5, rfl, b1⟩
  have e1 := below1 w1 (.cells (rcs 0 0 0 0 true k5 i5 u5 s5 a5 n5 c5) 35)
  have B1 := (B0.trans (b1.mono B0.size)).trans (e1.mono (Nat.le_trans B0.size b1.size))
  have D1 := (D0.step b1).step e1
  have R1 := (R0.step b1).step e1
  have hs1 : w.heap.size + 2 ≤ w1.heap.size := by have := b1.size; simpa using this
  clear b1 e1 B0 D0 R0
  obtain ⟨d0, d1, d2, d3, d4⟩ := D1.c5
  go_wp2_with fail
  refine (HO.out _ B1 (by simp; omega)).mono ?_
  rintro e w2 ⟨k', i', u', s', a', n', c', rfl, p2, b2⟩
  have e2 := below1 w2 (.cells #[.int .i64 k', .int .i64 i', .int .u64 u', .string s', .slice a' n' c'] 25)
  have B3 := (B1.trans (b2.mono B1.size)).trans (e2.mono (Nat.le_trans B1.size b2.size))
  have R3 := (R1.step b2).step e2
  have P3 := Lib.hid (hP'.out.below p2 e2)
  clear b2 e2 B1 R1 D1 d0 d1 d2 d3 d4 p2
  go_wp2_with fail
  refine (RG.out _ _ _ _ _ _ _ _).mono ?_
  rintro e w3 ⟨rfl, b3⟩
  have r2 := R3.step b3
  have B2 := B3.trans (b3.mono B3.size)
  have PP := Lib.hid (hP'.out.below P3.out b3)
  clear b3 B3 R3 P3
  obtain ⟨c0, c1, c2, c3, c4, c5, c6, c7, c8, c9⟩ := r2.c10
  have z2 := r2.f
  go_wp2_with fail
  obtain ⟨k1, k2, k3, k4⟩ := set10 r2 (.int .i64 0) (.int .i64 0) (.int .i64 0) (.int .i64 0) (.bool true) (.int .i64 k') (.int .i64 i') (.int .u64 u') (.string s') (.slice a' n' c') rfl
  have KP := Lib.hid (hP'.out _ _ _ _ _ _ _ _ _ PP.out (Nat.le_of_eq k2.symm) fun g hg _ => k3 g (by omega))
  have KF := B2.trans (k4.mono (by omega))
  obtain ⟨q0, q1, q2, q3, q4, q5, q6, q7, q8, q9⟩ := k1.c10
  refine bodyPost_ret (v := .agg (rcs 0 0 0 0 true k' i' u' s' a' n' c')) ?_ rfl ⟨k', i', u', s', a', n', c', rfl, KP.out, KF⟩
  simp [results, Tryz.results26, go_sem, q0, q1, q2, q3, q4, q5, q6, q7, q8, q9]
end Go.Proofs.YthamafijjflfbaaGreat
/- The package's look at one part of a pattern, and the document's walk over the parts: each as the plain functions say it; the conditions: the pattern's tree in memory. -/
namespace Go.Proofs.YthamafijjflfbaaGreat
open Go.RowKit

end Go.Proofs.YthamafijjflfbaaGreat
/- The package's walk over a pattern's parts that counts down, and Valid: as the plain functions say; the conditions: the pattern's tree in memory. -/
namespace Go.Proofs.YthamafijjflfbaaGreat
open Go.RowKit

end Go.Proofs.YthamafijjflfbaaGreat
/- The document's look at a pattern, and Fit: as the plain functions say; the conditions: the pattern's tree in memory. -/
namespace Go.Proofs.YthamafijjflfbaaGreat
open Go.RowKit

end Go.Proofs.YthamafijjflfbaaGreat
/- The document's Fit of any pattern: as the plain functions say; the condition: the pattern's tree in memory. -/
namespace Go.Proofs.YthamafijjflfbaaGreat
open Go.RowKit

/-- A pattern that is fit. -/
def fitW (n : Nat) (t : Wt n) : Bool := decide (0 ≤ lk 128 n t 1)
theorem fitW_valid (n : Nat) (t : Wt n) : (vw 128 n t 16384).1 = fitW n t := (sayW 128 n t 1 (by decide) (by decide)).same
theorem fitW_right (n : Nat) (t : Wt n) (h : fitW n t = true) : wgt n t = true := ((sayW 128 n t 1 (by decide) (by decide)).fit (of_decide_eq_true h)).2.2.2

end Go.Proofs.YthamafijjflfbaaGreat
