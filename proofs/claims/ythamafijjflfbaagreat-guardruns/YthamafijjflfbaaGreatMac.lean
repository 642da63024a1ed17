/- What an act comes to, by what the steps do; the conditions: what the steps come to. -/
import Derived.Test.YthamafijjflfbaaGreatMab
import Derived.Test.YthamafijjflfbaaGreatMaa
namespace Go.Proofs.YthamafijjflfbaaGreat
open Go.RowKit

set_option maxRecDepth 100000 in
set_option maxHeartbeats 1000000 in
theorem done_give (ak ai au : Int) (az : ByteArray) (aa : Option Addr) (an ac : Nat) (bk bi bu : Int) (bs : ByteArray) (ba : Option Addr) (bn bc : Nat) (num : Int) (w : World) (H : Nat) (hH : w.heap.size + 2 ≤ H) (P : BodyP) (hP : St H P)
    (hM : ∀ wx, Below w.heap.size w wx → wx.heap.size = w.heap.size + 2 → Calls Tryz.prog 39 #[.agg #[.int .i64 ak, .int .i64 ai, .int .u64 au, .string az, .slice aa an ac]] wx fun e w' => ∃ k i u s a n c, e = .returned (.agg #[.int .i64 k, .int .i64 i, .int .u64 u, .string s, .slice a n c]) ∧ P k i u s a n c w' ∧ Below wx.heap.size wx w') :
    Calls Tryz.prog 21 #[.agg (acs 1 ak ai au az aa an ac bk bi bu bs ba bn bc num)] w fun e w' => ∃ k i u s a n c, e = .returned (.agg (rcs 0 0 0 0 true k i u s a n c)) ∧ P k i u s a n c w' ∧ Below w.heap.size w w' := by
  have HM := Lib.hid hM
  have hP' := Lib.hid hP
  clear hM hP
  have GV : Hid (∀ (k i b : Int) (s : ByteArray) (ad : Option Addr) (len cap : Nat) (w : World), Calls Tryz.prog 38 #[.agg #[.int .i64 k, .int .i64 i, .int .u64 b, .string s, .slice ad len cap]] w fun e w' => e = .returned (.agg (rcs 0 0 0 0 true k i b s ad len cap)) ∧ Below w.heap.size w w') := gave_any
  have B0 := below2 w (.cells (acs 1 ak ai au az aa an ac bk bi bu bs ba bn bc num) 27) (.cells (rErr 0 0 0 0) 35)
  have R0 := Bk.new2 w (.cells (acs 1 ak ai au az aa an ac bk bi bu bs ba bn bc num) 27) (rErr 0 0 0 0) 35
  go_enter Tryz.func21, Tryz.ntmps21
  go_wp2_with fail
  refine (HM.out _ B0 (by simp)).mono ?_
  rintro e w1 ⟨k, i, u, s, a, n, c, rfl, p0, b1⟩
  have p1 := Lib.hid p0
  have B1 := B0.trans (b1.mono B0.size)
  have R1 := R0.step b1
  clear p0 b1 B0 R0
  go_wp2_with fail
  refine (GV.out k i u s a n c _).mono ?_
  rintro e w2 ⟨rfl, b2⟩
  have r2 := R1.step b2
  have B2 := B1.trans (b2.mono B1.size)
  have PP := Lib.hid (hP'.out.below p1.out b2)
  clear p1 R1 b2 B1
  obtain ⟨c0, c1, c2, c3, c4, c5, c6, c7, c8, c9⟩ := r2.c10
  have z2 := r2.f
  go_wp2_with fail
  obtain ⟨k1, k2, k3, k4⟩ := set10 r2 (.int .i64 0) (.int .i64 0) (.int .i64 0) (.int .i64 0) (.bool true) (.int .i64 k) (.int .i64 i) (.int .u64 u) (.string s) (.slice a n c) rfl
  have KP := Lib.hid (hP'.out _ _ _ _ _ _ _ w2 _ PP.out (Nat.le_of_eq k2.symm) fun g hg _ => k3 g (by omega))
  have KF := B2.trans (k4.mono (by omega))
  obtain ⟨q0, q1, q2, q3, q4, q5, q6, q7, q8, q9⟩ := k1.c10
  refine bodyPost_ret (v := .agg (rcs 0 0 0 0 true k i u s a n c)) ?_ rfl ⟨k, i, u, s, a, n, c, rfl, KP.out, KF⟩
  simp [results, Tryz.results21, go_sem, q0, q1, q2, q3, q4, q5, q6, q7, q8, q9]

set_option maxRecDepth 100000 in
set_option maxHeartbeats 1000000 in
theorem done_assert (ak ai au : Int) (az : ByteArray) (aa : Option Addr) (an ac : Nat) (bk bi bu : Int) (bs : ByteArray) (ba : Option Addr) (bn bc : Nat) (num : Int) (w : World) (H : Nat) (hH : w.heap.size + 2 ≤ H) (P : BodyP) (hP : St H P)
    (hM : ∀ wx, Below w.heap.size w wx → wx.heap.size = w.heap.size + 2 → Calls Tryz.prog 40 #[.agg #[.int .i64 ak, .int .i64 ai, .int .u64 au, .string az, .slice aa an ac], .int .i64 num] wx fun e w' => ∃ k i u s a n c, e = .returned (.agg #[.int .i64 k, .int .i64 i, .int .u64 u, .string s, .slice a n c]) ∧ P k i u s a n c w' ∧ Below wx.heap.size wx w') :
    Calls Tryz.prog 21 #[.agg (acs 2 ak ai au az aa an ac bk bi bu bs ba bn bc num)] w fun e w' => ∃ k i u s a n c, e = .returned (.agg (rcs 0 0 0 0 true k i u s a n c)) ∧ P k i u s a n c w' ∧ Below w.heap.size w w' := by
  have HM := Lib.hid hM
  have hP' := Lib.hid hP
  clear hM hP
  have GV : Hid (∀ (k i b : Int) (s : ByteArray) (ad : Option Addr) (len cap : Nat) (w : World), Calls Tryz.prog 38 #[.agg #[.int .i64 k, .int .i64 i, .int .u64 b, .string s, .slice ad len cap]] w fun e w' => e = .returned (.agg (rcs 0 0 0 0 true k i b s ad len cap)) ∧ Below w.heap.size w w') := gave_any
  have B0 := below2 w (.cells (acs 2 ak ai au az aa an ac bk bi bu bs ba bn bc num) 27) (.cells (rErr 0 0 0 0) 35)
  have R0 := Bk.new2 w (.cells (acs 2 ak ai au az aa an ac bk bi bu bs ba bn bc num) 27) (rErr 0 0 0 0) 35
  go_enter Tryz.func21, Tryz.ntmps21
  go_wp2_with fail
  refine (HM.out _ B0 (by simp)).mono ?_
  rintro e w1 ⟨k, i, u, s, a, n, c, rfl, p0, b1⟩
  have p1 := Lib.hid p0
  have B1 := B0.trans (b1.mono B0.size)
  have R1 := R0.step b1
  clear p0 b1 B0 R0
  go_wp2_with fail
  refine (GV.out k i u s a n c _).mono ?_
  rintro e w2 ⟨rfl, b2⟩
  have r2 := R1.step b2
  have B2 := B1.trans (b2.mono B1.size)
  have PP := Lib.hid (hP'.out.below p1.out b2)
  clear p1 R1 b2 B1
  obtain ⟨c0, c1, c2, c3, c4, c5, c6, c7, c8, c9⟩ := r2.c10
  have z2 := r2.f
  go_wp2_with fail
  obtain ⟨k1, k2, k3, k4⟩ := set10 r2 (.int .i64 0) (.int .i64 0) (.int .i64 0) (.int .i64 0) (.bool true) (.int .i64 k) (.int .i64 i) (.int .u64 u) (.string s) (.slice a n c) rfl
  have KP := Lib.hid (hP'.out _ _ _ _ _ _ _ w2 _ PP.out (Nat.le_of_eq k2.symm) fun g hg _ => k3 g (by omega))
  have KF := B2.trans (k4.mono (by omega))
  obtain ⟨q0, q1, q2, q3, q4, q5, q6, q7, q8, q9⟩ := k1.c10
  refine bodyPost_ret (v := .agg (rcs 0 0 0 0 true k i u s a n c)) ?_ rfl ⟨k, i, u, s, a, n, c, rfl, KP.out, KF⟩
  simp [results, Tryz.results21, go_sem, q0, q1, q2, q3, q4, q5, q6, q7, q8, q9]

set_option maxRecDepth 100000 in
set_option maxHeartbeats 1000000 in
theorem done_assert_no (ak ai au : Int) (az : ByteArray) (aa : Option Addr) (an ac : Nat) (bk bi bu : Int) (bs : ByteArray) (ba : Option Addr) (bn bc : Nat) (num : Int) (w : World)
    (hM : ∀ wx, Below w.heap.size w wx → Calls Tryz.prog 40 #[.agg #[.int .i64 ak, .int .i64 ai, .int .u64 au, .string az, .slice aa an ac], .int .i64 num] wx fun e w' => Pn 84 (.int .i64 ak) e ∧ Below wx.heap.size wx w') :
    Calls Tryz.prog 21 #[.agg (acs 2 ak ai au az aa an ac bk bi bu bs ba bn bc num)] w fun e w' => Pn 84 (.int .i64 ak) e ∧ Below w.heap.size w w' := by
  have HM := Lib.hid hM
  clear hM
  have B0 := below2 w (.cells (acs 2 ak ai au az aa an ac bk bi bu bs ba bn bc num) 27) (.cells (rErr 0 0 0 0) 35)
  go_enter Tryz.func21, Tryz.ntmps21
  go_wp2_with fail
  refine (HM.out _ B0).mono ?_
  rintro e w1 ⟨⟨older, rfl, ho⟩, b1⟩
  have B1 := B0.trans (b1.mono B0.size)
  go_wp2_with fail
  exact ⟨rfl, ⟨older, rfl, ho⟩, B1⟩

set_option maxRecDepth 100000 in
set_option maxHeartbeats 1000000 in
theorem done_face_no (ak ai au : Int) (az : ByteArray) (aa : Option Addr) (an ac : Nat) (bk bi bu : Int) (bs : ByteArray) (ba : Option Addr) (bn bc : Nat) (num : Int) (m : Int) (w : World)
    (hM : ∀ wx, Below w.heap.size w wx → Calls Tryz.prog 41 #[.agg #[.int .i64 ak, .int .i64 ai, .int .u64 au, .string az, .slice aa an ac], .int .i64 num] wx fun e w' => Pn 84 (.int .i64 m) e ∧ Below wx.heap.size wx w') :
    Calls Tryz.prog 21 #[.agg (acs 3 ak ai au az aa an ac bk bi bu bs ba bn bc num)] w fun e w' => Pn 84 (.int .i64 m) e ∧ Below w.heap.size w w' := by
  have HM := Lib.hid hM
  clear hM
  have B0 := below2 w (.cells (acs 3 ak ai au az aa an ac bk bi bu bs ba bn bc num) 27) (.cells (rErr 0 0 0 0) 35)
  go_enter Tryz.func21, Tryz.ntmps21
  go_wp2_with fail
  refine (HM.out _ B0).mono ?_
  rintro e w1 ⟨⟨older, rfl, ho⟩, b1⟩
  have B1 := B0.trans (b1.mono B0.size)
  go_wp2_with fail
  exact ⟨rfl, ⟨older, rfl, ho⟩, B1⟩

set_option maxRecDepth 100000 in
set_option maxHeartbeats 1000000 in
theorem done_face (ak ai au : Int) (az : ByteArray) (aa : Option Addr) (an ac : Nat) (bk bi bu : Int) (bs : ByteArray) (ba : Option Addr) (bn bc : Nat) (num : Int) (w : World) (H : Nat) (hH : w.heap.size + 2 ≤ H) (P : BodyP) (hP : St H P)
    (hF : ∀ wx, Below w.heap.size w wx → wx.heap.size = w.heap.size + 2 → Calls Tryz.prog 41 #[.agg #[.int .i64 ak, .int .i64 ai, .int .u64 au, .string az, .slice aa an ac], .int .i64 num] wx fun e w' => e = .returned (.tuple #[]) ∧ Below wx.heap.size wx w')
    (hM : ∀ wx, Below w.heap.size w wx → w.heap.size + 2 ≤ wx.heap.size → Calls Tryz.prog 39 #[.agg #[.int .i64 ak, .int .i64 ai, .int .u64 au, .string az, .slice aa an ac]] wx fun e w' => ∃ k i u s a n c, e = .returned (.agg #[.int .i64 k, .int .i64 i, .int .u64 u, .string s, .slice a n c]) ∧ P k i u s a n c w' ∧ Below wx.heap.size wx w') :
    Calls Tryz.prog 21 #[.agg (acs 3 ak ai au az aa an ac bk bi bu bs ba bn bc num)] w fun e w' => ∃ k i u s a n c, e = .returned (.agg (rcs 0 0 0 0 true k i u s a n c)) ∧ P k i u s a n c w' ∧ Below w.heap.size w w' := by
  have HM := Lib.hid hM
  have HF := Lib.hid hF
  have hP' := Lib.hid hP
  clear hM hP hF
  have GV : Hid (∀ (k i b : Int) (s : ByteArray) (ad : Option Addr) (len cap : Nat) (w : World), Calls Tryz.prog 38 #[.agg #[.int .i64 k, .int .i64 i, .int .u64 b, .string s, .slice ad len cap]] w fun e w' => e = .returned (.agg (rcs 0 0 0 0 true k i b s ad len cap)) ∧ Below w.heap.size w w') := gave_any
  have B0 := below2 w (.cells (acs 3 ak ai au az aa an ac bk bi bu bs ba bn bc num) 27) (.cells (rErr 0 0 0 0) 35)
  have A0 : Bk ((w.alloc (.cells (acs 3 ak ai au az aa an ac bk bi bu bs ba bn bc num) 27)).alloc (.cells (rErr 0 0 0 0) 35)) w.heap.size (acs 3 ak ai au az aa an ac bk bi bu bs ba bn bc num) 27 := (Bk.new w _ _).alloc _
  have R0 := Bk.new2 w (.cells (acs 3 ak ai au az aa an ac bk bi bu bs ba bn bc num) 27) (rErr 0 0 0 0) 35
  go_enter Tryz.func21, Tryz.ntmps21
  go_wp2_with fail
  refine (HF.out _ B0 (by simp)).mono ?_
  rintro e w0 ⟨rfl, b0⟩
  have A1 := A0.step b0
  have R1' := R0.step b0
  have B0' := B0.trans (b0.mono B0.size)
  have hs0 : w.heap.size + 2 ≤ w0.heap.size := by have := b0.size; simpa using this
  clear b0 B0 R0 A0
  obtain ⟨c0, c1, c2, c3, c4, c5, c6, c7, c8, c9, c10, c11⟩ := A1.c12
  go_wp2_with fail
  refine (HM.out _ B0' hs0).mono ?_
  rintro e w1 ⟨k, i, u, s, a, n, c, rfl, p0, b1⟩
  have p1 := Lib.hid p0
  have B1 := B0'.trans (b1.mono B0'.size)
  have R1 := R1'.step b1
  clear p0 b1 B0' R1' c0 c1 c2 c3 c4 c5 c6 c7 c8 c9 c10 c11 A1
  go_wp2_with fail
  refine (GV.out k i u s a n c _).mono ?_
  rintro e w2 ⟨rfl, b2⟩
  have r2 := R1.step b2
  have B2 := B1.trans (b2.mono B1.size)
  have PP := Lib.hid (hP'.out.below p1.out b2)
  clear p1 R1 b2 B1
  obtain ⟨c0, c1, c2, c3, c4, c5, c6, c7, c8, c9⟩ := r2.c10
  have z2 := r2.f
  go_wp2_with fail
  obtain ⟨k1, k2, k3, k4⟩ := set10 r2 (.int .i64 0) (.int .i64 0) (.int .i64 0) (.int .i64 0) (.bool true) (.int .i64 k) (.int .i64 i) (.int .u64 u) (.string s) (.slice a n c) rfl
  have KP := Lib.hid (hP'.out _ _ _ _ _ _ _ w2 _ PP.out (Nat.le_of_eq k2.symm) fun g hg _ => k3 g (by omega))
  have KF := B2.trans (k4.mono (by omega))
  obtain ⟨q0, q1, q2, q3, q4, q5, q6, q7, q8, q9⟩ := k1.c10
  refine bodyPost_ret (v := .agg (rcs 0 0 0 0 true k i u s a n c)) ?_ rfl ⟨k, i, u, s, a, n, c, rfl, KP.out, KF⟩
  simp [results, Tryz.results21, go_sem, q0, q1, q2, q3, q4, q5, q6, q7, q8, q9]

set_option maxRecDepth 100000 in
set_option maxHeartbeats 1000000 in
theorem done_own (ak ai au : Int) (az : ByteArray) (aa : Option Addr) (an ac : Nat) (bk bi bu : Int) (bs : ByteArray) (ba : Option Addr) (bn bc : Nat) (num : Int) (w : World) :
    Calls Tryz.prog 21 #[.agg (acs 8 ak ai au az aa an ac bk bi bu bs ba bn bc num)] w fun e w' => Pn 73 (.int .i64 num) e ∧ Below w.heap.size w w' := by
  have B0 := below2 w (.cells (acs 8 ak ai au az aa an ac bk bi bu bs ba bn bc num) 27) (.cells (rErr 0 0 0 0) 35)
  go_enter Tryz.func21, Tryz.ntmps21
  go_wp2_with fail
  exact ⟨rfl, Pn.one _ _, B0⟩

set_option maxRecDepth 100000 in
set_option maxHeartbeats 1000000 in
theorem done_error (ak ai au : Int) (az : ByteArray) (aa : Option Addr) (an ac : Nat) (bk bi bu : Int) (bs : ByteArray) (ba : Option Addr) (bn bc : Nat) (num : Int) (w : World) :
    Calls Tryz.prog 21 #[.agg (acs 9 ak ai au az aa an ac bk bi bu bs ba bn bc num)] w fun e w' => Pn 75 (.agg #[.int .i64 num, .string ⟨#[]⟩]) e ∧ Below w.heap.size w w' := by
  have B0 := below2 w (.cells (acs 9 ak ai au az aa an ac bk bi bu bs ba bn bc num) 27) (.cells (rErr 0 0 0 0) 35)
  go_enter Tryz.func21, Tryz.ntmps21
  go_wp2_with fail
  exact ⟨rfl, Pn.one _ _, B0⟩

set_option maxRecDepth 100000 in
set_option maxHeartbeats 1000000 in
theorem done_size (ak ai au : Int) (az : ByteArray) (aa : Option Addr) (an ac : Nat) (bk bi bu : Int) (bs : ByteArray) (ba : Option Addr) (bn bc : Nat) (num : Int) (w : World) (er : Int) (has : Bool) (H : Nat) (hH : w.heap.size + 2 ≤ H) (P : BodyP) (hP : St H P)
    (hM : ∀ wx, Below w.heap.size w wx → wx.heap.size = w.heap.size + 2 → Calls Tryz.prog 46 #[.agg #[.int .i64 ak, .int .i64 ai, .int .u64 au, .string az, .slice aa an ac]] wx fun e w' => ∃ k i u s a n c, e = .returned (.agg (rcs er 0 0 0 has k i u s a n c)) ∧ P k i u s a n c w' ∧ Below wx.heap.size wx w') :
    Calls Tryz.prog 21 #[.agg (acs 10 ak ai au az aa an ac bk bi bu bs ba bn bc num)] w fun e w' => ∃ k i u s a n c, e = .returned (.agg (rcs er 0 0 0 has k i u s a n c)) ∧ P k i u s a n c w' ∧ Below w.heap.size w w' := by
  have HM := Lib.hid hM
  have hP' := Lib.hid hP
  clear hM hP
  have B0 := below2 w (.cells (acs 10 ak ai au az aa an ac bk bi bu bs ba bn bc num) 27) (.cells (rErr 0 0 0 0) 35)
  have R0 := Bk.new2 w (.cells (acs 10 ak ai au az aa an ac bk bi bu bs ba bn bc num) 27) (rErr 0 0 0 0) 35
  go_enter Tryz.func21, Tryz.ntmps21
  go_wp2_with fail
  refine (HM.out _ B0 (by simp)).mono ?_
  rintro e w1 ⟨k, i, u, s, a, n, c, rfl, p0, b1⟩
  have PP := Lib.hid p0
  have B2 := B0.trans (b1.mono B0.size)
  have r2 := R0.step b1
  clear p0 b1 B0 R0
  obtain ⟨c0, c1, c2, c3, c4, c5, c6, c7, c8, c9⟩ := r2.c10
  have z2 := r2.f
  go_wp2_with fail
  obtain ⟨k1, k2, k3, k4⟩ := set10 r2 (.int .i64 er) (.int .i64 0) (.int .i64 0) (.int .i64 0) (.bool has) (.int .i64 k) (.int .i64 i) (.int .u64 u) (.string s) (.slice a n c) rfl
  have KP := Lib.hid (hP'.out _ _ _ _ _ _ _ w1 _ PP.out (Nat.le_of_eq k2.symm) fun g hg _ => k3 g (by omega))
  have KF := B2.trans (k4.mono (by omega))
  obtain ⟨q0, q1, q2, q3, q4, q5, q6, q7, q8, q9⟩ := k1.c10
  refine bodyPost_ret (v := .agg (rcs er 0 0 0 has k i u s a n c)) ?_ rfl ⟨k, i, u, s, a, n, c, rfl, KP.out, KF⟩
  simp [results, Tryz.results21, go_sem, q0, q1, q2, q3, q4, q5, q6, q7, q8, q9]
end Go.Proofs.YthamafijjflfbaaGreat
/- What each question of the package answers of a value of kind k: of a type whether the kind has it, of an interface whether the kind has all its methods; no condition. -/
namespace Go.Proofs.YthamafijjflfbaaGreat
open Go.RowKit

/-- The question that function f asks answers p of a kind. -/
def Asks (f : Nat) (p : Int → Bool) : Prop := ∀ (k : Int) (u : Value) (w : World), Kd k u → Calls Tryz.prog f #[.agg #[], u] w fun e w' => e = .returned (.bool (p k)) ∧ Below w.heap.size w w'

theorem kd_no {k : Int} (h : k < 1 ∨ 13 < k) (j : Int) (h1 : 1 ≤ j) (h2 : j ≤ 13) : (k == j) = false := by simp; omega
theorem impl_no {k : Int} (h : k < 1 ∨ 13 < k) (f : Int) : impl k f = false := by
  unfold impl
  by_cases h0 : 0 < k
  · have : ¬ k < 14 := by omega
    simp [this]
  · simp [h0]

set_option maxRecDepth 100000 in
set_option maxHeartbeats 1000000 in
theorem type12_walk (u : Value) (b : Bool) (w : World) (h : ∀ w, (binOp .eql 20 u (.iface 141 (.pointer none))).run Tryz.prog w = .ok (.bool b) w) (hg : ∀ w, (eqGuard .eql 20 (.tmp 5) (.tmp 6) u (.iface 141 (.pointer none))).run Tryz.prog w = .ok () w) :
    Calls Tryz.prog 143 #[.agg #[], u] w fun e w' => e = .returned (.bool b) ∧ Below w.heap.size w w' := by
  go_enter Tryz.func143, Tryz.ntmps143
  go_wp2
  go_ret
  exact ⟨rfl, below1 w _⟩
theorem type12_asks : Asks 143 (fun k => k == 12) := by
  intro k u w hk
  rcases hk.cases with ⟨h0, rfl⟩ | ⟨rfl, a, rfl⟩ | ⟨rfl, a, rfl⟩ | ⟨rfl, a, rfl⟩ | ⟨rfl, a, rfl⟩ | ⟨rfl, a, rfl⟩ | ⟨rfl, a, rfl⟩ | ⟨rfl, a, rfl⟩ | ⟨rfl, a, rfl⟩ | ⟨rfl, a, b, rfl, ha, hb⟩ | ⟨rfl, c, a, rfl⟩ | ⟨rfl, a, rfl⟩ | ⟨rfl, rfl⟩ | ⟨rfl, rfl⟩
  · simp only [kd_no h0 12 (by decide) (by decide)]; exact type12_walk _ false w (fun w => by kernel_rfl) (fun w => by kernel_rfl)
  · exact type12_walk _ false w (fun w => run_eql_iface_types _ _ _ _ Tryz.underlying20 (by decide) w) (fun w => by kernel_rfl)
  · exact type12_walk _ false w (fun w => run_eql_iface_types _ _ _ _ Tryz.underlying20 (by decide) w) (fun w => by kernel_rfl)
  · exact type12_walk _ false w (fun w => run_eql_iface_types _ _ _ _ Tryz.underlying20 (by decide) w) (fun w => by kernel_rfl)
  · exact type12_walk _ false w (fun w => run_eql_iface_types _ _ _ _ Tryz.underlying20 (by decide) w) (fun w => by kernel_rfl)
  · exact type12_walk _ false w (fun w => run_eql_iface_types _ _ _ _ Tryz.underlying20 (by decide) w) (fun w => by kernel_rfl)
  · exact type12_walk _ false w (fun w => run_eql_iface_types _ _ _ _ Tryz.underlying20 (by decide) w) (fun w => by kernel_rfl)
  · exact type12_walk _ false w (fun w => run_eql_iface_types _ _ _ _ Tryz.underlying20 (by decide) w) (fun w => by kernel_rfl)
  · exact type12_walk _ false w (fun w => run_eql_iface_types _ _ _ _ Tryz.underlying20 (by decide) w) (fun w => by kernel_rfl)
  · exact type12_walk _ false w (fun w => run_eql_iface_types _ _ _ _ Tryz.underlying20 (by decide) w) (fun w => by kernel_rfl)
  · exact type12_walk _ false w (fun w => run_eql_iface_types _ _ _ _ Tryz.underlying20 (by decide) w) (fun w => by kernel_rfl)
  · exact type12_walk _ false w (fun w => by kernel_rfl) (fun w => by kernel_rfl)
  · exact type12_walk _ true w (fun w => by kernel_rfl) (fun w => by kernel_rfl)
  · exact type12_walk _ false w (fun w => run_eql_iface_types _ _ _ _ Tryz.underlying20 (by decide) w) (fun w => by kernel_rfl)
end Go.Proofs.YthamafijjflfbaaGreat
/- What the inner package makes of a kind alone: an interface value of that kind, in new memory; no condition. -/
namespace Go.Proofs.YthamafijjflfbaaGreat
open Go.RowKit

/-- What is asked of one kind. -/
def KindOf (k : Int) (w : World) : Prop := Calls Tryz.prog 63 #[.agg #[.map none], .agg #[.int .i64 k, .int .i64 0, .int .u64 0, .string ⟨#[]⟩, .slice none 0 0]] w fun e w' => ∃ u, e = .returned u ∧ Kd k u ∧ Below w.heap.size w w'

set_option maxRecDepth 100000 in
set_option maxHeartbeats 1000000 in
theorem kind1 (w : World) : KindOf 1 w := by
  unfold KindOf
  go_enter Tryz.func63, Tryz.ntmps63
  go_wp2
  go_ret
  exact ⟨_, rfl, Kd.plain 1 _ (by decide) (by decide), below2 w _ _⟩

set_option maxRecDepth 100000 in
set_option maxHeartbeats 1000000 in
theorem kind2 (w : World) : KindOf 2 w := by
  unfold KindOf
  go_enter Tryz.func63, Tryz.ntmps63
  go_wp2
  go_ret
  exact ⟨_, rfl, Kd.plain 2 _ (by decide) (by decide), below2 w _ _⟩

set_option maxRecDepth 100000 in
set_option maxHeartbeats 1000000 in
theorem kind4 (w : World) : KindOf 4 w := by
  unfold KindOf
  go_enter Tryz.func63, Tryz.ntmps63
  go_wp2
  go_ret
  exact ⟨_, rfl, Kd.plain 4 _ (by decide) (by decide), below2 w _ _⟩

set_option maxRecDepth 100000 in
set_option maxHeartbeats 1000000 in
theorem kind5 (w : World) : KindOf 5 w := by
  unfold KindOf
  go_enter Tryz.func63, Tryz.ntmps63
  go_wp2
  go_ret
  exact ⟨_, rfl, Kd.plain 5 _ (by decide) (by decide), below2 w _ _⟩

set_option maxRecDepth 100000 in
set_option maxHeartbeats 1000000 in
theorem kind6 (w : World) : KindOf 6 w := by
  unfold KindOf
  go_enter Tryz.func63, Tryz.ntmps63
  go_wp2
  go_ret
  exact ⟨_, rfl, Kd.plain 6 _ (by decide) (by decide), below2 w _ _⟩

set_option maxRecDepth 100000 in
set_option maxHeartbeats 1000000 in
theorem kind10 (w : World) : KindOf 10 w := by
  unfold KindOf
  go_enter Tryz.func63, Tryz.ntmps63
  go_wp2
  go_ret
  exact ⟨_, rfl, Kd.fail _ _, below2 w _ _⟩

set_option maxRecDepth 100000 in
set_option maxHeartbeats 1000000 in
theorem kind13 (w : World) : KindOf 13 w := by
  unfold KindOf
  go_enter Tryz.func63, Tryz.ntmps63
  go_wp2
  go_ret
  exact ⟨_, rfl, Kd.unit, below2 w _ _⟩

set_option maxRecDepth 100000 in
set_option maxHeartbeats 1000000 in
theorem kind12 (w : World) : KindOf 12 w := by
  unfold KindOf
  go_enter Tryz.func63, Tryz.ntmps63
  go_wp2
  go_ret
  exact ⟨_, rfl, Kd.nilp, below2 w _ _⟩

set_option maxRecDepth 100000 in
set_option maxHeartbeats 1000000 in
theorem kind3 (w : World) : KindOf 3 w := by
  unfold KindOf
  have hf : ∀ w : World, (callFunc 49 #[.int .u64 0]).run Tryz.prog w = .ok (.value (.float .f64 0)) w := fun _ => by kernel_rfl
  go_enter Tryz.func63, Tryz.ntmps63
  go_wp2
  go_ret
  exact ⟨_, rfl, Kd.plain 3 _ (by decide) (by decide), below2 w _ _⟩

set_option maxRecDepth 100000 in
set_option maxHeartbeats 1000000 in
theorem kind7 (w : World) : KindOf 7 w := by
  unfold KindOf
  have hc := fun w : World => Lib.run_convert_string_bytes (P := Tryz.prog) w 9 135 5 ⟨#[]⟩ Tryz.underlying9 Tryz.underlying135 Tryz.underlying5
  go_enter Tryz.func63, Tryz.ntmps63
  go_wp2
  go_ret
  exact ⟨_, rfl, Kd.plain 7 _ (by decide) (by decide), (below2 w _ _).trans ((Lib.bytesWorld_below _ 5 _).mono (by simp; omega))⟩

set_option maxRecDepth 100000 in
set_option maxHeartbeats 1000000 in
theorem row0 (w : World) : Calls Tryz.prog 81 #[.agg #[.map none], .slice none 0 0] w fun e w' => ∃ v, e = .returned v ∧ Below w.heap.size w w' := by
  have hmk : ∀ w : World, (Instr.makeSlice 137 (.int .i64 0) (.int .i64 0)).run Tryz.prog w = .ok (.slice (some ⟨w.heap.size, 0, none⟩) 0 0) (w.alloc (.cells #[] 20)) := fun _ => by kernel_rfl
  go_enter Tryz.func81, Tryz.ntmps81
  go_wp2_with fail
  refine wp_loop_rounds 1 ?_
  rw [rounds_succ]
  go_wp2
  go_ret
  exact ⟨_, rfl, below2 w _ _⟩
set_option maxRecDepth 100000 in
set_option maxHeartbeats 1000000 in
theorem kind8 (w : World) : KindOf 8 w := by
  unfold KindOf
  go_enter Tryz.func63, Tryz.ntmps63
  go_wp2_with fail
  refine (row0 _).mono ?_
  rintro e w1 ⟨v, rfl, b1⟩
  go_wp2
  go_ret
  exact ⟨_, rfl, Kd.plain 8 _ (by decide) (by decide), (below2 w _ _).trans (b1.mono (by simp; omega))⟩

set_option maxRecDepth 100000 in
set_option maxHeartbeats 1000000 in
theorem kindNo (k : Int) (w : World) (h : k < 1 ∨ 13 < k) : KindOf k w := by
  unfold KindOf
  have hk : Kd k .nilIface := .inl ⟨h, rfl⟩
  have h1 : (k == 1) = false := by simp; omega
  have h2 : (k == 2) = false := by simp; omega
  have h3 : (k == 3) = false := by simp; omega
  have h4 : (k == 4) = false := by simp; omega
  have h5 : (k == 5) = false := by simp; omega
  have h6 : (k == 6) = false := by simp; omega
  have h7 : (k == 7) = false := by simp; omega
  have h8 : (k == 8) = false := by simp; omega
  have h9 : (k == 9) = false := by simp; omega
  have h10 : (k == 10) = false := by simp; omega
  have h11 : (k == 11) = false := by simp; omega
  have h12 : (k == 12) = false := by simp; omega
  have h13 : (k == 13) = false := by simp; omega
  clear h
  go_enter Tryz.func63, Tryz.ntmps63
  go_wp2
  go_ret
  exact ⟨_, rfl, hk, below2 w _ _⟩

set_option maxRecDepth 100000 in
set_option maxHeartbeats 1000000 in
theorem place0 (i : Int) (hi : 0 ≤ i) (w : World) : Calls Tryz.prog 82 #[.agg #[.map none], .slice none 0 0, .int .i64 i] w fun e w' => e = .returned .nilIface ∧ w' = w.alloc (.cells #[.map none] 107) := by
  go_enter Tryz.func82, Tryz.ntmps82
  go_wp2
  go_ret
  exact ⟨rfl, rfl⟩

set_option maxRecDepth 100000 in
set_option maxHeartbeats 4000000 in
theorem kind9 (w : World) : KindOf 9 w := by
  unfold KindOf
  go_enter Tryz.func63, Tryz.ntmps63
  go_wp2_with fail
  go_region_held3 (fun w' => w'.cell? ⟨w.heap.size, 0, none⟩ = some (.map none) ∧ w'.cell? ⟨w.heap.size + 1, 4, none⟩ = some (.slice none 0 0)) (go_keep) ((go_at_call 82; refine (place0 _ (by decide) _).mono ?_; rintro e w' ⟨rfl, rfl⟩))
  all_goals go_wp2
  all_goals go_ret
  all_goals refine ⟨_, rfl, Kd.pair _ _ (.inl rfl) (.inl rfl), ?_⟩
  all_goals exact (((((Below.refl _ w).alloc (Nat.le_refl _) _).alloc (by simp) _).alloc (by simp; omega) _).alloc (by simp; omega) _).drew

set_option maxRecDepth 100000 in
set_option maxHeartbeats 1000000 in
theorem pointer0 (w : World) : Calls Tryz.prog 83 #[.agg #[.map none], .agg #[.int .i64 11, .int .i64 0, .int .u64 0, .string ⟨#[]⟩, .slice none 0 0]] w fun e w' => ∃ a, e = .returned (.pointer (some a)) ∧ Below w.heap.size w w' := by
  have hmn := fun w : World => run_eql_map_nil (P := Tryz.prog) w 105 _ _ none Tryz.underlying105
  go_enter Tryz.func83, Tryz.ntmps83
  go_wp2_with fail
  go_region_held3 (fun w' => w'.cell? ⟨w.heap.size, 0, none⟩ = some (.map none) ∧ w'.cell? ⟨w.heap.size + 1, 1, none⟩ = some (.int .i64 0) ∧ w'.cell? ⟨w.heap.size + 1, 4, none⟩ = some (.slice none 0 0)) (go_keep) ((go_at_call 82; refine (place0 _ (by decide) _).mono ?_; rintro e w' ⟨rfl, rfl⟩))
  all_goals go_wp2
  all_goals go_ret
  all_goals refine ⟨_, rfl, ?_⟩
  all_goals exact (((((Below.refl _ w).alloc (Nat.le_refl _) _).alloc (by simp) _).alloc (by simp; omega) _).alloc (by simp; omega) _).drew

set_option maxRecDepth 100000 in
set_option maxHeartbeats 1000000 in
theorem kind11 (w : World) : KindOf 11 w := by
  unfold KindOf
  go_enter Tryz.func63, Tryz.ntmps63
  go_wp2_with fail
  refine (pointer0 _).mono ?_
  rintro e w1 ⟨a, rfl, b1⟩
  go_wp2
  go_ret
  exact ⟨_, rfl, Kd.ptr a, (below2 w _ _).trans (b1.mono (by simp; omega))⟩

theorem kind_any (k : Int) (w : World) : KindOf k w := by
  by_cases h : k < 1 ∨ 13 < k
  · exact kindNo k w h
  have hk : k = 1 ∨ k = 2 ∨ k = 3 ∨ k = 4 ∨ k = 5 ∨ k = 6 ∨ k = 7 ∨ k = 8 ∨ k = 9 ∨ k = 10 ∨ k = 11 ∨ k = 12 ∨ k = 13 := by omega
  rcases hk with rfl | rfl | rfl | rfl | rfl | rfl | rfl | rfl | rfl | rfl | rfl | rfl | rfl
  · exact kind1 w
  · exact kind2 w
  · exact kind3 w
  · exact kind4 w
  · exact kind5 w
  · exact kind6 w
  · exact kind7 w
  · exact kind8 w
  · exact kind9 w
  · exact kind10 w
  · exact kind11 w
  · exact kind12 w
  · exact kind13 w

set_option maxRecDepth 100000 in
set_option maxHeartbeats 1000000 in
theorem of_kind (k : Int) (w : World) : Calls Tryz.prog 58 #[.agg #[.int .i64 k, .int .i64 0, .int .u64 0, .string ⟨#[]⟩, .slice none 0 0]] w fun e w' => ∃ u, e = .returned u ∧ Kd k u ∧ Below w.heap.size w w' := by
  have H := Lib.hid (kind_any k)
  go_enter Tryz.func58, Tryz.ntmps58
  go_wp2_with fail
  refine (H.out _).mono ?_
  rintro e w1 ⟨u, rfl, hx, b1⟩
  go_wp2
  go_ret
  exact ⟨u, rfl, hx, (below1 w _).trans (b1.mono (by simp))⟩

set_option maxRecDepth 100000 in
set_option maxHeartbeats 1000000 in
/-- Some value of a kind. -/
theorem ofKind_any (k : Int) (w : World) : Calls Tryz.prog 73 #[.int .i64 k] w fun e w' => ∃ u, e = .returned u ∧ Kd k u ∧ Below w.heap.size w w' := by
  have H := Lib.hid (of_kind k)
  go_enter Tryz.func73, Tryz.ntmps73
  go_wp2_with fail
  refine (H.out _).mono ?_
  rintro e w1 ⟨u, rfl, hx, b1⟩
  go_wp2
  go_ret
  exact ⟨u, rfl, hx, b1⟩
end Go.Proofs.YthamafijjflfbaaGreat
/- Which question the package asks for a kind's type, and which for an interface's number; no condition. -/
namespace Go.Proofs.YthamafijjflfbaaGreat
open Go.RowKit

/-- The question's type for a kind. -/
def qty (k : Int) : Nat :=
  if k = 1 then 151 else if k = 2 then 152 else if k = 3 then 153 else if k = 4 then 154 else if k = 5 then 155 else if k = 6 then 156 else if k = 7 then 157 else if k = 8 then 158 else if k = 9 then 159 else if k = 10 then 160 else if k = 11 then 161 else if k = 12 then 162 else if k = 13 then 163 else 164
/-- The question's type for an interface, and its methods as bits. -/
def qfc (f : Int) : Nat :=
  if f = 0 then 165 else if f = 1 then 166 else if f = 2 then 167 else if f = 3 then 168 else if f = 4 then 169 else if f = 5 then 170 else if f = 6 then 171 else if f = 7 then 172 else if f = 8 then 173 else if f = 9 then 174 else 164
def mbits (f : Int) : Int :=
  if f = 0 then 1 else if f = 1 then 2 else if f = 2 then 4 else if f = 3 then 8 else if f = 4 then 16 else if f = 5 then 32 else if f = 6 then 3 else if f = 7 then 17 else if f = 8 then 48 else if f = 9 then 19 else 0

set_option maxRecDepth 100000 in
set_option maxHeartbeats 1000000 in
theorem typeOf1 (w : World) : Calls Tryz.prog 71 #[.int .i64 1] w fun e w' => e = .returned (.iface (qty 1) (.agg #[])) ∧ w' = w := by
  show Calls Tryz.prog 71 #[.int .i64 1] w fun e w' => e = .returned (.iface 151 (.agg #[])) ∧ w' = w
  go_enter Tryz.func71, Tryz.ntmps71
  go_wp2
  go_ret
  exact ⟨rfl, rfl⟩
set_option maxRecDepth 100000 in
set_option maxHeartbeats 1000000 in
theorem typeOf2 (w : World) : Calls Tryz.prog 71 #[.int .i64 2] w fun e w' => e = .returned (.iface (qty 2) (.agg #[])) ∧ w' = w := by
  show Calls Tryz.prog 71 #[.int .i64 2] w fun e w' => e = .returned (.iface 152 (.agg #[])) ∧ w' = w
  go_enter Tryz.func71, Tryz.ntmps71
  go_wp2
  go_ret
  exact ⟨rfl, rfl⟩
set_option maxRecDepth 100000 in
set_option maxHeartbeats 1000000 in
theorem typeOf3 (w : World) : Calls Tryz.prog 71 #[.int .i64 3] w fun e w' => e = .returned (.iface (qty 3) (.agg #[])) ∧ w' = w := by
  show Calls Tryz.prog 71 #[.int .i64 3] w fun e w' => e = .returned (.iface 153 (.agg #[])) ∧ w' = w
  go_enter Tryz.func71, Tryz.ntmps71
  go_wp2
  go_ret
  exact ⟨rfl, rfl⟩
set_option maxRecDepth 100000 in
set_option maxHeartbeats 1000000 in
theorem typeOf4 (w : World) : Calls Tryz.prog 71 #[.int .i64 4] w fun e w' => e = .returned (.iface (qty 4) (.agg #[])) ∧ w' = w := by
  show Calls Tryz.prog 71 #[.int .i64 4] w fun e w' => e = .returned (.iface 154 (.agg #[])) ∧ w' = w
  go_enter Tryz.func71, Tryz.ntmps71
  go_wp2
  go_ret
  exact ⟨rfl, rfl⟩
set_option maxRecDepth 100000 in
set_option maxHeartbeats 1000000 in
theorem typeOf5 (w : World) : Calls Tryz.prog 71 #[.int .i64 5] w fun e w' => e = .returned (.iface (qty 5) (.agg #[])) ∧ w' = w := by
  show Calls Tryz.prog 71 #[.int .i64 5] w fun e w' => e = .returned (.iface 155 (.agg #[])) ∧ w' = w
  go_enter Tryz.func71, Tryz.ntmps71
  go_wp2
  go_ret
  exact ⟨rfl, rfl⟩
set_option maxRecDepth 100000 in
set_option maxHeartbeats 1000000 in
theorem typeOf6 (w : World) : Calls Tryz.prog 71 #[.int .i64 6] w fun e w' => e = .returned (.iface (qty 6) (.agg #[])) ∧ w' = w := by
  show Calls Tryz.prog 71 #[.int .i64 6] w fun e w' => e = .returned (.iface 156 (.agg #[])) ∧ w' = w
  go_enter Tryz.func71, Tryz.ntmps71
  go_wp2
  go_ret
  exact ⟨rfl, rfl⟩
set_option maxRecDepth 100000 in
set_option maxHeartbeats 1000000 in
theorem typeOf7 (w : World) : Calls Tryz.prog 71 #[.int .i64 7] w fun e w' => e = .returned (.iface (qty 7) (.agg #[])) ∧ w' = w := by
  show Calls Tryz.prog 71 #[.int .i64 7] w fun e w' => e = .returned (.iface 157 (.agg #[])) ∧ w' = w
  go_enter Tryz.func71, Tryz.ntmps71
  go_wp2
  go_ret
  exact ⟨rfl, rfl⟩
set_option maxRecDepth 100000 in
set_option maxHeartbeats 1000000 in
theorem typeOf8 (w : World) : Calls Tryz.prog 71 #[.int .i64 8] w fun e w' => e = .returned (.iface (qty 8) (.agg #[])) ∧ w' = w := by
  show Calls Tryz.prog 71 #[.int .i64 8] w fun e w' => e = .returned (.iface 158 (.agg #[])) ∧ w' = w
  go_enter Tryz.func71, Tryz.ntmps71
  go_wp2
  go_ret
  exact ⟨rfl, rfl⟩
set_option maxRecDepth 100000 in
set_option maxHeartbeats 1000000 in
theorem typeOf9 (w : World) : Calls Tryz.prog 71 #[.int .i64 9] w fun e w' => e = .returned (.iface (qty 9) (.agg #[])) ∧ w' = w := by
  show Calls Tryz.prog 71 #[.int .i64 9] w fun e w' => e = .returned (.iface 159 (.agg #[])) ∧ w' = w
  go_enter Tryz.func71, Tryz.ntmps71
  go_wp2
  go_ret
  exact ⟨rfl, rfl⟩
set_option maxRecDepth 100000 in
set_option maxHeartbeats 1000000 in
theorem typeOf10 (w : World) : Calls Tryz.prog 71 #[.int .i64 10] w fun e w' => e = .returned (.iface (qty 10) (.agg #[])) ∧ w' = w := by
  show Calls Tryz.prog 71 #[.int .i64 10] w fun e w' => e = .returned (.iface 160 (.agg #[])) ∧ w' = w
  go_enter Tryz.func71, Tryz.ntmps71
  go_wp2
  go_ret
  exact ⟨rfl, rfl⟩
set_option maxRecDepth 100000 in
set_option maxHeartbeats 1000000 in
theorem typeOf11 (w : World) : Calls Tryz.prog 71 #[.int .i64 11] w fun e w' => e = .returned (.iface (qty 11) (.agg #[])) ∧ w' = w := by
  show Calls Tryz.prog 71 #[.int .i64 11] w fun e w' => e = .returned (.iface 161 (.agg #[])) ∧ w' = w
  go_enter Tryz.func71, Tryz.ntmps71
  go_wp2
  go_ret
  exact ⟨rfl, rfl⟩
set_option maxRecDepth 100000 in
set_option maxHeartbeats 1000000 in
theorem typeOf12 (w : World) : Calls Tryz.prog 71 #[.int .i64 12] w fun e w' => e = .returned (.iface (qty 12) (.agg #[])) ∧ w' = w := by
  show Calls Tryz.prog 71 #[.int .i64 12] w fun e w' => e = .returned (.iface 162 (.agg #[])) ∧ w' = w
  go_enter Tryz.func71, Tryz.ntmps71
  go_wp2
  go_ret
  exact ⟨rfl, rfl⟩
set_option maxRecDepth 100000 in
set_option maxHeartbeats 1000000 in
theorem typeOf13 (w : World) : Calls Tryz.prog 71 #[.int .i64 13] w fun e w' => e = .returned (.iface (qty 13) (.agg #[])) ∧ w' = w := by
  show Calls Tryz.prog 71 #[.int .i64 13] w fun e w' => e = .returned (.iface 163 (.agg #[])) ∧ w' = w
  go_enter Tryz.func71, Tryz.ntmps71
  go_wp2
  go_ret
  exact ⟨rfl, rfl⟩
set_option maxRecDepth 100000 in
set_option maxHeartbeats 1000000 in
theorem typeOfNo (k : Int) (h : k < 1 ∨ 13 < k) (w : World) : Calls Tryz.prog 71 #[.int .i64 k] w fun e w' => e = .returned (.iface (qty k) (.agg #[])) ∧ w' = w := by
  have hq : qty k = 164 := by
    unfold qty
    rw [if_neg (show ¬ k = 1 by omega)]
    rw [if_neg (show ¬ k = 2 by omega)]
    rw [if_neg (show ¬ k = 3 by omega)]
    rw [if_neg (show ¬ k = 4 by omega)]
    rw [if_neg (show ¬ k = 5 by omega)]
    rw [if_neg (show ¬ k = 6 by omega)]
    rw [if_neg (show ¬ k = 7 by omega)]
    rw [if_neg (show ¬ k = 8 by omega)]
    rw [if_neg (show ¬ k = 9 by omega)]
    rw [if_neg (show ¬ k = 10 by omega)]
    rw [if_neg (show ¬ k = 11 by omega)]
    rw [if_neg (show ¬ k = 12 by omega)]
    rw [if_neg (show ¬ k = 13 by omega)]
  rw [hq]
  have h1 : (k == 1) = false := by simp; omega
  have h2 : (k == 2) = false := by simp; omega
  have h3 : (k == 3) = false := by simp; omega
  have h4 : (k == 4) = false := by simp; omega
  have h5 : (k == 5) = false := by simp; omega
  have h6 : (k == 6) = false := by simp; omega
  have h7 : (k == 7) = false := by simp; omega
  have h8 : (k == 8) = false := by simp; omega
  have h9 : (k == 9) = false := by simp; omega
  have h10 : (k == 10) = false := by simp; omega
  have h11 : (k == 11) = false := by simp; omega
  have h12 : (k == 12) = false := by simp; omega
  have h13 : (k == 13) = false := by simp; omega
  clear h hq
  go_enter Tryz.func71, Tryz.ntmps71
  go_wp2
  go_ret
  exact ⟨rfl, rfl⟩
theorem typeOf_any (k : Int) (w : World) : Calls Tryz.prog 71 #[.int .i64 k] w fun e w' => e = .returned (.iface (qty k) (.agg #[])) ∧ w' = w := by
  by_cases h : k < 1 ∨ 13 < k
  · exact typeOfNo k h w
  have hk : k = 1 ∨ k = 2 ∨ k = 3 ∨ k = 4 ∨ k = 5 ∨ k = 6 ∨ k = 7 ∨ k = 8 ∨ k = 9 ∨ k = 10 ∨ k = 11 ∨ k = 12 ∨ k = 13 := by omega
  rcases hk with rfl | rfl | rfl | rfl | rfl | rfl | rfl | rfl | rfl | rfl | rfl | rfl | rfl
  · exact typeOf1 w
  · exact typeOf2 w
  · exact typeOf3 w
  · exact typeOf4 w
  · exact typeOf5 w
  · exact typeOf6 w
  · exact typeOf7 w
  · exact typeOf8 w
  · exact typeOf9 w
  · exact typeOf10 w
  · exact typeOf11 w
  · exact typeOf12 w
  · exact typeOf13 w

set_option maxRecDepth 100000 in
set_option maxHeartbeats 1000000 in
theorem interfaceOf0 (w : World) : Calls Tryz.prog 72 #[.int .i64 0] w fun e w' => e = .returned (.agg #[.iface (qfc 0) (.agg #[]), .int .u8 (mbits 0)]) ∧ Below w.heap.size w w' := by
  show Calls Tryz.prog 72 #[.int .i64 0] w fun e w' => e = .returned (.agg #[.iface 165 (.agg #[]), .int .u8 1]) ∧ Below w.heap.size w w'
  go_enter Tryz.func72, Tryz.ntmps72
  go_wp2
  refine bodyPost_ret (v := .agg #[.iface 165 (.agg #[]), .int .u8 1]) (by simp [results, Tryz.results72, go_sem]) rfl ⟨rfl, ?_⟩
  exact below1 w _
set_option maxRecDepth 100000 in
set_option maxHeartbeats 1000000 in
theorem interfaceOf1 (w : World) : Calls Tryz.prog 72 #[.int .i64 1] w fun e w' => e = .returned (.agg #[.iface (qfc 1) (.agg #[]), .int .u8 (mbits 1)]) ∧ Below w.heap.size w w' := by
  show Calls Tryz.prog 72 #[.int .i64 1] w fun e w' => e = .returned (.agg #[.iface 166 (.agg #[]), .int .u8 2]) ∧ Below w.heap.size w w'
  go_enter Tryz.func72, Tryz.ntmps72
  go_wp2
  refine bodyPost_ret (v := .agg #[.iface 166 (.agg #[]), .int .u8 2]) (by simp [results, Tryz.results72, go_sem]) rfl ⟨rfl, ?_⟩
  exact below1 w _
set_option maxRecDepth 100000 in
set_option maxHeartbeats 1000000 in
theorem interfaceOf2 (w : World) : Calls Tryz.prog 72 #[.int .i64 2] w fun e w' => e = .returned (.agg #[.iface (qfc 2) (.agg #[]), .int .u8 (mbits 2)]) ∧ Below w.heap.size w w' := by
  show Calls Tryz.prog 72 #[.int .i64 2] w fun e w' => e = .returned (.agg #[.iface 167 (.agg #[]), .int .u8 4]) ∧ Below w.heap.size w w'
  go_enter Tryz.func72, Tryz.ntmps72
  go_wp2
  refine bodyPost_ret (v := .agg #[.iface 167 (.agg #[]), .int .u8 4]) (by simp [results, Tryz.results72, go_sem]) rfl ⟨rfl, ?_⟩
  exact below1 w _
set_option maxRecDepth 100000 in
set_option maxHeartbeats 1000000 in
theorem interfaceOf3 (w : World) : Calls Tryz.prog 72 #[.int .i64 3] w fun e w' => e = .returned (.agg #[.iface (qfc 3) (.agg #[]), .int .u8 (mbits 3)]) ∧ Below w.heap.size w w' := by
  show Calls Tryz.prog 72 #[.int .i64 3] w fun e w' => e = .returned (.agg #[.iface 168 (.agg #[]), .int .u8 8]) ∧ Below w.heap.size w w'
  go_enter Tryz.func72, Tryz.ntmps72
  go_wp2
  refine bodyPost_ret (v := .agg #[.iface 168 (.agg #[]), .int .u8 8]) (by simp [results, Tryz.results72, go_sem]) rfl ⟨rfl, ?_⟩
  exact below1 w _
set_option maxRecDepth 100000 in
set_option maxHeartbeats 1000000 in
theorem interfaceOf4 (w : World) : Calls Tryz.prog 72 #[.int .i64 4] w fun e w' => e = .returned (.agg #[.iface (qfc 4) (.agg #[]), .int .u8 (mbits 4)]) ∧ Below w.heap.size w w' := by
  show Calls Tryz.prog 72 #[.int .i64 4] w fun e w' => e = .returned (.agg #[.iface 169 (.agg #[]), .int .u8 16]) ∧ Below w.heap.size w w'
  go_enter Tryz.func72, Tryz.ntmps72
  go_wp2
  refine bodyPost_ret (v := .agg #[.iface 169 (.agg #[]), .int .u8 16]) (by simp [results, Tryz.results72, go_sem]) rfl ⟨rfl, ?_⟩
  exact below1 w _
set_option maxRecDepth 100000 in
set_option maxHeartbeats 1000000 in
theorem interfaceOf5 (w : World) : Calls Tryz.prog 72 #[.int .i64 5] w fun e w' => e = .returned (.agg #[.iface (qfc 5) (.agg #[]), .int .u8 (mbits 5)]) ∧ Below w.heap.size w w' := by
  show Calls Tryz.prog 72 #[.int .i64 5] w fun e w' => e = .returned (.agg #[.iface 170 (.agg #[]), .int .u8 32]) ∧ Below w.heap.size w w'
  go_enter Tryz.func72, Tryz.ntmps72
  go_wp2
  refine bodyPost_ret (v := .agg #[.iface 170 (.agg #[]), .int .u8 32]) (by simp [results, Tryz.results72, go_sem]) rfl ⟨rfl, ?_⟩
  exact below1 w _
set_option maxRecDepth 100000 in
set_option maxHeartbeats 1000000 in
theorem interfaceOf6 (w : World) : Calls Tryz.prog 72 #[.int .i64 6] w fun e w' => e = .returned (.agg #[.iface (qfc 6) (.agg #[]), .int .u8 (mbits 6)]) ∧ Below w.heap.size w w' := by
  show Calls Tryz.prog 72 #[.int .i64 6] w fun e w' => e = .returned (.agg #[.iface 171 (.agg #[]), .int .u8 3]) ∧ Below w.heap.size w w'
  go_enter Tryz.func72, Tryz.ntmps72
  go_wp2
  refine bodyPost_ret (v := .agg #[.iface 171 (.agg #[]), .int .u8 3]) (by simp [results, Tryz.results72, go_sem]) rfl ⟨rfl, ?_⟩
  exact below1 w _
set_option maxRecDepth 100000 in
set_option maxHeartbeats 1000000 in
theorem interfaceOf7 (w : World) : Calls Tryz.prog 72 #[.int .i64 7] w fun e w' => e = .returned (.agg #[.iface (qfc 7) (.agg #[]), .int .u8 (mbits 7)]) ∧ Below w.heap.size w w' := by
  show Calls Tryz.prog 72 #[.int .i64 7] w fun e w' => e = .returned (.agg #[.iface 172 (.agg #[]), .int .u8 17]) ∧ Below w.heap.size w w'
  go_enter Tryz.func72, Tryz.ntmps72
  go_wp2
  refine bodyPost_ret (v := .agg #[.iface 172 (.agg #[]), .int .u8 17]) (by simp [results, Tryz.results72, go_sem]) rfl ⟨rfl, ?_⟩
  exact below1 w _
set_option maxRecDepth 100000 in
set_option maxHeartbeats 1000000 in
theorem interfaceOf8 (w : World) : Calls Tryz.prog 72 #[.int .i64 8] w fun e w' => e = .returned (.agg #[.iface (qfc 8) (.agg #[]), .int .u8 (mbits 8)]) ∧ Below w.heap.size w w' := by
  show Calls Tryz.prog 72 #[.int .i64 8] w fun e w' => e = .returned (.agg #[.iface 173 (.agg #[]), .int .u8 48]) ∧ Below w.heap.size w w'
  go_enter Tryz.func72, Tryz.ntmps72
  go_wp2
  refine bodyPost_ret (v := .agg #[.iface 173 (.agg #[]), .int .u8 48]) (by simp [results, Tryz.results72, go_sem]) rfl ⟨rfl, ?_⟩
  exact below1 w _
set_option maxRecDepth 100000 in
set_option maxHeartbeats 1000000 in
theorem interfaceOf9 (w : World) : Calls Tryz.prog 72 #[.int .i64 9] w fun e w' => e = .returned (.agg #[.iface (qfc 9) (.agg #[]), .int .u8 (mbits 9)]) ∧ Below w.heap.size w w' := by
  show Calls Tryz.prog 72 #[.int .i64 9] w fun e w' => e = .returned (.agg #[.iface 174 (.agg #[]), .int .u8 19]) ∧ Below w.heap.size w w'
  go_enter Tryz.func72, Tryz.ntmps72
  go_wp2
  refine bodyPost_ret (v := .agg #[.iface 174 (.agg #[]), .int .u8 19]) (by simp [results, Tryz.results72, go_sem]) rfl ⟨rfl, ?_⟩
  exact below1 w _
set_option maxRecDepth 100000 in
set_option maxHeartbeats 1000000 in
theorem interfaceOfNo (f : Int) (h : f < 0 ∨ 9 < f) (w : World) : Calls Tryz.prog 72 #[.int .i64 f] w fun e w' => e = .returned (.agg #[.iface (qfc f) (.agg #[]), .int .u8 (mbits f)]) ∧ Below w.heap.size w w' := by
  have hq : qfc f = 164 := by
    unfold qfc
    rw [if_neg (show ¬ f = 0 by omega)]
    rw [if_neg (show ¬ f = 1 by omega)]
    rw [if_neg (show ¬ f = 2 by omega)]
    rw [if_neg (show ¬ f = 3 by omega)]
    rw [if_neg (show ¬ f = 4 by omega)]
    rw [if_neg (show ¬ f = 5 by omega)]
    rw [if_neg (show ¬ f = 6 by omega)]
    rw [if_neg (show ¬ f = 7 by omega)]
    rw [if_neg (show ¬ f = 8 by omega)]
    rw [if_neg (show ¬ f = 9 by omega)]
  have hm : mbits f = 0 := by
    unfold mbits
    rw [if_neg (show ¬ f = 0 by omega)]
    rw [if_neg (show ¬ f = 1 by omega)]
    rw [if_neg (show ¬ f = 2 by omega)]
    rw [if_neg (show ¬ f = 3 by omega)]
    rw [if_neg (show ¬ f = 4 by omega)]
    rw [if_neg (show ¬ f = 5 by omega)]
    rw [if_neg (show ¬ f = 6 by omega)]
    rw [if_neg (show ¬ f = 7 by omega)]
    rw [if_neg (show ¬ f = 8 by omega)]
    rw [if_neg (show ¬ f = 9 by omega)]
  rw [hq, hm]
  have h0 : (f == 0) = false := by simp; omega
  have h1 : (f == 1) = false := by simp; omega
  have h2 : (f == 2) = false := by simp; omega
  have h3 : (f == 3) = false := by simp; omega
  have h4 : (f == 4) = false := by simp; omega
  have h5 : (f == 5) = false := by simp; omega
  have h6 : (f == 6) = false := by simp; omega
  have h7 : (f == 7) = false := by simp; omega
  have h8 : (f == 8) = false := by simp; omega
  have h9 : (f == 9) = false := by simp; omega
  clear h hq hm
  go_enter Tryz.func72, Tryz.ntmps72
  go_wp2
  refine bodyPost_ret (v := .agg #[.iface 164 (.agg #[]), .int .u8 0]) (by simp [results, Tryz.results72, go_sem]) rfl ⟨rfl, ?_⟩
  exact below1 w _
theorem interfaceOf_any (f : Int) (w : World) : Calls Tryz.prog 72 #[.int .i64 f] w fun e w' => e = .returned (.agg #[.iface (qfc f) (.agg #[]), .int .u8 (mbits f)]) ∧ Below w.heap.size w w' := by
  by_cases h : f < 0 ∨ 9 < f
  · exact interfaceOfNo f h w
  have hk : f = 0 ∨ f = 1 ∨ f = 2 ∨ f = 3 ∨ f = 4 ∨ f = 5 ∨ f = 6 ∨ f = 7 ∨ f = 8 ∨ f = 9 := by omega
  rcases hk with rfl | rfl | rfl | rfl | rfl | rfl | rfl | rfl | rfl | rfl
  · exact interfaceOf0 w
  · exact interfaceOf1 w
  · exact interfaceOf2 w
  · exact interfaceOf3 w
  · exact interfaceOf4 w
  · exact interfaceOf5 w
  · exact interfaceOf6 w
  · exact interfaceOf7 w
  · exact interfaceOf8 w
  · exact interfaceOf9 w

theorem impl_none (k f : Int) (h : f < 0 ∨ 9 < f) : impl k f = false := by
  have : mths f = [] := by
    unfold mths
    rw [if_neg (show ¬ f = 0 by omega)]
    rw [if_neg (show ¬ f = 1 by omega)]
    rw [if_neg (show ¬ f = 2 by omega)]
    rw [if_neg (show ¬ f = 3 by omega)]
    rw [if_neg (show ¬ f = 4 by omega)]
    rw [if_neg (show ¬ f = 5 by omega)]
    rw [if_neg (show ¬ f = 6 by omega)]
    rw [if_neg (show ¬ f = 7 by omega)]
    rw [if_neg (show ¬ f = 8 by omega)]
    rw [if_neg (show ¬ f = 9 by omega)]
  unfold impl
  rw [this]
  simp

end Go.Proofs.YthamafijjflfbaaGreat
/- The package's Implements: whether the kind has all the interface's methods; no condition. -/
namespace Go.Proofs.YthamafijjflfbaaGreat
open Go.RowKit

/-- A contract, held against an earlier world. -/
theorem since {P : Program} {f : Nat} {args : Array Value} {w wx : World} {R : Ending → Prop} (h : Calls P f args wx fun e w' => R e ∧ Below wx.heap.size wx w') (hx : Below w.heap.size w wx) : Calls P f args wx fun e w' => R e ∧ Below w.heap.size w w' :=
  h.mono fun _ _ ⟨a, b⟩ => ⟨a, hx.trans (b.mono hx.size)⟩
theorem sinceKd {P : Program} {f : Nat} {args : Array Value} {w wx : World} {k : Int} (h : Calls P f args wx fun e w' => ∃ u, e = .returned u ∧ Kd k u ∧ Below wx.heap.size wx w') (hx : Below w.heap.size w wx) : Calls P f args wx fun e w' => ∃ u, e = .returned u ∧ Kd k u ∧ Below w.heap.size w w' :=
  h.mono fun _ _ ⟨u, a, c, b⟩ => ⟨u, a, c, hx.trans (b.mono hx.size)⟩
theorem fld0 (Q : TypeId) (m : Int) (w : World) : (Instr.field 125 (.agg #[.iface Q (.agg #[]), .int .u8 m]) 0).run Tryz.prog w = .ok (.iface Q (.agg #[])) w := by kernel_rfl

/-- The question of type Q is asked by function F. -/
def Meth (Q F : Nat) : Prop := (∀ w : World, (method 320 Q (.agg #[]) "conduit/want.holds").run Tryz.prog w = .ok (F, .agg #[]) w) ∧ ∀ (args : Array Value) (w : World), (callFunc F args).run Tryz.prog w = .ok (.enter F args) w

/-- Of which kinds the type of a kind is asked with yes. -/
def tkd (m k : Int) : Bool := decide (1 ≤ m ∧ m ≤ 13) && (k == m || (m == 11 && k == 12))
end Go.Proofs.YthamafijjflfbaaGreat
/- A pattern's tree as it lies in memory, and what of it stays when new memory is made; each theorem names its conditions. -/
namespace Go.Proofs.YthamafijjflfbaaGreat
open Go.RowKit

/-- The pattern t lies in w behind the three cells cs. -/
def RepW (w : World) : (n : Nat) → List Value → Wt n → Prop
  | 0, _, _ => False
  | n + 1, cs, t => ∃ (ad : Option Addr) (cap : Nat), cs = [.int .i64 t.op, .int .i64 t.nm, .slice ad t.ks.length cap] ∧ t.ks.length ≤ cap ∧ cap ≤ maxLen ∧
      (t.ks = [] ∨ ∃ g o, ad = some ⟨g, o, none⟩ ∧ ∀ (j : Nat) (t' : Wt n), t.ks[j]? = some t' → ∃ v0 v1 v2, w.cell? ⟨g, o + j * 3, none⟩ = some v0 ∧ w.cell? ⟨g, o + j * 3 + 1, none⟩ = some v1 ∧ w.cell? ⟨g, o + j * 3 + 2, none⟩ = some v2 ∧ RepW w n [v0, v1, v2] t')

theorem RepW.below {w w' : World} (hb : Below w.heap.size w w') : ∀ (n : Nat) (cs : List Value) (t : Wt n), RepW w n cs t → RepW w' n cs t
  | 0, _, _, h => h
  | n + 1, cs, t, h => by
    obtain ⟨ad, cap, h1, h3, h4, h5⟩ := h
    refine ⟨ad, cap, h1, h3, h4, ?_⟩
    rcases h5 with h5 | ⟨g, o, h6, h7⟩
    · exact .inl h5
    · refine .inr ⟨g, o, h6, fun j t' hj => ?_⟩
      obtain ⟨v0, v1, v2, c0, c1, c2, r⟩ := h7 j t' hj
      have hg : g < w.heap.size := World.block_lt_of_cell? w _ c0
      exact ⟨v0, v1, v2, (hb.cell (p := ⟨g, _, none⟩) hg).trans c0, (hb.cell (p := ⟨g, _, none⟩) hg).trans c1, (hb.cell (p := ⟨g, _, none⟩) hg).trans c2, RepW.below hb n _ _ r⟩

/-- A pattern in a block of its own. -/
def P3 (w : World) (N : Nat) (v0 v1 v2 : Value) : Prop := w.heap[N]? = some (.cells #[v0, v1, v2] 51 (0, 0))
theorem P3.c {w : World} {N : Nat} {v0 v1 v2 : Value} (h : P3 w N v0 v1 v2) : w.cell? ⟨N, 0, none⟩ = some v0 ∧ w.cell? ⟨N, 1, none⟩ = some v1 ∧ w.cell? ⟨N, 2, none⟩ = some v2 := by
  unfold P3 at h; simp [World.cell?, h]
theorem P3.new (w : World) (v0 v1 v2 : Value) : P3 (w.alloc (.cells #[v0, v1, v2] 51)) w.heap.size v0 v1 v2 := by
  unfold P3; exact heap_alloc_new w _
theorem P3.lt {w : World} {N : Nat} {v0 v1 v2 : Value} (h : P3 w N v0 v1 v2) : N < w.heap.size := by
  unfold P3 at h; exact (Array.getElem?_eq_some_iff.1 h).1
theorem P3.below {w w' : World} {N : Nat} {v0 v1 v2 : Value} (h : P3 w N v0 v1 v2) (hb : Below w.heap.size w w') : P3 w' N v0 v1 v2 := by
  have := h.lt
  unfold P3 at h ⊢
  exact (hb.block N this).trans h
theorem repW_shape {w : World} {n : Nat} {v0 v1 v2 : Value} {t : Wt n} (h : RepW w n [v0, v1, v2] t) : ∃ (o m : Int) (ad : Option Addr) (len cap : Nat), v0 = .int .i64 o ∧ v1 = .int .i64 m ∧ v2 = .slice ad len cap := by
  match n, t, h with
  | n + 1, t, h =>
    obtain ⟨ad, cap, e, -, -, -⟩ := h
    simp only [List.cons.injEq, and_true] at e
    exact ⟨_, _, _, _, _, e⟩
end Go.Proofs.YthamafijjflfbaaGreat
