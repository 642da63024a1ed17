/- What an act comes to, by what the steps do; the conditions: what the steps come to. -/
import Derived.Test.YtajagjcfmaggiaaGreatDoorKBaa
import Derived.Laws.MakeOwn
namespace Go.Proofs.YtajagjcfmaggiaaGreatDoor
open Go.RowKit

set_option maxRecDepth 100000 in
set_option maxHeartbeats 1000000 in
theorem done_assert (ak ai au : Int) (az : ByteArray) (aa : Option Addr) (an ac : Nat) (bk bi bu : Int) (bs : ByteArray) (ba : Option Addr) (bn bc : Nat) (num : Int) (w : World) (H : Nat) (hH : w.heap.size + 2 ≤ H) (P : BodyP) (hP : St H P)
    (hM : ∀ wx, Below w.heap.size w wx → wx.heap.size = w.heap.size + 2 → Calls Tryz.prog 104 #[.agg #[.int .i64 ak, .int .i64 ai, .int .u64 au, .string az, .slice aa an ac], .int .i64 num] wx fun e w' => ∃ k i u s a n c, e = .returned (.agg #[.int .i64 k, .int .i64 i, .int .u64 u, .string s, .slice a n c]) ∧ P k i u s a n c w' ∧ Below wx.heap.size wx w') :
    Calls Tryz.prog 89 #[.agg (acs 2 ak ai au az aa an ac bk bi bu bs ba bn bc num)] w fun e w' => ∃ k i u s a n c, e = .returned (.agg (rcs 0 0 0 0 true k i u s a n c)) ∧ P k i u s a n c w' ∧ Below w.heap.size w w' := by
  have HM := Lib.hid hM
  have hP' := Lib.hid hP
  clear hM hP
  have GV : Hid (∀ (k i b : Int) (s : ByteArray) (ad : Option Addr) (len cap : Nat) (w : World), Calls Tryz.prog 103 #[.agg #[.int .i64 k, .int .i64 i, .int .u64 b, .string s, .slice ad len cap]] w fun e w' => e = .returned (.agg (rcs 0 0 0 0 true k i b s ad len cap)) ∧ Below w.heap.size w w') := gave_any
  have B0 := below2 w (.cells (acs 2 ak ai au az aa an ac bk bi bu bs ba bn bc num) 93) (.cells (rErr 0 0 0 0) 33)
  have R0 := Bk.new2 w (.cells (acs 2 ak ai au az aa an ac bk bi bu bs ba bn bc num) 93) (rErr 0 0 0 0) 33
  go_enter Tryz.func89, Tryz.ntmps89
  go_wp2_with fail
  refine (HM.out _ B0 (by simp)).mono ?_
  rintro e w1 ⟨k, i, u, s, a, n, c, rfl, p0, b1⟩
  have p1 := Lib.hid p0
  have B1 := B0.trans (b1.mono B0.size)
  have R1 := R0.step b1
  clear p0 b1 B0 R0
  go_wp2_with fail
  refine (GV.out k i u s a n c _).mono ?_
  rintro e w2 ⟨rfl, b2⟩
  have r2 := R1.step b2
  have B2 := B1.trans (b2.mono B1.size)
  have PP := Lib.hid (hP'.out.below p1.out b2)
  clear p1 R1 b2 B1
  obtain ⟨c0, c1, c2, c3, c4, c5, c6, c7, c8, c9⟩ := r2.c10
  have z2 := r2.f
  go_wp2_with fail
  obtain ⟨k1, k2, k3, k4⟩ := set10 r2 (.int .i64 0) (.int .i64 0) (.int .i64 0) (.int .i64 0) (.bool true) (.int .i64 k) (.int .i64 i) (.int .u64 u) (.string s) (.slice a n c) rfl
  have KP := Lib.hid (hP'.out _ _ _ _ _ _ _ w2 _ PP.out (Nat.le_of_eq k2.symm) fun g hg _ => k3 g (by omega))
  have KF := B2.trans (k4.mono (by omega))
  obtain ⟨q0, q1, q2, q3, q4, q5, q6, q7, q8, q9⟩ := k1.c10
  refine bodyPost_ret (v := .agg (rcs 0 0 0 0 true k i u s a n c)) ?_ rfl ⟨k, i, u, s, a, n, c, rfl, KP.out, KF⟩
  simp [results, Tryz.results89, go_sem, q0, q1, q2, q3, q4, q5, q6, q7, q8, q9]

set_option maxRecDepth 100000 in
set_option maxHeartbeats 1000000 in
theorem done_assert_no (ak ai au : Int) (az : ByteArray) (aa : Option Addr) (an ac : Nat) (bk bi bu : Int) (bs : ByteArray) (ba : Option Addr) (bn bc : Nat) (num : Int) (w : World)
    (hM : ∀ wx, Below w.heap.size w wx → Calls Tryz.prog 104 #[.agg #[.int .i64 ak, .int .i64 ai, .int .u64 au, .string az, .slice aa an ac], .int .i64 num] wx fun e w' => Pn 182 (.int .i64 ak) e ∧ Below wx.heap.size wx w') :
    Calls Tryz.prog 89 #[.agg (acs 2 ak ai au az aa an ac bk bi bu bs ba bn bc num)] w fun e w' => Pn 182 (.int .i64 ak) e ∧ Below w.heap.size w w' := by
  have HM := Lib.hid hM
  clear hM
  have B0 := below2 w (.cells (acs 2 ak ai au az aa an ac bk bi bu bs ba bn bc num) 93) (.cells (rErr 0 0 0 0) 33)
  go_enter Tryz.func89, Tryz.ntmps89
  go_wp2_with fail
  refine (HM.out _ B0).mono ?_
  rintro e w1 ⟨⟨older, rfl, ho⟩, b1⟩
  have B1 := B0.trans (b1.mono B0.size)
  go_wp2_with fail
  exact ⟨rfl, ⟨older, rfl, ho⟩, B1⟩

set_option maxRecDepth 100000 in
set_option maxHeartbeats 1000000 in
theorem done_face_no (ak ai au : Int) (az : ByteArray) (aa : Option Addr) (an ac : Nat) (bk bi bu : Int) (bs : ByteArray) (ba : Option Addr) (bn bc : Nat) (num : Int) (m : Int) (w : World)
    (hM : ∀ wx, Below w.heap.size w wx → Calls Tryz.prog 105 #[.agg #[.int .i64 ak, .int .i64 ai, .int .u64 au, .string az, .slice aa an ac], .int .i64 num] wx fun e w' => Pn 182 (.int .i64 m) e ∧ Below wx.heap.size wx w') :
    Calls Tryz.prog 89 #[.agg (acs 3 ak ai au az aa an ac bk bi bu bs ba bn bc num)] w fun e w' => Pn 182 (.int .i64 m) e ∧ Below w.heap.size w w' := by
  have HM := Lib.hid hM
  clear hM
  have B0 := below2 w (.cells (acs 3 ak ai au az aa an ac bk bi bu bs ba bn bc num) 93) (.cells (rErr 0 0 0 0) 33)
  go_enter Tryz.func89, Tryz.ntmps89
  go_wp2_with fail
  refine (HM.out _ B0).mono ?_
  rintro e w1 ⟨⟨older, rfl, ho⟩, b1⟩
  have B1 := B0.trans (b1.mono B0.size)
  go_wp2_with fail
  exact ⟨rfl, ⟨older, rfl, ho⟩, B1⟩

set_option maxRecDepth 100000 in
set_option maxHeartbeats 1000000 in
theorem done_face (ak ai au : Int) (az : ByteArray) (aa : Option Addr) (an ac : Nat) (bk bi bu : Int) (bs : ByteArray) (ba : Option Addr) (bn bc : Nat) (num : Int) (w : World) (H : Nat) (hH : w.heap.size + 2 ≤ H) (P : BodyP) (hP : St H P)
    (hF : ∀ wx, Below w.heap.size w wx → wx.heap.size = w.heap.size + 2 → Calls Tryz.prog 105 #[.agg #[.int .i64 ak, .int .i64 ai, .int .u64 au, .string az, .slice aa an ac], .int .i64 num] wx fun e w' => e = .returned (.tuple #[]) ∧ Below wx.heap.size wx w')
    (hM : ∀ wx, Below w.heap.size w wx → w.heap.size + 2 ≤ wx.heap.size → Calls Tryz.prog 36 #[.agg #[.int .i64 ak, .int .i64 ai, .int .u64 au, .string az, .slice aa an ac]] wx fun e w' => ∃ k i u s a n c, e = .returned (.agg #[.int .i64 k, .int .i64 i, .int .u64 u, .string s, .slice a n c]) ∧ P k i u s a n c w' ∧ Below wx.heap.size wx w') :
    Calls Tryz.prog 89 #[.agg (acs 3 ak ai au az aa an ac bk bi bu bs ba bn bc num)] w fun e w' => ∃ k i u s a n c, e = .returned (.agg (rcs 0 0 0 0 true k i u s a n c)) ∧ P k i u s a n c w' ∧ Below w.heap.size w w' := by
  have HM := Lib.hid hM
  have HF := Lib.hid hF
  have hP' := Lib.hid hP
  clear hM hP hF
  have GV : Hid (∀ (k i b : Int) (s : ByteArray) (ad : Option Addr) (len cap : Nat) (w : World), Calls Tryz.prog 103 #[.agg #[.int .i64 k, .int .i64 i, .int .u64 b, .string s, .slice ad len cap]] w fun e w' => e = .returned (.agg (rcs 0 0 0 0 true k i b s ad len cap)) ∧ Below w.heap.size w w') := gave_any
  have B0 := below2 w (.cells (acs 3 ak ai au az aa an ac bk bi bu bs ba bn bc num) 93) (.cells (rErr 0 0 0 0) 33)
  have A0 : Bk ((w.alloc (.cells (acs 3 ak ai au az aa an ac bk bi bu bs ba bn bc num) 93)).alloc (.cells (rErr 0 0 0 0) 33)) w.heap.size (acs 3 ak ai au az aa an ac bk bi bu bs ba bn bc num) 93 := (Bk.new w _ _).alloc _
  have R0 := Bk.new2 w (.cells (acs 3 ak ai au az aa an ac bk bi bu bs ba bn bc num) 93) (rErr 0 0 0 0) 33
  go_enter Tryz.func89, Tryz.ntmps89
  go_wp2_with fail
  refine (HF.out _ B0 (by simp)).mono ?_
  rintro e w0 ⟨rfl, b0⟩
  have A1 := A0.step b0
  have R1' := R0.step b0
  have B0' := B0.trans (b0.mono B0.size)
  have hs0 : w.heap.size + 2 ≤ w0.heap.size := by have := b0.size; simpa using this
  clear b0 B0 R0 A0
  obtain ⟨c0, c1, c2, c3, c4, c5, c6, c7, c8, c9, c10, c11⟩ := A1.c12
  go_wp2_with fail
  refine (HM.out _ B0' hs0).mono ?_
  rintro e w1 ⟨k, i, u, s, a, n, c, rfl, p0, b1⟩
  have p1 := Lib.hid p0
  have B1 := B0'.trans (b1.mono B0'.size)
  have R1 := R1'.step b1
  clear p0 b1 B0' R1' c0 c1 c2 c3 c4 c5 c6 c7 c8 c9 c10 c11 A1
  go_wp2_with fail
  refine (GV.out k i u s a n c _).mono ?_
  rintro e w2 ⟨rfl, b2⟩
  have r2 := R1.step b2
  have B2 := B1.trans (b2.mono B1.size)
  have PP := Lib.hid (hP'.out.below p1.out b2)
  clear p1 R1 b2 B1
  obtain ⟨c0, c1, c2, c3, c4, c5, c6, c7, c8, c9⟩ := r2.c10
  have z2 := r2.f
  go_wp2_with fail
  obtain ⟨k1, k2, k3, k4⟩ := set10 r2 (.int .i64 0) (.int .i64 0) (.int .i64 0) (.int .i64 0) (.bool true) (.int .i64 k) (.int .i64 i) (.int .u64 u) (.string s) (.slice a n c) rfl
  have KP := Lib.hid (hP'.out _ _ _ _ _ _ _ w2 _ PP.out (Nat.le_of_eq k2.symm) fun g hg _ => k3 g (by omega))
  have KF := B2.trans (k4.mono (by omega))
  obtain ⟨q0, q1, q2, q3, q4, q5, q6, q7, q8, q9⟩ := k1.c10
  refine bodyPost_ret (v := .agg (rcs 0 0 0 0 true k i u s a n c)) ?_ rfl ⟨k, i, u, s, a, n, c, rfl, KP.out, KF⟩
  simp [results, Tryz.results89, go_sem, q0, q1, q2, q3, q4, q5, q6, q7, q8, q9]

set_option maxRecDepth 100000 in
set_option maxHeartbeats 1000000 in
theorem done_size (ak ai au : Int) (az : ByteArray) (aa : Option Addr) (an ac : Nat) (bk bi bu : Int) (bs : ByteArray) (ba : Option Addr) (bn bc : Nat) (num : Int) (w : World) (er : Int) (has : Bool) (H : Nat) (hH : w.heap.size + 2 ≤ H) (P : BodyP) (hP : St H P)
    (hM : ∀ wx, Below w.heap.size w wx → wx.heap.size = w.heap.size + 2 → Calls Tryz.prog 110 #[.agg #[.int .i64 ak, .int .i64 ai, .int .u64 au, .string az, .slice aa an ac]] wx fun e w' => ∃ k i u s a n c, e = .returned (.agg (rcs er 0 0 0 has k i u s a n c)) ∧ P k i u s a n c w' ∧ Below wx.heap.size wx w') :
    Calls Tryz.prog 89 #[.agg (acs 10 ak ai au az aa an ac bk bi bu bs ba bn bc num)] w fun e w' => ∃ k i u s a n c, e = .returned (.agg (rcs er 0 0 0 has k i u s a n c)) ∧ P k i u s a n c w' ∧ Below w.heap.size w w' := by
  have HM := Lib.hid hM
  have hP' := Lib.hid hP
  clear hM hP
  have B0 := below2 w (.cells (acs 10 ak ai au az aa an ac bk bi bu bs ba bn bc num) 93) (.cells (rErr 0 0 0 0) 33)
  have R0 := Bk.new2 w (.cells (acs 10 ak ai au az aa an ac bk bi bu bs ba bn bc num) 93) (rErr 0 0 0 0) 33
  go_enter Tryz.func89, Tryz.ntmps89
  go_wp2_with fail
  refine (HM.out _ B0 (by simp)).mono ?_
  rintro e w1 ⟨k, i, u, s, a, n, c, rfl, p0, b1⟩
  have PP := Lib.hid p0
  have B2 := B0.trans (b1.mono B0.size)
  have r2 := R0.step b1
  clear p0 b1 B0 R0
  obtain ⟨c0, c1, c2, c3, c4, c5, c6, c7, c8, c9⟩ := r2.c10
  have z2 := r2.f
  go_wp2_with fail
  obtain ⟨k1, k2, k3, k4⟩ := set10 r2 (.int .i64 er) (.int .i64 0) (.int .i64 0) (.int .i64 0) (.bool has) (.int .i64 k) (.int .i64 i) (.int .u64 u) (.string s) (.slice a n c) rfl
  have KP := Lib.hid (hP'.out _ _ _ _ _ _ _ w1 _ PP.out (Nat.le_of_eq k2.symm) fun g hg _ => k3 g (by omega))
  have KF := B2.trans (k4.mono (by omega))
  obtain ⟨q0, q1, q2, q3, q4, q5, q6, q7, q8, q9⟩ := k1.c10
  refine bodyPost_ret (v := .agg (rcs er 0 0 0 has k i u s a n c)) ?_ rfl ⟨k, i, u, s, a, n, c, rfl, KP.out, KF⟩
  simp [results, Tryz.results89, go_sem, q0, q1, q2, q3, q4, q5, q6, q7, q8, q9]
end Go.Proofs.YtajagjcfmaggiaaGreatDoor
/- Plain trees of a value's parts, and four plain functions on them: the document's count and its look at each part, the package's one walk that counts down, and the package's parts and depth: they say the same. No program, no condition but those that each theorem names. -/
namespace Go.Proofs.YtajagjcfmaggiaaGreatDoor.Dt

/-- Values of depth n at most. -/
def Tr : Nat → Type
  | 0 => Empty
  | n + 1 => Int × Int × Int × ByteArray × List (Tr n)

def Tr.kd {n : Nat} (t : Tr (n + 1)) : Int := (show Int × Int × Int × ByteArray × List (Tr n) from t).1
def Tr.it {n : Nat} (t : Tr (n + 1)) : Int := (show Int × Int × Int × ByteArray × List (Tr n) from t).2.1
def Tr.ut {n : Nat} (t : Tr (n + 1)) : Int := (show Int × Int × Int × ByteArray × List (Tr n) from t).2.2.1
def Tr.tx {n : Nat} (t : Tr (n + 1)) : ByteArray := (show Int × Int × Int × ByteArray × List (Tr n) from t).2.2.2.1
def Tr.ks {n : Nat} (t : Tr (n + 1)) : List (Tr n) := (show Int × Int × Int × ByteArray × List (Tr n) from t).2.2.2.2

/-- One part by itself, as the document's table has it. -/
def okB (k i u : Int) (sz len : Nat) : Bool :=
  if k = 0 ∨ k = 12 ∨ k = 13 then decide (i = 0 ∧ u = 0 ∧ sz = 0 ∧ len = 0)
  else if k = 1 ∨ k = 2 then decide (u = 0 ∧ sz = 0 ∧ len = 0)
  else if k = 6 then decide ((i = 0 ∨ i = 1) ∧ u = 0 ∧ sz = 0 ∧ len = 0)
  else if k = 3 then decide (i = 0 ∧ sz = 0 ∧ len = 0)
  else if k = 4 ∨ k = 5 ∨ k = 7 then decide (i = 0 ∧ u = 0 ∧ len = 0 ∧ sz ≤ 65535)
  else if k = 8 then decide (i = 0 ∧ u = 0 ∧ sz = 0)
  else if k = 9 then decide (i = 0 ∧ u = 0 ∧ sz = 0 ∧ len = 2)
  else if k = 10 then decide (u = 0 ∧ len = 0 ∧ sz ≤ 65535)
  else if k = 11 then decide (1 ≤ i ∧ u = 0 ∧ sz = 0 ∧ len = 1)
  else false
def Tr.ok {n : Nat} (t : Tr (n + 1)) : Bool := okB t.kd t.it t.ut t.tx.size t.ks.length

/-- The document's look at each part. -/
def rgt : (n : Nat) → Tr n → Bool
  | 0, t => t.elim
  | n + 1, t => t.ok && t.ks.all (rgt n)

/-- The document's count over a row of parts. -/
def cntL {T : Type} (c : T → Int → Int × Int) (left : Int) : List T → Int → Int → Int × Int
  | [], m, most => (m, most)
  | t :: ts, m, most => if left < m + (c t (left - m)).1 ∨ 16 < max most (c t (left - m)).2 then (4097, max most (c t (left - m)).2) else cntL c left ts (m + (c t (left - m)).1) (max most (c t (left - m)).2)
def cnt : Nat → (n : Nat) → Tr n → Int → Int → Int × Int
  | 0, _, _, deep, _ => (4097, deep)
  | _ + 1, 0, t, _, _ => t.elim
  | f + 1, n + 1, t, deep, left => if left ≤ 0 then (4097, deep) else cntL (fun t l => cnt f n t (deep + 1) l) left t.ks 1 deep

/-- The package's walk that counts down. -/
def vwL {T : Type} (c : T → Int → Bool × Int) : List T → Int → Bool × Int
  | [], l => (true, l)
  | t :: ts, l => if (c t l).1 = true then vwL c ts (c t l).2 else (false, (c t l).2)
def vw : Nat → (n : Nat) → Tr n → Int → Bool × Int
  | 0, _, _, left => (false, left)
  | _ + 1, 0, t, _ => t.elim
  | f + 1, n + 1, t, left => if left = 0 ∨ t.ok = false then (false, left) else vwL (fun t l => vw f n t l) t.ks (left - 1)

/-- The package's parts and depth. -/
def ptsL {T : Type} (c : T → Int × Int) : List T → Int → Int → Int × Int
  | [], p, d => (p, d + 1)
  | t :: ts, p, d => ptsL c ts (p + (c t).1) (max d (c t).2)
def pts : (n : Nat) → Tr n → Int × Int
  | 0, t => t.elim
  | n + 1, t => ptsL (pts n) t.ks 1 0

/-- What the four say of one value, at one depth and with so many left. -/
structure Say (c : Int × Int) (v : Bool × Int) (r : Bool) (p : Int × Int) (deep left : Int) : Prop where
  down : v.1 = true → r = true ∧ c.1 ≠ 4097 ∧ v.2 = left - c.1
  up : c.1 ≠ 4097 → r = true → v.1 = true
  fit : c.1 ≠ 4097 → p = (c.1, c.2 - deep + 1) ∧ 1 ≤ c.1 ∧ c.1 ≤ left ∧ c.2 ≤ 16 ∧ deep ≤ c.2

theorem say_row {T : Type} (c : T → Int → Int × Int) (v : T → Int → Bool × Int) (r : T → Bool) (p : T → Int × Int) (deep left : Int) (hl : left ≤ 4096)
    (ih : ∀ t l, 0 ≤ l → l ≤ 4096 → Say (c t l) (v t l) (r t) (p t) (deep + 1) l) :
    ∀ (ts : List T) (m most : Int), 1 ≤ m → m ≤ left → deep ≤ most → most ≤ 16 →
      Say (cntL c left ts m most) (vwL v ts (left - m)) (ts.all r) (ptsL p ts m (most - deep)) deep left := by
  intro ts
  induction ts with
  | nil =>
    intro m most h1 h2 h3 h4
    refine ⟨fun _ => ⟨rfl, by simp [cntL]; omega, by simp [vwL, cntL]⟩, fun _ _ => rfl, fun _ => ⟨by simp [ptsL, cntL], by simp [cntL]; omega, by simp [cntL]; omega, by simp [cntL]; omega, by simp [cntL]; omega⟩⟩
  | cons t ts IH =>
    intro m most h1 h2 h3 h4
    have S := ih t (left - m) (by omega) (by omega)
    simp only [cntL, vwL, ptsL, List.all_cons]
    generalize c t (left - m) = C at S
    generalize v t (left - m) = V at S
    generalize p t = Q at S
    by_cases hC : C.1 = 4097
    · have hbad : left < m + C.1 ∨ 16 < max most C.2 := by omega
      rw [if_pos hbad]
      have hV : ¬ V.1 = true := fun h => (S.down h).2.1 hC
      rw [if_neg hV]
      exact ⟨fun h => by simp at h, fun h => absurd rfl h, fun h => absurd rfl h⟩
    · obtain ⟨f1, f2, f3, f4, f5⟩ := S.fit hC
      have hgood : ¬ (left < m + C.1 ∨ 16 < max most C.2) := by omega
      rw [if_neg hgood]
      have hQ : max (most - deep) Q.2 = max most C.2 - deep := by rw [f1]; omega
      have hQ1 : m + Q.1 = m + C.1 := by rw [f1]
      rw [hQ, hQ1]
      have N := IH (m + C.1) (max most C.2) (by omega) (by omega) (by omega) (by omega)
      by_cases hV : V.1 = true
      · obtain ⟨d1, d2, d3⟩ := S.down hV
        rw [if_pos hV, d3, d1, Bool.true_and]
        rw [show left - m - C.1 = left - (m + C.1) from by omega]
        exact N
      · rw [if_neg hV]
        have hr : r t = false := by
          cases e : r t with
          | false => rfl
          | true => exact absurd (S.up hC e) hV
        rw [hr]
        exact ⟨fun h => by simp at h, fun _ h => by simp at h, N.fit⟩

theorem say : ∀ (f n : Nat) (t : Tr n) (deep left : Int), deep + f = 17 → 0 ≤ left → left ≤ 4096 →
    Say (cnt f n t deep left) (vw f n t left) (rgt n t) (pts n t) deep left := by
  intro f
  induction f with
  | zero => intro n t deep left _ _ _; exact ⟨fun h => by simp [vw] at h, fun h => absurd rfl h, fun h => absurd rfl h⟩
  | succ f ih =>
    intro n t deep left hd h0 hl
    match n, t with
    | 0, t => exact t.elim
    | n + 1, t =>
      simp only [cnt, vw, rgt, pts]
      by_cases hz : left ≤ 0
      · have hz' : left = 0 := by omega
        rw [if_pos hz, if_pos (Or.inl hz')]
        exact ⟨fun h => by simp at h, fun h => absurd rfl h, fun h => absurd rfl h⟩
      · rw [if_neg hz]
        have R := say_row (fun t l => cnt f n t (deep + 1) l) (fun t l => vw f n t l) (rgt n) (pts n) deep left hl (fun t l h1 h2 => ih n t (deep + 1) l (by omega) h1 h2) t.ks 1 deep (by omega) (by omega) (Int.le_refl _) (by omega)
        rw [show deep - deep = 0 from by omega] at R
        cases ho : t.ok with
        | true =>
          rw [if_neg (by simp; omega), Bool.true_and]
          exact R
        | false =>
          rw [if_pos (Or.inr rfl), Bool.false_and]
          exact ⟨fun h => by simp at h, fun _ h => by simp at h, R.fit⟩

theorem cntL_bd {T : Type} (c : T → Int → Int × Int) (deep left : Int) (hl : left ≤ 4096) (ih : ∀ t l, l ≤ 4096 → 1 ≤ (c t l).1 ∧ (c t l).1 ≤ 4097 ∧ deep + 1 ≤ (c t l).2 ∧ (c t l).2 ≤ 17) :
    ∀ (ts : List T) (m most : Int), 1 ≤ m → m ≤ 4096 → deep ≤ most → most ≤ 17 → 1 ≤ (cntL c left ts m most).1 ∧ (cntL c left ts m most).1 ≤ 4097 ∧ deep ≤ (cntL c left ts m most).2 ∧ (cntL c left ts m most).2 ≤ 17 := by
  intro ts
  induction ts with
  | nil => intro m most h1 h2 h3 h4; simp only [cntL]; omega
  | cons t ts IH =>
    intro m most h1 h2 h3 h4
    have S := ih t (left - m) (by omega)
    simp only [cntL]
    generalize c t (left - m) = C at S
    by_cases hb : left < m + C.1 ∨ 16 < max most C.2
    · rw [if_pos hb]; show 1 ≤ (4097 : Int) ∧ (4097 : Int) ≤ 4097 ∧ deep ≤ max most C.2 ∧ max most C.2 ≤ 17; omega
    · rw [if_neg hb]; exact IH _ _ (by omega) (by omega) (by omega) (by omega)

theorem cnt_bd : ∀ (f n : Nat) (t : Tr n) (deep left : Int), deep + f = 17 → left ≤ 4096 → 1 ≤ (cnt f n t deep left).1 ∧ (cnt f n t deep left).1 ≤ 4097 ∧ deep ≤ (cnt f n t deep left).2 ∧ (cnt f n t deep left).2 ≤ 17 := by
  intro f
  induction f with
  | zero => intro n t deep left hd hl; simp only [cnt]; omega
  | succ f ih =>
    intro n t deep left hd hl
    match n, t with
    | 0, t => exact t.elim
    | n + 1, t =>
      simp only [cnt]
      by_cases hz : left ≤ 0
      · rw [if_pos hz]; show 1 ≤ (4097 : Int) ∧ (4097 : Int) ≤ 4097 ∧ deep ≤ deep ∧ deep ≤ 17; omega
      · rw [if_neg hz]; exact cntL_bd _ deep left hl (fun t l h => ih n t (deep + 1) l (by omega) h) _ 1 deep (by omega) (by omega) (Int.le_refl _) (by omega)

theorem vwL_bd {T : Type} (c : T → Int → Bool × Int) (ih : ∀ t l, 0 ≤ l → 0 ≤ (c t l).2 ∧ (c t l).2 ≤ l) : ∀ (ts : List T) (l : Int), 0 ≤ l → 0 ≤ (vwL c ts l).2 ∧ (vwL c ts l).2 ≤ l := by
  intro ts
  induction ts with
  | nil => intro l h; exact ⟨h, Int.le_refl _⟩
  | cons t ts IH =>
    intro l h
    have S := ih t l h
    simp only [vwL]
    by_cases hb : (c t l).1 = true
    · rw [if_pos hb]; have := IH (c t l).2 S.1; omega
    · rw [if_neg hb]; exact S
theorem vw_bd : ∀ (f n : Nat) (t : Tr n) (left : Int), 0 ≤ left → 0 ≤ (vw f n t left).2 ∧ (vw f n t left).2 ≤ left := by
  intro f
  induction f with
  | zero => intro n t left h; exact ⟨h, Int.le_refl _⟩
  | succ f ih =>
    intro n t left h
    match n, t with
    | 0, t => exact t.elim
    | n + 1, t =>
      simp only [vw]
      by_cases hb : left = 0 ∨ t.ok = false
      · rw [if_pos hb]; exact ⟨h, Int.le_refl _⟩
      · rw [if_neg hb]
        have := vwL_bd (fun t l => vw f n t l) (fun t l h => ih n t l h) t.ks (left - 1) (by omega)
        omega
theorem vwL_cons {T : Type} (c : T → Int → Bool × Int) (t : T) (ts : List T) (l : Int) : vwL c (t :: ts) l = if (c t l).1 = true then vwL c ts (c t l).2 else (false, (c t l).2) := rfl
theorem cntL_cons {T : Type} (c : T → Int → Int × Int) (left : Int) (t : T) (ts : List T) (m most : Int) :
    cntL c left (t :: ts) m most = if left < m + (c t (left - m)).1 ∨ 16 < max most (c t (left - m)).2 then (4097, max most (c t (left - m)).2) else cntL c left ts (m + (c t (left - m)).1) (max most (c t (left - m)).2) := rfl
theorem drop_at {T : Type} (l : List T) (j : Nat) (h : j < l.length) : l.drop j = l[j] :: l.drop (j + 1) := List.drop_eq_getElem_cons h
end Go.Proofs.YtajagjcfmaggiaaGreatDoor.Dt
/- A value's tree as it lies in memory, what of it stays when new memory is made, and the document's count of it; each theorem names its conditions. -/
namespace Go.Proofs.YtajagjcfmaggiaaGreatDoor.Dt
open Go.RowKit

/-- A Datum in a block of its own. -/
def D5 (w : World) (N : Nat) (v0 v1 v2 v3 v4 : Value) : Prop := w.heap[N]? = some (.cells #[v0, v1, v2, v3, v4] 25 (0, 0))
theorem D5.kept {w w' : World} {N b : Nat} {v0 v1 v2 v3 v4 : Value} (h : D5 w N v0 v1 v2 v3 v4) (hg : w.grownBy w' (some b)) (hne : N ≠ b) : D5 w' N v0 v1 v2 v3 v4 := by
  unfold D5 at h ⊢
  rw [hg.block N (Array.getElem?_eq_some_iff.1 h).1 (fun e => hne (Option.some.inj e))]; exact h
theorem D5.c {w : World} {N : Nat} {v0 v1 v2 v3 v4 : Value} (h : D5 w N v0 v1 v2 v3 v4) :
    w.cell? ⟨N, 0, none⟩ = some v0 ∧ w.cell? ⟨N, 1, none⟩ = some v1 ∧ w.cell? ⟨N, 2, none⟩ = some v2 ∧ w.cell? ⟨N, 3, none⟩ = some v3 ∧ w.cell? ⟨N, 4, none⟩ = some v4 := by
  unfold D5 at h; simp [World.cell?, h]
theorem D5.f {w : World} {N o : Nat} {v0 v1 v2 v3 v4 : Value} (h : D5 w N v0 v1 v2 v3 v4) : w.frozen? ⟨N, o, none⟩ = false := by
  unfold D5 at h; simp [World.frozen?, h]
theorem D5.new (w : World) (v0 v1 v2 v3 v4 : Value) : D5 (w.alloc (.cells #[v0, v1, v2, v3, v4] 25)) w.heap.size v0 v1 v2 v3 v4 := by
  unfold D5; exact heap_alloc_new w _
theorem D5.lt {w : World} {N : Nat} {v0 v1 v2 v3 v4 : Value} (h : D5 w N v0 v1 v2 v3 v4) : N < w.heap.size := by
  unfold D5 at h; exact (Array.getElem?_eq_some_iff.1 h).1
theorem D5.below {w w' : World} {N : Nat} {v0 v1 v2 v3 v4 : Value} (h : D5 w N v0 v1 v2 v3 v4) (hb : Below w.heap.size w w') : D5 w' N v0 v1 v2 v3 v4 := by
  have := h.lt
  unfold D5 at h ⊢
  exact (hb.block N this).trans h
theorem nil_size (s : ByteArray) : s.toList = [] ↔ s.size = 0 := by
  rw [ByteArray.toList_eq, ← List.length_eq_zero_iff, Array.length_toList]; exact Iff.rfl

/-- The tree t lies in w behind the five cells cs. -/
def Rep (w : World) : (n : Nat) → List Value → Tr n → Prop
  | 0, _, _ => False
  | n + 1, cs, t => ∃ (ad : Option Addr) (cap : Nat), cs = [.int .i64 t.kd, .int .i64 t.it, .int .u64 t.ut, .string t.tx, .slice ad t.ks.length cap] ∧ t.tx.size ≤ maxLen ∧ t.ks.length ≤ cap ∧ cap ≤ maxLen ∧
      (t.ks = [] ∨ ∃ g o, ad = some ⟨g, o, none⟩ ∧ ∀ (j : Nat) (t' : Tr n), t.ks[j]? = some t' → ∃ v0 v1 v2 v3 v4, w.cell? ⟨g, o + j * 5, none⟩ = some v0 ∧ w.cell? ⟨g, o + j * 5 + 1, none⟩ = some v1 ∧ w.cell? ⟨g, o + j * 5 + 2, none⟩ = some v2 ∧ w.cell? ⟨g, o + j * 5 + 3, none⟩ = some v3 ∧ w.cell? ⟨g, o + j * 5 + 4, none⟩ = some v4 ∧ Rep w n [v0, v1, v2, v3, v4] t')

theorem Rep.below {w w' : World} (hb : Below w.heap.size w w') : ∀ (n : Nat) (cs : List Value) (t : Tr n), Rep w n cs t → Rep w' n cs t
  | 0, _, _, h => h
  | n + 1, cs, t, h => by
    obtain ⟨ad, cap, h1, h2, h3, h4, h5⟩ := h
    refine ⟨ad, cap, h1, h2, h3, h4, ?_⟩
    rcases h5 with h5 | ⟨g, o, h6, h7⟩
    · exact .inl h5
    · refine .inr ⟨g, o, h6, fun j t' hj => ?_⟩
      obtain ⟨v0, v1, v2, v3, v4, c0, c1, c2, c3, c4, r⟩ := h7 j t' hj
      have hg : g < w.heap.size := World.block_lt_of_cell? w _ c0
      exact ⟨v0, v1, v2, v3, v4, (hb.cell (p := ⟨g, _, none⟩) hg).trans c0, (hb.cell (p := ⟨g, _, none⟩) hg).trans c1, (hb.cell (p := ⟨g, _, none⟩) hg).trans c2, (hb.cell (p := ⟨g, _, none⟩) hg).trans c3, (hb.cell (p := ⟨g, _, none⟩) hg).trans c4, Rep.below hb n _ _ r⟩

set_option maxRecDepth 100000 in
set_option maxHeartbeats 1000000 in
theorem count_any (f : Nat) : ∀ (n : Nat) (t : Tr n) (v0 v1 v2 v3 v4 : Value) (deep left : Int) (w : World), Rep w n [v0, v1, v2, v3, v4] t → deep + f = 17 → 1 ≤ deep → left ≤ 4096 → -10000 ≤ left →
    Calls Tryz.prog 21 #[.agg #[v0, v1, v2, v3, v4], .int .i64 deep, .int .i64 left] w fun e w' => e = .returned (.tuple #[.int .i64 (cnt f n t deep left).1, .int .i64 (cnt f n t deep left).2]) ∧ Below w.heap.size w w' := by
  induction f with
  | zero =>
    intro n t v0 v1 v2 v3 v4 deep left w h hd hd1 hl hl0
    match n, t, h with
    | n + 1, t, h =>
      obtain ⟨ad, cap, e, -, -, -, -⟩ := h
      simp only [List.cons.injEq, and_true] at e
      obtain ⟨rfl, rfl, rfl, rfl, rfl⟩ := e
      have hgt : 16 < deep := by omega
      simp only [cnt]
      go_enter Tryz.func21, Tryz.ntmps21
      go_wp2
      go_ret2
      exact ⟨rfl, (Below.refl _ w).alloc (Nat.le_refl _) _⟩
  | succ f ih =>
    intro n t v0 v1 v2 v3 v4 deep left w h hd hd1 hl hl0
    match n, t, h with
    | n + 1, t, h =>
      have hr := h
      obtain ⟨ad, cap, e, htx, hlen, hcap, hk⟩ := h
      simp only [List.cons.injEq, and_true] at e
      obtain ⟨rfl, rfl, rfl, rfl, rfl⟩ := e
      have hgt : ¬ 16 < deep := by omega
      by_cases hz : left ≤ 0
      · simp only [cnt, if_pos hz]
        go_enter Tryz.func21, Tryz.ntmps21
        go_wp2
        go_ret2
        exact ⟨rfl, (Below.refl _ w).alloc (Nat.le_refl _) _⟩
      · simp only [cnt, if_neg hz]
        have HI := Lib.hid ih
        clear ih
        have HK := Lib.hid hk
        clear hk
        unfold maxLen at hcap
        have d0 := D5.new w (.int .i64 t.kd) (.int .i64 t.it) (.int .u64 t.ut) (.string t.tx) (.slice ad t.ks.length cap)
        generalize hcc : (fun (t : Tr n) l => cnt f n t (deep + 1) l) = cc
        have HC := Lib.hid hcc
        clear hcc
        go_enter Tryz.func21, Tryz.ntmps21
        go_wp2_with fail
        go_loopw [8, 9, 24] (fun sn sm si wr => ∃ (j : Nat) (m most : Int), sn = .int .i64 m ∧ sm = .int .i64 most ∧ si = .int .i64 j ∧ j ≤ t.ks.length ∧ cntL cc left (t.ks.drop j) m most = cntL cc left t.ks 1 deep ∧ 1 ≤ m ∧ m ≤ left ∧ deep ≤ most ∧ most ≤ 16 ∧ Below (w.heap.size + 1) (w.alloc (.cells #[.int .i64 t.kd, .int .i64 t.it, .int .u64 t.ut, .string t.tx, .slice ad t.ks.length cap] 25)) wr) (fun _ _ si _ => t.ks.length - (intOf si).toNat)
        case atStart => exact ⟨0, 1, deep, rfl, rfl, rfl, Nat.zero_le _, rfl, by omega, by omega, Int.le_refl _, by omega, Below.refl _ _⟩
        case round =>
          obtain ⟨j, m, most, rfl, rfl, rfl, hj, hinv, hm1, hm2, hd2, hd3, hb⟩ := hrel
          have HV := Lib.hid hinv
          clear hinv
          have dr : D5 wr w.heap.size (.int .i64 t.kd) (.int .i64 t.it) (.int .u64 t.ut) (.string t.tx) (.slice ad t.ks.length cap) := (hb.block w.heap.size (Nat.lt_succ_self _)).trans d0
          have c4 := dr.c.2.2.2.2
          have bw : Below w.heap.size w wr := ((Below.refl _ w).alloc (Nat.le_refl _) _).trans (hb.mono (Nat.le_succ _))
          by_cases hlt : j < t.ks.length
          · have hne : t.ks ≠ [] := by intro e; rw [e] at hlt; exact absurd hlt (Nat.not_lt_zero _)
            rcases HK.out with hk | ⟨g, o, hk1, hk2⟩
            · exact absurd hk hne
            subst hk1
            obtain ⟨v0, v1, v2, v3, v4, e0, e1, e2, e3, e4, rk⟩ := hk2 j _ (List.getElem?_eq_getElem hlt)
            have hg : g < w.heap.size := World.block_lt_of_cell? w _ e0
            have x0 := (bw.cell (p := ⟨g, o + j * 5, none⟩) hg).trans e0
            have x1 := (bw.cell (p := ⟨g, o + j * 5 + 1, none⟩) hg).trans e1
            have x2 := (bw.cell (p := ⟨g, o + j * 5 + 2, none⟩) hg).trans e2
            have x3 := (bw.cell (p := ⟨g, o + j * 5 + 3, none⟩) hg).trans e3
            have x4 := (bw.cell (p := ⟨g, o + j * 5 + 4, none⟩) hg).trans e4
            have rk' := Rep.below bw n _ _ rk
            clear e0 e1 e2 e3 e4 rk hk2 HK
            go_wp2_with fail
            refine (HI.out n t.ks[j] v0 v1 v2 v3 v4 (deep + 1) (left - m) wr rk' (by omega) (by omega) (by omega) (by omega)).mono ?_
            rintro e w1 ⟨rfl, b1⟩
            have bd := cnt_bd f n t.ks[j] (deep + 1) (left - m) (by omega) (by omega)
            have hv := HV.out
            rw [drop_at t.ks j hlt, cntL_cons, ← HC.out] at hv
            simp only [] at hv
            generalize cnt f n t.ks[j] (deep + 1) (left - m) = C at bd hv
            have b2 : Below (w.heap.size + 1) (w.alloc (.cells #[.int .i64 t.kd, .int .i64 t.it, .int .u64 t.ut, .string t.tx, .slice (some ⟨g, o, none⟩) t.ks.length cap] 25)) w1 := hb.trans (b1.mono (by have := hb.size; simp at this; omega))
            have dr1 : D5 w1 w.heap.size (.int .i64 t.kd) (.int .i64 t.it) (.int .u64 t.ut) (.string t.tx) (.slice (some ⟨g, o, none⟩) t.ks.length cap) := (b2.block w.heap.size (Nat.lt_succ_self _)).trans d0
            obtain ⟨q1, q2, q3, q4⟩ := bd
            by_cases hbad : left < m + C.1 ∨ 16 < max most C.2
            · rw [if_pos hbad, HC.out] at hv
              have HW := Lib.hid hv
              clear hv HV x0 x1 x2 x3 x4 rk' b1 dr c4
              have bw1 : Below w.heap.size w w1 := ((Below.refl _ w).alloc (Nat.le_refl _) _).trans (b2.mono (Nat.le_succ _))
              go_wp2_with fail
              all_goals go_ret2
              all_goals exact ⟨by rw [← HW.out]; first | rfl | (rw [show max most C.2 = C.2 by omega]; rfl) | (rw [show max most C.2 = most by omega]; rfl), bw1⟩
            · rw [if_neg hbad, HC.out] at hv
              have HW := Lib.hid hv
              have hg1 : ¬ left < m + C.1 := fun h => hbad (.inl h)
              have hg2 : ¬ 16 < max most C.2 := fun h => hbad (.inr h)
              clear hv HV x0 x1 x2 x3 x4 rk' b1 dr c4 hbad
              go_wp2_with fail
              refine ⟨⟨j + 1, _, _, rfl, rfl, by go_num, by omega, by first | exact HW.out | (rw [show (if most < C.2 then C.2 else most) = max most C.2 by split <;> omega]; exact HW.out), by omega, by omega, by first | omega | (split <;> omega), by first | omega | (split <;> omega), b2⟩, by simp [intOf]; omega⟩
          · have hje : j = t.ks.length := by omega
            have hv := HV.out
            rw [hje, List.drop_length] at hv
            have HW := Lib.hid hv
            clear hv HV
            go_wp2_with fail
            go_ret2
            exact ⟨by rw [← HW.out]; rfl, bw⟩
end Go.Proofs.YtajagjcfmaggiaaGreatDoor.Dt
/- Trees in memory with the blocks told, a block of places for plain data, and a place of it written; no condition but those that each theorem names. -/
namespace Go.Proofs.YtajagjcfmaggiaaGreatDoor.Dt
open Go.RowKit
theorem rep_shape' {w : World} {n : Nat} {v0 v1 v2 v3 v4 : Value} {t : Tr n} (h : Rep w n [v0, v1, v2, v3, v4] t) : ∃ (k i u : Int) (s : ByteArray) (ad : Option Addr) (len cap : Nat), v0 = .int .i64 k ∧ v1 = .int .i64 i ∧ v2 = .int .u64 u ∧ v3 = .string s ∧ v4 = .slice ad len cap := by
  match n, t, h with
  | 0, _, h => exact absurd h (by simp [Rep])
  | n + 1, t, h =>
    obtain ⟨ad, cap, h1, -⟩ := h
    simp only [List.cons.injEq, and_true] at h1
    obtain ⟨h0, h1, h2, h3, h4⟩ := h1
    exact ⟨_, _, _, _, _, _, _, h0, h1, h2, h3, h4⟩
/-- The tree t lies in w behind the five cells cs, in blocks of which F tells. -/
def Rf (F : Nat → Prop) (w : World) : (n : Nat) → List Value → Tr n → Prop
  | 0, _, _ => False
  | n + 1, cs, t => ∃ (ad : Option Addr) (cap : Nat), cs = [.int .i64 t.kd, .int .i64 t.it, .int .u64 t.ut, .string t.tx, .slice ad t.ks.length cap] ∧ t.tx.size ≤ maxLen ∧ t.ks.length ≤ cap ∧ cap ≤ maxLen ∧
      (t.ks = [] ∨ ∃ g o, ad = some ⟨g, o, none⟩ ∧ (F g ∧ ∀ q, w.frozen? ⟨g, q, none⟩ = false) ∧ ∀ (j : Nat) (t' : Tr n), t.ks[j]? = some t' → ∃ v0 v1 v2 v3 v4, w.cell? ⟨g, o + j * 5, none⟩ = some v0 ∧ w.cell? ⟨g, o + j * 5 + 1, none⟩ = some v1 ∧ w.cell? ⟨g, o + j * 5 + 2, none⟩ = some v2 ∧ w.cell? ⟨g, o + j * 5 + 3, none⟩ = some v3 ∧ w.cell? ⟨g, o + j * 5 + 4, none⟩ = some v4 ∧ Rf F w n [v0, v1, v2, v3, v4] t')
theorem Rf.rep {F : Nat → Prop} {w : World} : ∀ (n : Nat) (cs : List Value) (t : Tr n), Rf F w n cs t → Rep w n cs t
  | 0, _, _, h => h
  | n + 1, cs, t, h => by
    obtain ⟨ad, cap, h1, h2, h3, h4, h5⟩ := h
    refine ⟨ad, cap, h1, h2, h3, h4, ?_⟩
    rcases h5 with h5 | ⟨g, o, h6, -, h7⟩
    · exact .inl h5
    · refine .inr ⟨g, o, h6, fun j t' hj => ?_⟩
      obtain ⟨v0, v1, v2, v3, v4, c0, c1, c2, c3, c4, r⟩ := h7 j t' hj
      exact ⟨v0, v1, v2, v3, v4, c0, c1, c2, c3, c4, Rf.rep n _ _ r⟩
theorem cell_heap {w w' : World} {g o : Nat} (h : w'.heap[g]? = w.heap[g]?) : w'.cell? ⟨g, o, none⟩ = w.cell? ⟨g, o, none⟩ := by simp [World.cell?, h]
theorem frozen_heap {w w' : World} {g o : Nat} (h : w'.heap[g]? = w.heap[g]?) : w'.frozen? ⟨g, o, none⟩ = w.frozen? ⟨g, o, none⟩ := by simp [World.frozen?, h]
theorem Rf.to {F F' : Nat → Prop} {w w' : World} (hF : ∀ g, F g → F' g ∧ w'.heap[g]? = w.heap[g]?) : ∀ (n : Nat) (cs : List Value) (t : Tr n), Rf F w n cs t → Rf F' w' n cs t
  | 0, _, _, h => h
  | n + 1, cs, t, h => by
    obtain ⟨ad, cap, h1, h2, h3, h4, h5⟩ := h
    refine ⟨ad, cap, h1, h2, h3, h4, ?_⟩
    rcases h5 with h5 | ⟨g, o, h6, hg, h7⟩
    · exact .inl h5
    · obtain ⟨hg', hh⟩ := hF g hg.1
      refine .inr ⟨g, o, h6, ⟨hg', fun q => (frozen_heap hh).trans (hg.2 q)⟩, fun j t' hj => ?_⟩
      obtain ⟨v0, v1, v2, v3, v4, c0, c1, c2, c3, c4, r⟩ := h7 j t' hj
      exact ⟨v0, v1, v2, v3, v4, (cell_heap hh).trans c0, (cell_heap hh).trans c1, (cell_heap hh).trans c2, (cell_heap hh).trans c3, (cell_heap hh).trans c4, Rf.to hF n _ _ r⟩
/-- A block of n places for plain data. -/
def Rq (w : World) (N n : Nat) : Prop := ∃ cs : Array Value, w.heap[N]? = some (.cells cs 25 (0, 0)) ∧ cs.size = n * 5
theorem Rq.lt {w : World} {N n : Nat} (h : Rq w N n) : N < w.heap.size := by obtain ⟨cs, h, -⟩ := h; exact (Array.getElem?_eq_some_iff.1 h).1
theorem Rq.below {w w' : World} {N n : Nat} (h : Rq w N n) (hb : Below w.heap.size w w') : Rq w' N n := by
  have hl := h.lt
  obtain ⟨cs, h, e⟩ := h; exact ⟨cs, (hb.block N hl).trans h, e⟩
theorem Rq.c {w : World} {N n j : Nat} (h : Rq w N n) (hj : j < n * 5) : ∃ x, w.cell? ⟨N, j, none⟩ = some x := by
  obtain ⟨cs, h, e⟩ := h
  exact ⟨cs[j]'(by omega), by simp [World.cell?, h, e, hj]⟩
theorem Rq.f {w : World} {N n o : Nat} (h : Rq w N n) : w.frozen? ⟨N, o, none⟩ = false := by
  obtain ⟨cs, h, -⟩ := h; simp [World.frozen?, h]
theorem Rq.set {w : World} {N n j : Nat} (h : Rq w N n) (x : Value) : Rq (w.setCell ⟨N, j, none⟩ x) N n := by
  obtain ⟨cs, h1, h2⟩ := h
  exact ⟨cs.setIfInBounds j x, by simp [World.setCell, Array.getElem?_modify, h1], by simp [h2]⟩
/-- The list's block before its part j. -/
def Lq (w : World) (N n : Nat) (F : Nat → Prop) (m : Nat) (ks : List (Tr m)) (j : Nat) : Prop := Rq w N n ∧ ∀ (k : Nat) (t : Tr m), k < j → ks[k]? = some t → ∃ v0 v1 v2 v3 v4, w.cell? ⟨N, k * 5, none⟩ = some v0 ∧ w.cell? ⟨N, k * 5 + 1, none⟩ = some v1 ∧ w.cell? ⟨N, k * 5 + 2, none⟩ = some v2 ∧ w.cell? ⟨N, k * 5 + 3, none⟩ = some v3 ∧ w.cell? ⟨N, k * 5 + 4, none⟩ = some v4 ∧ Rf F w m [v0, v1, v2, v3, v4] t
theorem set5_at (w : World) (N n j : Nat) (h : Rq w N n) (hj : j < n) (x0 x1 x2 x3 x4 : Value) {W : World} (hW : W = ((((w.setCell ⟨N, j * 5, none⟩ x0).setCell ⟨N, j * 5 + 1, none⟩ x1).setCell ⟨N, j * 5 + 2, none⟩ x2).setCell ⟨N, j * 5 + 3, none⟩ x3).setCell ⟨N, j * 5 + 4, none⟩ x4) :
    Rq W N n ∧ W.heap.size = w.heap.size ∧ (∀ q, q ≠ N → W.heap[q]? = w.heap[q]?) ∧ (W.cell? ⟨N, j * 5, none⟩ = some x0 ∧ W.cell? ⟨N, j * 5 + 1, none⟩ = some x1 ∧ W.cell? ⟨N, j * 5 + 2, none⟩ = some x2 ∧ W.cell? ⟨N, j * 5 + 3, none⟩ = some x3 ∧ W.cell? ⟨N, j * 5 + 4, none⟩ = some x4) ∧ ∀ o, (o < j * 5 ∨ j * 5 + 4 < o) → W.cell? ⟨N, o, none⟩ = w.cell? ⟨N, o, none⟩ := by
  subst hW
  have c : ∀ o, o < n * 5 → ∃ x, w.cell? ⟨N, o, none⟩ = some x := fun o ho => h.c ho
  obtain ⟨y0, z0⟩ := c (j * 5) (by omega)
  obtain ⟨y1, z1⟩ := c (j * 5 + 1) (by omega)
  obtain ⟨y2, z2⟩ := c (j * 5 + 2) (by omega)
  obtain ⟨y3, z3⟩ := c (j * 5 + 3) (by omega)
  obtain ⟨y4, z4⟩ := c (j * 5 + 4) (by omega)
  refine ⟨((((h.set _).set _).set _).set _).set _, by simp [World.setCell], fun q hq => ?_, ?_, fun o ho => ?_⟩
  · rw [Below.heap_setCell _ _ _ q hq, Below.heap_setCell _ _ _ q hq, Below.heap_setCell _ _ _ q hq, Below.heap_setCell _ _ _ q hq, Below.heap_setCell _ _ _ q hq]
  · simp [World.cell?_setCell_same, World.cell?_setCell_other, z0, z1, z2, z3, z4]
  · rw [World.cell?_setCell_other, World.cell?_setCell_other, World.cell?_setCell_other, World.cell?_setCell_other, World.cell?_setCell_other]
    all_goals (simp only [ne_eq, Addr.mk.injEq]; omega)
theorem infoDat : (Tryz.prog.info? 25).map (fun i => (i.zero, i.size, i.bytes)) = some (some (.agg #[.int .i64 0, .int .i64 0, .int .u64 0, .string ⟨#[]⟩, .slice none 0 0]), 5, 64) := by kernel_rfl
theorem infoDat_parts : ∃ i0, Tryz.prog.info? 25 = some i0 ∧ i0.zero = some (.agg #[.int .i64 0, .int .i64 0, .int .u64 0, .string ⟨#[]⟩, .slice none 0 0]) ∧ i0.size = 5 ∧ i0.bytes = 64 := by
  have h := infoDat
  cases hi : Tryz.prog.info? 25 with
  | none => rw [hi] at h; cases h
  | some i0 =>
    rw [hi] at h
    simp only [Option.map_some, Option.some.injEq, Prod.mk.injEq] at h
    exact ⟨i0, rfl, h.1, h.2.1, h.2.2⟩

theorem ptsL_fst {T : Type} (c : T → Int × Int) (h1 : ∀ t, 1 ≤ (c t).1) : ∀ (ks : List T) (p d : Int), p + ks.length ≤ (ptsL c ks p d).1 ∧ ∀ t ∈ ks, p + (c t).1 ≤ (ptsL c ks p d).1
  | [], p, d => ⟨by simp [ptsL], fun t ht => by cases ht⟩
  | t :: ts, p, d => by
    have I := ptsL_fst c h1 ts (p + (c t).1) (max d (c t).2)
    have q := h1 t
    simp only [ptsL]
    refine ⟨?_, fun t' ht => ?_⟩
    · have := I.1; simp only [List.length_cons, Int.natCast_add, Int.natCast_one]; omega
    · rcases List.mem_cons.1 ht with rfl | ht
      · have := I.1; omega
      · have := I.2 t' ht; omega
theorem pts_pos1 : ∀ (n : Nat) (t : Tr n), 1 ≤ (pts n t).1
  | 0, t => t.elim
  | n + 1, t => by
    simp only [pts]
    have := (ptsL_fst (pts n) (pts_pos1 n) t.ks 1 0).1
    omega
theorem pts_kids {n : Nat} {t : Tr (n + 1)} (h : (pts (n + 1) t).1 ≤ 4096) : t.ks.length ≤ 4096 ∧ ∀ t' ∈ t.ks, (pts n t').1 ≤ 4096 := by
  simp only [pts] at h
  have := ptsL_fst (pts n) (pts_pos1 n) t.ks 1 0
  exact ⟨by omega, fun t' ht => by have := this.2 t' ht; omega⟩

end Go.Proofs.YtajagjcfmaggiaaGreatDoor.Dt
/- The document's look at each part, at the kinds that have no list: the table's answer; no condition but sizes. -/
namespace Go.Proofs.YtajagjcfmaggiaaGreatDoor.Dt
open Go.RowKit

set_option maxRecDepth 100000 in
set_option maxHeartbeats 1000000 in
theorem right0 (i u : Int) (s : ByteArray) (ad : Option Addr) (len cap : Nat) (w : World) (_hs : s.size ≤ maxLen) (_hl : len ≤ maxLen) :
    Calls Tryz.prog 22 #[.agg #[.int .i64 0, .int .i64 i, .int .u64 u, .string s, .slice ad len cap]] w fun e w' => e = .returned (.bool (okB 0 i u s.size len)) ∧ Below w.heap.size w w' := by
  unfold maxLen at _hs _hl
  go_enter Tryz.func22, Tryz.ntmps22
  go_wp2_with fail
  all_goals try (refine wp_loop_rounds 1 ?_; rw [rounds_succ]; go_wp2_with fail)
  all_goals go_ret
  all_goals refine ⟨ret_b ?_, (Below.refl _ w).alloc (Nat.le_refl _) _⟩
  all_goals have hz := nil_size s
  all_goals generalize s.toList = L at *
  all_goals generalize s.size = z at *
  all_goals (simp_all [okB] <;> first | omega | (rw [Bool.eq_iff_iff]; simp; omega))
set_option maxRecDepth 100000 in
set_option maxHeartbeats 1000000 in
theorem right1 (i u : Int) (s : ByteArray) (ad : Option Addr) (len cap : Nat) (w : World) (_hs : s.size ≤ maxLen) (_hl : len ≤ maxLen) :
    Calls Tryz.prog 22 #[.agg #[.int .i64 1, .int .i64 i, .int .u64 u, .string s, .slice ad len cap]] w fun e w' => e = .returned (.bool (okB 1 i u s.size len)) ∧ Below w.heap.size w w' := by
  unfold maxLen at _hs _hl
  go_enter Tryz.func22, Tryz.ntmps22
  go_wp2_with fail
  all_goals try (refine wp_loop_rounds 1 ?_; rw [rounds_succ]; go_wp2_with fail)
  all_goals go_ret
  all_goals refine ⟨ret_b ?_, (Below.refl _ w).alloc (Nat.le_refl _) _⟩
  all_goals have hz := nil_size s
  all_goals generalize s.toList = L at *
  all_goals generalize s.size = z at *
  all_goals (simp_all [okB] <;> first | omega | (rw [Bool.eq_iff_iff]; simp; omega))
set_option maxRecDepth 100000 in
set_option maxHeartbeats 1000000 in
theorem right2 (i u : Int) (s : ByteArray) (ad : Option Addr) (len cap : Nat) (w : World) (_hs : s.size ≤ maxLen) (_hl : len ≤ maxLen) :
    Calls Tryz.prog 22 #[.agg #[.int .i64 2, .int .i64 i, .int .u64 u, .string s, .slice ad len cap]] w fun e w' => e = .returned (.bool (okB 2 i u s.size len)) ∧ Below w.heap.size w w' := by
  unfold maxLen at _hs _hl
  go_enter Tryz.func22, Tryz.ntmps22
  go_wp2_with fail
  all_goals try (refine wp_loop_rounds 1 ?_; rw [rounds_succ]; go_wp2_with fail)
  all_goals go_ret
  all_goals refine ⟨ret_b ?_, (Below.refl _ w).alloc (Nat.le_refl _) _⟩
  all_goals have hz := nil_size s
  all_goals generalize s.toList = L at *
  all_goals generalize s.size = z at *
  all_goals (simp_all [okB] <;> first | omega | (rw [Bool.eq_iff_iff]; simp; omega))
set_option maxRecDepth 100000 in
set_option maxHeartbeats 1000000 in
theorem right3 (i u : Int) (s : ByteArray) (ad : Option Addr) (len cap : Nat) (w : World) (_hs : s.size ≤ maxLen) (_hl : len ≤ maxLen) :
    Calls Tryz.prog 22 #[.agg #[.int .i64 3, .int .i64 i, .int .u64 u, .string s, .slice ad len cap]] w fun e w' => e = .returned (.bool (okB 3 i u s.size len)) ∧ Below w.heap.size w w' := by
  unfold maxLen at _hs _hl
  go_enter Tryz.func22, Tryz.ntmps22
  go_wp2_with fail
  all_goals try (refine wp_loop_rounds 1 ?_; rw [rounds_succ]; go_wp2_with fail)
  all_goals go_ret
  all_goals refine ⟨ret_b ?_, (Below.refl _ w).alloc (Nat.le_refl _) _⟩
  all_goals have hz := nil_size s
  all_goals generalize s.toList = L at *
  all_goals generalize s.size = z at *
  all_goals (simp_all [okB] <;> first | omega | (rw [Bool.eq_iff_iff]; simp; omega))
set_option maxRecDepth 100000 in
set_option maxHeartbeats 1000000 in
theorem right4 (i u : Int) (s : ByteArray) (ad : Option Addr) (len cap : Nat) (w : World) (_hs : s.size ≤ maxLen) (_hl : len ≤ maxLen) :
    Calls Tryz.prog 22 #[.agg #[.int .i64 4, .int .i64 i, .int .u64 u, .string s, .slice ad len cap]] w fun e w' => e = .returned (.bool (okB 4 i u s.size len)) ∧ Below w.heap.size w w' := by
  unfold maxLen at _hs _hl
  go_enter Tryz.func22, Tryz.ntmps22
  go_wp2_with fail
  all_goals try (refine wp_loop_rounds 1 ?_; rw [rounds_succ]; go_wp2_with fail)
  all_goals go_ret
  all_goals refine ⟨ret_b ?_, (Below.refl _ w).alloc (Nat.le_refl _) _⟩
  all_goals have hz := nil_size s
  all_goals generalize s.toList = L at *
  all_goals generalize s.size = z at *
  all_goals (simp_all [okB] <;> first | omega | (rw [Bool.eq_iff_iff]; simp; omega))
set_option maxRecDepth 100000 in
set_option maxHeartbeats 1000000 in
theorem right5 (i u : Int) (s : ByteArray) (ad : Option Addr) (len cap : Nat) (w : World) (_hs : s.size ≤ maxLen) (_hl : len ≤ maxLen) :
    Calls Tryz.prog 22 #[.agg #[.int .i64 5, .int .i64 i, .int .u64 u, .string s, .slice ad len cap]] w fun e w' => e = .returned (.bool (okB 5 i u s.size len)) ∧ Below w.heap.size w w' := by
  unfold maxLen at _hs _hl
  go_enter Tryz.func22, Tryz.ntmps22
  go_wp2_with fail
  all_goals try (refine wp_loop_rounds 1 ?_; rw [rounds_succ]; go_wp2_with fail)
  all_goals go_ret
  all_goals refine ⟨ret_b ?_, (Below.refl _ w).alloc (Nat.le_refl _) _⟩
  all_goals have hz := nil_size s
  all_goals generalize s.toList = L at *
  all_goals generalize s.size = z at *
  all_goals (simp_all [okB] <;> first | omega | (rw [Bool.eq_iff_iff]; simp; omega))
end Go.Proofs.YtajagjcfmaggiaaGreatDoor.Dt
/- The document's look at each part, at the kinds that have no list: the table's answer; no condition but sizes. -/
namespace Go.Proofs.YtajagjcfmaggiaaGreatDoor.Dt
open Go.RowKit

set_option maxRecDepth 100000 in
set_option maxHeartbeats 1000000 in
theorem right6 (i u : Int) (s : ByteArray) (ad : Option Addr) (len cap : Nat) (w : World) (_hs : s.size ≤ maxLen) (_hl : len ≤ maxLen) :
    Calls Tryz.prog 22 #[.agg #[.int .i64 6, .int .i64 i, .int .u64 u, .string s, .slice ad len cap]] w fun e w' => e = .returned (.bool (okB 6 i u s.size len)) ∧ Below w.heap.size w w' := by
  unfold maxLen at _hs _hl
  go_enter Tryz.func22, Tryz.ntmps22
  go_wp2_with fail
  all_goals try (refine wp_loop_rounds 1 ?_; rw [rounds_succ]; go_wp2_with fail)
  all_goals go_ret
  all_goals refine ⟨ret_b ?_, (Below.refl _ w).alloc (Nat.le_refl _) _⟩
  all_goals have hz := nil_size s
  all_goals generalize s.toList = L at *
  all_goals generalize s.size = z at *
  all_goals (simp_all [okB] <;> first | omega | (rw [Bool.eq_iff_iff]; simp; omega))
set_option maxRecDepth 100000 in
set_option maxHeartbeats 1000000 in
theorem right7 (i u : Int) (s : ByteArray) (ad : Option Addr) (len cap : Nat) (w : World) (_hs : s.size ≤ maxLen) (_hl : len ≤ maxLen) :
    Calls Tryz.prog 22 #[.agg #[.int .i64 7, .int .i64 i, .int .u64 u, .string s, .slice ad len cap]] w fun e w' => e = .returned (.bool (okB 7 i u s.size len)) ∧ Below w.heap.size w w' := by
  unfold maxLen at _hs _hl
  go_enter Tryz.func22, Tryz.ntmps22
  go_wp2_with fail
  all_goals try (refine wp_loop_rounds 1 ?_; rw [rounds_succ]; go_wp2_with fail)
  all_goals go_ret
  all_goals refine ⟨ret_b ?_, (Below.refl _ w).alloc (Nat.le_refl _) _⟩
  all_goals have hz := nil_size s
  all_goals generalize s.toList = L at *
  all_goals generalize s.size = z at *
  all_goals (simp_all [okB] <;> first | omega | (rw [Bool.eq_iff_iff]; simp; omega))
set_option maxRecDepth 100000 in
set_option maxHeartbeats 1000000 in
theorem right10 (i u : Int) (s : ByteArray) (ad : Option Addr) (len cap : Nat) (w : World) (_hs : s.size ≤ maxLen) (_hl : len ≤ maxLen) :
    Calls Tryz.prog 22 #[.agg #[.int .i64 10, .int .i64 i, .int .u64 u, .string s, .slice ad len cap]] w fun e w' => e = .returned (.bool (okB 10 i u s.size len)) ∧ Below w.heap.size w w' := by
  unfold maxLen at _hs _hl
  go_enter Tryz.func22, Tryz.ntmps22
  go_wp2_with fail
  all_goals try (refine wp_loop_rounds 1 ?_; rw [rounds_succ]; go_wp2_with fail)
  all_goals go_ret
  all_goals refine ⟨ret_b ?_, (Below.refl _ w).alloc (Nat.le_refl _) _⟩
  all_goals have hz := nil_size s
  all_goals generalize s.toList = L at *
  all_goals generalize s.size = z at *
  all_goals (simp_all [okB] <;> first | omega | (rw [Bool.eq_iff_iff]; simp; omega))
set_option maxRecDepth 100000 in
set_option maxHeartbeats 1000000 in
theorem right12 (i u : Int) (s : ByteArray) (ad : Option Addr) (len cap : Nat) (w : World) (_hs : s.size ≤ maxLen) (_hl : len ≤ maxLen) :
    Calls Tryz.prog 22 #[.agg #[.int .i64 12, .int .i64 i, .int .u64 u, .string s, .slice ad len cap]] w fun e w' => e = .returned (.bool (okB 12 i u s.size len)) ∧ Below w.heap.size w w' := by
  unfold maxLen at _hs _hl
  go_enter Tryz.func22, Tryz.ntmps22
  go_wp2_with fail
  all_goals try (refine wp_loop_rounds 1 ?_; rw [rounds_succ]; go_wp2_with fail)
  all_goals go_ret
  all_goals refine ⟨ret_b ?_, (Below.refl _ w).alloc (Nat.le_refl _) _⟩
  all_goals have hz := nil_size s
  all_goals generalize s.toList = L at *
  all_goals generalize s.size = z at *
  all_goals (simp_all [okB] <;> first | omega | (rw [Bool.eq_iff_iff]; simp; omega))
set_option maxRecDepth 100000 in
set_option maxHeartbeats 1000000 in
theorem right13 (i u : Int) (s : ByteArray) (ad : Option Addr) (len cap : Nat) (w : World) (_hs : s.size ≤ maxLen) (_hl : len ≤ maxLen) :
    Calls Tryz.prog 22 #[.agg #[.int .i64 13, .int .i64 i, .int .u64 u, .string s, .slice ad len cap]] w fun e w' => e = .returned (.bool (okB 13 i u s.size len)) ∧ Below w.heap.size w w' := by
  unfold maxLen at _hs _hl
  go_enter Tryz.func22, Tryz.ntmps22
  go_wp2_with fail
  all_goals try (refine wp_loop_rounds 1 ?_; rw [rounds_succ]; go_wp2_with fail)
  all_goals go_ret
  all_goals refine ⟨ret_b ?_, (Below.refl _ w).alloc (Nat.le_refl _) _⟩
  all_goals have hz := nil_size s
  all_goals generalize s.toList = L at *
  all_goals generalize s.size = z at *
  all_goals (simp_all [okB] <;> first | omega | (rw [Bool.eq_iff_iff]; simp; omega))
set_option maxRecDepth 100000 in
set_option maxHeartbeats 1000000 in
theorem rightNo (k i u : Int) (s : ByteArray) (ad : Option Addr) (len cap : Nat) (w : World) (hk : k < 0 ∨ 13 < k) (_hs : s.size ≤ maxLen) (_hl : len ≤ maxLen) :
    Calls Tryz.prog 22 #[.agg #[.int .i64 k, .int .i64 i, .int .u64 u, .string s, .slice ad len cap]] w fun e w' => e = .returned (.bool (okB k i u s.size len)) ∧ Below w.heap.size w w' := by
  unfold maxLen at _hs _hl
  have h0 : (k == 0) = false := by simp; omega
  have h1 : (k == 1) = false := by simp; omega
  have h2 : (k == 2) = false := by simp; omega
  have h3 : (k == 3) = false := by simp; omega
  have h4 : (k == 4) = false := by simp; omega
  have h5 : (k == 5) = false := by simp; omega
  have h6 : (k == 6) = false := by simp; omega
  have h7 : (k == 7) = false := by simp; omega
  have h8 : (k == 8) = false := by simp; omega
  have h9 : (k == 9) = false := by simp; omega
  have h10 : (k == 10) = false := by simp; omega
  have h11 : (k == 11) = false := by simp; omega
  have h12 : (k == 12) = false := by simp; omega
  have h13 : (k == 13) = false := by simp; omega
  have ho : okB k i u s.size len = false := by
    have n0 : k ≠ 0 := by omega
    have n1 : k ≠ 1 := by omega
    have n2 : k ≠ 2 := by omega
    have n3 : k ≠ 3 := by omega
    have n4 : k ≠ 4 := by omega
    have n5 : k ≠ 5 := by omega
    have n6 : k ≠ 6 := by omega
    have n7 : k ≠ 7 := by omega
    have n8 : k ≠ 8 := by omega
    have n9 : k ≠ 9 := by omega
    have n10 : k ≠ 10 := by omega
    have n11 : k ≠ 11 := by omega
    have n12 : k ≠ 12 := by omega
    have n13 : k ≠ 13 := by omega
    simp [okB, n0, n1, n2, n3, n4, n5, n6, n7, n8, n9, n10, n11, n12, n13]
  rw [ho]
  clear hk ho
  go_enter Tryz.func22, Tryz.ntmps22
  go_wp2_with fail
  go_ret
  exact ⟨rfl, (Below.refl _ w).alloc (Nat.le_refl _) _⟩
end Go.Proofs.YtajagjcfmaggiaaGreatDoor.Dt
/- The document's look at each part of a value's tree, every kind; the condition: the tree in memory. -/
namespace Go.Proofs.YtajagjcfmaggiaaGreatDoor.Dt
open Go.RowKit

theorem ok8 {i u : Int} {z len : Nat} (h : okB 8 i u z len = true) : i = 0 ∧ u = 0 ∧ z = 0 := by
  have e : okB 8 i u z len = decide (i = 0 ∧ u = 0 ∧ z = 0) := rfl
  rw [e] at h; exact of_decide_eq_true h
theorem ok9 {i u : Int} {z len : Nat} (h : okB 9 i u z len = true) : i = 0 ∧ u = 0 ∧ z = 0 ∧ len = 2 := by
  have e : okB 9 i u z len = decide (i = 0 ∧ u = 0 ∧ z = 0 ∧ len = 2) := rfl
  rw [e] at h; exact of_decide_eq_true h
theorem ok11 {i u : Int} {z len : Nat} (h : okB 11 i u z len = true) : 1 ≤ i ∧ u = 0 ∧ z = 0 ∧ len = 1 := by
  have e : okB 11 i u z len = decide (1 ≤ i ∧ u = 0 ∧ z = 0 ∧ len = 1) := rfl
  rw [e] at h; exact of_decide_eq_true h
set_option maxRecDepth 100000 in
set_option maxHeartbeats 1000000 in
theorem wrong8 (i u : Int) (s : ByteArray) (ad : Option Addr) (len cap : Nat) (w : World) (_hs : s.size ≤ maxLen) (_hl : len ≤ maxLen) (ho : okB 8 i u s.size len = false) :
    Calls Tryz.prog 22 #[.agg #[.int .i64 8, .int .i64 i, .int .u64 u, .string s, .slice ad len cap]] w fun e w' => e = .returned (.bool false) ∧ Below w.heap.size w w' := by
  have HO := Lib.hid ho
  clear ho
  unfold maxLen at _hs _hl
  go_enter Tryz.func22, Tryz.ntmps22
  go_wp2_with fail
  all_goals first | (go_ret; exact ⟨rfl, (Below.refl _ w).alloc (Nat.le_refl _) _⟩) | (exfalso; have ho := HO.out; have hz := nil_size s; generalize s.toList = L at *; generalize s.size = z at *; simp_all [okB]; done) | (exfalso; have ho := HO.out; have hz := nil_size s; generalize s.toList = L at *; generalize s.size = z at *; simp_all [okB]; omega)
set_option maxRecDepth 100000 in
set_option maxHeartbeats 1000000 in
theorem wrong9 (i u : Int) (s : ByteArray) (ad : Option Addr) (len cap : Nat) (w : World) (_hs : s.size ≤ maxLen) (_hl : len ≤ maxLen) (ho : okB 9 i u s.size len = false) :
    Calls Tryz.prog 22 #[.agg #[.int .i64 9, .int .i64 i, .int .u64 u, .string s, .slice ad len cap]] w fun e w' => e = .returned (.bool false) ∧ Below w.heap.size w w' := by
  have HO := Lib.hid ho
  clear ho
  unfold maxLen at _hs _hl
  go_enter Tryz.func22, Tryz.ntmps22
  go_wp2_with fail
  all_goals first | (go_ret; exact ⟨rfl, (Below.refl _ w).alloc (Nat.le_refl _) _⟩) | (exfalso; have ho := HO.out; have hz := nil_size s; generalize s.toList = L at *; generalize s.size = z at *; simp_all [okB]; done) | (exfalso; have ho := HO.out; have hz := nil_size s; generalize s.toList = L at *; generalize s.size = z at *; simp_all [okB]; omega)
set_option maxRecDepth 100000 in
set_option maxHeartbeats 1000000 in
theorem wrong11 (i u : Int) (s : ByteArray) (ad : Option Addr) (len cap : Nat) (w : World) (_hs : s.size ≤ maxLen) (_hl : len ≤ maxLen) (ho : okB 11 i u s.size len = false) :
    Calls Tryz.prog 22 #[.agg #[.int .i64 11, .int .i64 i, .int .u64 u, .string s, .slice ad len cap]] w fun e w' => e = .returned (.bool false) ∧ Below w.heap.size w w' := by
  have HO := Lib.hid ho
  clear ho
  unfold maxLen at _hs _hl
  go_enter Tryz.func22, Tryz.ntmps22
  go_wp2_with fail
  all_goals first | (go_ret; exact ⟨rfl, (Below.refl _ w).alloc (Nat.le_refl _) _⟩) | (exfalso; have ho := HO.out; have hz := nil_size s; generalize s.toList = L at *; generalize s.size = z at *; simp_all [okB]; done) | (exfalso; have ho := HO.out; have hz := nil_size s; generalize s.toList = L at *; generalize s.size = z at *; simp_all [okB]; omega)

set_option maxRecDepth 100000 in
set_option maxHeartbeats 1000000 in
theorem rightRow8 (n : Nat) (ks : List (Tr n)) (s : ByteArray) (ad : Option Addr) (cap : Nat) (w : World) (htx : s.size ≤ maxLen) (hlen : ks.length ≤ cap) (hcap : cap ≤ maxLen)
    (hk : ks = [] ∨ ∃ g o, ad = some ⟨g, o, none⟩ ∧ ∀ (j : Nat) (t' : Tr n), ks[j]? = some t' → ∃ v0 v1 v2 v3 v4, w.cell? ⟨g, o + j * 5, none⟩ = some v0 ∧ w.cell? ⟨g, o + j * 5 + 1, none⟩ = some v1 ∧ w.cell? ⟨g, o + j * 5 + 2, none⟩ = some v2 ∧ w.cell? ⟨g, o + j * 5 + 3, none⟩ = some v3 ∧ w.cell? ⟨g, o + j * 5 + 4, none⟩ = some v4 ∧ Rep w n [v0, v1, v2, v3, v4] t')
    (ho : okB 8 0 0 s.size ks.length = true)
    (ih : ∀ (t : Tr n) (v0 v1 v2 v3 v4 : Value) (w : World), Rep w n [v0, v1, v2, v3, v4] t → Calls Tryz.prog 22 #[.agg #[v0, v1, v2, v3, v4]] w fun e w' => e = .returned (.bool (rgt n t)) ∧ Below w.heap.size w w') :
    Calls Tryz.prog 22 #[.agg #[.int .i64 8, .int .i64 0, .int .u64 0, .string s, .slice ad ks.length cap]] w fun e w' => e = .returned (.bool (ks.all (rgt n))) ∧ Below w.heap.size w w' := by
  have HI := Lib.hid ih
  have HK := Lib.hid hk
  clear ih hk
  unfold maxLen at hcap htx
  obtain ⟨-, -, hsz⟩ := ok8 ho
  have hnl := (nil_size s).2 hsz
  have hlt5 : (s.size : Int) ≤ 65535 := by omega
  clear ho hsz
  have d0 := D5.new w (.int .i64 8) (.int .i64 0) (.int .u64 0) (.string s) (.slice ad ks.length cap)
  go_enter Tryz.func22, Tryz.ntmps22
  go_wp2_with fail
  go_loopw [89] (fun si wr => ∃ (j : Nat), si = .int .i64 j ∧ j ≤ ks.length ∧ (ks.drop j).all (rgt n) = ks.all (rgt n) ∧ Below (w.heap.size + 1) (w.alloc (.cells #[.int .i64 8, .int .i64 0, .int .u64 0, .string s, .slice ad ks.length cap] 25)) wr) (fun si _ => ks.length - (intOf si).toNat)
  case atStart => exact ⟨0, rfl, Nat.zero_le _, rfl, Below.refl _ _⟩
  case round =>
    obtain ⟨j, rfl, hj, hinv, hb⟩ := hrel
    have HV := Lib.hid hinv
    clear hinv
    have dr : D5 wr w.heap.size (.int .i64 8) (.int .i64 0) (.int .u64 0) (.string s) (.slice ad ks.length cap) := (hb.block w.heap.size (Nat.lt_succ_self _)).trans d0
    have c4 := dr.c.2.2.2.2
    have bw : Below w.heap.size w wr := ((Below.refl _ w).alloc (Nat.le_refl _) _).trans (hb.mono (Nat.le_succ _))
    by_cases hlt : j < ks.length
    · have hne : ks ≠ [] := by intro e; rw [e] at hlt; exact absurd hlt (Nat.not_lt_zero _)
      rcases HK.out with hk | ⟨g, o, hk1, hk2⟩
      · exact absurd hk hne
      subst hk1
      obtain ⟨v0, v1, v2, v3, v4, e0, e1, e2, e3, e4, rk⟩ := hk2 j _ (List.getElem?_eq_getElem hlt)
      have hg : g < w.heap.size := World.block_lt_of_cell? w _ e0
      have x0 := (bw.cell (p := ⟨g, o + j * 5, none⟩) hg).trans e0
      have x1 := (bw.cell (p := ⟨g, o + j * 5 + 1, none⟩) hg).trans e1
      have x2 := (bw.cell (p := ⟨g, o + j * 5 + 2, none⟩) hg).trans e2
      have x3 := (bw.cell (p := ⟨g, o + j * 5 + 3, none⟩) hg).trans e3
      have x4 := (bw.cell (p := ⟨g, o + j * 5 + 4, none⟩) hg).trans e4
      have rk' := Rep.below bw n _ _ rk
      clear e0 e1 e2 e3 e4 rk hk2 HK
      go_wp2_with fail
      refine (HI.out ks[j] v0 v1 v2 v3 v4 wr rk').mono ?_
      rintro e w1 ⟨rfl, b1⟩
      have hv := HV.out
      rw [drop_at ks j hlt, List.all_cons] at hv
      have b2 : Below (w.heap.size + 1) (w.alloc (.cells #[.int .i64 8, .int .i64 0, .int .u64 0, .string s, .slice (some ⟨g, o, none⟩) ks.length cap] 25)) w1 := hb.trans (b1.mono (by have := hb.size; simp at this; omega))
      have bw1 : Below w.heap.size w w1 := ((Below.refl _ w).alloc (Nat.le_refl _) _).trans (b2.mono (Nat.le_succ _))
      cases hr : rgt n ks[j] with
      | true =>
        rw [hr, Bool.true_and] at hv
        have HW := Lib.hid hv
        clear hv HV x0 x1 x2 x3 x4 rk' b1 dr c4 hr
        go_wp2_with fail
        refine ⟨⟨j + 1, by go_num, by omega, HW.out, b2⟩, by simp [intOf]; omega⟩
      | false =>
        rw [hr, Bool.false_and] at hv
        have HW := Lib.hid hv
        clear hv HV x0 x1 x2 x3 x4 rk' b1 dr c4 hr
        go_wp2_with fail
        go_ret
        exact ⟨ret_b HW.out, bw1⟩
    · have hje : j = ks.length := by omega
      have hv := HV.out
      rw [hje, List.drop_length] at hv
      have HW := Lib.hid hv
      clear hv HV
      go_wp2_with fail
      go_ret
      exact ⟨ret_b HW.out, bw⟩

set_option maxRecDepth 100000 in
set_option maxHeartbeats 1000000 in
theorem rightRow9 (n : Nat) (ks : List (Tr n)) (s : ByteArray) (ad : Option Addr) (cap : Nat) (w : World) (htx : s.size ≤ maxLen) (hlen : ks.length ≤ cap) (hcap : cap ≤ maxLen)
    (hk : ks = [] ∨ ∃ g o, ad = some ⟨g, o, none⟩ ∧ ∀ (j : Nat) (t' : Tr n), ks[j]? = some t' → ∃ v0 v1 v2 v3 v4, w.cell? ⟨g, o + j * 5, none⟩ = some v0 ∧ w.cell? ⟨g, o + j * 5 + 1, none⟩ = some v1 ∧ w.cell? ⟨g, o + j * 5 + 2, none⟩ = some v2 ∧ w.cell? ⟨g, o + j * 5 + 3, none⟩ = some v3 ∧ w.cell? ⟨g, o + j * 5 + 4, none⟩ = some v4 ∧ Rep w n [v0, v1, v2, v3, v4] t')
    (ho : okB 9 0 0 s.size ks.length = true)
    (ih : ∀ (t : Tr n) (v0 v1 v2 v3 v4 : Value) (w : World), Rep w n [v0, v1, v2, v3, v4] t → Calls Tryz.prog 22 #[.agg #[v0, v1, v2, v3, v4]] w fun e w' => e = .returned (.bool (rgt n t)) ∧ Below w.heap.size w w') :
    Calls Tryz.prog 22 #[.agg #[.int .i64 9, .int .i64 0, .int .u64 0, .string s, .slice ad ks.length cap]] w fun e w' => e = .returned (.bool (ks.all (rgt n))) ∧ Below w.heap.size w w' := by
  have HI := Lib.hid ih
  have HK := Lib.hid hk
  clear ih hk
  unfold maxLen at hcap htx
  obtain ⟨-, -, hsz, hl2⟩ := ok9 ho
  have hnl := (nil_size s).2 hsz
  have hlt5 : (s.size : Int) ≤ 65535 := by omega
  have hln : ((ks.length : Int) != 2) = false := by simp; omega
  clear ho hsz hl2
  have d0 := D5.new w (.int .i64 9) (.int .i64 0) (.int .u64 0) (.string s) (.slice ad ks.length cap)
  go_enter Tryz.func22, Tryz.ntmps22
  go_wp2_with fail
  go_loopw [89] (fun si wr => ∃ (j : Nat), si = .int .i64 j ∧ j ≤ ks.length ∧ (ks.drop j).all (rgt n) = ks.all (rgt n) ∧ Below (w.heap.size + 1) (w.alloc (.cells #[.int .i64 9, .int .i64 0, .int .u64 0, .string s, .slice ad ks.length cap] 25)) wr) (fun si _ => ks.length - (intOf si).toNat)
  case atStart => exact ⟨0, rfl, Nat.zero_le _, rfl, Below.refl _ _⟩
  case round =>
    obtain ⟨j, rfl, hj, hinv, hb⟩ := hrel
    have HV := Lib.hid hinv
    clear hinv
    have dr : D5 wr w.heap.size (.int .i64 9) (.int .i64 0) (.int .u64 0) (.string s) (.slice ad ks.length cap) := (hb.block w.heap.size (Nat.lt_succ_self _)).trans d0
    have c4 := dr.c.2.2.2.2
    have bw : Below w.heap.size w wr := ((Below.refl _ w).alloc (Nat.le_refl _) _).trans (hb.mono (Nat.le_succ _))
    by_cases hlt : j < ks.length
    · have hne : ks ≠ [] := by intro e; rw [e] at hlt; exact absurd hlt (Nat.not_lt_zero _)
      rcases HK.out with hk | ⟨g, o, hk1, hk2⟩
      · exact absurd hk hne
      subst hk1
      obtain ⟨v0, v1, v2, v3, v4, e0, e1, e2, e3, e4, rk⟩ := hk2 j _ (List.getElem?_eq_getElem hlt)
      have hg : g < w.heap.size := World.block_lt_of_cell? w _ e0
      have x0 := (bw.cell (p := ⟨g, o + j * 5, none⟩) hg).trans e0
      have x1 := (bw.cell (p := ⟨g, o + j * 5 + 1, none⟩) hg).trans e1
      have x2 := (bw.cell (p := ⟨g, o + j * 5 + 2, none⟩) hg).trans e2
      have x3 := (bw.cell (p := ⟨g, o + j * 5 + 3, none⟩) hg).trans e3
      have x4 := (bw.cell (p := ⟨g, o + j * 5 + 4, none⟩) hg).trans e4
      have rk' := Rep.below bw n _ _ rk
      clear e0 e1 e2 e3 e4 rk hk2 HK
      go_wp2_with fail
      refine (HI.out ks[j] v0 v1 v2 v3 v4 wr rk').mono ?_
      rintro e w1 ⟨rfl, b1⟩
      have hv := HV.out
      rw [drop_at ks j hlt, List.all_cons] at hv
      have b2 : Below (w.heap.size + 1) (w.alloc (.cells #[.int .i64 9, .int .i64 0, .int .u64 0, .string s, .slice (some ⟨g, o, none⟩) ks.length cap] 25)) w1 := hb.trans (b1.mono (by have := hb.size; simp at this; omega))
      have bw1 : Below w.heap.size w w1 := ((Below.refl _ w).alloc (Nat.le_refl _) _).trans (b2.mono (Nat.le_succ _))
      cases hr : rgt n ks[j] with
      | true =>
        rw [hr, Bool.true_and] at hv
        have HW := Lib.hid hv
        clear hv HV x0 x1 x2 x3 x4 rk' b1 dr c4 hr
        go_wp2_with fail
        refine ⟨⟨j + 1, by go_num, by omega, HW.out, b2⟩, by simp [intOf]; omega⟩
      | false =>
        rw [hr, Bool.false_and] at hv
        have HW := Lib.hid hv
        clear hv HV x0 x1 x2 x3 x4 rk' b1 dr c4 hr
        go_wp2_with fail
        go_ret
        exact ⟨ret_b HW.out, bw1⟩
    · have hje : j = ks.length := by omega
      have hv := HV.out
      rw [hje, List.drop_length] at hv
      have HW := Lib.hid hv
      clear hv HV
      go_wp2_with fail
      go_ret
      exact ⟨ret_b HW.out, bw⟩

set_option maxRecDepth 100000 in
set_option maxHeartbeats 1000000 in
theorem rightRow11 (n : Nat) (ks : List (Tr n)) (i : Int) (s : ByteArray) (ad : Option Addr) (cap : Nat) (w : World) (htx : s.size ≤ maxLen) (hlen : ks.length ≤ cap) (hcap : cap ≤ maxLen)
    (hk : ks = [] ∨ ∃ g o, ad = some ⟨g, o, none⟩ ∧ ∀ (j : Nat) (t' : Tr n), ks[j]? = some t' → ∃ v0 v1 v2 v3 v4, w.cell? ⟨g, o + j * 5, none⟩ = some v0 ∧ w.cell? ⟨g, o + j * 5 + 1, none⟩ = some v1 ∧ w.cell? ⟨g, o + j * 5 + 2, none⟩ = some v2 ∧ w.cell? ⟨g, o + j * 5 + 3, none⟩ = some v3 ∧ w.cell? ⟨g, o + j * 5 + 4, none⟩ = some v4 ∧ Rep w n [v0, v1, v2, v3, v4] t')
    (ho : okB 11 i 0 s.size ks.length = true)
    (ih : ∀ (t : Tr n) (v0 v1 v2 v3 v4 : Value) (w : World), Rep w n [v0, v1, v2, v3, v4] t → Calls Tryz.prog 22 #[.agg #[v0, v1, v2, v3, v4]] w fun e w' => e = .returned (.bool (rgt n t)) ∧ Below w.heap.size w w') :
    Calls Tryz.prog 22 #[.agg #[.int .i64 11, .int .i64 i, .int .u64 0, .string s, .slice ad ks.length cap]] w fun e w' => e = .returned (.bool (ks.all (rgt n))) ∧ Below w.heap.size w w' := by
  have HI := Lib.hid ih
  have HK := Lib.hid hk
  clear ih hk
  unfold maxLen at hcap htx
  obtain ⟨hi, -, hsz, hl2⟩ := ok11 ho
  have hnl := (nil_size s).2 hsz
  have hlt5 : (s.size : Int) ≤ 65535 := by omega
  have hi1 : ¬ i < 1 := by omega
  have hln : ((ks.length : Int) != 1) = false := by simp; omega
  clear ho hsz hl2 hi
  have d0 := D5.new w (.int .i64 11) (.int .i64 i) (.int .u64 0) (.string s) (.slice ad ks.length cap)
  go_enter Tryz.func22, Tryz.ntmps22
  go_wp2_with fail
  go_loopw [89] (fun si wr => ∃ (j : Nat), si = .int .i64 j ∧ j ≤ ks.length ∧ (ks.drop j).all (rgt n) = ks.all (rgt n) ∧ Below (w.heap.size + 1) (w.alloc (.cells #[.int .i64 11, .int .i64 i, .int .u64 0, .string s, .slice ad ks.length cap] 25)) wr) (fun si _ => ks.length - (intOf si).toNat)
  case atStart => exact ⟨0, rfl, Nat.zero_le _, rfl, Below.refl _ _⟩
  case round =>
    obtain ⟨j, rfl, hj, hinv, hb⟩ := hrel
    have HV := Lib.hid hinv
    clear hinv
    have dr : D5 wr w.heap.size (.int .i64 11) (.int .i64 i) (.int .u64 0) (.string s) (.slice ad ks.length cap) := (hb.block w.heap.size (Nat.lt_succ_self _)).trans d0
    have c4 := dr.c.2.2.2.2
    have bw : Below w.heap.size w wr := ((Below.refl _ w).alloc (Nat.le_refl _) _).trans (hb.mono (Nat.le_succ _))
    by_cases hlt : j < ks.length
    · have hne : ks ≠ [] := by intro e; rw [e] at hlt; exact absurd hlt (Nat.not_lt_zero _)
      rcases HK.out with hk | ⟨g, o, hk1, hk2⟩
      · exact absurd hk hne
      subst hk1
      obtain ⟨v0, v1, v2, v3, v4, e0, e1, e2, e3, e4, rk⟩ := hk2 j _ (List.getElem?_eq_getElem hlt)
      have hg : g < w.heap.size := World.block_lt_of_cell? w _ e0
      have x0 := (bw.cell (p := ⟨g, o + j * 5, none⟩) hg).trans e0
      have x1 := (bw.cell (p := ⟨g, o + j * 5 + 1, none⟩) hg).trans e1
      have x2 := (bw.cell (p := ⟨g, o + j * 5 + 2, none⟩) hg).trans e2
      have x3 := (bw.cell (p := ⟨g, o + j * 5 + 3, none⟩) hg).trans e3
      have x4 := (bw.cell (p := ⟨g, o + j * 5 + 4, none⟩) hg).trans e4
      have rk' := Rep.below bw n _ _ rk
      clear e0 e1 e2 e3 e4 rk hk2 HK
      go_wp2_with fail
      refine (HI.out ks[j] v0 v1 v2 v3 v4 wr rk').mono ?_
      rintro e w1 ⟨rfl, b1⟩
      have hv := HV.out
      rw [drop_at ks j hlt, List.all_cons] at hv
      have b2 : Below (w.heap.size + 1) (w.alloc (.cells #[.int .i64 11, .int .i64 i, .int .u64 0, .string s, .slice (some ⟨g, o, none⟩) ks.length cap] 25)) w1 := hb.trans (b1.mono (by have := hb.size; simp at this; omega))
      have bw1 : Below w.heap.size w w1 := ((Below.refl _ w).alloc (Nat.le_refl _) _).trans (b2.mono (Nat.le_succ _))
      cases hr : rgt n ks[j] with
      | true =>
        rw [hr, Bool.true_and] at hv
        have HW := Lib.hid hv
        clear hv HV x0 x1 x2 x3 x4 rk' b1 dr c4 hr
        go_wp2_with fail
        refine ⟨⟨j + 1, by go_num, by omega, HW.out, b2⟩, by simp [intOf]; omega⟩
      | false =>
        rw [hr, Bool.false_and] at hv
        have HW := Lib.hid hv
        clear hv HV x0 x1 x2 x3 x4 rk' b1 dr c4 hr
        go_wp2_with fail
        go_ret
        exact ⟨ret_b HW.out, bw1⟩
    · have hje : j = ks.length := by omega
      have hv := HV.out
      rw [hje, List.drop_length] at hv
      have HW := Lib.hid hv
      clear hv HV
      go_wp2_with fail
      go_ret
      exact ⟨ret_b HW.out, bw⟩

/-- At the kinds without a list what is right has none. -/
theorem flat_len {k i u : Int} {z len : Nat} (h : okB k i u z len = true) (h8 : k ≠ 8) (h9 : k ≠ 9) (h11 : k ≠ 11) : len = 0 := by
  unfold okB at h
  repeat' split at h
  all_goals first | (have := of_decide_eq_true h; omega) | omega | (simp at h)

theorem right_any : ∀ (n : Nat) (t : Tr n) (v0 v1 v2 v3 v4 : Value) (w : World), Rep w n [v0, v1, v2, v3, v4] t →
    Calls Tryz.prog 22 #[.agg #[v0, v1, v2, v3, v4]] w fun e w' => e = .returned (.bool (rgt n t)) ∧ Below w.heap.size w w' := by
  intro n
  induction n with
  | zero => intro t; exact t.elim
  | succ n ih =>
    intro t v0 v1 v2 v3 v4 w h
    obtain ⟨ad, cap, e, htx, hlen, hcap, hk⟩ := h
    simp only [List.cons.injEq, and_true] at e
    obtain ⟨rfl, rfl, rfl, rfl, rfl⟩ := e
    have hmax : t.ks.length ≤ maxLen := Nat.le_trans hlen hcap
    have er : rgt (n + 1) t = (okB t.kd t.it t.ut t.tx.size t.ks.length && t.ks.all (rgt n)) := rfl
    have flat : t.kd ≠ 8 → t.kd ≠ 9 → t.kd ≠ 11 → rgt (n + 1) t = okB t.kd t.it t.ut t.tx.size t.ks.length := by
      intro h8 h9 h11
      rw [er]
      cases ho : okB t.kd t.it t.ut t.tx.size t.ks.length with
      | false => rfl
      | true =>
        have hl := flat_len ho h8 h9 h11
        have : t.ks = [] := List.length_eq_zero_iff.1 hl
        rw [this]; rfl
    generalize hkd : t.kd = k at *
    generalize t.it = i at *
    generalize t.ut = u at *
    generalize t.tx = s at *
    by_cases hno : k < 0 ∨ 13 < k
    · rw [flat (by omega) (by omega) (by omega)]; exact rightNo k i u s ad _ cap w hno htx hmax
    have hall : k = 0 ∨ k = 1 ∨ k = 2 ∨ k = 3 ∨ k = 4 ∨ k = 5 ∨ k = 6 ∨ k = 7 ∨ k = 10 ∨ k = 12 ∨ k = 13 ∨ k = 8 ∨ k = 9 ∨ k = 11 := by omega
    clear hkd
    rcases hall with rfl | rfl | rfl | rfl | rfl | rfl | rfl | rfl | rfl | rfl | rfl | rfl | rfl | rfl
    · rw [flat (by decide) (by decide) (by decide)]; exact right0 i u s ad _ cap w htx hmax
    · rw [flat (by decide) (by decide) (by decide)]; exact right1 i u s ad _ cap w htx hmax
    · rw [flat (by decide) (by decide) (by decide)]; exact right2 i u s ad _ cap w htx hmax
    · rw [flat (by decide) (by decide) (by decide)]; exact right3 i u s ad _ cap w htx hmax
    · rw [flat (by decide) (by decide) (by decide)]; exact right4 i u s ad _ cap w htx hmax
    · rw [flat (by decide) (by decide) (by decide)]; exact right5 i u s ad _ cap w htx hmax
    · rw [flat (by decide) (by decide) (by decide)]; exact right6 i u s ad _ cap w htx hmax
    · rw [flat (by decide) (by decide) (by decide)]; exact right7 i u s ad _ cap w htx hmax
    · rw [flat (by decide) (by decide) (by decide)]; exact right10 i u s ad _ cap w htx hmax
    · rw [flat (by decide) (by decide) (by decide)]; exact right12 i u s ad _ cap w htx hmax
    · rw [flat (by decide) (by decide) (by decide)]; exact right13 i u s ad _ cap w htx hmax
    · rw [er]
      cases ho : okB 8 i u s.size t.ks.length with
      | false => exact wrong8 i u s ad _ cap w htx hmax ho
      | true =>
        obtain ⟨rfl, rfl, -⟩ := ok8 ho
        exact rightRow8 n t.ks s ad cap w htx hlen hcap hk ho ih
    · rw [er]
      cases ho : okB 9 i u s.size t.ks.length with
      | false => exact wrong9 i u s ad _ cap w htx hmax ho
      | true =>
        obtain ⟨rfl, rfl, -⟩ := ok9 ho
        exact rightRow9 n t.ks s ad cap w htx hlen hcap hk ho ih
    · rw [er]
      cases ho : okB 11 i u s.size t.ks.length with
      | false => exact wrong11 i u s ad _ cap w htx hmax ho
      | true =>
        obtain ⟨-, rfl, -⟩ := ok11 ho
        exact rightRow11 n t.ks i s ad cap w htx hlen hcap hk ho ih
end Go.Proofs.YtajagjcfmaggiaaGreatDoor.Dt
