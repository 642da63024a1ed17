/- An act that is tried, by what the act does: what comes, or the panic told; the conditions: what the act comes to by itself. -/
import Derived.Test.YtajagjcfmaggiaaGreatDoorKCab
namespace Go.Proofs.YtajagjcfmaggiaaGreatDoor
open Go.RowKit

set_option maxRecDepth 100000 in
set_option maxHeartbeats 1000000 in
theorem try_ret (op ak ai au : Int) (az : ByteArray) (aa : Option Addr) (an ac : Nat) (bk bi bu : Int) (bs : ByteArray) (ba : Option Addr) (bn bc : Nat) (num : Int) (w : World) (er co pk pn : Int) (has : Bool) (P : BodyP) (hP : ∀ k i u s a n c w' w'', P k i u s a n c w' → w'.heap.size ≤ w''.heap.size → (∀ g, g < w'.heap.size → g ≠ w.heap.size + 1 → g ≠ w.heap.size + 2 → g ≠ w.heap.size + 3 → w''.heap[g]? = w'.heap[g]?) → P k i u s a n c w'')
    (hD : ∀ wx, Below w.heap.size w wx → wx.heap.size = w.heap.size + 4 → Calls Tryz.prog 89 #[.agg (acs op ak ai au az aa an ac bk bi bu bs ba bn bc num)] wx fun e w' => ∃ k i u s a n c, e = .returned (.agg (rcs er co pk pn has k i u s a n c)) ∧ P k i u s a n c w' ∧ Below wx.heap.size wx w') :
    Calls Tryz.prog 77 #[.agg (acs op ak ai au az aa an ac bk bi bu bs ba bn bc num)] w fun e w' => ∃ k i u s a n c, e = .returned (.agg (rcs er co pk pn has k i u s a n c)) ∧ P k i u s a n c w' ∧ Below w.heap.size w w' := by
  have hmf : ∀ (fn : Fn) (first cap : Array Value) (w : World), (Instr.makeFunc fn first cap).run Tryz.prog w = .ok (.func fn first cap) w := fun _ _ _ _ => rfl
  have HC : ∀ w2, Below w.heap.size w w2 → w2.heap.size = w.heap.size + 2 → Bk w2 w.heap.size (acs op ak ai au az aa an ac bk bi bu bs ba bn bc num) 93 → Calls Tryz.prog 87 #[.func (.func 88) #[] #[.pointer (some ⟨w.heap.size, 0, none⟩)]] w2 fun e w' => ∃ k i u s a n c, e = .returned (.agg (rcs er co pk pn has k i u s a n c)) ∧ P k i u s a n c w' ∧ Fr w2.heap.size w2.heap.size w2 w' := fun w2 hb2 hz2 hA2 => by
    refine caughtE_ret 88 _ w2 er co pk pn has w2.heap.size w2.heap.size (Nat.le_refl _) (Nat.le_refl _) P (fun k i u s a n c w' w'' h1 h2 h3 => hP _ _ _ _ _ _ _ _ _ h1 h2 fun g g1 _ g3 _ => h3 g g1 (by omega)) (fun _ => by kernel_rfl) fun wx hbx hzx => ?_
    refine (try1_ret op ak ai au az aa an ac bk bi bu bs ba bn bc num w.heap.size wx er co pk pn has P (fun k i u s a n c w' w'' h1 h2 h3 => hP _ _ _ _ _ _ _ _ _ h1 h2 fun g g1 _ _ g4 => h3 g g1 (by omega)) (hA2.step hbx) fun wy hby hzy => ?_).mono fun e w' ⟨k, i, u, s, a, n, c, he, hp, hb⟩ => ⟨k, i, u, s, a, n, c, he, hp, Fr.of hb (by omega)⟩
    exact hD wy ((hb2.trans (hbx.mono (by omega))).trans (hby.mono (by omega))) (by omega)
  have HC' := Lib.hid HC
  have hP' := Lib.hid hP
  clear hD hP HC
  have A0 : Bk ((w.alloc (.cells (acs op ak ai au az aa an ac bk bi bu bs ba bn bc num) 93)).alloc (.cells (rErr 0 0 0 0) 33)) w.heap.size (acs op ak ai au az aa an ac bk bi bu bs ba bn bc num) 93 := (Bk.new w _ _).alloc _
  have R0 := Bk.new2 w (.cells (acs op ak ai au az aa an ac bk bi bu bs ba bn bc num) 93) (rErr 0 0 0 0) 33
  have B0 := below2 w (.cells (acs op ak ai au az aa an ac bk bi bu bs ba bn bc num) 93) (.cells (rErr 0 0 0 0) 33)
  go_enter Tryz.func77, Tryz.ntmps77
  go_wp2_with fail
  refine (HC'.out _ B0 (by simp) A0).mono ?_
  rintro e w1 ⟨k, i, u, s, a, n, c, rfl, p1, b1⟩
  have r2 := R0.step b1.b
  have B1 := B0.trans (b1.b.mono B0.size)
  have PP := Lib.hid p1
  clear p1 A0 R0 b1 B0
  obtain ⟨c0, c1, c2, c3, c4, c5, c6, c7, c8, c9⟩ := r2.c10
  have z2 := r2.f
  go_wp2_with fail
  obtain ⟨k1, k2, k3, k4⟩ := set10 r2 (.int .i64 er) (.int .i64 co) (.int .i64 pk) (.int .i64 pn) (.bool has) (.int .i64 k) (.int .i64 i) (.int .u64 u) (.string s) (.slice a n c) rfl
  have KP := Lib.hid (hP'.out _ _ _ _ _ _ _ w1 _ PP.out (Nat.le_of_eq k2.symm) fun g _ hg _ _ => k3 g hg)
  have KF := B1.trans (k4.mono (by omega))
  obtain ⟨q0, q1, q2, q3, q4, q5, q6, q7, q8, q9⟩ := k1.c10
  refine bodyPost_ret (v := .agg (rcs er co pk pn has k i u s a n c)) ?_ rfl ⟨k, i, u, s, a, n, c, rfl, KP.out, KF⟩
  simp [results, Tryz.results77, go_sem, q0, q1, q2, q3, q4, q5, q6, q7, q8, q9]

set_option maxRecDepth 100000 in
set_option maxHeartbeats 1000000 in
theorem try_pan (op ak ai au : Int) (az : ByteArray) (aa : Option Addr) (an ac : Nat) (bk bi bu : Int) (bs : ByteArray) (ba : Option Addr) (bn bc : Nat) (num : Int) (w : World) (T : TypeId) (z : Value) (pk pn : Int)
    (hT : ∀ wx, Calls Tryz.prog 102 #[.iface T z] wx fun e w' => e = .returned (.agg #[.int .i64 pk, .int .i64 pn]) ∧ Below wx.heap.size wx w')
    (hD : ∀ wx, Below w.heap.size w wx → wx.heap.size = w.heap.size + 4 → Calls Tryz.prog 89 #[.agg (acs op ak ai au az aa an ac bk bi bu bs ba bn bc num)] wx fun e w' => Pn T z e ∧ Below wx.heap.size wx w') :
    Calls Tryz.prog 77 #[.agg (acs op ak ai au az aa an ac bk bi bu bs ba bn bc num)] w fun e w' => e = .returned (.agg (rErr 110 0 pk pn)) ∧ Below w.heap.size w w' := by
  have hmf : ∀ (fn : Fn) (first cap : Array Value) (w : World), (Instr.makeFunc fn first cap).run Tryz.prog w = .ok (.func fn first cap) w := fun _ _ _ _ => rfl
  have HC : ∀ w2, Below w.heap.size w w2 → w2.heap.size = w.heap.size + 2 → Bk w2 w.heap.size (acs op ak ai au az aa an ac bk bi bu bs ba bn bc num) 93 → Calls Tryz.prog 87 #[.func (.func 88) #[] #[.pointer (some ⟨w.heap.size, 0, none⟩)]] w2 fun e w' => e = .returned (.agg (rErr 110 0 pk pn)) ∧ Fr w2.heap.size w2.heap.size w2 w' := fun w2 hb2 hz2 hA2 => by
    refine (caught_panE 88 _ w2 T z pk pn w2.heap.size w2.heap.size (Nat.le_refl _) (Nat.le_refl _) (fun _ => True) (fun _ _ _ _ _ => trivial) hT (fun _ => by kernel_rfl) fun wx hbx hzx => ?_).mono fun e w' ⟨he, _, hf⟩ => ⟨he, hf⟩
    refine (try1_pan op ak ai au az aa an ac bk bi bu bs ba bn bc num w.heap.size wx T z (fun _ => True) (hA2.step hbx) fun wy hby hzy => ?_).mono fun e w' ⟨he, hp, hb⟩ => ⟨he, hp, Fr.of hb (by omega)⟩
    exact (hD wy ((hb2.trans (hbx.mono (by omega))).trans (hby.mono (by omega))) (by omega)).mono fun e w' ⟨h1, h2⟩ => ⟨h1, trivial, h2⟩
  have HC' := Lib.hid HC
  clear hD HC hT
  have A0 : Bk ((w.alloc (.cells (acs op ak ai au az aa an ac bk bi bu bs ba bn bc num) 93)).alloc (.cells (rErr 0 0 0 0) 33)) w.heap.size (acs op ak ai au az aa an ac bk bi bu bs ba bn bc num) 93 := (Bk.new w _ _).alloc _
  have R0 := Bk.new2 w (.cells (acs op ak ai au az aa an ac bk bi bu bs ba bn bc num) 93) (rErr 0 0 0 0) 33
  have B0 := below2 w (.cells (acs op ak ai au az aa an ac bk bi bu bs ba bn bc num) 93) (.cells (rErr 0 0 0 0) 33)
  go_enter Tryz.func77, Tryz.ntmps77
  go_wp2_with fail
  refine (HC'.out _ B0 (by simp) A0).mono ?_
  rintro e w1 ⟨rfl, b1⟩
  have r2 := R0.step b1.b
  have B1 := B0.trans (b1.b.mono B0.size)
  clear A0 R0 b1 B0
  obtain ⟨c0, c1, c2, c3, c4, c5, c6, c7, c8, c9⟩ := r2.c10
  have z2 := r2.f
  go_wp2_with fail
  obtain ⟨k1, k2, k3, k4⟩ := set10 r2 (.int .i64 110) (.int .i64 0) (.int .i64 pk) (.int .i64 pn) (.bool false) (.int .i64 0) (.int .i64 0) (.int .u64 0) (.string ⟨#[]⟩) (.slice none 0 0) rfl
  have KF := B1.trans (k4.mono (by omega))
  obtain ⟨q0, q1, q2, q3, q4, q5, q6, q7, q8, q9⟩ := k1.c10
  refine bodyPost_ret (v := .agg (rErr 110 0 pk pn)) ?_ rfl ⟨rfl, KF⟩
  simp [results, Tryz.results77, go_sem, q0, q1, q2, q3, q4, q5, q6, q7, q8, q9]
end Go.Proofs.YtajagjcfmaggiaaGreatDoor
/- The steps that panic: an assertion to a kind, to an interface; the conditions: what the assertions come to. -/
namespace Go.Proofs.YtajagjcfmaggiaaGreatDoor
open Go.RowKit

set_option maxRecDepth 100000 in
set_option maxHeartbeats 1000000 in
theorem pmust_no (k i b : Int) (s : ByteArray) (ad : Option Addr) (len cap : Nat) (kind : Int) (w : World)
    (hM : ∀ wx, Below w.heap.size w wx → Calls Tryz.prog 117 #[.agg #[.int .i64 k, .int .i64 i, .int .u64 b, .string s, .slice ad len cap], .int .i64 kind] wx fun e w' => e = .returned (.tuple #[.agg #[.int .i64 0, .int .i64 0, .int .u64 0, .string ⟨#[]⟩, .slice none 0 0], .agg #[.int .i64 k, .int .i64 (-1)], .int .i64 20]) ∧ Below wx.heap.size wx w') :
    Calls Tryz.prog 104 #[.agg #[.int .i64 k, .int .i64 i, .int .u64 b, .string s, .slice ad len cap], .int .i64 kind] w fun e w' => Pn 182 (.int .i64 k) e ∧ Below w.heap.size w w' := by
  have HM := Lib.hid hM
  clear hM
  have B0 := below2 w (.cells #[.int .i64 k, .int .i64 i, .int .u64 b, .string s, .slice ad len cap] 25) (.cells #[.int .i64 0, .int .i64 0, .int .u64 0, .string ⟨#[]⟩, .slice none 0 0] 25)
  go_enter Tryz.func104, Tryz.ntmps104
  go_wp2_with fail
  refine (HM.out _ B0).mono ?_
  rintro e w1 ⟨rfl, b1⟩
  have B1 := B0.trans (b1.mono B0.size)
  go_wp2_with fail
  exact ⟨rfl, Pn.one _ _, B1.trans ((below2 w1 _ _).mono B1.size)⟩

set_option maxRecDepth 100000 in
set_option maxHeartbeats 1000000 in
theorem pface_no (k i b : Int) (s : ByteArray) (ad : Option Addr) (len cap : Nat) (f : Int) (L : Int) (w : World)
    (hM : ∀ wx, Below w.heap.size w wx → Calls Tryz.prog 118 #[.agg #[.int .i64 k, .int .i64 i, .int .u64 b, .string s, .slice ad len cap], .int .i64 f] wx fun e w' => e = .returned (.tuple #[.agg #[.int .i64 k, .int .i64 L], .int .i64 20]) ∧ Below wx.heap.size wx w') :
    Calls Tryz.prog 105 #[.agg #[.int .i64 k, .int .i64 i, .int .u64 b, .string s, .slice ad len cap], .int .i64 f] w fun e w' => Pn 182 (.int .i64 L) e ∧ Below w.heap.size w w' := by
  have HM := Lib.hid hM
  clear hM
  have B0 := below1 w (.cells #[.int .i64 k, .int .i64 i, .int .u64 b, .string s, .slice ad len cap] 25)
  go_enter Tryz.func105, Tryz.ntmps105
  go_wp2_with fail
  refine (HM.out _ B0).mono ?_
  rintro e w1 ⟨rfl, b1⟩
  have B1 := B0.trans (b1.mono B0.size)
  go_wp2_with fail
  exact ⟨rfl, Pn.one _ _, B1.trans ((below1 w1 _).mono B1.size)⟩

set_option maxRecDepth 100000 in
set_option maxHeartbeats 1000000 in
theorem gave_any (k i b : Int) (s : ByteArray) (ad : Option Addr) (len cap : Nat) (w : World) :
    Calls Tryz.prog 103 #[.agg #[.int .i64 k, .int .i64 i, .int .u64 b, .string s, .slice ad len cap]] w fun e w' => e = .returned (.agg (rcs 0 0 0 0 true k i b s ad len cap)) ∧ Below w.heap.size w w' := by
  go_enter Tryz.func103, Tryz.ntmps103
  go_wp2
  exact bodyPost_ret (v := .agg (rcs 0 0 0 0 true k i b s ad len cap)) (by simp [results, Tryz.results103, go_sem]) rfl ⟨rfl, below2 w _ _⟩

/-- What is said is of memory from H on. -/
def St (H : Nat) (P : BodyP) : Prop := ∀ k i u s a n c w' w'', P k i u s a n c w' → w'.heap.size ≤ w''.heap.size → (∀ g, H ≤ g → g < w'.heap.size → w''.heap[g]? = w'.heap[g]?) → P k i u s a n c w''
theorem St.below {H : Nat} {P : BodyP} (h : St H P) {k i u : Int} {s : ByteArray} {a : Option Addr} {n c : Nat} {w w' : World} (p : P k i u s a n c w) (hb : Below w.heap.size w w') : P k i u s a n c w' := h _ _ _ _ _ _ _ _ _ p hb.size fun g _ hg => hb.block g hg

theorem set5 {w : World} {A : Nat} {y0 y1 y2 y3 y4 : Value} {T : TypeId} (h : Bk w A #[y0, y1, y2, y3, y4] T) (x0 x1 x2 x3 x4 : Value) {W : World} (hW : W = ((((w.setCell ⟨A, 0, none⟩ x0).setCell ⟨A, 1, none⟩ x1).setCell ⟨A, 2, none⟩ x2).setCell ⟨A, 3, none⟩ x3).setCell ⟨A, 4, none⟩ x4) :
    Bk W A #[x0, x1, x2, x3, x4] T ∧ W.heap.size = w.heap.size ∧ (∀ g, g ≠ A → W.heap[g]? = w.heap[g]?) ∧ Below A w W := by
  subst hW
  have h0 : Bk _ A #[x0, y1, y2, y3, y4] T := h.set 0 x0
  have h1 : Bk _ A #[x0, x1, y2, y3, y4] T := h0.set 1 x1
  have h2 : Bk _ A #[x0, x1, x2, y3, y4] T := h1.set 2 x2
  have h3 : Bk _ A #[x0, x1, x2, x3, y4] T := h2.set 3 x3
  have h4 : Bk _ A #[x0, x1, x2, x3, x4] T := h3.set 4 x4
  refine ⟨h4, by simp, fun g hg => ?_, ?_⟩
  · simp (disch := (simp; omega)) only [Below.heap_setCell]
  · exact (((((Below.refl A w).setCell (Nat.le_refl A) _).setCell (Nat.le_refl A) _).setCell (Nat.le_refl A) _).setCell (Nat.le_refl A) _).setCell (Nat.le_refl A) _

set_option maxRecDepth 100000 in
set_option maxHeartbeats 1000000 in
theorem pmust_yes (k i b : Int) (s : ByteArray) (ad : Option Addr) (len cap : Nat) (kind : Int) (w : World) (H : Nat) (hH : w.heap.size + 2 ≤ H) (P : BodyP) (hP : St H P)
    (hM : ∀ wx, Below w.heap.size w wx → wx.heap.size = w.heap.size + 2 → Calls Tryz.prog 117 #[.agg #[.int .i64 k, .int .i64 i, .int .u64 b, .string s, .slice ad len cap], .int .i64 kind] wx fun e w' => ∃ k i u s a n c, e = .returned (.tuple #[.agg #[.int .i64 k, .int .i64 i, .int .u64 u, .string s, .slice a n c], .agg #[.int .i64 0, .int .i64 0], .int .i64 0]) ∧ P k i u s a n c w' ∧ Below wx.heap.size wx w') :
    Calls Tryz.prog 104 #[.agg #[.int .i64 k, .int .i64 i, .int .u64 b, .string s, .slice ad len cap], .int .i64 kind] w fun e w' => ∃ k i u s a n c, e = .returned (.agg #[.int .i64 k, .int .i64 i, .int .u64 u, .string s, .slice a n c]) ∧ P k i u s a n c w' ∧ Below w.heap.size w w' := by
  have HM := Lib.hid hM
  have hP' := Lib.hid hP
  clear hM hP
  have B0 := below2 w (.cells #[.int .i64 k, .int .i64 i, .int .u64 b, .string s, .slice ad len cap] 25) (.cells #[.int .i64 0, .int .i64 0, .int .u64 0, .string ⟨#[]⟩, .slice none 0 0] 25)
  have R0 := Bk.new2 w (.cells #[.int .i64 k, .int .i64 i, .int .u64 b, .string s, .slice ad len cap] 25) #[.int .i64 0, .int .i64 0, .int .u64 0, .string ⟨#[]⟩, .slice none 0 0] 25
  go_enter Tryz.func104, Tryz.ntmps104
  go_wp2_with fail
  refine (HM.out _ B0 (by simp)).mono ?_
  rintro e w1 ⟨k', i', u', s', a', n', c', rfl, p1, b1⟩
  have B1 := B0.trans (b1.mono B0.size)
  have R1 := R0.step b1
  have PP := Lib.hid p1
  have hlt := R1.lt
  clear p1 R0 b1 B0
  have R2 := (R1.alloc (.cells #[.int .i64 k', .int .i64 i', .int .u64 u', .string s', .slice a' n' c'] 25)).alloc (.cells #[.int .i64 0, .int .i64 0] 188)
  obtain ⟨c0, c1, c2, c3, c4⟩ := R2.c5
  have z2 := R2.f
  go_wp2_with fail
  obtain ⟨k1, k2, k3, k4⟩ := set5 R2 (.int .i64 k') (.int .i64 i') (.int .u64 u') (.string s') (.slice a' n' c') rfl
  have B2 := B1.trans ((below2 w1 (.cells #[.int .i64 k', .int .i64 i', .int .u64 u', .string s', .slice a' n' c'] 25) (.cells #[.int .i64 0, .int .i64 0] 188)).mono B1.size)
  have P2 := hP'.out.below PP.out (below2 w1 (.cells #[.int .i64 k', .int .i64 i', .int .u64 u', .string s', .slice a' n' c'] 25) (.cells #[.int .i64 0, .int .i64 0] 188))
  have KP := Lib.hid (hP'.out _ _ _ _ _ _ _ _ _ P2 (Nat.le_of_eq k2.symm) fun g hg _ => k3 g (by omega))
  have KF := B2.trans (k4.mono (by omega))
  obtain ⟨q0, q1, q2, q3, q4⟩ := k1.c5
  refine bodyPost_ret (v := .agg #[.int .i64 k', .int .i64 i', .int .u64 u', .string s', .slice a' n' c']) ?_ rfl ⟨k', i', u', s', a', n', c', rfl, KP.out, KF⟩
  simp [results, Tryz.results104, go_sem, q0, q1, q2, q3, q4]

set_option maxRecDepth 100000 in
set_option maxHeartbeats 1000000 in
theorem pface_yes (k i b : Int) (s : ByteArray) (ad : Option Addr) (len cap : Nat) (f : Int) (w : World)
    (hM : ∀ wx, Below w.heap.size w wx → Calls Tryz.prog 118 #[.agg #[.int .i64 k, .int .i64 i, .int .u64 b, .string s, .slice ad len cap], .int .i64 f] wx fun e w' => e = .returned (.tuple #[.agg #[.int .i64 0, .int .i64 0], .int .i64 0]) ∧ Below wx.heap.size wx w') :
    Calls Tryz.prog 105 #[.agg #[.int .i64 k, .int .i64 i, .int .u64 b, .string s, .slice ad len cap], .int .i64 f] w fun e w' => e = .returned (.tuple #[]) ∧ Below w.heap.size w w' := by
  have HM := Lib.hid hM
  clear hM
  have B0 := below1 w (.cells #[.int .i64 k, .int .i64 i, .int .u64 b, .string s, .slice ad len cap] 25)
  go_enter Tryz.func105, Tryz.ntmps105
  go_wp2_with fail
  refine (HM.out _ B0).mono ?_
  rintro e w1 ⟨rfl, b1⟩
  have B1 := B0.trans (b1.mono B0.size)
  go_wp2_with fail
  simp [bodyPost, results, Tryz.results105]
  exact B1.trans ((below1 w1 _).mono B1.size)
end Go.Proofs.YtajagjcfmaggiaaGreatDoor
