/- An act that is tried: what it comes to, or what its panic is told as; the conditions: what the act comes to by itself. -/
import Derived.Test.YthamafijjflfbaaGreatJab
namespace Go.Proofs.YthamafijjflfbaaGreat
open Go.RowKit

/-- What is said of a result's body and of memory. -/
abbrev BodyP := Int → Int → Int → ByteArray → Option Addr → Nat → Nat → World → Prop

set_option maxRecDepth 100000 in
set_option maxHeartbeats 1000000 in
theorem caughtE_ret (F : Nat) (cap : Array Value) (w : World) (er co pk pn : Int) (has : Bool) (L N : Nat) (hL : L ≤ N) (hN : N ≤ w.heap.size) (P : BodyP) (hP : ∀ k i u s a n c w' w'', P k i u s a n c w' → w'.heap.size ≤ w''.heap.size → (∀ g, g < w'.heap.size → g ≠ w.heap.size → w''.heap[g]? = w'.heap[g]?) → P k i u s a n c w'')
    (hcf : ∀ (w : World), (callFunc F cap).run Tryz.prog w = .ok (.enter F cap) w)
    (hF : ∀ wx, Below w.heap.size w wx → wx.heap.size = w.heap.size + 1 → Calls Tryz.prog F cap wx fun e w' => ∃ k i u s a n c, e = .returned (.agg (rcs er co pk pn has k i u s a n c)) ∧ P k i u s a n c w' ∧ Fr L N wx w') :
    Calls Tryz.prog 19 #[.func (.func F) #[] cap] w fun e w' => ∃ k i u s a n c, e = .returned (.agg (rcs er co pk pn has k i u s a n c)) ∧ P k i u s a n c w' ∧ Fr L N w w' := by
  have hmf : ∀ (fn : Fn) (first cap : Array Value) (w : World), (Instr.makeFunc fn first cap).run Tryz.prog w = .ok (.func fn first cap) w := fun _ _ _ _ => rfl
  have HF := Lib.hid hF
  clear hF
  have B0 := below1 w (.cells #[.int .i64 0, .int .i64 0, .int .i64 0, .int .i64 0, .bool false, .int .i64 0, .int .i64 0, .int .u64 0, .string ⟨#[]⟩, .slice none 0 0] 35)
  have R0 := Bk.new w #[.int .i64 0, .int .i64 0, .int .i64 0, .int .i64 0, .bool false, .int .i64 0, .int .i64 0, .int .u64 0, .string ⟨#[]⟩, .slice none 0 0] 35
  go_enter_defers Tryz.func19, Tryz.ntmps19
  go_wp2_with fail
  refine (HF.out _ B0 (by simp)).mono ?_
  rintro e w1 ⟨k, i, u, s, a, n, c, rfl, p1, b1⟩
  have R1 := R0.fr b1 (.inr hN)
  have B1 : Fr L N w w1 := (Fr.of B0 (by omega)).trans b1
  obtain ⟨c0, c1, c2, c3, c4, c5, c6, c7, c8, c9⟩ := R1.c10
  have f1 := R1.f
  have PP := Lib.hid p1
  clear R0 b1 B0 p1
  go_wp2_with fail
  refine leaves_cons (f := 36) (args := #[.pointer (some ⟨w.heap.size, 0, none⟩)]) (by simp) (by simp [go_sem]) ?_
  refine (ca_idle _ _).mono ?_
  rintro e u' w'' ⟨rfl, rfl, rfl⟩
  simp [Leaves, settle, results, Tryz.results19, go_sem, World.cell?_setCell_same, World.cell?_setCell_other, c0, c1, c2, c3, c4, c5, c6, c7, c8, c9]
  refine ⟨k, i, u, s, a, n, c, ⟨rfl, rfl, rfl, rfl, rfl, rfl, rfl⟩, ?_, ?_⟩
  · refine hP _ _ _ _ _ _ _ _ _ PP.out (by simp) fun g _ hg => ?_
    simp (disch := (simp; omega)) only [Below.heap_setCell]
  · repeat' refine Fr.setCell ?_ _ _ (by omega) (.inr (Nat.le_refl _)) _
    exact B1

set_option maxRecDepth 100000 in
set_option maxHeartbeats 1000000 in
theorem caught_panE (F : Nat) (cap : Array Value) (w : World) (T : TypeId) (z : Value) (pk pn : Int) (L N : Nat) (hL : L ≤ N) (hN : N ≤ w.heap.size) (P : World → Prop) (hP : ∀ w' w'', P w' → w'.heap.size ≤ w''.heap.size → (∀ g, g < w'.heap.size → g ≠ w.heap.size → w''.heap[g]? = w'.heap[g]?) → P w'')
    (hT : ∀ wx, Calls Tryz.prog 37 #[.iface T z] wx fun e w' => e = .returned (.agg #[.int .i64 pk, .int .i64 pn]) ∧ Below wx.heap.size wx w')
    (hcf : ∀ (w : World), (callFunc F cap).run Tryz.prog w = .ok (.enter F cap) w)
    (hF : ∀ wx, Below w.heap.size w wx → wx.heap.size = w.heap.size + 1 → Calls Tryz.prog F cap wx fun e w' => Pn T z e ∧ P w' ∧ Fr L N wx w') :
    Calls Tryz.prog 19 #[.func (.func F) #[] cap] w fun e w' => e = .returned (.agg (rErr 110 0 pk pn)) ∧ P w' ∧ Fr L N w w' := by
  have hmf : ∀ (fn : Fn) (first cap : Array Value) (w : World), (Instr.makeFunc fn first cap).run Tryz.prog w = .ok (.func fn first cap) w := fun _ _ _ _ => rfl
  have HF := Lib.hid hF
  have HT := Lib.hid hT
  clear hF hT
  have B0 := below1 w (.cells (rErr 0 0 0 0) 35)
  have R0 := Bk.new w (rErr 0 0 0 0) 35
  go_enter_defers Tryz.func19, Tryz.ntmps19
  go_wp2_with fail
  refine (HF.out _ B0 (by simp)).mono ?_
  rintro e w1 ⟨⟨older, rfl, hold⟩, p1, b1⟩
  have R1 := R0.fr b1 (.inr hN)
  have B1 : Fr L N w w1 := (Fr.of B0 (by omega)).trans b1
  clear R0 b1 B0
  go_wp2_with fail
  refine leaves_cons (f := 36) (args := #[.pointer (some ⟨w.heap.size, 0, none⟩)]) (by simp) (by simp [go_sem]) ?_
  refine (ca_catch w.heap.size T z pk pn older w1 R1 HT.out).mono ?_
  rintro e u' w'' ⟨rfl, rfl, k1, k2, k3, k4⟩
  obtain ⟨c0, c1, c2, c3, c4, c5, c6, c7, c8, c9⟩ := k1.c10
  simp [Leaves, settle, hold, results, Tryz.results19, go_sem, c0, c1, c2, c3, c4, c5, c6, c7, c8, c9]
  exact ⟨hP _ _ p1 k2 k3, B1.trans_own k4 k3 hN hL⟩

/-- The cells of an act. -/
abbrev acs (op ak ai au : Int) (az : ByteArray) (aa : Option Addr) (an ac : Nat) (bk bi bu : Int) (bs : ByteArray) (ba : Option Addr) (bn bc : Nat) (num : Int) : Array Value :=
  #[.int .i64 op, .int .i64 ak, .int .i64 ai, .int .u64 au, .string az, .slice aa an ac, .int .i64 bk, .int .i64 bi, .int .u64 bu, .string bs, .slice ba bn bc, .int .i64 num]

theorem Bk.c12 {w : World} {N : Nat} {v0 v1 v2 v3 v4 v5 v6 v7 v8 v9 v10 v11 : Value} {T : TypeId} (h : Bk w N #[v0, v1, v2, v3, v4, v5, v6, v7, v8, v9, v10, v11] T) : w.cell? ⟨N, 0, none⟩ = some v0 ∧ w.cell? ⟨N, 1, none⟩ = some v1 ∧ w.cell? ⟨N, 2, none⟩ = some v2 ∧ w.cell? ⟨N, 3, none⟩ = some v3 ∧ w.cell? ⟨N, 4, none⟩ = some v4 ∧ w.cell? ⟨N, 5, none⟩ = some v5 ∧ w.cell? ⟨N, 6, none⟩ = some v6 ∧ w.cell? ⟨N, 7, none⟩ = some v7 ∧ w.cell? ⟨N, 8, none⟩ = some v8 ∧ w.cell? ⟨N, 9, none⟩ = some v9 ∧ w.cell? ⟨N, 10, none⟩ = some v10 ∧ w.cell? ⟨N, 11, none⟩ = some v11 :=
  ⟨h.c 0, h.c 1, h.c 2, h.c 3, h.c 4, h.c 5, h.c 6, h.c 7, h.c 8, h.c 9, h.c 10, h.c 11⟩

set_option maxRecDepth 100000 in
set_option maxHeartbeats 1000000 in
theorem try1_ret (op ak ai au : Int) (az : ByteArray) (aa : Option Addr) (an ac : Nat) (bk bi bu : Int) (bs : ByteArray) (ba : Option Addr) (bn bc : Nat) (num : Int) (A : Nat) (w : World) (er co pk pn : Int) (has : Bool) (P : BodyP) (hP : ∀ k i u s a n c w' w'', P k i u s a n c w' → w'.heap.size ≤ w''.heap.size → (∀ g, g < w'.heap.size → g ≠ w.heap.size → w''.heap[g]? = w'.heap[g]?) → P k i u s a n c w'')
    (hA : Bk w A (acs op ak ai au az aa an ac bk bi bu bs ba bn bc num) 27)
    (hD : ∀ wx, Below w.heap.size w wx → wx.heap.size = w.heap.size + 1 → Calls Tryz.prog 21 #[.agg (acs op ak ai au az aa an ac bk bi bu bs ba bn bc num)] wx fun e w' => ∃ k i u s a n c, e = .returned (.agg (rcs er co pk pn has k i u s a n c)) ∧ P k i u s a n c w' ∧ Below wx.heap.size wx w') :
    Calls Tryz.prog 20 #[.pointer (some ⟨A, 0, none⟩)] w fun e w' => ∃ k i u s a n c, e = .returned (.agg (rcs er co pk pn has k i u s a n c)) ∧ P k i u s a n c w' ∧ Below w.heap.size w w' := by
  have HD := Lib.hid hD
  have hP' := Lib.hid hP
  clear hD hP
  have B0 := below1 w (.cells (rErr 0 0 0 0) 35)
  have R0 := Bk.new w (rErr 0 0 0 0) 35
  have A0 := hA.alloc (.cells (rErr 0 0 0 0) 35)
  obtain ⟨c0, c1, c2, c3, c4, c5, c6, c7, c8, c9, c10, c11⟩ := A0.c12
  go_enter Tryz.func20, Tryz.ntmps20
  go_wp2_with fail
  refine (HD.out _ B0 (by simp)).mono ?_
  rintro e w1 ⟨k, i, u, s, a, n, c, rfl, p1, b1⟩
  have r2 := R0.step b1
  have B1 := B0.trans (b1.mono B0.size)
  have PP := Lib.hid p1
  clear p1 c0 c1 c2 c3 c4 c5 c6 c7 c8 c9 c10 c11 A0 R0 b1 B0
  obtain ⟨c0, c1, c2, c3, c4, c5, c6, c7, c8, c9⟩ := r2.c10
  have z2 := r2.f
  go_wp2_with fail
  obtain ⟨k1, k2, k3, k4⟩ := set10 r2 (.int .i64 er) (.int .i64 co) (.int .i64 pk) (.int .i64 pn) (.bool has) (.int .i64 k) (.int .i64 i) (.int .u64 u) (.string s) (.slice a n c) rfl
  have KP := Lib.hid (hP'.out _ _ _ _ _ _ _ w1 _ PP.out (Nat.le_of_eq k2.symm) fun g _ hg => k3 g hg)
  have KF := B1.trans k4
  obtain ⟨q0, q1, q2, q3, q4, q5, q6, q7, q8, q9⟩ := k1.c10
  refine bodyPost_ret (v := .agg (rcs er co pk pn has k i u s a n c)) ?_ rfl ⟨k, i, u, s, a, n, c, rfl, KP.out, KF⟩
  simp [results, Tryz.results20, go_sem, q0, q1, q2, q3, q4, q5, q6, q7, q8, q9]

set_option maxRecDepth 100000 in
set_option maxHeartbeats 1000000 in
theorem try1_pan (op ak ai au : Int) (az : ByteArray) (aa : Option Addr) (an ac : Nat) (bk bi bu : Int) (bs : ByteArray) (ba : Option Addr) (bn bc : Nat) (num : Int) (A : Nat) (w : World) (T : TypeId) (z : Value) (P : World → Prop)
    (hA : Bk w A (acs op ak ai au az aa an ac bk bi bu bs ba bn bc num) 27)
    (hD : ∀ wx, Below w.heap.size w wx → wx.heap.size = w.heap.size + 1 → Calls Tryz.prog 21 #[.agg (acs op ak ai au az aa an ac bk bi bu bs ba bn bc num)] wx fun e w' => Pn T z e ∧ P w' ∧ Below wx.heap.size wx w') :
    Calls Tryz.prog 20 #[.pointer (some ⟨A, 0, none⟩)] w fun e w' => Pn T z e ∧ P w' ∧ Below w.heap.size w w' := by
  have HD := Lib.hid hD
  clear hD
  have B0 := below1 w (.cells (rErr 0 0 0 0) 35)
  have A0 := hA.alloc (.cells (rErr 0 0 0 0) 35)
  obtain ⟨c0, c1, c2, c3, c4, c5, c6, c7, c8, c9, c10, c11⟩ := A0.c12
  go_enter Tryz.func20, Tryz.ntmps20
  go_wp2_with fail
  refine (HD.out _ B0 (by simp)).mono ?_
  rintro e w1 ⟨⟨older, rfl, ho⟩, p1, b1⟩
  have B1 := B0.trans (b1.mono B0.size)
  go_wp2_with fail
  exact ⟨rfl, ⟨older, rfl, ho⟩, p1, B1⟩
end Go.Proofs.YthamafijjflfbaaGreat
/- An act that is tried, by what the act does: what comes, or the panic told; the conditions: what the act comes to by itself. -/
namespace Go.Proofs.YthamafijjflfbaaGreat
open Go.RowKit

set_option maxRecDepth 100000 in
set_option maxHeartbeats 1000000 in
theorem try_ret (op ak ai au : Int) (az : ByteArray) (aa : Option Addr) (an ac : Nat) (bk bi bu : Int) (bs : ByteArray) (ba : Option Addr) (bn bc : Nat) (num : Int) (w : World) (er co pk pn : Int) (has : Bool) (P : BodyP) (hP : ∀ k i u s a n c w' w'', P k i u s a n c w' → w'.heap.size ≤ w''.heap.size → (∀ g, g < w'.heap.size → g ≠ w.heap.size + 1 → g ≠ w.heap.size + 2 → g ≠ w.heap.size + 3 → w''.heap[g]? = w'.heap[g]?) → P k i u s a n c w'')
    (hD : ∀ wx, Below w.heap.size w wx → wx.heap.size = w.heap.size + 4 → Calls Tryz.prog 21 #[.agg (acs op ak ai au az aa an ac bk bi bu bs ba bn bc num)] wx fun e w' => ∃ k i u s a n c, e = .returned (.agg (rcs er co pk pn has k i u s a n c)) ∧ P k i u s a n c w' ∧ Below wx.heap.size wx w') :
    Calls Tryz.prog 10 #[.agg (acs op ak ai au az aa an ac bk bi bu bs ba bn bc num)] w fun e w' => ∃ k i u s a n c, e = .returned (.agg (rcs er co pk pn has k i u s a n c)) ∧ P k i u s a n c w' ∧ Below w.heap.size w w' := by
  have hmf : ∀ (fn : Fn) (first cap : Array Value) (w : World), (Instr.makeFunc fn first cap).run Tryz.prog w = .ok (.func fn first cap) w := fun _ _ _ _ => rfl
  have HC : ∀ w2, Below w.heap.size w w2 → w2.heap.size = w.heap.size + 2 → Bk w2 w.heap.size (acs op ak ai au az aa an ac bk bi bu bs ba bn bc num) 27 → Calls Tryz.prog 19 #[.func (.func 20) #[] #[.pointer (some ⟨w.heap.size, 0, none⟩)]] w2 fun e w' => ∃ k i u s a n c, e = .returned (.agg (rcs er co pk pn has k i u s a n c)) ∧ P k i u s a n c w' ∧ Fr w2.heap.size w2.heap.size w2 w' := fun w2 hb2 hz2 hA2 => by
    refine caughtE_ret 20 _ w2 er co pk pn has w2.heap.size w2.heap.size (Nat.le_refl _) (Nat.le_refl _) P (fun k i u s a n c w' w'' h1 h2 h3 => hP _ _ _ _ _ _ _ _ _ h1 h2 fun g g1 _ g3 _ => h3 g g1 (by omega)) (fun _ => by kernel_rfl) fun wx hbx hzx => ?_
    refine (try1_ret op ak ai au az aa an ac bk bi bu bs ba bn bc num w.heap.size wx er co pk pn has P (fun k i u s a n c w' w'' h1 h2 h3 => hP _ _ _ _ _ _ _ _ _ h1 h2 fun g g1 _ _ g4 => h3 g g1 (by omega)) (hA2.step hbx) fun wy hby hzy => ?_).mono fun e w' ⟨k, i, u, s, a, n, c, he, hp, hb⟩ => ⟨k, i, u, s, a, n, c, he, hp, Fr.of hb (by omega)⟩
    exact hD wy ((hb2.trans (hbx.mono (by omega))).trans (hby.mono (by omega))) (by omega)
  have HC' := Lib.hid HC
  have hP' := Lib.hid hP
  clear hD hP HC
  have A0 : Bk ((w.alloc (.cells (acs op ak ai au az aa an ac bk bi bu bs ba bn bc num) 27)).alloc (.cells (rErr 0 0 0 0) 35)) w.heap.size (acs op ak ai au az aa an ac bk bi bu bs ba bn bc num) 27 := (Bk.new w _ _).alloc _
  have R0 := Bk.new2 w (.cells (acs op ak ai au az aa an ac bk bi bu bs ba bn bc num) 27) (rErr 0 0 0 0) 35
  have B0 := below2 w (.cells (acs op ak ai au az aa an ac bk bi bu bs ba bn bc num) 27) (.cells (rErr 0 0 0 0) 35)
  go_enter Tryz.func10, Tryz.ntmps10
  go_wp2_with fail
  refine (HC'.out _ B0 (by simp) A0).mono ?_
  rintro e w1 ⟨k, i, u, s, a, n, c, rfl, p1, b1⟩
  have r2 := R0.step b1.b
  have B1 := B0.trans (b1.b.mono B0.size)
  have PP := Lib.hid p1
  clear p1 A0 R0 b1 B0
  obtain ⟨c0, c1, c2, c3, c4, c5, c6, c7, c8, c9⟩ := r2.c10
  have z2 := r2.f
  go_wp2_with fail
  obtain ⟨k1, k2, k3, k4⟩ := set10 r2 (.int .i64 er) (.int .i64 co) (.int .i64 pk) (.int .i64 pn) (.bool has) (.int .i64 k) (.int .i64 i) (.int .u64 u) (.string s) (.slice a n c) rfl
  have KP := Lib.hid (hP'.out _ _ _ _ _ _ _ w1 _ PP.out (Nat.le_of_eq k2.symm) fun g _ hg _ _ => k3 g hg)
  have KF := B1.trans (k4.mono (by omega))
  obtain ⟨q0, q1, q2, q3, q4, q5, q6, q7, q8, q9⟩ := k1.c10
  refine bodyPost_ret (v := .agg (rcs er co pk pn has k i u s a n c)) ?_ rfl ⟨k, i, u, s, a, n, c, rfl, KP.out, KF⟩
  simp [results, Tryz.results10, go_sem, q0, q1, q2, q3, q4, q5, q6, q7, q8, q9]

set_option maxRecDepth 100000 in
set_option maxHeartbeats 1000000 in
theorem try_pan (op ak ai au : Int) (az : ByteArray) (aa : Option Addr) (an ac : Nat) (bk bi bu : Int) (bs : ByteArray) (ba : Option Addr) (bn bc : Nat) (num : Int) (w : World) (T : TypeId) (z : Value) (pk pn : Int)
    (hT : ∀ wx, Calls Tryz.prog 37 #[.iface T z] wx fun e w' => e = .returned (.agg #[.int .i64 pk, .int .i64 pn]) ∧ Below wx.heap.size wx w')
    (hD : ∀ wx, Below w.heap.size w wx → wx.heap.size = w.heap.size + 4 → Calls Tryz.prog 21 #[.agg (acs op ak ai au az aa an ac bk bi bu bs ba bn bc num)] wx fun e w' => Pn T z e ∧ Below wx.heap.size wx w') :
    Calls Tryz.prog 10 #[.agg (acs op ak ai au az aa an ac bk bi bu bs ba bn bc num)] w fun e w' => e = .returned (.agg (rErr 110 0 pk pn)) ∧ Below w.heap.size w w' := by
  have hmf : ∀ (fn : Fn) (first cap : Array Value) (w : World), (Instr.makeFunc fn first cap).run Tryz.prog w = .ok (.func fn first cap) w := fun _ _ _ _ => rfl
  have HC : ∀ w2, Below w.heap.size w w2 → w2.heap.size = w.heap.size + 2 → Bk w2 w.heap.size (acs op ak ai au az aa an ac bk bi bu bs ba bn bc num) 27 → Calls Tryz.prog 19 #[.func (.func 20) #[] #[.pointer (some ⟨w.heap.size, 0, none⟩)]] w2 fun e w' => e = .returned (.agg (rErr 110 0 pk pn)) ∧ Fr w2.heap.size w2.heap.size w2 w' := fun w2 hb2 hz2 hA2 => by
    refine (caught_panE 20 _ w2 T z pk pn w2.heap.size w2.heap.size (Nat.le_refl _) (Nat.le_refl _) (fun _ => True) (fun _ _ _ _ _ => trivial) hT (fun _ => by kernel_rfl) fun wx hbx hzx => ?_).mono fun e w' ⟨he, _, hf⟩ => ⟨he, hf⟩
    refine (try1_pan op ak ai au az aa an ac bk bi bu bs ba bn bc num w.heap.size wx T z (fun _ => True) (hA2.step hbx) fun wy hby hzy => ?_).mono fun e w' ⟨he, hp, hb⟩ => ⟨he, hp, Fr.of hb (by omega)⟩
    exact (hD wy ((hb2.trans (hbx.mono (by omega))).trans (hby.mono (by omega))) (by omega)).mono fun e w' ⟨h1, h2⟩ => ⟨h1, trivial, h2⟩
  have HC' := Lib.hid HC
  clear hD HC hT
  have A0 : Bk ((w.alloc (.cells (acs op ak ai au az aa an ac bk bi bu bs ba bn bc num) 27)).alloc (.cells (rErr 0 0 0 0) 35)) w.heap.size (acs op ak ai au az aa an ac bk bi bu bs ba bn bc num) 27 := (Bk.new w _ _).alloc _
  have R0 := Bk.new2 w (.cells (acs op ak ai au az aa an ac bk bi bu bs ba bn bc num) 27) (rErr 0 0 0 0) 35
  have B0 := below2 w (.cells (acs op ak ai au az aa an ac bk bi bu bs ba bn bc num) 27) (.cells (rErr 0 0 0 0) 35)
  go_enter Tryz.func10, Tryz.ntmps10
  go_wp2_with fail
  refine (HC'.out _ B0 (by simp) A0).mono ?_
  rintro e w1 ⟨rfl, b1⟩
  have r2 := R0.step b1.b
  have B1 := B0.trans (b1.b.mono B0.size)
  clear A0 R0 b1 B0
  obtain ⟨c0, c1, c2, c3, c4, c5, c6, c7, c8, c9⟩ := r2.c10
  have z2 := r2.f
  go_wp2_with fail
  obtain ⟨k1, k2, k3, k4⟩ := set10 r2 (.int .i64 110) (.int .i64 0) (.int .i64 pk) (.int .i64 pn) (.bool false) (.int .i64 0) (.int .i64 0) (.int .u64 0) (.string ⟨#[]⟩) (.slice none 0 0) rfl
  have KF := B1.trans (k4.mono (by omega))
  obtain ⟨q0, q1, q2, q3, q4, q5, q6, q7, q8, q9⟩ := k1.c10
  refine bodyPost_ret (v := .agg (rErr 110 0 pk pn)) ?_ rfl ⟨rfl, KF⟩
  simp [results, Tryz.results10, go_sem, q0, q1, q2, q3, q4, q5, q6, q7, q8, q9]
end Go.Proofs.YthamafijjflfbaaGreat
/- The steps that panic: an assertion to a kind, to an interface; the conditions: what the assertions come to. -/
namespace Go.Proofs.YthamafijjflfbaaGreat
open Go.RowKit

set_option maxRecDepth 100000 in
set_option maxHeartbeats 1000000 in
theorem pmust_no (k i b : Int) (s : ByteArray) (ad : Option Addr) (len cap : Nat) (kind : Int) (w : World)
    (hM : ∀ wx, Below w.heap.size w wx → Calls Tryz.prog 54 #[.agg #[.int .i64 k, .int .i64 i, .int .u64 b, .string s, .slice ad len cap], .int .i64 kind] wx fun e w' => e = .returned (.tuple #[.agg #[.int .i64 0, .int .i64 0, .int .u64 0, .string ⟨#[]⟩, .slice none 0 0], .agg #[.int .i64 k, .int .i64 (-1)], .int .i64 20]) ∧ Below wx.heap.size wx w') :
    Calls Tryz.prog 40 #[.agg #[.int .i64 k, .int .i64 i, .int .u64 b, .string s, .slice ad len cap], .int .i64 kind] w fun e w' => Pn 84 (.int .i64 k) e ∧ Below w.heap.size w w' := by
  have HM := Lib.hid hM
  clear hM
  have B0 := below2 w (.cells #[.int .i64 k, .int .i64 i, .int .u64 b, .string s, .slice ad len cap] 25) (.cells #[.int .i64 0, .int .i64 0, .int .u64 0, .string ⟨#[]⟩, .slice none 0 0] 25)
  go_enter Tryz.func40, Tryz.ntmps40
  go_wp2_with fail
  refine (HM.out _ B0).mono ?_
  rintro e w1 ⟨rfl, b1⟩
  have B1 := B0.trans (b1.mono B0.size)
  go_wp2_with fail
  exact ⟨rfl, Pn.one _ _, B1.trans ((below2 w1 _ _).mono B1.size)⟩

set_option maxRecDepth 100000 in
set_option maxHeartbeats 1000000 in
theorem pface_no (k i b : Int) (s : ByteArray) (ad : Option Addr) (len cap : Nat) (f : Int) (L : Int) (w : World)
    (hM : ∀ wx, Below w.heap.size w wx → Calls Tryz.prog 55 #[.agg #[.int .i64 k, .int .i64 i, .int .u64 b, .string s, .slice ad len cap], .int .i64 f] wx fun e w' => e = .returned (.tuple #[.agg #[.int .i64 k, .int .i64 L], .int .i64 20]) ∧ Below wx.heap.size wx w') :
    Calls Tryz.prog 41 #[.agg #[.int .i64 k, .int .i64 i, .int .u64 b, .string s, .slice ad len cap], .int .i64 f] w fun e w' => Pn 84 (.int .i64 L) e ∧ Below w.heap.size w w' := by
  have HM := Lib.hid hM
  clear hM
  have B0 := below1 w (.cells #[.int .i64 k, .int .i64 i, .int .u64 b, .string s, .slice ad len cap] 25)
  go_enter Tryz.func41, Tryz.ntmps41
  go_wp2_with fail
  refine (HM.out _ B0).mono ?_
  rintro e w1 ⟨rfl, b1⟩
  have B1 := B0.trans (b1.mono B0.size)
  go_wp2_with fail
  exact ⟨rfl, Pn.one _ _, B1.trans ((below1 w1 _).mono B1.size)⟩

set_option maxRecDepth 100000 in
set_option maxHeartbeats 1000000 in
theorem gave_any (k i b : Int) (s : ByteArray) (ad : Option Addr) (len cap : Nat) (w : World) :
    Calls Tryz.prog 38 #[.agg #[.int .i64 k, .int .i64 i, .int .u64 b, .string s, .slice ad len cap]] w fun e w' => e = .returned (.agg (rcs 0 0 0 0 true k i b s ad len cap)) ∧ Below w.heap.size w w' := by
  go_enter Tryz.func38, Tryz.ntmps38
  go_wp2
  exact bodyPost_ret (v := .agg (rcs 0 0 0 0 true k i b s ad len cap)) (by simp [results, Tryz.results38, go_sem]) rfl ⟨rfl, below2 w _ _⟩

/-- What is said is of memory from H on. -/
def St (H : Nat) (P : BodyP) : Prop := ∀ k i u s a n c w' w'', P k i u s a n c w' → w'.heap.size ≤ w''.heap.size → (∀ g, H ≤ g → g < w'.heap.size → w''.heap[g]? = w'.heap[g]?) → P k i u s a n c w''
theorem St.below {H : Nat} {P : BodyP} (h : St H P) {k i u : Int} {s : ByteArray} {a : Option Addr} {n c : Nat} {w w' : World} (p : P k i u s a n c w) (hb : Below w.heap.size w w') : P k i u s a n c w' := h _ _ _ _ _ _ _ _ _ p hb.size fun g _ hg => hb.block g hg

theorem set5 {w : World} {A : Nat} {y0 y1 y2 y3 y4 : Value} {T : TypeId} (h : Bk w A #[y0, y1, y2, y3, y4] T) (x0 x1 x2 x3 x4 : Value) {W : World} (hW : W = ((((w.setCell ⟨A, 0, none⟩ x0).setCell ⟨A, 1, none⟩ x1).setCell ⟨A, 2, none⟩ x2).setCell ⟨A, 3, none⟩ x3).setCell ⟨A, 4, none⟩ x4) :
    Bk W A #[x0, x1, x2, x3, x4] T ∧ W.heap.size = w.heap.size ∧ (∀ g, g ≠ A → W.heap[g]? = w.heap[g]?) ∧ Below A w W := by
  subst hW
  have h0 : Bk _ A #[x0, y1, y2, y3, y4] T := h.set 0 x0
  have h1 : Bk _ A #[x0, x1, y2, y3, y4] T := h0.set 1 x1
  have h2 : Bk _ A #[x0, x1, x2, y3, y4] T := h1.set 2 x2
  have h3 : Bk _ A #[x0, x1, x2, x3, y4] T := h2.set 3 x3
  have h4 : Bk _ A #[x0, x1, x2, x3, x4] T := h3.set 4 x4
  refine ⟨h4, by simp, fun g hg => ?_, ?_⟩
  · simp (disch := (simp; omega)) only [Below.heap_setCell]
  · exact (((((Below.refl A w).setCell (Nat.le_refl A) _).setCell (Nat.le_refl A) _).setCell (Nat.le_refl A) _).setCell (Nat.le_refl A) _).setCell (Nat.le_refl A) _

set_option maxRecDepth 100000 in
set_option maxHeartbeats 1000000 in
theorem pmust_yes (k i b : Int) (s : ByteArray) (ad : Option Addr) (len cap : Nat) (kind : Int) (w : World) (H : Nat) (hH : w.heap.size + 2 ≤ H) (P : BodyP) (hP : St H P)
    (hM : ∀ wx, Below w.heap.size w wx → wx.heap.size = w.heap.size + 2 → Calls Tryz.prog 54 #[.agg #[.int .i64 k, .int .i64 i, .int .u64 b, .string s, .slice ad len cap], .int .i64 kind] wx fun e w' => ∃ k i u s a n c, e = .returned (.tuple #[.agg #[.int .i64 k, .int .i64 i, .int .u64 u, .string s, .slice a n c], .agg #[.int .i64 0, .int .i64 0], .int .i64 0]) ∧ P k i u s a n c w' ∧ Below wx.heap.size wx w') :
    Calls Tryz.prog 40 #[.agg #[.int .i64 k, .int .i64 i, .int .u64 b, .string s, .slice ad len cap], .int .i64 kind] w fun e w' => ∃ k i u s a n c, e = .returned (.agg #[.int .i64 k, .int .i64 i, .int .u64 u, .string s, .slice a n c]) ∧ P k i u s a n c w' ∧ Below w.heap.size w w' := by
  have HM := Lib.hid hM
  have hP' := Lib.hid hP
  clear hM hP
  have B0 := below2 w (.cells #[.int .i64 k, .int .i64 i, .int .u64 b, .string s, .slice ad len cap] 25) (.cells #[.int .i64 0, .int .i64 0, .int .u64 0, .string ⟨#[]⟩, .slice none 0 0] 25)
  have R0 := Bk.new2 w (.cells #[.int .i64 k, .int .i64 i, .int .u64 b, .string s, .slice ad len cap] 25) #[.int .i64 0, .int .i64 0, .int .u64 0, .string ⟨#[]⟩, .slice none 0 0] 25
  go_enter Tryz.func40, Tryz.ntmps40
  go_wp2_with fail
  refine (HM.out _ B0 (by simp)).mono ?_
  rintro e w1 ⟨k', i', u', s', a', n', c', rfl, p1, b1⟩
  have B1 := B0.trans (b1.mono B0.size)
  have R1 := R0.step b1
  have PP := Lib.hid p1
  have hlt := R1.lt
  clear p1 R0 b1 B0
  have R2 := (R1.alloc (.cells #[.int .i64 k', .int .i64 i', .int .u64 u', .string s', .slice a' n' c'] 25)).alloc (.cells #[.int .i64 0, .int .i64 0] 92)
  obtain ⟨c0, c1, c2, c3, c4⟩ := R2.c5
  have z2 := R2.f
  go_wp2_with fail
  obtain ⟨k1, k2, k3, k4⟩ := set5 R2 (.int .i64 k') (.int .i64 i') (.int .u64 u') (.string s') (.slice a' n' c') rfl
  have B2 := B1.trans ((below2 w1 (.cells #[.int .i64 k', .int .i64 i', .int .u64 u', .string s', .slice a' n' c'] 25) (.cells #[.int .i64 0, .int .i64 0] 92)).mono B1.size)
  have P2 := hP'.out.below PP.out (below2 w1 (.cells #[.int .i64 k', .int .i64 i', .int .u64 u', .string s', .slice a' n' c'] 25) (.cells #[.int .i64 0, .int .i64 0] 92))
  have KP := Lib.hid (hP'.out _ _ _ _ _ _ _ _ _ P2 (Nat.le_of_eq k2.symm) fun g hg _ => k3 g (by omega))
  have KF := B2.trans (k4.mono (by omega))
  obtain ⟨q0, q1, q2, q3, q4⟩ := k1.c5
  refine bodyPost_ret (v := .agg #[.int .i64 k', .int .i64 i', .int .u64 u', .string s', .slice a' n' c']) ?_ rfl ⟨k', i', u', s', a', n', c', rfl, KP.out, KF⟩
  simp [results, Tryz.results40, go_sem, q0, q1, q2, q3, q4]

set_option maxRecDepth 100000 in
set_option maxHeartbeats 1000000 in
theorem pface_yes (k i b : Int) (s : ByteArray) (ad : Option Addr) (len cap : Nat) (f : Int) (w : World)
    (hM : ∀ wx, Below w.heap.size w wx → Calls Tryz.prog 55 #[.agg #[.int .i64 k, .int .i64 i, .int .u64 b, .string s, .slice ad len cap], .int .i64 f] wx fun e w' => e = .returned (.tuple #[.agg #[.int .i64 0, .int .i64 0], .int .i64 0]) ∧ Below wx.heap.size wx w') :
    Calls Tryz.prog 41 #[.agg #[.int .i64 k, .int .i64 i, .int .u64 b, .string s, .slice ad len cap], .int .i64 f] w fun e w' => e = .returned (.tuple #[]) ∧ Below w.heap.size w w' := by
  have HM := Lib.hid hM
  clear hM
  have B0 := below1 w (.cells #[.int .i64 k, .int .i64 i, .int .u64 b, .string s, .slice ad len cap] 25)
  go_enter Tryz.func41, Tryz.ntmps41
  go_wp2_with fail
  refine (HM.out _ B0).mono ?_
  rintro e w1 ⟨rfl, b1⟩
  have B1 := B0.trans (b1.mono B0.size)
  go_wp2_with fail
  simp [bodyPost, results, Tryz.results41]
  exact B1.trans ((below1 w1 _).mono B1.size)
end Go.Proofs.YthamafijjflfbaaGreat
/- What an act comes to, by what the steps do; the conditions: what the steps come to. -/
namespace Go.Proofs.YthamafijjflfbaaGreat
open Go.RowKit

set_option maxRecDepth 100000 in
set_option maxHeartbeats 1000000 in
theorem done_give (ak ai au : Int) (az : ByteArray) (aa : Option Addr) (an ac : Nat) (bk bi bu : Int) (bs : ByteArray) (ba : Option Addr) (bn bc : Nat) (num : Int) (w : World) (H : Nat) (hH : w.heap.size + 2 ≤ H) (P : BodyP) (hP : St H P)
    (hM : ∀ wx, Below w.heap.size w wx → wx.heap.size = w.heap.size + 2 → Calls Tryz.prog 39 #[.agg #[.int .i64 ak, .int .i64 ai, .int .u64 au, .string az, .slice aa an ac]] wx fun e w' => ∃ k i u s a n c, e = .returned (.agg #[.int .i64 k, .int .i64 i, .int .u64 u, .string s, .slice a n c]) ∧ P k i u s a n c w' ∧ Below wx.heap.size wx w') :
    Calls Tryz.prog 21 #[.agg (acs 1 ak ai au az aa an ac bk bi bu bs ba bn bc num)] w fun e w' => ∃ k i u s a n c, e = .returned (.agg (rcs 0 0 0 0 true k i u s a n c)) ∧ P k i u s a n c w' ∧ Below w.heap.size w w' := by
  have HM := Lib.hid hM
  have hP' := Lib.hid hP
  clear hM hP
  have GV : Hid (∀ (k i b : Int) (s : ByteArray) (ad : Option Addr) (len cap : Nat) (w : World), Calls Tryz.prog 38 #[.agg #[.int .i64 k, .int .i64 i, .int .u64 b, .string s, .slice ad len cap]] w fun e w' => e = .returned (.agg (rcs 0 0 0 0 true k i b s ad len cap)) ∧ Below w.heap.size w w') := gave_any
  have B0 := below2 w (.cells (acs 1 ak ai au az aa an ac bk bi bu bs ba bn bc num) 27) (.cells (rErr 0 0 0 0) 35)
  have R0 := Bk.new2 w (.cells (acs 1 ak ai au az aa an ac bk bi bu bs ba bn bc num) 27) (rErr 0 0 0 0) 35
  go_enter Tryz.func21, Tryz.ntmps21
  go_wp2_with fail
  refine (HM.out _ B0 (by simp)).mono ?_
  rintro e w1 ⟨k, i, u, s, a, n, c, rfl, p0, b1⟩
  have p1 := Lib.hid p0
  have B1 := B0.trans (b1.mono B0.size)
  have R1 := R0.step b1
  clear p0 b1 B0 R0
  go_wp2_with fail
  refine (GV.out k i u s a n c _).mono ?_
  rintro e w2 ⟨rfl, b2⟩
  have r2 := R1.step b2
  have B2 := B1.trans (b2.mono B1.size)
  have PP := Lib.hid (hP'.out.below p1.out b2)
  clear p1 R1 b2 B1
  obtain ⟨c0, c1, c2, c3, c4, c5, c6, c7, c8, c9⟩ := r2.c10
  have z2 := r2.f
  go_wp2_with fail
  obtain ⟨k1, k2, k3, k4⟩ := set10 r2 (.int .i64 0) (.int .i64 0) (.int .i64 0) (.int .i64 0) (.bool true) (.int .i64 k) (.int .i64 i) (.int .u64 u) (.string s) (.slice a n c) rfl
  have KP := Lib.hid (hP'.out _ _ _ _ _ _ _ w2 _ PP.out (Nat.le_of_eq k2.symm) fun g hg _ => k3 g (by omega))
  have KF := B2.trans (k4.mono (by omega))
  obtain ⟨q0, q1, q2, q3, q4, q5, q6, q7, q8, q9⟩ := k1.c10
  refine bodyPost_ret (v := .agg (rcs 0 0 0 0 true k i u s a n c)) ?_ rfl ⟨k, i, u, s, a, n, c, rfl, KP.out, KF⟩
  simp [results, Tryz.results21, go_sem, q0, q1, q2, q3, q4, q5, q6, q7, q8, q9]

set_option maxRecDepth 100000 in
set_option maxHeartbeats 1000000 in
theorem done_assert (ak ai au : Int) (az : ByteArray) (aa : Option Addr) (an ac : Nat) (bk bi bu : Int) (bs : ByteArray) (ba : Option Addr) (bn bc : Nat) (num : Int) (w : World) (H : Nat) (hH : w.heap.size + 2 ≤ H) (P : BodyP) (hP : St H P)
    (hM : ∀ wx, Below w.heap.size w wx → wx.heap.size = w.heap.size + 2 → Calls Tryz.prog 40 #[.agg #[.int .i64 ak, .int .i64 ai, .int .u64 au, .string az, .slice aa an ac], .int .i64 num] wx fun e w' => ∃ k i u s a n c, e = .returned (.agg #[.int .i64 k, .int .i64 i, .int .u64 u, .string s, .slice a n c]) ∧ P k i u s a n c w' ∧ Below wx.heap.size wx w') :
    Calls Tryz.prog 21 #[.agg (acs 2 ak ai au az aa an ac bk bi bu bs ba bn bc num)] w fun e w' => ∃ k i u s a n c, e = .returned (.agg (rcs 0 0 0 0 true k i u s a n c)) ∧ P k i u s a n c w' ∧ Below w.heap.size w w' := by
  have HM := Lib.hid hM
  have hP' := Lib.hid hP
  clear hM hP
  have GV : Hid (∀ (k i b : Int) (s : ByteArray) (ad : Option Addr) (len cap : Nat) (w : World), Calls Tryz.prog 38 #[.agg #[.int .i64 k, .int .i64 i, .int .u64 b, .string s, .slice ad len cap]] w fun e w' => e = .returned (.agg (rcs 0 0 0 0 true k i b s ad len cap)) ∧ Below w.heap.size w w') := gave_any
  have B0 := below2 w (.cells (acs 2 ak ai au az aa an ac bk bi bu bs ba bn bc num) 27) (.cells (rErr 0 0 0 0) 35)
  have R0 := Bk.new2 w (.cells (acs 2 ak ai au az aa an ac bk bi bu bs ba bn bc num) 27) (rErr 0 0 0 0) 35
  go_enter Tryz.func21, Tryz.ntmps21
  go_wp2_with fail
  refine (HM.out _ B0 (by simp)).mono ?_
  rintro e w1 ⟨k, i, u, s, a, n, c, rfl, p0, b1⟩
  have p1 := Lib.hid p0
  have B1 := B0.trans (b1.mono B0.size)
  have R1 := R0.step b1
  clear p0 b1 B0 R0
  go_wp2_with fail
  refine (GV.out k i u s a n c _).mono ?_
  rintro e w2 ⟨rfl, b2⟩
  have r2 := R1.step b2
  have B2 := B1.trans (b2.mono B1.size)
  have PP := Lib.hid (hP'.out.below p1.out b2)
  clear p1 R1 b2 B1
  obtain ⟨c0, c1, c2, c3, c4, c5, c6, c7, c8, c9⟩ := r2.c10
  have z2 := r2.f
  go_wp2_with fail
  obtain ⟨k1, k2, k3, k4⟩ := set10 r2 (.int .i64 0) (.int .i64 0) (.int .i64 0) (.int .i64 0) (.bool true) (.int .i64 k) (.int .i64 i) (.int .u64 u) (.string s) (.slice a n c) rfl
  have KP := Lib.hid (hP'.out _ _ _ _ _ _ _ w2 _ PP.out (Nat.le_of_eq k2.symm) fun g hg _ => k3 g (by omega))
  have KF := B2.trans (k4.mono (by omega))
  obtain ⟨q0, q1, q2, q3, q4, q5, q6, q7, q8, q9⟩ := k1.c10
  refine bodyPost_ret (v := .agg (rcs 0 0 0 0 true k i u s a n c)) ?_ rfl ⟨k, i, u, s, a, n, c, rfl, KP.out, KF⟩
  simp [results, Tryz.results21, go_sem, q0, q1, q2, q3, q4, q5, q6, q7, q8, q9]

set_option maxRecDepth 100000 in
set_option maxHeartbeats 1000000 in
theorem done_assert_no (ak ai au : Int) (az : ByteArray) (aa : Option Addr) (an ac : Nat) (bk bi bu : Int) (bs : ByteArray) (ba : Option Addr) (bn bc : Nat) (num : Int) (w : World)
    (hM : ∀ wx, Below w.heap.size w wx → Calls Tryz.prog 40 #[.agg #[.int .i64 ak, .int .i64 ai, .int .u64 au, .string az, .slice aa an ac], .int .i64 num] wx fun e w' => Pn 84 (.int .i64 ak) e ∧ Below wx.heap.size wx w') :
    Calls Tryz.prog 21 #[.agg (acs 2 ak ai au az aa an ac bk bi bu bs ba bn bc num)] w fun e w' => Pn 84 (.int .i64 ak) e ∧ Below w.heap.size w w' := by
  have HM := Lib.hid hM
  clear hM
  have B0 := below2 w (.cells (acs 2 ak ai au az aa an ac bk bi bu bs ba bn bc num) 27) (.cells (rErr 0 0 0 0) 35)
  go_enter Tryz.func21, Tryz.ntmps21
  go_wp2_with fail
  refine (HM.out _ B0).mono ?_
  rintro e w1 ⟨⟨older, rfl, ho⟩, b1⟩
  have B1 := B0.trans (b1.mono B0.size)
  go_wp2_with fail
  exact ⟨rfl, ⟨older, rfl, ho⟩, B1⟩

set_option maxRecDepth 100000 in
set_option maxHeartbeats 1000000 in
theorem done_face_no (ak ai au : Int) (az : ByteArray) (aa : Option Addr) (an ac : Nat) (bk bi bu : Int) (bs : ByteArray) (ba : Option Addr) (bn bc : Nat) (num : Int) (m : Int) (w : World)
    (hM : ∀ wx, Below w.heap.size w wx → Calls Tryz.prog 41 #[.agg #[.int .i64 ak, .int .i64 ai, .int .u64 au, .string az, .slice aa an ac], .int .i64 num] wx fun e w' => Pn 84 (.int .i64 m) e ∧ Below wx.heap.size wx w') :
    Calls Tryz.prog 21 #[.agg (acs 3 ak ai au az aa an ac bk bi bu bs ba bn bc num)] w fun e w' => Pn 84 (.int .i64 m) e ∧ Below w.heap.size w w' := by
  have HM := Lib.hid hM
  clear hM
  have B0 := below2 w (.cells (acs 3 ak ai au az aa an ac bk bi bu bs ba bn bc num) 27) (.cells (rErr 0 0 0 0) 35)
  go_enter Tryz.func21, Tryz.ntmps21
  go_wp2_with fail
  refine (HM.out _ B0).mono ?_
  rintro e w1 ⟨⟨older, rfl, ho⟩, b1⟩
  have B1 := B0.trans (b1.mono B0.size)
  go_wp2_with fail
  exact ⟨rfl, ⟨older, rfl, ho⟩, B1⟩

set_option maxRecDepth 100000 in
set_option maxHeartbeats 1000000 in
theorem done_face (ak ai au : Int) (az : ByteArray) (aa : Option Addr) (an ac : Nat) (bk bi bu : Int) (bs : ByteArray) (ba : Option Addr) (bn bc : Nat) (num : Int) (w : World) (H : Nat) (hH : w.heap.size + 2 ≤ H) (P : BodyP) (hP : St H P)
    (hF : ∀ wx, Below w.heap.size w wx → wx.heap.size = w.heap.size + 2 → Calls Tryz.prog 41 #[.agg #[.int .i64 ak, .int .i64 ai, .int .u64 au, .string az, .slice aa an ac], .int .i64 num] wx fun e w' => e = .returned (.tuple #[]) ∧ Below wx.heap.size wx w')
    (hM : ∀ wx, Below w.heap.size w wx → w.heap.size + 2 ≤ wx.heap.size → Calls Tryz.prog 39 #[.agg #[.int .i64 ak, .int .i64 ai, .int .u64 au, .string az, .slice aa an ac]] wx fun e w' => ∃ k i u s a n c, e = .returned (.agg #[.int .i64 k, .int .i64 i, .int .u64 u, .string s, .slice a n c]) ∧ P k i u s a n c w' ∧ Below wx.heap.size wx w') :
    Calls Tryz.prog 21 #[.agg (acs 3 ak ai au az aa an ac bk bi bu bs ba bn bc num)] w fun e w' => ∃ k i u s a n c, e = .returned (.agg (rcs 0 0 0 0 true k i u s a n c)) ∧ P k i u s a n c w' ∧ Below w.heap.size w w' := by
  have HM := Lib.hid hM
  have HF := Lib.hid hF
  have hP' := Lib.hid hP
  clear hM hP hF
  have GV : Hid (∀ (k i b : Int) (s : ByteArray) (ad : Option Addr) (len cap : Nat) (w : World), Calls Tryz.prog 38 #[.agg #[.int .i64 k, .int .i64 i, .int .u64 b, .string s, .slice ad len cap]] w fun e w' => e = .returned (.agg (rcs 0 0 0 0 true k i b s ad len cap)) ∧ Below w.heap.size w w') := gave_any
  have B0 := below2 w (.cells (acs 3 ak ai au az aa an ac bk bi bu bs ba bn bc num) 27) (.cells (rErr 0 0 0 0) 35)
  have A0 : Bk ((w.alloc (.cells (acs 3 ak ai au az aa an ac bk bi bu bs ba bn bc num) 27)).alloc (.cells (rErr 0 0 0 0) 35)) w.heap.size (acs 3 ak ai au az aa an ac bk bi bu bs ba bn bc num) 27 := (Bk.new w _ _).alloc _
  have R0 := Bk.new2 w (.cells (acs 3 ak ai au az aa an ac bk bi bu bs ba bn bc num) 27) (rErr 0 0 0 0) 35
  go_enter Tryz.func21, Tryz.ntmps21
  go_wp2_with fail
  refine (HF.out _ B0 (by simp)).mono ?_
  rintro e w0 ⟨rfl, b0⟩
  have A1 := A0.step b0
  have R1' := R0.step b0
  have B0' := B0.trans (b0.mono B0.size)
  have hs0 : w.heap.size + 2 ≤ w0.heap.size := by have := b0.size; simpa using this
  clear b0 B0 R0 A0
  obtain ⟨c0, c1, c2, c3, c4, c5, c6, c7, c8, c9, c10, c11⟩ := A1.c12
  go_wp2_with fail
  refine (HM.out _ B0' hs0).mono ?_
  rintro e w1 ⟨k, i, u, s, a, n, c, rfl, p0, b1⟩
  have p1 := Lib.hid p0
  have B1 := B0'.trans (b1.mono B0'.size)
  have R1 := R1'.step b1
  clear p0 b1 B0' R1' c0 c1 c2 c3 c4 c5 c6 c7 c8 c9 c10 c11 A1
  go_wp2_with fail
  refine (GV.out k i u s a n c _).mono ?_
  rintro e w2 ⟨rfl, b2⟩
  have r2 := R1.step b2
  have B2 := B1.trans (b2.mono B1.size)
  have PP := Lib.hid (hP'.out.below p1.out b2)
  clear p1 R1 b2 B1
  obtain ⟨c0, c1, c2, c3, c4, c5, c6, c7, c8, c9⟩ := r2.c10
  have z2 := r2.f
  go_wp2_with fail
  obtain ⟨k1, k2, k3, k4⟩ := set10 r2 (.int .i64 0) (.int .i64 0) (.int .i64 0) (.int .i64 0) (.bool true) (.int .i64 k) (.int .i64 i) (.int .u64 u) (.string s) (.slice a n c) rfl
  have KP := Lib.hid (hP'.out _ _ _ _ _ _ _ w2 _ PP.out (Nat.le_of_eq k2.symm) fun g hg _ => k3 g (by omega))
  have KF := B2.trans (k4.mono (by omega))
  obtain ⟨q0, q1, q2, q3, q4, q5, q6, q7, q8, q9⟩ := k1.c10
  refine bodyPost_ret (v := .agg (rcs 0 0 0 0 true k i u s a n c)) ?_ rfl ⟨k, i, u, s, a, n, c, rfl, KP.out, KF⟩
  simp [results, Tryz.results21, go_sem, q0, q1, q2, q3, q4, q5, q6, q7, q8, q9]

set_option maxRecDepth 100000 in
set_option maxHeartbeats 1000000 in
theorem done_own (ak ai au : Int) (az : ByteArray) (aa : Option Addr) (an ac : Nat) (bk bi bu : Int) (bs : ByteArray) (ba : Option Addr) (bn bc : Nat) (num : Int) (w : World) :
    Calls Tryz.prog 21 #[.agg (acs 8 ak ai au az aa an ac bk bi bu bs ba bn bc num)] w fun e w' => Pn 73 (.int .i64 num) e ∧ Below w.heap.size w w' := by
  have B0 := below2 w (.cells (acs 8 ak ai au az aa an ac bk bi bu bs ba bn bc num) 27) (.cells (rErr 0 0 0 0) 35)
  go_enter Tryz.func21, Tryz.ntmps21
  go_wp2_with fail
  exact ⟨rfl, Pn.one _ _, B0⟩

set_option maxRecDepth 100000 in
set_option maxHeartbeats 1000000 in
theorem done_error (ak ai au : Int) (az : ByteArray) (aa : Option Addr) (an ac : Nat) (bk bi bu : Int) (bs : ByteArray) (ba : Option Addr) (bn bc : Nat) (num : Int) (w : World) :
    Calls Tryz.prog 21 #[.agg (acs 9 ak ai au az aa an ac bk bi bu bs ba bn bc num)] w fun e w' => Pn 75 (.agg #[.int .i64 num, .string ⟨#[]⟩]) e ∧ Below w.heap.size w w' := by
  have B0 := below2 w (.cells (acs 9 ak ai au az aa an ac bk bi bu bs ba bn bc num) 27) (.cells (rErr 0 0 0 0) 35)
  go_enter Tryz.func21, Tryz.ntmps21
  go_wp2_with fail
  exact ⟨rfl, Pn.one _ _, B0⟩

set_option maxRecDepth 100000 in
set_option maxHeartbeats 1000000 in
theorem done_size (ak ai au : Int) (az : ByteArray) (aa : Option Addr) (an ac : Nat) (bk bi bu : Int) (bs : ByteArray) (ba : Option Addr) (bn bc : Nat) (num : Int) (w : World) (er : Int) (has : Bool) (H : Nat) (hH : w.heap.size + 2 ≤ H) (P : BodyP) (hP : St H P)
    (hM : ∀ wx, Below w.heap.size w wx → wx.heap.size = w.heap.size + 2 → Calls Tryz.prog 46 #[.agg #[.int .i64 ak, .int .i64 ai, .int .u64 au, .string az, .slice aa an ac]] wx fun e w' => ∃ k i u s a n c, e = .returned (.agg (rcs er 0 0 0 has k i u s a n c)) ∧ P k i u s a n c w' ∧ Below wx.heap.size wx w') :
    Calls Tryz.prog 21 #[.agg (acs 10 ak ai au az aa an ac bk bi bu bs ba bn bc num)] w fun e w' => ∃ k i u s a n c, e = .returned (.agg (rcs er 0 0 0 has k i u s a n c)) ∧ P k i u s a n c w' ∧ Below w.heap.size w w' := by
  have HM := Lib.hid hM
  have hP' := Lib.hid hP
  clear hM hP
  have B0 := below2 w (.cells (acs 10 ak ai au az aa an ac bk bi bu bs ba bn bc num) 27) (.cells (rErr 0 0 0 0) 35)
  have R0 := Bk.new2 w (.cells (acs 10 ak ai au az aa an ac bk bi bu bs ba bn bc num) 27) (rErr 0 0 0 0) 35
  go_enter Tryz.func21, Tryz.ntmps21
  go_wp2_with fail
  refine (HM.out _ B0 (by simp)).mono ?_
  rintro e w1 ⟨k, i, u, s, a, n, c, rfl, p0, b1⟩
  have PP := Lib.hid p0
  have B2 := B0.trans (b1.mono B0.size)
  have r2 := R0.step b1
  clear p0 b1 B0 R0
  obtain ⟨c0, c1, c2, c3, c4, c5, c6, c7, c8, c9⟩ := r2.c10
  have z2 := r2.f
  go_wp2_with fail
  obtain ⟨k1, k2, k3, k4⟩ := set10 r2 (.int .i64 er) (.int .i64 0) (.int .i64 0) (.int .i64 0) (.bool has) (.int .i64 k) (.int .i64 i) (.int .u64 u) (.string s) (.slice a n c) rfl
  have KP := Lib.hid (hP'.out _ _ _ _ _ _ _ w1 _ PP.out (Nat.le_of_eq k2.symm) fun g hg _ => k3 g (by omega))
  have KF := B2.trans (k4.mono (by omega))
  obtain ⟨q0, q1, q2, q3, q4, q5, q6, q7, q8, q9⟩ := k1.c10
  refine bodyPost_ret (v := .agg (rcs er 0 0 0 has k i u s a n c)) ?_ rfl ⟨k, i, u, s, a, n, c, rfl, KP.out, KF⟩
  simp [results, Tryz.results21, go_sem, q0, q1, q2, q3, q4, q5, q6, q7, q8, q9]
end Go.Proofs.YthamafijjflfbaaGreat
