/- Something called, and its panic caught and told; the conditions: what it comes to. -/
import Derived.Test.YtajagjcfmaggiaaGreatDoorKCaa
namespace Go.Proofs.YtajagjcfmaggiaaGreatDoor
open Go.RowKit

/-- As it was: what lies below L, and from N on. -/
structure Fr (L N : Nat) (w w' : World) : Prop where
  b : Below L w w'
  up : ∀ g, N ≤ g → g < w.heap.size → w'.heap[g]? = w.heap[g]?
theorem Fr.refl (L N : Nat) (w : World) : Fr L N w w := ⟨Below.refl _ _, fun _ _ _ => rfl⟩
theorem Fr.of {L N : Nat} {w w' : World} (h : Below w.heap.size w w') (hL : L ≤ w.heap.size) : Fr L N w w' := ⟨h.mono hL, fun g _ hg => h.block g hg⟩
theorem Fr.trans {L N : Nat} {w w' w'' : World} (h : Fr L N w w') (k : Fr L N w' w'') : Fr L N w w'' := ⟨h.b.trans k.b, fun g h1 h2 => (k.up g h1 (Nat.lt_of_lt_of_le h2 h.b.size)).trans (h.up g h1 h2)⟩
theorem Fr.size {L N : Nat} {w w' : World} (h : Fr L N w w') : w.heap.size ≤ w'.heap.size := h.b.size
theorem Fr.setCell {L N : Nat} {w w' : World} (h : Fr L N w w') (A o : Nat) (hA : L ≤ A) (hA' : A < N ∨ w.heap.size ≤ A) (v : Value) : Fr L N w (w'.setCell ⟨A, o, none⟩ v) :=
  ⟨h.b.setCell hA v, fun g h1 h2 => (Below.heap_setCell _ _ _ g (by show g ≠ A; omega)).trans (h.up g h1 h2)⟩
theorem Bk.fr {w w' : World} {A : Nat} {cs : Array Value} {T : TypeId} {L N : Nat} (h : Bk w A cs T) (hf : Fr L N w w') (hA : A < L ∨ N ≤ A) : Bk w' A cs T := by
  rcases hA with hA | hA
  · exact (hf.b.block A hA).trans h
  · exact (hf.up A hA h.lt).trans h

theorem Fr.trans_own {L N : Nat} {w w' w'' : World} (h : Fr L N w w') (k4 : Below w.heap.size w' w'') (k3 : ∀ g, g < w'.heap.size → g ≠ w.heap.size → w''.heap[g]? = w'.heap[g]?) (hN : N ≤ w.heap.size) (hL : L ≤ N) : Fr L N w w'' :=
  ⟨h.b.trans (k4.mono (by omega)), fun g h1 h2 => (k3 g (Nat.lt_of_lt_of_le h2 h.b.size) (by omega)).trans (h.up g h1 h2)⟩

theorem set10 {w : World} {A : Nat} {y0 y1 y2 y3 y4 y5 y6 y7 y8 y9 : Value} {T : TypeId} (h : Bk w A #[y0, y1, y2, y3, y4, y5, y6, y7, y8, y9] T) (x0 x1 x2 x3 x4 x5 x6 x7 x8 x9 : Value) {W : World} (hW : W = (((((((((w.setCell ⟨A, 0, none⟩ x0).setCell ⟨A, 1, none⟩ x1).setCell ⟨A, 2, none⟩ x2).setCell ⟨A, 3, none⟩ x3).setCell ⟨A, 4, none⟩ x4).setCell ⟨A, 5, none⟩ x5).setCell ⟨A, 6, none⟩ x6).setCell ⟨A, 7, none⟩ x7).setCell ⟨A, 8, none⟩ x8).setCell ⟨A, 9, none⟩ x9) :
    Bk W A #[x0, x1, x2, x3, x4, x5, x6, x7, x8, x9] T ∧ W.heap.size = w.heap.size ∧ (∀ g, g ≠ A → W.heap[g]? = w.heap[g]?) ∧ Below A w W := by
  subst hW
  have h0 : Bk _ A #[x0, y1, y2, y3, y4, y5, y6, y7, y8, y9] T := h.set 0 x0
  have h1 : Bk _ A #[x0, x1, y2, y3, y4, y5, y6, y7, y8, y9] T := h0.set 1 x1
  have h2 : Bk _ A #[x0, x1, x2, y3, y4, y5, y6, y7, y8, y9] T := h1.set 2 x2
  have h3 : Bk _ A #[x0, x1, x2, x3, y4, y5, y6, y7, y8, y9] T := h2.set 3 x3
  have h4 : Bk _ A #[x0, x1, x2, x3, x4, y5, y6, y7, y8, y9] T := h3.set 4 x4
  have h5 : Bk _ A #[x0, x1, x2, x3, x4, x5, y6, y7, y8, y9] T := h4.set 5 x5
  have h6 : Bk _ A #[x0, x1, x2, x3, x4, x5, x6, y7, y8, y9] T := h5.set 6 x6
  have h7 : Bk _ A #[x0, x1, x2, x3, x4, x5, x6, x7, y8, y9] T := h6.set 7 x7
  have h8 : Bk _ A #[x0, x1, x2, x3, x4, x5, x6, x7, x8, y9] T := h7.set 8 x8
  have h9 : Bk _ A #[x0, x1, x2, x3, x4, x5, x6, x7, x8, x9] T := h8.set 9 x9
  refine ⟨h9, by simp, fun g hg => ?_, ?_⟩
  · simp (disch := (simp; omega)) only [Below.heap_setCell]
  · exact ((((((((((Below.refl A w).setCell (Nat.le_refl A) _).setCell (Nat.le_refl A) _).setCell (Nat.le_refl A) _).setCell (Nat.le_refl A) _).setCell (Nat.le_refl A) _).setCell (Nat.le_refl A) _).setCell (Nat.le_refl A) _).setCell (Nat.le_refl A) _).setCell (Nat.le_refl A) _).setCell (Nat.le_refl A) _

theorem ca_idle (p : Addr) (w : World) :
    CallsD Tryz.prog 101 #[.pointer (some p)] .returning w fun e u' w' => e = .returned (.tuple #[]) ∧ u' = .returning ∧ w' = w := by
  refine callsD_of_wpS Tryz.func101 rfl fun c₀ cs hu => ?_
  apply wpS_seq
  apply wpS_region
  simp [wpOpsS, go_sem, recoverD, hu, Tryz.ntmps101, Exit.thenS]
  apply wpS_seq
  apply wpS_region
  simp [wpOpsS, go_sem, Exit.thenS]
  refine wpS_cond (t := false) (by simp [Act.eval, Array.replicate]) ?_
  simp only [Bool.false_eq_true, if_false]
  refine wpS_of_wp (wp_skip ?_)
  cases c₀
  simp_all [bodyPostS, results, Tryz.results101]

set_option maxRecDepth 100000 in
set_option maxHeartbeats 1000000 in
theorem ca_catch (A : Nat) (T : TypeId) (z : Value) (pk pn : Int) (older : List PanicEntry) (w : World) (hA : Bk w A (rErr 0 0 0 0) 33)
    (hT : ∀ wx, Calls Tryz.prog 102 #[.iface T z] wx fun e w' => e = .returned (.agg #[.int .i64 pk, .int .i64 pn]) ∧ Below wx.heap.size wx w') :
    CallsD Tryz.prog 101 #[.pointer (some ⟨A, 0, none⟩)] (.panicking ({ v := .iface T z, recovered := false } :: older)) w fun e u' w' =>
      e = .returned (.tuple #[]) ∧ u' = .panicking ({ v := .iface T z, recovered := true } :: older) ∧ Bk w' A (rErr 110 0 pk pn) 33 ∧ w.heap.size ≤ w'.heap.size ∧ (∀ g, g < w.heap.size → g ≠ A → w'.heap[g]? = w.heap[g]?) ∧ Below A w w' := by
  have HT := Lib.hid hT
  clear hT
  refine callsD_of_wpS Tryz.func101 rfl fun c₀ cs hu => ?_
  apply wpS_seq
  apply wpS_region
  simp [wpOpsS, go_sem, recoverD, hu, Tryz.ntmps101, Exit.thenS]
  apply wpS_seq
  apply wpS_region
  simp [wpOpsS, go_sem, Exit.thenS]
  refine wpS_cond (t := true) (by simp [Act.eval, Array.replicate]) ?_
  simp only [if_true]
  refine wpS_of_wp ?_
  go_wp2_with fail
  refine (HT.out _).mono ?_
  rintro e w1 ⟨rfl, b1⟩
  have A1 := hA.step b1
  obtain ⟨c0, c1, c2, c3, c4, c5, c6, c7, c8, c9⟩ := A1.c10
  have f1 := A1.f
  go_wp2_with fail
  obtain ⟨W, hW⟩ : ∃ W, W = (((((((((w1.setCell ⟨A, 0, none⟩ (.int .i64 110)).setCell ⟨A, 1, none⟩ (.int .i64 0)).setCell ⟨A, 2, none⟩ (.int .i64 pk)).setCell ⟨A, 3, none⟩ (.int .i64 pn)).setCell ⟨A, 4, none⟩ (.bool false)).setCell ⟨A, 5, none⟩ (.int .i64 0)).setCell ⟨A, 6, none⟩ (.int .i64 0)).setCell ⟨A, 7, none⟩ (.int .u64 0)).setCell ⟨A, 8, none⟩ (.string ⟨#[]⟩)).setCell ⟨A, 9, none⟩ (.slice none 0 0) := ⟨_, rfl⟩
  obtain ⟨k1, k2, k3, k4⟩ := set10 A1 _ _ _ _ _ _ _ _ _ _ hW
  rw [← hW]
  have hlt := hA.lt
  have hsz := b1.size
  have KK : Hid (Bk W A (rErr 110 0 pk pn) 33 ∧ w.heap.size ≤ W.heap.size ∧ (∀ g, g < w.heap.size → ¬ g = A → W.heap[g]? = w.heap[g]?) ∧ Below A w W) := ⟨k1, by omega, fun g h1 h2 => (k3 g h2).trans (b1.block g h1), (b1.mono (by omega)).trans k4⟩
  clear k1 k2 k3 k4 hW c0 c1 c2 c3 c4 c5 c6 c7 c8 c9 f1 A1 b1 hsz hlt hA HT
  simp [bodyPostS, results, Tryz.results101]
  exact KK.out

end Go.Proofs.YtajagjcfmaggiaaGreatDoor
/- Something done of which the language itself may panic: what it comes to, or the cause that was named in the panic's stead; the conditions: what it comes to by itself. -/
namespace Go.Proofs.YtajagjcfmaggiaaGreatDoor
open Go.RowKit

/-- A panic with a value that nobody has recovered yet. -/
def Pn (T : TypeId) (z : Value) (e : Ending) : Prop := ∃ older : List PanicEntry, e = .panicked ({ v := .iface T z, recovered := false } :: older) ∧ older.dropWhile (!·.goexit) = []
theorem Pn.one (T : TypeId) (z : Value) : Pn T z (.panicked [{ v := .iface T z, recovered := false }]) := ⟨[], rfl, rfl⟩

theorem asa_idle (p : Addr) (w : World) :
    CallsD Tryz.prog 134 #[.pointer (some p)] .returning w fun e u' w' => e = .returned (.tuple #[]) ∧ u' = .returning ∧ w' = w := by
  refine callsD_of_wpS Tryz.func134 rfl fun c₀ cs hu => ?_
  apply wpS_seq
  apply wpS_region
  simp [wpOpsS, go_sem, recoverD, hu, Tryz.ntmps134, Exit.thenS]
  refine wpS_cond (t := false) (by simp [Act.eval, Array.replicate]) ?_
  simp only [Bool.false_eq_true, if_false]
  refine wpS_of_wp (wp_skip ?_)
  cases c₀
  simp_all [bodyPostS, results, Tryz.results134]

theorem asa_turn (A : Nat) (T : TypeId) (z : Value) (C : TypeId) (c : Value) (older : List PanicEntry) (w : World) (hc : w.cell? ⟨A, 0, none⟩ = some (.iface C c)) :
    CallsD Tryz.prog 134 #[.pointer (some ⟨A, 0, none⟩)] (.panicking ({ v := .iface T z, recovered := false } :: older)) w fun e u' w' =>
      e = .panicked [{ v := .iface C c, recovered := false }] ∧ u' = .panicking ({ v := .iface T z, recovered := true } :: older) ∧ w' = w := by
  refine callsD_of_wpS Tryz.func134 rfl fun c₀ cs hu => ?_
  apply wpS_seq
  apply wpS_region
  simp [wpOpsS, go_sem, recoverD, hu, Tryz.ntmps134, Exit.thenS]
  refine wpS_cond (t := true) (by simp [Act.eval, Array.replicate]) ?_
  simp only [if_true]
  apply wpS_region
  simp [wpOpsS, go_sem, hc, bodyPostS, results, Tryz.results134]

set_option maxRecDepth 100000 in
set_option maxHeartbeats 1000000 in
theorem asa_ret (F : Nat) (cap : Array Value) (C : TypeId) (c : Value) (w : World) (Q : Value → World → Prop)
    (hcf : ∀ (w : World), (callFunc F cap).run Tryz.prog w = .ok (.enter F cap) w)
    (hF : ∀ wx, Below w.heap.size w wx → wx.heap.size = w.heap.size + 1 → Calls Tryz.prog F cap wx fun e w' => ∃ v, e = .returned v ∧ Q v w' ∧ Below wx.heap.size wx w') :
    Calls Tryz.prog 121 #[.iface C c, .func (.func F) #[] cap] w fun e w' => ∃ v, e = .returned v ∧ Q v w' ∧ Below w.heap.size w w' := by
  have hmf : ∀ (fn : Fn) (first cap : Array Value) (w : World), (Instr.makeFunc fn first cap).run Tryz.prog w = .ok (.func fn first cap) w := fun _ _ _ _ => rfl
  have HF := Lib.hid hF
  clear hF
  have B0 := below1 w (.cells #[.iface C c] 20)
  go_enter_defers Tryz.func121, Tryz.ntmps121
  go_wp2_with fail
  refine (HF.out _ B0 (by simp)).mono ?_
  rintro e w1 ⟨v, rfl, q1, b1⟩
  have B1 := B0.trans (b1.mono B0.size)
  go_wp2_with fail
  refine leaves_cons (f := 134) (args := #[.pointer (some ⟨w.heap.size, 0, none⟩)]) (by simp) (by simp [go_sem]) ?_
  refine (asa_idle _ _).mono ?_
  rintro e u' w'' ⟨rfl, rfl, rfl⟩
  simp [Leaves, settle, results, Tryz.results121, go_sem]
  exact ⟨q1, B1⟩

set_option maxRecDepth 100000 in
set_option maxHeartbeats 1000000 in
theorem asa_pan (F : Nat) (cap : Array Value) (C : TypeId) (c : Value) (w : World) (Q : World → Prop)
    (hcf : ∀ (w : World), (callFunc F cap).run Tryz.prog w = .ok (.enter F cap) w)
    (hF : ∀ wx, Below w.heap.size w wx → wx.heap.size = w.heap.size + 1 → Calls Tryz.prog F cap wx fun e w' => (∃ T z, Pn T z e) ∧ Q w' ∧ Below wx.heap.size wx w') :
    Calls Tryz.prog 121 #[.iface C c, .func (.func F) #[] cap] w fun e w' => Pn C c e ∧ Q w' ∧ Below w.heap.size w w' := by
  have hmf : ∀ (fn : Fn) (first cap : Array Value) (w : World), (Instr.makeFunc fn first cap).run Tryz.prog w = .ok (.func fn first cap) w := fun _ _ _ _ => rfl
  have HF := Lib.hid hF
  clear hF
  have B0 := below1 w (.cells #[.iface C c] 20)
  have R0 := Bk.new w #[.iface C c] 20
  go_enter_defers Tryz.func121, Tryz.ntmps121
  go_wp2_with fail
  refine (HF.out _ B0 (by simp)).mono ?_
  rintro e w1 ⟨⟨T, z, older, rfl, ho⟩, q1, b1⟩
  have B1 := B0.trans (b1.mono B0.size)
  have c1 : w1.cell? ⟨w.heap.size, 0, none⟩ = some (.iface C c) := by have := (R0.step b1).c 0; simpa using this
  go_wp2_with fail
  refine leaves_cons (f := 134) (args := #[.pointer (some ⟨w.heap.size, 0, none⟩)]) (by simp) (by simp [go_sem]) ?_
  refine (asa_turn w.heap.size T z C c older w1 c1).mono ?_
  rintro e u' w'' ⟨rfl, rfl, rfl⟩
  simp only [Leaves, raised]
  exact ⟨⟨_, rfl, by simp [ho]⟩, q1, B1⟩

end Go.Proofs.YtajagjcfmaggiaaGreatDoor
/- An act that is tried: what it comes to, or what its panic is told as; the conditions: what the act comes to by itself. -/
namespace Go.Proofs.YtajagjcfmaggiaaGreatDoor
open Go.RowKit

/-- What is said of a result's body and of memory. -/
abbrev BodyP := Int → Int → Int → ByteArray → Option Addr → Nat → Nat → World → Prop

set_option maxRecDepth 100000 in
set_option maxHeartbeats 1000000 in
theorem caughtE_ret (F : Nat) (cap : Array Value) (w : World) (er co pk pn : Int) (has : Bool) (L N : Nat) (hL : L ≤ N) (hN : N ≤ w.heap.size) (P : BodyP) (hP : ∀ k i u s a n c w' w'', P k i u s a n c w' → w'.heap.size ≤ w''.heap.size → (∀ g, g < w'.heap.size → g ≠ w.heap.size → w''.heap[g]? = w'.heap[g]?) → P k i u s a n c w'')
    (hcf : ∀ (w : World), (callFunc F cap).run Tryz.prog w = .ok (.enter F cap) w)
    (hF : ∀ wx, Below w.heap.size w wx → wx.heap.size = w.heap.size + 1 → Calls Tryz.prog F cap wx fun e w' => ∃ k i u s a n c, e = .returned (.agg (rcs er co pk pn has k i u s a n c)) ∧ P k i u s a n c w' ∧ Fr L N wx w') :
    Calls Tryz.prog 87 #[.func (.func F) #[] cap] w fun e w' => ∃ k i u s a n c, e = .returned (.agg (rcs er co pk pn has k i u s a n c)) ∧ P k i u s a n c w' ∧ Fr L N w w' := by
  have hmf : ∀ (fn : Fn) (first cap : Array Value) (w : World), (Instr.makeFunc fn first cap).run Tryz.prog w = .ok (.func fn first cap) w := fun _ _ _ _ => rfl
  have HF := Lib.hid hF
  clear hF
  have B0 := below1 w (.cells #[.int .i64 0, .int .i64 0, .int .i64 0, .int .i64 0, .bool false, .int .i64 0, .int .i64 0, .int .u64 0, .string ⟨#[]⟩, .slice none 0 0] 33)
  have R0 := Bk.new w #[.int .i64 0, .int .i64 0, .int .i64 0, .int .i64 0, .bool false, .int .i64 0, .int .i64 0, .int .u64 0, .string ⟨#[]⟩, .slice none 0 0] 33
  go_enter_defers Tryz.func87, Tryz.ntmps87
  go_wp2_with fail
  refine (HF.out _ B0 (by simp)).mono ?_
  rintro e w1 ⟨k, i, u, s, a, n, c, rfl, p1, b1⟩
  have R1 := R0.fr b1 (.inr hN)
  have B1 : Fr L N w w1 := (Fr.of B0 (by omega)).trans b1
  obtain ⟨c0, c1, c2, c3, c4, c5, c6, c7, c8, c9⟩ := R1.c10
  have f1 := R1.f
  have PP := Lib.hid p1
  clear R0 b1 B0 p1
  go_wp2_with fail
  refine leaves_cons (f := 101) (args := #[.pointer (some ⟨w.heap.size, 0, none⟩)]) (by simp) (by simp [go_sem]) ?_
  refine (ca_idle _ _).mono ?_
  rintro e u' w'' ⟨rfl, rfl, rfl⟩
  simp [Leaves, settle, results, Tryz.results87, go_sem, World.cell?_setCell_same, World.cell?_setCell_other, c0, c1, c2, c3, c4, c5, c6, c7, c8, c9]
  refine ⟨k, i, u, s, a, n, c, ⟨rfl, rfl, rfl, rfl, rfl, rfl, rfl⟩, ?_, ?_⟩
  · refine hP _ _ _ _ _ _ _ _ _ PP.out (by simp) fun g _ hg => ?_
    simp (disch := (simp; omega)) only [Below.heap_setCell]
  · repeat' refine Fr.setCell ?_ _ _ (by omega) (.inr (Nat.le_refl _)) _
    exact B1

set_option maxRecDepth 100000 in
set_option maxHeartbeats 1000000 in
theorem caught_panE (F : Nat) (cap : Array Value) (w : World) (T : TypeId) (z : Value) (pk pn : Int) (L N : Nat) (hL : L ≤ N) (hN : N ≤ w.heap.size) (P : World → Prop) (hP : ∀ w' w'', P w' → w'.heap.size ≤ w''.heap.size → (∀ g, g < w'.heap.size → g ≠ w.heap.size → w''.heap[g]? = w'.heap[g]?) → P w'')
    (hT : ∀ wx, Calls Tryz.prog 102 #[.iface T z] wx fun e w' => e = .returned (.agg #[.int .i64 pk, .int .i64 pn]) ∧ Below wx.heap.size wx w')
    (hcf : ∀ (w : World), (callFunc F cap).run Tryz.prog w = .ok (.enter F cap) w)
    (hF : ∀ wx, Below w.heap.size w wx → wx.heap.size = w.heap.size + 1 → Calls Tryz.prog F cap wx fun e w' => Pn T z e ∧ P w' ∧ Fr L N wx w') :
    Calls Tryz.prog 87 #[.func (.func F) #[] cap] w fun e w' => e = .returned (.agg (rErr 110 0 pk pn)) ∧ P w' ∧ Fr L N w w' := by
  have hmf : ∀ (fn : Fn) (first cap : Array Value) (w : World), (Instr.makeFunc fn first cap).run Tryz.prog w = .ok (.func fn first cap) w := fun _ _ _ _ => rfl
  have HF := Lib.hid hF
  have HT := Lib.hid hT
  clear hF hT
  have B0 := below1 w (.cells (rErr 0 0 0 0) 33)
  have R0 := Bk.new w (rErr 0 0 0 0) 33
  go_enter_defers Tryz.func87, Tryz.ntmps87
  go_wp2_with fail
  refine (HF.out _ B0 (by simp)).mono ?_
  rintro e w1 ⟨⟨older, rfl, hold⟩, p1, b1⟩
  have R1 := R0.fr b1 (.inr hN)
  have B1 : Fr L N w w1 := (Fr.of B0 (by omega)).trans b1
  clear R0 b1 B0
  go_wp2_with fail
  refine leaves_cons (f := 101) (args := #[.pointer (some ⟨w.heap.size, 0, none⟩)]) (by simp) (by simp [go_sem]) ?_
  refine (ca_catch w.heap.size T z pk pn older w1 R1 HT.out).mono ?_
  rintro e u' w'' ⟨rfl, rfl, k1, k2, k3, k4⟩
  obtain ⟨c0, c1, c2, c3, c4, c5, c6, c7, c8, c9⟩ := k1.c10
  simp [Leaves, settle, hold, results, Tryz.results87, go_sem, c0, c1, c2, c3, c4, c5, c6, c7, c8, c9]
  exact ⟨hP _ _ p1 k2 k3, B1.trans_own k4 k3 hN hL⟩

/-- The cells of an act. -/
abbrev acs (op ak ai au : Int) (az : ByteArray) (aa : Option Addr) (an ac : Nat) (bk bi bu : Int) (bs : ByteArray) (ba : Option Addr) (bn bc : Nat) (num : Int) : Array Value :=
  #[.int .i64 op, .int .i64 ak, .int .i64 ai, .int .u64 au, .string az, .slice aa an ac, .int .i64 bk, .int .i64 bi, .int .u64 bu, .string bs, .slice ba bn bc, .int .i64 num]

theorem Bk.c12 {w : World} {N : Nat} {v0 v1 v2 v3 v4 v5 v6 v7 v8 v9 v10 v11 : Value} {T : TypeId} (h : Bk w N #[v0, v1, v2, v3, v4, v5, v6, v7, v8, v9, v10, v11] T) : w.cell? ⟨N, 0, none⟩ = some v0 ∧ w.cell? ⟨N, 1, none⟩ = some v1 ∧ w.cell? ⟨N, 2, none⟩ = some v2 ∧ w.cell? ⟨N, 3, none⟩ = some v3 ∧ w.cell? ⟨N, 4, none⟩ = some v4 ∧ w.cell? ⟨N, 5, none⟩ = some v5 ∧ w.cell? ⟨N, 6, none⟩ = some v6 ∧ w.cell? ⟨N, 7, none⟩ = some v7 ∧ w.cell? ⟨N, 8, none⟩ = some v8 ∧ w.cell? ⟨N, 9, none⟩ = some v9 ∧ w.cell? ⟨N, 10, none⟩ = some v10 ∧ w.cell? ⟨N, 11, none⟩ = some v11 :=
  ⟨h.c 0, h.c 1, h.c 2, h.c 3, h.c 4, h.c 5, h.c 6, h.c 7, h.c 8, h.c 9, h.c 10, h.c 11⟩

set_option maxRecDepth 100000 in
set_option maxHeartbeats 1000000 in
theorem try1_ret (op ak ai au : Int) (az : ByteArray) (aa : Option Addr) (an ac : Nat) (bk bi bu : Int) (bs : ByteArray) (ba : Option Addr) (bn bc : Nat) (num : Int) (A : Nat) (w : World) (er co pk pn : Int) (has : Bool) (P : BodyP) (hP : ∀ k i u s a n c w' w'', P k i u s a n c w' → w'.heap.size ≤ w''.heap.size → (∀ g, g < w'.heap.size → g ≠ w.heap.size → w''.heap[g]? = w'.heap[g]?) → P k i u s a n c w'')
    (hA : Bk w A (acs op ak ai au az aa an ac bk bi bu bs ba bn bc num) 93)
    (hD : ∀ wx, Below w.heap.size w wx → wx.heap.size = w.heap.size + 1 → Calls Tryz.prog 89 #[.agg (acs op ak ai au az aa an ac bk bi bu bs ba bn bc num)] wx fun e w' => ∃ k i u s a n c, e = .returned (.agg (rcs er co pk pn has k i u s a n c)) ∧ P k i u s a n c w' ∧ Below wx.heap.size wx w') :
    Calls Tryz.prog 88 #[.pointer (some ⟨A, 0, none⟩)] w fun e w' => ∃ k i u s a n c, e = .returned (.agg (rcs er co pk pn has k i u s a n c)) ∧ P k i u s a n c w' ∧ Below w.heap.size w w' := by
  have HD := Lib.hid hD
  have hP' := Lib.hid hP
  clear hD hP
  have B0 := below1 w (.cells (rErr 0 0 0 0) 33)
  have R0 := Bk.new w (rErr 0 0 0 0) 33
  have A0 := hA.alloc (.cells (rErr 0 0 0 0) 33)
  obtain ⟨c0, c1, c2, c3, c4, c5, c6, c7, c8, c9, c10, c11⟩ := A0.c12
  go_enter Tryz.func88, Tryz.ntmps88
  go_wp2_with fail
  refine (HD.out _ B0 (by simp)).mono ?_
  rintro e w1 ⟨k, i, u, s, a, n, c, rfl, p1, b1⟩
  have r2 := R0.step b1
  have B1 := B0.trans (b1.mono B0.size)
  have PP := Lib.hid p1
  clear p1 c0 c1 c2 c3 c4 c5 c6 c7 c8 c9 c10 c11 A0 R0 b1 B0
  obtain ⟨c0, c1, c2, c3, c4, c5, c6, c7, c8, c9⟩ := r2.c10
  have z2 := r2.f
  go_wp2_with fail
  obtain ⟨k1, k2, k3, k4⟩ := set10 r2 (.int .i64 er) (.int .i64 co) (.int .i64 pk) (.int .i64 pn) (.bool has) (.int .i64 k) (.int .i64 i) (.int .u64 u) (.string s) (.slice a n c) rfl
  have KP := Lib.hid (hP'.out _ _ _ _ _ _ _ w1 _ PP.out (Nat.le_of_eq k2.symm) fun g _ hg => k3 g hg)
  have KF := B1.trans k4
  obtain ⟨q0, q1, q2, q3, q4, q5, q6, q7, q8, q9⟩ := k1.c10
  refine bodyPost_ret (v := .agg (rcs er co pk pn has k i u s a n c)) ?_ rfl ⟨k, i, u, s, a, n, c, rfl, KP.out, KF⟩
  simp [results, Tryz.results88, go_sem, q0, q1, q2, q3, q4, q5, q6, q7, q8, q9]

set_option maxRecDepth 100000 in
set_option maxHeartbeats 1000000 in
theorem try1_pan (op ak ai au : Int) (az : ByteArray) (aa : Option Addr) (an ac : Nat) (bk bi bu : Int) (bs : ByteArray) (ba : Option Addr) (bn bc : Nat) (num : Int) (A : Nat) (w : World) (T : TypeId) (z : Value) (P : World → Prop)
    (hA : Bk w A (acs op ak ai au az aa an ac bk bi bu bs ba bn bc num) 93)
    (hD : ∀ wx, Below w.heap.size w wx → wx.heap.size = w.heap.size + 1 → Calls Tryz.prog 89 #[.agg (acs op ak ai au az aa an ac bk bi bu bs ba bn bc num)] wx fun e w' => Pn T z e ∧ P w' ∧ Below wx.heap.size wx w') :
    Calls Tryz.prog 88 #[.pointer (some ⟨A, 0, none⟩)] w fun e w' => Pn T z e ∧ P w' ∧ Below w.heap.size w w' := by
  have HD := Lib.hid hD
  clear hD
  have B0 := below1 w (.cells (rErr 0 0 0 0) 33)
  have A0 := hA.alloc (.cells (rErr 0 0 0 0) 33)
  obtain ⟨c0, c1, c2, c3, c4, c5, c6, c7, c8, c9, c10, c11⟩ := A0.c12
  go_enter Tryz.func88, Tryz.ntmps88
  go_wp2_with fail
  refine (HD.out _ B0 (by simp)).mono ?_
  rintro e w1 ⟨⟨older, rfl, ho⟩, p1, b1⟩
  have B1 := B0.trans (b1.mono B0.size)
  go_wp2_with fail
  exact ⟨rfl, ⟨older, rfl, ho⟩, p1, B1⟩
end Go.Proofs.YtajagjcfmaggiaaGreatDoor
