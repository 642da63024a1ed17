/- Something called, and its panic caught and told; the conditions: what it comes to. -/
import Derived.Test.YtgijdiplhcoojaaGreatDoorJab
namespace Go.Proofs.YtgijdiplhcoojaaGreatDoor
open Go.RowKit

/-- As it was: what lies below L, and from N on. -/
structure Fr (L N : Nat) (w w' : World) : Prop where
  b : Below L w w'
  up : ∀ g, N ≤ g → g < w.heap.size → w'.heap[g]? = w.heap[g]?
theorem Fr.refl (L N : Nat) (w : World) : Fr L N w w := ⟨Below.refl _ _, fun _ _ _ => rfl⟩
theorem Fr.of {L N : Nat} {w w' : World} (h : Below w.heap.size w w') (hL : L ≤ w.heap.size) : Fr L N w w' := ⟨h.mono hL, fun g _ hg => h.block g hg⟩
theorem Fr.trans {L N : Nat} {w w' w'' : World} (h : Fr L N w w') (k : Fr L N w' w'') : Fr L N w w'' := ⟨h.b.trans k.b, fun g h1 h2 => (k.up g h1 (Nat.lt_of_lt_of_le h2 h.b.size)).trans (h.up g h1 h2)⟩
theorem Fr.size {L N : Nat} {w w' : World} (h : Fr L N w w') : w.heap.size ≤ w'.heap.size := h.b.size
theorem Fr.drew {L N : Nat} {w w' : World} (h : Fr L N w w') : Fr L N w w'.drew := ⟨h.b.drew, h.up⟩
theorem Fr.setCell {L N : Nat} {w w' : World} (h : Fr L N w w') (A o : Nat) (hA : L ≤ A) (hA' : A < N ∨ w.heap.size ≤ A) (v : Value) : Fr L N w (w'.setCell ⟨A, o, none⟩ v) :=
  ⟨h.b.setCell hA v, fun g h1 h2 => (Below.heap_setCell _ _ _ g (by show g ≠ A; omega)).trans (h.up g h1 h2)⟩
theorem Bk.fr {w w' : World} {A : Nat} {cs : Array Value} {T : TypeId} {L N : Nat} (h : Bk w A cs T) (hf : Fr L N w w') (hA : A < L ∨ N ≤ A) : Bk w' A cs T := by
  rcases hA with hA | hA
  · exact (hf.b.block A hA).trans h
  · exact (hf.up A hA h.lt).trans h

theorem Fr.trans_own {L N : Nat} {w w' w'' : World} (h : Fr L N w w') (k4 : Below w.heap.size w' w'') (k3 : ∀ g, g < w'.heap.size → g ≠ w.heap.size → w''.heap[g]? = w'.heap[g]?) (hN : N ≤ w.heap.size) (hL : L ≤ N) : Fr L N w w'' :=
  ⟨h.b.trans (k4.mono (by omega)), fun g h1 h2 => (k3 g (Nat.lt_of_lt_of_le h2 h.b.size) (by omega)).trans (h.up g h1 h2)⟩

theorem set10 {w : World} {A : Nat} {y0 y1 y2 y3 y4 y5 y6 y7 y8 y9 : Value} {T : TypeId} (h : Bk w A #[y0, y1, y2, y3, y4, y5, y6, y7, y8, y9] T) (x0 x1 x2 x3 x4 x5 x6 x7 x8 x9 : Value) {W : World} (hW : W = (((((((((w.setCell ⟨A, 0, none⟩ x0).setCell ⟨A, 1, none⟩ x1).setCell ⟨A, 2, none⟩ x2).setCell ⟨A, 3, none⟩ x3).setCell ⟨A, 4, none⟩ x4).setCell ⟨A, 5, none⟩ x5).setCell ⟨A, 6, none⟩ x6).setCell ⟨A, 7, none⟩ x7).setCell ⟨A, 8, none⟩ x8).setCell ⟨A, 9, none⟩ x9) :
    Bk W A #[x0, x1, x2, x3, x4, x5, x6, x7, x8, x9] T ∧ W.heap.size = w.heap.size ∧ (∀ g, g ≠ A → W.heap[g]? = w.heap[g]?) ∧ Below A w W := by
  subst hW
  have h0 : Bk _ A #[x0, y1, y2, y3, y4, y5, y6, y7, y8, y9] T := h.set 0 x0
  have h1 : Bk _ A #[x0, x1, y2, y3, y4, y5, y6, y7, y8, y9] T := h0.set 1 x1
  have h2 : Bk _ A #[x0, x1, x2, y3, y4, y5, y6, y7, y8, y9] T := h1.set 2 x2
  have h3 : Bk _ A #[x0, x1, x2, x3, y4, y5, y6, y7, y8, y9] T := h2.set 3 x3
  have h4 : Bk _ A #[x0, x1, x2, x3, x4, y5, y6, y7, y8, y9] T := h3.set 4 x4
  have h5 : Bk _ A #[x0, x1, x2, x3, x4, x5, y6, y7, y8, y9] T := h4.set 5 x5
  have h6 : Bk _ A #[x0, x1, x2, x3, x4, x5, x6, y7, y8, y9] T := h5.set 6 x6
  have h7 : Bk _ A #[x0, x1, x2, x3, x4, x5, x6, x7, y8, y9] T := h6.set 7 x7
  have h8 : Bk _ A #[x0, x1, x2, x3, x4, x5, x6, x7, x8, y9] T := h7.set 8 x8
  have h9 : Bk _ A #[x0, x1, x2, x3, x4, x5, x6, x7, x8, x9] T := h8.set 9 x9
  refine ⟨h9, by simp, fun g hg => ?_, ?_⟩
  · simp (disch := (simp; omega)) only [Below.heap_setCell]
  · exact ((((((((((Below.refl A w).setCell (Nat.le_refl A) _).setCell (Nat.le_refl A) _).setCell (Nat.le_refl A) _).setCell (Nat.le_refl A) _).setCell (Nat.le_refl A) _).setCell (Nat.le_refl A) _).setCell (Nat.le_refl A) _).setCell (Nat.le_refl A) _).setCell (Nat.le_refl A) _).setCell (Nat.le_refl A) _

theorem ca_idle (p : Addr) (w : World) :
    CallsD Tryz.prog 65 #[.pointer (some p)] .returning w fun e u' w' => e = .returned (.tuple #[]) ∧ u' = .returning ∧ w' = w := by
  refine callsD_of_wpS Tryz.func65 rfl fun c₀ cs hu => ?_
  apply wpS_seq
  apply wpS_region
  simp [wpOpsS, go_sem, recoverD, hu, Tryz.ntmps65, Exit.thenS]
  apply wpS_seq
  apply wpS_region
  simp [wpOpsS, go_sem, Exit.thenS]
  refine wpS_cond (t := false) (by simp [Act.eval, Array.replicate]) ?_
  simp only [Bool.false_eq_true, if_false]
  refine wpS_of_wp (wp_skip ?_)
  cases c₀
  simp_all [bodyPostS, results, Tryz.results65]

set_option maxRecDepth 100000 in
set_option maxHeartbeats 1000000 in
theorem ca_catch (A : Nat) (T : TypeId) (z : Value) (pk pn : Int) (older : List PanicEntry) (w : World) (hA : Bk w A (rErr 0 0 0 0) 56)
    (hT : ∀ wx, Calls Tryz.prog 66 #[.iface T z] wx fun e w' => e = .returned (.agg #[.int .i64 pk, .int .i64 pn]) ∧ Below wx.heap.size wx w') :
    CallsD Tryz.prog 65 #[.pointer (some ⟨A, 0, none⟩)] (.panicking ({ v := .iface T z, recovered := false } :: older)) w fun e u' w' =>
      e = .returned (.tuple #[]) ∧ u' = .panicking ({ v := .iface T z, recovered := true } :: older) ∧ Bk w' A (rErr 110 0 pk pn) 56 ∧ w.heap.size ≤ w'.heap.size ∧ (∀ g, g < w.heap.size → g ≠ A → w'.heap[g]? = w.heap[g]?) ∧ Below A w w' := by
  have HT := Lib.hid hT
  clear hT
  refine callsD_of_wpS Tryz.func65 rfl fun c₀ cs hu => ?_
  apply wpS_seq
  apply wpS_region
  simp [wpOpsS, go_sem, recoverD, hu, Tryz.ntmps65, Exit.thenS]
  apply wpS_seq
  apply wpS_region
  simp [wpOpsS, go_sem, Exit.thenS]
  refine wpS_cond (t := true) (by simp [Act.eval, Array.replicate]) ?_
  simp only [if_true]
  refine wpS_of_wp ?_
  go_wp2_with fail
  refine (HT.out _).mono ?_
  rintro e w1 ⟨rfl, b1⟩
  have A1 := hA.step b1
  obtain ⟨c0, c1, c2, c3, c4, c5, c6, c7, c8, c9⟩ := A1.c10
  have f1 := A1.f
  go_wp2_with fail
  obtain ⟨W, hW⟩ : ∃ W, W = (((((((((w1.setCell ⟨A, 0, none⟩ (.int .i64 110)).setCell ⟨A, 1, none⟩ (.int .i64 0)).setCell ⟨A, 2, none⟩ (.int .i64 pk)).setCell ⟨A, 3, none⟩ (.int .i64 pn)).setCell ⟨A, 4, none⟩ (.bool false)).setCell ⟨A, 5, none⟩ (.int .i64 0)).setCell ⟨A, 6, none⟩ (.int .i64 0)).setCell ⟨A, 7, none⟩ (.int .u64 0)).setCell ⟨A, 8, none⟩ (.string ⟨#[]⟩)).setCell ⟨A, 9, none⟩ (.slice none 0 0) := ⟨_, rfl⟩
  obtain ⟨k1, k2, k3, k4⟩ := set10 A1 _ _ _ _ _ _ _ _ _ _ hW
  rw [← hW]
  have hlt := hA.lt
  have hsz := b1.size
  have KK : Hid (Bk W A (rErr 110 0 pk pn) 56 ∧ w.heap.size ≤ W.heap.size ∧ (∀ g, g < w.heap.size → ¬ g = A → W.heap[g]? = w.heap[g]?) ∧ Below A w W) := ⟨k1, by omega, fun g h1 h2 => (k3 g h2).trans (b1.block g h1), (b1.mono (by omega)).trans k4⟩
  clear k1 k2 k3 k4 hW c0 c1 c2 c3 c4 c5 c6 c7 c8 c9 f1 A1 b1 hsz hlt hA HT
  simp [bodyPostS, results, Tryz.results65]
  exact KK.out

set_option maxRecDepth 100000 in
set_option maxHeartbeats 1000000 in
theorem caught_ret (F : Nat) (cap : Array Value) (w : World) (er co pk pn : Int) (has : Bool) (k i u : Int) (s : ByteArray) (a : Option Addr) (n c : Nat) (L N : Nat) (hL : L ≤ N) (hN : N ≤ w.heap.size) (P : World → Prop) (hP : ∀ w' w'', P w' → w'.heap.size ≤ w''.heap.size → (∀ g, g < w'.heap.size → g ≠ w.heap.size → w''.heap[g]? = w'.heap[g]?) → P w'')
    (hcf : ∀ (w : World), (callFunc F cap).run Tryz.prog w = .ok (.enter F cap) w)
    (hF : ∀ wx, Below w.heap.size w wx → wx.heap.size = w.heap.size + 1 → Calls Tryz.prog F cap wx fun e w' => e = .returned (.agg (rcs er co pk pn has k i u s a n c)) ∧ P w' ∧ Fr L N wx w') :
    Calls Tryz.prog 54 #[.func (.func F) #[] cap] w fun e w' => e = .returned (.agg (rcs er co pk pn has k i u s a n c)) ∧ P w' ∧ Fr L N w w' := by
  have hmf : ∀ (fn : Fn) (first cap : Array Value) (w : World), (Instr.makeFunc fn first cap).run Tryz.prog w = .ok (.func fn first cap) w := fun _ _ _ _ => rfl
  have HF := Lib.hid hF
  clear hF
  have B0 := below1 w (.cells #[.int .i64 0, .int .i64 0, .int .i64 0, .int .i64 0, .bool false, .int .i64 0, .int .i64 0, .int .u64 0, .string ⟨#[]⟩, .slice none 0 0] 56)
  have R0 := Bk.new w #[.int .i64 0, .int .i64 0, .int .i64 0, .int .i64 0, .bool false, .int .i64 0, .int .i64 0, .int .u64 0, .string ⟨#[]⟩, .slice none 0 0] 56
  go_enter_defers Tryz.func54, Tryz.ntmps54
  go_wp2_with fail
  refine (HF.out _ B0 (by simp)).mono ?_
  rintro e w1 ⟨rfl, p1, b1⟩
  have R1 := R0.fr b1 (.inr hN)
  have B1 : Fr L N w w1 := (Fr.of B0 (by omega)).trans b1
  obtain ⟨c0, c1, c2, c3, c4, c5, c6, c7, c8, c9⟩ := R1.c10
  have f1 := R1.f
  clear R0 b1 B0
  go_wp2_with fail
  refine leaves_cons (f := 65) (args := #[.pointer (some ⟨w.heap.size, 0, none⟩)]) (by simp) (by simp [go_sem]) ?_
  refine (ca_idle _ _).mono ?_
  rintro e u' w'' ⟨rfl, rfl, rfl⟩
  simp [Leaves, settle, results, Tryz.results54, go_sem, World.cell?_setCell_same, World.cell?_setCell_other, c0, c1, c2, c3, c4, c5, c6, c7, c8, c9]
  refine ⟨?_, ?_⟩
  · refine hP _ _ p1 (by simp) fun g _ hg => ?_
    simp (disch := (simp; omega)) only [Below.heap_setCell]
  · repeat' refine Fr.setCell ?_ _ _ (by omega) (.inr (Nat.le_refl _)) _
    exact B1

set_option maxRecDepth 100000 in
set_option maxHeartbeats 1000000 in
theorem caught_pan (F : Nat) (cap : Array Value) (w : World) (T : TypeId) (z : Value) (pk pn : Int) (L N : Nat) (hL : L ≤ N) (hN : N ≤ w.heap.size) (P : World → Prop) (hP : ∀ w' w'', P w' → w'.heap.size ≤ w''.heap.size → (∀ g, g < w'.heap.size → g ≠ w.heap.size → w''.heap[g]? = w'.heap[g]?) → P w'')
    (hT : ∀ wx, Calls Tryz.prog 66 #[.iface T z] wx fun e w' => e = .returned (.agg #[.int .i64 pk, .int .i64 pn]) ∧ Below wx.heap.size wx w')
    (hcf : ∀ (w : World), (callFunc F cap).run Tryz.prog w = .ok (.enter F cap) w)
    (hF : ∀ wx, Below w.heap.size w wx → wx.heap.size = w.heap.size + 1 → Calls Tryz.prog F cap wx fun e w' => e = .panicked [{ v := .iface T z, recovered := false }] ∧ P w' ∧ Fr L N wx w') :
    Calls Tryz.prog 54 #[.func (.func F) #[] cap] w fun e w' => e = .returned (.agg (rErr 110 0 pk pn)) ∧ P w' ∧ Fr L N w w' := by
  have hmf : ∀ (fn : Fn) (first cap : Array Value) (w : World), (Instr.makeFunc fn first cap).run Tryz.prog w = .ok (.func fn first cap) w := fun _ _ _ _ => rfl
  have HF := Lib.hid hF
  have HT := Lib.hid hT
  clear hF hT
  have B0 := below1 w (.cells (rErr 0 0 0 0) 56)
  have R0 := Bk.new w (rErr 0 0 0 0) 56
  go_enter_defers Tryz.func54, Tryz.ntmps54
  go_wp2_with fail
  refine (HF.out _ B0 (by simp)).mono ?_
  rintro e w1 ⟨rfl, p1, b1⟩
  have R1 := R0.fr b1 (.inr hN)
  have B1 : Fr L N w w1 := (Fr.of B0 (by omega)).trans b1
  clear R0 b1 B0
  go_wp2_with fail
  refine leaves_cons (f := 65) (args := #[.pointer (some ⟨w.heap.size, 0, none⟩)]) (by simp) (by simp [go_sem]) ?_
  refine (ca_catch w.heap.size T z pk pn [] w1 R1 HT.out).mono ?_
  rintro e u' w'' ⟨rfl, rfl, k1, k2, k3, k4⟩
  obtain ⟨c0, c1, c2, c3, c4, c5, c6, c7, c8, c9⟩ := k1.c10
  simp [Leaves, settle, results, Tryz.results54, go_sem, c0, c1, c2, c3, c4, c5, c6, c7, c8, c9]
  exact ⟨hP _ _ p1 k2 k3, B1.trans_own k4 k3 hN hL⟩
end Go.Proofs.YtgijdiplhcoojaaGreatDoor
/- A core at work on a state: which handler it is, for every core; the work's block; no condition. -/
namespace Go.Proofs.YtgijdiplhcoojaaGreatDoor
open Go.RowKit

/-- The handler of a core. -/
def hnd (op num : Int) (p : Option Addr) (sb : Nat) : Value :=
  if op = 1 then .iface 129 (.agg #[]) else if op = 2 then .iface 131 (.agg #[.pointer p]) else if op = 3 then .iface 132 (.pointer (some ⟨sb, 0, none⟩))
  else if op = 4 then .iface 135 (.agg #[.pointer p]) else if op = 5 then .iface 136 (.agg #[]) else if op = 6 then .iface 137 (.agg #[])
  else if op = 7 then .iface 139 (.agg #[.int .i64 num]) else if op = 8 then .iface 141 (.agg #[.int .i64 num]) else if op = 9 then .iface 143 (.agg #[.int .i64 num])
  else if op = 10 then .iface 144 (.agg #[]) else if op = 12 then .iface 145 (.agg #[.pointer p]) else .iface 146 (.agg #[])

/-- The block of a store, where the core is one. -/
def HB (op num : Int) (p : Option Addr) (sb : Nat) (w w' : World) : Prop := op = 3 → Bk w' sb #[.pointer p, .int .i64 num, .map none, .map none] 134 ∧ w.heap.size ≤ sb

set_option maxRecDepth 100000 in
set_option maxHeartbeats 1000000 in
theorem handlerOf_1 (num cp : Int) (p : Addr) (w : World) : Calls Tryz.prog 53 #[.agg #[.int .i64 1, .int .i64 num, .int .u32 cp], .pointer (some p)] w fun e w' => ∃ sb, e = .returned (hnd 1 num (some p) sb) ∧ HB 1 num (some p) sb w w' ∧ Below w.heap.size w w' := by
  go_enter Tryz.func53, Tryz.ntmps53
  go_wp2
  go_ret
  exact ⟨0, rfl, fun h => absurd h (by decide), below1 w _⟩

set_option maxRecDepth 100000 in
set_option maxHeartbeats 1000000 in
theorem handlerOf_2 (num cp : Int) (p : Addr) (w : World) : Calls Tryz.prog 53 #[.agg #[.int .i64 2, .int .i64 num, .int .u32 cp], .pointer (some p)] w fun e w' => ∃ sb, e = .returned (hnd 2 num (some p) sb) ∧ HB 2 num (some p) sb w w' ∧ Below w.heap.size w w' := by
  go_enter Tryz.func53, Tryz.ntmps53
  go_wp2
  go_ret
  exact ⟨0, rfl, fun h => absurd h (by decide), below1 w _⟩

set_option maxRecDepth 100000 in
set_option maxHeartbeats 1000000 in
theorem handlerOf_3 (num cp : Int) (p : Addr) (w : World) : Calls Tryz.prog 53 #[.agg #[.int .i64 3, .int .i64 num, .int .u32 cp], .pointer (some p)] w fun e w' => ∃ sb, e = .returned (hnd 3 num (some p) sb) ∧ HB 3 num (some p) sb w w' ∧ Below w.heap.size w w' := by
  go_enter Tryz.func53, Tryz.ntmps53
  go_wp2
  go_ret
  exact ⟨w.heap.size + 1, rfl, fun _ => ⟨Bk.new2 _ _ _ _, by omega⟩, below2 w _ _⟩

set_option maxRecDepth 100000 in
set_option maxHeartbeats 1000000 in
theorem handlerOf_4 (num cp : Int) (p : Addr) (w : World) : Calls Tryz.prog 53 #[.agg #[.int .i64 4, .int .i64 num, .int .u32 cp], .pointer (some p)] w fun e w' => ∃ sb, e = .returned (hnd 4 num (some p) sb) ∧ HB 4 num (some p) sb w w' ∧ Below w.heap.size w w' := by
  go_enter Tryz.func53, Tryz.ntmps53
  go_wp2
  go_ret
  exact ⟨0, rfl, fun h => absurd h (by decide), below1 w _⟩

set_option maxRecDepth 100000 in
set_option maxHeartbeats 1000000 in
theorem handlerOf_5 (num cp : Int) (p : Addr) (w : World) : Calls Tryz.prog 53 #[.agg #[.int .i64 5, .int .i64 num, .int .u32 cp], .pointer (some p)] w fun e w' => ∃ sb, e = .returned (hnd 5 num (some p) sb) ∧ HB 5 num (some p) sb w w' ∧ Below w.heap.size w w' := by
  go_enter Tryz.func53, Tryz.ntmps53
  go_wp2
  go_ret
  exact ⟨0, rfl, fun h => absurd h (by decide), below1 w _⟩

set_option maxRecDepth 100000 in
set_option maxHeartbeats 1000000 in
theorem handlerOf_6 (num cp : Int) (p : Addr) (w : World) : Calls Tryz.prog 53 #[.agg #[.int .i64 6, .int .i64 num, .int .u32 cp], .pointer (some p)] w fun e w' => ∃ sb, e = .returned (hnd 6 num (some p) sb) ∧ HB 6 num (some p) sb w w' ∧ Below w.heap.size w w' := by
  go_enter Tryz.func53, Tryz.ntmps53
  go_wp2
  go_ret
  exact ⟨0, rfl, fun h => absurd h (by decide), below1 w _⟩

set_option maxRecDepth 100000 in
set_option maxHeartbeats 1000000 in
theorem handlerOf_7 (num cp : Int) (p : Addr) (w : World) : Calls Tryz.prog 53 #[.agg #[.int .i64 7, .int .i64 num, .int .u32 cp], .pointer (some p)] w fun e w' => ∃ sb, e = .returned (hnd 7 num (some p) sb) ∧ HB 7 num (some p) sb w w' ∧ Below w.heap.size w w' := by
  go_enter Tryz.func53, Tryz.ntmps53
  go_wp2
  go_ret
  exact ⟨0, rfl, fun h => absurd h (by decide), below1 w _⟩

set_option maxRecDepth 100000 in
set_option maxHeartbeats 1000000 in
theorem handlerOf_8 (num cp : Int) (p : Addr) (w : World) : Calls Tryz.prog 53 #[.agg #[.int .i64 8, .int .i64 num, .int .u32 cp], .pointer (some p)] w fun e w' => ∃ sb, e = .returned (hnd 8 num (some p) sb) ∧ HB 8 num (some p) sb w w' ∧ Below w.heap.size w w' := by
  go_enter Tryz.func53, Tryz.ntmps53
  go_wp2
  go_ret
  exact ⟨0, rfl, fun h => absurd h (by decide), below1 w _⟩

set_option maxRecDepth 100000 in
set_option maxHeartbeats 1000000 in
theorem handlerOf_9 (num cp : Int) (p : Addr) (w : World) : Calls Tryz.prog 53 #[.agg #[.int .i64 9, .int .i64 num, .int .u32 cp], .pointer (some p)] w fun e w' => ∃ sb, e = .returned (hnd 9 num (some p) sb) ∧ HB 9 num (some p) sb w w' ∧ Below w.heap.size w w' := by
  go_enter Tryz.func53, Tryz.ntmps53
  go_wp2
  go_ret
  exact ⟨0, rfl, fun h => absurd h (by decide), below1 w _⟩

set_option maxRecDepth 100000 in
set_option maxHeartbeats 1000000 in
theorem handlerOf_10 (num cp : Int) (p : Addr) (w : World) : Calls Tryz.prog 53 #[.agg #[.int .i64 10, .int .i64 num, .int .u32 cp], .pointer (some p)] w fun e w' => ∃ sb, e = .returned (hnd 10 num (some p) sb) ∧ HB 10 num (some p) sb w w' ∧ Below w.heap.size w w' := by
  go_enter Tryz.func53, Tryz.ntmps53
  go_wp2
  go_ret
  exact ⟨0, rfl, fun h => absurd h (by decide), below1 w _⟩

set_option maxRecDepth 100000 in
set_option maxHeartbeats 1000000 in
theorem handlerOf_11 (num cp : Int) (p : Addr) (w : World) : Calls Tryz.prog 53 #[.agg #[.int .i64 11, .int .i64 num, .int .u32 cp], .pointer (some p)] w fun e w' => ∃ sb, e = .returned (hnd 11 num (some p) sb) ∧ HB 11 num (some p) sb w w' ∧ Below w.heap.size w w' := by
  go_enter Tryz.func53, Tryz.ntmps53
  go_wp2
  go_ret
  exact ⟨0, rfl, fun h => absurd h (by decide), below1 w _⟩

set_option maxRecDepth 100000 in
set_option maxHeartbeats 1000000 in
theorem handlerOf_12 (num cp : Int) (p : Addr) (w : World) : Calls Tryz.prog 53 #[.agg #[.int .i64 12, .int .i64 num, .int .u32 cp], .pointer (some p)] w fun e w' => ∃ sb, e = .returned (hnd 12 num (some p) sb) ∧ HB 12 num (some p) sb w w' ∧ Below w.heap.size w w' := by
  go_enter Tryz.func53, Tryz.ntmps53
  go_wp2
  go_ret
  exact ⟨0, rfl, fun h => absurd h (by decide), below1 w _⟩

theorem handlerOf_any (op num cp : Int) (p : Addr) (w : World) (h1 : 1 ≤ op) (h2 : op ≤ 12) : Calls Tryz.prog 53 #[.agg #[.int .i64 op, .int .i64 num, .int .u32 cp], .pointer (some p)] w fun e w' => ∃ sb, e = .returned (hnd op num (some p) sb) ∧ HB op num (some p) sb w w' ∧ Below w.heap.size w w' := by
  obtain rfl | rfl | rfl | rfl | rfl | rfl | rfl | rfl | rfl | rfl | rfl | rfl : op = 1 ∨ op = 2 ∨ op = 3 ∨ op = 4 ∨ op = 5 ∨ op = 6 ∨ op = 7 ∨ op = 8 ∨ op = 9 ∨ op = 10 ∨ op = 11 ∨ op = 12 := by omega
  · exact handlerOf_1 num cp p w
  · exact handlerOf_2 num cp p w
  · exact handlerOf_3 num cp p w
  · exact handlerOf_4 num cp p w
  · exact handlerOf_5 num cp p w
  · exact handlerOf_6 num cp p w
  · exact handlerOf_7 num cp p w
  · exact handlerOf_8 num cp p w
  · exact handlerOf_9 num cp p w
  · exact handlerOf_10 num cp p w
  · exact handlerOf_11 num cp p w
  · exact handlerOf_12 num cp p w
end Go.Proofs.YtgijdiplhcoojaaGreatDoor
