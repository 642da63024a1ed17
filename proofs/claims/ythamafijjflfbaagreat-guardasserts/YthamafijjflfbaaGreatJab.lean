/- What is told of an answer, an error and a panic; something called whose panic is caught; the conditions: what it comes to. -/
import Derived.Test.YthamafijjflfbaaGreatJaa
namespace Go.Proofs.YthamafijjflfbaaGreat
open Go.RowKit

/-- The cells of a result. -/
abbrev rcs (er co pk pn : Int) (has : Bool) (k i u : Int) (s : ByteArray) (a : Option Addr) (n c : Nat) : Array Value :=
  #[.int .i64 er, .int .i64 co, .int .i64 pk, .int .i64 pn, .bool has, .int .i64 k, .int .i64 i, .int .u64 u, .string s, .slice a n c]
abbrev rErr (er co pk pn : Int) : Array Value := rcs er co pk pn false 0 0 0 ⟨#[]⟩ none 0 0

theorem as_yes {P : Program} {t x : TypeId} {d : TypeDesc} {v z : Value} {w : World} (hU : P.underlying t = some d) (hd : ∀ m, d ≠ .interface m) (hz : (zeroValue t).run P w = .ok z w) : (Instr.typeAssert (.iface t v) x t true).run P w = .ok (.tuple #[v, .bool true]) w := by
  have h := assert_to (t := t) (x := x) (v := v) hU hd hz
  simpa using h
theorem as_no {P : Program} {t x asserted : TypeId} {d : TypeDesc} {v z : Value} {w : World} (hU : P.underlying asserted = some d) (hd : ∀ m, d ≠ .interface m) (hz : (zeroValue asserted).run P w = .ok z w) (hne : t ≠ asserted) : (Instr.typeAssert (.iface t v) x asserted true).run P w = .ok (.tuple #[z, .bool false]) w := by
  have h := assert_to (t := t) (x := x) (v := v) hU hd hz
  simpa [hne] using h

set_option maxRecDepth 100000 in
set_option maxHeartbeats 1000000 in
theorem ptold_assert (x : Int) (w : World) :
    Calls Tryz.prog 37 #[.iface 84 (.int .i64 x)] w fun e w' => e = .returned (.agg #[.int .i64 2, .int .i64 x]) ∧ Below w.heap.size w w' := by
  have a0 : ∀ w : World, (Instr.typeAssert (.iface 84 (.int .i64 x)) 20 84 true).run Tryz.prog w = .ok (.tuple #[.int .i64 x, .bool true]) w := fun w => as_yes Tryz.underlying84 (fun m h => by cases h) (z := .int .i64 0) (by kernel_rfl)
  go_enter Tryz.func37, Tryz.ntmps37
  go_wp2
  exact bodyPost_ret (v := .agg #[.int .i64 2, .int .i64 x]) (by simp [results, Tryz.results37, go_sem]) rfl ⟨rfl, by first | exact below1 _ _ | exact below2 _ _ _⟩

set_option maxRecDepth 100000 in
set_option maxHeartbeats 1000000 in
theorem ptold_nil  (w : World) :
    Calls Tryz.prog 37 #[.iface 86 (.agg #[])] w fun e w' => e = .returned (.agg #[.int .i64 3, .int .i64 0]) ∧ Below w.heap.size w w' := by
  have a0 : ∀ w : World, (Instr.typeAssert (.iface 86 (.agg #[])) 20 84 true).run Tryz.prog w = .ok (.tuple #[.int .i64 0, .bool false]) w := fun w => as_no Tryz.underlying84 (fun m h => by cases h) (by kernel_rfl) (by decide)
  have a1 : ∀ w : World, (Instr.typeAssert (.iface 86 (.agg #[])) 20 86 true).run Tryz.prog w = .ok (.tuple #[.agg #[], .bool true]) w := fun w => as_yes Tryz.underlying86 (fun m h => by cases h) (z := .agg #[]) (by kernel_rfl)
  go_enter Tryz.func37, Tryz.ntmps37
  go_wp2
  exact bodyPost_ret (v := .agg #[.int .i64 3, .int .i64 0]) (by simp [results, Tryz.results37, go_sem]) rfl ⟨rfl, by first | exact below1 _ _ | exact below2 _ _ _⟩

set_option maxRecDepth 100000 in
set_option maxHeartbeats 1000000 in
theorem ptold_index (x : Int) (w : World) :
    Calls Tryz.prog 37 #[.iface 87 (.int .i64 x)] w fun e w' => e = .returned (.agg #[.int .i64 4, .int .i64 x]) ∧ Below w.heap.size w w' := by
  have a0 : ∀ w : World, (Instr.typeAssert (.iface 87 (.int .i64 x)) 20 84 true).run Tryz.prog w = .ok (.tuple #[.int .i64 0, .bool false]) w := fun w => as_no Tryz.underlying84 (fun m h => by cases h) (by kernel_rfl) (by decide)
  have a1 : ∀ w : World, (Instr.typeAssert (.iface 87 (.int .i64 x)) 20 86 true).run Tryz.prog w = .ok (.tuple #[.agg #[], .bool false]) w := fun w => as_no Tryz.underlying86 (fun m h => by cases h) (by kernel_rfl) (by decide)
  have a2 : ∀ w : World, (Instr.typeAssert (.iface 87 (.int .i64 x)) 20 87 true).run Tryz.prog w = .ok (.tuple #[.int .i64 x, .bool true]) w := fun w => as_yes Tryz.underlying87 (fun m h => by cases h) (z := .int .i64 0) (by kernel_rfl)
  go_enter Tryz.func37, Tryz.ntmps37
  go_wp2
  exact bodyPost_ret (v := .agg #[.int .i64 4, .int .i64 x]) (by simp [results, Tryz.results37, go_sem]) rfl ⟨rfl, by first | exact below1 _ _ | exact below2 _ _ _⟩

set_option maxRecDepth 100000 in
set_option maxHeartbeats 1000000 in
theorem ptold_compare  (w : World) :
    Calls Tryz.prog 37 #[.iface 88 (.agg #[])] w fun e w' => e = .returned (.agg #[.int .i64 5, .int .i64 0]) ∧ Below w.heap.size w w' := by
  have a0 : ∀ w : World, (Instr.typeAssert (.iface 88 (.agg #[])) 20 84 true).run Tryz.prog w = .ok (.tuple #[.int .i64 0, .bool false]) w := fun w => as_no Tryz.underlying84 (fun m h => by cases h) (by kernel_rfl) (by decide)
  have a1 : ∀ w : World, (Instr.typeAssert (.iface 88 (.agg #[])) 20 86 true).run Tryz.prog w = .ok (.tuple #[.agg #[], .bool false]) w := fun w => as_no Tryz.underlying86 (fun m h => by cases h) (by kernel_rfl) (by decide)
  have a2 : ∀ w : World, (Instr.typeAssert (.iface 88 (.agg #[])) 20 87 true).run Tryz.prog w = .ok (.tuple #[.int .i64 0, .bool false]) w := fun w => as_no Tryz.underlying87 (fun m h => by cases h) (by kernel_rfl) (by decide)
  have a3 : ∀ w : World, (Instr.typeAssert (.iface 88 (.agg #[])) 20 88 true).run Tryz.prog w = .ok (.tuple #[.agg #[], .bool true]) w := fun w => as_yes Tryz.underlying88 (fun m h => by cases h) (z := .agg #[]) (by kernel_rfl)
  go_enter Tryz.func37, Tryz.ntmps37
  go_wp2
  exact bodyPost_ret (v := .agg #[.int .i64 5, .int .i64 0]) (by simp [results, Tryz.results37, go_sem]) rfl ⟨rfl, by first | exact below1 _ _ | exact below2 _ _ _⟩

set_option maxRecDepth 100000 in
set_option maxHeartbeats 1000000 in
theorem ptold_divide  (w : World) :
    Calls Tryz.prog 37 #[.iface 89 (.agg #[])] w fun e w' => e = .returned (.agg #[.int .i64 6, .int .i64 0]) ∧ Below w.heap.size w w' := by
  have a0 : ∀ w : World, (Instr.typeAssert (.iface 89 (.agg #[])) 20 84 true).run Tryz.prog w = .ok (.tuple #[.int .i64 0, .bool false]) w := fun w => as_no Tryz.underlying84 (fun m h => by cases h) (by kernel_rfl) (by decide)
  have a1 : ∀ w : World, (Instr.typeAssert (.iface 89 (.agg #[])) 20 86 true).run Tryz.prog w = .ok (.tuple #[.agg #[], .bool false]) w := fun w => as_no Tryz.underlying86 (fun m h => by cases h) (by kernel_rfl) (by decide)
  have a2 : ∀ w : World, (Instr.typeAssert (.iface 89 (.agg #[])) 20 87 true).run Tryz.prog w = .ok (.tuple #[.int .i64 0, .bool false]) w := fun w => as_no Tryz.underlying87 (fun m h => by cases h) (by kernel_rfl) (by decide)
  have a3 : ∀ w : World, (Instr.typeAssert (.iface 89 (.agg #[])) 20 88 true).run Tryz.prog w = .ok (.tuple #[.agg #[], .bool false]) w := fun w => as_no Tryz.underlying88 (fun m h => by cases h) (by kernel_rfl) (by decide)
  have a4 : ∀ w : World, (Instr.typeAssert (.iface 89 (.agg #[])) 20 89 true).run Tryz.prog w = .ok (.tuple #[.agg #[], .bool true]) w := fun w => as_yes Tryz.underlying89 (fun m h => by cases h) (z := .agg #[]) (by kernel_rfl)
  go_enter Tryz.func37, Tryz.ntmps37
  go_wp2
  exact bodyPost_ret (v := .agg #[.int .i64 6, .int .i64 0]) (by simp [results, Tryz.results37, go_sem]) rfl ⟨rfl, by first | exact below1 _ _ | exact below2 _ _ _⟩

set_option maxRecDepth 100000 in
set_option maxHeartbeats 1000000 in
theorem ptold_own (x : Int) (w : World) :
    Calls Tryz.prog 37 #[.iface 73 (.int .i64 x)] w fun e w' => e = .returned (.agg #[.int .i64 1, .int .i64 x]) ∧ Below w.heap.size w w' := by
  have a0 : ∀ w : World, (Instr.typeAssert (.iface 73 (.int .i64 x)) 20 84 true).run Tryz.prog w = .ok (.tuple #[.int .i64 0, .bool false]) w := fun w => as_no Tryz.underlying84 (fun m h => by cases h) (by kernel_rfl) (by decide)
  have a1 : ∀ w : World, (Instr.typeAssert (.iface 73 (.int .i64 x)) 20 86 true).run Tryz.prog w = .ok (.tuple #[.agg #[], .bool false]) w := fun w => as_no Tryz.underlying86 (fun m h => by cases h) (by kernel_rfl) (by decide)
  have a2 : ∀ w : World, (Instr.typeAssert (.iface 73 (.int .i64 x)) 20 87 true).run Tryz.prog w = .ok (.tuple #[.int .i64 0, .bool false]) w := fun w => as_no Tryz.underlying87 (fun m h => by cases h) (by kernel_rfl) (by decide)
  have a3 : ∀ w : World, (Instr.typeAssert (.iface 73 (.int .i64 x)) 20 88 true).run Tryz.prog w = .ok (.tuple #[.agg #[], .bool false]) w := fun w => as_no Tryz.underlying88 (fun m h => by cases h) (by kernel_rfl) (by decide)
  have a4 : ∀ w : World, (Instr.typeAssert (.iface 73 (.int .i64 x)) 20 89 true).run Tryz.prog w = .ok (.tuple #[.agg #[], .bool false]) w := fun w => as_no Tryz.underlying89 (fun m h => by cases h) (by kernel_rfl) (by decide)
  have a5 : ∀ w : World, (Instr.typeAssert (.iface 73 (.int .i64 x)) 20 73 true).run Tryz.prog w = .ok (.tuple #[.int .i64 x, .bool true]) w := fun w => as_yes Tryz.underlying73 (fun m h => by cases h) (z := .int .i64 0) (by kernel_rfl)
  go_enter Tryz.func37, Tryz.ntmps37
  go_wp2
  exact bodyPost_ret (v := .agg #[.int .i64 1, .int .i64 x]) (by simp [results, Tryz.results37, go_sem]) rfl ⟨rfl, by first | exact below1 _ _ | exact below2 _ _ _⟩

set_option maxRecDepth 100000 in
set_option maxHeartbeats 1000000 in
theorem ptold_error (x : Int) (t : ByteArray) (w : World) :
    Calls Tryz.prog 37 #[.iface 75 (.agg #[.int .i64 x, .string t])] w fun e w' => e = .returned (.agg #[.int .i64 7, .int .i64 x]) ∧ Below w.heap.size w w' := by
  have a0 : ∀ w : World, (Instr.typeAssert (.iface 75 (.agg #[.int .i64 x, .string t])) 20 84 true).run Tryz.prog w = .ok (.tuple #[.int .i64 0, .bool false]) w := fun w => as_no Tryz.underlying84 (fun m h => by cases h) (by kernel_rfl) (by decide)
  have a1 : ∀ w : World, (Instr.typeAssert (.iface 75 (.agg #[.int .i64 x, .string t])) 20 86 true).run Tryz.prog w = .ok (.tuple #[.agg #[], .bool false]) w := fun w => as_no Tryz.underlying86 (fun m h => by cases h) (by kernel_rfl) (by decide)
  have a2 : ∀ w : World, (Instr.typeAssert (.iface 75 (.agg #[.int .i64 x, .string t])) 20 87 true).run Tryz.prog w = .ok (.tuple #[.int .i64 0, .bool false]) w := fun w => as_no Tryz.underlying87 (fun m h => by cases h) (by kernel_rfl) (by decide)
  have a3 : ∀ w : World, (Instr.typeAssert (.iface 75 (.agg #[.int .i64 x, .string t])) 20 88 true).run Tryz.prog w = .ok (.tuple #[.agg #[], .bool false]) w := fun w => as_no Tryz.underlying88 (fun m h => by cases h) (by kernel_rfl) (by decide)
  have a4 : ∀ w : World, (Instr.typeAssert (.iface 75 (.agg #[.int .i64 x, .string t])) 20 89 true).run Tryz.prog w = .ok (.tuple #[.agg #[], .bool false]) w := fun w => as_no Tryz.underlying89 (fun m h => by cases h) (by kernel_rfl) (by decide)
  have a5 : ∀ w : World, (Instr.typeAssert (.iface 75 (.agg #[.int .i64 x, .string t])) 20 73 true).run Tryz.prog w = .ok (.tuple #[.int .i64 0, .bool false]) w := fun w => as_no Tryz.underlying73 (fun m h => by cases h) (by kernel_rfl) (by decide)
  have a6 : ∀ w : World, (Instr.typeAssert (.iface 75 (.agg #[.int .i64 x, .string t])) 20 75 true).run Tryz.prog w = .ok (.tuple #[.agg #[.int .i64 x, .string t], .bool true]) w := fun w => as_yes Tryz.underlying75 (fun m h => by cases h) (z := .agg #[.int .i64 0, .string ⟨#[]⟩]) (by kernel_rfl)
  go_enter Tryz.func37, Tryz.ntmps37
  go_wp2
  exact bodyPost_ret (v := .agg #[.int .i64 7, .int .i64 x]) (by simp [results, Tryz.results37, go_sem]) rfl ⟨rfl, by first | exact below1 _ _ | exact below2 _ _ _⟩
end Go.Proofs.YthamafijjflfbaaGreat
/- Something called, and its panic caught and told; the conditions: what it comes to. -/
namespace Go.Proofs.YthamafijjflfbaaGreat
open Go.RowKit

/-- As it was: what lies below L, and from N on. -/
structure Fr (L N : Nat) (w w' : World) : Prop where
  b : Below L w w'
  up : ∀ g, N ≤ g → g < w.heap.size → w'.heap[g]? = w.heap[g]?
theorem Fr.refl (L N : Nat) (w : World) : Fr L N w w := ⟨Below.refl _ _, fun _ _ _ => rfl⟩
theorem Fr.of {L N : Nat} {w w' : World} (h : Below w.heap.size w w') (hL : L ≤ w.heap.size) : Fr L N w w' := ⟨h.mono hL, fun g _ hg => h.block g hg⟩
theorem Fr.trans {L N : Nat} {w w' w'' : World} (h : Fr L N w w') (k : Fr L N w' w'') : Fr L N w w'' := ⟨h.b.trans k.b, fun g h1 h2 => (k.up g h1 (Nat.lt_of_lt_of_le h2 h.b.size)).trans (h.up g h1 h2)⟩
theorem Fr.size {L N : Nat} {w w' : World} (h : Fr L N w w') : w.heap.size ≤ w'.heap.size := h.b.size
theorem Fr.drew {L N : Nat} {w w' : World} (h : Fr L N w w') : Fr L N w w'.drew := ⟨h.b.drew, h.up⟩
theorem Fr.setCell {L N : Nat} {w w' : World} (h : Fr L N w w') (A o : Nat) (hA : L ≤ A) (hA' : A < N ∨ w.heap.size ≤ A) (v : Value) : Fr L N w (w'.setCell ⟨A, o, none⟩ v) :=
  ⟨h.b.setCell hA v, fun g h1 h2 => (Below.heap_setCell _ _ _ g (by show g ≠ A; omega)).trans (h.up g h1 h2)⟩
theorem Bk.fr {w w' : World} {A : Nat} {cs : Array Value} {T : TypeId} {L N : Nat} (h : Bk w A cs T) (hf : Fr L N w w') (hA : A < L ∨ N ≤ A) : Bk w' A cs T := by
  rcases hA with hA | hA
  · exact (hf.b.block A hA).trans h
  · exact (hf.up A hA h.lt).trans h

theorem Fr.trans_own {L N : Nat} {w w' w'' : World} (h : Fr L N w w') (k4 : Below w.heap.size w' w'') (k3 : ∀ g, g < w'.heap.size → g ≠ w.heap.size → w''.heap[g]? = w'.heap[g]?) (hN : N ≤ w.heap.size) (hL : L ≤ N) : Fr L N w w'' :=
  ⟨h.b.trans (k4.mono (by omega)), fun g h1 h2 => (k3 g (Nat.lt_of_lt_of_le h2 h.b.size) (by omega)).trans (h.up g h1 h2)⟩

theorem set10 {w : World} {A : Nat} {y0 y1 y2 y3 y4 y5 y6 y7 y8 y9 : Value} {T : TypeId} (h : Bk w A #[y0, y1, y2, y3, y4, y5, y6, y7, y8, y9] T) (x0 x1 x2 x3 x4 x5 x6 x7 x8 x9 : Value) {W : World} (hW : W = (((((((((w.setCell ⟨A, 0, none⟩ x0).setCell ⟨A, 1, none⟩ x1).setCell ⟨A, 2, none⟩ x2).setCell ⟨A, 3, none⟩ x3).setCell ⟨A, 4, none⟩ x4).setCell ⟨A, 5, none⟩ x5).setCell ⟨A, 6, none⟩ x6).setCell ⟨A, 7, none⟩ x7).setCell ⟨A, 8, none⟩ x8).setCell ⟨A, 9, none⟩ x9) :
    Bk W A #[x0, x1, x2, x3, x4, x5, x6, x7, x8, x9] T ∧ W.heap.size = w.heap.size ∧ (∀ g, g ≠ A → W.heap[g]? = w.heap[g]?) ∧ Below A w W := by
  subst hW
  have h0 : Bk _ A #[x0, y1, y2, y3, y4, y5, y6, y7, y8, y9] T := h.set 0 x0
  have h1 : Bk _ A #[x0, x1, y2, y3, y4, y5, y6, y7, y8, y9] T := h0.set 1 x1
  have h2 : Bk _ A #[x0, x1, x2, y3, y4, y5, y6, y7, y8, y9] T := h1.set 2 x2
  have h3 : Bk _ A #[x0, x1, x2, x3, y4, y5, y6, y7, y8, y9] T := h2.set 3 x3
  have h4 : Bk _ A #[x0, x1, x2, x3, x4, y5, y6, y7, y8, y9] T := h3.set 4 x4
  have h5 : Bk _ A #[x0, x1, x2, x3, x4, x5, y6, y7, y8, y9] T := h4.set 5 x5
  have h6 : Bk _ A #[x0, x1, x2, x3, x4, x5, x6, y7, y8, y9] T := h5.set 6 x6
  have h7 : Bk _ A #[x0, x1, x2, x3, x4, x5, x6, x7, y8, y9] T := h6.set 7 x7
  have h8 : Bk _ A #[x0, x1, x2, x3, x4, x5, x6, x7, x8, y9] T := h7.set 8 x8
  have h9 : Bk _ A #[x0, x1, x2, x3, x4, x5, x6, x7, x8, x9] T := h8.set 9 x9
  refine ⟨h9, by simp, fun g hg => ?_, ?_⟩
  · simp (disch := (simp; omega)) only [Below.heap_setCell]
  · exact ((((((((((Below.refl A w).setCell (Nat.le_refl A) _).setCell (Nat.le_refl A) _).setCell (Nat.le_refl A) _).setCell (Nat.le_refl A) _).setCell (Nat.le_refl A) _).setCell (Nat.le_refl A) _).setCell (Nat.le_refl A) _).setCell (Nat.le_refl A) _).setCell (Nat.le_refl A) _).setCell (Nat.le_refl A) _

theorem ca_idle (p : Addr) (w : World) :
    CallsD Tryz.prog 36 #[.pointer (some p)] .returning w fun e u' w' => e = .returned (.tuple #[]) ∧ u' = .returning ∧ w' = w := by
  refine callsD_of_wpS Tryz.func36 rfl fun c₀ cs hu => ?_
  apply wpS_seq
  apply wpS_region
  simp [wpOpsS, go_sem, recoverD, hu, Tryz.ntmps36, Exit.thenS]
  apply wpS_seq
  apply wpS_region
  simp [wpOpsS, go_sem, Exit.thenS]
  refine wpS_cond (t := false) (by simp [Act.eval, Array.replicate]) ?_
  simp only [Bool.false_eq_true, if_false]
  refine wpS_of_wp (wp_skip ?_)
  cases c₀
  simp_all [bodyPostS, results, Tryz.results36]

set_option maxRecDepth 100000 in
set_option maxHeartbeats 1000000 in
theorem ca_catch (A : Nat) (T : TypeId) (z : Value) (pk pn : Int) (older : List PanicEntry) (w : World) (hA : Bk w A (rErr 0 0 0 0) 35)
    (hT : ∀ wx, Calls Tryz.prog 37 #[.iface T z] wx fun e w' => e = .returned (.agg #[.int .i64 pk, .int .i64 pn]) ∧ Below wx.heap.size wx w') :
    CallsD Tryz.prog 36 #[.pointer (some ⟨A, 0, none⟩)] (.panicking ({ v := .iface T z, recovered := false } :: older)) w fun e u' w' =>
      e = .returned (.tuple #[]) ∧ u' = .panicking ({ v := .iface T z, recovered := true } :: older) ∧ Bk w' A (rErr 110 0 pk pn) 35 ∧ w.heap.size ≤ w'.heap.size ∧ (∀ g, g < w.heap.size → g ≠ A → w'.heap[g]? = w.heap[g]?) ∧ Below A w w' := by
  have HT := Lib.hid hT
  clear hT
  refine callsD_of_wpS Tryz.func36 rfl fun c₀ cs hu => ?_
  apply wpS_seq
  apply wpS_region
  simp [wpOpsS, go_sem, recoverD, hu, Tryz.ntmps36, Exit.thenS]
  apply wpS_seq
  apply wpS_region
  simp [wpOpsS, go_sem, Exit.thenS]
  refine wpS_cond (t := true) (by simp [Act.eval, Array.replicate]) ?_
  simp only [if_true]
  refine wpS_of_wp ?_
  go_wp2_with fail
  refine (HT.out _).mono ?_
  rintro e w1 ⟨rfl, b1⟩
  have A1 := hA.step b1
  obtain ⟨c0, c1, c2, c3, c4, c5, c6, c7, c8, c9⟩ := A1.c10
  have f1 := A1.f
  go_wp2_with fail
  obtain ⟨W, hW⟩ : ∃ W, W = (((((((((w1.setCell ⟨A, 0, none⟩ (.int .i64 110)).setCell ⟨A, 1, none⟩ (.int .i64 0)).setCell ⟨A, 2, none⟩ (.int .i64 pk)).setCell ⟨A, 3, none⟩ (.int .i64 pn)).setCell ⟨A, 4, none⟩ (.bool false)).setCell ⟨A, 5, none⟩ (.int .i64 0)).setCell ⟨A, 6, none⟩ (.int .i64 0)).setCell ⟨A, 7, none⟩ (.int .u64 0)).setCell ⟨A, 8, none⟩ (.string ⟨#[]⟩)).setCell ⟨A, 9, none⟩ (.slice none 0 0) := ⟨_, rfl⟩
  obtain ⟨k1, k2, k3, k4⟩ := set10 A1 _ _ _ _ _ _ _ _ _ _ hW
  rw [← hW]
  have hlt := hA.lt
  have hsz := b1.size
  have KK : Hid (Bk W A (rErr 110 0 pk pn) 35 ∧ w.heap.size ≤ W.heap.size ∧ (∀ g, g < w.heap.size → ¬ g = A → W.heap[g]? = w.heap[g]?) ∧ Below A w W) := ⟨k1, by omega, fun g h1 h2 => (k3 g h2).trans (b1.block g h1), (b1.mono (by omega)).trans k4⟩
  clear k1 k2 k3 k4 hW c0 c1 c2 c3 c4 c5 c6 c7 c8 c9 f1 A1 b1 hsz hlt hA HT
  simp [bodyPostS, results, Tryz.results36]
  exact KK.out

set_option maxRecDepth 100000 in
set_option maxHeartbeats 1000000 in
theorem caught_ret (F : Nat) (cap : Array Value) (w : World) (er co pk pn : Int) (has : Bool) (k i u : Int) (s : ByteArray) (a : Option Addr) (n c : Nat) (L N : Nat) (hL : L ≤ N) (hN : N ≤ w.heap.size) (P : World → Prop) (hP : ∀ w' w'', P w' → w'.heap.size ≤ w''.heap.size → (∀ g, g < w'.heap.size → g ≠ w.heap.size → w''.heap[g]? = w'.heap[g]?) → P w'')
    (hcf : ∀ (w : World), (callFunc F cap).run Tryz.prog w = .ok (.enter F cap) w)
    (hF : ∀ wx, Below w.heap.size w wx → wx.heap.size = w.heap.size + 1 → Calls Tryz.prog F cap wx fun e w' => e = .returned (.agg (rcs er co pk pn has k i u s a n c)) ∧ P w' ∧ Fr L N wx w') :
    Calls Tryz.prog 19 #[.func (.func F) #[] cap] w fun e w' => e = .returned (.agg (rcs er co pk pn has k i u s a n c)) ∧ P w' ∧ Fr L N w w' := by
  have hmf : ∀ (fn : Fn) (first cap : Array Value) (w : World), (Instr.makeFunc fn first cap).run Tryz.prog w = .ok (.func fn first cap) w := fun _ _ _ _ => rfl
  have HF := Lib.hid hF
  clear hF
  have B0 := below1 w (.cells #[.int .i64 0, .int .i64 0, .int .i64 0, .int .i64 0, .bool false, .int .i64 0, .int .i64 0, .int .u64 0, .string ⟨#[]⟩, .slice none 0 0] 35)
  have R0 := Bk.new w #[.int .i64 0, .int .i64 0, .int .i64 0, .int .i64 0, .bool false, .int .i64 0, .int .i64 0, .int .u64 0, .string ⟨#[]⟩, .slice none 0 0] 35
  go_enter_defers Tryz.func19, Tryz.ntmps19
  go_wp2_with fail
  refine (HF.out _ B0 (by simp)).mono ?_
  rintro e w1 ⟨rfl, p1, b1⟩
  have R1 := R0.fr b1 (.inr hN)
  have B1 : Fr L N w w1 := (Fr.of B0 (by omega)).trans b1
  obtain ⟨c0, c1, c2, c3, c4, c5, c6, c7, c8, c9⟩ := R1.c10
  have f1 := R1.f
  clear R0 b1 B0
  go_wp2_with fail
  refine leaves_cons (f := 36) (args := #[.pointer (some ⟨w.heap.size, 0, none⟩)]) (by simp) (by simp [go_sem]) ?_
  refine (ca_idle _ _).mono ?_
  rintro e u' w'' ⟨rfl, rfl, rfl⟩
  simp [Leaves, settle, results, Tryz.results19, go_sem, World.cell?_setCell_same, World.cell?_setCell_other, c0, c1, c2, c3, c4, c5, c6, c7, c8, c9]
  refine ⟨?_, ?_⟩
  · refine hP _ _ p1 (by simp) fun g _ hg => ?_
    simp (disch := (simp; omega)) only [Below.heap_setCell]
  · repeat' refine Fr.setCell ?_ _ _ (by omega) (.inr (Nat.le_refl _)) _
    exact B1

set_option maxRecDepth 100000 in
set_option maxHeartbeats 1000000 in
theorem caught_pan (F : Nat) (cap : Array Value) (w : World) (T : TypeId) (z : Value) (pk pn : Int) (older : List PanicEntry) (hold : older.dropWhile (!·.goexit) = []) (L N : Nat) (hL : L ≤ N) (hN : N ≤ w.heap.size) (P : World → Prop) (hP : ∀ w' w'', P w' → w'.heap.size ≤ w''.heap.size → (∀ g, g < w'.heap.size → g ≠ w.heap.size → w''.heap[g]? = w'.heap[g]?) → P w'')
    (hT : ∀ wx, Calls Tryz.prog 37 #[.iface T z] wx fun e w' => e = .returned (.agg #[.int .i64 pk, .int .i64 pn]) ∧ Below wx.heap.size wx w')
    (hcf : ∀ (w : World), (callFunc F cap).run Tryz.prog w = .ok (.enter F cap) w)
    (hF : ∀ wx, Below w.heap.size w wx → wx.heap.size = w.heap.size + 1 → Calls Tryz.prog F cap wx fun e w' => e = .panicked ({ v := .iface T z, recovered := false } :: older) ∧ P w' ∧ Fr L N wx w') :
    Calls Tryz.prog 19 #[.func (.func F) #[] cap] w fun e w' => e = .returned (.agg (rErr 110 0 pk pn)) ∧ P w' ∧ Fr L N w w' := by
  have hmf : ∀ (fn : Fn) (first cap : Array Value) (w : World), (Instr.makeFunc fn first cap).run Tryz.prog w = .ok (.func fn first cap) w := fun _ _ _ _ => rfl
  have HF := Lib.hid hF
  have HT := Lib.hid hT
  clear hF hT
  have B0 := below1 w (.cells (rErr 0 0 0 0) 35)
  have R0 := Bk.new w (rErr 0 0 0 0) 35
  go_enter_defers Tryz.func19, Tryz.ntmps19
  go_wp2_with fail
  refine (HF.out _ B0 (by simp)).mono ?_
  rintro e w1 ⟨rfl, p1, b1⟩
  have R1 := R0.fr b1 (.inr hN)
  have B1 : Fr L N w w1 := (Fr.of B0 (by omega)).trans b1
  clear R0 b1 B0
  go_wp2_with fail
  refine leaves_cons (f := 36) (args := #[.pointer (some ⟨w.heap.size, 0, none⟩)]) (by simp) (by simp [go_sem]) ?_
  refine (ca_catch w.heap.size T z pk pn older w1 R1 HT.out).mono ?_
  rintro e u' w'' ⟨rfl, rfl, k1, k2, k3, k4⟩
  obtain ⟨c0, c1, c2, c3, c4, c5, c6, c7, c8, c9⟩ := k1.c10
  simp [Leaves, settle, hold, results, Tryz.results19, go_sem, c0, c1, c2, c3, c4, c5, c6, c7, c8, c9]
  exact ⟨hP _ _ p1 k2 k3, B1.trans_own k4 k3 hN hL⟩
end Go.Proofs.YthamafijjflfbaaGreat
/- Something done of which the language itself may panic: what it comes to, or the cause that was named in the panic's stead; the conditions: what it comes to by itself. -/
namespace Go.Proofs.YthamafijjflfbaaGreat
open Go.RowKit

/-- A panic with a value that nobody has recovered yet. -/
def Pn (T : TypeId) (z : Value) (e : Ending) : Prop := ∃ older : List PanicEntry, e = .panicked ({ v := .iface T z, recovered := false } :: older) ∧ older.dropWhile (!·.goexit) = []
theorem Pn.one (T : TypeId) (z : Value) : Pn T z (.panicked [{ v := .iface T z, recovered := false }]) := ⟨[], rfl, rfl⟩

theorem asb_idle (p : Addr) (w : World) :
    CallsD Tryz.prog 84 #[.pointer (some p)] .returning w fun e u' w' => e = .returned (.tuple #[]) ∧ u' = .returning ∧ w' = w := by
  refine callsD_of_wpS Tryz.func84 rfl fun c₀ cs hu => ?_
  apply wpS_seq
  apply wpS_region
  simp [wpOpsS, go_sem, recoverD, hu, Tryz.ntmps84, Exit.thenS]
  refine wpS_cond (t := false) (by simp [Act.eval, Array.replicate]) ?_
  simp only [Bool.false_eq_true, if_false]
  refine wpS_of_wp (wp_skip ?_)
  cases c₀
  simp_all [bodyPostS, results, Tryz.results84]

theorem asb_turn (A : Nat) (T : TypeId) (z : Value) (C : TypeId) (c : Value) (older : List PanicEntry) (w : World) (hc : w.cell? ⟨A, 0, none⟩ = some (.iface C c)) :
    CallsD Tryz.prog 84 #[.pointer (some ⟨A, 0, none⟩)] (.panicking ({ v := .iface T z, recovered := false } :: older)) w fun e u' w' =>
      e = .panicked [{ v := .iface C c, recovered := false }] ∧ u' = .panicking ({ v := .iface T z, recovered := true } :: older) ∧ w' = w := by
  refine callsD_of_wpS Tryz.func84 rfl fun c₀ cs hu => ?_
  apply wpS_seq
  apply wpS_region
  simp [wpOpsS, go_sem, recoverD, hu, Tryz.ntmps84, Exit.thenS]
  refine wpS_cond (t := true) (by simp [Act.eval, Array.replicate]) ?_
  simp only [if_true]
  apply wpS_region
  simp [wpOpsS, go_sem, hc, bodyPostS, results, Tryz.results84]

set_option maxRecDepth 100000 in
set_option maxHeartbeats 1000000 in
theorem asb_ret (F : Nat) (cap : Array Value) (C : TypeId) (c : Value) (w : World) (Q : Value → World → Prop)
    (hcf : ∀ (w : World), (callFunc F cap).run Tryz.prog w = .ok (.enter F cap) w)
    (hF : ∀ wx, Below w.heap.size w wx → wx.heap.size = w.heap.size + 1 → Calls Tryz.prog F cap wx fun e w' => ∃ v, e = .returned v ∧ Q v w' ∧ Below wx.heap.size wx w') :
    Calls Tryz.prog 64 #[.iface C c, .func (.func F) #[] cap] w fun e w' => ∃ v, e = .returned v ∧ Q v w' ∧ Below w.heap.size w w' := by
  have hmf : ∀ (fn : Fn) (first cap : Array Value) (w : World), (Instr.makeFunc fn first cap).run Tryz.prog w = .ok (.func fn first cap) w := fun _ _ _ _ => rfl
  have HF := Lib.hid hF
  clear hF
  have B0 := below1 w (.cells #[.iface C c] 20)
  go_enter_defers Tryz.func64, Tryz.ntmps64
  go_wp2_with fail
  refine (HF.out _ B0 (by simp)).mono ?_
  rintro e w1 ⟨v, rfl, q1, b1⟩
  have B1 := B0.trans (b1.mono B0.size)
  go_wp2_with fail
  refine leaves_cons (f := 84) (args := #[.pointer (some ⟨w.heap.size, 0, none⟩)]) (by simp) (by simp [go_sem]) ?_
  refine (asb_idle _ _).mono ?_
  rintro e u' w'' ⟨rfl, rfl, rfl⟩
  simp [Leaves, settle, results, Tryz.results64, go_sem]
  exact ⟨q1, B1⟩

set_option maxRecDepth 100000 in
set_option maxHeartbeats 1000000 in
theorem asb_pan (F : Nat) (cap : Array Value) (C : TypeId) (c : Value) (w : World) (Q : World → Prop)
    (hcf : ∀ (w : World), (callFunc F cap).run Tryz.prog w = .ok (.enter F cap) w)
    (hF : ∀ wx, Below w.heap.size w wx → wx.heap.size = w.heap.size + 1 → Calls Tryz.prog F cap wx fun e w' => (∃ T z, Pn T z e) ∧ Q w' ∧ Below wx.heap.size wx w') :
    Calls Tryz.prog 64 #[.iface C c, .func (.func F) #[] cap] w fun e w' => Pn C c e ∧ Q w' ∧ Below w.heap.size w w' := by
  have hmf : ∀ (fn : Fn) (first cap : Array Value) (w : World), (Instr.makeFunc fn first cap).run Tryz.prog w = .ok (.func fn first cap) w := fun _ _ _ _ => rfl
  have HF := Lib.hid hF
  clear hF
  have B0 := below1 w (.cells #[.iface C c] 20)
  have R0 := Bk.new w #[.iface C c] 20
  go_enter_defers Tryz.func64, Tryz.ntmps64
  go_wp2_with fail
  refine (HF.out _ B0 (by simp)).mono ?_
  rintro e w1 ⟨⟨T, z, older, rfl, ho⟩, q1, b1⟩
  have B1 := B0.trans (b1.mono B0.size)
  have c1 : w1.cell? ⟨w.heap.size, 0, none⟩ = some (.iface C c) := by have := (R0.step b1).c 0; simpa using this
  go_wp2_with fail
  refine leaves_cons (f := 84) (args := #[.pointer (some ⟨w.heap.size, 0, none⟩)]) (by simp) (by simp [go_sem]) ?_
  refine (asb_turn w.heap.size T z C c older w1 c1).mono ?_
  rintro e u' w'' ⟨rfl, rfl, rfl⟩
  simp only [Leaves, raised]
  exact ⟨⟨_, rfl, by simp [ho]⟩, q1, B1⟩

theorem asa_idle (p : Addr) (w : World) :
    CallsD Tryz.prog 80 #[.pointer (some p)] .returning w fun e u' w' => e = .returned (.tuple #[]) ∧ u' = .returning ∧ w' = w := by
  refine callsD_of_wpS Tryz.func80 rfl fun c₀ cs hu => ?_
  apply wpS_seq
  apply wpS_region
  simp [wpOpsS, go_sem, recoverD, hu, Tryz.ntmps80, Exit.thenS]
  refine wpS_cond (t := false) (by simp [Act.eval, Array.replicate]) ?_
  simp only [Bool.false_eq_true, if_false]
  refine wpS_of_wp (wp_skip ?_)
  cases c₀
  simp_all [bodyPostS, results, Tryz.results80]

theorem asa_turn (A : Nat) (T : TypeId) (z : Value) (C : TypeId) (c : Value) (older : List PanicEntry) (w : World) (hc : w.cell? ⟨A, 0, none⟩ = some (.iface C c)) :
    CallsD Tryz.prog 80 #[.pointer (some ⟨A, 0, none⟩)] (.panicking ({ v := .iface T z, recovered := false } :: older)) w fun e u' w' =>
      e = .panicked [{ v := .iface C c, recovered := false }] ∧ u' = .panicking ({ v := .iface T z, recovered := true } :: older) ∧ w' = w := by
  refine callsD_of_wpS Tryz.func80 rfl fun c₀ cs hu => ?_
  apply wpS_seq
  apply wpS_region
  simp [wpOpsS, go_sem, recoverD, hu, Tryz.ntmps80, Exit.thenS]
  refine wpS_cond (t := true) (by simp [Act.eval, Array.replicate]) ?_
  simp only [if_true]
  apply wpS_region
  simp [wpOpsS, go_sem, hc, bodyPostS, results, Tryz.results80]

set_option maxRecDepth 100000 in
set_option maxHeartbeats 1000000 in
theorem asa_ret (F : Nat) (cap : Array Value) (C : TypeId) (c : Value) (w : World) (Q : Value → World → Prop)
    (hcf : ∀ (w : World), (callFunc F cap).run Tryz.prog w = .ok (.enter F cap) w)
    (hF : ∀ wx, Below w.heap.size w wx → wx.heap.size = w.heap.size + 1 → Calls Tryz.prog F cap wx fun e w' => ∃ v, e = .returned v ∧ Q v w' ∧ Below wx.heap.size wx w') :
    Calls Tryz.prog 60 #[.iface C c, .func (.func F) #[] cap] w fun e w' => ∃ v, e = .returned v ∧ Q v w' ∧ Below w.heap.size w w' := by
  have hmf : ∀ (fn : Fn) (first cap : Array Value) (w : World), (Instr.makeFunc fn first cap).run Tryz.prog w = .ok (.func fn first cap) w := fun _ _ _ _ => rfl
  have HF := Lib.hid hF
  clear hF
  have B0 := below1 w (.cells #[.iface C c] 20)
  go_enter_defers Tryz.func60, Tryz.ntmps60
  go_wp2_with fail
  refine (HF.out _ B0 (by simp)).mono ?_
  rintro e w1 ⟨v, rfl, q1, b1⟩
  have B1 := B0.trans (b1.mono B0.size)
  go_wp2_with fail
  refine leaves_cons (f := 80) (args := #[.pointer (some ⟨w.heap.size, 0, none⟩)]) (by simp) (by simp [go_sem]) ?_
  refine (asa_idle _ _).mono ?_
  rintro e u' w'' ⟨rfl, rfl, rfl⟩
  simp [Leaves, settle, results, Tryz.results60, go_sem]
  exact ⟨q1, B1⟩

set_option maxRecDepth 100000 in
set_option maxHeartbeats 1000000 in
theorem asa_pan (F : Nat) (cap : Array Value) (C : TypeId) (c : Value) (w : World) (Q : World → Prop)
    (hcf : ∀ (w : World), (callFunc F cap).run Tryz.prog w = .ok (.enter F cap) w)
    (hF : ∀ wx, Below w.heap.size w wx → wx.heap.size = w.heap.size + 1 → Calls Tryz.prog F cap wx fun e w' => (∃ T z, Pn T z e) ∧ Q w' ∧ Below wx.heap.size wx w') :
    Calls Tryz.prog 60 #[.iface C c, .func (.func F) #[] cap] w fun e w' => Pn C c e ∧ Q w' ∧ Below w.heap.size w w' := by
  have hmf : ∀ (fn : Fn) (first cap : Array Value) (w : World), (Instr.makeFunc fn first cap).run Tryz.prog w = .ok (.func fn first cap) w := fun _ _ _ _ => rfl
  have HF := Lib.hid hF
  clear hF
  have B0 := below1 w (.cells #[.iface C c] 20)
  have R0 := Bk.new w #[.iface C c] 20
  go_enter_defers Tryz.func60, Tryz.ntmps60
  go_wp2_with fail
  refine (HF.out _ B0 (by simp)).mono ?_
  rintro e w1 ⟨⟨T, z, older, rfl, ho⟩, q1, b1⟩
  have B1 := B0.trans (b1.mono B0.size)
  have c1 : w1.cell? ⟨w.heap.size, 0, none⟩ = some (.iface C c) := by have := (R0.step b1).c 0; simpa using this
  go_wp2_with fail
  refine leaves_cons (f := 80) (args := #[.pointer (some ⟨w.heap.size, 0, none⟩)]) (by simp) (by simp [go_sem]) ?_
  refine (asa_turn w.heap.size T z C c older w1 c1).mono ?_
  rintro e u' w'' ⟨rfl, rfl, rfl⟩
  simp only [Leaves, raised]
  exact ⟨⟨_, rfl, by simp [ho]⟩, q1, B1⟩

theorem asi_idle (p : Addr) (w : World) :
    CallsD Tryz.prog 85 #[.pointer (some p)] .returning w fun e u' w' => e = .returned (.tuple #[]) ∧ u' = .returning ∧ w' = w := by
  refine callsD_of_wpS Tryz.func85 rfl fun c₀ cs hu => ?_
  apply wpS_seq
  apply wpS_region
  simp [wpOpsS, go_sem, recoverD, hu, Tryz.ntmps85, Exit.thenS]
  refine wpS_cond (t := false) (by simp [Act.eval, Array.replicate]) ?_
  simp only [Bool.false_eq_true, if_false]
  refine wpS_of_wp (wp_skip ?_)
  cases c₀
  simp_all [bodyPostS, results, Tryz.results85]

theorem asi_turn (A : Nat) (T : TypeId) (z : Value) (C : TypeId) (c : Value) (older : List PanicEntry) (w : World) (hc : w.cell? ⟨A, 0, none⟩ = some (.iface C c)) :
    CallsD Tryz.prog 85 #[.pointer (some ⟨A, 0, none⟩)] (.panicking ({ v := .iface T z, recovered := false } :: older)) w fun e u' w' =>
      e = .panicked [{ v := .iface C c, recovered := false }] ∧ u' = .panicking ({ v := .iface T z, recovered := true } :: older) ∧ w' = w := by
  refine callsD_of_wpS Tryz.func85 rfl fun c₀ cs hu => ?_
  apply wpS_seq
  apply wpS_region
  simp [wpOpsS, go_sem, recoverD, hu, Tryz.ntmps85, Exit.thenS]
  refine wpS_cond (t := true) (by simp [Act.eval, Array.replicate]) ?_
  simp only [if_true]
  apply wpS_region
  simp [wpOpsS, go_sem, hc, bodyPostS, results, Tryz.results85]

set_option maxRecDepth 100000 in
set_option maxHeartbeats 1000000 in
theorem asi_ret (F : Nat) (cap : Array Value) (C : TypeId) (c : Value) (w : World) (Q : Value → World → Prop)
    (hcf : ∀ (w : World), (callFunc F cap).run Tryz.prog w = .ok (.enter F cap) w)
    (hF : ∀ wx, Below w.heap.size w wx → wx.heap.size = w.heap.size + 1 → Calls Tryz.prog F cap wx fun e w' => ∃ v, e = .returned v ∧ Q v w' ∧ Below wx.heap.size wx w') :
    Calls Tryz.prog 66 #[.iface C c, .func (.func F) #[] cap] w fun e w' => ∃ v, e = .returned v ∧ Q v w' ∧ Below w.heap.size w w' := by
  have hmf : ∀ (fn : Fn) (first cap : Array Value) (w : World), (Instr.makeFunc fn first cap).run Tryz.prog w = .ok (.func fn first cap) w := fun _ _ _ _ => rfl
  have HF := Lib.hid hF
  clear hF
  have B0 := below1 w (.cells #[.iface C c] 20)
  go_enter_defers Tryz.func66, Tryz.ntmps66
  go_wp2_with fail
  refine (HF.out _ B0 (by simp)).mono ?_
  rintro e w1 ⟨v, rfl, q1, b1⟩
  have B1 := B0.trans (b1.mono B0.size)
  go_wp2_with fail
  refine leaves_cons (f := 85) (args := #[.pointer (some ⟨w.heap.size, 0, none⟩)]) (by simp) (by simp [go_sem]) ?_
  refine (asi_idle _ _).mono ?_
  rintro e u' w'' ⟨rfl, rfl, rfl⟩
  simp [Leaves, settle, results, Tryz.results66, go_sem]
  exact ⟨q1, B1⟩

set_option maxRecDepth 100000 in
set_option maxHeartbeats 1000000 in
theorem asi_pan (F : Nat) (cap : Array Value) (C : TypeId) (c : Value) (w : World) (Q : World → Prop)
    (hcf : ∀ (w : World), (callFunc F cap).run Tryz.prog w = .ok (.enter F cap) w)
    (hF : ∀ wx, Below w.heap.size w wx → wx.heap.size = w.heap.size + 1 → Calls Tryz.prog F cap wx fun e w' => (∃ T z, Pn T z e) ∧ Q w' ∧ Below wx.heap.size wx w') :
    Calls Tryz.prog 66 #[.iface C c, .func (.func F) #[] cap] w fun e w' => Pn C c e ∧ Q w' ∧ Below w.heap.size w w' := by
  have hmf : ∀ (fn : Fn) (first cap : Array Value) (w : World), (Instr.makeFunc fn first cap).run Tryz.prog w = .ok (.func fn first cap) w := fun _ _ _ _ => rfl
  have HF := Lib.hid hF
  clear hF
  have B0 := below1 w (.cells #[.iface C c] 20)
  have R0 := Bk.new w #[.iface C c] 20
  go_enter_defers Tryz.func66, Tryz.ntmps66
  go_wp2_with fail
  refine (HF.out _ B0 (by simp)).mono ?_
  rintro e w1 ⟨⟨T, z, older, rfl, ho⟩, q1, b1⟩
  have B1 := B0.trans (b1.mono B0.size)
  have c1 : w1.cell? ⟨w.heap.size, 0, none⟩ = some (.iface C c) := by have := (R0.step b1).c 0; simpa using this
  go_wp2_with fail
  refine leaves_cons (f := 85) (args := #[.pointer (some ⟨w.heap.size, 0, none⟩)]) (by simp) (by simp [go_sem]) ?_
  refine (asi_turn w.heap.size T z C c older w1 c1).mono ?_
  rintro e u' w'' ⟨rfl, rfl, rfl⟩
  simp only [Leaves, raised]
  exact ⟨⟨_, rfl, by simp [ho]⟩, q1, B1⟩
end Go.Proofs.YthamafijjflfbaaGreat
