/- gives, closed and around of the package; what is asked of the world: what each theorem names. -/
import Derived.Test.YtcbplamomhimiaaDoorUr
import Derived.Stop.Asserts
namespace Go.Proofs.YtcbplamomhimiaaDoor
open Go.RowKit

/-- A wrapper as it lies in memory, or is handed on: its eight cells. -/
def wcs (x : Wr) (A B w0 w1 : Int) (wa : Option Addr) (wl wc : Nat) : Array Value := #[.int .i64 x.op, .int .i64 A, .int .i64 B, .int .u32 (x.cp : Nat), .int .i64 w0, .int .i64 w1, .slice wa wl wc, .bool x.on]

set_option maxRecDepth 100000 in
set_option maxHeartbeats 2000000 in
theorem gives_no (v : Value) (ha : ∀ w, (Instr.typeAssert v 54 81 true).run Tryd.prog w = .ok (.tuple #[.nilIface, .bool false]) w) (w : World) :
    Calls Tryd.prog 30 #[v] w fun e w' => e = .returned (.int .u32 (0 : Nat)) ∧ Below w.heap.size w w' := by
  go_enter Tryd.func30, Tryd.ntmps30
  go_wp2
  go_ret
  exact ⟨rfl, by first | exact Below.refl _ _ | exact below1 _ _⟩
set_option maxRecDepth 100000 in
set_option maxHeartbeats 2000000 in
theorem gives_gvg (l : Value) (o : Nat)  (t : TypeId) (z : Value) (hl : l = .iface t z) (w : World) :
    Calls Tryd.prog 30 #[.iface 84 (.agg #[l, .int .u32 (o : Nat)])] w fun e w' => e = .returned (.int .u32 (o : Nat)) ∧ Below w.heap.size w w' := by
  have hmf := mkf
  have ha : ∀ w, (Instr.typeAssert (.iface 84 (.agg #[l, .int .u32 (o : Nat)])) 54 81 true).run Tryd.prog w = .ok (.tuple #[.iface 84 (.agg #[l, .int .u32 (o : Nat)]), .bool true]) w := fun w => run_typeAssert_hasB Tryd.underlying81 (by kernel_rfl) _ _ w
  have hmm : ∀ w, (method 224 84 (.agg #[l, .int .u32 (o : Nat)]) "conduit/shown.gives").run Tryd.prog w = .ok (84, .agg #[l, .int .u32 (o : Nat)]) w := fun _ => by kernel_rfl
  have hcf : ∀ (args : Array Value) w, (callFunc 84 args).run Tryd.prog w = .ok (.enter 84 args) w := fun _ _ => by kernel_rfl
  have K := Lib.hid (gvg_giv_f l o t z hl)
  clear hl
  go_enter Tryd.func30, Tryd.ntmps30
  go_wp2_with fail
  refine (K.out _).mono ?_
  rintro e w1 ⟨rfl, b1⟩
  go_wp2
  go_ret
  exact ⟨rfl, b1⟩
set_option maxRecDepth 100000 in
set_option maxHeartbeats 2000000 in
theorem gives_opd (l : Value) (o : Nat) (u : Value) (t : TypeId) (z : Value) (hl : l = .iface t z) (w : World) :
    Calls Tryd.prog 30 #[.iface 86 (.agg #[l, .int .u32 (o : Nat), u])] w fun e w' => e = .returned (.int .u32 (o : Nat)) ∧ Below w.heap.size w w' := by
  have hmf := mkf
  have ha : ∀ w, (Instr.typeAssert (.iface 86 (.agg #[l, .int .u32 (o : Nat), u])) 54 81 true).run Tryd.prog w = .ok (.tuple #[.iface 86 (.agg #[l, .int .u32 (o : Nat), u]), .bool true]) w := fun w => run_typeAssert_hasB Tryd.underlying81 (by kernel_rfl) _ _ w
  have hmm : ∀ w, (method 224 86 (.agg #[l, .int .u32 (o : Nat), u]) "conduit/shown.gives").run Tryd.prog w = .ok (84, .agg #[l, .int .u32 (o : Nat)]) w := fun _ => by kernel_rfl
  have hcf : ∀ (args : Array Value) w, (callFunc 84 args).run Tryd.prog w = .ok (.enter 84 args) w := fun _ _ => by kernel_rfl
  have K := Lib.hid (gvg_giv_f l o t z hl)
  clear hl
  go_enter Tryd.func30, Tryd.ntmps30
  go_wp2_with fail
  refine (K.out _).mono ?_
  rintro e w1 ⟨rfl, b1⟩
  go_wp2
  go_ret
  exact ⟨rfl, b1⟩
theorem gives_clo (u : Value) (x : Wr) : ∀ w, Calls Tryd.prog 30 #[clo u x] w fun e w' => e = .returned (.int .u32 (own x : Nat)) ∧ Below w.heap.size w w' := by
  obtain ⟨op, cp, on⟩ := x
  by_cases q1 : op = 5 ∨ op = 6 ∨ op = 10 ∨ op = 11
  · rw [show clo u ⟨op, cp, on⟩ = sgl u by simp only [clo]; rw [if_pos q1], show own ⟨op, cp, on⟩ = 0 by simp only [own]; repeat' (rw [if_neg (by omega)])]
    exact fun w => gives_no _ (fun w => run_typeAssert_lacksB Tryd.underlying81 (by kernel_rfl) (by kernel_rfl) _ _ w) w
  by_cases q2 : op = 2
  · subst q2; exact fun w => gives_no _ (fun w => run_typeAssert_lacksB Tryd.underlying81 (by kernel_rfl) (by kernel_rfl) _ _ w) w
  by_cases q3 : op = 3
  · subst q3; exact fun w => gives_no _ (fun w => run_typeAssert_lacksB Tryd.underlying81 (by kernel_rfl) (by kernel_rfl) _ _ w) w
  by_cases q4 : op = 4
  · subst q4; exact gives_gvg _ _ _ _ rfl
  by_cases q7 : op = 7
  · subst q7; exact gives_gvg _ _ _ _ rfl
  by_cases q8 : op = 8
  · subst q8; exact gives_gvg _ _ _ _ rfl
  by_cases q9 : op = 9
  · subst q9; exact gives_gvg _ _ _ _ rfl
  by_cases q12 : op = 12
  · subst q12; exact gives_gvg _ _ _ _ rfl
  rw [show clo u ⟨op, cp, on⟩ = thr u by simp only [clo]; repeat' (rw [if_neg (by omega)]), show own ⟨op, cp, on⟩ = 0 by simp only [own]; repeat' (rw [if_neg (by omega)])]
  exact fun w => gives_no _ (fun w => run_typeAssert_lacksB Tryd.underlying81 (by kernel_rfl) (by kernel_rfl) _ _ w) w
theorem clo_ifc (u : Value) (x : Wr) : ∃ t z, clo u x = .iface t z := by
  unfold clo; repeat' split
  all_goals exact ⟨_, _, rfl⟩
theorem aro_ifc (u : Value) (x : Wr) : ∃ t z, aro u x = .iface t z := by
  unfold aro; split
  · exact ⟨_, _, rfl⟩
  · exact clo_ifc u x
theorem lev_ifc (c : Nat) (ws : List Wr) : ∃ t z, lev c ws = .iface t z := by
  cases ws with
  | nil => exact ⟨_, _, rfl⟩
  | cons x r => exact aro_ifc _ x
theorem gives_aro (u : Value) (x : Wr) : ∀ w, Calls Tryd.prog 30 #[aro u x] w fun e w' => e = .returned (.int .u32 (giv x : Nat)) ∧ Below w.heap.size w w' := by
  unfold aro giv
  obtain ⟨t, z, e⟩ := clo_ifc u x
  split
  · exact gives_opd _ _ _ t z e
  · exact gives_clo u x

/-! ### closed -/
set_option maxRecDepth 100000 in
set_option maxHeartbeats 2000000 in
theorem closed1 (t : TypeId) (z : Value) (cp : Nat) (on : Bool) (A B w0 w1 : Int) (wa : Option Addr) (wl wc : Nat) (w : World) :
    Calls Tryd.prog 49 #[.iface t z, .agg (wcs ⟨1, cp, on⟩ A B w0 w1 wa wl wc)] w fun e w' => e = .returned (clo (.iface t z) ⟨1, cp, on⟩) ∧ Below w.heap.size w w' := by
  unfold wcs
  go_enter Tryd.func49, Tryd.ntmps49
  go_wp2
  go_ret
  exact ⟨rfl, by first | exact below1 _ _ | exact (below1 _ _).trans ((below1 _ _).mono (by simp)) | exact Below.refl _ _⟩
set_option maxRecDepth 100000 in
set_option maxHeartbeats 2000000 in
theorem closed2 (t : TypeId) (z : Value) (cp : Nat) (on : Bool) (A B w0 w1 : Int) (wa : Option Addr) (wl wc : Nat) (w : World) :
    Calls Tryd.prog 49 #[.iface t z, .agg (wcs ⟨2, cp, on⟩ A B w0 w1 wa wl wc)] w fun e w' => e = .returned (clo (.iface t z) ⟨2, cp, on⟩) ∧ Below w.heap.size w w' := by
  unfold wcs
  go_enter Tryd.func49, Tryd.ntmps49
  go_wp2
  go_ret
  exact ⟨rfl, by first | exact below1 _ _ | exact (below1 _ _).trans ((below1 _ _).mono (by simp)) | exact Below.refl _ _⟩
set_option maxRecDepth 100000 in
set_option maxHeartbeats 2000000 in
theorem closed3 (t : TypeId) (z : Value) (cp : Nat) (on : Bool) (A B w0 w1 : Int) (wa : Option Addr) (wl wc : Nat) (w : World) :
    Calls Tryd.prog 49 #[.iface t z, .agg (wcs ⟨3, cp, on⟩ A B w0 w1 wa wl wc)] w fun e w' => e = .returned (clo (.iface t z) ⟨3, cp, on⟩) ∧ Below w.heap.size w w' := by
  unfold wcs
  go_enter Tryd.func49, Tryd.ntmps49
  go_wp2
  go_ret
  exact ⟨rfl, by first | exact below1 _ _ | exact (below1 _ _).trans ((below1 _ _).mono (by simp)) | exact Below.refl _ _⟩
set_option maxRecDepth 100000 in
set_option maxHeartbeats 2000000 in
theorem closed4 (t : TypeId) (z : Value) (cp : Nat) (on : Bool) (A B w0 w1 : Int) (wa : Option Addr) (wl wc : Nat) (w : World) :
    Calls Tryd.prog 49 #[.iface t z, .agg (wcs ⟨4, cp, on⟩ A B w0 w1 wa wl wc)] w fun e w' => e = .returned (clo (.iface t z) ⟨4, cp, on⟩) ∧ Below w.heap.size w w' := by
  unfold wcs
  go_enter Tryd.func49, Tryd.ntmps49
  go_wp2
  go_ret
  exact ⟨rfl, by first | exact below1 _ _ | exact (below1 _ _).trans ((below1 _ _).mono (by simp)) | exact Below.refl _ _⟩
set_option maxRecDepth 100000 in
set_option maxHeartbeats 2000000 in
theorem closed5 (t : TypeId) (z : Value) (cp : Nat) (on : Bool) (A B w0 w1 : Int) (wa : Option Addr) (wl wc : Nat) (w : World) :
    Calls Tryd.prog 49 #[.iface t z, .agg (wcs ⟨5, cp, on⟩ A B w0 w1 wa wl wc)] w fun e w' => e = .returned (clo (.iface t z) ⟨5, cp, on⟩) ∧ Below w.heap.size w w' := by
  unfold wcs
  go_enter Tryd.func49, Tryd.ntmps49
  go_wp2
  go_ret
  exact ⟨rfl, by first | exact below1 _ _ | exact (below1 _ _).trans ((below1 _ _).mono (by simp)) | exact Below.refl _ _⟩
set_option maxRecDepth 100000 in
set_option maxHeartbeats 2000000 in
theorem closed6 (t : TypeId) (z : Value) (cp : Nat) (on : Bool) (A B w0 w1 : Int) (wa : Option Addr) (wl wc : Nat) (w : World) :
    Calls Tryd.prog 49 #[.iface t z, .agg (wcs ⟨6, cp, on⟩ A B w0 w1 wa wl wc)] w fun e w' => e = .returned (clo (.iface t z) ⟨6, cp, on⟩) ∧ Below w.heap.size w w' := by
  unfold wcs
  go_enter Tryd.func49, Tryd.ntmps49
  go_wp2
  go_ret
  exact ⟨rfl, by first | exact below1 _ _ | exact (below1 _ _).trans ((below1 _ _).mono (by simp)) | exact Below.refl _ _⟩
set_option maxRecDepth 100000 in
set_option maxHeartbeats 2000000 in
theorem closed7 (t : TypeId) (z : Value) (cp : Nat) (on : Bool) (A B w0 w1 : Int) (wa : Option Addr) (wl wc : Nat) (w : World) :
    Calls Tryd.prog 49 #[.iface t z, .agg (wcs ⟨7, cp, on⟩ A B w0 w1 wa wl wc)] w fun e w' => e = .returned (clo (.iface t z) ⟨7, cp, on⟩) ∧ Below w.heap.size w w' := by
  unfold wcs
  go_enter Tryd.func49, Tryd.ntmps49
  go_wp2
  go_ret
  exact ⟨rfl, by first | exact below1 _ _ | exact (below1 _ _).trans ((below1 _ _).mono (by simp)) | exact Below.refl _ _⟩
set_option maxRecDepth 100000 in
set_option maxHeartbeats 2000000 in
theorem closed8 (t : TypeId) (z : Value) (cp : Nat) (on : Bool) (A B w0 w1 : Int) (wa : Option Addr) (wl wc : Nat) (w : World) :
    Calls Tryd.prog 49 #[.iface t z, .agg (wcs ⟨8, cp, on⟩ A B w0 w1 wa wl wc)] w fun e w' => e = .returned (clo (.iface t z) ⟨8, cp, on⟩) ∧ Below w.heap.size w w' := by
  unfold wcs
  go_enter Tryd.func49, Tryd.ntmps49
  go_wp2
  go_ret
  exact ⟨rfl, by first | exact below1 _ _ | exact (below1 _ _).trans ((below1 _ _).mono (by simp)) | exact Below.refl _ _⟩
set_option maxRecDepth 100000 in
set_option maxHeartbeats 2000000 in
theorem closed9 (t : TypeId) (z : Value) (cp : Nat) (on : Bool) (A B w0 w1 : Int) (wa : Option Addr) (wl wc : Nat) (w : World) :
    Calls Tryd.prog 49 #[.iface t z, .agg (wcs ⟨9, cp, on⟩ A B w0 w1 wa wl wc)] w fun e w' => e = .returned (clo (.iface t z) ⟨9, cp, on⟩) ∧ Below w.heap.size w w' := by
  unfold wcs
  go_enter Tryd.func49, Tryd.ntmps49
  go_wp2
  go_ret
  exact ⟨rfl, by first | exact below1 _ _ | exact (below1 _ _).trans ((below1 _ _).mono (by simp)) | exact Below.refl _ _⟩
set_option maxRecDepth 100000 in
set_option maxHeartbeats 2000000 in
theorem closed10 (t : TypeId) (z : Value) (cp : Nat) (on : Bool) (A B w0 w1 : Int) (wa : Option Addr) (wl wc : Nat) (w : World) :
    Calls Tryd.prog 49 #[.iface t z, .agg (wcs ⟨10, cp, on⟩ A B w0 w1 wa wl wc)] w fun e w' => e = .returned (clo (.iface t z) ⟨10, cp, on⟩) ∧ Below w.heap.size w w' := by
  unfold wcs
  go_enter Tryd.func49, Tryd.ntmps49
  go_wp2
  go_ret
  exact ⟨rfl, by first | exact below1 _ _ | exact (below1 _ _).trans ((below1 _ _).mono (by simp)) | exact Below.refl _ _⟩
set_option maxRecDepth 100000 in
set_option maxHeartbeats 2000000 in
theorem closed11 (t : TypeId) (z : Value) (cp : Nat) (on : Bool) (A B w0 w1 : Int) (wa : Option Addr) (wl wc : Nat) (w : World) :
    Calls Tryd.prog 49 #[.iface t z, .agg (wcs ⟨11, cp, on⟩ A B w0 w1 wa wl wc)] w fun e w' => e = .returned (clo (.iface t z) ⟨11, cp, on⟩) ∧ Below w.heap.size w w' := by
  unfold wcs
  go_enter Tryd.func49, Tryd.ntmps49
  go_wp2
  go_ret
  exact ⟨rfl, by first | exact below1 _ _ | exact (below1 _ _).trans ((below1 _ _).mono (by simp)) | exact Below.refl _ _⟩
set_option maxRecDepth 100000 in
set_option maxHeartbeats 2000000 in
theorem closed12 (t : TypeId) (z : Value) (cp : Nat) (on : Bool) (A B w0 w1 : Int) (wa : Option Addr) (wl wc : Nat) (w : World) :
    Calls Tryd.prog 49 #[.iface t z, .agg (wcs ⟨12, cp, on⟩ A B w0 w1 wa wl wc)] w fun e w' => e = .returned (clo (.iface t z) ⟨12, cp, on⟩) ∧ Below w.heap.size w w' := by
  unfold wcs
  go_enter Tryd.func49, Tryd.ntmps49
  go_wp2
  go_ret
  exact ⟨rfl, by first | exact below1 _ _ | exact (below1 _ _).trans ((below1 _ _).mono (by simp)) | exact Below.refl _ _⟩
theorem closed_any (t : TypeId) (z : Value) (x : Wr) (hx : okr x) (A B w0 w1 : Int) (wa : Option Addr) (wl wc : Nat) (w : World) :
    Calls Tryd.prog 49 #[.iface t z, .agg (wcs x A B w0 w1 wa wl wc)] w fun e w' => e = .returned (clo (.iface t z) x) ∧ Below w.heap.size w w' := by
  obtain ⟨op, cp, on⟩ := x
  obtain ⟨h1, h2, -⟩ := hx
  simp only at h1 h2
  have : op = 1 ∨ op = 2 ∨ op = 3 ∨ op = 4 ∨ op = 5 ∨ op = 6 ∨ op = 7 ∨ op = 8 ∨ op = 9 ∨ op = 10 ∨ op = 11 ∨ op = 12 := by omega
  rcases this with rfl | rfl | rfl | rfl | rfl | rfl | rfl | rfl | rfl | rfl | rfl | rfl
  · exact closed1 t z cp on A B w0 w1 wa wl wc w
  · exact closed2 t z cp on A B w0 w1 wa wl wc w
  · exact closed3 t z cp on A B w0 w1 wa wl wc w
  · exact closed4 t z cp on A B w0 w1 wa wl wc w
  · exact closed5 t z cp on A B w0 w1 wa wl wc w
  · exact closed6 t z cp on A B w0 w1 wa wl wc w
  · exact closed7 t z cp on A B w0 w1 wa wl wc w
  · exact closed8 t z cp on A B w0 w1 wa wl wc w
  · exact closed9 t z cp on A B w0 w1 wa wl wc w
  · exact closed10 t z cp on A B w0 w1 wa wl wc w
  · exact closed11 t z cp on A B w0 w1 wa wl wc w
  · exact closed12 t z cp on A B w0 w1 wa wl wc w
end Go.Proofs.YtcbplamomhimiaaDoor
