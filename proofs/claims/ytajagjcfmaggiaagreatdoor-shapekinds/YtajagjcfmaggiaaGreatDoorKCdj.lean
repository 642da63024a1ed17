/- The package's table of maps; no condition. -/
import Derived.Test.YtajagjcfmaggiaaGreatDoorKCdi
namespace Go.Proofs.YtajagjcfmaggiaaGreatDoor
open Go.RowKit

/-- The function of a map's kinds. -/
def kfn (op : Int) : Nat := if op = 1 then 52 else if op = 2 then 54 else if op = 3 then 56 else if op = 4 then 58 else if op = 5 then 60 else if op = 6 then 62 else if op = 7 then 64 else if op = 8 then 66 else 50
theorem tbl_m (op : Int) (h0 : 0 ≤ op) (h9 : op < 9) : ([.func (.func 49) #[] #[], .func (.func 50) #[] #[], .func (.func 51) #[] #[], .func (.func 52) #[] #[], .func (.func 53) #[] #[], .func (.func 54) #[] #[], .func (.func 55) #[] #[], .func (.func 56) #[] #[], .func (.func 57) #[] #[], .func (.func 58) #[] #[], .func (.func 59) #[] #[], .func (.func 60) #[] #[], .func (.func 61) #[] #[], .func (.func 62) #[] #[], .func (.func 63) #[] #[], .func (.func 64) #[] #[], .func (.func 65) #[] #[], .func (.func 66) #[] #[]] : List Value)[op.toNat * 2]? = some (.func (.func (mfn op)) #[] #[]) ∧ ([.func (.func 49) #[] #[], .func (.func 50) #[] #[], .func (.func 51) #[] #[], .func (.func 52) #[] #[], .func (.func 53) #[] #[], .func (.func 54) #[] #[], .func (.func 55) #[] #[], .func (.func 56) #[] #[], .func (.func 57) #[] #[], .func (.func 58) #[] #[], .func (.func 59) #[] #[], .func (.func 60) #[] #[], .func (.func 61) #[] #[], .func (.func 62) #[] #[], .func (.func 63) #[] #[], .func (.func 64) #[] #[], .func (.func 65) #[] #[], .func (.func 66) #[] #[]] : List Value)[op.toNat * 2 + 1]? = some (.func (.func (kfn op)) #[] #[]) := by
  have : op = 0 ∨ op = 1 ∨ op = 2 ∨ op = 3 ∨ op = 4 ∨ op = 5 ∨ op = 6 ∨ op = 7 ∨ op = 8 := by omega
  rcases this with rfl | rfl | rfl | rfl | rfl | rfl | rfl | rfl | rfl <;> exact ⟨rfl, rfl⟩

set_option maxRecDepth 100000 in
set_option maxHeartbeats 1000000 in
theorem mo_in (op : Int) (h0 : 0 ≤ op) (h9 : op < 9) (w : World) : Calls Tryz.prog 35 #[.int .i64 op] w fun e w' => e = .returned (.agg #[.func (.func (mfn op)) #[] #[], .func (.func (kfn op)) #[] #[]]) ∧ Below w.heap.size w w' := by
  have hsf : ∀ (a : Addr) (f : Fn) (fs cs : Array Value) (m : Mode) (w : World), (store a (.func f fs cs) m).run Tryz.prog w = stored Tryz.prog w a (.func f fs cs) m := fun a f fs cs m w => run_store Tryz.prog w a _ m rfl
  obtain ⟨hL0, hL1⟩ := tbl_m op h0 h9
  have g0 : decide (op < 0) = false := decide_eq_false (by omega)
  have g9 : decide (9 ≤ op) = false := decide_eq_false (by omega)
  go_enter Tryz.func35, Tryz.ntmps35
  go_wp2
  exact bodyPost_ret (v := .agg #[.func (.func (mfn op)) #[] #[], .func (.func (kfn op)) #[] #[]]) (by simp [results, Tryz.results35, go_sem]) rfl ⟨rfl, below2 w _ _⟩

set_option maxRecDepth 100000 in
set_option maxHeartbeats 1000000 in
theorem mo_lo (op : Int) (h : decide (op < 0) = true) (w : World) : Calls Tryz.prog 35 #[.int .i64 op] w fun e w' => e = .returned (.agg #[.func (.func 49) #[] #[], .func (.func 50) #[] #[]]) ∧ Below w.heap.size w w' := by
  have hsf : ∀ (a : Addr) (f : Fn) (fs cs : Array Value) (m : Mode) (w : World), (store a (.func f fs cs) m).run Tryz.prog w = stored Tryz.prog w a (.func f fs cs) m := fun a f fs cs m w => run_store Tryz.prog w a _ m rfl
  go_enter Tryz.func35, Tryz.ntmps35
  go_wp2
  exact bodyPost_ret (v := .agg #[.func (.func 49) #[] #[], .func (.func 50) #[] #[]]) (by simp [results, Tryz.results35, go_sem]) rfl ⟨rfl, below2 w _ _⟩

set_option maxRecDepth 100000 in
set_option maxHeartbeats 1000000 in
theorem mo_hi (op : Int) (h : decide (op < 0) = false) (h9 : decide (9 ≤ op) = true) (w : World) : Calls Tryz.prog 35 #[.int .i64 op] w fun e w' => e = .returned (.agg #[.func (.func 49) #[] #[], .func (.func 50) #[] #[]]) ∧ Below w.heap.size w w' := by
  have hsf : ∀ (a : Addr) (f : Fn) (fs cs : Array Value) (m : Mode) (w : World), (store a (.func f fs cs) m).run Tryz.prog w = stored Tryz.prog w a (.func f fs cs) m := fun a f fs cs m w => run_store Tryz.prog w a _ m rfl
  go_enter Tryz.func35, Tryz.ntmps35
  go_wp2
  exact bodyPost_ret (v := .agg #[.func (.func 49) #[] #[], .func (.func 50) #[] #[]]) (by simp [results, Tryz.results35, go_sem]) rfl ⟨rfl, below2 w _ _⟩

theorem mappingOf_any (op : Int) (w : World) : Calls Tryz.prog 35 #[.int .i64 op] w fun e w' => e = .returned (.agg #[.func (.func (mfn op)) #[] #[], .func (.func (kfn op)) #[] #[]]) ∧ Below w.heap.size w w' := by
  by_cases h0 : op < 0
  · have e1 : mfn op = 49 := by unfold mfn; rw [if_neg (by omega), if_neg (by omega), if_neg (by omega), if_neg (by omega), if_neg (by omega), if_neg (by omega), if_neg (by omega), if_neg (by omega)]
    have e2 : kfn op = 50 := by unfold kfn; rw [if_neg (by omega), if_neg (by omega), if_neg (by omega), if_neg (by omega), if_neg (by omega), if_neg (by omega), if_neg (by omega), if_neg (by omega)]
    rw [e1, e2]
    exact mo_lo op (decide_eq_true h0) w
  by_cases h9 : 9 ≤ op
  · have e1 : mfn op = 49 := by unfold mfn; rw [if_neg (by omega), if_neg (by omega), if_neg (by omega), if_neg (by omega), if_neg (by omega), if_neg (by omega), if_neg (by omega), if_neg (by omega)]
    have e2 : kfn op = 50 := by unfold kfn; rw [if_neg (by omega), if_neg (by omega), if_neg (by omega), if_neg (by omega), if_neg (by omega), if_neg (by omega), if_neg (by omega), if_neg (by omega)]
    rw [e1, e2]
    exact mo_hi op (decide_eq_false h0) (decide_eq_true h9) w
  · exact mo_in op (by omega) (by omega) w
theorem mfn_cases (op : Int) : mfn op = 51 ∨ mfn op = 53 ∨ mfn op = 55 ∨ mfn op = 57 ∨ mfn op = 59 ∨ mfn op = 61 ∨ mfn op = 63 ∨ mfn op = 65 ∨ mfn op = 49 := by
  unfold mfn
  repeat' split
  all_goals simp
theorem kfn_cases (op : Int) : kfn op = 52 ∨ kfn op = 54 ∨ kfn op = 56 ∨ kfn op = 58 ∨ kfn op = 60 ∨ kfn op = 62 ∨ kfn op = 64 ∨ kfn op = 66 ∨ kfn op = 50 := by
  unfold kfn
  repeat' split
  all_goals simp
theorem mcall (op : Int) (args : Array Value) (w : World) : (callFunc (mfn op) args).run Tryz.prog w = .ok (.enter (mfn op) args) w := by
  rcases mfn_cases op with h | h | h | h | h | h | h | h | h <;> rw [h] <;> kernel_rfl
theorem kcall (op : Int) (args : Array Value) (w : World) : (callFunc (kfn op) args).run Tryz.prog w = .ok (.enter (kfn op) args) w := by
  rcases kfn_cases op with h | h | h | h | h | h | h | h | h <;> rw [h] <;> kernel_rfl
end Go.Proofs.YtajagjcfmaggiaaGreatDoor
