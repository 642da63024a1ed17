/- The package's Has and the document's: both answer the table's answer at every two numbers; no condition. -/
import Derived.Test.YtoagofdmbapfeaaGreatDoorAwake
namespace Go.Proofs.YtoagofdmbapfeaaGreatDoor
open Go.RowKit

def refHas (k m : Int) : Bool :=
  if m = 0 then k == 4 || k == 5 || k == 7 || k == 8 || k == 9 || k == 11 || k == 12
  else if m = 1 then k == 5 || k == 2 || k == 10
  else if m = 2 then k == 10 || k == 11 || k == 12
  else if m = 3 then k == 11 || k == 12
  else if m = 4 then k == 1 || k == 2 || k == 3 || k == 4 || k == 5
  else if m = 5 then k == 1 || k == 3
  else false


theorem ret_true {b : Bool} (h : b = true) : Ending.returned (.bool true) = .returned (.bool b) := by rw [h]

set_option maxHeartbeats 1000000 in
theorem refHas_any (k m : Int) (w : World) :
    Calls Tryz.prog 6 #[.int .i64 k, .int .i64 m] w fun e w' => e = .returned (.bool (refHas k m)) ∧ w' = w := by
  by_cases h0 : m = 0
  · subst h0
    show Calls Tryz.prog 6 _ w fun e w' => e = .returned (.bool (k == 4 || k == 5 || k == 7 || k == 8 || k == 9 || k == 11 || k == 12)) ∧ w' = w
    go_enter Tryz.func6, Tryz.ntmps6
    go_wp2
    all_goals (go_ret; first | exact ⟨rfl, rfl⟩ | exact ⟨ret_true (by simp_all), rfl⟩)
  by_cases h1 : m = 1
  · subst h1
    show Calls Tryz.prog 6 _ w fun e w' => e = .returned (.bool (k == 5 || k == 2 || k == 10)) ∧ w' = w
    clear h0
    go_enter Tryz.func6, Tryz.ntmps6
    go_wp2
    all_goals (go_ret; first | exact ⟨rfl, rfl⟩ | exact ⟨ret_true (by simp_all), rfl⟩)
  by_cases h2 : m = 2
  · subst h2
    show Calls Tryz.prog 6 _ w fun e w' => e = .returned (.bool (k == 10 || k == 11 || k == 12)) ∧ w' = w
    clear h0 h1
    go_enter Tryz.func6, Tryz.ntmps6
    go_wp2
    all_goals (go_ret; first | exact ⟨rfl, rfl⟩ | exact ⟨ret_true (by simp_all), rfl⟩)
  by_cases h3 : m = 3
  · subst h3
    show Calls Tryz.prog 6 _ w fun e w' => e = .returned (.bool (k == 11 || k == 12)) ∧ w' = w
    clear h0 h1 h2
    go_enter Tryz.func6, Tryz.ntmps6
    go_wp2
    all_goals (go_ret; first | exact ⟨rfl, rfl⟩ | exact ⟨ret_true (by simp_all), rfl⟩)
  by_cases h4 : m = 4
  · subst h4
    show Calls Tryz.prog 6 _ w fun e w' => e = .returned (.bool (k == 1 || k == 2 || k == 3 || k == 4 || k == 5)) ∧ w' = w
    clear h0 h1 h2 h3
    go_enter Tryz.func6, Tryz.ntmps6
    go_wp2
    all_goals (go_ret; first | exact ⟨rfl, rfl⟩ | exact ⟨ret_true (by simp_all), rfl⟩)
  by_cases h5 : m = 5
  · subst h5
    show Calls Tryz.prog 6 _ w fun e w' => e = .returned (.bool (k == 1 || k == 3)) ∧ w' = w
    clear h0 h1 h2 h3 h4
    go_enter Tryz.func6, Tryz.ntmps6
    go_wp2
    all_goals (go_ret; first | exact ⟨rfl, rfl⟩ | exact ⟨ret_true (by simp_all), rfl⟩)
  have hf : refHas k m = false := by unfold refHas; simp [h0, h1, h2, h3, h4, h5]
  rw [hf]; clear hf
  have g0 : (m == 0) = false := by simpa using h0
  have g1 : (m == 1) = false := by simpa using h1
  have g2 : (m == 2) = false := by simpa using h2
  have g3 : (m == 3) = false := by simpa using h3
  have g4 : (m == 4) = false := by simpa using h4
  have g5 : (m == 5) = false := by simpa using h5
  clear h0 h1 h2 h3 h4 h5
  go_enter Tryz.func6, Tryz.ntmps6
  go_wp2
  go_ret
  exact ⟨rfl, rfl⟩

/-- 'answers': the six assertions' answers, by the method. -/
def picked (m : Int) (b0 b1 b2 b3 b4 b5 : Bool) : Bool :=
  if m = 0 then b0 else if m = 1 then b1 else if m = 2 then b2 else if m = 3 then b3 else if m = 4 then b4 else if m = 5 then b5 else false

set_option maxHeartbeats 400000 in
theorem answers_any (v : Value) (m : Int) (b0 b1 b2 b3 b4 b5 : Bool) (x0 x1 x2 x3 x4 x5 : Value)
    (h0 : ∀ w, (Instr.typeAssert v 20 55 true).run Tryz.prog w = .ok (.tuple #[x0, .bool b0]) w)
    (h1 : ∀ w, (Instr.typeAssert v 20 59 true).run Tryz.prog w = .ok (.tuple #[x1, .bool b1]) w)
    (h2 : ∀ w, (Instr.typeAssert v 20 64 true).run Tryz.prog w = .ok (.tuple #[x2, .bool b2]) w)
    (h3 : ∀ w, (Instr.typeAssert v 20 67 true).run Tryz.prog w = .ok (.tuple #[x3, .bool b3]) w)
    (h4 : ∀ w, (Instr.typeAssert v 20 73 true).run Tryz.prog w = .ok (.tuple #[x4, .bool b4]) w)
    (h5 : ∀ w, (Instr.typeAssert v 20 79 true).run Tryz.prog w = .ok (.tuple #[x5, .bool b5]) w) (w : World) :
    Calls Tryz.prog 22 #[v, .int .i64 m] w fun e w' => e = .returned (.bool (picked m b0 b1 b2 b3 b4 b5)) ∧ w' = w := by
  by_cases c0 : m = 0
  · subst c0
    go_enter Tryz.func22, Tryz.ntmps22
    go_wp2
    go_ret; exact ⟨rfl, rfl⟩
  by_cases c1 : m = 1
  · subst c1
    clear c0
    go_enter Tryz.func22, Tryz.ntmps22
    go_wp2
    go_ret; exact ⟨rfl, rfl⟩
  by_cases c2 : m = 2
  · subst c2
    clear c0 c1
    go_enter Tryz.func22, Tryz.ntmps22
    go_wp2
    go_ret; exact ⟨rfl, rfl⟩
  by_cases c3 : m = 3
  · subst c3
    clear c0 c1 c2
    go_enter Tryz.func22, Tryz.ntmps22
    go_wp2
    go_ret; exact ⟨rfl, rfl⟩
  by_cases c4 : m = 4
  · subst c4
    clear c0 c1 c2 c3
    go_enter Tryz.func22, Tryz.ntmps22
    go_wp2
    go_ret; exact ⟨rfl, rfl⟩
  by_cases c5 : m = 5
  · subst c5
    clear c0 c1 c2 c3 c4
    go_enter Tryz.func22, Tryz.ntmps22
    go_wp2
    go_ret; exact ⟨rfl, rfl⟩
  have hf : picked m b0 b1 b2 b3 b4 b5 = false := by unfold picked; simp [c0, c1, c2, c3, c4, c5]
  rw [hf]; clear hf
  have g0 : (m == 0) = false := by simpa using c0
  have g1 : (m == 1) = false := by simpa using c1
  have g2 : (m == 2) = false := by simpa using c2
  have g3 : (m == 3) = false := by simpa using c3
  have g4 : (m == 4) = false := by simpa using c4
  have g5 : (m == 5) = false := by simpa using c5
  clear c0 c1 c2 c3 c4 c5
  go_enter Tryz.func22, Tryz.ntmps22
  go_wp2
  go_ret
  exact ⟨rfl, rfl⟩
theorem ans96 (v : Value) (m : Int) (w : World) : Calls Tryz.prog 22 #[.iface 96 v, .int .i64 m] w fun e w' => e = .returned (.bool (picked m false false false false true true)) ∧ w' = w :=
  answers_any (.iface 96 v) m false false false false true true .nilIface .nilIface .nilIface .nilIface (.iface 96 v) (.iface 96 v)
    (fun _ => run_assert_no Tryz.underlying55 (i := (Tryz.prog.info? 96).get (by kernel_rfl)) (Option.some_get _).symm (by kernel_rfl) (by kernel_rfl))
    (fun _ => run_assert_no Tryz.underlying59 (i := (Tryz.prog.info? 96).get (by kernel_rfl)) (Option.some_get _).symm (by kernel_rfl) (by kernel_rfl))
    (fun _ => run_assert_no Tryz.underlying64 (i := (Tryz.prog.info? 96).get (by kernel_rfl)) (Option.some_get _).symm (by kernel_rfl) (by kernel_rfl))
    (fun _ => run_assert_no Tryz.underlying67 (i := (Tryz.prog.info? 96).get (by kernel_rfl)) (Option.some_get _).symm (by kernel_rfl) (by kernel_rfl))
    (fun _ => by kernel_rfl)
    (fun _ => by kernel_rfl) w
theorem ans97 (v : Value) (m : Int) (w : World) : Calls Tryz.prog 22 #[.iface 97 v, .int .i64 m] w fun e w' => e = .returned (.bool (picked m false true false false true false)) ∧ w' = w :=
  answers_any (.iface 97 v) m false true false false true false .nilIface (.iface 97 v) .nilIface .nilIface (.iface 97 v) .nilIface
    (fun _ => run_assert_no Tryz.underlying55 (i := (Tryz.prog.info? 97).get (by kernel_rfl)) (Option.some_get _).symm (by kernel_rfl) (by kernel_rfl))
    (fun _ => by kernel_rfl)
    (fun _ => run_assert_no Tryz.underlying64 (i := (Tryz.prog.info? 97).get (by kernel_rfl)) (Option.some_get _).symm (by kernel_rfl) (by kernel_rfl))
    (fun _ => run_assert_no Tryz.underlying67 (i := (Tryz.prog.info? 97).get (by kernel_rfl)) (Option.some_get _).symm (by kernel_rfl) (by kernel_rfl))
    (fun _ => by kernel_rfl)
    (fun _ => run_assert_no Tryz.underlying79 (i := (Tryz.prog.info? 97).get (by kernel_rfl)) (Option.some_get _).symm (by kernel_rfl) (by kernel_rfl)) w
theorem ans98 (v : Value) (m : Int) (w : World) : Calls Tryz.prog 22 #[.iface 98 v, .int .i64 m] w fun e w' => e = .returned (.bool (picked m false false false false true true)) ∧ w' = w :=
  answers_any (.iface 98 v) m false false false false true true .nilIface .nilIface .nilIface .nilIface (.iface 98 v) (.iface 98 v)
    (fun _ => run_assert_no Tryz.underlying55 (i := (Tryz.prog.info? 98).get (by kernel_rfl)) (Option.some_get _).symm (by kernel_rfl) (by kernel_rfl))
    (fun _ => run_assert_no Tryz.underlying59 (i := (Tryz.prog.info? 98).get (by kernel_rfl)) (Option.some_get _).symm (by kernel_rfl) (by kernel_rfl))
    (fun _ => run_assert_no Tryz.underlying64 (i := (Tryz.prog.info? 98).get (by kernel_rfl)) (Option.some_get _).symm (by kernel_rfl) (by kernel_rfl))
    (fun _ => run_assert_no Tryz.underlying67 (i := (Tryz.prog.info? 98).get (by kernel_rfl)) (Option.some_get _).symm (by kernel_rfl) (by kernel_rfl))
    (fun _ => by kernel_rfl)
    (fun _ => by kernel_rfl) w
theorem ans99 (v : Value) (m : Int) (w : World) : Calls Tryz.prog 22 #[.iface 99 v, .int .i64 m] w fun e w' => e = .returned (.bool (picked m true false false false true false)) ∧ w' = w :=
  answers_any (.iface 99 v) m true false false false true false (.iface 99 v) .nilIface .nilIface .nilIface (.iface 99 v) .nilIface
    (fun _ => by kernel_rfl)
    (fun _ => run_assert_no Tryz.underlying59 (i := (Tryz.prog.info? 99).get (by kernel_rfl)) (Option.some_get _).symm (by kernel_rfl) (by kernel_rfl))
    (fun _ => run_assert_no Tryz.underlying64 (i := (Tryz.prog.info? 99).get (by kernel_rfl)) (Option.some_get _).symm (by kernel_rfl) (by kernel_rfl))
    (fun _ => run_assert_no Tryz.underlying67 (i := (Tryz.prog.info? 99).get (by kernel_rfl)) (Option.some_get _).symm (by kernel_rfl) (by kernel_rfl))
    (fun _ => by kernel_rfl)
    (fun _ => run_assert_no Tryz.underlying79 (i := (Tryz.prog.info? 99).get (by kernel_rfl)) (Option.some_get _).symm (by kernel_rfl) (by kernel_rfl)) w
theorem ans100 (v : Value) (m : Int) (w : World) : Calls Tryz.prog 22 #[.iface 100 v, .int .i64 m] w fun e w' => e = .returned (.bool (picked m true true false false true false)) ∧ w' = w :=
  answers_any (.iface 100 v) m true true false false true false (.iface 100 v) (.iface 100 v) .nilIface .nilIface (.iface 100 v) .nilIface
    (fun _ => by kernel_rfl)
    (fun _ => by kernel_rfl)
    (fun _ => run_assert_no Tryz.underlying64 (i := (Tryz.prog.info? 100).get (by kernel_rfl)) (Option.some_get _).symm (by kernel_rfl) (by kernel_rfl))
    (fun _ => run_assert_no Tryz.underlying67 (i := (Tryz.prog.info? 100).get (by kernel_rfl)) (Option.some_get _).symm (by kernel_rfl) (by kernel_rfl))
    (fun _ => by kernel_rfl)
    (fun _ => run_assert_no Tryz.underlying79 (i := (Tryz.prog.info? 100).get (by kernel_rfl)) (Option.some_get _).symm (by kernel_rfl) (by kernel_rfl)) w
theorem ans101 (v : Value) (m : Int) (w : World) : Calls Tryz.prog 22 #[.iface 101 v, .int .i64 m] w fun e w' => e = .returned (.bool (picked m false false false false false false)) ∧ w' = w :=
  answers_any (.iface 101 v) m false false false false false false .nilIface .nilIface .nilIface .nilIface .nilIface .nilIface
    (fun _ => run_assert_no Tryz.underlying55 (i := (Tryz.prog.info? 101).get (by kernel_rfl)) (Option.some_get _).symm (by kernel_rfl) (by kernel_rfl))
    (fun _ => run_assert_no Tryz.underlying59 (i := (Tryz.prog.info? 101).get (by kernel_rfl)) (Option.some_get _).symm (by kernel_rfl) (by kernel_rfl))
    (fun _ => run_assert_no Tryz.underlying64 (i := (Tryz.prog.info? 101).get (by kernel_rfl)) (Option.some_get _).symm (by kernel_rfl) (by kernel_rfl))
    (fun _ => run_assert_no Tryz.underlying67 (i := (Tryz.prog.info? 101).get (by kernel_rfl)) (Option.some_get _).symm (by kernel_rfl) (by kernel_rfl))
    (fun _ => run_assert_no Tryz.underlying73 (i := (Tryz.prog.info? 101).get (by kernel_rfl)) (Option.some_get _).symm (by kernel_rfl) (by kernel_rfl))
    (fun _ => run_assert_no Tryz.underlying79 (i := (Tryz.prog.info? 101).get (by kernel_rfl)) (Option.some_get _).symm (by kernel_rfl) (by kernel_rfl)) w
theorem ans103 (v : Value) (m : Int) (w : World) : Calls Tryz.prog 22 #[.iface 103 v, .int .i64 m] w fun e w' => e = .returned (.bool (picked m true false false false false false)) ∧ w' = w :=
  answers_any (.iface 103 v) m true false false false false false (.iface 103 v) .nilIface .nilIface .nilIface .nilIface .nilIface
    (fun _ => by kernel_rfl)
    (fun _ => run_assert_no Tryz.underlying59 (i := (Tryz.prog.info? 103).get (by kernel_rfl)) (Option.some_get _).symm (by kernel_rfl) (by kernel_rfl))
    (fun _ => run_assert_no Tryz.underlying64 (i := (Tryz.prog.info? 103).get (by kernel_rfl)) (Option.some_get _).symm (by kernel_rfl) (by kernel_rfl))
    (fun _ => run_assert_no Tryz.underlying67 (i := (Tryz.prog.info? 103).get (by kernel_rfl)) (Option.some_get _).symm (by kernel_rfl) (by kernel_rfl))
    (fun _ => run_assert_no Tryz.underlying73 (i := (Tryz.prog.info? 103).get (by kernel_rfl)) (Option.some_get _).symm (by kernel_rfl) (by kernel_rfl))
    (fun _ => run_assert_no Tryz.underlying79 (i := (Tryz.prog.info? 103).get (by kernel_rfl)) (Option.some_get _).symm (by kernel_rfl) (by kernel_rfl)) w
theorem ans105 (v : Value) (m : Int) (w : World) : Calls Tryz.prog 22 #[.iface 105 v, .int .i64 m] w fun e w' => e = .returned (.bool (picked m true false false false false false)) ∧ w' = w :=
  answers_any (.iface 105 v) m true false false false false false (.iface 105 v) .nilIface .nilIface .nilIface .nilIface .nilIface
    (fun _ => by kernel_rfl)
    (fun _ => run_assert_no Tryz.underlying59 (i := (Tryz.prog.info? 105).get (by kernel_rfl)) (Option.some_get _).symm (by kernel_rfl) (by kernel_rfl))
    (fun _ => run_assert_no Tryz.underlying64 (i := (Tryz.prog.info? 105).get (by kernel_rfl)) (Option.some_get _).symm (by kernel_rfl) (by kernel_rfl))
    (fun _ => run_assert_no Tryz.underlying67 (i := (Tryz.prog.info? 105).get (by kernel_rfl)) (Option.some_get _).symm (by kernel_rfl) (by kernel_rfl))
    (fun _ => run_assert_no Tryz.underlying73 (i := (Tryz.prog.info? 105).get (by kernel_rfl)) (Option.some_get _).symm (by kernel_rfl) (by kernel_rfl))
    (fun _ => run_assert_no Tryz.underlying79 (i := (Tryz.prog.info? 105).get (by kernel_rfl)) (Option.some_get _).symm (by kernel_rfl) (by kernel_rfl)) w
theorem ans108 (v : Value) (m : Int) (w : World) : Calls Tryz.prog 22 #[.iface 108 v, .int .i64 m] w fun e w' => e = .returned (.bool (picked m true false false false false false)) ∧ w' = w :=
  answers_any (.iface 108 v) m true false false false false false (.iface 108 v) .nilIface .nilIface .nilIface .nilIface .nilIface
    (fun _ => by kernel_rfl)
    (fun _ => run_assert_no Tryz.underlying59 (i := (Tryz.prog.info? 108).get (by kernel_rfl)) (Option.some_get _).symm (by kernel_rfl) (by kernel_rfl))
    (fun _ => run_assert_no Tryz.underlying64 (i := (Tryz.prog.info? 108).get (by kernel_rfl)) (Option.some_get _).symm (by kernel_rfl) (by kernel_rfl))
    (fun _ => run_assert_no Tryz.underlying67 (i := (Tryz.prog.info? 108).get (by kernel_rfl)) (Option.some_get _).symm (by kernel_rfl) (by kernel_rfl))
    (fun _ => run_assert_no Tryz.underlying73 (i := (Tryz.prog.info? 108).get (by kernel_rfl)) (Option.some_get _).symm (by kernel_rfl) (by kernel_rfl))
    (fun _ => run_assert_no Tryz.underlying79 (i := (Tryz.prog.info? 108).get (by kernel_rfl)) (Option.some_get _).symm (by kernel_rfl) (by kernel_rfl)) w
theorem ans110 (v : Value) (m : Int) (w : World) : Calls Tryz.prog 22 #[.iface 110 v, .int .i64 m] w fun e w' => e = .returned (.bool (picked m false true true false false false)) ∧ w' = w :=
  answers_any (.iface 110 v) m false true true false false false .nilIface (.iface 110 v) (.iface 110 v) .nilIface .nilIface .nilIface
    (fun _ => run_assert_no Tryz.underlying55 (i := (Tryz.prog.info? 110).get (by kernel_rfl)) (Option.some_get _).symm (by kernel_rfl) (by kernel_rfl))
    (fun _ => by kernel_rfl)
    (fun _ => by kernel_rfl)
    (fun _ => run_assert_no Tryz.underlying67 (i := (Tryz.prog.info? 110).get (by kernel_rfl)) (Option.some_get _).symm (by kernel_rfl) (by kernel_rfl))
    (fun _ => run_assert_no Tryz.underlying73 (i := (Tryz.prog.info? 110).get (by kernel_rfl)) (Option.some_get _).symm (by kernel_rfl) (by kernel_rfl))
    (fun _ => run_assert_no Tryz.underlying79 (i := (Tryz.prog.info? 110).get (by kernel_rfl)) (Option.some_get _).symm (by kernel_rfl) (by kernel_rfl)) w
theorem ans111 (v : Value) (m : Int) (w : World) : Calls Tryz.prog 22 #[.iface 111 v, .int .i64 m] w fun e w' => e = .returned (.bool (picked m true false true true false false)) ∧ w' = w :=
  answers_any (.iface 111 v) m true false true true false false (.iface 111 v) .nilIface (.iface 111 v) (.iface 111 v) .nilIface .nilIface
    (fun _ => by kernel_rfl)
    (fun _ => run_assert_no Tryz.underlying59 (i := (Tryz.prog.info? 111).get (by kernel_rfl)) (Option.some_get _).symm (by kernel_rfl) (by kernel_rfl))
    (fun _ => by kernel_rfl)
    (fun _ => by kernel_rfl)
    (fun _ => run_assert_no Tryz.underlying73 (i := (Tryz.prog.info? 111).get (by kernel_rfl)) (Option.some_get _).symm (by kernel_rfl) (by kernel_rfl))
    (fun _ => run_assert_no Tryz.underlying79 (i := (Tryz.prog.info? 111).get (by kernel_rfl)) (Option.some_get _).symm (by kernel_rfl) (by kernel_rfl)) w
theorem ans114 (v : Value) (m : Int) (w : World) : Calls Tryz.prog 22 #[.iface 114 v, .int .i64 m] w fun e w' => e = .returned (.bool (picked m false false false false false false)) ∧ w' = w :=
  answers_any (.iface 114 v) m false false false false false false .nilIface .nilIface .nilIface .nilIface .nilIface .nilIface
    (fun _ => run_assert_no Tryz.underlying55 (i := (Tryz.prog.info? 114).get (by kernel_rfl)) (Option.some_get _).symm (by kernel_rfl) (by kernel_rfl))
    (fun _ => run_assert_no Tryz.underlying59 (i := (Tryz.prog.info? 114).get (by kernel_rfl)) (Option.some_get _).symm (by kernel_rfl) (by kernel_rfl))
    (fun _ => run_assert_no Tryz.underlying64 (i := (Tryz.prog.info? 114).get (by kernel_rfl)) (Option.some_get _).symm (by kernel_rfl) (by kernel_rfl))
    (fun _ => run_assert_no Tryz.underlying67 (i := (Tryz.prog.info? 114).get (by kernel_rfl)) (Option.some_get _).symm (by kernel_rfl) (by kernel_rfl))
    (fun _ => run_assert_no Tryz.underlying73 (i := (Tryz.prog.info? 114).get (by kernel_rfl)) (Option.some_get _).symm (by kernel_rfl) (by kernel_rfl))
    (fun _ => run_assert_no Tryz.underlying79 (i := (Tryz.prog.info? 114).get (by kernel_rfl)) (Option.some_get _).symm (by kernel_rfl) (by kernel_rfl)) w
theorem ansNil (m : Int) (w : World) : Calls Tryz.prog 22 #[.nilIface, .int .i64 m] w fun e w' => e = .returned (.bool false) ∧ w' = w := by
  have := answers_any .nilIface m false false false false false false .nilIface .nilIface .nilIface .nilIface .nilIface .nilIface (fun _ => by kernel_rfl) (fun _ => by kernel_rfl) (fun _ => by kernel_rfl) (fun _ => by kernel_rfl) (fun _ => by kernel_rfl) (fun _ => by kernel_rfl) w
  have e : picked m false false false false false false = false := by unfold picked; simp
  rw [e] at this
  exact this
end Go.Proofs.YtoagofdmbapfeaaGreatDoor
