/- The package's Has and the document's: both answer the table's answer at every two numbers; no condition. -/
import Derived.Test.YtoagofdmbapfeabGreatDoorAwake
namespace Go.Proofs.YtoagofdmbapfeabGreatDoor
open Go.RowKit

def refHas (k m : Int) : Bool :=
  if m = 0 then k == 4 || k == 5 || k == 7 || k == 8 || k == 9 || k == 11 || k == 12
  else if m = 1 then k == 5 || k == 2 || k == 10
  else if m = 2 then k == 10 || k == 11 || k == 12
  else if m = 3 then k == 11 || k == 12
  else if m = 4 then k == 1 || k == 2 || k == 3 || k == 4 || k == 5
  else if m = 5 then k == 1 || k == 3
  else false


/-- 'answers': the six assertions' answers, by the method. -/
def picked (m : Int) (b0 b1 b2 b3 b4 b5 : Bool) : Bool :=
  if m = 0 then b0 else if m = 1 then b1 else if m = 2 then b2 else if m = 3 then b3 else if m = 4 then b4 else if m = 5 then b5 else false

set_option maxHeartbeats 400000 in
theorem answers_any (v : Value) (m : Int) (b0 b1 b2 b3 b4 b5 : Bool) (x0 x1 x2 x3 x4 x5 : Value)
    (h0 : ∀ w, (Instr.typeAssert v 20 76 true).run Tryz.prog w = .ok (.tuple #[x0, .bool b0]) w)
    (h1 : ∀ w, (Instr.typeAssert v 20 79 true).run Tryz.prog w = .ok (.tuple #[x1, .bool b1]) w)
    (h2 : ∀ w, (Instr.typeAssert v 20 82 true).run Tryz.prog w = .ok (.tuple #[x2, .bool b2]) w)
    (h3 : ∀ w, (Instr.typeAssert v 20 65 true).run Tryz.prog w = .ok (.tuple #[x3, .bool b3]) w)
    (h4 : ∀ w, (Instr.typeAssert v 20 57 true).run Tryz.prog w = .ok (.tuple #[x4, .bool b4]) w)
    (h5 : ∀ w, (Instr.typeAssert v 20 85 true).run Tryz.prog w = .ok (.tuple #[x5, .bool b5]) w) (w : World) :
    Calls Tryz.prog 24 #[v, .int .i64 m] w fun e w' => e = .returned (.bool (picked m b0 b1 b2 b3 b4 b5)) ∧ w' = w := by
  by_cases c0 : m = 0
  · subst c0
    go_enter Tryz.func24, Tryz.ntmps24
    go_wp2
    go_ret; exact ⟨rfl, rfl⟩
  by_cases c1 : m = 1
  · subst c1
    clear c0
    go_enter Tryz.func24, Tryz.ntmps24
    go_wp2
    go_ret; exact ⟨rfl, rfl⟩
  by_cases c2 : m = 2
  · subst c2
    clear c0 c1
    go_enter Tryz.func24, Tryz.ntmps24
    go_wp2
    go_ret; exact ⟨rfl, rfl⟩
  by_cases c3 : m = 3
  · subst c3
    clear c0 c1 c2
    go_enter Tryz.func24, Tryz.ntmps24
    go_wp2
    go_ret; exact ⟨rfl, rfl⟩
  by_cases c4 : m = 4
  · subst c4
    clear c0 c1 c2 c3
    go_enter Tryz.func24, Tryz.ntmps24
    go_wp2
    go_ret; exact ⟨rfl, rfl⟩
  by_cases c5 : m = 5
  · subst c5
    clear c0 c1 c2 c3 c4
    go_enter Tryz.func24, Tryz.ntmps24
    go_wp2
    go_ret; exact ⟨rfl, rfl⟩
  have hf : picked m b0 b1 b2 b3 b4 b5 = false := by unfold picked; simp [c0, c1, c2, c3, c4, c5]
  rw [hf]; clear hf
  have g0 : (m == 0) = false := by simpa using c0
  have g1 : (m == 1) = false := by simpa using c1
  have g2 : (m == 2) = false := by simpa using c2
  have g3 : (m == 3) = false := by simpa using c3
  have g4 : (m == 4) = false := by simpa using c4
  have g5 : (m == 5) = false := by simpa using c5
  clear c0 c1 c2 c3 c4 c5
  go_enter Tryz.func24, Tryz.ntmps24
  go_wp2
  go_ret
  exact ⟨rfl, rfl⟩
theorem ans87 (v : Value) (m : Int) (w : World) : Calls Tryz.prog 24 #[.iface 87 v, .int .i64 m] w fun e w' => e = .returned (.bool (picked m false false false false true true)) ∧ w' = w :=
  answers_any (.iface 87 v) m false false false false true true .nilIface .nilIface .nilIface .nilIface (.iface 87 v) (.iface 87 v)
    (fun _ => run_assert_no Tryz.underlying76 (i := (Tryz.prog.info? 87).get (by kernel_rfl)) (Option.some_get _).symm (by kernel_rfl) (by kernel_rfl))
    (fun _ => run_assert_no Tryz.underlying79 (i := (Tryz.prog.info? 87).get (by kernel_rfl)) (Option.some_get _).symm (by kernel_rfl) (by kernel_rfl))
    (fun _ => run_assert_no Tryz.underlying82 (i := (Tryz.prog.info? 87).get (by kernel_rfl)) (Option.some_get _).symm (by kernel_rfl) (by kernel_rfl))
    (fun _ => run_assert_no Tryz.underlying65 (i := (Tryz.prog.info? 87).get (by kernel_rfl)) (Option.some_get _).symm (by kernel_rfl) (by kernel_rfl))
    (fun _ => by kernel_rfl)
    (fun _ => by kernel_rfl) w
theorem ans88 (v : Value) (m : Int) (w : World) : Calls Tryz.prog 24 #[.iface 88 v, .int .i64 m] w fun e w' => e = .returned (.bool (picked m false true false false true false)) ∧ w' = w :=
  answers_any (.iface 88 v) m false true false false true false .nilIface (.iface 88 v) .nilIface .nilIface (.iface 88 v) .nilIface
    (fun _ => run_assert_no Tryz.underlying76 (i := (Tryz.prog.info? 88).get (by kernel_rfl)) (Option.some_get _).symm (by kernel_rfl) (by kernel_rfl))
    (fun _ => by kernel_rfl)
    (fun _ => run_assert_no Tryz.underlying82 (i := (Tryz.prog.info? 88).get (by kernel_rfl)) (Option.some_get _).symm (by kernel_rfl) (by kernel_rfl))
    (fun _ => run_assert_no Tryz.underlying65 (i := (Tryz.prog.info? 88).get (by kernel_rfl)) (Option.some_get _).symm (by kernel_rfl) (by kernel_rfl))
    (fun _ => by kernel_rfl)
    (fun _ => run_assert_no Tryz.underlying85 (i := (Tryz.prog.info? 88).get (by kernel_rfl)) (Option.some_get _).symm (by kernel_rfl) (by kernel_rfl)) w
theorem ans90 (v : Value) (m : Int) (w : World) : Calls Tryz.prog 24 #[.iface 90 v, .int .i64 m] w fun e w' => e = .returned (.bool (picked m false false false false true true)) ∧ w' = w :=
  answers_any (.iface 90 v) m false false false false true true .nilIface .nilIface .nilIface .nilIface (.iface 90 v) (.iface 90 v)
    (fun _ => run_assert_no Tryz.underlying76 (i := (Tryz.prog.info? 90).get (by kernel_rfl)) (Option.some_get _).symm (by kernel_rfl) (by kernel_rfl))
    (fun _ => run_assert_no Tryz.underlying79 (i := (Tryz.prog.info? 90).get (by kernel_rfl)) (Option.some_get _).symm (by kernel_rfl) (by kernel_rfl))
    (fun _ => run_assert_no Tryz.underlying82 (i := (Tryz.prog.info? 90).get (by kernel_rfl)) (Option.some_get _).symm (by kernel_rfl) (by kernel_rfl))
    (fun _ => run_assert_no Tryz.underlying65 (i := (Tryz.prog.info? 90).get (by kernel_rfl)) (Option.some_get _).symm (by kernel_rfl) (by kernel_rfl))
    (fun _ => by kernel_rfl)
    (fun _ => by kernel_rfl) w
theorem ans92 (v : Value) (m : Int) (w : World) : Calls Tryz.prog 24 #[.iface 92 v, .int .i64 m] w fun e w' => e = .returned (.bool (picked m true false false false true false)) ∧ w' = w :=
  answers_any (.iface 92 v) m true false false false true false (.iface 92 v) .nilIface .nilIface .nilIface (.iface 92 v) .nilIface
    (fun _ => by kernel_rfl)
    (fun _ => run_assert_no Tryz.underlying79 (i := (Tryz.prog.info? 92).get (by kernel_rfl)) (Option.some_get _).symm (by kernel_rfl) (by kernel_rfl))
    (fun _ => run_assert_no Tryz.underlying82 (i := (Tryz.prog.info? 92).get (by kernel_rfl)) (Option.some_get _).symm (by kernel_rfl) (by kernel_rfl))
    (fun _ => run_assert_no Tryz.underlying65 (i := (Tryz.prog.info? 92).get (by kernel_rfl)) (Option.some_get _).symm (by kernel_rfl) (by kernel_rfl))
    (fun _ => by kernel_rfl)
    (fun _ => run_assert_no Tryz.underlying85 (i := (Tryz.prog.info? 92).get (by kernel_rfl)) (Option.some_get _).symm (by kernel_rfl) (by kernel_rfl)) w
theorem ans93 (v : Value) (m : Int) (w : World) : Calls Tryz.prog 24 #[.iface 93 v, .int .i64 m] w fun e w' => e = .returned (.bool (picked m true true false false true false)) ∧ w' = w :=
  answers_any (.iface 93 v) m true true false false true false (.iface 93 v) (.iface 93 v) .nilIface .nilIface (.iface 93 v) .nilIface
    (fun _ => by kernel_rfl)
    (fun _ => by kernel_rfl)
    (fun _ => run_assert_no Tryz.underlying82 (i := (Tryz.prog.info? 93).get (by kernel_rfl)) (Option.some_get _).symm (by kernel_rfl) (by kernel_rfl))
    (fun _ => run_assert_no Tryz.underlying65 (i := (Tryz.prog.info? 93).get (by kernel_rfl)) (Option.some_get _).symm (by kernel_rfl) (by kernel_rfl))
    (fun _ => by kernel_rfl)
    (fun _ => run_assert_no Tryz.underlying85 (i := (Tryz.prog.info? 93).get (by kernel_rfl)) (Option.some_get _).symm (by kernel_rfl) (by kernel_rfl)) w
theorem ans94 (v : Value) (m : Int) (w : World) : Calls Tryz.prog 24 #[.iface 94 v, .int .i64 m] w fun e w' => e = .returned (.bool (picked m false false false false false false)) ∧ w' = w :=
  answers_any (.iface 94 v) m false false false false false false .nilIface .nilIface .nilIface .nilIface .nilIface .nilIface
    (fun _ => run_assert_no Tryz.underlying76 (i := (Tryz.prog.info? 94).get (by kernel_rfl)) (Option.some_get _).symm (by kernel_rfl) (by kernel_rfl))
    (fun _ => run_assert_no Tryz.underlying79 (i := (Tryz.prog.info? 94).get (by kernel_rfl)) (Option.some_get _).symm (by kernel_rfl) (by kernel_rfl))
    (fun _ => run_assert_no Tryz.underlying82 (i := (Tryz.prog.info? 94).get (by kernel_rfl)) (Option.some_get _).symm (by kernel_rfl) (by kernel_rfl))
    (fun _ => run_assert_no Tryz.underlying65 (i := (Tryz.prog.info? 94).get (by kernel_rfl)) (Option.some_get _).symm (by kernel_rfl) (by kernel_rfl))
    (fun _ => run_assert_no Tryz.underlying57 (i := (Tryz.prog.info? 94).get (by kernel_rfl)) (Option.some_get _).symm (by kernel_rfl) (by kernel_rfl))
    (fun _ => run_assert_no Tryz.underlying85 (i := (Tryz.prog.info? 94).get (by kernel_rfl)) (Option.some_get _).symm (by kernel_rfl) (by kernel_rfl)) w
theorem ans95 (v : Value) (m : Int) (w : World) : Calls Tryz.prog 24 #[.iface 95 v, .int .i64 m] w fun e w' => e = .returned (.bool (picked m true false false false false false)) ∧ w' = w :=
  answers_any (.iface 95 v) m true false false false false false (.iface 95 v) .nilIface .nilIface .nilIface .nilIface .nilIface
    (fun _ => by kernel_rfl)
    (fun _ => run_assert_no Tryz.underlying79 (i := (Tryz.prog.info? 95).get (by kernel_rfl)) (Option.some_get _).symm (by kernel_rfl) (by kernel_rfl))
    (fun _ => run_assert_no Tryz.underlying82 (i := (Tryz.prog.info? 95).get (by kernel_rfl)) (Option.some_get _).symm (by kernel_rfl) (by kernel_rfl))
    (fun _ => run_assert_no Tryz.underlying65 (i := (Tryz.prog.info? 95).get (by kernel_rfl)) (Option.some_get _).symm (by kernel_rfl) (by kernel_rfl))
    (fun _ => run_assert_no Tryz.underlying57 (i := (Tryz.prog.info? 95).get (by kernel_rfl)) (Option.some_get _).symm (by kernel_rfl) (by kernel_rfl))
    (fun _ => run_assert_no Tryz.underlying85 (i := (Tryz.prog.info? 95).get (by kernel_rfl)) (Option.some_get _).symm (by kernel_rfl) (by kernel_rfl)) w
theorem ans97 (v : Value) (m : Int) (w : World) : Calls Tryz.prog 24 #[.iface 97 v, .int .i64 m] w fun e w' => e = .returned (.bool (picked m true false false false false false)) ∧ w' = w :=
  answers_any (.iface 97 v) m true false false false false false (.iface 97 v) .nilIface .nilIface .nilIface .nilIface .nilIface
    (fun _ => by kernel_rfl)
    (fun _ => run_assert_no Tryz.underlying79 (i := (Tryz.prog.info? 97).get (by kernel_rfl)) (Option.some_get _).symm (by kernel_rfl) (by kernel_rfl))
    (fun _ => run_assert_no Tryz.underlying82 (i := (Tryz.prog.info? 97).get (by kernel_rfl)) (Option.some_get _).symm (by kernel_rfl) (by kernel_rfl))
    (fun _ => run_assert_no Tryz.underlying65 (i := (Tryz.prog.info? 97).get (by kernel_rfl)) (Option.some_get _).symm (by kernel_rfl) (by kernel_rfl))
    (fun _ => run_assert_no Tryz.underlying57 (i := (Tryz.prog.info? 97).get (by kernel_rfl)) (Option.some_get _).symm (by kernel_rfl) (by kernel_rfl))
    (fun _ => run_assert_no Tryz.underlying85 (i := (Tryz.prog.info? 97).get (by kernel_rfl)) (Option.some_get _).symm (by kernel_rfl) (by kernel_rfl)) w
theorem ans101 (v : Value) (m : Int) (w : World) : Calls Tryz.prog 24 #[.iface 101 v, .int .i64 m] w fun e w' => e = .returned (.bool (picked m true false false false false false)) ∧ w' = w :=
  answers_any (.iface 101 v) m true false false false false false (.iface 101 v) .nilIface .nilIface .nilIface .nilIface .nilIface
    (fun _ => by kernel_rfl)
    (fun _ => run_assert_no Tryz.underlying79 (i := (Tryz.prog.info? 101).get (by kernel_rfl)) (Option.some_get _).symm (by kernel_rfl) (by kernel_rfl))
    (fun _ => run_assert_no Tryz.underlying82 (i := (Tryz.prog.info? 101).get (by kernel_rfl)) (Option.some_get _).symm (by kernel_rfl) (by kernel_rfl))
    (fun _ => run_assert_no Tryz.underlying65 (i := (Tryz.prog.info? 101).get (by kernel_rfl)) (Option.some_get _).symm (by kernel_rfl) (by kernel_rfl))
    (fun _ => run_assert_no Tryz.underlying57 (i := (Tryz.prog.info? 101).get (by kernel_rfl)) (Option.some_get _).symm (by kernel_rfl) (by kernel_rfl))
    (fun _ => run_assert_no Tryz.underlying85 (i := (Tryz.prog.info? 101).get (by kernel_rfl)) (Option.some_get _).symm (by kernel_rfl) (by kernel_rfl)) w
theorem ans103 (v : Value) (m : Int) (w : World) : Calls Tryz.prog 24 #[.iface 103 v, .int .i64 m] w fun e w' => e = .returned (.bool (picked m false true true false false false)) ∧ w' = w :=
  answers_any (.iface 103 v) m false true true false false false .nilIface (.iface 103 v) (.iface 103 v) .nilIface .nilIface .nilIface
    (fun _ => run_assert_no Tryz.underlying76 (i := (Tryz.prog.info? 103).get (by kernel_rfl)) (Option.some_get _).symm (by kernel_rfl) (by kernel_rfl))
    (fun _ => by kernel_rfl)
    (fun _ => by kernel_rfl)
    (fun _ => run_assert_no Tryz.underlying65 (i := (Tryz.prog.info? 103).get (by kernel_rfl)) (Option.some_get _).symm (by kernel_rfl) (by kernel_rfl))
    (fun _ => run_assert_no Tryz.underlying57 (i := (Tryz.prog.info? 103).get (by kernel_rfl)) (Option.some_get _).symm (by kernel_rfl) (by kernel_rfl))
    (fun _ => run_assert_no Tryz.underlying85 (i := (Tryz.prog.info? 103).get (by kernel_rfl)) (Option.some_get _).symm (by kernel_rfl) (by kernel_rfl)) w
theorem ans104 (v : Value) (m : Int) (w : World) : Calls Tryz.prog 24 #[.iface 104 v, .int .i64 m] w fun e w' => e = .returned (.bool (picked m true false true true false false)) ∧ w' = w :=
  answers_any (.iface 104 v) m true false true true false false (.iface 104 v) .nilIface (.iface 104 v) (.iface 104 v) .nilIface .nilIface
    (fun _ => by kernel_rfl)
    (fun _ => run_assert_no Tryz.underlying79 (i := (Tryz.prog.info? 104).get (by kernel_rfl)) (Option.some_get _).symm (by kernel_rfl) (by kernel_rfl))
    (fun _ => by kernel_rfl)
    (fun _ => by kernel_rfl)
    (fun _ => run_assert_no Tryz.underlying57 (i := (Tryz.prog.info? 104).get (by kernel_rfl)) (Option.some_get _).symm (by kernel_rfl) (by kernel_rfl))
    (fun _ => run_assert_no Tryz.underlying85 (i := (Tryz.prog.info? 104).get (by kernel_rfl)) (Option.some_get _).symm (by kernel_rfl) (by kernel_rfl)) w
theorem ans107 (v : Value) (m : Int) (w : World) : Calls Tryz.prog 24 #[.iface 107 v, .int .i64 m] w fun e w' => e = .returned (.bool (picked m false false false false false false)) ∧ w' = w :=
  answers_any (.iface 107 v) m false false false false false false .nilIface .nilIface .nilIface .nilIface .nilIface .nilIface
    (fun _ => run_assert_no Tryz.underlying76 (i := (Tryz.prog.info? 107).get (by kernel_rfl)) (Option.some_get _).symm (by kernel_rfl) (by kernel_rfl))
    (fun _ => run_assert_no Tryz.underlying79 (i := (Tryz.prog.info? 107).get (by kernel_rfl)) (Option.some_get _).symm (by kernel_rfl) (by kernel_rfl))
    (fun _ => run_assert_no Tryz.underlying82 (i := (Tryz.prog.info? 107).get (by kernel_rfl)) (Option.some_get _).symm (by kernel_rfl) (by kernel_rfl))
    (fun _ => run_assert_no Tryz.underlying65 (i := (Tryz.prog.info? 107).get (by kernel_rfl)) (Option.some_get _).symm (by kernel_rfl) (by kernel_rfl))
    (fun _ => run_assert_no Tryz.underlying57 (i := (Tryz.prog.info? 107).get (by kernel_rfl)) (Option.some_get _).symm (by kernel_rfl) (by kernel_rfl))
    (fun _ => run_assert_no Tryz.underlying85 (i := (Tryz.prog.info? 107).get (by kernel_rfl)) (Option.some_get _).symm (by kernel_rfl) (by kernel_rfl)) w
theorem ansNil (m : Int) (w : World) : Calls Tryz.prog 24 #[.nilIface, .int .i64 m] w fun e w' => e = .returned (.bool false) ∧ w' = w := by
  have := answers_any .nilIface m false false false false false false .nilIface .nilIface .nilIface .nilIface .nilIface .nilIface (fun _ => by kernel_rfl) (fun _ => by kernel_rfl) (fun _ => by kernel_rfl) (fun _ => by kernel_rfl) (fun _ => by kernel_rfl) (fun _ => by kernel_rfl) w
  have e : picked m false false false false false false = false := by unfold picked; simp
  rw [e] at this
  exact this
end Go.Proofs.YtoagofdmbapfeabGreatDoor
