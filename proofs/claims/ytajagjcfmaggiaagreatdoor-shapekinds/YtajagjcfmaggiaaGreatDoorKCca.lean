/- An assertion of one value that does not hold panics, and the panic is caught; no condition but those that each theorem names. -/
import Derived.Defers
import Derived.Recover
import Derived.Test.YtajagjcfmaggiaaGreatDoorKCaa
namespace Go.Proofs.YtajagjcfmaggiaaGreatDoor
open Go.RowKit

theorem tae_any {P : Program} {T E : TypeId} (hr : P.rt.typeAssertionError = T) (hu : P.underlying T = some (.pointer E)) (s d : Option TypeId) (a : TypeId) (m : String) : ∃ o, ∀ w : World, (runtimePanic (.typeAssertion s d a m) : Sem Value).run P w = .halt (.panic (.iface T (.pointer (some ⟨w.heap.size, 0, none⟩)))) (w.alloc o) := by
  refine ⟨.cells #[match s with | some t => typeHandle P t | none => .pointer none, match d with | some t => typeHandle P t | none => .pointer none, typeHandle P a, strVal m] E, fun w => ?_⟩
  simp [runtimePanic, elemOf, newVar, newRow, hr, run_underlying hu]
  try rfl
theorem tae_panic (s d : Option TypeId) (a : TypeId) (m : String) : ∃ o, ∀ w : World, (runtimePanic (.typeAssertion s d a m) : Sem Value).run Tryz.prog w = .halt (.panic (.iface 15 (.pointer (some ⟨w.heap.size, 0, none⟩)))) (w.alloc o) :=
  tae_any (by kernel_rfl) Tryz.underlying15 s d a m

/-- An assertion to a type that is none of an interface: it does not hold. -/
theorem must_ty {t x asserted : TypeId} {d : TypeDesc} {v : Value} (hU : Tryz.prog.underlying asserted = some d) (hd : ∀ m, d ≠ .interface m) (hne : t ≠ asserted) :
    ∃ o, ∀ w : World, (Instr.typeAssert (.iface t v) x asserted false).run Tryz.prog w = .halt (.panic (.iface 15 (.pointer (some ⟨w.heap.size, 0, none⟩)))) (w.alloc o) := by
  obtain ⟨o, ho⟩ := tae_panic (some x) (some t) asserted ""
  refine ⟨o, fun w => ?_⟩
  cases d with
  | interface m => exact absurd rfl (hd m)
  | _ => simp [Instr.typeAssert, run_underlying hU, hne, ho]
theorem must_nil {x asserted : TypeId} {d : TypeDesc} (hU : Tryz.prog.underlying asserted = some d) :
    ∃ o, ∀ w : World, (Instr.typeAssert .nilIface x asserted false).run Tryz.prog w = .halt (.panic (.iface 15 (.pointer (some ⟨w.heap.size, 0, none⟩)))) (w.alloc o) := by
  by_cases hd : ∃ m, d = .interface m
  · obtain ⟨m, rfl⟩ := hd
    obtain ⟨o, ho⟩ := tae_panic none none asserted ""
    exact ⟨o, fun w => by simp [Instr.typeAssert, run_underlying hU, ho]⟩
  · obtain ⟨o, ho⟩ := tae_panic (some x) none asserted ""
    refine ⟨o, fun w => ?_⟩
    cases d with
    | interface m => exact absurd ⟨m, rfl⟩ hd
    | _ => simp [Instr.typeAssert, run_underlying hU, ho]
/-- .. to an interface: a method is lacking. -/
theorem must_lacks {t x asserted : TypeId} {want : Array (String × TypeId)} {v : Value} (hU : Tryz.prog.underlying asserted = some (.interface want)) (h : (Tryz.prog.info? t).map (fun i => (lacking want i.methods).isEmpty) = some false) :
    ∃ o, ∀ w : World, (Instr.typeAssert (.iface t v) x asserted false).run Tryz.prog w = .halt (.panic (.iface 15 (.pointer (some ⟨w.heap.size, 0, none⟩)))) (w.alloc o) := by
  obtain ⟨i, hi, hl⟩ := Option.map_eq_some_iff.1 h
  obtain ⟨m, hm⟩ := missingMethod_some (want := want) (got := i.methods) (fun e => by rw [e] at hl; cases hl)
  obtain ⟨o, ho⟩ := tae_panic none (some t) asserted m
  exact ⟨o, fun w => by simp [Instr.typeAssert, run_underlying hU, typeInfo, hi, hm, ho]⟩
theorem must_has {t x asserted : TypeId} {want : Array (String × TypeId)} {v : Value} (hU : Tryz.prog.underlying asserted = some (.interface want)) (h : (Tryz.prog.info? t).map (fun i => (lacking want i.methods).isEmpty) = some true) (w : World) :
    (Instr.typeAssert (.iface t v) x asserted false).run Tryz.prog w = .ok (.iface t v) w := by
  obtain ⟨i, hi, hl⟩ := Option.map_eq_some_iff.1 h
  simp [Instr.typeAssert, run_underlying hU, typeInfo, hi, missingMethod_none (List.isEmpty_iff.1 hl)]
theorem must_is {t x : TypeId} {d : TypeDesc} {v : Value} (hU : Tryz.prog.underlying t = some d) (hd : ∀ m, d ≠ .interface m) (w : World) :
    (Instr.typeAssert (.iface t v) x t false).run Tryz.prog w = .ok v w := by
  cases d with
  | interface m => exact absurd rfl (hd m)
  | _ => simp [Instr.typeAssert, run_underlying hU]

theorem new_c (w : World) (v : Value) (T : TypeId) : (w.alloc (.cells #[v] T)).cell? ⟨w.heap.size, 0, none⟩ = some v ∧ (w.alloc (.cells #[v] T)).frozen? ⟨w.heap.size, 0, none⟩ = false := by
  have h := heap_alloc_new w (.cells #[v] T)
  generalize w.heap.size = N at h ⊢
  generalize w.alloc (.cells #[v] T) = w' at h ⊢
  simp [World.cell?, World.frozen?, h]

/-- The panic of an assertion that does not hold. -/
def Pan (w w' : World) (e : Ending) : Prop := ∃ a, e = .panicked [{ v := .iface 15 (.pointer (some a)), recovered := false }] ∧ Below w.heap.size w w'

theorem cau_idle (p : Addr) (w : World) :
    CallsD Tryz.prog 138 #[.pointer (some p)] .returning w fun e u' w' => e = .returned (.tuple #[]) ∧ u' = .returning ∧ w' = w := by
  have hn : ∀ w : World, (Instr.typeAssert .nilIface 20 212 true).run Tryz.prog w = .ok (.tuple #[.nilIface, .bool false]) w := fun w => assert_nil Tryz.underlying212 (by kernel_rfl)
  refine callsD_of_wpS Tryz.func138 rfl fun c₀ cs hu => ?_
  apply wpS_seq
  apply wpS_region
  simp [wpOpsS, go_sem, recoverD, hu, Tryz.ntmps138, Exit.thenS, hn]
  apply wpS_seq
  apply wpS_region
  simp [wpOpsS, go_sem, Exit.thenS]
  refine wpS_cond (t := false) (by simp [Act.eval, Array.replicate]) ?_
  simp only [Bool.false_eq_true, if_false]
  refine wpS_of_wp (wp_skip ?_)
  cases c₀
  simp_all [bodyPostS, results, Tryz.results138]

theorem cau_catch (A : Nat) (pa : Addr) (older : List PanicEntry) (w : World) (y : Int) (hc : w.cell? ⟨A, 0, none⟩ = some (.int .i64 y)) (hz : w.frozen? ⟨A, 0, none⟩ = false) :
    CallsD Tryz.prog 138 #[.pointer (some ⟨A, 0, none⟩)] (.panicking ({ v := .iface 15 (.pointer (some pa)), recovered := false } :: older)) w fun e u' w' =>
      e = .returned (.tuple #[]) ∧ u' = .panicking ({ v := .iface 15 (.pointer (some pa)), recovered := true } :: older) ∧ w' = w.setCell ⟨A, 0, none⟩ (.int .i64 20) := by
  have hn : ∀ w : World, (Instr.typeAssert (.iface 15 (.pointer (some pa))) 20 212 true).run Tryz.prog w = .ok (.tuple #[.iface 15 (.pointer (some pa)), .bool true]) w := fun w => run_typeAssert_hasB Tryz.underlying212 (by kernel_rfl) _ _ w
  refine callsD_of_wpS Tryz.func138 rfl fun c₀ cs hu => ?_
  apply wpS_seq
  apply wpS_region
  simp [wpOpsS, go_sem, recoverD, hu, Tryz.ntmps138, Exit.thenS, hn]
  apply wpS_seq
  apply wpS_region
  simp [wpOpsS, go_sem, Exit.thenS]
  refine wpS_cond (t := true) (by simp [Act.eval, Array.replicate]) ?_
  simp only [if_true]
  apply wpS_region
  simp [wpOpsS, go_sem, hc, hz, bodyPostS, results, Tryz.results138]

/-- The question of type Q is asked, panicking, by function F. -/
def MethM (Q F : Nat) : Prop := (∀ w : World, (method 367 Q (.agg #[]) "conduit/want.must").run Tryz.prog w = .ok (F, .agg #[]) w) ∧ ∀ (args : Array Value) (w : World), (callFunc F args).run Tryz.prog w = .ok (.enter F args) w

set_option maxRecDepth 100000 in
set_option maxHeartbeats 1000000 in
theorem caught_no (Q F : Nat) (u : Value) (w : World) (hm : MethM Q F) (hF : ∀ w, Calls Tryz.prog F #[.agg #[], u] w fun e w' => Pan w w' e) :
    Calls Tryz.prog 131 #[.iface Q (.agg #[]), u] w fun e w' => e = .returned (.tuple #[.nilIface, .int .i64 20]) ∧ Below w.heap.size w w' := by
  have hmf : ∀ (fn : Fn) (first cap : Array Value) (w : World), (Instr.makeFunc fn first cap).run Tryz.prog w = .ok (.func fn first cap) w := fun _ _ _ _ => rfl
  obtain ⟨hmm, hcf⟩ := hm
  have HF := Lib.hid hF
  clear hF
  go_enter_defers Tryz.func131, Tryz.ntmps131
  go_wp2_with fail
  refine (HF.out _).mono ?_
  rintro e w1 ⟨pa, rfl, b1⟩
  have b0 := below1 w (.cells #[.int .i64 0] 29)
  have c1 : w1.cell? ⟨w.heap.size, 0, none⟩ = some (.int .i64 0) := (b1.cell (p := ⟨w.heap.size, 0, none⟩) (by simp)).trans (new_c w _ 29).1
  have f1 : w1.frozen? ⟨w.heap.size, 0, none⟩ = false := (b1.frozen (p := ⟨w.heap.size, 0, none⟩) (by simp)).trans (new_c w (.int .i64 0) 29).2
  have B1 := b0.trans (b1.mono b0.size)
  go_wp2
  refine leaves_cons (f := 138) (args := #[.pointer (some ⟨w.heap.size, 0, none⟩)]) (by simp) (by simp [go_sem]) ?_
  refine (cau_catch w.heap.size pa [] _ 0 c1 f1).mono ?_
  rintro e u' w'' ⟨rfl, rfl, rfl⟩
  have g1 : (w1.setCell ⟨w.heap.size, 0, none⟩ (.int .i64 20)).cell? ⟨w.heap.size, 0, none⟩ = some (.int .i64 20) := by simp [World.cell?_setCell_same, c1]
  simp [Leaves, settle, results, Tryz.results131, go_sem, g1]
  exact B1.setCell (Nat.le_refl _) _

set_option maxRecDepth 100000 in
set_option maxHeartbeats 1000000 in
theorem caught_yes (Q F : Nat) (u : Value) (w : World) (hm : MethM Q F) (hF : ∀ w, Calls Tryz.prog F #[.agg #[], u] w fun e w' => e = .returned u ∧ Below w.heap.size w w') :
    Calls Tryz.prog 131 #[.iface Q (.agg #[]), u] w fun e w' => e = .returned (.tuple #[u, .int .i64 0]) ∧ Below w.heap.size w w' := by
  have hmf : ∀ (fn : Fn) (first cap : Array Value) (w : World), (Instr.makeFunc fn first cap).run Tryz.prog w = .ok (.func fn first cap) w := fun _ _ _ _ => rfl
  obtain ⟨hmm, hcf⟩ := hm
  have HF := Lib.hid hF
  clear hF
  go_enter_defers Tryz.func131, Tryz.ntmps131
  go_wp2_with fail
  refine (HF.out _).mono ?_
  rintro e w1 ⟨rfl, b1⟩
  have b0 := below1 w (.cells #[.int .i64 0] 29)
  have c1 : w1.cell? ⟨w.heap.size, 0, none⟩ = some (.int .i64 0) := (b1.cell (p := ⟨w.heap.size, 0, none⟩) (by simp)).trans (new_c w _ 29).1
  have f1 : w1.frozen? ⟨w.heap.size, 0, none⟩ = false := (b1.frozen (p := ⟨w.heap.size, 0, none⟩) (by simp)).trans (new_c w (.int .i64 0) 29).2
  have B1 := b0.trans (b1.mono b0.size)
  go_wp2
  refine leaves_cons (f := 138) (args := #[.pointer (some ⟨w.heap.size, 0, none⟩)]) (by simp) (by simp [go_sem]) ?_
  refine (cau_idle ⟨w.heap.size, 0, none⟩ _).mono ?_
  rintro e u' w'' ⟨rfl, rfl, rfl⟩
  have g1 : (w1.setCell ⟨w.heap.size, 0, none⟩ (.int .i64 0)).cell? ⟨w.heap.size, 0, none⟩ = some (.int .i64 0) := by simp [World.cell?_setCell_same, c1]
  simp [Leaves, settle, results, Tryz.results131, go_sem, g1]
  exact B1.setCell (Nat.le_refl _) _
end Go.Proofs.YtajagjcfmaggiaaGreatDoor
