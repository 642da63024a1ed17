/- Maps keyed by interface values: what a look-up finds and what a store lays, by what == says; the conditions: the key may be one, the map in memory. -/
import Derived.Test.YthgfijhbeahkhaaGreatDoorHa
import Derived.MapKept
namespace Go.Proofs.YthgfijhbeahkhaaGreatDoor
open Go.RowKit
theorem ck0 (e : Bool) (d : Nat) (w : World) : (Instr.checkKey e (d + 2) 20 .nilIface).run Tryz.prog w = .ok () w := by kernel_rfl
theorem ck1 (e : Bool) (d : Nat) (i : Int) (w : World) : (Instr.checkKey e (d + 2) 20 (.iface 162 (.int .i64 i))).run Tryz.prog w = .ok () w := by kernel_rfl
theorem ck2 (e : Bool) (d : Nat) (i : Int) (w : World) : (Instr.checkKey e (d + 2) 20 (.iface 183 (.int .i64 i))).run Tryz.prog w = .ok () w := by kernel_rfl
theorem ck3 (e : Bool) (d : Nat) (i : Nat) (w : World) : (Instr.checkKey e (d + 2) 20 (.iface 184 (.float .f64 i))).run Tryz.prog w = .ok () w := by kernel_rfl
theorem ck4 (e : Bool) (d : Nat) (s : ByteArray) (w : World) : (Instr.checkKey e (d + 2) 20 (.iface 157 (.string s))).run Tryz.prog w = .ok () w := by kernel_rfl
theorem ck5 (e : Bool) (d : Nat) (s : ByteArray) (w : World) : (Instr.checkKey e (d + 2) 20 (.iface 185 (.string s))).run Tryz.prog w = .ok () w := by kernel_rfl
theorem ck6 (e : Bool) (d : Nat) (b : Bool) (w : World) : (Instr.checkKey e (d + 2) 20 (.iface 163 (.bool b))).run Tryz.prog w = .ok () w := by kernel_rfl
theorem ck10 (e : Bool) (d : Nat) (i : Int) (s : ByteArray) (w : World) : (Instr.checkKey e (d + 3) 20 (.iface 152 (.agg #[.int .i64 i, .string s]))).run Tryz.prog w = .ok () w := by kernel_rfl
theorem ck11 (e : Bool) (d : Nat) (a : Option Addr) (w : World) : (Instr.checkKey e (d + 2) 20 (.iface 194 (.pointer a))).run Tryz.prog w = .ok () w := by kernel_rfl
theorem ck13 (e : Bool) (d : Nat) (w : World) : (Instr.checkKey e (d + 2) 20 (.iface 196 (.agg #[]))).run Tryz.prog w = .ok () w := by kernel_rfl
/-- The map of first places. -/
def Fm (w : World) (r : Nat) (kl : List (Value × Nat)) : Prop :=
  ∃ (es : Array MapEntry) (ck : Nat), w.heap[r]? = some (.map es ck) ∧ es.toList.map (fun e => (e.key, e.val)) = kl.map fun x => (x.1, Value.int .i64 x.2)
def fnd (f : Value → Bool) (kl : List (Value × Nat)) : Option Nat := (kl.find? fun x => f x.1).map (·.2)

theorem ask_run (w : World) (v : Value) (f : Value → Bool) : ∀ (es : List MapEntry) (kl : List (Value × Nat)) (i : Nat), es.map (fun e => (e.key, e.val)) = kl.map (fun x => (x.1, Value.int .i64 x.2)) →
    (∀ x ∈ kl, (Op.equal 20 v x.1).run Tryz.prog w = .ok (f x.1) w) → ∃ q, (Instr.findAsking 20 v es i).run Tryz.prog w = .ok q w ∧ q.map (·.2) = (fnd f kl).map fun j => Value.int .i64 j
  | [], [], _, _, _ => ⟨none, rfl, rfl⟩
  | [], _ :: _, _, h, _ => by simp at h
  | _ :: _, [], _, h, _ => by simp at h
  | e :: es, (x, j) :: kl, i, h, hf => by
    simp only [List.map_cons, List.cons.injEq, Prod.mk.injEq] at h
    obtain ⟨⟨h1, h2⟩, h3⟩ := h
    have e1 := hf (x, j) (by simp)
    simp only [Instr.findAsking, h1, Sem.run_bind, e1, Result.andThen_ok]
    cases hx : f x with
    | true => exact ⟨some (i, e.val), by simp, by simp [fnd, hx, h2]⟩
    | false =>
      obtain ⟨q, q1, q2⟩ := ask_run w v f es kl (i + 1) h3 (fun y hy => hf y (by simp [hy]))
      exact ⟨q, by simpa using q1, by rw [q2]; simp [fnd, hx]⟩
theorem find_run (w : World) (v : Value) (f : Value → Bool) (es : List MapEntry) (kl : List (Value × Nat)) (h : es.map (fun e => (e.key, e.val)) = kl.map (fun x => (x.1, Value.int .i64 x.2)))
    (hf : ∀ x ∈ kl, (Op.equal 20 v x.1).run Tryz.prog w = .ok (f x.1) w) : ∃ q, (Instr.findKey 20 v es).run Tryz.prog w = .ok q w ∧ q.map (·.2) = (fnd f kl).map fun j => Value.int .i64 j := by
  have hu : Tryz.prog.underlying 20 = some (.interface #[]) := by kernel_rfl
  match es, kl, h with
  | [], [], _ => exact ⟨none, by simp [Instr.findKey, run_underlying hu, Instr.findNow], rfl⟩
  | e :: es, x :: kl, h =>
    obtain ⟨q, q1, q2⟩ := ask_run w v f (e :: es) (x :: kl) 0 h hf
    refine ⟨q, ?_, q2⟩
    have : Instr.findNow (.interface #[]) v (e :: es) 0 = none := by simp [Instr.findNow, Instr.sameNow]
    simp only [Instr.findKey, Sem.run_bind, run_underlying hu, Result.andThen_ok, this]
    exact q1
  | [], _ :: _, h => simp at h
  | _ :: _, [], h => simp at h

theorem look_fm (w : World) (r : Nat) (kl : List (Value × Nat)) (hm : Fm w r kl) (v : Value) (f : Value → Bool) (hc : ∀ e, (Instr.checkKey e 10000 20 v).run Tryz.prog w = .ok () w) (hf : ∀ x ∈ kl, (Op.equal 20 v x.1).run Tryz.prog w = .ok (f x.1) w) :
    (Instr.lookup 134 (.map (some r)) v true).run Tryz.prog w = .ok (.tuple #[.int .i64 ((fnd f kl).getD 0), .bool (fnd f kl).isSome]) w := by
  obtain ⟨es, ck, hb, he⟩ := hm
  obtain ⟨q, h1, h2⟩ := find_run w v f es.toList kl he hf
  have hu : Tryz.prog.underlying 134 = some (.map 20 3) := by kernel_rfl
  have hz : ∀ w, (zeroValue 3).run Tryz.prog w = .ok (.int .i64 0) w := fun _ => by kernel_rfl
  have hg : (getObj r).run Tryz.prog w = .ok (.map es ck) w := by simp [getObj, Sem.run, hb]
  simp only [Instr.lookup, Sem.run_bind, run_underlying hu, Result.andThen_ok, hg, Sem.run_pure, hc, h1]
  cases q with
  | none =>
    have : fnd f kl = none := by
      cases hl : fnd f kl with
      | none => rfl
      | some b => rw [hl] at h2; simp at h2
    simp [this, hz]
  | some x =>
    obtain ⟨k, u⟩ := x
    cases hl : fnd f kl with
    | none => rw [hl] at h2; simp at h2
    | some b => rw [hl] at h2; simp at h2; simp [h2]
theorem look_no (w : World) (r : Nat) (kl : List (Value × Nat)) (hm : Fm w r kl) (v : Value) (hc : ∀ e, ∃ T pv, (Instr.checkKey e 10000 20 v).run Tryz.prog w = .halt (.panic (.iface T pv)) w) :
    ∃ T pv, (Instr.lookup 134 (.map (some r)) v true).run Tryz.prog w = .halt (.panic (.iface T pv)) w := by
  obtain ⟨es, ck, hb, he⟩ := hm
  obtain ⟨T, pv, hc'⟩ := hc es.isEmpty
  refine ⟨T, pv, ?_⟩
  have hu : Tryz.prog.underlying 134 = some (.map 20 3) := by kernel_rfl
  have hg : (getObj r).run Tryz.prog w = .ok (.map es ck) w := by simp [getObj, Sem.run, hb]
  simp only [Instr.lookup, Sem.run_bind, run_underlying hu, Result.andThen_ok, hg, Sem.run_pure, hc', Result.andThen_halt]
theorem upd_fm (w : World) (r : Nat) (kl : List (Value × Nat)) (hm : Fm w r kl) (v : Value) (i : Nat) (f : Value → Bool) (hc : ∀ e, (Instr.checkKey e 10000 20 v).run Tryz.prog w = .ok () w) (hf : ∀ x ∈ kl, (Op.equal 20 v x.1).run Tryz.prog w = .ok (f x.1) w) (hn : fnd f kl = none) :
    ∃ w', (Instr.mapUpdate 134 (.map (some r)) v (.int .i64 i)).run Tryz.prog w = .ok () w' ∧ Fm w' r (kl ++ [(v, i)]) ∧ w.grownBy w' (some r) := by
  obtain ⟨es, ck, hb, he⟩ := hm
  obtain ⟨q, h1, h2⟩ := find_run w v f es.toList kl he hf
  have hu : Tryz.prog.underlying 134 = some (.map 20 3) := by kernel_rfl
  have hq : q = none := by
    rw [hn] at h2
    cases q with
    | none => rfl
    | some x => simp at h2
  subst hq
  have hg : (getObj r).run Tryz.prog w = .ok (.map es ck) w := by simp [getObj, Sem.run, hb]
  have hs : ∀ o, (setObj r o).run Tryz.prog w = .ok () { w with heap := w.heap.setIfInBounds r o } := fun o => by simp [setObj, Sem.run, hb]
  simp only [Instr.mapUpdate, Sem.run_bind, run_underlying hu, Result.andThen_ok, hg, hc, h1]
  refine ⟨_, hs _, ?_, ?_⟩
  · refine ⟨es.push ⟨v, .int .i64 i, ck⟩, ck + 1, ?_, ?_⟩
    · have hlt : r < w.heap.size := (Array.getElem?_eq_some_iff.1 hb).1
      simp [hlt]
    · simp [he]
  · refine ⟨rfl, rfl, rfl, by simp, fun k hk hne => ?_⟩
    have : r ≠ k := fun e => hne (by rw [e])
    simp [this]
end Go.Proofs.YthgfijhbeahkhaaGreatDoor
