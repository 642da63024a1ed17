/- Values as keys of a map: which may be, what a look-up finds and what a store lays, of the values that the package makes of trees, with boxes by number; the conditions: the trees valid, the boxes alive and apart, the map in memory. -/
import Derived.Test.YtgpbnmlcfimnnaaDoorVal
namespace Go.Proofs.YtgpbnmlcfimnnaaDoor
open Go.RowKit
/-- The document's key. -/
def keyP {T : Type} (c : T → Bool) : List T → Bool
  | [a, b] => c a && c b
  | _ => false
def keyT : (n : Nat) → Tr n → Bool
  | 0, t => t.elim
  | n + 1, t => if t.kd = 9 then keyP (keyT n) t.ks else decide (t.kd ≠ 7 ∧ t.kd ≠ 8)

theorem ck0 (e : Bool) (d : Nat) (w : World) : (Instr.checkKey e (d + 2) 20 .nilIface).run Tryd.prog w = .ok () w := by kernel_rfl
theorem ck1 (e : Bool) (d : Nat) (i : Int) (w : World) : (Instr.checkKey e (d + 2) 20 (.iface 64 (.int .i64 i))).run Tryd.prog w = .ok () w := by kernel_rfl
theorem ck2 (e : Bool) (d : Nat) (i : Int) (w : World) : (Instr.checkKey e (d + 2) 20 (.iface 65 (.int .i64 i))).run Tryd.prog w = .ok () w := by kernel_rfl
theorem ck3 (e : Bool) (d : Nat) (i : Nat) (w : World) : (Instr.checkKey e (d + 2) 20 (.iface 66 (.float .f64 i))).run Tryd.prog w = .ok () w := by kernel_rfl
theorem ck4 (e : Bool) (d : Nat) (s : ByteArray) (w : World) : (Instr.checkKey e (d + 2) 20 (.iface 67 (.string s))).run Tryd.prog w = .ok () w := by kernel_rfl
theorem ck5 (e : Bool) (d : Nat) (s : ByteArray) (w : World) : (Instr.checkKey e (d + 2) 20 (.iface 68 (.string s))).run Tryd.prog w = .ok () w := by kernel_rfl
theorem ck6 (e : Bool) (d : Nat) (b : Bool) (w : World) : (Instr.checkKey e (d + 2) 20 (.iface 69 (.bool b))).run Tryd.prog w = .ok () w := by kernel_rfl
theorem ck10 (e : Bool) (d : Nat) (i : Int) (s : ByteArray) (w : World) : (Instr.checkKey e (d + 3) 20 (.iface 78 (.agg #[.int .i64 i, .string s]))).run Tryd.prog w = .ok () w := by kernel_rfl
theorem ck11 (e : Bool) (d : Nat) (a : Option Addr) (w : World) : (Instr.checkKey e (d + 2) 20 (.iface 79 (.pointer a))).run Tryd.prog w = .ok () w := by kernel_rfl
theorem ck13 (e : Bool) (d : Nat) (w : World) : (Instr.checkKey e (d + 2) 20 (.iface 82 (.agg #[]))).run Tryd.prog w = .ok () w := by kernel_rfl
theorem ck7 (e : Bool) (d : Nat) (x : Value) (w : World) : ∃ T pv, (Instr.checkKey e (d + 2) 20 (.iface 70 x)).run Tryd.prog w = .halt (.panic (.iface T pv)) w := by
  cases e
  · exact ⟨10, strVal ("hash of unhashable type " ++ "value.Octets"), by kernel_rfl⟩
  · exact ⟨Tryd.prog.rt.unhashableTypeError, .agg #[typeHandle Tryd.prog 70], by kernel_rfl⟩
theorem ck8 (e : Bool) (d : Nat) (x : Value) (w : World) : ∃ T pv, (Instr.checkKey e (d + 2) 20 (.iface 72 x)).run Tryd.prog w = .halt (.panic (.iface T pv)) w := by
  cases e
  · exact ⟨10, strVal ("hash of unhashable type " ++ "value.Row"), by kernel_rfl⟩
  · exact ⟨Tryd.prog.rt.unhashableTypeError, .agg #[typeHandle Tryd.prog 72], by kernel_rfl⟩
theorem ck9 (e : Bool) (d : Nat) (x y : Value) (w : World) : (Instr.checkKey e (d + 3) 20 (.iface 76 (.agg #[x, y]))).run Tryd.prog w = ((Instr.checkKey e (d + 1) 20 x).run Tryd.prog w).andThen fun _ w' => (Instr.checkKey e (d + 1) 20 y).run Tryd.prog w' := by
  have e1 : (Instr.checkKey e (d + 3) 20 (.iface 76 (.agg #[x, y]))).run Tryd.prog w = (Instr.checkKey e (d + 2) 76 (.agg #[x, y])).run Tryd.prog w := by kernel_rfl
  rw [e1]
  have hf : ∃ b1 b2, Tryd.prog.underlying 76 = some (.struct #[⟨"First", 20, 0, false, "", "", b1⟩, ⟨"Second", 20, 1, false, "", "", b2⟩]) := ⟨0, 16, by kernel_rfl⟩
  obtain ⟨b1, b2, hf⟩ := hf
  rw [Instr.checkKey]
  simp [run_underlying hf, pt20, pt20']

theorem check_run (l : List (Int × Nat)) : ∀ (n : Nat) (t : Tr n) (v : Value) (d : Nat) (e : Bool) (w : World), VS l n v t → 2 * n ≤ d →
    (keyT n t = true ∧ (Instr.checkKey e (d + 3) 20 v).run Tryd.prog w = .ok () w) ∨ (keyT n t = false ∧ ∃ T pv, (Instr.checkKey e (d + 3) 20 v).run Tryd.prog w = .halt (.panic (.iface T pv)) w) := by
  intro n
  induction n with
  | zero => intro t; exact t.elim
  | succ n ih =>
    intro t v d e w hv hd
    simp only [VS] at hv
    have nk : t.kd ≠ 9 → t.kd ≠ 7 → t.kd ≠ 8 → keyT (n + 1) t = true := fun h1 h2 h3 => by simp [keyT, h1, h2, h3]
    rcases hv with ⟨k, rfl⟩ | ⟨k, rfl⟩ | ⟨k, rfl⟩ | ⟨k, rfl⟩ | ⟨k, rfl⟩ | ⟨k, rfl⟩ | ⟨k, rfl⟩ | ⟨k, x, rfl⟩ | ⟨k, x, rfl⟩ | ⟨k, x, y, t0, t1, rfl, ek, h0, h1⟩ | ⟨k, rfl⟩ | ⟨k, b, hb, rfl⟩ | ⟨k, rfl⟩ | ⟨k, rfl⟩
    · exact .inl ⟨nk (by omega) (by omega) (by omega), ck0 e (d + 1) w⟩
    · exact .inl ⟨nk (by omega) (by omega) (by omega), ck1 e (d + 1) _ w⟩
    · exact .inl ⟨nk (by omega) (by omega) (by omega), ck2 e (d + 1) _ w⟩
    · exact .inl ⟨nk (by omega) (by omega) (by omega), ck3 e (d + 1) _ w⟩
    · exact .inl ⟨nk (by omega) (by omega) (by omega), ck4 e (d + 1) _ w⟩
    · exact .inl ⟨nk (by omega) (by omega) (by omega), ck5 e (d + 1) _ w⟩
    · exact .inl ⟨nk (by omega) (by omega) (by omega), ck6 e (d + 1) _ w⟩
    · exact .inr ⟨by simp [keyT, k], ck7 e (d + 1) x w⟩
    · exact .inr ⟨by simp [keyT, k], ck8 e (d + 1) x w⟩
    · have ekt : keyT (n + 1) t = (keyT n t0 && keyT n t1) := by simp [keyT, k, ek, keyP]
      rw [ekt, ck9]
      obtain ⟨d', rfl⟩ : ∃ d', d = d' + 2 := ⟨d - 2, by omega⟩
      have I0 := ih t0 x d' e w h0 (by omega)
      have I1 := ih t1 y d' e w h1 (by omega)
      rcases I0 with ⟨k0, r0⟩ | ⟨k0, T, pv, r0⟩
      · rw [show d' + 2 + 1 = d' + 3 from rfl, r0]
        simp only [Result.andThen_ok]
        rcases I1 with ⟨k1, r1⟩ | ⟨k1, T, pv, r1⟩
        · exact .inl ⟨by rw [k0, k1]; rfl, r1⟩
        · exact .inr ⟨by rw [k0, k1]; rfl, T, pv, r1⟩
      · refine .inr ⟨by rw [k0]; rfl, T, pv, ?_⟩
        rw [show d' + 2 + 1 = d' + 3 from rfl, r0]; rfl
    · exact .inl ⟨nk (by omega) (by omega) (by omega), ck10 e d _ _ w⟩
    · exact .inl ⟨nk (by omega) (by omega) (by omega), ck11 e (d + 1) _ w⟩
    · exact .inl ⟨nk (by omega) (by omega) (by omega), ck11 e (d + 1) _ w⟩
    · exact .inl ⟨nk (by omega) (by omega) (by omega), ck13 e (d + 1) w⟩

/-- Of keys == does not panic. -/
theorem key_code : ∀ (n m : Nat) (a : Tr n) (b : Tr m), keyT n a = true → keyT m b = true → (eqT n m a b).2 = 0
  | 0, _, a, _ => a.elim
  | _ + 1, 0, _, b => b.elim
  | n + 1, m + 1, a, b => by
    intro ha hb
    simp only [keyT] at ha hb
    simp only [eqT]
    split
    · rfl
    split
    · rename_i h1 h2
      rw [if_neg (by omega)] at ha
      simp at ha; omega
    split
    · rfl
    split
    · rename_i h1 h2 h3 h9
      have h9b : b.kd = 9 := by omega
      rw [if_pos h9] at ha
      rw [if_pos h9b] at hb
      match hx : a.ks, hy : b.ks with
      | [a0, a1], [b0, b1] =>
        rw [hx] at ha
        rw [hy] at hb
        simp only [keyP, Bool.and_eq_true] at ha hb
        simp only [eqP]
        split
        · exact key_code n m a0 b0 ha.1 hb.1
        · exact key_code n m a1 b1 ha.2 hb.2
      | [], _ | [_], _ | _ :: _ :: _ :: _, _ => rw [hx] at ha; simp [keyP] at ha
      | [_, _], [] | [_, _], [_] | [_, _], _ :: _ :: _ :: _ => rw [hy] at hb; simp [keyP] at hb
    · rfl

/-- The map of first places. -/
def Fm (w : World) (r : Nat) (kl : List (Value × Nat)) : Prop :=
  ∃ (es : Array MapEntry) (ck : Nat), w.heap[r]? = some (.map es ck) ∧ es.toList.map (fun e => (e.key, e.val)) = kl.map fun x => (x.1, Value.int .i64 x.2)
def fnd (f : Value → Bool) (kl : List (Value × Nat)) : Option Nat := (kl.find? fun x => f x.1).map (·.2)

theorem ask_run (w : World) (v : Value) (f : Value → Bool) : ∀ (es : List MapEntry) (kl : List (Value × Nat)) (i : Nat), es.map (fun e => (e.key, e.val)) = kl.map (fun x => (x.1, Value.int .i64 x.2)) →
    (∀ x ∈ kl, (Op.equal 20 v x.1).run Tryd.prog w = .ok (f x.1) w) → ∃ q, (Instr.findAsking 20 v es i).run Tryd.prog w = .ok q w ∧ q.map (·.2) = (fnd f kl).map fun j => Value.int .i64 j
  | [], [], _, _, _ => ⟨none, rfl, rfl⟩
  | [], _ :: _, _, h, _ => by simp at h
  | _ :: _, [], _, h, _ => by simp at h
  | e :: es, (x, j) :: kl, i, h, hf => by
    simp only [List.map_cons, List.cons.injEq, Prod.mk.injEq] at h
    obtain ⟨⟨h1, h2⟩, h3⟩ := h
    have e1 := hf (x, j) (by simp)
    simp only [Instr.findAsking, h1, Sem.run_bind, e1, Result.andThen_ok]
    cases hx : f x with
    | true => exact ⟨some (i, e.val), by simp, by simp [fnd, hx, h2]⟩
    | false =>
      obtain ⟨q, q1, q2⟩ := ask_run w v f es kl (i + 1) h3 (fun y hy => hf y (by simp [hy]))
      exact ⟨q, by simpa using q1, by rw [q2]; simp [fnd, hx]⟩
theorem find_run (w : World) (v : Value) (f : Value → Bool) (es : List MapEntry) (kl : List (Value × Nat)) (h : es.map (fun e => (e.key, e.val)) = kl.map (fun x => (x.1, Value.int .i64 x.2)))
    (hf : ∀ x ∈ kl, (Op.equal 20 v x.1).run Tryd.prog w = .ok (f x.1) w) : ∃ q, (Instr.findKey 20 v es).run Tryd.prog w = .ok q w ∧ q.map (·.2) = (fnd f kl).map fun j => Value.int .i64 j := by
  have hu : Tryd.prog.underlying 20 = some (.interface #[]) := by kernel_rfl
  match es, kl, h with
  | [], [], _ => exact ⟨none, by simp [Instr.findKey, run_underlying hu, Instr.findNow], rfl⟩
  | e :: es, x :: kl, h =>
    obtain ⟨q, q1, q2⟩ := ask_run w v f (e :: es) (x :: kl) 0 h hf
    refine ⟨q, ?_, q2⟩
    have : Instr.findNow (.interface #[]) v (e :: es) 0 = none := by simp [Instr.findNow, Instr.sameNow]
    simp only [Instr.findKey, Sem.run_bind, run_underlying hu, Result.andThen_ok, this]
    exact q1
  | [], _ :: _, h => simp at h
  | _ :: _, [], h => simp at h

theorem look_fm (w : World) (r : Nat) (kl : List (Value × Nat)) (hm : Fm w r kl) (v : Value) (f : Value → Bool) (hc : ∀ e, (Instr.checkKey e 10000 20 v).run Tryd.prog w = .ok () w) (hf : ∀ x ∈ kl, (Op.equal 20 v x.1).run Tryd.prog w = .ok (f x.1) w) :
    (Instr.lookup 56 (.map (some r)) v true).run Tryd.prog w = .ok (.tuple #[.int .i64 ((fnd f kl).getD 0), .bool (fnd f kl).isSome]) w := by
  obtain ⟨es, ck, hb, he⟩ := hm
  obtain ⟨q, h1, h2⟩ := find_run w v f es.toList kl he hf
  have hu : Tryd.prog.underlying 56 = some (.map 20 3) := by kernel_rfl
  have hz : ∀ w, (zeroValue 3).run Tryd.prog w = .ok (.int .i64 0) w := fun _ => by kernel_rfl
  have hg : (getObj r).run Tryd.prog w = .ok (.map es ck) w := by simp [getObj, Sem.run, hb]
  simp only [Instr.lookup, Sem.run_bind, run_underlying hu, Result.andThen_ok, hg, Sem.run_pure, hc, h1]
  cases q with
  | none =>
    have : fnd f kl = none := by
      cases hl : fnd f kl with
      | none => rfl
      | some b => rw [hl] at h2; simp at h2
    simp [this, hz]
  | some x =>
    obtain ⟨k, u⟩ := x
    cases hl : fnd f kl with
    | none => rw [hl] at h2; simp at h2
    | some b => rw [hl] at h2; simp at h2; simp [h2]
theorem look_no (w : World) (r : Nat) (kl : List (Value × Nat)) (hm : Fm w r kl) (v : Value) (hc : ∀ e, ∃ T pv, (Instr.checkKey e 10000 20 v).run Tryd.prog w = .halt (.panic (.iface T pv)) w) :
    ∃ T pv, (Instr.lookup 56 (.map (some r)) v true).run Tryd.prog w = .halt (.panic (.iface T pv)) w := by
  obtain ⟨es, ck, hb, he⟩ := hm
  obtain ⟨T, pv, hc'⟩ := hc es.isEmpty
  refine ⟨T, pv, ?_⟩
  have hu : Tryd.prog.underlying 56 = some (.map 20 3) := by kernel_rfl
  have hg : (getObj r).run Tryd.prog w = .ok (.map es ck) w := by simp [getObj, Sem.run, hb]
  simp only [Instr.lookup, Sem.run_bind, run_underlying hu, Result.andThen_ok, hg, Sem.run_pure, hc', Result.andThen_halt]
theorem upd_fm (w : World) (r : Nat) (kl : List (Value × Nat)) (hm : Fm w r kl) (v : Value) (i : Nat) (f : Value → Bool) (hc : ∀ e, (Instr.checkKey e 10000 20 v).run Tryd.prog w = .ok () w) (hf : ∀ x ∈ kl, (Op.equal 20 v x.1).run Tryd.prog w = .ok (f x.1) w) (hn : fnd f kl = none) :
    ∃ w', (Instr.mapUpdate 56 (.map (some r)) v (.int .i64 i)).run Tryd.prog w = .ok () w' ∧ Fm w' r (kl ++ [(v, i)]) ∧ w.grownBy w' (some r) := by
  obtain ⟨es, ck, hb, he⟩ := hm
  obtain ⟨q, h1, h2⟩ := find_run w v f es.toList kl he hf
  have hu : Tryd.prog.underlying 56 = some (.map 20 3) := by kernel_rfl
  have hq : q = none := by
    rw [hn] at h2
    cases q with
    | none => rfl
    | some x => simp at h2
  subst hq
  have hg : (getObj r).run Tryd.prog w = .ok (.map es ck) w := by simp [getObj, Sem.run, hb]
  have hs : ∀ o, (setObj r o).run Tryd.prog w = .ok () { w with heap := w.heap.setIfInBounds r o } := fun o => by simp [setObj, Sem.run, hb]
  simp only [Instr.mapUpdate, Sem.run_bind, run_underlying hu, Result.andThen_ok, hg, hc, h1]
  refine ⟨_, hs _, ?_, ?_⟩
  · refine ⟨es.push ⟨v, .int .i64 i, ck⟩, ck + 1, ?_, ?_⟩
    · have hlt : r < w.heap.size := (Array.getElem?_eq_some_iff.1 hb).1
      simp [hlt]
    · simp [he]
  · refine ⟨rfl, rfl, rfl, by simp, fun k hk hne => ?_⟩
    have : r ≠ k := fun e => hne (by rw [e])
    simp [this]
end Go.Proofs.YtgpbnmlcfimnnaaDoor
