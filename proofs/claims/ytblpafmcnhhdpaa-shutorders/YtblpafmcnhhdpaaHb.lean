/- The heap's methods, called through its interface; conditions: the row in memory. -/
import Derived.Test.YtblpafmcnhhdpaaHa
import Derived.Stop.Asserts
namespace Go.Proofs.Ytblpafmcnhhdpaa
open Go.RowKit

theorem me_len0 (b o : Nat) (w : World) : (method 171 45 (.pointer (some ⟨b, o, none⟩)) "Len").run Try.prog w = ((loadVar 39 ⟨b, o, none⟩) >>= fun v => pure (18, v)).run Try.prog w := by kernel_rfl
theorem me_less0 (b o : Nat) (w : World) : (method 171 45 (.pointer (some ⟨b, o, none⟩)) "Less").run Try.prog w = ((loadVar 39 ⟨b, o, none⟩) >>= fun v => pure (39, v)).run Try.prog w := by kernel_rfl
theorem me_swap0 (b o : Nat) (w : World) : (method 171 45 (.pointer (some ⟨b, o, none⟩)) "Swap").run Try.prog w = ((loadVar 39 ⟨b, o, none⟩) >>= fun v => pure (41, v)).run Try.prog w := by kernel_rfl
theorem me_push (b o : Nat) (w : World) : (method 171 45 (.pointer (some ⟨b, o, none⟩)) "Push").run Try.prog w = .ok (43, .pointer (some ⟨b, o, none⟩)) w := by kernel_rfl
theorem me_pop (b o : Nat) (w : World) : (method 171 45 (.pointer (some ⟨b, o, none⟩)) "Pop").run Try.prog w = .ok (42, .pointer (some ⟨b, o, none⟩)) w := by kernel_rfl
theorem cf_len (xs : Array Value) (w : World) : (callFunc 18 xs).run Try.prog w = .ok (.enter 18 xs) w := by kernel_rfl
theorem cf_less (xs : Array Value) (w : World) : (callFunc 39 xs).run Try.prog w = .ok (.enter 39 xs) w := by kernel_rfl
theorem cf_swap (xs : Array Value) (w : World) : (callFunc 41 xs).run Try.prog w = .ok (.enter 41 xs) w := by kernel_rfl
theorem cf_push (xs : Array Value) (w : World) : (callFunc 43 xs).run Try.prog w = .ok (.enter 43 xs) w := by kernel_rfl
theorem cf_pop (xs : Array Value) (w : World) : (callFunc 42 xs).run Try.prog w = .ok (.enter 42 xs) w := by kernel_rfl
theorem lv (b o : Nat) (w : World) (v : Value) (h : w.cell? ⟨b, o, none⟩ = some v) : (loadVar 39 ⟨b, o, none⟩).run Try.prog w = .ok v w := by
  go_simp
theorem me_len {b o : Nat} {w : World} {v : Value} (h : w.cell? ⟨b, o, none⟩ = some v) : (method 171 45 (.pointer (some ⟨b, o, none⟩)) "Len").run Try.prog w = .ok (18, v) w := by
  rw [me_len0]
  simp [lv b o w v h]
theorem me_less {b o : Nat} {w : World} {v : Value} (h : w.cell? ⟨b, o, none⟩ = some v) : (method 171 45 (.pointer (some ⟨b, o, none⟩)) "Less").run Try.prog w = .ok (39, v) w := by
  rw [me_less0]
  simp [lv b o w v h]
theorem me_swap {b o : Nat} {w : World} {v : Value} (h : w.cell? ⟨b, o, none⟩ = some v) : (method 171 45 (.pointer (some ⟨b, o, none⟩)) "Swap").run Try.prog w = .ok (41, v) w := by
  rw [me_swap0]
  simp [lv b o w v h]

/-- A row of numbers in a block of its own, from X on. -/
def Nr (w : World) (X : Nat) (sv : Value) (F : List Nat) : Prop := w.ownsRow X 3 1 sv F.length (nv F)
theorem Nr.at {w : World} {X : Nat} {sv : Value} {F : List Nat} (h : Nr w X sv F) (hn : 0 < F.length) : ∃ g c, sv = .slice (some ⟨g, 0, none⟩) F.length c ∧ X ≤ g ∧ g < w.heap.size ∧ (∃ cur : Array Value, Bk w g cur 3 ∧ F.length ≤ cur.size ∧ cur.size = c ∧ cur.toList.take F.length = nv F) := by
  obtain ⟨hl, ⟨rfl, h0⟩ | ⟨g, cap, cur, rfl, hb, hh, hc, hm, hs, ht⟩⟩ := h
  · omega
  · exact ⟨g, cap, rfl, hb, (Array.getElem?_eq_some_iff.1 hh).1, cur, hh, by omega, by omega, by simpa using ht⟩
theorem Nr.cell {w : World} {X : Nat} {F : List Nat} {g c : Nat} (h : Nr w X (.slice (some ⟨g, 0, none⟩) F.length c) F) {q : Nat} (hq : q < F.length) : w.cell? ⟨g, q, none⟩ = some (.int .i64 (gt F q : Nat)) := by
  obtain ⟨g', c', e, -, -, hc⟩ := own_at h (by omega)
  simp only [Value.slice.injEq, Option.some.injEq, Addr.mk.injEq] at e
  obtain ⟨⟨rfl, -⟩, -, rfl⟩ := e
  exact hc w rfl q _ (by simp [gt_is hq])
/-- The struct whose last field is the row, in one block. -/
structure Hs (w : World) (Wb X G : Nat) (v0 v1 : Value) (F : List Nat) (sv : Value) : Prop where
  bk : Bk w Wb #[v0, v1, sv] 43
  row : Nr w X sv F
  lt : Wb < X
  ng : sv.ownBlock ≠ some G
  gs : G < w.heap.size
/-- But Wb's block, those below X, and G's, are as they were. -/
structure Fx (X G Wb : Nat) (w w' : World) : Prop where
  os : w'.os = w.os
  tape : w'.tape = w.tape
  output : w'.output = w.output
  size : w.heap.size ≤ w'.heap.size
  block : ∀ k, (k < X ∨ k = G) → k ≠ Wb → w'.heap[k]? = w.heap[k]?
theorem Fx.refl (X G Wb : Nat) (w : World) : Fx X G Wb w w := ⟨rfl, rfl, rfl, Nat.le_refl _, fun _ _ _ => rfl⟩
theorem Fx.trans {X G Wb : Nat} {a b c : World} (h : Fx X G Wb a b) (k : Fx X G Wb b c) : Fx X G Wb a c := ⟨k.os.trans h.os, k.tape.trans h.tape, k.output.trans h.output, Nat.le_trans h.size k.size, fun i hi hn => (k.block i hi hn).trans (h.block i hi hn)⟩
theorem Fx.of {X G Wb B : Nat} {w w' : World} (h : Below B w w') (hB : X ≤ B) (hG : G < B) : Fx X G Wb w w' := ⟨h.os, h.tape, h.output, h.size, fun k hk _ => h.block k (by omega)⟩
theorem Hs.c {w : World} {Wb X G : Nat} {v0 v1 sv : Value} {F : List Nat} (h : Hs w Wb X G v0 v1 F sv) : w.cell? ⟨Wb, 2, none⟩ = some sv := h.bk.c 2
theorem Hs.below {w w' : World} {Wb X G : Nat} {v0 v1 sv : Value} {F : List Nat} (h : Hs w Wb X G v0 v1 F sv) (hb : Below w.heap.size w w') : Hs w' Wb X G v0 v1 F sv := ⟨h.bk.below hb, own_below h.row hb, h.lt, h.ng, Nat.lt_of_lt_of_le h.gs hb.size⟩

set_option maxRecDepth 100000 in
set_option maxHeartbeats 1000000 in
theorem len_any (ad : Option Addr) (n c : Nat) (w : World) : Calls Try.prog 18 #[.slice ad n c] w fun e w' => e = .returned (.int .i64 n) ∧ w' = w := by
  go_enter Try.func18, Try.ntmps18
  go_wp2
  go_ret
  exact ⟨rfl, rfl⟩
set_option maxRecDepth 100000 in
set_option maxHeartbeats 1000000 in
theorem less_any {X : Nat} {sv : Value} {F : List Nat} (i j : Nat) (w : World) (h : Nr w X sv F) (hi : i < F.length) (hj : j < F.length) : Calls Try.prog 39 #[sv, .int .i64 i, .int .i64 j] w fun e w' => e = .returned (.bool (decide (gt F i < gt F j))) ∧ Below w.heap.size w w' := by
  obtain ⟨g, c, rfl, -, -, -⟩ := h.at (by omega)
  have c1 := h.cell hi
  have c2 := h.cell hj
  have hi' : (i : Int) < (F.length : Int) := by omega
  have hj' : (j : Int) < (F.length : Int) := by omega
  clear h hi hj
  go_enter Try.func39, Try.ntmps39
  go_wp2
  go_quiet (fail)
  go_wp2
  go_ret
  refine ⟨rfl, ?_⟩
  first | exact Below.refl _ _ | exact below_drewN (Below.refl _ _) _
end Go.Proofs.Ytblpafmcnhhdpaa
