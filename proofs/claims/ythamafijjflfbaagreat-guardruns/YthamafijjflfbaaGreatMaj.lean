/- The package's Plain of octets, rows and pointers, and of any value; the conditions: the value in memory, and its tree valid. -/
import Derived.Test.YthamafijjflfbaaGreatMai
import Derived.Test.YthamafijjflfbaaGreatMaa
import Derived.Defers
import Derived.Recover
namespace Go.Proofs.YthamafijjflfbaaGreat.Dt
open Go.RowKit
set_option maxRecDepth 100000 in
set_option maxHeartbeats 2000000 in
theorem pl7 (s : ByteArray) (g c : Nat) (fr : Nat × Nat) (w : World) (hh : w.heap[g]? = some (.cells (bytesRow s c) 5 fr)) : Calls Tryz.prog 59 #[.iface 135 (.slice (some ⟨g, 0, none⟩) s.size c)] w fun e w' => e = .returned (.agg #[.int .i64 7, .int .i64 0, .int .u64 0, .string s, .slice none 0 0]) ∧ Below w.heap.size w w' := by
  have a0 : ∀ w : World, (Instr.typeAssert (.iface 135 (.slice (some ⟨g, 0, none⟩) s.size c)) 20 113 true).run Tryz.prog w = .ok (.tuple #[.int .i64 0, .bool false]) w := fun w => asto_no (z := .int .i64 0) Tryz.underlying113 (fun m h => by cases h) (by kernel_rfl) (by decide)
  have a1 : ∀ w : World, (Instr.typeAssert (.iface 135 (.slice (some ⟨g, 0, none⟩) s.size c)) 20 128 true).run Tryz.prog w = .ok (.tuple #[.int .i64 0, .bool false]) w := fun w => asto_no (z := .int .i64 0) Tryz.underlying128 (fun m h => by cases h) (by kernel_rfl) (by decide)
  have a2 : ∀ w : World, (Instr.typeAssert (.iface 135 (.slice (some ⟨g, 0, none⟩) s.size c)) 20 129 true).run Tryz.prog w = .ok (.tuple #[.float .f64 0, .bool false]) w := fun w => asto_no (z := .float .f64 0) Tryz.underlying129 (fun m h => by cases h) (by kernel_rfl) (by decide)
  have a3 : ∀ w : World, (Instr.typeAssert (.iface 135 (.slice (some ⟨g, 0, none⟩) s.size c)) 20 131 true).run Tryz.prog w = .ok (.tuple #[.string ⟨#[]⟩, .bool false]) w := fun w => asto_no (z := .string ⟨#[]⟩) Tryz.underlying131 (fun m h => by cases h) (by kernel_rfl) (by decide)
  have a4 : ∀ w : World, (Instr.typeAssert (.iface 135 (.slice (some ⟨g, 0, none⟩) s.size c)) 20 132 true).run Tryz.prog w = .ok (.tuple #[.string ⟨#[]⟩, .bool false]) w := fun w => asto_no (z := .string ⟨#[]⟩) Tryz.underlying132 (fun m h => by cases h) (by kernel_rfl) (by decide)
  have a5 : ∀ w : World, (Instr.typeAssert (.iface 135 (.slice (some ⟨g, 0, none⟩) s.size c)) 20 110 true).run Tryz.prog w = .ok (.tuple #[.bool false, .bool false]) w := fun w => asto_no (z := .bool false) Tryz.underlying110 (fun m h => by cases h) (by kernel_rfl) (by decide)
  have a6 : ∀ w : World, (Instr.typeAssert (.iface 135 (.slice (some ⟨g, 0, none⟩) s.size c)) 20 135 true).run Tryz.prog w = .ok (.tuple #[.slice (some ⟨g, 0, none⟩) s.size c, .bool true]) w := fun w => asto_yes (z := .slice none 0 0) Tryz.underlying135 (fun m h => by cases h) (by kernel_rfl)
  have hcx : ∀ wx : World, wx.heap[g]? = some (.cells (bytesRow s c) 5 fr) → (convert 135 9 (.slice (some ⟨g, 0, none⟩) s.size c)).run Tryz.prog wx = .ok (.string s) wx := fun wx hx => by
    have := run_convert_bytes_back (P := Tryz.prog) wx 135 9 5 ⟨g, 0, none⟩ c s.data.toList Tryz.underlying135 Tryz.underlying5 Tryz.underlying9 (fun j hj => by
      have hj' : j < s.data.size := by simpa using hj
      have := bytesRow_at s c j hj'
      have ea : (⟨g, 0, none⟩ : Addr).add j = ⟨g, j, none⟩ := by by_cases h0 : j = 0 <;> simp [Addr.add, h0]
      rw [ea]
      simp [World.cell?, hx, this])
    simpa using this
  have hgl : g < w.heap.size := (Array.getElem?_eq_some_iff.1 hh).1
  have hcv := hcx (zD w) (((below1 w _).block g hgl).trans hh)
  unfold zD at hcv
  clear hcx
  go_enter Tryz.func59, Tryz.ntmps59
  go_wp2
  refine bodyPost_ret (v := .agg #[.int .i64 7, .int .i64 0, .int .u64 0, .string s, .slice none 0 0]) (by simp [results, Tryz.results59, go_sem]) rfl ⟨rfl, ?_⟩
  first | exact below1 w _ | exact below2 w _ _

set_option maxRecDepth 100000 in
set_option maxHeartbeats 2000000 in
theorem plNo (w : World) : Calls Tryz.prog 79 #[.pointer none] w fun e w' => e = .returned (.agg #[.int .i64 12, .int .i64 0, .int .u64 0, .string ⟨#[]⟩, .slice none 0 0]) ∧ Below w.heap.size w w' := by
  have hen : ∀ w, (binOp .eql 141 (.pointer none) (.pointer none)).run Tryz.prog w = .ok (.bool true) w := fun _ => by kernel_rfl
  go_enter Tryz.func79, Tryz.ntmps79
  go_wp2
  refine bodyPost_ret (v := .agg #[.int .i64 12, .int .i64 0, .int .u64 0, .string ⟨#[]⟩, .slice none 0 0]) (by simp [results, Tryz.results79, go_sem]) rfl ⟨rfl, ?_⟩
  first | exact below1 w _ | exact below2 w _ _

set_option maxRecDepth 100000 in
set_option maxHeartbeats 2000000 in
theorem plPt (p : Option Addr) (w : World) (R : Value → World → Prop) (hR : ∀ v w' w'', R v w' → (∀ q, w.heap.size < q → w''.heap[q]? = w'.heap[q]?) → w''.heap.size = w'.heap.size → R v w'')
    (HP : Calls Tryz.prog 79 #[.pointer p] (zD w) fun e w' => ∃ (k i b : Int) (s : ByteArray) (a : Option Addr) (n c : Nat), e = .returned (.agg #[.int .i64 k, .int .i64 i, .int .u64 b, .string s, .slice a n c]) ∧ R (.agg #[.int .i64 k, .int .i64 i, .int .u64 b, .string s, .slice a n c]) w' ∧ Below (zD w).heap.size (zD w) w') :
    Calls Tryz.prog 59 #[.iface 141 (.pointer p)] w fun e w' => ∃ v, e = .returned v ∧ R v w' ∧ Below w.heap.size w w' := by
  have a0 : ∀ w : World, (Instr.typeAssert (.iface 141 (.pointer p)) 20 113 true).run Tryz.prog w = .ok (.tuple #[.int .i64 0, .bool false]) w := fun w => asto_no (z := .int .i64 0) Tryz.underlying113 (fun m h => by cases h) (by kernel_rfl) (by decide)
  have a1 : ∀ w : World, (Instr.typeAssert (.iface 141 (.pointer p)) 20 128 true).run Tryz.prog w = .ok (.tuple #[.int .i64 0, .bool false]) w := fun w => asto_no (z := .int .i64 0) Tryz.underlying128 (fun m h => by cases h) (by kernel_rfl) (by decide)
  have a2 : ∀ w : World, (Instr.typeAssert (.iface 141 (.pointer p)) 20 129 true).run Tryz.prog w = .ok (.tuple #[.float .f64 0, .bool false]) w := fun w => asto_no (z := .float .f64 0) Tryz.underlying129 (fun m h => by cases h) (by kernel_rfl) (by decide)
  have a3 : ∀ w : World, (Instr.typeAssert (.iface 141 (.pointer p)) 20 131 true).run Tryz.prog w = .ok (.tuple #[.string ⟨#[]⟩, .bool false]) w := fun w => asto_no (z := .string ⟨#[]⟩) Tryz.underlying131 (fun m h => by cases h) (by kernel_rfl) (by decide)
  have a4 : ∀ w : World, (Instr.typeAssert (.iface 141 (.pointer p)) 20 132 true).run Tryz.prog w = .ok (.tuple #[.string ⟨#[]⟩, .bool false]) w := fun w => asto_no (z := .string ⟨#[]⟩) Tryz.underlying132 (fun m h => by cases h) (by kernel_rfl) (by decide)
  have a5 : ∀ w : World, (Instr.typeAssert (.iface 141 (.pointer p)) 20 110 true).run Tryz.prog w = .ok (.tuple #[.bool false, .bool false]) w := fun w => asto_no (z := .bool false) Tryz.underlying110 (fun m h => by cases h) (by kernel_rfl) (by decide)
  have a6 : ∀ w : World, (Instr.typeAssert (.iface 141 (.pointer p)) 20 135 true).run Tryz.prog w = .ok (.tuple #[.slice none 0 0, .bool false]) w := fun w => asto_no (z := .slice none 0 0) Tryz.underlying135 (fun m h => by cases h) (by kernel_rfl) (by decide)
  have a7 : ∀ w : World, (Instr.typeAssert (.iface 141 (.pointer p)) 20 137 true).run Tryz.prog w = .ok (.tuple #[.slice none 0 0, .bool false]) w := fun w => asto_no (z := .slice none 0 0) Tryz.underlying137 (fun m h => by cases h) (by kernel_rfl) (by decide)
  have a8 : ∀ w : World, (Instr.typeAssert (.iface 141 (.pointer p)) 20 140 true).run Tryz.prog w = .ok (.tuple #[.agg #[.nilIface, .nilIface], .bool false]) w := fun w => asto_no (z := .agg #[.nilIface, .nilIface]) Tryz.underlying140 (fun m h => by cases h) (by kernel_rfl) (by decide)
  have a9 : ∀ w : World, (Instr.typeAssert (.iface 141 (.pointer p)) 20 75 true).run Tryz.prog w = .ok (.tuple #[.agg #[.int .i64 0, .string ⟨#[]⟩], .bool false]) w := fun w => asto_no (z := .agg #[.int .i64 0, .string ⟨#[]⟩]) Tryz.underlying75 (fun m h => by cases h) (by kernel_rfl) (by decide)
  have a10 : ∀ w : World, (Instr.typeAssert (.iface 141 (.pointer p)) 20 141 true).run Tryz.prog w = .ok (.tuple #[.pointer p, .bool true]) w := fun w => asto_yes (z := .pointer none) Tryz.underlying141 (fun m h => by cases h) (by kernel_rfl)
  have HT := Lib.hid HP
  have HR := Lib.hid hR
  clear HP hR
  go_enter Tryz.func59, Tryz.ntmps59
  go_wp2_with fail
  refine HT.out.mono ?_
  rintro e w1 ⟨k, i, b, s, a, n, c, rfl, r, b1⟩
  have d1 := (D5.new w (.int .i64 0) (.int .i64 0) (.int .u64 0) (.string ⟨#[]⟩) (.slice none 0 0)).below b1
  obtain ⟨c0, c1, c2, c3, c4⟩ := d1.c
  have fz : ∀ o, w1.frozen? ⟨w.heap.size, o, none⟩ = false := fun o => d1.f
  have B := (below1 w _).trans (b1.mono (by simp [zD]))
  have r := Lib.hid r
  go_wp2
  refine bodyPost_ret (v := .agg #[.int .i64 k, .int .i64 i, .int .u64 b, .string s, .slice a n c]) (by simp [results, Tryz.results59, go_sem, World.cell?_setCell_same, World.cell?_setCell_other, c0, c1, c2, c3, c4]) rfl ⟨_, rfl, HR.out _ _ _ r.out (fun q hq => ?_) (by simp [World.setCell]), ?_⟩
  · have hq : q ≠ w.heap.size := by omega
    rw [Below.heap_setCell _ _ _ q hq, Below.heap_setCell _ _ _ q hq, Below.heap_setCell _ _ _ q hq, Below.heap_setCell _ _ _ q hq, Below.heap_setCell _ _ _ q hq]
  · exact ((((B.setCell (Nat.le_refl _) _).setCell (Nat.le_refl _) _).setCell (Nat.le_refl _) _).setCell (Nat.le_refl _) _).setCell (Nat.le_refl _) _

set_option maxRecDepth 100000 in
set_option maxHeartbeats 2000000 in
theorem pl8 (a : Option Addr) (n c : Nat) (w : World) (R : Value → World → Prop) (hR : ∀ v w' w'', R v w' → (∀ q, w.heap.size < q → w''.heap[q]? = w'.heap[q]?) → w''.heap.size = w'.heap.size → R v w'')
    (HP : Calls Tryz.prog 78 #[.slice a n c] (zD w) fun e w' => ∃ (g c' : Nat), e = .returned (.slice (some ⟨g, 0, none⟩) n c') ∧ R (.slice (some ⟨g, 0, none⟩) n c') w' ∧ Below (zD w).heap.size (zD w) w') :
    Calls Tryz.prog 59 #[.iface 137 (.slice a n c)] w fun e w' => ∃ v, e = .returned (.agg #[.int .i64 8, .int .i64 0, .int .u64 0, .string ⟨#[]⟩, v]) ∧ R v w' ∧ Below w.heap.size w w' := by
  have a0 : ∀ w : World, (Instr.typeAssert (.iface 137 (.slice a n c)) 20 113 true).run Tryz.prog w = .ok (.tuple #[.int .i64 0, .bool false]) w := fun w => asto_no (z := .int .i64 0) Tryz.underlying113 (fun m h => by cases h) (by kernel_rfl) (by decide)
  have a1 : ∀ w : World, (Instr.typeAssert (.iface 137 (.slice a n c)) 20 128 true).run Tryz.prog w = .ok (.tuple #[.int .i64 0, .bool false]) w := fun w => asto_no (z := .int .i64 0) Tryz.underlying128 (fun m h => by cases h) (by kernel_rfl) (by decide)
  have a2 : ∀ w : World, (Instr.typeAssert (.iface 137 (.slice a n c)) 20 129 true).run Tryz.prog w = .ok (.tuple #[.float .f64 0, .bool false]) w := fun w => asto_no (z := .float .f64 0) Tryz.underlying129 (fun m h => by cases h) (by kernel_rfl) (by decide)
  have a3 : ∀ w : World, (Instr.typeAssert (.iface 137 (.slice a n c)) 20 131 true).run Tryz.prog w = .ok (.tuple #[.string ⟨#[]⟩, .bool false]) w := fun w => asto_no (z := .string ⟨#[]⟩) Tryz.underlying131 (fun m h => by cases h) (by kernel_rfl) (by decide)
  have a4 : ∀ w : World, (Instr.typeAssert (.iface 137 (.slice a n c)) 20 132 true).run Tryz.prog w = .ok (.tuple #[.string ⟨#[]⟩, .bool false]) w := fun w => asto_no (z := .string ⟨#[]⟩) Tryz.underlying132 (fun m h => by cases h) (by kernel_rfl) (by decide)
  have a5 : ∀ w : World, (Instr.typeAssert (.iface 137 (.slice a n c)) 20 110 true).run Tryz.prog w = .ok (.tuple #[.bool false, .bool false]) w := fun w => asto_no (z := .bool false) Tryz.underlying110 (fun m h => by cases h) (by kernel_rfl) (by decide)
  have a6 : ∀ w : World, (Instr.typeAssert (.iface 137 (.slice a n c)) 20 135 true).run Tryz.prog w = .ok (.tuple #[.slice none 0 0, .bool false]) w := fun w => asto_no (z := .slice none 0 0) Tryz.underlying135 (fun m h => by cases h) (by kernel_rfl) (by decide)
  have a7 : ∀ w : World, (Instr.typeAssert (.iface 137 (.slice a n c)) 20 137 true).run Tryz.prog w = .ok (.tuple #[.slice a n c, .bool true]) w := fun w => asto_yes (z := .slice none 0 0) Tryz.underlying137 (fun m h => by cases h) (by kernel_rfl)
  have HT := Lib.hid HP
  have HR := Lib.hid hR
  clear HP hR
  go_enter Tryz.func59, Tryz.ntmps59
  go_wp2_with fail
  refine HT.out.mono ?_
  rintro e w1 ⟨g, c', rfl, r, b1⟩
  have d1 := (D5.new w (.int .i64 0) (.int .i64 0) (.int .u64 0) (.string ⟨#[]⟩) (.slice none 0 0)).below b1
  obtain ⟨c0, c1, c2, c3, c4⟩ := d1.c
  have fz : ∀ o, w1.frozen? ⟨w.heap.size, o, none⟩ = false := fun o => d1.f
  have B := (below1 w _).trans (b1.mono (by simp [zD]))
  have r := Lib.hid r
  go_wp2
  refine bodyPost_ret (v := .agg #[.int .i64 8, .int .i64 0, .int .u64 0, .string ⟨#[]⟩, .slice (some ⟨g, 0, none⟩) n c']) (by simp [results, Tryz.results59, go_sem, World.cell?_setCell_same, World.cell?_setCell_other, c0, c1, c2, c3, c4]) rfl ⟨_, rfl, HR.out _ _ _ r.out (fun q hq => ?_) (by simp [World.setCell]), ?_⟩
  · have hq : q ≠ w.heap.size := by omega
    rw [Below.heap_setCell _ _ _ q hq, Below.heap_setCell _ _ _ q hq, Below.heap_setCell _ _ _ q hq, Below.heap_setCell _ _ _ q hq, Below.heap_setCell _ _ _ q hq]
  · exact ((((B.setCell (Nat.le_refl _) _).setCell (Nat.le_refl _) _).setCell (Nat.le_refl _) _).setCell (Nat.le_refl _) _).setCell (Nat.le_refl _) _
end Go.Proofs.YthamafijjflfbaaGreat.Dt
/- The package's Plain of any value that it made of a valid tree: the plain data of the same tree, in new memory; the conditions: the value in memory, its tree valid. -/
namespace Go.Proofs.YthamafijjflfbaaGreat.Dt
open Go.RowKit
theorem ok_all {k i u : Int} {sz len : Nat} (h : okB k i u sz len = true) : (k = 6 → i = 0 ∨ i = 1) ∧ (k = 9 → len = 2) ∧ (k = 11 → len = 1) ∧ (k ≠ 1 → k ≠ 2 → k ≠ 6 → k ≠ 10 → k ≠ 11 → i = 0) ∧ (k ≠ 4 → k ≠ 5 → k ≠ 7 → k ≠ 10 → sz = 0) ∧ (k ≠ 3 → u = 0) ∧ (k ≠ 8 → k ≠ 9 → k ≠ 11 → len = 0) ∧ sz ≤ 65535 ∧ 0 ≤ k ∧ k ≤ 13 := by
  unfold okB at h
  repeat' split at h
  all_goals (try simp only [decide_eq_true_eq] at h)
  all_goals (first | omega | cases h)
theorem empty_of {s : ByteArray} (h : s.size = 0) : s = ⟨#[]⟩ := by
  cases s with
  | mk d =>
    have : d.size = 0 := h
    rw [Array.eq_empty_of_size_eq_zero this]
theorem Rf.leaf {F : Nat → Prop} {w : World} {n : Nat} {t : Tr (n + 1)} (h : t.ks = []) (hs : t.tx.size ≤ 65535) : Rf F w (n + 1) [.int .i64 t.kd, .int .i64 t.it, .int .u64 t.ut, .string t.tx, .slice none 0 0] t :=
  ⟨none, 0, by simp [h], by unfold maxLen; omega, by simp [h], by unfold maxLen; omega, .inl h⟩
theorem cell_q {w w' : World} {g o : Nat} {x : Value} (h : w'.heap[g]? = w.heap[g]?) (hx : w.cell? ⟨g, o, none⟩ = some x) : w'.cell? ⟨g, o, none⟩ = some x := (cell_heap h).trans hx

/-- The list that a value's data have is no part of what must not be written. -/
theorem frozen_q {w w' : World} {g q : Nat} (h : w'.heap[g]? = w.heap[g]?) (hx : w.frozen? ⟨g, q, none⟩ = false) : w'.frozen? ⟨g, q, none⟩ = false := by
  rw [show w'.frozen? ⟨g, q, none⟩ = w.frozen? ⟨g, q, none⟩ by simp [World.frozen?, h]]; exact hx
set_option maxRecDepth 100000 in
set_option maxHeartbeats 4000000 in
theorem plain_step (F0 : Nat → Prop) (W0 : World) (n : Nat) (ih : PlOf F0 W0 n) (t : Tr (n + 1)) (v : Value) (w : World) (hrg : rgt (n + 1) t = true) (h64 : r64 (n + 1) t) (hps : (pts (n + 1) t).1 ≤ 4096) (hv : VR F0 W0 (n + 1) v t) (hb0 : Below W0.heap.size W0 w) :
    Calls Tryz.prog 59 #[v] w fun e w' => ∃ v0 v1 v2 v3 v4, e = .returned (.agg #[v0, v1, v2, v3, v4]) ∧ Rf (fun g => w.heap.size ≤ g ∧ g < w'.heap.size) w' (n + 1) [v0, v1, v2, v3, v4] t ∧ (∀ g o l c, v4 = .slice (some ⟨g, o, none⟩) l c → ∀ q, w'.frozen? ⟨g, q, none⟩ = false) ∧ Below w.heap.size w w' := by
  obtain ⟨hp1, hp2⟩ := pts_kids hps
  simp only [rgt, Bool.and_eq_true] at hrg
  obtain ⟨hok, hall⟩ := hrg
  obtain ⟨o6, o9, o11, oi, os, ou, ol, oz, -, -⟩ := ok_all hok
  obtain ⟨⟨hu0, -⟩, h6k⟩ := h64
  have b1 : Below w.heap.size w (zD w) := below1 w _
  have hs1 : (zD w).heap.size = w.heap.size + 1 := by simp [zD]
  have hbz : Below W0.heap.size W0 (zD w) := hb0.trans (b1.mono hb0.size)
  have fin : ∀ (e : Ending) (w' : World), e = .returned (.agg #[.int .i64 t.kd, .int .i64 t.it, .int .u64 t.ut, .string t.tx, .slice none 0 0]) → t.ks = [] → Below w.heap.size w w' → ∃ v0 v1 v2 v3 v4, e = .returned (.agg #[v0, v1, v2, v3, v4]) ∧ Rf (fun g => w.heap.size ≤ g ∧ g < w'.heap.size) w' (n + 1) [v0, v1, v2, v3, v4] t ∧ (∀ g o l c, v4 = .slice (some ⟨g, o, none⟩) l c → ∀ q, w'.frozen? ⟨g, q, none⟩ = false) ∧ Below w.heap.size w w' := fun e w' he hk hb => ⟨_, _, _, _, _, he, Rf.leaf hk oz, (fun g o l c h => by cases h), hb⟩
  have nk : t.kd ≠ 8 → t.kd ≠ 9 → t.kd ≠ 11 → t.ks = [] := fun a b c => List.length_eq_zero_iff.1 (ol a b c)
  have nt : t.kd ≠ 4 → t.kd ≠ 5 → t.kd ≠ 7 → t.kd ≠ 10 → t.tx = ⟨#[]⟩ := fun a b c d => empty_of (os a b c d)
  simp only [VR] at hv
  rcases hv with ⟨k, rfl⟩ | ⟨k, rfl⟩ | ⟨k, rfl⟩ | ⟨k, rfl⟩ | ⟨k, rfl⟩ | ⟨k, rfl⟩ | ⟨k, rfl⟩ | ⟨k, g, c, cs, fr, rfl, e2, e3, rfl⟩ | ⟨k, a, c, rfl, e2⟩ | ⟨k, x, y, t0, t1, rfl, e2, e3, e4⟩ | ⟨k, rfl⟩ | ⟨k, b, u, t0, rfl, e2, e3, e4, e5⟩ | ⟨k, rfl⟩ | ⟨k, rfl⟩
  · exact (pl0 w).mono fun e w' ⟨he, hb⟩ => fin e w' (he.trans (by rw [k, oi (by omega) (by omega) (by omega) (by omega) (by omega), ou (by omega), nt (by omega) (by omega) (by omega) (by omega)])) (nk (by omega) (by omega) (by omega)) hb
  · exact (pl1 t.it w).mono fun e w' ⟨he, hb⟩ => fin e w' (he.trans (by rw [k, ou (by omega), nt (by omega) (by omega) (by omega) (by omega)])) (nk (by omega) (by omega) (by omega)) hb
  · exact (pl2 t.it w).mono fun e w' ⟨he, hb⟩ => fin e w' (he.trans (by rw [k, ou (by omega), nt (by omega) (by omega) (by omega) (by omega)])) (nk (by omega) (by omega) (by omega)) hb
  · exact (pl3 t.ut.toNat w).mono fun e w' ⟨he, hb⟩ => fin e w' (he.trans (by rw [k, oi (by omega) (by omega) (by omega) (by omega) (by omega), nt (by omega) (by omega) (by omega) (by omega), Int.toNat_of_nonneg hu0])) (nk (by omega) (by omega) (by omega)) hb
  · exact (pl4 t.tx w).mono fun e w' ⟨he, hb⟩ => fin e w' (he.trans (by rw [k, oi (by omega) (by omega) (by omega) (by omega) (by omega), ou (by omega)])) (nk (by omega) (by omega) (by omega)) hb
  · exact (pl5 t.tx w).mono fun e w' ⟨he, hb⟩ => fin e w' (he.trans (by rw [k, oi (by omega) (by omega) (by omega) (by omega) (by omega), ou (by omega)])) (nk (by omega) (by omega) (by omega)) hb
  · refine (pl6 (t.it != 0) w).mono fun e w' ⟨he, hb⟩ => fin e w' (he.trans ?_) (nk (by omega) (by omega) (by omega)) hb
    rw [k, ou (by omega), nt (by omega) (by omega) (by omega) (by omega)]
    rcases o6 k with h | h <;> simp [h]
  · have hl : g < W0.heap.size := (Array.getElem?_eq_some_iff.1 e3).1
    exact (pl7 t.tx g c fr w ((hb0.block g hl).trans e3)).mono fun e w' ⟨he, hb⟩ => fin e w' (he.trans (by rw [k, oi (by omega) (by omega) (by omega) (by omega) (by omega), ou (by omega)])) (nk (by omega) (by omega) (by omega)) hb
  · refine (pl8 a t.ks.length c w (fun v w' => ∃ g c', v = .slice (some ⟨g, 0, none⟩) t.ks.length c' ∧ t.ks.length ≤ c' ∧ c' ≤ maxLen ∧ w.heap.size < g ∧ g < w'.heap.size ∧ (∀ q, w'.frozen? ⟨g, q, none⟩ = false) ∧ ∀ (j : Nat) (t' : Tr n), t.ks[j]? = some t' → ∃ v0 v1 v2 v3 v4, w'.cell? ⟨g, j * 5, none⟩ = some v0 ∧ w'.cell? ⟨g, j * 5 + 1, none⟩ = some v1 ∧ w'.cell? ⟨g, j * 5 + 2, none⟩ = some v2 ∧ w'.cell? ⟨g, j * 5 + 3, none⟩ = some v3 ∧ w'.cell? ⟨g, j * 5 + 4, none⟩ = some v4 ∧ Rf (fun g => w.heap.size < g ∧ g < w'.heap.size) w' n [v0, v1, v2, v3, v4] t') ?_ ?_).mono ?_
    · rintro v w' w'' ⟨g, c', q1, q2, q3, q4, q5, qf, q6⟩ hh hz
      refine ⟨g, c', q1, q2, q3, q4, by omega, fun q => frozen_q (hh g q4) (qf q), fun j t' hj => ?_⟩
      obtain ⟨v0, v1, v2, v3, v4, a0, a1, a2, a3, a4, r⟩ := q6 j t' hj
      exact ⟨v0, v1, v2, v3, v4, cell_q (hh g q4) a0, cell_q (hh g q4) a1, cell_q (hh g q4) a2, cell_q (hh g q4) a3, cell_q (hh g q4) a4, Rf.to (fun q hq => ⟨⟨hq.1, by have := hq.2; omega⟩, hh q hq.1⟩) _ _ _ r⟩
    · refine (all_pl F0 W0 n t.ks ih a c (zD w) hbz hp1 hall hp2 h6k ?_).mono fun e w' ⟨g, c', he, q1, q2, q3, q4, qf, q5, q6⟩ => ⟨g, c', he, ⟨g, c', rfl, q1, q2, by omega, q4, qf, fun j t' hj => ?_⟩, q6⟩
      · rcases e2 with e2 | ⟨g, f1, f2, f3⟩
        · exact .inl e2
        · exact .inr ⟨g, f1, f3⟩
      · obtain ⟨v0, v1, v2, v3, v4, a0, a1, a2, a3, a4, r⟩ := q5 j t' hj
        exact ⟨v0, v1, v2, v3, v4, a0, a1, a2, a3, a4, Rf.to (fun q hq => ⟨⟨by have := hq.1; omega, hq.2⟩, rfl⟩) _ _ _ r⟩
    · rintro e w' ⟨v, rfl, ⟨g, c', rfl, q2, q3, q4, q5, qf, q6⟩, hb⟩
      refine ⟨_, _, _, _, _, rfl, ⟨some ⟨g, 0, none⟩, c', by rw [k, oi (by omega) (by omega) (by omega) (by omega) (by omega), ou (by omega), nt (by omega) (by omega) (by omega) (by omega)], by unfold maxLen; omega, q2, q3, .inr ⟨g, 0, rfl, ⟨⟨by omega, q5⟩, qf⟩, fun j t' hj => ?_⟩⟩, (fun g' o' l' c'' h => by cases h; exact qf), hb⟩
      obtain ⟨v0, v1, v2, v3, v4, a0, a1, a2, a3, a4, r⟩ := q6 j t' hj
      rw [Nat.zero_add]
      exact ⟨v0, v1, v2, v3, v4, a0, a1, a2, a3, a4, Rf.to (fun q hq => ⟨⟨by have := hq.1; omega, hq.2⟩, rfl⟩) _ _ _ r⟩
  · have m0 : t0 ∈ t.ks := by rw [e2]; simp
    have m1 : t1 ∈ t.ks := by rw [e2]; simp
    refine (pair_pl F0 W0 n t0 t1 ih x y w hb0 e3 e4 (List.all_eq_true.1 hall _ m0) (h6k _ m0) (hp2 _ m0) (List.all_eq_true.1 hall _ m1) (h6k _ m1) (hp2 _ m1)).mono ?_
    rintro e w' ⟨g, c, v0, v1, v2, v3, v4, y0, y1, y2, y3, y4, rfl, q1, q2, q3, q4, qf, ⟨a0, a1, a2, a3, a4⟩, ⟨d0, d1, d2, d3, d4⟩, r0, r1, hb⟩
    refine ⟨_, _, _, _, _, rfl, ⟨some ⟨g, 0, none⟩, c, by rw [k, oi (by omega) (by omega) (by omega) (by omega) (by omega), ou (by omega), nt (by omega) (by omega) (by omega) (by omega), e2]; rfl, by unfold maxLen; omega, by rw [e2]; exact q1, q2, .inr ⟨g, 0, rfl, ⟨⟨q3, q4⟩, qf⟩, fun j t' hj => ?_⟩⟩, (fun g' o' l' c'' h => by cases h; exact qf), hb⟩
    rw [e2] at hj
    match j, hj with
    | 0, hj =>
      obtain rfl := Option.some.inj hj
      exact ⟨v0, v1, v2, v3, v4, a0, a1, a2, a3, a4, r0⟩
    | 1, hj =>
      obtain rfl := Option.some.inj hj
      exact ⟨y0, y1, y2, y3, y4, d0, d1, d2, d3, d4, r1⟩
  · exact (pl10 t.it t.tx w).mono fun e w' ⟨he, hb⟩ => fin e w' (he.trans (by rw [k, ou (by omega)])) (nk (by omega) (by omega) (by omega)) hb
  · have m0 : t0 ∈ t.ks := by rw [e3]; simp
    refine (plPt (some ⟨b, 0, none⟩) w (fun v w' => ∃ g c v0 v1 v2 v3 v4, v = .agg #[.int .i64 11, .int .i64 t.it, .int .u64 0, .string ⟨#[]⟩, .slice (some ⟨g, 0, none⟩) 1 c] ∧ 1 ≤ c ∧ c ≤ maxLen ∧ w.heap.size < g ∧ g < w'.heap.size ∧ (∀ q, w'.frozen? ⟨g, q, none⟩ = false) ∧ (w'.cell? ⟨g, 0, none⟩ = some v0 ∧ w'.cell? ⟨g, 1, none⟩ = some v1 ∧ w'.cell? ⟨g, 2, none⟩ = some v2 ∧ w'.cell? ⟨g, 3, none⟩ = some v3 ∧ w'.cell? ⟨g, 4, none⟩ = some v4) ∧ Rf (fun g => w.heap.size < g ∧ g < w'.heap.size) w' n [v0, v1, v2, v3, v4] t0) ?_ ?_).mono ?_
    · rintro v w' w'' ⟨g, c', v0, v1, v2, v3, v4, q1, q2, q3, q4, q5, qf, ⟨a0, a1, a2, a3, a4⟩, r⟩ hh hz
      exact ⟨g, c', v0, v1, v2, v3, v4, q1, q2, q3, q4, by omega, (fun q => frozen_q (hh g q4) (qf q)), ⟨cell_q (hh g q4) a0, cell_q (hh g q4) a1, cell_q (hh g q4) a2, cell_q (hh g q4) a3, cell_q (hh g q4) a4⟩, Rf.to (fun q hq => ⟨⟨hq.1, by have := hq.2; omega⟩, hh q hq.1⟩) _ _ _ r⟩
    · refine (ptr_pl F0 W0 n t0 ih b t.it u (zD w) hbz e4 e5 (List.all_eq_true.1 hall _ m0) (h6k _ m0) (hp2 _ m0)).mono fun e w' ⟨g, c, v0, v1, v2, v3, v4, he, q1, q2, q3, q4, qf, a0, a1, a2, a3, a4, r, hb⟩ => ⟨11, t.it, 0, ⟨#[]⟩, some ⟨g, 0, none⟩, 1, c, he, ⟨g, c, v0, v1, v2, v3, v4, rfl, q1, q2, by omega, q4, qf, ⟨a0, a1, a2, a3, a4⟩, Rf.to (fun q hq => ⟨⟨by have := hq.1; omega, hq.2⟩, rfl⟩) _ _ _ r⟩, hb⟩
    · rintro e w' ⟨v, rfl, ⟨g, c, v0, v1, v2, v3, v4, rfl, q2, q3, q4, q5, qf, ⟨a0, a1, a2, a3, a4⟩, r⟩, hb⟩
      refine ⟨_, _, _, _, _, rfl, ⟨some ⟨g, 0, none⟩, c, by rw [k, ou (by omega), nt (by omega) (by omega) (by omega) (by omega), e3]; rfl, by unfold maxLen; omega, by rw [e3]; exact q2, q3, .inr ⟨g, 0, rfl, ⟨⟨by omega, q5⟩, qf⟩, fun j t' hj => ?_⟩⟩, (fun g' o' l' c'' h => by cases h; exact qf), hb⟩
      rw [e3] at hj
      match j, hj with
      | 0, hj =>
        obtain rfl := Option.some.inj hj
        exact ⟨v0, v1, v2, v3, v4, a0, a1, a2, a3, a4, Rf.to (fun q hq => ⟨⟨by have := hq.1; omega, hq.2⟩, rfl⟩) _ _ _ r⟩
  · refine (plPt none w (fun v _ => v = .agg #[.int .i64 12, .int .i64 0, .int .u64 0, .string ⟨#[]⟩, .slice none 0 0]) (fun v w' w'' h _ _ => h) ?_).mono ?_
    · exact (plNo (zD w)).mono fun e w' ⟨he, hb⟩ => ⟨12, 0, 0, ⟨#[]⟩, none, 0, 0, he, rfl, hb⟩
    · rintro e w' ⟨v, rfl, rfl, hb⟩
      exact fin _ w' (by rw [k, oi (by omega) (by omega) (by omega) (by omega) (by omega), ou (by omega), nt (by omega) (by omega) (by omega) (by omega)]) (nk (by omega) (by omega) (by omega)) hb
  · exact (pl13 w).mono fun e w' ⟨he, hb⟩ => fin e w' (he.trans (by rw [k, oi (by omega) (by omega) (by omega) (by omega) (by omega), ou (by omega), nt (by omega) (by omega) (by omega) (by omega)])) (nk (by omega) (by omega) (by omega)) hb
theorem plain_any (F0 : Nat → Prop) (W0 : World) : ∀ m, PlOf F0 W0 m := by
  intro m
  induction m with
  | zero => intro t; exact t.elim
  | succ n ih =>
    intro t v w hrg h64 hps hv hb0
    exact (plain_step F0 W0 n ih t v w hrg h64 hps hv hb0).mono fun e w' ⟨v0, v1, v2, v3, v4, he, rf, _, hb⟩ => ⟨v0, v1, v2, v3, v4, he, rf, hb⟩
end Go.Proofs.YthamafijjflfbaaGreat.Dt
/- The document's Same of two values with one tree: true; the condition: the trees in memory. -/
namespace Go.Proofs.YthamafijjflfbaaGreat.Dt
open Go.RowKit
def T2 (w : World) (a0 a1 a2 a3 a4 b0 b1 b2 b3 b4 : Value) (w' : World) : Prop := Below (w.heap.size + 2) ((w.alloc (.cells #[a0, a1, a2, a3, a4] 25)).alloc (.cells #[b0, b1, b2, b3, b4] 25)) w'
theorem T2.drew {w : World} {a0 a1 a2 a3 a4 b0 b1 b2 b3 b4 : Value} {w' : World} (h : T2 w a0 a1 a2 a3 a4 b0 b1 b2 b3 b4 w') : T2 w a0 a1 a2 a3 a4 b0 b1 b2 b3 b4 w'.drew := Below.drew h
theorem T2.below {w : World} {a0 a1 a2 a3 a4 b0 b1 b2 b3 b4 : Value} {w' : World} (h : T2 w a0 a1 a2 a3 a4 b0 b1 b2 b3 b4 w') : Below w.heap.size w w' := (below2 w _ _).trans (Below.mono h (by omega))
theorem T2.step {w : World} {a0 a1 a2 a3 a4 b0 b1 b2 b3 b4 : Value} {w1 w2 : World} (h : T2 w a0 a1 a2 a3 a4 b0 b1 b2 b3 b4 w1) (hb : Below w1.heap.size w1 w2) : T2 w a0 a1 a2 a3 a4 b0 b1 b2 b3 b4 w2 := by
  have := Below.size h
  simp at this
  exact Below.trans h (hb.mono (by omega))
theorem T2.start (w : World) (a0 a1 a2 a3 a4 b0 b1 b2 b3 b4 : Value) : T2 w a0 a1 a2 a3 a4 b0 b1 b2 b3 b4 ((w.alloc (.cells #[a0, a1, a2, a3, a4] 25)).alloc (.cells #[b0, b1, b2, b3, b4] 25)) := Below.refl _ _
theorem T2.c {w : World} {a0 a1 a2 a3 a4 b0 b1 b2 b3 b4 : Value} {w' : World} (h : T2 w a0 a1 a2 a3 a4 b0 b1 b2 b3 b4 w') :
    (w'.cell? ⟨w.heap.size, 0, none⟩ = some (a0) ∧ w'.cell? ⟨w.heap.size, 1, none⟩ = some (a1) ∧ w'.cell? ⟨w.heap.size, 2, none⟩ = some (a2) ∧ w'.cell? ⟨w.heap.size, 3, none⟩ = some (a3) ∧ w'.cell? ⟨w.heap.size, 4, none⟩ = some (a4)) ∧ w'.cell? ⟨w.heap.size + 1, 0, none⟩ = some (b0) ∧ w'.cell? ⟨w.heap.size + 1, 1, none⟩ = some (b1) ∧ w'.cell? ⟨w.heap.size + 1, 2, none⟩ = some (b2) ∧ w'.cell? ⟨w.heap.size + 1, 3, none⟩ = some (b3) ∧ w'.cell? ⟨w.heap.size + 1, 4, none⟩ = some (b4) := by
  have e0 := heap_alloc_new w (.cells #[a0, a1, a2, a3, a4] 25)
  have e1 := heap_alloc_new (w.alloc (.cells #[a0, a1, a2, a3, a4] 25)) (.cells #[b0, b1, b2, b3, b4] 25)
  simp only [World.size_alloc] at e1
  have h0 : w'.heap[w.heap.size]? = some (.cells #[a0, a1, a2, a3, a4] 25 (0, 0)) := (Below.block h w.heap.size (by omega)).trans (((below1 _ _).block _ (by simp)).trans e0)
  have h1 : w'.heap[w.heap.size + 1]? = some (.cells #[b0, b1, b2, b3, b4] 25 (0, 0)) := (Below.block h (w.heap.size + 1) (by omega)).trans e1
  simp [World.cell?, h0, h1]

set_option maxRecDepth 100000 in
set_option maxHeartbeats 4000000 in
theorem sameD : ∀ (n : Nat) (t : Tr n) (v0 v1 v2 v3 v4 x0 x1 x2 x3 x4 : Value) (w : World), Rep w n [v0, v1, v2, v3, v4] t → Rep w n [x0, x1, x2, x3, x4] t →
    Calls Tryz.prog 13 #[.agg #[v0, v1, v2, v3, v4], .agg #[x0, x1, x2, x3, x4]] w fun e w' => e = .returned (.bool true) ∧ Below w.heap.size w w' := by
  intro n
  induction n with
  | zero => intro t; exact t.elim
  | succ n ih =>
    intro t v0 v1 v2 v3 v4 x0 x1 x2 x3 x4 w h h'
    obtain ⟨ad, cap, e, htx, hlen, hcap, hk⟩ := h
    simp only [List.cons.injEq, and_true] at e
    obtain ⟨rfl, rfl, rfl, rfl, rfl⟩ := e
    obtain ⟨ad', cap', e, htx', hlen', hcap', hk'⟩ := h'
    simp only [List.cons.injEq, and_true] at e
    obtain ⟨rfl, rfl, rfl, rfl, rfl⟩ := e
    have HK := Lib.hid hk
    have HK' := Lib.hid hk'
    have hb0 := T2.start w (.int .i64 t.kd) (.int .i64 t.it) (.int .u64 t.ut) (.string t.tx) (.slice ad t.ks.length cap) (.int .i64 t.kd) (.int .i64 t.it) (.int .u64 t.ut) (.string t.tx) (.slice ad' t.ks.length cap')
    have HI : Hid (∀ (s : Tr n) (a0 a1 a2 a3 a4 b0 b1 b2 b3 b4 : Value) (wx : World), Rep w n [a0, a1, a2, a3, a4] s → Rep w n [b0, b1, b2, b3, b4] s → T2 w (.int .i64 t.kd) (.int .i64 t.it) (.int .u64 t.ut) (.string t.tx) (.slice ad t.ks.length cap) (.int .i64 t.kd) (.int .i64 t.it) (.int .u64 t.ut) (.string t.tx) (.slice ad' t.ks.length cap') wx → Calls Tryz.prog 13 #[.agg #[a0, a1, a2, a3, a4], .agg #[b0, b1, b2, b3, b4]] wx fun e w' => e = .returned (.bool true) ∧ T2 w (.int .i64 t.kd) (.int .i64 t.it) (.int .u64 t.ut) (.string t.tx) (.slice ad t.ks.length cap) (.int .i64 t.kd) (.int .i64 t.it) (.int .u64 t.ut) (.string t.tx) (.slice ad' t.ks.length cap') w') := fun s a0 a1 a2 a3 a4 b0 b1 b2 b3 b4 wx ha hb hx => (ih s _ _ _ _ _ _ _ _ _ _ wx (Rep.below hx.below n _ _ ha) (Rep.below hx.below n _ _ hb)).mono fun e w' ⟨a, b⟩ => ⟨a, hx.step b⟩
    have HS : Hid (∀ wx, T2 w (.int .i64 t.kd) (.int .i64 t.it) (.int .u64 t.ut) (.string t.tx) (.slice ad t.ks.length cap) (.int .i64 t.kd) (.int .i64 t.it) (.int .u64 t.ut) (.string t.tx) (.slice ad' t.ks.length cap') wx → (wx.cell? ⟨w.heap.size, 0, none⟩ = some ((.int .i64 t.kd)) ∧ wx.cell? ⟨w.heap.size, 1, none⟩ = some ((.int .i64 t.it)) ∧ wx.cell? ⟨w.heap.size, 2, none⟩ = some ((.int .u64 t.ut)) ∧ wx.cell? ⟨w.heap.size, 3, none⟩ = some ((.string t.tx)) ∧ wx.cell? ⟨w.heap.size, 4, none⟩ = some ((.slice ad t.ks.length cap))) ∧ wx.cell? ⟨w.heap.size + 1, 0, none⟩ = some ((.int .i64 t.kd)) ∧ wx.cell? ⟨w.heap.size + 1, 1, none⟩ = some ((.int .i64 t.it)) ∧ wx.cell? ⟨w.heap.size + 1, 2, none⟩ = some ((.int .u64 t.ut)) ∧ wx.cell? ⟨w.heap.size + 1, 3, none⟩ = some ((.string t.tx)) ∧ wx.cell? ⟨w.heap.size + 1, 4, none⟩ = some ((.slice ad' t.ks.length cap'))) := fun wx h => h.c
    unfold maxLen at hcap hcap'
    clear ih hk hk'
    generalize t.kd = k at HS HI hb0 ⊢
    generalize t.it = i at HS HI hb0 ⊢
    generalize t.ut = u at HS HI hb0 ⊢
    generalize t.tx = s at HS HI hb0 ⊢
    generalize t.ks = ts at HS HI hb0 hlen hlen' HK HK' ⊢
    obtain ⟨⟨c0, c1, c2, c3, c4⟩, d0, d1, d2, d3, d4⟩ := HS.out _ hb0
    go_enter Tryz.func13, Tryz.ntmps13
    go_wp2_with fail
    clear c0 c1 c2 c3 c4 d0 d1 d2 d3 d4
    go_loopw [44] (fun si wr => ∃ (j : Nat), si = .int .i64 j ∧ j ≤ ts.length ∧ T2 w (.int .i64 k) (.int .i64 i) (.int .u64 u) (.string s) (.slice ad ts.length cap) (.int .i64 k) (.int .i64 i) (.int .u64 u) (.string s) (.slice ad' ts.length cap') wr) (fun si _ => ts.length - (intOf si).toNat)
    case atStart => exact ⟨0, rfl, Nat.zero_le _, hb0⟩
    case round =>
      obtain ⟨j, rfl, hj, hb⟩ := hrel
      obtain ⟨⟨c0, c1, c2, c3, c4⟩, d0, d1, d2, d3, d4⟩ := HS.out _ hb
      by_cases hlt : j < ts.length
      · have hne : ts ≠ [] := by intro e; rw [e] at hlt; exact absurd hlt (Nat.not_lt_zero _)
        rcases HK.out with hk | ⟨g, of, hk1, hk2⟩
        · exact absurd hk hne
        rcases HK'.out with hk | ⟨g', of', hk1', hk2'⟩
        · exact absurd hk hne
        subst hk1 hk1'
        obtain ⟨v0, v1, v2, v3, v4, e0, e1, e2, e3, e4, rk⟩ := hk2 j _ (List.getElem?_eq_getElem hlt)
        obtain ⟨x0, x1, x2, x3, x4, f0, f1, f2, f3, f4, rk'⟩ := hk2' j _ (List.getElem?_eq_getElem hlt)
        have hgl : g < w.heap.size := World.block_lt_of_cell? w _ e0
        have hgl' : g' < w.heap.size := World.block_lt_of_cell? w _ f0
        obtain ⟨u0, u1, u2, u3, u4, u5, u6, rfl, rfl, rfl, rfl, rfl⟩ := rep_shape rk
        obtain ⟨y0, y1, y2, y3, y4, y5, y6, rfl, rfl, rfl, rfl, rfl⟩ := rep_shape rk'
        have HX : Hid (∀ wx, T2 w (.int .i64 k) (.int .i64 i) (.int .u64 u) (.string s) (.slice (some ⟨g, of, none⟩) ts.length cap) (.int .i64 k) (.int .i64 i) (.int .u64 u) (.string s) (.slice (some ⟨g', of', none⟩) ts.length cap') wx → (wx.cell? ⟨w.heap.size, 4, none⟩ = some (.slice (some ⟨g, of, none⟩) ts.length cap) ∧ wx.cell? ⟨w.heap.size + 1, 4, none⟩ = some (.slice (some ⟨g', of', none⟩) ts.length cap')) ∧ (wx.cell? ⟨g, of + j * 5, none⟩ = some (.int .i64 u0) ∧ wx.cell? ⟨g, of + j * 5 + 1, none⟩ = some (.int .i64 u1) ∧ wx.cell? ⟨g, of + j * 5 + 2, none⟩ = some (.int .u64 u2) ∧ wx.cell? ⟨g, of + j * 5 + 3, none⟩ = some (.string u3) ∧ wx.cell? ⟨g, of + j * 5 + 4, none⟩ = some (.slice u4 u5 u6)) ∧ wx.cell? ⟨g', of' + j * 5, none⟩ = some (.int .i64 y0) ∧ wx.cell? ⟨g', of' + j * 5 + 1, none⟩ = some (.int .i64 y1) ∧ wx.cell? ⟨g', of' + j * 5 + 2, none⟩ = some (.int .u64 y2) ∧ wx.cell? ⟨g', of' + j * 5 + 3, none⟩ = some (.string y3) ∧ wx.cell? ⟨g', of' + j * 5 + 4, none⟩ = some (.slice y4 y5 y6)) := fun wx h => ⟨⟨h.c.1.2.2.2.2, h.c.2.2.2.2.2⟩, ⟨(h.below.cell (p := ⟨g, of + j * 5, none⟩) hgl).trans e0, (h.below.cell (p := ⟨g, of + j * 5 + 1, none⟩) hgl).trans e1, (h.below.cell (p := ⟨g, of + j * 5 + 2, none⟩) hgl).trans e2, (h.below.cell (p := ⟨g, of + j * 5 + 3, none⟩) hgl).trans e3, (h.below.cell (p := ⟨g, of + j * 5 + 4, none⟩) hgl).trans e4⟩, (h.below.cell (p := ⟨g', of' + j * 5, none⟩) hgl').trans f0, (h.below.cell (p := ⟨g', of' + j * 5 + 1, none⟩) hgl').trans f1, (h.below.cell (p := ⟨g', of' + j * 5 + 2, none⟩) hgl').trans f2, (h.below.cell (p := ⟨g', of' + j * 5 + 3, none⟩) hgl').trans f3, (h.below.cell (p := ⟨g', of' + j * 5 + 4, none⟩) hgl').trans f4⟩
        have HI' := Lib.hid (fun wx hx => HI.out ts[j] _ _ _ _ _ _ _ _ _ _ wx rk rk' hx)
        have j0 : (0 : Int) ≤ (j : Int) := by omega
        have j1 : (j : Int) < (ts.length : Int) := by omega
        clear e0 e1 e2 e3 e4 f0 f1 f2 f3 f4 hk2 hk2' HK HK' rk rk' HI HS
        go_wp2_with fail
        clear c0 c1 c2 c3 c4 d0 d1 d2 d3 d4
        go_region_held3 (fun wx => (wx.cell? ⟨w.heap.size, 4, none⟩ = some (.slice (some ⟨g, of, none⟩) ts.length cap) ∧ wx.cell? ⟨w.heap.size + 1, 4, none⟩ = some (.slice (some ⟨g', of', none⟩) ts.length cap')) ∧ (wx.cell? ⟨g, of + j * 5, none⟩ = some (.int .i64 u0) ∧ wx.cell? ⟨g, of + j * 5 + 1, none⟩ = some (.int .i64 u1) ∧ wx.cell? ⟨g, of + j * 5 + 2, none⟩ = some (.int .u64 u2) ∧ wx.cell? ⟨g, of + j * 5 + 3, none⟩ = some (.string u3) ∧ wx.cell? ⟨g, of + j * 5 + 4, none⟩ = some (.slice u4 u5 u6)) ∧ wx.cell? ⟨g', of' + j * 5, none⟩ = some (.int .i64 y0) ∧ wx.cell? ⟨g', of' + j * 5 + 1, none⟩ = some (.int .i64 y1) ∧ wx.cell? ⟨g', of' + j * 5 + 2, none⟩ = some (.int .u64 y2) ∧ wx.cell? ⟨g', of' + j * 5 + 3, none⟩ = some (.string y3) ∧ wx.cell? ⟨g', of' + j * 5 + 4, none⟩ = some (.slice y4 y5 y6)) (exact HX.out _ (by first | assumption | exact T2.drew (by assumption))) ((go_at_call 13; refine (HI'.out _ (by first | assumption | exact T2.drew (by assumption))).mono ?_; rintro e w1 ⟨rfl, b1⟩))
        all_goals go_wp2_with fail
        all_goals exact ⟨⟨j + 1, by go_num, by omega, by first | assumption | exact T2.drew (by assumption)⟩, by simp [intOf]; omega⟩
      · have hje : j = ts.length := by omega
        go_wp2_with fail
        go_ret
        exact ⟨rfl, hb.below⟩
end Go.Proofs.YthamafijjflfbaaGreat.Dt
/- An assertion of one value that does not hold panics, and the panic is caught; no condition but those that each theorem names. -/
namespace Go.Proofs.YthamafijjflfbaaGreat
open Go.RowKit

theorem tae_any {P : Program} {T E : TypeId} (hr : P.rt.typeAssertionError = T) (hu : P.underlying T = some (.pointer E)) (s d : Option TypeId) (a : TypeId) (m : String) : ∃ o, ∀ w : World, (runtimePanic (.typeAssertion s d a m) : Sem Value).run P w = .halt (.panic (.iface T (.pointer (some ⟨w.heap.size, 0, none⟩)))) (w.alloc o) := by
  refine ⟨.cells #[match s with | some t => typeHandle P t | none => .pointer none, match d with | some t => typeHandle P t | none => .pointer none, typeHandle P a, strVal m] E, fun w => ?_⟩
  simp [runtimePanic, elemOf, newVar, newRow, hr, run_underlying hu]
  try rfl
theorem tae_panic (s d : Option TypeId) (a : TypeId) (m : String) : ∃ o, ∀ w : World, (runtimePanic (.typeAssertion s d a m) : Sem Value).run Tryz.prog w = .halt (.panic (.iface 15 (.pointer (some ⟨w.heap.size, 0, none⟩)))) (w.alloc o) :=
  tae_any (by kernel_rfl) Tryz.underlying15 s d a m

/-- An assertion to a type that is none of an interface: it does not hold. -/
theorem must_ty {t x asserted : TypeId} {d : TypeDesc} {v : Value} (hU : Tryz.prog.underlying asserted = some d) (hd : ∀ m, d ≠ .interface m) (hne : t ≠ asserted) :
    ∃ o, ∀ w : World, (Instr.typeAssert (.iface t v) x asserted false).run Tryz.prog w = .halt (.panic (.iface 15 (.pointer (some ⟨w.heap.size, 0, none⟩)))) (w.alloc o) := by
  obtain ⟨o, ho⟩ := tae_panic (some x) (some t) asserted ""
  refine ⟨o, fun w => ?_⟩
  cases d with
  | interface m => exact absurd rfl (hd m)
  | _ => simp [Instr.typeAssert, run_underlying hU, hne, ho]
theorem must_nil {x asserted : TypeId} {d : TypeDesc} (hU : Tryz.prog.underlying asserted = some d) :
    ∃ o, ∀ w : World, (Instr.typeAssert .nilIface x asserted false).run Tryz.prog w = .halt (.panic (.iface 15 (.pointer (some ⟨w.heap.size, 0, none⟩)))) (w.alloc o) := by
  by_cases hd : ∃ m, d = .interface m
  · obtain ⟨m, rfl⟩ := hd
    obtain ⟨o, ho⟩ := tae_panic none none asserted ""
    exact ⟨o, fun w => by simp [Instr.typeAssert, run_underlying hU, ho]⟩
  · obtain ⟨o, ho⟩ := tae_panic (some x) none asserted ""
    refine ⟨o, fun w => ?_⟩
    cases d with
    | interface m => exact absurd ⟨m, rfl⟩ hd
    | _ => simp [Instr.typeAssert, run_underlying hU, ho]
/-- .. to an interface: a method is lacking. -/
theorem must_lacks {t x asserted : TypeId} {want : Array (String × TypeId)} {v : Value} (hU : Tryz.prog.underlying asserted = some (.interface want)) (h : (Tryz.prog.info? t).map (fun i => (lacking want i.methods).isEmpty) = some false) :
    ∃ o, ∀ w : World, (Instr.typeAssert (.iface t v) x asserted false).run Tryz.prog w = .halt (.panic (.iface 15 (.pointer (some ⟨w.heap.size, 0, none⟩)))) (w.alloc o) := by
  obtain ⟨i, hi, hl⟩ := Option.map_eq_some_iff.1 h
  obtain ⟨m, hm⟩ := missingMethod_some (want := want) (got := i.methods) (fun e => by rw [e] at hl; cases hl)
  obtain ⟨o, ho⟩ := tae_panic none (some t) asserted m
  exact ⟨o, fun w => by simp [Instr.typeAssert, run_underlying hU, typeInfo, hi, hm, ho]⟩
theorem must_has {t x asserted : TypeId} {want : Array (String × TypeId)} {v : Value} (hU : Tryz.prog.underlying asserted = some (.interface want)) (h : (Tryz.prog.info? t).map (fun i => (lacking want i.methods).isEmpty) = some true) (w : World) :
    (Instr.typeAssert (.iface t v) x asserted false).run Tryz.prog w = .ok (.iface t v) w := by
  obtain ⟨i, hi, hl⟩ := Option.map_eq_some_iff.1 h
  simp [Instr.typeAssert, run_underlying hU, typeInfo, hi, missingMethod_none (List.isEmpty_iff.1 hl)]
theorem must_is {t x : TypeId} {d : TypeDesc} {v : Value} (hU : Tryz.prog.underlying t = some d) (hd : ∀ m, d ≠ .interface m) (w : World) :
    (Instr.typeAssert (.iface t v) x t false).run Tryz.prog w = .ok v w := by
  cases d with
  | interface m => exact absurd rfl (hd m)
  | _ => simp [Instr.typeAssert, run_underlying hU]

theorem new_c (w : World) (v : Value) (T : TypeId) : (w.alloc (.cells #[v] T)).cell? ⟨w.heap.size, 0, none⟩ = some v ∧ (w.alloc (.cells #[v] T)).frozen? ⟨w.heap.size, 0, none⟩ = false := by
  have h := heap_alloc_new w (.cells #[v] T)
  generalize w.heap.size = N at h ⊢
  generalize w.alloc (.cells #[v] T) = w' at h ⊢
  simp [World.cell?, World.frozen?, h]

/-- The panic of an assertion that does not hold. -/
def Pan (w w' : World) (e : Ending) : Prop := ∃ a, e = .panicked [{ v := .iface 15 (.pointer (some a)), recovered := false }] ∧ Below w.heap.size w w'

set_option maxRecDepth 100000 in
set_option maxHeartbeats 1000000 in
theorem mustText_no (u : Value) (w : World) (o : Obj) (h : ∀ w : World, (Instr.typeAssert u 20 131 false).run Tryz.prog w = .halt (.panic (.iface 15 (.pointer (some ⟨w.heap.size, 0, none⟩)))) (w.alloc o)) :
    Calls Tryz.prog 128 #[.agg #[], u] w fun e w' => Pan w w' e := by
  go_enter Tryz.func128, Tryz.ntmps128
  go_wp2
  exact ⟨rfl, _, rfl, below2 w _ _⟩

theorem cau_idle (p : Addr) (w : World) :
    CallsD Tryz.prog 86 #[.pointer (some p)] .returning w fun e u' w' => e = .returned (.tuple #[]) ∧ u' = .returning ∧ w' = w := by
  have hn : ∀ w : World, (Instr.typeAssert .nilIface 20 148 true).run Tryz.prog w = .ok (.tuple #[.nilIface, .bool false]) w := fun w => assert_nil Tryz.underlying148 (by kernel_rfl)
  refine callsD_of_wpS Tryz.func86 rfl fun c₀ cs hu => ?_
  apply wpS_seq
  apply wpS_region
  simp [wpOpsS, go_sem, recoverD, hu, Tryz.ntmps86, Exit.thenS, hn]
  apply wpS_seq
  apply wpS_region
  simp [wpOpsS, go_sem, Exit.thenS]
  refine wpS_cond (t := false) (by simp [Act.eval, Array.replicate]) ?_
  simp only [Bool.false_eq_true, if_false]
  refine wpS_of_wp (wp_skip ?_)
  cases c₀
  simp_all [bodyPostS, results, Tryz.results86]

theorem cau_catch (A : Nat) (pa : Addr) (older : List PanicEntry) (w : World) (y : Int) (hc : w.cell? ⟨A, 0, none⟩ = some (.int .i64 y)) (hz : w.frozen? ⟨A, 0, none⟩ = false) :
    CallsD Tryz.prog 86 #[.pointer (some ⟨A, 0, none⟩)] (.panicking ({ v := .iface 15 (.pointer (some pa)), recovered := false } :: older)) w fun e u' w' =>
      e = .returned (.tuple #[]) ∧ u' = .panicking ({ v := .iface 15 (.pointer (some pa)), recovered := true } :: older) ∧ w' = w.setCell ⟨A, 0, none⟩ (.int .i64 20) := by
  have hn : ∀ w : World, (Instr.typeAssert (.iface 15 (.pointer (some pa))) 20 148 true).run Tryz.prog w = .ok (.tuple #[.iface 15 (.pointer (some pa)), .bool true]) w := fun w => run_typeAssert_hasB Tryz.underlying148 (by kernel_rfl) _ _ w
  refine callsD_of_wpS Tryz.func86 rfl fun c₀ cs hu => ?_
  apply wpS_seq
  apply wpS_region
  simp [wpOpsS, go_sem, recoverD, hu, Tryz.ntmps86, Exit.thenS, hn]
  apply wpS_seq
  apply wpS_region
  simp [wpOpsS, go_sem, Exit.thenS]
  refine wpS_cond (t := true) (by simp [Act.eval, Array.replicate]) ?_
  simp only [if_true]
  apply wpS_region
  simp [wpOpsS, go_sem, hc, hz, bodyPostS, results, Tryz.results86]

/-- The question of type Q is asked, panicking, by function F. -/
def MethM (Q F : Nat) : Prop := (∀ w : World, (method 320 Q (.agg #[]) "conduit/want.must").run Tryz.prog w = .ok (F, .agg #[]) w) ∧ ∀ (args : Array Value) (w : World), (callFunc F args).run Tryz.prog w = .ok (.enter F args) w

set_option maxRecDepth 100000 in
set_option maxHeartbeats 1000000 in
theorem caught_no (Q F : Nat) (u : Value) (w : World) (hm : MethM Q F) (hF : ∀ w, Calls Tryz.prog F #[.agg #[], u] w fun e w' => Pan w w' e) :
    Calls Tryz.prog 70 #[.iface Q (.agg #[]), u] w fun e w' => e = .returned (.tuple #[.nilIface, .int .i64 20]) ∧ Below w.heap.size w w' := by
  have hmf : ∀ (fn : Fn) (first cap : Array Value) (w : World), (Instr.makeFunc fn first cap).run Tryz.prog w = .ok (.func fn first cap) w := fun _ _ _ _ => rfl
  obtain ⟨hmm, hcf⟩ := hm
  have HF := Lib.hid hF
  clear hF
  go_enter_defers Tryz.func70, Tryz.ntmps70
  go_wp2_with fail
  refine (HF.out _).mono ?_
  rintro e w1 ⟨pa, rfl, b1⟩
  have b0 := below1 w (.cells #[.int .i64 0] 31)
  have c1 : w1.cell? ⟨w.heap.size, 0, none⟩ = some (.int .i64 0) := (b1.cell (p := ⟨w.heap.size, 0, none⟩) (by simp)).trans (new_c w _ 31).1
  have f1 : w1.frozen? ⟨w.heap.size, 0, none⟩ = false := (b1.frozen (p := ⟨w.heap.size, 0, none⟩) (by simp)).trans (new_c w (.int .i64 0) 31).2
  have B1 := b0.trans (b1.mono b0.size)
  go_wp2
  refine leaves_cons (f := 86) (args := #[.pointer (some ⟨w.heap.size, 0, none⟩)]) (by simp) (by simp [go_sem]) ?_
  refine (cau_catch w.heap.size pa [] _ 0 c1 f1).mono ?_
  rintro e u' w'' ⟨rfl, rfl, rfl⟩
  have g1 : (w1.setCell ⟨w.heap.size, 0, none⟩ (.int .i64 20)).cell? ⟨w.heap.size, 0, none⟩ = some (.int .i64 20) := by simp [World.cell?_setCell_same, c1]
  simp [Leaves, settle, results, Tryz.results70, go_sem, g1]
  exact B1.setCell (Nat.le_refl _) _

set_option maxRecDepth 100000 in
set_option maxHeartbeats 1000000 in
theorem caught_yes (Q F : Nat) (u : Value) (w : World) (hm : MethM Q F) (hF : ∀ w, Calls Tryz.prog F #[.agg #[], u] w fun e w' => e = .returned u ∧ Below w.heap.size w w') :
    Calls Tryz.prog 70 #[.iface Q (.agg #[]), u] w fun e w' => e = .returned (.tuple #[u, .int .i64 0]) ∧ Below w.heap.size w w' := by
  have hmf : ∀ (fn : Fn) (first cap : Array Value) (w : World), (Instr.makeFunc fn first cap).run Tryz.prog w = .ok (.func fn first cap) w := fun _ _ _ _ => rfl
  obtain ⟨hmm, hcf⟩ := hm
  have HF := Lib.hid hF
  clear hF
  go_enter_defers Tryz.func70, Tryz.ntmps70
  go_wp2_with fail
  refine (HF.out _).mono ?_
  rintro e w1 ⟨rfl, b1⟩
  have b0 := below1 w (.cells #[.int .i64 0] 31)
  have c1 : w1.cell? ⟨w.heap.size, 0, none⟩ = some (.int .i64 0) := (b1.cell (p := ⟨w.heap.size, 0, none⟩) (by simp)).trans (new_c w _ 31).1
  have f1 : w1.frozen? ⟨w.heap.size, 0, none⟩ = false := (b1.frozen (p := ⟨w.heap.size, 0, none⟩) (by simp)).trans (new_c w (.int .i64 0) 31).2
  have B1 := b0.trans (b1.mono b0.size)
  go_wp2
  refine leaves_cons (f := 86) (args := #[.pointer (some ⟨w.heap.size, 0, none⟩)]) (by simp) (by simp [go_sem]) ?_
  refine (cau_idle ⟨w.heap.size, 0, none⟩ _).mono ?_
  rintro e u' w'' ⟨rfl, rfl, rfl⟩
  have g1 : (w1.setCell ⟨w.heap.size, 0, none⟩ (.int .i64 0)).cell? ⟨w.heap.size, 0, none⟩ = some (.int .i64 0) := by simp [World.cell?_setCell_same, c1]
  simp [Leaves, settle, results, Tryz.results70, go_sem, g1]
  exact B1.setCell (Nat.le_refl _) _
end Go.Proofs.YthamafijjflfbaaGreat
