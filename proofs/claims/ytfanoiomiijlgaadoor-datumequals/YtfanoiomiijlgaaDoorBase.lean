/- The walks' ground over this seat's program: the reader's three cells in a block, a Datum's five cells in a block, what stays of old blocks, and the reader's call 'skip'; no condition but those that each theorem names. -/
import Derived.Test.YtfanoiomiijlgaaDoorRows
import Derived.Test.YtfanoiomiijlgaaDoorShelf
import Derived.WalkKit
import Derived.WalkSpells
import Derived.WalkLawsBesides
import Derived.Deep.QuietTactic
import Derived.BigQuiet
namespace Go.Proofs.YtfanoiomiijlgaaDoor
open Go.RowKit

/-- The reader at block b: its text, its place, its count of parts. -/
def Rd (w : World) (b : Nat) (s : ByteArray) (a n : Int) : Prop := w.heap[b]? = some (.cells #[.string s, .int .i64 a, .int .i64 n] 51 (0, 0))

theorem Rd.c0 {w : World} {b : Nat} {s : ByteArray} {a n : Int} (h : Rd w b s a n) : w.cell? ⟨b, 0, none⟩ = some (.string s) := by
  unfold Rd at h; simp [World.cell?, h]
theorem Rd.c1 {w : World} {b : Nat} {s : ByteArray} {a n : Int} (h : Rd w b s a n) : w.cell? ⟨b, 1, none⟩ = some (.int .i64 a) := by
  unfold Rd at h; simp [World.cell?, h]
theorem Rd.c2 {w : World} {b : Nat} {s : ByteArray} {a n : Int} (h : Rd w b s a n) : w.cell? ⟨b, 2, none⟩ = some (.int .i64 n) := by
  unfold Rd at h; simp [World.cell?, h]
theorem Rd.f {w : World} {b o : Nat} {s : ByteArray} {a n : Int} (h : Rd w b s a n) : w.frozen? ⟨b, o, none⟩ = false := by
  unfold Rd at h; simp [World.frozen?, h]


theorem tail_take (s : ByteArray) (a : Nat) : List.take (s.size - a) (List.drop a s.data.toList) = List.drop a s.data.toList :=
  List.take_of_length_le (by rw [List.length_drop, Array.length_toList]; exact Nat.le_refl _)

set_option maxHeartbeats 400000 in
theorem skip_no (b : Nat) (s p : ByteArray) (a n : Nat) (w : World) (h : Rd w b s a n) (ha : a ≤ s.size) (_hs : s.size ≤ maxLen)
    (hp : Lib.hasPrefix (List.drop a s.data.toList) p.data.toList = false) :
    Calls Tryd.prog 42 #[.pointer (some ⟨b, 0, none⟩), .string p] w fun e w' => e = .returned (.bool false) ∧ ∃ k, w' = w.drewN k := by
  have h0 := h.c0
  have h1 := h.c1
  unfold maxLen at _hs
  clear h
  rw [← tail_take s a] at hp
  go_enter Tryd.func42, Tryd.ntmps42
  go_wp2
  go_quiet ((go_at_call 54; exact Calls.quiet_of_same (Tryd.strings_HasPrefix _ _ _)))
  go_wp2
  go_ret
  exact ⟨rfl, _, rfl⟩

set_option maxHeartbeats 400000 in
theorem skip_yes (b : Nat) (s p : ByteArray) (a n : Nat) (w : World) (h : Rd w b s a n) (ha : a ≤ s.size) (hs : s.size ≤ maxLen)
    (hp : Lib.hasPrefix (List.drop a s.data.toList) p.data.toList = true) (hpl : a + p.size ≤ s.size) :
    Calls Tryd.prog 42 #[.pointer (some ⟨b, 0, none⟩), .string p] w fun e w' => e = .returned (.bool true) ∧ ∃ k, w' = (w.drewN k).setCell ⟨b, 1, none⟩ (.int .i64 ↑(a + p.size)) := by
  have h0 := h.c0
  have h1 := h.c1
  have hf := h.f (o := 1)
  unfold maxLen at hs
  clear h
  rw [← tail_take s a] at hp
  go_enter Tryd.func42, Tryd.ntmps42
  go_wp2
  go_quiet ((go_at_call 54; exact Calls.quiet_of_same (Tryd.strings_HasPrefix _ _ _)))
  go_wp2
  go_ret
  exact ⟨rfl, _, rfl⟩

theorem least_cons (s : String) (l : List String) : ∃ m, Instr.least (s :: l) = some m := ⟨_, rfl⟩

theorem least_parted (L : List String) (p : String → Bool) (f : String → String) (h : L ≠ []) :
    ∃ m, (Instr.least (L.partition p).2 <|> Instr.least ((L.partition p).1.map f)) = some m := by
  rw [List.partition_eq_filter_filter]
  cases hb : L.filter (not ∘ p) with
  | cons s l => obtain ⟨m, hm⟩ := least_cons s l; exact ⟨m, by rw [hm]; rfl⟩
  | nil =>
    cases ha : L.filter p with
    | cons s l => obtain ⟨m, hm⟩ := least_cons (f s) (l.map f); exact ⟨m, by rw [List.map_cons, hm]; rfl⟩
    | nil =>
      exfalso
      match L, h with
      | x :: l, _ =>
        by_cases hx : p x = true
        · simp [hx] at ha
        · simp [hx] at hb

theorem missing_some (want : Array (String × TypeId)) (got : Array Method)
    (h : (want.toList.filter fun (name, sig) => !got.any fun m => m.name == name && m.sig == sig).isEmpty = false) : ∃ m, Instr.missingMethod want got = some m := by
  refine least_parted _ _ _ ?_
  intro e
  rw [List.map_eq_nil_iff] at e
  rw [e] at h
  cases h

theorem run_assert_no {P : Program} {t x asserted : TypeId} {want : Array (String × TypeId)} {v z : Value} {w : World} {i : TypeInfo}
    (hU : P.underlying asserted = some (.interface want)) (hI : P.info? t = some i)
    (hm : (want.toList.filter fun (name, sig) => !i.methods.any fun m => m.name == name && m.sig == sig).isEmpty = false)
    (hz : (zeroValue asserted).run P w = .ok z w) :
    (Instr.typeAssert (.iface t v) x asserted true).run P w = .ok (.tuple #[z, .bool false]) w := by
  obtain ⟨m, hmm⟩ := missing_some _ _ hm
  simp [Instr.typeAssert, run_underlying hU, typeInfo, hI, hmm, hz]



theorem grown_trans {a w w' : World} {row : Option Nat} (h : a.grownBy w row) (k : w.grownBy w' row) : a.grownBy w' row :=
  ⟨k.os.trans h.os, k.tape.trans h.tape, k.output.trans h.output, Nat.le_trans h.size k.size, fun i hi hn => (k.block i (Nat.lt_of_lt_of_le hi h.size) hn).trans (h.block i hi hn)⟩
theorem grown_drewN (w : World) (k : Nat) (row : Option Nat) : w.grownBy (w.drewN k) row := ⟨rfl, rfl, rfl, Nat.le_refl _, fun _ _ _ => rfl⟩
theorem grown_set (w : World) (b o : Nat) (v : Value) : w.grownBy (w.setCell ⟨b, o, none⟩ v) (some b) :=
  ⟨rfl, rfl, rfl, by simp [World.setCell], fun k _ hn => by simp only [World.setCell, Array.getElem?_modify]; rw [if_neg (fun e => hn (by rw [e]))]⟩

theorem Rd.set1 {w : World} {b : Nat} {s : ByteArray} {a n : Int} (h : Rd w b s a n) (a' : Int) : Rd (w.setCell ⟨b, 1, none⟩ (.int .i64 a')) b s a' n := by
  unfold Rd at h ⊢
  simp [World.setCell, Array.getElem?_modify, h]
theorem Rd.set2 {w : World} {b : Nat} {s : ByteArray} {a n : Int} (h : Rd w b s a n) (n' : Int) : Rd (w.setCell ⟨b, 2, none⟩ (.int .i64 n')) b s a n' := by
  unfold Rd at h ⊢
  simp [World.setCell, Array.getElem?_modify, h]
theorem Rd.lt {w : World} {b : Nat} {s : ByteArray} {a n : Int} (h : Rd w b s a n) : b < w.heap.size := by
  unfold Rd at h; exact (Array.getElem?_eq_some_iff.1 h).1
theorem Rd.alloc {w : World} {b : Nat} {s : ByteArray} {a n : Int} (h : Rd w b s a n) (o : Obj) : Rd (w.alloc o) b s a n := by
  have := h.lt
  unfold Rd at h ⊢
  rw [Below.heap_alloc _ _ _ this]; exact h
theorem Rd.setOther {w : World} {b k o : Nat} {s : ByteArray} {a n : Int} (h : Rd w b s a n) (hk : b ≠ k) (v : Value) : Rd (w.setCell ⟨k, o, none⟩ v) b s a n := by
  unfold Rd at h ⊢
  rw [Below.heap_setCell _ _ _ _ hk]; exact h

theorem skipN (b : Nat) (s p : ByteArray) (a n : Nat) (w : World) (h : Rd w b s a n) (ha : a ≤ s.size) (hs : s.size ≤ maxLen)
    (hp : Lib.hasPrefix (List.drop a s.data.toList) p.data.toList = false) :
    Calls Tryd.prog 42 #[.pointer (some ⟨b, 0, none⟩), .string p] w fun e w' => e = .returned (.bool false) ∧ Rd w' b s a n ∧ w.grownBy w' (some b) := by
  refine (skip_no b s p a n w h ha hs hp).mono ?_
  rintro e w' ⟨rfl, k, rfl⟩
  exact ⟨rfl, h, grown_drewN _ _ _⟩

theorem skipY (b : Nat) (s p : ByteArray) (a n : Nat) (w : World) (h : Rd w b s a n) (ha : a ≤ s.size) (hs : s.size ≤ maxLen)
    (hp : Lib.hasPrefix (List.drop a s.data.toList) p.data.toList = true) (hpl : a + p.size ≤ s.size) :
    Calls Tryd.prog 42 #[.pointer (some ⟨b, 0, none⟩), .string p] w fun e w' => e = .returned (.bool true) ∧ Rd w' b s ↑(a + p.size) n ∧ w.grownBy w' (some b) := by
  refine (skip_yes b s p a n w h ha hs hp hpl).mono ?_
  rintro e w' ⟨rfl, k, rfl⟩
  exact ⟨rfl, Rd.set1 (w := w.drewN k) h _, grown_trans (grown_drewN _ _ _) (grown_set _ _ _ _)⟩

/-- A Datum in a block of its own. -/
def D5 (w : World) (N : Nat) (v0 v1 v2 v3 v4 : Value) : Prop := w.heap[N]? = some (.cells #[v0, v1, v2, v3, v4] 25 (0, 0))
theorem D5.kept {w w' : World} {N b : Nat} {v0 v1 v2 v3 v4 : Value} (h : D5 w N v0 v1 v2 v3 v4) (hg : w.grownBy w' (some b)) (hne : N ≠ b) : D5 w' N v0 v1 v2 v3 v4 := by
  unfold D5 at h ⊢
  rw [hg.block N (Array.getElem?_eq_some_iff.1 h).1 (fun e => hne (Option.some.inj e))]; exact h
theorem D5.c {w : World} {N : Nat} {v0 v1 v2 v3 v4 : Value} (h : D5 w N v0 v1 v2 v3 v4) :
    w.cell? ⟨N, 0, none⟩ = some v0 ∧ w.cell? ⟨N, 1, none⟩ = some v1 ∧ w.cell? ⟨N, 2, none⟩ = some v2 ∧ w.cell? ⟨N, 3, none⟩ = some v3 ∧ w.cell? ⟨N, 4, none⟩ = some v4 := by
  unfold D5 at h; simp [World.cell?, h]
theorem D5.f {w : World} {N o : Nat} {v0 v1 v2 v3 v4 : Value} (h : D5 w N v0 v1 v2 v3 v4) : w.frozen? ⟨N, o, none⟩ = false := by
  unfold D5 at h; simp [World.frozen?, h]
theorem D5.new (w : World) (v0 v1 v2 v3 v4 : Value) : D5 (w.alloc (.cells #[v0, v1, v2, v3, v4] 25)) w.heap.size v0 v1 v2 v3 v4 := by
  unfold D5; exact heap_alloc_new w _


theorem D5.lt {w : World} {N : Nat} {v0 v1 v2 v3 v4 : Value} (h : D5 w N v0 v1 v2 v3 v4) : N < w.heap.size := by
  unfold D5 at h; exact (Array.getElem?_eq_some_iff.1 h).1
theorem set_blk {w : World} {N o : Nat} {cs : Array Value} (h : w.heap[N]? = some (.cells cs 25 (0, 0))) (v : Value) : (w.setCell ⟨N, o, none⟩ v).heap[N]? = some (.cells (cs.setIfInBounds o v) 25 (0, 0)) := by
  simp [World.setCell, Array.getElem?_modify, h]
theorem D5.set {w : World} {N : Nat} {v0 v1 v2 v3 v4 : Value} (h : D5 w N v0 v1 v2 v3 v4) (u0 u1 u2 u3 u4 : Value) :
    D5 (((((w.setCell ⟨N, 0, none⟩ u0).setCell ⟨N, 1, none⟩ u1).setCell ⟨N, 2, none⟩ u2).setCell ⟨N, 3, none⟩ u3).setCell ⟨N, 4, none⟩ u4) N u0 u1 u2 u3 u4 :=
  set_blk (set_blk (set_blk (set_blk (set_blk h u0) u1) u2) u3) u4
theorem grown_setNew {w0 w : World} {row : Option Nat} (h : w0.grownBy w row) {N o : Nat} (hN : w0.heap.size ≤ N) (u : Value) : w0.grownBy (w.setCell ⟨N, o, none⟩ u) row :=
  ⟨h.os, h.tape, h.output, by have := h.size; simp only [World.setCell, Array.size_modify]; exact this,
    fun k hk hn => (Below.heap_setCell w ⟨N, o, none⟩ u k (by show k ≠ N; omega)).trans (h.block k hk hn)⟩
/-- A Datum's five cells written in a block that is newer than w0. -/
theorem grown_set5 {w0 w : World} {row : Option Nat} (h : w0.grownBy w row) {N : Nat} (hN : w0.heap.size ≤ N) (u0 u1 u2 u3 u4 : Value) :
    w0.grownBy (((((w.setCell ⟨N, 0, none⟩ u0).setCell ⟨N, 1, none⟩ u1).setCell ⟨N, 2, none⟩ u2).setCell ⟨N, 3, none⟩ u3).setCell ⟨N, 4, none⟩ u4) row :=
  grown_setNew (grown_setNew (grown_setNew (grown_setNew (grown_setNew h hN u0) hN u1) hN u2) hN u3) hN u4
theorem Rd.set5 {w : World} {b N : Nat} {s : ByteArray} {a n : Int} (h : Rd w b s a n) (hne : b ≠ N) (u0 u1 u2 u3 u4 : Value) :
    Rd (((((w.setCell ⟨N, 0, none⟩ u0).setCell ⟨N, 1, none⟩ u1).setCell ⟨N, 2, none⟩ u2).setCell ⟨N, 3, none⟩ u3).setCell ⟨N, 4, none⟩ u4) b s a n :=
  ((((h.setOther hne u0).setOther hne u1).setOther hne u2).setOther hne u3).setOther hne u4

/-- A function's two results, the first a Datum in a block. -/
theorem res_dat {fn : Func} {i j : Nat} (hres : fn.results = #[.cell i 25, .tmp j]) {tmps : Array Value} {W : World} {N : Nat} {v0 v1 v2 v3 v4 : Value} (D : D5 W N v0 v1 v2 v3 v4)
    (hi : tmps.getD i undef = .pointer (some ⟨N, 0, none⟩)) : (results fn tmps).run Tryd.prog W = .ok (.tuple #[.agg #[v0, v1, v2, v3, v4], tmps.getD j undef]) W := by
  obtain ⟨c0, c1, c2, c3, c4⟩ := D.c
  have hi' : tmps[i]?.getD undef = .pointer (some ⟨N, 0, none⟩) := by simpa using hi
  simp [results, hres, hi', go_sem, c0, c1, c2, c3, c4]

end Go.Proofs.YtfanoiomiijlgaaDoor
