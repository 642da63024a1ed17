/- What stays of old blocks, and a block of one number; no condition but those that each theorem names. -/
import Derived.Test.YtdgjhclncjoonaaBase
namespace Go.Proofs.Ytdgjhclncjoonaa
open Go.RowKit

theorem grown_trans {a w w' : World} {row : Option Nat} (h : a.grownBy w row) (k : w.grownBy w' row) : a.grownBy w' row :=
  ⟨k.os.trans h.os, k.tape.trans h.tape, k.output.trans h.output, Nat.le_trans h.size k.size, fun i hi hn => (k.block i (Nat.lt_of_lt_of_le hi h.size) hn).trans (h.block i hi hn)⟩
theorem grown_set (w : World) (b o : Nat) (v : Value) : w.grownBy (w.setCell ⟨b, o, none⟩ v) (some b) :=
  ⟨rfl, rfl, rfl, by simp [World.setCell], fun k _ hn => by simp only [World.setCell, Array.getElem?_modify]; rw [if_neg (fun e => hn (by rw [e]))]⟩
theorem grown_below {w w' : World} {row : Option Nat} (h : Below w.heap.size w w') : w.grownBy w' row :=
  ⟨h.os, h.tape, h.output, h.size, fun k hk _ => h.block k hk⟩
def Lf (w : World) (l : Nat) (k : Int) : Prop := w.heap[l]? = some (.cells #[.int .i64 k] 3 (0, 0))
theorem Lf.c {w : World} {l : Nat} {k : Int} (h : Lf w l k) : w.cell? ⟨l, 0, none⟩ = some (.int .i64 k) := by unfold Lf at h; simp [World.cell?, h]
theorem Lf.f {w : World} {l : Nat} {k : Int} (h : Lf w l k) : w.frozen? ⟨l, 0, none⟩ = false := by unfold Lf at h; simp [World.frozen?, h]
theorem Lf.lt {w : World} {l : Nat} {k : Int} (h : Lf w l k) : l < w.heap.size := by unfold Lf at h; exact (Array.getElem?_eq_some_iff.1 h).1
theorem Lf.below {w w' : World} {l : Nat} {k : Int} (h : Lf w l k) (hb : Below w.heap.size w w') : Lf w' l k := by
  have := h.lt
  unfold Lf at h ⊢; rw [hb.block l this]; exact h
theorem Lf.set {w : World} {l : Nat} {k : Int} (h : Lf w l k) (k' : Int) : Lf (w.setCell ⟨l, 0, none⟩ (.int .i64 k')) l k' := by
  unfold Lf at h ⊢
  simp [World.setCell, Array.getElem?_modify, h]
end Go.Proofs.Ytdgjhclncjoonaa
