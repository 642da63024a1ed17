/- A block of cells that one holds; no condition. -/
import Derived.Test.YtbaalkkhbcclnaaLawA
namespace Go.Proofs.Ytbaalkkhbcclnaa
open Go.RowKit

/-- A block of cells. -/
def Bk (w : World) (N : Nat) (cs : Array Value) (T : TypeId) : Prop := w.heap[N]? = some (.cells cs T (0, 0))
theorem Bk.new (w : World) (cs : Array Value) (T : TypeId) : Bk (w.alloc (.cells cs T)) w.heap.size cs T := heap_alloc_new w _
theorem Bk.lt {w : World} {N : Nat} {cs : Array Value} {T : TypeId} (h : Bk w N cs T) : N < w.heap.size := (Array.getElem?_eq_some_iff.1 h).1
theorem Bk.step {w w' : World} {N : Nat} {cs : Array Value} {T : TypeId} (h : Bk w N cs T) (hb : Below w.heap.size w w') : Bk w' N cs T := (hb.block N h.lt).trans h
theorem Bk.c {w : World} {N : Nat} {cs : Array Value} {T : TypeId} (h : Bk w N cs T) (o : Nat) : w.cell? ⟨N, o, none⟩ = cs[o]? := by
  unfold Bk at h
  simp [World.cell?, h]
theorem Bk.f {w : World} {N : Nat} {cs : Array Value} {T : TypeId} (h : Bk w N cs T) (o : Nat) : w.frozen? ⟨N, o, none⟩ = false := by
  unfold Bk at h
  simp [World.frozen?, h]
theorem Bk.set {w : World} {N : Nat} {cs : Array Value} {T : TypeId} (h : Bk w N cs T) (o : Nat) (v : Value) : Bk (w.setCell ⟨N, o, none⟩ v) N (cs.setIfInBounds o v) T := by
  unfold Bk at h ⊢
  simp [World.setCell, Array.getElem?_modify, h]
theorem Bk.other {w : World} {N : Nat} {cs : Array Value} {T : TypeId} (h : Bk w N cs T) (a : Addr) (v : Value) (hne : N ≠ a.block) : Bk (w.setCell a v) N cs T := (Below.heap_setCell w a v N hne).trans h
theorem Bk.alloc {w : World} {N : Nat} {cs : Array Value} {T : TypeId} (h : Bk w N cs T) (o : Obj) : Bk (w.alloc o) N cs T := h.step (below1 w o)
theorem Bk.drew {w : World} {N : Nat} {cs : Array Value} {T : TypeId} (h : Bk w N cs T) : Bk w.drew N cs T := h
/-- Two cells written over. -/
theorem Bk.set2 {w : World} {A : Nat} {y0 y1 x0 x1 : Value} {T : TypeId} (h : Bk w A #[y0, y1] T) :
    Bk ((w.setCell ⟨A, 0, none⟩ x0).setCell ⟨A, 1, none⟩ x1) A #[x0, x1] T ∧ Below A w ((w.setCell ⟨A, 0, none⟩ x0).setCell ⟨A, 1, none⟩ x1) := by
  have h0 : Bk _ A #[x0, y1] T := h.set 0 x0
  have h1 : Bk _ A #[x0, x1] T := h0.set 1 x1
  exact ⟨h1, ((Below.refl A w).setCell (Nat.le_refl A) _).setCell (Nat.le_refl A) _⟩
theorem four_below (w : World) (o p q r : Obj) : Below w.heap.size w ((((w.alloc o).alloc p).alloc q).alloc r).drew := by
  repeat (with_reducible first | exact Below.refl _ _ | apply below_al | apply Below.drew)
/-- Take, by what it keeps. -/
theorem take_b {L l a b n : Int} (h : Ft L l a b n) (w : World) : Calls Try.prog 11 #[.agg #[.int .i64 L, .int .i64 l], .int .i64 a, .int .i64 b, .int .i64 n] w fun e w' => e = .returned (.tuple #[.agg #[.int .i64 (if lv L l a b n < b then lv L l a b n else lv L l a b n - b), .int .i64 (max l n)], .bool (!decide (lv L l a b n < b))]) ∧ Below w.heap.size w w' :=
  (take_any h w).mono fun _ _ ⟨he, o, p, q, r, hw⟩ => ⟨he, hw ▸ four_below w o p q r⟩
end Go.Proofs.Ytbaalkkhbcclnaa
