/- Blocks of cells that one holds, and what Done does to a breaker that fails again and again; no condition but those that each theorem names. -/
import Derived.Test.YtdmjhjfieabbbaaBd
namespace Go.Proofs.Ytdmjhjfieabbbaa
open Go.RowKit

/-- A block of cells. -/
def Bk (w : World) (N : Nat) (cs : Array Value) (T : TypeId) : Prop := w.heap[N]? = some (.cells cs T (0, 0))
theorem Bk.new (w : World) (cs : Array Value) (T : TypeId) : Bk (w.alloc (.cells cs T)) w.heap.size cs T := heap_alloc_new w _
theorem Bk.lt {w : World} {N : Nat} {cs : Array Value} {T : TypeId} (h : Bk w N cs T) : N < w.heap.size := (Array.getElem?_eq_some_iff.1 h).1
theorem Bk.step {w w' : World} {N : Nat} {cs : Array Value} {T : TypeId} (h : Bk w N cs T) (hb : Below w.heap.size w w') : Bk w' N cs T := (hb.block N h.lt).trans h
theorem Bk.c {w : World} {N : Nat} {cs : Array Value} {T : TypeId} (h : Bk w N cs T) (o : Nat) : w.cell? ⟨N, o, none⟩ = cs[o]? := by
  unfold Bk at h
  simp [World.cell?, h]
theorem Bk.f {w : World} {N : Nat} {cs : Array Value} {T : TypeId} (h : Bk w N cs T) (o : Nat) : w.frozen? ⟨N, o, none⟩ = false := by
  unfold Bk at h
  simp [World.frozen?, h]
theorem Bk.set {w : World} {N : Nat} {cs : Array Value} {T : TypeId} (h : Bk w N cs T) (o : Nat) (v : Value) : Bk (w.setCell ⟨N, o, none⟩ v) N (cs.setIfInBounds o v) T := by
  unfold Bk at h ⊢
  simp [World.setCell, Array.getElem?_modify, h]
theorem Bk.other {w : World} {N : Nat} {cs : Array Value} {T : TypeId} (h : Bk w N cs T) (a : Addr) (v : Value) (hne : N ≠ a.block) : Bk (w.setCell a v) N cs T := (Below.heap_setCell w a v N hne).trans h
theorem Bk.alloc {w : World} {N : Nat} {cs : Array Value} {T : TypeId} (h : Bk w N cs T) (o : Obj) : Bk (w.alloc o) N cs T := h.step (Gw.al (Gw.refl w) o)
theorem Bk.drew {w : World} {N : Nat} {cs : Array Value} {T : TypeId} (h : Bk w N cs T) : Bk w.drew N cs T := h
/-- Two cells written over. -/
theorem Bk.set2 {w : World} {A : Nat} {y0 y1 x0 x1 : Value} {T : TypeId} (h : Bk w A #[y0, y1] T) :
    Bk ((w.setCell ⟨A, 0, none⟩ x0).setCell ⟨A, 1, none⟩ x1) A #[x0, x1] T ∧ Below A w ((w.setCell ⟨A, 0, none⟩ x0).setCell ⟨A, 1, none⟩ x1) := by
  have h0 : Bk _ A #[x0, y1] T := h.set 0 x0
  have h1 : Bk _ A #[x0, x1] T := h0.set 1 x1
  exact ⟨h1, ((Below.refl A w).setCell (Nat.le_refl A) _).setCell (Nat.le_refl A) _⟩

/-- When the time ends, behind so many failures. -/
def unt (a b n : Int) (j : Nat) : Int := if (j : Int) = a then n + b else 0
/-- One bad result more, and one that is neither. -/
theorem done_bad {a b n er : Int} {j : Nat} (hj : (j : Int) < a) (ha : a ≤ 50) (hb : 0 ≤ b ∧ b ≤ 1000000) (hn : 0 ≤ n ∧ n ≤ 1099511627776) (hk : kd er = -1) (v1 v2 v3 v4 v5 v6 v7 v8 v9 : Value) (w : World) :
    Calls Try.prog 14 #[.agg #[.int .i64 j, .int .i64 0], .int .i64 a, .int .i64 b, .int .i64 n, .agg #[.int .i64 er, v1, v2, v3, v4, v5, v6, v7, v8, v9]] w fun e w' => e = .returned (.agg #[.int .i64 ((j : Int) + 1), .int .i64 (unt a b n (j + 1))]) ∧ Gw w w' := by
  have h := done_any j 0 a b n er v1 v2 v3 v4 v5 v6 v7 v8 v9 w (by omega) (by omega) hb hn
  rw [hk] at h
  rw [show dnF j a (-1) = (j : Int) + 1 by simp [dnF, hj], show dnU j 0 a b n (-1) = unt a b n (j + 1) by simp [dnU, unt, hj]] at h
  exact h.mono fun e w' ⟨h1, h2⟩ => ⟨h1, als_gw _ _ _ h2⟩
theorem done_neither {a b n er j : Int} (u : Int) (h0 : 0 ≤ j) (hj : j ≤ a) (ha : a ≤ 50) (hb : 0 ≤ b ∧ b ≤ 1000000) (hn : 0 ≤ n ∧ n ≤ 1099511627776) (hk : kd er = 0) (v1 v2 v3 v4 v5 v6 v7 v8 v9 : Value) (w : World) :
    Calls Try.prog 14 #[.agg #[.int .i64 j, .int .i64 u], .int .i64 a, .int .i64 b, .int .i64 n, .agg #[.int .i64 er, v1, v2, v3, v4, v5, v6, v7, v8, v9]] w fun e w' => e = .returned (.agg #[.int .i64 j, .int .i64 u]) ∧ Gw w w' := by
  have h := done_any j u a b n er v1 v2 v3 v4 v5 v6 v7 v8 v9 w (by omega) (by omega) hb hn
  rw [hk] at h
  exact h.mono fun e w' ⟨h1, h2⟩ => ⟨h1, als_gw _ _ _ h2⟩
/-- What is left of a number, as one without a sign. -/
theorem rem_num (x m : Int) (h : 0 ≤ x) (hx : x ≤ 1000000000000) : ∃ q : Nat, (IntKind.u64.wrap m).tmod (x + 1) = q ∧ (q : Int) ≤ x := by
  have h0 : 0 ≤ IntKind.u64.wrap m := by
    have : IntKind.u64.wrap m = m % 18446744073709551616 := by simp [IntKind.wrap, IntKind.bits, IntKind.signed]
    omega
  have h1 := Int.tmod_nonneg (x + 1) h0
  have h2 := Int.tmod_lt_of_pos (IntKind.u64.wrap m) (show 0 < x + 1 by omega)
  exact ⟨((IntKind.u64.wrap m).tmod (x + 1)).toNat, by omega, by omega⟩
end Go.Proofs.Ytdmjhjfieabbbaa
