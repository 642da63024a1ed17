/- Copies of data without parts, and of a state by the contracts of its two copies; no condition but those that each theorem names. -/
import Derived.Test.YtdgjhclncjoonaaVal0
import Derived.Defers
import Derived.Recover
namespace Go.Proofs.Ytdgjhclncjoonaa
open Go.RowKit

theorem copyAll_none (ad : Option Addr) (cap : Nat) (w : World) : Calls Try.prog 36 #[.slice ad 0 cap] w fun e w' => e = .returned (.slice none 0 0) ∧ Below w.heap.size w w' := by
  go_enter Try.func36, Try.ntmps36
  go_wp2
  go_ret
  exact ⟨rfl, Below.refl _ _⟩

/-- A block of cells. -/
def Bk (w : World) (N : Nat) (cs : Array Value) (T : TypeId) : Prop := w.heap[N]? = some (.cells cs T (0, 0))
theorem Bk.new (w : World) (cs : Array Value) (T : TypeId) : Bk (w.alloc (.cells cs T)) w.heap.size cs T := heap_alloc_new w _
theorem Bk.lt {w : World} {N : Nat} {cs : Array Value} {T : TypeId} (h : Bk w N cs T) : N < w.heap.size := (Array.getElem?_eq_some_iff.1 h).1
theorem Bk.step {w w' : World} {N : Nat} {cs : Array Value} {T : TypeId} (h : Bk w N cs T) (hb : Below w.heap.size w w') : Bk w' N cs T := (hb.block N h.lt).trans h
theorem Bk.under {w w' : World} {N M : Nat} {cs : Array Value} {T : TypeId} (h : Bk w N cs T) (hb : Below M w w') (hN : N < M) : Bk w' N cs T := (hb.block N hN).trans h
theorem Bk.c {w : World} {N : Nat} {cs : Array Value} {T : TypeId} (h : Bk w N cs T) (o : Nat) : w.cell? ⟨N, o, none⟩ = cs[o]? := by
  unfold Bk at h
  simp [World.cell?, h]
theorem Bk.f {w : World} {N : Nat} {cs : Array Value} {T : TypeId} (h : Bk w N cs T) (o : Nat) : w.frozen? ⟨N, o, none⟩ = false := by
  unfold Bk at h
  simp [World.frozen?, h]
theorem Bk.set {w : World} {N : Nat} {cs : Array Value} {T : TypeId} (h : Bk w N cs T) (o : Nat) (v : Value) : Bk (w.setCell ⟨N, o, none⟩ v) N (cs.setIfInBounds o v) T := by
  unfold Bk at h ⊢
  simp [World.setCell, Array.getElem?_modify, h]
theorem Bk.other {w : World} {N : Nat} {cs : Array Value} {T : TypeId} (h : Bk w N cs T) (a : Addr) (v : Value) (hne : N ≠ a.block) : Bk (w.setCell a v) N cs T := (Below.heap_setCell w a v N hne).trans h
theorem Bk.alloc {w : World} {N : Nat} {cs : Array Value} {T : TypeId} (h : Bk w N cs T) (o : Obj) : Bk (w.alloc o) N cs T := h.step (below1 w o)
theorem Bk.drew {w : World} {N : Nat} {cs : Array Value} {T : TypeId} (h : Bk w N cs T) : Bk w.drew N cs T := h
theorem Bk.new2 (w : World) (o : Obj) (cs : Array Value) (T : TypeId) : Bk ((w.alloc o).alloc (.cells cs T)) (w.heap.size + 1) cs T := by have := Bk.new (w.alloc o) cs T; rwa [World.size_alloc] at this

/-- The cells of a value. -/
def dcs (k i u : Int) (s : ByteArray) (ad : Option Addr) (len cap : Nat) : Array Value := #[.int .i64 k, .int .i64 i, .int .u64 u, .string s, .slice ad len cap]
/-- Five cells. -/
theorem Bk.c5 {w : World} {N : Nat} {v0 v1 v2 v3 v4 : Value} {T : TypeId} (h : Bk w N #[v0, v1, v2, v3, v4] T) : w.cell? ⟨N, 0, none⟩ = some v0 ∧ w.cell? ⟨N, 1, none⟩ = some v1 ∧ w.cell? ⟨N, 2, none⟩ = some v2 ∧ w.cell? ⟨N, 3, none⟩ = some v3 ∧ w.cell? ⟨N, 4, none⟩ = some v4 := ⟨h.c 0, h.c 1, h.c 2, h.c 3, h.c 4⟩
theorem Bk.c10 {w : World} {N : Nat} {v0 v1 v2 v3 v4 v5 v6 v7 v8 v9 : Value} {T : TypeId} (h : Bk w N #[v0, v1, v2, v3, v4, v5, v6, v7, v8, v9] T) : w.cell? ⟨N, 0, none⟩ = some v0 ∧ w.cell? ⟨N, 1, none⟩ = some v1 ∧ w.cell? ⟨N, 2, none⟩ = some v2 ∧ w.cell? ⟨N, 3, none⟩ = some v3 ∧ w.cell? ⟨N, 4, none⟩ = some v4 ∧ w.cell? ⟨N, 5, none⟩ = some v5 ∧ w.cell? ⟨N, 6, none⟩ = some v6 ∧ w.cell? ⟨N, 7, none⟩ = some v7 ∧ w.cell? ⟨N, 8, none⟩ = some v8 ∧ w.cell? ⟨N, 9, none⟩ = some v9 := ⟨h.c 0, h.c 1, h.c 2, h.c 3, h.c 4, h.c 5, h.c 6, h.c 7, h.c 8, h.c 9⟩

/-- Copy, by what becomes of its list. -/
theorem copy_by (k i u : Int) (s : ByteArray) (ad : Option Addr) (len cap : Nat) (w : World) (R : Option Addr → Nat → Nat → World → Prop) (hR : ∀ a n c w' w'', R a n c w' → w''.heap.size = w'.heap.size → (∀ g, w.heap.size + 2 ≤ g → w''.heap[g]? = w'.heap[g]?) → R a n c w'')
    (hA : ∀ wx, Below w.heap.size w wx → w.heap.size + 2 ≤ wx.heap.size → Calls Try.prog 36 #[.slice ad len cap] wx fun e w' => ∃ a n c, e = .returned (.slice a n c) ∧ R a n c w' ∧ Below wx.heap.size wx w') :
    Calls Try.prog 31 #[.agg #[.int .i64 k, .int .i64 i, .int .u64 u, .string s, .slice ad len cap]] w fun e w' => ∃ a n c, e = .returned (.agg #[.int .i64 k, .int .i64 i, .int .u64 u, .string s, .slice a n c]) ∧ Hid (R a n c w') ∧ Below w.heap.size w w' := by
  have HA := Lib.hid hA
  clear hA
  have D0 : Bk ((w.alloc (.cells #[.int .i64 k, .int .i64 i, .int .u64 u, .string s, .slice ad len cap] 28)).alloc (.cells #[.int .i64 0, .int .i64 0, .int .u64 0, .string ⟨#[]⟩, .slice none 0 0] 28)) w.heap.size #[.int .i64 k, .int .i64 i, .int .u64 u, .string s, .slice ad len cap] 28 := (Bk.new w _ _).alloc _
  have E0 := Bk.new2 w (.cells #[.int .i64 k, .int .i64 i, .int .u64 u, .string s, .slice ad len cap] 28) #[.int .i64 0, .int .i64 0, .int .u64 0, .string ⟨#[]⟩, .slice none 0 0] 28
  have B0 := below2 w (.cells #[.int .i64 k, .int .i64 i, .int .u64 u, .string s, .slice ad len cap] 28) (.cells #[.int .i64 0, .int .i64 0, .int .u64 0, .string ⟨#[]⟩, .slice none 0 0] 28)
  go_enter Try.func31, Try.ntmps31
  go_wp2_with fail
  refine (HA.out _ B0 (by simp)).mono ?_
  rintro e w1 ⟨a, n, c, rfl, r1, b1⟩
  have D1 := D0.step b1
  have E1 := E0.step b1
  have B1 := B0.trans (b1.mono B0.size)
  have hs1 := b1.size
  simp only [World.size_alloc] at hs1
  have R1 := Lib.hid r1
  clear D0 E0 r1 HA b1 B0
  obtain ⟨c0, c1, c2, c3, c4⟩ := D1.c5
  obtain ⟨z0, z1, z2, z3, z4⟩ := E1.c5
  have f1 := D1.f
  have f2 := E1.f
  go_wp2
  refine bodyPost_ret (v := .agg #[.int .i64 k, .int .i64 i, .int .u64 u, .string s, .slice a n c]) (by simp [results, Try.results31, go_sem, World.cell?_setCell_same, World.cell?_setCell_other, z0, z1, z2, z3, z4]) rfl ⟨a, n, c, rfl, ?_, ?_⟩
  · refine hR _ _ _ _ _ R1.out (by simp) fun g hg => ?_
    simp (disch := (simp; omega)) only [Below.heap_setCell]
  · repeat' refine Below.setCell ?_ (by simp) _
    exact B1

theorem copy_leaf (k i u : Int) (s : ByteArray) (ad : Option Addr) (cap : Nat) (w : World) :
    Calls Try.prog 31 #[.agg #[.int .i64 k, .int .i64 i, .int .u64 u, .string s, .slice ad 0 cap]] w fun e w' => e = .returned (.agg #[.int .i64 k, .int .i64 i, .int .u64 u, .string s, .slice none 0 0]) ∧ Below w.heap.size w w' :=
  (copy_by k i u s ad 0 cap w (fun a n c _ => a = none ∧ n = 0 ∧ c = 0) (fun _ _ _ _ _ h _ _ => h) fun wx _ _ => (copyAll_none ad cap wx).mono fun _ _ ⟨he, hb⟩ => ⟨_, _, _, he, ⟨rfl, rfl, rfl⟩, hb⟩).mono fun _ _ ⟨a, n, c, he, hr, hb⟩ => by
    obtain ⟨rfl, rfl, rfl⟩ := hr.out
    exact ⟨he, hb⟩
end Go.Proofs.Ytdgjhclncjoonaa
