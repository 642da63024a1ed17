/- What the texts on the package's values need: blocks of one cell and of a row, values without parts, a tree's parts counted; each theorem names its conditions. -/
import Derived.Laws.MakeOwn
import Derived.Laws.IdiomStrings
import Derived.Test.YtajagjcfmaggiaaGreatDoorKCae
import Derived.Test.YtajagjcfmaggiaaGreatDoorKCag
namespace Go.Proofs.YtajagjcfmaggiaaGreatDoor.Dt
open Go.RowKit
/-- A block holds one cell. -/
def C1 (w : World) (N : Nat) (t : TypeId) (v : Value) : Prop := w.heap[N]? = some (.cells #[v] t (0, 0))
theorem C1.lt {w : World} {N : Nat} {t : TypeId} {v : Value} (h : C1 w N t v) : N < w.heap.size := (Array.getElem?_eq_some_iff.1 h).1
theorem C1.below {w w' : World} {N : Nat} {t : TypeId} {v : Value} (h : C1 w N t v) (hb : Below w.heap.size w w') : C1 w' N t v := (hb.block N h.lt).trans h
theorem C1.c {w : World} {N : Nat} {t : TypeId} {v : Value} (h : C1 w N t v) : w.cell? ⟨N, 0, none⟩ = some v := by unfold C1 at h; simp [World.cell?, h]
theorem C1.f {w : World} {N o : Nat} {t : TypeId} {v : Value} (h : C1 w N t v) : w.frozen? ⟨N, o, none⟩ = false := by unfold C1 at h; simp [World.frozen?, h]
theorem C1.new (w : World) (t : TypeId) (v : Value) : C1 (w.alloc (.cells #[v] t)) w.heap.size t v := heap_alloc_new w _
theorem C1.set {w : World} {N : Nat} {t : TypeId} {v : Value} (h : C1 w N t v) (a : Addr) (x : Value) (hne : N ≠ a.block) : C1 (w.setCell a x) N t v := (Below.heap_setCell w a x N hne).trans h
/-- A block holds n values. -/
def Rb (w : World) (N n : Nat) : Prop := ∃ cs : Array Value, w.heap[N]? = some (.cells cs 20 (0, 0)) ∧ cs.size = n
theorem Rb.lt {w : World} {N n : Nat} (h : Rb w N n) : N < w.heap.size := by obtain ⟨cs, h, -⟩ := h; exact (Array.getElem?_eq_some_iff.1 h).1
theorem Rb.below {w w' : World} {N n : Nat} (h : Rb w N n) (hb : Below w.heap.size w w') : Rb w' N n := by
  have := h.lt; obtain ⟨cs, h1, h2⟩ := h; exact ⟨cs, (hb.block N this).trans h1, h2⟩
theorem Rb.c {w : World} {N n j : Nat} (h : Rb w N n) (hj : j < n) : ∃ x, w.cell? ⟨N, j, none⟩ = some x := by
  obtain ⟨cs, h1, h2⟩ := h; exact ⟨cs[j]'(by omega), by simp [World.cell?, h1, h2, hj]⟩
theorem Rb.f {w : World} {N n o : Nat} (h : Rb w N n) : w.frozen? ⟨N, o, none⟩ = false := by
  obtain ⟨cs, h1, h2⟩ := h; simp [World.frozen?, h1]
theorem Rb.set {w : World} {N n j : Nat} (h : Rb w N n) (x : Value) : Rb (w.setCell ⟨N, j, none⟩ x) N n := by
  obtain ⟨cs, h1, h2⟩ := h
  exact ⟨cs.setIfInBounds j x, by simp [World.setCell, Array.getElem?_modify, h1], by simp [h2]⟩
theorem frombits (u : Int) (w : World) : (callFunc 41 #[.int .u64 u]).run Tryz.prog w = .ok (.value (.float .f64 u.toNat)) w := by kernel_rfl
set_option maxRecDepth 100000 in
set_option maxHeartbeats 1000000 in
theorem shLeaf0 (r : Option Nat) (i u : Int) (s : ByteArray) (ad : Option Addr) (len cap : Nat) (w : World) :
    Calls Tryz.prog 86 #[.agg #[.map r], .agg #[.int .i64 0, .int .i64 i, .int .u64 u, .string s, .slice ad len cap]] w fun e w' => e = .returned (.nilIface) ∧ Below w.heap.size w w' := by
  go_enter Tryz.func86, Tryz.ntmps86
  go_wp2
  go_ret
  exact ⟨rfl, ((Below.refl _ w).alloc (Nat.le_refl _) _).alloc (by simp) _⟩
set_option maxRecDepth 100000 in
set_option maxHeartbeats 1000000 in
theorem shLeaf1 (r : Option Nat) (i u : Int) (s : ByteArray) (ad : Option Addr) (len cap : Nat) (w : World) :
    Calls Tryz.prog 86 #[.agg #[.map r], .agg #[.int .i64 1, .int .i64 i, .int .u64 u, .string s, .slice ad len cap]] w fun e w' => e = .returned (.iface 140 (.int .i64 i)) ∧ Below w.heap.size w w' := by
  go_enter Tryz.func86, Tryz.ntmps86
  go_wp2
  go_ret
  exact ⟨rfl, ((Below.refl _ w).alloc (Nat.le_refl _) _).alloc (by simp) _⟩
set_option maxRecDepth 100000 in
set_option maxHeartbeats 1000000 in
theorem shLeaf2 (r : Option Nat) (i u : Int) (s : ByteArray) (ad : Option Addr) (len cap : Nat) (w : World) :
    Calls Tryz.prog 86 #[.agg #[.map r], .agg #[.int .i64 2, .int .i64 i, .int .u64 u, .string s, .slice ad len cap]] w fun e w' => e = .returned (.iface 141 (.int .i64 i)) ∧ Below w.heap.size w w' := by
  go_enter Tryz.func86, Tryz.ntmps86
  go_wp2
  go_ret
  exact ⟨rfl, ((Below.refl _ w).alloc (Nat.le_refl _) _).alloc (by simp) _⟩
set_option maxRecDepth 100000 in
set_option maxHeartbeats 1000000 in
theorem shLeaf3 (r : Option Nat) (i u : Int) (s : ByteArray) (ad : Option Addr) (len cap : Nat) (w : World) :
    Calls Tryz.prog 86 #[.agg #[.map r], .agg #[.int .i64 3, .int .i64 i, .int .u64 u, .string s, .slice ad len cap]] w fun e w' => e = .returned (.iface 142 (.float .f64 u.toNat)) ∧ Below w.heap.size w w' := by
  have hf := frombits u
  go_enter Tryz.func86, Tryz.ntmps86
  go_wp2
  go_ret
  exact ⟨rfl, ((Below.refl _ w).alloc (Nat.le_refl _) _).alloc (by simp) _⟩
set_option maxRecDepth 100000 in
set_option maxHeartbeats 1000000 in
theorem shLeaf4 (r : Option Nat) (i u : Int) (s : ByteArray) (ad : Option Addr) (len cap : Nat) (w : World) :
    Calls Tryz.prog 86 #[.agg #[.map r], .agg #[.int .i64 4, .int .i64 i, .int .u64 u, .string s, .slice ad len cap]] w fun e w' => e = .returned (.iface 101 (.string s)) ∧ Below w.heap.size w w' := by
  go_enter Tryz.func86, Tryz.ntmps86
  go_wp2
  go_ret
  exact ⟨rfl, ((Below.refl _ w).alloc (Nat.le_refl _) _).alloc (by simp) _⟩
set_option maxRecDepth 100000 in
set_option maxHeartbeats 1000000 in
theorem shLeaf5 (r : Option Nat) (i u : Int) (s : ByteArray) (ad : Option Addr) (len cap : Nat) (w : World) :
    Calls Tryz.prog 86 #[.agg #[.map r], .agg #[.int .i64 5, .int .i64 i, .int .u64 u, .string s, .slice ad len cap]] w fun e w' => e = .returned (.iface 143 (.string s)) ∧ Below w.heap.size w w' := by
  go_enter Tryz.func86, Tryz.ntmps86
  go_wp2
  go_ret
  exact ⟨rfl, ((Below.refl _ w).alloc (Nat.le_refl _) _).alloc (by simp) _⟩
set_option maxRecDepth 100000 in
set_option maxHeartbeats 1000000 in
theorem shLeaf6 (r : Option Nat) (i u : Int) (s : ByteArray) (ad : Option Addr) (len cap : Nat) (w : World) :
    Calls Tryz.prog 86 #[.agg #[.map r], .agg #[.int .i64 6, .int .i64 i, .int .u64 u, .string s, .slice ad len cap]] w fun e w' => e = .returned (.iface 144 (.bool (i != 0))) ∧ Below w.heap.size w w' := by
  go_enter Tryz.func86, Tryz.ntmps86
  go_wp2
  go_ret
  exact ⟨rfl, ((Below.refl _ w).alloc (Nat.le_refl _) _).alloc (by simp) _⟩
set_option maxRecDepth 100000 in
set_option maxHeartbeats 1000000 in
theorem shLeaf10 (r : Option Nat) (i u : Int) (s : ByteArray) (ad : Option Addr) (len cap : Nat) (w : World) :
    Calls Tryz.prog 86 #[.agg #[.map r], .agg #[.int .i64 10, .int .i64 i, .int .u64 u, .string s, .slice ad len cap]] w fun e w' => e = .returned (.iface 154 (.agg #[.int .i64 i, .string s])) ∧ Below w.heap.size w w' := by
  go_enter Tryz.func86, Tryz.ntmps86
  go_wp2
  go_ret
  exact ⟨rfl, ((Below.refl _ w).alloc (Nat.le_refl _) _).alloc (by simp) _⟩
set_option maxRecDepth 100000 in
set_option maxHeartbeats 1000000 in
theorem shLeaf12 (r : Option Nat) (i u : Int) (s : ByteArray) (ad : Option Addr) (len cap : Nat) (w : World) :
    Calls Tryz.prog 86 #[.agg #[.map r], .agg #[.int .i64 12, .int .i64 i, .int .u64 u, .string s, .slice ad len cap]] w fun e w' => e = .returned (.iface 155 (.pointer none)) ∧ Below w.heap.size w w' := by
  go_enter Tryz.func86, Tryz.ntmps86
  go_wp2
  go_ret
  exact ⟨rfl, ((Below.refl _ w).alloc (Nat.le_refl _) _).alloc (by simp) _⟩
set_option maxRecDepth 100000 in
set_option maxHeartbeats 1000000 in
theorem shLeaf13 (r : Option Nat) (i u : Int) (s : ByteArray) (ad : Option Addr) (len cap : Nat) (w : World) :
    Calls Tryz.prog 86 #[.agg #[.map r], .agg #[.int .i64 13, .int .i64 i, .int .u64 u, .string s, .slice ad len cap]] w fun e w' => e = .returned (.iface 157 (.agg #[])) ∧ Below w.heap.size w w' := by
  go_enter Tryz.func86, Tryz.ntmps86
  go_wp2
  go_ret
  exact ⟨rfl, ((Below.refl _ w).alloc (Nat.le_refl _) _).alloc (by simp) _⟩
/-- The tree of nil. -/
def nilT : (n : Nat) → Tr n → Prop
  | 0, _ => False
  | _ + 1, t => t.kd = 0
theorem ok_plain {k i u : Int} {sz len : Nat} (h : okB k i u sz len = true) : (k = 6 → i = 0 ∨ i = 1) ∧ (k = 9 → len = 2) ∧ (k ≠ 1 → k ≠ 2 → k ≠ 6 → k ≠ 10 → k ≠ 11 → i = 0) ∧ (k ≠ 4 → k ≠ 5 → k ≠ 7 → k ≠ 10 → sz = 0) ∧ 0 ≤ k ∧ k ≤ 13 := by
  unfold okB at h
  repeat' split at h
  all_goals (try simp only [decide_eq_true_eq] at h)
  all_goals (first | omega | cases h)
theorem list_two {T : Type} {l : List T} (h : l.length = 2) : ∃ a b, l = [a, b] := by
  match l, h with
  | [a, b], _ => exact ⟨a, b, rfl⟩
end Go.Proofs.YtajagjcfmaggiaaGreatDoor.Dt
/- A value that the package makes of a tree without boxes by number, with the memory behind it; and the package's row and place of such; the conditions: the trees in memory and valid, and value's own contract for the parts. -/
namespace Go.Proofs.YtajagjcfmaggiaaGreatDoor.Dt
open Go.RowKit
/-- A value that the package makes of a tree, each place with memory of its own, in blocks of which F tells. -/
def VR (F : Nat → Prop) (w : World) : (n : Nat) → Value → Tr n → Prop
  | 0, _, _ => False
  | n + 1, v, t =>
    (t.kd = 0 ∧ v = .nilIface) ∨ (t.kd = 1 ∧ v = .iface 140 (.int .i64 t.it)) ∨ (t.kd = 2 ∧ v = .iface 141 (.int .i64 t.it)) ∨ (t.kd = 3 ∧ v = .iface 142 (.float .f64 t.ut.toNat)) ∨
    (t.kd = 4 ∧ v = .iface 101 (.string t.tx)) ∨ (t.kd = 5 ∧ v = .iface 143 (.string t.tx)) ∨ (t.kd = 6 ∧ v = .iface 144 (.bool (t.it != 0))) ∨
    (t.kd = 7 ∧ ∃ g c cs fr, v = .iface 147 (.slice (some ⟨g, 0, none⟩) t.tx.size c) ∧ F g ∧ w.heap[g]? = some (.cells cs 5 fr) ∧ cs = bytesRow t.tx c) ∨
    (t.kd = 8 ∧ ∃ a c, v = .iface 149 (.slice a t.ks.length c) ∧ (t.ks = [] ∨ ∃ g, a = some ⟨g, 0, none⟩ ∧ F g ∧ ∀ (j : Nat) (t' : Tr n), t.ks[j]? = some t' → ∃ u, w.cell? ⟨g, j, none⟩ = some u ∧ VR F w n u t')) ∨
    (t.kd = 9 ∧ ∃ x y t0 t1, v = .iface 152 (.agg #[x, y]) ∧ t.ks = [t0, t1] ∧ VR F w n x t0 ∧ VR F w n y t1) ∨ (t.kd = 10 ∧ v = .iface 154 (.agg #[.int .i64 t.it, .string t.tx])) ∨
    (t.kd = 11 ∧ ∃ b u t0, v = .iface 155 (.pointer (some ⟨b, 0, none⟩)) ∧ F b ∧ t.ks = [t0] ∧ w.heap[b]? = some (.cells #[.int .i64 t.it, u] 176 (0, 0)) ∧ VR F w n u t0) ∨ (t.kd = 12 ∧ v = .iface 155 (.pointer none)) ∨ (t.kd = 13 ∧ v = .iface 157 (.agg #[]))
theorem VR.to {F F' : Nat → Prop} {w w' : World} (hF : ∀ g, F g → F' g ∧ w'.heap[g]? = w.heap[g]?) : ∀ (n : Nat) (v : Value) (t : Tr n), VR F w n v t → VR F' w' n v t
  | 0, _, _, h => h
  | n + 1, v, t, h => by
    simp only [VR] at h ⊢
    rcases h with q | q | q | q | q | q | q | ⟨k, g, c, cs, fr, e1, e2, e3, e4⟩ | ⟨k, a, c, e1, e2⟩ | ⟨k, x, y, t0, t1, e1, e2, e3, e4⟩ | q | ⟨k, b, u, t0, e1, e2, e3, e4, e5⟩ | q | q
    · exact .inl q
    · exact .inr (.inl q)
    · exact .inr (.inr (.inl q))
    · exact .inr (.inr (.inr (.inl q)))
    · exact .inr (.inr (.inr (.inr (.inl q))))
    · exact .inr (.inr (.inr (.inr (.inr (.inl q)))))
    · exact .inr (.inr (.inr (.inr (.inr (.inr (.inl q))))))
    · exact .inr (.inr (.inr (.inr (.inr (.inr (.inr (.inl ⟨k, g, c, cs, fr, e1, (hF g e2).1, (hF g e2).2.trans e3, e4⟩)))))))
    · refine .inr (.inr (.inr (.inr (.inr (.inr (.inr (.inr (.inl ⟨k, a, c, e1, ?_⟩))))))))
      rcases e2 with e2 | ⟨g, f1, f2, f3⟩
      · exact .inl e2
      · refine .inr ⟨g, f1, (hF g f2).1, fun j t' hj => ?_⟩
        obtain ⟨u, u1, u2⟩ := f3 j t' hj
        exact ⟨u, (cell_heap (hF g f2).2).trans u1, VR.to hF n _ _ u2⟩
    · exact .inr (.inr (.inr (.inr (.inr (.inr (.inr (.inr (.inr (.inl ⟨k, x, y, t0, t1, e1, e2, VR.to hF n _ _ e3, VR.to hF n _ _ e4⟩)))))))))
    · exact .inr (.inr (.inr (.inr (.inr (.inr (.inr (.inr (.inr (.inr (.inl q))))))))))
    · exact .inr (.inr (.inr (.inr (.inr (.inr (.inr (.inr (.inr (.inr (.inr (.inl ⟨k, b, u, t0, e1, (hF b e2).1, e3, (hF b e2).2.trans e4, VR.to hF n _ _ e5⟩)))))))))))
    · exact .inr (.inr (.inr (.inr (.inr (.inr (.inr (.inr (.inr (.inr (.inr (.inr (.inl q))))))))))))
    · exact .inr (.inr (.inr (.inr (.inr (.inr (.inr (.inr (.inr (.inr (.inr (.inr (.inr q))))))))))))
theorem vr_any {F : Nat → Prop} {w : World} {n : Nat} {v : Value} {t : Tr n} (h : VR F w n v t) : Sx v := by
  match n, t, h with
  | n + 1, t, h =>
    simp only [VR] at h
    rcases h with ⟨-, e⟩ | ⟨-, e⟩ | ⟨-, e⟩ | ⟨-, e⟩ | ⟨-, e⟩ | ⟨-, e⟩ | ⟨-, e⟩ | ⟨-, g, c, cs, fr, e, -⟩ | ⟨-, a, c, e, -⟩ | ⟨-, x, y, t0, t1, e, -⟩ | ⟨-, e⟩ | ⟨-, b, u, t0, e, -⟩ | ⟨-, e⟩ | ⟨-, e⟩
    · exact .inl e
    all_goals exact .inr ⟨_, _, e⟩
theorem VR.below {F : Nat → Prop} {w w' : World} (hF : ∀ g, F g → g < w.heap.size) (hb : Below w.heap.size w w') {n : Nat} {v : Value} {t : Tr n} (h : VR F w n v t) : VR F w' n v t := VR.to (fun g hg => ⟨hg, hb.block g (hF g hg)⟩) n v t h

/-- The row's block before its part j. -/
def Rw (w : World) (N n : Nat) (F : Nat → Prop) (m : Nat) (ks : List (Tr m)) (j : Nat) : Prop := Rb w N n ∧ ∀ (k : Nat) (t : Tr m), k < j → ks[k]? = some t → ∃ u, w.cell? ⟨N, k, none⟩ = some u ∧ VR F w m u t

set_option maxRecDepth 100000 in
set_option maxHeartbeats 2000000 in
theorem row_nb (W0 : World) (m : Nat) (ks : List (Tr m))
    (ih : ∀ (t : Tr m) (v0 v1 v2 v3 v4 : Value) (w : World), rgt m t = true → (pts m t).1 ≤ 4096 → Rep W0 m [v0, v1, v2, v3, v4] t → Below W0.heap.size W0 w →
      Calls Tryz.prog 86 #[.agg #[.map none], .agg #[v0, v1, v2, v3, v4]] w fun e w' => ∃ v, e = .returned v ∧ VR (fun g => w.heap.size ≤ g ∧ g < w'.heap.size) w' m v t ∧ Below w.heap.size w w')
    (ad : Option Addr) (cap : Nat) (w : World) (hb0 : Below W0.heap.size W0 w) (hn : ks.length ≤ 4096) (hrg : ks.all (rgt m) = true) (hps : ∀ t ∈ ks, (pts m t).1 ≤ 4096)
    (hk : (ks = [] ∨ ∃ g o, ad = some ⟨g, o, none⟩ ∧ ∀ (j : Nat) (t' : Tr m), ks[j]? = some t' → ∃ v0 v1 v2 v3 v4, W0.cell? ⟨g, o + j * 5, none⟩ = some v0 ∧ W0.cell? ⟨g, o + j * 5 + 1, none⟩ = some v1 ∧ W0.cell? ⟨g, o + j * 5 + 2, none⟩ = some v2 ∧ W0.cell? ⟨g, o + j * 5 + 3, none⟩ = some v3 ∧ W0.cell? ⟨g, o + j * 5 + 4, none⟩ = some v4 ∧ Rep W0 m [v0, v1, v2, v3, v4] t')) :
    Calls Tryz.prog 98 #[.agg #[.map none], .slice ad ks.length cap] w fun e w' => ∃ g c, e = .returned (.slice (some ⟨g, 0, none⟩) ks.length c) ∧ w.heap.size ≤ g ∧ g < w'.heap.size ∧ (∀ (j : Nat) (t : Tr m), ks[j]? = some t → ∃ u, w'.cell? ⟨g, j, none⟩ = some u ∧ VR (fun g => w.heap.size ≤ g ∧ g < w'.heap.size) w' m u t) ∧ Below w.heap.size w w' := by
  have hz20 : Tryz.prog.info? 20 = some Tryz.t20 := by kernel_rfl
  have hsz : Tryz.t20.size = 1 := by kernel_rfl
  have hby : Tryz.t20.bytes = 16 := by kernel_rfl
  have hze : Tryz.t20.zero = some .nilIface := by kernel_rfl
  have hmk : ∀ w : World, (Instr.makeSlice 149 (.int .i64 ks.length) (.int .i64 ks.length)).run Tryz.prog w = .ok (.slice (some ⟨w.heap.size, 0, none⟩) ks.length ks.length) (w.alloc (.cells (madeCells (Value.cells .nilIface) ks.length) 20)) := fun w => by
    have := run_makeSlice (P := Tryz.prog) w 149 20 Tryz.t20 .nilIface Tryz.underlying149 hz20 hze .i64 .i64 ks.length ks.length (by omega) (Int.le_refl _) (by rw [hsz]; simp; omega) (by rw [hby]; omega) (by omega)
    simpa [hsz] using this
  have hb0s := hb0.size
  have b1 := below1 w (.cells #[.map none] 132)
  have b2 : Below w.heap.size w ((w.alloc (.cells #[.map none] 132)).alloc (.cells (madeCells (Value.cells .nilIface) ks.length) 20)) := b1.alloc (by simp) _
  have c2 := (C1.new w 132 (.map none)).below (below1 _ (.cells (madeCells (Value.cells .nilIface) ks.length) 20))
  have r2 : Rb ((w.alloc (.cells #[.map none] 132)).alloc (.cells (madeCells (Value.cells .nilIface) ks.length) 20)) (w.heap.size + 1) ks.length := by
    refine ⟨_, ?_, size_madeCells (Value.cells .nilIface) ks.length⟩
    have := heap_alloc_new (w.alloc (.cells #[.map none] 132)) (.cells (madeCells (Value.cells .nilIface) ks.length) 20)
    rwa [World.size_alloc] at this
  have HI := Lib.hid ih
  have HK := Lib.hid hk
  have HR := Lib.hid hrg
  have HP := Lib.hid hps
  clear ih hk hrg hps hz20 hsz hby hze b1
  generalize madeCells (Value.cells .nilIface) ks.length = mc at *
  go_enter Tryz.func98, Tryz.ntmps98
  go_wp2_with fail
  go_loopw [13] (fun si wr => ∃ (j : Nat), si = .int .i64 j ∧ j ≤ ks.length ∧ C1 wr w.heap.size 132 (.map none) ∧ Rw wr (w.heap.size + 1) ks.length (fun g => w.heap.size + 2 ≤ g ∧ g < wr.heap.size) m ks j ∧ Below w.heap.size w wr) (fun si _ => ks.length - (intOf si).toNat)
  case atStart => exact ⟨0, rfl, Nat.zero_le _, c2, ⟨r2, fun k _ hk => absurd hk (Nat.not_lt_zero _)⟩, b2⟩
  case round =>
    obtain ⟨j, rfl, hj, c1, rw1, g1⟩ := hrel
    have o1 : Below W0.heap.size W0 wr := hb0.trans (g1.mono hb0.size)
    by_cases hlt : j < ks.length
    · have hne : ks ≠ [] := by intro e; rw [e] at hlt; exact absurd hlt (Nat.not_lt_zero _)
      rcases HK.out with hk | ⟨g, o, hk1, hk2⟩
      · exact absurd hk hne
      subst hk1
      obtain ⟨v0, v1, v2, v3, v4, e0, e1, e2, e3, e4, rk⟩ := hk2 j _ (List.getElem?_eq_getElem hlt)
      have hg : g < W0.heap.size := World.block_lt_of_cell? W0 _ e0
      have y0 := (o1.cell (p := ⟨g, o + j * 5, none⟩) hg).trans e0
      have y1 := (o1.cell (p := ⟨g, o + j * 5 + 1, none⟩) hg).trans e1
      have y2 := (o1.cell (p := ⟨g, o + j * 5 + 2, none⟩) hg).trans e2
      have y3 := (o1.cell (p := ⟨g, o + j * 5 + 3, none⟩) hg).trans e3
      have y4 := (o1.cell (p := ⟨g, o + j * 5 + 4, none⟩) hg).trans e4
      clear e0 e1 e2 e3 e4 hk2 HK
      obtain ⟨u0, u1, u2, u3, a4, n4, c4', rfl, rfl, rfl, rfl, rfl⟩ := rep_shape rk
      have cc := c1.c
      have zc := c1.lt
      have zr := rw1.1.lt
      go_wp2_with fail
      have ba := below1 wr (.cells #[.int .i64 u0, .int .i64 u1, .int .u64 u2, .string u3, .slice a4 n4 c4'] 25)
      have hrt : rgt m ks[j] = true := List.all_eq_true.1 HR.out _ (List.getElem_mem hlt)
      refine (HI.out ks[j] _ _ _ _ _ _ hrt (HP.out _ (List.getElem_mem hlt)) rk (o1.trans (ba.mono o1.size))).mono ?_
      rintro e w2 ⟨v, rfl, vr, b2'⟩
      have bw2 : Below wr.heap.size wr w2 := ba.trans (b2'.mono (by simp))
      have k2 := rw1.1.below bw2
      have q2 := c1.below bw2
      have g2 : Below w.heap.size w w2 := g1.trans (bw2.mono g1.size)
      obtain ⟨x, kc⟩ := k2.c hlt
      have kf := k2.f (o := j)
      have hs2 := bw2.size
      have step : Hid (∀ V : Value, V = v → Rw (w2.setCell ⟨w.heap.size + 1, j, none⟩ V) (w.heap.size + 1) ks.length (fun g => w.heap.size + 2 ≤ g ∧ g < (w2.setCell ⟨w.heap.size + 1, j, none⟩ V).heap.size) m ks (j + 1)) := fun V hV => by
        subst hV
        have sz : (w2.setCell ⟨w.heap.size + 1, j, none⟩ V).heap.size = w2.heap.size := by simp [World.setCell]
        refine ⟨k2.set _, fun k t hk ht => ?_⟩
        by_cases e : k = j
        · subst e
          rw [List.getElem?_eq_getElem hlt] at ht
          obtain rfl := Option.some.inj ht
          refine ⟨V, by simp [World.cell?_setCell_same, kc], VR.to (fun q hq => ⟨⟨by have h := hq.1; simp at h; omega, by rw [sz]; exact hq.2⟩, Below.heap_setCell _ _ _ q (by show q ≠ w.heap.size + 1; have h := hq.1; simp at h; omega)⟩) _ _ _ vr⟩
        · obtain ⟨u, h1, h2⟩ := rw1.2 k t (by omega) ht
          have hc : w2.cell? ⟨w.heap.size + 1, k, none⟩ = some u := (bw2.cell (p := ⟨w.heap.size + 1, k, none⟩) zr).trans h1
          have hne' : (⟨w.heap.size + 1, j, none⟩ : Addr) ≠ ⟨w.heap.size + 1, k, none⟩ := by simp only [ne_eq, Addr.mk.injEq]; exact fun h => e h.2.1.symm
          refine ⟨u, by rw [World.cell?_setCell_other]; exact hc; exact hne', VR.to (fun q hq => ⟨⟨hq.1, by rw [sz]; omega⟩, (Below.heap_setCell _ _ _ q (by show q ≠ w.heap.size + 1; omega)).trans (bw2.block q hq.2)⟩) _ _ _ h2⟩
      have sx := vr_any vr
      clear y0 y1 y2 y3 y4 rk ba b2' cc vr rw1 c1
      rcases sx with rfl | ⟨T, z, rfl⟩
      · go_wp2_with fail
        exact ⟨⟨j + 1, by go_num, by omega, q2.set _ _ (by show w.heap.size ≠ w.heap.size + 1; omega), step.out _ rfl, g2.setCell (by show w.heap.size ≤ w.heap.size + 1; omega) _⟩, by simp [intOf]; omega⟩
      · go_wp2_with fail
        exact ⟨⟨j + 1, by go_num, by omega, q2.set _ _ (by show w.heap.size ≠ w.heap.size + 1; omega), step.out _ rfl, g2.setCell (by show w.heap.size ≤ w.heap.size + 1; omega) _⟩, by simp [intOf]; omega⟩
    · have hje : j = ks.length := by omega
      subst hje
      have zr := rw1.1.lt
      go_wp2_with fail
      go_ret
      exact ⟨_, _, rfl, by omega, zr, fun k t hk => by
        obtain ⟨u, h1, h2⟩ := rw1.2 k t (List.getElem?_eq_some_iff.1 hk).1 hk
        exact ⟨u, h1, VR.to (fun q hq => ⟨⟨by omega, hq.2⟩, rfl⟩) _ _ _ h2⟩, g1⟩
end Go.Proofs.YtajagjcfmaggiaaGreatDoor.Dt
