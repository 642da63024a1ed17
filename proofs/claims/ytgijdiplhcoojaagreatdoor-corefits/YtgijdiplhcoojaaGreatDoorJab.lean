/- Copies of data without parts, and of a state by the contracts of its two copies; no condition but those that each theorem names. -/
import Derived.Test.YtgijdiplhcoojaaGreatDoorJaa
import Derived.Defers
import Derived.Recover
namespace Go.Proofs.YtgijdiplhcoojaaGreatDoor
open Go.RowKit

theorem copyAll_none (ad : Option Addr) (cap : Nat) (w : World) : Calls Tryz.prog 51 #[.slice ad 0 cap] w fun e w' => e = .returned (.slice none 0 0) ∧ Below w.heap.size w w' := by
  go_enter Tryz.func51, Tryz.ntmps51
  go_wp2
  go_ret
  exact ⟨rfl, Below.refl _ _⟩

/-- A block of cells. -/
def Bk (w : World) (N : Nat) (cs : Array Value) (T : TypeId) : Prop := w.heap[N]? = some (.cells cs T (0, 0))
theorem Bk.new (w : World) (cs : Array Value) (T : TypeId) : Bk (w.alloc (.cells cs T)) w.heap.size cs T := heap_alloc_new w _
theorem Bk.lt {w : World} {N : Nat} {cs : Array Value} {T : TypeId} (h : Bk w N cs T) : N < w.heap.size := (Array.getElem?_eq_some_iff.1 h).1
theorem Bk.step {w w' : World} {N : Nat} {cs : Array Value} {T : TypeId} (h : Bk w N cs T) (hb : Below w.heap.size w w') : Bk w' N cs T := (hb.block N h.lt).trans h
theorem Bk.under {w w' : World} {N M : Nat} {cs : Array Value} {T : TypeId} (h : Bk w N cs T) (hb : Below M w w') (hN : N < M) : Bk w' N cs T := (hb.block N hN).trans h
theorem Bk.c {w : World} {N : Nat} {cs : Array Value} {T : TypeId} (h : Bk w N cs T) (o : Nat) : w.cell? ⟨N, o, none⟩ = cs[o]? := by
  unfold Bk at h
  simp [World.cell?, h]
theorem Bk.f {w : World} {N : Nat} {cs : Array Value} {T : TypeId} (h : Bk w N cs T) (o : Nat) : w.frozen? ⟨N, o, none⟩ = false := by
  unfold Bk at h
  simp [World.frozen?, h]
theorem Bk.set {w : World} {N : Nat} {cs : Array Value} {T : TypeId} (h : Bk w N cs T) (o : Nat) (v : Value) : Bk (w.setCell ⟨N, o, none⟩ v) N (cs.setIfInBounds o v) T := by
  unfold Bk at h ⊢
  simp [World.setCell, Array.getElem?_modify, h]
theorem Bk.other {w : World} {N : Nat} {cs : Array Value} {T : TypeId} (h : Bk w N cs T) (a : Addr) (v : Value) (hne : N ≠ a.block) : Bk (w.setCell a v) N cs T := (Below.heap_setCell w a v N hne).trans h
theorem Bk.alloc {w : World} {N : Nat} {cs : Array Value} {T : TypeId} (h : Bk w N cs T) (o : Obj) : Bk (w.alloc o) N cs T := h.step (below1 w o)
theorem Bk.drew {w : World} {N : Nat} {cs : Array Value} {T : TypeId} (h : Bk w N cs T) : Bk w.drew N cs T := h
theorem Bk.new2 (w : World) (o : Obj) (cs : Array Value) (T : TypeId) : Bk ((w.alloc o).alloc (.cells cs T)) (w.heap.size + 1) cs T := by have := Bk.new (w.alloc o) cs T; rwa [World.size_alloc] at this

/-- The cells of a value. -/
def dcs (k i u : Int) (s : ByteArray) (ad : Option Addr) (len cap : Nat) : Array Value := #[.int .i64 k, .int .i64 i, .int .u64 u, .string s, .slice ad len cap]
/-- Five cells. -/
theorem Bk.c5 {w : World} {N : Nat} {v0 v1 v2 v3 v4 : Value} {T : TypeId} (h : Bk w N #[v0, v1, v2, v3, v4] T) : w.cell? ⟨N, 0, none⟩ = some v0 ∧ w.cell? ⟨N, 1, none⟩ = some v1 ∧ w.cell? ⟨N, 2, none⟩ = some v2 ∧ w.cell? ⟨N, 3, none⟩ = some v3 ∧ w.cell? ⟨N, 4, none⟩ = some v4 := ⟨h.c 0, h.c 1, h.c 2, h.c 3, h.c 4⟩
theorem Bk.c10 {w : World} {N : Nat} {v0 v1 v2 v3 v4 v5 v6 v7 v8 v9 : Value} {T : TypeId} (h : Bk w N #[v0, v1, v2, v3, v4, v5, v6, v7, v8, v9] T) : w.cell? ⟨N, 0, none⟩ = some v0 ∧ w.cell? ⟨N, 1, none⟩ = some v1 ∧ w.cell? ⟨N, 2, none⟩ = some v2 ∧ w.cell? ⟨N, 3, none⟩ = some v3 ∧ w.cell? ⟨N, 4, none⟩ = some v4 ∧ w.cell? ⟨N, 5, none⟩ = some v5 ∧ w.cell? ⟨N, 6, none⟩ = some v6 ∧ w.cell? ⟨N, 7, none⟩ = some v7 ∧ w.cell? ⟨N, 8, none⟩ = some v8 ∧ w.cell? ⟨N, 9, none⟩ = some v9 := ⟨h.c 0, h.c 1, h.c 2, h.c 3, h.c 4, h.c 5, h.c 6, h.c 7, h.c 8, h.c 9⟩

/-- Copy, by what becomes of its list. -/
theorem copy_by (k i u : Int) (s : ByteArray) (ad : Option Addr) (len cap : Nat) (w : World) (R : Option Addr → Nat → Nat → World → Prop) (hR : ∀ a n c w' w'', R a n c w' → w''.heap.size = w'.heap.size → (∀ g, w.heap.size + 2 ≤ g → w''.heap[g]? = w'.heap[g]?) → R a n c w'')
    (hA : ∀ wx, Below w.heap.size w wx → w.heap.size + 2 ≤ wx.heap.size → Calls Tryz.prog 51 #[.slice ad len cap] wx fun e w' => ∃ a n c, e = .returned (.slice a n c) ∧ R a n c w' ∧ Below wx.heap.size wx w') :
    Calls Tryz.prog 50 #[.agg #[.int .i64 k, .int .i64 i, .int .u64 u, .string s, .slice ad len cap]] w fun e w' => ∃ a n c, e = .returned (.agg #[.int .i64 k, .int .i64 i, .int .u64 u, .string s, .slice a n c]) ∧ Hid (R a n c w') ∧ Below w.heap.size w w' := by
  have HA := Lib.hid hA
  clear hA
  have D0 : Bk ((w.alloc (.cells #[.int .i64 k, .int .i64 i, .int .u64 u, .string s, .slice ad len cap] 25)).alloc (.cells #[.int .i64 0, .int .i64 0, .int .u64 0, .string ⟨#[]⟩, .slice none 0 0] 25)) w.heap.size #[.int .i64 k, .int .i64 i, .int .u64 u, .string s, .slice ad len cap] 25 := (Bk.new w _ _).alloc _
  have E0 := Bk.new2 w (.cells #[.int .i64 k, .int .i64 i, .int .u64 u, .string s, .slice ad len cap] 25) #[.int .i64 0, .int .i64 0, .int .u64 0, .string ⟨#[]⟩, .slice none 0 0] 25
  have B0 := below2 w (.cells #[.int .i64 k, .int .i64 i, .int .u64 u, .string s, .slice ad len cap] 25) (.cells #[.int .i64 0, .int .i64 0, .int .u64 0, .string ⟨#[]⟩, .slice none 0 0] 25)
  go_enter Tryz.func50, Tryz.ntmps50
  go_wp2_with fail
  refine (HA.out _ B0 (by simp)).mono ?_
  rintro e w1 ⟨a, n, c, rfl, r1, b1⟩
  have D1 := D0.step b1
  have E1 := E0.step b1
  have B1 := B0.trans (b1.mono B0.size)
  have hs1 := b1.size
  simp only [World.size_alloc] at hs1
  have R1 := Lib.hid r1
  clear D0 E0 r1 HA b1 B0
  obtain ⟨c0, c1, c2, c3, c4⟩ := D1.c5
  obtain ⟨z0, z1, z2, z3, z4⟩ := E1.c5
  have f1 := D1.f
  have f2 := E1.f
  go_wp2
  refine bodyPost_ret (v := .agg #[.int .i64 k, .int .i64 i, .int .u64 u, .string s, .slice a n c]) (by simp [results, Tryz.results50, go_sem, World.cell?_setCell_same, World.cell?_setCell_other, z0, z1, z2, z3, z4]) rfl ⟨a, n, c, rfl, ?_, ?_⟩
  · refine hR _ _ _ _ _ R1.out (by simp) fun g hg => ?_
    simp (disch := (simp; omega)) only [Below.heap_setCell]
  · repeat' refine Below.setCell ?_ (by simp) _
    exact B1

theorem copy_leaf (k i u : Int) (s : ByteArray) (ad : Option Addr) (cap : Nat) (w : World) :
    Calls Tryz.prog 50 #[.agg #[.int .i64 k, .int .i64 i, .int .u64 u, .string s, .slice ad 0 cap]] w fun e w' => e = .returned (.agg #[.int .i64 k, .int .i64 i, .int .u64 u, .string s, .slice none 0 0]) ∧ Below w.heap.size w w' :=
  (copy_by k i u s ad 0 cap w (fun a n c _ => a = none ∧ n = 0 ∧ c = 0) (fun _ _ _ _ _ h _ _ => h) fun wx _ _ => (copyAll_none ad cap wx).mono fun _ _ ⟨he, hb⟩ => ⟨_, _, _, he, ⟨rfl, rfl, rfl⟩, hb⟩).mono fun _ _ ⟨a, n, c, he, hr, hb⟩ => by
    obtain ⟨rfl, rfl, rfl⟩ := hr.out
    exact ⟨he, hb⟩

/-- A state's copy, by what becomes of Last and List. -/
theorem copyOf_by (cn ac k i u : Int) (s : ByteArray) (ad : Option Addr) (len cap : Nat) (la : Option Addr) (ll lc : Nat) (cl : Bool) (un : Int) (w : World)
    (Q : Int → Int → Int → ByteArray → Option Addr → Nat → Nat → World → Prop) (hQ : ∀ k i u s a n c w' w'', Q k i u s a n c w' → w'.heap.size ≤ w''.heap.size → (∀ g, w.heap.size + 2 ≤ g → g < w'.heap.size → w''.heap[g]? = w'.heap[g]?) → Q k i u s a n c w'')
    (R : Option Addr → Nat → Nat → World → Prop) (hR : ∀ a n c w' w'', R a n c w' → w'.heap.size ≤ w''.heap.size → (∀ g, w.heap.size + 2 ≤ g → g < w'.heap.size → w''.heap[g]? = w'.heap[g]?) → R a n c w'')
    (hC : ∀ wx, Below w.heap.size w wx → w.heap.size + 2 ≤ wx.heap.size → Calls Tryz.prog 50 #[.agg #[.int .i64 k, .int .i64 i, .int .u64 u, .string s, .slice ad len cap]] wx fun e w' => ∃ k i u s a n c, e = .returned (.agg #[.int .i64 k, .int .i64 i, .int .u64 u, .string s, .slice a n c]) ∧ Q k i u s a n c w' ∧ Below wx.heap.size wx w')
    (hA : ∀ wx, Below w.heap.size w wx → w.heap.size + 2 ≤ wx.heap.size → Calls Tryz.prog 51 #[.slice la ll lc] wx fun e w' => ∃ a n c, e = .returned (.slice a n c) ∧ R a n c w' ∧ Below wx.heap.size wx w') :
    Calls Tryz.prog 37 #[.agg #[.int .i64 cn, .int .i64 ac, .int .i64 k, .int .i64 i, .int .u64 u, .string s, .slice ad len cap, .slice la ll lc, .bool cl, .int .i64 un]] w fun e w' => ∃ k i u s a n c a' n' c', e = .returned (.agg #[.int .i64 cn, .int .i64 ac, .int .i64 k, .int .i64 i, .int .u64 u, .string s, .slice a n c, .slice a' n' c', .bool cl, .int .i64 un]) ∧ Hid (Q k i u s a n c w') ∧ Hid (R a' n' c' w') ∧ Below w.heap.size w w' := by
  have HA := Lib.hid hA
  have HC := Lib.hid hC
  clear hA hC
  have D0 : Bk ((w.alloc (.cells #[.int .i64 cn, .int .i64 ac, .int .i64 k, .int .i64 i, .int .u64 u, .string s, .slice ad len cap, .slice la ll lc, .bool cl, .int .i64 un] 27)).alloc (.cells #[.int .i64 0, .int .i64 0, .int .i64 0, .int .i64 0, .int .u64 0, .string ⟨#[]⟩, .slice none 0 0, .slice none 0 0, .bool false, .int .i64 0] 27)) w.heap.size #[.int .i64 cn, .int .i64 ac, .int .i64 k, .int .i64 i, .int .u64 u, .string s, .slice ad len cap, .slice la ll lc, .bool cl, .int .i64 un] 27 := (Bk.new w _ _).alloc _
  have E0 := Bk.new2 w (.cells #[.int .i64 cn, .int .i64 ac, .int .i64 k, .int .i64 i, .int .u64 u, .string s, .slice ad len cap, .slice la ll lc, .bool cl, .int .i64 un] 27) #[.int .i64 0, .int .i64 0, .int .i64 0, .int .i64 0, .int .u64 0, .string ⟨#[]⟩, .slice none 0 0, .slice none 0 0, .bool false, .int .i64 0] 27
  have B0 := below2 w (.cells #[.int .i64 cn, .int .i64 ac, .int .i64 k, .int .i64 i, .int .u64 u, .string s, .slice ad len cap, .slice la ll lc, .bool cl, .int .i64 un] 27) (.cells #[.int .i64 0, .int .i64 0, .int .i64 0, .int .i64 0, .int .u64 0, .string ⟨#[]⟩, .slice none 0 0, .slice none 0 0, .bool false, .int .i64 0] 27)
  go_enter Tryz.func37, Tryz.ntmps37
  go_wp2_with fail
  refine (HC.out _ B0 (by simp)).mono ?_
  rintro e w1 ⟨k', i', u', s', a', n', c', rfl, q1, b1⟩
  have D1 := D0.step b1
  have E1 := E0.step b1
  have B1 := B0.trans (b1.mono B0.size)
  have hs1 := b1.size
  simp only [World.size_alloc] at hs1
  have Q1 := Lib.hid q1
  clear D0 E0 q1 HC b1 B0
  obtain ⟨c0, c1, c2, c3, c4, c5, c6, c7, c8, c9⟩ := D1.c10
  have f1 := D1.f
  go_wp2_with fail
  have D2 : Bk (((((w1.setCell ⟨w.heap.size, 2, none⟩ (.int .i64 k')).setCell ⟨w.heap.size, 3, none⟩ (.int .i64 i')).setCell ⟨w.heap.size, 4, none⟩ (.int .u64 u')).setCell ⟨w.heap.size, 5, none⟩ (.string s')).setCell ⟨w.heap.size, 6, none⟩ (.slice a' n' c')) w.heap.size #[.int .i64 cn, .int .i64 ac, .int .i64 k', .int .i64 i', .int .u64 u', .string s', .slice a' n' c', .slice la ll lc, .bool cl, .int .i64 un] 27 := ((((D1.set 2 _).set 3 _).set 4 _).set 5 _).set 6 _
  have E2 : Bk (((((w1.setCell ⟨w.heap.size, 2, none⟩ (.int .i64 k')).setCell ⟨w.heap.size, 3, none⟩ (.int .i64 i')).setCell ⟨w.heap.size, 4, none⟩ (.int .u64 u')).setCell ⟨w.heap.size, 5, none⟩ (.string s')).setCell ⟨w.heap.size, 6, none⟩ (.slice a' n' c')) (w.heap.size + 1) _ _ := ((((E1.other _ _ (by simp)).other _ _ (by simp)).other _ _ (by simp)).other _ _ (by simp)).other _ _ (by simp)
  have B2 : Below w.heap.size w (((((w1.setCell ⟨w.heap.size, 2, none⟩ (.int .i64 k')).setCell ⟨w.heap.size, 3, none⟩ (.int .i64 i')).setCell ⟨w.heap.size, 4, none⟩ (.int .u64 u')).setCell ⟨w.heap.size, 5, none⟩ (.string s')).setCell ⟨w.heap.size, 6, none⟩ (.slice a' n' c')) := by
    repeat' refine Below.setCell ?_ (by simp) _
    exact B1
  have Q2 : Hid (Q k' i' u' s' a' n' c' (((((w1.setCell ⟨w.heap.size, 2, none⟩ (.int .i64 k')).setCell ⟨w.heap.size, 3, none⟩ (.int .i64 i')).setCell ⟨w.heap.size, 4, none⟩ (.int .u64 u')).setCell ⟨w.heap.size, 5, none⟩ (.string s')).setCell ⟨w.heap.size, 6, none⟩ (.slice a' n' c'))) := by
    refine hQ _ _ _ _ _ _ _ _ _ Q1.out (by simp) fun g hg _ => ?_
    simp (disch := (simp; omega)) only [Below.heap_setCell]
  have hs2 : w.heap.size + 2 ≤ (((((w1.setCell ⟨w.heap.size, 2, none⟩ (.int .i64 k')).setCell ⟨w.heap.size, 3, none⟩ (.int .i64 i')).setCell ⟨w.heap.size, 4, none⟩ (.int .u64 u')).setCell ⟨w.heap.size, 5, none⟩ (.string s')).setCell ⟨w.heap.size, 6, none⟩ (.slice a' n' c')).heap.size := by simpa using hs1
  generalize (((((w1.setCell ⟨w.heap.size, 2, none⟩ (.int .i64 k')).setCell ⟨w.heap.size, 3, none⟩ (.int .i64 i')).setCell ⟨w.heap.size, 4, none⟩ (.int .u64 u')).setCell ⟨w.heap.size, 5, none⟩ (.string s')).setCell ⟨w.heap.size, 6, none⟩ (.slice a' n' c')) = w2 at D2 E2 B2 Q2 hs2 ⊢
  clear c0 c1 c2 c3 c4 c5 c6 c7 c8 c9 f1 D1 E1 B1 Q1 hs1
  refine (HA.out _ B2 hs2).mono ?_
  rintro e w3 ⟨a2, n2, m2, rfl, r3, b3⟩
  have D3 := D2.step b3
  have E3 := E2.step b3
  have B3 := B2.trans (b3.mono B2.size)
  have hs3 := Nat.le_trans hs2 b3.size
  have Q3 : Hid (Q k' i' u' s' a' n' c' w3) := hQ _ _ _ _ _ _ _ _ _ Q2.out b3.size fun g _ hg => b3.block g hg
  have R3 := Lib.hid r3
  clear D2 E2 B2 Q2 r3 hs2 b3 HA
  obtain ⟨c0, c1, c2, c3, c4, c5, c6, c7, c8, c9⟩ := D3.c10
  obtain ⟨z0, z1, z2, z3, z4, z5, z6, z7, z8, z9⟩ := E3.c10
  have f1 := D3.f
  have f2 := E3.f
  go_wp2
  refine bodyPost_ret (v := .agg #[.int .i64 cn, .int .i64 ac, .int .i64 k', .int .i64 i', .int .u64 u', .string s', .slice a' n' c', .slice a2 n2 m2, .bool cl, .int .i64 un]) (by simp [results, Tryz.results37, go_sem, World.cell?_setCell_same, World.cell?_setCell_other, z0, z1, z2, z3, z4, z5, z6, z7, z8, z9]) rfl ⟨_, _, _, _, _, _, _, _, _, _, rfl, ?_, ?_, ?_⟩
  · refine hQ _ _ _ _ _ _ _ _ _ Q3.out (by simp) fun g hg _ => ?_
    simp (disch := (simp; omega)) only [Below.heap_setCell]
  · refine hR _ _ _ _ _ R3.out (by simp) fun g hg _ => ?_
    simp (disch := (simp; omega)) only [Below.heap_setCell]
  · repeat' refine Below.setCell ?_ (by simp) _
    exact B3
end Go.Proofs.YtgijdiplhcoojaaGreatDoor
/- What is told of an answer, an error and a panic; something called whose panic is caught; the conditions: what it comes to. -/
namespace Go.Proofs.YtgijdiplhcoojaaGreatDoor
open Go.RowKit

/-- The cells of a result. -/
abbrev rcs (er co pk pn : Int) (has : Bool) (k i u : Int) (s : ByteArray) (a : Option Addr) (n c : Nat) : Array Value :=
  #[.int .i64 er, .int .i64 co, .int .i64 pk, .int .i64 pn, .bool has, .int .i64 k, .int .i64 i, .int .u64 u, .string s, .slice a n c]
abbrev rErr (er co pk pn : Int) : Array Value := rcs er co pk pn false 0 0 0 ⟨#[]⟩ none 0 0

theorem as_yes {P : Program} {t x : TypeId} {d : TypeDesc} {v z : Value} {w : World} (hU : P.underlying t = some d) (hd : ∀ m, d ≠ .interface m) (hz : (zeroValue t).run P w = .ok z w) : (Instr.typeAssert (.iface t v) x t true).run P w = .ok (.tuple #[v, .bool true]) w := by
  have h := assert_to (t := t) (x := x) (v := v) hU hd hz
  simpa using h
theorem as_no {P : Program} {t x asserted : TypeId} {d : TypeDesc} {v z : Value} {w : World} (hU : P.underlying asserted = some d) (hd : ∀ m, d ≠ .interface m) (hz : (zeroValue asserted).run P w = .ok z w) (hne : t ≠ asserted) : (Instr.typeAssert (.iface t v) x asserted true).run P w = .ok (.tuple #[z, .bool false]) w := by
  have h := assert_to (t := t) (x := x) (v := v) hU hd hz
  simpa [hne] using h

set_option maxRecDepth 100000 in
set_option maxHeartbeats 1000000 in
theorem told_answer (has : Bool) (k i u : Int) (s : ByteArray) (a : Option Addr) (n c : Nat) (w : World) :
    Calls Tryz.prog 56 #[.agg #[.bool has, .int .i64 k, .int .i64 i, .int .u64 u, .string s, .slice a n c], .nilIface] w fun e w' => e = .returned (.agg (rcs 0 0 0 0 has k i u s a n c)) ∧ Below w.heap.size w w' := by
  have a0 : ∀ w : World, (Instr.typeAssert .nilIface 103 52 true).run Tryz.prog w = .ok (.tuple #[.int .i64 0, .bool false]) w := fun w => assert_nil Tryz.underlying52 (by kernel_rfl)
  have a1 : ∀ w : World, (Instr.typeAssert .nilIface 103 148 true).run Tryz.prog w = .ok (.tuple #[.pointer none, .bool false]) w := fun w => assert_nil Tryz.underlying148 (by kernel_rfl)
  go_enter Tryz.func56, Tryz.ntmps56
  go_wp2
  exact bodyPost_ret (v := .agg (rcs 0 0 0 0 has k i u s a n c)) (by simp [results, Tryz.results56, go_sem]) rfl ⟨rfl, below2 w _ _⟩

set_option maxRecDepth 100000 in
set_option maxHeartbeats 1000000 in
theorem told_errno (has : Bool) (k i u : Int) (s : ByteArray) (a : Option Addr) (n c : Nat) (er : Int) (w : World) :
    Calls Tryz.prog 56 #[.agg #[.bool has, .int .i64 k, .int .i64 i, .int .u64 u, .string s, .slice a n c], .iface 52 (.int .i64 er)] w fun e w' => e = .returned (.agg (rErr er 0 0 0)) ∧ Below w.heap.size w w' := by
  have a0 : ∀ w : World, (Instr.typeAssert (.iface 52 (.int .i64 er)) 103 52 true).run Tryz.prog w = .ok (.tuple #[.int .i64 er, .bool true]) w := fun w => as_yes Tryz.underlying52 (fun m h => by cases h) (z := .int .i64 0) (by kernel_rfl)
  go_enter Tryz.func56, Tryz.ntmps56
  go_wp2
  exact bodyPost_ret (v := .agg (rErr er 0 0 0)) (by simp [results, Tryz.results56, go_sem]) rfl ⟨rfl, below2 w _ _⟩

set_option maxRecDepth 100000 in
set_option maxHeartbeats 1000000 in
theorem told_nobody (has : Bool) (k i u : Int) (s : ByteArray) (a : Option Addr) (n c : Nat) (w : World) :
    Calls Tryz.prog 56 #[.agg #[.bool has, .int .i64 k, .int .i64 i, .int .u64 u, .string s, .slice a n c], .iface 148 (.pointer none)] w fun e w' => e = .returned (.agg (rErr 101 0 0 0)) ∧ Below w.heap.size w w' := by
  have a0 : ∀ w : World, (Instr.typeAssert (.iface 148 (.pointer none)) 103 52 true).run Tryz.prog w = .ok (.tuple #[.int .i64 0, .bool false]) w := fun w => as_no Tryz.underlying52 (fun m h => by cases h) (by kernel_rfl) (by decide)
  have a1 : ∀ w : World, (Instr.typeAssert (.iface 148 (.pointer none)) 103 148 true).run Tryz.prog w = .ok (.tuple #[.pointer none, .bool true]) w := fun w => as_yes Tryz.underlying148 (fun m h => by cases h) (z := .pointer none) (by kernel_rfl)
  go_enter Tryz.func56, Tryz.ntmps56
  go_wp2
  exact bodyPost_ret (v := .agg (rErr 101 0 0 0)) (by simp [results, Tryz.results56, go_sem]) rfl ⟨rfl, below2 w _ _⟩

set_option maxRecDepth 100000 in
set_option maxHeartbeats 1000000 in
theorem told_failure (has : Bool) (k i u : Int) (s : ByteArray) (a : Option Addr) (n c : Nat) (f : Nat) (co : Int) (w : World) (hl : f < w.heap.size) (hf : w.cell? ⟨f, 0, none⟩ = some (.int .i64 co)) :
    Calls Tryz.prog 56 #[.agg #[.bool has, .int .i64 k, .int .i64 i, .int .u64 u, .string s, .slice a n c], .iface 148 (.pointer (some ⟨f, 0, none⟩))] w fun e w' => e = .returned (.agg (rErr 100 co 0 0)) ∧ Below w.heap.size w w' := by
  have hf2 : ∀ o p, ((w.alloc o).alloc p).cell? ⟨f, 0, none⟩ = some (.int .i64 co) := fun o p => ((below2 w o p).cell (p := ⟨f, 0, none⟩) hl).trans hf
  clear hf
  have a0 : ∀ w : World, (Instr.typeAssert (.iface 148 (.pointer (some ⟨f, 0, none⟩))) 103 52 true).run Tryz.prog w = .ok (.tuple #[.int .i64 0, .bool false]) w := fun w => as_no Tryz.underlying52 (fun m h => by cases h) (by kernel_rfl) (by decide)
  have a1 : ∀ w : World, (Instr.typeAssert (.iface 148 (.pointer (some ⟨f, 0, none⟩))) 103 148 true).run Tryz.prog w = .ok (.tuple #[.pointer (some ⟨f, 0, none⟩), .bool true]) w := fun w => as_yes Tryz.underlying148 (fun m h => by cases h) (z := .pointer none) (by kernel_rfl)
  go_enter Tryz.func56, Tryz.ntmps56
  go_wp2
  exact bodyPost_ret (v := .agg (rErr 100 co 0 0)) (by simp [results, Tryz.results56, go_sem]) rfl ⟨rfl, below2 w _ _⟩

set_option maxRecDepth 100000 in
set_option maxHeartbeats 1000000 in
theorem ptold_assert (x : Int) (w : World) :
    Calls Tryz.prog 66 #[.iface 152 (.int .i64 x)] w fun e w' => e = .returned (.agg #[.int .i64 2, .int .i64 x]) ∧ Below w.heap.size w w' := by
  have a0 : ∀ w : World, (Instr.typeAssert (.iface 152 (.int .i64 x)) 20 152 true).run Tryz.prog w = .ok (.tuple #[.int .i64 x, .bool true]) w := fun w => as_yes Tryz.underlying152 (fun m h => by cases h) (z := .int .i64 0) (by kernel_rfl)
  go_enter Tryz.func66, Tryz.ntmps66
  go_wp2
  exact bodyPost_ret (v := .agg #[.int .i64 2, .int .i64 x]) (by simp [results, Tryz.results66, go_sem]) rfl ⟨rfl, by first | exact below1 _ _ | exact below2 _ _ _⟩

set_option maxRecDepth 100000 in
set_option maxHeartbeats 1000000 in
theorem ptold_nil  (w : World) :
    Calls Tryz.prog 66 #[.iface 153 (.agg #[])] w fun e w' => e = .returned (.agg #[.int .i64 3, .int .i64 0]) ∧ Below w.heap.size w w' := by
  have a0 : ∀ w : World, (Instr.typeAssert (.iface 153 (.agg #[])) 20 152 true).run Tryz.prog w = .ok (.tuple #[.int .i64 0, .bool false]) w := fun w => as_no Tryz.underlying152 (fun m h => by cases h) (by kernel_rfl) (by decide)
  have a1 : ∀ w : World, (Instr.typeAssert (.iface 153 (.agg #[])) 20 153 true).run Tryz.prog w = .ok (.tuple #[.agg #[], .bool true]) w := fun w => as_yes Tryz.underlying153 (fun m h => by cases h) (z := .agg #[]) (by kernel_rfl)
  go_enter Tryz.func66, Tryz.ntmps66
  go_wp2
  exact bodyPost_ret (v := .agg #[.int .i64 3, .int .i64 0]) (by simp [results, Tryz.results66, go_sem]) rfl ⟨rfl, by first | exact below1 _ _ | exact below2 _ _ _⟩

set_option maxRecDepth 100000 in
set_option maxHeartbeats 1000000 in
theorem ptold_index (x : Int) (w : World) :
    Calls Tryz.prog 66 #[.iface 154 (.int .i64 x)] w fun e w' => e = .returned (.agg #[.int .i64 4, .int .i64 x]) ∧ Below w.heap.size w w' := by
  have a0 : ∀ w : World, (Instr.typeAssert (.iface 154 (.int .i64 x)) 20 152 true).run Tryz.prog w = .ok (.tuple #[.int .i64 0, .bool false]) w := fun w => as_no Tryz.underlying152 (fun m h => by cases h) (by kernel_rfl) (by decide)
  have a1 : ∀ w : World, (Instr.typeAssert (.iface 154 (.int .i64 x)) 20 153 true).run Tryz.prog w = .ok (.tuple #[.agg #[], .bool false]) w := fun w => as_no Tryz.underlying153 (fun m h => by cases h) (by kernel_rfl) (by decide)
  have a2 : ∀ w : World, (Instr.typeAssert (.iface 154 (.int .i64 x)) 20 154 true).run Tryz.prog w = .ok (.tuple #[.int .i64 x, .bool true]) w := fun w => as_yes Tryz.underlying154 (fun m h => by cases h) (z := .int .i64 0) (by kernel_rfl)
  go_enter Tryz.func66, Tryz.ntmps66
  go_wp2
  exact bodyPost_ret (v := .agg #[.int .i64 4, .int .i64 x]) (by simp [results, Tryz.results66, go_sem]) rfl ⟨rfl, by first | exact below1 _ _ | exact below2 _ _ _⟩

set_option maxRecDepth 100000 in
set_option maxHeartbeats 1000000 in
theorem ptold_own (x : Int) (w : World) :
    Calls Tryz.prog 66 #[.iface 155 (.int .i64 x)] w fun e w' => e = .returned (.agg #[.int .i64 1, .int .i64 x]) ∧ Below w.heap.size w w' := by
  have a0 : ∀ w : World, (Instr.typeAssert (.iface 155 (.int .i64 x)) 20 152 true).run Tryz.prog w = .ok (.tuple #[.int .i64 0, .bool false]) w := fun w => as_no Tryz.underlying152 (fun m h => by cases h) (by kernel_rfl) (by decide)
  have a1 : ∀ w : World, (Instr.typeAssert (.iface 155 (.int .i64 x)) 20 153 true).run Tryz.prog w = .ok (.tuple #[.agg #[], .bool false]) w := fun w => as_no Tryz.underlying153 (fun m h => by cases h) (by kernel_rfl) (by decide)
  have a2 : ∀ w : World, (Instr.typeAssert (.iface 155 (.int .i64 x)) 20 154 true).run Tryz.prog w = .ok (.tuple #[.int .i64 0, .bool false]) w := fun w => as_no Tryz.underlying154 (fun m h => by cases h) (by kernel_rfl) (by decide)
  have a3 : ∀ w : World, (Instr.typeAssert (.iface 155 (.int .i64 x)) 20 155 true).run Tryz.prog w = .ok (.tuple #[.int .i64 x, .bool true]) w := fun w => as_yes Tryz.underlying155 (fun m h => by cases h) (z := .int .i64 0) (by kernel_rfl)
  go_enter Tryz.func66, Tryz.ntmps66
  go_wp2
  exact bodyPost_ret (v := .agg #[.int .i64 1, .int .i64 x]) (by simp [results, Tryz.results66, go_sem]) rfl ⟨rfl, by first | exact below1 _ _ | exact below2 _ _ _⟩

set_option maxRecDepth 100000 in
set_option maxHeartbeats 1000000 in
theorem ptold_error (x : Int) (t : ByteArray) (w : World) :
    Calls Tryz.prog 66 #[.iface 120 (.agg #[.int .i64 x, .string t])] w fun e w' => e = .returned (.agg #[.int .i64 7, .int .i64 x]) ∧ Below w.heap.size w w' := by
  have a0 : ∀ w : World, (Instr.typeAssert (.iface 120 (.agg #[.int .i64 x, .string t])) 20 152 true).run Tryz.prog w = .ok (.tuple #[.int .i64 0, .bool false]) w := fun w => as_no Tryz.underlying152 (fun m h => by cases h) (by kernel_rfl) (by decide)
  have a1 : ∀ w : World, (Instr.typeAssert (.iface 120 (.agg #[.int .i64 x, .string t])) 20 153 true).run Tryz.prog w = .ok (.tuple #[.agg #[], .bool false]) w := fun w => as_no Tryz.underlying153 (fun m h => by cases h) (by kernel_rfl) (by decide)
  have a2 : ∀ w : World, (Instr.typeAssert (.iface 120 (.agg #[.int .i64 x, .string t])) 20 154 true).run Tryz.prog w = .ok (.tuple #[.int .i64 0, .bool false]) w := fun w => as_no Tryz.underlying154 (fun m h => by cases h) (by kernel_rfl) (by decide)
  have a3 : ∀ w : World, (Instr.typeAssert (.iface 120 (.agg #[.int .i64 x, .string t])) 20 155 true).run Tryz.prog w = .ok (.tuple #[.int .i64 0, .bool false]) w := fun w => as_no Tryz.underlying155 (fun m h => by cases h) (by kernel_rfl) (by decide)
  have a4 : ∀ w : World, (Instr.typeAssert (.iface 120 (.agg #[.int .i64 x, .string t])) 20 120 true).run Tryz.prog w = .ok (.tuple #[.agg #[.int .i64 x, .string t], .bool true]) w := fun w => as_yes Tryz.underlying120 (fun m h => by cases h) (z := .agg #[.int .i64 0, .string ⟨#[]⟩]) (by kernel_rfl)
  go_enter Tryz.func66, Tryz.ntmps66
  go_wp2
  exact bodyPost_ret (v := .agg #[.int .i64 7, .int .i64 x]) (by simp [results, Tryz.results66, go_sem]) rfl ⟨rfl, by first | exact below1 _ _ | exact below2 _ _ _⟩
end Go.Proofs.YtgijdiplhcoojaaGreatDoor
