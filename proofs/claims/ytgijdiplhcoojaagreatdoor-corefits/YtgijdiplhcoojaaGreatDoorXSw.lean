/- The parts of a saved state: numbers, truths, lists and pairs as values; no condition. -/
import Derived.Test.YtgijdiplhcoojaaGreatDoorJaf
import Derived.Test.YtgijdiplhcoojaaGreatDoorXVc
namespace Go.Proofs.YtgijdiplhcoojaaGreatDoor
open Go.RowKit

set_option maxRecDepth 100000 in
set_option maxHeartbeats 1000000 in
theorem plainTruth_any (b : Bool) (w : World) : Calls Tryz.prog 62 #[.bool b] w fun e w' => e = .returned (.agg #[.int .i64 6, .int .i64 (if b then 1 else 0), .int .u64 0, .string ⟨#[]⟩, .slice none 0 0]) ∧ Below w.heap.size w w' := by
  cases b
  all_goals
    go_enter Tryz.func62, Tryz.ntmps62
    go_wp2
    exact bodyPost_ret (v := .agg #[.int .i64 6, .int .i64 _, .int .u64 0, .string ⟨#[]⟩, .slice none 0 0]) (by simp [results, Tryz.results62, go_sem]) rfl ⟨rfl, below1 w _⟩

set_option maxRecDepth 100000 in
set_option maxHeartbeats 1000000 in
theorem plain_tr (b : Bool) (w : World) : Calls Tryz.prog 52 #[.iface 95 (.bool b)] w fun e w' => e = .returned (.agg #[.int .i64 6, .int .i64 (if b then 1 else 0), .int .u64 0, .string ⟨#[]⟩, .slice none 0 0]) ∧ Below w.heap.size w w' := by
  have a0 : ∀ w : World, (Instr.typeAssert (.iface 95 (.bool b)) 20 94 true).run Tryz.prog w = .ok (.tuple #[.int .i64 0, .bool false]) w := fun w => as_no Tryz.underlying94 (fun m h => by cases h) (by kernel_rfl) (by decide)
  have a1 : ∀ w : World, (Instr.typeAssert (.iface 95 (.bool b)) 20 107 true).run Tryz.prog w = .ok (.tuple #[.int .i64 0, .bool false]) w := fun w => as_no Tryz.underlying107 (fun m h => by cases h) (by kernel_rfl) (by decide)
  have a2 : ∀ w : World, (Instr.typeAssert (.iface 95 (.bool b)) 20 108 true).run Tryz.prog w = .ok (.tuple #[.float .f64 0, .bool false]) w := fun w => as_no Tryz.underlying108 (fun m h => by cases h) (by kernel_rfl) (by decide)
  have a3 : ∀ w : World, (Instr.typeAssert (.iface 95 (.bool b)) 20 109 true).run Tryz.prog w = .ok (.tuple #[.string ⟨#[]⟩, .bool false]) w := fun w => as_no Tryz.underlying109 (fun m h => by cases h) (by kernel_rfl) (by decide)
  have a4 : ∀ w : World, (Instr.typeAssert (.iface 95 (.bool b)) 20 110 true).run Tryz.prog w = .ok (.tuple #[.string ⟨#[]⟩, .bool false]) w := fun w => as_no Tryz.underlying110 (fun m h => by cases h) (by kernel_rfl) (by decide)
  have a5 : ∀ w : World, (Instr.typeAssert (.iface 95 (.bool b)) 20 95 true).run Tryz.prog w = .ok (.tuple #[.bool b, .bool true]) w := fun w => as_yes Tryz.underlying95 (fun m h => by cases h) (z := .bool false) (by kernel_rfl)
  have H := Lib.hid (plainTruth_any b)
  have R0 := Bk.new w #[.int .i64 0, .int .i64 0, .int .u64 0, .string ⟨#[]⟩, .slice none 0 0] 25
  have B0 := below1 w (.cells #[.int .i64 0, .int .i64 0, .int .u64 0, .string ⟨#[]⟩, .slice none 0 0] 25)
  generalize (if b then (1 : Int) else 0) = x at *
  go_enter Tryz.func52, Tryz.ntmps52
  go_wp2_with fail
  refine (H.out _).mono ?_
  rintro e w1 ⟨rfl, b1⟩
  have R1 := R0.step b1
  have B1 := B0.trans (b1.mono B0.size)
  obtain ⟨z0, z1, z2, z3, z4⟩ := R1.c5
  have f1 := R1.f
  go_wp2_with fail
  refine bodyPost_ret (v := .agg #[.int .i64 6, .int .i64 x, .int .u64 0, .string ⟨#[]⟩, .slice none 0 0]) (by simp [results, Tryz.results52, go_sem, World.cell?_setCell_same, World.cell?_setCell_other, z0, z1, z2, z3, z4]) rfl ⟨rfl, ?_⟩
  repeat' refine Below.setCell ?_ (by simp) _
  exact B1

set_option maxRecDepth 100000 in
set_option maxHeartbeats 1000000 in
theorem truth_any (b : Bool) (w : World) : Calls Tryz.prog 41 #[.bool b] w fun e w' => e = .returned (.agg #[.int .i64 6, .int .i64 (if b then 1 else 0), .int .u64 0, .string ⟨#[]⟩, .slice none 0 0]) ∧ Below w.heap.size w w' := by
  have H := Lib.hid (plain_tr b)
  have R0 := Bk.new w #[.int .i64 0, .int .i64 0, .int .u64 0, .string ⟨#[]⟩, .slice none 0 0] 25
  have B0 := below1 w (.cells #[.int .i64 0, .int .i64 0, .int .u64 0, .string ⟨#[]⟩, .slice none 0 0] 25)
  generalize (if b then (1 : Int) else 0) = x at *
  go_enter Tryz.func41, Tryz.ntmps41
  go_wp2_with fail
  refine (H.out _).mono ?_
  rintro e w1 ⟨rfl, b1⟩
  have R1 := R0.step b1
  have B1 := B0.trans (b1.mono B0.size)
  obtain ⟨z0, z1, z2, z3, z4⟩ := R1.c5
  have f1 := R1.f
  go_wp2_with fail
  refine bodyPost_ret (v := .agg #[.int .i64 6, .int .i64 x, .int .u64 0, .string ⟨#[]⟩, .slice none 0 0]) (by simp [results, Tryz.results41, go_sem, World.cell?_setCell_same, World.cell?_setCell_other, z0, z1, z2, z3, z4]) rfl ⟨rfl, ?_⟩
  repeat' refine Below.setCell ?_ (by simp) _
  exact B1

set_option maxRecDepth 100000 in
set_option maxHeartbeats 1000000 in
theorem list_any (a : Option Addr) (n c : Nat) (w : World) : Calls Tryz.prog 39 #[.slice a n c] w fun e w' => e = .returned (.agg #[.int .i64 8, .int .i64 0, .int .u64 0, .string ⟨#[]⟩, .slice a n c]) ∧ Below w.heap.size w w' := by
  go_enter Tryz.func39, Tryz.ntmps39
  go_wp2
  exact bodyPost_ret (v := .agg #[.int .i64 8, .int .i64 0, .int .u64 0, .string ⟨#[]⟩, .slice a n c]) (by simp [results, Tryz.results39, go_sem]) rfl ⟨rfl, below1 w _⟩

set_option maxRecDepth 100000 in
set_option maxHeartbeats 1000000 in
theorem pair_any (k i u : Int) (s : ByteArray) (a : Option Addr) (n c : Nat) (k' i' u' : Int) (s' : ByteArray) (a' : Option Addr) (n' c' : Nat) (w : World) :
    Calls Tryz.prog 38 #[.agg #[.int .i64 k, .int .i64 i, .int .u64 u, .string s, .slice a n c], .agg #[.int .i64 k', .int .i64 i', .int .u64 u', .string s', .slice a' n' c']] w fun e w' => ∃ g, e = .returned (.agg #[.int .i64 9, .int .i64 0, .int .u64 0, .string ⟨#[]⟩, .slice (some ⟨g, 0, none⟩) 2 2]) ∧ w.heap.size ≤ g ∧ Bk w' g #[.int .i64 k, .int .i64 i, .int .u64 u, .string s, .slice a n c, .int .i64 k', .int .i64 i', .int .u64 u', .string s', .slice a' n' c'] 25 ∧ Below w.heap.size w w' := by
  go_enter Tryz.func38, Tryz.ntmps38
  go_wp2
  refine bodyPost_ret (v := .agg #[.int .i64 9, .int .i64 0, .int .u64 0, .string ⟨#[]⟩, .slice (some ⟨w.heap.size + 1 + 1 + 1, 0, none⟩) 2 2]) (by simp [results, Tryz.results38, go_sem]) rfl ⟨_, rfl, by omega, ?_, (below3 w _ _ _).alloc (by simp; omega) _⟩
  have := Bk.new3 (w.alloc (.cells #[.int .i64 k, .int .i64 i, .int .u64 u, .string s, .slice a n c] 25)) (.cells #[.int .i64 k', .int .i64 i', .int .u64 u', .string s', .slice a' n' c'] 25) (.cells #[.int .i64 9, .int .i64 0, .int .u64 0, .string ⟨#[]⟩, .slice (some ⟨w.heap.size + 1 + 1 + 1, 0, none⟩) 2 2] 25) #[.int .i64 k, .int .i64 i, .int .u64 u, .string s, .slice a n c, .int .i64 k', .int .i64 i', .int .u64 u', .string s', .slice a' n' c'] 25
  rwa [World.size_alloc] at this

theorem set5 {w : World} {A : Nat} {y0 y1 y2 y3 y4 : Value} {T : TypeId} (h : Bk w A #[y0, y1, y2, y3, y4] T) (x0 x1 x2 x3 x4 : Value) {W : World} (hW : W = ((((w.setCell ⟨A, 0, none⟩ x0).setCell ⟨A, 1, none⟩ x1).setCell ⟨A, 2, none⟩ x2).setCell ⟨A, 3, none⟩ x3).setCell ⟨A, 4, none⟩ x4) :
    Bk W A #[x0, x1, x2, x3, x4] T ∧ W.heap.size = w.heap.size ∧ (∀ g, g ≠ A → W.heap[g]? = w.heap[g]?) ∧ Below A w W := by
  subst hW
  have h0 : Bk _ A #[x0, y1, y2, y3, y4] T := h.set 0 x0
  have h1 : Bk _ A #[x0, x1, y2, y3, y4] T := h0.set 1 x1
  have h2 : Bk _ A #[x0, x1, x2, y3, y4] T := h1.set 2 x2
  have h3 : Bk _ A #[x0, x1, x2, x3, y4] T := h2.set 3 x3
  have h4 : Bk _ A #[x0, x1, x2, x3, x4] T := h3.set 4 x4
  refine ⟨h4, by simp, fun g hg => ?_, ?_⟩
  · simp (disch := (simp; omega)) only [Below.heap_setCell]
  · exact (((((Below.refl A w).setCell (Nat.le_refl A) _).setCell (Nat.le_refl A) _).setCell (Nat.le_refl A) _).setCell (Nat.le_refl A) _).setCell (Nat.le_refl A) _

/-- What lies in memory while a state is made a value. -/
structure Sv (w : World) (st : Array Value) (q : World → Prop) (wx : World) : Prop where
  d : Bk wx w.heap.size st 27
  e : Bk wx (w.heap.size + 1) #[.int .i64 0, .int .i64 0, .int .u64 0, .string ⟨#[]⟩, .slice none 0 0] 25
  b : Below w.heap.size w wx
  q : q wx
theorem Sv.step {w : World} {st : Array Value} {q : World → Prop} {w1 w2 : World} (h : Sv w st q w1) (hq : ∀ w' w'', q w' → w'.heap.size ≤ w''.heap.size → (∀ g, w.heap.size + 2 ≤ g → g < w'.heap.size → w''.heap[g]? = w'.heap[g]?) → q w'') (hb : Below w1.heap.size w1 w2) : Sv w st q w2 :=
  ⟨h.d.step hb, h.e.step hb, h.b.trans (hb.mono h.b.size), hq _ _ h.q hb.size fun g _ hg => hb.block g hg⟩
theorem Sv.drew {w : World} {st : Array Value} {q : World → Prop} {w1 : World} (h : Sv w st q w1) (hq : ∀ w' w'', q w' → w'.heap.size ≤ w''.heap.size → (∀ g, w.heap.size + 2 ≤ g → g < w'.heap.size → w''.heap[g]? = w'.heap[g]?) → q w'') : Sv w st q w1.drew := h.step hq (Below.drew (Below.refl _ _))
/-- The twenty cells of four values. -/
abbrev nums (cn ac un x : Int) : Array Value := #[.int .i64 1, .int .i64 cn, .int .u64 0, .string ⟨#[]⟩, .slice none 0 0, .int .i64 1, .int .i64 ac, .int .u64 0, .string ⟨#[]⟩, .slice none 0 0, .int .i64 1, .int .i64 un, .int .u64 0, .string ⟨#[]⟩, .slice none 0 0, .int .i64 6, .int .i64 x, .int .u64 0, .string ⟨#[]⟩, .slice none 0 0]

/-- What saved gives. -/
def SvP (cn ac un x : Int) (Q : Int → Int → Int → ByteArray → Option Addr → Nat → Nat → Option Addr → Nat → Nat → World → Prop) (w : World) (e : Ending) (w' : World) : Prop := ∃ k1 i1 u1 s1 a1 n1 c1 a1' n1' c1' gP g4 g2, e = .returned (.agg #[.int .i64 9, .int .i64 0, .int .u64 0, .string ⟨#[]⟩, .slice (some ⟨gP, 0, none⟩) 2 2]) ∧ Bk w' gP #[.int .i64 8, .int .i64 0, .int .u64 0, .string ⟨#[]⟩, .slice (some ⟨g4, 0, none⟩) 4 4, .int .i64 9, .int .i64 0, .int .u64 0, .string ⟨#[]⟩, .slice (some ⟨g2, 0, none⟩) 2 2] 25 ∧ Bk w' g4 (nums cn ac un x) 25 ∧ Bk w' g2 #[.int .i64 k1, .int .i64 i1, .int .u64 u1, .string s1, .slice a1 n1 c1, .int .i64 8, .int .i64 0, .int .u64 0, .string ⟨#[]⟩, .slice a1' n1' c1'] 25 ∧ Hid (Q k1 i1 u1 s1 a1 n1 c1 a1' n1' c1' w') ∧ (w.heap.size ≤ gP ∧ w.heap.size ≤ g4 ∧ w.heap.size ≤ g2) ∧ Below w.heap.size w w'

set_option maxRecDepth 100000 in
set_option maxHeartbeats 2000000 in
/-- saved, by the contract of the state's copy. -/
theorem saved_by (cn ac k i u : Int) (s : ByteArray) (a : Option Addr) (n c : Nat) (a' : Option Addr) (n' c' : Nat) (cl : Bool) (un x : Int) (hx : (if cl then (1 : Int) else 0) = x) (w : World)
    (Q : Int → Int → Int → ByteArray → Option Addr → Nat → Nat → Option Addr → Nat → Nat → World → Prop) (hQ : ∀ k i u s a n c a' n' c' w' w'', Q k i u s a n c a' n' c' w' → w'.heap.size ≤ w''.heap.size → (∀ g, w.heap.size + 2 ≤ g → g < w'.heap.size → w''.heap[g]? = w'.heap[g]?) → Q k i u s a n c a' n' c' w'')
    (hC : ∀ wx, Below w.heap.size w wx → w.heap.size + 2 ≤ wx.heap.size → Calls Tryz.prog 37 #[.agg #[.int .i64 cn, .int .i64 ac, .int .i64 k, .int .i64 i, .int .u64 u, .string s, .slice a n c, .slice a' n' c', .bool cl, .int .i64 un]] wx fun e w' => ∃ k i u s a n c a' n' c', e = .returned (.agg #[.int .i64 cn, .int .i64 ac, .int .i64 k, .int .i64 i, .int .u64 u, .string s, .slice a n c, .slice a' n' c', .bool cl, .int .i64 un]) ∧ Q k i u s a n c a' n' c' w' ∧ Below wx.heap.size wx w') :
    Calls Tryz.prog 22 #[.agg #[.int .i64 cn, .int .i64 ac, .int .i64 k, .int .i64 i, .int .u64 u, .string s, .slice a n c, .slice a' n' c', .bool cl, .int .i64 un]] w fun e w' => SvP cn ac un x Q w e w' := by
  have hx := Lib.hid hx
  have HC := Lib.hid hC
  clear hC
  have D0 : Bk ((w.alloc (.cells #[.int .i64 cn, .int .i64 ac, .int .i64 k, .int .i64 i, .int .u64 u, .string s, .slice a n c, .slice a' n' c', .bool cl, .int .i64 un] 27)).alloc (.cells #[.int .i64 0, .int .i64 0, .int .u64 0, .string ⟨#[]⟩, .slice none 0 0] 25)) w.heap.size #[.int .i64 cn, .int .i64 ac, .int .i64 k, .int .i64 i, .int .u64 u, .string s, .slice a n c, .slice a' n' c', .bool cl, .int .i64 un] 27 := (Bk.new w _ _).alloc _
  have E0 := Bk.new2 w (.cells #[.int .i64 cn, .int .i64 ac, .int .i64 k, .int .i64 i, .int .u64 u, .string s, .slice a n c, .slice a' n' c', .bool cl, .int .i64 un] 27) #[.int .i64 0, .int .i64 0, .int .u64 0, .string ⟨#[]⟩, .slice none 0 0] 25
  have B0 := below2 w (.cells #[.int .i64 cn, .int .i64 ac, .int .i64 k, .int .i64 i, .int .u64 u, .string s, .slice a n c, .slice a' n' c', .bool cl, .int .i64 un] 27) (.cells #[.int .i64 0, .int .i64 0, .int .u64 0, .string ⟨#[]⟩, .slice none 0 0] 25)
  go_enter Tryz.func22, Tryz.ntmps22
  go_wp2_with fail
  refine (HC.out _ B0 (by simp)).mono ?_
  rintro e w1 ⟨k1, i1, u1, s1, a1, n1, c1, a1', n1', c1', rfl, q1, b1⟩
  have D1 := D0.step b1
  have E1 := E0.step b1
  have B1 := B0.trans (b1.mono B0.size)
  have hs1 := b1.size
  simp only [World.size_alloc] at hs1
  have Q1 := Lib.hid q1
  clear D0 E0 q1 HC b1 B0
  obtain ⟨d0, d1, d2, d3, d4, d5, d6, d7, d8, d9⟩ := D1.c10
  have f1 := D1.f
  go_wp2_with fail
  obtain ⟨K1, K2, K3, K4⟩ := set10 D1 (.int .i64 cn) (.int .i64 ac) (.int .i64 k1) (.int .i64 i1) (.int .u64 u1) (.string s1) (.slice a1 n1 c1) (.slice a1' n1' c1') (.bool cl) (.int .i64 un) rfl
  have I2 : Sv w #[.int .i64 cn, .int .i64 ac, .int .i64 k1, .int .i64 i1, .int .u64 u1, .string s1, .slice a1 n1 c1, .slice a1' n1' c1', .bool cl, .int .i64 un] (Q k1 i1 u1 s1 a1 n1 c1 a1' n1' c1') ((((((((((w1.setCell ⟨w.heap.size, 0, none⟩ (.int .i64 cn)).setCell ⟨w.heap.size, 1, none⟩ (.int .i64 ac)).setCell ⟨w.heap.size, 2, none⟩ (.int .i64 k1)).setCell ⟨w.heap.size, 3, none⟩ (.int .i64 i1)).setCell ⟨w.heap.size, 4, none⟩ (.int .u64 u1)).setCell ⟨w.heap.size, 5, none⟩ (.string s1)).setCell ⟨w.heap.size, 6, none⟩ (.slice a1 n1 c1)).setCell ⟨w.heap.size, 7, none⟩ (.slice a1' n1' c1')).setCell ⟨w.heap.size, 8, none⟩ (.bool cl)).setCell ⟨w.heap.size, 9, none⟩ (.int .i64 un)) := ⟨K1, (K3 _ (by omega)).trans E1, B1.trans K4, hQ _ _ _ _ _ _ _ _ _ _ _ _ Q1.out (Nat.le_of_eq K2.symm) fun g hg _ => K3 g (by omega)⟩
  clear D1 E1 B1 Q1 K1 K2 K3 K4 d0 d1 d2 d3 d4 d5 d6 d7 d8 d9 f1 hs1
  generalize ((((((((((w1.setCell ⟨w.heap.size, 0, none⟩ (.int .i64 cn)).setCell ⟨w.heap.size, 1, none⟩ (.int .i64 ac)).setCell ⟨w.heap.size, 2, none⟩ (.int .i64 k1)).setCell ⟨w.heap.size, 3, none⟩ (.int .i64 i1)).setCell ⟨w.heap.size, 4, none⟩ (.int .u64 u1)).setCell ⟨w.heap.size, 5, none⟩ (.string s1)).setCell ⟨w.heap.size, 6, none⟩ (.slice a1 n1 c1)).setCell ⟨w.heap.size, 7, none⟩ (.slice a1' n1' c1')).setCell ⟨w.heap.size, 8, none⟩ (.bool cl)).setCell ⟨w.heap.size, 9, none⟩ (.int .i64 un)) = w2 at *
  have hq : Hid (∀ w' w'', (Q k1 i1 u1 s1 a1 n1 c1 a1' n1' c1') w' → w'.heap.size ≤ w''.heap.size → (∀ g, w.heap.size + 2 ≤ g → g < w'.heap.size → w''.heap[g]? = w'.heap[g]?) → (Q k1 i1 u1 s1 a1 n1 c1 a1' n1' c1') w'') := fun w' w'' h1 h2 h3 => hQ _ _ _ _ _ _ _ _ _ _ w' w'' h1 h2 h3
  have HS : Hid (∀ wx, Sv w #[.int .i64 cn, .int .i64 ac, .int .i64 k1, .int .i64 i1, .int .u64 u1, .string s1, .slice a1 n1 c1, .slice a1' n1' c1', .bool cl, .int .i64 un] (Q k1 i1 u1 s1 a1 n1 c1 a1' n1' c1') wx → wx.cell? ⟨w.heap.size, 0, none⟩ = some (.int .i64 cn) ∧ wx.cell? ⟨w.heap.size, 1, none⟩ = some (.int .i64 ac) ∧ wx.cell? ⟨w.heap.size, 2, none⟩ = some (.int .i64 k1) ∧ wx.cell? ⟨w.heap.size, 3, none⟩ = some (.int .i64 i1) ∧ wx.cell? ⟨w.heap.size, 4, none⟩ = some (.int .u64 u1) ∧ wx.cell? ⟨w.heap.size, 5, none⟩ = some (.string s1) ∧ wx.cell? ⟨w.heap.size, 6, none⟩ = some (.slice a1 n1 c1) ∧ wx.cell? ⟨w.heap.size, 7, none⟩ = some (.slice a1' n1' c1') ∧ wx.cell? ⟨w.heap.size, 8, none⟩ = some (.bool cl) ∧ wx.cell? ⟨w.heap.size, 9, none⟩ = some (.int .i64 un)) := fun wx h => h.d.c10
  have HW := Lib.hid whole_any
  have HT := Lib.hid (truth_any cl)
  rw [hx.out] at HT
  clear hx
  have HL := Lib.hid list_any
  have HP := Lib.hid pair_any
  have I3 := I2.drew hq.out
  clear hQ
  refine wp_region_held_drew (S := fun wx => wx.cell? ⟨w.heap.size, 0, none⟩ = some (.int .i64 cn) ∧ wx.cell? ⟨w.heap.size, 1, none⟩ = some (.int .i64 ac) ∧ wx.cell? ⟨w.heap.size, 2, none⟩ = some (.int .i64 k1) ∧ wx.cell? ⟨w.heap.size, 3, none⟩ = some (.int .i64 i1) ∧ wx.cell? ⟨w.heap.size, 4, none⟩ = some (.int .u64 u1) ∧ wx.cell? ⟨w.heap.size, 5, none⟩ = some (.string s1) ∧ wx.cell? ⟨w.heap.size, 6, none⟩ = some (.slice a1 n1 c1) ∧ wx.cell? ⟨w.heap.size, 7, none⟩ = some (.slice a1' n1' c1') ∧ wx.cell? ⟨w.heap.size, 8, none⟩ = some (.bool cl) ∧ wx.cell? ⟨w.heap.size, 9, none⟩ = some (.int .i64 un)) (by kernel_rfl) (HS.out _ I3) (fun hHeld => ?_)
  refine wpAnyH_take (i := 0) (oi := { dst := some 5, op := Op.fieldAddr 27 (Operand.tmp 1) 0, type := 0, pos := "states.go:50", after := #[], guard := none }) (v := ?tV0x) rfl (by kernel_rfl) (by kernel_rfl) (by kernel_rfl) (fun _ _ _ h => h) (Or.inl ⟨by rfl, ?uV0x⟩) (by assumption) ?rV0x
  case uV0x => (intro w hSw; (try dsimp only at hSw); go_simp; (try with_reducible rfl))
  simp only [Act.put, List.setIfInBounds_toArray, List.set_cons_zero, List.set_cons_succ]
  refine wpAnyH_take (i := 1) (oi := { dst := some 6, op := Op.load 2 (Operand.tmp 5), type := 2, pos := "states.go:50", after := #[{ on := 0, ground := Ground.data }], guard := none }) (v := ?tV1x) rfl (by kernel_rfl) (by kernel_rfl) (by kernel_rfl) (fun _ _ _ h => h) (Or.inl ⟨by rfl, ?uV1x⟩) (by assumption) ?rV1x
  case uV1x => (intro w hSw; (try dsimp only at hSw); go_simp; (try with_reducible rfl))
  simp only [Act.put, List.setIfInBounds_toArray, List.set_cons_zero, List.set_cons_succ]
  refine wpAnyH_take (i := 3) (oi := { dst := some 8, op := Op.fieldAddr 27 (Operand.tmp 1) 1, type := 0, pos := "states.go:50", after := #[], guard := none }) (v := ?tV3x) rfl (by kernel_rfl) (by kernel_rfl) (by kernel_rfl) (fun _ _ _ h => h) (Or.inl ⟨by rfl, ?uV3x⟩) (by assumption) ?rV3x
  case uV3x => (intro w hSw; (try dsimp only at hSw); go_simp; (try with_reducible rfl))
  simp only [Act.put, List.setIfInBounds_toArray, List.set_cons_zero, List.set_cons_succ]
  refine wpAnyH_take (i := 4) (oi := { dst := some 9, op := Op.load 2 (Operand.tmp 8), type := 2, pos := "states.go:50", after := #[{ on := 3, ground := Ground.data }], guard := none }) (v := ?tV4x) rfl (by kernel_rfl) (by kernel_rfl) (by kernel_rfl) (fun _ _ _ h => h) (Or.inl ⟨by rfl, ?uV4x⟩) (by assumption) ?rV4x
  case uV4x => (intro w hSw; (try dsimp only at hSw); go_simp; (try with_reducible rfl))
  simp only [Act.put, List.setIfInBounds_toArray, List.set_cons_zero, List.set_cons_succ]
  refine wpAnyH_take (i := 6) (oi := { dst := some 11, op := Op.fieldAddr 27 (Operand.tmp 1) 5, type := 0, pos := "states.go:50", after := #[], guard := none }) (v := ?tV6x) rfl (by kernel_rfl) (by kernel_rfl) (by kernel_rfl) (fun _ _ _ h => h) (Or.inl ⟨by rfl, ?uV6x⟩) (by assumption) ?rV6x
  case uV6x => (intro w hSw; (try dsimp only at hSw); go_simp; (try with_reducible rfl))
  simp only [Act.put, List.setIfInBounds_toArray, List.set_cons_zero, List.set_cons_succ]
  refine wpAnyH_take (i := 7) (oi := { dst := some 12, op := Op.load 2 (Operand.tmp 11), type := 2, pos := "states.go:50", after := #[{ on := 6, ground := Ground.data }], guard := none }) (v := ?tV7x) rfl (by kernel_rfl) (by kernel_rfl) (by kernel_rfl) (fun _ _ _ h => h) (Or.inl ⟨by rfl, ?uV7x⟩) (by assumption) ?rV7x
  case uV7x => (intro w hSw; (try dsimp only at hSw); go_simp; (try with_reducible rfl))
  simp only [Act.put, List.setIfInBounds_toArray, List.set_cons_zero, List.set_cons_succ]
  refine wpAnyH_take (i := 9) (oi := { dst := some 14, op := Op.fieldAddr 27 (Operand.tmp 1) 4, type := 0, pos := "states.go:50", after := #[], guard := none }) (v := ?tV9x) rfl (by kernel_rfl) (by kernel_rfl) (by kernel_rfl) (fun _ _ _ h => h) (Or.inl ⟨by rfl, ?uV9x⟩) (by assumption) ?rV9x
  case uV9x => (intro w hSw; (try dsimp only at hSw); go_simp; (try with_reducible rfl))
  simp only [Act.put, List.setIfInBounds_toArray, List.set_cons_zero, List.set_cons_succ]
  refine wpAnyH_take (i := 10) (oi := { dst := some 15, op := Op.load 4 (Operand.tmp 14), type := 4, pos := "states.go:50", after := #[{ on := 9, ground := Ground.data }], guard := none }) (v := ?tV10x) rfl (by kernel_rfl) (by kernel_rfl) (by kernel_rfl) (fun _ _ _ h => h) (Or.inl ⟨by rfl, ?uV10x⟩) (by assumption) ?rV10x
  case uV10x => (intro w hSw; (try dsimp only at hSw); go_simp; (try with_reducible rfl))
  simp only [Act.put, List.setIfInBounds_toArray, List.set_cons_zero, List.set_cons_succ]
  refine wpAnyH_take (i := 14) (oi := { dst := some 19, op := Op.fieldAddr 27 (Operand.tmp 1) 2, type := 0, pos := "states.go:50", after := #[], guard := none }) (v := ?tV14x) rfl (by kernel_rfl) (by kernel_rfl) (by kernel_rfl) (fun _ _ _ h => h) (Or.inl ⟨by rfl, ?uV14x⟩) (by assumption) ?rV14x
  case uV14x => (intro w hSw; (try dsimp only at hSw); go_simp; (try with_reducible rfl))
  simp only [Act.put, List.setIfInBounds_toArray, List.set_cons_zero, List.set_cons_succ]
  refine wpAnyH_take (i := 15) (oi := { dst := some 20, op := Op.load 25 (Operand.tmp 19), type := 25, pos := "states.go:50", after := #[{ on := 14, ground := Ground.data }], guard := none }) (v := ?tV15x) rfl (by kernel_rfl) (by kernel_rfl) (by kernel_rfl) (fun _ _ _ h => h) (Or.inl ⟨by rfl, ?uV15x⟩) (by assumption) ?rV15x
  case uV15x => (intro w hSw; (try dsimp only at hSw); go_simp; (try with_reducible rfl))
  simp only [Act.put, List.setIfInBounds_toArray, List.set_cons_zero, List.set_cons_succ]
  refine wpAnyH_take (i := 16) (oi := { dst := some 21, op := Op.fieldAddr 27 (Operand.tmp 1) 3, type := 0, pos := "states.go:50", after := #[], guard := none }) (v := ?tV16x) rfl (by kernel_rfl) (by kernel_rfl) (by kernel_rfl) (fun _ _ _ h => h) (Or.inl ⟨by rfl, ?uV16x⟩) (by assumption) ?rV16x
  case uV16x => (intro w hSw; (try dsimp only at hSw); go_simp; (try with_reducible rfl))
  simp only [Act.put, List.setIfInBounds_toArray, List.set_cons_zero, List.set_cons_succ]
  refine wpAnyH_take (i := 17) (oi := { dst := some 22, op := Op.load 23 (Operand.tmp 21), type := 23, pos := "states.go:50", after := #[{ on := 16, ground := Ground.data }], guard := none }) (v := ?tV17x) rfl (by kernel_rfl) (by kernel_rfl) (by kernel_rfl) (fun _ _ _ h => h) (Or.inl ⟨by rfl, ?uV17x⟩) (by assumption) ?rV17x
  case uV17x => (intro w hSw; (try dsimp only at hSw); go_simp; (try with_reducible rfl))
  simp only [Act.put, List.setIfInBounds_toArray, List.set_cons_zero, List.set_cons_succ]
  refine wpAnyH_ready (rs := [2]) (by kernel_rfl) (by simp) ?_
  refine AllReadyH.cons (o := { dst := some 7, op := Op.call { callee := Callee.value (Operand.func 40), args := #[Operand.tmp 6], argTypes := #[2] }, type := 25, pos := "states.go:51", after := #[{ on := 1, ground := Ground.data }], guard := none }) rfl (fun K hK => ?_) AllReadyH.nil
  go_simp
  refine (HW.out cn _).mono ?_
  rintro e wa ⟨rfl, bwa⟩
  go_wp2_with fail
  have Ia := I3.step hq.out bwa
  refine hK.out _ _ (HS.out _ Ia) (fun hHeldwa => ?_)
  clear hK K
  try simp only [Act.put, List.setIfInBounds_toArray, List.set_cons_zero, List.set_cons_succ]
  refine wpAnyH_ready (rs := [5]) (by kernel_rfl) (by simp) ?_
  refine AllReadyH.cons (o := { dst := some 10, op := Op.call { callee := Callee.value (Operand.func 40), args := #[Operand.tmp 9], argTypes := #[2] }, type := 25, pos := "states.go:51", after := #[{ on := 4, ground := Ground.data }, { on := 2, ground := Ground.chain }], guard := none }) rfl (fun K hK => ?_) AllReadyH.nil
  go_simp
  refine (HW.out ac _).mono ?_
  rintro e wb ⟨rfl, bwb⟩
  go_wp2_with fail
  have Ib := Ia.step hq.out bwb
  refine hK.out _ _ (HS.out _ Ib) (fun hHeldwb => ?_)
  clear hK K
  try simp only [Act.put, List.setIfInBounds_toArray, List.set_cons_zero, List.set_cons_succ]
  refine wpAnyH_ready (rs := [8]) (by kernel_rfl) (by simp) ?_
  refine AllReadyH.cons (o := { dst := some 13, op := Op.call { callee := Callee.value (Operand.func 40), args := #[Operand.tmp 12], argTypes := #[2] }, type := 25, pos := "states.go:51", after := #[{ on := 7, ground := Ground.data }, { on := 5, ground := Ground.chain }], guard := none }) rfl (fun K hK => ?_) AllReadyH.nil
  go_simp
  refine (HW.out un _).mono ?_
  rintro e wc ⟨rfl, bwc⟩
  go_wp2_with fail
  have Ic := Ib.step hq.out bwc
  refine hK.out _ _ (HS.out _ Ic) (fun hHeldwc => ?_)
  clear hK K
  try simp only [Act.put, List.setIfInBounds_toArray, List.set_cons_zero, List.set_cons_succ]
  refine wpAnyH_ready (rs := [11]) (by kernel_rfl) (by simp) ?_
  refine AllReadyH.cons (o := { dst := some 16, op := Op.call { callee := Callee.value (Operand.func 41), args := #[Operand.tmp 15], argTypes := #[4] }, type := 25, pos := "states.go:51", after := #[{ on := 10, ground := Ground.data }, { on := 8, ground := Ground.chain }], guard := none }) rfl (fun K hK => ?_) AllReadyH.nil
  go_simp
  refine (HT.out _).mono ?_
  rintro e wd ⟨rfl, bwd⟩
  go_wp2_with fail
  have Id := Ic.step hq.out bwd
  refine hK.out _ _ (HS.out _ Id) (fun hHeldwd => ?_)
  clear hK K
  try simp only [Act.put, List.setIfInBounds_toArray, List.set_cons_zero, List.set_cons_succ]
  refine wpAnyH_ready (rs := [12]) (by kernel_rfl) (by simp) ?_
  refine AllReadyH.cons (o := { dst := some 17, op := Op.buildSlice 23 4 #[(0, Operand.tmp 7), (1, Operand.tmp 10), (2, Operand.tmp 13), (3, Operand.tmp 16)], type := 23, pos := "states.go:50", after := #[{ on := 2, ground := Ground.data }, { on := 5, ground := Ground.data }, { on := 8, ground := Ground.data }, { on := 11, ground := Ground.data }], guard := none }) rfl (fun K hK => ?_) AllReadyH.nil
  go_simp
  have N4 := Bk.new wd (nums cn ac un x) 25
  have Ie := Id.step hq.out (below1 wd (.cells (nums cn ac un x) 25))
  generalize wd.alloc (.cells (nums cn ac un x) 25) = we at *
  refine hK.out _ _ (HS.out _ Ie) (fun hHelde => ?_)
  clear hK K
  try simp only [Act.put, List.setIfInBounds_toArray, List.set_cons_zero, List.set_cons_succ]
  refine wpAnyH_ready (rs := [13]) (by kernel_rfl) (by simp) ?_
  refine AllReadyH.cons (o := { dst := some 18, op := Op.call { callee := Callee.value (Operand.func 39), args := #[Operand.tmp 17], argTypes := #[23] }, type := 25, pos := "states.go:51", after := #[{ on := 12, ground := Ground.data }, { on := 11, ground := Ground.chain }], guard := none }) rfl (fun K hK => ?_) AllReadyH.nil
  go_simp
  refine (HL.out _ _ _ _).mono ?_
  rintro e wf ⟨rfl, bwf⟩
  go_wp2_with fail
  have If := Ie.step hq.out bwf
  have N5 := N4.step bwf
  refine hK.out _ _ (HS.out _ If) (fun hHeldwf => ?_)
  clear hK K
  try simp only [Act.put, List.setIfInBounds_toArray, List.set_cons_zero, List.set_cons_succ]
  refine wpAnyH_ready (rs := [18]) (by kernel_rfl) (by simp) ?_
  refine AllReadyH.cons (o := { dst := some 23, op := Op.call { callee := Callee.value (Operand.func 39), args := #[Operand.tmp 22], argTypes := #[23] }, type := 25, pos := "states.go:52", after := #[{ on := 17, ground := Ground.data }, { on := 13, ground := Ground.chain }], guard := none }) rfl (fun K hK => ?_) AllReadyH.nil
  go_simp
  refine (HL.out _ _ _ _).mono ?_
  rintro e wg ⟨rfl, bwg⟩
  go_wp2_with fail
  have Ig := If.step hq.out bwg
  have N6 := N5.step bwg
  refine hK.out _ _ (HS.out _ Ig) (fun hHeldwg => ?_)
  clear hK K
  try simp only [Act.put, List.setIfInBounds_toArray, List.set_cons_zero, List.set_cons_succ]
  refine wpAnyH_ready (rs := [19]) (by kernel_rfl) (by simp) ?_
  refine AllReadyH.cons (o := { dst := some 24, op := Op.call { callee := Callee.value (Operand.func 38), args := #[Operand.tmp 20, Operand.tmp 23], argTypes := #[25, 25] }, type := 25, pos := "states.go:52", after := #[{ on := 15, ground := Ground.data }, { on := 18, ground := Ground.data }, { on := 18, ground := Ground.chain }], guard := none }) rfl (fun K hK => ?_) AllReadyH.nil
  go_simp
  refine (HP.out _ _ _ _ _ _ _ _ _ _ _ _ _ _ _).mono ?_
  rintro e wh ⟨g2, rfl, hg2, p2, bwh⟩
  go_wp2_with fail
  have Ih := Ig.step hq.out bwh
  have N7 := N6.step bwh
  refine hK.out _ _ (HS.out _ Ih) (fun hHeldwh => ?_)
  clear hK K
  try simp only [Act.put, List.setIfInBounds_toArray, List.set_cons_zero, List.set_cons_succ]
  refine wpAnyH_ready (rs := [20]) (by kernel_rfl) (by simp) ?_
  refine AllReadyH.cons (o := { dst := some 25, op := Op.call { callee := Callee.value (Operand.func 38), args := #[Operand.tmp 18, Operand.tmp 24], argTypes := #[25, 25] }, type := 25, pos := "states.go:50", after := #[{ on := 13, ground := Ground.data }, { on := 19, ground := Ground.data }, { on := 19, ground := Ground.chain }], guard := none }) rfl (fun K hK => ?_) AllReadyH.nil
  go_simp
  refine (HP.out _ _ _ _ _ _ _ _ _ _ _ _ _ _ _).mono ?_
  rintro e wi ⟨gP, rfl, hgP, pP, bwi⟩
  go_wp2_with fail
  have Ii := Ih.step hq.out bwi
  have N8 := N7.step bwi
  have p8 := p2.step bwi
  refine hK.out _ _ (HS.out _ Ii) (fun hHeldwi => ?_)
  clear hK K
  try simp only [Act.put, List.setIfInBounds_toArray, List.set_cons_zero, List.set_cons_succ]
  obtain ⟨z0, z1, z2, z3, z4⟩ := Ii.e.c5
  have fz := Ii.e.f
  refine wpAnyH_ready (rs := [21]) (by kernel_rfl) (by simp) ?_
  refine AllReadyH.cons (o := { dst := none, op := Op.store 25 (Operand.tmp 2) (Operand.tmp 25), type := 0, pos := "states.go:50", after := #[{ on := 20, ground := Ground.data }, { on := 20, ground := Ground.chain }, { on := 0, ground := Ground.phase }, { on := 1, ground := Ground.phase }, { on := 2, ground := Ground.phase }, { on := 3, ground := Ground.phase }, { on := 4, ground := Ground.phase }, { on := 5, ground := Ground.phase }, { on := 6, ground := Ground.phase }, { on := 7, ground := Ground.phase }, { on := 8, ground := Ground.phase }, { on := 9, ground := Ground.phase }, { on := 10, ground := Ground.phase }, { on := 11, ground := Ground.phase }, { on := 12, ground := Ground.phase }, { on := 13, ground := Ground.phase }, { on := 14, ground := Ground.phase }, { on := 15, ground := Ground.phase }, { on := 16, ground := Ground.phase }, { on := 17, ground := Ground.phase }, { on := 18, ground := Ground.phase }, { on := 19, ground := Ground.phase }, { on := 20, ground := Ground.phase }], guard := none }) rfl (fun K hK => ?_) AllReadyH.nil
  go_simp
  obtain ⟨M1, M2, M3, M4⟩ := set5 Ii.e (.int .i64 9) (.int .i64 0) (.int .u64 0) (.string ⟨#[]⟩) (.slice (some ⟨gP, 0, none⟩) 2 2) rfl
  have hlo := Id.b.size
  have hz2 : w.heap.size + 2 ≤ wd.heap.size := by have := Id.e.lt; omega
  have hz3 : w.heap.size + 2 ≤ wg.heap.size := by have := Ig.e.lt; omega
  have hz4 : w.heap.size + 2 ≤ wh.heap.size := by have := Ih.e.lt; omega
  have Y1 := (M3 gP (by omega)).trans pP
  have Y2 := (M3 wd.heap.size (by omega)).trans N8
  have Y3 := (M3 g2 (by omega)).trans p8
  have Y4 := (M3 w.heap.size (by omega)).trans Ii.d
  have Y5 : Hid (Q k1 i1 u1 s1 a1 n1 c1 a1' n1' c1' _) := hq.out _ _ Ii.q (Nat.le_of_eq M2.symm) fun g hg _ => M3 g (by omega)
  have Y6 := Ii.b.trans (M4.mono (Nat.le_succ _))
  generalize ((((wi.setCell ⟨w.heap.size + 1, 0, none⟩ (.int .i64 9)).setCell ⟨w.heap.size + 1, 1, none⟩ (.int .i64 0)).setCell ⟨w.heap.size + 1, 2, none⟩ (.int .u64 0)).setCell ⟨w.heap.size + 1, 3, none⟩ (.string ⟨#[]⟩)).setCell ⟨w.heap.size + 1, 4, none⟩ (.slice (some ⟨gP, 0, none⟩) 2 2) = wj at *
  refine hK.out _ _ (Bk.c10 Y4) (fun hHeldj => ?_)
  clear hK K
  refine wpAnyH_done (by kernel_rfl) ?_ _
  go_wp2_with fail
  obtain ⟨y0, y1, y2, y3, y4⟩ := M1.c5
  refine bodyPost_ret (v := .agg #[.int .i64 9, .int .i64 0, .int .u64 0, .string ⟨#[]⟩, .slice (some ⟨gP, 0, none⟩) 2 2]) (by simp [results, Tryz.results22, go_sem, y0, y1, y2, y3, y4]) rfl ⟨k1, i1, u1, s1, a1, n1, c1, a1', n1', c1', gP, wd.heap.size, g2, rfl, Y1, Y2, Y3, Y5, ⟨by omega, by omega, by omega⟩, Y6⟩
end Go.Proofs.YtgijdiplhcoojaaGreatDoor
