/- The store at its beginning: what it knows, and a number put into it; no condition. -/
import Derived.Test.YtgijdiplhcoojaaGreatDoorJae
namespace Go.Proofs.YtgijdiplhcoojaaGreatDoor
open Go.RowKit

theorem Bk.c4 {w : World} {N : Nat} {v0 v1 v2 v3 : Value} {T : TypeId} (h : Bk w N #[v0, v1, v2, v3] T) : w.cell? ⟨N, 0, none⟩ = some v0 ∧ w.cell? ⟨N, 1, none⟩ = some v1 ∧ w.cell? ⟨N, 2, none⟩ = some v2 ∧ w.cell? ⟨N, 3, none⟩ = some v3 := ⟨h.c 0, h.c 1, h.c 2, h.c 3⟩

set_option maxRecDepth 100000 in
set_option maxHeartbeats 1000000 in
theorem newSharing (w : World) : Calls Tryz.prog 46 #[] w fun e w' => ∃ m, e = .returned (.agg #[.map (some m)]) ∧ w'.heap[m]? = some (.map #[] 0) ∧ w.heap.size ≤ m ∧ Below w.heap.size w w' := by
  have hmm := @run_makeMap Tryz.prog
  go_enter Tryz.func46, Tryz.ntmps46
  go_wp2
  refine bodyPost_ret (v := .agg #[.map (some (w.heap.size + 1))]) (by simp [results, Tryz.results46, go_sem]) rfl ⟨w.heap.size + 1, rfl, ?_, by omega, below2 w _ _⟩
  have := heap_alloc_new (w.alloc (.cells #[.map (some (w.heap.size + 1))] 85)) (.map #[] 0)
  simpa using this

set_option maxRecDepth 100000 in
set_option maxHeartbeats 1000000 in
theorem know_none (sb b : Nat) (num : Int) (w : World) (hS : Bk w sb #[.pointer (some ⟨b, 3, none⟩), .int .i64 num, .map none, .map none] 134) (hL : w.cell? ⟨b, 10, none⟩ = some (.slice none 0 0)) (hb : b < w.heap.size) (hne : b ≠ sb) :
    Calls Tryz.prog 99 #[.pointer (some ⟨sb, 0, none⟩)] w fun e w' => ∃ m p, e = .returned (.tuple #[]) ∧ Bk w' sb #[.pointer (some ⟨b, 3, none⟩), .int .i64 num, .map (some m), .map (some p)] 134 ∧ w'.heap[m]? = some (.map #[] 0) ∧ w'.heap[p]? = some (.map #[] 0) ∧ w.heap.size ≤ m ∧ w.heap.size ≤ p ∧ m ≠ p ∧ w.heap.size ≤ w'.heap.size ∧ (∀ g, g < w.heap.size → g ≠ sb → w'.heap[g]? = w.heap[g]?) ∧ Below sb w w' := by
  obtain ⟨c0, c1, c2, c3⟩ := hS.c4
  have HN := Lib.hid newSharing
  have hmm := @run_makeMap Tryz.prog
  have hne0 : ∀ w : World, (binOp .neq 87 (.map none) (.map none)).run Tryz.prog w = .ok (.bool false) w := fun _ => by kernel_rfl
  go_enter Tryz.func99, Tryz.ntmps99
  go_wp2_with fail
  refine (HN.out _).mono ?_
  rintro e w1 ⟨m, rfl, m1, hm, b1⟩
  have S1 := hS.step b1
  have L1 : w1.cell? ⟨b, 10, none⟩ = some (.slice none 0 0) := (b1.cell (p := ⟨b, 10, none⟩) hb).trans hL
  obtain ⟨s0, s1, s2, s3⟩ := S1.c4
  have fs := S1.f
  have hlt := S1.lt
  clear c0 c1 c2 c3
  have S2 : Bk (((w1.setCell ⟨sb, 2, none⟩ (.map (some m))).setCell ⟨sb, 3, none⟩ (.map (some w1.heap.size))).alloc (.map #[] 0)) sb #[.pointer (some ⟨b, 3, none⟩), .int .i64 num, .map (some m), .map (some w1.heap.size)] 134 := Bk.alloc ((S1.set 2 _).set 3 _) _
  have hb1 : b < w1.heap.size := Nat.lt_of_lt_of_le hb b1.size
  have L2 : (((w1.setCell ⟨sb, 2, none⟩ (.map (some m))).setCell ⟨sb, 3, none⟩ (.map (some w1.heap.size))).alloc (.map #[] 0)).cell? ⟨b, 10, none⟩ = some (.slice none 0 0) := by
    refine ((below1 _ _).cell (p := ⟨b, 10, none⟩) (by simpa using hb1)).trans ?_
    rw [World.cell?_setCell_far _ _ _ _ (by simpa using hne.symm), World.cell?_setCell_far _ _ _ _ (by simpa using hne.symm)]
    exact L1
  have K2 : (((w1.setCell ⟨sb, 2, none⟩ (.map (some m))).setCell ⟨sb, 3, none⟩ (.map (some w1.heap.size))).alloc (.map #[] 0)).heap[m]? = some (.map #[] 0) := by
    have hml : m < w1.heap.size := (Array.getElem?_eq_some_iff.1 m1).1
    have hms : m ≠ sb := by have := hS.lt; omega
    rw [(below1 _ _).block m (by simpa using hml), Below.heap_setCell _ _ _ _ (by simpa using hms), Below.heap_setCell _ _ _ _ (by simpa using hms)]
    exact m1
  have P2 : (((w1.setCell ⟨sb, 2, none⟩ (.map (some m))).setCell ⟨sb, 3, none⟩ (.map (some w1.heap.size))).alloc (.map #[] 0)).heap[w1.heap.size]? = some (.map #[] 0) := by
    have := heap_alloc_new ((w1.setCell ⟨sb, 2, none⟩ (.map (some m))).setCell ⟨sb, 3, none⟩ (.map (some w1.heap.size))) (.map #[] 0)
    simpa using this
  have G2 : ∀ g, g < w.heap.size → g ≠ sb → (((w1.setCell ⟨sb, 2, none⟩ (.map (some m))).setCell ⟨sb, 3, none⟩ (.map (some w1.heap.size))).alloc (.map #[] 0)).heap[g]? = w.heap[g]? := fun g h1 h2 => by
    have hgl : g < w1.heap.size := Nat.lt_of_lt_of_le h1 b1.size
    rw [(below1 _ _).block g (by simpa using hgl), Below.heap_setCell _ _ _ _ (by simpa using h2), Below.heap_setCell _ _ _ _ (by simpa using h2)]
    exact b1.block g h1
  have B2 : Below sb w (((w1.setCell ⟨sb, 2, none⟩ (.map (some m))).setCell ⟨sb, 3, none⟩ (.map (some w1.heap.size))).alloc (.map #[] 0)) := (((b1.mono (Nat.le_of_lt hS.lt)).setCell (Nat.le_refl _) _).setCell (Nat.le_refl _) _).alloc (by simpa using Nat.le_of_lt hlt) _
  have hmm1 : m ≠ w1.heap.size := by have : m < w1.heap.size := (Array.getElem?_eq_some_iff.1 m1).1; omega
  have hz1 := b1.size
  have KK : Hid (∃ m' p', Bk (((w1.setCell ⟨sb, 2, none⟩ (.map (some m))).setCell ⟨sb, 3, none⟩ (.map (some w1.heap.size))).alloc (.map #[] 0)) sb #[.pointer (some ⟨b, 3, none⟩), .int .i64 num, .map (some m'), .map (some p')] 134 ∧ (((w1.setCell ⟨sb, 2, none⟩ (.map (some m))).setCell ⟨sb, 3, none⟩ (.map (some w1.heap.size))).alloc (.map #[] 0)).heap[m']? = some (.map #[] 0) ∧ (((w1.setCell ⟨sb, 2, none⟩ (.map (some m))).setCell ⟨sb, 3, none⟩ (.map (some w1.heap.size))).alloc (.map #[] 0)).heap[p']? = some (.map #[] 0) ∧ w.heap.size ≤ m' ∧ w.heap.size ≤ p' ∧ m' ≠ p' ∧ w.heap.size ≤ (((w1.setCell ⟨sb, 2, none⟩ (.map (some m))).setCell ⟨sb, 3, none⟩ (.map (some w1.heap.size))).alloc (.map #[] 0)).heap.size ∧ (∀ g, g < w.heap.size → g ≠ sb → (((w1.setCell ⟨sb, 2, none⟩ (.map (some m))).setCell ⟨sb, 3, none⟩ (.map (some w1.heap.size))).alloc (.map #[] 0)).heap[g]? = w.heap[g]?) ∧ Below sb w (((w1.setCell ⟨sb, 2, none⟩ (.map (some m))).setCell ⟨sb, 3, none⟩ (.map (some w1.heap.size))).alloc (.map #[] 0))) := ⟨m, w1.heap.size, S2, K2, P2, hm, hz1, hmm1, B2.size, G2, B2⟩
  clear K2 P2 G2 B2 hmm1 hz1
  obtain ⟨t0, t1, t2, t3⟩ := S2.c4
  go_wp2_with fail
  generalize (((w1.setCell ⟨sb, 2, none⟩ (.map (some m))).setCell ⟨sb, 3, none⟩ (.map (some w1.heap.size))).alloc (.map #[] 0)) = w2 at *
  go_loopw [25] (fun si wr => si = .int .i64 0 ∧ wr = w2) (fun _ _ => 0)
  case atStart => exact ⟨rfl, rfl⟩
  case round =>
    obtain ⟨rfl, rfl⟩ := hrel
    go_wp2_with fail
    obtain ⟨m', p', kk⟩ := KK.out
    go_end0
    exact ⟨m', p', rfl, kk⟩

set_option maxRecDepth 100000 in
set_option maxHeartbeats 1000000 in
theorem plain_wh (x : Int) (w : World) : Calls Tryz.prog 52 #[.iface 94 (.int .i64 x)] w fun e w' => e = .returned (.agg #[.int .i64 1, .int .i64 x, .int .u64 0, .string ⟨#[]⟩, .slice none 0 0]) ∧ Below w.heap.size w w' := by
  have a0 : ∀ w : World, (Instr.typeAssert (.iface 94 (.int .i64 x)) 20 94 true).run Tryz.prog w = .ok (.tuple #[.int .i64 x, .bool true]) w := fun w => as_yes Tryz.underlying94 (fun m h => by cases h) (z := .int .i64 0) (by kernel_rfl)
  go_enter Tryz.func52, Tryz.ntmps52
  go_wp2
  exact bodyPost_ret (v := .agg #[.int .i64 1, .int .i64 x, .int .u64 0, .string ⟨#[]⟩, .slice none 0 0]) (by simp [results, Tryz.results52, go_sem]) rfl ⟨rfl, below1 w _⟩

set_option maxRecDepth 100000 in
set_option maxHeartbeats 1000000 in
theorem whole_any (x : Int) (w : World) : Calls Tryz.prog 40 #[.int .i64 x] w fun e w' => e = .returned (.agg #[.int .i64 1, .int .i64 x, .int .u64 0, .string ⟨#[]⟩, .slice none 0 0]) ∧ Below w.heap.size w w' := by
  have H := Lib.hid plain_wh
  have R0 := Bk.new w #[.int .i64 0, .int .i64 0, .int .u64 0, .string ⟨#[]⟩, .slice none 0 0] 25
  have B0 := below1 w (.cells #[.int .i64 0, .int .i64 0, .int .u64 0, .string ⟨#[]⟩, .slice none 0 0] 25)
  go_enter Tryz.func40, Tryz.ntmps40
  go_wp2_with fail
  refine (H.out x _).mono ?_
  rintro e w1 ⟨rfl, b1⟩
  have R1 := R0.step b1
  have B1 := B0.trans (b1.mono B0.size)
  obtain ⟨z0, z1, z2, z3, z4⟩ := R1.c5
  have f1 := R1.f
  go_wp2
  refine bodyPost_ret (v := .agg #[.int .i64 1, .int .i64 x, .int .u64 0, .string ⟨#[]⟩, .slice none 0 0]) (by simp [results, Tryz.results40, go_sem, World.cell?_setCell_same, World.cell?_setCell_other, z0, z1, z2, z3, z4]) rfl ⟨rfl, ?_⟩
  repeat' refine Below.setCell ?_ (by simp) _
  exact B1

set_option maxRecDepth 100000 in
set_option maxHeartbeats 1000000 in
theorem of_whole (mv : Value) (x : Int) (w : World) : Calls Tryz.prog 48 #[.agg #[mv], .agg #[.int .i64 1, .int .i64 x, .int .u64 0, .string ⟨#[]⟩, .slice none 0 0]] w fun e w' => e = .returned (.iface 94 (.int .i64 x)) ∧ Below w.heap.size w w' := by
  go_enter Tryz.func48, Tryz.ntmps48
  go_wp2
  go_ret
  exact ⟨rfl, below2 w _ _⟩

set_option maxRecDepth 100000 in
set_option maxHeartbeats 1000000 in
theorem answered_any (k i u : Int) (s : ByteArray) (a : Option Addr) (n c : Nat) (w : World) : Calls Tryz.prog 95 #[.agg #[.int .i64 k, .int .i64 i, .int .u64 u, .string s, .slice a n c]] w fun e w' => e = .returned (.tuple #[.agg #[.bool true, .int .i64 k, .int .i64 i, .int .u64 u, .string s, .slice a n c], .nilIface]) ∧ Below w.heap.size w w' := by
  go_enter Tryz.func95, Tryz.ntmps95
  go_wp2
  exact bodyPost_ret (v := .tuple #[.agg #[.bool true, .int .i64 k, .int .i64 i, .int .u64 u, .string s, .slice a n c], .nilIface]) (by simp [results, Tryz.results95, go_sem]) rfl ⟨rfl, below2 w _ _⟩
end Go.Proofs.YtgijdiplhcoojaaGreatDoor
/- The package's Load, by the contracts of what it calls; the conditions: those. -/
namespace Go.Proofs.YtgijdiplhcoojaaGreatDoor
open Go.RowKit

abbrev zsv : Array Value := #[.int .i64 0, .int .i64 0, .int .i64 0, .int .i64 0, .int .u64 0, .string ⟨#[]⟩, .slice none 0 0, .slice none 0 0, .bool false, .int .i64 0]
set_option maxRecDepth 100000 in
set_option maxHeartbeats 1000000 in
theorem load_no (k i u : Int) (s : ByteArray) (a : Option Addr) (n c : Nat) (w : World) (b1 b2 : Bool) (hno : (b1 && b2) = false)
    (hV : ∀ wx, Below w.heap.size w wx → Calls Tryz.prog 19 #[.agg #[.int .i64 k, .int .i64 i, .int .u64 u, .string s, .slice a n c]] wx fun e w' => e = .returned (.bool b1) ∧ Below wx.heap.size wx w')
    (hI : b1 = true → ∀ wx, Below w.heap.size w wx → Calls Tryz.prog 26 #[.agg #[.int .i64 k, .int .i64 i, .int .u64 u, .string s, .slice a n c]] wx fun e w' => e = .returned (.bool b2) ∧ Below wx.heap.size wx w') :
    Calls Tryz.prog 10 #[.agg #[.int .i64 k, .int .i64 i, .int .u64 u, .string s, .slice a n c]] w fun e w' => e = .returned (.tuple #[.agg zsv, .bool false]) ∧ Below w.heap.size w w' := by
  have HV := Lib.hid hV
  have HI := Lib.hid hI
  clear hV hI
  have b0 := below2 w (.cells #[.int .i64 k, .int .i64 i, .int .u64 u, .string s, .slice a n c] 25) (.cells zsv 27)
  have D0 : Bk ((w.alloc (.cells #[.int .i64 k, .int .i64 i, .int .u64 u, .string s, .slice a n c] 25)).alloc (.cells zsv 27)) w.heap.size #[.int .i64 k, .int .i64 i, .int .u64 u, .string s, .slice a n c] 25 := (Bk.new w _ _).alloc _
  have E0 := Bk.new2 w (.cells #[.int .i64 k, .int .i64 i, .int .u64 u, .string s, .slice a n c] 25) zsv 27
  go_enter Tryz.func10, Tryz.ntmps10
  go_wp2_with fail
  refine (HV.out _ b0).mono ?_
  rintro e w1 ⟨rfl, b1'⟩
  have D1 := D0.step b1'
  have E1 := E0.step b1'
  have B1 := b0.trans (b1'.mono b0.size)
  clear D0 E0 b0 b1' HV
  obtain ⟨d0, d1, d2, d3, d4⟩ := D1.c5
  cases b1 with
  | false =>
    clear HI hno
    obtain ⟨z0, z1, z2, z3, z4, z5, z6, z7, z8, z9⟩ := E1.c10
    have fz := E1.f
    go_wp2_with fail
    obtain ⟨M1, M2, M3, M4⟩ := set10 E1 (.int .i64 0) (.int .i64 0) (.int .i64 0) (.int .i64 0) (.int .u64 0) (.string ⟨#[]⟩) (.slice none 0 0) (.slice none 0 0) (.bool false) (.int .i64 0) rfl
    obtain ⟨y0, y1, y2, y3, y4, y5, y6, y7, y8, y9⟩ := M1.c10
    exact bodyPost_ret (v := .tuple #[.agg zsv, .bool false]) (by simp [results, Tryz.results10, go_sem, y0, y1, y2, y3, y4, y5, y6, y7, y8, y9]) rfl ⟨rfl, B1.trans (M4.mono (Nat.le_succ _))⟩
  | true =>
    rw [Bool.true_and] at hno
    subst hno
    have HI' := Lib.hid (HI.out rfl)
    clear HI
    go_wp2_with fail
    refine (HI'.out _ B1).mono ?_
    rintro e w2 ⟨rfl, b2⟩
    have E2 := E1.step b2
    have B2 := B1.trans (b2.mono B1.size)
    clear D1 E1 B1 b2 HI' d0 d1 d2 d3 d4
    obtain ⟨z0, z1, z2, z3, z4, z5, z6, z7, z8, z9⟩ := E2.c10
    have fz := E2.f
    go_wp2_with fail
    obtain ⟨M1, M2, M3, M4⟩ := set10 E2 (.int .i64 0) (.int .i64 0) (.int .i64 0) (.int .i64 0) (.int .u64 0) (.string ⟨#[]⟩) (.slice none 0 0) (.slice none 0 0) (.bool false) (.int .i64 0) rfl
    obtain ⟨y0, y1, y2, y3, y4, y5, y6, y7, y8, y9⟩ := M1.c10
    exact bodyPost_ret (v := .tuple #[.agg zsv, .bool false]) (by simp [results, Tryz.results10, go_sem, y0, y1, y2, y3, y4, y5, y6, y7, y8, y9]) rfl ⟨rfl, B2.trans (M4.mono (Nat.le_succ _))⟩

/-- What Load gives at a value of the form. -/
def LdP (R : Bool) (cn ac un : Int) (cl : Bool) (Q : Int → Int → Int → ByteArray → Option Addr → Nat → Nat → Option Addr → Nat → Nat → World → Prop) (w : World) (e : Ending) (w' : World) : Prop := Below w.heap.size w w' ∧ (R = true → ∃ k i u s a n c a' n' c', e = .returned (.tuple #[.agg #[.int .i64 cn, .int .i64 ac, .int .i64 k, .int .i64 i, .int .u64 u, .string s, .slice a n c, .slice a' n' c', .bool cl, .int .i64 un], .bool true]) ∧ Q k i u s a n c a' n' c' w') ∧ (R = false → e = .returned (.tuple #[.agg zsv, .bool false]))
set_option maxRecDepth 100000 in
set_option maxHeartbeats 2000000 in
theorem load_by (R : Bool) (cn ac un : Int) (cl : Bool) (k i u : Int) (s : ByteArray) (a : Option Addr) (n c : Nat) (w : World)
    (Q : Int → Int → Int → ByteArray → Option Addr → Nat → Nat → Option Addr → Nat → Nat → World → Prop) (hQ : ∀ k i u s a n c a' n' c' w' w'', Q k i u s a n c a' n' c' w' → w'.heap.size ≤ w''.heap.size → (∀ g, w.heap.size + 2 ≤ g → g < w'.heap.size → w''.heap[g]? = w'.heap[g]?) → Q k i u s a n c a' n' c' w'')
    (hV : ∀ wx, Below w.heap.size w wx → Calls Tryz.prog 19 #[.agg #[.int .i64 k, .int .i64 i, .int .u64 u, .string s, .slice a n c]] wx fun e w' => e = .returned (.bool true) ∧ Below wx.heap.size wx w')
    (hI : ∀ wx, Below w.heap.size w wx → Calls Tryz.prog 26 #[.agg #[.int .i64 k, .int .i64 i, .int .u64 u, .string s, .slice a n c]] wx fun e w' => e = .returned (.bool true) ∧ Below wx.heap.size wx w')
    (hL : ∀ wx, Below w.heap.size w wx → w.heap.size + 2 ≤ wx.heap.size → Calls Tryz.prog 27 #[.agg #[.int .i64 k, .int .i64 i, .int .u64 u, .string s, .slice a n c]] wx fun e w' => ∃ k i u s a n c a' n' c', e = .returned (.agg #[.int .i64 cn, .int .i64 ac, .int .i64 k, .int .i64 i, .int .u64 u, .string s, .slice a n c, .slice a' n' c', .bool cl, .int .i64 un]) ∧ Hid (Q k i u s a n c a' n' c' w') ∧ Below wx.heap.size wx w')
    (hF : ∀ k i u s a n c a' n' c' wx, Q k i u s a n c a' n' c' wx → Below w.heap.size w wx → Calls Tryz.prog 5 #[.agg #[.int .i64 cn, .int .i64 ac, .int .i64 k, .int .i64 i, .int .u64 u, .string s, .slice a n c, .slice a' n' c', .bool cl, .int .i64 un]] wx fun e w' => e = .returned (.bool R) ∧ Below wx.heap.size wx w') :
    Calls Tryz.prog 10 #[.agg #[.int .i64 k, .int .i64 i, .int .u64 u, .string s, .slice a n c]] w fun e w' => LdP R cn ac un cl Q w e w' := by
  have HV := Lib.hid hV
  have HI := Lib.hid hI
  have HL := Lib.hid hL
  have HF := Lib.hid hF
  have HQ := Lib.hid hQ
  clear hV hI hL hF hQ
  have b0 := below2 w (.cells #[.int .i64 k, .int .i64 i, .int .u64 u, .string s, .slice a n c] 25) (.cells zsv 27)
  have D0 : Bk ((w.alloc (.cells #[.int .i64 k, .int .i64 i, .int .u64 u, .string s, .slice a n c] 25)).alloc (.cells zsv 27)) w.heap.size #[.int .i64 k, .int .i64 i, .int .u64 u, .string s, .slice a n c] 25 := (Bk.new w _ _).alloc _
  have E0 := Bk.new2 w (.cells #[.int .i64 k, .int .i64 i, .int .u64 u, .string s, .slice a n c] 25) zsv 27
  go_enter Tryz.func10, Tryz.ntmps10
  go_wp2_with fail
  refine (HV.out _ b0).mono ?_
  rintro e w1 ⟨rfl, b1'⟩
  have D1 := D0.step b1'
  have E1 := E0.step b1'
  have B1 := b0.trans (b1'.mono b0.size)
  clear D0 E0 b0 b1' HV
  obtain ⟨d0, d1, d2, d3, d4⟩ := D1.c5
  go_wp2_with fail
  refine (HI.out _ B1).mono ?_
  rintro e w2 ⟨rfl, b2⟩
  have D2 := D1.step b2
  have E2 := E1.step b2
  have B2 := B1.trans (b2.mono B1.size)
  clear D1 E1 B1 b2 HI d0 d1 d2 d3 d4
  obtain ⟨d0, d1, d2, d3, d4⟩ := D2.c5
  have hs2 := E2.lt
  go_wp2_with fail
  refine (HL.out _ B2 (by omega)).mono ?_
  rintro e w3 ⟨k', i', u', s', a', n', c', la', ll', lc', rfl, q3, b3⟩
  have E3 := E2.step b3
  have B3 := B2.trans (b3.mono B2.size)
  have hs3 := b3.size
  clear D2 E2 B2 b3 HL d0 d1 d2 d3 d4
  have b4 := below1 w3 (.cells #[.int .i64 cn, .int .i64 ac, .int .i64 k', .int .i64 i', .int .u64 u', .string s', .slice a' n' c', .slice la' ll' lc', .bool cl, .int .i64 un] 27)
  have Q4 : Hid (Q k' i' u' s' a' n' c' la' ll' lc' _) := HQ.out _ _ _ _ _ _ _ _ _ _ _ _ q3.out b4.size fun g _ hg => b4.block g hg
  have S4 := Bk.new w3 #[.int .i64 cn, .int .i64 ac, .int .i64 k', .int .i64 i', .int .u64 u', .string s', .slice a' n' c', .slice la' ll' lc', .bool cl, .int .i64 un] 27
  have E4 := E3.step b4
  have B4 := B3.trans (b4.mono B3.size)
  have hs4 := E3.lt
  clear E3 B3 b4 q3
  go_wp2_with fail
  generalize w3.alloc (.cells #[.int .i64 cn, .int .i64 ac, .int .i64 k', .int .i64 i', .int .u64 u', .string s', .slice a' n' c', .slice la' ll' lc', .bool cl, .int .i64 un] 27) = w4 at *
  generalize w3.heap.size = gS at *
  refine (HF.out _ _ _ _ _ _ _ _ _ _ _ Q4.out B4).mono ?_
  rintro e w5 ⟨rfl, b5⟩
  have S5 := S4.step b5
  have E5 := E4.step b5
  have B5 := B4.trans (b5.mono B4.size)
  have Q5 : Hid (Q k' i' u' s' a' n' c' la' ll' lc' w5) := HQ.out _ _ _ _ _ _ _ _ _ _ _ _ Q4.out b5.size fun g _ hg => b5.block g hg
  clear S4 E4 B4 Q4 b5 HF
  obtain ⟨z0, z1, z2, z3, z4, z5, z6, z7, z8, z9⟩ := E5.c10
  have fz := E5.f
  cases R with
  | false =>
    go_wp2_with fail
    obtain ⟨M1, M2, M3, M4⟩ := set10 E5 (.int .i64 0) (.int .i64 0) (.int .i64 0) (.int .i64 0) (.int .u64 0) (.string ⟨#[]⟩) (.slice none 0 0) (.slice none 0 0) (.bool false) (.int .i64 0) rfl
    obtain ⟨y0, y1, y2, y3, y4, y5, y6, y7, y8, y9⟩ := M1.c10
    exact bodyPost_ret (v := .tuple #[.agg zsv, .bool false]) (by simp [results, Tryz.results10, go_sem, y0, y1, y2, y3, y4, y5, y6, y7, y8, y9]) rfl ⟨B5.trans (M4.mono (Nat.le_succ _)), (fun h => by cases h), fun _ => rfl⟩
  | true =>
    obtain ⟨x0, x1, x2, x3, x4, x5, x6, x7, x8, x9⟩ := S5.c10
    go_wp2_with fail
    obtain ⟨M1, M2, M3, M4⟩ := set10 E5 (.int .i64 cn) (.int .i64 ac) (.int .i64 k') (.int .i64 i') (.int .u64 u') (.string s') (.slice a' n' c') (.slice la' ll' lc') (.bool cl) (.int .i64 un) rfl
    obtain ⟨y0, y1, y2, y3, y4, y5, y6, y7, y8, y9⟩ := M1.c10
    have Q6 := HQ.out _ _ _ _ _ _ _ _ _ _ _ _ Q5.out (Nat.le_of_eq M2.symm) fun g hg _ => M3 g (by omega)
    exact bodyPost_ret (v := .tuple #[.agg #[.int .i64 cn, .int .i64 ac, .int .i64 k', .int .i64 i', .int .u64 u', .string s', .slice a' n' c', .slice la' ll' lc', .bool cl, .int .i64 un], .bool true]) (by simp [results, Tryz.results10, go_sem, y0, y1, y2, y3, y4, y5, y6, y7, y8, y9]) rfl ⟨B5.trans (M4.mono (Nat.le_succ _)), fun _ => ⟨_, _, _, _, _, _, _, _, _, _, rfl, Q6⟩, (fun h => by cases h)⟩
end Go.Proofs.YtgijdiplhcoojaaGreatDoor
