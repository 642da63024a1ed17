/- The package's Save, by the contracts of what it calls; the conditions: those. -/
import Derived.Test.YtgijdiplhcoojaaGreatDoorXSw
import Derived.Test.YtgijdiplhcoojaaGreatDoorJag
namespace Go.Proofs.YtgijdiplhcoojaaGreatDoor
open Go.RowKit

set_option maxRecDepth 100000 in
set_option maxHeartbeats 1000000 in
theorem save_yes (cn ac k i u : Int) (s : ByteArray) (a : Option Addr) (n c : Nat) (a' : Option Addr) (n' c' : Nat) (cl : Bool) (un : Int) (w : World)
    (M : Int → Int → Int → ByteArray → Option Addr → Nat → Nat → World → Prop) (hM : ∀ k i u s a n c w' w'', M k i u s a n c w' → w'.heap.size ≤ w''.heap.size → (∀ g, w.heap.size + 2 ≤ g → g < w'.heap.size → w''.heap[g]? = w'.heap[g]?) → M k i u s a n c w'')
    (hS : ∀ wx, Below w.heap.size w wx → w.heap.size + 2 ≤ wx.heap.size → Calls Tryz.prog 22 #[.agg #[.int .i64 cn, .int .i64 ac, .int .i64 k, .int .i64 i, .int .u64 u, .string s, .slice a n c, .slice a' n' c', .bool cl, .int .i64 un]] wx fun e w' => ∃ k i u s a n c, e = .returned (.agg #[.int .i64 k, .int .i64 i, .int .u64 u, .string s, .slice a n c]) ∧ M k i u s a n c w' ∧ Below wx.heap.size wx w')
    (hV : ∀ k i u s a n c wx, M k i u s a n c wx → Below w.heap.size w wx → Calls Tryz.prog 19 #[.agg #[.int .i64 k, .int .i64 i, .int .u64 u, .string s, .slice a n c]] wx fun e w' => e = .returned (.bool true) ∧ Below wx.heap.size wx w') :
    Calls Tryz.prog 7 #[.agg #[.int .i64 cn, .int .i64 ac, .int .i64 k, .int .i64 i, .int .u64 u, .string s, .slice a n c, .slice a' n' c', .bool cl, .int .i64 un]] w fun e w' => ∃ k i u s a n c, e = .returned (.tuple #[.agg #[.int .i64 k, .int .i64 i, .int .u64 u, .string s, .slice a n c], .bool true]) ∧ Hid (M k i u s a n c w') ∧ Below w.heap.size w w' := by
  have HS := Lib.hid hS
  have HV := Lib.hid hV
  clear hS hV
  have E0 := Bk.new2 w (.cells #[.int .i64 cn, .int .i64 ac, .int .i64 k, .int .i64 i, .int .u64 u, .string s, .slice a n c, .slice a' n' c', .bool cl, .int .i64 un] 27) #[.int .i64 0, .int .i64 0, .int .u64 0, .string ⟨#[]⟩, .slice none 0 0] 25
  have B0 := below2 w (.cells #[.int .i64 cn, .int .i64 ac, .int .i64 k, .int .i64 i, .int .u64 u, .string s, .slice a n c, .slice a' n' c', .bool cl, .int .i64 un] 27) (.cells #[.int .i64 0, .int .i64 0, .int .u64 0, .string ⟨#[]⟩, .slice none 0 0] 25)
  go_enter Tryz.func7, Tryz.ntmps7
  go_wp2_with fail
  refine (HS.out _ B0 (by simp)).mono ?_
  rintro e w1 ⟨k1, i1, u1, s1, a1, n1, c1, rfl, m1, b1⟩
  have E1 := E0.step b1
  have B1 := B0.trans (b1.mono B0.size)
  have b2 := below1 w1 (.cells #[.int .i64 k1, .int .i64 i1, .int .u64 u1, .string s1, .slice a1 n1 c1] 25)
  have M2 : Hid (M k1 i1 u1 s1 a1 n1 c1 _) := hM _ _ _ _ _ _ _ _ _ m1 b2.size fun g _ hg => b2.block g hg
  have D2 := Bk.new w1 #[.int .i64 k1, .int .i64 i1, .int .u64 u1, .string s1, .slice a1 n1 c1] 25
  have E2 := E1.step b2
  have B2 := B1.trans (b2.mono B1.size)
  have hz := E1.lt
  clear m1 E0 E1 B0 B1 b1 b2 HS
  go_wp2_with fail
  generalize w1.alloc (.cells #[.int .i64 k1, .int .i64 i1, .int .u64 u1, .string s1, .slice a1 n1 c1] 25) = w2 at *
  refine (HV.out _ _ _ _ _ _ _ _ M2.out B2).mono ?_
  rintro e w3 ⟨rfl, b3⟩
  have D3 := D2.step b3
  have E3 := E2.step b3
  have M3 : Hid (M k1 i1 u1 s1 a1 n1 c1 w3) := hM _ _ _ _ _ _ _ _ _ M2.out b3.size fun g _ hg => b3.block g hg
  have B3 := B2.trans (b3.mono B2.size)
  clear D2 E2 M2 B2 b3 HV
  obtain ⟨d0, d1, d2, d3, d4⟩ := D3.c5
  obtain ⟨z0, z1, z2, z3, z4⟩ := E3.c5
  have fz := E3.f
  go_wp2_with fail
  obtain ⟨Y1, Y2, Y3, Y4⟩ := set5 E3 (.int .i64 k1) (.int .i64 i1) (.int .u64 u1) (.string s1) (.slice a1 n1 c1) rfl
  obtain ⟨y0, y1, y2, y3, y4⟩ := Y1.c5
  have M4 : Hid (M k1 i1 u1 s1 a1 n1 c1 _) := hM _ _ _ _ _ _ _ _ _ M3.out (Nat.le_of_eq Y2.symm) fun g hg _ => Y3 g (by omega)
  exact bodyPost_ret (v := .tuple #[.agg #[.int .i64 k1, .int .i64 i1, .int .u64 u1, .string s1, .slice a1 n1 c1], .bool true]) (by simp [results, Tryz.results7, go_sem, y0, y1, y2, y3, y4]) rfl ⟨_, _, _, _, _, _, _, rfl, M4, B3.trans (Y4.mono (Nat.le_succ _))⟩
set_option maxRecDepth 100000 in
set_option maxHeartbeats 1000000 in
theorem save_no (cn ac k i u : Int) (s : ByteArray) (a : Option Addr) (n c : Nat) (a' : Option Addr) (n' c' : Nat) (cl : Bool) (un : Int) (w : World)
    (M : Int → Int → Int → ByteArray → Option Addr → Nat → Nat → World → Prop) (hM : ∀ k i u s a n c w' w'', M k i u s a n c w' → w'.heap.size ≤ w''.heap.size → (∀ g, w.heap.size + 2 ≤ g → g < w'.heap.size → w''.heap[g]? = w'.heap[g]?) → M k i u s a n c w'')
    (hS : ∀ wx, Below w.heap.size w wx → w.heap.size + 2 ≤ wx.heap.size → Calls Tryz.prog 22 #[.agg #[.int .i64 cn, .int .i64 ac, .int .i64 k, .int .i64 i, .int .u64 u, .string s, .slice a n c, .slice a' n' c', .bool cl, .int .i64 un]] wx fun e w' => ∃ k i u s a n c, e = .returned (.agg #[.int .i64 k, .int .i64 i, .int .u64 u, .string s, .slice a n c]) ∧ M k i u s a n c w' ∧ Below wx.heap.size wx w')
    (hV : ∀ k i u s a n c wx, M k i u s a n c wx → Below w.heap.size w wx → Calls Tryz.prog 19 #[.agg #[.int .i64 k, .int .i64 i, .int .u64 u, .string s, .slice a n c]] wx fun e w' => e = .returned (.bool false) ∧ Below wx.heap.size wx w') :
    Calls Tryz.prog 7 #[.agg #[.int .i64 cn, .int .i64 ac, .int .i64 k, .int .i64 i, .int .u64 u, .string s, .slice a n c, .slice a' n' c', .bool cl, .int .i64 un]] w fun e w' => e = .returned (.tuple #[.agg #[.int .i64 0, .int .i64 0, .int .u64 0, .string ⟨#[]⟩, .slice none 0 0], .bool false]) ∧ Below w.heap.size w w' := by
  have HS := Lib.hid hS
  have HV := Lib.hid hV
  clear hS hV
  have E0 := Bk.new2 w (.cells #[.int .i64 cn, .int .i64 ac, .int .i64 k, .int .i64 i, .int .u64 u, .string s, .slice a n c, .slice a' n' c', .bool cl, .int .i64 un] 27) #[.int .i64 0, .int .i64 0, .int .u64 0, .string ⟨#[]⟩, .slice none 0 0] 25
  have B0 := below2 w (.cells #[.int .i64 cn, .int .i64 ac, .int .i64 k, .int .i64 i, .int .u64 u, .string s, .slice a n c, .slice a' n' c', .bool cl, .int .i64 un] 27) (.cells #[.int .i64 0, .int .i64 0, .int .u64 0, .string ⟨#[]⟩, .slice none 0 0] 25)
  go_enter Tryz.func7, Tryz.ntmps7
  go_wp2_with fail
  refine (HS.out _ B0 (by simp)).mono ?_
  rintro e w1 ⟨k1, i1, u1, s1, a1, n1, c1, rfl, m1, b1⟩
  have E1 := E0.step b1
  have B1 := B0.trans (b1.mono B0.size)
  have b2 := below1 w1 (.cells #[.int .i64 k1, .int .i64 i1, .int .u64 u1, .string s1, .slice a1 n1 c1] 25)
  have M2 : Hid (M k1 i1 u1 s1 a1 n1 c1 _) := hM _ _ _ _ _ _ _ _ _ m1 b2.size fun g _ hg => b2.block g hg
  have D2 := Bk.new w1 #[.int .i64 k1, .int .i64 i1, .int .u64 u1, .string s1, .slice a1 n1 c1] 25
  have E2 := E1.step b2
  have B2 := B1.trans (b2.mono B1.size)
  have hz := E1.lt
  clear m1 E0 E1 B0 B1 b1 b2 HS
  go_wp2_with fail
  generalize w1.alloc (.cells #[.int .i64 k1, .int .i64 i1, .int .u64 u1, .string s1, .slice a1 n1 c1] 25) = w2 at *
  refine (HV.out _ _ _ _ _ _ _ _ M2.out B2).mono ?_
  rintro e w3 ⟨rfl, b3⟩
  have D3 := D2.step b3
  have E3 := E2.step b3
  have M3 : Hid (M k1 i1 u1 s1 a1 n1 c1 w3) := hM _ _ _ _ _ _ _ _ _ M2.out b3.size fun g _ hg => b3.block g hg
  have B3 := B2.trans (b3.mono B2.size)
  clear D2 E2 M2 B2 b3 HV
  obtain ⟨d0, d1, d2, d3, d4⟩ := D3.c5
  obtain ⟨z0, z1, z2, z3, z4⟩ := E3.c5
  have fz := E3.f
  go_wp2_with fail
  obtain ⟨Y1, Y2, Y3, Y4⟩ := set5 E3 (.int .i64 0) (.int .i64 0) (.int .u64 0) (.string ⟨#[]⟩) (.slice none 0 0) rfl
  obtain ⟨y0, y1, y2, y3, y4⟩ := Y1.c5
  exact bodyPost_ret (v := .tuple #[.agg #[.int .i64 0, .int .i64 0, .int .u64 0, .string ⟨#[]⟩, .slice none 0 0], .bool false]) (by simp [results, Tryz.results7, go_sem, y0, y1, y2, y3, y4]) rfl ⟨rfl, B3.trans (Y4.mono (Nat.le_succ _))⟩
end Go.Proofs.YtgijdiplhcoojaaGreatDoor
/- The document's look at each part, at the kinds that have no list: the table's answer; no condition but sizes. -/
namespace Go.Proofs.YtgijdiplhcoojaaGreatDoor.Dt
open Go.RowKit

set_option maxRecDepth 100000 in
set_option maxHeartbeats 1000000 in
theorem right0 (i u : Int) (s : ByteArray) (ad : Option Addr) (len cap : Nat) (w : World) (_hs : s.size ≤ maxLen) (_hl : len ≤ maxLen) :
    Calls Tryz.prog 29 #[.agg #[.int .i64 0, .int .i64 i, .int .u64 u, .string s, .slice ad len cap]] w fun e w' => e = .returned (.bool (okB 0 i u s.size len)) ∧ Below w.heap.size w w' := by
  unfold maxLen at _hs _hl
  go_enter Tryz.func29, Tryz.ntmps29
  go_wp2_with fail
  all_goals try (refine wp_loop_rounds 1 ?_; rw [rounds_succ]; go_wp2_with fail)
  all_goals go_ret
  all_goals refine ⟨ret_b ?_, (Below.refl _ w).alloc (Nat.le_refl _) _⟩
  all_goals have hz := nil_size s
  all_goals generalize s.toList = L at *
  all_goals generalize s.size = z at *
  all_goals (simp_all [okB] <;> first | omega | (rw [Bool.eq_iff_iff]; simp; omega))
set_option maxRecDepth 100000 in
set_option maxHeartbeats 1000000 in
theorem right1 (i u : Int) (s : ByteArray) (ad : Option Addr) (len cap : Nat) (w : World) (_hs : s.size ≤ maxLen) (_hl : len ≤ maxLen) :
    Calls Tryz.prog 29 #[.agg #[.int .i64 1, .int .i64 i, .int .u64 u, .string s, .slice ad len cap]] w fun e w' => e = .returned (.bool (okB 1 i u s.size len)) ∧ Below w.heap.size w w' := by
  unfold maxLen at _hs _hl
  go_enter Tryz.func29, Tryz.ntmps29
  go_wp2_with fail
  all_goals try (refine wp_loop_rounds 1 ?_; rw [rounds_succ]; go_wp2_with fail)
  all_goals go_ret
  all_goals refine ⟨ret_b ?_, (Below.refl _ w).alloc (Nat.le_refl _) _⟩
  all_goals have hz := nil_size s
  all_goals generalize s.toList = L at *
  all_goals generalize s.size = z at *
  all_goals (simp_all [okB] <;> first | omega | (rw [Bool.eq_iff_iff]; simp; omega))
set_option maxRecDepth 100000 in
set_option maxHeartbeats 1000000 in
theorem right2 (i u : Int) (s : ByteArray) (ad : Option Addr) (len cap : Nat) (w : World) (_hs : s.size ≤ maxLen) (_hl : len ≤ maxLen) :
    Calls Tryz.prog 29 #[.agg #[.int .i64 2, .int .i64 i, .int .u64 u, .string s, .slice ad len cap]] w fun e w' => e = .returned (.bool (okB 2 i u s.size len)) ∧ Below w.heap.size w w' := by
  unfold maxLen at _hs _hl
  go_enter Tryz.func29, Tryz.ntmps29
  go_wp2_with fail
  all_goals try (refine wp_loop_rounds 1 ?_; rw [rounds_succ]; go_wp2_with fail)
  all_goals go_ret
  all_goals refine ⟨ret_b ?_, (Below.refl _ w).alloc (Nat.le_refl _) _⟩
  all_goals have hz := nil_size s
  all_goals generalize s.toList = L at *
  all_goals generalize s.size = z at *
  all_goals (simp_all [okB] <;> first | omega | (rw [Bool.eq_iff_iff]; simp; omega))
set_option maxRecDepth 100000 in
set_option maxHeartbeats 1000000 in
theorem right3 (i u : Int) (s : ByteArray) (ad : Option Addr) (len cap : Nat) (w : World) (_hs : s.size ≤ maxLen) (_hl : len ≤ maxLen) :
    Calls Tryz.prog 29 #[.agg #[.int .i64 3, .int .i64 i, .int .u64 u, .string s, .slice ad len cap]] w fun e w' => e = .returned (.bool (okB 3 i u s.size len)) ∧ Below w.heap.size w w' := by
  unfold maxLen at _hs _hl
  go_enter Tryz.func29, Tryz.ntmps29
  go_wp2_with fail
  all_goals try (refine wp_loop_rounds 1 ?_; rw [rounds_succ]; go_wp2_with fail)
  all_goals go_ret
  all_goals refine ⟨ret_b ?_, (Below.refl _ w).alloc (Nat.le_refl _) _⟩
  all_goals have hz := nil_size s
  all_goals generalize s.toList = L at *
  all_goals generalize s.size = z at *
  all_goals (simp_all [okB] <;> first | omega | (rw [Bool.eq_iff_iff]; simp; omega))
set_option maxRecDepth 100000 in
set_option maxHeartbeats 1000000 in
theorem right4 (i u : Int) (s : ByteArray) (ad : Option Addr) (len cap : Nat) (w : World) (_hs : s.size ≤ maxLen) (_hl : len ≤ maxLen) :
    Calls Tryz.prog 29 #[.agg #[.int .i64 4, .int .i64 i, .int .u64 u, .string s, .slice ad len cap]] w fun e w' => e = .returned (.bool (okB 4 i u s.size len)) ∧ Below w.heap.size w w' := by
  unfold maxLen at _hs _hl
  go_enter Tryz.func29, Tryz.ntmps29
  go_wp2_with fail
  all_goals try (refine wp_loop_rounds 1 ?_; rw [rounds_succ]; go_wp2_with fail)
  all_goals go_ret
  all_goals refine ⟨ret_b ?_, (Below.refl _ w).alloc (Nat.le_refl _) _⟩
  all_goals have hz := nil_size s
  all_goals generalize s.toList = L at *
  all_goals generalize s.size = z at *
  all_goals (simp_all [okB] <;> first | omega | (rw [Bool.eq_iff_iff]; simp; omega))
set_option maxRecDepth 100000 in
set_option maxHeartbeats 1000000 in
theorem right5 (i u : Int) (s : ByteArray) (ad : Option Addr) (len cap : Nat) (w : World) (_hs : s.size ≤ maxLen) (_hl : len ≤ maxLen) :
    Calls Tryz.prog 29 #[.agg #[.int .i64 5, .int .i64 i, .int .u64 u, .string s, .slice ad len cap]] w fun e w' => e = .returned (.bool (okB 5 i u s.size len)) ∧ Below w.heap.size w w' := by
  unfold maxLen at _hs _hl
  go_enter Tryz.func29, Tryz.ntmps29
  go_wp2_with fail
  all_goals try (refine wp_loop_rounds 1 ?_; rw [rounds_succ]; go_wp2_with fail)
  all_goals go_ret
  all_goals refine ⟨ret_b ?_, (Below.refl _ w).alloc (Nat.le_refl _) _⟩
  all_goals have hz := nil_size s
  all_goals generalize s.toList = L at *
  all_goals generalize s.size = z at *
  all_goals (simp_all [okB] <;> first | omega | (rw [Bool.eq_iff_iff]; simp; omega))
end Go.Proofs.YtgijdiplhcoojaaGreatDoor.Dt
/- The document's look at each part, at the kinds that have no list: the table's answer; no condition but sizes. -/
namespace Go.Proofs.YtgijdiplhcoojaaGreatDoor.Dt
open Go.RowKit

set_option maxRecDepth 100000 in
set_option maxHeartbeats 1000000 in
theorem right6 (i u : Int) (s : ByteArray) (ad : Option Addr) (len cap : Nat) (w : World) (_hs : s.size ≤ maxLen) (_hl : len ≤ maxLen) :
    Calls Tryz.prog 29 #[.agg #[.int .i64 6, .int .i64 i, .int .u64 u, .string s, .slice ad len cap]] w fun e w' => e = .returned (.bool (okB 6 i u s.size len)) ∧ Below w.heap.size w w' := by
  unfold maxLen at _hs _hl
  go_enter Tryz.func29, Tryz.ntmps29
  go_wp2_with fail
  all_goals try (refine wp_loop_rounds 1 ?_; rw [rounds_succ]; go_wp2_with fail)
  all_goals go_ret
  all_goals refine ⟨ret_b ?_, (Below.refl _ w).alloc (Nat.le_refl _) _⟩
  all_goals have hz := nil_size s
  all_goals generalize s.toList = L at *
  all_goals generalize s.size = z at *
  all_goals (simp_all [okB] <;> first | omega | (rw [Bool.eq_iff_iff]; simp; omega))
set_option maxRecDepth 100000 in
set_option maxHeartbeats 1000000 in
theorem right7 (i u : Int) (s : ByteArray) (ad : Option Addr) (len cap : Nat) (w : World) (_hs : s.size ≤ maxLen) (_hl : len ≤ maxLen) :
    Calls Tryz.prog 29 #[.agg #[.int .i64 7, .int .i64 i, .int .u64 u, .string s, .slice ad len cap]] w fun e w' => e = .returned (.bool (okB 7 i u s.size len)) ∧ Below w.heap.size w w' := by
  unfold maxLen at _hs _hl
  go_enter Tryz.func29, Tryz.ntmps29
  go_wp2_with fail
  all_goals try (refine wp_loop_rounds 1 ?_; rw [rounds_succ]; go_wp2_with fail)
  all_goals go_ret
  all_goals refine ⟨ret_b ?_, (Below.refl _ w).alloc (Nat.le_refl _) _⟩
  all_goals have hz := nil_size s
  all_goals generalize s.toList = L at *
  all_goals generalize s.size = z at *
  all_goals (simp_all [okB] <;> first | omega | (rw [Bool.eq_iff_iff]; simp; omega))
set_option maxRecDepth 100000 in
set_option maxHeartbeats 1000000 in
theorem right10 (i u : Int) (s : ByteArray) (ad : Option Addr) (len cap : Nat) (w : World) (_hs : s.size ≤ maxLen) (_hl : len ≤ maxLen) :
    Calls Tryz.prog 29 #[.agg #[.int .i64 10, .int .i64 i, .int .u64 u, .string s, .slice ad len cap]] w fun e w' => e = .returned (.bool (okB 10 i u s.size len)) ∧ Below w.heap.size w w' := by
  unfold maxLen at _hs _hl
  go_enter Tryz.func29, Tryz.ntmps29
  go_wp2_with fail
  all_goals try (refine wp_loop_rounds 1 ?_; rw [rounds_succ]; go_wp2_with fail)
  all_goals go_ret
  all_goals refine ⟨ret_b ?_, (Below.refl _ w).alloc (Nat.le_refl _) _⟩
  all_goals have hz := nil_size s
  all_goals generalize s.toList = L at *
  all_goals generalize s.size = z at *
  all_goals (simp_all [okB] <;> first | omega | (rw [Bool.eq_iff_iff]; simp; omega))
set_option maxRecDepth 100000 in
set_option maxHeartbeats 1000000 in
theorem right12 (i u : Int) (s : ByteArray) (ad : Option Addr) (len cap : Nat) (w : World) (_hs : s.size ≤ maxLen) (_hl : len ≤ maxLen) :
    Calls Tryz.prog 29 #[.agg #[.int .i64 12, .int .i64 i, .int .u64 u, .string s, .slice ad len cap]] w fun e w' => e = .returned (.bool (okB 12 i u s.size len)) ∧ Below w.heap.size w w' := by
  unfold maxLen at _hs _hl
  go_enter Tryz.func29, Tryz.ntmps29
  go_wp2_with fail
  all_goals try (refine wp_loop_rounds 1 ?_; rw [rounds_succ]; go_wp2_with fail)
  all_goals go_ret
  all_goals refine ⟨ret_b ?_, (Below.refl _ w).alloc (Nat.le_refl _) _⟩
  all_goals have hz := nil_size s
  all_goals generalize s.toList = L at *
  all_goals generalize s.size = z at *
  all_goals (simp_all [okB] <;> first | omega | (rw [Bool.eq_iff_iff]; simp; omega))
set_option maxRecDepth 100000 in
set_option maxHeartbeats 1000000 in
theorem right13 (i u : Int) (s : ByteArray) (ad : Option Addr) (len cap : Nat) (w : World) (_hs : s.size ≤ maxLen) (_hl : len ≤ maxLen) :
    Calls Tryz.prog 29 #[.agg #[.int .i64 13, .int .i64 i, .int .u64 u, .string s, .slice ad len cap]] w fun e w' => e = .returned (.bool (okB 13 i u s.size len)) ∧ Below w.heap.size w w' := by
  unfold maxLen at _hs _hl
  go_enter Tryz.func29, Tryz.ntmps29
  go_wp2_with fail
  all_goals try (refine wp_loop_rounds 1 ?_; rw [rounds_succ]; go_wp2_with fail)
  all_goals go_ret
  all_goals refine ⟨ret_b ?_, (Below.refl _ w).alloc (Nat.le_refl _) _⟩
  all_goals have hz := nil_size s
  all_goals generalize s.toList = L at *
  all_goals generalize s.size = z at *
  all_goals (simp_all [okB] <;> first | omega | (rw [Bool.eq_iff_iff]; simp; omega))
set_option maxRecDepth 100000 in
set_option maxHeartbeats 1000000 in
theorem rightNo (k i u : Int) (s : ByteArray) (ad : Option Addr) (len cap : Nat) (w : World) (hk : k < 0 ∨ 13 < k) (_hs : s.size ≤ maxLen) (_hl : len ≤ maxLen) :
    Calls Tryz.prog 29 #[.agg #[.int .i64 k, .int .i64 i, .int .u64 u, .string s, .slice ad len cap]] w fun e w' => e = .returned (.bool (okB k i u s.size len)) ∧ Below w.heap.size w w' := by
  unfold maxLen at _hs _hl
  have h0 : (k == 0) = false := by simp; omega
  have h1 : (k == 1) = false := by simp; omega
  have h2 : (k == 2) = false := by simp; omega
  have h3 : (k == 3) = false := by simp; omega
  have h4 : (k == 4) = false := by simp; omega
  have h5 : (k == 5) = false := by simp; omega
  have h6 : (k == 6) = false := by simp; omega
  have h7 : (k == 7) = false := by simp; omega
  have h8 : (k == 8) = false := by simp; omega
  have h9 : (k == 9) = false := by simp; omega
  have h10 : (k == 10) = false := by simp; omega
  have h11 : (k == 11) = false := by simp; omega
  have h12 : (k == 12) = false := by simp; omega
  have h13 : (k == 13) = false := by simp; omega
  have ho : okB k i u s.size len = false := by
    have n0 : k ≠ 0 := by omega
    have n1 : k ≠ 1 := by omega
    have n2 : k ≠ 2 := by omega
    have n3 : k ≠ 3 := by omega
    have n4 : k ≠ 4 := by omega
    have n5 : k ≠ 5 := by omega
    have n6 : k ≠ 6 := by omega
    have n7 : k ≠ 7 := by omega
    have n8 : k ≠ 8 := by omega
    have n9 : k ≠ 9 := by omega
    have n10 : k ≠ 10 := by omega
    have n11 : k ≠ 11 := by omega
    have n12 : k ≠ 12 := by omega
    have n13 : k ≠ 13 := by omega
    simp [okB, n0, n1, n2, n3, n4, n5, n6, n7, n8, n9, n10, n11, n12, n13]
  rw [ho]
  clear hk ho
  go_enter Tryz.func29, Tryz.ntmps29
  go_wp2_with fail
  go_ret
  exact ⟨rfl, (Below.refl _ w).alloc (Nat.le_refl _) _⟩
end Go.Proofs.YtgijdiplhcoojaaGreatDoor.Dt
