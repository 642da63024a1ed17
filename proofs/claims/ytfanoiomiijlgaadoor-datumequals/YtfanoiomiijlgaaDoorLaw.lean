/- The law DatumValid over a value's tree: it returns true, in new memory alone; the conditions: the tree in memory, the tables that are read as the text lays them. -/
import Derived.Test.YtfanoiomiijlgaaDoorRight
import Derived.Test.YtfanoiomiijlgaaDoorParts
namespace Go.Proofs.YtfanoiomiijlgaaDoor
open Go.RowKit

/-- What both Valid answer. -/
def vB (n : Nat) (t : Tr n) : Bool := (vw 16 n t 4096).1

set_option maxRecDepth 100000 in
set_option maxHeartbeats 1000000 in
theorem refValid (n : Nat) (t : Tr n) (v0 v1 v2 v3 v4 : Value) (w : World) (h : Rep w n [v0, v1, v2, v3, v4] t) :
    Calls Tryd.prog 5 #[.agg #[v0, v1, v2, v3, v4]] w fun e w' => e = .returned (.bool (vB n t)) ∧ Below w.heap.size w w' := by
  have S := say 16 n t 1 4096 (by decide) (by decide) (by decide)
  have bd := cnt_bd 16 n t 1 4096 (by decide) (by decide)
  obtain ⟨u0, u1, u2, u3, a4, n4, c4, rfl, rfl, rfl, rfl, rfl⟩ := rep_shape h
  have b0 : Below w.heap.size w (w.alloc (.cells #[.int .i64 u0, .int .i64 u1, .int .u64 u2, .string u3, .slice a4 n4 c4] 25)) := (Below.refl _ w).alloc (Nat.le_refl _) _
  have r0 := Rep.below b0 n _ _ h
  have d0 := D5.new w (.int .i64 u0) (.int .i64 u1) (.int .u64 u2) (.string u3) (.slice a4 n4 c4)
  have HR := Lib.hid (right_any n t)
  have hV : vB n t = (vw 16 n t 4096).1 := rfl
  generalize vw 16 n t 4096 = VV at S hV
  have HC := Lib.hid (count_any 16 n t _ _ _ _ _ 1 4096 _ r0 (by decide) (by decide) (by decide) (by decide))
  generalize cnt 16 n t 1 4096 = C at S bd HC
  obtain ⟨q1, q2, q3, q4⟩ := bd
  by_cases hC : C.1 = 4097
  · have hv : vB n t = false := by
      rw [hV]
      cases e : VV.1 with
      | false => rfl
      | true => exact absurd hC (S.down e).2.1
    rw [hv]
    have hn : ¬ C.1 ≤ 4096 := by omega
    have hnb : decide (C.1 ≤ 4096) = false := by simpa using hn
    clear hv hV S hC
    go_enter Tryd.func5, Tryd.ntmps5
    go_wp2_with fail
    refine HC.out.mono ?_
    rintro e w1 ⟨rfl, b1⟩
    go_wp2_with fail
    go_ret
    exact ⟨rfl, b0.trans (b1.mono b0.size)⟩
  · obtain ⟨f1, f2, f3, f4, f5⟩ := S.fit hC
    have hv : vB n t = rgt n t := by
      rw [hV]
      cases e : rgt n t with
      | true => exact S.up hC e
      | false =>
        cases e2 : VV.1 with
        | false => rfl
        | true => exact absurd ((S.down e2).1) (by rw [e]; simp)
    rw [hv]
    clear hv hV S hC f1
    go_enter Tryd.func5, Tryd.ntmps5
    go_wp2_with fail
    refine HC.out.mono ?_
    rintro e w1 ⟨rfl, b1⟩
    have d1 := d0.kept (b := w.heap.size + 1) (grown_below b1) (by omega)
    obtain ⟨k0, k1, k2, k3, k4⟩ := d1.c
    have r1 := Rep.below b1 n _ _ r0
    have B1 := b0.trans (b1.mono b0.size)
    clear r0 b1 b0 d0
    go_wp2_with fail
    refine (HR.out _ _ _ _ _ _ r1).mono ?_
    rintro e w2 ⟨rfl, b2⟩
    go_wp2_with fail
    go_ret
    exact ⟨rfl, B1.trans (b2.mono B1.size)⟩

set_option maxRecDepth 100000 in
set_option maxHeartbeats 1000000 in
theorem ownValid (n : Nat) (t : Tr n) (v0 v1 v2 v3 v4 : Value) (w : World) (h : Rep w n [v0, v1, v2, v3, v4] t) (hT : Tab14 w) :
    Calls Tryd.prog 6 #[.agg #[v0, v1, v2, v3, v4]] w fun e w' => e = .returned (.bool (vB n t)) ∧ Below w.heap.size w w' := by
  obtain ⟨u0, u1, u2, u3, a4, n4, c4, rfl, rfl, rfl, rfl, rfl⟩ := rep_shape h
  have b0 : Below w.heap.size w ((w.alloc (.cells #[.int .i64 u0, .int .i64 u1, .int .u64 u2, .string u3, .slice a4 n4 c4] 25)).alloc (.cells #[.int .i64 4096] 3)) := ((Below.refl _ w).alloc (Nat.le_refl _) _).alloc (by simp) _
  have l0 : Lf ((w.alloc (.cells #[.int .i64 u0, .int .i64 u1, .int .u64 u2, .string u3, .slice a4 n4 c4] 25)).alloc (.cells #[.int .i64 4096] 3)) (w.heap.size + 1) 4096 := by
    have := heap_alloc_new (w.alloc (.cells #[.int .i64 u0, .int .i64 u1, .int .u64 u2, .string u3, .slice a4 n4 c4] 25)) (.cells #[.int .i64 4096] 3)
    rw [World.size_alloc] at this
    exact this
  have HC := Lib.hid (within_any w hT (w.heap.size + 1) (Nat.le_succ _) 16 n t _ _ _ _ _ 4096 _ h b0 l0 (by decide) (by decide) (by decide))
  unfold vB
  generalize vw 16 n t 4096 = VV at HC ⊢
  clear h hT
  go_enter Tryd.func6, Tryd.ntmps6
  go_wp2_with fail
  refine HC.out.mono ?_
  rintro e w1 ⟨rfl, -, g1⟩
  have b1 : Below w.heap.size w w1 := b0.grown g1 (by simp; omega) (fun k hk => by have := Option.some.inj hk; omega)
  go_wp2_with fail
  go_ret
  exact ⟨rfl, b1⟩

set_option maxRecDepth 100000 in
set_option maxHeartbeats 1000000 in
theorem refParts (n : Nat) (t : Tr n) (v0 v1 v2 v3 v4 : Value) (w : World) (h : Rep w n [v0, v1, v2, v3, v4] t) :
    Calls Tryd.prog 8 #[.agg #[v0, v1, v2, v3, v4]] w fun e w' => e = .returned (.tuple #[.int .i64 (cnt 16 n t 1 4096).1, .int .i64 (cnt 16 n t 1 4096).2]) ∧ Below w.heap.size w w' := by
  obtain ⟨u0, u1, u2, u3, a4, n4, c4, rfl, rfl, rfl, rfl, rfl⟩ := rep_shape h
  have b0 : Below w.heap.size w (w.alloc (.cells #[.int .i64 u0, .int .i64 u1, .int .u64 u2, .string u3, .slice a4 n4 c4] 25)) := (Below.refl _ w).alloc (Nat.le_refl _) _
  have HC := Lib.hid (count_any 16 n t _ _ _ _ _ 1 4096 _ (Rep.below b0 n _ _ h) (by decide) (by decide) (by decide) (by decide))
  generalize cnt 16 n t 1 4096 = C at HC ⊢
  clear h
  go_enter Tryd.func8, Tryd.ntmps8
  go_wp2_with fail
  refine HC.out.mono ?_
  rintro e w1 ⟨rfl, b1⟩
  go_wp2_with fail
  go_ret2
  exact ⟨rfl, b0.trans (b1.mono b0.size)⟩

theorem tab_of_14 {w : World} (h : Tab14 w) : Tab w := ⟨h.1, h.2 1 (by decide), h.2 4 (by decide), h.2 8 (by decide)⟩

set_option maxRecDepth 100000 in
set_option maxHeartbeats 1000000 in
theorem law_valid (n : Nat) (t : Tr n) (v0 v1 v2 v3 v4 : Value) (w : World) (h : Rep w n [v0, v1, v2, v3, v4] t) (hT : Tab14 w) (hP : Pow0 w) :
    Calls Tryd.prog 3 #[.agg #[v0, v1, v2, v3, v4]] w fun e w' => e = .returned (.bool true) ∧ Below w.heap.size w w' := by
  obtain ⟨u0, u1, u2, u3, a4, n4, c4, rfl, rfl, rfl, rfl, rfl⟩ := rep_shape h
  have b0 : Below w.heap.size w (w.alloc (.cells #[.int .i64 u0, .int .i64 u1, .int .u64 u2, .string u3, .slice a4 n4 c4] 25)) := (Below.refl _ w).alloc (Nat.le_refl _) _
  have r0 := Rep.below b0 n _ _ h
  have d0 := D5.new w (.int .i64 u0) (.int .i64 u1) (.int .u64 u2) (.string u3) (.slice a4 n4 c4)
  have HT := Lib.hid hT
  have HP := Lib.hid (Lib.tabBelow_of_tabIs hP)
  clear hT hP h
  cases hV : vB n t with
  | false =>
    have HV := Lib.hid hV
    clear hV
    go_enter Tryd.func3, Tryd.ntmps3
    go_wp2_with fail
    refine (refValid n t _ _ _ _ _ _ r0).mono ?_
    rintro e w1 ⟨rfl, b1⟩
    rw [HV.out]
    have B1 := b0.trans (b1.mono b0.size)
    have d1 := d0.kept (b := w.heap.size + 1) (grown_below b1) (by omega)
    have r1 := Rep.below b1 n _ _ r0
    obtain ⟨k0, k1, k2, k3, k4⟩ := d1.c
    clear r0 d0 b1 b0
    go_wp2_with fail
    refine (ownValid n t _ _ _ _ _ _ r1 (HT.out.below B1)).mono ?_
    rintro e w2 ⟨rfl, b2⟩
    rw [HV.out]
    have B2 := B1.trans (b2.mono B1.size)
    clear r1 d1 b2 B1 k0 k1 k2 k3 k4
    go_wp2_with fail
    refine (awake_any _ (tab_of_14 (HT.out.below B2)) (HP.out.on B2).here).mono ?_
    rintro e w3 ⟨rfl, b3⟩
    go_wp2_with fail
    go_ret
    exact ⟨rfl, B2.trans (b3.mono B2.size)⟩
  | true =>
    have S := say 16 n t 1 4096 (by decide) (by decide) (by decide)
    obtain ⟨-, hC, -⟩ := S.down hV
    obtain ⟨f1, f2, f3, f4, f5⟩ := S.fit hC
    have fp : pts n t = cnt 16 n t 1 4096 := by rw [f1]; exact Prod.ext rfl (by show (cnt 16 n t 1 4096).2 - 1 + 1 = _; omega)
    have HF := Lib.hid fp
    have p1 : (pts n t).1 ≤ 100000 := by rw [fp]; omega
    have p2 : (pts n t).2 ≤ 100000 := by rw [fp]; omega
    have HV := Lib.hid hV
    clear hV S hC f1 f2 f3 f4 f5 fp
    go_enter Tryd.func3, Tryd.ntmps3
    go_wp2_with fail
    refine (refValid n t _ _ _ _ _ _ r0).mono ?_
    rintro e w1 ⟨rfl, b1⟩
    rw [HV.out]
    have B1 := b0.trans (b1.mono b0.size)
    have d1 := d0.kept (b := w.heap.size + 1) (grown_below b1) (by omega)
    have r1 := Rep.below b1 n _ _ r0
    obtain ⟨k0, k1, k2, k3, k4⟩ := d1.c
    clear r0 d0 b1 b0
    go_wp2_with fail
    refine (ownValid n t _ _ _ _ _ _ r1 (HT.out.below B1)).mono ?_
    rintro e w2 ⟨rfl, b2⟩
    rw [HV.out]
    have B2 := B1.trans (b2.mono B1.size)
    have d2 := d1.kept (b := w.heap.size + 1) (grown_below b2) (by omega)
    have r2 := Rep.below b2 n _ _ r1
    clear k0 k1 k2 k3 k4
    obtain ⟨k0, k1, k2, k3, k4⟩ := d2.c
    clear r1 d1 b2 B1
    go_wp2_with fail
    refine (parts_any n t _ _ _ _ _ _ r2 p1 p2).mono ?_
    rintro e w3 ⟨rfl, b3⟩
    rw [HF.out]
    have B3 := B2.trans (b3.mono B2.size)
    have d3 := d2.kept (b := w.heap.size + 1) (grown_below b3) (by omega)
    have r3 := Rep.below b3 n _ _ r2
    clear k0 k1 k2 k3 k4
    obtain ⟨k0, k1, k2, k3, k4⟩ := d3.c
    clear r2 d2 b3 B2 p1 p2
    go_wp2_with fail
    refine (refParts n t _ _ _ _ _ _ r3).mono ?_
    rintro e w4 ⟨rfl, b4⟩
    have B4 := B3.trans (b4.mono B3.size)
    clear r3 d3 b4 B3 k0 k1 k2 k3 k4
    generalize cnt 16 n t 1 4096 = C
    go_wp2_with fail
    refine (awake_any _ (tab_of_14 (HT.out.below B4)) (HP.out.on B4).here).mono ?_
    rintro e w5 ⟨rfl, b5⟩
    go_wp2_with fail
    go_ret
    exact ⟨rfl, B4.trans (b5.mono B4.size)⟩
end Go.Proofs.YtfanoiomiijlgaaDoor
