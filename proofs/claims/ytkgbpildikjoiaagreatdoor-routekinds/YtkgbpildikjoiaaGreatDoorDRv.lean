/- What the document's Valid answers over a value's tree: what the plain walk says, in new memory alone; the condition: the tree in memory. -/
import Derived.Test.YtkgbpildikjoiaaGreatDoorDRight
namespace Go.Proofs.YtkgbpildikjoiaaGreatDoor.Dt
open Go.RowKit

theorem rep_shape {w : World} {n : Nat} {v0 v1 v2 v3 v4 : Value} {t : Tr n} (h : Rep w n [v0, v1, v2, v3, v4] t) : ∃ (k i u : Int) (s : ByteArray) (ad : Option Addr) (len cap : Nat), v0 = .int .i64 k ∧ v1 = .int .i64 i ∧ v2 = .int .u64 u ∧ v3 = .string s ∧ v4 = .slice ad len cap := by
  match n, t, h with
  | n + 1, t, h =>
    obtain ⟨ad, cap, e, -, -, -, -⟩ := h
    simp only [List.cons.injEq, and_true] at e
    exact ⟨_, _, _, _, _, _, _, e⟩

/-- What both Valid answer. -/
def vB (n : Nat) (t : Tr n) : Bool := (vw 16 n t 4096).1

set_option maxRecDepth 100000 in
set_option maxHeartbeats 1000000 in
theorem refValid (n : Nat) (t : Tr n) (v0 v1 v2 v3 v4 : Value) (w : World) (h : Rep w n [v0, v1, v2, v3, v4] t) :
    Calls Tryz.prog 16 #[.agg #[v0, v1, v2, v3, v4]] w fun e w' => e = .returned (.bool (vB n t)) ∧ Below w.heap.size w w' := by
  have S := say 16 n t 1 4096 (by decide) (by decide) (by decide)
  have bd := cnt_bd 16 n t 1 4096 (by decide) (by decide)
  obtain ⟨u0, u1, u2, u3, a4, n4, c4, rfl, rfl, rfl, rfl, rfl⟩ := rep_shape h
  have b0 : Below w.heap.size w (w.alloc (.cells #[.int .i64 u0, .int .i64 u1, .int .u64 u2, .string u3, .slice a4 n4 c4] 26)) := (Below.refl _ w).alloc (Nat.le_refl _) _
  have r0 := Rep.below b0 n _ _ h
  have d0 := D5.new w (.int .i64 u0) (.int .i64 u1) (.int .u64 u2) (.string u3) (.slice a4 n4 c4)
  have HR := Lib.hid (right_any n t)
  have hV : vB n t = (vw 16 n t 4096).1 := rfl
  generalize vw 16 n t 4096 = VV at S hV
  have HC := Lib.hid (count_any 16 n t _ _ _ _ _ 1 4096 _ r0 (by decide) (by decide) (by decide) (by decide))
  generalize cnt 16 n t 1 4096 = C at S bd HC
  obtain ⟨q1, q2, q3, q4⟩ := bd
  by_cases hC : C.1 = 4097
  · have hv : vB n t = false := by
      rw [hV]
      cases e : VV.1 with
      | false => rfl
      | true => exact absurd hC (S.down e).2.1
    rw [hv]
    have hn : ¬ C.1 ≤ 4096 := by omega
    have hnb : decide (C.1 ≤ 4096) = false := by simpa using hn
    clear hv hV S hC
    go_enter Tryz.func16, Tryz.ntmps16
    go_wp2_with fail
    refine HC.out.mono ?_
    rintro e w1 ⟨rfl, b1⟩
    go_wp2_with fail
    go_ret
    exact ⟨rfl, b0.trans (b1.mono b0.size)⟩
  · obtain ⟨f1, f2, f3, f4, f5⟩ := S.fit hC
    have hv : vB n t = rgt n t := by
      rw [hV]
      cases e : rgt n t with
      | true => exact S.up hC e
      | false =>
        cases e2 : VV.1 with
        | false => rfl
        | true => exact absurd ((S.down e2).1) (by rw [e]; simp)
    rw [hv]
    clear hv hV S hC f1
    go_enter Tryz.func16, Tryz.ntmps16
    go_wp2_with fail
    refine HC.out.mono ?_
    rintro e w1 ⟨rfl, b1⟩
    have d1 := d0.kept (b := w.heap.size + 1) (grown_below b1) (by omega)
    obtain ⟨k0, k1, k2, k3, k4⟩ := d1.c
    have r1 := Rep.below b1 n _ _ r0
    have B1 := b0.trans (b1.mono b0.size)
    clear r0 b1 b0 d0
    go_wp2_with fail
    refine (HR.out _ _ _ _ _ _ r1).mono ?_
    rintro e w2 ⟨rfl, b2⟩
    go_wp2_with fail
    go_ret
    exact ⟨rfl, B1.trans (b2.mono B1.size)⟩

end Go.Proofs.YtkgbpildikjoiaaGreatDoor.Dt
