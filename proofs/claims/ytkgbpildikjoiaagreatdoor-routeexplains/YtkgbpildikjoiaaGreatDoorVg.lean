/- The laws' own look at the program (awake); the condition: what is asked of the package. -/
import Derived.Test.YtkgbpildikjoiaaGreatDoorVf
namespace Go.Proofs.YtkgbpildikjoiaaGreatDoor
open Go.RowKit Tp

def r0 : Ro := ⟨⟨#[97, 47, 35]⟩, 1, ((2, 4, []) : Int × Int × List (Wt 0)), 2, 4, none, 0, 0, 0, false⟩
def r1 : Ro := ⟨⟨#[35]⟩, 1, ((0, 0, []) : Int × Int × List (Wt 0)), 0, 0, none, 0, 0, 1, true⟩
theorem r0_ok : r0.ok = true := by
  unfold Ro.ok
  rw [show isFilter (tl r0.f) = true by show isFilter (tl ⟨#[97, 47, 35]⟩) = true; rw [tl_data]; decide +kernel]
  decide +kernel
theorem r1_ok : r1.ok = true := by
  unfold Ro.ok
  rw [show isFilter (tl r1.f) = true by show isFilter (tl ⟨#[35]⟩) = true; rw [tl_data]; decide +kernel]
  decide +kernel
theorem r0_tp : r0.tp (tl ⟨#[97, 47, 98]⟩) = true := by show matches' (tl ⟨#[97, 47, 35]⟩) (tl ⟨#[97, 47, 98]⟩) = true; rw [tl_data, tl_data]; decide +kernel
theorem r1_tp : r1.tp (tl ⟨#[97, 47, 98]⟩) = true := by show matches' (tl ⟨#[35]⟩) (tl ⟨#[97, 47, 98]⟩) = true; rw [tl_data, tl_data]; decide +kernel
theorem m_name : isName (tl ⟨#[97, 47, 98]⟩) = true := by rw [tl_data]; decide +kernel
theorem r0_ty4 : r0.ty 4 = true := by decide +kernel
theorem r0_ty0 : r0.ty 0 = false := by decide +kernel
theorem r1_ty (k : Int) : r1.ty k = true := rfl
theorem hdl4 : hdl (tl ⟨#[97, 47, 98]⟩) 4 [r0, r1] = [0] := by
  have e1 : r0.e = false := rfl
  have e2 : r1.e = true := rfl
  have e3 : r0.h = 0 := rfl
  have t0 := r0_tp
  have t1 := r1_tp
  generalize tl ⟨#[97, 47, 98]⟩ = T at t0 t1 ⊢
  simp [hdl, tkR, fn, fnd, Ro.ag, t0, t1, r0_ty4, r1_ty, e1, e2, ded, hof, e3]
theorem hdl0 : hdl (tl ⟨#[97, 47, 98]⟩) 0 [r0, r1] = [1] := by
  have e1 : r0.e = false := rfl
  have e2 : r1.e = true := rfl
  have e3 : r1.h = 1 := rfl
  have t0 := r0_tp
  have t1 := r1_tp
  generalize tl ⟨#[97, 47, 98]⟩ = T at t0 t1 ⊢
  simp [hdl, tkR, fn, fnd, Ro.ag, t0, t1, r0_ty0, r1_ty, e1, e2, ded, hof, e3]
theorem r01_rs {w : World} {N : Nat} (h : Bk w N #[.string ⟨#[97, 47, 35]⟩, .int .i64 2, .int .i64 4, .slice none 0 0, .int .i64 0, .bool false, .string ⟨#[35]⟩, .int .i64 0, .int .i64 0, .slice none 0 0, .int .i64 1, .bool true] 45) : Rs w (some ⟨N, 0, none⟩) [r0, r1] := by
  refine .inr ⟨N, 0, rfl, fun j x hj => ?_⟩
  match j, hj with
  | 0, hj =>
    simp only [List.getElem?_cons_zero, Option.some.injEq] at hj
    subst hj
    exact ⟨⟨h.c 0, h.c 1, h.c 2, h.c 3, h.c 4, h.c 5⟩, ⟨none, 0, rfl, Nat.le_refl _, by unfold maxLen; omega, .inl rfl⟩, by unfold maxLen; decide⟩
  | 1, hj =>
    simp only [List.getElem?_cons_zero, List.getElem?_cons_succ, Option.some.injEq] at hj
    subst hj
    exact ⟨⟨h.c 6, h.c 7, h.c 8, h.c 9, h.c 10, h.c 11⟩, ⟨none, 0, rfl, Nat.le_refl _, by unfold maxLen; omega, .inl rfl⟩, by unfold maxLen; decide⟩
  | j + 2, hj => simp at hj

set_option maxRecDepth 100000 in
set_option maxHeartbeats 2000000 in
theorem awake_any (K : KHan) (w : World) (hT : Tabs w) :
    Calls Tryz.prog 8 #[] w fun e w' => e = .returned (.bool true) ∧ Below w.heap.size w w' := by
  have b0 := below1 w (.cells #[.string ⟨#[97, 47, 35]⟩, .int .i64 2, .int .i64 4, .slice none 0 0, .int .i64 0, .bool false, .string ⟨#[35]⟩, .int .i64 0, .int .i64 0, .slice none 0 0, .int .i64 1, .bool true] 45)
  have n0 := Bk.new w #[.string ⟨#[97, 47, 35]⟩, .int .i64 2, .int .i64 4, .slice none 0 0, .int .i64 0, .bool false, .string ⟨#[35]⟩, .int .i64 0, .int .i64 0, .slice none 0 0, .int .i64 1, .bool true] 45
  obtain ⟨w0, hw0⟩ : ∃ w0, w0 = w.alloc (.cells #[.string ⟨#[97, 47, 35]⟩, .int .i64 2, .int .i64 4, .slice none 0 0, .int .i64 0, .bool false, .string ⟨#[35]⟩, .int .i64 0, .int .i64 0, .slice none 0 0, .int .i64 1, .bool true] 45) := ⟨_, rfl⟩
  rw [← hw0] at b0 n0
  have HW := Lib.hid hw0.symm
  have hok : ∀ x ∈ [r0, r1], x.ok = true := fun x hx => by
    simp only [List.mem_cons, List.not_mem_nil, or_false] at hx
    rcases hx with rfl | rfl
    · exact r0_ok
    · exact r1_ok
  have H4 : Hid (∀ wx, Below w0.heap.size w0 wx → Calls Tryz.prog 12 #[.slice (some ⟨w.heap.size, 0, none⟩) 2 2, .agg #[.int .i64 0, .string ⟨#[97, 47, 98]⟩, .int .i64 4, .int .i64 0, .int .u64 0, .string ⟨#[]⟩, .slice none 0 0, .int .i64 0, .int .i64 0, .string ⟨#[]⟩, .int .i64 0, .int .i64 0, .int .i64 0]] wx fun e w' => ∃ sv, e = .returned sv ∧ Ri w' sv [0] ∧ Below w0.heap.size w0 w') := fun wx hx => (K [r0, r1] (some ⟨w.heap.size, 0, none⟩) 2 (⟨0, ⟨#[97, 47, 98]⟩, 4, 0, 0, ⟨#[]⟩, none, 0, 0, 0, 0, ⟨#[]⟩, 0, 0, 0⟩ : Mg) wx ((r01_rs n0).below hx) (by decide) hok ⟨by decide, by decide⟩ m_name ((hT.below b0).below hx)).mono fun e w' ⟨sv, p, q, r⟩ => ⟨sv, p, by rw [← hdl4]; exact q, hx.trans (r.mono hx.size)⟩
  have H0 : Hid (∀ wx, Below w0.heap.size w0 wx → Calls Tryz.prog 12 #[.slice (some ⟨w.heap.size, 0, none⟩) 2 2, .agg #[.int .i64 0, .string ⟨#[97, 47, 98]⟩, .int .i64 0, .int .i64 0, .int .u64 0, .string ⟨#[]⟩, .slice none 0 0, .int .i64 0, .int .i64 0, .string ⟨#[]⟩, .int .i64 0, .int .i64 0, .int .i64 0]] wx fun e w' => ∃ sv, e = .returned sv ∧ Ri w' sv [1] ∧ Below wx.heap.size wx w') := fun wx hx => (K [r0, r1] (some ⟨w.heap.size, 0, none⟩) 2 (⟨0, ⟨#[97, 47, 98]⟩, 0, 0, 0, ⟨#[]⟩, none, 0, 0, 0, 0, ⟨#[]⟩, 0, 0, 0⟩ : Mg) wx ((r01_rs n0).below hx) (by decide) hok ⟨by decide, by decide⟩ m_name ((hT.below b0).below hx)).mono fun e w' ⟨sv, p, q, r⟩ => ⟨sv, p, by rw [← hdl0]; exact q, r⟩
  clear hw0 n0 hok hT K
  go_enter Tryz.func8, Tryz.ntmps8
  go_wp2_with (rw [HW.out])
  refine (H4.out _ (Below.refl _ _)).mono ?_
  rintro e w1 ⟨s1, rfl, q1, b1⟩
  go_wp2_with fail
  refine (H0.out _ b1).mono ?_
  rintro e w2 ⟨s2, rfl, q2, b2⟩
  obtain ⟨g1, o1, c1, rfl, x1⟩ := (q1.below b2).at (by simp)
  obtain ⟨g2, o2, c2, rfl, x2⟩ := q2.at (by simp)
  have y1 := x1 0 0 rfl
  have y2 := x2 0 1 rfl
  rw [Nat.add_zero] at y1 y2
  simp only [List.length_cons, List.length_nil]
  go_wp2
  go_ret
  exact ⟨rfl, b0.trans ((b1.trans (b2.mono b1.size)).mono b0.size)⟩
end Go.Proofs.YtkgbpildikjoiaaGreatDoor
