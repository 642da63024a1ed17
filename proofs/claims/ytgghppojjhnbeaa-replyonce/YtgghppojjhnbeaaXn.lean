/- The package's states copied, Open; the conditions that each theorem names. -/
import Derived.Test.YtgghppojjhnbeaaXm
namespace Go.Proofs.Ytgghppojjhnbeaa
open Go.RowKit

set_option maxRecDepth 100000 in
set_option maxHeartbeats 1000000 in
theorem copied_any (nx : Int) (sv : Value) (L : List Ak) (w : World) (h : Al w sv L) (hl : L.length ≤ 1024) :
    Calls Try.prog 15 #[.agg #[.int .i64 nx, sv]] w fun e w' => ∃ s2, e = .returned (.agg #[.int .i64 nx, s2]) ∧ w'.ownsRow w.heap.size 41 3 s2 L.length (flk Ak.cl L) ∧ Below w.heap.size w w' := by
  have HA := Lib.hid h
  obtain ⟨ad, cap, rfl, -⟩ := h
  obtain ⟨w1, hw1⟩ : ∃ w1, w1 = w.alloc (.cells #[.int .i64 nx, .slice ad L.length cap] 24) := ⟨_, rfl⟩
  have b1 := below1 w (.cells #[.int .i64 nx, .slice ad L.length cap] 24)
  have n1 := Bk.new w #[.int .i64 nx, .slice ad L.length cap] 24
  rw [← hw1] at b1 n1
  have z1 : w1.heap.size = w.heap.size + 1 := by rw [hw1]; simp
  obtain ⟨w2, hw2⟩ : ∃ w2, w2 = w1.alloc (.cells #[.int .i64 0, .slice none 0 0] 24) := ⟨_, rfl⟩
  have b2 := below1 w1 (.cells #[.int .i64 0, .slice none 0 0] 24)
  have n2 := Bk.new w1 #[.int .i64 0, .slice none 0 0] 24
  rw [← hw2] at b2 n2
  rw [z1] at n2
  have z2 : w2.heap.size = w.heap.size + 1 + 1 := by rw [hw2, World.size_alloc, z1]
  have HW1 := Lib.hid hw1.symm
  have HW2 := Lib.hid hw2.symm
  have B2 : Below w.heap.size w w2 := b1.trans (b2.mono (by omega))
  have N1 := n1.below b2
  have N2 := n2
  have H2 := Lib.hid N2
  have HS := Lib.hid (fun w' (h : Below w2.heap.size w2 w') => (N1.below h).c2)
  have HT := Lib.hid (fun w' v0 v1 (h : Below w2.heap.size w2 w') => (((N1.below h).other ⟨w.heap.size + 1, 0, none⟩ v0 (by simp)).other ⟨w.heap.size + 1, 1, none⟩ v1 (by simp)).c2)
  have KC := Lib.hid (fun w' (h : Below w2.heap.size w2 w') => clone_any _ L w' (HA.out.below (B2.trans (h.mono B2.size))) (by omega))
  obtain ⟨c0, c1⟩ := N1.c2
  have B0 := Below.refl w2.heap.size w2
  clear hw1 hw2 n1 n2 N1 N2 b1 b2
  go_enter Try.func15, Try.ntmps15
  go_wp2_with (first | rw [HW1.out] | rw [HW2.out])
  go_region_held3 (fun w' => w'.cell? ⟨w.heap.size, 0, none⟩ = some (.int .i64 nx) ∧ w'.cell? ⟨w.heap.size, 1, none⟩ = some (.slice ad L.length cap)) (first | exact HS.out _ (by with_reducible first | assumption | exact Below.drew (by assumption)) | exact HT.out _ _ _ (by with_reducible assumption)) (first | (go_at_call 21; refine (KC.out _ B0.drew).mono ?_; rintro e w3 ⟨s3, rfl, o3, b3'⟩; have b3 : Below w2.heap.size w2 w3 := B0.drew.trans b3'; clear b3'; have m0 := (H2.out.below b3).c2.1; have m1 := (H2.out.below b3).c2.2; have mf := (H2.out.below b3).f; obtain ⟨a3, c3, q3⟩ := row_form o3; subst q3))
  go_wp2_with fail
  refine bodyPost_ret (v := .agg #[.int .i64 nx, .slice a3 L.length c3]) (by simp [results, Try.results15, go_sem, World.cell?_setCell_same, World.cell?_setCell_other, m0, m1]) rfl ⟨_, rfl, ?_, ?_⟩
  · refine World.ownsRow.mono (own_set (own_set o3 (by simp [z2]) _ _) (by simp [z2]) _ _) (by simp [z2]; omega)
  · exact ((B2.trans (b3.mono B2.size)).setCell (p := ⟨w.heap.size + 1, 0, none⟩) (by simp) _).setCell (p := ⟨w.heap.size + 1, 1, none⟩) (by simp) _
set_option maxRecDepth 100000 in
set_option maxHeartbeats 4000000 in
/-- The package's Open is what the laws ask. -/
theorem ko : KOpe := fun nx sv L tp un w h hfit hu => by
  obtain ⟨hx0, hx1, hl, -⟩ := fitS_iff hfit
  clear hfit
  have HA := Lib.hid h
  obtain ⟨ad, cap, rfl, -⟩ := h
  obtain ⟨w1, hw1⟩ : ∃ w1, w1 = w.alloc (.cells #[.int .i64 nx, .slice ad L.length cap] 24) := ⟨_, rfl⟩
  have b1 := below1 w (.cells #[.int .i64 nx, .slice ad L.length cap] 24)
  have n1 := Bk.new w #[.int .i64 nx, .slice ad L.length cap] 24
  rw [← hw1] at b1 n1
  have z1 : w1.heap.size = w.heap.size + 1 := by rw [hw1]; simp
  obtain ⟨w2, hw2⟩ : ∃ w2, w2 = w1.alloc (.cells #[.int .i64 0, .slice none 0 0] 24) := ⟨_, rfl⟩
  have b2 := below1 w1 (.cells #[.int .i64 0, .slice none 0 0] 24)
  have n2 := Bk.new w1 #[.int .i64 0, .slice none 0 0] 24
  rw [← hw2] at b2 n2
  rw [z1] at n2
  have z2 : w2.heap.size = w.heap.size + 1 + 1 := by rw [hw2, World.size_alloc, z1]
  have HW1 := Lib.hid hw1.symm
  have HW2 := Lib.hid hw2.symm
  have B2 : Below w.heap.size w w2 := b1.trans (b2.mono (by omega))
  have N1 := n1.below b2
  obtain ⟨e0, e1⟩ := N1.c2
  have H1 := Lib.hid N1
  have H2 := Lib.hid n2
  have hfd : opF nx L = (decide (1024 ≤ L.length) || decide (4611686018427387904 ≤ nx)) := rfl
  clear hw1 hw2 n1 n2 N1 b1 b2
  cases hF : opF nx L with
  | true =>
    have eL : opL nx L tp un = L := by unfold opL; rw [hF, if_pos rfl]
    have eN : opN nx L = nx := by unfold opN; rw [hF, if_pos rfl]
    have eR : opR nx L = 0 := by unfold opR; rw [hF, if_pos rfl]
    have eE : opE nx L = 190 := by unfold opE; rw [hF, if_pos rfl]
    rw [hF] at hfd
    rw [eL, eN, eR, eE]
    have KC := Lib.hid (copied_any nx (.slice ad L.length cap) L w2 (HA.out.below B2) hl)
    have FIN : Hid (∀ w3 a3 c3, w3.ownsRow w2.heap.size 41 3 (.slice a3 L.length c3) L.length (flk Ak.cl L) → Below w2.heap.size w2 w3 → ∀ wy, wy = (w3.setCell ⟨w.heap.size + 1, 0, none⟩ (.int .i64 nx)).setCell ⟨w.heap.size + 1, 1, none⟩ (.slice a3 L.length c3) → Al wy (.slice a3 L.length c3) L ∧ Below w.heap.size w wy) := Lib.hid fun w3 a3 c3 own3 b3 wy hy => by
      subst hy
      exact ⟨own_rk Ak.len (own_set (own_set own3 (by omega) _ _) (by omega) _ _), ((B2.trans (b3.mono B2.size)).setCell (p := ⟨w.heap.size + 1, 0, none⟩) (by simp) _).setCell (p := ⟨w.heap.size + 1, 1, none⟩) (by simp) _⟩
    clear eL eN eR eE
    by_cases h1 : 1024 ≤ L.length
    · have h1' : (1024 : Int) ≤ (L.length : Int) := by omega
      clear hfd
      go_enter Try.func8, Try.ntmps8
      go_wp2_with (first | rw [HW1.out] | rw [HW2.out])
      refine KC.out.mono ?_
      rintro e w3 ⟨s3, rfl, own3, b3⟩
      obtain ⟨a3', c3', rfl⟩ := row_form own3
      clear e0 e1 KC
      obtain ⟨r0, r1⟩ := (H2.out.below b3).c2
      have rf := (H2.out.below b3).f
      go_wp2_with fail
      obtain ⟨f1, f2⟩ := FIN.out _ _ _ own3 b3 _ rfl
      exact bodyPost_ret (v := .tuple #[.agg #[.int .i64 nx, .slice a3' L.length c3'], .int .i64 0, .int .i64 190]) (by simp [results, Try.results8, go_sem, World.cell?_setCell_same, World.cell?_setCell_other, r0, r1]) rfl ⟨_, rfl, f1, f2⟩
    · have h1' : ¬ (1024 : Int) ≤ (L.length : Int) := by omega
      have h2' : 4611686018427387904 ≤ nx := by simpa [h1] using hfd
      clear hfd
      go_enter Try.func8, Try.ntmps8
      go_wp2_with (first | rw [HW1.out] | rw [HW2.out])
      refine KC.out.mono ?_
      rintro e w3 ⟨s3, rfl, own3, b3⟩
      obtain ⟨a3', c3', rfl⟩ := row_form own3
      clear e0 e1 KC
      obtain ⟨r0, r1⟩ := (H2.out.below b3).c2
      have rf := (H2.out.below b3).f
      go_wp2_with fail
      obtain ⟨f1, f2⟩ := FIN.out _ _ _ own3 b3 _ rfl
      exact bodyPost_ret (v := .tuple #[.agg #[.int .i64 nx, .slice a3' L.length c3'], .int .i64 0, .int .i64 190]) (by simp [results, Try.results8, go_sem, World.cell?_setCell_same, World.cell?_setCell_other, r0, r1]) rfl ⟨_, rfl, f1, f2⟩
  | false =>
    have eL : opL nx L tp un = L ++ [⟨nx + 1, un, tp⟩] := by unfold opL; rw [hF]; rfl
    have eN : opN nx L = nx + 1 := by unfold opN; rw [hF]; rfl
    have eR : opR nx L = nx + 1 := by unfold opR; rw [hF]; rfl
    have eE : opE nx L = 0 := by unfold opE; rw [hF]; rfl
    rw [hF] at hfd
    rw [eL, eN, eR, eE]
    have h1 : ¬ 1024 ≤ L.length := fun h => by simp [h] at hfd
    have h2 : ¬ 4611686018427387904 ≤ nx := fun h => by simp [h] at hfd
    have h1' : ¬ (1024 : Int) ≤ (L.length : Int) := by omega
    obtain ⟨y, hy⟩ : ∃ y : Ak, y = ⟨nx + 1, un, tp⟩ := ⟨_, rfl⟩
    obtain ⟨w3, hw3⟩ : ∃ w3, w3 = w2.alloc (.cells #[.int .i64 (nx + 1), .int .i64 un, .string tp] 41) := ⟨_, rfl⟩
    have b3 := below1 w2 (.cells #[.int .i64 (nx + 1), .int .i64 un, .string tp] 41)
    have n3 := Bk.new w2 #[.int .i64 (nx + 1), .int .i64 un, .string tp] 41
    rw [← hw3] at b3 n3
    rw [z2] at n3
    have z3 : w3.heap.size = w.heap.size + 1 + 1 + 1 := by rw [hw3, World.size_alloc, z2]
    obtain ⟨w4, hw4⟩ : ∃ w4, w4 = w3.alloc (.cells #[.slice ad L.length cap, .slice (some ⟨w.heap.size + 1 + 1, 0, none⟩) 1 1] 22) := ⟨_, rfl⟩
    have b4 := below1 w3 (.cells #[.slice ad L.length cap, .slice (some ⟨w.heap.size + 1 + 1, 0, none⟩) 1 1] 22)
    have n4 := Bk.new w3 #[.slice ad L.length cap, .slice (some ⟨w.heap.size + 1 + 1, 0, none⟩) 1 1] 22
    rw [← hw4] at b4 n4
    rw [z3] at n4
    have z4 : w4.heap.size = w.heap.size + 1 + 1 + 1 + 1 := by rw [hw4, World.size_alloc, z3]
    have a2 : Al w4 (.slice (some ⟨w.heap.size + 1 + 1, 0, none⟩) 1 1) [⟨nx + 1, un, tp⟩] := ⟨_, 1, rfl, .inr ⟨w.heap.size + 1 + 1, 0, rfl, fun j x hj q v hv => by
      cases j with
      | zero =>
        simp only [List.getElem?_cons_zero, Option.some.injEq] at hj
        subst hj
        rw [(n3.below b4).c, ← Array.getElem?_toList]
        simpa using hv
      | succ j => simp at hj⟩⟩
    have B4 : Below w2.heap.size w2 w4 := b3.trans (b4.mono (by omega))
    have KC := Lib.hid (concat_any (w.heap.size + 1 + 1 + 1) _ _ L [⟨nx + 1, un, tp⟩] w4 (by omega) (by simp) (by simp) (by omega) n4.c2.1 n4.c2.2 (HA.out.below (B2.trans (B4.mono B2.size))) a2)
    have HW3 := Lib.hid hw3.symm
    have HW4 := Lib.hid hw4.symm
    have HB4 := Lib.hid B4
    obtain ⟨q0, q1⟩ := (H1.out.below b3).c2
    clear hw3 hw4 n3 n4 b3 b4 a2 B4 hy y eL eN eR eE hfd h1
    go_enter Try.func8, Try.ntmps8
    go_wp2_with (first | rw [HW1.out] | rw [HW2.out] | rw [HW3.out] | rw [HW4.out])
    refine KC.out.mono ?_
    rintro e w5 ⟨s5, rfl, own5, b5⟩
    obtain ⟨a5, c5, rfl⟩ := row_form own5
    clear e0 e1 q0 q1 KC
    have b25 : Below w2.heap.size w2 w5 := HB4.out.trans (b5.mono (by omega))
    obtain ⟨r0, r1⟩ := (H2.out.below b25).c2
    have rf := (H2.out.below b25).f
    go_wp2_with fail
    refine bodyPost_ret (v := .tuple #[.agg #[.int .i64 (nx + 1), .slice a5 (L ++ [(⟨nx + 1, un, tp⟩ : Ak)]).length c5], .int .i64 (nx + 1), .int .i64 0]) (by simp [results, Try.results8, go_sem, World.cell?_setCell_same, World.cell?_setCell_other, r0, r1]) rfl ⟨_, rfl, own_rk Ak.len (own_set (own_set own5 (by omega) _ _) (by omega) _ _), ?_⟩
    exact ((B2.trans (b25.mono B2.size)).setCell (p := ⟨w.heap.size + 1, 0, none⟩) (by simp) _).setCell (p := ⟨w.heap.size + 1, 1, none⟩) (by simp) _

end Go.Proofs.Ytgghppojjhnbeaa
