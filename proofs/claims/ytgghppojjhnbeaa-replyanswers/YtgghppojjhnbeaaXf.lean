/- The document's Open, walked; the conditions that each theorem names. -/
import Derived.Test.YtgghppojjhnbeaaXe
namespace Go.Proofs.Ytgghppojjhnbeaa
open Go.RowKit

/-- There is no room for a request. -/
def opF (nx : Int) (L : List Ak) : Bool := decide (1024 ≤ L.length) || decide (4611686018427387904 ≤ nx)
def opL (nx : Int) (L : List Ak) (tp : ByteArray) (un : Int) : List Ak := if opF nx L = true then L else L ++ [⟨nx + 1, un, tp⟩]
def opN (nx : Int) (L : List Ak) : Int := if opF nx L = true then nx else nx + 1
def opR (nx : Int) (L : List Ak) : Int := if opF nx L = true then 0 else nx + 1
def opE (nx : Int) (L : List Ak) : Int := if opF nx L = true then 190 else 0

theorem own_far {w : World} {base : Nat} {e : TypeId} {s n : Nat} {v : Value} {xs : List Value} (h : w.ownsRow base e s v n xs) {N : Nat} (hN : v.ownBlock ≠ some N) (o : Nat) (x : Value) : (w.setCell ⟨N, o, none⟩ x).ownsRow base e s v n xs :=
  World.ownsRow.kept (row := some N) h ⟨rfl, rfl, rfl, by simp, fun k _ hk => Below.heap_setCell _ _ _ _ (fun e => hk (by simp [e]))⟩ (.inr hN)

set_option maxRecDepth 100000 in
set_option maxHeartbeats 4000000 in
theorem ropen_any (nx : Int) (sv : Value) (L : List Ak) (tp : ByteArray) (un : Int) (w : World) (h : Al w sv L) (hl : L.length ≤ 1024) (hx : 0 ≤ nx ∧ nx ≤ 4611686018427387904) :
    Calls Try.prog 9 #[.agg #[.int .i64 nx, sv], .string tp, .int .i64 un] w fun e w' => ∃ s2, e = .returned (.tuple #[.agg #[.int .i64 (opN nx L), s2], .int .i64 (opR nx L), .int .i64 (opE nx L)]) ∧ w'.ownsRow w.heap.size 41 3 s2 (opL nx L tp un).length (flk Ak.cl (opL nx L tp un)) ∧ Below w.heap.size w w' := by
  obtain ⟨i0, hi0, hz0, hz1, hz2⟩ := info_parts infoAk
  have HA := Lib.hid h
  obtain ⟨ad, cap, rfl, -⟩ := h
  obtain ⟨w1, hw1⟩ : ∃ w1, w1 = w.alloc (.cells #[.int .i64 nx, .slice ad L.length cap] 24) := ⟨_, rfl⟩
  have b1 := below1 w (.cells #[.int .i64 nx, .slice ad L.length cap] 24)
  have n1 := Bk.new w #[.int .i64 nx, .slice ad L.length cap] 24
  rw [← hw1] at b1 n1
  have z1 : w1.heap.size = w.heap.size + 1 := by rw [hw1]; simp
  obtain ⟨w2, hw2⟩ : ∃ w2, w2 = w1.alloc (.cells #[.int .i64 0, .slice none 0 0] 24) := ⟨_, rfl⟩
  have b2 := below1 w1 (.cells #[.int .i64 0, .slice none 0 0] 24)
  have n2 := Bk.new w1 #[.int .i64 0, .slice none 0 0] 24
  rw [← hw2] at b2 n2
  rw [z1] at n2
  have z2 : w2.heap.size = w.heap.size + 1 + 1 := by rw [hw2, World.size_alloc, z1]
  have HW1 := Lib.hid hw1.symm
  have HW2 := Lib.hid hw2.symm
  have B2 : Below w.heap.size w w2 := b1.trans (b2.mono (by omega))
  have N1 := n1.below b2
  obtain ⟨e0, e1⟩ := N1.c2
  have KC := Lib.hid (rcopy_any nx (.slice ad L.length cap) L w2 (HA.out.below B2) hl)
  have H1 := Lib.hid N1
  have H2 := Lib.hid n2
  have hfd : opF nx L = (decide (1024 ≤ L.length) || decide (4611686018427387904 ≤ nx)) := rfl
  clear hw1 hw2 n1 n2 N1 b1 b2
  go_enter Try.func9, Try.ntmps9
  go_wp2_with (first | rw [HW1.out] | rw [HW2.out])
  refine KC.out.mono ?_
  rintro e w3 ⟨s3, rfl, own3, b3⟩
  obtain ⟨a3', c3', rfl⟩ := row_form own3
  clear e0 e1 KC
  have hs3 := b3.size
  have b4 := below1 w3 (.cells #[.int .i64 nx, .slice a3' L.length c3'] 24)
  have n4 := Bk.new w3 #[.int .i64 nx, .slice a3' L.length c3'] 24
  obtain ⟨w4, hw4⟩ : ∃ w4, w4 = w3.alloc (.cells #[.int .i64 nx, .slice a3' L.length c3'] 24) := ⟨_, rfl⟩
  rw [← hw4] at b4 n4
  have z4 : w4.heap.size = w3.heap.size + 1 := by rw [hw4]; simp
  have HW4 := Lib.hid hw4.symm
  have B4 : Below w2.heap.size w2 w4 := b3.trans (b4.mono (by omega))
  have own4 := own_below own3 b4
  have hne3 : (Value.slice a3' L.length c3').ownBlock ≠ some w3.heap.size := fun e => by have := (own3.lt _ e).2; omega
  obtain ⟨e0, e1⟩ := (H1.out.below B4).c2
  obtain ⟨r0, r1⟩ := (H2.out.below B4).c2
  have rf := (H2.out.below B4).f
  obtain ⟨q0, q1⟩ := n4.c2
  have qf := n4.f
  have HN4 := Lib.hid n4
  have BW : Below w.heap.size w w4 := B2.trans (B4.mono B2.size)
  clear hw4 n4 own3 b4
  cases hF : opF nx L with
  | true =>
    have eL : opL nx L tp un = L := by unfold opL; rw [hF, if_pos rfl]
    have eN : opN nx L = nx := by unfold opN; rw [hF, if_pos rfl]
    have eR : opR nx L = 0 := by unfold opR; rw [hF, if_pos rfl]
    have eE : opE nx L = 190 := by unfold opE; rw [hF, if_pos rfl]
    rw [hF] at hfd
    have EL := Lib.hid eL
    have EN := Lib.hid eN
    have ER := Lib.hid eR
    have EE := Lib.hid eE
    have FIN : Hid (∀ wy, wy = (w4.setCell ⟨w.heap.size + 1, 0, none⟩ (.int .i64 nx)).setCell ⟨w.heap.size + 1, 1, none⟩ (.slice a3' L.length c3') → wy.ownsRow w.heap.size 41 3 (.slice a3' L.length c3') L.length (flk Ak.cl L) ∧ Below w.heap.size w wy) := Lib.hid fun wy hy => by
      subst hy
      exact ⟨World.ownsRow.mono (own_set (own_set own4 (by omega) _ _) (by omega) _ _) (by omega), (BW.setCell (p := ⟨w.heap.size + 1, 0, none⟩) (by simp) _).setCell (p := ⟨w.heap.size + 1, 1, none⟩) (by simp) _⟩
    clear eL eN eR eE z4 own4
    by_cases h1 : 1024 ≤ L.length
    · have h1' : (1024 : Int) ≤ (L.length : Int) := by omega
      clear hfd
      go_wp2_with (first | rw [HW4.out])
      obtain ⟨f1, f2⟩ := FIN.out _ rfl
      exact bodyPost_ret (v := .tuple #[.agg #[.int .i64 nx, .slice a3' L.length c3'], .int .i64 0, .int .i64 190]) (by simp [results, Try.results9, go_sem, World.cell?_setCell_same, World.cell?_setCell_other, r0, r1]) rfl ⟨_, by rw [EN.out, ER.out, EE.out], by rw [EL.out]; exact f1, f2⟩
    · have h1' : ¬ (1024 : Int) ≤ (L.length : Int) := by omega
      have h2' : 4611686018427387904 ≤ nx := by simpa [h1] using hfd
      clear hfd
      go_wp2_with (first | rw [HW4.out])
      obtain ⟨f1, f2⟩ := FIN.out _ rfl
      exact bodyPost_ret (v := .tuple #[.agg #[.int .i64 nx, .slice a3' L.length c3'], .int .i64 0, .int .i64 190]) (by simp [results, Try.results9, go_sem, World.cell?_setCell_same, World.cell?_setCell_other, r0, r1]) rfl ⟨_, by rw [EN.out, ER.out, EE.out], by rw [EL.out]; exact f1, f2⟩
  | false =>
    have eL : opL nx L tp un = L ++ [⟨nx + 1, un, tp⟩] := by unfold opL; rw [hF]; rfl
    have eN : opN nx L = nx + 1 := by unfold opN; rw [hF]; rfl
    have eR : opR nx L = nx + 1 := by unfold opR; rw [hF]; rfl
    have eE : opE nx L = 0 := by unfold opE; rw [hF]; rfl
    rw [hF] at hfd
    have EL := Lib.hid eL
    have EN := Lib.hid eN
    have ER := Lib.hid eR
    have EE := Lib.hid eE
    have h1 : ¬ 1024 ≤ L.length := fun h => by simp [h] at hfd
    have h2 : ¬ 4611686018427387904 ≤ nx := fun h => by simp [h] at hfd
    have h1' : ¬ (1024 : Int) ≤ (L.length : Int) := by omega
    have hne1 : (Value.slice a3' L.length c3').ownBlock ≠ some (w.heap.size + 1) := own_ne own4 (by omega)
    obtain ⟨w5, hw5⟩ : ∃ w5, w5 = w4.setCell ⟨w3.heap.size, 0, none⟩ (.int .i64 (nx + 1)) := ⟨_, rfl⟩
    have HW5 := Lib.hid hw5.symm
    have n5 : Bk w5 w3.heap.size #[.int .i64 (nx + 1), .slice a3' L.length c3'] 24 := by rw [hw5]; exact HN4.out.set 0 _
    have r5 : Bk w5 (w.heap.size + 1) #[.int .i64 0, .slice none 0 0] 24 := by rw [hw5]; exact (H2.out.below B4).other _ _ (by simp; omega)
    have own5 : w5.ownsRow w2.heap.size 41 3 (.slice a3' L.length c3') L.length (flk Ak.cl L) := by rw [hw5]; exact own_far own4 hne3 _ _
    have B5 : Below w.heap.size w w5 := by rw [hw5]; exact BW.setCell (p := ⟨w3.heap.size, 0, none⟩) (by simp; omega) _
    have N5 := Lib.hid n5
    have R5 := Lib.hid r5
    obtain ⟨p0, p1⟩ := n5.c2
    have pf := n5.f
    have hs5 : w2.heap.size ≤ w5.heap.size := by have : w5.heap.size = w4.heap.size := by rw [hw5]; simp
                                                 omega
    clear hfd eL eN eR eE z4 hw5 n5 r5 own4
    go_wp2_with (first | rw [HW4.out] | rw [HW5.out] | (at_builtin; refine wpList_append_near _ rfl _ _ 22 rfl w2.heap.size 41 i0 _ 3 32 Try.underlying22 hi0 hz0 hz1 hz2 rfl (by decide) _ _ _ rfl (own5.alloc _) ⟨w5.heap.size, 0, none⟩ 1 1 (Ak.cl ⟨nx + 1, un, tp⟩) rfl rfl (new_cells _ _ _) (Ak.one ⟨nx + 1, un, tp⟩) (by unfold maxLen; omega) (by omega) (by simp; omega) ?_; intro v1 w7 hown7 hgrow7 hnear7; obtain ⟨va, vc, rfl⟩ := row_form hown7; have t0 := ((N5.out.below (below1 _ (.cells (Ak.cs ⟨nx + 1, un, tp⟩) 41))).grown hgrow7 hne3).c2.1; have t1 := ((N5.out.below (below1 _ (.cells (Ak.cs ⟨nx + 1, un, tp⟩) 41))).grown hgrow7 hne3).c2.2; have tf := ((N5.out.below (below1 _ (.cells (Ak.cs ⟨nx + 1, un, tp⟩) 41))).grown hgrow7 hne3).f; have u0 := ((R5.out.below (below1 _ (.cells (Ak.cs ⟨nx + 1, un, tp⟩) 41))).grown hgrow7 hne1).c2.1; have u1 := ((R5.out.below (below1 _ (.cells (Ak.cs ⟨nx + 1, un, tp⟩) 41))).grown hgrow7 hne1).c2.2; have uf := ((R5.out.below (below1 _ (.cells (Ak.cs ⟨nx + 1, un, tp⟩) 41))).grown hgrow7 hne1).f; clear p0 p1 pf))
    obtain ⟨w8, hw8⟩ : ∃ w8, w8 = w7.setCell ⟨w3.heap.size, 1, none⟩ (.slice va (L.length + 1) vc) := ⟨_, rfl⟩
    rw [← hw8]
    have ba := below1 w5 (.cells (Ak.cs ⟨nx + 1, un, tp⟩) 41)
    have n7 := (N5.out.below ba).grown hgrow7 hne3
    have r7 := (R5.out.below ba).grown hgrow7 hne1
    have n8 : Bk w8 w3.heap.size #[.int .i64 (nx + 1), .slice va (L.length + 1) vc] 24 := by rw [hw8]; exact n7.set 1 _
    have r8 : Bk w8 (w.heap.size + 1) #[.int .i64 0, .slice none 0 0] 24 := by rw [hw8]; exact r7.other _ _ (by simp; omega)
    have hs7 := hgrow7.size
    have hsa : (w5.alloc (.cells (Ak.cs ⟨nx + 1, un, tp⟩) 41)).heap.size = w5.heap.size + 1 := by simp
    have hne8 : (Value.slice va (L.length + 1) vc).ownBlock ≠ some w3.heap.size := fun e => by
      rcases hnear7 with e3 | ⟨g, e3, e4⟩
      · exact hne3 (e3.symm.trans e)
      · have hl3 := n7.lt
        rw [e] at e3
        injection e3 with e3
        have h5 := N5.out.lt
        have e5 : w5.heap.size + 1 ≤ g := by simpa using e4
        omega
    have own8 : w8.ownsRow w2.heap.size 41 3 (.slice va (L.length + 1) vc) (L.length + 1) (flk Ak.cl (L ++ [⟨nx + 1, un, tp⟩])) := by
      rw [hw8, flk_app]
      refine own_far ?_ hne8 _ _
      simpa [flk] using hown7
    have B8 : Below w.heap.size w w8 := by
      rw [hw8]
      refine (below_grown (B5.trans (ba.mono B5.size)) hgrow7 (World.ownsRow.mono (own5.alloc _) (by omega)) (Nat.le_refl _)).setCell (p := ⟨w3.heap.size, 1, none⟩) (by simp; omega) _
    have hs8 : w2.heap.size ≤ w8.heap.size := by have := n8.lt; have : w8.heap.size = w7.heap.size := by rw [hw8]; simp
                                                 omega
    obtain ⟨x0, x1⟩ := n8.c2
    obtain ⟨y0, y1⟩ := r8.c2
    have yf := r8.f
    have R8 := Lib.hid r8
    have O8 := Lib.hid own8
    have BB8 := Lib.hid B8
    clear hw8 n7 r7 n8 r8 own8 B8 hown7 hgrow7 hnear7 t0 t1 tf u0 u1 uf ba own5 hne8 hsa hs7
    go_region
    all_goals
      go_wp2
      refine bodyPost_ret (v := .tuple #[.agg #[.int .i64 (nx + 1), .slice va (L.length + 1) vc], .int .i64 (nx + 1), .int .i64 0]) (by simp [results, Try.results9, go_sem, World.cell?_setCell_same, World.cell?_setCell_other, y0, y1]) rfl ⟨_, by rw [EN.out, ER.out, EE.out], ?_, ?_⟩
      · rw [EL.out, List.length_append]
        exact World.ownsRow.mono (own_set (own_set O8.out (by omega) _ _) (by omega) _ _) (by omega)
      · exact ((BB8.out.setCell (p := ⟨w.heap.size + 1, 0, none⟩) (by simp) _).setCell (p := ⟨w.heap.size + 1, 1, none⟩) (by simp) _).drew
end Go.Proofs.Ytgghppojjhnbeaa
