/- The document's Expire, walked; the conditions that each theorem names. -/
import Derived.Test.YtgghppojjhnbeaaXd
namespace Go.Proofs.Ytgghppojjhnbeaa
open Go.RowKit

set_option maxRecDepth 100000 in
set_option maxHeartbeats 4000000 in
theorem rexpire_any (nx : Int) (sv : Value) (L : List Ak) (now : Int) (w : World) (h : Al w sv L) (hl : L.length ≤ 1024) :
    Calls Try.prog 14 #[.agg #[.int .i64 nx, sv], .int .i64 now] w fun e w' => ∃ s2 s3, e = .returned (.tuple #[.agg #[.int .i64 nx, s2], s3]) ∧ w'.ownsRow w.heap.size 41 3 s2 (exL now L).length (flk Ak.cl (exL now L)) ∧ w'.ownsRow w.heap.size 41 3 s3 (exG now L).length (flk Ak.cl (exG now L)) ∧ Below w.heap.size w w' := by
  obtain ⟨i0, hi0, hz0, hz1, hz2⟩ := info_parts infoAk
  have HA := Lib.hid h
  obtain ⟨ad, cap, rfl, -⟩ := h
  obtain ⟨w1, w2, w3, HW1, HW2, HW3, n2, ow3, z1, z2⟩ := ow_start nx #[.int .i64 nx, .slice ad L.length cap] w
  have c0 := n2.c2.1
  obtain ⟨e0, e1⟩ := ow3.st.c2
  have HO := Lib.hid ow3
  clear n2 ow3
  go_enter Try.func14, Try.ntmps14
  go_wp2_with (first | rw [HW1.out] | rw [HW2.out] | rw [HW3.out])
  go_loopg [7, 16] L.length (fun g s7 s16 wx => ∃ (j : Nat) (sv : Value), j + g = L.length ∧ s16 = .int .i64 j ∧ Ow w.heap.size nx #[.int .i64 nx, .slice ad L.length cap] sv s7 (exL now (L.take j)) (exG now (L.take j)) w wx)
  case atStart => exact ⟨0, _, by omega, rfl, HO.out⟩
  case round =>
    clear c0 e0 e1
    obtain ⟨j, sv, hjg, rfl, hO⟩ := hrel
    have HF := Lib.hid hO
    obtain ⟨sa, sc, rfl⟩ := row_form hO.o0
    obtain ⟨ga, gc, rfl⟩ := row_form hO.o1
    cases gk with
    | zero =>
      obtain rfl : j = L.length := by omega
      rw [List.take_length] at HF hO ⊢
      obtain ⟨q0, q1⟩ := hO.o.c2
      obtain ⟨r0, r1⟩ := hO.r.c2
      have rf := hO.r.f
      clear hO
      go_wp2
      obtain ⟨f1, f2, f3⟩ := HF.out.fin rfl rfl
      exact bodyPost_ret (v := .tuple #[.agg #[.int .i64 nx, .slice sa (exL now L).length sc], .slice ga (exG now L).length gc]) (by simp [results, Try.results14, go_sem, World.cell?_setCell_same, World.cell?_setCell_other, r0, r1]) rfl ⟨_, _, rfl, f1, f2, f3⟩
    | succ g =>
      have hj : j < L.length := by omega
      obtain ⟨a, ha⟩ : ∃ a, L[j]? = some a := ⟨_, List.getElem?_eq_getElem hj⟩
      obtain ⟨b, of, cp, e, hc⟩ := (HA.out.below hO.below).at (by omega)
      simp only [Value.slice.injEq, true_and] at e
      obtain ⟨rfl, rfl⟩ := e
      obtain ⟨c0, c1, c2⟩ := a3 (hc j a ha)
      have hl0 := flt_take (fun a => !lat now a) L j a ha
      have hn0 := flt_len (fun a => !lat now a) L j
      have hl1 := flt_take (lat now) L j a ha
      have hn1 := flt_len (lat now) L j
      have hji : (j : Int) < (L.length : Int) := by omega
      have b1 := below1 wr (.cells a.cs 41)
      have n1 := Bk.new wr a.cs 41
      obtain ⟨w5, hw5⟩ : ∃ w5, w5 = wr.alloc (.cells a.cs 41) := ⟨_, rfl⟩
      rw [← hw5] at b1 n1
      have HW5 := Lib.hid hw5.symm
      obtain ⟨k0, k1, k2⟩ := a3 (b := wr.heap.size) (o := 0) (x := a) (fun q v hv => by rw [Nat.zero_add, n1.c q, ← Array.getElem?_toList]; exact hv)
      simp only [Nat.zero_add] at k1 k2
      have O5 := Lib.hid (hO.step b1)
      have N5 := Lib.hid n1
      have HL0 : Hid (exL now (L.take (j + 1)) = exL now (L.take j) ++ (if (!lat now a) = true then [a] else [])) := Lib.hid hl0
      have HL1 : Hid (exG now (L.take (j + 1)) = exG now (L.take j) ++ (if lat now a = true then [a] else [])) := Lib.hid hl1
      have hsz := O5.out.sz
      have HLA := Lib.hid (rlate_any a now w5)
      have hm0 : (exL now (L.take j)).length ≤ j := hn0
      have hm1 : (exG now (L.take j)).length ≤ j := hn1
      clear ha hc hl0 hl1 hn0 hn1 n1 hw5 hO HF b1
      cases hla : lat now a with
      | false =>
        rw [hla] at HLA
        go_wp2_with (first | rw [HW5.out])
        refine HLA.out.mono ?_
        rintro e w6 ⟨rfl, b6⟩
        have O6 := Lib.hid (O5.out.step b6)
        obtain ⟨q0, q1⟩ := O6.out.o.c2
        have qf := O6.out.o.f
        have hown0 := O6.out.o0
        have hsz6 := O6.out.sz
        clear c0 c1 c2 k0 k1 k2
        obtain ⟨k0, k1, k2⟩ := a3 (b := wr.heap.size) (o := 0) (x := a) (fun q v hv => by rw [Nat.zero_add, (N5.out.below b6).c q, ← Array.getElem?_toList]; exact hv)
        simp only [Nat.zero_add] at k1 k2
        clear b6
        go_wp2_with (first | (at_builtin; refine wpList_append_near _ rfl _ _ 22 rfl (w.heap.size + 3) 41 i0 _ 3 32 Try.underlying22 hi0 hz0 hz1 hz2 rfl (by decide) _ _ _ rfl (hown0.alloc _) ⟨w6.heap.size, 0, none⟩ 1 1 a.cl rfl rfl (new_cells _ _ _) a.one (by unfold maxLen; omega) (by omega) (by simp; omega) ?_; intro v1 w7 hown7 hgrow7 hnear7; obtain ⟨va, vc, rfl⟩ := row_form hown7; have t0 := ((O6.out.o.below (below1 _ (.cells a.cs 41))).grown hgrow7 (own_ne hown0 (by omega))).c2.1; have t1 := ((O6.out.o.below (below1 _ (.cells a.cs 41))).grown hgrow7 (own_ne hown0 (by omega))).c2.2; have tf := ((O6.out.o.below (below1 _ (.cells a.cs 41))).grown hgrow7 (own_ne hown0 (by omega))).f; clear q0 q1 qf))
        go_roundg g
        case measure => omega
        case rel =>
          refine ⟨j + 1, .slice va ((exL now (L.take j)).length + 1) vc, by omega, by simp, ?_⟩
          rw [HL0.out, HL1.out, hla]
          simp only [Bool.not_false, Bool.false_eq_true, if_false, if_true, List.append_nil]
          refine O6.out.app0 hgrow7 ?_ hnear7 rfl
          rw [List.length_append, flk_app]
          simpa [flk] using hown7
      | true =>
        rw [hla] at HLA
        go_wp2_with (first | rw [HW5.out])
        refine HLA.out.mono ?_
        rintro e w6 ⟨rfl, b6⟩
        have O6 := Lib.hid (O5.out.step b6)
        have hown1 := O6.out.o1
        have hsz6 := O6.out.sz
        clear c0 c1 c2 k0 k1 k2
        obtain ⟨k0, k1, k2⟩ := a3 (b := wr.heap.size) (o := 0) (x := a) (fun q v hv => by rw [Nat.zero_add, (N5.out.below b6).c q, ← Array.getElem?_toList]; exact hv)
        simp only [Nat.zero_add] at k1 k2
        clear b6
        go_wp2_with (first | (at_builtin; refine wpList_append_near _ rfl _ _ 22 rfl (w.heap.size + 3) 41 i0 _ 3 32 Try.underlying22 hi0 hz0 hz1 hz2 rfl (by decide) _ _ _ rfl (hown1.alloc _) ⟨w6.heap.size, 0, none⟩ 1 1 a.cl rfl rfl (new_cells _ _ _) a.one (by unfold maxLen; omega) (by omega) (by simp; omega) ?_; intro v1 w7 hown7 hgrow7 hnear7; obtain ⟨va, vc, rfl⟩ := row_form hown7))
        go_roundg g
        case measure => omega
        case rel =>
          refine ⟨j + 1, .slice sa (exL now (L.take j)).length sc, by omega, by simp, ?_⟩
          rw [HL0.out, HL1.out, hla]
          simp only [Bool.not_true, Bool.false_eq_true, if_false, if_true, List.append_nil]
          refine O6.out.app1 hgrow7 ?_ hnear7 rfl
          rw [List.length_append, flk_app]
          simpa [flk] using hown7
end Go.Proofs.Ytgghppojjhnbeaa
