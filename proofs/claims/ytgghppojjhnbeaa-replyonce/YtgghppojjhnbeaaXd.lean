/- The document's Answer and Expire, walked; the conditions that each theorem names. -/
import Derived.Test.YtgghppojjhnbeaaXc
import Derived.Laws.IdiomStrings
import Derived.Lib.Strings
namespace Go.Proofs.Ytgghppojjhnbeaa
open Go.RowKit

theorem txt_inj {x y : ByteArray} (h : x.toList = y.toList) : x = y := by
  rw [Lib.toList_data, Lib.toList_data] at h
  cases x
  cases y
  simp at h
  rw [h]
/-- Is it the request that is answered? -/
def mtc (co : Int) (tp : ByteArray) (a : Ak) : Bool := decide (a.co = co) && decide (a.tp = tp)
def an1 (now co : Int) (tp : ByteArray) (e : Int) (a : Ak) : Int := if mtc co tp a = true then (if lat now a = true then 170 else 0) else e
/-- What Answer says, and what it leaves. -/
def anE (now co : Int) (tp : ByteArray) (L : List Ak) : Int := L.foldl (an1 now co tp) 230
def anL (co : Int) (tp : ByteArray) (L : List Ak) : List Ak := L.filter fun a => !mtc co tp a
def exL (now : Int) (L : List Ak) : List Ak := L.filter fun a => !lat now a
def exG (now : Int) (L : List Ak) : List Ak := L.filter (lat now)
theorem flt_take (f : Ak → Bool) (L : List Ak) (j : Nat) (a : Ak) (hj : L[j]? = some a) : (L.take (j + 1)).filter f = (L.take j).filter f ++ (if f a = true then [a] else []) := by
  rw [List.take_add_one, hj, List.filter_append]
  cases h : f a <;> simp [h]
theorem flt_len (f : Ak → Bool) (L : List Ak) (j : Nat) : ((L.take j).filter f).length ≤ j := by
  have h1 := List.length_filter_le f (L.take j)
  rw [List.length_take] at h1
  omega
theorem anE_take (now co : Int) (tp : ByteArray) (L : List Ak) (j : Nat) (a : Ak) (hj : L[j]? = some a) : anE now co tp (L.take (j + 1)) = an1 now co tp (anE now co tp (L.take j)) a := by
  unfold anE
  rw [List.take_add_one, hj, List.foldl_append]
  rfl

set_option maxRecDepth 100000 in
set_option maxHeartbeats 4000000 in
theorem ranswer_any (nx : Int) (sv : Value) (L : List Ak) (co now : Int) (tp : ByteArray) (w : World) (h : Al w sv L) (hl : L.length ≤ 1024) :
    Calls Try.prog 12 #[.agg #[.int .i64 nx, sv], .int .i64 co, .string tp, .int .i64 now] w fun e w' => ∃ s2, e = .returned (.tuple #[.agg #[.int .i64 nx, s2], .int .i64 (anE now co tp L)]) ∧ w'.ownsRow w.heap.size 41 3 s2 (anL co tp L).length (flk Ak.cl (anL co tp L)) ∧ Below w.heap.size w w' := by
  obtain ⟨i0, hi0, hz0, hz1, hz2⟩ := info_parts infoAk
  have HA := Lib.hid h
  obtain ⟨ad, cap, rfl, -⟩ := h
  obtain ⟨w1, w2, w3, HW1, HW2, HW3, n2, ow3, z1, z2⟩ := ow_start nx #[.int .i64 nx, .slice ad L.length cap] w
  have c0 := n2.c2.1
  obtain ⟨e0, e1⟩ := ow3.st.c2
  have HO := Lib.hid ow3
  clear n2 ow3
  go_enter Try.func12, Try.ntmps12
  go_wp2_with (first | rw [HW1.out] | rw [HW2.out] | rw [HW3.out])
  go_loopg [11, 20] L.length (fun g s11 s20 wx => ∃ (j : Nat) (sv : Value), j + g = L.length ∧ s20 = .int .i64 j ∧ s11 = .int .i64 (anE now co tp (L.take j)) ∧ Ow w.heap.size nx #[.int .i64 nx, .slice ad L.length cap] sv (.slice none 0 0) (anL co tp (L.take j)) [] w wx)
  case atStart => exact ⟨0, _, by omega, rfl, rfl, HO.out⟩
  case round =>
    clear c0 e0 e1
    obtain ⟨j, sv, hjg, rfl, rfl, hO⟩ := hrel
    have HF := Lib.hid hO
    obtain ⟨sa, sc, rfl⟩ := row_form hO.o0
    cases gk with
    | zero =>
      obtain rfl : j = L.length := by omega
      rw [List.take_length] at HF hO ⊢
      obtain ⟨q0, q1⟩ := hO.o.c2
      obtain ⟨r0, r1⟩ := hO.r.c2
      have rf := hO.r.f
      clear hO
      go_wp2
      obtain ⟨f1, f2, f3⟩ := HF.out.fin rfl rfl
      exact bodyPost_ret (v := .tuple #[.agg #[.int .i64 nx, .slice sa (anL co tp L).length sc], .int .i64 (anE now co tp L)]) (by simp [results, Try.results12, go_sem, World.cell?_setCell_same, World.cell?_setCell_other, r0, r1]) rfl ⟨_, rfl, f1, f3⟩
    | succ g =>
      have hj : j < L.length := by omega
      obtain ⟨a, ha⟩ : ∃ a, L[j]? = some a := ⟨_, List.getElem?_eq_getElem hj⟩
      obtain ⟨b, of, cp, e, hc⟩ := (HA.out.below hO.below).at (by omega)
      simp only [Value.slice.injEq, true_and] at e
      obtain ⟨rfl, rfl⟩ := e
      obtain ⟨c0, c1, c2⟩ := a3 (hc j a ha)
      have hlt := flt_take (fun a => !mtc co tp a) L j a ha
      have hln := flt_len (fun a => !mtc co tp a) L j
      have het := anE_take now co tp L j a ha
      have hji : (j : Int) < (L.length : Int) := by omega
      have b1 := below1 wr (.cells a.cs 41)
      have n1 := Bk.new wr a.cs 41
      obtain ⟨w5, hw5⟩ : ∃ w5, w5 = wr.alloc (.cells a.cs 41) := ⟨_, rfl⟩
      rw [← hw5] at b1 n1
      have HW5 := Lib.hid hw5.symm
      obtain ⟨k0, k1, k2⟩ := a3 (b := wr.heap.size) (o := 0) (x := a) (fun q v hv => by rw [Nat.zero_add, n1.c q, ← Array.getElem?_toList]; exact hv)
      simp only [Nat.zero_add] at k1 k2
      have O5 := Lib.hid (hO.step b1)
      obtain ⟨q0, q1⟩ := O5.out.o.c2
      have qf := O5.out.o.f
      have HLT : Hid (anL co tp (L.take (j + 1)) = anL co tp (L.take j) ++ (if (!mtc co tp a) = true then [a] else [])) := Lib.hid hlt
      have HET := Lib.hid het
      have hsz := O5.out.sz
      have hm : mtc co tp a = (decide (a.co = co) && decide (a.tp = tp)) := rfl
      have HLA : Hid (∀ wx, Below w5.heap.size w5 wx → Calls Try.prog 20 #[.agg a.cs, .int .i64 now] wx fun e w' => e = .returned (.bool (lat now a)) ∧ Below w5.heap.size w5 w') := Lib.hid fun wx hx => (rlate_any a now wx).mono fun e w' ⟨p, q⟩ => ⟨p, hx.trans (q.mono hx.size)⟩
      have hown := O5.out.o0
      have hnl : (anL co tp (L.take j)).length ≤ j := hln
      clear ha hc hlt hln het n1 hw5 hO HF
      generalize anE now co tp (L.take j) = e0 at HET ⊢
      by_cases h1 : a.co = co
      · by_cases h2 : a.tp = tp
        · have f1 : (a.co != co) = false := by simp [h1]
          have f2 : (a.tp.toList == tp.toList) = true := by rw [h2]; simp
          have HM : Hid (mtc co tp a = true) := Lib.hid (by rw [hm, h1, h2]; simp)
          clear h1 h2 hm
          cases hla : lat now a with
          | false =>
            rw [hla] at HLA
            go_wp2_with (first | rw [HW5.out])
            refine (HLA.out _ (Below.refl _ _)).mono ?_
            rintro e w6 ⟨rfl, b6⟩
            go_wp2_with fail
            go_roundg g
            case measure => omega
            case rel =>
              refine ⟨j + 1, .slice sa (anL co tp (L.take j)).length sc, by omega, by simp, ?_, ?_⟩
              · rw [HET.out]; simp [an1, HM.out, hla]
              · rw [HLT.out, HM.out]; simpa using O5.out.step b6
          | true =>
            rw [hla] at HLA
            go_wp2_with (first | rw [HW5.out])
            refine (HLA.out _ (Below.refl _ _)).mono ?_
            rintro e w6 ⟨rfl, b6⟩
            go_wp2_with fail
            go_roundg g
            case measure => omega
            case rel =>
              refine ⟨j + 1, .slice sa (anL co tp (L.take j)).length sc, by omega, by simp, ?_, ?_⟩
              · rw [HET.out]; simp [an1, HM.out, hla]
              · rw [HLT.out, HM.out]; simpa using O5.out.step b6
        · have f1 : (a.co != co) = false := by simp [h1]
          have f2 : (a.tp.toList == tp.toList) = false := by simpa using fun e => h2 (txt_inj e)
          have HM : Hid (mtc co tp a = false) := Lib.hid (by rw [hm, decide_eq_false h2]; simp)
          clear h1 h2 hm
          go_wp2_with (first | rw [HW5.out] | (at_builtin; refine wpList_append_near _ rfl _ _ 22 rfl (w.heap.size + 3) 41 i0 _ 3 32 Try.underlying22 hi0 hz0 hz1 hz2 rfl (by decide) _ _ _ rfl (hown.alloc _) ⟨w5.heap.size, 0, none⟩ 1 1 a.cl rfl rfl (new_cells _ _ _) a.one (by unfold maxLen; omega) (by omega) (by simp; omega) ?_; intro v1 w7 hown7 hgrow7 hnear7; obtain ⟨va, vc, rfl⟩ := row_form hown7; have t0 := ((O5.out.o.below (below1 _ (.cells a.cs 41))).grown hgrow7 (own_ne hown (by omega))).c2.1; have t1 := ((O5.out.o.below (below1 _ (.cells a.cs 41))).grown hgrow7 (own_ne hown (by omega))).c2.2; have tf := ((O5.out.o.below (below1 _ (.cells a.cs 41))).grown hgrow7 (own_ne hown (by omega))).f; clear q0 q1 qf))
          go_roundg g
          case measure => omega
          case rel =>
            refine ⟨j + 1, .slice va ((anL co tp (L.take j)).length + 1) vc, by omega, by simp, ?_, ?_⟩
            · rw [HET.out]; simp [an1, HM.out]
            · rw [HLT.out, HM.out]
              refine O5.out.app0 hgrow7 ?_ hnear7 rfl
              rw [List.length_append, flk_app]
              simpa [flk] using hown7
      · have f1 : (a.co != co) = true := by simp [h1]
        have HM : Hid (mtc co tp a = false) := Lib.hid (by rw [hm, decide_eq_false h1]; rfl)
        clear h1 hm
        go_wp2_with (first | rw [HW5.out] | (at_builtin; refine wpList_append_near _ rfl _ _ 22 rfl (w.heap.size + 3) 41 i0 _ 3 32 Try.underlying22 hi0 hz0 hz1 hz2 rfl (by decide) _ _ _ rfl (hown.alloc _) ⟨w5.heap.size, 0, none⟩ 1 1 a.cl rfl rfl (new_cells _ _ _) a.one (by unfold maxLen; omega) (by omega) (by simp; omega) ?_; intro v1 w7 hown7 hgrow7 hnear7; obtain ⟨va, vc, rfl⟩ := row_form hown7; have t0 := ((O5.out.o.below (below1 _ (.cells a.cs 41))).grown hgrow7 (own_ne hown (by omega))).c2.1; have t1 := ((O5.out.o.below (below1 _ (.cells a.cs 41))).grown hgrow7 (own_ne hown (by omega))).c2.2; have tf := ((O5.out.o.below (below1 _ (.cells a.cs 41))).grown hgrow7 (own_ne hown (by omega))).f; clear q0 q1 qf))
        go_roundg g
        case measure => omega
        case rel =>
          refine ⟨j + 1, .slice va ((anL co tp (L.take j)).length + 1) vc, by omega, by simp, ?_, ?_⟩
          · rw [HET.out]; simp [an1, HM.out]
          · rw [HLT.out, HM.out]
            refine O5.out.app0 hgrow7 ?_ hnear7 rfl
            rw [List.length_append, flk_app]
            simpa [flk] using hown7
end Go.Proofs.Ytgghppojjhnbeaa
