/- For any two numbers of tries and any two rows of results the law RetryMore answers true; the conditions: the rows in memory, their bodies trees in memory, of lengths that can be put together. -/
import Derived.Test.YtihmkjlmhjhocaaYh
namespace Go.Proofs.Ytihmkjlmhjhocaa
open Go.RowKit

set_option maxRecDepth 100000 in
set_option maxHeartbeats 2000000 in
theorem more_bad (tries more : Int) (ad ad' : Option Addr) (zs ys : List Re) (cap cap' : Nat) (vb vb' : Re → Bool) (w : World) (hreach : zs.length ≤ 1048576) (hreach' : ys.length ≤ 1048576) (hI : Rrow w ad zs) (hI' : Rrow w ad' ys) (hV : VbOf w zs vb) (hV' : VbOf w ys vb') (hv : zs.all vb = false ∨ ys.all vb' = false) :
    Calls Try.prog 5 #[.int .i64 tries, .int .i64 more, .slice ad zs.length cap, .slice ad' ys.length cap'] w fun e w' => e = .returned (.bool true) ∧ Below w.heap.size w w' := by
  have HV := Lib.hid (valid_any ad zs cap vb w (by omega) hI hV)
  have HV' := Lib.hid (valid_any ad' ys cap' vb' w (by omega) hI' hV')
  clear hV hV' hI hI'
  have BB := Below.refl w.heap.size w
  go_enter Try.func5, Try.ntmps5
  generalize zs.all vb = p at hv HV
  generalize ys.all vb' = q at hv HV'
  cases p with
  | false =>
    clear hv
    go_wp2_with (first | (go_at_call 11; refine (HV.out _ BB).mono ?_; rintro e w1 ⟨rfl, b1⟩; replace BB := BB.trans (b1.mono BB.size); clear b1) | (go_at_call 8; refine (awake_any _).mono ?_; rintro e w3 ⟨rfl, b3⟩; replace BB := BB.trans (b3.mono BB.size); clear b3))
    go_ret
    exact ⟨rfl, BB⟩
  | true =>
    have hq : q = false := by rcases hv with h | h; cases h; exact h
    subst hq
    clear hv
    go_wp2_with fail
    refine (HV.out _ BB).mono ?_
    rintro e w1 ⟨rfl, b1⟩
    replace BB := BB.trans (b1.mono BB.size)
    clear b1
    go_wp2_with fail
    refine (HV'.out _ BB).mono ?_
    rintro e w2 ⟨rfl, b2⟩
    replace BB := BB.trans (b2.mono BB.size)
    clear b2
    go_wp2_with (go_at_call 8; refine (awake_any _).mono ?_; rintro e w3 ⟨rfl, b3⟩; replace BB := BB.trans (b3.mono BB.size); clear b3)
    go_ret
    exact ⟨rfl, BB⟩

theorem owns_cap {w : World} {base size g n cap : Nat} {e : TypeId} {xs : List Value} (h : w.ownsRow base e size (.slice (some ⟨g, 0, none⟩) n cap) n xs) : n ≤ cap ∧ base ≤ g := by
  rcases h.2 with ⟨e, -⟩ | ⟨g', cap', cur, e1, e2, -, e4, -⟩
  · cases e
  · simp only [Value.slice.injEq, Option.some.injEq, Addr.mk.injEq, and_true, true_and] at e1
    obtain ⟨rfl, rfl⟩ := e1
    exact ⟨e4, e2⟩

set_option maxRecDepth 100000 in
set_option maxHeartbeats 8000000 in
theorem more_good (tries more : Int) (ad ad' : Option Addr) (zs ys : List Re) (cap cap' : Nat) (vb vb' : Re → Bool) (w : World) (hreach : zs.length ≤ 1048576) (hreach' : ys.length ≤ 1048576) (hcap : zs.length ≤ cap) (hI : Rrow w ad zs) (hI' : Rrow w ad' ys) (hV : VbOf w zs vb) (hV' : VbOf w ys vb') (hv : zs.all vb = true) (hv' : ys.all vb' = true) (hB : ∀ x ∈ zs ++ ys, ∃ (n : Nat) (t : Dt.Tr n), Bt w x n t ∧ (Dt.pts n t).1 ≤ 4096) :
    Calls Try.prog 5 #[.int .i64 tries, .int .i64 more, .slice ad zs.length cap, .slice ad' ys.length cap'] w fun e w' => e = .returned (.bool true) ∧ Below w.heap.size w w' := by
  obtain ⟨f, hf⟩ := trees_of hB
  have HV := Lib.hid (valid_any ad zs cap vb w (by omega) hI hV)
  have HV' := Lib.hid (valid_any ad' ys cap' vb' w (by omega) hI' hV')
  rw [hv] at HV
  rw [hv'] at HV'
  have HR : Hid (∀ wx, Below w.heap.size w wx → Calls Try.prog 12 #[.int .i64 tries, .slice ad zs.length cap] wx fun e w' => ∃ m x k i u s a n c, Md (most tries zs.length) zs m x ∧ e = .returned (.tuple #[.agg #[.int .i64 x.er, .int .i64 x.co, .int .i64 x.pk, .int .i64 x.pn, .bool x.has, .int .i64 k, .int .i64 i, .int .u64 u, .string s, .slice a n c], .int .i64 m]) ∧ (x ∈ zs → Dt.Rep w' (f x).1 [.int .i64 k, .int .i64 i, .int .u64 u, .string s, .slice a n c] (f x).2) ∧ Below wx.heap.size wx w') := Lib.hid fun wx hx => run_trees tries ad zs cap w wx f (by omega) hcap (by
    rcases hI with h | ⟨b, o, e, h1, h2⟩
    · exact .inl h
    · exact .inr ⟨b, o, e, Nat.lt_of_lt_of_le h1 hx.size, fun j x hj => (h2 j x hj).below hx h1⟩) hx (fun x hx => hf x (List.mem_append.2 (.inl hx)))
  have HR2 := Lib.hid (fun (tr : Int) (g cap : Nat) (wx : World) (hl : (zs ++ ys).length ≤ cap) (hr : Rrow wx (some ⟨g, 0, none⟩) (zs ++ ys)) (hx : Below w.heap.size w wx) => run_trees tr (some ⟨g, 0, none⟩) (zs ++ ys) cap w wx f (by rw [List.length_append]; omega) hl hr hx hf)
  have HI := Lib.hid hI
  have HI' := Lib.hid hI'
  clear hV hV' hI hI' hB hf hv hv'
  obtain ⟨i0, hi, hz0, hz1, hz2⟩ := infoRes_p
  have BB := Below.refl w.heap.size w
  go_enter Try.func5, Try.ntmps5
  go_wp2_with fail
  refine (HV.out _ BB).mono ?_
  rintro e w1 ⟨rfl, b1⟩
  replace BB := BB.trans (b1.mono BB.size)
  clear b1
  go_wp2_with fail
  refine (HV'.out _ BB).mono ?_
  rintro e w2 ⟨rfl, b2⟩
  replace BB := BB.trans (b2.mono BB.size)
  clear b2
  go_wp2_with fail
  refine (HR.out _ BB).mono ?_
  rintro e w3 ⟨m, x, k, i, u, s, a, n, c, hMd, rfl, hRp, b3⟩
  replace BB := BB.trans (b3.mono BB.size)
  clear b3 w1 HR
  have R4 := Bk.new w3 #[.int .i64 x.er, .int .i64 x.co, .int .i64 x.pk, .int .i64 x.pn, .bool x.has, .int .i64 k, .int .i64 i, .int .u64 u, .string s, .slice a n c] 30
  replace BB := BB.trans ((below1 w3 (.cells #[.int .i64 x.er, .int .i64 x.co, .int .i64 x.pk, .int .i64 x.pn, .bool x.has, .int .i64 k, .int .i64 i, .int .u64 u, .string s, .slice a n c] 30)).mono BB.size)
  by_cases hm0 : m = 0
  · subst hm0
    clear HI HI' HR2 HV HV' hRp hMd
    obtain ⟨W4, hW4⟩ : ∃ W4, W4 = w3.alloc (.cells #[.int .i64 x.er, .int .i64 x.co, .int .i64 x.pk, .int .i64 x.pn, .bool x.has, .int .i64 k, .int .i64 i, .int .u64 u, .string s, .slice a n c] 30) := ⟨_, rfl⟩
    go_wp2_with (go_at_call 8; refine (awake_any _).mono ?_; rintro e w9 ⟨rfl, b9⟩; replace BB := BB.trans (b9.mono BB.size); clear b9)
    go_ret
    exact ⟨rfl, BB⟩
  have hmi : ((m : Int) == 0) = false := by simp; omega
  have hm1 : 0 < m := by omega
  have hlast := hMd.last hm1
  have hxz : x ∈ zs := List.mem_of_getElem? hlast
  have HRp := Lib.hid (hRp hxz)
  have HM := Lib.hid hMd
  have hz0' : 0 < zs.length := by have := (List.getElem?_eq_some_iff.1 hlast).1; omega
  have HXZ := Lib.hid hxz
  clear hRp hMd hlast hm0 hxz
  cases hag : x.ag with
  | true =>
    have HAg : Hid (agB x.er x.co x.pk = true) := Lib.hid hag
    clear hag HI HI' HR2 HV HV' HRp HM hz0'
    go_wp2_with (first | (go_at_call 9; refine (again_any x.er x.co x.pk x.pn x.has _ _ _ _ _ _).mono ?_; rintro e w5 ⟨rfl, b5⟩; rw [HAg.out]; replace R4 := R4.step b5; replace BB := BB.trans (b5.mono BB.size); clear b5) | (go_at_call 8; refine (awake_any _).mono ?_; rintro e w9 ⟨rfl, b9⟩; replace BB := BB.trans (b9.mono BB.size); clear b9))
    go_ret
    exact ⟨rfl, BB⟩
  | false =>
    have HAg : Hid (agB x.er x.co x.pk = false) := Lib.hid hag
    have HAx := Lib.hid hag
    rcases HI.out with h | ⟨b, o, rfl, h1, h2⟩
    · rw [h] at hz0'; simp at hz0'
    have H2 := Lib.hid h2
    clear hag h2 HI
    have RP4 := Dt.Rep.below (below1 w3 (.cells #[.int .i64 x.er, .int .i64 x.co, .int .i64 x.pk, .int .i64 x.pn, .bool x.has, .int .i64 k, .int .i64 i, .int .u64 u, .string s, .slice a n c] 30)) _ _ _ HRp.out
    have RP := Lib.hid RP4
    clear RP4 HRp
    obtain ⟨y0, y1, y2, y3, y4, y5, y6, y7, y8, y9⟩ := R4.c10
    have HM2 := Lib.hid (md_more (t' := more) (ys := ys) HM.out HAx.out hm1)
    have hTR : max tries more = if tries < more then more else tries := by split <;> omega
    have HRT : Hid (∀ (g cap : Nat) (wx : World), Below w.heap.size w wx → (zs ++ ys).length ≤ cap → Rrow wx (some ⟨g, 0, none⟩) (zs ++ ys) → Calls Try.prog 12 #[.int .i64 (if tries < more then more else tries), .slice (some ⟨g, 0, none⟩) (zs.length + ys.length) cap] wx fun e w' => ∃ m' x' k' i' u' s' a' n' c', Md (most (max tries more) (zs ++ ys).length) (zs ++ ys) m' x' ∧ e = .returned (.tuple #[.agg #[.int .i64 x'.er, .int .i64 x'.co, .int .i64 x'.pk, .int .i64 x'.pn, .bool x'.has, .int .i64 k', .int .i64 i', .int .u64 u', .string s', .slice a' n' c'], .int .i64 m']) ∧ (x' ∈ zs ++ ys → Dt.Rep w' (f x').1 [.int .i64 k', .int .i64 i', .int .u64 u', .string s', .slice a' n' c'] (f x').2) ∧ Below wx.heap.size wx w') := Lib.hid fun g cap wx h1 h2 h3 => by
      have := HR2.out (max tries more) g cap wx h2 h3 h1
      rw [List.length_append] at this
      rw [hTR] at this ⊢
      rw [List.length_append]
      exact this
    clear HR2 HM HAx hTR HV HV'
    by_cases htm : tries < more
    · simp only [if_pos htm] at HRT
      by_cases hy0 : ys.length = 0
      · have hyn : ys = [] := List.length_eq_zero_iff.1 hy0
        simp only [hy0, Nat.add_zero] at HRT ⊢
        rw [show ys.length = 0 from hy0] at *
        go_wp2_with (first | (go_at_call 9; refine (again_any x.er x.co x.pk x.pn x.has _ _ _ _ _ _).mono ?_; rintro e w5 ⟨rfl, b5⟩; rw [HAg.out]; clear y0 y1 y2 y3 y4 y5 y6 y7 y8 y9; replace RP := Lib.hid (Dt.Rep.below b5 _ _ _ RP.out); replace R4 := R4.step b5; replace BB := BB.trans (b5.mono BB.size); clear b5; have C5 := Lib.hid (fun j x hj => (H2.out j x hj).below BB h1)) | (at_builtin; refine wpList_append_lies _ rfl _ _ 34 rfl w5.heap.size 30 i0 (.agg Re.zero.cs) 10 104 Try.underlying34 hi hz0 hz1 hz2 rfl (by decide) (.slice none 0 0) 0 [] rfl (World.ownsRow_nil _ _ _ _) ⟨b, o, none⟩ zs.length cap (fl zs) rfl (fl_len zs) (fl_cells C5.out) (fl_one zs) hz0' (by unfold maxLen; omega) (by omega) (Nat.le_refl _) _ rfl ?_; intro g6 c6 w6 own6 gr6 at6 lt6; have D6 : Below w5.heap.size w5 w6 := (Below.refl _ w5).grown gr6 (Nat.le_refl _) (fun k e => by cases e); simp only [Nat.zero_add, List.nil_append] at own6; have hcg := owns_cap own6; have OW6 := Lib.hid own6; clear own6 gr6 at6) | (at_builtin; refine wpList_append_none rfl _ _ 34 rfl 30 i0 Try.underlying34 hi g6 zs.length c6 rfl hcg.1 ad' cap' rfl ?_) | (go_at_call 12; refine (HRT.out g6 c6 w6 (BB.trans (D6.mono BB.size)) (by rw [hyn, List.append_nil]; exact hcg.1) (row_of_fl (by rw [hyn, List.append_nil]; exact OW6.out) lt6)).mono ?_; rintro e w8 ⟨m', x', k', i', u', s', a', n', c', hMd', rfl, hRp', b8⟩; obtain ⟨em, ex⟩ := md_one HM2.out hMd'; subst em ex; have RPq := Dt.Rep.below (below1 w8 (.cells #[.int .i64 x.er, .int .i64 x.co, .int .i64 x.pk, .int .i64 x.pn, .bool x.has, .int .i64 k', .int .i64 i', .int .u64 u', .string s', .slice a' n' c'] 30)) _ _ _ (hRp' (List.mem_append.2 (.inl HXZ.out))); have D8 : Below w5.heap.size w5 w8 := D6.trans (b8.mono D6.size); have D9 := D8.trans ((below1 w8 (.cells #[.int .i64 x.er, .int .i64 x.co, .int .i64 x.pk, .int .i64 x.pn, .bool x.has, .int .i64 k', .int .i64 i', .int .u64 u', .string s', .slice a' n' c'] 30)).mono D8.size); have RP9 := Lib.hid (And.intro (Dt.Rep.below D9 _ _ _ RP.out) RPq); have R9 := R4.step D9; have Q9 := Bk.new w8 #[.int .i64 x.er, .int .i64 x.co, .int .i64 x.pk, .int .i64 x.pn, .bool x.has, .int .i64 k', .int .i64 i', .int .u64 u', .string s', .slice a' n' c'] 30; obtain ⟨y0, y1, y2, y3, y4, y5, y6, y7, y8, y9⟩ := R9.c10; have BB9 := BB.trans (D9.mono BB.size); clear D8 D9 RPq hRp' hMd' b8 R9) | (go_at_call 14; refine (same_res x (f x).1 (f x).2 k i u s a n c k' i' u' s' a' n' c' _ RP9.out.1 RP9.out.2).mono ?_; rintro e w10 ⟨rfl, b10⟩; replace BB9 := BB9.trans (b10.mono BB9.size); clear b10 y0 y1 y2 y3 y4 y5 y6 y7 y8 y9) | (go_at_call 8; refine (awake_any _).mono ?_; rintro e w11 ⟨rfl, b11⟩; replace BB9 := BB9.trans (b11.mono BB9.size); clear b11))
        go_ret
        exact ⟨rfl, BB9⟩
      · rcases HI'.out with h | ⟨b', o', rfl, h1', h2'⟩
        · rw [h] at hy0; simp at hy0
        have H2' := Lib.hid h2'
        clear h2' HI'
        replace hy0 : 0 < ys.length := by omega
        go_wp2_with (first | (go_at_call 9; refine (again_any x.er x.co x.pk x.pn x.has _ _ _ _ _ _).mono ?_; rintro e w5 ⟨rfl, b5⟩; rw [HAg.out]; clear y0 y1 y2 y3 y4 y5 y6 y7 y8 y9; replace RP := Lib.hid (Dt.Rep.below b5 _ _ _ RP.out); replace R4 := R4.step b5; replace BB := BB.trans (b5.mono BB.size); clear b5; have C5 := Lib.hid (fun j x hj => (H2.out j x hj).below BB h1)) | (at_builtin; refine wpList_append_lies _ rfl _ _ 34 rfl w5.heap.size 30 i0 (.agg Re.zero.cs) 10 104 Try.underlying34 hi hz0 hz1 hz2 rfl (by decide) (.slice none 0 0) 0 [] rfl (World.ownsRow_nil _ _ _ _) ⟨b, o, none⟩ zs.length cap (fl zs) rfl (fl_len zs) (fl_cells C5.out) (fl_one zs) hz0' (by unfold maxLen; omega) (by omega) (Nat.le_refl _) _ rfl ?_; intro g6 c6 w6 own6 gr6 at6 lt6; have D6 : Below w5.heap.size w5 w6 := (Below.refl _ w5).grown gr6 (Nat.le_refl _) (fun k e => by cases e); simp only [Nat.zero_add, List.nil_append] at own6; have hcg := owns_cap own6; have OW6 := Lib.hid own6; clear own6 gr6 at6) | (at_builtin; refine wpList_append_lies _ rfl _ _ 34 rfl w5.heap.size 30 i0 (.agg Re.zero.cs) 10 104 Try.underlying34 hi hz0 hz1 hz2 rfl (by decide) (.slice (some ⟨g6, 0, none⟩) zs.length c6) zs.length (fl zs) rfl OW6.out ⟨b', o', none⟩ ys.length cap' (fl ys) rfl (fl_len ys) (fl_cells (fun j x hj => ((H2'.out j x hj).below BB h1').below D6 (by have := BB.size; omega))) (fl_one ys) hy0 (by unfold maxLen; omega) (by omega) D6.size _ rfl ?_; intro g7 c7 w7 own7 gr7 at7 lt7; have D7 : Below w5.heap.size w5 w7 := D6.trans ((Below.refl _ w6).grown gr7 D6.size (fun k e => by cases e; exact hcg.2)); have hcg7 := owns_cap own7; have OW7 := Lib.hid own7; clear own7 gr7 at7) | (go_at_call 12; refine (HRT.out g7 c7 w7 (BB.trans (D7.mono BB.size)) (by rw [List.length_append]; exact hcg7.1) (row_of_fl (by rw [List.length_append, fl_app]; exact OW7.out) lt7)).mono ?_; rintro e w8 ⟨m', x', k', i', u', s', a', n', c', hMd', rfl, hRp', b8⟩; obtain ⟨em, ex⟩ := md_one HM2.out hMd'; subst em ex; have RPq := Dt.Rep.below (below1 w8 (.cells #[.int .i64 x.er, .int .i64 x.co, .int .i64 x.pk, .int .i64 x.pn, .bool x.has, .int .i64 k', .int .i64 i', .int .u64 u', .string s', .slice a' n' c'] 30)) _ _ _ (hRp' (List.mem_append.2 (.inl HXZ.out))); have D8 : Below w5.heap.size w5 w8 := D7.trans (b8.mono D7.size); have D9 := D8.trans ((below1 w8 (.cells #[.int .i64 x.er, .int .i64 x.co, .int .i64 x.pk, .int .i64 x.pn, .bool x.has, .int .i64 k', .int .i64 i', .int .u64 u', .string s', .slice a' n' c'] 30)).mono D8.size); have RP9 := Lib.hid (And.intro (Dt.Rep.below D9 _ _ _ RP.out) RPq); have R9 := R4.step D9; have Q9 := Bk.new w8 #[.int .i64 x.er, .int .i64 x.co, .int .i64 x.pk, .int .i64 x.pn, .bool x.has, .int .i64 k', .int .i64 i', .int .u64 u', .string s', .slice a' n' c'] 30; obtain ⟨y0, y1, y2, y3, y4, y5, y6, y7, y8, y9⟩ := R9.c10; have BB9 := BB.trans (D9.mono BB.size); clear D8 D9 RPq hRp' hMd' b8 R9) | (go_at_call 14; refine (same_res x (f x).1 (f x).2 k i u s a n c k' i' u' s' a' n' c' _ RP9.out.1 RP9.out.2).mono ?_; rintro e w10 ⟨rfl, b10⟩; replace BB9 := BB9.trans (b10.mono BB9.size); clear b10 y0 y1 y2 y3 y4 y5 y6 y7 y8 y9) | (go_at_call 8; refine (awake_any _).mono ?_; rintro e w11 ⟨rfl, b11⟩; replace BB9 := BB9.trans (b11.mono BB9.size); clear b11))
        go_ret
        exact ⟨rfl, BB9⟩
    · simp only [if_neg htm] at HRT
      by_cases hy0 : ys.length = 0
      · have hyn : ys = [] := List.length_eq_zero_iff.1 hy0
        simp only [hy0, Nat.add_zero] at HRT ⊢
        rw [show ys.length = 0 from hy0] at *
        go_wp2_with (first | (go_at_call 9; refine (again_any x.er x.co x.pk x.pn x.has _ _ _ _ _ _).mono ?_; rintro e w5 ⟨rfl, b5⟩; rw [HAg.out]; clear y0 y1 y2 y3 y4 y5 y6 y7 y8 y9; replace RP := Lib.hid (Dt.Rep.below b5 _ _ _ RP.out); replace R4 := R4.step b5; replace BB := BB.trans (b5.mono BB.size); clear b5; have C5 := Lib.hid (fun j x hj => (H2.out j x hj).below BB h1)) | (at_builtin; refine wpList_append_lies _ rfl _ _ 34 rfl w5.heap.size 30 i0 (.agg Re.zero.cs) 10 104 Try.underlying34 hi hz0 hz1 hz2 rfl (by decide) (.slice none 0 0) 0 [] rfl (World.ownsRow_nil _ _ _ _) ⟨b, o, none⟩ zs.length cap (fl zs) rfl (fl_len zs) (fl_cells C5.out) (fl_one zs) hz0' (by unfold maxLen; omega) (by omega) (Nat.le_refl _) _ rfl ?_; intro g6 c6 w6 own6 gr6 at6 lt6; have D6 : Below w5.heap.size w5 w6 := (Below.refl _ w5).grown gr6 (Nat.le_refl _) (fun k e => by cases e); simp only [Nat.zero_add, List.nil_append] at own6; have hcg := owns_cap own6; have OW6 := Lib.hid own6; clear own6 gr6 at6) | (at_builtin; refine wpList_append_none rfl _ _ 34 rfl 30 i0 Try.underlying34 hi g6 zs.length c6 rfl hcg.1 ad' cap' rfl ?_) | (go_at_call 12; refine (HRT.out g6 c6 w6 (BB.trans (D6.mono BB.size)) (by rw [hyn, List.append_nil]; exact hcg.1) (row_of_fl (by rw [hyn, List.append_nil]; exact OW6.out) lt6)).mono ?_; rintro e w8 ⟨m', x', k', i', u', s', a', n', c', hMd', rfl, hRp', b8⟩; obtain ⟨em, ex⟩ := md_one HM2.out hMd'; subst em ex; have RPq := Dt.Rep.below (below1 w8 (.cells #[.int .i64 x.er, .int .i64 x.co, .int .i64 x.pk, .int .i64 x.pn, .bool x.has, .int .i64 k', .int .i64 i', .int .u64 u', .string s', .slice a' n' c'] 30)) _ _ _ (hRp' (List.mem_append.2 (.inl HXZ.out))); have D8 : Below w5.heap.size w5 w8 := D6.trans (b8.mono D6.size); have D9 := D8.trans ((below1 w8 (.cells #[.int .i64 x.er, .int .i64 x.co, .int .i64 x.pk, .int .i64 x.pn, .bool x.has, .int .i64 k', .int .i64 i', .int .u64 u', .string s', .slice a' n' c'] 30)).mono D8.size); have RP9 := Lib.hid (And.intro (Dt.Rep.below D9 _ _ _ RP.out) RPq); have R9 := R4.step D9; have Q9 := Bk.new w8 #[.int .i64 x.er, .int .i64 x.co, .int .i64 x.pk, .int .i64 x.pn, .bool x.has, .int .i64 k', .int .i64 i', .int .u64 u', .string s', .slice a' n' c'] 30; obtain ⟨y0, y1, y2, y3, y4, y5, y6, y7, y8, y9⟩ := R9.c10; have BB9 := BB.trans (D9.mono BB.size); clear D8 D9 RPq hRp' hMd' b8 R9) | (go_at_call 14; refine (same_res x (f x).1 (f x).2 k i u s a n c k' i' u' s' a' n' c' _ RP9.out.1 RP9.out.2).mono ?_; rintro e w10 ⟨rfl, b10⟩; replace BB9 := BB9.trans (b10.mono BB9.size); clear b10 y0 y1 y2 y3 y4 y5 y6 y7 y8 y9) | (go_at_call 8; refine (awake_any _).mono ?_; rintro e w11 ⟨rfl, b11⟩; replace BB9 := BB9.trans (b11.mono BB9.size); clear b11))
        go_ret
        exact ⟨rfl, BB9⟩
      · rcases HI'.out with h | ⟨b', o', rfl, h1', h2'⟩
        · rw [h] at hy0; simp at hy0
        have H2' := Lib.hid h2'
        clear h2' HI'
        replace hy0 : 0 < ys.length := by omega
        go_wp2_with (first | (go_at_call 9; refine (again_any x.er x.co x.pk x.pn x.has _ _ _ _ _ _).mono ?_; rintro e w5 ⟨rfl, b5⟩; rw [HAg.out]; clear y0 y1 y2 y3 y4 y5 y6 y7 y8 y9; replace RP := Lib.hid (Dt.Rep.below b5 _ _ _ RP.out); replace R4 := R4.step b5; replace BB := BB.trans (b5.mono BB.size); clear b5; have C5 := Lib.hid (fun j x hj => (H2.out j x hj).below BB h1)) | (at_builtin; refine wpList_append_lies _ rfl _ _ 34 rfl w5.heap.size 30 i0 (.agg Re.zero.cs) 10 104 Try.underlying34 hi hz0 hz1 hz2 rfl (by decide) (.slice none 0 0) 0 [] rfl (World.ownsRow_nil _ _ _ _) ⟨b, o, none⟩ zs.length cap (fl zs) rfl (fl_len zs) (fl_cells C5.out) (fl_one zs) hz0' (by unfold maxLen; omega) (by omega) (Nat.le_refl _) _ rfl ?_; intro g6 c6 w6 own6 gr6 at6 lt6; have D6 : Below w5.heap.size w5 w6 := (Below.refl _ w5).grown gr6 (Nat.le_refl _) (fun k e => by cases e); simp only [Nat.zero_add, List.nil_append] at own6; have hcg := owns_cap own6; have OW6 := Lib.hid own6; clear own6 gr6 at6) | (at_builtin; refine wpList_append_lies _ rfl _ _ 34 rfl w5.heap.size 30 i0 (.agg Re.zero.cs) 10 104 Try.underlying34 hi hz0 hz1 hz2 rfl (by decide) (.slice (some ⟨g6, 0, none⟩) zs.length c6) zs.length (fl zs) rfl OW6.out ⟨b', o', none⟩ ys.length cap' (fl ys) rfl (fl_len ys) (fl_cells (fun j x hj => ((H2'.out j x hj).below BB h1').below D6 (by have := BB.size; omega))) (fl_one ys) hy0 (by unfold maxLen; omega) (by omega) D6.size _ rfl ?_; intro g7 c7 w7 own7 gr7 at7 lt7; have D7 : Below w5.heap.size w5 w7 := D6.trans ((Below.refl _ w6).grown gr7 D6.size (fun k e => by cases e; exact hcg.2)); have hcg7 := owns_cap own7; have OW7 := Lib.hid own7; clear own7 gr7 at7) | (go_at_call 12; refine (HRT.out g7 c7 w7 (BB.trans (D7.mono BB.size)) (by rw [List.length_append]; exact hcg7.1) (row_of_fl (by rw [List.length_append, fl_app]; exact OW7.out) lt7)).mono ?_; rintro e w8 ⟨m', x', k', i', u', s', a', n', c', hMd', rfl, hRp', b8⟩; obtain ⟨em, ex⟩ := md_one HM2.out hMd'; subst em ex; have RPq := Dt.Rep.below (below1 w8 (.cells #[.int .i64 x.er, .int .i64 x.co, .int .i64 x.pk, .int .i64 x.pn, .bool x.has, .int .i64 k', .int .i64 i', .int .u64 u', .string s', .slice a' n' c'] 30)) _ _ _ (hRp' (List.mem_append.2 (.inl HXZ.out))); have D8 : Below w5.heap.size w5 w8 := D7.trans (b8.mono D7.size); have D9 := D8.trans ((below1 w8 (.cells #[.int .i64 x.er, .int .i64 x.co, .int .i64 x.pk, .int .i64 x.pn, .bool x.has, .int .i64 k', .int .i64 i', .int .u64 u', .string s', .slice a' n' c'] 30)).mono D8.size); have RP9 := Lib.hid (And.intro (Dt.Rep.below D9 _ _ _ RP.out) RPq); have R9 := R4.step D9; have Q9 := Bk.new w8 #[.int .i64 x.er, .int .i64 x.co, .int .i64 x.pk, .int .i64 x.pn, .bool x.has, .int .i64 k', .int .i64 i', .int .u64 u', .string s', .slice a' n' c'] 30; obtain ⟨y0, y1, y2, y3, y4, y5, y6, y7, y8, y9⟩ := R9.c10; have BB9 := BB.trans (D9.mono BB.size); clear D8 D9 RPq hRp' hMd' b8 R9) | (go_at_call 14; refine (same_res x (f x).1 (f x).2 k i u s a n c k' i' u' s' a' n' c' _ RP9.out.1 RP9.out.2).mono ?_; rintro e w10 ⟨rfl, b10⟩; replace BB9 := BB9.trans (b10.mono BB9.size); clear b10 y0 y1 y2 y3 y4 y5 y6 y7 y8 y9) | (go_at_call 8; refine (awake_any _).mono ?_; rintro e w11 ⟨rfl, b11⟩; replace BB9 := BB9.trans (b11.mono BB9.size); clear b11))
        go_ret
        exact ⟨rfl, BB9⟩
end Go.Proofs.Ytihmkjlmhjhocaa
