/- The document's own answers, walked: least and shortest of the reference; no condition but those that each theorem names. -/
import Derived.Test.YtkkahijacbboiaaDoorTv
import Derived.Test.YtkkahijacbboiaaDoorRe
import Derived.Laws.AppendOwnNone
import Derived.Shelf.RegionOpenPlain
namespace Go.Proofs.YtkkahijacbboiaaDoor
open Go.RowKit Tp

theorem least_len : ∀ L : List Bs, (least L).length ≤ L.length
  | [] => Nat.le_refl _
  | x :: r => by
    have := least_len r
    unfold least
    split
    · simp
    · simp; omega

set_option maxRecDepth 100000 in
set_option maxHeartbeats 4000000 in
theorem least_any (b o c : Nat) (L : List Bs) (w : World) (hR : Row w b o (L.map bs)) (hb : b < w.heap.size) (hl : L.length ≤ 140000) :
    Calls Tryd.prog 48 #[.slice (some ⟨b, o, none⟩) L.length c] w fun e W' => ∃ v, e = .returned v ∧ W'.ownsRow w.heap.size 9 1 v ((least L).map bs).length (((least L).map bs).map Value.string) ∧ Below w.heap.size w W' := by
  obtain ⟨i0, hi0, hz0, hz1, hz2⟩ := info_parts infoStr
  obtain ⟨M, hM⟩ : ∃ M, least L = M := ⟨_, rfl⟩
  rw [hM]
  go_enter Tryd.func48, Tryd.ntmps48
  go_wp2
  go_loopg [3, 7] L.length (fun g s3 s7 wx => ∃ (k : Nat) (pre : List Bs), k + g = L.length ∧ s7 = .int .i64 k ∧ wx.ownsRow w.heap.size 9 1 s3 (pre.map bs).length ((pre.map bs).map Value.string) ∧ Below w.heap.size w wx ∧ M = pre ++ least (L.drop k) ∧ pre.length ≤ k)
  case atStart => exact ⟨0, [], by omega, rfl, World.ownsRow_nil _ _ _ _, Below.refl _ _, by rw [← hM]; rfl, Nat.le_refl _⟩
  case round =>
    obtain ⟨k, pre, hkg, rfl, hown, hB, hpre, hpl⟩ := hrel
    clear hM
    have hBs := hB.size
    cases gk with
    | zero =>
      obtain rfl : k = L.length := by omega
      rw [List.drop_length, show least [] = [] from rfl, List.append_nil] at hpre
      have HP : Hid (M = pre) := hpre
      clear hpre
      go_wp2
      go_ret
      exact ⟨_, rfl, by rw [show M = pre from HP]; exact hown, hB⟩
    | succ g =>
      have hk : k < L.length := by omega
      have cx := (hR.below hB hb).bs k hk
      rw [List.drop_eq_getElem_cons hk] at hpre
      have hxe : tl (bs L[k]) = L[k] := tl_bs _
      generalize L[k] = x at cx hpre hxe
      rw [least] at hpre
      by_cases h1 : x = ha
      · rw [if_pos h1, List.append_nil] at hpre
        have HP : Hid (M = pre) := hpre
        have h1' : (tl (bs x) == [35]) = true := by rw [hxe]; simpa using h1
        clear hpre hxe h1
        generalize bs x = X at *
        go_wp2
        go_ret
        exact ⟨_, rfl, by rw [show M = pre from HP]; exact hown, hB⟩
      · rw [if_neg h1] at hpre
        have h1' : (tl (bs x) == [35]) = false := by rw [hxe]; simpa using h1
        by_cases h2 : x = pl
        · rw [if_pos h2] at hpre
          have HP : Hid (M = pre ++ [] :: least (L.drop (k + 1))) := hpre
          have h2' : (tl (bs x) == [43]) = true := by rw [hxe]; simpa using h2
          clear hpre hxe h1 h2
          generalize bs x = X at *
          go_wp2_with (at_builtin; refine wpList_append_own _ rfl _ _ 23 rfl w.heap.size 9 i0 (.string ⟨#[]⟩) 1 16 Tryd.underlying23 hi0 hz0 hz1 hz2 rfl (by decide) _ _ _ rfl (hown.alloc _) ⟨wr.heap.size, 0, none⟩ 1 1 [.string ⟨#[]⟩] rfl rfl (cell_one_new _ _ _) (by intro u hu; simp at hu; subst hu; rfl) (by unfold maxLen; simp only [List.length_map]; omega) (by simp only [List.length_map]; omega) (by simp; omega) ?_; intro v1 w5 hown5 hgrow5 hnil5; have hB5 := below_grown (hB.alloc hB.size _) hgrow5 (hown.alloc _) (Nat.le_refl _))
          go_roundg g
          case measure => omega
          case rel => exact ⟨k + 1, pre ++ [[]], by omega, by simp, by simpa [bs] using hown5, hB5, by rw [show M = _ from HP]; simp, by rw [List.length_append]; simp only [List.length_cons, List.length_nil]; omega⟩
        · rw [if_neg h2] at hpre
          have HP : Hid (M = pre ++ x :: least (L.drop (k + 1))) := hpre
          have h2' : (tl (bs x) == [43]) = false := by rw [hxe]; simpa using h2
          clear hpre hxe h1 h2
          obtain ⟨X, hX⟩ : ∃ X, bs x = X := ⟨_, rfl⟩
          rw [hX] at cx h1' h2'
          go_wp2_with (at_builtin; refine wpList_append_own _ rfl _ _ 23 rfl w.heap.size 9 i0 (.string ⟨#[]⟩) 1 16 Tryd.underlying23 hi0 hz0 hz1 hz2 rfl (by decide) _ _ _ rfl (hown.alloc _) ⟨wr.heap.size, 0, none⟩ 1 1 [.string X] rfl rfl (cell_one_new _ _ _) (by intro u hu; simp at hu; subst hu; rfl) (by unfold maxLen; simp only [List.length_map]; omega) (by simp only [List.length_map]; omega) (by simp; omega) ?_; intro v1 w5 hown5 hgrow5 hnil5; have hB5 := below_grown (hB.alloc hB.size _) hgrow5 (hown.alloc _) (Nat.le_refl _))
          go_roundg g
          case measure => omega
          case rel => exact ⟨k + 1, pre ++ [x], by omega, by simp, by simpa [hX] using hown5, hB5, by rw [show M = _ from HP]; simp, by rw [List.length_append]; simp only [List.length_cons, List.length_nil]; omega⟩

theorem owns_one (w : World) (a : ByteArray) (base : Nat) (h : base ≤ w.heap.size) : (w.alloc (.cells #[.string a] 9)).ownsRow base 9 1 (.slice (some ⟨w.heap.size, 0, none⟩) 1 1) 1 [.string a] :=
  ⟨rfl, .inr ⟨w.heap.size, 1, #[.string a], rfl, h, heap_alloc_new w _, Nat.le_refl _, by decide, rfl, rfl⟩⟩

theorem owns_cases {w : World} {base : Nat} {v : Value} {xs : List ByteArray} (h : w.ownsRow base 9 1 v xs.length (xs.map Value.string)) :
    (v = .slice none 0 0 ∧ xs = []) ∨ ∃ g c, v = .slice (some ⟨g, 0, none⟩) xs.length c ∧ base ≤ g ∧ g < w.heap.size ∧ Row w g 0 xs := by
  have h' := h
  obtain ⟨_, (⟨h1, h2⟩ | ⟨g, c, cur, h1, h2, h3, _⟩)⟩ := h
  · exact .inl ⟨h1, List.length_eq_zero_iff.1 h2⟩
  · right
    by_cases hn : xs = []
    · subst hn
      exact ⟨g, c, h1, h2, (Array.getElem?_eq_some_iff.1 h3).1, fun j x hx => by simp at hx⟩
    · obtain ⟨g', c', e, a1, a2, _, a4⟩ := owns_row h' hn
      exact ⟨g', c', e, a1, a2, a4⟩

theorem news_row {w : World} {g : Nat} {xs : List ByteArray} (h : Row w g 0 xs) (hg : g < w.heap.size) (o : Obj) : ∀ (j : Nat) u, (xs.map Value.string)[j]? = some u → (w.alloc o).cell? ((⟨g, 0, none⟩ : Addr).add j) = some u := by
  intro j u hu
  rw [List.getElem?_map] at hu
  obtain ⟨x, hx, rfl⟩ := Option.map_eq_some_iff.1 hu
  have := ((below1 w o).cell (p := ⟨g, 0 + j, none⟩) hg).trans (h j x hx)
  rw [Nat.zero_add] at this
  by_cases hj : j = 0
  · subst hj; simpa [Addr.add] using this
  · simpa [Addr.add, hj] using this

/-- What shortest leaves of two rows of levels. -/
def shR (L M : List Bs) : Option (List ByteArray) := (srch L M).map fun s => (least s).map bs

set_option maxRecDepth 100000 in
set_option maxHeartbeats 4000000 in
theorem shortest_any : ∀ (L M : List Bs) (b1 o1 c1 b2 o2 c2 : Nat) (w : World), Row w b1 o1 (L.map bs) → Row w b2 o2 (M.map bs) → b1 < w.heap.size → b2 < w.heap.size → L.length ≤ c1 → M.length ≤ c2 → L.length ≤ 70000 → M.length ≤ 70000 →
    Calls Tryd.prog 37 #[.slice (some ⟨b1, o1, none⟩) L.length c1, .slice (some ⟨b2, o2, none⟩) M.length c2] w (SP w (shR L M))
  | [], M, b1, o1, c1, b2, o2, c2, w, hL, hM, hb1, hb2, k1, k2, z1, z2 => by
    cases M with
    | nil =>
      go_enter Tryd.func37, Tryd.ntmps37
      go_wp2
      go_ret2
      exact SP.yes [] rfl (Below.refl _ _) (World.ownsRow_nil _ _ _ _)
    | cons y M =>
      have hy := hM 0 (bs y) rfl
      rw [Nat.add_zero] at hy
      have hye : tl (bs y) = y := tl_bs _
      by_cases h1 : y = ha
      · have h1' : (tl (bs y) == [35]) = true := by rw [hye]; simpa using h1
        have cl := least_any b1 o1 c1 [] w hL hb1 (by simp)
        have hR : some ((least []).map bs) = shR [] (y :: M) := by rw [h1]; rfl
        rw [List.length_cons]
        clear hye h1 hL hM
        generalize bs y = Y at *
        have e0 : (0 : Int) < ((M.length : Nat) : Int) + 1 := by omega
        go_enter Tryd.func37, Tryd.ntmps37
        go_wp2_with (go_at_call 48; refine cl.mono ?_; rintro e w1 ⟨v, rfl, ho, hB⟩)
        go_ret2
        exact SP.yes _ hR hB ho
      · have h1' : (tl (bs y) == [35]) = false := by rw [hye]; simpa using h1
        have hR : shR [] (y :: M) = none := by simp [shR, srch, h1]
        rw [List.length_cons]
        clear hye h1 hL hM
        generalize bs y = Y at *
        have e0 : (0 : Int) < ((M.length : Nat) : Int) + 1 := by omega
        have e1 : ((0 : Int) == ((M.length : Nat) : Int) + 1) = false := by simp; omega
        go_enter Tryd.func37, Tryd.ntmps37
        go_wp2
        go_ret2
        exact SP.no hR (Below.refl _ _)
  | x :: L, M, b1, o1, c1, b2, o2, c2, w, hL, hM, hb1, hb2, k1, k2, z1, z2 => by
    have hx := hL 0 (bs x) rfl
    rw [Nat.add_zero] at hx
    have hxe : tl (bs x) = x := tl_bs _
    have e0 : (0 : Int) < ((L.length : Nat) : Int) + 1 := by omega
    have e00 : (((L.length : Nat) : Int) + 1 == 0) = false := by simp; omega
    by_cases h1 : x = ha
    · have h1' : (tl (bs x) == [35]) = true := by rw [hxe]; simpa using h1
      have cl := least_any b2 o2 c2 M w hM hb2 (by omega)
      have hR : some ((least M).map bs) = shR (x :: L) M := by
        rw [h1, shR]
        cases M <;> simp [srch]
      rw [List.length_cons]
      clear hxe h1 hL hM
      generalize bs x = X at *
      go_enter Tryd.func37, Tryd.ntmps37
      go_wp2_with (go_at_call 48; refine cl.mono ?_; rintro e w1 ⟨v, rfl, ho, hB⟩)
      go_ret2
      exact SP.yes _ hR hB ho
    · have h1' : (tl (bs x) == [35]) = false := by rw [hxe]; simpa using h1
      cases M with
      | nil =>
        have hR : shR (x :: L) [] = none := by simp [shR, srch, h1]
        rw [List.length_cons]
        have e1 : (((L.length : Nat) : Int) + 1 == (0 : Int)) = false := by simp; omega
        clear hxe h1 hL hM
        generalize bs x = X at *
        go_enter Tryd.func37, Tryd.ntmps37
        go_wp2
        go_ret2
        exact SP.no hR (Below.refl _ _)
      | cons y M =>
        have hy := hM 0 (bs y) rfl
        rw [Nat.add_zero] at hy
        have hye : tl (bs y) = y := tl_bs _
        have e1 : (0 : Int) < ((M.length : Nat) : Int) + 1 := by omega
        have e11 : (((M.length : Nat) : Int) + 1 == 0) = false := by simp; omega
        by_cases h2 : y = ha
        · have h2' : (tl (bs y) == [35]) = true := by rw [hye]; simpa using h2
          have cl := least_any b1 o1 c1 (x :: L) w hL hb1 (by omega)
          have hR : some ((least (x :: L)).map bs) = shR (x :: L) (y :: M) := by simp [shR, srch, h1, h2]
          rw [List.length_cons] at cl ⊢
          rw [List.length_cons]
          clear hxe hye h1 h2 hL hM
          generalize bs x = X at *
          generalize bs y = Y at *
          go_enter Tryd.func37, Tryd.ntmps37
          go_wp2_with (go_at_call 48; refine cl.mono ?_; rintro e w1 ⟨v, rfl, ho, hB⟩)
          go_ret2
          exact SP.yes _ hR hB ho
        · have h2' : (tl (bs y) == [35]) = false := by rw [hye]; simpa using h2
          obtain ⟨p1, hp1, hL'⟩ := step_row hL (by simpa using k1)
          obtain ⟨p2, hp2, hM'⟩ := step_row hM (by simpa using k2)
          obtain ⟨i0, hi0, hz0, hz1, hz2⟩ := info_parts infoStr
          have mixed : Tryd.prog.follows .mixedOrders = true := by kernel_rfl
          rw [List.length_cons] at k1 z1 k2 z2 ⊢
          rw [List.length_cons]
          have ih := fun w hL hM hb1 hb2 => shortest_any L M b1 p1 (c1 - 1) b2 p2 (c2 - 1) w hL hM hb1 hb2 (by omega) (by omega) (by omega) (by omega)
          by_cases h3 : x = pl
          · have h3' : (tl (bs x) == [43]) = true := by rw [hxe]; simpa using h3
            by_cases h4 : y = pl
            · have h4' : (tl (bs y) == [43]) = true := by rw [hye]; simpa using h4
              have hR : shR (x :: L) (y :: M) = (shR L M).map (⟨#[]⟩ :: ·) := by
                rw [shR, shR, h3, h4, srch, if_neg (by decide), if_neg (by decide), if_pos rfl]
                cases srch L M <;> rfl
              rw [hR]
              clear hR hxe hye h1 h2 h3 h4 hL hM
              generalize bs x = X at *
              generalize bs y = Y at *
              cases hS : shR L M with
              | none =>
                rw [hS] at ih
                go_enter Tryd.func37, Tryd.ntmps37
                go_wp2
                go_region_with_o (go_at_call 37; (try rw [hp1]); (try rw [hp2]); refine (ih w.drew hL' hM' hb1 hb2).mono ?_; rintro e w1 ⟨hb, v, rfl, hn, ho⟩)
                all_goals (have hB := ((Below.refl w.heap.size w).drew).trans hb; clear hb ho; obtain rfl := hn (by first | rfl | exact trivial); go_wp2; go_ret2; exact SP.no rfl hB)
              | some S =>
                rw [hS] at ih
                have hSl : S.length ≤ 140000 := by
                  obtain ⟨t, ht, rfl⟩ := Option.map_eq_some_iff.1 hS
                  have q1 := srch_len _ _ _ ht
                  have q2 := least_len t
                  rw [List.length_map]
                  omega
                clear hS
                go_enter Tryd.func37, Tryd.ntmps37
                go_wp2
                go_region_with_o (go_at_call 37; (try rw [hp1]); (try rw [hp2]); refine (ih w.drew hL' hM' hb1 hb2).mono ?_; rintro e w1 ⟨hb, v, rfl, hn, ho⟩)
                all_goals (have hB := ((Below.refl w.heap.size w).drew).trans hb; have ho := ho S rfl; clear hb hn)
                all_goals (rcases owns_cases ho with ⟨rfl, rfl⟩ | ⟨g3, c3, rfl, a1, a2, r3⟩)
                all_goals clear ho
                · go_wp2_with (at_builtin; refine wpList_append_own_none rfl _ _ 23 rfl w.heap.size 9 i0 1 Tryd.underlying23 hi0 _ _ _ rfl (owns_one w1 (⟨#[]⟩ : ByteArray) w.heap.size hB.size) rfl ?_)
                  go_ret2
                  exact SP.yes [(⟨#[]⟩ : ByteArray)] rfl (hB.alloc hB.size _) (owns_one w1 (⟨#[]⟩ : ByteArray) w.heap.size hB.size)
                · go_wp2_with (at_builtin; refine wpList_append_own _ rfl _ _ 23 rfl w.heap.size 9 i0 (.string ⟨#[]⟩) 1 16 Tryd.underlying23 hi0 hz0 hz1 hz2 rfl (by decide) _ _ _ rfl (owns_one w1 (⟨#[]⟩ : ByteArray) w.heap.size hB.size) ⟨g3, 0, none⟩ S.length c3 (S.map Value.string) rfl (by rw [List.length_map, Nat.mul_one]) (news_row r3 a2 _) (by intro u hu; obtain ⟨y, _, rfl⟩ := List.mem_map.1 hu; rfl) (by unfold maxLen; omega) (by omega) (by have := hB.size; simp; omega) ?_; intro v1 w5 hown5 hgrow5 hnil5; have hB5 := below_grown (hB.alloc hB.size _) hgrow5 (owns_one w1 (⟨#[]⟩ : ByteArray) w.heap.size hB.size) (Nat.le_refl _))
                  go_ret2
                  exact SP.yes ((⟨#[]⟩ : ByteArray) :: S) rfl hB5 (by simpa [Nat.add_comm] using hown5)
                · go_wp2_with (at_builtin; refine wpList_append_own_none rfl _ _ 23 rfl w.heap.size 9 i0 1 Tryd.underlying23 hi0 _ _ _ rfl (owns_one w1 (⟨#[]⟩ : ByteArray) w.heap.size hB.size) rfl ?_)
                  go_ret2
                  exact SP.yes [(⟨#[]⟩ : ByteArray)] rfl (hB.alloc hB.size _) (owns_one w1 (⟨#[]⟩ : ByteArray) w.heap.size hB.size)
                · go_wp2_with (at_builtin; refine wpList_append_own _ rfl _ _ 23 rfl w.heap.size 9 i0 (.string ⟨#[]⟩) 1 16 Tryd.underlying23 hi0 hz0 hz1 hz2 rfl (by decide) _ _ _ rfl (owns_one w1 (⟨#[]⟩ : ByteArray) w.heap.size hB.size) ⟨g3, 0, none⟩ S.length c3 (S.map Value.string) rfl (by rw [List.length_map, Nat.mul_one]) (news_row r3 a2 _) (by intro u hu; obtain ⟨y, _, rfl⟩ := List.mem_map.1 hu; rfl) (by unfold maxLen; omega) (by omega) (by have := hB.size; simp; omega) ?_; intro v1 w5 hown5 hgrow5 hnil5; have hB5 := below_grown (hB.alloc hB.size _) hgrow5 (owns_one w1 (⟨#[]⟩ : ByteArray) w.heap.size hB.size) (Nat.le_refl _))
                  go_ret2
                  exact SP.yes ((⟨#[]⟩ : ByteArray) :: S) rfl hB5 (by simpa [Nat.add_comm] using hown5)
            · have h4' : (tl (bs y) == [43]) = false := by rw [hye]; simpa using h4
              have hR : shR (x :: L) (y :: M) = (shR L M).map (bs y :: ·) := by
                rw [shR, shR, h3, srch, if_neg (by decide), if_neg h2, if_pos rfl]
                cases srch L M with
                | none => rfl
                | some t => simp [least, h2, h4]
              rw [hR]
              clear hR hxe hye h1 h2 h3 h4 hL hM
              generalize bs x = X at *
              generalize bs y = Y at *
              cases hS : shR L M with
              | none =>
                rw [hS] at ih
                go_enter Tryd.func37, Tryd.ntmps37
                go_wp2
                go_region_with_o (go_at_call 37; (try rw [hp1]); (try rw [hp2]); refine (ih w.drew hL' hM' hb1 hb2).mono ?_; rintro e w1 ⟨hb, v, rfl, hn, ho⟩)
                all_goals (have hB := ((Below.refl w.heap.size w).drew).trans hb; clear hb ho; obtain rfl := hn (by first | rfl | exact trivial); go_wp2; go_ret2; exact SP.no rfl hB)
              | some S =>
                rw [hS] at ih
                have hSl : S.length ≤ 140000 := by
                  obtain ⟨t, ht, rfl⟩ := Option.map_eq_some_iff.1 hS
                  have q1 := srch_len _ _ _ ht
                  have q2 := least_len t
                  rw [List.length_map]
                  omega
                clear hS
                go_enter Tryd.func37, Tryd.ntmps37
                go_wp2
                go_region_with_o (go_at_call 37; (try rw [hp1]); (try rw [hp2]); refine (ih w.drew hL' hM' hb1 hb2).mono ?_; rintro e w1 ⟨hb, v, rfl, hn, ho⟩)
                all_goals (have hB := ((Below.refl w.heap.size w).drew).trans hb; have ho := ho S rfl; clear hb hn)
                all_goals (rcases owns_cases ho with ⟨rfl, rfl⟩ | ⟨g3, c3, rfl, a1, a2, r3⟩)
                all_goals clear ho
                · go_wp2_with (at_builtin; refine wpList_append_own_none rfl _ _ 23 rfl w.heap.size 9 i0 1 Tryd.underlying23 hi0 _ _ _ rfl (owns_one w1 Y w.heap.size hB.size) rfl ?_)
                  go_ret2
                  exact SP.yes [Y] rfl (hB.alloc hB.size _) (owns_one w1 Y w.heap.size hB.size)
                · go_wp2_with (at_builtin; refine wpList_append_own _ rfl _ _ 23 rfl w.heap.size 9 i0 (.string ⟨#[]⟩) 1 16 Tryd.underlying23 hi0 hz0 hz1 hz2 rfl (by decide) _ _ _ rfl (owns_one w1 Y w.heap.size hB.size) ⟨g3, 0, none⟩ S.length c3 (S.map Value.string) rfl (by rw [List.length_map, Nat.mul_one]) (news_row r3 a2 _) (by intro u hu; obtain ⟨y, _, rfl⟩ := List.mem_map.1 hu; rfl) (by unfold maxLen; omega) (by omega) (by have := hB.size; simp; omega) ?_; intro v1 w5 hown5 hgrow5 hnil5; have hB5 := below_grown (hB.alloc hB.size _) hgrow5 (owns_one w1 Y w.heap.size hB.size) (Nat.le_refl _))
                  go_ret2
                  exact SP.yes (Y :: S) rfl hB5 (by simpa [Nat.add_comm] using hown5)
                · go_wp2_with (at_builtin; refine wpList_append_own_none rfl _ _ 23 rfl w.heap.size 9 i0 1 Tryd.underlying23 hi0 _ _ _ rfl (owns_one w1 Y w.heap.size hB.size) rfl ?_)
                  go_ret2
                  exact SP.yes [Y] rfl (hB.alloc hB.size _) (owns_one w1 Y w.heap.size hB.size)
                · go_wp2_with (at_builtin; refine wpList_append_own _ rfl _ _ 23 rfl w.heap.size 9 i0 (.string ⟨#[]⟩) 1 16 Tryd.underlying23 hi0 hz0 hz1 hz2 rfl (by decide) _ _ _ rfl (owns_one w1 Y w.heap.size hB.size) ⟨g3, 0, none⟩ S.length c3 (S.map Value.string) rfl (by rw [List.length_map, Nat.mul_one]) (news_row r3 a2 _) (by intro u hu; obtain ⟨y, _, rfl⟩ := List.mem_map.1 hu; rfl) (by unfold maxLen; omega) (by omega) (by have := hB.size; simp; omega) ?_; intro v1 w5 hown5 hgrow5 hnil5; have hB5 := below_grown (hB.alloc hB.size _) hgrow5 (owns_one w1 Y w.heap.size hB.size) (Nat.le_refl _))
                  go_ret2
                  exact SP.yes (Y :: S) rfl hB5 (by simpa [Nat.add_comm] using hown5)
          · have h3' : (tl (bs x) == [43]) = false := by rw [hxe]; simpa using h3
            by_cases h4 : y = pl
            · have h4' : (tl (bs y) == [43]) = true := by rw [hye]; simpa using h4
              have hR : shR (x :: L) (y :: M) = (shR L M).map (bs x :: ·) := by
                rw [shR, shR, srch, if_neg h1, if_neg h2, if_neg h3, if_pos h4]
                cases srch L M with
                | none => rfl
                | some t => simp [least, h1, h3]
              rw [hR]
              clear hR hxe hye h1 h2 h3 h4 hL hM
              generalize bs x = X at *
              generalize bs y = Y at *
              cases hS : shR L M with
              | none =>
                rw [hS] at ih
                go_enter Tryd.func37, Tryd.ntmps37
                go_wp2
                go_region_with_o (go_at_call 37; (try rw [hp1]); (try rw [hp2]); refine (ih w.drew hL' hM' hb1 hb2).mono ?_; rintro e w1 ⟨hb, v, rfl, hn, ho⟩)
                all_goals (have hB := ((Below.refl w.heap.size w).drew).trans hb; clear hb ho; obtain rfl := hn (by first | rfl | exact trivial); go_wp2; go_ret2; exact SP.no rfl hB)
              | some S =>
                rw [hS] at ih
                have hSl : S.length ≤ 140000 := by
                  obtain ⟨t, ht, rfl⟩ := Option.map_eq_some_iff.1 hS
                  have q1 := srch_len _ _ _ ht
                  have q2 := least_len t
                  rw [List.length_map]
                  omega
                clear hS
                go_enter Tryd.func37, Tryd.ntmps37
                go_wp2
                go_region_with_o (go_at_call 37; (try rw [hp1]); (try rw [hp2]); refine (ih w.drew hL' hM' hb1 hb2).mono ?_; rintro e w1 ⟨hb, v, rfl, hn, ho⟩)
                all_goals (have hB := ((Below.refl w.heap.size w).drew).trans hb; have ho := ho S rfl; clear hb hn)
                all_goals (rcases owns_cases ho with ⟨rfl, rfl⟩ | ⟨g3, c3, rfl, a1, a2, r3⟩)
                all_goals clear ho
                · go_wp2_with (at_builtin; refine wpList_append_own_none rfl _ _ 23 rfl w.heap.size 9 i0 1 Tryd.underlying23 hi0 _ _ _ rfl (owns_one w1 X w.heap.size hB.size) rfl ?_)
                  go_ret2
                  exact SP.yes [X] rfl (hB.alloc hB.size _) (owns_one w1 X w.heap.size hB.size)
                · go_wp2_with (at_builtin; refine wpList_append_own _ rfl _ _ 23 rfl w.heap.size 9 i0 (.string ⟨#[]⟩) 1 16 Tryd.underlying23 hi0 hz0 hz1 hz2 rfl (by decide) _ _ _ rfl (owns_one w1 X w.heap.size hB.size) ⟨g3, 0, none⟩ S.length c3 (S.map Value.string) rfl (by rw [List.length_map, Nat.mul_one]) (news_row r3 a2 _) (by intro u hu; obtain ⟨y, _, rfl⟩ := List.mem_map.1 hu; rfl) (by unfold maxLen; omega) (by omega) (by have := hB.size; simp; omega) ?_; intro v1 w5 hown5 hgrow5 hnil5; have hB5 := below_grown (hB.alloc hB.size _) hgrow5 (owns_one w1 X w.heap.size hB.size) (Nat.le_refl _))
                  go_ret2
                  exact SP.yes (X :: S) rfl hB5 (by simpa [Nat.add_comm] using hown5)
                · go_wp2_with (at_builtin; refine wpList_append_own_none rfl _ _ 23 rfl w.heap.size 9 i0 1 Tryd.underlying23 hi0 _ _ _ rfl (owns_one w1 X w.heap.size hB.size) rfl ?_)
                  go_ret2
                  exact SP.yes [X] rfl (hB.alloc hB.size _) (owns_one w1 X w.heap.size hB.size)
                · go_wp2_with (at_builtin; refine wpList_append_own _ rfl _ _ 23 rfl w.heap.size 9 i0 (.string ⟨#[]⟩) 1 16 Tryd.underlying23 hi0 hz0 hz1 hz2 rfl (by decide) _ _ _ rfl (owns_one w1 X w.heap.size hB.size) ⟨g3, 0, none⟩ S.length c3 (S.map Value.string) rfl (by rw [List.length_map, Nat.mul_one]) (news_row r3 a2 _) (by intro u hu; obtain ⟨y, _, rfl⟩ := List.mem_map.1 hu; rfl) (by unfold maxLen; omega) (by omega) (by have := hB.size; simp; omega) ?_; intro v1 w5 hown5 hgrow5 hnil5; have hB5 := below_grown (hB.alloc hB.size _) hgrow5 (owns_one w1 X w.heap.size hB.size) (Nat.le_refl _))
                  go_ret2
                  exact SP.yes (X :: S) rfl hB5 (by simpa [Nat.add_comm] using hown5)
            · have h4' : (tl (bs y) == [43]) = false := by rw [hye]; simpa using h4
              by_cases h5 : x = y
              · have h5' : (tl (bs y) == tl (bs x)) = true := by rw [hxe, hye]; simpa using h5.symm
                have hR : shR (x :: L) (y :: M) = (shR L M).map (bs x :: ·) := by
                  rw [shR, shR, srch, if_neg h1, if_neg h2, if_neg h3, if_neg h4, if_pos h5]
                  cases srch L M with
                  | none => rfl
                  | some t => simp [least, h1, h3]
                rw [hR]
                clear hR hxe hye h1 h2 h3 h4 h5 hL hM
                generalize bs x = X at *
                generalize bs y = Y at *
                cases hS : shR L M with
                | none =>
                  rw [hS] at ih
                  go_enter Tryd.func37, Tryd.ntmps37
                  go_wp2
                  go_region_with_o (go_at_call 37; (try rw [hp1]); (try rw [hp2]); refine (ih w.drew hL' hM' hb1 hb2).mono ?_; rintro e w1 ⟨hb, v, rfl, hn, ho⟩)
                  all_goals (have hB := ((Below.refl w.heap.size w).drew).trans hb; clear hb ho; obtain rfl := hn (by first | rfl | exact trivial); go_wp2; go_ret2; exact SP.no rfl hB)
                | some S =>
                  rw [hS] at ih
                  have hSl : S.length ≤ 140000 := by
                    obtain ⟨t, ht, rfl⟩ := Option.map_eq_some_iff.1 hS
                    have q1 := srch_len _ _ _ ht
                    have q2 := least_len t
                    rw [List.length_map]
                    omega
                  clear hS
                  go_enter Tryd.func37, Tryd.ntmps37
                  go_wp2
                  go_region_with_o (go_at_call 37; (try rw [hp1]); (try rw [hp2]); refine (ih w.drew hL' hM' hb1 hb2).mono ?_; rintro e w1 ⟨hb, v, rfl, hn, ho⟩)
                  all_goals (have hB := ((Below.refl w.heap.size w).drew).trans hb; have ho := ho S rfl; clear hb hn)
                  all_goals (rcases owns_cases ho with ⟨rfl, rfl⟩ | ⟨g3, c3, rfl, a1, a2, r3⟩)
                  all_goals clear ho
                  · go_wp2_with (at_builtin; refine wpList_append_own_none rfl _ _ 23 rfl w.heap.size 9 i0 1 Tryd.underlying23 hi0 _ _ _ rfl (owns_one w1 X w.heap.size hB.size) rfl ?_)
                    go_ret2
                    exact SP.yes [X] rfl (hB.alloc hB.size _) (owns_one w1 X w.heap.size hB.size)
                  · go_wp2_with (at_builtin; refine wpList_append_own _ rfl _ _ 23 rfl w.heap.size 9 i0 (.string ⟨#[]⟩) 1 16 Tryd.underlying23 hi0 hz0 hz1 hz2 rfl (by decide) _ _ _ rfl (owns_one w1 X w.heap.size hB.size) ⟨g3, 0, none⟩ S.length c3 (S.map Value.string) rfl (by rw [List.length_map, Nat.mul_one]) (news_row r3 a2 _) (by intro u hu; obtain ⟨y, _, rfl⟩ := List.mem_map.1 hu; rfl) (by unfold maxLen; omega) (by omega) (by have := hB.size; simp; omega) ?_; intro v1 w5 hown5 hgrow5 hnil5; have hB5 := below_grown (hB.alloc hB.size _) hgrow5 (owns_one w1 X w.heap.size hB.size) (Nat.le_refl _))
                    go_ret2
                    exact SP.yes (X :: S) rfl hB5 (by simpa [Nat.add_comm] using hown5)
                  · go_wp2_with (at_builtin; refine wpList_append_own_none rfl _ _ 23 rfl w.heap.size 9 i0 1 Tryd.underlying23 hi0 _ _ _ rfl (owns_one w1 X w.heap.size hB.size) rfl ?_)
                    go_ret2
                    exact SP.yes [X] rfl (hB.alloc hB.size _) (owns_one w1 X w.heap.size hB.size)
                  · go_wp2_with (at_builtin; refine wpList_append_own _ rfl _ _ 23 rfl w.heap.size 9 i0 (.string ⟨#[]⟩) 1 16 Tryd.underlying23 hi0 hz0 hz1 hz2 rfl (by decide) _ _ _ rfl (owns_one w1 X w.heap.size hB.size) ⟨g3, 0, none⟩ S.length c3 (S.map Value.string) rfl (by rw [List.length_map, Nat.mul_one]) (news_row r3 a2 _) (by intro u hu; obtain ⟨y, _, rfl⟩ := List.mem_map.1 hu; rfl) (by unfold maxLen; omega) (by omega) (by have := hB.size; simp; omega) ?_; intro v1 w5 hown5 hgrow5 hnil5; have hB5 := below_grown (hB.alloc hB.size _) hgrow5 (owns_one w1 X w.heap.size hB.size) (Nat.le_refl _))
                    go_ret2
                    exact SP.yes (X :: S) rfl hB5 (by simpa [Nat.add_comm] using hown5)
              · have h5' : (tl (bs y) == tl (bs x)) = false := by rw [hxe, hye]; simpa using Ne.symm h5
                have hR : shR (x :: L) (y :: M) = none := by
                  rw [shR, srch, if_neg h1, if_neg h2, if_neg h3, if_neg h4, if_neg h5]
                  rfl
                clear ih hxe hye h1 h2 h3 h4 h5 hL hM
                generalize bs x = X at *
                generalize bs y = Y at *
                go_enter Tryd.func37, Tryd.ntmps37
                go_wp2
                go_ret2
                exact SP.no hR (Below.refl _ _)
end Go.Proofs.YtkkahijacbboiaaDoor
