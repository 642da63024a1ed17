/- The document's own answers, walked: Levels and Filter of the reference; what is asked of the world: the two tables of unicode/utf8 as their text lays them. -/
import Derived.OwnWalk
import Derived.Maps.AppendAt
import Derived.Test.YtkgbpildikjoiaaGreatDoorRa
namespace Go.Proofs.YtkgbpildikjoiaaGreatDoor
open Go.RowKit Tp

theorem drop_cut (l : Bs) (a i : Nat) (hai : a ≤ i) (hi : l[i]? = some 47) (hno : ∀ j, a ≤ j → j < i → l[j]? ≠ some 47) :
    lvs (l.drop a) = (l.drop a).take (i - a) :: lvs (l.drop (i + 1)) := by
  have hlt : i < l.length := (List.getElem?_eq_some_iff.1 hi).1
  have e : l.drop a = (l.drop a).take (i - a) ++ 47 :: l.drop (i + 1) := by
    conv => lhs; rw [← List.take_append_drop (i - a) (l.drop a)]
    rw [List.drop_drop, show a + (i - a) = i by omega, List.drop_eq_getElem_cons hlt]
    rw [List.getElem?_eq_getElem hlt] at hi
    rw [Option.some.inj hi]
  conv => lhs; rw [e]
  refine lvs_cut _ _ fun hm => ?_
  obtain ⟨j, hj, hx⟩ := List.getElem_of_mem hm
  rw [List.length_take, List.length_drop] at hj
  refine hno (a + j) (by omega) (by omega) ?_
  rw [List.getElem_take, List.getElem_drop] at hx
  rw [List.getElem?_eq_getElem (by omega), hx]

theorem drop_flat (l : Bs) (a : Nat) (hno : ∀ j, a ≤ j → j < l.length → l[j]? ≠ some 47) : lvs (l.drop a) = [l.drop a] := by
  refine lvs_flat _ fun hm => ?_
  obtain ⟨j, hj, hx⟩ := List.getElem_of_mem hm
  rw [List.length_drop] at hj
  refine hno (a + j) (by omega) (by omega) ?_
  rw [List.getElem_drop] at hx
  rw [List.getElem?_eq_getElem (by omega), hx]

theorem bs_ext (s : ByteArray) (i j : Nat) : bs (((tl s).drop i).take (j - i)) = s.extract i j := by rw [← tl_ext, bs_tl]
theorem bs_ext_end (s : ByteArray) (i : Nat) : bs ((tl s).drop i) = s.extract i s.size := by
  rw [← bs_ext, List.take_of_length_le]
  rw [List.length_drop, tl_size]
  exact Nat.le_refl _

set_option maxRecDepth 100000 in
set_option maxHeartbeats 2000000 in
theorem rlevels_any (s : ByteArray) (w : World) (hs : s.size ≤ 1048576) :
    Calls Tryz.prog 29 #[.string s] w fun e W' => ∃ v, e = .returned v ∧ W'.ownsRow w.heap.size 9 1 v ((lvs (tl s)).map bs).length (((lvs (tl s)).map bs).map Value.string) ∧ Below w.heap.size w W' := by
  obtain ⟨i0, hi0, hz0, hz1, hz2⟩ := info_parts infoStr
  obtain ⟨LV, hLV⟩ : ∃ LV, (lvs (tl s)).map bs = LV := ⟨_, rfl⟩
  rw [hLV]
  go_enter Tryz.func29, Tryz.ntmps29
  go_wp2
  go_loopg [3, 4, 5] s.size (fun g s3 s4 s5 wx => ∃ (i a : Nat) (pre : List ByteArray), i + g = s.size ∧ a ≤ i ∧ s4 = .int .i64 a ∧ s5 = .int .i64 i ∧ wx.ownsRow w.heap.size 9 1 s3 pre.length (pre.map Value.string) ∧ Below w.heap.size w wx ∧ pre.length ≤ a ∧ LV = pre ++ (lvs ((tl s).drop a)).map bs ∧ (∀ j, a ≤ j → j < i → (tl s)[j]? ≠ some 47))
  case atStart => exact ⟨0, 0, [], by omega, Nat.le_refl _, rfl, rfl, World.ownsRow_nil _ _ _ _, Below.refl _ _, Nat.le_refl _, by rw [← hLV]; rfl, fun j _ h => absurd h (Nat.not_lt_zero _)⟩
  case round =>
    obtain ⟨i, a, pre, hig, hai, rfl, rfl, hown, hB, hpl, hlv, hno⟩ := hrel
    have HL : Hid (LV = pre ++ (lvs ((tl s).drop a)).map bs) := hlv
    have HN : Hid (∀ j, a ≤ j → j < i → (tl s)[j]? ≠ some 47) := hno
    clear hlv hno hLV
    have hBs := hB.size
    cases gk with
    | zero =>
      obtain rfl : i = s.size := by omega
      have c1 : (0 : Int) ≤ (a : Int) := by omega
      have c2 : (a : Int) ≤ (s.size : Int) := by omega
      go_wp2_with (at_builtin; refine wpList_append_own _ rfl _ _ 71 rfl w.heap.size 9 i0 (.string ⟨#[]⟩) 1 16 Tryz.underlying71 hi0 hz0 hz1 hz2 rfl (by decide) _ _ _ rfl (hown.alloc _) ⟨wr.heap.size, 0, none⟩ 1 1 [.string (s.extract a s.size)] rfl rfl (cell_one_new _ _ _) (by intro u hu; simp at hu; subst hu; rfl) (by unfold maxLen; omega) (by omega) (by simp; omega) ?_; intro v1 w5 hown5 hgrow5 hnil5; have hB5 := below_grown (hB.alloc hB.size _) hgrow5 (hown.alloc _) (Nat.le_refl _))
      go_ret
      have e : LV = pre ++ [s.extract a s.size] := by
        rw [show LV = _ from HL, drop_flat _ _ (fun j h1 h2 => HN j h1 (by rw [tl_size] at h2; exact h2)), List.map_cons, List.map_nil, bs_ext_end]
      exact ⟨v1, rfl, by rw [e]; simpa using hown5, hB5⟩
    | succ g =>
      have hi : i < s.size := by omega
      have hxl : Hid ((tl s)[i]? = some (s[i]'hi)) := tl_get s i hi
      by_cases h1 : s[i]'hi = 47
      · have e1 : (((s[i]'hi).toNat : Int) == 47) = true := by rw [u47]; simpa using h1
        have H1 : Hid (s[i]'hi = 47) := h1
        clear h1
        have c1 : (0 : Int) ≤ (a : Int) := by omega
        have c2 : (a : Int) ≤ (i : Int) := by omega
        have c3 : (i : Int) ≤ (s.size : Int) := by omega
        go_wp2_with (at_builtin; refine wpList_append_own _ rfl _ _ 71 rfl w.heap.size 9 i0 (.string ⟨#[]⟩) 1 16 Tryz.underlying71 hi0 hz0 hz1 hz2 rfl (by decide) _ _ _ rfl (hown.alloc _) ⟨wr.heap.size, 0, none⟩ 1 1 [.string (s.extract a i)] rfl rfl (cell_one_new _ _ _) (by intro u hu; simp at hu; subst hu; rfl) (by unfold maxLen; omega) (by omega) (by simp; omega) ?_; intro v1 w5 hown5 hgrow5 hnil5; have hB5 := below_grown (hB.alloc hB.size _) hgrow5 (hown.alloc _) (Nat.le_refl _))
        go_roundg g
        case measure => omega
        case rel =>
          refine ⟨i + 1, i + 1, pre ++ [s.extract a i], by omega, Nat.le_refl _, by simp, by simp, by simpa using hown5, hB5, by rw [List.length_append]; simp only [List.length_cons, List.length_nil]; omega, ?_, fun j h1 h2 => by omega⟩
          rw [show LV = _ from HL, drop_cut (tl s) a i hai (by rw [show (tl s)[i]? = _ from hxl, show s[i]'hi = 47 from H1]) HN, List.map_cons, bs_ext]
          simp
      · have e1 : (((s[i]'hi).toNat : Int) == 47) = false := by rw [u47]; simpa using h1
        have H1 : Hid (¬ s[i]'hi = 47) := h1
        clear h1
        go_wp2
        go_roundg g
        case measure => omega
        case rel =>
          refine ⟨i + 1, a, pre, by omega, by omega, rfl, by simp, hown, hB, hpl, HL, ?_⟩
          intro j h1 h2
          by_cases hji : j < i
          · exact HN j h1 hji
          · obtain rfl : j = i := by omega
            rw [show (tl s)[j]? = some (s[j]'hi) from hxl]
            intro e
            exact H1 (Option.some.inj e)

theorem mem_lens {x : Bs} : ∀ {xs : List Bs}, x ∈ xs → x.length ≤ Lib.lens xs
  | [], h => by simp at h
  | y :: r, h => by
    rcases List.mem_cons.1 h with rfl | h
    · simp [Lib.lens]
    · have := mem_lens h
      simp only [Lib.lens, List.map_cons, List.sum_cons] at this ⊢
      omega

theorem Row.bs {W : World} {b o : Nat} {L : List Bs} (h : Row W b o (L.map bs)) (k : Nat) (hk : k < L.length) : W.cell? ⟨b, o + k, none⟩ = some (.string (bs L[k])) := h k _ (by simp [hk])

set_option maxRecDepth 100000 in
set_option maxHeartbeats 4000000 in
theorem rfilter_yes (s : ByteArray) (w : World) (hT : Tabs w) (hok : okText (tl s) = true) :
    Calls Tryz.prog 28 #[.string s] w fun e w' => e = .returned (.bool (fl (lvs (tl s)))) ∧ Below w.heap.size w w' := by
  have hz := okText_size hok
  have c1 := rplain_any s w (by omega) hT
  rw [hok] at c1
  have c2 := fun w => rlevels_any s w (by omega)
  have hlen : (lvs (tl s)).length ≤ 65536 := by
    rw [lvs_len]
    have := List.count_le_length (a := (47 : UInt8)) (l := tl s)
    rw [tl_size] at this
    omega
  have hsz : ∀ x ∈ lvs (tl s), x.length ≤ 65535 := by
    intro x hx
    have h1 := glue_len (lvs (tl s)) (lvs_ne _)
    rw [glue_lvs, tl_size] at h1
    have h2 := mem_lens hx
    have h3 : (lvs (tl s)).length ≥ 1 := List.length_pos_iff.2 (lvs_ne _)
    omega
  rw [← flR_fl]
  have hne := lvs_ne (tl s)
  generalize lvs (tl s) = L at *
  have hp := List.length_pos_iff.2 hne
  obtain ⟨ANS, hANS⟩ : ∃ ANS, flR L = ANS := ⟨_, rfl⟩
  rw [hANS]
  go_enter Tryz.func28, Tryz.ntmps28
  go_wp2_with fail
  refine c1.mono ?_
  rintro e w1 ⟨rfl, hb1⟩
  go_wp2_with fail
  refine (c2 w1).mono ?_
  rintro e w2 ⟨v, rfl, ho, hb2⟩
  obtain ⟨g1, k1, rfl, q1, q2, q3, r1⟩ := owns_row ho (by simpa using hne)
  rw [List.length_map] at q3 ⊢
  have hB := hb1.trans (hb2.mono hb1.size)
  clear c1 c2 ho hb1 hb2
  go_wp2
  go_loopg [12] L.length (fun g s12 wx => ∃ k : Nat, k + g = L.length ∧ s12 = .int .i64 k ∧ wx = w2 ∧ flR (L.drop k) = ANS)
  case atStart => exact ⟨0, by omega, rfl, rfl, hANS⟩
  case round =>
    obtain ⟨k, hkg, rfl, rfl, hfl⟩ := hrel
    clear hANS
    cases gk with
    | zero =>
      obtain rfl : k = L.length := by omega
      rw [List.drop_length] at hfl
      have hA : ANS = true := hfl.symm
      clear hfl
      go_wp2
      go_ret
      exact ⟨ret_b hA.symm, hB⟩
    | succ g =>
      have hk : k < L.length := by omega
      have cx := r1.bs k hk
      rw [Nat.zero_add] at cx
      rw [List.drop_eq_getElem_cons hk, flR] at hfl
      have hxz : (bs L[k]).size ≤ 1048577 := by
        rw [← tl_size, tl_bs]
        have := hsz _ (List.getElem_mem hk)
        omega
      have hxe : tl (bs L[k]) = L[k] := tl_bs _
      generalize L[k] = x at cx hfl hxz hxe
      generalize bs x = X at cx hxz hxe
      have hem : (L.drop (k + 1)).isEmpty = decide (¬ k + 1 < L.length) := by
        cases h : L.drop (k + 1) with
        | nil => have := List.drop_eq_nil_iff.1 h; simp; omega
        | cons y r =>
          have : ¬ L.length ≤ k + 1 := fun h' => by rw [List.drop_eq_nil_of_le h'] at h; cases h
          simp; omega
      rw [hem] at hfl
      cases hw : wc x with
      | false =>
        have hwX : wc (tl X) = false := by rw [hxe]; exact hw
        simp only [hw, Bool.false_and, Bool.false_eq_true, if_false] at hfl
        clear hxe
        go_wp2_with (go_at_call 36; refine (rhas_any X _ hxz).mono ?_; rintro e w' ⟨rfl, rfl⟩; rw [hwX])
        go_roundg g
        case measure => omega
        case rel => exact ⟨k + 1, by omega, by simp, rfl, hfl⟩
      | true =>
        have hwX : wc (tl X) = true := by rw [hxe]; exact hw
        simp only [hw, Bool.true_and] at hfl
        by_cases h1 : x = pl
        · have h1' : (X.toList == [43]) = true := by rw [show X.toList = x from hxe]; simpa using h1
          simp only [h1, decide_true, Bool.not_true, Bool.false_and, Bool.false_eq_true, if_false] at hfl
          clear h1
          clear hxe
          go_wp2_with (go_at_call 36; refine (rhas_any X _ hxz).mono ?_; rintro e w' ⟨rfl, rfl⟩; rw [hwX])
          go_roundg g
          case measure => omega
          case rel => exact ⟨k + 1, by omega, by simp, rfl, hfl⟩
        · have h1' : (X.toList == [43]) = false := by rw [show X.toList = x from hxe]; simpa using h1
          simp only [h1, decide_false, Bool.not_false, Bool.true_and] at hfl
          by_cases h2 : x = ha
          · have h2' : (X.toList == [35]) = true := by rw [show X.toList = x from hxe]; simpa using h2
            simp only [h2, decide_true, Bool.not_true, Bool.false_or] at hfl
            clear h1 h2
            by_cases h3 : k + 1 < L.length
            · have h3' : (k : Int) < (L.length : Int) - 1 := by omega
              simp only [h3, not_true_eq_false, decide_false, Bool.not_false, if_true] at hfl
              have hA : ANS = false := hfl.symm
              clear hfl
              clear hxe
              go_wp2_with (go_at_call 36; refine (rhas_any X _ hxz).mono ?_; rintro e w' ⟨rfl, rfl⟩; rw [hwX])
              go_ret
              exact ⟨ret_b hA.symm, hB⟩
            · have h3' : ¬ (k : Int) < (L.length : Int) - 1 := by omega
              simp only [h3, not_false_eq_true, decide_true, Bool.not_true, Bool.false_eq_true, if_false] at hfl
              clear hxe
              go_wp2_with (go_at_call 36; refine (rhas_any X _ hxz).mono ?_; rintro e w' ⟨rfl, rfl⟩; rw [hwX])
              go_roundg g
              case measure => omega
              case rel => exact ⟨k + 1, by omega, by simp, rfl, hfl⟩
          · have h2' : (X.toList == [35]) = false := by rw [show X.toList = x from hxe]; simpa using h2
            simp only [h2, decide_false, Bool.not_false, Bool.true_or, if_true] at hfl
            have hA : ANS = false := hfl.symm
            clear hfl h1 h2
            clear hxe
            go_wp2_with (go_at_call 36; refine (rhas_any X _ hxz).mono ?_; rintro e w' ⟨rfl, rfl⟩; rw [hwX])
            go_ret
            exact ⟨ret_b hA.symm, hB⟩

set_option maxHeartbeats 1000000 in
theorem rfilter_any (s : ByteArray) (w : World) (hs : s.size ≤ 9223372036854775807) (hT : Tabs w) :
    Calls Tryz.prog 28 #[.string s] w fun e w' => e = .returned (.bool (isFilter (tl s))) ∧ Below w.heap.size w w' := by
  unfold isFilter
  cases h : okText (tl s) with
  | true => exact rfilter_yes s w hT h
  | false =>
    have c1 := rplain_any s w hs hT
    rw [h] at c1
    rw [Bool.false_and]
    go_enter Tryz.func28, Tryz.ntmps28
    go_wp2_with (go_at_call 35; refine c1.mono ?_; rintro e w' ⟨rfl, hb⟩)
    go_ret
    exact ⟨rfl, hb⟩
end Go.Proofs.YtkgbpildikjoiaaGreatDoor
