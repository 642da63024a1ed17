/- The interfaces' methods, by the package and by the document: the same rows; which kinds lack one, and which have all; no condition. -/
import Derived.Deep.AppendLies
import Derived.Test.YtkgbpildikjoiaaGreatDoorKds
namespace Go.Proofs.YtkgbpildikjoiaaGreatDoor
open Go.RowKit

/-- The row of numbers l lies behind v. -/
def IR (w : World) (v : Value) (l : List Int) : Prop := ∃ (ad : Option Addr) (cap : Nat), v = .slice ad l.length cap ∧ l.length ≤ cap ∧ cap ≤ maxLen ∧
  (l = [] ∨ ∃ g, ad = some ⟨g, 0, none⟩ ∧ ∀ (j : Nat) (x : Int), l[j]? = some x → w.cell? ⟨g, j, none⟩ = some (.int .i64 x))
theorem IR.below {w w' : World} {v : Value} {l : List Int} (h : IR w v l) (hb : Below w.heap.size w w') : IR w' v l := by
  obtain ⟨ad, cap, h1, h2, h3, h4⟩ := h
  refine ⟨ad, cap, h1, h2, h3, ?_⟩
  rcases h4 with h4 | ⟨g, h5, h6⟩
  · exact .inl h4
  · refine .inr ⟨g, h5, fun j x hj => ?_⟩
    have c := h6 j x hj
    exact (hb.cell (p := ⟨g, _, none⟩) (World.block_lt_of_cell? w _ c)).trans c
theorem ret_true {b : Bool} (h : b = true) : Ending.returned (.bool true) = .returned (.bool b) := by rw [h]

set_option maxHeartbeats 1000000 in
theorem refHas_any (k m : Int) (w : World) :
    Calls Tryz.prog 80 #[.int .i64 k, .int .i64 m] w fun e w' => e = .returned (.bool (refHas k m)) ∧ w' = w := by
  by_cases h0 : m = 0
  · subst h0
    show Calls Tryz.prog 80 _ w fun e w' => e = .returned (.bool (k == 4 || k == 5 || k == 7 || k == 8 || k == 9 || k == 11 || k == 12)) ∧ w' = w
    go_enter Tryz.func80, Tryz.ntmps80
    go_wp2
    all_goals (go_ret; first | exact ⟨rfl, rfl⟩ | exact ⟨ret_true (by simp_all), rfl⟩)
  by_cases h1 : m = 1
  · subst h1
    show Calls Tryz.prog 80 _ w fun e w' => e = .returned (.bool (k == 5 || k == 2 || k == 10)) ∧ w' = w
    clear h0
    go_enter Tryz.func80, Tryz.ntmps80
    go_wp2
    all_goals (go_ret; first | exact ⟨rfl, rfl⟩ | exact ⟨ret_true (by simp_all), rfl⟩)
  by_cases h2 : m = 2
  · subst h2
    show Calls Tryz.prog 80 _ w fun e w' => e = .returned (.bool (k == 10 || k == 11 || k == 12)) ∧ w' = w
    clear h0 h1
    go_enter Tryz.func80, Tryz.ntmps80
    go_wp2
    all_goals (go_ret; first | exact ⟨rfl, rfl⟩ | exact ⟨ret_true (by simp_all), rfl⟩)
  by_cases h3 : m = 3
  · subst h3
    show Calls Tryz.prog 80 _ w fun e w' => e = .returned (.bool (k == 11 || k == 12)) ∧ w' = w
    clear h0 h1 h2
    go_enter Tryz.func80, Tryz.ntmps80
    go_wp2
    all_goals (go_ret; first | exact ⟨rfl, rfl⟩ | exact ⟨ret_true (by simp_all), rfl⟩)
  by_cases h4 : m = 4
  · subst h4
    show Calls Tryz.prog 80 _ w fun e w' => e = .returned (.bool (k == 1 || k == 2 || k == 3 || k == 4 || k == 5)) ∧ w' = w
    clear h0 h1 h2 h3
    go_enter Tryz.func80, Tryz.ntmps80
    go_wp2
    all_goals (go_ret; first | exact ⟨rfl, rfl⟩ | exact ⟨ret_true (by simp_all), rfl⟩)
  by_cases h5 : m = 5
  · subst h5
    show Calls Tryz.prog 80 _ w fun e w' => e = .returned (.bool (k == 1 || k == 3)) ∧ w' = w
    clear h0 h1 h2 h3 h4
    go_enter Tryz.func80, Tryz.ntmps80
    go_wp2
    all_goals (go_ret; first | exact ⟨rfl, rfl⟩ | exact ⟨ret_true (by simp_all), rfl⟩)
  have hf : refHas k m = false := by unfold refHas; simp [h0, h1, h2, h3, h4, h5]
  rw [hf]; clear hf
  have g0 : (m == 0) = false := by simpa using h0
  have g1 : (m == 1) = false := by simpa using h1
  have g2 : (m == 2) = false := by simpa using h2
  have g3 : (m == 3) = false := by simpa using h3
  have g4 : (m == 4) = false := by simpa using h4
  have g5 : (m == 5) = false := by simpa using h5
  clear h0 h1 h2 h3 h4 h5
  go_enter Tryz.func80, Tryz.ntmps80
  go_wp2
  go_ret
  exact ⟨rfl, rfl⟩

theorem ir_new (w : World) (l : List Int) (hl : l.length ≤ 3) : IR (w.alloc (.cells ((l.map (Value.int .i64)).toArray) 3)) (.slice (some ⟨w.heap.size, 0, none⟩) l.length l.length) l :=
  ⟨some ⟨w.heap.size, 0, none⟩, l.length, rfl, Nat.le_refl _, by unfold maxLen; omega, .inr ⟨w.heap.size, rfl, fun j x hj => by
    have h := heap_alloc_new w (.cells ((l.map (Value.int .i64)).toArray) 3)
    have : ∀ W : World, W.heap[w.heap.size]? = some (.cells ((l.map (Value.int .i64)).toArray) 3 (0, 0)) → W.cell? ⟨w.heap.size, j, none⟩ = some (.int .i64 x) := fun W hW => by
      simp [World.cell?, hW, hj]
    exact this _ h⟩⟩
set_option maxRecDepth 100000 in
theorem refMethods0 (w : World) : Calls Tryz.prog 63 #[.int .i64 0] w fun e w' => ∃ v, e = .returned v ∧ IR w' v (mths 0) ∧ Below w.heap.size w w' := by
  go_enter Tryz.func63, Tryz.ntmps63
  go_wp2
  go_ret
  exact ⟨_, rfl, ir_new w (mths 0) (by decide), below1 w _⟩
set_option maxRecDepth 100000 in
theorem refMethods1 (w : World) : Calls Tryz.prog 63 #[.int .i64 1] w fun e w' => ∃ v, e = .returned v ∧ IR w' v (mths 1) ∧ Below w.heap.size w w' := by
  go_enter Tryz.func63, Tryz.ntmps63
  go_wp2
  go_ret
  exact ⟨_, rfl, ir_new w (mths 1) (by decide), below1 w _⟩
set_option maxRecDepth 100000 in
theorem refMethods2 (w : World) : Calls Tryz.prog 63 #[.int .i64 2] w fun e w' => ∃ v, e = .returned v ∧ IR w' v (mths 2) ∧ Below w.heap.size w w' := by
  go_enter Tryz.func63, Tryz.ntmps63
  go_wp2
  go_ret
  exact ⟨_, rfl, ir_new w (mths 2) (by decide), below1 w _⟩
set_option maxRecDepth 100000 in
theorem refMethods3 (w : World) : Calls Tryz.prog 63 #[.int .i64 3] w fun e w' => ∃ v, e = .returned v ∧ IR w' v (mths 3) ∧ Below w.heap.size w w' := by
  go_enter Tryz.func63, Tryz.ntmps63
  go_wp2
  go_ret
  exact ⟨_, rfl, ir_new w (mths 3) (by decide), below1 w _⟩
set_option maxRecDepth 100000 in
theorem refMethods4 (w : World) : Calls Tryz.prog 63 #[.int .i64 4] w fun e w' => ∃ v, e = .returned v ∧ IR w' v (mths 4) ∧ Below w.heap.size w w' := by
  go_enter Tryz.func63, Tryz.ntmps63
  go_wp2
  go_ret
  exact ⟨_, rfl, ir_new w (mths 4) (by decide), below1 w _⟩
set_option maxRecDepth 100000 in
theorem refMethods5 (w : World) : Calls Tryz.prog 63 #[.int .i64 5] w fun e w' => ∃ v, e = .returned v ∧ IR w' v (mths 5) ∧ Below w.heap.size w w' := by
  go_enter Tryz.func63, Tryz.ntmps63
  go_wp2
  go_ret
  exact ⟨_, rfl, ir_new w (mths 5) (by decide), below1 w _⟩
set_option maxRecDepth 100000 in
theorem refMethods6 (w : World) : Calls Tryz.prog 63 #[.int .i64 6] w fun e w' => ∃ v, e = .returned v ∧ IR w' v (mths 6) ∧ Below w.heap.size w w' := by
  go_enter Tryz.func63, Tryz.ntmps63
  go_wp2
  go_ret
  exact ⟨_, rfl, ir_new w (mths 6) (by decide), below1 w _⟩
set_option maxRecDepth 100000 in
theorem refMethods7 (w : World) : Calls Tryz.prog 63 #[.int .i64 7] w fun e w' => ∃ v, e = .returned v ∧ IR w' v (mths 7) ∧ Below w.heap.size w w' := by
  go_enter Tryz.func63, Tryz.ntmps63
  go_wp2
  go_ret
  exact ⟨_, rfl, ir_new w (mths 7) (by decide), below1 w _⟩
set_option maxRecDepth 100000 in
theorem refMethods8 (w : World) : Calls Tryz.prog 63 #[.int .i64 8] w fun e w' => ∃ v, e = .returned v ∧ IR w' v (mths 8) ∧ Below w.heap.size w w' := by
  go_enter Tryz.func63, Tryz.ntmps63
  go_wp2
  go_ret
  exact ⟨_, rfl, ir_new w (mths 8) (by decide), below1 w _⟩
set_option maxRecDepth 100000 in
theorem refMethods9 (w : World) : Calls Tryz.prog 63 #[.int .i64 9] w fun e w' => ∃ v, e = .returned v ∧ IR w' v (mths 9) ∧ Below w.heap.size w w' := by
  go_enter Tryz.func63, Tryz.ntmps63
  go_wp2
  go_ret
  exact ⟨_, rfl, ir_new w (mths 9) (by decide), below1 w _⟩
set_option maxRecDepth 100000 in
theorem refMethodsNo (f : Int) (h : f < 0 ∨ 9 < f) (w : World) : Calls Tryz.prog 63 #[.int .i64 f] w fun e w' => ∃ v, e = .returned v ∧ IR w' v [] ∧ Below w.heap.size w w' := by
  have h0 : (f == 0) = false := by simp; omega
  have h1 : (f == 1) = false := by simp; omega
  have h2 : (f == 2) = false := by simp; omega
  have h3 : (f == 3) = false := by simp; omega
  have h4 : (f == 4) = false := by simp; omega
  have h5 : (f == 5) = false := by simp; omega
  have h6 : (f == 6) = false := by simp; omega
  have h7 : (f == 7) = false := by simp; omega
  have h8 : (f == 8) = false := by simp; omega
  have h9 : (f == 9) = false := by simp; omega
  clear h
  go_enter Tryz.func63, Tryz.ntmps63
  go_wp2
  go_ret
  exact ⟨_, rfl, ⟨none, 0, rfl, Nat.le_refl _, by unfold maxLen; omega, .inl rfl⟩, Below.refl _ _⟩
theorem mths_no (f : Int) (h : f < 0 ∨ 9 < f) : mths f = [] := by
  unfold mths
  rw [if_neg (show ¬ f = 0 by omega)]
  rw [if_neg (show ¬ f = 1 by omega)]
  rw [if_neg (show ¬ f = 2 by omega)]
  rw [if_neg (show ¬ f = 3 by omega)]
  rw [if_neg (show ¬ f = 4 by omega)]
  rw [if_neg (show ¬ f = 5 by omega)]
  rw [if_neg (show ¬ f = 6 by omega)]
  rw [if_neg (show ¬ f = 7 by omega)]
  rw [if_neg (show ¬ f = 8 by omega)]
  rw [if_neg (show ¬ f = 9 by omega)]
theorem refMethods_any (f : Int) (w : World) : Calls Tryz.prog 63 #[.int .i64 f] w fun e w' => ∃ v, e = .returned v ∧ IR w' v (mths f) ∧ Below w.heap.size w w' := by
  by_cases h : f < 0 ∨ 9 < f
  · rw [mths_no f h]; exact refMethodsNo f h w
  have hk : f = 0 ∨ f = 1 ∨ f = 2 ∨ f = 3 ∨ f = 4 ∨ f = 5 ∨ f = 6 ∨ f = 7 ∨ f = 8 ∨ f = 9 := by omega
  rcases hk with rfl | rfl | rfl | rfl | rfl | rfl | rfl | rfl | rfl | rfl
  · exact refMethods0 w
  · exact refMethods1 w
  · exact refMethods2 w
  · exact refMethods3 w
  · exact refMethods4 w
  · exact refMethods5 w
  · exact refMethods6 w
  · exact refMethods7 w
  · exact refMethods8 w
  · exact refMethods9 w

theorem mths_bd (f : Int) : (mths f).length ≤ 3 ∧ ∀ m ∈ mths f, 0 ≤ m ∧ m ≤ 5 := by
  by_cases h : f < 0 ∨ 9 < f
  · rw [mths_no f h]; simp
  have hk : f = 0 ∨ f = 1 ∨ f = 2 ∨ f = 3 ∨ f = 4 ∨ f = 5 ∨ f = 6 ∨ f = 7 ∨ f = 8 ∨ f = 9 := by omega
  rcases hk with rfl | rfl | rfl | rfl | rfl | rfl | rfl | rfl | rfl | rfl <;> decide
theorem lackL_cons (k m : Int) (l : List Int) : lackL k (m :: l) = if refHas k m = true then lackL k l else m := rfl

set_option maxRecDepth 100000 in
set_option maxHeartbeats 1000000 in
theorem lacks_any (k f : Int) (w : World) : Calls Tryz.prog 64 #[.int .i64 k, .int .i64 f] w fun e w' => e = .returned (.int .i64 (lacks k f)) ∧ Below w.heap.size w w' := by
  by_cases h0 : k < 0
  · have e : lacks k f = -1 := by unfold lacks; rw [if_pos (.inl h0)]
    rw [e]; clear e
    go_enter Tryz.func64, Tryz.ntmps64
    go_wp2
    go_ret
    exact ⟨rfl, Below.refl _ _⟩
  by_cases h1 : 14 ≤ k
  · have e : lacks k f = -1 := by unfold lacks; rw [if_pos (.inr h1)]
    rw [e]; clear e
    go_enter Tryz.func64, Tryz.ntmps64
    go_wp2
    go_ret
    exact ⟨rfl, Below.refl _ _⟩
  have e : lacks k f = lackL k (mths f) := by unfold lacks; rw [if_neg (by omega)]
  rw [e]; clear e
  have H := Lib.hid (refMethods_any f)
  have hbd := (mths_bd f).1
  generalize mths f = l at H hbd
  have HR := Lib.hid (refHas_any k)
  go_enter Tryz.func64, Tryz.ntmps64
  go_wp2_with fail
  refine (H.out _).mono ?_
  rintro e w1 ⟨v, rfl, ir, b1⟩
  obtain ⟨ad, cap, rfl, hc, hm, hr⟩ := ir
  have HK := Lib.hid hr
  clear hr H
  unfold maxLen at hm
  go_wp2_with fail
  go_loopw [6] (fun si wr => ∃ (j : Nat), si = .int .i64 j ∧ j ≤ l.length ∧ lackL k (l.drop j) = lackL k l ∧ wr = w1) (fun si _ => l.length - (intOf si).toNat)
  case atStart => exact ⟨0, rfl, Nat.zero_le _, rfl, rfl⟩
  case round =>
    obtain ⟨j, rfl, hj, hinv, rfl⟩ := hrel
    have HV := Lib.hid hinv
    clear hinv
    by_cases hlt : j < l.length
    · have hne : l ≠ [] := by intro e; rw [e] at hlt; exact absurd hlt (Nat.not_lt_zero _)
      rcases HK.out with hk | ⟨g, hk1, hk2⟩
      · exact absurd hk hne
      subst hk1
      have x0 := hk2 j _ (List.getElem?_eq_getElem hlt)
      have hv := HV.out
      rw [drop_atW l j hlt, lackL_cons] at hv
      clear HV hk2
      generalize l[j] = m at hv x0
      go_wp2_with fail
      refine (HR.out m _).mono ?_
      rintro e w2 ⟨he, rfl⟩
      cases hb : refHas k m with
      | true =>
        rw [hb] at he
        rw [if_pos hb] at hv
        have HW := Lib.hid hv
        clear hv hb
        subst he
        go_wp2_with fail
        exact ⟨⟨j + 1, by go_num, by omega, HW.out, trivial⟩, by simp [intOf]; omega⟩
      | false =>
        rw [hb] at he
        rw [if_neg (by rw [hb]; decide)] at hv
        have HW := Lib.hid hv
        clear hv hb
        subst he
        go_wp2_with fail
        go_ret
        exact ⟨by rw [← HW.out]; rfl, b1⟩
    · have hje : j = l.length := by omega
      have hv := HV.out
      rw [hje, List.drop_length] at hv
      have HW := Lib.hid hv
      clear hv HV
      go_wp2_with fail
      go_ret
      exact ⟨by rw [← HW.out]; rfl, b1⟩

set_option maxRecDepth 100000 in
set_option maxHeartbeats 1000000 in
theorem refImpl_any (k f : Int) (w : World) : Calls Tryz.prog 51 #[.int .i64 k, .int .i64 f] w fun e w' => e = .returned (.bool (impl k f)) ∧ Below w.heap.size w w' := by
  by_cases h0 : 0 < k
  · by_cases h1 : k < 14
    · have H := Lib.hid (refMethods_any f)
      have HL : Hid (∀ wx, Below w.heap.size w wx → Calls Tryz.prog 64 #[.int .i64 k, .int .i64 f] wx fun e w' => e = .returned (.int .i64 (lacks k f)) ∧ Below w.heap.size w w') := fun wx hx => since (lacks_any k f wx) hx
      have e : impl k f = (decide (0 < (mths f).length) && (lacks k f == -1)) := by unfold impl; simp [h0, h1]
      rw [e]; clear e
      generalize lacks k f = z at HL
      generalize mths f = l at H
      by_cases hl : 0 < l.length
      · have hl' : (0 : Int) < (l.length : Int) := by omega
        rw [decide_eq_true hl, Bool.true_and]
        go_enter Tryz.func51, Tryz.ntmps51
        go_wp2_with fail
        refine (H.out _).mono ?_
        rintro e w1 ⟨v, rfl, ir, b1⟩
        obtain ⟨ad, cap, rfl, -, -, -⟩ := ir
        go_wp2_with fail
        refine (HL.out _ b1).mono ?_
        rintro e w2 ⟨rfl, b2⟩
        go_wp2
        all_goals go_ret
        all_goals exact ⟨ret_b (by simp), b2⟩
      · have hl' : ¬ ((0 : Int) < (l.length : Int)) := by omega
        rw [decide_eq_false hl, Bool.false_and]
        go_enter Tryz.func51, Tryz.ntmps51
        go_wp2_with fail
        refine (H.out _).mono ?_
        rintro e w1 ⟨v, rfl, ir, b1⟩
        obtain ⟨ad, cap, rfl, -, -, -⟩ := ir
        go_wp2_with fail
        go_ret
        exact ⟨rfl, b1⟩
    · have e : impl k f = false := impl_no (by omega) f
      rw [e]; clear e
      go_enter Tryz.func51, Tryz.ntmps51
      go_wp2
      go_ret
      exact ⟨rfl, Below.refl _ _⟩
  · have e : impl k f = false := impl_no (by omega) f
    rw [e]; clear e
    go_enter Tryz.func51, Tryz.ntmps51
    go_wp2
    go_ret
    exact ⟨rfl, Below.refl _ _⟩
end Go.Proofs.YtkgbpildikjoiaaGreatDoor
