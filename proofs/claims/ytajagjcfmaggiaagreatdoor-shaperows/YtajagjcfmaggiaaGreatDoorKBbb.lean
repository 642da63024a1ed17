/- The interfaces' methods, by the package and by the document: the same rows; which kinds lack one, and which have all; no condition. -/
import Derived.Deep.AppendLies
import Derived.Test.YtajagjcfmaggiaaGreatDoorKBba
import Derived.Test.YtajagjcfmaggiaaGreatDoorKBai
namespace Go.Proofs.YtajagjcfmaggiaaGreatDoor
open Go.RowKit

/-- The row of numbers l lies behind v. -/
def IR (w : World) (v : Value) (l : List Int) : Prop := ∃ (ad : Option Addr) (cap : Nat), v = .slice ad l.length cap ∧ l.length ≤ cap ∧ cap ≤ maxLen ∧
  (l = [] ∨ ∃ g, ad = some ⟨g, 0, none⟩ ∧ ∀ (j : Nat) (x : Int), l[j]? = some x → w.cell? ⟨g, j, none⟩ = some (.int .i64 x))
theorem IR.below {w w' : World} {v : Value} {l : List Int} (h : IR w v l) (hb : Below w.heap.size w w') : IR w' v l := by
  obtain ⟨ad, cap, h1, h2, h3, h4⟩ := h
  refine ⟨ad, cap, h1, h2, h3, ?_⟩
  rcases h4 with h4 | ⟨g, h5, h6⟩
  · exact .inl h4
  · refine .inr ⟨g, h5, fun j x hj => ?_⟩
    have c := h6 j x hj
    exact (hb.cell (p := ⟨g, _, none⟩) (World.block_lt_of_cell? w _ c)).trans c
theorem ret_true {b : Bool} (h : b = true) : Ending.returned (.bool true) = .returned (.bool b) := by rw [h]

set_option maxHeartbeats 1000000 in
theorem refHas_any (k m : Int) (w : World) :
    Calls Tryz.prog 40 #[.int .i64 k, .int .i64 m] w fun e w' => e = .returned (.bool (refHas k m)) ∧ w' = w := by
  by_cases h0 : m = 0
  · subst h0
    show Calls Tryz.prog 40 _ w fun e w' => e = .returned (.bool (k == 4 || k == 5 || k == 7 || k == 8 || k == 9 || k == 11 || k == 12)) ∧ w' = w
    go_enter Tryz.func40, Tryz.ntmps40
    go_wp2
    all_goals (go_ret; first | exact ⟨rfl, rfl⟩ | exact ⟨ret_true (by simp_all), rfl⟩)
  by_cases h1 : m = 1
  · subst h1
    show Calls Tryz.prog 40 _ w fun e w' => e = .returned (.bool (k == 5 || k == 2 || k == 10)) ∧ w' = w
    clear h0
    go_enter Tryz.func40, Tryz.ntmps40
    go_wp2
    all_goals (go_ret; first | exact ⟨rfl, rfl⟩ | exact ⟨ret_true (by simp_all), rfl⟩)
  by_cases h2 : m = 2
  · subst h2
    show Calls Tryz.prog 40 _ w fun e w' => e = .returned (.bool (k == 10 || k == 11 || k == 12)) ∧ w' = w
    clear h0 h1
    go_enter Tryz.func40, Tryz.ntmps40
    go_wp2
    all_goals (go_ret; first | exact ⟨rfl, rfl⟩ | exact ⟨ret_true (by simp_all), rfl⟩)
  by_cases h3 : m = 3
  · subst h3
    show Calls Tryz.prog 40 _ w fun e w' => e = .returned (.bool (k == 11 || k == 12)) ∧ w' = w
    clear h0 h1 h2
    go_enter Tryz.func40, Tryz.ntmps40
    go_wp2
    all_goals (go_ret; first | exact ⟨rfl, rfl⟩ | exact ⟨ret_true (by simp_all), rfl⟩)
  by_cases h4 : m = 4
  · subst h4
    show Calls Tryz.prog 40 _ w fun e w' => e = .returned (.bool (k == 1 || k == 2 || k == 3 || k == 4 || k == 5)) ∧ w' = w
    clear h0 h1 h2 h3
    go_enter Tryz.func40, Tryz.ntmps40
    go_wp2
    all_goals (go_ret; first | exact ⟨rfl, rfl⟩ | exact ⟨ret_true (by simp_all), rfl⟩)
  by_cases h5 : m = 5
  · subst h5
    show Calls Tryz.prog 40 _ w fun e w' => e = .returned (.bool (k == 1 || k == 3)) ∧ w' = w
    clear h0 h1 h2 h3 h4
    go_enter Tryz.func40, Tryz.ntmps40
    go_wp2
    all_goals (go_ret; first | exact ⟨rfl, rfl⟩ | exact ⟨ret_true (by simp_all), rfl⟩)
  have hf : refHas k m = false := by unfold refHas; simp [h0, h1, h2, h3, h4, h5]
  rw [hf]; clear hf
  have g0 : (m == 0) = false := by simpa using h0
  have g1 : (m == 1) = false := by simpa using h1
  have g2 : (m == 2) = false := by simpa using h2
  have g3 : (m == 3) = false := by simpa using h3
  have g4 : (m == 4) = false := by simpa using h4
  have g5 : (m == 5) = false := by simpa using h5
  clear h0 h1 h2 h3 h4 h5
  go_enter Tryz.func40, Tryz.ntmps40
  go_wp2
  go_ret
  exact ⟨rfl, rfl⟩

theorem ir_new (w : World) (l : List Int) (hl : l.length ≤ 3) : IR (w.alloc (.cells ((l.map (Value.int .i64)).toArray) 3)) (.slice (some ⟨w.heap.size, 0, none⟩) l.length l.length) l :=
  ⟨some ⟨w.heap.size, 0, none⟩, l.length, rfl, Nat.le_refl _, by unfold maxLen; omega, .inr ⟨w.heap.size, rfl, fun j x hj => by
    have h := heap_alloc_new w (.cells ((l.map (Value.int .i64)).toArray) 3)
    have : ∀ W : World, W.heap[w.heap.size]? = some (.cells ((l.map (Value.int .i64)).toArray) 3 (0, 0)) → W.cell? ⟨w.heap.size, j, none⟩ = some (.int .i64 x) := fun W hW => by
      simp [World.cell?, hW, hj]
    exact this _ h⟩⟩
set_option maxRecDepth 100000 in
theorem refMethods0 (w : World) : Calls Tryz.prog 68 #[.int .i64 0] w fun e w' => ∃ v, e = .returned v ∧ IR w' v (mths 0) ∧ Below w.heap.size w w' := by
  go_enter Tryz.func68, Tryz.ntmps68
  go_wp2
  go_ret
  exact ⟨_, rfl, ir_new w (mths 0) (by decide), below1 w _⟩
set_option maxRecDepth 100000 in
theorem refMethods1 (w : World) : Calls Tryz.prog 68 #[.int .i64 1] w fun e w' => ∃ v, e = .returned v ∧ IR w' v (mths 1) ∧ Below w.heap.size w w' := by
  go_enter Tryz.func68, Tryz.ntmps68
  go_wp2
  go_ret
  exact ⟨_, rfl, ir_new w (mths 1) (by decide), below1 w _⟩
set_option maxRecDepth 100000 in
theorem refMethods2 (w : World) : Calls Tryz.prog 68 #[.int .i64 2] w fun e w' => ∃ v, e = .returned v ∧ IR w' v (mths 2) ∧ Below w.heap.size w w' := by
  go_enter Tryz.func68, Tryz.ntmps68
  go_wp2
  go_ret
  exact ⟨_, rfl, ir_new w (mths 2) (by decide), below1 w _⟩
set_option maxRecDepth 100000 in
theorem refMethods3 (w : World) : Calls Tryz.prog 68 #[.int .i64 3] w fun e w' => ∃ v, e = .returned v ∧ IR w' v (mths 3) ∧ Below w.heap.size w w' := by
  go_enter Tryz.func68, Tryz.ntmps68
  go_wp2
  go_ret
  exact ⟨_, rfl, ir_new w (mths 3) (by decide), below1 w _⟩
set_option maxRecDepth 100000 in
theorem refMethods4 (w : World) : Calls Tryz.prog 68 #[.int .i64 4] w fun e w' => ∃ v, e = .returned v ∧ IR w' v (mths 4) ∧ Below w.heap.size w w' := by
  go_enter Tryz.func68, Tryz.ntmps68
  go_wp2
  go_ret
  exact ⟨_, rfl, ir_new w (mths 4) (by decide), below1 w _⟩
set_option maxRecDepth 100000 in
theorem refMethods5 (w : World) : Calls Tryz.prog 68 #[.int .i64 5] w fun e w' => ∃ v, e = .returned v ∧ IR w' v (mths 5) ∧ Below w.heap.size w w' := by
  go_enter Tryz.func68, Tryz.ntmps68
  go_wp2
  go_ret
  exact ⟨_, rfl, ir_new w (mths 5) (by decide), below1 w _⟩
set_option maxRecDepth 100000 in
theorem refMethods6 (w : World) : Calls Tryz.prog 68 #[.int .i64 6] w fun e w' => ∃ v, e = .returned v ∧ IR w' v (mths 6) ∧ Below w.heap.size w w' := by
  go_enter Tryz.func68, Tryz.ntmps68
  go_wp2
  go_ret
  exact ⟨_, rfl, ir_new w (mths 6) (by decide), below1 w _⟩
set_option maxRecDepth 100000 in
theorem refMethods7 (w : World) : Calls Tryz.prog 68 #[.int .i64 7] w fun e w' => ∃ v, e = .returned v ∧ IR w' v (mths 7) ∧ Below w.heap.size w w' := by
  go_enter Tryz.func68, Tryz.ntmps68
  go_wp2
  go_ret
  exact ⟨_, rfl, ir_new w (mths 7) (by decide), below1 w _⟩
set_option maxRecDepth 100000 in
theorem refMethods8 (w : World) : Calls Tryz.prog 68 #[.int .i64 8] w fun e w' => ∃ v, e = .returned v ∧ IR w' v (mths 8) ∧ Below w.heap.size w w' := by
  go_enter Tryz.func68, Tryz.ntmps68
  go_wp2
  go_ret
  exact ⟨_, rfl, ir_new w (mths 8) (by decide), below1 w _⟩
set_option maxRecDepth 100000 in
theorem refMethods9 (w : World) : Calls Tryz.prog 68 #[.int .i64 9] w fun e w' => ∃ v, e = .returned v ∧ IR w' v (mths 9) ∧ Below w.heap.size w w' := by
  go_enter Tryz.func68, Tryz.ntmps68
  go_wp2
  go_ret
  exact ⟨_, rfl, ir_new w (mths 9) (by decide), below1 w _⟩
set_option maxRecDepth 100000 in
theorem refMethodsNo (f : Int) (h : f < 0 ∨ 9 < f) (w : World) : Calls Tryz.prog 68 #[.int .i64 f] w fun e w' => ∃ v, e = .returned v ∧ IR w' v [] ∧ Below w.heap.size w w' := by
  have h0 : (f == 0) = false := by simp; omega
  have h1 : (f == 1) = false := by simp; omega
  have h2 : (f == 2) = false := by simp; omega
  have h3 : (f == 3) = false := by simp; omega
  have h4 : (f == 4) = false := by simp; omega
  have h5 : (f == 5) = false := by simp; omega
  have h6 : (f == 6) = false := by simp; omega
  have h7 : (f == 7) = false := by simp; omega
  have h8 : (f == 8) = false := by simp; omega
  have h9 : (f == 9) = false := by simp; omega
  clear h
  go_enter Tryz.func68, Tryz.ntmps68
  go_wp2
  go_ret
  exact ⟨_, rfl, ⟨none, 0, rfl, Nat.le_refl _, by unfold maxLen; omega, .inl rfl⟩, Below.refl _ _⟩
theorem mths_no (f : Int) (h : f < 0 ∨ 9 < f) : mths f = [] := by
  unfold mths
  rw [if_neg (show ¬ f = 0 by omega)]
  rw [if_neg (show ¬ f = 1 by omega)]
  rw [if_neg (show ¬ f = 2 by omega)]
  rw [if_neg (show ¬ f = 3 by omega)]
  rw [if_neg (show ¬ f = 4 by omega)]
  rw [if_neg (show ¬ f = 5 by omega)]
  rw [if_neg (show ¬ f = 6 by omega)]
  rw [if_neg (show ¬ f = 7 by omega)]
  rw [if_neg (show ¬ f = 8 by omega)]
  rw [if_neg (show ¬ f = 9 by omega)]
theorem refMethods_any (f : Int) (w : World) : Calls Tryz.prog 68 #[.int .i64 f] w fun e w' => ∃ v, e = .returned v ∧ IR w' v (mths f) ∧ Below w.heap.size w w' := by
  by_cases h : f < 0 ∨ 9 < f
  · rw [mths_no f h]; exact refMethodsNo f h w
  have hk : f = 0 ∨ f = 1 ∨ f = 2 ∨ f = 3 ∨ f = 4 ∨ f = 5 ∨ f = 6 ∨ f = 7 ∨ f = 8 ∨ f = 9 := by omega
  rcases hk with rfl | rfl | rfl | rfl | rfl | rfl | rfl | rfl | rfl | rfl
  · exact refMethods0 w
  · exact refMethods1 w
  · exact refMethods2 w
  · exact refMethods3 w
  · exact refMethods4 w
  · exact refMethods5 w
  · exact refMethods6 w
  · exact refMethods7 w
  · exact refMethods8 w
  · exact refMethods9 w

theorem mths_bd (f : Int) : (mths f).length ≤ 3 ∧ ∀ m ∈ mths f, 0 ≤ m ∧ m ≤ 5 := by
  by_cases h : f < 0 ∨ 9 < f
  · rw [mths_no f h]; simp
  have hk : f = 0 ∨ f = 1 ∨ f = 2 ∨ f = 3 ∨ f = 4 ∨ f = 5 ∨ f = 6 ∨ f = 7 ∨ f = 8 ∨ f = 9 := by omega
  rcases hk with rfl | rfl | rfl | rfl | rfl | rfl | rfl | rfl | rfl | rfl <;> decide
theorem lackL_cons (k m : Int) (l : List Int) : lackL k (m :: l) = if refHas k m = true then lackL k l else m := rfl

set_option maxRecDepth 100000 in
set_option maxHeartbeats 1000000 in
theorem lacks_any (k f : Int) (w : World) : Calls Tryz.prog 39 #[.int .i64 k, .int .i64 f] w fun e w' => e = .returned (.int .i64 (lacks k f)) ∧ Below w.heap.size w w' := by
  by_cases h0 : k < 0
  · have e : lacks k f = -1 := by unfold lacks; rw [if_pos (.inl h0)]
    rw [e]; clear e
    go_enter Tryz.func39, Tryz.ntmps39
    go_wp2
    go_ret
    exact ⟨rfl, Below.refl _ _⟩
  by_cases h1 : 14 ≤ k
  · have e : lacks k f = -1 := by unfold lacks; rw [if_pos (.inr h1)]
    rw [e]; clear e
    go_enter Tryz.func39, Tryz.ntmps39
    go_wp2
    go_ret
    exact ⟨rfl, Below.refl _ _⟩
  have e : lacks k f = lackL k (mths f) := by unfold lacks; rw [if_neg (by omega)]
  rw [e]; clear e
  have H := Lib.hid (refMethods_any f)
  have hbd := (mths_bd f).1
  generalize mths f = l at H hbd
  have HR := Lib.hid (refHas_any k)
  go_enter Tryz.func39, Tryz.ntmps39
  go_wp2_with fail
  refine (H.out _).mono ?_
  rintro e w1 ⟨v, rfl, ir, b1⟩
  obtain ⟨ad, cap, rfl, hc, hm, hr⟩ := ir
  have HK := Lib.hid hr
  clear hr H
  unfold maxLen at hm
  go_wp2_with fail
  go_loopw [6] (fun si wr => ∃ (j : Nat), si = .int .i64 j ∧ j ≤ l.length ∧ lackL k (l.drop j) = lackL k l ∧ wr = w1) (fun si _ => l.length - (intOf si).toNat)
  case atStart => exact ⟨0, rfl, Nat.zero_le _, rfl, rfl⟩
  case round =>
    obtain ⟨j, rfl, hj, hinv, rfl⟩ := hrel
    have HV := Lib.hid hinv
    clear hinv
    by_cases hlt : j < l.length
    · have hne : l ≠ [] := by intro e; rw [e] at hlt; exact absurd hlt (Nat.not_lt_zero _)
      rcases HK.out with hk | ⟨g, hk1, hk2⟩
      · exact absurd hk hne
      subst hk1
      have x0 := hk2 j _ (List.getElem?_eq_getElem hlt)
      have hv := HV.out
      rw [drop_atW l j hlt, lackL_cons] at hv
      clear HV hk2
      generalize l[j] = m at hv x0
      go_wp2_with fail
      refine (HR.out m _).mono ?_
      rintro e w2 ⟨he, rfl⟩
      cases hb : refHas k m with
      | true =>
        rw [hb] at he
        rw [if_pos hb] at hv
        have HW := Lib.hid hv
        clear hv hb
        subst he
        go_wp2_with fail
        exact ⟨⟨j + 1, by go_num, by omega, HW.out, trivial⟩, by simp [intOf]; omega⟩
      | false =>
        rw [hb] at he
        rw [if_neg (by rw [hb]; decide)] at hv
        have HW := Lib.hid hv
        clear hv hb
        subst he
        go_wp2_with fail
        go_ret
        exact ⟨by rw [← HW.out]; rfl, b1⟩
    · have hje : j = l.length := by omega
      have hv := HV.out
      rw [hje, List.drop_length] at hv
      have HW := Lib.hid hv
      clear hv HV
      go_wp2_with fail
      go_ret
      exact ⟨by rw [← HW.out]; rfl, b1⟩

set_option maxRecDepth 100000 in
set_option maxHeartbeats 1000000 in
theorem refImpl_any (k f : Int) (w : World) : Calls Tryz.prog 48 #[.int .i64 k, .int .i64 f] w fun e w' => e = .returned (.bool (impl k f)) ∧ Below w.heap.size w w' := by
  by_cases h0 : 0 < k
  · by_cases h1 : k < 14
    · have H := Lib.hid (refMethods_any f)
      have HL : Hid (∀ wx, Below w.heap.size w wx → Calls Tryz.prog 39 #[.int .i64 k, .int .i64 f] wx fun e w' => e = .returned (.int .i64 (lacks k f)) ∧ Below w.heap.size w w') := fun wx hx => since (lacks_any k f wx) hx
      have e : impl k f = (decide (0 < (mths f).length) && (lacks k f == -1)) := by unfold impl; simp [h0, h1]
      rw [e]; clear e
      generalize lacks k f = z at HL
      generalize mths f = l at H
      by_cases hl : 0 < l.length
      · have hl' : (0 : Int) < (l.length : Int) := by omega
        rw [decide_eq_true hl, Bool.true_and]
        go_enter Tryz.func48, Tryz.ntmps48
        go_wp2_with fail
        refine (H.out _).mono ?_
        rintro e w1 ⟨v, rfl, ir, b1⟩
        obtain ⟨ad, cap, rfl, -, -, -⟩ := ir
        go_wp2_with fail
        refine (HL.out _ b1).mono ?_
        rintro e w2 ⟨rfl, b2⟩
        go_wp2
        all_goals go_ret
        all_goals exact ⟨ret_b (by simp), b2⟩
      · have hl' : ¬ ((0 : Int) < (l.length : Int)) := by omega
        rw [decide_eq_false hl, Bool.false_and]
        go_enter Tryz.func48, Tryz.ntmps48
        go_wp2_with fail
        refine (H.out _).mono ?_
        rintro e w1 ⟨v, rfl, ir, b1⟩
        obtain ⟨ad, cap, rfl, -, -, -⟩ := ir
        go_wp2_with fail
        go_ret
        exact ⟨rfl, b1⟩
    · have e : impl k f = false := impl_no (by omega) f
      rw [e]; clear e
      go_enter Tryz.func48, Tryz.ntmps48
      go_wp2
      go_ret
      exact ⟨rfl, Below.refl _ _⟩
  · have e : impl k f = false := impl_no (by omega) f
    rw [e]; clear e
    go_enter Tryz.func48, Tryz.ntmps48
    go_wp2
    go_ret
    exact ⟨rfl, Below.refl _ _⟩
end Go.Proofs.YtajagjcfmaggiaaGreatDoor
/- The package's Has at any two numbers: the document's answer; no condition. -/
namespace Go.Proofs.YtajagjcfmaggiaaGreatDoor
open Go.RowKit

theorem faceA0 {k : Int} {u : Value} (hk : Kd k u) : ∃ x, ∀ w, (Instr.typeAssert u 20 204 true).run Tryz.prog w = .ok (.tuple #[x, .bool (refHas k 0)]) w := by
  rcases hk.cases with ⟨h0, rfl⟩ | ⟨rfl, a, rfl⟩ | ⟨rfl, a, rfl⟩ | ⟨rfl, a, rfl⟩ | ⟨rfl, a, rfl⟩ | ⟨rfl, a, rfl⟩ | ⟨rfl, a, rfl⟩ | ⟨rfl, a, rfl⟩ | ⟨rfl, a, rfl⟩ | ⟨rfl, a, b, rfl, ha, hb⟩ | ⟨rfl, c, a, rfl⟩ | ⟨rfl, a, rfl⟩ | ⟨rfl, rfl⟩ | ⟨rfl, rfl⟩
  · have : refHas k 0 = false := by unfold refHas; simp; omega
    rw [this]; exact ⟨.nilIface, fun w => assert_nil Tryz.underlying204 (by kernel_rfl)⟩
  · exact ⟨.nilIface, fun w => run_typeAssert_lacksB Tryz.underlying204 (by kernel_rfl) (by kernel_rfl) _ _ w⟩
  · exact ⟨.nilIface, fun w => run_typeAssert_lacksB Tryz.underlying204 (by kernel_rfl) (by kernel_rfl) _ _ w⟩
  · exact ⟨.nilIface, fun w => run_typeAssert_lacksB Tryz.underlying204 (by kernel_rfl) (by kernel_rfl) _ _ w⟩
  · exact ⟨_, fun w => run_typeAssert_hasB Tryz.underlying204 (by kernel_rfl) _ _ w⟩
  · exact ⟨_, fun w => run_typeAssert_hasB Tryz.underlying204 (by kernel_rfl) _ _ w⟩
  · exact ⟨.nilIface, fun w => run_typeAssert_lacksB Tryz.underlying204 (by kernel_rfl) (by kernel_rfl) _ _ w⟩
  · exact ⟨_, fun w => run_typeAssert_hasB Tryz.underlying204 (by kernel_rfl) _ _ w⟩
  · exact ⟨_, fun w => run_typeAssert_hasB Tryz.underlying204 (by kernel_rfl) _ _ w⟩
  · exact ⟨_, fun w => run_typeAssert_hasB Tryz.underlying204 (by kernel_rfl) _ _ w⟩
  · exact ⟨.nilIface, fun w => run_typeAssert_lacksB Tryz.underlying204 (by kernel_rfl) (by kernel_rfl) _ _ w⟩
  · exact ⟨_, fun w => run_typeAssert_hasB Tryz.underlying204 (by kernel_rfl) _ _ w⟩
  · exact ⟨_, fun w => run_typeAssert_hasB Tryz.underlying204 (by kernel_rfl) _ _ w⟩
  · exact ⟨.nilIface, fun w => run_typeAssert_lacksB Tryz.underlying204 (by kernel_rfl) (by kernel_rfl) _ _ w⟩
theorem faceA1 {k : Int} {u : Value} (hk : Kd k u) : ∃ x, ∀ w, (Instr.typeAssert u 20 98 true).run Tryz.prog w = .ok (.tuple #[x, .bool (refHas k 1)]) w := by
  rcases hk.cases with ⟨h0, rfl⟩ | ⟨rfl, a, rfl⟩ | ⟨rfl, a, rfl⟩ | ⟨rfl, a, rfl⟩ | ⟨rfl, a, rfl⟩ | ⟨rfl, a, rfl⟩ | ⟨rfl, a, rfl⟩ | ⟨rfl, a, rfl⟩ | ⟨rfl, a, rfl⟩ | ⟨rfl, a, b, rfl, ha, hb⟩ | ⟨rfl, c, a, rfl⟩ | ⟨rfl, a, rfl⟩ | ⟨rfl, rfl⟩ | ⟨rfl, rfl⟩
  · have : refHas k 1 = false := by unfold refHas; simp; omega
    rw [this]; exact ⟨.nilIface, fun w => assert_nil Tryz.underlying98 (by kernel_rfl)⟩
  · exact ⟨.nilIface, fun w => run_typeAssert_lacksB Tryz.underlying98 (by kernel_rfl) (by kernel_rfl) _ _ w⟩
  · exact ⟨_, fun w => run_typeAssert_hasB Tryz.underlying98 (by kernel_rfl) _ _ w⟩
  · exact ⟨.nilIface, fun w => run_typeAssert_lacksB Tryz.underlying98 (by kernel_rfl) (by kernel_rfl) _ _ w⟩
  · exact ⟨.nilIface, fun w => run_typeAssert_lacksB Tryz.underlying98 (by kernel_rfl) (by kernel_rfl) _ _ w⟩
  · exact ⟨_, fun w => run_typeAssert_hasB Tryz.underlying98 (by kernel_rfl) _ _ w⟩
  · exact ⟨.nilIface, fun w => run_typeAssert_lacksB Tryz.underlying98 (by kernel_rfl) (by kernel_rfl) _ _ w⟩
  · exact ⟨.nilIface, fun w => run_typeAssert_lacksB Tryz.underlying98 (by kernel_rfl) (by kernel_rfl) _ _ w⟩
  · exact ⟨.nilIface, fun w => run_typeAssert_lacksB Tryz.underlying98 (by kernel_rfl) (by kernel_rfl) _ _ w⟩
  · exact ⟨.nilIface, fun w => run_typeAssert_lacksB Tryz.underlying98 (by kernel_rfl) (by kernel_rfl) _ _ w⟩
  · exact ⟨_, fun w => run_typeAssert_hasB Tryz.underlying98 (by kernel_rfl) _ _ w⟩
  · exact ⟨.nilIface, fun w => run_typeAssert_lacksB Tryz.underlying98 (by kernel_rfl) (by kernel_rfl) _ _ w⟩
  · exact ⟨.nilIface, fun w => run_typeAssert_lacksB Tryz.underlying98 (by kernel_rfl) (by kernel_rfl) _ _ w⟩
  · exact ⟨.nilIface, fun w => run_typeAssert_lacksB Tryz.underlying98 (by kernel_rfl) (by kernel_rfl) _ _ w⟩
theorem faceA2 {k : Int} {u : Value} (hk : Kd k u) : ∃ x, ∀ w, (Instr.typeAssert u 20 218 true).run Tryz.prog w = .ok (.tuple #[x, .bool (refHas k 2)]) w := by
  rcases hk.cases with ⟨h0, rfl⟩ | ⟨rfl, a, rfl⟩ | ⟨rfl, a, rfl⟩ | ⟨rfl, a, rfl⟩ | ⟨rfl, a, rfl⟩ | ⟨rfl, a, rfl⟩ | ⟨rfl, a, rfl⟩ | ⟨rfl, a, rfl⟩ | ⟨rfl, a, rfl⟩ | ⟨rfl, a, b, rfl, ha, hb⟩ | ⟨rfl, c, a, rfl⟩ | ⟨rfl, a, rfl⟩ | ⟨rfl, rfl⟩ | ⟨rfl, rfl⟩
  · have : refHas k 2 = false := by unfold refHas; simp; omega
    rw [this]; exact ⟨.nilIface, fun w => assert_nil Tryz.underlying218 (by kernel_rfl)⟩
  · exact ⟨.nilIface, fun w => run_typeAssert_lacksB Tryz.underlying218 (by kernel_rfl) (by kernel_rfl) _ _ w⟩
  · exact ⟨.nilIface, fun w => run_typeAssert_lacksB Tryz.underlying218 (by kernel_rfl) (by kernel_rfl) _ _ w⟩
  · exact ⟨.nilIface, fun w => run_typeAssert_lacksB Tryz.underlying218 (by kernel_rfl) (by kernel_rfl) _ _ w⟩
  · exact ⟨.nilIface, fun w => run_typeAssert_lacksB Tryz.underlying218 (by kernel_rfl) (by kernel_rfl) _ _ w⟩
  · exact ⟨.nilIface, fun w => run_typeAssert_lacksB Tryz.underlying218 (by kernel_rfl) (by kernel_rfl) _ _ w⟩
  · exact ⟨.nilIface, fun w => run_typeAssert_lacksB Tryz.underlying218 (by kernel_rfl) (by kernel_rfl) _ _ w⟩
  · exact ⟨.nilIface, fun w => run_typeAssert_lacksB Tryz.underlying218 (by kernel_rfl) (by kernel_rfl) _ _ w⟩
  · exact ⟨.nilIface, fun w => run_typeAssert_lacksB Tryz.underlying218 (by kernel_rfl) (by kernel_rfl) _ _ w⟩
  · exact ⟨.nilIface, fun w => run_typeAssert_lacksB Tryz.underlying218 (by kernel_rfl) (by kernel_rfl) _ _ w⟩
  · exact ⟨_, fun w => run_typeAssert_hasB Tryz.underlying218 (by kernel_rfl) _ _ w⟩
  · exact ⟨_, fun w => run_typeAssert_hasB Tryz.underlying218 (by kernel_rfl) _ _ w⟩
  · exact ⟨_, fun w => run_typeAssert_hasB Tryz.underlying218 (by kernel_rfl) _ _ w⟩
  · exact ⟨.nilIface, fun w => run_typeAssert_lacksB Tryz.underlying218 (by kernel_rfl) (by kernel_rfl) _ _ w⟩
theorem faceA3 {k : Int} {u : Value} (hk : Kd k u) : ∃ x, ∀ w, (Instr.typeAssert u 20 196 true).run Tryz.prog w = .ok (.tuple #[x, .bool (refHas k 3)]) w := by
  rcases hk.cases with ⟨h0, rfl⟩ | ⟨rfl, a, rfl⟩ | ⟨rfl, a, rfl⟩ | ⟨rfl, a, rfl⟩ | ⟨rfl, a, rfl⟩ | ⟨rfl, a, rfl⟩ | ⟨rfl, a, rfl⟩ | ⟨rfl, a, rfl⟩ | ⟨rfl, a, rfl⟩ | ⟨rfl, a, b, rfl, ha, hb⟩ | ⟨rfl, c, a, rfl⟩ | ⟨rfl, a, rfl⟩ | ⟨rfl, rfl⟩ | ⟨rfl, rfl⟩
  · have : refHas k 3 = false := by unfold refHas; simp; omega
    rw [this]; exact ⟨.nilIface, fun w => assert_nil Tryz.underlying196 (by kernel_rfl)⟩
  · exact ⟨.nilIface, fun w => run_typeAssert_lacksB Tryz.underlying196 (by kernel_rfl) (by kernel_rfl) _ _ w⟩
  · exact ⟨.nilIface, fun w => run_typeAssert_lacksB Tryz.underlying196 (by kernel_rfl) (by kernel_rfl) _ _ w⟩
  · exact ⟨.nilIface, fun w => run_typeAssert_lacksB Tryz.underlying196 (by kernel_rfl) (by kernel_rfl) _ _ w⟩
  · exact ⟨.nilIface, fun w => run_typeAssert_lacksB Tryz.underlying196 (by kernel_rfl) (by kernel_rfl) _ _ w⟩
  · exact ⟨.nilIface, fun w => run_typeAssert_lacksB Tryz.underlying196 (by kernel_rfl) (by kernel_rfl) _ _ w⟩
  · exact ⟨.nilIface, fun w => run_typeAssert_lacksB Tryz.underlying196 (by kernel_rfl) (by kernel_rfl) _ _ w⟩
  · exact ⟨.nilIface, fun w => run_typeAssert_lacksB Tryz.underlying196 (by kernel_rfl) (by kernel_rfl) _ _ w⟩
  · exact ⟨.nilIface, fun w => run_typeAssert_lacksB Tryz.underlying196 (by kernel_rfl) (by kernel_rfl) _ _ w⟩
  · exact ⟨.nilIface, fun w => run_typeAssert_lacksB Tryz.underlying196 (by kernel_rfl) (by kernel_rfl) _ _ w⟩
  · exact ⟨.nilIface, fun w => run_typeAssert_lacksB Tryz.underlying196 (by kernel_rfl) (by kernel_rfl) _ _ w⟩
  · exact ⟨_, fun w => run_typeAssert_hasB Tryz.underlying196 (by kernel_rfl) _ _ w⟩
  · exact ⟨_, fun w => run_typeAssert_hasB Tryz.underlying196 (by kernel_rfl) _ _ w⟩
  · exact ⟨.nilIface, fun w => run_typeAssert_lacksB Tryz.underlying196 (by kernel_rfl) (by kernel_rfl) _ _ w⟩
theorem faceA4 {k : Int} {u : Value} (hk : Kd k u) : ∃ x, ∀ w, (Instr.typeAssert u 20 222 true).run Tryz.prog w = .ok (.tuple #[x, .bool (refHas k 4)]) w := by
  rcases hk.cases with ⟨h0, rfl⟩ | ⟨rfl, a, rfl⟩ | ⟨rfl, a, rfl⟩ | ⟨rfl, a, rfl⟩ | ⟨rfl, a, rfl⟩ | ⟨rfl, a, rfl⟩ | ⟨rfl, a, rfl⟩ | ⟨rfl, a, rfl⟩ | ⟨rfl, a, rfl⟩ | ⟨rfl, a, b, rfl, ha, hb⟩ | ⟨rfl, c, a, rfl⟩ | ⟨rfl, a, rfl⟩ | ⟨rfl, rfl⟩ | ⟨rfl, rfl⟩
  · have : refHas k 4 = false := by unfold refHas; simp; omega
    rw [this]; exact ⟨.nilIface, fun w => assert_nil Tryz.underlying222 (by kernel_rfl)⟩
  · exact ⟨_, fun w => run_typeAssert_hasB Tryz.underlying222 (by kernel_rfl) _ _ w⟩
  · exact ⟨_, fun w => run_typeAssert_hasB Tryz.underlying222 (by kernel_rfl) _ _ w⟩
  · exact ⟨_, fun w => run_typeAssert_hasB Tryz.underlying222 (by kernel_rfl) _ _ w⟩
  · exact ⟨_, fun w => run_typeAssert_hasB Tryz.underlying222 (by kernel_rfl) _ _ w⟩
  · exact ⟨_, fun w => run_typeAssert_hasB Tryz.underlying222 (by kernel_rfl) _ _ w⟩
  · exact ⟨.nilIface, fun w => run_typeAssert_lacksB Tryz.underlying222 (by kernel_rfl) (by kernel_rfl) _ _ w⟩
  · exact ⟨.nilIface, fun w => run_typeAssert_lacksB Tryz.underlying222 (by kernel_rfl) (by kernel_rfl) _ _ w⟩
  · exact ⟨.nilIface, fun w => run_typeAssert_lacksB Tryz.underlying222 (by kernel_rfl) (by kernel_rfl) _ _ w⟩
  · exact ⟨.nilIface, fun w => run_typeAssert_lacksB Tryz.underlying222 (by kernel_rfl) (by kernel_rfl) _ _ w⟩
  · exact ⟨.nilIface, fun w => run_typeAssert_lacksB Tryz.underlying222 (by kernel_rfl) (by kernel_rfl) _ _ w⟩
  · exact ⟨.nilIface, fun w => run_typeAssert_lacksB Tryz.underlying222 (by kernel_rfl) (by kernel_rfl) _ _ w⟩
  · exact ⟨.nilIface, fun w => run_typeAssert_lacksB Tryz.underlying222 (by kernel_rfl) (by kernel_rfl) _ _ w⟩
  · exact ⟨.nilIface, fun w => run_typeAssert_lacksB Tryz.underlying222 (by kernel_rfl) (by kernel_rfl) _ _ w⟩
theorem faceA5 {k : Int} {u : Value} (hk : Kd k u) : ∃ x, ∀ w, (Instr.typeAssert u 20 136 true).run Tryz.prog w = .ok (.tuple #[x, .bool (refHas k 5)]) w := by
  rcases hk.cases with ⟨h0, rfl⟩ | ⟨rfl, a, rfl⟩ | ⟨rfl, a, rfl⟩ | ⟨rfl, a, rfl⟩ | ⟨rfl, a, rfl⟩ | ⟨rfl, a, rfl⟩ | ⟨rfl, a, rfl⟩ | ⟨rfl, a, rfl⟩ | ⟨rfl, a, rfl⟩ | ⟨rfl, a, b, rfl, ha, hb⟩ | ⟨rfl, c, a, rfl⟩ | ⟨rfl, a, rfl⟩ | ⟨rfl, rfl⟩ | ⟨rfl, rfl⟩
  · have : refHas k 5 = false := by unfold refHas; simp; omega
    rw [this]; exact ⟨.nilIface, fun w => assert_nil Tryz.underlying136 (by kernel_rfl)⟩
  · exact ⟨_, fun w => run_typeAssert_hasB Tryz.underlying136 (by kernel_rfl) _ _ w⟩
  · exact ⟨.nilIface, fun w => run_typeAssert_lacksB Tryz.underlying136 (by kernel_rfl) (by kernel_rfl) _ _ w⟩
  · exact ⟨_, fun w => run_typeAssert_hasB Tryz.underlying136 (by kernel_rfl) _ _ w⟩
  · exact ⟨.nilIface, fun w => run_typeAssert_lacksB Tryz.underlying136 (by kernel_rfl) (by kernel_rfl) _ _ w⟩
  · exact ⟨.nilIface, fun w => run_typeAssert_lacksB Tryz.underlying136 (by kernel_rfl) (by kernel_rfl) _ _ w⟩
  · exact ⟨.nilIface, fun w => run_typeAssert_lacksB Tryz.underlying136 (by kernel_rfl) (by kernel_rfl) _ _ w⟩
  · exact ⟨.nilIface, fun w => run_typeAssert_lacksB Tryz.underlying136 (by kernel_rfl) (by kernel_rfl) _ _ w⟩
  · exact ⟨.nilIface, fun w => run_typeAssert_lacksB Tryz.underlying136 (by kernel_rfl) (by kernel_rfl) _ _ w⟩
  · exact ⟨.nilIface, fun w => run_typeAssert_lacksB Tryz.underlying136 (by kernel_rfl) (by kernel_rfl) _ _ w⟩
  · exact ⟨.nilIface, fun w => run_typeAssert_lacksB Tryz.underlying136 (by kernel_rfl) (by kernel_rfl) _ _ w⟩
  · exact ⟨.nilIface, fun w => run_typeAssert_lacksB Tryz.underlying136 (by kernel_rfl) (by kernel_rfl) _ _ w⟩
  · exact ⟨.nilIface, fun w => run_typeAssert_lacksB Tryz.underlying136 (by kernel_rfl) (by kernel_rfl) _ _ w⟩
  · exact ⟨.nilIface, fun w => run_typeAssert_lacksB Tryz.underlying136 (by kernel_rfl) (by kernel_rfl) _ _ w⟩

set_option maxHeartbeats 400000 in
theorem answers_any (k m : Int) (u : Value) (hk : Kd k u) (w : World) :
    Calls Tryz.prog 142 #[u, .int .i64 m] w fun e w' => e = .returned (.bool (refHas k m)) ∧ w' = w := by
  obtain ⟨x0, f0⟩ := faceA0 hk
  obtain ⟨x1, f1⟩ := faceA1 hk
  obtain ⟨x2, f2⟩ := faceA2 hk
  obtain ⟨x3, f3⟩ := faceA3 hk
  obtain ⟨x4, f4⟩ := faceA4 hk
  obtain ⟨x5, f5⟩ := faceA5 hk
  clear hk
  by_cases c0 : m = 0
  · subst c0
    generalize refHas k 0 = bb at f0
    go_enter Tryz.func142, Tryz.ntmps142
    go_wp2
    go_ret; exact ⟨rfl, rfl⟩
  by_cases c1 : m = 1
  · subst c1
    clear c0
    generalize refHas k 1 = bb at f1
    go_enter Tryz.func142, Tryz.ntmps142
    go_wp2
    go_ret; exact ⟨rfl, rfl⟩
  by_cases c2 : m = 2
  · subst c2
    clear c0 c1
    generalize refHas k 2 = bb at f2
    go_enter Tryz.func142, Tryz.ntmps142
    go_wp2
    go_ret; exact ⟨rfl, rfl⟩
  by_cases c3 : m = 3
  · subst c3
    clear c0 c1 c2
    generalize refHas k 3 = bb at f3
    go_enter Tryz.func142, Tryz.ntmps142
    go_wp2
    go_ret; exact ⟨rfl, rfl⟩
  by_cases c4 : m = 4
  · subst c4
    clear c0 c1 c2 c3
    generalize refHas k 4 = bb at f4
    go_enter Tryz.func142, Tryz.ntmps142
    go_wp2
    go_ret; exact ⟨rfl, rfl⟩
  by_cases c5 : m = 5
  · subst c5
    clear c0 c1 c2 c3 c4
    generalize refHas k 5 = bb at f5
    go_enter Tryz.func142, Tryz.ntmps142
    go_wp2
    go_ret; exact ⟨rfl, rfl⟩
  have hf : refHas k m = false := by unfold refHas; simp [c0, c1, c2, c3, c4, c5]
  rw [hf]; clear hf
  have g0 : (m == 0) = false := by simpa using c0
  have g1 : (m == 1) = false := by simpa using c1
  have g2 : (m == 2) = false := by simpa using c2
  have g3 : (m == 3) = false := by simpa using c3
  have g4 : (m == 4) = false := by simpa using c4
  have g5 : (m == 5) = false := by simpa using c5
  clear c0 c1 c2 c3 c4 c5 f0 f1 f2 f3 f4 f5
  go_enter Tryz.func142, Tryz.ntmps142
  go_wp2
  go_ret
  exact ⟨rfl, rfl⟩

set_option maxRecDepth 100000 in
set_option maxHeartbeats 1000000 in
theorem has_any (k m : Int) (w : World) : Calls Tryz.prog 141 #[.int .i64 k, .int .i64 m] w fun e w' => e = .returned (.bool (refHas k m)) ∧ Below w.heap.size w w' := by
  have HK := Lib.hid (ofKind_any k)
  have HA : Hid (∀ u w, Kd k u → Calls Tryz.prog 142 #[u, .int .i64 m] w fun e w' => e = .returned (.bool (refHas k m)) ∧ w' = w) := fun u w hu => answers_any k m u hu w
  generalize refHas k m = bb at HA
  go_enter Tryz.func141, Tryz.ntmps141
  go_wp2_with fail
  refine (HK.out _).mono ?_
  rintro e w1 ⟨u, rfl, hx, b1⟩
  go_wp2_with fail
  refine (HA.out u _ hx).mono ?_
  rintro e w2 ⟨rfl, rfl⟩
  go_wp2
  go_ret
  exact ⟨rfl, b1⟩

theorem isKind_any (k : Int) (w : World) : Calls Tryz.prog 139 #[.int .i64 k] w fun e w' => e = .returned (.bool (decide (0 ≤ k ∧ k < 14))) ∧ w' = w := by
  by_cases h0 : 0 ≤ k
  · by_cases h1 : k < 14
    · rw [decide_eq_true ⟨h0, h1⟩]
      go_enter Tryz.func139, Tryz.ntmps139
      go_wp2
      go_ret
      exact ⟨rfl, rfl⟩
    · rw [decide_eq_false (by omega)]
      go_enter Tryz.func139, Tryz.ntmps139
      go_wp2
      go_ret
      exact ⟨rfl, rfl⟩
  · rw [decide_eq_false (by omega)]
    go_enter Tryz.func139, Tryz.ntmps139
    go_wp2
    go_ret
    exact ⟨rfl, rfl⟩

theorem infoInt : (Tryz.prog.info? 3).map (fun i => (i.zero, i.size, i.bytes)) = some (some (.int .i64 0), 1, 8) := by kernel_rfl
theorem infoInt_parts : ∃ i0, Tryz.prog.info? 3 = some i0 ∧ i0.zero = some (.int .i64 0) ∧ i0.size = 1 ∧ i0.bytes = 8 := by
  have h := infoInt
  cases hi : Tryz.prog.info? 3 with
  | none => rw [hi] at h; cases h
  | some i =>
    rw [hi] at h
    simp only [Option.map_some, Option.some.injEq, Prod.mk.injEq] at h
    exact ⟨i, rfl, h.1, h.2.1, h.2.2⟩
/-- The numbers below j whose bit is set. -/
def mset (M : Nat) (j : Nat) : List Int := ((List.range j).filter fun i => M / 2 ^ i % 2 == 1).map Int.ofNat
theorem mset_yes (M j : Nat) (h : M / 2 ^ j % 2 = 1) : (mset M (j + 1)).map (Value.int .i64) = (mset M j).map (Value.int .i64) ++ [.int .i64 (j : Int)] := by
  simp [mset, List.range_succ, List.filter_append, h]
theorem mset_no (M j : Nat) (h : M / 2 ^ j % 2 ≠ 1) : mset M (j + 1) = mset M j := by
  simp [mset, List.range_succ, List.filter_append, h]
theorem mset_len (M j : Nat) : (mset M j).length ≤ j := by
  unfold mset
  rw [List.length_map]
  exact Nat.le_trans (List.length_filter_le _ _) (by simp)
theorem mset_len_yes (M j : Nat) (h : M / 2 ^ j % 2 = 1) : (mset M (j + 1)).length = (mset M j).length + 1 := by
  have := congrArg List.length (mset_yes M j h)
  simpa using this
theorem and1 (M j : Nat) (hM : M < 256) : bits .and .u8 ((M : Int) / 2 ^ j) 1 = ((M / 2 ^ j % 2 : Nat) : Int) := by
  have e : ((M : Int) / 2 ^ j) = ((M / 2 ^ j : Nat) : Int) := by norm_cast
  have hl : M / 2 ^ j ≤ M := Nat.div_le_self _ _
  rw [e, show (1 : Int) = ((1 : Nat) : Int) from rfl, u8_and_nat _ _ (by omega) (by decide), Nat.and_one_is_mod]
/-- The bits of an interface's methods. -/
theorem mbits_mset (f : Int) : ∃ M : Nat, mbits f = M ∧ M < 256 ∧ mset M 6 = mths f := by
  by_cases h : f < 0 ∨ 9 < f
  · refine ⟨0, ?_, by decide, ?_⟩
    · unfold mbits
      rw [if_neg (show ¬ f = 0 by omega)]
      rw [if_neg (show ¬ f = 1 by omega)]
      rw [if_neg (show ¬ f = 2 by omega)]
      rw [if_neg (show ¬ f = 3 by omega)]
      rw [if_neg (show ¬ f = 4 by omega)]
      rw [if_neg (show ¬ f = 5 by omega)]
      rw [if_neg (show ¬ f = 6 by omega)]
      rw [if_neg (show ¬ f = 7 by omega)]
      rw [if_neg (show ¬ f = 8 by omega)]
      rw [if_neg (show ¬ f = 9 by omega)]
      rfl
    · rw [mths_no f h]; decide
  have hk : f = 0 ∨ f = 1 ∨ f = 2 ∨ f = 3 ∨ f = 4 ∨ f = 5 ∨ f = 6 ∨ f = 7 ∨ f = 8 ∨ f = 9 := by omega
  rcases hk with rfl | rfl | rfl | rfl | rfl | rfl | rfl | rfl | rfl | rfl
  · exact ⟨1, by decide, by decide, by decide⟩
  · exact ⟨2, by decide, by decide, by decide⟩
  · exact ⟨4, by decide, by decide, by decide⟩
  · exact ⟨8, by decide, by decide, by decide⟩
  · exact ⟨16, by decide, by decide, by decide⟩
  · exact ⟨32, by decide, by decide, by decide⟩
  · exact ⟨3, by decide, by decide, by decide⟩
  · exact ⟨17, by decide, by decide, by decide⟩
  · exact ⟨48, by decide, by decide, by decide⟩
  · exact ⟨19, by decide, by decide, by decide⟩
end Go.Proofs.YtajagjcfmaggiaaGreatDoor
/- The package's Methods and Missing at any two numbers: the document's; no condition. -/
namespace Go.Proofs.YtajagjcfmaggiaaGreatDoor
open Go.RowKit

theorem ir_own {w : World} {base : Nat} {v : Value} {l : List Int} (h : w.ownsRow base 3 1 v l.length (l.map (Value.int .i64))) : IR w v l := by
  obtain ⟨-, h | ⟨g, cap, cur, hv, -, hg, hc, hm, hs, ht⟩⟩ := h
  · obtain ⟨rfl, h0⟩ := h
    have : l = [] := List.eq_nil_of_length_eq_zero h0
    subst this
    exact ⟨none, 0, rfl, Nat.le_refl _, by unfold maxLen; omega, .inl rfl⟩
  · refine ⟨some ⟨g, 0, none⟩, cap, hv, hc, hm, .inr ⟨g, rfl, fun j x hj => ?_⟩⟩
    have hl : j < l.length := (List.getElem?_eq_some_iff.1 hj).1
    have h1 : (cur.toList.take (l.length * 1))[j]? = some (.int .i64 x) := by rw [ht, List.getElem?_map, hj]; rfl
    rw [List.getElem?_take_of_lt (by omega)] at h1
    have h2 : cur[j]? = some (.int .i64 x) := by rw [← Array.getElem?_toList]; exact h1
    simp [World.cell?, hg, h2]

set_option maxRecDepth 100000 in
set_option maxHeartbeats 2000000 in
theorem methods_any (f : Int) (w : World) : Calls Tryz.prog 140 #[.int .i64 f] w fun e w' => ∃ v, e = .returned v ∧ IR w' v (mths f) ∧ Below w.heap.size w w' := by
  obtain ⟨i0, hi, hz0, hz1, hz2⟩ := infoInt_parts
  obtain ⟨M, hM, hlt256, hms⟩ := mbits_mset f
  have HI := Lib.hid (interfaceOf_any f)
  rw [hM] at HI
  rw [← hms]
  have hfd : ∀ (Q : TypeId) (m : Int) (w : World), (Instr.field 87 (.agg #[.iface Q (.agg #[]), .int .u8 m]) 1).run Tryz.prog w = .ok (.int .u8 m) w := fun _ _ _ => by kernel_rfl
  clear hM hms
  generalize qfc f = Q at HI
  go_enter Tryz.func140, Tryz.ntmps140
  go_wp2_with fail
  refine (HI.out _).mono ?_
  rintro e w1 ⟨rfl, b1⟩
  go_wp2_with fail
  go_loopw [3, 9] (fun sl si wr => ∃ (j : Nat) (a' : Option Addr) (l' c' : Nat), sl = .slice a' l' c' ∧ si = .int .i64 j ∧ j ≤ 6 ∧ wr.ownsRow w.heap.size 3 1 (.slice a' l' c') (mset M j).length ((mset M j).map (Value.int .i64)) ∧ Below w.heap.size w wr) (fun _ si _ => 6 - (intOf si).toNat)
  case atStart => exact ⟨0, none, 0, 0, rfl, rfl, Nat.zero_le _, World.ownsRow_nil _ _ _ _, b1⟩
  case round =>
    obtain ⟨j, a', l', c', rfl, rfl, hj, ow, bw⟩ := hrel
    by_cases hlt : j < 6
    · have j0 : (0 : Int) ≤ (j : Int) := by omega
      have j1 : (j : Int) ≤ 8 := by omega
      have j2 : (j : Int) < 6 := by omega
      have ha := and1 M j hlt256
      have hln := mset_len M j
      by_cases hb : M / 2 ^ j % 2 = 1
      · rw [hb] at ha
        have HO := Lib.hid ow
        go_wp2_with (at_builtin; refine wpList_append_lies _ rfl _ _ 43 rfl w.heap.size 3 i0 (.int .i64 0) 1 8 Tryz.underlying43 hi hz0 hz1 hz2 rfl (by decide) (.slice a' l' c') (mset M j).length ((mset M j).map (Value.int .i64)) rfl (ow.alloc _) ⟨wr.heap.size, 0, none⟩ 1 1 [.int .i64 j] rfl rfl ?hnews ?h1 (by decide) ?h63 ?hby ?hbase _ rfl ?next)
        case hnews => intro a b hab; exact World.news_of_block (heap_alloc_new wr _) a b (by simpa using hab)
        case h1 => intro a ha; simp at ha; subst ha; rfl
        case h63 => unfold maxLen; omega
        case hby => omega
        case hbase => have := bw.size; simp; omega
        intro g' cap2 w4 own4 gr4 at4 lt4
        have B4 : Below w.heap.size w w4 := (bw.alloc bw.size _).grown gr4 (by have := bw.size; simp; omega) (fun k hk => by
          rcases HO.out.2 with ⟨e0, -⟩ | ⟨g2, c2, cu, e1, e2, -⟩
          · rw [e0] at hk; cases hk
          · rw [e1] at hk; have := Option.some.inj hk; simp at this; omega)
        have O4 : w4.ownsRow w.heap.size 3 1 (.slice (some ⟨g', 0, none⟩) ((mset M j).length + 1) cap2) (mset M (j + 1)).length ((mset M (j + 1)).map (Value.int .i64)) := by rw [mset_yes M j hb, mset_len_yes M j hb]; exact own4
        clear own4 gr4 at4 ow HO ha
        go_wp2_with fail
        exact ⟨⟨j + 1, _, _, _, rfl, by go_num, by omega, O4, B4⟩, by simp [intOf]; omega⟩
      · have hb' : M / 2 ^ j % 2 = 0 := by omega
        rw [hb'] at ha
        rw [← mset_no M j hb] at ow
        go_wp2_with fail
        exact ⟨⟨j + 1, _, _, _, rfl, by go_num, by omega, ow, bw⟩, by simp [intOf]; omega⟩
    · obtain rfl : j = 6 := by omega
      have j2 : ¬ (((6 : Nat) : Int) < 6) := by omega
      go_wp2_with fail
      go_ret
      exact ⟨_, rfl, ir_own ow, bw⟩

set_option maxRecDepth 100000 in
set_option maxHeartbeats 1000000 in
theorem missing_any (k f : Int) (w : World) : Calls Tryz.prog 132 #[.int .i64 k, .int .i64 f] w fun e w' => e = .returned (.int .i64 (lacks k f)) ∧ Below w.heap.size w w' := by
  have HK := Lib.hid (isKind_any k)
  by_cases h : 0 ≤ k ∧ k < 14
  · rw [decide_eq_true h] at HK
    have e : lacks k f = lackL k (mths f) := by unfold lacks; rw [if_neg (by omega)]
    rw [e]; clear e h
    have H := Lib.hid (methods_any f)
    have hbd := (mths_bd f).1
    generalize mths f = l at H hbd
    have HR : Hid (∀ m wx, Below w.heap.size w wx → Calls Tryz.prog 141 #[.int .i64 k, .int .i64 m] wx fun e w' => e = .returned (.bool (refHas k m)) ∧ Below w.heap.size w w' ∧ Below wx.heap.size wx w') := fun m wx hx => (has_any k m wx).mono fun e w' ⟨a, b⟩ => ⟨a, hx.trans (b.mono hx.size), b⟩
    go_enter Tryz.func132, Tryz.ntmps132
    go_wp2_with fail
    refine (HK.out _).mono ?_
    rintro e w0 ⟨rfl, hw0⟩
    have hw1 := hw0.symm
    clear hw0
    subst hw1
    go_wp2_with fail
    refine (H.out _).mono ?_
    rintro e w1 ⟨v, rfl, ir, b1⟩
    have IRH := Lib.hid ir
    obtain ⟨ad, cap, rfl, hc, hm, -⟩ := ir
    clear H
    unfold maxLen at hm
    go_wp2_with fail
    go_loopw [13] (fun si wr => ∃ (j : Nat), si = .int .i64 j ∧ j ≤ l.length ∧ lackL k (l.drop j) = lackL k l ∧ Below w.heap.size w wr ∧ Below w1.heap.size w1 wr) (fun si _ => l.length - (intOf si).toNat)
    case atStart => exact ⟨0, rfl, Nat.zero_le _, rfl, b1, Below.refl _ _⟩
    case round =>
      obtain ⟨j, rfl, hj, hinv, hb, hb1⟩ := hrel
      have HV := Lib.hid hinv
      clear hinv
      by_cases hlt : j < l.length
      · have hne : l ≠ [] := by intro e; rw [e] at hlt; exact absurd hlt (Nat.not_lt_zero _)
        obtain ⟨ad', cap', e1, -, -, hr⟩ := IRH.out.below hb1
        rcases hr with hk | ⟨g, hk1, hk2⟩
        · exact absurd hk hne
        subst hk1
        simp only [Value.slice.injEq] at e1
        obtain ⟨rfl, -, rfl⟩ := e1
        have x0 := hk2 j _ (List.getElem?_eq_getElem hlt)
        have hv := HV.out
        rw [drop_atW l j hlt, lackL_cons] at hv
        clear HV hk2
        generalize l[j] = m at hv x0
        go_wp2_with fail
        refine (HR.out m _ hb).mono ?_
        rintro e w2 ⟨he, b2, b3⟩
        cases hbb : refHas k m with
        | true =>
          rw [hbb] at he
          rw [if_pos hbb] at hv
          have HW := Lib.hid hv
          clear hv hbb
          subst he
          go_wp2_with fail
          exact ⟨⟨j + 1, by go_num, by omega, HW.out, b2, hb1.trans (b3.mono hb1.size)⟩, by simp [intOf]; omega⟩
        | false =>
          rw [hbb] at he
          rw [if_neg (by rw [hbb]; decide)] at hv
          have HW := Lib.hid hv
          clear hv hbb
          subst he
          go_wp2_with fail
          go_ret
          exact ⟨by rw [← HW.out]; rfl, b2⟩
      · have hje : j = l.length := by omega
        have hv := HV.out
        rw [hje, List.drop_length] at hv
        have HW := Lib.hid hv
        clear hv HV
        go_wp2_with fail
        go_ret
        exact ⟨by rw [← HW.out]; rfl, hb⟩
  · rw [decide_eq_false h] at HK
    have e : lacks k f = -1 := by unfold lacks; rw [if_pos (by omega)]
    rw [e]; clear e h
    go_enter Tryz.func132, Tryz.ntmps132
    go_wp2_with fail
    refine (HK.out _).mono ?_
    rintro e w0 ⟨rfl, hw0⟩
    have hw1 := hw0.symm
    clear hw0
    subst hw1
    go_wp2
    go_ret
    exact ⟨rfl, Below.refl _ _⟩
end Go.Proofs.YtajagjcfmaggiaaGreatDoor
/- The package's Face and MustFace at any value and any number: whether the kind has the interface; and the method that it lacks; no condition. -/
namespace Go.Proofs.YtajagjcfmaggiaaGreatDoor
open Go.RowKit

set_option maxRecDepth 100000 in
set_option maxHeartbeats 1000000 in
theorem caughtA_no (Q : Nat) (av : Value) (F : Nat) (u : Value) (w : World) (hm : MethA Q av F) (hF : ∀ w, Calls Tryz.prog F #[.agg #[], u] w fun e w' => Pan w w' e) :
    Calls Tryz.prog 131 #[.iface Q av, u] w fun e w' => e = .returned (.tuple #[.nilIface, .int .i64 20]) ∧ Below w.heap.size w w' := by
  have hmf : ∀ (fn : Fn) (first cap : Array Value) (w : World), (Instr.makeFunc fn first cap).run Tryz.prog w = .ok (.func fn first cap) w := fun _ _ _ _ => rfl
  obtain ⟨hmm, hcf⟩ := hm
  have HF := Lib.hid hF
  clear hF
  go_enter_defers Tryz.func131, Tryz.ntmps131
  go_wp2_with fail
  refine (HF.out _).mono ?_
  rintro e w1 ⟨pa, rfl, b1⟩
  have b0 := below1 w (.cells #[.int .i64 0] 29)
  have c1 : w1.cell? ⟨w.heap.size, 0, none⟩ = some (.int .i64 0) := (b1.cell (p := ⟨w.heap.size, 0, none⟩) (by simp)).trans (new_c w _ 29).1
  have f1 : w1.frozen? ⟨w.heap.size, 0, none⟩ = false := (b1.frozen (p := ⟨w.heap.size, 0, none⟩) (by simp)).trans (new_c w (.int .i64 0) 29).2
  have B1 := b0.trans (b1.mono b0.size)
  go_wp2
  refine leaves_cons (f := 138) (args := #[.pointer (some ⟨w.heap.size, 0, none⟩)]) (by simp) (by simp [go_sem]) ?_
  refine (cau_catch w.heap.size pa [] _ 0 c1 f1).mono ?_
  rintro e u' w'' ⟨rfl, rfl, rfl⟩
  have g1 : (w1.setCell ⟨w.heap.size, 0, none⟩ (.int .i64 20)).cell? ⟨w.heap.size, 0, none⟩ = some (.int .i64 20) := by simp [World.cell?_setCell_same, c1]
  simp [Leaves, settle, results, Tryz.results131, go_sem, g1]
  exact B1.setCell (Nat.le_refl _) _

set_option maxRecDepth 100000 in
set_option maxHeartbeats 1000000 in
theorem caughtA_yes (Q : Nat) (av : Value) (F : Nat) (u : Value) (w : World) (hm : MethA Q av F) (hF : ∀ w, Calls Tryz.prog F #[.agg #[], u] w fun e w' => e = .returned u ∧ Below w.heap.size w w') :
    Calls Tryz.prog 131 #[.iface Q av, u] w fun e w' => e = .returned (.tuple #[u, .int .i64 0]) ∧ Below w.heap.size w w' := by
  have hmf : ∀ (fn : Fn) (first cap : Array Value) (w : World), (Instr.makeFunc fn first cap).run Tryz.prog w = .ok (.func fn first cap) w := fun _ _ _ _ => rfl
  obtain ⟨hmm, hcf⟩ := hm
  have HF := Lib.hid hF
  clear hF
  go_enter_defers Tryz.func131, Tryz.ntmps131
  go_wp2_with fail
  refine (HF.out _).mono ?_
  rintro e w1 ⟨rfl, b1⟩
  have b0 := below1 w (.cells #[.int .i64 0] 29)
  have c1 : w1.cell? ⟨w.heap.size, 0, none⟩ = some (.int .i64 0) := (b1.cell (p := ⟨w.heap.size, 0, none⟩) (by simp)).trans (new_c w _ 29).1
  have f1 : w1.frozen? ⟨w.heap.size, 0, none⟩ = false := (b1.frozen (p := ⟨w.heap.size, 0, none⟩) (by simp)).trans (new_c w (.int .i64 0) 29).2
  have B1 := b0.trans (b1.mono b0.size)
  go_wp2
  refine leaves_cons (f := 138) (args := #[.pointer (some ⟨w.heap.size, 0, none⟩)]) (by simp) (by simp [go_sem]) ?_
  refine (cau_idle ⟨w.heap.size, 0, none⟩ _).mono ?_
  rintro e u' w'' ⟨rfl, rfl, rfl⟩
  have g1 : (w1.setCell ⟨w.heap.size, 0, none⟩ (.int .i64 0)).cell? ⟨w.heap.size, 0, none⟩ = some (.int .i64 0) := by simp [World.cell?_setCell_same, c1]
  simp [Leaves, settle, results, Tryz.results131, go_sem, g1]
  exact B1.setCell (Nat.le_refl _) _

/-- A value's block and one behind it. -/
def Tb (w : World) (k i b : Int) (s : ByteArray) (ad : Option Addr) (len cap : Nat) (w' : World) : Prop :=
  Below (w.heap.size + 2) ((w.alloc (.cells #[.int .i64 k, .int .i64 i, .int .u64 b, .string s, .slice ad len cap] 25)).alloc (.cells #[.int .i64 0, .int .i64 0] 188)) w'
theorem Tb.drew {w : World} {k i b : Int} {s : ByteArray} {ad : Option Addr} {len cap : Nat} {w' : World} (h : Tb w k i b s ad len cap w') : Tb w k i b s ad len cap w'.drew := Below.drew h
theorem Tb.below {w : World} {k i b : Int} {s : ByteArray} {ad : Option Addr} {len cap : Nat} {w' : World} (h : Tb w k i b s ad len cap w') : Below w.heap.size w w' := (below2 w _ _).trans (Below.mono h (by omega))
theorem Tb.step {w : World} {k i b : Int} {s : ByteArray} {ad : Option Addr} {len cap : Nat} {w1 w2 : World} (h : Tb w k i b s ad len cap w1) (hb : Below w1.heap.size w1 w2) : Tb w k i b s ad len cap w2 := by
  have := Below.size h
  simp at this
  exact Below.trans h (hb.mono (by omega))
theorem Tb.start (w : World) (k i b : Int) (s : ByteArray) (ad : Option Addr) (len cap : Nat) : Tb w k i b s ad len cap ((w.alloc (.cells #[.int .i64 k, .int .i64 i, .int .u64 b, .string s, .slice ad len cap] 25)).alloc (.cells #[.int .i64 0, .int .i64 0] 188)) := Below.refl _ _
theorem Tb.c {w : World} {k i b : Int} {s : ByteArray} {ad : Option Addr} {len cap : Nat} {w' : World} (h : Tb w k i b s ad len cap w') : w'.cell? ⟨w.heap.size, 0, none⟩ = some (.int .i64 k) ∧ w'.cell? ⟨w.heap.size + 1, 0, none⟩ = some (.int .i64 0) ∧ w'.cell? ⟨w.heap.size + 1, 1, none⟩ = some (.int .i64 0) ∧ (∀ o, w'.frozen? ⟨w.heap.size + 1, o, none⟩ = false) := by
  have e0 := heap_alloc_new w (.cells #[.int .i64 k, .int .i64 i, .int .u64 b, .string s, .slice ad len cap] 25)
  have e1 := heap_alloc_new (w.alloc (.cells #[.int .i64 k, .int .i64 i, .int .u64 b, .string s, .slice ad len cap] 25)) (.cells #[.int .i64 0, .int .i64 0] 188)
  simp only [World.size_alloc] at e1
  have h0 : w'.heap[w.heap.size]? = some (.cells #[.int .i64 k, .int .i64 i, .int .u64 b, .string s, .slice ad len cap] 25 (0, 0)) := (Below.block h w.heap.size (by omega)).trans (((below1 _ _).block _ (by simp)).trans e0)
  have h1 : w'.heap[w.heap.size + 1]? = some (.cells #[.int .i64 0, .int .i64 0] 188 (0, 0)) := (Below.block h (w.heap.size + 1) (by omega)).trans e1
  simp [World.cell?, World.frozen?, h0, h1]

/-- The method that MustFace tells. -/
def lackM (k f : Int) : Int := if k = 0 then -1 else lacks k f

set_option maxRecDepth 100000 in
set_option maxHeartbeats 2000000 in
theorem mustFace_yes (k i b : Int) (s : ByteArray) (ad : Option Addr) (len cap : Nat) (f : Int) (w : World) (hi : impl k f = true) :
    Calls Tryz.prog 118 #[.agg #[.int .i64 k, .int .i64 i, .int .u64 b, .string s, .slice ad len cap], .int .i64 f] w fun e w' => e = .returned (.tuple #[.agg #[.int .i64 0, .int .i64 0], .int .i64 0]) ∧ Below w.heap.size w w' := by
  obtain ⟨F, hm, hA⟩ := face_musts f
  have HI : Hid (∀ wx, Tb w k i b s ad len cap wx → Calls Tryz.prog 71 #[.int .i64 f] wx fun e w' => e = .returned (.agg #[.iface (qfc f) (.agg #[]), .int .u8 (mbits f)]) ∧ Tb w k i b s ad len cap w') := fun wx hx => (interfaceOf_any f wx).mono fun e w' ⟨a, b⟩ => ⟨a, hx.step b⟩
  have HK : Hid (∀ wx, Tb w k i b s ad len cap wx → Calls Tryz.prog 46 #[.int .i64 k] wx fun e w' => ∃ u, e = .returned u ∧ Kd k u ∧ Tb w k i b s ad len cap w') := fun wx hx => (ofKind_any k wx).mono fun e w' ⟨u, a, c, d⟩ => ⟨u, a, c, hx.step d⟩
  have HC : Hid (∀ u wx, Kd k u → Tb w k i b s ad len cap wx → Calls Tryz.prog 131 #[.iface 87 (.agg #[.iface (qfc f) (.agg #[]), .int .u8 (mbits f)]), u] wx fun e w' => e = .returned (.tuple #[u, .int .i64 0]) ∧ Tb w k i b s ad len cap w') := fun u wx hu hx => (caughtA_yes _ _ F u wx hm fun w => (hA k u w hu).1 hi).mono fun e w' ⟨a, d⟩ => ⟨a, hx.step d⟩
  have HS : Hid (∀ wx, Tb w k i b s ad len cap wx → wx.cell? ⟨w.heap.size, 0, none⟩ = some (.int .i64 k)) := fun wx h => h.c.1
  have hb0 := Tb.start w k i b s ad len cap
  clear hm hA hi
  generalize qfc f = Q at HI HC
  generalize mbits f = mb at HI HC
  go_enter Tryz.func118, Tryz.ntmps118
  go_wp2_with fail
  go_region_held3 (fun w' => w'.cell? ⟨w.heap.size, 0, none⟩ = some (.int .i64 k)) (exact HS.out _ (by first | assumption | exact Tb.drew (by assumption))) (first | (go_at_call 71; refine (HI.out _ (by first | assumption | exact Tb.drew (by assumption))).mono ?_; rintro e wa ⟨rfl, ba⟩) | (go_at_call 46; refine (HK.out _ (by first | assumption | exact Tb.drew (by assumption))).mono ?_; rintro e wo ⟨ua, rfl, hu, bo⟩) | (go_at_call 131; refine (HC.out _ _ (by assumption) (by first | assumption | exact Tb.drew (by assumption))).mono ?_; rintro e wc ⟨rfl, bc⟩))
  all_goals
    obtain ⟨c0, m0, m1, f1⟩ := bc.c
    have B := bc.below
    go_wp2
    refine bodyPost_ret (v := .tuple #[.agg #[.int .i64 0, .int .i64 0], .int .i64 0]) (by simp [results, Tryz.results118, go_sem, World.cell?_setCell_same, World.cell?_setCell_other, m0, m1]) rfl ⟨rfl, ?_⟩
    exact (B.setCell (by show w.heap.size ≤ w.heap.size + 1; omega) _).setCell (by show w.heap.size ≤ w.heap.size + 1; omega) _
set_option maxRecDepth 100000 in
set_option maxHeartbeats 2000000 in
theorem mustFace_no0 (i b : Int) (s : ByteArray) (ad : Option Addr) (len cap : Nat) (f : Int) (w : World) (hi : impl 0 f = false) :
    Calls Tryz.prog 118 #[.agg #[.int .i64 0, .int .i64 i, .int .u64 b, .string s, .slice ad len cap], .int .i64 f] w fun e w' => e = .returned (.tuple #[.agg #[.int .i64 0, .int .i64 (-1)], .int .i64 20]) ∧ Below w.heap.size w w' := by
  obtain ⟨F, hm, hA⟩ := face_musts f
  have HI : Hid (∀ wx, Tb w 0 i b s ad len cap wx → Calls Tryz.prog 71 #[.int .i64 f] wx fun e w' => e = .returned (.agg #[.iface (qfc f) (.agg #[]), .int .u8 (mbits f)]) ∧ Tb w 0 i b s ad len cap w') := fun wx hx => (interfaceOf_any f wx).mono fun e w' ⟨a, b⟩ => ⟨a, hx.step b⟩
  have HK : Hid (∀ wx, Tb w 0 i b s ad len cap wx → Calls Tryz.prog 46 #[.int .i64 0] wx fun e w' => ∃ u, e = .returned u ∧ Kd 0 u ∧ Tb w 0 i b s ad len cap w') := fun wx hx => (ofKind_any 0 wx).mono fun e w' ⟨u, a, c, d⟩ => ⟨u, a, c, hx.step d⟩
  have HC : Hid (∀ u wx, Kd 0 u → Tb w 0 i b s ad len cap wx → Calls Tryz.prog 131 #[.iface 87 (.agg #[.iface (qfc f) (.agg #[]), .int .u8 (mbits f)]), u] wx fun e w' => e = .returned (.tuple #[.nilIface, .int .i64 20]) ∧ Tb w 0 i b s ad len cap w') := fun u wx hu hx => (caughtA_no _ _ F u wx hm fun w => (hA 0 u w hu).2 hi).mono fun e w' ⟨a, d⟩ => ⟨a, hx.step d⟩
  have HS : Hid (∀ wx, Tb w 0 i b s ad len cap wx → wx.cell? ⟨w.heap.size, 0, none⟩ = some (.int .i64 0)) := fun wx h => h.c.1
  have hb0 := Tb.start w 0 i b s ad len cap
  clear hm hA hi
  generalize qfc f = Q at HI HC
  generalize mbits f = mb at HI HC
  go_enter Tryz.func118, Tryz.ntmps118
  go_wp2_with fail
  go_region_held3 (fun w' => w'.cell? ⟨w.heap.size, 0, none⟩ = some (.int .i64 0)) (exact HS.out _ (by first | assumption | exact Tb.drew (by assumption))) (first | (go_at_call 71; refine (HI.out _ (by first | assumption | exact Tb.drew (by assumption))).mono ?_; rintro e wa ⟨rfl, ba⟩) | (go_at_call 46; refine (HK.out _ (by first | assumption | exact Tb.drew (by assumption))).mono ?_; rintro e wo ⟨ua, rfl, hu, bo⟩) | (go_at_call 131; refine (HC.out _ _ (by assumption) (by first | assumption | exact Tb.drew (by assumption))).mono ?_; rintro e wc ⟨rfl, bc⟩))
  all_goals
    obtain ⟨c0, m0, m1, f1⟩ := bc.c
    have B := bc.below
    have hsz : w.heap.size + 1 < wc.heap.size := by have := Below.size bc; simp at this; omega
    have hm1 := below1 wc (.cells #[.int .i64 0, .int .i64 (-1)] 188)
    have c0' := (hm1.cell (p := ⟨w.heap.size, 0, none⟩) (show w.heap.size < wc.heap.size by omega)).trans c0
    go_wp2_with fail
    refine bodyPost_ret (v := .tuple #[.agg #[.int .i64 0, .int .i64 (-1)], .int .i64 20]) (by simp [results, Tryz.results118, go_sem, World.cell?_setCell_same, World.cell?_setCell_other, m0, m1, hsz]) rfl ⟨rfl, ?_⟩
    exact ((B.setCell (by show w.heap.size ≤ w.heap.size + 1; omega) _).setCell (by show w.heap.size ≤ w.heap.size + 1; omega) _).alloc (by simp; omega) _
set_option maxRecDepth 100000 in
set_option maxHeartbeats 2000000 in
theorem mustFace_noK (k i b : Int) (s : ByteArray) (ad : Option Addr) (len cap : Nat) (f : Int) (w : World) (hi : impl k f = false) (hk : (k != 0) = true) :
    Calls Tryz.prog 118 #[.agg #[.int .i64 k, .int .i64 i, .int .u64 b, .string s, .slice ad len cap], .int .i64 f] w fun e w' => e = .returned (.tuple #[.agg #[.int .i64 k, .int .i64 (lacks k f)], .int .i64 20]) ∧ Below w.heap.size w w' := by
  obtain ⟨F, hm, hA⟩ := face_musts f
  have HI : Hid (∀ wx, Tb w k i b s ad len cap wx → Calls Tryz.prog 71 #[.int .i64 f] wx fun e w' => e = .returned (.agg #[.iface (qfc f) (.agg #[]), .int .u8 (mbits f)]) ∧ Tb w k i b s ad len cap w') := fun wx hx => (interfaceOf_any f wx).mono fun e w' ⟨a, b⟩ => ⟨a, hx.step b⟩
  have HK : Hid (∀ wx, Tb w k i b s ad len cap wx → Calls Tryz.prog 46 #[.int .i64 k] wx fun e w' => ∃ u, e = .returned u ∧ Kd k u ∧ Tb w k i b s ad len cap w') := fun wx hx => (ofKind_any k wx).mono fun e w' ⟨u, a, c, d⟩ => ⟨u, a, c, hx.step d⟩
  have HC : Hid (∀ u wx, Kd k u → Tb w k i b s ad len cap wx → Calls Tryz.prog 131 #[.iface 87 (.agg #[.iface (qfc f) (.agg #[]), .int .u8 (mbits f)]), u] wx fun e w' => e = .returned (.tuple #[.nilIface, .int .i64 20]) ∧ Tb w k i b s ad len cap w') := fun u wx hu hx => (caughtA_no _ _ F u wx hm fun w => (hA k u w hu).2 hi).mono fun e w' ⟨a, d⟩ => ⟨a, hx.step d⟩
  have HS : Hid (∀ wx, Tb w k i b s ad len cap wx → wx.cell? ⟨w.heap.size, 0, none⟩ = some (.int .i64 k)) := fun wx h => h.c.1
  have hb0 := Tb.start w k i b s ad len cap
  clear hm hA hi
  generalize qfc f = Q at HI HC
  generalize mbits f = mb at HI HC
  have HM := Lib.hid (missing_any k f)
  generalize lacks k f = L at HM
  go_enter Tryz.func118, Tryz.ntmps118
  go_wp2_with fail
  go_region_held3 (fun w' => w'.cell? ⟨w.heap.size, 0, none⟩ = some (.int .i64 k)) (exact HS.out _ (by first | assumption | exact Tb.drew (by assumption))) (first | (go_at_call 71; refine (HI.out _ (by first | assumption | exact Tb.drew (by assumption))).mono ?_; rintro e wa ⟨rfl, ba⟩) | (go_at_call 46; refine (HK.out _ (by first | assumption | exact Tb.drew (by assumption))).mono ?_; rintro e wo ⟨ua, rfl, hu, bo⟩) | (go_at_call 131; refine (HC.out _ _ (by assumption) (by first | assumption | exact Tb.drew (by assumption))).mono ?_; rintro e wc ⟨rfl, bc⟩))
  all_goals
    obtain ⟨c0, m0, m1, f1⟩ := bc.c
    have B := bc.below
    have hsz : w.heap.size + 1 < wc.heap.size := by have := Below.size bc; simp at this; omega
    have hm1 := below1 wc (.cells #[.int .i64 k, .int .i64 (-1)] 188)
    have c0' := (hm1.cell (p := ⟨w.heap.size, 0, none⟩) (show w.heap.size < wc.heap.size by omega)).trans c0
    go_wp2_with fail
    have N0 : ∀ w', Below (wc.alloc (.cells #[.int .i64 k, .int .i64 (-1)] 188)).heap.size (wc.alloc (.cells #[.int .i64 k, .int .i64 (-1)] 188)) w' → (w'.cell? ⟨wc.heap.size, 0, none⟩ = some (.int .i64 k) ∧ w'.cell? ⟨wc.heap.size, 1, none⟩ = some (.int .i64 (-1)) ∧ (∀ o, w'.frozen? ⟨wc.heap.size, o, none⟩ = false)) ∧ w'.cell? ⟨w.heap.size + 1, 0, none⟩ = some (.int .i64 0) ∧ w'.cell? ⟨w.heap.size + 1, 1, none⟩ = some (.int .i64 0) ∧ (∀ o, w'.frozen? ⟨w.heap.size + 1, o, none⟩ = false) ∧ Below w.heap.size w w' := by
      intro w' hb
      have e0 := heap_alloc_new wc (.cells #[.int .i64 k, .int .i64 (-1)] 188)
      have h0 : w'.heap[wc.heap.size]? = some (.cells #[.int .i64 k, .int .i64 (-1)] 188 (0, 0)) := (hb.block wc.heap.size (by simp)).trans e0
      have lt1 : w.heap.size + 1 < (wc.alloc (.cells #[.int .i64 k, .int .i64 (-1)] 188)).heap.size := by simp; omega
      refine ⟨by simp [World.cell?, World.frozen?, h0], ((hb.cell (p := ⟨w.heap.size + 1, 0, none⟩) lt1).trans (hm1.cell (p := ⟨w.heap.size + 1, 0, none⟩) hsz)).trans m0, ((hb.cell (p := ⟨w.heap.size + 1, 1, none⟩) lt1).trans (hm1.cell (p := ⟨w.heap.size + 1, 1, none⟩) hsz)).trans m1, fun o => ((hb.frozen (p := ⟨w.heap.size + 1, o, none⟩) lt1).trans (hm1.frozen (p := ⟨w.heap.size + 1, o, none⟩) hsz)).trans (f1 o), (B.trans (hm1.mono (by omega))).trans (hb.mono (by simp; omega))⟩
    have hne : wc.heap.size ≠ w.heap.size + 1 := by omega
    refine (HM.out _).mono ?_
    rintro e w4 ⟨rfl, b4⟩
    obtain ⟨⟨e0, e1, e2⟩, g0, g1, g2, B4⟩ := N0 w4 b4
    clear N0 b4 m0 m1 f1 c0 c0' hm1 bc HI HK HC HS hb0 HM ba bo hu
    generalize wc.heap.size = N at e0 e1 e2 hne hsz
    have hne' : w.heap.size + 1 ≠ N := fun h => hne h.symm
    go_wp2_with fail
    refine bodyPost_ret (v := .tuple #[.agg #[.int .i64 k, .int .i64 L], .int .i64 20]) (by simp [results, Tryz.results118, go_sem, World.cell?_setCell_same, World.cell?_setCell_other, g0, g1]) rfl ⟨rfl, ?_⟩
    exact ((B4.setCell (by show w.heap.size ≤ N; omega) _).setCell (by show w.heap.size ≤ w.heap.size + 1; omega) _).setCell (by show w.heap.size ≤ w.heap.size + 1; omega) _

theorem mustFace_no (k i b : Int) (s : ByteArray) (ad : Option Addr) (len cap : Nat) (f : Int) (w : World) (hi : impl k f = false) :
    Calls Tryz.prog 118 #[.agg #[.int .i64 k, .int .i64 i, .int .u64 b, .string s, .slice ad len cap], .int .i64 f] w fun e w' => e = .returned (.tuple #[.agg #[.int .i64 k, .int .i64 (lackM k f)], .int .i64 20]) ∧ Below w.heap.size w w' := by
  by_cases hk : k = 0
  · subst hk
    have : lackM 0 f = -1 := by unfold lackM; rw [if_pos rfl]
    rw [this]
    exact mustFace_no0 i b s ad len cap f w hi
  · have : lackM k f = lacks k f := by unfold lackM; rw [if_neg hk]
    rw [this]
    exact mustFace_noK k i b s ad len cap f w hi (by simpa using hk)
end Go.Proofs.YtajagjcfmaggiaaGreatDoor
