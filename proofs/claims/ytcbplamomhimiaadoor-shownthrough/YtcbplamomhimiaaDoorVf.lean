/- Pattern of the document, as the plain functions say; the conditions: the pattern's tree in memory. -/
import Derived.Test.YtcbplamomhimiaaDoorVe
namespace Go.Proofs.YtcbplamomhimiaaDoor
open Go.RowKit

theorem repW_top {w : World} {n : Nat} {v0 v1 v2 : Value} {t : Wt n} (h : RepW w n [v0, v1, v2] t) : ∃ (m : Int) (ad : Option Addr) (len cap : Nat), v0 = .int .i64 (topW n t) ∧ v1 = .int .i64 m ∧ v2 = .slice ad len cap := by
  match n, t, h with
  | n + 1, t, h =>
    obtain ⟨ad, cap, e, -, -, -⟩ := h
    simp only [List.cons.injEq, and_true] at e
    exact ⟨_, _, _, _, e⟩
def PatN (n : Nat) : Prop := ∀ (t : Wt n) (v0 v1 v2 : Value) (d : Int) (w : World), RepW w n [v0, v1, v2] t → 0 ≤ d → d ≤ 40 →
    Calls Tryd.prog 61 #[.agg #[v0, v1, v2], .int .i64 d] w fun e w' => e = .returned (.bool (pt n t d)) ∧ Below w.heap.size w w'
def PatIs (o m : Int) (len : Nat) (b : Bool) : Prop := ∀ (ad : Option Addr) (cap : Nat) (d : Int) (w : World), 0 ≤ d → ¬ 32 < d →
    Calls Tryd.prog 61 #[.agg #[.int .i64 o, .int .i64 m, .slice ad len cap], .int .i64 d] w fun e w' => e = .returned (.bool b) ∧ Below w.heap.size w w'
set_option maxRecDepth 100000 in
set_option maxHeartbeats 4000000 in
theorem pat_deep (o m : Int) (ad : Option Addr) (len cap : Nat) (d : Int) (w : World) (h : 32 < d) :
    Calls Tryd.prog 61 #[.agg #[.int .i64 o, .int .i64 m, .slice ad len cap], .int .i64 d] w fun e w' => e = .returned (.bool false) ∧ Below w.heap.size w w' := by
  go_enter Tryd.func61, Tryd.ntmps61
  go_wp2
  go_ret
  exact ⟨rfl, below1 w _⟩
set_option maxRecDepth 100000 in
set_option maxHeartbeats 4000000 in
theorem pat1m (m : Int) (len : Nat) (h : m ≠ 0) : PatIs 1 m len false := by
  have q1 : (m == 0) = false := by simpa using h
  clear h
  intro ad cap d w hd0 hd
  go_enter Tryd.func61, Tryd.ntmps61
  go_wp2
  go_ret
  exact ⟨rfl, below1 w _⟩
set_option maxRecDepth 100000 in
set_option maxHeartbeats 4000000 in
theorem pat1l (len : Nat) (h : len ≠ 0) : PatIs 1 0 len false := by
  have q1 : ((len : Int) == 0) = false := by simp; omega
  clear h
  intro ad cap d w hd0 hd
  go_enter Tryd.func61, Tryd.ntmps61
  go_wp2
  go_ret
  exact ⟨rfl, below1 w _⟩
set_option maxRecDepth 100000 in
set_option maxHeartbeats 4000000 in
theorem pat1y : PatIs 1 0 0 true := by
  intro ad cap d w hd0 hd
  go_enter Tryd.func61, Tryd.ntmps61
  go_wp2
  go_ret
  exact ⟨rfl, below1 w _⟩
set_option maxRecDepth 100000 in
set_option maxHeartbeats 4000000 in
theorem pat2n (m : Int) (len : Nat) (h : m < 0) : PatIs 2 m len false := by
  have q1 : ¬ 0 ≤ m := by omega
  intro ad cap d w hd0 hd
  go_enter Tryd.func61, Tryd.ntmps61
  go_wp2
  go_ret
  exact ⟨rfl, below1 w _⟩
set_option maxRecDepth 100000 in
set_option maxHeartbeats 4000000 in
theorem pat2g (m : Int) (len : Nat) (h2 : 14 ≤ m) : PatIs 2 m len false := by
  have q1 : ¬ m < 14 := by omega
  have q2 : 0 ≤ m := by omega
  intro ad cap d w hd0 hd
  go_enter Tryd.func61, Tryd.ntmps61
  go_wp2
  go_ret
  exact ⟨rfl, below1 w _⟩
set_option maxRecDepth 100000 in
set_option maxHeartbeats 4000000 in
theorem pat2l (m : Int) (len : Nat) (h : ¬ m < 0) (h2 : ¬ 14 ≤ m) (h3 : len ≠ 0) : PatIs 2 m len false := by
  have q1 : m < 14 := by omega
  have q2 : 0 ≤ m := by omega
  have q3 : ((len : Int) == 0) = false := by simp; omega
  clear h3
  intro ad cap d w hd0 hd
  go_enter Tryd.func61, Tryd.ntmps61
  go_wp2
  go_ret
  exact ⟨rfl, below1 w _⟩
set_option maxRecDepth 100000 in
set_option maxHeartbeats 4000000 in
theorem pat2y (m : Int) (h : ¬ m < 0) (h2 : ¬ 14 ≤ m) : PatIs 2 m 0 true := by
  have q1 : m < 14 := by omega
  have q2 : 0 ≤ m := by omega
  intro ad cap d w hd0 hd
  go_enter Tryd.func61, Tryd.ntmps61
  go_wp2
  go_ret
  exact ⟨rfl, below1 w _⟩
set_option maxRecDepth 100000 in
set_option maxHeartbeats 4000000 in
theorem pat3n (m : Int) (len : Nat) (h : m < 0) : PatIs 3 m len false := by
  have q1 : ¬ 0 ≤ m := by omega
  intro ad cap d w hd0 hd
  go_enter Tryd.func61, Tryd.ntmps61
  go_wp2
  go_ret
  exact ⟨rfl, below1 w _⟩
set_option maxRecDepth 100000 in
set_option maxHeartbeats 4000000 in
theorem pat3g (m : Int) (len : Nat) (h2 : 10 ≤ m) : PatIs 3 m len false := by
  have q1 : ¬ m < 10 := by omega
  have q2 : 0 ≤ m := by omega
  intro ad cap d w hd0 hd
  go_enter Tryd.func61, Tryd.ntmps61
  go_wp2
  go_ret
  exact ⟨rfl, below1 w _⟩
set_option maxRecDepth 100000 in
set_option maxHeartbeats 4000000 in
theorem pat3l (m : Int) (len : Nat) (h : ¬ m < 0) (h2 : ¬ 10 ≤ m) (h3 : len ≠ 0) : PatIs 3 m len false := by
  have q1 : m < 10 := by omega
  have q2 : 0 ≤ m := by omega
  have q3 : ((len : Int) == 0) = false := by simp; omega
  clear h3
  intro ad cap d w hd0 hd
  go_enter Tryd.func61, Tryd.ntmps61
  go_wp2
  go_ret
  exact ⟨rfl, below1 w _⟩
set_option maxRecDepth 100000 in
set_option maxHeartbeats 4000000 in
theorem pat3y (m : Int) (h : ¬ m < 0) (h2 : ¬ 10 ≤ m) : PatIs 3 m 0 true := by
  have q1 : m < 10 := by omega
  have q2 : 0 ≤ m := by omega
  intro ad cap d w hd0 hd
  go_enter Tryd.func61, Tryd.ntmps61
  go_wp2
  go_ret
  exact ⟨rfl, below1 w _⟩
set_option maxRecDepth 100000 in
set_option maxHeartbeats 4000000 in
theorem pat4m (m : Int) (len : Nat) (h : m ≠ 0) : PatIs 4 m len false := by
  have q1 : (m == 0) = false := by simpa using h
  have q2 : (m != 0) = true := by simpa using h
  clear h
  intro ad cap d w hd0 hd
  go_enter Tryd.func61, Tryd.ntmps61
  go_wp2
  go_ret
  exact ⟨rfl, below1 w _⟩
set_option maxRecDepth 100000 in
set_option maxHeartbeats 4000000 in
theorem pat4l (len : Nat) (h : len < 2) : PatIs 4 0 len false := by
  have q1 : (len : Int) < 2 := by omega
  intro ad cap d w hd0 hd
  go_enter Tryd.func61, Tryd.ntmps61
  go_wp2
  go_ret
  exact ⟨rfl, below1 w _⟩
set_option maxRecDepth 100000 in
set_option maxHeartbeats 4000000 in
theorem pat5m (m : Int) (len : Nat) (h : m ≠ 0) : PatIs 5 m len false := by
  have q1 : (m == 0) = false := by simpa using h
  have q2 : (m != 0) = true := by simpa using h
  clear h
  intro ad cap d w hd0 hd
  go_enter Tryd.func61, Tryd.ntmps61
  go_wp2
  go_ret
  exact ⟨rfl, below1 w _⟩
set_option maxRecDepth 100000 in
set_option maxHeartbeats 4000000 in
theorem pat5l (len : Nat) (h : len < 2) : PatIs 5 0 len false := by
  have q1 : (len : Int) < 2 := by omega
  intro ad cap d w hd0 hd
  go_enter Tryd.func61, Tryd.ntmps61
  go_wp2
  go_ret
  exact ⟨rfl, below1 w _⟩
set_option maxRecDepth 100000 in
set_option maxHeartbeats 4000000 in
theorem pat6m (m : Int) (len : Nat) (h : m ≠ 0) : PatIs 6 m len false := by
  have q1 : (m == 0) = false := by simpa using h
  have q2 : (m != 0) = true := by simpa using h
  clear h
  intro ad cap d w hd0 hd
  go_enter Tryd.func61, Tryd.ntmps61
  go_wp2
  go_ret
  exact ⟨rfl, below1 w _⟩
set_option maxRecDepth 100000 in
set_option maxHeartbeats 4000000 in
theorem pat6l (len : Nat) (h : len ≠ 1) : PatIs 6 0 len false := by
  have q1 : ((len : Int) == 1) = false := by simp; omega
  have q2 : ((len : Int) != 1) = true := by simp; omega
  clear h
  intro ad cap d w hd0 hd
  go_enter Tryd.func61, Tryd.ntmps61
  go_wp2
  go_ret
  exact ⟨rfl, below1 w _⟩
set_option maxRecDepth 100000 in
set_option maxHeartbeats 4000000 in
theorem pat_op (o m : Int) (len : Nat) (h1 : o ≠ 1) (h2 : o ≠ 2) (h3 : o ≠ 3) (h4 : o ≠ 4) (h5 : o ≠ 5) (h6 : o ≠ 6) : PatIs o m len false := by
  have g1 : (o == 1) = false := by simpa using h1
  have g2 : (o == 2) = false := by simpa using h2
  have g3 : (o == 3) = false := by simpa using h3
  have g4 : (o == 4) = false := by simpa using h4
  have g5 : (o == 5) = false := by simpa using h5
  have g6 : (o == 6) = false := by simpa using h6
  clear h1 h2 h3 h4 h5 h6
  intro ad cap d w hd0 hd
  go_enter Tryd.func61, Tryd.ntmps61
  go_wp2
  go_ret
  exact ⟨rfl, below1 w _⟩
theorem pat_bad (o m : Int) (len : Nat) (h : okW o m len = false) : PatIs o m len false := by
  by_cases h1 : o = 1
  · subst h1
    have h' := of_decide_eq_false (show decide (m = 0 ∧ len = 0) = false from h)
    by_cases hm : m = 0
    · subst hm; exact pat1l len (by omega)
    · exact pat1m m len hm
  by_cases h2 : o = 2
  · subst h2
    have h' := of_decide_eq_false (show decide (0 ≤ m ∧ m < 14 ∧ len = 0) = false from h)
    by_cases a : m < 0
    · exact pat2n m len a
    by_cases b : 14 ≤ m
    · exact pat2g m len b
    · exact pat2l m len a b (by omega)
  by_cases h3 : o = 3
  · subst h3
    have h' := of_decide_eq_false (show decide (0 ≤ m ∧ m < 10 ∧ len = 0) = false from h)
    by_cases a : m < 0
    · exact pat3n m len a
    by_cases b : 10 ≤ m
    · exact pat3g m len b
    · exact pat3l m len a b (by omega)
  by_cases h4 : o = 4
  · subst h4
    have h' := of_decide_eq_false (show decide (m = 0 ∧ 2 ≤ len) = false from h)
    by_cases hm : m = 0
    · subst hm; exact pat4l len (by omega)
    · exact pat4m m len hm
  by_cases h5 : o = 5
  · subst h5
    have h' := of_decide_eq_false (show decide (m = 0 ∧ 2 ≤ len) = false from h)
    by_cases hm : m = 0
    · subst hm; exact pat5l len (by omega)
    · exact pat5m m len hm
  by_cases h6 : o = 6
  · subst h6
    have h' := of_decide_eq_false (show decide (m = 0 ∧ len = 1) = false from h)
    by_cases hm : m = 0
    · subst hm; exact pat6l len (by omega)
    · exact pat6m m len hm
  exact pat_op o m len h1 h2 h3 h4 h5 h6

/-- The nesting of an operand. -/
def inn (n : Nat) (o d : Int) (t' : Wt n) : Int := d + (if o = 6 then 1 else 0) + (if prn o (topW n t') = true then 1 else 0)
set_option maxRecDepth 100000 in
set_option maxHeartbeats 4000000 in
theorem pat_row4 (n : Nat) (ih : PatN n) (ts : List (Wt n)) (ad : Option Addr) (cap : Nat) (d : Int) (w : World) (hcap : ts.length ≤ cap) (hmax : cap ≤ maxLen) (hr : KidsW w n ad ts) (h2 : 2 ≤ ts.length) (hd0 : 0 ≤ d) (hd : ¬ 32 < d) :
    Calls Tryd.prog 61 #[.agg #[.int .i64 4, .int .i64 0, .slice ad ts.length cap], .int .i64 d] w fun e w' => e = .returned (.bool (ts.all fun t' => pt n t' (inn n 4 d t'))) ∧ Below w.heap.size w w' := by
  unfold maxLen at hmax
  have HI : Hid (∀ (t : Wt n) (v0 v1 v2 : Value) (d' : Int) (wx : World), RepW w n [v0, v1, v2] t → One w (.int .i64 4) (.int .i64 0) (.slice ad ts.length cap) wx → 0 ≤ d' → d' ≤ 40 → Calls Tryd.prog 61 #[.agg #[v0, v1, v2], .int .i64 d'] wx fun e w' => e = .returned (.bool (pt n t d')) ∧ One w (.int .i64 4) (.int .i64 0) (.slice ad ts.length cap) w') := fun t v0 v1 v2 d' wx hx ho h1 h2 => (ih t v0 v1 v2 d' wx (RepW.below ho.below n _ _ hx) h1 h2).mono fun e w' ⟨a, b⟩ => ⟨a, ho.step b⟩
  have HK := Lib.hid hr
  have hb0 := One.start w (.int .i64 4) (.int .i64 0) (.slice ad ts.length cap)
  have hl2 : ¬ (ts.length : Int) < 2 := by omega
  clear ih hr
  go_enter Tryd.func61, Tryd.ntmps61
  go_wp2_with fail
  go_loopw [70] (fun si wr => ∃ (j : Nat), si = .int .i64 j ∧ j ≤ ts.length ∧ Hid ((ts.all fun t' => pt n t' (inn n 4 d t')) = ((ts.drop j).all fun t' => pt n t' (inn n 4 d t'))) ∧ One w (.int .i64 4) (.int .i64 0) (.slice ad ts.length cap) wr) (fun si _ => ts.length - (intOf si).toNat)
  case atStart => exact ⟨0, rfl, Nat.zero_le _, Lib.hid rfl, hb0⟩
  case round =>
    obtain ⟨j, rfl, hj, HV, hb⟩ := hrel
    have hbw := hb.below
    obtain ⟨c0, c1, c2⟩ := hb.c
    by_cases hlt : j < ts.length
    · have hne : ts ≠ [] := by intro e; rw [e] at hlt; exact absurd hlt (Nat.not_lt_zero _)
      rcases HK.out with hk | ⟨g, oo, hk1, hk2⟩
      · exact absurd hk hne
      subst hk1
      obtain ⟨v0, v1, v2, e0, e1, e2, rk⟩ := hk2 j _ (List.getElem?_eq_getElem hlt)
      have hgl : g < w.heap.size := World.block_lt_of_cell? w _ e0
      have x0 := (hbw.cell (p := ⟨g, oo + j * 3, none⟩) hgl).trans e0
      have x1 := (hbw.cell (p := ⟨g, oo + j * 3 + 1, none⟩) hgl).trans e1
      have x2 := (hbw.cell (p := ⟨g, oo + j * 3 + 2, none⟩) hgl).trans e2
      have HV' : Hid ((ts.all fun t' => pt n t' (inn n 4 d t')) = (pt n ts[j] (inn n 4 d ts[j]) && (ts.drop (j + 1)).all fun t' => pt n t' (inn n 4 d t'))) := Lib.hid (by rw [HV.out, drop_atW ts j hlt, List.all_cons])
      have KP : Hid (∀ wx, One w (.int .i64 4) (.int .i64 0) (.slice (some ⟨g, oo, none⟩) ts.length cap) wx → Calls Tryd.prog 61 #[.agg #[v0, v1, v2], .int .i64 (inn n 4 d ts[j])] wx fun e w' => e = .returned (.bool (pt n ts[j] (inn n 4 d ts[j]))) ∧ One w (.int .i64 4) (.int .i64 0) (.slice (some ⟨g, oo, none⟩) ts.length cap) w') := fun wx hx => HI.out ts[j] v0 v1 v2 _ wx rk hx (by unfold inn; split <;> split <;> omega) (by unfold inn; split <;> split <;> omega)
      obtain ⟨m', ad', len', cap', rfl, rfl, rfl⟩ := repW_top rk
      have KQ : Hid (∀ wx, Calls Tryd.prog 64 #[.int .i64 4, .int .i64 (topW n ts[j])] wx fun e w' => e = .returned (.bool (prn 4 (topW n ts[j]))) ∧ w' = wx) := parens_any 4 _
      have hinn : inn n 4 d ts[j] = d + 0 + (if prn 4 (topW n ts[j]) = true then 1 else 0) := by unfold inn; rw [if_neg (by decide)]
      have hii : ((j : Nat) : Int) < (ts.length : Int) := by omega
      have hi0 : (0 : Int) ≤ ((j : Nat) : Int) := by omega
      clear e0 e1 e2 hk2 HK rk HI HV
      generalize pt n ts[j] (inn n 4 d ts[j]) = B at KP HV'
      generalize topW n ts[j] = tp at KP KQ hinn x0
      cases hp : prn 4 tp with
      | true =>
        rw [hp] at hinn KQ
        have hq : inn n 4 d ts[j] = d + 1 := by rw [hinn, if_pos rfl]; omega
        rw [hq] at KP
        clear hq hinn hp
        go_wp2_with fail
        go_quiet ((go_at_call 64; exact Calls.quiet_of_same (KQ.out _)))
        cases B
        all_goals
          go_wp2_with (first
            | (go_at_call 61; refine (KP.out _ (by first | assumption | exact One.drew (by assumption) | exact One.drewN (by assumption) _)).mono ?_; rintro e w1 ⟨rfl, b1⟩))
        · go_ret
          exact ⟨by rw [HV'.out]; rfl, b1.below⟩
        · exact ⟨⟨j + 1, by go_num, by omega, Lib.hid (by rw [HV'.out]; rfl), b1⟩, by simp [intOf]; omega⟩
      | false =>
        rw [hp] at hinn KQ
        have hq : inn n 4 d ts[j] = d := by rw [hinn, if_neg (by simp)]; omega
        rw [hq] at KP
        clear hq hinn hp
        go_wp2_with fail
        go_quiet ((go_at_call 64; exact Calls.quiet_of_same (KQ.out _)))
        cases B
        all_goals
          go_wp2_with (first
            | (go_at_call 61; refine (KP.out _ (by first | assumption | exact One.drew (by assumption) | exact One.drewN (by assumption) _)).mono ?_; rintro e w1 ⟨rfl, b1⟩))
        · go_ret
          exact ⟨by rw [HV'.out]; rfl, b1.below⟩
        · exact ⟨⟨j + 1, by go_num, by omega, Lib.hid (by rw [HV'.out]; rfl), b1⟩, by simp [intOf]; omega⟩
    · have hje : j = ts.length := by omega
      have hv := HV.out
      rw [hje, List.drop_length] at hv
      have HW := Lib.hid hv
      clear hv HV
      go_wp2_with fail
      go_ret
      exact ⟨by rw [HW.out]; rfl, hbw⟩
set_option maxRecDepth 100000 in
set_option maxHeartbeats 4000000 in
theorem pat_row5 (n : Nat) (ih : PatN n) (ts : List (Wt n)) (ad : Option Addr) (cap : Nat) (d : Int) (w : World) (hcap : ts.length ≤ cap) (hmax : cap ≤ maxLen) (hr : KidsW w n ad ts) (h2 : 2 ≤ ts.length) (hd0 : 0 ≤ d) (hd : ¬ 32 < d) :
    Calls Tryd.prog 61 #[.agg #[.int .i64 5, .int .i64 0, .slice ad ts.length cap], .int .i64 d] w fun e w' => e = .returned (.bool (ts.all fun t' => pt n t' (inn n 5 d t'))) ∧ Below w.heap.size w w' := by
  unfold maxLen at hmax
  have HI : Hid (∀ (t : Wt n) (v0 v1 v2 : Value) (d' : Int) (wx : World), RepW w n [v0, v1, v2] t → One w (.int .i64 5) (.int .i64 0) (.slice ad ts.length cap) wx → 0 ≤ d' → d' ≤ 40 → Calls Tryd.prog 61 #[.agg #[v0, v1, v2], .int .i64 d'] wx fun e w' => e = .returned (.bool (pt n t d')) ∧ One w (.int .i64 5) (.int .i64 0) (.slice ad ts.length cap) w') := fun t v0 v1 v2 d' wx hx ho h1 h2 => (ih t v0 v1 v2 d' wx (RepW.below ho.below n _ _ hx) h1 h2).mono fun e w' ⟨a, b⟩ => ⟨a, ho.step b⟩
  have HK := Lib.hid hr
  have hb0 := One.start w (.int .i64 5) (.int .i64 0) (.slice ad ts.length cap)
  have hl2 : ¬ (ts.length : Int) < 2 := by omega
  clear ih hr
  go_enter Tryd.func61, Tryd.ntmps61
  go_wp2_with fail
  go_loopw [70] (fun si wr => ∃ (j : Nat), si = .int .i64 j ∧ j ≤ ts.length ∧ Hid ((ts.all fun t' => pt n t' (inn n 5 d t')) = ((ts.drop j).all fun t' => pt n t' (inn n 5 d t'))) ∧ One w (.int .i64 5) (.int .i64 0) (.slice ad ts.length cap) wr) (fun si _ => ts.length - (intOf si).toNat)
  case atStart => exact ⟨0, rfl, Nat.zero_le _, Lib.hid rfl, hb0⟩
  case round =>
    obtain ⟨j, rfl, hj, HV, hb⟩ := hrel
    have hbw := hb.below
    obtain ⟨c0, c1, c2⟩ := hb.c
    by_cases hlt : j < ts.length
    · have hne : ts ≠ [] := by intro e; rw [e] at hlt; exact absurd hlt (Nat.not_lt_zero _)
      rcases HK.out with hk | ⟨g, oo, hk1, hk2⟩
      · exact absurd hk hne
      subst hk1
      obtain ⟨v0, v1, v2, e0, e1, e2, rk⟩ := hk2 j _ (List.getElem?_eq_getElem hlt)
      have hgl : g < w.heap.size := World.block_lt_of_cell? w _ e0
      have x0 := (hbw.cell (p := ⟨g, oo + j * 3, none⟩) hgl).trans e0
      have x1 := (hbw.cell (p := ⟨g, oo + j * 3 + 1, none⟩) hgl).trans e1
      have x2 := (hbw.cell (p := ⟨g, oo + j * 3 + 2, none⟩) hgl).trans e2
      have HV' : Hid ((ts.all fun t' => pt n t' (inn n 5 d t')) = (pt n ts[j] (inn n 5 d ts[j]) && (ts.drop (j + 1)).all fun t' => pt n t' (inn n 5 d t'))) := Lib.hid (by rw [HV.out, drop_atW ts j hlt, List.all_cons])
      have KP : Hid (∀ wx, One w (.int .i64 5) (.int .i64 0) (.slice (some ⟨g, oo, none⟩) ts.length cap) wx → Calls Tryd.prog 61 #[.agg #[v0, v1, v2], .int .i64 (inn n 5 d ts[j])] wx fun e w' => e = .returned (.bool (pt n ts[j] (inn n 5 d ts[j]))) ∧ One w (.int .i64 5) (.int .i64 0) (.slice (some ⟨g, oo, none⟩) ts.length cap) w') := fun wx hx => HI.out ts[j] v0 v1 v2 _ wx rk hx (by unfold inn; split <;> split <;> omega) (by unfold inn; split <;> split <;> omega)
      obtain ⟨m', ad', len', cap', rfl, rfl, rfl⟩ := repW_top rk
      have KQ : Hid (∀ wx, Calls Tryd.prog 64 #[.int .i64 5, .int .i64 (topW n ts[j])] wx fun e w' => e = .returned (.bool (prn 5 (topW n ts[j]))) ∧ w' = wx) := parens_any 5 _
      have hinn : inn n 5 d ts[j] = d + 0 + (if prn 5 (topW n ts[j]) = true then 1 else 0) := by unfold inn; rw [if_neg (by decide)]
      have hii : ((j : Nat) : Int) < (ts.length : Int) := by omega
      have hi0 : (0 : Int) ≤ ((j : Nat) : Int) := by omega
      clear e0 e1 e2 hk2 HK rk HI HV
      generalize pt n ts[j] (inn n 5 d ts[j]) = B at KP HV'
      generalize topW n ts[j] = tp at KP KQ hinn x0
      cases hp : prn 5 tp with
      | true =>
        rw [hp] at hinn KQ
        have hq : inn n 5 d ts[j] = d + 1 := by rw [hinn, if_pos rfl]; omega
        rw [hq] at KP
        clear hq hinn hp
        go_wp2_with fail
        go_quiet ((go_at_call 64; exact Calls.quiet_of_same (KQ.out _)))
        cases B
        all_goals
          go_wp2_with (first
            | (go_at_call 61; refine (KP.out _ (by first | assumption | exact One.drew (by assumption) | exact One.drewN (by assumption) _)).mono ?_; rintro e w1 ⟨rfl, b1⟩))
        · go_ret
          exact ⟨by rw [HV'.out]; rfl, b1.below⟩
        · exact ⟨⟨j + 1, by go_num, by omega, Lib.hid (by rw [HV'.out]; rfl), b1⟩, by simp [intOf]; omega⟩
      | false =>
        rw [hp] at hinn KQ
        have hq : inn n 5 d ts[j] = d := by rw [hinn, if_neg (by simp)]; omega
        rw [hq] at KP
        clear hq hinn hp
        go_wp2_with fail
        go_quiet ((go_at_call 64; exact Calls.quiet_of_same (KQ.out _)))
        cases B
        all_goals
          go_wp2_with (first
            | (go_at_call 61; refine (KP.out _ (by first | assumption | exact One.drew (by assumption) | exact One.drewN (by assumption) _)).mono ?_; rintro e w1 ⟨rfl, b1⟩))
        · go_ret
          exact ⟨by rw [HV'.out]; rfl, b1.below⟩
        · exact ⟨⟨j + 1, by go_num, by omega, Lib.hid (by rw [HV'.out]; rfl), b1⟩, by simp [intOf]; omega⟩
    · have hje : j = ts.length := by omega
      have hv := HV.out
      rw [hje, List.drop_length] at hv
      have HW := Lib.hid hv
      clear hv HV
      go_wp2_with fail
      go_ret
      exact ⟨by rw [HW.out]; rfl, hbw⟩
end Go.Proofs.YtcbplamomhimiaaDoor
