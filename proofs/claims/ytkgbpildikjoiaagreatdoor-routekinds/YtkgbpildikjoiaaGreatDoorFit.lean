/- The document's Fit of any pattern: as the plain functions say; the condition: the pattern's tree in memory. -/
import Derived.Test.YtkgbpildikjoiaaGreatDoorLook
namespace Go.Proofs.YtkgbpildikjoiaaGreatDoor
open Go.RowKit

/-- What look answers where a part is not right. -/
def LookBad (o m : Int) (len : Nat) : Prop := ∀ (ad : Option Addr) (cap : Nat) (deep s : Int) (w : World), ¬ 128 < deep → ¬ 16384 < s →
    Calls Tryz.prog 43 #[.agg #[.int .i64 o, .int .i64 m, .slice ad len cap], .int .i64 deep, .int .i64 s] w fun e w' => e = .returned (.int .i64 (-1)) ∧ Below w.heap.size w w'

set_option maxRecDepth 100000 in
set_option maxHeartbeats 1000000 in
theorem bad1m (m : Int) (len : Nat) (h : m ≠ 0) : LookBad 1 m len := by
  intro ad cap deep s w hgd hgs
  have q1 : (m == 0) = false := by simpa using h
  have q2 : (m != 0) = true := by simpa using h
  clear h
  go_enter Tryz.func43, Tryz.ntmps43
  go_wp2
  go_ret
  exact ⟨rfl, below1 w _⟩
set_option maxRecDepth 100000 in
set_option maxHeartbeats 1000000 in
theorem bad1l (len : Nat) (h : len ≠ 0) : LookBad 1 0 len := by
  intro ad cap deep s w hgd hgs
  have q1 : ((len : Int) == 0) = false := by simp; omega
  have q2 : ((len : Int) != 0) = true := by simp; omega
  clear h
  go_enter Tryz.func43, Tryz.ntmps43
  go_wp2
  go_ret
  exact ⟨rfl, below1 w _⟩
set_option maxRecDepth 100000 in
set_option maxHeartbeats 1000000 in
theorem bad2n (m : Int) (len : Nat) (h : m < 0) : LookBad 2 m len := by
  intro ad cap deep s w hgd hgs
  go_enter Tryz.func43, Tryz.ntmps43
  go_wp2
  go_ret
  exact ⟨rfl, below1 w _⟩
set_option maxRecDepth 100000 in
set_option maxHeartbeats 1000000 in
theorem bad2g (m : Int) (len : Nat) (h0 : ¬ m < 0) (h : 14 ≤ m) : LookBad 2 m len := by
  intro ad cap deep s w hgd hgs
  go_enter Tryz.func43, Tryz.ntmps43
  go_wp2
  go_ret
  exact ⟨rfl, below1 w _⟩
set_option maxRecDepth 100000 in
set_option maxHeartbeats 1000000 in
theorem bad2l (m : Int) (len : Nat) (h0 : ¬ m < 0) (h1 : ¬ 14 ≤ m) (h : len ≠ 0) : LookBad 2 m len := by
  intro ad cap deep s w hgd hgs
  have q1 : ((len : Int) == 0) = false := by simp; omega
  have q2 : ((len : Int) != 0) = true := by simp; omega
  clear h
  go_enter Tryz.func43, Tryz.ntmps43
  go_wp2
  go_ret
  exact ⟨rfl, below1 w _⟩
set_option maxRecDepth 100000 in
set_option maxHeartbeats 1000000 in
theorem bad3n (m : Int) (len : Nat) (h : m < 0) : LookBad 3 m len := by
  intro ad cap deep s w hgd hgs
  go_enter Tryz.func43, Tryz.ntmps43
  go_wp2
  go_ret
  exact ⟨rfl, below1 w _⟩
set_option maxRecDepth 100000 in
set_option maxHeartbeats 1000000 in
theorem bad3g (m : Int) (len : Nat) (h0 : ¬ m < 0) (h : 10 ≤ m) : LookBad 3 m len := by
  intro ad cap deep s w hgd hgs
  go_enter Tryz.func43, Tryz.ntmps43
  go_wp2
  go_ret
  exact ⟨rfl, below1 w _⟩
set_option maxRecDepth 100000 in
set_option maxHeartbeats 1000000 in
theorem bad3l (m : Int) (len : Nat) (h0 : ¬ m < 0) (h1 : ¬ 10 ≤ m) (h : len ≠ 0) : LookBad 3 m len := by
  intro ad cap deep s w hgd hgs
  have q1 : ((len : Int) == 0) = false := by simp; omega
  have q2 : ((len : Int) != 0) = true := by simp; omega
  clear h
  go_enter Tryz.func43, Tryz.ntmps43
  go_wp2
  go_ret
  exact ⟨rfl, below1 w _⟩
set_option maxRecDepth 100000 in
set_option maxHeartbeats 1000000 in
theorem bad4m (m : Int) (len : Nat) (h : m ≠ 0) : LookBad 4 m len := by
  intro ad cap deep s w hgd hgs
  have q1 : (m == 0) = false := by simpa using h
  have q2 : (m != 0) = true := by simpa using h
  clear h
  go_enter Tryz.func43, Tryz.ntmps43
  go_wp2
  go_ret
  exact ⟨rfl, below1 w _⟩
set_option maxRecDepth 100000 in
set_option maxHeartbeats 1000000 in
theorem bad4l (len : Nat) (h : len < 2) : LookBad 4 0 len := by
  intro ad cap deep s w hgd hgs
  have q1 : (len : Int) < 2 := by omega
  go_enter Tryz.func43, Tryz.ntmps43
  go_wp2
  go_ret
  exact ⟨rfl, below1 w _⟩
set_option maxRecDepth 100000 in
set_option maxHeartbeats 1000000 in
theorem bad5m (m : Int) (len : Nat) (h : m ≠ 0) : LookBad 5 m len := by
  intro ad cap deep s w hgd hgs
  have q1 : (m == 0) = false := by simpa using h
  have q2 : (m != 0) = true := by simpa using h
  clear h
  go_enter Tryz.func43, Tryz.ntmps43
  go_wp2
  go_ret
  exact ⟨rfl, below1 w _⟩
set_option maxRecDepth 100000 in
set_option maxHeartbeats 1000000 in
theorem bad5l (len : Nat) (h : len < 2) : LookBad 5 0 len := by
  intro ad cap deep s w hgd hgs
  have q1 : (len : Int) < 2 := by omega
  go_enter Tryz.func43, Tryz.ntmps43
  go_wp2
  go_ret
  exact ⟨rfl, below1 w _⟩
set_option maxRecDepth 100000 in
set_option maxHeartbeats 1000000 in
theorem bad6m (m : Int) (len : Nat) (h : m ≠ 0) : LookBad 6 m len := by
  intro ad cap deep s w hgd hgs
  have q1 : (m == 0) = false := by simpa using h
  have q2 : (m != 0) = true := by simpa using h
  clear h
  go_enter Tryz.func43, Tryz.ntmps43
  go_wp2
  go_ret
  exact ⟨rfl, below1 w _⟩
set_option maxRecDepth 100000 in
set_option maxHeartbeats 1000000 in
theorem bad6l (len : Nat) (h : len ≠ 1) : LookBad 6 0 len := by
  intro ad cap deep s w hgd hgs
  have q1 : ((len : Int) == 1) = false := by simp; omega
  have q2 : ((len : Int) != 1) = true := by simp; omega
  clear h
  go_enter Tryz.func43, Tryz.ntmps43
  go_wp2
  go_ret
  exact ⟨rfl, below1 w _⟩
set_option maxRecDepth 100000 in
set_option maxHeartbeats 1000000 in
theorem bad_op (o m : Int) (len : Nat) (h1 : o ≠ 1) (h2 : o ≠ 2) (h3 : o ≠ 3) (h4 : o ≠ 4) (h5 : o ≠ 5) (h6 : o ≠ 6) : LookBad o m len := by
  intro ad cap deep s w hgd hgs
  have g1 : (o == 1) = false := by simpa using h1
  have g2 : (o == 2) = false := by simpa using h2
  have g3 : (o == 3) = false := by simpa using h3
  have g4 : (o == 4) = false := by simpa using h4
  have g5 : (o == 5) = false := by simpa using h5
  have g6 : (o == 6) = false := by simpa using h6
  clear h1 h2 h3 h4 h5 h6
  go_enter Tryz.func43, Tryz.ntmps43
  go_wp2
  go_ret
  exact ⟨rfl, below1 w _⟩
theorem bad_any (o m : Int) (len : Nat) (h : okW o m len = false) : LookBad o m len := by
  by_cases h1 : o = 1
  · subst h1
    have h' := of_decide_eq_false (show decide (m = 0 ∧ len = 0) = false from h)
    by_cases hm : m = 0
    · subst hm; exact bad1l len (by omega)
    · exact bad1m m len hm
  by_cases h2 : o = 2
  · subst h2
    have h' := of_decide_eq_false (show decide (0 ≤ m ∧ m < 14 ∧ len = 0) = false from h)
    by_cases a : m < 0
    · exact bad2n m len a
    by_cases b : 14 ≤ m
    · exact bad2g m len a b
    · exact bad2l m len a b (by omega)
  by_cases h3 : o = 3
  · subst h3
    have h' := of_decide_eq_false (show decide (0 ≤ m ∧ m < 10 ∧ len = 0) = false from h)
    by_cases a : m < 0
    · exact bad3n m len a
    by_cases b : 10 ≤ m
    · exact bad3g m len a b
    · exact bad3l m len a b (by omega)
  by_cases h4 : o = 4
  · subst h4
    have h' := of_decide_eq_false (show decide (m = 0 ∧ 2 ≤ len) = false from h)
    by_cases hm : m = 0
    · subst hm; exact bad4l len (by omega)
    · exact bad4m m len hm
  by_cases h5 : o = 5
  · subst h5
    have h' := of_decide_eq_false (show decide (m = 0 ∧ 2 ≤ len) = false from h)
    by_cases hm : m = 0
    · subst hm; exact bad5l len (by omega)
    · exact bad5m m len hm
  by_cases h6 : o = 6
  · subst h6
    have h' := of_decide_eq_false (show decide (m = 0 ∧ len = 1) = false from h)
    by_cases hm : m = 0
    · subst hm; exact bad6l len (by omega)
    · exact bad6m m len hm
  exact bad_op o m len h1 h2 h3 h4 h5 h6

set_option maxRecDepth 100000 in
set_option maxHeartbeats 1000000 in
theorem look_deep (o m : Int) (ad : Option Addr) (len cap : Nat) (deep s : Int) (w : World) (h : 128 < deep) :
    Calls Tryz.prog 43 #[.agg #[.int .i64 o, .int .i64 m, .slice ad len cap], .int .i64 deep, .int .i64 s] w fun e w' => e = .returned (.int .i64 (-1)) ∧ Below w.heap.size w w' := by
  go_enter Tryz.func43, Tryz.ntmps43
  go_wp2
  go_ret
  exact ⟨rfl, below1 w _⟩
set_option maxRecDepth 100000 in
set_option maxHeartbeats 1000000 in
theorem look_many (o m : Int) (ad : Option Addr) (len cap : Nat) (deep s : Int) (w : World) (h : ¬ 128 < deep) (hs : 16384 < s) :
    Calls Tryz.prog 43 #[.agg #[.int .i64 o, .int .i64 m, .slice ad len cap], .int .i64 deep, .int .i64 s] w fun e w' => e = .returned (.int .i64 (-1)) ∧ Below w.heap.size w w' := by
  go_enter Tryz.func43, Tryz.ntmps43
  go_wp2
  go_ret
  exact ⟨rfl, below1 w _⟩

theorem look_any : ∀ (f n : Nat), LookN f n := by
  intro f
  induction f with
  | zero =>
    intro n t v0 v1 v2 deep s w hr hd hd1 hs1 hs2
    obtain ⟨o, m, ad, len, cap, rfl, rfl, rfl⟩ := repW_shape hr
    exact look_deep o m ad len cap deep s w (by omega)
  | succ f ih =>
    intro n t v0 v1 v2 deep s w hr hd hd1 hs1 hs2
    match n, t, hr with
    | n + 1, t, hr =>
      obtain ⟨ad, cap, e, hcap, hmax, hk⟩ := hr
      simp only [List.cons.injEq, and_true] at e
      obtain ⟨rfl, rfl, rfl⟩ := e
      simp only [lk]
      by_cases hb : 16384 < s ∨ t.ok = false
      · rw [if_pos hb]
        by_cases hs : 16384 < s
        · exact look_many _ _ ad _ cap deep s w (by omega) hs
        · have ho : t.ok = false := by rcases hb with h | h; exact absurd h hs; exact h
          exact bad_any _ _ _ ho ad cap deep s w (by omega) hs
      · rw [if_neg hb]
        have ho : okW t.op t.nm t.ks.length = true := by
          cases h : t.ok
          · exact absurd (.inr h) hb
          · exact h
        have hs : s ≤ 16384 := by omega
        have hop := okW_op ho
        generalize t.nm = m at ho ⊢
        generalize t.op = o at ho hop ⊢
        rcases hop with rfl | rfl | rfl | rfl | rfl | rfl
        · exact lookOk1 f n (ih n) t.ks m ad cap deep s w hcap hmax hk ho (by omega) hd1 hs1 hs
        · exact lookOk2 f n (ih n) t.ks m ad cap deep s w hcap hmax hk ho (by omega) hd1 hs1 hs
        · exact lookOk3 f n (ih n) t.ks m ad cap deep s w hcap hmax hk ho (by omega) hd1 hs1 hs
        · exact lookOk4 f n (ih n) t.ks m ad cap deep s w hcap hmax hk ho (by omega) hd1 hs1 hs
        · exact lookOk5 f n (ih n) t.ks m ad cap deep s w hcap hmax hk ho (by omega) hd1 hs1 hs
        · exact lookOk6 f n (ih n) t.ks m ad cap deep s w hcap hmax hk ho (by omega) hd1 hs1 hs

/-- A pattern that is fit. -/
def fitW (n : Nat) (t : Wt n) : Bool := decide (0 ≤ lk 128 n t 1)
theorem fitW_right (n : Nat) (t : Wt n) (h : fitW n t = true) : wgt n t = true := ((sayW 128 n t 1 (by decide) (by decide)).fit (of_decide_eq_true h)).2.2.2

set_option maxRecDepth 100000 in
set_option maxHeartbeats 1000000 in
theorem fit_any (n : Nat) (t : Wt n) (v0 v1 v2 : Value) (w : World) (h : RepW w n [v0, v1, v2] t) :
    Calls Tryz.prog 34 #[.agg #[v0, v1, v2]] w fun e w' => e = .returned (.bool (fitW n t)) ∧ Below w.heap.size w w' := by
  obtain ⟨u0, u1, a4, n4, c4, rfl, rfl, rfl⟩ := repW_shape h
  have b0 := below1 w (.cells #[.int .i64 u0, .int .i64 u1, .slice a4 n4 c4] 43)
  have HC := Lib.hid (since (look_any 128 n t _ _ _ 1 1 _ (RepW.below b0 n _ _ h) (by decide) (by decide) (by decide) (by decide)) b0)
  have hbd := lk_bd 128 n t 1 (by decide) (by decide)
  unfold fitW
  clear h
  generalize lk 128 n t 1 = z at HC hbd
  by_cases hz : 0 ≤ z
  · rw [decide_eq_true hz]
    have hz2 : z ≤ 16384 := hbd.2
    clear hbd
    go_enter Tryz.func34, Tryz.ntmps34
    go_wp2_with fail
    refine HC.out.mono ?_
    rintro e w1 ⟨rfl, b1⟩
    go_wp2
    go_ret
    exact ⟨rfl, b1⟩
  · rw [decide_eq_false hz]
    clear hbd
    go_enter Tryz.func34, Tryz.ntmps34
    go_wp2_with fail
    refine HC.out.mono ?_
    rintro e w1 ⟨rfl, b1⟩
    go_wp2
    go_ret
    exact ⟨rfl, b1⟩
end Go.Proofs.YtkgbpildikjoiaaGreatDoor
