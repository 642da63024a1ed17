/- Done of the package and all of the document's; the conditions: numbers within their bounds. -/
import Derived.Test.YtdmjhjfieabbbaaBb
namespace Go.Proofs.Ytdmjhjfieabbbaa
open Go.RowKit

/-- A world that has grown. -/
def Gw (w w' : World) : Prop := Below w.heap.size w w'
theorem Gw.refl (w : World) : Gw w w := Below.refl _ _
theorem Gw.al {w w' : World} (h : Gw w w') (o : Obj) : Gw w (w'.alloc o) := Below.alloc h (Below.size h) o
theorem Gw.drew {w w' : World} (h : Gw w w') : Gw w w'.drew := Below.drew h
theorem Gw.trans {w w1 w2 : World} (h : Gw w w1) (h2 : Gw w1 w2) : Gw w w2 := Below.trans h (Below.mono h2 (Below.size h))

/-- So many blocks more. -/
def als : Nat → World → World → Prop
  | 0, w, w' => w' = w
  | k + 1, w, w' => ∃ o, als k (w.alloc o) w'
theorem als_gw : ∀ (k : Nat) (w w' : World), als k w w' → Gw w w'
  | 0, w, _, rfl => Gw.refl w
  | k + 1, w, w', ⟨o, h⟩ => ((Gw.refl w).al o).trans (als_gw k _ w' h)
/-- How many blocks Done makes; and the document's. -/
def cn (f a k : Int) : Nat := if k = -1 then (if f < a then 8 else 7) else 4
def cr (f u a n k : Int) : Nat := if k = -1 then (if f < a then 6 else if n < u then 5 else 6) else 4

/-- The state behind a result of a kind. -/
def dnF (f a k : Int) : Int := if k = 1 then 0 else if k = 0 then f else if f < a then f + 1 else f
def dnU (f u a b n k : Int) : Int := if k = 1 then 0 else if k = 0 then u else if f < a then (if f + 1 = a then n + b else u) else if n < u then u else n + b

set_option maxRecDepth 100000 in
set_option maxHeartbeats 1000000 in
theorem sf_any (f u a t : Int) (w : World) (h : 0 ≤ f ∧ f < 1000000) : Calls Try.prog 38 #[.agg #[.int .i64 f, .int .i64 u, .int .i64 a], .int .i64 t] w fun e w' => e = .returned (.agg #[.int .i64 (f + 1), .int .i64 (if f + 1 = a then t else u)]) ∧ ∃ o p q, w' = ((w.alloc o).alloc p).alloc q := by
  by_cases h1 : f + 1 = a
  · rw [if_pos h1]
    have h2 : (f + 1 == a) = true := by simpa using h1
    clear h1
    go_enter Try.func38, Try.ntmps38
    go_wp2
    refine bodyPost_ret (v := .agg #[.int .i64 _, .int .i64 _]) (by simp [results, Try.results38, go_sem]) rfl ⟨rfl, _, _, _, rfl⟩
  · rw [if_neg h1]
    have h2 : (f + 1 == a) = false := by simpa using h1
    clear h1
    go_enter Try.func38, Try.ntmps38
    go_wp2
    refine bodyPost_ret (v := .agg #[.int .i64 _, .int .i64 _]) (by simp [results, Try.results38, go_sem]) rfl ⟨rfl, _, _, _, rfl⟩
set_option maxRecDepth 100000 in
theorem of_any (f u t : Int) (w : World) : Calls Try.prog 34 #[.agg #[.int .i64 f, .int .i64 u], .int .i64 t] w fun e w' => e = .returned (.agg #[.int .i64 f, .int .i64 u]) ∧ ∃ o p, w' = (w.alloc o).alloc p := by
  go_enter Try.func34, Try.ntmps34
  go_wp2
  refine bodyPost_ret (v := .agg #[.int .i64 _, .int .i64 _]) (by simp [results, Try.results34, go_sem]) rfl ⟨rfl, _, _, rfl⟩
set_option maxRecDepth 100000 in
theorem hf_any (f u t : Int) (w : World) : Calls Try.prog 36 #[.agg #[.int .i64 f, .int .i64 u], .int .i64 t] w fun e w' => e = .returned (.agg #[.int .i64 f, .int .i64 t]) ∧ ∃ o p, w' = (w.alloc o).alloc p := by
  go_enter Try.func36, Try.ntmps36
  go_wp2
  refine bodyPost_ret (v := .agg #[.int .i64 _, .int .i64 _]) (by simp [results, Try.results36, go_sem]) rfl ⟨rfl, _, _, rfl⟩

set_option maxRecDepth 100000 in
set_option maxHeartbeats 1000000 in
theorem done_any (f u a b n er : Int) (v1 v2 v3 v4 v5 v6 v7 v8 v9 : Value) (w : World) (hf : 0 ≤ f) (ha : f ≤ a ∧ a ≤ 1000) (hb : 0 ≤ b ∧ b ≤ 1000000) (hn : 0 ≤ n ∧ n ≤ 1099511627776) : Calls Try.prog 14 #[.agg #[.int .i64 f, .int .i64 u], .int .i64 a, .int .i64 b, .int .i64 n, .agg #[.int .i64 er, v1, v2, v3, v4, v5, v6, v7, v8, v9]] w fun e w' => e = .returned (.agg #[.int .i64 (dnF f a (kd er)), .int .i64 (dnU f u a b n (kd er))]) ∧ als (cn f a (kd er)) w w' := by
  have K := Lib.hid (fun w' => kind_any er v1 v2 v3 v4 v5 v6 v7 v8 v9 w')
  have hk : kd er = 1 ∨ kd er = 0 ∨ kd er = -1 := by unfold kd; split; · omega
                                                     · split <;> omega
  generalize kd er = k at *
  have P := Lib.hid (fun w' => phase_any f u a n w')
  unfold pha at P
  rcases hk with rfl | rfl | rfl
  · simp only [dnF, dnU, cn, show ¬ ((1 : Int) = -1) by decide, if_true]
    clear P
    go_enter Try.func14, Try.ntmps14
    go_wp2_with (go_at_call 6; refine (K.out _).mono ?_; rintro e w1 ⟨rfl, o, rfl⟩)
    refine bodyPost_ret (v := .agg #[.int .i64 _, .int .i64 _]) (by simp [results, Try.results14, go_sem]) rfl ⟨rfl, ?_⟩
    first | exact ⟨_, _, _, _, rfl⟩ | exact ⟨_, _, _, _, _, rfl⟩ | exact ⟨_, _, _, _, _, _, rfl⟩ | exact ⟨_, _, _, _, _, _, _, rfl⟩ | exact ⟨_, _, _, _, _, _, _, _, rfl⟩
  · simp only [dnF, dnU, cn, show ¬ ((0 : Int) = -1) by decide, show ¬ ((0 : Int) = 1) by decide, if_false, if_true]
    clear P
    go_enter Try.func14, Try.ntmps14
    go_wp2_with (go_at_call 6; refine (K.out _).mono ?_; rintro e w1 ⟨rfl, o, rfl⟩)
    refine bodyPost_ret (v := .agg #[.int .i64 _, .int .i64 _]) (by simp [results, Try.results14, go_sem]) rfl ⟨rfl, ?_⟩
    first | exact ⟨_, _, _, _, rfl⟩ | exact ⟨_, _, _, _, _, rfl⟩ | exact ⟨_, _, _, _, _, _, rfl⟩ | exact ⟨_, _, _, _, _, _, _, rfl⟩ | exact ⟨_, _, _, _, _, _, _, _, rfl⟩
  · simp only [dnF, dnU, cn, show ¬ ((-1 : Int) = 1) by decide, show ¬ ((-1 : Int) = 0) by decide, if_false, if_true]
    have m1 := me_sf; have m2 := me_of; have m3 := me_hf
    have c1 := cf_sf; have c2 := cf_of; have c3 := cf_hf
    by_cases h1 : f < a
    · rw [if_pos h1] at P ⊢
      rw [if_pos h1, if_pos h1]
      have S := Lib.hid (fun w' => sf_any f u a (n + b) w' (by omega))
      generalize (if f + 1 = a then n + b else u) = X at *
      go_enter Try.func14, Try.ntmps14
      go_wp2_with (first | (go_at_call 6; refine (K.out _).mono ?_; rintro e w1 ⟨rfl, o, rfl⟩) | (go_at_call 17; refine (P.out _).mono ?_; rintro e w1 ⟨rfl, o, rfl⟩) | (go_at_call 38; refine (S.out _).mono ?_; rintro e w1 ⟨rfl, o, p, q, rfl⟩))
      refine bodyPost_ret (v := .agg #[.int .i64 _, .int .i64 _]) (by simp [results, Try.results14, go_sem]) rfl ⟨rfl, ?_⟩
      first | exact ⟨_, _, _, _, rfl⟩ | exact ⟨_, _, _, _, _, rfl⟩ | exact ⟨_, _, _, _, _, _, rfl⟩ | exact ⟨_, _, _, _, _, _, _, rfl⟩ | exact ⟨_, _, _, _, _, _, _, _, rfl⟩
    · rw [if_neg h1] at P ⊢
      rw [if_neg h1, if_neg h1]
      by_cases h2 : n < u
      · rw [if_pos h2] at P ⊢
        go_enter Try.func14, Try.ntmps14
        go_wp2_with (first | (go_at_call 6; refine (K.out _).mono ?_; rintro e w1 ⟨rfl, o, rfl⟩) | (go_at_call 17; refine (P.out _).mono ?_; rintro e w1 ⟨rfl, o, rfl⟩) | (go_at_call 34; refine (of_any _ _ _ _).mono ?_; rintro e w1 ⟨rfl, o, p, rfl⟩))
        refine bodyPost_ret (v := .agg #[.int .i64 _, .int .i64 _]) (by simp [results, Try.results14, go_sem]) rfl ⟨rfl, ?_⟩
        first | exact ⟨_, _, _, _, rfl⟩ | exact ⟨_, _, _, _, _, rfl⟩ | exact ⟨_, _, _, _, _, _, rfl⟩ | exact ⟨_, _, _, _, _, _, _, rfl⟩ | exact ⟨_, _, _, _, _, _, _, _, rfl⟩
      · rw [if_neg h2] at P ⊢
        go_enter Try.func14, Try.ntmps14
        go_wp2_with (first | (go_at_call 6; refine (K.out _).mono ?_; rintro e w1 ⟨rfl, o, rfl⟩) | (go_at_call 17; refine (P.out _).mono ?_; rintro e w1 ⟨rfl, o, rfl⟩) | (go_at_call 36; refine (hf_any _ _ _ _).mono ?_; rintro e w1 ⟨rfl, o, p, rfl⟩))
        refine bodyPost_ret (v := .agg #[.int .i64 _, .int .i64 _]) (by simp [results, Try.results14, go_sem]) rfl ⟨rfl, ?_⟩
        first | exact ⟨_, _, _, _, rfl⟩ | exact ⟨_, _, _, _, _, rfl⟩ | exact ⟨_, _, _, _, _, _, rfl⟩ | exact ⟨_, _, _, _, _, _, _, rfl⟩ | exact ⟨_, _, _, _, _, _, _, _, rfl⟩

/-! ### The document's -/
theorem ret_b {a b : Bool} (h : a = b) : Ending.returned (.bool a) = .returned (.bool b) := by rw [h]
def fitB (f u a : Int) : Bool := decide (0 ≤ f ∧ f ≤ a ∧ 0 ≤ u ∧ u ≤ 2199023255552)
set_option maxRecDepth 100000 in
set_option maxHeartbeats 1000000 in
theorem rfit_any (f u a : Int) (w : World) : Calls Try.prog 16 #[.agg #[.int .i64 f, .int .i64 u], .int .i64 a] w fun e w' => e = .returned (.bool (fitB f u a)) ∧ ∃ o, w' = w.alloc o := by
  go_enter Try.func16, Try.ntmps16
  go_wp2
  all_goals go_ret
  all_goals refine ⟨ret_b ?_, _, rfl⟩
  all_goals unfold fitB
  all_goals first | (refine (decide_eq_false ?_).symm; rintro ⟨x1, x2, x3, x4⟩; omega) | (refine decide_eq_decide.2 ?_; constructor <;> intro _ <;> omega)
set_option maxRecDepth 100000 in
set_option maxHeartbeats 1000000 in
theorem rstate_any (f u a n : Int) (w : World) : Calls Try.prog 11 #[.agg #[.int .i64 f, .int .i64 u], .int .i64 a, .int .i64 n] w fun e w' => e = .returned (.int .i64 (sta f u a n)) ∧ ∃ o, w' = w.alloc o := by
  go_enter Try.func11, Try.ntmps11
  go_wp2
  all_goals go_ret
  all_goals refine ⟨?_, _, rfl⟩
  all_goals unfold sta
  all_goals repeat' split
  all_goals first | rfl | omega
set_option maxRecDepth 100000 in
set_option maxHeartbeats 1000000 in
theorem rask_any (f u a n : Int) (w : World) : Calls Try.prog 13 #[.agg #[.int .i64 f, .int .i64 u], .int .i64 a, .int .i64 n] w fun e w' => e = .returned (.bool (!(sta f u a n == 1))) ∧ ∃ o p, w' = (w.alloc o).alloc p := by
  have K := Lib.hid (fun w' => rstate_any f u a n w')
  generalize sta f u a n = s at *
  go_enter Try.func13, Try.ntmps13
  go_wp2_with (go_at_call 11; refine (K.out _).mono ?_; rintro e w1 ⟨rfl, o, rfl⟩)
  go_ret
  exact ⟨by simp [bne], _, _, rfl⟩
set_option maxRecDepth 100000 in
set_option maxHeartbeats 1000000 in
theorem rdone_any (f u a b n er : Int) (v1 v2 v3 v4 v5 v6 v7 v8 v9 : Value) (w : World) (hf : 0 ≤ f) (ha : f ≤ a ∧ a ≤ 1000) (hb : 0 ≤ b ∧ b ≤ 1000000) (hn : 0 ≤ n ∧ n ≤ 1099511627776) : Calls Try.prog 15 #[.agg #[.int .i64 f, .int .i64 u], .int .i64 a, .int .i64 b, .int .i64 n, .agg #[.int .i64 er, v1, v2, v3, v4, v5, v6, v7, v8, v9]] w fun e w' => e = .returned (.agg #[.int .i64 (dnF f a (kd er)), .int .i64 (dnU f u a b n (kd er))]) ∧ als (cr f u a n (kd er)) w w' := by
  have K := Lib.hid (fun w' => rkind_any er v1 v2 v3 v4 v5 v6 v7 v8 v9 w')
  have hk : kd er = 1 ∨ kd er = 0 ∨ kd er = -1 := by unfold kd; split; · omega
                                                     · split <;> omega
  generalize kd er = k at *
  have P := Lib.hid (fun w' => rstate_any f u a n w')
  unfold sta at P
  rcases hk with rfl | rfl | rfl
  · simp only [dnF, dnU, cr, show ¬ ((1 : Int) = -1) by decide, if_true]
    clear P
    go_enter Try.func15, Try.ntmps15
    go_wp2_with (go_at_call 7; refine (K.out _).mono ?_; rintro e w1 ⟨rfl, o, rfl⟩)
    refine bodyPost_ret (v := .agg #[.int .i64 _, .int .i64 _]) (by simp [results, Try.results15, go_sem]) rfl ⟨rfl, ?_⟩
    first | exact ⟨_, _, _, _, rfl⟩ | exact ⟨_, _, _, _, _, rfl⟩ | exact ⟨_, _, _, _, _, _, rfl⟩ | exact ⟨_, _, _, _, _, _, _, rfl⟩ | exact ⟨_, _, _, _, _, _, _, _, rfl⟩
  · simp only [dnF, dnU, cr, show ¬ ((0 : Int) = -1) by decide, show ¬ ((0 : Int) = 1) by decide, if_false, if_true]
    clear P
    go_enter Try.func15, Try.ntmps15
    go_wp2_with (go_at_call 7; refine (K.out _).mono ?_; rintro e w1 ⟨rfl, o, rfl⟩)
    refine bodyPost_ret (v := .agg #[.int .i64 _, .int .i64 _]) (by simp [results, Try.results15, go_sem]) rfl ⟨rfl, ?_⟩
    first | exact ⟨_, _, _, _, rfl⟩ | exact ⟨_, _, _, _, _, rfl⟩ | exact ⟨_, _, _, _, _, _, rfl⟩ | exact ⟨_, _, _, _, _, _, _, rfl⟩ | exact ⟨_, _, _, _, _, _, _, _, rfl⟩
  · simp only [dnF, dnU, cr, show ¬ ((-1 : Int) = 1) by decide, show ¬ ((-1 : Int) = 0) by decide, if_false, if_true]
    by_cases h1 : f < a
    · rw [if_pos h1] at P ⊢
      rw [if_pos h1, if_pos h1]
      by_cases h2 : f + 1 = a
      · rw [if_pos h2]
        replace h2 : ¬ (f + 1 < a) := by omega
        go_enter Try.func15, Try.ntmps15
        go_wp2_with (first | (go_at_call 7; refine (K.out _).mono ?_; rintro e w1 ⟨rfl, o, rfl⟩) | (go_at_call 11; refine (P.out _).mono ?_; rintro e w1 ⟨rfl, o, rfl⟩))
        refine bodyPost_ret (v := .agg #[.int .i64 _, .int .i64 _]) (by simp [results, Try.results15, go_sem]) rfl ⟨rfl, ?_⟩
        first | exact ⟨_, _, _, _, rfl⟩ | exact ⟨_, _, _, _, _, rfl⟩ | exact ⟨_, _, _, _, _, _, rfl⟩ | exact ⟨_, _, _, _, _, _, _, rfl⟩ | exact ⟨_, _, _, _, _, _, _, _, rfl⟩
      · rw [if_neg h2]
        go_enter Try.func15, Try.ntmps15
        go_wp2_with (first | (go_at_call 7; refine (K.out _).mono ?_; rintro e w1 ⟨rfl, o, rfl⟩) | (go_at_call 11; refine (P.out _).mono ?_; rintro e w1 ⟨rfl, o, rfl⟩))
        refine bodyPost_ret (v := .agg #[.int .i64 _, .int .i64 _]) (by simp [results, Try.results15, go_sem]) rfl ⟨rfl, ?_⟩
        first | exact ⟨_, _, _, _, rfl⟩ | exact ⟨_, _, _, _, _, rfl⟩ | exact ⟨_, _, _, _, _, _, rfl⟩ | exact ⟨_, _, _, _, _, _, _, rfl⟩ | exact ⟨_, _, _, _, _, _, _, _, rfl⟩
    · rw [if_neg h1] at P ⊢
      rw [if_neg h1, if_neg h1]
      by_cases h2 : n < u
      · rw [if_pos h2] at P ⊢
        go_enter Try.func15, Try.ntmps15
        go_wp2_with (first | (go_at_call 7; refine (K.out _).mono ?_; rintro e w1 ⟨rfl, o, rfl⟩) | (go_at_call 11; refine (P.out _).mono ?_; rintro e w1 ⟨rfl, o, rfl⟩))
        refine bodyPost_ret (v := .agg #[.int .i64 _, .int .i64 _]) (by simp [results, Try.results15, go_sem]) rfl ⟨rfl, ?_⟩
        first | exact ⟨_, _, _, _, rfl⟩ | exact ⟨_, _, _, _, _, rfl⟩ | exact ⟨_, _, _, _, _, _, rfl⟩ | exact ⟨_, _, _, _, _, _, _, rfl⟩ | exact ⟨_, _, _, _, _, _, _, _, rfl⟩
      · rw [if_neg h2] at P ⊢
        go_enter Try.func15, Try.ntmps15
        go_wp2_with (first | (go_at_call 7; refine (K.out _).mono ?_; rintro e w1 ⟨rfl, o, rfl⟩) | (go_at_call 11; refine (P.out _).mono ?_; rintro e w1 ⟨rfl, o, rfl⟩))
        refine bodyPost_ret (v := .agg #[.int .i64 _, .int .i64 _]) (by simp [results, Try.results15, go_sem]) rfl ⟨rfl, ?_⟩
        first | exact ⟨_, _, _, _, rfl⟩ | exact ⟨_, _, _, _, _, rfl⟩ | exact ⟨_, _, _, _, _, _, rfl⟩ | exact ⟨_, _, _, _, _, _, _, rfl⟩ | exact ⟨_, _, _, _, _, _, _, _, rfl⟩
end Go.Proofs.Ytdmjhjfieabbbaa
