/- The document's look at a pattern, and Fit: as the plain functions say; the conditions: the pattern's tree in memory. -/
import Derived.Test.YtkgbpildikjoiaaGreatDoorVal0
import Derived.Test.YtkgbpildikjoiaaGreatDoorMth
namespace Go.Proofs.YtkgbpildikjoiaaGreatDoor
open Go.RowKit

/-- What look is to answer of patterns of depth n at most, with so many levels left. -/
def LookN (f n : Nat) : Prop := ∀ (t : Wt n) (v0 v1 v2 : Value) (deep s : Int) (w : World), RepW w n [v0, v1, v2] t → deep + f = 129 → 1 ≤ deep → 1 ≤ s → s ≤ 16385 →
    Calls Tryz.prog 43 #[.agg #[v0, v1, v2], .int .i64 deep, .int .i64 s] w fun e w' => e = .returned (.int .i64 (lk f n t s)) ∧ Below w.heap.size w w'

set_option maxRecDepth 100000 in
set_option maxHeartbeats 1000000 in
theorem lookOk1 (f n : Nat) (ih : LookN f n) (ts : List (Wt n)) (m : Int) (ad : Option Addr) (cap : Nat) (deep s : Int) (w : World) (hcap : ts.length ≤ cap) (hmax : cap ≤ maxLen)
    (hr : ts = [] ∨ ∃ g o, ad = some ⟨g, o, none⟩ ∧ ∀ (j : Nat) (t' : Wt n), ts[j]? = some t' → ∃ v0 v1 v2, w.cell? ⟨g, o + j * 3, none⟩ = some v0 ∧ w.cell? ⟨g, o + j * 3 + 1, none⟩ = some v1 ∧ w.cell? ⟨g, o + j * 3 + 2, none⟩ = some v2 ∧ RepW w n [v0, v1, v2] t')
    (hok : okW 1 m ts.length = true) (hd : deep + f = 128) (hd1 : 1 ≤ deep) (hs1 : 1 ≤ s) (hs2 : s ≤ 16384) :
    Calls Tryz.prog 43 #[.agg #[.int .i64 1, .int .i64 m, .slice ad ts.length cap], .int .i64 deep, .int .i64 s] w fun e w' => e = .returned (.int .i64 (lkL (fun t s => lk f n t s) ts s)) ∧ Below w.heap.size w w' := by
  have hgd : ¬ 128 < deep := by omega
  have hgs : ¬ 16384 < s := by omega
  unfold maxLen at hmax
  have hq := of_decide_eq_true (show decide (m = 0 ∧ ts.length = 0) = true from hok)
  have q1 : (m == 0) = true := by simp [hq.1]
  have q2 : ((ts.length : Int) == 0) = true := by simp; exact List.eq_nil_of_length_eq_zero hq.2
  have q3 : (m != 0) = false := by simp [hq.1]
  have q4 : ((ts.length : Int) != 0) = false := by simp; exact List.eq_nil_of_length_eq_zero hq.2
  clear hq
  have HI : Hid (∀ (t : Wt n) (v0 v1 v2 : Value) (s' : Int) (wx : World), RepW w n [v0, v1, v2] t → Below w.heap.size w wx → One w (.int .i64 1) (.int .i64 m) (.slice ad ts.length cap) wx → 1 ≤ s' → s' ≤ 16385 → Calls Tryz.prog 43 #[.agg #[v0, v1, v2], .int .i64 (deep + 1), .int .i64 s'] wx fun e w' => e = .returned (.int .i64 (lk f n t s')) ∧ One w (.int .i64 1) (.int .i64 m) (.slice ad ts.length cap) w') := fun t v0 v1 v2 s' wx hx hb ho h1 h2 => (ih t v0 v1 v2 (deep + 1) s' wx (RepW.below hb n _ _ hx) (by omega) (by omega) h1 h2).mono fun e w' ⟨a, b⟩ => ⟨a, ho.step b⟩
  have HK := Lib.hid hr
  have hb0 := One.start w (.int .i64 1) (.int .i64 m) (.slice ad ts.length cap)
  clear ih hr hok
  generalize hcc : (fun (t : Wt n) s => lk f n t s) = cc
  have HC := Lib.hid hcc
  have HBD : Hid (∀ (t : Wt n) (s : Int), 1 ≤ s → s ≤ 16385 → -1 ≤ cc t s ∧ cc t s ≤ 16384) := fun t s a b => by rw [← hcc]; exact lk_bd f n t s a b
  clear hcc
  go_enter Tryz.func43, Tryz.ntmps43
  go_wp2_with fail
  go_loopw [2, 8] (fun ss si wr => ∃ (j : Nat) (s' : Int), ss = .int .i64 s' ∧ si = .int .i64 j ∧ j ≤ ts.length ∧ lkL cc (ts.drop j) s' = lkL cc ts s ∧ 0 ≤ s' ∧ s' ≤ 16384 ∧ One w (.int .i64 1) (.int .i64 m) (.slice ad ts.length cap) wr) (fun _ si _ => ts.length - (intOf si).toNat)
  case atStart => exact ⟨0, s, rfl, rfl, Nat.zero_le _, rfl, by omega, hs2, hb0⟩
  case round =>
    obtain ⟨j, s', rfl, rfl, hj, hinv, hp0, hp1, hb⟩ := hrel
    have HV := Lib.hid hinv
    clear hinv
    have hbw := hb.below
    have c2 := hb.c.2.2
    by_cases hlt : j < ts.length
    · have hne : ts ≠ [] := by intro e; rw [e] at hlt; exact absurd hlt (Nat.not_lt_zero _)
      rcases HK.out with hk | ⟨g, o, hk1, hk2⟩
      · exact absurd hk hne
      subst hk1
      obtain ⟨v0, v1, v2, e0, e1, e2, rk⟩ := hk2 j _ (List.getElem?_eq_getElem hlt)
      have hgl : g < w.heap.size := World.block_lt_of_cell? w _ e0
      have x0 := (hbw.cell (p := ⟨g, o + j * 3, none⟩) hgl).trans e0
      have x1 := (hbw.cell (p := ⟨g, o + j * 3 + 1, none⟩) hgl).trans e1
      have x2 := (hbw.cell (p := ⟨g, o + j * 3 + 2, none⟩) hgl).trans e2
      clear e0 e1 e2 hk2 HK
      go_wp2_with fail
      refine (HI.out ts[j] v0 v1 v2 (s' + 1) wr rk hbw hb (by omega) (by omega)).mono ?_
      rintro e w1 ⟨he, b1⟩
      have hv := HV.out
      rw [drop_atW ts j hlt, lkL_cons] at hv
      have hbd := HBD.out ts[j] (s' + 1) (by omega) (by omega)
      have hcl : lk f n ts[j] (s' + 1) = cc ts[j] (s' + 1) := by rw [← HC.out]
      rw [hcl] at he
      clear x0 x1 x2 rk HV hcl
      generalize cc ts[j] (s' + 1) = C at hv he hbd
      subst he
      by_cases hneg : C < 0
      · rw [if_pos hneg] at hv
        have HW := Lib.hid hv
        clear hv
        go_wp2_with fail
        go_ret
        exact ⟨by rw [← HW.out]; rfl, b1.below⟩
      · rw [if_neg hneg] at hv
        have HW := Lib.hid hv
        clear hv
        go_wp2_with fail
        exact ⟨⟨j + 1, C, rfl, by go_num, by omega, HW.out, by omega, by omega, b1⟩, by simp [intOf]; omega⟩
    · have hje : j = ts.length := by omega
      have hv := HV.out
      rw [hje, List.drop_length] at hv
      have HW := Lib.hid hv
      clear hv HV
      go_wp2_with fail
      go_ret
      exact ⟨by rw [← HW.out]; rfl, hbw⟩

set_option maxRecDepth 100000 in
set_option maxHeartbeats 1000000 in
theorem lookOk2 (f n : Nat) (ih : LookN f n) (ts : List (Wt n)) (m : Int) (ad : Option Addr) (cap : Nat) (deep s : Int) (w : World) (hcap : ts.length ≤ cap) (hmax : cap ≤ maxLen)
    (hr : ts = [] ∨ ∃ g o, ad = some ⟨g, o, none⟩ ∧ ∀ (j : Nat) (t' : Wt n), ts[j]? = some t' → ∃ v0 v1 v2, w.cell? ⟨g, o + j * 3, none⟩ = some v0 ∧ w.cell? ⟨g, o + j * 3 + 1, none⟩ = some v1 ∧ w.cell? ⟨g, o + j * 3 + 2, none⟩ = some v2 ∧ RepW w n [v0, v1, v2] t')
    (hok : okW 2 m ts.length = true) (hd : deep + f = 128) (hd1 : 1 ≤ deep) (hs1 : 1 ≤ s) (hs2 : s ≤ 16384) :
    Calls Tryz.prog 43 #[.agg #[.int .i64 2, .int .i64 m, .slice ad ts.length cap], .int .i64 deep, .int .i64 s] w fun e w' => e = .returned (.int .i64 (lkL (fun t s => lk f n t s) ts s)) ∧ Below w.heap.size w w' := by
  have hgd : ¬ 128 < deep := by omega
  have hgs : ¬ 16384 < s := by omega
  unfold maxLen at hmax
  have hq := of_decide_eq_true (show decide (0 ≤ m ∧ m < 14 ∧ ts.length = 0) = true from hok)
  have q1 : ¬ m < 0 := by omega
  have q2 : ¬ 14 ≤ m := by omega
  have q3 : ((ts.length : Int) == 0) = true := by simp; exact List.eq_nil_of_length_eq_zero hq.2.2
  have q4 : ((ts.length : Int) != 0) = false := by simp; exact List.eq_nil_of_length_eq_zero hq.2.2
  clear hq
  have HI : Hid (∀ (t : Wt n) (v0 v1 v2 : Value) (s' : Int) (wx : World), RepW w n [v0, v1, v2] t → Below w.heap.size w wx → One w (.int .i64 2) (.int .i64 m) (.slice ad ts.length cap) wx → 1 ≤ s' → s' ≤ 16385 → Calls Tryz.prog 43 #[.agg #[v0, v1, v2], .int .i64 (deep + 1), .int .i64 s'] wx fun e w' => e = .returned (.int .i64 (lk f n t s')) ∧ One w (.int .i64 2) (.int .i64 m) (.slice ad ts.length cap) w') := fun t v0 v1 v2 s' wx hx hb ho h1 h2 => (ih t v0 v1 v2 (deep + 1) s' wx (RepW.below hb n _ _ hx) (by omega) (by omega) h1 h2).mono fun e w' ⟨a, b⟩ => ⟨a, ho.step b⟩
  have HK := Lib.hid hr
  have hb0 := One.start w (.int .i64 2) (.int .i64 m) (.slice ad ts.length cap)
  clear ih hr hok
  generalize hcc : (fun (t : Wt n) s => lk f n t s) = cc
  have HC := Lib.hid hcc
  have HBD : Hid (∀ (t : Wt n) (s : Int), 1 ≤ s → s ≤ 16385 → -1 ≤ cc t s ∧ cc t s ≤ 16384) := fun t s a b => by rw [← hcc]; exact lk_bd f n t s a b
  clear hcc
  go_enter Tryz.func43, Tryz.ntmps43
  go_wp2_with fail
  go_loopw [2, 8] (fun ss si wr => ∃ (j : Nat) (s' : Int), ss = .int .i64 s' ∧ si = .int .i64 j ∧ j ≤ ts.length ∧ lkL cc (ts.drop j) s' = lkL cc ts s ∧ 0 ≤ s' ∧ s' ≤ 16384 ∧ One w (.int .i64 2) (.int .i64 m) (.slice ad ts.length cap) wr) (fun _ si _ => ts.length - (intOf si).toNat)
  case atStart => exact ⟨0, s, rfl, rfl, Nat.zero_le _, rfl, by omega, hs2, hb0⟩
  case round =>
    obtain ⟨j, s', rfl, rfl, hj, hinv, hp0, hp1, hb⟩ := hrel
    have HV := Lib.hid hinv
    clear hinv
    have hbw := hb.below
    have c2 := hb.c.2.2
    by_cases hlt : j < ts.length
    · have hne : ts ≠ [] := by intro e; rw [e] at hlt; exact absurd hlt (Nat.not_lt_zero _)
      rcases HK.out with hk | ⟨g, o, hk1, hk2⟩
      · exact absurd hk hne
      subst hk1
      obtain ⟨v0, v1, v2, e0, e1, e2, rk⟩ := hk2 j _ (List.getElem?_eq_getElem hlt)
      have hgl : g < w.heap.size := World.block_lt_of_cell? w _ e0
      have x0 := (hbw.cell (p := ⟨g, o + j * 3, none⟩) hgl).trans e0
      have x1 := (hbw.cell (p := ⟨g, o + j * 3 + 1, none⟩) hgl).trans e1
      have x2 := (hbw.cell (p := ⟨g, o + j * 3 + 2, none⟩) hgl).trans e2
      clear e0 e1 e2 hk2 HK
      go_wp2_with fail
      refine (HI.out ts[j] v0 v1 v2 (s' + 1) wr rk hbw hb (by omega) (by omega)).mono ?_
      rintro e w1 ⟨he, b1⟩
      have hv := HV.out
      rw [drop_atW ts j hlt, lkL_cons] at hv
      have hbd := HBD.out ts[j] (s' + 1) (by omega) (by omega)
      have hcl : lk f n ts[j] (s' + 1) = cc ts[j] (s' + 1) := by rw [← HC.out]
      rw [hcl] at he
      clear x0 x1 x2 rk HV hcl
      generalize cc ts[j] (s' + 1) = C at hv he hbd
      subst he
      by_cases hneg : C < 0
      · rw [if_pos hneg] at hv
        have HW := Lib.hid hv
        clear hv
        go_wp2_with fail
        go_ret
        exact ⟨by rw [← HW.out]; rfl, b1.below⟩
      · rw [if_neg hneg] at hv
        have HW := Lib.hid hv
        clear hv
        go_wp2_with fail
        exact ⟨⟨j + 1, C, rfl, by go_num, by omega, HW.out, by omega, by omega, b1⟩, by simp [intOf]; omega⟩
    · have hje : j = ts.length := by omega
      have hv := HV.out
      rw [hje, List.drop_length] at hv
      have HW := Lib.hid hv
      clear hv HV
      go_wp2_with fail
      go_ret
      exact ⟨by rw [← HW.out]; rfl, hbw⟩

set_option maxRecDepth 100000 in
set_option maxHeartbeats 1000000 in
theorem lookOk3 (f n : Nat) (ih : LookN f n) (ts : List (Wt n)) (m : Int) (ad : Option Addr) (cap : Nat) (deep s : Int) (w : World) (hcap : ts.length ≤ cap) (hmax : cap ≤ maxLen)
    (hr : ts = [] ∨ ∃ g o, ad = some ⟨g, o, none⟩ ∧ ∀ (j : Nat) (t' : Wt n), ts[j]? = some t' → ∃ v0 v1 v2, w.cell? ⟨g, o + j * 3, none⟩ = some v0 ∧ w.cell? ⟨g, o + j * 3 + 1, none⟩ = some v1 ∧ w.cell? ⟨g, o + j * 3 + 2, none⟩ = some v2 ∧ RepW w n [v0, v1, v2] t')
    (hok : okW 3 m ts.length = true) (hd : deep + f = 128) (hd1 : 1 ≤ deep) (hs1 : 1 ≤ s) (hs2 : s ≤ 16384) :
    Calls Tryz.prog 43 #[.agg #[.int .i64 3, .int .i64 m, .slice ad ts.length cap], .int .i64 deep, .int .i64 s] w fun e w' => e = .returned (.int .i64 (lkL (fun t s => lk f n t s) ts s)) ∧ Below w.heap.size w w' := by
  have hgd : ¬ 128 < deep := by omega
  have hgs : ¬ 16384 < s := by omega
  unfold maxLen at hmax
  have hq := of_decide_eq_true (show decide (0 ≤ m ∧ m < 10 ∧ ts.length = 0) = true from hok)
  have q1 : ¬ m < 0 := by omega
  have q2 : ¬ 10 ≤ m := by omega
  have q3 : ((ts.length : Int) == 0) = true := by simp; exact List.eq_nil_of_length_eq_zero hq.2.2
  have q4 : ((ts.length : Int) != 0) = false := by simp; exact List.eq_nil_of_length_eq_zero hq.2.2
  clear hq
  have HI : Hid (∀ (t : Wt n) (v0 v1 v2 : Value) (s' : Int) (wx : World), RepW w n [v0, v1, v2] t → Below w.heap.size w wx → One w (.int .i64 3) (.int .i64 m) (.slice ad ts.length cap) wx → 1 ≤ s' → s' ≤ 16385 → Calls Tryz.prog 43 #[.agg #[v0, v1, v2], .int .i64 (deep + 1), .int .i64 s'] wx fun e w' => e = .returned (.int .i64 (lk f n t s')) ∧ One w (.int .i64 3) (.int .i64 m) (.slice ad ts.length cap) w') := fun t v0 v1 v2 s' wx hx hb ho h1 h2 => (ih t v0 v1 v2 (deep + 1) s' wx (RepW.below hb n _ _ hx) (by omega) (by omega) h1 h2).mono fun e w' ⟨a, b⟩ => ⟨a, ho.step b⟩
  have HK := Lib.hid hr
  have hb0 := One.start w (.int .i64 3) (.int .i64 m) (.slice ad ts.length cap)
  clear ih hr hok
  generalize hcc : (fun (t : Wt n) s => lk f n t s) = cc
  have HC := Lib.hid hcc
  have HBD : Hid (∀ (t : Wt n) (s : Int), 1 ≤ s → s ≤ 16385 → -1 ≤ cc t s ∧ cc t s ≤ 16384) := fun t s a b => by rw [← hcc]; exact lk_bd f n t s a b
  clear hcc
  go_enter Tryz.func43, Tryz.ntmps43
  go_wp2_with fail
  go_loopw [2, 8] (fun ss si wr => ∃ (j : Nat) (s' : Int), ss = .int .i64 s' ∧ si = .int .i64 j ∧ j ≤ ts.length ∧ lkL cc (ts.drop j) s' = lkL cc ts s ∧ 0 ≤ s' ∧ s' ≤ 16384 ∧ One w (.int .i64 3) (.int .i64 m) (.slice ad ts.length cap) wr) (fun _ si _ => ts.length - (intOf si).toNat)
  case atStart => exact ⟨0, s, rfl, rfl, Nat.zero_le _, rfl, by omega, hs2, hb0⟩
  case round =>
    obtain ⟨j, s', rfl, rfl, hj, hinv, hp0, hp1, hb⟩ := hrel
    have HV := Lib.hid hinv
    clear hinv
    have hbw := hb.below
    have c2 := hb.c.2.2
    by_cases hlt : j < ts.length
    · have hne : ts ≠ [] := by intro e; rw [e] at hlt; exact absurd hlt (Nat.not_lt_zero _)
      rcases HK.out with hk | ⟨g, o, hk1, hk2⟩
      · exact absurd hk hne
      subst hk1
      obtain ⟨v0, v1, v2, e0, e1, e2, rk⟩ := hk2 j _ (List.getElem?_eq_getElem hlt)
      have hgl : g < w.heap.size := World.block_lt_of_cell? w _ e0
      have x0 := (hbw.cell (p := ⟨g, o + j * 3, none⟩) hgl).trans e0
      have x1 := (hbw.cell (p := ⟨g, o + j * 3 + 1, none⟩) hgl).trans e1
      have x2 := (hbw.cell (p := ⟨g, o + j * 3 + 2, none⟩) hgl).trans e2
      clear e0 e1 e2 hk2 HK
      go_wp2_with fail
      refine (HI.out ts[j] v0 v1 v2 (s' + 1) wr rk hbw hb (by omega) (by omega)).mono ?_
      rintro e w1 ⟨he, b1⟩
      have hv := HV.out
      rw [drop_atW ts j hlt, lkL_cons] at hv
      have hbd := HBD.out ts[j] (s' + 1) (by omega) (by omega)
      have hcl : lk f n ts[j] (s' + 1) = cc ts[j] (s' + 1) := by rw [← HC.out]
      rw [hcl] at he
      clear x0 x1 x2 rk HV hcl
      generalize cc ts[j] (s' + 1) = C at hv he hbd
      subst he
      by_cases hneg : C < 0
      · rw [if_pos hneg] at hv
        have HW := Lib.hid hv
        clear hv
        go_wp2_with fail
        go_ret
        exact ⟨by rw [← HW.out]; rfl, b1.below⟩
      · rw [if_neg hneg] at hv
        have HW := Lib.hid hv
        clear hv
        go_wp2_with fail
        exact ⟨⟨j + 1, C, rfl, by go_num, by omega, HW.out, by omega, by omega, b1⟩, by simp [intOf]; omega⟩
    · have hje : j = ts.length := by omega
      have hv := HV.out
      rw [hje, List.drop_length] at hv
      have HW := Lib.hid hv
      clear hv HV
      go_wp2_with fail
      go_ret
      exact ⟨by rw [← HW.out]; rfl, hbw⟩

set_option maxRecDepth 100000 in
set_option maxHeartbeats 1000000 in
theorem lookOk4 (f n : Nat) (ih : LookN f n) (ts : List (Wt n)) (m : Int) (ad : Option Addr) (cap : Nat) (deep s : Int) (w : World) (hcap : ts.length ≤ cap) (hmax : cap ≤ maxLen)
    (hr : ts = [] ∨ ∃ g o, ad = some ⟨g, o, none⟩ ∧ ∀ (j : Nat) (t' : Wt n), ts[j]? = some t' → ∃ v0 v1 v2, w.cell? ⟨g, o + j * 3, none⟩ = some v0 ∧ w.cell? ⟨g, o + j * 3 + 1, none⟩ = some v1 ∧ w.cell? ⟨g, o + j * 3 + 2, none⟩ = some v2 ∧ RepW w n [v0, v1, v2] t')
    (hok : okW 4 m ts.length = true) (hd : deep + f = 128) (hd1 : 1 ≤ deep) (hs1 : 1 ≤ s) (hs2 : s ≤ 16384) :
    Calls Tryz.prog 43 #[.agg #[.int .i64 4, .int .i64 m, .slice ad ts.length cap], .int .i64 deep, .int .i64 s] w fun e w' => e = .returned (.int .i64 (lkL (fun t s => lk f n t s) ts s)) ∧ Below w.heap.size w w' := by
  have hgd : ¬ 128 < deep := by omega
  have hgs : ¬ 16384 < s := by omega
  unfold maxLen at hmax
  have hq := of_decide_eq_true (show decide (m = 0 ∧ 2 ≤ ts.length) = true from hok)
  have q1 : (m == 0) = true := by simp [hq.1]
  have q2 : ¬ (ts.length : Int) < 2 := by omega
  have q3 : (m != 0) = false := by simp [hq.1]
  clear hq
  have HI : Hid (∀ (t : Wt n) (v0 v1 v2 : Value) (s' : Int) (wx : World), RepW w n [v0, v1, v2] t → Below w.heap.size w wx → One w (.int .i64 4) (.int .i64 m) (.slice ad ts.length cap) wx → 1 ≤ s' → s' ≤ 16385 → Calls Tryz.prog 43 #[.agg #[v0, v1, v2], .int .i64 (deep + 1), .int .i64 s'] wx fun e w' => e = .returned (.int .i64 (lk f n t s')) ∧ One w (.int .i64 4) (.int .i64 m) (.slice ad ts.length cap) w') := fun t v0 v1 v2 s' wx hx hb ho h1 h2 => (ih t v0 v1 v2 (deep + 1) s' wx (RepW.below hb n _ _ hx) (by omega) (by omega) h1 h2).mono fun e w' ⟨a, b⟩ => ⟨a, ho.step b⟩
  have HK := Lib.hid hr
  have hb0 := One.start w (.int .i64 4) (.int .i64 m) (.slice ad ts.length cap)
  clear ih hr hok
  generalize hcc : (fun (t : Wt n) s => lk f n t s) = cc
  have HC := Lib.hid hcc
  have HBD : Hid (∀ (t : Wt n) (s : Int), 1 ≤ s → s ≤ 16385 → -1 ≤ cc t s ∧ cc t s ≤ 16384) := fun t s a b => by rw [← hcc]; exact lk_bd f n t s a b
  clear hcc
  go_enter Tryz.func43, Tryz.ntmps43
  go_wp2_with fail
  go_loopw [2, 8] (fun ss si wr => ∃ (j : Nat) (s' : Int), ss = .int .i64 s' ∧ si = .int .i64 j ∧ j ≤ ts.length ∧ lkL cc (ts.drop j) s' = lkL cc ts s ∧ 0 ≤ s' ∧ s' ≤ 16384 ∧ One w (.int .i64 4) (.int .i64 m) (.slice ad ts.length cap) wr) (fun _ si _ => ts.length - (intOf si).toNat)
  case atStart => exact ⟨0, s, rfl, rfl, Nat.zero_le _, rfl, by omega, hs2, hb0⟩
  case round =>
    obtain ⟨j, s', rfl, rfl, hj, hinv, hp0, hp1, hb⟩ := hrel
    have HV := Lib.hid hinv
    clear hinv
    have hbw := hb.below
    have c2 := hb.c.2.2
    by_cases hlt : j < ts.length
    · have hne : ts ≠ [] := by intro e; rw [e] at hlt; exact absurd hlt (Nat.not_lt_zero _)
      rcases HK.out with hk | ⟨g, o, hk1, hk2⟩
      · exact absurd hk hne
      subst hk1
      obtain ⟨v0, v1, v2, e0, e1, e2, rk⟩ := hk2 j _ (List.getElem?_eq_getElem hlt)
      have hgl : g < w.heap.size := World.block_lt_of_cell? w _ e0
      have x0 := (hbw.cell (p := ⟨g, o + j * 3, none⟩) hgl).trans e0
      have x1 := (hbw.cell (p := ⟨g, o + j * 3 + 1, none⟩) hgl).trans e1
      have x2 := (hbw.cell (p := ⟨g, o + j * 3 + 2, none⟩) hgl).trans e2
      clear e0 e1 e2 hk2 HK
      go_wp2_with fail
      refine (HI.out ts[j] v0 v1 v2 (s' + 1) wr rk hbw hb (by omega) (by omega)).mono ?_
      rintro e w1 ⟨he, b1⟩
      have hv := HV.out
      rw [drop_atW ts j hlt, lkL_cons] at hv
      have hbd := HBD.out ts[j] (s' + 1) (by omega) (by omega)
      have hcl : lk f n ts[j] (s' + 1) = cc ts[j] (s' + 1) := by rw [← HC.out]
      rw [hcl] at he
      clear x0 x1 x2 rk HV hcl
      generalize cc ts[j] (s' + 1) = C at hv he hbd
      subst he
      by_cases hneg : C < 0
      · rw [if_pos hneg] at hv
        have HW := Lib.hid hv
        clear hv
        go_wp2_with fail
        go_ret
        exact ⟨by rw [← HW.out]; rfl, b1.below⟩
      · rw [if_neg hneg] at hv
        have HW := Lib.hid hv
        clear hv
        go_wp2_with fail
        exact ⟨⟨j + 1, C, rfl, by go_num, by omega, HW.out, by omega, by omega, b1⟩, by simp [intOf]; omega⟩
    · have hje : j = ts.length := by omega
      have hv := HV.out
      rw [hje, List.drop_length] at hv
      have HW := Lib.hid hv
      clear hv HV
      go_wp2_with fail
      go_ret
      exact ⟨by rw [← HW.out]; rfl, hbw⟩

set_option maxRecDepth 100000 in
set_option maxHeartbeats 1000000 in
theorem lookOk5 (f n : Nat) (ih : LookN f n) (ts : List (Wt n)) (m : Int) (ad : Option Addr) (cap : Nat) (deep s : Int) (w : World) (hcap : ts.length ≤ cap) (hmax : cap ≤ maxLen)
    (hr : ts = [] ∨ ∃ g o, ad = some ⟨g, o, none⟩ ∧ ∀ (j : Nat) (t' : Wt n), ts[j]? = some t' → ∃ v0 v1 v2, w.cell? ⟨g, o + j * 3, none⟩ = some v0 ∧ w.cell? ⟨g, o + j * 3 + 1, none⟩ = some v1 ∧ w.cell? ⟨g, o + j * 3 + 2, none⟩ = some v2 ∧ RepW w n [v0, v1, v2] t')
    (hok : okW 5 m ts.length = true) (hd : deep + f = 128) (hd1 : 1 ≤ deep) (hs1 : 1 ≤ s) (hs2 : s ≤ 16384) :
    Calls Tryz.prog 43 #[.agg #[.int .i64 5, .int .i64 m, .slice ad ts.length cap], .int .i64 deep, .int .i64 s] w fun e w' => e = .returned (.int .i64 (lkL (fun t s => lk f n t s) ts s)) ∧ Below w.heap.size w w' := by
  have hgd : ¬ 128 < deep := by omega
  have hgs : ¬ 16384 < s := by omega
  unfold maxLen at hmax
  have hq := of_decide_eq_true (show decide (m = 0 ∧ 2 ≤ ts.length) = true from hok)
  have q1 : (m == 0) = true := by simp [hq.1]
  have q2 : ¬ (ts.length : Int) < 2 := by omega
  have q3 : (m != 0) = false := by simp [hq.1]
  clear hq
  have HI : Hid (∀ (t : Wt n) (v0 v1 v2 : Value) (s' : Int) (wx : World), RepW w n [v0, v1, v2] t → Below w.heap.size w wx → One w (.int .i64 5) (.int .i64 m) (.slice ad ts.length cap) wx → 1 ≤ s' → s' ≤ 16385 → Calls Tryz.prog 43 #[.agg #[v0, v1, v2], .int .i64 (deep + 1), .int .i64 s'] wx fun e w' => e = .returned (.int .i64 (lk f n t s')) ∧ One w (.int .i64 5) (.int .i64 m) (.slice ad ts.length cap) w') := fun t v0 v1 v2 s' wx hx hb ho h1 h2 => (ih t v0 v1 v2 (deep + 1) s' wx (RepW.below hb n _ _ hx) (by omega) (by omega) h1 h2).mono fun e w' ⟨a, b⟩ => ⟨a, ho.step b⟩
  have HK := Lib.hid hr
  have hb0 := One.start w (.int .i64 5) (.int .i64 m) (.slice ad ts.length cap)
  clear ih hr hok
  generalize hcc : (fun (t : Wt n) s => lk f n t s) = cc
  have HC := Lib.hid hcc
  have HBD : Hid (∀ (t : Wt n) (s : Int), 1 ≤ s → s ≤ 16385 → -1 ≤ cc t s ∧ cc t s ≤ 16384) := fun t s a b => by rw [← hcc]; exact lk_bd f n t s a b
  clear hcc
  go_enter Tryz.func43, Tryz.ntmps43
  go_wp2_with fail
  go_loopw [2, 8] (fun ss si wr => ∃ (j : Nat) (s' : Int), ss = .int .i64 s' ∧ si = .int .i64 j ∧ j ≤ ts.length ∧ lkL cc (ts.drop j) s' = lkL cc ts s ∧ 0 ≤ s' ∧ s' ≤ 16384 ∧ One w (.int .i64 5) (.int .i64 m) (.slice ad ts.length cap) wr) (fun _ si _ => ts.length - (intOf si).toNat)
  case atStart => exact ⟨0, s, rfl, rfl, Nat.zero_le _, rfl, by omega, hs2, hb0⟩
  case round =>
    obtain ⟨j, s', rfl, rfl, hj, hinv, hp0, hp1, hb⟩ := hrel
    have HV := Lib.hid hinv
    clear hinv
    have hbw := hb.below
    have c2 := hb.c.2.2
    by_cases hlt : j < ts.length
    · have hne : ts ≠ [] := by intro e; rw [e] at hlt; exact absurd hlt (Nat.not_lt_zero _)
      rcases HK.out with hk | ⟨g, o, hk1, hk2⟩
      · exact absurd hk hne
      subst hk1
      obtain ⟨v0, v1, v2, e0, e1, e2, rk⟩ := hk2 j _ (List.getElem?_eq_getElem hlt)
      have hgl : g < w.heap.size := World.block_lt_of_cell? w _ e0
      have x0 := (hbw.cell (p := ⟨g, o + j * 3, none⟩) hgl).trans e0
      have x1 := (hbw.cell (p := ⟨g, o + j * 3 + 1, none⟩) hgl).trans e1
      have x2 := (hbw.cell (p := ⟨g, o + j * 3 + 2, none⟩) hgl).trans e2
      clear e0 e1 e2 hk2 HK
      go_wp2_with fail
      refine (HI.out ts[j] v0 v1 v2 (s' + 1) wr rk hbw hb (by omega) (by omega)).mono ?_
      rintro e w1 ⟨he, b1⟩
      have hv := HV.out
      rw [drop_atW ts j hlt, lkL_cons] at hv
      have hbd := HBD.out ts[j] (s' + 1) (by omega) (by omega)
      have hcl : lk f n ts[j] (s' + 1) = cc ts[j] (s' + 1) := by rw [← HC.out]
      rw [hcl] at he
      clear x0 x1 x2 rk HV hcl
      generalize cc ts[j] (s' + 1) = C at hv he hbd
      subst he
      by_cases hneg : C < 0
      · rw [if_pos hneg] at hv
        have HW := Lib.hid hv
        clear hv
        go_wp2_with fail
        go_ret
        exact ⟨by rw [← HW.out]; rfl, b1.below⟩
      · rw [if_neg hneg] at hv
        have HW := Lib.hid hv
        clear hv
        go_wp2_with fail
        exact ⟨⟨j + 1, C, rfl, by go_num, by omega, HW.out, by omega, by omega, b1⟩, by simp [intOf]; omega⟩
    · have hje : j = ts.length := by omega
      have hv := HV.out
      rw [hje, List.drop_length] at hv
      have HW := Lib.hid hv
      clear hv HV
      go_wp2_with fail
      go_ret
      exact ⟨by rw [← HW.out]; rfl, hbw⟩

set_option maxRecDepth 100000 in
set_option maxHeartbeats 1000000 in
theorem lookOk6 (f n : Nat) (ih : LookN f n) (ts : List (Wt n)) (m : Int) (ad : Option Addr) (cap : Nat) (deep s : Int) (w : World) (hcap : ts.length ≤ cap) (hmax : cap ≤ maxLen)
    (hr : ts = [] ∨ ∃ g o, ad = some ⟨g, o, none⟩ ∧ ∀ (j : Nat) (t' : Wt n), ts[j]? = some t' → ∃ v0 v1 v2, w.cell? ⟨g, o + j * 3, none⟩ = some v0 ∧ w.cell? ⟨g, o + j * 3 + 1, none⟩ = some v1 ∧ w.cell? ⟨g, o + j * 3 + 2, none⟩ = some v2 ∧ RepW w n [v0, v1, v2] t')
    (hok : okW 6 m ts.length = true) (hd : deep + f = 128) (hd1 : 1 ≤ deep) (hs1 : 1 ≤ s) (hs2 : s ≤ 16384) :
    Calls Tryz.prog 43 #[.agg #[.int .i64 6, .int .i64 m, .slice ad ts.length cap], .int .i64 deep, .int .i64 s] w fun e w' => e = .returned (.int .i64 (lkL (fun t s => lk f n t s) ts s)) ∧ Below w.heap.size w w' := by
  have hgd : ¬ 128 < deep := by omega
  have hgs : ¬ 16384 < s := by omega
  unfold maxLen at hmax
  have hq := of_decide_eq_true (show decide (m = 0 ∧ ts.length = 1) = true from hok)
  have q1 : (m == 0) = true := by simp [hq.1]
  have q2 : ((ts.length : Int) == 1) = true := by simp; omega
  have q3 : (m != 0) = false := by simp [hq.1]
  have q4 : ((ts.length : Int) != 1) = false := by simp; omega
  clear hq
  have HI : Hid (∀ (t : Wt n) (v0 v1 v2 : Value) (s' : Int) (wx : World), RepW w n [v0, v1, v2] t → Below w.heap.size w wx → One w (.int .i64 6) (.int .i64 m) (.slice ad ts.length cap) wx → 1 ≤ s' → s' ≤ 16385 → Calls Tryz.prog 43 #[.agg #[v0, v1, v2], .int .i64 (deep + 1), .int .i64 s'] wx fun e w' => e = .returned (.int .i64 (lk f n t s')) ∧ One w (.int .i64 6) (.int .i64 m) (.slice ad ts.length cap) w') := fun t v0 v1 v2 s' wx hx hb ho h1 h2 => (ih t v0 v1 v2 (deep + 1) s' wx (RepW.below hb n _ _ hx) (by omega) (by omega) h1 h2).mono fun e w' ⟨a, b⟩ => ⟨a, ho.step b⟩
  have HK := Lib.hid hr
  have hb0 := One.start w (.int .i64 6) (.int .i64 m) (.slice ad ts.length cap)
  clear ih hr hok
  generalize hcc : (fun (t : Wt n) s => lk f n t s) = cc
  have HC := Lib.hid hcc
  have HBD : Hid (∀ (t : Wt n) (s : Int), 1 ≤ s → s ≤ 16385 → -1 ≤ cc t s ∧ cc t s ≤ 16384) := fun t s a b => by rw [← hcc]; exact lk_bd f n t s a b
  clear hcc
  go_enter Tryz.func43, Tryz.ntmps43
  go_wp2_with fail
  go_loopw [2, 8] (fun ss si wr => ∃ (j : Nat) (s' : Int), ss = .int .i64 s' ∧ si = .int .i64 j ∧ j ≤ ts.length ∧ lkL cc (ts.drop j) s' = lkL cc ts s ∧ 0 ≤ s' ∧ s' ≤ 16384 ∧ One w (.int .i64 6) (.int .i64 m) (.slice ad ts.length cap) wr) (fun _ si _ => ts.length - (intOf si).toNat)
  case atStart => exact ⟨0, s, rfl, rfl, Nat.zero_le _, rfl, by omega, hs2, hb0⟩
  case round =>
    obtain ⟨j, s', rfl, rfl, hj, hinv, hp0, hp1, hb⟩ := hrel
    have HV := Lib.hid hinv
    clear hinv
    have hbw := hb.below
    have c2 := hb.c.2.2
    by_cases hlt : j < ts.length
    · have hne : ts ≠ [] := by intro e; rw [e] at hlt; exact absurd hlt (Nat.not_lt_zero _)
      rcases HK.out with hk | ⟨g, o, hk1, hk2⟩
      · exact absurd hk hne
      subst hk1
      obtain ⟨v0, v1, v2, e0, e1, e2, rk⟩ := hk2 j _ (List.getElem?_eq_getElem hlt)
      have hgl : g < w.heap.size := World.block_lt_of_cell? w _ e0
      have x0 := (hbw.cell (p := ⟨g, o + j * 3, none⟩) hgl).trans e0
      have x1 := (hbw.cell (p := ⟨g, o + j * 3 + 1, none⟩) hgl).trans e1
      have x2 := (hbw.cell (p := ⟨g, o + j * 3 + 2, none⟩) hgl).trans e2
      clear e0 e1 e2 hk2 HK
      go_wp2_with fail
      refine (HI.out ts[j] v0 v1 v2 (s' + 1) wr rk hbw hb (by omega) (by omega)).mono ?_
      rintro e w1 ⟨he, b1⟩
      have hv := HV.out
      rw [drop_atW ts j hlt, lkL_cons] at hv
      have hbd := HBD.out ts[j] (s' + 1) (by omega) (by omega)
      have hcl : lk f n ts[j] (s' + 1) = cc ts[j] (s' + 1) := by rw [← HC.out]
      rw [hcl] at he
      clear x0 x1 x2 rk HV hcl
      generalize cc ts[j] (s' + 1) = C at hv he hbd
      subst he
      by_cases hneg : C < 0
      · rw [if_pos hneg] at hv
        have HW := Lib.hid hv
        clear hv
        go_wp2_with fail
        go_ret
        exact ⟨by rw [← HW.out]; rfl, b1.below⟩
      · rw [if_neg hneg] at hv
        have HW := Lib.hid hv
        clear hv
        go_wp2_with fail
        exact ⟨⟨j + 1, C, rfl, by go_num, by omega, HW.out, by omega, by omega, b1⟩, by simp [intOf]; omega⟩
    · have hje : j = ts.length := by omega
      have hv := HV.out
      rw [hje, List.drop_length] at hv
      have HW := Lib.hid hv
      clear hv HV
      go_wp2_with fail
      go_ret
      exact ⟨by rw [← HW.out]; rfl, hbw⟩

end Go.Proofs.YtkgbpildikjoiaaGreatDoor
