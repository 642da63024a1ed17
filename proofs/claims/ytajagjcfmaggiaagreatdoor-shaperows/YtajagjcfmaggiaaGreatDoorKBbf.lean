/- The document's look at a pattern, and Fit: as the plain functions say; the conditions: the pattern's tree in memory. -/
import Derived.Test.YtajagjcfmaggiaaGreatDoorKBaa
import Derived.Test.YtajagjcfmaggiaaGreatDoorKBbb
import Derived.Laws.IdiomStrings
import Derived.Laws.MakeOwn
import Derived.Test.YtajagjcfmaggiaaGreatDoorKBbe
import Derived.Test.YtajagjcfmaggiaaGreatDoorKBbc
import Derived.Test.YtajagjcfmaggiaaGreatDoorKBbd
import Derived.Test.YtajagjcfmaggiaaGreatDoorKBac
import Derived.Test.YtajagjcfmaggiaaGreatDoorKBab
namespace Go.Proofs.YtajagjcfmaggiaaGreatDoor
open Go.RowKit

/-- What look is to answer of patterns of depth n at most, with so many levels left. -/
def LookN (f n : Nat) : Prop := ∀ (t : Wt n) (v0 v1 v2 : Value) (deep s : Int) (w : World), RepW w n [v0, v1, v2] t → deep + f = 129 → 1 ≤ deep → 1 ≤ s → s ≤ 16385 →
    Calls Tryz.prog 31 #[.agg #[v0, v1, v2], .int .i64 deep, .int .i64 s] w fun e w' => e = .returned (.int .i64 (lk f n t s)) ∧ Below w.heap.size w w'

set_option maxRecDepth 100000 in
set_option maxHeartbeats 1000000 in
theorem lookOk1 (f n : Nat) (ih : LookN f n) (ts : List (Wt n)) (m : Int) (ad : Option Addr) (cap : Nat) (deep s : Int) (w : World) (hcap : ts.length ≤ cap) (hmax : cap ≤ maxLen)
    (hr : ts = [] ∨ ∃ g o, ad = some ⟨g, o, none⟩ ∧ ∀ (j : Nat) (t' : Wt n), ts[j]? = some t' → ∃ v0 v1 v2, w.cell? ⟨g, o + j * 3, none⟩ = some v0 ∧ w.cell? ⟨g, o + j * 3 + 1, none⟩ = some v1 ∧ w.cell? ⟨g, o + j * 3 + 2, none⟩ = some v2 ∧ RepW w n [v0, v1, v2] t')
    (hok : okW 1 m ts.length = true) (hd : deep + f = 128) (hd1 : 1 ≤ deep) (hs1 : 1 ≤ s) (hs2 : s ≤ 16384) :
    Calls Tryz.prog 31 #[.agg #[.int .i64 1, .int .i64 m, .slice ad ts.length cap], .int .i64 deep, .int .i64 s] w fun e w' => e = .returned (.int .i64 (lkL (fun t s => lk f n t s) ts s)) ∧ Below w.heap.size w w' := by
  have hgd : ¬ 128 < deep := by omega
  have hgs : ¬ 16384 < s := by omega
  unfold maxLen at hmax
  have hq := of_decide_eq_true (show decide (m = 0 ∧ ts.length = 0) = true from hok)
  have q1 : (m == 0) = true := by simp [hq.1]
  have q2 : ((ts.length : Int) == 0) = true := by simp; exact List.eq_nil_of_length_eq_zero hq.2
  have q3 : (m != 0) = false := by simp [hq.1]
  have q4 : ((ts.length : Int) != 0) = false := by simp; exact List.eq_nil_of_length_eq_zero hq.2
  clear hq
  have HI : Hid (∀ (t : Wt n) (v0 v1 v2 : Value) (s' : Int) (wx : World), RepW w n [v0, v1, v2] t → Below w.heap.size w wx → One w (.int .i64 1) (.int .i64 m) (.slice ad ts.length cap) wx → 1 ≤ s' → s' ≤ 16385 → Calls Tryz.prog 31 #[.agg #[v0, v1, v2], .int .i64 (deep + 1), .int .i64 s'] wx fun e w' => e = .returned (.int .i64 (lk f n t s')) ∧ One w (.int .i64 1) (.int .i64 m) (.slice ad ts.length cap) w') := fun t v0 v1 v2 s' wx hx hb ho h1 h2 => (ih t v0 v1 v2 (deep + 1) s' wx (RepW.below hb n _ _ hx) (by omega) (by omega) h1 h2).mono fun e w' ⟨a, b⟩ => ⟨a, ho.step b⟩
  have HK := Lib.hid hr
  have hb0 := One.start w (.int .i64 1) (.int .i64 m) (.slice ad ts.length cap)
  clear ih hr hok
  generalize hcc : (fun (t : Wt n) s => lk f n t s) = cc
  have HC := Lib.hid hcc
  have HBD : Hid (∀ (t : Wt n) (s : Int), 1 ≤ s → s ≤ 16385 → -1 ≤ cc t s ∧ cc t s ≤ 16384) := fun t s a b => by rw [← hcc]; exact lk_bd f n t s a b
  clear hcc
  go_enter Tryz.func31, Tryz.ntmps31
  go_wp2_with fail
  go_loopw [2, 8] (fun ss si wr => ∃ (j : Nat) (s' : Int), ss = .int .i64 s' ∧ si = .int .i64 j ∧ j ≤ ts.length ∧ lkL cc (ts.drop j) s' = lkL cc ts s ∧ 0 ≤ s' ∧ s' ≤ 16384 ∧ One w (.int .i64 1) (.int .i64 m) (.slice ad ts.length cap) wr) (fun _ si _ => ts.length - (intOf si).toNat)
  case atStart => exact ⟨0, s, rfl, rfl, Nat.zero_le _, rfl, by omega, hs2, hb0⟩
  case round =>
    obtain ⟨j, s', rfl, rfl, hj, hinv, hp0, hp1, hb⟩ := hrel
    have HV := Lib.hid hinv
    clear hinv
    have hbw := hb.below
    have c2 := hb.c.2.2
    by_cases hlt : j < ts.length
    · have hne : ts ≠ [] := by intro e; rw [e] at hlt; exact absurd hlt (Nat.not_lt_zero _)
      rcases HK.out with hk | ⟨g, o, hk1, hk2⟩
      · exact absurd hk hne
      subst hk1
      obtain ⟨v0, v1, v2, e0, e1, e2, rk⟩ := hk2 j _ (List.getElem?_eq_getElem hlt)
      have hgl : g < w.heap.size := World.block_lt_of_cell? w _ e0
      have x0 := (hbw.cell (p := ⟨g, o + j * 3, none⟩) hgl).trans e0
      have x1 := (hbw.cell (p := ⟨g, o + j * 3 + 1, none⟩) hgl).trans e1
      have x2 := (hbw.cell (p := ⟨g, o + j * 3 + 2, none⟩) hgl).trans e2
      clear e0 e1 e2 hk2 HK
      go_wp2_with fail
      refine (HI.out ts[j] v0 v1 v2 (s' + 1) wr rk hbw hb (by omega) (by omega)).mono ?_
      rintro e w1 ⟨he, b1⟩
      have hv := HV.out
      rw [drop_atW ts j hlt, lkL_cons] at hv
      have hbd := HBD.out ts[j] (s' + 1) (by omega) (by omega)
      have hcl : lk f n ts[j] (s' + 1) = cc ts[j] (s' + 1) := by rw [← HC.out]
      rw [hcl] at he
      clear x0 x1 x2 rk HV hcl
      generalize cc ts[j] (s' + 1) = C at hv he hbd
      subst he
      by_cases hneg : C < 0
      · rw [if_pos hneg] at hv
        have HW := Lib.hid hv
        clear hv
        go_wp2_with fail
        go_ret
        exact ⟨by rw [← HW.out]; rfl, b1.below⟩
      · rw [if_neg hneg] at hv
        have HW := Lib.hid hv
        clear hv
        go_wp2_with fail
        exact ⟨⟨j + 1, C, rfl, by go_num, by omega, HW.out, by omega, by omega, b1⟩, by simp [intOf]; omega⟩
    · have hje : j = ts.length := by omega
      have hv := HV.out
      rw [hje, List.drop_length] at hv
      have HW := Lib.hid hv
      clear hv HV
      go_wp2_with fail
      go_ret
      exact ⟨by rw [← HW.out]; rfl, hbw⟩

set_option maxRecDepth 100000 in
set_option maxHeartbeats 1000000 in
theorem lookOk2 (f n : Nat) (ih : LookN f n) (ts : List (Wt n)) (m : Int) (ad : Option Addr) (cap : Nat) (deep s : Int) (w : World) (hcap : ts.length ≤ cap) (hmax : cap ≤ maxLen)
    (hr : ts = [] ∨ ∃ g o, ad = some ⟨g, o, none⟩ ∧ ∀ (j : Nat) (t' : Wt n), ts[j]? = some t' → ∃ v0 v1 v2, w.cell? ⟨g, o + j * 3, none⟩ = some v0 ∧ w.cell? ⟨g, o + j * 3 + 1, none⟩ = some v1 ∧ w.cell? ⟨g, o + j * 3 + 2, none⟩ = some v2 ∧ RepW w n [v0, v1, v2] t')
    (hok : okW 2 m ts.length = true) (hd : deep + f = 128) (hd1 : 1 ≤ deep) (hs1 : 1 ≤ s) (hs2 : s ≤ 16384) :
    Calls Tryz.prog 31 #[.agg #[.int .i64 2, .int .i64 m, .slice ad ts.length cap], .int .i64 deep, .int .i64 s] w fun e w' => e = .returned (.int .i64 (lkL (fun t s => lk f n t s) ts s)) ∧ Below w.heap.size w w' := by
  have hgd : ¬ 128 < deep := by omega
  have hgs : ¬ 16384 < s := by omega
  unfold maxLen at hmax
  have hq := of_decide_eq_true (show decide (0 ≤ m ∧ m < 14 ∧ ts.length = 0) = true from hok)
  have q1 : ¬ m < 0 := by omega
  have q2 : ¬ 14 ≤ m := by omega
  have q3 : ((ts.length : Int) == 0) = true := by simp; exact List.eq_nil_of_length_eq_zero hq.2.2
  have q4 : ((ts.length : Int) != 0) = false := by simp; exact List.eq_nil_of_length_eq_zero hq.2.2
  clear hq
  have HI : Hid (∀ (t : Wt n) (v0 v1 v2 : Value) (s' : Int) (wx : World), RepW w n [v0, v1, v2] t → Below w.heap.size w wx → One w (.int .i64 2) (.int .i64 m) (.slice ad ts.length cap) wx → 1 ≤ s' → s' ≤ 16385 → Calls Tryz.prog 31 #[.agg #[v0, v1, v2], .int .i64 (deep + 1), .int .i64 s'] wx fun e w' => e = .returned (.int .i64 (lk f n t s')) ∧ One w (.int .i64 2) (.int .i64 m) (.slice ad ts.length cap) w') := fun t v0 v1 v2 s' wx hx hb ho h1 h2 => (ih t v0 v1 v2 (deep + 1) s' wx (RepW.below hb n _ _ hx) (by omega) (by omega) h1 h2).mono fun e w' ⟨a, b⟩ => ⟨a, ho.step b⟩
  have HK := Lib.hid hr
  have hb0 := One.start w (.int .i64 2) (.int .i64 m) (.slice ad ts.length cap)
  clear ih hr hok
  generalize hcc : (fun (t : Wt n) s => lk f n t s) = cc
  have HC := Lib.hid hcc
  have HBD : Hid (∀ (t : Wt n) (s : Int), 1 ≤ s → s ≤ 16385 → -1 ≤ cc t s ∧ cc t s ≤ 16384) := fun t s a b => by rw [← hcc]; exact lk_bd f n t s a b
  clear hcc
  go_enter Tryz.func31, Tryz.ntmps31
  go_wp2_with fail
  go_loopw [2, 8] (fun ss si wr => ∃ (j : Nat) (s' : Int), ss = .int .i64 s' ∧ si = .int .i64 j ∧ j ≤ ts.length ∧ lkL cc (ts.drop j) s' = lkL cc ts s ∧ 0 ≤ s' ∧ s' ≤ 16384 ∧ One w (.int .i64 2) (.int .i64 m) (.slice ad ts.length cap) wr) (fun _ si _ => ts.length - (intOf si).toNat)
  case atStart => exact ⟨0, s, rfl, rfl, Nat.zero_le _, rfl, by omega, hs2, hb0⟩
  case round =>
    obtain ⟨j, s', rfl, rfl, hj, hinv, hp0, hp1, hb⟩ := hrel
    have HV := Lib.hid hinv
    clear hinv
    have hbw := hb.below
    have c2 := hb.c.2.2
    by_cases hlt : j < ts.length
    · have hne : ts ≠ [] := by intro e; rw [e] at hlt; exact absurd hlt (Nat.not_lt_zero _)
      rcases HK.out with hk | ⟨g, o, hk1, hk2⟩
      · exact absurd hk hne
      subst hk1
      obtain ⟨v0, v1, v2, e0, e1, e2, rk⟩ := hk2 j _ (List.getElem?_eq_getElem hlt)
      have hgl : g < w.heap.size := World.block_lt_of_cell? w _ e0
      have x0 := (hbw.cell (p := ⟨g, o + j * 3, none⟩) hgl).trans e0
      have x1 := (hbw.cell (p := ⟨g, o + j * 3 + 1, none⟩) hgl).trans e1
      have x2 := (hbw.cell (p := ⟨g, o + j * 3 + 2, none⟩) hgl).trans e2
      clear e0 e1 e2 hk2 HK
      go_wp2_with fail
      refine (HI.out ts[j] v0 v1 v2 (s' + 1) wr rk hbw hb (by omega) (by omega)).mono ?_
      rintro e w1 ⟨he, b1⟩
      have hv := HV.out
      rw [drop_atW ts j hlt, lkL_cons] at hv
      have hbd := HBD.out ts[j] (s' + 1) (by omega) (by omega)
      have hcl : lk f n ts[j] (s' + 1) = cc ts[j] (s' + 1) := by rw [← HC.out]
      rw [hcl] at he
      clear x0 x1 x2 rk HV hcl
      generalize cc ts[j] (s' + 1) = C at hv he hbd
      subst he
      by_cases hneg : C < 0
      · rw [if_pos hneg] at hv
        have HW := Lib.hid hv
        clear hv
        go_wp2_with fail
        go_ret
        exact ⟨by rw [← HW.out]; rfl, b1.below⟩
      · rw [if_neg hneg] at hv
        have HW := Lib.hid hv
        clear hv
        go_wp2_with fail
        exact ⟨⟨j + 1, C, rfl, by go_num, by omega, HW.out, by omega, by omega, b1⟩, by simp [intOf]; omega⟩
    · have hje : j = ts.length := by omega
      have hv := HV.out
      rw [hje, List.drop_length] at hv
      have HW := Lib.hid hv
      clear hv HV
      go_wp2_with fail
      go_ret
      exact ⟨by rw [← HW.out]; rfl, hbw⟩

set_option maxRecDepth 100000 in
set_option maxHeartbeats 1000000 in
theorem lookOk3 (f n : Nat) (ih : LookN f n) (ts : List (Wt n)) (m : Int) (ad : Option Addr) (cap : Nat) (deep s : Int) (w : World) (hcap : ts.length ≤ cap) (hmax : cap ≤ maxLen)
    (hr : ts = [] ∨ ∃ g o, ad = some ⟨g, o, none⟩ ∧ ∀ (j : Nat) (t' : Wt n), ts[j]? = some t' → ∃ v0 v1 v2, w.cell? ⟨g, o + j * 3, none⟩ = some v0 ∧ w.cell? ⟨g, o + j * 3 + 1, none⟩ = some v1 ∧ w.cell? ⟨g, o + j * 3 + 2, none⟩ = some v2 ∧ RepW w n [v0, v1, v2] t')
    (hok : okW 3 m ts.length = true) (hd : deep + f = 128) (hd1 : 1 ≤ deep) (hs1 : 1 ≤ s) (hs2 : s ≤ 16384) :
    Calls Tryz.prog 31 #[.agg #[.int .i64 3, .int .i64 m, .slice ad ts.length cap], .int .i64 deep, .int .i64 s] w fun e w' => e = .returned (.int .i64 (lkL (fun t s => lk f n t s) ts s)) ∧ Below w.heap.size w w' := by
  have hgd : ¬ 128 < deep := by omega
  have hgs : ¬ 16384 < s := by omega
  unfold maxLen at hmax
  have hq := of_decide_eq_true (show decide (0 ≤ m ∧ m < 10 ∧ ts.length = 0) = true from hok)
  have q1 : ¬ m < 0 := by omega
  have q2 : ¬ 10 ≤ m := by omega
  have q3 : ((ts.length : Int) == 0) = true := by simp; exact List.eq_nil_of_length_eq_zero hq.2.2
  have q4 : ((ts.length : Int) != 0) = false := by simp; exact List.eq_nil_of_length_eq_zero hq.2.2
  clear hq
  have HI : Hid (∀ (t : Wt n) (v0 v1 v2 : Value) (s' : Int) (wx : World), RepW w n [v0, v1, v2] t → Below w.heap.size w wx → One w (.int .i64 3) (.int .i64 m) (.slice ad ts.length cap) wx → 1 ≤ s' → s' ≤ 16385 → Calls Tryz.prog 31 #[.agg #[v0, v1, v2], .int .i64 (deep + 1), .int .i64 s'] wx fun e w' => e = .returned (.int .i64 (lk f n t s')) ∧ One w (.int .i64 3) (.int .i64 m) (.slice ad ts.length cap) w') := fun t v0 v1 v2 s' wx hx hb ho h1 h2 => (ih t v0 v1 v2 (deep + 1) s' wx (RepW.below hb n _ _ hx) (by omega) (by omega) h1 h2).mono fun e w' ⟨a, b⟩ => ⟨a, ho.step b⟩
  have HK := Lib.hid hr
  have hb0 := One.start w (.int .i64 3) (.int .i64 m) (.slice ad ts.length cap)
  clear ih hr hok
  generalize hcc : (fun (t : Wt n) s => lk f n t s) = cc
  have HC := Lib.hid hcc
  have HBD : Hid (∀ (t : Wt n) (s : Int), 1 ≤ s → s ≤ 16385 → -1 ≤ cc t s ∧ cc t s ≤ 16384) := fun t s a b => by rw [← hcc]; exact lk_bd f n t s a b
  clear hcc
  go_enter Tryz.func31, Tryz.ntmps31
  go_wp2_with fail
  go_loopw [2, 8] (fun ss si wr => ∃ (j : Nat) (s' : Int), ss = .int .i64 s' ∧ si = .int .i64 j ∧ j ≤ ts.length ∧ lkL cc (ts.drop j) s' = lkL cc ts s ∧ 0 ≤ s' ∧ s' ≤ 16384 ∧ One w (.int .i64 3) (.int .i64 m) (.slice ad ts.length cap) wr) (fun _ si _ => ts.length - (intOf si).toNat)
  case atStart => exact ⟨0, s, rfl, rfl, Nat.zero_le _, rfl, by omega, hs2, hb0⟩
  case round =>
    obtain ⟨j, s', rfl, rfl, hj, hinv, hp0, hp1, hb⟩ := hrel
    have HV := Lib.hid hinv
    clear hinv
    have hbw := hb.below
    have c2 := hb.c.2.2
    by_cases hlt : j < ts.length
    · have hne : ts ≠ [] := by intro e; rw [e] at hlt; exact absurd hlt (Nat.not_lt_zero _)
      rcases HK.out with hk | ⟨g, o, hk1, hk2⟩
      · exact absurd hk hne
      subst hk1
      obtain ⟨v0, v1, v2, e0, e1, e2, rk⟩ := hk2 j _ (List.getElem?_eq_getElem hlt)
      have hgl : g < w.heap.size := World.block_lt_of_cell? w _ e0
      have x0 := (hbw.cell (p := ⟨g, o + j * 3, none⟩) hgl).trans e0
      have x1 := (hbw.cell (p := ⟨g, o + j * 3 + 1, none⟩) hgl).trans e1
      have x2 := (hbw.cell (p := ⟨g, o + j * 3 + 2, none⟩) hgl).trans e2
      clear e0 e1 e2 hk2 HK
      go_wp2_with fail
      refine (HI.out ts[j] v0 v1 v2 (s' + 1) wr rk hbw hb (by omega) (by omega)).mono ?_
      rintro e w1 ⟨he, b1⟩
      have hv := HV.out
      rw [drop_atW ts j hlt, lkL_cons] at hv
      have hbd := HBD.out ts[j] (s' + 1) (by omega) (by omega)
      have hcl : lk f n ts[j] (s' + 1) = cc ts[j] (s' + 1) := by rw [← HC.out]
      rw [hcl] at he
      clear x0 x1 x2 rk HV hcl
      generalize cc ts[j] (s' + 1) = C at hv he hbd
      subst he
      by_cases hneg : C < 0
      · rw [if_pos hneg] at hv
        have HW := Lib.hid hv
        clear hv
        go_wp2_with fail
        go_ret
        exact ⟨by rw [← HW.out]; rfl, b1.below⟩
      · rw [if_neg hneg] at hv
        have HW := Lib.hid hv
        clear hv
        go_wp2_with fail
        exact ⟨⟨j + 1, C, rfl, by go_num, by omega, HW.out, by omega, by omega, b1⟩, by simp [intOf]; omega⟩
    · have hje : j = ts.length := by omega
      have hv := HV.out
      rw [hje, List.drop_length] at hv
      have HW := Lib.hid hv
      clear hv HV
      go_wp2_with fail
      go_ret
      exact ⟨by rw [← HW.out]; rfl, hbw⟩

set_option maxRecDepth 100000 in
set_option maxHeartbeats 1000000 in
theorem lookOk4 (f n : Nat) (ih : LookN f n) (ts : List (Wt n)) (m : Int) (ad : Option Addr) (cap : Nat) (deep s : Int) (w : World) (hcap : ts.length ≤ cap) (hmax : cap ≤ maxLen)
    (hr : ts = [] ∨ ∃ g o, ad = some ⟨g, o, none⟩ ∧ ∀ (j : Nat) (t' : Wt n), ts[j]? = some t' → ∃ v0 v1 v2, w.cell? ⟨g, o + j * 3, none⟩ = some v0 ∧ w.cell? ⟨g, o + j * 3 + 1, none⟩ = some v1 ∧ w.cell? ⟨g, o + j * 3 + 2, none⟩ = some v2 ∧ RepW w n [v0, v1, v2] t')
    (hok : okW 4 m ts.length = true) (hd : deep + f = 128) (hd1 : 1 ≤ deep) (hs1 : 1 ≤ s) (hs2 : s ≤ 16384) :
    Calls Tryz.prog 31 #[.agg #[.int .i64 4, .int .i64 m, .slice ad ts.length cap], .int .i64 deep, .int .i64 s] w fun e w' => e = .returned (.int .i64 (lkL (fun t s => lk f n t s) ts s)) ∧ Below w.heap.size w w' := by
  have hgd : ¬ 128 < deep := by omega
  have hgs : ¬ 16384 < s := by omega
  unfold maxLen at hmax
  have hq := of_decide_eq_true (show decide (m = 0 ∧ 2 ≤ ts.length) = true from hok)
  have q1 : (m == 0) = true := by simp [hq.1]
  have q2 : ¬ (ts.length : Int) < 2 := by omega
  have q3 : (m != 0) = false := by simp [hq.1]
  clear hq
  have HI : Hid (∀ (t : Wt n) (v0 v1 v2 : Value) (s' : Int) (wx : World), RepW w n [v0, v1, v2] t → Below w.heap.size w wx → One w (.int .i64 4) (.int .i64 m) (.slice ad ts.length cap) wx → 1 ≤ s' → s' ≤ 16385 → Calls Tryz.prog 31 #[.agg #[v0, v1, v2], .int .i64 (deep + 1), .int .i64 s'] wx fun e w' => e = .returned (.int .i64 (lk f n t s')) ∧ One w (.int .i64 4) (.int .i64 m) (.slice ad ts.length cap) w') := fun t v0 v1 v2 s' wx hx hb ho h1 h2 => (ih t v0 v1 v2 (deep + 1) s' wx (RepW.below hb n _ _ hx) (by omega) (by omega) h1 h2).mono fun e w' ⟨a, b⟩ => ⟨a, ho.step b⟩
  have HK := Lib.hid hr
  have hb0 := One.start w (.int .i64 4) (.int .i64 m) (.slice ad ts.length cap)
  clear ih hr hok
  generalize hcc : (fun (t : Wt n) s => lk f n t s) = cc
  have HC := Lib.hid hcc
  have HBD : Hid (∀ (t : Wt n) (s : Int), 1 ≤ s → s ≤ 16385 → -1 ≤ cc t s ∧ cc t s ≤ 16384) := fun t s a b => by rw [← hcc]; exact lk_bd f n t s a b
  clear hcc
  go_enter Tryz.func31, Tryz.ntmps31
  go_wp2_with fail
  go_loopw [2, 8] (fun ss si wr => ∃ (j : Nat) (s' : Int), ss = .int .i64 s' ∧ si = .int .i64 j ∧ j ≤ ts.length ∧ lkL cc (ts.drop j) s' = lkL cc ts s ∧ 0 ≤ s' ∧ s' ≤ 16384 ∧ One w (.int .i64 4) (.int .i64 m) (.slice ad ts.length cap) wr) (fun _ si _ => ts.length - (intOf si).toNat)
  case atStart => exact ⟨0, s, rfl, rfl, Nat.zero_le _, rfl, by omega, hs2, hb0⟩
  case round =>
    obtain ⟨j, s', rfl, rfl, hj, hinv, hp0, hp1, hb⟩ := hrel
    have HV := Lib.hid hinv
    clear hinv
    have hbw := hb.below
    have c2 := hb.c.2.2
    by_cases hlt : j < ts.length
    · have hne : ts ≠ [] := by intro e; rw [e] at hlt; exact absurd hlt (Nat.not_lt_zero _)
      rcases HK.out with hk | ⟨g, o, hk1, hk2⟩
      · exact absurd hk hne
      subst hk1
      obtain ⟨v0, v1, v2, e0, e1, e2, rk⟩ := hk2 j _ (List.getElem?_eq_getElem hlt)
      have hgl : g < w.heap.size := World.block_lt_of_cell? w _ e0
      have x0 := (hbw.cell (p := ⟨g, o + j * 3, none⟩) hgl).trans e0
      have x1 := (hbw.cell (p := ⟨g, o + j * 3 + 1, none⟩) hgl).trans e1
      have x2 := (hbw.cell (p := ⟨g, o + j * 3 + 2, none⟩) hgl).trans e2
      clear e0 e1 e2 hk2 HK
      go_wp2_with fail
      refine (HI.out ts[j] v0 v1 v2 (s' + 1) wr rk hbw hb (by omega) (by omega)).mono ?_
      rintro e w1 ⟨he, b1⟩
      have hv := HV.out
      rw [drop_atW ts j hlt, lkL_cons] at hv
      have hbd := HBD.out ts[j] (s' + 1) (by omega) (by omega)
      have hcl : lk f n ts[j] (s' + 1) = cc ts[j] (s' + 1) := by rw [← HC.out]
      rw [hcl] at he
      clear x0 x1 x2 rk HV hcl
      generalize cc ts[j] (s' + 1) = C at hv he hbd
      subst he
      by_cases hneg : C < 0
      · rw [if_pos hneg] at hv
        have HW := Lib.hid hv
        clear hv
        go_wp2_with fail
        go_ret
        exact ⟨by rw [← HW.out]; rfl, b1.below⟩
      · rw [if_neg hneg] at hv
        have HW := Lib.hid hv
        clear hv
        go_wp2_with fail
        exact ⟨⟨j + 1, C, rfl, by go_num, by omega, HW.out, by omega, by omega, b1⟩, by simp [intOf]; omega⟩
    · have hje : j = ts.length := by omega
      have hv := HV.out
      rw [hje, List.drop_length] at hv
      have HW := Lib.hid hv
      clear hv HV
      go_wp2_with fail
      go_ret
      exact ⟨by rw [← HW.out]; rfl, hbw⟩

set_option maxRecDepth 100000 in
set_option maxHeartbeats 1000000 in
theorem lookOk5 (f n : Nat) (ih : LookN f n) (ts : List (Wt n)) (m : Int) (ad : Option Addr) (cap : Nat) (deep s : Int) (w : World) (hcap : ts.length ≤ cap) (hmax : cap ≤ maxLen)
    (hr : ts = [] ∨ ∃ g o, ad = some ⟨g, o, none⟩ ∧ ∀ (j : Nat) (t' : Wt n), ts[j]? = some t' → ∃ v0 v1 v2, w.cell? ⟨g, o + j * 3, none⟩ = some v0 ∧ w.cell? ⟨g, o + j * 3 + 1, none⟩ = some v1 ∧ w.cell? ⟨g, o + j * 3 + 2, none⟩ = some v2 ∧ RepW w n [v0, v1, v2] t')
    (hok : okW 5 m ts.length = true) (hd : deep + f = 128) (hd1 : 1 ≤ deep) (hs1 : 1 ≤ s) (hs2 : s ≤ 16384) :
    Calls Tryz.prog 31 #[.agg #[.int .i64 5, .int .i64 m, .slice ad ts.length cap], .int .i64 deep, .int .i64 s] w fun e w' => e = .returned (.int .i64 (lkL (fun t s => lk f n t s) ts s)) ∧ Below w.heap.size w w' := by
  have hgd : ¬ 128 < deep := by omega
  have hgs : ¬ 16384 < s := by omega
  unfold maxLen at hmax
  have hq := of_decide_eq_true (show decide (m = 0 ∧ 2 ≤ ts.length) = true from hok)
  have q1 : (m == 0) = true := by simp [hq.1]
  have q2 : ¬ (ts.length : Int) < 2 := by omega
  have q3 : (m != 0) = false := by simp [hq.1]
  clear hq
  have HI : Hid (∀ (t : Wt n) (v0 v1 v2 : Value) (s' : Int) (wx : World), RepW w n [v0, v1, v2] t → Below w.heap.size w wx → One w (.int .i64 5) (.int .i64 m) (.slice ad ts.length cap) wx → 1 ≤ s' → s' ≤ 16385 → Calls Tryz.prog 31 #[.agg #[v0, v1, v2], .int .i64 (deep + 1), .int .i64 s'] wx fun e w' => e = .returned (.int .i64 (lk f n t s')) ∧ One w (.int .i64 5) (.int .i64 m) (.slice ad ts.length cap) w') := fun t v0 v1 v2 s' wx hx hb ho h1 h2 => (ih t v0 v1 v2 (deep + 1) s' wx (RepW.below hb n _ _ hx) (by omega) (by omega) h1 h2).mono fun e w' ⟨a, b⟩ => ⟨a, ho.step b⟩
  have HK := Lib.hid hr
  have hb0 := One.start w (.int .i64 5) (.int .i64 m) (.slice ad ts.length cap)
  clear ih hr hok
  generalize hcc : (fun (t : Wt n) s => lk f n t s) = cc
  have HC := Lib.hid hcc
  have HBD : Hid (∀ (t : Wt n) (s : Int), 1 ≤ s → s ≤ 16385 → -1 ≤ cc t s ∧ cc t s ≤ 16384) := fun t s a b => by rw [← hcc]; exact lk_bd f n t s a b
  clear hcc
  go_enter Tryz.func31, Tryz.ntmps31
  go_wp2_with fail
  go_loopw [2, 8] (fun ss si wr => ∃ (j : Nat) (s' : Int), ss = .int .i64 s' ∧ si = .int .i64 j ∧ j ≤ ts.length ∧ lkL cc (ts.drop j) s' = lkL cc ts s ∧ 0 ≤ s' ∧ s' ≤ 16384 ∧ One w (.int .i64 5) (.int .i64 m) (.slice ad ts.length cap) wr) (fun _ si _ => ts.length - (intOf si).toNat)
  case atStart => exact ⟨0, s, rfl, rfl, Nat.zero_le _, rfl, by omega, hs2, hb0⟩
  case round =>
    obtain ⟨j, s', rfl, rfl, hj, hinv, hp0, hp1, hb⟩ := hrel
    have HV := Lib.hid hinv
    clear hinv
    have hbw := hb.below
    have c2 := hb.c.2.2
    by_cases hlt : j < ts.length
    · have hne : ts ≠ [] := by intro e; rw [e] at hlt; exact absurd hlt (Nat.not_lt_zero _)
      rcases HK.out with hk | ⟨g, o, hk1, hk2⟩
      · exact absurd hk hne
      subst hk1
      obtain ⟨v0, v1, v2, e0, e1, e2, rk⟩ := hk2 j _ (List.getElem?_eq_getElem hlt)
      have hgl : g < w.heap.size := World.block_lt_of_cell? w _ e0
      have x0 := (hbw.cell (p := ⟨g, o + j * 3, none⟩) hgl).trans e0
      have x1 := (hbw.cell (p := ⟨g, o + j * 3 + 1, none⟩) hgl).trans e1
      have x2 := (hbw.cell (p := ⟨g, o + j * 3 + 2, none⟩) hgl).trans e2
      clear e0 e1 e2 hk2 HK
      go_wp2_with fail
      refine (HI.out ts[j] v0 v1 v2 (s' + 1) wr rk hbw hb (by omega) (by omega)).mono ?_
      rintro e w1 ⟨he, b1⟩
      have hv := HV.out
      rw [drop_atW ts j hlt, lkL_cons] at hv
      have hbd := HBD.out ts[j] (s' + 1) (by omega) (by omega)
      have hcl : lk f n ts[j] (s' + 1) = cc ts[j] (s' + 1) := by rw [← HC.out]
      rw [hcl] at he
      clear x0 x1 x2 rk HV hcl
      generalize cc ts[j] (s' + 1) = C at hv he hbd
      subst he
      by_cases hneg : C < 0
      · rw [if_pos hneg] at hv
        have HW := Lib.hid hv
        clear hv
        go_wp2_with fail
        go_ret
        exact ⟨by rw [← HW.out]; rfl, b1.below⟩
      · rw [if_neg hneg] at hv
        have HW := Lib.hid hv
        clear hv
        go_wp2_with fail
        exact ⟨⟨j + 1, C, rfl, by go_num, by omega, HW.out, by omega, by omega, b1⟩, by simp [intOf]; omega⟩
    · have hje : j = ts.length := by omega
      have hv := HV.out
      rw [hje, List.drop_length] at hv
      have HW := Lib.hid hv
      clear hv HV
      go_wp2_with fail
      go_ret
      exact ⟨by rw [← HW.out]; rfl, hbw⟩

set_option maxRecDepth 100000 in
set_option maxHeartbeats 1000000 in
theorem lookOk6 (f n : Nat) (ih : LookN f n) (ts : List (Wt n)) (m : Int) (ad : Option Addr) (cap : Nat) (deep s : Int) (w : World) (hcap : ts.length ≤ cap) (hmax : cap ≤ maxLen)
    (hr : ts = [] ∨ ∃ g o, ad = some ⟨g, o, none⟩ ∧ ∀ (j : Nat) (t' : Wt n), ts[j]? = some t' → ∃ v0 v1 v2, w.cell? ⟨g, o + j * 3, none⟩ = some v0 ∧ w.cell? ⟨g, o + j * 3 + 1, none⟩ = some v1 ∧ w.cell? ⟨g, o + j * 3 + 2, none⟩ = some v2 ∧ RepW w n [v0, v1, v2] t')
    (hok : okW 6 m ts.length = true) (hd : deep + f = 128) (hd1 : 1 ≤ deep) (hs1 : 1 ≤ s) (hs2 : s ≤ 16384) :
    Calls Tryz.prog 31 #[.agg #[.int .i64 6, .int .i64 m, .slice ad ts.length cap], .int .i64 deep, .int .i64 s] w fun e w' => e = .returned (.int .i64 (lkL (fun t s => lk f n t s) ts s)) ∧ Below w.heap.size w w' := by
  have hgd : ¬ 128 < deep := by omega
  have hgs : ¬ 16384 < s := by omega
  unfold maxLen at hmax
  have hq := of_decide_eq_true (show decide (m = 0 ∧ ts.length = 1) = true from hok)
  have q1 : (m == 0) = true := by simp [hq.1]
  have q2 : ((ts.length : Int) == 1) = true := by simp; omega
  have q3 : (m != 0) = false := by simp [hq.1]
  have q4 : ((ts.length : Int) != 1) = false := by simp; omega
  clear hq
  have HI : Hid (∀ (t : Wt n) (v0 v1 v2 : Value) (s' : Int) (wx : World), RepW w n [v0, v1, v2] t → Below w.heap.size w wx → One w (.int .i64 6) (.int .i64 m) (.slice ad ts.length cap) wx → 1 ≤ s' → s' ≤ 16385 → Calls Tryz.prog 31 #[.agg #[v0, v1, v2], .int .i64 (deep + 1), .int .i64 s'] wx fun e w' => e = .returned (.int .i64 (lk f n t s')) ∧ One w (.int .i64 6) (.int .i64 m) (.slice ad ts.length cap) w') := fun t v0 v1 v2 s' wx hx hb ho h1 h2 => (ih t v0 v1 v2 (deep + 1) s' wx (RepW.below hb n _ _ hx) (by omega) (by omega) h1 h2).mono fun e w' ⟨a, b⟩ => ⟨a, ho.step b⟩
  have HK := Lib.hid hr
  have hb0 := One.start w (.int .i64 6) (.int .i64 m) (.slice ad ts.length cap)
  clear ih hr hok
  generalize hcc : (fun (t : Wt n) s => lk f n t s) = cc
  have HC := Lib.hid hcc
  have HBD : Hid (∀ (t : Wt n) (s : Int), 1 ≤ s → s ≤ 16385 → -1 ≤ cc t s ∧ cc t s ≤ 16384) := fun t s a b => by rw [← hcc]; exact lk_bd f n t s a b
  clear hcc
  go_enter Tryz.func31, Tryz.ntmps31
  go_wp2_with fail
  go_loopw [2, 8] (fun ss si wr => ∃ (j : Nat) (s' : Int), ss = .int .i64 s' ∧ si = .int .i64 j ∧ j ≤ ts.length ∧ lkL cc (ts.drop j) s' = lkL cc ts s ∧ 0 ≤ s' ∧ s' ≤ 16384 ∧ One w (.int .i64 6) (.int .i64 m) (.slice ad ts.length cap) wr) (fun _ si _ => ts.length - (intOf si).toNat)
  case atStart => exact ⟨0, s, rfl, rfl, Nat.zero_le _, rfl, by omega, hs2, hb0⟩
  case round =>
    obtain ⟨j, s', rfl, rfl, hj, hinv, hp0, hp1, hb⟩ := hrel
    have HV := Lib.hid hinv
    clear hinv
    have hbw := hb.below
    have c2 := hb.c.2.2
    by_cases hlt : j < ts.length
    · have hne : ts ≠ [] := by intro e; rw [e] at hlt; exact absurd hlt (Nat.not_lt_zero _)
      rcases HK.out with hk | ⟨g, o, hk1, hk2⟩
      · exact absurd hk hne
      subst hk1
      obtain ⟨v0, v1, v2, e0, e1, e2, rk⟩ := hk2 j _ (List.getElem?_eq_getElem hlt)
      have hgl : g < w.heap.size := World.block_lt_of_cell? w _ e0
      have x0 := (hbw.cell (p := ⟨g, o + j * 3, none⟩) hgl).trans e0
      have x1 := (hbw.cell (p := ⟨g, o + j * 3 + 1, none⟩) hgl).trans e1
      have x2 := (hbw.cell (p := ⟨g, o + j * 3 + 2, none⟩) hgl).trans e2
      clear e0 e1 e2 hk2 HK
      go_wp2_with fail
      refine (HI.out ts[j] v0 v1 v2 (s' + 1) wr rk hbw hb (by omega) (by omega)).mono ?_
      rintro e w1 ⟨he, b1⟩
      have hv := HV.out
      rw [drop_atW ts j hlt, lkL_cons] at hv
      have hbd := HBD.out ts[j] (s' + 1) (by omega) (by omega)
      have hcl : lk f n ts[j] (s' + 1) = cc ts[j] (s' + 1) := by rw [← HC.out]
      rw [hcl] at he
      clear x0 x1 x2 rk HV hcl
      generalize cc ts[j] (s' + 1) = C at hv he hbd
      subst he
      by_cases hneg : C < 0
      · rw [if_pos hneg] at hv
        have HW := Lib.hid hv
        clear hv
        go_wp2_with fail
        go_ret
        exact ⟨by rw [← HW.out]; rfl, b1.below⟩
      · rw [if_neg hneg] at hv
        have HW := Lib.hid hv
        clear hv
        go_wp2_with fail
        exact ⟨⟨j + 1, C, rfl, by go_num, by omega, HW.out, by omega, by omega, b1⟩, by simp [intOf]; omega⟩
    · have hje : j = ts.length := by omega
      have hv := HV.out
      rw [hje, List.drop_length] at hv
      have HW := Lib.hid hv
      clear hv HV
      go_wp2_with fail
      go_ret
      exact ⟨by rw [← HW.out]; rfl, hbw⟩

end Go.Proofs.YtajagjcfmaggiaaGreatDoor
/- The document's Fit of any pattern: as the plain functions say; the condition: the pattern's tree in memory. -/
namespace Go.Proofs.YtajagjcfmaggiaaGreatDoor
open Go.RowKit

/-- What look answers where a part is not right. -/
def LookBad (o m : Int) (len : Nat) : Prop := ∀ (ad : Option Addr) (cap : Nat) (deep s : Int) (w : World), ¬ 128 < deep → ¬ 16384 < s →
    Calls Tryz.prog 31 #[.agg #[.int .i64 o, .int .i64 m, .slice ad len cap], .int .i64 deep, .int .i64 s] w fun e w' => e = .returned (.int .i64 (-1)) ∧ Below w.heap.size w w'

set_option maxRecDepth 100000 in
set_option maxHeartbeats 1000000 in
theorem bad1m (m : Int) (len : Nat) (h : m ≠ 0) : LookBad 1 m len := by
  intro ad cap deep s w hgd hgs
  have q1 : (m == 0) = false := by simpa using h
  have q2 : (m != 0) = true := by simpa using h
  clear h
  go_enter Tryz.func31, Tryz.ntmps31
  go_wp2
  go_ret
  exact ⟨rfl, below1 w _⟩
set_option maxRecDepth 100000 in
set_option maxHeartbeats 1000000 in
theorem bad1l (len : Nat) (h : len ≠ 0) : LookBad 1 0 len := by
  intro ad cap deep s w hgd hgs
  have q1 : ((len : Int) == 0) = false := by simp; omega
  have q2 : ((len : Int) != 0) = true := by simp; omega
  clear h
  go_enter Tryz.func31, Tryz.ntmps31
  go_wp2
  go_ret
  exact ⟨rfl, below1 w _⟩
set_option maxRecDepth 100000 in
set_option maxHeartbeats 1000000 in
theorem bad2n (m : Int) (len : Nat) (h : m < 0) : LookBad 2 m len := by
  intro ad cap deep s w hgd hgs
  go_enter Tryz.func31, Tryz.ntmps31
  go_wp2
  go_ret
  exact ⟨rfl, below1 w _⟩
set_option maxRecDepth 100000 in
set_option maxHeartbeats 1000000 in
theorem bad2g (m : Int) (len : Nat) (h0 : ¬ m < 0) (h : 14 ≤ m) : LookBad 2 m len := by
  intro ad cap deep s w hgd hgs
  go_enter Tryz.func31, Tryz.ntmps31
  go_wp2
  go_ret
  exact ⟨rfl, below1 w _⟩
set_option maxRecDepth 100000 in
set_option maxHeartbeats 1000000 in
theorem bad2l (m : Int) (len : Nat) (h0 : ¬ m < 0) (h1 : ¬ 14 ≤ m) (h : len ≠ 0) : LookBad 2 m len := by
  intro ad cap deep s w hgd hgs
  have q1 : ((len : Int) == 0) = false := by simp; omega
  have q2 : ((len : Int) != 0) = true := by simp; omega
  clear h
  go_enter Tryz.func31, Tryz.ntmps31
  go_wp2
  go_ret
  exact ⟨rfl, below1 w _⟩
set_option maxRecDepth 100000 in
set_option maxHeartbeats 1000000 in
theorem bad3n (m : Int) (len : Nat) (h : m < 0) : LookBad 3 m len := by
  intro ad cap deep s w hgd hgs
  go_enter Tryz.func31, Tryz.ntmps31
  go_wp2
  go_ret
  exact ⟨rfl, below1 w _⟩
set_option maxRecDepth 100000 in
set_option maxHeartbeats 1000000 in
theorem bad3g (m : Int) (len : Nat) (h0 : ¬ m < 0) (h : 10 ≤ m) : LookBad 3 m len := by
  intro ad cap deep s w hgd hgs
  go_enter Tryz.func31, Tryz.ntmps31
  go_wp2
  go_ret
  exact ⟨rfl, below1 w _⟩
set_option maxRecDepth 100000 in
set_option maxHeartbeats 1000000 in
theorem bad3l (m : Int) (len : Nat) (h0 : ¬ m < 0) (h1 : ¬ 10 ≤ m) (h : len ≠ 0) : LookBad 3 m len := by
  intro ad cap deep s w hgd hgs
  have q1 : ((len : Int) == 0) = false := by simp; omega
  have q2 : ((len : Int) != 0) = true := by simp; omega
  clear h
  go_enter Tryz.func31, Tryz.ntmps31
  go_wp2
  go_ret
  exact ⟨rfl, below1 w _⟩
set_option maxRecDepth 100000 in
set_option maxHeartbeats 1000000 in
theorem bad4m (m : Int) (len : Nat) (h : m ≠ 0) : LookBad 4 m len := by
  intro ad cap deep s w hgd hgs
  have q1 : (m == 0) = false := by simpa using h
  have q2 : (m != 0) = true := by simpa using h
  clear h
  go_enter Tryz.func31, Tryz.ntmps31
  go_wp2
  go_ret
  exact ⟨rfl, below1 w _⟩
set_option maxRecDepth 100000 in
set_option maxHeartbeats 1000000 in
theorem bad4l (len : Nat) (h : len < 2) : LookBad 4 0 len := by
  intro ad cap deep s w hgd hgs
  have q1 : (len : Int) < 2 := by omega
  go_enter Tryz.func31, Tryz.ntmps31
  go_wp2
  go_ret
  exact ⟨rfl, below1 w _⟩
set_option maxRecDepth 100000 in
set_option maxHeartbeats 1000000 in
theorem bad5m (m : Int) (len : Nat) (h : m ≠ 0) : LookBad 5 m len := by
  intro ad cap deep s w hgd hgs
  have q1 : (m == 0) = false := by simpa using h
  have q2 : (m != 0) = true := by simpa using h
  clear h
  go_enter Tryz.func31, Tryz.ntmps31
  go_wp2
  go_ret
  exact ⟨rfl, below1 w _⟩
set_option maxRecDepth 100000 in
set_option maxHeartbeats 1000000 in
theorem bad5l (len : Nat) (h : len < 2) : LookBad 5 0 len := by
  intro ad cap deep s w hgd hgs
  have q1 : (len : Int) < 2 := by omega
  go_enter Tryz.func31, Tryz.ntmps31
  go_wp2
  go_ret
  exact ⟨rfl, below1 w _⟩
set_option maxRecDepth 100000 in
set_option maxHeartbeats 1000000 in
theorem bad6m (m : Int) (len : Nat) (h : m ≠ 0) : LookBad 6 m len := by
  intro ad cap deep s w hgd hgs
  have q1 : (m == 0) = false := by simpa using h
  have q2 : (m != 0) = true := by simpa using h
  clear h
  go_enter Tryz.func31, Tryz.ntmps31
  go_wp2
  go_ret
  exact ⟨rfl, below1 w _⟩
set_option maxRecDepth 100000 in
set_option maxHeartbeats 1000000 in
theorem bad6l (len : Nat) (h : len ≠ 1) : LookBad 6 0 len := by
  intro ad cap deep s w hgd hgs
  have q1 : ((len : Int) == 1) = false := by simp; omega
  have q2 : ((len : Int) != 1) = true := by simp; omega
  clear h
  go_enter Tryz.func31, Tryz.ntmps31
  go_wp2
  go_ret
  exact ⟨rfl, below1 w _⟩
set_option maxRecDepth 100000 in
set_option maxHeartbeats 1000000 in
theorem bad_op (o m : Int) (len : Nat) (h1 : o ≠ 1) (h2 : o ≠ 2) (h3 : o ≠ 3) (h4 : o ≠ 4) (h5 : o ≠ 5) (h6 : o ≠ 6) : LookBad o m len := by
  intro ad cap deep s w hgd hgs
  have g1 : (o == 1) = false := by simpa using h1
  have g2 : (o == 2) = false := by simpa using h2
  have g3 : (o == 3) = false := by simpa using h3
  have g4 : (o == 4) = false := by simpa using h4
  have g5 : (o == 5) = false := by simpa using h5
  have g6 : (o == 6) = false := by simpa using h6
  clear h1 h2 h3 h4 h5 h6
  go_enter Tryz.func31, Tryz.ntmps31
  go_wp2
  go_ret
  exact ⟨rfl, below1 w _⟩
theorem bad_any (o m : Int) (len : Nat) (h : okW o m len = false) : LookBad o m len := by
  by_cases h1 : o = 1
  · subst h1
    have h' := of_decide_eq_false (show decide (m = 0 ∧ len = 0) = false from h)
    by_cases hm : m = 0
    · subst hm; exact bad1l len (by omega)
    · exact bad1m m len hm
  by_cases h2 : o = 2
  · subst h2
    have h' := of_decide_eq_false (show decide (0 ≤ m ∧ m < 14 ∧ len = 0) = false from h)
    by_cases a : m < 0
    · exact bad2n m len a
    by_cases b : 14 ≤ m
    · exact bad2g m len a b
    · exact bad2l m len a b (by omega)
  by_cases h3 : o = 3
  · subst h3
    have h' := of_decide_eq_false (show decide (0 ≤ m ∧ m < 10 ∧ len = 0) = false from h)
    by_cases a : m < 0
    · exact bad3n m len a
    by_cases b : 10 ≤ m
    · exact bad3g m len a b
    · exact bad3l m len a b (by omega)
  by_cases h4 : o = 4
  · subst h4
    have h' := of_decide_eq_false (show decide (m = 0 ∧ 2 ≤ len) = false from h)
    by_cases hm : m = 0
    · subst hm; exact bad4l len (by omega)
    · exact bad4m m len hm
  by_cases h5 : o = 5
  · subst h5
    have h' := of_decide_eq_false (show decide (m = 0 ∧ 2 ≤ len) = false from h)
    by_cases hm : m = 0
    · subst hm; exact bad5l len (by omega)
    · exact bad5m m len hm
  by_cases h6 : o = 6
  · subst h6
    have h' := of_decide_eq_false (show decide (m = 0 ∧ len = 1) = false from h)
    by_cases hm : m = 0
    · subst hm; exact bad6l len (by omega)
    · exact bad6m m len hm
  exact bad_op o m len h1 h2 h3 h4 h5 h6

set_option maxRecDepth 100000 in
set_option maxHeartbeats 1000000 in
theorem look_deep (o m : Int) (ad : Option Addr) (len cap : Nat) (deep s : Int) (w : World) (h : 128 < deep) :
    Calls Tryz.prog 31 #[.agg #[.int .i64 o, .int .i64 m, .slice ad len cap], .int .i64 deep, .int .i64 s] w fun e w' => e = .returned (.int .i64 (-1)) ∧ Below w.heap.size w w' := by
  go_enter Tryz.func31, Tryz.ntmps31
  go_wp2
  go_ret
  exact ⟨rfl, below1 w _⟩
set_option maxRecDepth 100000 in
set_option maxHeartbeats 1000000 in
theorem look_many (o m : Int) (ad : Option Addr) (len cap : Nat) (deep s : Int) (w : World) (h : ¬ 128 < deep) (hs : 16384 < s) :
    Calls Tryz.prog 31 #[.agg #[.int .i64 o, .int .i64 m, .slice ad len cap], .int .i64 deep, .int .i64 s] w fun e w' => e = .returned (.int .i64 (-1)) ∧ Below w.heap.size w w' := by
  go_enter Tryz.func31, Tryz.ntmps31
  go_wp2
  go_ret
  exact ⟨rfl, below1 w _⟩

theorem look_any : ∀ (f n : Nat), LookN f n := by
  intro f
  induction f with
  | zero =>
    intro n t v0 v1 v2 deep s w hr hd hd1 hs1 hs2
    obtain ⟨o, m, ad, len, cap, rfl, rfl, rfl⟩ := repW_shape hr
    exact look_deep o m ad len cap deep s w (by omega)
  | succ f ih =>
    intro n t v0 v1 v2 deep s w hr hd hd1 hs1 hs2
    match n, t, hr with
    | n + 1, t, hr =>
      obtain ⟨ad, cap, e, hcap, hmax, hk⟩ := hr
      simp only [List.cons.injEq, and_true] at e
      obtain ⟨rfl, rfl, rfl⟩ := e
      simp only [lk]
      by_cases hb : 16384 < s ∨ t.ok = false
      · rw [if_pos hb]
        by_cases hs : 16384 < s
        · exact look_many _ _ ad _ cap deep s w (by omega) hs
        · have ho : t.ok = false := by rcases hb with h | h; exact absurd h hs; exact h
          exact bad_any _ _ _ ho ad cap deep s w (by omega) hs
      · rw [if_neg hb]
        have ho : okW t.op t.nm t.ks.length = true := by
          cases h : t.ok
          · exact absurd (.inr h) hb
          · exact h
        have hs : s ≤ 16384 := by omega
        have hop := okW_op ho
        generalize t.nm = m at ho ⊢
        generalize t.op = o at ho hop ⊢
        rcases hop with rfl | rfl | rfl | rfl | rfl | rfl
        · exact lookOk1 f n (ih n) t.ks m ad cap deep s w hcap hmax hk ho (by omega) hd1 hs1 hs
        · exact lookOk2 f n (ih n) t.ks m ad cap deep s w hcap hmax hk ho (by omega) hd1 hs1 hs
        · exact lookOk3 f n (ih n) t.ks m ad cap deep s w hcap hmax hk ho (by omega) hd1 hs1 hs
        · exact lookOk4 f n (ih n) t.ks m ad cap deep s w hcap hmax hk ho (by omega) hd1 hs1 hs
        · exact lookOk5 f n (ih n) t.ks m ad cap deep s w hcap hmax hk ho (by omega) hd1 hs1 hs
        · exact lookOk6 f n (ih n) t.ks m ad cap deep s w hcap hmax hk ho (by omega) hd1 hs1 hs

/-- A pattern that is fit. -/
def fitW (n : Nat) (t : Wt n) : Bool := decide (0 ≤ lk 128 n t 1)
theorem fitW_right (n : Nat) (t : Wt n) (h : fitW n t = true) : wgt n t = true := ((sayW 128 n t 1 (by decide) (by decide)).fit (of_decide_eq_true h)).2.2.2

set_option maxRecDepth 100000 in
set_option maxHeartbeats 1000000 in
theorem fit_any (n : Nat) (t : Wt n) (v0 v1 v2 : Value) (w : World) (h : RepW w n [v0, v1, v2] t) :
    Calls Tryz.prog 14 #[.agg #[v0, v1, v2]] w fun e w' => e = .returned (.bool (fitW n t)) ∧ Below w.heap.size w w' := by
  obtain ⟨u0, u1, a4, n4, c4, rfl, rfl, rfl⟩ := repW_shape h
  have b0 := below1 w (.cells #[.int .i64 u0, .int .i64 u1, .slice a4 n4 c4] 40)
  have HC := Lib.hid (since (look_any 128 n t _ _ _ 1 1 _ (RepW.below b0 n _ _ h) (by decide) (by decide) (by decide) (by decide)) b0)
  have hbd := lk_bd 128 n t 1 (by decide) (by decide)
  unfold fitW
  clear h
  generalize lk 128 n t 1 = z at HC hbd
  by_cases hz : 0 ≤ z
  · rw [decide_eq_true hz]
    have hz2 : z ≤ 16384 := hbd.2
    clear hbd
    go_enter Tryz.func14, Tryz.ntmps14
    go_wp2_with fail
    refine HC.out.mono ?_
    rintro e w1 ⟨rfl, b1⟩
    go_wp2
    go_ret
    exact ⟨rfl, b1⟩
  · rw [decide_eq_false hz]
    clear hbd
    go_enter Tryz.func14, Tryz.ntmps14
    go_wp2_with fail
    refine HC.out.mono ?_
    rintro e w1 ⟨rfl, b1⟩
    go_wp2
    go_ret
    exact ⟨rfl, b1⟩
end Go.Proofs.YtajagjcfmaggiaaGreatDoor
/- The package's Holds, Covers and Meets at right patterns; the conditions: the patterns' trees lie in memory and are right, the value's kind is one. -/
namespace Go.Proofs.YtajagjcfmaggiaaGreatDoor
open Go.RowKit

theorem OneD.drew {w : World} {v0 v1 v2 : Value} {k i b : Int} {s : ByteArray} {ad : Option Addr} {len cap : Nat} {w' : World} (h : OneD w v0 v1 v2 k i b s ad len cap w') : OneD w v0 v1 v2 k i b s ad len cap w'.drew := Below.drew h
theorem OneD.below {w : World} {v0 v1 v2 : Value} {k i b : Int} {s : ByteArray} {ad : Option Addr} {len cap : Nat} {w' : World} (h : OneD w v0 v1 v2 k i b s ad len cap w') : Below w.heap.size w w' := (below2 w _ _).trans (Below.mono h (by omega))
theorem OneD.step {w : World} {v0 v1 v2 : Value} {k i b : Int} {s : ByteArray} {ad : Option Addr} {len cap : Nat} {w1 w2 : World} (h : OneD w v0 v1 v2 k i b s ad len cap w1) (hb : Below w1.heap.size w1 w2) : OneD w v0 v1 v2 k i b s ad len cap w2 := by
  have := Below.size h
  simp at this
  exact Below.trans h (hb.mono (by omega))
theorem OneD.start (w : World) (v0 v1 v2 : Value) (k i b : Int) (s : ByteArray) (ad : Option Addr) (len cap : Nat) : OneD w v0 v1 v2 k i b s ad len cap ((w.alloc (.cells #[v0, v1, v2] 40)).alloc (.cells #[.int .i64 k, .int .i64 i, .int .u64 b, .string s, .slice ad len cap] 25)) := Below.refl _ _
theorem OneD.c {w : World} {v0 v1 v2 : Value} {k i b : Int} {s : ByteArray} {ad : Option Addr} {len cap : Nat} {w' : World} (h : OneD w v0 v1 v2 k i b s ad len cap w') :
    w'.cell? ⟨w.heap.size, 0, none⟩ = some v0 ∧ w'.cell? ⟨w.heap.size, 1, none⟩ = some v1 ∧ w'.cell? ⟨w.heap.size, 2, none⟩ = some v2 ∧ w'.cell? ⟨w.heap.size + 1, 0, none⟩ = some (.int .i64 k) := by
  have e0 := heap_alloc_new w (.cells #[v0, v1, v2] 40)
  have e1 := heap_alloc_new (w.alloc (.cells #[v0, v1, v2] 40)) (.cells #[.int .i64 k, .int .i64 i, .int .u64 b, .string s, .slice ad len cap] 25)
  simp only [World.size_alloc] at e1
  have h0 : w'.heap[w.heap.size]? = some (.cells #[v0, v1, v2] 40 (0, 0)) := (Below.block h w.heap.size (by omega)).trans (((below1 _ _).block _ (by simp)).trans e0)
  have h1 : w'.heap[w.heap.size + 1]? = some (.cells #[.int .i64 k, .int .i64 i, .int .u64 b, .string s, .slice ad len cap] 25 (0, 0)) := (Below.block h (w.heap.size + 1) (by omega)).trans e1
  simp [World.cell?, h0, h1]

set_option maxRecDepth 100000 in
set_option maxHeartbeats 2000000 in
theorem holdsP (n : Nat) (t : Wt n) (v0 v1 v2 : Value) (k i b : Int) (s : ByteArray) (ad : Option Addr) (len cap : Nat) (w : World) (hr : RepW w n [v0, v1, v2] t) (hg : wgt n t = true) (k0 : 0 ≤ k) (k1 : k ≤ 13) :
    Calls Tryz.prog 32 #[.agg #[v0, v1, v2], .agg #[.int .i64 k, .int .i64 i, .int .u64 b, .string s, .slice ad len cap]] w fun e w' => e = .returned (.bool (evk n t k)) ∧ Below w.heap.size w w' := by
  obtain ⟨o, m, wd, wl, wc, rfl, rfl, rfl⟩ := repW_shape hr
  have HK : Hid (∀ (wx : World), OneD w (.int .i64 o) (.int .i64 m) (.slice wd wl wc) k i b s ad len cap wx → Calls Tryz.prog 46 #[.int .i64 k] wx fun e w' => ∃ u, e = .returned u ∧ Kd k u ∧ OneD w (.int .i64 o) (.int .i64 m) (.slice wd wl wc) k i b s ad len cap w') := fun wx hx => (ofKind_any k wx).mono fun e w' ⟨u, a, b, c⟩ => ⟨u, a, b, hx.step c⟩
  have HH : Hid (∀ (u : Value) (wx : World), Kd k u → OneD w (.int .i64 o) (.int .i64 m) (.slice wd wl wc) k i b s ad len cap wx → Calls Tryz.prog 45 #[.agg #[.int .i64 o, .int .i64 m, .slice wd wl wc], u] wx fun e w' => e = .returned (.bool (evk n t k)) ∧ OneD w (.int .i64 o) (.int .i64 m) (.slice wd wl wc) k i b s ad len cap w') := fun u wx hu hx => (holds_any n t _ _ _ u k wx (RepW.below hx.below n _ _ hr) hg hu k0 k1).mono fun e w' ⟨a, b⟩ => ⟨a, hx.step b⟩
  have HS : Hid (∀ wx, OneD w (.int .i64 o) (.int .i64 m) (.slice wd wl wc) k i b s ad len cap wx → wx.cell? ⟨w.heap.size, 0, none⟩ = some (.int .i64 o) ∧ wx.cell? ⟨w.heap.size, 1, none⟩ = some (.int .i64 m) ∧ wx.cell? ⟨w.heap.size, 2, none⟩ = some (.slice wd wl wc) ∧ wx.cell? ⟨w.heap.size + 1, 0, none⟩ = some (.int .i64 k)) := fun wx h => h.c
  have hb0 := OneD.start w (.int .i64 o) (.int .i64 m) (.slice wd wl wc) k i b s ad len cap
  clear hr hg k0 k1
  generalize evk n t k = p at HH
  go_enter Tryz.func32, Tryz.ntmps32
  go_wp2_with fail
  go_region_held3 (fun w' => w'.cell? ⟨w.heap.size, 0, none⟩ = some (.int .i64 o) ∧ w'.cell? ⟨w.heap.size, 1, none⟩ = some (.int .i64 m) ∧ w'.cell? ⟨w.heap.size, 2, none⟩ = some (.slice wd wl wc) ∧ w'.cell? ⟨w.heap.size + 1, 0, none⟩ = some (.int .i64 k)) (exact HS.out _ (by first | assumption | exact OneD.drew (by assumption))) (first | (go_at_call 46; refine (HK.out _ (by first | assumption | exact OneD.drew (by assumption))).mono ?_; rintro e wa ⟨ua, rfl, hu, ba⟩) | (go_at_call 45; refine (HH.out _ _ (by assumption) (by first | assumption | exact OneD.drew (by assumption))).mono ?_; rintro e wc ⟨rfl, bc⟩))
  all_goals go_wp2
  all_goals go_ret
  all_goals exact ⟨rfl, OneD.below (by first | assumption | exact OneD.drew (by assumption))⟩

end Go.Proofs.YtajagjcfmaggiaaGreatDoor
/- The document's Kinds of a right pattern: the kinds of which it holds, as bits; the conditions: the pattern's tree lies in memory and is right. -/
namespace Go.Proofs.YtajagjcfmaggiaaGreatDoor
open Go.RowKit

theorem km_lt (n : Nat) (t : Wt n) (h : wgt n t = true) : km n t < 16384 := by rw [km_kset n t h]; exact kset_lt _ 14

set_option maxRecDepth 100000 in
theorem typed_any (k : Int) (h0 : 0 ≤ k) (h1 : k ≤ 13) (w : World) : Calls Tryz.prog 47 #[.int .i64 k] w fun e w' => e = .returned (.int .u32 (((if k = 11 then 6144 else 2 ^ k.toNat : Nat)) : Int)) ∧ w' = w := by
  have : k = 0 ∨ k = 1 ∨ k = 2 ∨ k = 3 ∨ k = 4 ∨ k = 5 ∨ k = 6 ∨ k = 7 ∨ k = 8 ∨ k = 9 ∨ k = 10 ∨ k = 11 ∨ k = 12 ∨ k = 13 := by omega
  rcases this with rfl | rfl | rfl | rfl | rfl | rfl | rfl | rfl | rfl | rfl | rfl | rfl | rfl | rfl
  all_goals
    go_enter Tryz.func47, Tryz.ntmps47
    go_wp2
    go_ret
    exact ⟨rfl, rfl⟩

/-- What the document's Kinds is to answer of patterns of depth n. -/
def RkN (n : Nat) : Prop := ∀ (t : Wt n) (v0 v1 v2 : Value) (w : World), RepW w n [v0, v1, v2] t → wgt n t = true →
    Calls Tryz.prog 33 #[.agg #[v0, v1, v2]] w fun e w' => e = .returned (.int .u32 ((km n t : Nat) : Int)) ∧ Below w.heap.size w w'

set_option maxRecDepth 100000 in
set_option maxHeartbeats 1000000 in
theorem rk1 (m : Int) (ad : Option Addr) (len cap : Nat) (w : World) : Calls Tryz.prog 33 #[.agg #[.int .i64 1, .int .i64 m, .slice ad len cap]] w fun e w' => e = .returned (.int .u32 16382) ∧ Below w.heap.size w w' := by
  go_enter Tryz.func33, Tryz.ntmps33
  go_wp2
  go_ret
  exact ⟨rfl, below1 w _⟩

set_option maxRecDepth 100000 in
set_option maxHeartbeats 1000000 in
theorem rk2 (m : Int) (h0 : 0 ≤ m) (h1 : m ≤ 13) (ad : Option Addr) (len cap : Nat) (w : World) : Calls Tryz.prog 33 #[.agg #[.int .i64 2, .int .i64 m, .slice ad len cap]] w fun e w' => e = .returned (.int .u32 (((if m = 11 then 6144 else 2 ^ m.toNat : Nat)) : Int)) ∧ Below w.heap.size w w' := by
  have H := Lib.hid (typed_any m h0 h1)
  generalize (if m = 11 then 6144 else 2 ^ m.toNat : Nat) = X at H
  go_enter Tryz.func33, Tryz.ntmps33
  go_wp2_with fail
  refine (H.out _).mono ?_
  rintro e w1 ⟨rfl, rfl⟩
  go_wp2
  go_ret
  exact ⟨rfl, below1 w _⟩

set_option maxRecDepth 100000 in
set_option maxHeartbeats 2000000 in
theorem rk3 (m : Int) (ad : Option Addr) (len cap : Nat) (w : World) : Calls Tryz.prog 33 #[.agg #[.int .i64 3, .int .i64 m, .slice ad len cap]] w fun e w' => e = .returned (.int .u32 ((kset (fun k => impl k m) 14 : Nat) : Int)) ∧ Below w.heap.size w w' := by
  have HI : Hid (∀ (j : Nat) wx, One w (.int .i64 3) (.int .i64 m) (.slice ad len cap) wx → Calls Tryz.prog 48 #[.int .i64 j, .int .i64 m] wx fun e w' => e = .returned (.bool (impl j m)) ∧ One w (.int .i64 3) (.int .i64 m) (.slice ad len cap) w') := fun j wx hx => (refImpl_any j m wx).mono fun e w' ⟨a, b⟩ => ⟨a, hx.step b⟩
  have HS : Hid (∀ wx, One w (.int .i64 3) (.int .i64 m) (.slice ad len cap) wx → wx.cell? ⟨w.heap.size, 1, none⟩ = some (.int .i64 m)) := fun wx h => h.c.2.1
  have hb0 := One.start w (.int .i64 3) (.int .i64 m) (.slice ad len cap)
  generalize hp : (fun k => impl k m) = p
  have HP : Hid (∀ j : Nat, impl j m = p j) := fun j => by rw [← hp]
  clear hp
  go_enter Tryz.func33, Tryz.ntmps33
  go_wp2_with fail
  go_loopw [3, 4] (fun sk si wr => ∃ (j : Nat), sk = .int .u32 ((kset p j : Nat) : Int) ∧ si = .int .i64 j ∧ j ≤ 14 ∧ One w (.int .i64 3) (.int .i64 m) (.slice ad len cap) wr) (fun _ si _ => 14 - (intOf si).toNat)
  case atStart => exact ⟨0, rfl, rfl, by omega, hb0⟩
  case round =>
    obtain ⟨j, rfl, rfl, hj, hb⟩ := hrel
    by_cases hlt : j < 14
    · have i0 : (0 : Int) ≤ ↑j := by omega
      have i1 : (↑j : Int) ≤ 32 := by omega
      have i2 : (↑j : Int) < 14 := by omega
      have c1 := HS.out _ hb
      go_wp2_with fail
      refine (HI.out j _ hb).mono ?_
      rintro e w1 ⟨he, b1⟩
      obtain ⟨bb, hbb⟩ : ∃ bb : Bool, p j = bb := ⟨_, rfl⟩
      rw [HP.out, hbb] at he
      subst he
      cases bb
      all_goals go_wp2_with fail
      all_goals first
        | exact ⟨⟨j + 1, congrArg (Value.int .u32) (or_at p j hlt hbb), by go_num, by omega, b1⟩, by simp [intOf]; omega⟩
        | exact ⟨⟨j + 1, congrArg (fun x : Nat => Value.int .u32 (x : Int)) (kset_no p j hbb), by go_num, by omega, b1⟩, by simp [intOf]; omega⟩
    · obtain rfl : j = 14 := by omega
      have i2 : ¬ (((14 : Nat) : Int) < 14) := by omega
      go_wp2_with fail
      go_ret
      exact ⟨rfl, hb.below⟩

theorem fold_or_lt {T : Type} (f : T → Nat) : ∀ (l : List T) (a : Nat), a < 16384 → (∀ x ∈ l, f x < 16384) → l.foldl (fun s x => s ||| f x) a < 16384
  | [], _, h, _ => h
  | x :: l, a, h, hl => fold_or_lt f l (a ||| f x) (Nat.or_lt_two_pow (n := 14) h (hl x (by simp))) fun y hy => hl y (by simp [hy])
theorem fold_and_lt {T : Type} (f : T → Nat) : ∀ (l : List T) (a : Nat), a < 16384 → l.foldl (fun s x => s &&& f x) a < 16384
  | [], _, h => h
  | x :: l, a, h => fold_and_lt f l (a &&& f x) (Nat.lt_of_le_of_lt Nat.and_le_left h)
theorem take_fold {T A : Type} (g : A → T → A) (a : A) (l : List T) (j : Nat) (h : j < l.length) : (l.take (j + 1)).foldl g a = g ((l.take j).foldl g a) l[j] := by
  rw [List.take_succ_eq_append_getElem h, List.foldl_append]; rfl

set_option maxRecDepth 100000 in
set_option maxHeartbeats 2000000 in
theorem rk4 (n : Nat) (hn : RkN n) (ts : List (Wt n)) (m : Int) (ad : Option Addr) (cap : Nat) (w : World) (hcap : ts.length ≤ cap) (hmax : cap ≤ maxLen)
    (hr : ts = [] ∨ ∃ g o, ad = some ⟨g, o, none⟩ ∧ ∀ (j : Nat) (t' : Wt n), ts[j]? = some t' → ∃ v0 v1 v2, w.cell? ⟨g, o + j * 3, none⟩ = some v0 ∧ w.cell? ⟨g, o + j * 3 + 1, none⟩ = some v1 ∧ w.cell? ⟨g, o + j * 3 + 2, none⟩ = some v2 ∧ RepW w n [v0, v1, v2] t')
    (hg : ∀ t ∈ ts, wgt n t = true) :
    Calls Tryz.prog 33 #[.agg #[.int .i64 4, .int .i64 m, .slice ad ts.length cap]] w fun e w' => e = .returned (.int .u32 ((ts.foldl (fun s x => s ||| km n x) 0 : Nat) : Int)) ∧ Below w.heap.size w w' := by
  unfold maxLen at hmax
  have HC : Hid (∀ (t : Wt n) (v0 v1 v2 : Value) (wx : World), t ∈ ts → RepW w n [v0, v1, v2] t → One w (.int .i64 4) (.int .i64 m) (.slice ad ts.length cap) wx → Calls Tryz.prog 33 #[.agg #[v0, v1, v2]] wx fun e w' => e = .returned (.int .u32 ((km n t : Nat) : Int)) ∧ One w (.int .i64 4) (.int .i64 m) (.slice ad ts.length cap) w') := fun t v0 v1 v2 wx ht hx hb => (hn t v0 v1 v2 wx (RepW.below hb.below n _ _ hx) (hg t ht)).mono fun e w' ⟨a, b⟩ => ⟨a, hb.step b⟩
  have HS : Hid (∀ wx, One w (.int .i64 4) (.int .i64 m) (.slice ad ts.length cap) wx → wx.cell? ⟨w.heap.size, 2, none⟩ = some (.slice ad ts.length cap)) := fun wx h => h.c.2.2
  have HL : Hid (∀ t ∈ ts, km n t < 16384) := fun t ht => km_lt n t (hg t ht)
  have hb0 := One.start w (.int .i64 4) (.int .i64 m) (.slice ad ts.length cap)
  have HK := Lib.hid hr
  clear hn hg hr
  generalize km n = f at HC HL
  go_enter Tryz.func33, Tryz.ntmps33
  go_wp2_with fail
  go_loopw [5, 6] (fun sk si wr => ∃ (j : Nat), sk = .int .u32 (((ts.take j).foldl (fun s x => s ||| f x) 0 : Nat) : Int) ∧ si = .int .i64 j ∧ j ≤ ts.length ∧ One w (.int .i64 4) (.int .i64 m) (.slice ad ts.length cap) wr) (fun _ si _ => ts.length - (intOf si).toNat)
  case atStart => exact ⟨0, rfl, rfl, Nat.zero_le _, hb0⟩
  case round =>
    obtain ⟨j, rfl, rfl, hj, hb⟩ := hrel
    have k2 := HS.out _ hb
    by_cases hlt : j < ts.length
    · have hne : ts ≠ [] := by intro e; rw [e] at hlt; exact absurd hlt (Nat.not_lt_zero _)
      rcases HK.out with hk | ⟨g, o, hk1, hk2⟩
      · exact absurd hk hne
      subst hk1
      obtain ⟨v0, v1, v2, e0, e1, e2, rk⟩ := hk2 j _ (List.getElem?_eq_getElem hlt)
      have hgl : g < w.heap.size := World.block_lt_of_cell? w _ e0
      have x0 := (hb.below.cell (p := ⟨g, o + j * 3, none⟩) hgl).trans e0
      have x1 := (hb.below.cell (p := ⟨g, o + j * 3 + 1, none⟩) hgl).trans e1
      have x2 := (hb.below.cell (p := ⟨g, o + j * 3 + 2, none⟩) hgl).trans e2
      have hA := fold_or_lt f (ts.take j) 0 (by decide) fun x hx => HL.out x (List.mem_of_mem_take hx)
      have hB := HL.out ts[j] (List.getElem_mem hlt)
      have hbits := u32_or_nat _ _ (Nat.lt_trans hA (by decide)) (Nat.lt_trans hB (by decide))
      have HT := Lib.hid (take_fold (fun s x => s ||| f x) 0 ts j hlt)
      have HC' := Lib.hid (HC.out ts[j] v0 v1 v2 wr (List.getElem_mem hlt) rk hb)
      clear e0 e1 e2 hk2 HK HC HL hA hB rk
      generalize hSS : (ts.take j).foldl (fun s x => s ||| f x) 0 = SS at hbits HT
      generalize f ts[j] = XX at hbits HT HC'
      rw [hSS] at *
      go_wp2_with fail
      refine HC'.out.mono ?_
      rintro e w1 ⟨rfl, b1⟩
      go_wp2_with fail
      exact ⟨⟨j + 1, congrArg (fun x : Nat => Value.int .u32 (x : Int)) HT.out.symm, by go_num, by omega, b1⟩, by simp [intOf]; omega⟩
    · have hje : j = ts.length := by omega
      have ht : ts.take j = ts := by rw [hje, List.take_length]
      have HT := Lib.hid ht
      clear ht
      go_wp2_with fail
      go_ret
      exact ⟨by rw [← HT.out]; simp [hje], hb.below⟩
set_option maxRecDepth 100000 in
set_option maxHeartbeats 2000000 in
theorem rk5 (n : Nat) (hn : RkN n) (ts : List (Wt n)) (m : Int) (ad : Option Addr) (cap : Nat) (w : World) (hcap : ts.length ≤ cap) (hmax : cap ≤ maxLen)
    (hr : ts = [] ∨ ∃ g o, ad = some ⟨g, o, none⟩ ∧ ∀ (j : Nat) (t' : Wt n), ts[j]? = some t' → ∃ v0 v1 v2, w.cell? ⟨g, o + j * 3, none⟩ = some v0 ∧ w.cell? ⟨g, o + j * 3 + 1, none⟩ = some v1 ∧ w.cell? ⟨g, o + j * 3 + 2, none⟩ = some v2 ∧ RepW w n [v0, v1, v2] t')
    (hg : ∀ t ∈ ts, wgt n t = true) :
    Calls Tryz.prog 33 #[.agg #[.int .i64 5, .int .i64 m, .slice ad ts.length cap]] w fun e w' => e = .returned (.int .u32 ((ts.foldl (fun s x => s &&& km n x) 16383 : Nat) : Int)) ∧ Below w.heap.size w w' := by
  unfold maxLen at hmax
  have HC : Hid (∀ (t : Wt n) (v0 v1 v2 : Value) (wx : World), t ∈ ts → RepW w n [v0, v1, v2] t → One w (.int .i64 5) (.int .i64 m) (.slice ad ts.length cap) wx → Calls Tryz.prog 33 #[.agg #[v0, v1, v2]] wx fun e w' => e = .returned (.int .u32 ((km n t : Nat) : Int)) ∧ One w (.int .i64 5) (.int .i64 m) (.slice ad ts.length cap) w') := fun t v0 v1 v2 wx ht hx hb => (hn t v0 v1 v2 wx (RepW.below hb.below n _ _ hx) (hg t ht)).mono fun e w' ⟨a, b⟩ => ⟨a, hb.step b⟩
  have HS : Hid (∀ wx, One w (.int .i64 5) (.int .i64 m) (.slice ad ts.length cap) wx → wx.cell? ⟨w.heap.size, 2, none⟩ = some (.slice ad ts.length cap)) := fun wx h => h.c.2.2
  have HL : Hid (∀ t ∈ ts, km n t < 16384) := fun t ht => km_lt n t (hg t ht)
  have hb0 := One.start w (.int .i64 5) (.int .i64 m) (.slice ad ts.length cap)
  have HK := Lib.hid hr
  clear hn hg hr
  generalize km n = f at HC HL
  go_enter Tryz.func33, Tryz.ntmps33
  go_wp2_with fail
  go_loopw [7, 8] (fun sk si wr => ∃ (j : Nat), sk = .int .u32 (((ts.take j).foldl (fun s x => s &&& f x) 16383 : Nat) : Int) ∧ si = .int .i64 j ∧ j ≤ ts.length ∧ One w (.int .i64 5) (.int .i64 m) (.slice ad ts.length cap) wr) (fun _ si _ => ts.length - (intOf si).toNat)
  case atStart => exact ⟨0, rfl, rfl, Nat.zero_le _, hb0⟩
  case round =>
    obtain ⟨j, rfl, rfl, hj, hb⟩ := hrel
    have k2 := HS.out _ hb
    by_cases hlt : j < ts.length
    · have hne : ts ≠ [] := by intro e; rw [e] at hlt; exact absurd hlt (Nat.not_lt_zero _)
      rcases HK.out with hk | ⟨g, o, hk1, hk2⟩
      · exact absurd hk hne
      subst hk1
      obtain ⟨v0, v1, v2, e0, e1, e2, rk⟩ := hk2 j _ (List.getElem?_eq_getElem hlt)
      have hgl : g < w.heap.size := World.block_lt_of_cell? w _ e0
      have x0 := (hb.below.cell (p := ⟨g, o + j * 3, none⟩) hgl).trans e0
      have x1 := (hb.below.cell (p := ⟨g, o + j * 3 + 1, none⟩) hgl).trans e1
      have x2 := (hb.below.cell (p := ⟨g, o + j * 3 + 2, none⟩) hgl).trans e2
      have hA := fold_and_lt f (ts.take j) 16383 (by decide)
      have hB := HL.out ts[j] (List.getElem_mem hlt)
      have hbits := u32_and_nat _ _ (Nat.lt_trans hA (by decide)) (Nat.lt_trans hB (by decide))
      have HT := Lib.hid (take_fold (fun s x => s &&& f x) 16383 ts j hlt)
      have HC' := Lib.hid (HC.out ts[j] v0 v1 v2 wr (List.getElem_mem hlt) rk hb)
      clear e0 e1 e2 hk2 HK HC HL hA hB rk
      generalize hSS : (ts.take j).foldl (fun s x => s &&& f x) 16383 = SS at hbits HT
      generalize f ts[j] = XX at hbits HT HC'
      rw [hSS] at *
      go_wp2_with fail
      refine HC'.out.mono ?_
      rintro e w1 ⟨rfl, b1⟩
      go_wp2_with fail
      exact ⟨⟨j + 1, congrArg (fun x : Nat => Value.int .u32 (x : Int)) HT.out.symm, by go_num, by omega, b1⟩, by simp [intOf]; omega⟩
    · have hje : j = ts.length := by omega
      have ht : ts.take j = ts := by rw [hje, List.take_length]
      have HT := Lib.hid ht
      clear ht
      go_wp2_with fail
      go_ret
      exact ⟨by rw [← HT.out]; simp [hje], hb.below⟩
set_option maxRecDepth 100000 in
set_option maxHeartbeats 2000000 in
theorem rk6 (n : Nat) (hn : RkN n) (x : Wt n) (m : Int) (ad : Option Addr) (cap : Nat) (w : World)
    (hr : [x] = [] ∨ ∃ g o, ad = some ⟨g, o, none⟩ ∧ ∀ (j : Nat) (t' : Wt n), [x][j]? = some t' → ∃ v0 v1 v2, w.cell? ⟨g, o + j * 3, none⟩ = some v0 ∧ w.cell? ⟨g, o + j * 3 + 1, none⟩ = some v1 ∧ w.cell? ⟨g, o + j * 3 + 2, none⟩ = some v2 ∧ RepW w n [v0, v1, v2] t')
    (hg : wgt n x = true) :
    Calls Tryz.prog 33 #[.agg #[.int .i64 6, .int .i64 m, .slice ad 1 cap]] w fun e w' => e = .returned (.int .u32 ((16383 &&& (4294967295 - km n x) : Nat) : Int)) ∧ Below w.heap.size w w' := by
  rcases hr with hr | ⟨g, o, rfl, hr⟩
  · cases hr
  obtain ⟨v0, v1, v2, e0, e1, e2, rk⟩ := hr 0 x rfl
  have hgl : g < w.heap.size := World.block_lt_of_cell? w _ e0
  have hb0 := One.start w (.int .i64 6) (.int .i64 m) (.slice (some ⟨g, o, none⟩) 1 cap)
  have k2 := hb0.c.2.2
  have x0 := (hb0.below.cell (p := ⟨g, o, none⟩) hgl).trans (by simpa using e0)
  have x1 := (hb0.below.cell (p := ⟨g, o + 1, none⟩) hgl).trans (by simpa using e1)
  have x2 := (hb0.below.cell (p := ⟨g, o + 2, none⟩) hgl).trans (by simpa using e2)
  have HC := Lib.hid (hn x v0 v1 v2 _ (RepW.below hb0.below n _ _ rk) hg)
  have hbits := u32_andNot_nat 16383 (km n x) (by decide) (Nat.lt_trans (km_lt n x hg) (by decide))
  have hbits' : bits .andNot .u32 16383 ((km n x : Nat) : Int) = ((16383 &&& (4294967295 - km n x) : Nat) : Int) := hbits
  clear hn hg hr rk e0 e1 e2 hbits
  generalize 16383 &&& (4294967295 - km n x) = YY at hbits'
  generalize km n x = XX at HC hbits'
  go_enter Tryz.func33, Tryz.ntmps33
  go_wp2_with fail
  refine HC.out.mono ?_
  rintro e w1 ⟨rfl, b1⟩
  go_wp2_with fail
  go_ret
  exact ⟨rfl, hb0.below.trans (b1.mono hb0.below.size)⟩

theorem rk_any : ∀ n, RkN n := by
  intro n
  induction n with
  | zero => exact fun t => t.elim
  | succ n hn =>
    intro t v0 v1 v2 w hr hg
    simp only [wgt, Bool.and_eq_true, List.all_eq_true] at hg
    obtain ⟨ho, hk⟩ := hg
    obtain ⟨ad, cap, e, hcap, hmax, hkids⟩ := hr
    simp only [List.cons.injEq, and_true] at e
    obtain ⟨rfl, rfl, rfl⟩ := e
    unfold Wt.ok at ho
    have hop := okW_op ho
    simp only [km]
    generalize t.nm = m at ho ⊢
    generalize t.op = o at ho hop ⊢
    generalize t.ks = ts at ho hk hcap hkids ⊢
    rcases hop with rfl | rfl | rfl | rfl | rfl | rfl
    · simp only [if_true]
      exact rk1 m ad ts.length cap w
    · have ho' := of_decide_eq_true (show decide (0 ≤ m ∧ m < 14 ∧ ts.length = 0) = true from ho)
      simp only [if_true, if_false, show ¬ (2 : Int) = 1 by decide]
      exact rk2 m ho'.1 (by omega) ad ts.length cap w
    · simp only [if_true, if_false, show ¬ (3 : Int) = 1 by decide, show ¬ (3 : Int) = 2 by decide]
      exact rk3 m ad ts.length cap w
    · simp only [if_true, if_false, show ¬ (4 : Int) = 1 by decide, show ¬ (4 : Int) = 2 by decide, show ¬ (4 : Int) = 3 by decide]
      exact rk4 n hn ts m ad cap w hcap hmax hkids hk
    · simp only [if_true, if_false, show ¬ (5 : Int) = 1 by decide, show ¬ (5 : Int) = 2 by decide, show ¬ (5 : Int) = 3 by decide, show ¬ (5 : Int) = 4 by decide]
      exact rk5 n hn ts m ad cap w hcap hmax hkids hk
    · have ho' : ts.length = 1 := (of_decide_eq_true (show decide (m = 0 ∧ ts.length = 1) = true from ho)).2
      simp only [if_false, show ¬ (6 : Int) = 1 by decide, show ¬ (6 : Int) = 2 by decide, show ¬ (6 : Int) = 3 by decide, show ¬ (6 : Int) = 4 by decide, show ¬ (6 : Int) = 5 by decide]
      match ts, ho' with
      | [x], _ => exact rk6 n hn x m ad cap w hkids (hk x (by simp))

theorem refKinds_any (n : Nat) (t : Wt n) (v0 v1 v2 : Value) (w : World) (hr : RepW w n [v0, v1, v2] t) (hg : wgt n t = true) :
    Calls Tryz.prog 33 #[.agg #[v0, v1, v2]] w fun e w' => e = .returned (.int .u32 ((kset (evk n t) 14 : Nat) : Int)) ∧ Below w.heap.size w w' := by
  rw [← km_kset n t hg]
  exact rk_any n t v0 v1 v2 w hr hg
end Go.Proofs.YtajagjcfmaggiaaGreatDoor
/- The document's Match at a right pattern: whether it holds of the value's kind; the conditions: the pattern's tree lies in memory and is right, the value's kind is one. -/
namespace Go.Proofs.YtajagjcfmaggiaaGreatDoor
open Go.RowKit

/-- A kind's bit. -/
theorem shr_bit (p : Int → Bool) (j : Nat) (hj : j < 14) : bits .and .u32 (((kset p 14 : Nat) : Int) / 2 ^ j) 1 = if p j = true then 1 else 0 := by
  have e : (((kset p 14 : Nat) : Int) / 2 ^ j) = ((kset p 14 / 2 ^ j : Nat) : Int) := by norm_cast
  have hl := kset_lt p 14
  have hl2 : kset p 14 / 2 ^ j ≤ kset p 14 := Nat.div_le_self _ _
  rw [e, show (1 : Int) = ((1 : Nat) : Int) from rfl, u32_and_nat _ _ (by omega) (by decide), Nat.and_one_is_mod, kset_shr p j hj]
  split <;> rfl

set_option maxRecDepth 100000 in
set_option maxHeartbeats 2000000 in
theorem matchR (n : Nat) (t : Wt n) (v0 v1 v2 : Value) (j : Nat) (i b : Int) (s : ByteArray) (ad : Option Addr) (len cap : Nat) (w : World) (hr : RepW w n [v0, v1, v2] t) (hg : wgt n t = true) (hj : j < 14) :
    Calls Tryz.prog 16 #[.agg #[v0, v1, v2], .agg #[.int .i64 j, .int .i64 i, .int .u64 b, .string s, .slice ad len cap]] w fun e w' => e = .returned (.bool (evk n t j)) ∧ Below w.heap.size w w' := by
  obtain ⟨o, m, wd, wl, wc, rfl, rfl, rfl⟩ := repW_shape hr
  have HK : Hid (∀ (wx : World), OneD w (.int .i64 o) (.int .i64 m) (.slice wd wl wc) j i b s ad len cap wx → Calls Tryz.prog 33 #[.agg #[.int .i64 o, .int .i64 m, .slice wd wl wc]] wx fun e w' => e = .returned (.int .u32 ((kset (evk n t) 14 : Nat) : Int)) ∧ OneD w (.int .i64 o) (.int .i64 m) (.slice wd wl wc) j i b s ad len cap w') := fun wx hx => (refKinds_any n t _ _ _ wx (RepW.below hx.below n _ _ hr) hg).mono fun e w' ⟨a, b⟩ => ⟨a, hx.step b⟩
  have HS : Hid (∀ wx, OneD w (.int .i64 o) (.int .i64 m) (.slice wd wl wc) j i b s ad len cap wx → wx.cell? ⟨w.heap.size, 0, none⟩ = some (.int .i64 o) ∧ wx.cell? ⟨w.heap.size, 1, none⟩ = some (.int .i64 m) ∧ wx.cell? ⟨w.heap.size, 2, none⟩ = some (.slice wd wl wc) ∧ wx.cell? ⟨w.heap.size + 1, 0, none⟩ = some (.int .i64 j)) := fun wx h => h.c
  have hb0 := OneD.start w (.int .i64 o) (.int .i64 m) (.slice wd wl wc) j i b s ad len cap
  have hbit := shr_bit (evk n t) j hj
  have j0 : (0 : Int) ≤ (j : Int) := by omega
  have j1 : (j : Int) ≤ 32 := by omega
  clear hr hg
  generalize evk n t j = p at hbit
  generalize kset (evk n t) 14 = X at HK hbit
  cases p
  all_goals
    simp only [if_true, Bool.false_eq_true, if_false] at hbit
    go_enter Tryz.func16, Tryz.ntmps16
    go_wp2_with fail
    go_region_held3 (fun w' => w'.cell? ⟨w.heap.size, 0, none⟩ = some (.int .i64 o) ∧ w'.cell? ⟨w.heap.size, 1, none⟩ = some (.int .i64 m) ∧ w'.cell? ⟨w.heap.size, 2, none⟩ = some (.slice wd wl wc) ∧ w'.cell? ⟨w.heap.size + 1, 0, none⟩ = some (.int .i64 j)) (exact HS.out _ (by first | assumption | exact OneD.drew (by assumption))) (first | (go_at_call 33; refine (HK.out _ (by first | assumption | exact OneD.drew (by assumption))).mono ?_; rintro e wa ⟨rfl, ba⟩))
    all_goals go_wp2
    all_goals go_ret
    all_goals exact ⟨rfl, OneD.below (by first | assumption | exact OneD.drew (by assumption))⟩
end Go.Proofs.YtajagjcfmaggiaaGreatDoor
/- The document's answer to each act over values' trees, told in the same form; the conditions: the trees in memory, valid. -/
namespace Go.Proofs.YtajagjcfmaggiaaGreatDoor
open Go.RowKit

theorem rcopy_rf (W0 : World) (m : Nat) (t : Dt.Tr m) (k i u : Int) (s : ByteArray) (a : Option Addr) (n c : Nat) (hps : (Dt.pts m t).1 ≤ 4096) (hrep : Dt.Rep W0 m [.int .i64 k, .int .i64 i, .int .u64 u, .string s, .slice a n c] t) (w : World) (hb : Below W0.heap.size W0 w) (H : Nat) (hH : H ≤ w.heap.size) :
    Calls Tryz.prog 9 #[.agg #[.int .i64 k, .int .i64 i, .int .u64 u, .string s, .slice a n c]] w fun e w' => ∃ k i u s a n c, e = .returned (.agg #[.int .i64 k, .int .i64 i, .int .u64 u, .string s, .slice a n c]) ∧ Dt.Rf (fun g => H ≤ g ∧ g < w'.heap.size) w' m [.int .i64 k, .int .i64 i, .int .u64 u, .string s, .slice a n c] t ∧ Below w.heap.size w w' :=
  (Dt.copy_any m t _ _ _ _ _ w (Dt.Rep.below hb _ _ _ hrep) hps).mono fun e w' ⟨k, i, u, s, a, n, c, he, rf, hb'⟩ => ⟨k, i, u, s, a, n, c, he, Dt.Rf.to (fun g hg => ⟨⟨by omega, hg.2⟩, rfl⟩) _ _ _ rf, hb'⟩

/-- A pattern of one part. -/
def leafW' (o n : Int) : Wt 1 := ((o, n, []) : Int × Int × List (Wt 0))
theorem leafW'_rep (w : World) (o n : Int) : RepW w 1 [.int .i64 o, .int .i64 n, .slice none 0 0] (leafW' o n) := ⟨none, 0, rfl, Nat.le_refl _, Nat.zero_le _, .inl rfl⟩
theorem match_kind (j : Nat) (hj : j < 14) (i u : Int) (s : ByteArray) (a : Option Addr) (n c : Nat) (num : Int) (h0 : 0 < num) (h1 : num < 14) (w : World) :
    Calls Tryz.prog 16 #[.agg #[.int .i64 2, .int .i64 num, .slice none 0 0], .agg #[.int .i64 (j : Int), .int .i64 i, .int .u64 u, .string s, .slice a n c]] w fun e w' => e = .returned (.bool (tkd num j)) ∧ Below w.heap.size w w' := by
  have := matchR 1 (leafW' 2 num) _ _ _ j i u s a n c w (leafW'_rep w 2 num) (by simp [wgt, leafW', Wt.ok, Wt.op, Wt.nm, Wt.ks, okW]; omega) hj
  have e : evk 1 (leafW' 2 num) j = tkd num j := by
    simp [evk, leafW', Wt.op, Wt.nm, tkd]
    omega
  rw [e] at this; exact this
theorem lackL_cases (k : Int) : ∀ l : List Int, (∀ m ∈ l, 0 ≤ m) → lackL k l = -1 ∨ 0 ≤ lackL k l
  | [], _ => .inl rfl
  | m :: l, h => by
    unfold lackL
    split
    · exact lackL_cases k l fun x hx => h x (List.mem_cons_of_mem _ hx)
    · exact .inr (h m (by simp))
theorem mths_pos (f : Int) : ∀ m ∈ mths f, 0 ≤ m := by
  unfold mths
  repeat' split
  all_goals simp
theorem mths_out (f : Int) (h : f < 0 ∨ 10 ≤ f) : mths f = [] := by
  unfold mths
  repeat rw [if_neg (by omega)]
theorem mths_in (f : Int) (h0 : 0 ≤ f) (h1 : f < 10) : 0 < (mths f).length := by
  unfold mths
  repeat' split
  all_goals first | (exfalso; omega) | simp

theorem Vl.kind {W0 : World} {m : Nat} {t : Dt.Tr (m + 1)} {k i u : Int} {s : ByteArray} {a : Option Addr} {n c : Nat} (h : Vl W0 m t k i u s a n c) : 0 ≤ k ∧ k ≤ 13 := by
  have h1 := h.rg
  simp only [Dt.rgt, Bool.and_eq_true] at h1
  have := kind_in (k := t.kd) h1.1
  rw [h.eq.1] at this
  exact this

theorem rface_any (k i u : Int) (s : ByteArray) (a : Option Addr) (n c : Nat) (f : Int) (hk : 0 ≤ k ∧ k ≤ 13) (hq : impl k f = false) (w : World) :
    Calls Tryz.prog 23 #[.agg #[.int .i64 k, .int .i64 i, .int .u64 u, .string s, .slice a n c], .int .i64 f] w fun e w' => e = .returned (.agg (rErr 110 0 2 (lackM k f))) ∧ Below w.heap.size w w' := by
  by_cases k0 : k = 0
  · have e : lackM k f = -1 := by unfold lackM; rw [if_pos k0]
    rw [e]
    exact rface_nil k i u s a n c f w k0
  have e : lackM k f = lacks k f := by unfold lackM; rw [if_neg k0]
  rw [e]
  have kk : (k == 0) = false := by simpa using k0
  have lk : lacks k f = lackL k (mths f) := by unfold lacks; rw [if_neg (by omega)]
  by_cases f0 : f < 0
  · have : lacks k f = -1 := by rw [lk, mths_out f (.inl f0)]; rfl
    rw [this]
    exact rface_lo k i u s a n c f w kk (by simpa using f0)
  by_cases f1 : 10 ≤ f
  · have : lacks k f = -1 := by rw [lk, mths_out f (.inr f1)]; rfl
    rw [this]
    exact rface_hi k i u s a n c f w kk (by simp; omega) (by simpa using f1)
  · have h1 : lacks k f ≠ -1 := fun h => by
      have h2 := mths_in f (by omega) (by omega)
      simp [impl, h] at hq
      have := hq (by omega) (by omega)
      rw [this] at h2
      simp at h2
    have h2 : 0 ≤ lacks k f := by
      rcases lackL_cases k (mths f) (mths_pos f) with h | h
      · exact absurd (lk.trans h) h1
      · rw [lk]; exact h
    exact rface_no k i u s a n c f w kk (by simp; omega) (by simp; omega) _ rfl (by simpa using h2)
theorem rface_ok (W0 : World) (m : Nat) (t : Dt.Tr (m + 1)) (k i u : Int) (s : ByteArray) (a : Option Addr) (n c : Nat) (h : Vl W0 m t k i u s a n c) (f : Int) (hq : impl k f = true) (w : World) (hb : Below W0.heap.size W0 w) (H : Nat) (hH : w.heap.size + 2 = H) :
    Calls Tryz.prog 23 #[.agg #[.int .i64 k, .int .i64 i, .int .u64 u, .string s, .slice a n c], .int .i64 f] w fun e w' => ∃ k i u s a n c, e = .returned (.agg (rcs 0 0 0 0 true k i u s a n c)) ∧ Dt.Rf (fun g => H ≤ g ∧ g < w'.heap.size) w' (m + 1) [.int .i64 k, .int .i64 i, .int .u64 u, .string s, .slice a n c] t ∧ Below w.heap.size w w' := by
  simp only [impl, Bool.and_eq_true, decide_eq_true_eq, beq_iff_eq] at hq
  obtain ⟨⟨⟨k0, k1⟩, l0⟩, l1⟩ := hq
  have f0 : ¬ (f < 0 ∨ 10 ≤ f) := fun hf => by rw [mths_out f hf] at l0; simp at l0
  exact rface_yes k i u s a n c f w H (by omega) _ (st_rf H (m + 1) t) (by simp; omega) (by simp; omega) (by simp; omega) l1 fun wy hy zy => rcopy_rf W0 (m + 1) t k i u s a n c h.ps h.rep wy (hb.trans (hy.mono hb.size)) _ (by omega)

end Go.Proofs.YtajagjcfmaggiaaGreatDoor
