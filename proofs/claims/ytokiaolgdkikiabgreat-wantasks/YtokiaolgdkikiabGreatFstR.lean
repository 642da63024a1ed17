/- The document's First: the place of the first right pattern that holds of the value; the conditions: the patterns' trees lie in memory and are right, the value's kind is one. -/
import Derived.Test.YtokiaolgdkikiabGreatFst
import Derived.Test.YtokiaolgdkikiabGreatMat
import Derived.Test.YtokiaolgdkikiabGreatVk
import Derived.Test.YtokiaolgdkikiabGreatAwk
namespace Go.Proofs.YtokiaolgdkikiabGreat
open Go.RowKit

/-- A value's block, whatever is done behind it. -/
def OnD (w : World) (v0 v1 v2 v3 v4 : Value) (w' : World) : Prop := Below (w.heap.size + 1) (w.alloc (.cells #[v0, v1, v2, v3, v4] 25)) w'
theorem OnD.drew {w : World} {v0 v1 v2 v3 v4 : Value} {w' : World} (h : OnD w v0 v1 v2 v3 v4 w') : OnD w v0 v1 v2 v3 v4 w'.drew := Below.drew h
theorem OnD.below {w : World} {v0 v1 v2 v3 v4 : Value} {w' : World} (h : OnD w v0 v1 v2 v3 v4 w') : Below w.heap.size w w' := (below1 w _).trans (Below.mono h (by omega))
theorem OnD.step {w : World} {v0 v1 v2 v3 v4 : Value} {w1 w2 : World} (h : OnD w v0 v1 v2 v3 v4 w1) (hb : Below w1.heap.size w1 w2) : OnD w v0 v1 v2 v3 v4 w2 := by
  have := Below.size h
  simp at this
  exact Below.trans h (hb.mono (by omega))
theorem OnD.start (w : World) (v0 v1 v2 v3 v4 : Value) : OnD w v0 v1 v2 v3 v4 (w.alloc (.cells #[v0, v1, v2, v3, v4] 25)) := Below.refl _ _
theorem OnD.c {w : World} {v0 v1 v2 v3 v4 : Value} {w' : World} (h : OnD w v0 v1 v2 v3 v4 w') : w'.cell? ⟨w.heap.size, 0, none⟩ = some v0 ∧ w'.cell? ⟨w.heap.size, 1, none⟩ = some v1 ∧ w'.cell? ⟨w.heap.size, 2, none⟩ = some v2 ∧ w'.cell? ⟨w.heap.size, 3, none⟩ = some v3 ∧ w'.cell? ⟨w.heap.size, 4, none⟩ = some v4 := by
  have h0 : Dt.D5 w' w.heap.size v0 v1 v2 v3 v4 := (Below.block h w.heap.size (by omega)).trans (Dt.D5.new w v0 v1 v2 v3 v4)
  exact h0.c

set_option maxRecDepth 100000 in
set_option maxHeartbeats 2000000 in
theorem firstR (n : Nat) (ts : List (Wt n)) (ad : Option Addr) (cap : Nat) (k : Nat) (i b : Int) (s : ByteArray) (dd : Option Addr) (dl dc : Nat) (w : World) (hcap : ts.length ≤ cap) (hmax : cap ≤ maxLen) (hr : RowW w n ad ts) (hg : ∀ t ∈ ts, wgt n t = true) (hk : k < 14) :
    Calls Tryz.prog 14 #[.slice ad ts.length cap, .agg #[.int .i64 k, .int .i64 i, .int .u64 b, .string s, .slice dd dl dc]] w fun e w' => e = .returned (.int .i64 (fst (fun x => evk n x k) ts 0)) ∧ Below w.heap.size w w' := by
  unfold maxLen at hmax
  have HC : Hid (∀ (t : Wt n) (v0 v1 v2 : Value) (wx : World), t ∈ ts → RepW w n [v0, v1, v2] t → OnD w (.int .i64 k) (.int .i64 i) (.int .u64 b) (.string s) (.slice dd dl dc) wx → Calls Tryz.prog 33 #[.agg #[v0, v1, v2], .agg #[.int .i64 k, .int .i64 i, .int .u64 b, .string s, .slice dd dl dc]] wx fun e w' => e = .returned (.bool (evk n t k)) ∧ OnD w (.int .i64 k) (.int .i64 i) (.int .u64 b) (.string s) (.slice dd dl dc) w') := fun t v0 v1 v2 wx ht hx hb => (matchR n t v0 v1 v2 k i b s dd dl dc wx (RepW.below hb.below n _ _ hx) (hg t ht) hk).mono fun e w' ⟨a, b⟩ => ⟨a, hb.step b⟩
  have HS : Hid (∀ wx, OnD w (.int .i64 k) (.int .i64 i) (.int .u64 b) (.string s) (.slice dd dl dc) wx → wx.cell? ⟨w.heap.size, 0, none⟩ = some (.int .i64 k) ∧ wx.cell? ⟨w.heap.size, 1, none⟩ = some (.int .i64 i) ∧ wx.cell? ⟨w.heap.size, 2, none⟩ = some (.int .u64 b) ∧ wx.cell? ⟨w.heap.size, 3, none⟩ = some (.string s) ∧ wx.cell? ⟨w.heap.size, 4, none⟩ = some (.slice dd dl dc)) := fun wx h => h.c
  have hb0 := OnD.start w (.int .i64 k) (.int .i64 i) (.int .u64 b) (.string s) (.slice dd dl dc)
  have HK := Lib.hid hr
  clear hg hr hk
  generalize hpp : (fun x : Wt n => evk n x k) = pp
  have HP := Lib.hid hpp
  clear hpp
  go_enter Tryz.func14, Tryz.ntmps14
  go_wp2_with fail
  go_loopw [5] (fun si wr => ∃ (j : Nat), si = .int .i64 j ∧ j ≤ ts.length ∧ fst pp (ts.drop j) j = fst pp ts 0 ∧ OnD w (.int .i64 k) (.int .i64 i) (.int .u64 b) (.string s) (.slice dd dl dc) wr) (fun si _ => ts.length - (intOf si).toNat)
  case atStart => exact ⟨0, rfl, Nat.zero_le _, rfl, hb0⟩
  case round =>
    obtain ⟨j, rfl, hj, hinv, hb⟩ := hrel
    have HV := Lib.hid hinv
    clear hinv hb0
    by_cases hlt : j < ts.length
    · have hne : ts ≠ [] := by intro e; rw [e] at hlt; exact absurd hlt (Nat.not_lt_zero _)
      rcases HK.out with hk | ⟨g, o, hk1, hk2⟩
      · exact absurd hk hne
      subst hk1
      obtain ⟨v0, v1, v2, e0, e1, e2, rk⟩ := hk2 j _ (List.getElem?_eq_getElem hlt)
      have hgl : g < w.heap.size := World.block_lt_of_cell? w _ e0
      obtain ⟨u0, u1, a4, n4, c4, rfl, rfl, rfl⟩ := repW_shape rk
      have HX : Hid (∀ wx, OnD w (.int .i64 k) (.int .i64 i) (.int .u64 b) (.string s) (.slice dd dl dc) wx → (wx.cell? ⟨g, o + j * 3, none⟩ = some (.int .i64 u0) ∧ wx.cell? ⟨g, o + j * 3 + 1, none⟩ = some (.int .i64 u1) ∧ wx.cell? ⟨g, o + j * 3 + 2, none⟩ = some (.slice a4 n4 c4)) ∧ wx.cell? ⟨w.heap.size, 0, none⟩ = some (.int .i64 k) ∧ wx.cell? ⟨w.heap.size, 1, none⟩ = some (.int .i64 i) ∧ wx.cell? ⟨w.heap.size, 2, none⟩ = some (.int .u64 b) ∧ wx.cell? ⟨w.heap.size, 3, none⟩ = some (.string s) ∧ wx.cell? ⟨w.heap.size, 4, none⟩ = some (.slice dd dl dc)) := fun wx h => ⟨⟨(h.below.cell (p := ⟨g, o + j * 3, none⟩) hgl).trans e0, (h.below.cell (p := ⟨g, o + j * 3 + 1, none⟩) hgl).trans e1, (h.below.cell (p := ⟨g, o + j * 3 + 2, none⟩) hgl).trans e2⟩, h.c⟩
      have HC' := Lib.hid (fun wx hx => HC.out ts[j] _ _ _ wx (List.getElem_mem hlt) rk hx)
      have j0 : (0 : Int) ≤ (j : Int) := by omega
      have j1 : (j : Int) < (ts.length : Int) := by omega
      have hv := HV.out
      rw [drop_atW ts j hlt, fst_cons] at hv
      obtain ⟨bb, hbb⟩ : ∃ bb : Bool, (evk n ts[j] k) = bb := ⟨_, rfl⟩
      have hpb : pp ts[j] = bb := by rw [← HP.out]; exact hbb
      rw [hbb] at HC'
      clear e0 e1 e2 hk2 HK rk HC HV hbb
      cases bb with
      | true =>
        rw [if_pos hpb] at hv
        have HW := Lib.hid hv
        clear hv hpb
        go_wp2_with fail
        go_region_held3 (fun wx => (wx.cell? ⟨g, o + j * 3, none⟩ = some (.int .i64 u0) ∧ wx.cell? ⟨g, o + j * 3 + 1, none⟩ = some (.int .i64 u1) ∧ wx.cell? ⟨g, o + j * 3 + 2, none⟩ = some (.slice a4 n4 c4)) ∧ wx.cell? ⟨w.heap.size, 0, none⟩ = some (.int .i64 k) ∧ wx.cell? ⟨w.heap.size, 1, none⟩ = some (.int .i64 i) ∧ wx.cell? ⟨w.heap.size, 2, none⟩ = some (.int .u64 b) ∧ wx.cell? ⟨w.heap.size, 3, none⟩ = some (.string s) ∧ wx.cell? ⟨w.heap.size, 4, none⟩ = some (.slice dd dl dc)) (exact HX.out _ (by first | assumption | exact OnD.drew (by assumption))) ((go_at_call 33; refine (HC'.out _ (by first | assumption | exact OnD.drew (by assumption))).mono ?_; rintro e w1 ⟨rfl, b1⟩))
        all_goals go_wp2_with fail
        all_goals go_ret
        all_goals exact ⟨by rw [← HW.out]; rfl, OnD.below (by first | assumption | exact OnD.drew (by assumption))⟩
      | false =>
        rw [if_neg (by rw [hpb]; decide)] at hv
        have HW := Lib.hid hv
        clear hv hpb
        go_wp2_with fail
        go_region_held3 (fun wx => (wx.cell? ⟨g, o + j * 3, none⟩ = some (.int .i64 u0) ∧ wx.cell? ⟨g, o + j * 3 + 1, none⟩ = some (.int .i64 u1) ∧ wx.cell? ⟨g, o + j * 3 + 2, none⟩ = some (.slice a4 n4 c4)) ∧ wx.cell? ⟨w.heap.size, 0, none⟩ = some (.int .i64 k) ∧ wx.cell? ⟨w.heap.size, 1, none⟩ = some (.int .i64 i) ∧ wx.cell? ⟨w.heap.size, 2, none⟩ = some (.int .u64 b) ∧ wx.cell? ⟨w.heap.size, 3, none⟩ = some (.string s) ∧ wx.cell? ⟨w.heap.size, 4, none⟩ = some (.slice dd dl dc)) (exact HX.out _ (by first | assumption | exact OnD.drew (by assumption))) ((go_at_call 33; refine (HC'.out _ (by first | assumption | exact OnD.drew (by assumption))).mono ?_; rintro e w1 ⟨rfl, b1⟩))
        all_goals go_wp2_with fail
        all_goals exact ⟨⟨j + 1, by go_num, by omega, HW.out, by first | assumption | exact OnD.drew (by assumption)⟩, by simp [intOf]; omega⟩
    · have hje : j = ts.length := by omega
      have hv := HV.out
      rw [hje, List.drop_length] at hv
      have HW := Lib.hid hv
      clear hv HV
      go_wp2_with fail
      go_ret
      exact ⟨by rw [← HW.out]; rfl, hb.below⟩

set_option maxRecDepth 100000 in
set_option maxHeartbeats 4000000 in
theorem law_first_at (n : Nat) (ts : List (Wt n)) (ad : Option Addr) (cap : Nat) (k i b : Int) (s : ByteArray) (dd : Option Addr) (dl dc : Nat) (w : World) (hcap : ts.length ≤ cap) (hmax : cap ≤ maxLen) (hr : RowW w n ad ts) (V : Bool) (k0 : V = true → 0 ≤ k ∧ k ≤ 13)
    (HV : Hid (∀ wx, OnD w (.int .i64 k) (.int .i64 i) (.int .u64 b) (.string s) (.slice dd dl dc) wx → Calls Tryz.prog 6 #[.agg #[.int .i64 k, .int .i64 i, .int .u64 b, .string s, .slice dd dl dc]] wx fun e w' => e = .returned (.bool V) ∧ OnD w (.int .i64 k) (.int .i64 i) (.int .u64 b) (.string s) (.slice dd dl dc) w')) :
    Calls Tryz.prog 4 #[.slice ad ts.length cap, .agg #[.int .i64 k, .int .i64 i, .int .u64 b, .string s, .slice dd dl dc]] w fun e w' => e = .returned (.bool true) ∧ Below w.heap.size w w' := by
  have hmax' := hmax
  unfold maxLen at hmax
  have HF : Hid (∀ (t : Wt n) (v0 v1 v2 : Value) (wx : World), RepW w n [v0, v1, v2] t → OnD w (.int .i64 k) (.int .i64 i) (.int .u64 b) (.string s) (.slice dd dl dc) wx → Calls Tryz.prog 12 #[.agg #[v0, v1, v2]] wx fun e w' => e = .returned (.bool (fitW n t)) ∧ OnD w (.int .i64 k) (.int .i64 i) (.int .u64 b) (.string s) (.slice dd dl dc) w') := fun t v0 v1 v2 wx hx hb => (fit_any n t v0 v1 v2 wx (RepW.below hb.below n _ _ hx)).mono fun e w' ⟨a, b⟩ => ⟨a, hb.step b⟩
  have HS : Hid (∀ wx, OnD w (.int .i64 k) (.int .i64 i) (.int .u64 b) (.string s) (.slice dd dl dc) wx → wx.cell? ⟨w.heap.size, 0, none⟩ = some (.int .i64 k) ∧ wx.cell? ⟨w.heap.size, 1, none⟩ = some (.int .i64 i) ∧ wx.cell? ⟨w.heap.size, 2, none⟩ = some (.int .u64 b) ∧ wx.cell? ⟨w.heap.size, 3, none⟩ = some (.string s) ∧ wx.cell? ⟨w.heap.size, 4, none⟩ = some (.slice dd dl dc)) := fun wx h => h.c
  have HA : Hid (∀ wx, OnD w (.int .i64 k) (.int .i64 i) (.int .u64 b) (.string s) (.slice dd dl dc) wx → Calls Tryz.prog 7 #[] wx fun e w' => e = .returned (.bool true) ∧ OnD w (.int .i64 k) (.int .i64 i) (.int .u64 b) (.string s) (.slice dd dl dc) w') := fun wx hx => (awake_any wx).mono fun e w' ⟨a, b⟩ => ⟨a, hx.step b⟩
  have hb0 := OnD.start w (.int .i64 k) (.int .i64 i) (.int .u64 b) (.string s) (.slice dd dl dc)
  have HK := Lib.hid hr
  clear hr
  go_enter Tryz.func4, Tryz.ntmps4
  go_wp2_with fail
  go_loopw [5] (fun si wr => ∃ (j : Nat), si = .int .i64 j ∧ j ≤ ts.length ∧ Hid (∀ x t, x < j → ts[x]? = some t → fitW n t = true) ∧ OnD w (.int .i64 k) (.int .i64 i) (.int .u64 b) (.string s) (.slice dd dl dc) wr) (fun si _ => ts.length - (intOf si).toNat)
  case atStart => exact ⟨0, rfl, Nat.zero_le _, Lib.hid (fun x t hx => absurd hx (Nat.not_lt_zero _)), hb0⟩
  case round =>
    obtain ⟨j, rfl, hj, hinv, hb⟩ := hrel
    clear hb0
    by_cases hlt : j < ts.length
    · have hne : ts ≠ [] := by intro e; rw [e] at hlt; exact absurd hlt (Nat.not_lt_zero _)
      rcases HK.out with hk | ⟨g, o, hk1, hk2⟩
      · exact absurd hk hne
      subst hk1
      obtain ⟨v0, v1, v2, e0, e1, e2, rk⟩ := hk2 j _ (List.getElem?_eq_getElem hlt)
      have hgl : g < w.heap.size := World.block_lt_of_cell? w _ e0
      have x0 := (hb.below.cell (p := ⟨g, o + j * 3, none⟩) hgl).trans e0
      have x1 := (hb.below.cell (p := ⟨g, o + j * 3 + 1, none⟩) hgl).trans e1
      have x2 := (hb.below.cell (p := ⟨g, o + j * 3 + 2, none⟩) hgl).trans e2
      have HF' := Lib.hid (HF.out ts[j] v0 v1 v2 wr rk hb)
      clear e0 e1 e2 hk2 HK rk HF
      cases hV : fitW n ts[j] with
      | true =>
        rw [hV] at HF'
        have HI := Lib.hid (show ∀ x t, x < j + 1 → ts[x]? = some t → fitW n t = true from fun x t hx ht => by
          by_cases h : x < j
          · exact hinv.out x t h ht
          · obtain rfl : x = j := by omega
            rw [List.getElem?_eq_getElem hlt] at ht
            rw [← Option.some.inj ht]; exact hV)
        clear hV hinv
        go_wp2_with fail
        refine HF'.out.mono ?_
        rintro e w1 ⟨rfl, b1⟩
        go_wp2_with fail
        exact ⟨⟨j + 1, by go_num, by omega, HI, b1⟩, by simp [intOf]; omega⟩
      | false =>
        rw [hV] at HF'
        clear hV hinv
        go_wp2_with fail
        refine HF'.out.mono ?_
        rintro e w1 ⟨rfl, b1⟩
        go_wp2_with fail
        refine (HA.out _ b1).mono ?_
        rintro e w2 ⟨rfl, b2⟩
        go_wp2
        go_ret
        exact ⟨rfl, b2.below⟩
    · have hje : j = ts.length := by omega
      have HG := Lib.hid (show ∀ t ∈ ts, wgt n t = true from fun t ht => by
        obtain ⟨x, hx, rfl⟩ := List.mem_iff_getElem.1 ht
        exact fitW_right n _ (hinv.out x _ (by omega) (List.getElem?_eq_getElem hx)))
      obtain ⟨c0, c1, c2, c3, c4⟩ := HS.out _ hb
      clear hinv
      cases V with
      | false =>
        go_wp2_with fail
        refine (HV.out _ hb).mono ?_
        rintro e w1 ⟨rfl, b1⟩
        clear c0 c1 c2 c3 c4
        go_wp2_with fail
        refine (HA.out _ b1).mono ?_
        rintro e w2 ⟨rfl, b2⟩
        go_wp2
        go_ret
        exact ⟨rfl, b2.below⟩
      | true =>
        obtain ⟨q0, q1⟩ := k0 rfl
        obtain ⟨q, rfl⟩ := Int.eq_ofNat_of_zero_le q0
        have hq : q < 14 := by omega
        have P1 : Hid (∀ wx, OnD w (.int .i64 (q : Int)) (.int .i64 i) (.int .u64 b) (.string s) (.slice dd dl dc) wx → Calls Tryz.prog 13 #[.slice ad ts.length cap, .agg #[.int .i64 (q : Int), .int .i64 i, .int .u64 b, .string s, .slice dd dl dc]] wx fun e w' => e = .returned (.int .i64 (fst (fun x => evk n x q) ts 0)) ∧ OnD w (.int .i64 (q : Int)) (.int .i64 i) (.int .u64 b) (.string s) (.slice dd dl dc) w') := fun wx hx => (firstP n ts ad cap q i b s dd dl dc wx hcap hmax' (HK.out.below hx.below) HG.out q0 q1).mono fun e w' ⟨a, b⟩ => ⟨a, hx.step b⟩
        have P2 : Hid (∀ wx, OnD w (.int .i64 (q : Int)) (.int .i64 i) (.int .u64 b) (.string s) (.slice dd dl dc) wx → Calls Tryz.prog 14 #[.slice ad ts.length cap, .agg #[.int .i64 (q : Int), .int .i64 i, .int .u64 b, .string s, .slice dd dl dc]] wx fun e w' => e = .returned (.int .i64 (fst (fun x => evk n x q) ts 0)) ∧ OnD w (.int .i64 (q : Int)) (.int .i64 i) (.int .u64 b) (.string s) (.slice dd dl dc) w') := fun wx hx => (firstR n ts ad cap q i b s dd dl dc wx hcap hmax' (HK.out.below hx.below) HG.out hq).mono fun e w' ⟨a, b⟩ => ⟨a, hx.step b⟩
        clear HG HK HF k0
        generalize fst (fun x => evk n x q) ts 0 = Z at P1 P2
        go_wp2_with fail
        refine (HV.out _ hb).mono ?_
        rintro e w1 ⟨rfl, b1⟩
        clear c0 c1 c2 c3 c4
        obtain ⟨c0, c1, c2, c3, c4⟩ := HS.out _ b1
        go_wp2_with fail
        go_region_held3 (fun wx => wx.cell? ⟨w.heap.size, 0, none⟩ = some (.int .i64 (q : Int)) ∧ wx.cell? ⟨w.heap.size, 1, none⟩ = some (.int .i64 i) ∧ wx.cell? ⟨w.heap.size, 2, none⟩ = some (.int .u64 b) ∧ wx.cell? ⟨w.heap.size, 3, none⟩ = some (.string s) ∧ wx.cell? ⟨w.heap.size, 4, none⟩ = some (.slice dd dl dc)) (exact HS.out _ (by first | assumption | exact OnD.drew (by assumption))) (first | (go_at_call 13; refine (P1.out _ (by first | assumption | exact OnD.drew (by assumption))).mono ?_; rintro e wy ⟨rfl, by1⟩) | (go_at_call 14; refine (P2.out _ (by first | assumption | exact OnD.drew (by assumption))).mono ?_; rintro e wy ⟨rfl, by1⟩) | (go_at_call 7; refine (HA.out _ (by first | assumption | exact OnD.drew (by assumption))).mono ?_; rintro e wy ⟨rfl, by1⟩))
        all_goals go_wp2
        all_goals go_ret
        all_goals exact ⟨rfl, OnD.below (by first | assumption | exact OnD.drew (by assumption))⟩

theorem law_first (n : Nat) (ts : List (Wt n)) (ad : Option Addr) (cap : Nat) (m : Nat) (d : Dt.Tr m) (x0 x1 x2 x3 x4 : Value) (w : World) (hcap : ts.length ≤ cap) (hmax : cap ≤ maxLen) (hr : RowW w n ad ts) (h' : Dt.Rep w m [x0, x1, x2, x3, x4] d) :
    Calls Tryz.prog 4 #[.slice ad ts.length cap, .agg #[x0, x1, x2, x3, x4]] w fun e w' => e = .returned (.bool true) ∧ Below w.heap.size w w' := by
  obtain ⟨k, i, b, s, dd, dl, dc, rfl, rfl, rfl, rfl, rfl⟩ := Dt.rep_shape h'
  exact law_first_at n ts ad cap k i b s dd dl dc w hcap hmax hr (Dt.vB m d) (fun hv => valid_kind h' hv) (Lib.hid fun wx hx => (Dt.refValid m d _ _ _ _ _ wx (Dt.Rep.below hx.below m _ _ h')).mono fun e w' ⟨a, b⟩ => ⟨a, hx.step b⟩)
end Go.Proofs.YtokiaolgdkikiabGreat
