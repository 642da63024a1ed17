/- count, parens, Pattern and Right of the document, as the plain functions say; the conditions: the pattern's tree in memory. -/
import Derived.Test.YtcbplamomhimiaaDoorVc
import Derived.Test.YtcbplamomhimiaaDoorVd
namespace Go.Proofs.YtcbplamomhimiaaDoor
open Go.RowKit

theorem ctL_cons {T : Type} (f : T → Int → Int) (t : T) (ts : List T) (a l : Int) : ctL f (t :: ts) a l = if l < a + f t (l - a) then 16385 else ctL f ts (a + f t (l - a)) l := rfl
/-- What the list of a pattern's operands is in memory. -/
def KidsW (w : World) (n : Nat) (ad : Option Addr) (ts : List (Wt n)) : Prop := ts = [] ∨ ∃ g o, ad = some ⟨g, o, none⟩ ∧ ∀ (j : Nat) (t' : Wt n), ts[j]? = some t' → ∃ v0 v1 v2, w.cell? ⟨g, o + j * 3, none⟩ = some v0 ∧ w.cell? ⟨g, o + j * 3 + 1, none⟩ = some v1 ∧ w.cell? ⟨g, o + j * 3 + 2, none⟩ = some v2 ∧ RepW w n [v0, v1, v2] t'
def CountN (n : Nat) : Prop := ∀ (t : Wt n) (v0 v1 v2 : Value) (deep left : Int) (w : World), RepW w n [v0, v1, v2] t → 0 ≤ deep → deep ≤ 69 → -20000 ≤ left → left ≤ 16384 →
    Calls Tryd.prog 60 #[.agg #[v0, v1, v2], .int .i64 deep, .int .i64 left] w fun e w' => e = .returned (.int .i64 (ct n t deep left)) ∧ Below w.heap.size w w'
set_option maxRecDepth 100000 in
set_option maxHeartbeats 4000000 in
theorem count_no1 (o m : Int) (ad : Option Addr) (len cap : Nat) (deep left : Int) (w : World) (h : 68 < deep) :
    Calls Tryd.prog 60 #[.agg #[.int .i64 o, .int .i64 m, .slice ad len cap], .int .i64 deep, .int .i64 left] w fun e w' => e = .returned (.int .i64 16385) ∧ Below w.heap.size w w' := by
  go_enter Tryd.func60, Tryd.ntmps60
  go_wp2
  go_ret
  exact ⟨rfl, below1 w _⟩
set_option maxRecDepth 100000 in
set_option maxHeartbeats 4000000 in
theorem count_no2 (o m : Int) (ad : Option Addr) (len cap : Nat) (deep left : Int) (w : World) (h : ¬ 68 < deep) (h2 : left ≤ 0) :
    Calls Tryd.prog 60 #[.agg #[.int .i64 o, .int .i64 m, .slice ad len cap], .int .i64 deep, .int .i64 left] w fun e w' => e = .returned (.int .i64 16385) ∧ Below w.heap.size w w' := by
  go_enter Tryd.func60, Tryd.ntmps60
  go_wp2
  go_ret
  exact ⟨rfl, below1 w _⟩
set_option maxRecDepth 100000 in
set_option maxHeartbeats 4000000 in
theorem count_ok (n : Nat) (ih : CountN n) (ts : List (Wt n)) (o m : Int) (ad : Option Addr) (cap : Nat) (deep left : Int) (w : World) (hcap : ts.length ≤ cap) (hmax : cap ≤ maxLen) (hr : KidsW w n ad ts)
    (hd0 : 0 ≤ deep) (hd : ¬ 68 < deep) (hl0 : ¬ left ≤ 0) (hl1 : left ≤ 16384) :
    Calls Tryd.prog 60 #[.agg #[.int .i64 o, .int .i64 m, .slice ad ts.length cap], .int .i64 deep, .int .i64 left] w fun e w' => e = .returned (.int .i64 (ctL (fun t l => ct n t (deep + 1) l) ts 1 left)) ∧ Below w.heap.size w w' := by
  unfold maxLen at hmax
  have HI : Hid (∀ (t : Wt n) (v0 v1 v2 : Value) (l' : Int) (wx : World), RepW w n [v0, v1, v2] t → One w (.int .i64 o) (.int .i64 m) (.slice ad ts.length cap) wx → -20000 ≤ l' → l' ≤ 16384 → Calls Tryd.prog 60 #[.agg #[v0, v1, v2], .int .i64 (deep + 1), .int .i64 l'] wx fun e w' => e = .returned (.int .i64 (ct n t (deep + 1) l')) ∧ One w (.int .i64 o) (.int .i64 m) (.slice ad ts.length cap) w') := fun t v0 v1 v2 l' wx hx ho h1 h2 => (ih t v0 v1 v2 (deep + 1) l' wx (RepW.below ho.below n _ _ hx) (by omega) (by omega) h1 h2).mono fun e w' ⟨a, b⟩ => ⟨a, ho.step b⟩
  have HK := Lib.hid hr
  have hb0 := One.start w (.int .i64 o) (.int .i64 m) (.slice ad ts.length cap)
  clear ih hr
  generalize hcc : (fun (t : Wt n) l => ct n t (deep + 1) l) = cc
  have HC := Lib.hid hcc
  have HBD : Hid (∀ (t : Wt n) (l : Int), l ≤ 16384 → 1 ≤ cc t l ∧ cc t l ≤ 16385) := fun t l a => by rw [← hcc]; exact ct_bd n t (deep + 1) l a
  clear hcc
  go_enter Tryd.func60, Tryd.ntmps60
  go_wp2_with fail
  go_loopw [7, 18] (fun s7 si wr => ∃ (j : Nat) (a : Int), s7 = .int .i64 a ∧ si = .int .i64 j ∧ j ≤ ts.length ∧ ctL cc (ts.drop j) a left = ctL cc ts 1 left ∧ 1 ≤ a ∧ a ≤ left ∧ One w (.int .i64 o) (.int .i64 m) (.slice ad ts.length cap) wr) (fun _ si _ => ts.length - (intOf si).toNat)
  case atStart => exact ⟨0, 1, rfl, rfl, Nat.zero_le _, rfl, by omega, by omega, hb0⟩
  case round =>
    obtain ⟨j, a, rfl, rfl, hj, hinv, hp0, hp1, hb⟩ := hrel
    have HV := Lib.hid hinv
    clear hinv
    have hbw := hb.below
    have c2 := hb.c.2.2
    by_cases hlt : j < ts.length
    · have hne : ts ≠ [] := by intro e; rw [e] at hlt; exact absurd hlt (Nat.not_lt_zero _)
      rcases HK.out with hk | ⟨g, oo, hk1, hk2⟩
      · exact absurd hk hne
      subst hk1
      obtain ⟨v0, v1, v2, e0, e1, e2, rk⟩ := hk2 j _ (List.getElem?_eq_getElem hlt)
      have hgl : g < w.heap.size := World.block_lt_of_cell? w _ e0
      have x0 := (hbw.cell (p := ⟨g, oo + j * 3, none⟩) hgl).trans e0
      have x1 := (hbw.cell (p := ⟨g, oo + j * 3 + 1, none⟩) hgl).trans e1
      have x2 := (hbw.cell (p := ⟨g, oo + j * 3 + 2, none⟩) hgl).trans e2
      clear e0 e1 e2 hk2 HK
      go_wp2_with fail
      refine (HI.out ts[j] v0 v1 v2 (left - a) wr rk hb (by omega) (by omega)).mono ?_
      rintro e w1 ⟨he, b1⟩
      have hv := HV.out
      rw [drop_atW ts j hlt, ctL_cons] at hv
      have hbd := HBD.out ts[j] (left - a) (by omega)
      have hcl : ct n ts[j] (deep + 1) (left - a) = cc ts[j] (left - a) := by rw [← HC.out]
      rw [hcl] at he
      clear x0 x1 x2 rk HV hcl
      generalize cc ts[j] (left - a) = C at hv he hbd
      subst he
      by_cases hneg : left < a + C
      · rw [if_pos hneg] at hv
        have HW := Lib.hid hv
        clear hv
        go_wp2_with fail
        go_ret
        exact ⟨by rw [← HW.out]; rfl, b1.below⟩
      · rw [if_neg hneg] at hv
        have HW := Lib.hid hv
        clear hv
        go_wp2_with fail
        exact ⟨⟨j + 1, a + C, by go_num, by go_num, by omega, HW.out, by omega, by omega, b1⟩, by simp [intOf]; omega⟩
    · have hje : j = ts.length := by omega
      have hv := HV.out
      rw [hje, List.drop_length] at hv
      have HW := Lib.hid hv
      clear hv HV
      go_wp2_with fail
      go_ret
      exact ⟨by rw [← HW.out]; rfl, hbw⟩
theorem count_any : ∀ n, CountN n
  | 0 => fun t => t.elim
  | n + 1 => by
    intro t v0 v1 v2 deep left w hr h1 h2 h3 h4
    have hr0 := hr
    obtain ⟨ad, cap, e, hcap, hmax, hk⟩ := hr
    simp only [List.cons.injEq, and_true] at e
    obtain ⟨rfl, rfl, rfl⟩ := e
    simp only [ct]
    by_cases hd : 68 < deep
    · rw [if_pos (.inl hd)]; exact count_no1 _ _ ad _ cap deep left w hd
    · by_cases hl : left ≤ 0
      · rw [if_pos (.inr hl)]; exact count_no2 _ _ ad _ cap deep left w hd hl
      · rw [if_neg (by omega)]; exact count_ok n (count_any n) t.ks _ _ ad cap deep left w hcap hmax hk h1 hd hl h4

/-! ### parens -/
set_option maxRecDepth 100000 in
set_option maxHeartbeats 4000000 in
theorem parens_any (o i : Int) (w : World) : Calls Tryd.prog 64 #[.int .i64 o, .int .i64 i] w fun e w' => e = .returned (.bool (prn o i)) ∧ w' = w := by
  by_cases h5 : o = 5
  · subst h5
    by_cases i4 : i = 4
    · subst i4
      go_enter Tryd.func64, Tryd.ntmps64
      go_wp2
      go_ret
      exact ⟨rfl, rfl⟩
    · have q : (i == 4) = false := by simpa using i4
      have e : prn 5 i = (i == 5) := by simp [prn, i4]; rfl
      rw [e]; clear i4 e
      go_enter Tryd.func64, Tryd.ntmps64
      go_wp2
      go_ret
      exact ⟨rfl, rfl⟩
  by_cases h6 : o = 6
  · subst h6
    by_cases i4 : i = 4
    · subst i4
      go_enter Tryd.func64, Tryd.ntmps64
      go_wp2
      go_ret
      exact ⟨rfl, rfl⟩
    · have q : (i == 4) = false := by simpa using i4
      have e : prn 6 i = (i == 5) := by simp [prn, i4]; rfl
      rw [e]; clear i4 e
      go_enter Tryd.func64, Tryd.ntmps64
      go_wp2
      go_ret
      exact ⟨rfl, rfl⟩
  · have e : prn o i = (i == 4) := by simp [prn, h5, h6]; rfl
    have q5 : (o == 5) = false := by simpa using h5
    have q6 : (o == 6) = false := by simpa using h6
    rw [e]; clear e h5 h6
    go_enter Tryd.func64, Tryd.ntmps64
    go_wp2
    go_ret
    exact ⟨rfl, rfl⟩
end Go.Proofs.YtcbplamomhimiaaDoor
