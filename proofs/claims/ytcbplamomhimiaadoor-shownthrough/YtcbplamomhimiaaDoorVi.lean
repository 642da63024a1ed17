/- A pattern's text whole; then a core, a wrapper and a chain that are fit, by the document: what of them counts here; the conditions: the chain and its patterns where they are told to lie. -/
import Derived.Test.YtcbplamomhimiaaDoorVh
import Derived.Test.YtcbplamomhimiaaDoorUv
namespace Go.Proofs.YtcbplamomhimiaaDoor
open Go.RowKit

theorem szL_pos {T : Type} (f : T → Nat) (ts : List T) (x : T) (h : x ∈ ts) : f x ≤ szL f ts := by
  induction ts with
  | nil => cases h
  | cons t ts ih =>
    simp only [szL]
    rcases List.mem_cons.1 h with rfl | h
    · omega
    · have := ih h; omega
theorem wr_any : ∀ n, WrN n
  | 0 => fun t => t.elim
  | n + 1 => by
    intro t v0 v1 v2 w hr hg hz
    obtain ⟨ad, cap, e, hcap, hmax, hk⟩ := hr
    simp only [List.cons.injEq, and_true] at e
    obtain ⟨rfl, rfl, rfl⟩ := e
    simp only [wgt, Bool.and_eq_true] at hg
    obtain ⟨hok, hall⟩ := hg
    simp only [sz] at hz
    have ho : okW t.op t.nm t.ks.length = true := hok
    have hop := okW_op ho
    simp only [wtx]
    generalize t.nm = m at ho ⊢
    generalize t.ks = ts at ho hk hcap hall hz ⊢
    generalize t.op = o at ho hop ⊢
    rcases hop with rfl | rfl | rfl | rfl | rfl | rfl
    · exact wr1 m ad _ cap w
    · have h' := of_decide_eq_true (show decide (0 ≤ m ∧ m < 14 ∧ ts.length = 0) = true from ho)
      obtain ⟨k, rfl⟩ : ∃ k : Nat, m = k := ⟨m.toNat, by omega⟩
      exact wr2 k (by omega) ad _ cap w
    · have h' := of_decide_eq_true (show decide (0 ≤ m ∧ m < 10 ∧ ts.length = 0) = true from ho)
      obtain ⟨k, rfl⟩ : ∃ k : Nat, m = k := ⟨m.toNat, by omega⟩
      exact wr3 k (by omega) ad _ cap w
    · exact wr4 n (wr_any n) ts m ad cap w hcap hmax hk hall (by omega)
    · exact wr5 n (wr_any n) ts m ad cap w hcap hmax hk hall (by omega)
    · exact wr6 n (wr_any n) ts m ad cap w hcap hmax hk hall (by omega)
/-- A pattern's text, where it has one. -/
def txW (n : Nat) (t : Wt n) : Bs := if rgtW n t = true then wtx n t else []
set_option maxRecDepth 100000 in
set_option maxHeartbeats 4000000 in
theorem text_any (n : Nat) (t : Wt n) (v0 v1 v2 : Value) (w : World) (h : RepW w n [v0, v1, v2] t) :
    Calls Tryd.prog 55 #[.agg #[v0, v1, v2]] w fun e w' => e = .returned (.string (bs (txW n t))) ∧ Below w.heap.size w w' := by
  have hb0 := One.start w v0 v1 v2
  have KR : Hid (∀ wx, One w v0 v1 v2 wx → Calls Tryd.prog 58 #[.agg #[v0, v1, v2]] wx fun e w' => e = .returned (.bool (rgtW n t)) ∧ One w v0 v1 v2 w') := fun wx hx => (right_any n t v0 v1 v2 wx (RepW.below hx.below n _ _ h)).mono fun e w' ⟨a, b⟩ => ⟨a, hx.step b⟩
  have KW : Hid (rgtW n t = true → ∀ wx, One w v0 v1 v2 wx → Calls Tryd.prog 59 #[.agg #[v0, v1, v2]] wx fun e w' => e = .returned (.string (bs (wtx n t))) ∧ One w v0 v1 v2 w') := fun hg wx hx => by
    unfold rgtW at hg
    rw [Bool.and_eq_true] at hg
    have h1 := of_decide_eq_true hg.1
    have h2 := ct_sz n t 0 16384 (by decide) h1
    exact (wr_any n t v0 v1 v2 wx (RepW.below hx.below n _ _ h) (pt_wgt n t 0 hg.2) (by omega)).mono fun e w' ⟨a, b⟩ => ⟨a, hx.step b⟩
  have HS : Hid (∀ wx, One w v0 v1 v2 wx → wx.cell? ⟨w.heap.size, 0, none⟩ = some v0 ∧ wx.cell? ⟨w.heap.size, 1, none⟩ = some v1 ∧ wx.cell? ⟨w.heap.size, 2, none⟩ = some v2) := fun wx h => h.c
  obtain ⟨o, m, ad, len, cap, rfl, rfl, rfl⟩ := repW_shape h
  have HX : Hid (txW n t = if rgtW n t = true then wtx n t else []) := Lib.hid rfl
  generalize txW n t = X at HX ⊢
  generalize rgtW n t = R at HX KR KW
  generalize wtx n t = T at HX KW
  clear h
  cases R
  · go_enter Tryd.func55, Tryd.ntmps55
    go_wp2_with (first
      | (go_at_call 58; refine (KR.out _ hb0).mono ?_; rintro e w1 ⟨rfl, b1⟩; obtain ⟨x0, x1, x2⟩ := HS.out _ b1))
    go_ret
    exact ⟨by rw [HX.out]; rfl, b1.below⟩
  · have KW' := Lib.hid (KW.out rfl)
    clear KW
    go_enter Tryd.func55, Tryd.ntmps55
    go_wp2_with (first
      | (go_at_call 58; refine (KR.out _ hb0).mono ?_; rintro e w1 ⟨rfl, b1⟩; obtain ⟨x0, x1, x2⟩ := HS.out _ b1)
      | (go_at_call 59; refine (KW'.out _ b1).mono ?_; rintro e w2 ⟨rfl, b2⟩))
    go_ret
    exact ⟨by rw [HX.out]; rfl, b2.below⟩

/-! ### the chain's parts -/
/-- Can a pattern be written? -/
def wrb (n : Nat) (t : Wt n) : Bool := fitW n t && !(txW n t == [])
set_option maxRecDepth 100000 in
set_option maxHeartbeats 4000000 in
theorem rwritten_any (n : Nat) (t : Wt n) (v0 v1 v2 : Value) (w : World) (h : RepW w n [v0, v1, v2] t) :
    Calls Tryd.prog 47 #[.agg #[v0, v1, v2]] w fun e w' => e = .returned (.bool (wrb n t)) ∧ Below w.heap.size w w' := by
  have hb0 := One.start w v0 v1 v2
  have KF : Hid (∀ wx, One w v0 v1 v2 wx → Calls Tryd.prog 54 #[.agg #[v0, v1, v2]] wx fun e w' => e = .returned (.bool (fitW n t)) ∧ One w v0 v1 v2 w') := fun wx hx => (fit_any n t v0 v1 v2 wx (RepW.below hx.below n _ _ h)).mono fun e w' ⟨a, b⟩ => ⟨a, hx.step b⟩
  have KT : Hid (∀ wx, One w v0 v1 v2 wx → Calls Tryd.prog 55 #[.agg #[v0, v1, v2]] wx fun e w' => e = .returned (.string (bs (txW n t))) ∧ One w v0 v1 v2 w') := fun wx hx => (text_any n t v0 v1 v2 wx (RepW.below hx.below n _ _ h)).mono fun e w' ⟨a, b⟩ => ⟨a, hx.step b⟩
  have HS : Hid (∀ wx, One w v0 v1 v2 wx → wx.cell? ⟨w.heap.size, 0, none⟩ = some v0 ∧ wx.cell? ⟨w.heap.size, 1, none⟩ = some v1 ∧ wx.cell? ⟨w.heap.size, 2, none⟩ = some v2) := fun wx h => h.c
  obtain ⟨o, m, ad, len, cap, rfl, rfl, rfl⟩ := repW_shape h
  have HX : Hid (wrb n t = (fitW n t && !(txW n t == []))) := Lib.hid rfl
  generalize wrb n t = X at HX ⊢
  generalize fitW n t = R at HX KF
  generalize txW n t = T at HX KT
  clear h
  cases R
  · go_enter Tryd.func47, Tryd.ntmps47
    go_wp2_with (first
      | (go_at_call 54; refine (KF.out _ hb0).mono ?_; rintro e w1 ⟨rfl, b1⟩; obtain ⟨x0, x1, x2⟩ := HS.out _ b1))
    go_ret
    exact ⟨by rw [HX.out]; rfl, b1.below⟩
  · have q1 : ((bs T).toList == ([] : Bs)) = (T == []) := by rw [show (bs T).toList = T from tl_bs _]
    cases T with
    | nil =>
      go_enter Tryd.func47, Tryd.ntmps47
      go_wp2_with (first
        | (go_at_call 54; refine (KF.out _ hb0).mono ?_; rintro e w1 ⟨rfl, b1⟩; obtain ⟨x0, x1, x2⟩ := HS.out _ b1)
        | (go_at_call 55; refine (KT.out _ b1).mono ?_; rintro e w2 ⟨rfl, b2⟩))
      go_ret
      exact ⟨by rw [HX.out]; rfl, b2.below⟩
    | cons a T =>
      have q2 : ((bs (a :: T)).toList == ([] : Bs)) = false := by rw [q1]; rfl
      clear q1
      generalize bs (a :: T) = BT at KT q2
      go_enter Tryd.func47, Tryd.ntmps47
      go_wp2_with (first
        | (go_at_call 54; refine (KF.out _ hb0).mono ?_; rintro e w1 ⟨rfl, b1⟩; obtain ⟨x0, x1, x2⟩ := HS.out _ b1)
        | (go_at_call 55; refine (KT.out _ b1).mono ?_; rintro e w2 ⟨rfl, b2⟩))
      go_ret
      exact ⟨by rw [HX.out]; rfl, b2.below⟩
/-- No pattern at all. -/
def nonW (o m : Int) (len : Nat) : Bool := decide (o = 0) && decide (m = 0) && decide (len = 0)
set_option maxRecDepth 100000 in
set_option maxHeartbeats 4000000 in
theorem none_any (o m : Int) (ad : Option Addr) (len cap : Nat) (w : World) :
    Calls Tryd.prog 48 #[.agg #[.int .i64 o, .int .i64 m, .slice ad len cap]] w fun e w' => e = .returned (.bool (nonW o m len)) ∧ Below w.heap.size w w' := by
  unfold nonW
  by_cases h0 : o = 0
  · subst h0
    by_cases h1 : m = 0
    · subst h1
      by_cases h2 : len = 0
      · subst h2
        go_enter Tryd.func48, Tryd.ntmps48
        go_wp2
        go_ret
        exact ⟨rfl, below1 _ _⟩
      · have q : ((len : Int) == 0) = false := by simp; omega
        rw [decide_eq_false h2]
        go_enter Tryd.func48, Tryd.ntmps48
        go_wp2
        go_ret
        exact ⟨rfl, below1 _ _⟩
    · have q : (m == 0) = false := by simpa using h1
      rw [decide_eq_false h1]
      clear h1
      go_enter Tryd.func48, Tryd.ntmps48
      go_wp2
      go_ret
      exact ⟨rfl, below1 _ _⟩
  · have q : (o == 0) = false := by simpa using h0
    rw [decide_eq_false h0]
    clear h0
    go_enter Tryd.func48, Tryd.ntmps48
    go_wp2
    go_ret
    exact ⟨rfl, below1 _ _⟩
end Go.Proofs.YtcbplamomhimiaaDoor
