/- Which states and numbers are fit: an answer, and what a yes tells; the conditions: what lies in memory, the two tables of unicode/utf8. -/
import Derived.Test.YtikkedemhcdboaaDoorBu
namespace Go.Proofs.YtikkedemhcdboaaDoor
open Go.RowKit Tp

/-- Texts of a size that can be. -/
def Sz (l : List Ms) : Prop := ∀ x ∈ l, x.tp.size ≤ 9223372036854775807 ∧ x.rp.size ≤ 9223372036854775807
/-- Is a state fit? -/
def ftB (l : List Ms) (since a : Int) : Bool := !decide (a ≤ (l.length : Int)) && (tkB since && (!(l.isEmpty && decide (since ≠ 0)) && l.all fmB))

set_option maxRecDepth 100000 in
set_option maxHeartbeats 4000000 in
theorem rfit_any (l : List Ms) (ad : Option Addr) (c : Nat) (since a : Int) (w : World) (hl : l.length ≤ 9223372036854775807) (hI : Mw w ad l) (hz : Sz l) (hT : Tabs w) :
    Calls Tryd.prog 21 #[.agg #[.slice ad l.length c, .int .i64 since], .int .i64 a] w fun e w' => e = .returned (.bool (ftB l since a)) ∧ Below w.heap.size w w' := by
  have B0 := below1 w (.cells #[.slice ad l.length c, .int .i64 since] 24)
  have S0 := Bk.new w #[.slice ad l.length c, .int .i64 since] 24
  have HI := Lib.hid hI
  have HZ := Lib.hid hz
  have HT := Lib.hid hT
  clear hI hz hT
  unfold ftB
  by_cases ha : a ≤ (l.length : Int)
  · have e1 : decide (a ≤ (l.length : Int)) = true := by simpa using ha
    rw [e1]
    go_enter Tryd.func21, Tryd.ntmps21
    go_wp2_with fail
    go_ret
    exact ⟨rfl, B0⟩
  have e1 : decide (a ≤ (l.length : Int)) = false := by simpa using ha
  rw [e1]
  cases ht : tkB since with
  | false =>
    go_enter Tryd.func21, Tryd.ntmps21
    go_wp2_with (go_at_call 24; refine (tick_any _ _).mono ?_; rintro e wt ⟨rfl, rfl⟩; rw [ht])
    go_ret
    exact ⟨rfl, B0⟩
  | true =>
    by_cases h0 : l = []
    · subst h0
      by_cases hs : since = 0
      · subst hs
        go_enter Tryd.func21, Tryd.ntmps21
        go_wp2_with (go_at_call 24; refine (tick_any _ _).mono ?_; rintro e wt ⟨rfl, rfl⟩; rw [ht])
        go_loopw [5] (fun si wr => si = .int .i64 0 ∧ wr = w.alloc (.cells #[.slice ad 0 c, .int .i64 0] 24)) (fun _ _ => 0)
        case atStart => exact ⟨rfl, rfl⟩
        case round =>
          obtain ⟨rfl, rfl⟩ := hrel
          go_wp2_with fail
          go_ret
          exact ⟨rfl, below1 _ _⟩
      · have e2 : (([] : List Ms).isEmpty && decide (since ≠ 0)) = true := by simp [hs]
        have e3 : (since == 0) = false := by simpa using hs
        have e4 : (since != 0) = true := by simpa using hs
        have e5 : ¬ a ≤ 0 := by simpa using ha
        rw [e2]
        go_enter Tryd.func21, Tryd.ntmps21
        go_wp2_with (go_at_call 24; refine (tick_any _ _).mono ?_; rintro e wt ⟨rfl, rfl⟩; rw [ht])
        go_ret
        exact ⟨rfl, below1 _ _⟩
    · have e2 : (l.isEmpty && decide (since ≠ 0)) = false := by simp [h0]
      have e3 : ((l.length : Int) == 0) = false := by simpa using h0
      have e4 : (l.length == 0) = false := by simpa using h0
      have e5 : ¬ l.length = 0 := by simpa using h0
      have e6 : ¬ (l.length : Int) = 0 := by omega
      rw [e2]
      have HL0 := Lib.hid h0
      clear h0
      go_enter Tryd.func21, Tryd.ntmps21
      go_wp2_with (go_at_call 24; refine (tick_any _ _).mono ?_; rintro e wt ⟨rfl, rfl⟩; rw [ht])
      go_loopw [5] (fun si wr => ∃ (j : Nat), si = .int .i64 j ∧ j ≤ l.length ∧ (∀ q y, q < j → l[q]? = some y → fmB y = true) ∧ Below (w.heap.size + 1) (w.alloc (.cells #[.slice ad l.length c, .int .i64 since] 24)) wr) (fun si _ => l.length - (intOf si).toNat)
      case atStart => exact ⟨0, rfl, Nat.zero_le _, fun q y hq => absurd hq (Nat.not_lt_zero _), Below.refl _ _⟩
      case round =>
        obtain ⟨j, rfl, hj, hall, hb⟩ := hrel
        have BW : Below w.heap.size w wr := B0.trans (hb.mono (Nat.le_succ _))
        have S1 := S0.under hb (by simp)
        obtain ⟨s0, s1⟩ := S1.c2
        by_cases hlt : j < l.length
        · rcases HI.out with h | ⟨b, o, rfl, hb1, h2⟩
          · exact absurd h HL0.out
          obtain ⟨x, hx⟩ : ∃ x, l[j]? = some x := ⟨_, List.getElem?_eq_getElem hlt⟩
          obtain ⟨d, c', r⟩ := h2 j x hx
          obtain ⟨x0, x1, x2, x3, x4, x5, x6, x7, x8, x9, x10, x11, x12⟩ := c'.heap (BW.block b hb1)
          have hm := List.mem_of_getElem? hx
          have HC := Lib.hid (fmsg_any x d wr (Dt.Rep.below BW _ _ _ (Rz.rep _ _ _ r)) (HT.out.below BW) (HZ.out x hm).1 (HZ.out x hm).2)
          have j0 : (0 : Int) ≤ (j : Int) := by omega
          have j1 : (j : Int) < (l.length : Int) := by omega
          have HX := Lib.hid hx
          have HA := Lib.hid hall
          clear h2 c' r HI HZ HT hx hall
          cases hf : fmB x with
          | true =>
            rw [hf] at HC
            go_wp2_with (go_at_call 7; refine HC.out.mono ?_; rintro e w1 ⟨rfl, b1⟩)
            refine ⟨⟨j + 1, by go_num, by omega, fun q y hq hy => ?_, hb.trans (b1.mono (by have := hb.size; simpa using this))⟩, by simp [intOf]; omega⟩
            by_cases e : q = j
            · subst e
              have := HX.out
              rw [hy] at this
              cases this
              exact hf
            · exact HA.out q y (by omega) hy
          | false =>
            rw [hf] at HC
            go_wp2_with (go_at_call 7; refine HC.out.mono ?_; rintro e w1 ⟨rfl, b1⟩)
            go_ret
            refine ⟨ret_b ?_, BW.trans (b1.mono BW.size)⟩
            have e : l.all fmB = false := by
              cases h : l.all fmB with
              | false => rfl
              | true => have := List.all_eq_true.1 h x hm; rw [hf] at this; cases this
            rw [e]
            rfl
        · have e : l.all fmB = true := List.all_eq_true.2 fun y hy => by
            obtain ⟨q, hq, e⟩ := List.mem_iff_getElem.1 hy
            exact hall q y (by omega) (by rw [List.getElem?_eq_getElem hq, e])
          go_wp2_with fail
          go_ret
          exact ⟨ret_b (by rw [e]; rfl), BW⟩

/-- Are a state and numbers fit? -/
def fiB (l : List Ms) (since a b now : Int) : Bool := decide (1 ≤ a) && (decide (a ≤ 1000) && (decide (0 ≤ b) && (decide (b ≤ 1000000) && (decide (0 ≤ now) && (decide (now ≤ 1099511627776) && ftB l since a)))))
set_option maxRecDepth 100000 in
set_option maxHeartbeats 4000000 in
theorem fit_any (l : List Ms) (ad : Option Addr) (c : Nat) (since a b now : Int) (w : World) (hl : l.length ≤ 9223372036854775807) (hI : Mw w ad l) (hz : Sz l) (hT : Tabs w) :
    Calls Tryd.prog 6 #[.agg #[.slice ad l.length c, .int .i64 since], .int .i64 a, .int .i64 b, .int .i64 now] w fun e w' => e = .returned (.bool (fiB l since a b now)) ∧ Below w.heap.size w w' := by
  have B0 := below1 w (.cells #[.slice ad l.length c, .int .i64 since] 24)
  have HF := Lib.hid (rfit_any l ad c since a _ hl (Mw.below hI B0) hz (hT.below B0))
  clear hI hz hT
  unfold fiB
  by_cases h1 : ¬ (1 ≤ a)
  · have e1 : decide (1 ≤ a) = false := by simpa using h1
    rw [e1]
    go_enter Tryd.func6, Tryd.ntmps6
    go_wp2_with fail
    go_ret
    exact ⟨rfl, B0⟩
  replace h1 : 1 ≤ a := Decidable.of_not_not h1
  have eh1 : decide (1 ≤ a) = true := by simpa using h1
  rw [eh1]
  by_cases h2 : ¬ (a ≤ 1000)
  · have e1 : decide (a ≤ 1000) = false := by simpa using h2
    rw [e1]
    go_enter Tryd.func6, Tryd.ntmps6
    go_wp2_with fail
    go_ret
    exact ⟨rfl, B0⟩
  replace h2 : a ≤ 1000 := Decidable.of_not_not h2
  have eh2 : decide (a ≤ 1000) = true := by simpa using h2
  rw [eh2]
  by_cases h3 : ¬ (0 ≤ b)
  · have e1 : decide (0 ≤ b) = false := by simpa using h3
    rw [e1]
    go_enter Tryd.func6, Tryd.ntmps6
    go_wp2_with fail
    go_ret
    exact ⟨rfl, B0⟩
  replace h3 : 0 ≤ b := Decidable.of_not_not h3
  have eh3 : decide (0 ≤ b) = true := by simpa using h3
  rw [eh3]
  by_cases h4 : ¬ (b ≤ 1000000)
  · have e1 : decide (b ≤ 1000000) = false := by simpa using h4
    rw [e1]
    go_enter Tryd.func6, Tryd.ntmps6
    go_wp2_with fail
    go_ret
    exact ⟨rfl, B0⟩
  replace h4 : b ≤ 1000000 := Decidable.of_not_not h4
  have eh4 : decide (b ≤ 1000000) = true := by simpa using h4
  rw [eh4]
  by_cases h5 : ¬ (0 ≤ now)
  · have e1 : decide (0 ≤ now) = false := by simpa using h5
    rw [e1]
    go_enter Tryd.func6, Tryd.ntmps6
    go_wp2_with fail
    go_ret
    exact ⟨rfl, B0⟩
  replace h5 : 0 ≤ now := Decidable.of_not_not h5
  have eh5 : decide (0 ≤ now) = true := by simpa using h5
  rw [eh5]
  by_cases h6 : ¬ (now ≤ 1099511627776)
  · have e1 : decide (now ≤ 1099511627776) = false := by simpa using h6
    rw [e1]
    go_enter Tryd.func6, Tryd.ntmps6
    go_wp2_with fail
    go_ret
    exact ⟨rfl, B0⟩
  replace h6 : now ≤ 1099511627776 := Decidable.of_not_not h6
  have eh6 : decide (now ≤ 1099511627776) = true := by simpa using h6
  rw [eh6]
  go_enter Tryd.func6, Tryd.ntmps6
  go_wp2_with (go_at_call 21; refine HF.out.mono ?_; rintro e w1 ⟨rfl, b1⟩)
  go_ret
  exact ⟨rfl, (B0.trans (b1.mono B0.size))⟩
end Go.Proofs.YtikkedemhcdboaaDoor
