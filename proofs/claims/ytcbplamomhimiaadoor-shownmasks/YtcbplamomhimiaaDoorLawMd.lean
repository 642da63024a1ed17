/- The law ShownMasks at every chain that reads, and every two sets: true; what is asked of the world: the table of words as its text lays it. -/
import Derived.Test.YtcbplamomhimiaaDoorLawMc
namespace Go.Proofs.YtcbplamomhimiaaDoor
open Go.RowKit

def okm (o : Int) (c : Nat) : Prop := (o = 2 ∨ o = 4) ∧ c < 1024
theorem okm.m {c : Nat} (h : c < 1024) : okm 2 c := ⟨.inl rfl, h⟩
theorem okm.g {c : Nat} (h : c < 1024) : okm 4 c := ⟨.inr rfl, h⟩
theorem okm.all : okm 2 1023 := ⟨.inl rfl, by decide⟩
theorem okm.okr {o : Int} {c : Nat} (h : okm o c) : okr (wq1 o c).x := by
  obtain ⟨h1, h2⟩ := h
  rcases h1 with rfl | rfl
  · exact ⟨by show (1 : Int) ≤ 2; decide, by show (2 : Int) ≤ 12; decide, h2⟩
  · exact ⟨by show (1 : Int) ≤ 4; decide, by show (4 : Int) ≤ 12; decide, h2⟩
set_option maxRecDepth 100000 in
set_option maxHeartbeats 4000000 in
theorem law_masks (op num : Int) (c : Nat) (qs : List Wq) (ad : Option Addr) (cap n : Nat) (a0 : Nat) (ha0 : a0 < 4294967296) (b00 : Nat) (hb00 : b00 < 4294967296) (w : World) (h : ChR w c ad qs cap n) (hN : Wds w) :
    Calls Tryd.prog 8 #[.agg #[.int .i64 op, .int .i64 num, .int .u32 (c : Nat), .slice ad qs.length cap], .int .u32 (a0 : Nat), .int .u32 (b00 : Nat)] w fun e w' => e = .returned (.bool true) ∧ Below w.heap.size w w' := by
  have b0 := On.start w (.cells #[.int .i64 op, .int .i64 num, .int .u32 (c : Nat), .slice ad qs.length cap] 28)
  have HS : Hid (∀ wx, On w (.cells #[.int .i64 op, .int .i64 num, .int .u32 (c : Nat), .slice ad qs.length cap] 28) wx → wx.cell? ⟨w.heap.size, 0, none⟩ = some (.int .i64 op) ∧ wx.cell? ⟨w.heap.size, 1, none⟩ = some (.int .i64 num) ∧ wx.cell? ⟨w.heap.size, 2, none⟩ = some (.int .u32 (c : Nat)) ∧ wx.cell? ⟨w.heap.size, 3, none⟩ = some (.slice ad qs.length cap)) := fun wx h => ⟨h.cell 0, h.cell 1, h.cell 2, h.cell 3⟩
  have KA : Hid (∀ wx, On w (.cells #[.int .i64 op, .int .i64 num, .int .u32 (c : Nat), .slice ad qs.length cap] 28) wx → Calls Tryd.prog 10 #[] wx fun e w' => e = .returned (.bool true) ∧ On w (.cells #[.int .i64 op, .int .i64 num, .int .u32 (c : Nat), .slice ad qs.length cap] 28) w') := fun wx hx => (awake_any wx (hN.below hx.below)).mono fun e w' ⟨a, b⟩ => ⟨a, hx.step b⟩
  have KC : Hid (∀ wx, On w (.cells #[.int .i64 op, .int .i64 num, .int .u32 (c : Nat), .slice ad qs.length cap] 28) wx → Calls Tryd.prog 9 #[.agg #[.int .i64 op, .int .i64 num, .int .u32 (c : Nat), .slice ad qs.length cap]] wx fun e w' => ∃ b, e = .returned (.bool b) ∧ (b = true → ChOk w c ad qs ∧ qs.length ≤ 8) ∧ On w (.cells #[.int .i64 op, .int .i64 num, .int .u32 (c : Nat), .slice ad qs.length cap] 28) w') := fun wx hx => (rchain_any op num c qs ad cap n wx (h.below hx.below)).mono fun e w' ⟨b, a, f, hb⟩ => ⟨b, a, fun hb' => ⟨⟨(f hb').1, (f hb').2.1, by have := (f hb').2.2; omega, h.r, hN⟩, (f hb').2.2⟩, hx.step hb⟩
  clear h hN
  have e1 : bits .and .u32 (a0 : Int) 1023 = ((a0 &&& 1023 : Nat) : Int) := (u32_bits a0 1023 ha0 (by decide)).1
  have e2 : bits .and .u32 (b00 : Int) 1023 = ((b00 &&& 1023 : Nat) : Int) := (u32_bits b00 1023 hb00 (by decide)).1
  have ha : a0 &&& 1023 < 1024 := Nat.lt_of_le_of_lt Nat.and_le_right (by decide)
  have hb : b00 &&& 1023 < 1024 := Nat.lt_of_le_of_lt Nat.and_le_right (by decide)
  generalize a0 &&& 1023 = a at e1 ha
  generalize b00 &&& 1023 = b at e2 hb
  have e3 := (u32_bits a b (by omega) (by omega)).1
  have hab : a &&& b < 1024 := and_lt a b _ ha
  go_enter Tryd.func8, Tryd.ntmps8
  go_wp2_with fail
  refine (KC.out _ b0).mono ?_
  rintro e w1 ⟨bb, rfl, hbb, b1⟩
  obtain ⟨x0, x1, x2, x3⟩ := HS.out _ b1
  cases bb with
  | false =>
    go_wp2_with (first
      | (go_at_call 10; refine (KA.out _ b1).mono ?_; rintro e w2 ⟨rfl, b2⟩))
    go_ret
    exact ⟨rfl, b2.below⟩
  | true =>
    obtain ⟨hok, hl8⟩ := hbb rfl
    clear hbb KC
    by_cases hlen : 8 < qs.length + 2
    · have q : (8 : Int) < (qs.length : Int) + 2 := by omega
      go_wp2_with (first
        | (go_at_call 10; refine (KA.out _ b1).mono ?_; rintro e w2 ⟨rfl, b2⟩))
      go_ret
      exact ⟨rfl, b2.below⟩
    have ql : ¬ (8 : Int) < (qs.length : Int) + 2 := by omega
    by_cases za : a = 0
    · have q : (((a : Nat) : Int) == 0) = true := by simp; omega
      clear za
      go_wp2_with (first
        | (go_at_call 10; refine (KA.out _ b1).mono ?_; rintro e w2 ⟨rfl, b2⟩))
      go_ret
      exact ⟨rfl, b2.below⟩
    have qa : (((a : Nat) : Int) == 0) = false := by simp; omega
    by_cases zb : b = 0
    · have q : (((b : Nat) : Int) == 0) = true := by simp; omega
      clear zb
      go_wp2_with (first
        | (go_at_call 10; refine (KA.out _ b1).mono ?_; rintro e w2 ⟨rfl, b2⟩))
      go_ret
      exact ⟨rfl, b2.below⟩
    have qb : (((b : Nat) : Int) == 0) = false := by simp; omega
    by_cases zc : a &&& b = 0
    · have q : (((a &&& b : Nat) : Int) == 0) = true := by simp; omega
      clear zc za zb
      go_wp2_with (first
        | (go_at_call 10; refine (KA.out _ b1).mono ?_; rintro e w2 ⟨rfl, b2⟩))
      go_ret
      exact ⟨rfl, b2.below⟩
    have qc : (((a &&& b : Nat) : Int) == 0) = false := by simp; omega
    have hSl := hok.lt qs.length
    have KM : Hid (∀ (x : Nat) wx, On w (.cells #[.int .i64 op, .int .i64 num, .int .u32 (c : Nat), .slice ad qs.length cap] 28) wx → Calls Tryd.prog 26 #[.int .u32 (x : Nat)] wx fun e w' => e = .returned (.agg #[.int .i64 2, .int .i64 0, .int .i64 0, .int .u32 (x : Nat), .int .i64 0, .int .i64 0, .slice none 0 0, .bool false]) ∧ On w (.cells #[.int .i64 op, .int .i64 num, .int .u32 (c : Nat), .slice ad qs.length cap] 28) w') := fun x wx hx => (mask_f x wx).mono fun e w' ⟨a, b⟩ => ⟨a, hx.step b⟩
    have KG : Hid (∀ (x : Nat) wx, On w (.cells #[.int .i64 op, .int .i64 num, .int .u32 (c : Nat), .slice ad qs.length cap] 28) wx → Calls Tryd.prog 27 #[.int .u32 (x : Nat)] wx fun e w' => e = .returned (.agg #[.int .i64 4, .int .i64 0, .int .i64 0, .int .u32 (x : Nat), .int .i64 0, .int .i64 0, .slice none 0 0, .bool false]) ∧ On w (.cells #[.int .i64 op, .int .i64 num, .int .u32 (c : Nat), .slice ad qs.length cap] 28) w') := fun x wx hx => (give_f x wx).mono fun e w' ⟨a, b⟩ => ⟨a, hx.step b⟩
    have KS : Hid (∀ wx, On w (.cells #[.int .i64 op, .int .i64 num, .int .u32 (c : Nat), .slice ad qs.length cap] 28) wx → Calls Tryd.prog 16 #[.agg #[.int .i64 op, .int .i64 num, .int .u32 (c : Nat), .slice ad qs.length cap]] wx fun e w' => e = .returned (.int .u32 (sh c (rv qs qs.length) : Nat)) ∧ On w (.cells #[.int .i64 op, .int .i64 num, .int .u32 (c : Nat), .slice ad qs.length cap] 28) w') := fun wx hx => (shown_any op num c qs ad cap wx (hok.below hx.below)).mono fun e w' ⟨a, b⟩ => ⟨a, hx.step b⟩
    have KW1 : Hid (∀ (o : Int) (x : Nat) wp, On w (.cells #[.int .i64 op, .int .i64 num, .int .u32 (c : Nat), .slice ad qs.length cap] 28) wp → okm o x → Calls Tryd.prog 25 #[.slice (some ⟨wp.heap.size, 0, none⟩) 1 1, .pointer (some ⟨w.heap.size, 0, none⟩)] (wp.alloc (.cells #[.int .i64 o, .int .i64 0, .int .i64 0, .int .u32 (x : Nat), .int .i64 0, .int .i64 0, .slice none 0 0, .bool false] 35)) fun e w' => e = .returned (.int .u32 (sone (sh c (rv qs qs.length)) o x : Nat)) ∧ On w (.cells #[.int .i64 op, .int .i64 num, .int .u32 (c : Nat), .slice ad qs.length cap] 28) w') := fun o x wp hx ho => by
      have hy := hx.step (below1 wp (.cells #[.int .i64 o, .int .i64 0, .int .i64 0, .int .u32 (x : Nat), .int .i64 0, .int .i64 0, .slice none 0 0, .bool false] 35))
      obtain ⟨y0, y1, y2, y3⟩ := HS.out _ hy
      have := with_all op num c qs [wq1 o x] ad cap w.heap.size wp.heap.size 1 _ (hok.below hy.below) hl8 (by simp) (by simp) (fun q hq => by simp at hq; subst hq; exact ho.okr) (wrow1 (heap_alloc_new wp _)) y0 y1 y2 y3
      rw [show qs.length + [wq1 o x].length = qs.length + 1 from rfl, rv_one] at this
      exact this.mono fun e w' ⟨a, b⟩ => ⟨a, hy.step b⟩
    have KW2 : Hid (∀ (o : Int) (x : Nat) (p : Int) (y : Nat) wp, On w (.cells #[.int .i64 op, .int .i64 num, .int .u32 (c : Nat), .slice ad qs.length cap] 28) wp → okm o x → okm p y → Calls Tryd.prog 25 #[.slice (some ⟨wp.heap.size, 0, none⟩) 2 2, .pointer (some ⟨w.heap.size, 0, none⟩)] (wp.alloc (.cells #[.int .i64 o, .int .i64 0, .int .i64 0, .int .u32 (x : Nat), .int .i64 0, .int .i64 0, .slice none 0 0, .bool false, .int .i64 p, .int .i64 0, .int .i64 0, .int .u32 (y : Nat), .int .i64 0, .int .i64 0, .slice none 0 0, .bool false] 35)) fun e w' => e = .returned (.int .u32 (sone (sone (sh c (rv qs qs.length)) o x) p y : Nat)) ∧ On w (.cells #[.int .i64 op, .int .i64 num, .int .u32 (c : Nat), .slice ad qs.length cap] 28) w') := fun o x p y wp hx ho hp => by
      have hy := hx.step (below1 wp (.cells #[.int .i64 o, .int .i64 0, .int .i64 0, .int .u32 (x : Nat), .int .i64 0, .int .i64 0, .slice none 0 0, .bool false, .int .i64 p, .int .i64 0, .int .i64 0, .int .u32 (y : Nat), .int .i64 0, .int .i64 0, .slice none 0 0, .bool false] 35))
      obtain ⟨y0, y1, y2, y3⟩ := HS.out _ hy
      have := with_all op num c qs [wq1 o x, wq1 p y] ad cap w.heap.size wp.heap.size 2 _ (hok.below hy.below) hl8 (by simp) (by simp) (fun q hq => by simp at hq; rcases hq with rfl | rfl; exact ho.okr; exact hp.okr) (wrow2 (heap_alloc_new wp _)) y0 y1 y2 y3
      rw [show qs.length + [wq1 o x, wq1 p y].length = qs.length + 2 from rfl, rv_two] at this
      exact this.mono fun e w' ⟨a, b⟩ => ⟨a, hy.step b⟩
    clear hok
    generalize sh c (rv qs qs.length) = S0 at hSl KS KW1 KW2
    have f0 : bits .andNot .u32 (S0 : Int) 1024 = ((andN S0 1024 : Nat) : Int) := (u32_bits S0 1024 (by omega) (by decide)).2.2
    have hs := open_lt hSl
    have m1 : sone S0 2 a = andN S0 1024 &&& a := sone_mask _ _
    have m2 : sone S0 4 a = andN S0 1024 ||| a := sone_give _ _
    have s1 : andN S0 1024 &&& a < 1024 := and_lt _ _ _ hs
    have s2 : andN S0 1024 ||| a < 1024 := or_lt (n := 10) hs ha
    have r1 : sone (sone S0 2 a) 2 b = andN S0 1024 &&& a &&& b := by rw [sone_mask, m1, no_open s1]
    have r2 : sone S0 2 (a &&& b) = andN S0 1024 &&& a &&& b := by rw [sone_mask, Nat.and_assoc]
    have r3 : sone S0 2 1023 = andN S0 1024 := by rw [sone_mask, low_all hs]
    have r4 : sone (sone S0 4 a) 4 b = andN S0 1024 ||| a ||| b := by rw [sone_give, m2, no_open s2]
    have r5 : sone (sone S0 4 a) 2 a = a := by rw [sone_mask, m2, no_open s2]; exact Nat.eq_of_testBit_eq fun i => by rw [Nat.testBit_and, Nat.testBit_or]; cases (andN S0 1024).testBit i <;> cases a.testBit i <;> rfl
    have r6 : sone (sone S0 2 a) 4 b = andN S0 1024 &&& a ||| b := by rw [sone_give, m1, no_open s1]
    have r7 : sone (sone S0 4 a) 4 a = andN S0 1024 ||| a := by rw [sone_give, m2, no_open s2, Nat.or_assoc, Nat.or_self]
    have g1 := (u32_bits (andN S0 1024) a (by omega) (by omega)).1
    have g2 := (u32_bits (andN S0 1024 &&& a) b (by omega) (by omega)).1
    have g3 := (u32_bits (andN S0 1024) a (by omega) (by omega)).2.1
    have g4 := (u32_bits (andN S0 1024 ||| a) b (by omega) (by omega)).2.1
    have g5 := (u32_bits (andN S0 1024 &&& a) b (by omega) (by omega)).2.1
    obtain ⟨R1, hR1⟩ : ∃ R1 : Int → Nat → Nat, R1 = fun o x => sone S0 o x := ⟨_, rfl⟩
    obtain ⟨R2, hR2⟩ : ∃ R2 : Int → Nat → Int → Nat → Nat, R2 = fun o x p y => sone (sone S0 o x) p y := ⟨_, rfl⟩
    have KV1 : Hid (∀ (o : Int) (x : Nat) wp, On w (.cells #[.int .i64 op, .int .i64 num, .int .u32 (c : Nat), .slice ad qs.length cap] 28) wp → okm o x → Calls Tryd.prog 25 #[.slice (some ⟨wp.heap.size, 0, none⟩) 1 1, .pointer (some ⟨w.heap.size, 0, none⟩)] (wp.alloc (.cells #[.int .i64 o, .int .i64 0, .int .i64 0, .int .u32 (x : Nat), .int .i64 0, .int .i64 0, .slice none 0 0, .bool false] 35)) fun e w' => e = .returned (.int .u32 (R1 o x : Nat)) ∧ On w (.cells #[.int .i64 op, .int .i64 num, .int .u32 (c : Nat), .slice ad qs.length cap] 28) w') := by rw [hR1]; exact KW1.out
    have KV2 : Hid (∀ (o : Int) (x : Nat) (p : Int) (y : Nat) wp, On w (.cells #[.int .i64 op, .int .i64 num, .int .u32 (c : Nat), .slice ad qs.length cap] 28) wp → okm o x → okm p y → Calls Tryd.prog 25 #[.slice (some ⟨wp.heap.size, 0, none⟩) 2 2, .pointer (some ⟨w.heap.size, 0, none⟩)] (wp.alloc (.cells #[.int .i64 o, .int .i64 0, .int .i64 0, .int .u32 (x : Nat), .int .i64 0, .int .i64 0, .slice none 0 0, .bool false, .int .i64 p, .int .i64 0, .int .i64 0, .int .u32 (y : Nat), .int .i64 0, .int .i64 0, .slice none 0 0, .bool false] 35)) fun e w' => e = .returned (.int .u32 (R2 o x p y : Nat)) ∧ On w (.cells #[.int .i64 op, .int .i64 num, .int .u32 (c : Nat), .slice ad qs.length cap] 28) w') := by rw [hR2]; exact KW2.out
    have KV0 : Hid (∀ wp, On w (.cells #[.int .i64 op, .int .i64 num, .int .u32 (c : Nat), .slice ad qs.length cap] 28) wp → Calls Tryd.prog 25 #[.slice (some ⟨wp.heap.size, 0, none⟩) 1 1, .pointer (some ⟨w.heap.size, 0, none⟩)] (wp.alloc (.cells #[.int .i64 2, .int .i64 0, .int .i64 0, .int .u32 1023, .int .i64 0, .int .i64 0, .slice none 0 0, .bool false] 35)) fun e w' => e = .returned (.int .u32 (R1 2 1023 : Nat)) ∧ On w (.cells #[.int .i64 op, .int .i64 num, .int .u32 (c : Nat), .slice ad qs.length cap] 28) w') := fun wp hx => KV1.out 2 1023 wp hx okm.all
    replace r1 : R2 2 a 2 b = andN S0 1024 &&& a &&& b := by rw [hR2]; exact r1
    replace r2 : R1 2 (a &&& b) = andN S0 1024 &&& a &&& b := by rw [hR1]; exact r2
    replace r3 : R1 2 1023 = andN S0 1024 := by rw [hR1]; exact r3
    replace r4 : R2 4 a 4 b = andN S0 1024 ||| a ||| b := by rw [hR2]; exact r4
    replace r5 : R2 4 a 2 a = a := by rw [hR2]; exact r5
    replace r6 : R2 2 a 4 b = andN S0 1024 &&& a ||| b := by rw [hR2]; exact r6
    replace r7 : R2 4 a 4 a = andN S0 1024 ||| a := by rw [hR2]; exact r7
    have r8 : R1 4 a = andN S0 1024 ||| a := by rw [hR1]; exact m2
    clear hR1 hR2 m2 KW1 KW2
    clear m1 s1 s2 hl8 hlen za zb zc hs hSl e1 e2 ha0 hb00
    generalize andN S0 1024 = s at *
    go_wp2_with (first
      | (go_at_call 26; refine (KM.out _ _ (by assumption)).mono ?_; rintro e wm ⟨rfl, bm⟩)
      | (go_at_call 27; refine (KG.out _ _ (by assumption)).mono ?_; rintro e wm ⟨rfl, bm⟩)
      | (go_at_call 25; first | (with_reducible refine (KV2.out _ _ _ _ _ (by assumption) (by first | exact okm.m ha | exact okm.m hb | exact okm.g ha | exact okm.g hb | exact okm.m hab | exact okm.all) (by first | exact okm.m ha | exact okm.m hb | exact okm.g ha | exact okm.g hb | exact okm.m hab | exact okm.all)).mono ?_; rintro e wm ⟨rfl, bm⟩) | (with_reducible refine (KV1.out _ _ _ (by assumption) (by first | exact okm.m ha | exact okm.m hb | exact okm.g ha | exact okm.g hb | exact okm.m hab | exact okm.all)).mono ?_; rintro e wm ⟨rfl, bm⟩) | (with_reducible refine (KV0.out _ (by assumption)).mono ?_; rintro e wm ⟨rfl, bm⟩))
      | (go_at_call 10; refine (KA.out _ (by assumption)).mono ?_; rintro e wm ⟨rfl, bm⟩)
      | (go_at_call 16; refine (KS.out _ b1).mono ?_; rintro e wm ⟨rfl, bm⟩))
    go_ret
    exact ⟨rfl, On.below bm⟩
end Go.Proofs.YtcbplamomhimiaaDoor
