/- The law ShownExactly at every chain that reads: true; what is asked of the world: the table of words as its text lays it. -/
import Derived.Test.YtcbplamomhimiaaDoorLawL
namespace Go.Proofs.YtcbplamomhimiaaDoor
open Go.RowKit

theorem and_no {S j : Nat} (h : S.testBit j = false) : S &&& 2 ^ j = 0 := Nat.eq_of_testBit_eq fun i => by
  rw [Nat.testBit_and, Nat.testBit_two_pow, Nat.zero_testBit]
  by_cases e : j = i
  · subst e; rw [h]; rfl
  · simp [e]
theorem and_yes {S j : Nat} (h : S.testBit j = true) : S &&& 2 ^ j ≠ 0 := fun e => by
  have := congrArg (Nat.testBit · j) e
  simp only [Nat.testBit_and, Nat.testBit_two_pow_self, h, Nat.zero_testBit] at this
  cases this
theorem kp_sub (x : Wr) (b i : Nat) (hb : b < 4294967296) (h : (kp x b).testBit i = true) : b.testBit i = true := by
  unfold kp at h
  have ha : ∀ y, y < 4294967296 → ∀ z, (andN y z).testBit i = true → y.testBit i = true := fun y hy z hq => by rw [bit_andN _ _ hy] at hq; simp at hq; exact hq.1
  split at h
  · exact ha _ hb _ (ha _ (andN_lt _ _ hb) _ h)
  · split at h
    · rw [Nat.testBit_and] at h; simp at h; exact ha _ hb _ h.1
    · split at h
      · simp at h
      · exact ha _ hb _ h
/-- SHOWN EXACTLY, of the first j wrappers. -/
theorem exact_at {c : Nat} (hc : c < 2048) (qs : List Wq) (hq : ∀ q ∈ qs, okr q.x) (k : Nat) (hk : k < 11) : ∀ j, j ≤ qs.length → (sh c (rv qs j)).testBit k = true →
    an (rv qs j) k ≤ j ∧ (an (rv qs j) k = 0 → c.testBit k = true) ∧ (∀ a (h : a < qs.length), an (rv qs j) k = a + 1 → (giv qs[a].x).testBit k = true) ∧ ∀ i, an (rv qs j) k ≤ i → i ≤ j → (sh c (rv qs i)).testBit k = true
  | 0, _, h => ⟨Nat.le_refl _, fun _ => h, fun a _ e => (by cases e), fun i _ h2 => (by obtain rfl : i = 0 := (by omega); exact h)⟩
  | j + 1, hj, h => by
    have hlt : j < qs.length := by omega
    have hcp : ∀ x ∈ rv qs j, x.cp < 1024 := fun x hx => by obtain ⟨q, hq', rfl⟩ := rv_mem qs j x hx; exact (hq q hq').2.2
    have hsl := sh_lt hc hcp
    have e : an (rv qs (j + 1)) k = if hs (giv qs[j].x) k = true then j + 1 else an (rv qs j) k := by
      rw [rv_succ qs j hlt]; show (if _ then (rv qs j).length + 1 else _) = _; rw [rv_len qs j (by omega)]
    rw [hs_nat _ k hk] at e
    have hs' := h
    rw [rv_succ qs j hlt] at hs'
    change (kp qs[j].x (sh c (rv qs j)) ||| giv qs[j].x).testBit k = true at hs'
    rw [Nat.testBit_or] at hs'
    cases hg : (giv qs[j].x).testBit k with
    | true =>
      rw [hg, if_pos rfl] at e
      rw [e]
      refine ⟨Nat.le_refl _, fun h => by omega, fun a ha h => ?_, fun i h1 h2 => ?_⟩
      · obtain rfl : a = j := by omega
        exact hg
      · obtain rfl : i = j + 1 := by omega
        exact h
    | false =>
      rw [hg, if_neg (by simp)] at e
      rw [hg, Bool.or_false] at hs'
      obtain ⟨a1, a2, a3, a4⟩ := exact_at hc qs hq k hk j (by omega) (kp_sub _ _ _ (by omega) hs')
      rw [e]
      refine ⟨by omega, a2, a3, fun i h1 h2 => ?_⟩
      rcases Nat.lt_or_ge i (j + 1) with h3 | h3
      · exact a4 i h1 (by omega)
      · obtain rfl : i = j + 1 := by omega
        exact h
theorem rch_who {c : Nat} {ws : List Wr} {k : Int} (h : 0 ≤ who c ws k) : rch c ws k = who c ws k := by
  cases ws with
  | nil => rfl
  | cons x r => unfold rch; rw [if_pos h]

set_option maxRecDepth 100000 in
set_option maxHeartbeats 4000000 in
theorem law_exactly (op num : Int) (c : Nat) (qs : List Wq) (ad : Option Addr) (cap n : Nat) (w : World) (h : ChR w c ad qs cap n) (hN : Wds w) :
    Calls Tryd.prog 5 #[.agg #[.int .i64 op, .int .i64 num, .int .u32 (c : Nat), .slice ad qs.length cap]] w fun e w' => e = .returned (.bool true) ∧ Below w.heap.size w w' := by
  have b0 := On.start w (.cells #[.int .i64 op, .int .i64 num, .int .u32 (c : Nat), .slice ad qs.length cap] 28)
  have HS : Hid (∀ wx, On w (.cells #[.int .i64 op, .int .i64 num, .int .u32 (c : Nat), .slice ad qs.length cap] 28) wx → wx.cell? ⟨w.heap.size, 0, none⟩ = some (.int .i64 op) ∧ wx.cell? ⟨w.heap.size, 1, none⟩ = some (.int .i64 num) ∧ wx.cell? ⟨w.heap.size, 2, none⟩ = some (.int .u32 (c : Nat)) ∧ wx.cell? ⟨w.heap.size, 3, none⟩ = some (.slice ad qs.length cap)) := fun wx h => ⟨h.cell 0, h.cell 1, h.cell 2, h.cell 3⟩
  have KA : Hid (∀ wx, On w (.cells #[.int .i64 op, .int .i64 num, .int .u32 (c : Nat), .slice ad qs.length cap] 28) wx → Calls Tryd.prog 10 #[] wx fun e w' => e = .returned (.bool true) ∧ On w (.cells #[.int .i64 op, .int .i64 num, .int .u32 (c : Nat), .slice ad qs.length cap] 28) w') := fun wx hx => (awake_any wx (hN.below hx.below)).mono fun e w' ⟨a, b⟩ => ⟨a, hx.step b⟩
  have KC : Hid (∀ wx, On w (.cells #[.int .i64 op, .int .i64 num, .int .u32 (c : Nat), .slice ad qs.length cap] 28) wx → Calls Tryd.prog 9 #[.agg #[.int .i64 op, .int .i64 num, .int .u32 (c : Nat), .slice ad qs.length cap]] wx fun e w' => ∃ b, e = .returned (.bool b) ∧ (b = true → ChOk w c ad qs ∧ qs.length ≤ 8) ∧ On w (.cells #[.int .i64 op, .int .i64 num, .int .u32 (c : Nat), .slice ad qs.length cap] 28) w') := fun wx hx => (rchain_any op num c qs ad cap n wx (h.below hx.below)).mono fun e w' ⟨b, a, f, hb⟩ => ⟨b, a, fun hb' => ⟨⟨(f hb').1, (f hb').2.1, by have := (f hb').2.2; omega, h.r, hN⟩, (f hb').2.2⟩, hx.step hb⟩
  clear h hN
  go_enter Tryd.func5, Tryd.ntmps5
  go_wp2_with fail
  refine (KC.out _ b0).mono ?_
  rintro e w1 ⟨bb, rfl, hbb, b1⟩
  obtain ⟨x0, x1, x2, x3⟩ := HS.out _ b1
  cases bb with
  | false =>
    go_wp2_with (first
      | (go_at_call 10; refine (KA.out _ b1).mono ?_; rintro e w2 ⟨rfl, b2⟩))
    go_ret
    exact ⟨rfl, b2.below⟩
  | true =>
    obtain ⟨hok, hl8⟩ := hbb rfl
    clear hbb KC
    have hc10 := hok.c
    have HQ := Lib.hid hok.q
    have HR := Lib.hid hok.r
    have HLT := Lib.hid hok.lt
    have KS : Hid (∀ wx, On w (.cells #[.int .i64 op, .int .i64 num, .int .u32 (c : Nat), .slice ad qs.length cap] 28) wx → Calls Tryd.prog 16 #[.agg #[.int .i64 op, .int .i64 num, .int .u32 (c : Nat), .slice ad qs.length cap]] wx fun e w' => e = .returned (.int .u32 (sh c (rv qs qs.length) : Nat)) ∧ Below wx.heap.size wx w') := fun wx hx => shown_any op num c qs ad cap wx (hok.below hx.below)
    have KW : Hid (∀ (k : Int) wx, On w (.cells #[.int .i64 op, .int .i64 num, .int .u32 (c : Nat), .slice ad qs.length cap] 28) wx → Calls Tryd.prog 20 #[.agg #[.int .i64 op, .int .i64 num, .int .u32 (c : Nat), .slice ad qs.length cap], .int .i64 k] wx fun e w' => e = .returned (.int .i64 (who c (rv qs qs.length) k)) ∧ Below wx.heap.size wx w') := fun k wx hx => pwho_any op num c qs ad cap k wx (hok.below hx.below)
    have KX : Hid (∀ (k : Int) wx, On w (.cells #[.int .i64 op, .int .i64 num, .int .u32 (c : Nat), .slice ad qs.length cap] 28) wx → Calls Tryd.prog 22 #[.agg #[.int .i64 op, .int .i64 num, .int .u32 (c : Nat), .slice ad qs.length cap], .int .i64 k] wx fun e w' => e = .returned (.int .i64 (rch c (rv qs qs.length) k)) ∧ Below wx.heap.size wx w') := fun k wx hx => preach_any op num c qs ad cap k wx (hok.below hx.below)
    have KP : Hid (∀ wx, On w (.cells #[.int .i64 op, .int .i64 num, .int .u32 (c : Nat), .slice ad qs.length cap] 28) wx → Calls Tryd.prog 14 #[.agg #[.int .i64 op, .int .i64 num, .int .u32 (c : Nat), .slice ad qs.length cap]] wx fun e w' => ∃ g cp, e = .returned (.slice (some ⟨g, 0, none⟩) (qs.length + 1) cp) ∧ RowS w' c qs g ∧ On w (.cells #[.int .i64 op, .int .i64 num, .int .u32 (c : Nat), .slice ad qs.length cap] 28) w' ∧ Below wx.heap.size wx w') := fun wx hx => (plevels_any op num c qs ad cap wx (hok.below hx.below)).mono fun e w' ⟨g, cp, a, ho, hb⟩ => ⟨g, cp, a, rowS_of ho, hx.step hb, hb⟩
    clear hok
    go_wp2_with (first
      | (go_at_call 14; refine (KP.out _ b1).mono ?_; rintro e w2 ⟨gl, cl, rfl, hrl, b2, -⟩; have y3 := (HS.out _ b2).2.2.2))
    have HRL := Lib.hid hrl
    clear hrl KP x0 x1 x2 x3 y3 b1 b0
    go_loopw [4] (fun s wr => ∃ (j : Nat), s = .int .i64 j ∧ j ≤ 11 ∧ Below w2.heap.size w2 wr ∧ On w (.cells #[.int .i64 op, .int .i64 num, .int .u32 (c : Nat), .slice ad qs.length cap] 28) wr) (fun s _ => 11 - (intOf s).toNat)
    case atStart => exact ⟨0, rfl, Nat.zero_le _, Below.refl _ _, b2⟩
    case round =>
      obtain ⟨j, rfl, hj, hb2, hb⟩ := hrel
      by_cases hlt : j < 11
      · obtain ⟨x0, x1, x2, x3⟩ := HS.out _ hb
        have KWj := Lib.hid (KW.out (j : Nat) wr hb)
        have KXj := Lib.hid (KX.out (j : Nat))
        have hP := shl_u32 j (by omega)
        have hPl : 2 ^ j < 4294967296 := by have : 2 ^ j < 2 ^ 32 := Nat.pow_lt_pow_right (by decide) (by omega); exact this
        have hSl := HLT.out qs.length
        have eS := (u32_bits (sh c (rv qs qs.length)) (2 ^ j) (by omega) hPl).1
        have hj1 : ((j : Nat) : Int) < 11 := by omega
        have hj0 : (0 : Int) ≤ ((j : Nat) : Int) := by omega
        have HST : Hid (∀ wx, On w (.cells #[.int .i64 op, .int .i64 num, .int .u32 (c : Nat), .slice ad qs.length cap] 28) wx → wx.cell? ⟨w.heap.size, 0, none⟩ = some (.int .i64 op) ∧ wx.cell? ⟨w.heap.size, 1, none⟩ = some (.int .i64 num) ∧ wx.cell? ⟨w.heap.size, 2, none⟩ = some (.int .u32 (c : Nat)) ∧ wx.cell? ⟨w.heap.size, 3, none⟩ = some (.slice ad qs.length cap) ∧ w.heap.size < wx.heap.size) := fun wx h => by obtain ⟨a, b, c, d⟩ := HS.out wx h; exact ⟨a, b, c, d, by have := h.size; omega⟩
        cases hbit : (sh c (rv qs qs.length)).testBit j with
        | false =>
          have hw : who c (rv qs qs.length) (j : Nat) = -1 := by unfold who; rw [hs_nat _ j hlt, hbit]; rfl
          rw [hw] at KWj
          rw [and_no hbit] at eS
          clear hw hbit KXj KX KW
          generalize sh c (rv qs qs.length) = S at eS KS
          generalize 2 ^ j = P at hP eS hPl
          go_wp2_with (first
            | (go_at_call 20; refine KWj.out.mono ?_; rintro e w3 ⟨rfl, e3⟩; have b3 := hb.step e3; have B3 := hb2.trans (e3.mono hb2.size); obtain ⟨y0, y1, y2, y3⟩ := HS.out _ b3)
            | (go_at_call 16; refine (KS.out _ b3).mono ?_; rintro e w4 ⟨rfl, e4⟩; have b4 := b3.step e4; have B4 := B3.trans (e4.mono B3.size); obtain ⟨z0, z1, z2, z3⟩ := HS.out _ b4))
          exact ⟨⟨j + 1, by go_num, by omega, B4, b4⟩, by simp [intOf] <;> omega⟩
        | true =>
          obtain ⟨p1, p2, p3, p4⟩ := exact_at (show c < 2048 by omega) qs HQ.out j hlt qs.length (Nat.le_refl _) hbit
          have hw : who c (rv qs qs.length) (j : Nat) = (an (rv qs qs.length) (j : Nat) : Nat) := by unfold who; rw [hs_nat _ j hlt, hbit]; rfl
          have hr : rch c (rv qs qs.length) (j : Nat) = (an (rv qs qs.length) (j : Nat) : Nat) := by rw [rch_who (by rw [hw]; omega), hw]
          rw [hw] at KWj
          rw [hr] at KXj
          have nS := and_yes hbit
          have P4 := Lib.hid p4
          clear hw hr hbit KX KW p4
          generalize an (rv qs qs.length) (j : Nat) = a at KWj KXj p1 p2 p3 P4
          have eL : Hid (∀ i, (bits .and .u32 ((sh c (rv qs i) : Nat) : Int) ((2 ^ j : Nat) : Int)) = ((sh c (rv qs i) &&& 2 ^ j : Nat) : Int)) := Lib.hid (fun i => (u32_bits (sh c (rv qs i)) (2 ^ j) (by have := HLT.out i; omega) hPl).1)
          have nL : Hid (∀ i, a ≤ i → i ≤ qs.length → sh c (rv qs i) &&& 2 ^ j ≠ 0) := Lib.hid (fun i h1 h2 => and_yes (P4.out i h1 h2))
          generalize hSS : sh c (rv qs qs.length) = S at eS KS nS hSl
          clear hSS P4
          have q1 : (((S &&& 2 ^ j : Nat) : Int) == 0) = false := by simp; omega
          have q2 : (((S &&& 2 ^ j : Nat) : Int) != 0) = true := by simp; omega
          have a1 : ((a : Nat) : Int) ≤ (qs.length : Int) := by omega
          have a0 : (0 : Int) ≤ ((a : Nat) : Int) := by omega
          have a2 : ¬ ((a : Nat) : Int) < -1 := by omega
          have a3 : ¬ ((a : Nat) : Int) < 0 := by omega
          have a4 : ¬ (qs.length : Int) < ((a : Nat) : Int) := by omega
          cases a with
          | zero =>
            have eC := (u32_bits c (2 ^ j) (by omega) hPl).1
            have nC := and_yes (p2 rfl)
            have q3 : (((c &&& 2 ^ j : Nat) : Int) == 0) = false := by simp; omega
            clear p1 p2 p3 nS nC
            generalize hcP : c &&& 2 ^ j = cP at eC q3
            generalize hSP : S &&& 2 ^ j = SP at eS q1 q2
            clear hcP hSP
            generalize 2 ^ j = P at hP eS hPl eC eL nL
            go_wp2_with (first
              | (go_at_call 20; refine KWj.out.mono ?_; rintro e w3 ⟨rfl, e3⟩; have b3 := hb.step e3; have B3 := hb2.trans (e3.mono hb2.size); obtain ⟨y0, y1, y2, y3⟩ := HS.out _ b3)
              | (go_at_call 16; refine (KS.out _ b3).mono ?_; rintro e w4 ⟨rfl, e4⟩; have b4 := b3.step e4; have B4 := B3.trans (e4.mono B3.size); obtain ⟨z0, z1, z2, z3⟩ := HS.out _ b4)
              | (go_at_call 22; refine (KXj.out _ b4).mono ?_; rintro e w5 ⟨rfl, e5⟩; have b5 := b4.step e5; have B5 := B4.trans (e5.mono B4.size); obtain ⟨v0, v1, v2, v3⟩ := HS.out _ b5))
            go_loopw [7] (fun s wq => ∃ (i : Nat), s = .int .i64 i ∧ 0 ≤ i ∧ i ≤ qs.length + 1 ∧ wq = w5) (fun s _ => qs.length + 1 - (intOf s).toNat)
            case atStart => exact ⟨0, rfl, Nat.le_refl _, by omega, rfl⟩
            case round =>
              obtain ⟨i, rfl, hi1, hi2, rfl⟩ := hrel
              by_cases hil : i < qs.length + 1
              · have l1 := (HRL.out.below B5).2 i hil
                have l2 := eL.out i
                have l3 := nL.out i hi1 (by omega)
                have l4 : (((sh c (rv qs i) &&& P : Nat) : Int) == 0) = false := by simp; omega
                clear l3
                generalize hSP' : sh c (rv qs i) &&& P = SP' at l2 l4
                generalize sh c (rv qs i) = Si at l1 l2 hSP'
                clear hSP'
                have i1 : ((i : Nat) : Int) < (qs.length : Int) + 1 := by omega
                have i0 : (0 : Int) ≤ ((i : Nat) : Int) := by omega
                go_wp2
                exact ⟨⟨i + 1, by go_num, by omega, by omega, by first | rfl | trivial⟩, by simp [intOf] <;> omega⟩
              · go_wp2
                exact ⟨⟨j + 1, by go_num, by omega, B5, b5⟩, by simp [intOf] <;> omega⟩
          | succ a =>
            have hin : a < qs.length := by omega
            have hne : qs ≠ [] := by intro e; rw [e] at hin; exact absurd hin (Nat.not_lt_zero _)
            have nG := and_yes (p3 a hin rfl)
            rcases HR.out with hk | ⟨gw, ow, hk1, hk2, hk3⟩
            · exact absurd hk hne
            subst hk1
            have hk4 := hk3 a _ (List.getElem?_eq_getElem hin)
            have hokr := HQ.out qs[a] (List.getElem_mem hin)
            clear p1 p2 p3 nS
            generalize qs[a] = q at hk4 hokr nG
            obtain ⟨⟨qo, qc, qn⟩, qA, qB, q0, qq, qa, ql, qcc⟩ := q
            have X : Hid (∀ wx, On w (.cells #[.int .i64 op, .int .i64 num, .int .u32 (c : Nat), .slice (some ⟨gw, ow, none⟩) qs.length cap] 28) wx → wx.cell? ⟨gw, ow + a * 8, none⟩ = some (.int .i64 qo) ∧ wx.cell? ⟨gw, ow + a * 8 + 1, none⟩ = some (.int .i64 qA) ∧ wx.cell? ⟨gw, ow + a * 8 + 2, none⟩ = some (.int .i64 qB) ∧ wx.cell? ⟨gw, ow + a * 8 + 3, none⟩ = some (.int .u32 (qc : Nat)) ∧ wx.cell? ⟨gw, ow + a * 8 + 4, none⟩ = some (.int .i64 q0) ∧ wx.cell? ⟨gw, ow + a * 8 + 5, none⟩ = some (.int .i64 qq) ∧ wx.cell? ⟨gw, ow + a * 8 + 6, none⟩ = some (.slice qa ql qcc) ∧ wx.cell? ⟨gw, ow + a * 8 + 7, none⟩ = some (.bool qn)) := fun wx hx => by
              have X : ∀ m, m < 8 → wx.cell? ⟨gw, ow + a * 8 + m, none⟩ = _ := fun m hm => (hx.below.cell (p := ⟨gw, _, none⟩) hk2).trans (hk4 m hm)
              exact ⟨X 0 (by decide), X 1 (by decide), X 2 (by decide), X 3 (by decide), X 4 (by decide), X 5 (by decide), X 6 (by decide), X 7 (by decide)⟩
            have KG : Hid (∀ wx, Calls Tryd.prog 11 #[.agg #[.int .i64 qo, .int .i64 qA, .int .i64 qB, .int .u32 (qc : Nat), .int .i64 q0, .int .i64 qq, .slice qa ql qcc, .bool qn]] wx fun e w' => e = .returned (.int .u32 (giv ⟨qo, qc, qn⟩ : Nat)) ∧ Below wx.heap.size wx w') := fun wx => pgives_any ⟨qo, qc, qn⟩ hokr qA qB q0 qq qa ql qcc wx
            have hgl : giv ⟨qo, qc, qn⟩ < 2048 := giv_lt hokr.2.2
            have eG := (u32_bits (giv ⟨qo, qc, qn⟩) (2 ^ j) (by omega) hPl).1
            simp only at nG
            have q3 : (((giv ⟨qo, qc, qn⟩ &&& 2 ^ j : Nat) : Int) == 0) = false := by simp; omega
            clear nG hk3 hk4 hokr
            generalize hGP : giv ⟨qo, qc, qn⟩ &&& 2 ^ j = GP at eG q3
            generalize giv ⟨qo, qc, qn⟩ = G at KG eG hGP hgl
            generalize hSP : S &&& 2 ^ j = SP at eS q1 q2
            clear hGP hSP
            generalize 2 ^ j = P at hP eS hPl eG eL nL
            have a5 : ((a : Nat) : Int) < (qs.length : Int) := by omega
            have a6 : (0 : Int) ≤ ((a : Nat) : Int) := by omega
            have a7 : ¬ ((a : Nat) : Int) + 1 = 0 := by omega
            have a8 : (0 : Int) < ((a : Nat) : Int) + 1 := by omega
            have a9 : (((a : Nat) : Int) + 1 == 0) = false := by simp; omega
            go_wp2_with (first
              | (go_at_call 20; refine KWj.out.mono ?_; rintro e w3 ⟨rfl, e3⟩; have b3 := hb.step e3; have B3 := hb2.trans (e3.mono hb2.size); obtain ⟨y0, y1, y2, y3⟩ := HS.out _ b3)
              | (go_at_call 16; refine (KS.out _ b3).mono ?_; rintro e w4 ⟨rfl, e4⟩; have b4 := b3.step e4; have B4 := B3.trans (e4.mono B3.size); obtain ⟨z0, z1, z2, z3⟩ := HS.out _ b4; obtain ⟨k0, k1, k2, k3, k4, k5, k6, k7⟩ := X.out _ b4)
              | (go_at_call 11; refine (KG.out _).mono ?_; rintro e w6 ⟨rfl, e6⟩; have b6 := b4.step e6; have B6 := B4.trans (e6.mono B4.size); obtain ⟨u0, u1, u2, u3⟩ := HS.out _ b6)
              | (go_at_call 22; refine (KXj.out _ b6).mono ?_; rintro e w5 ⟨rfl, e5⟩; have b5 := b6.step e5; have B5 := B6.trans (e5.mono B6.size); obtain ⟨v0, v1, v2, v3⟩ := HS.out _ b5))
            go_loopw [7] (fun s wq => ∃ (i : Nat), s = .int .i64 i ∧ (a + 1) ≤ i ∧ i ≤ qs.length + 1 ∧ wq = w5) (fun s _ => qs.length + 1 - (intOf s).toNat)
            case atStart => exact ⟨(a + 1), rfl, Nat.le_refl _, by omega, rfl⟩
            case round =>
              obtain ⟨i, rfl, hi1, hi2, rfl⟩ := hrel
              by_cases hil : i < qs.length + 1
              · have l1 := (HRL.out.below B5).2 i hil
                have l2 := eL.out i
                have l3 := nL.out i hi1 (by omega)
                have l4 : (((sh c (rv qs i) &&& P : Nat) : Int) == 0) = false := by simp; omega
                clear l3
                generalize hSP' : sh c (rv qs i) &&& P = SP' at l2 l4
                generalize sh c (rv qs i) = Si at l1 l2 hSP'
                clear hSP'
                have i1 : ((i : Nat) : Int) < (qs.length : Int) + 1 := by omega
                have i0 : (0 : Int) ≤ ((i : Nat) : Int) := by omega
                go_wp2
                exact ⟨⟨i + 1, by go_num, by omega, by omega, by first | rfl | trivial⟩, by simp [intOf] <;> omega⟩
              · go_wp2
                exact ⟨⟨j + 1, by go_num, by omega, B5, b5⟩, by simp [intOf] <;> omega⟩
      · have hje : j = 11 := by omega
        subst hje
        go_wp2_with (first
          | (go_at_call 10; refine (KA.out _ hb).mono ?_; rintro e w3 ⟨rfl, b3⟩))
        go_ret
        exact ⟨rfl, b3.below⟩
end Go.Proofs.YtcbplamomhimiaaDoor
