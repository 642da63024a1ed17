/- The law ShownLevels at every chain that reads: true; what is asked of the world: the table of words as its text lays it. -/
import Derived.Test.YtcbplamomhimiaaDoorVn
import Derived.Test.YtcbplamomhimiaaDoorVo
namespace Go.Proofs.YtcbplamomhimiaaDoor
open Go.RowKit

/-- What the levels show, in a block. -/
def RowS (W : World) (c : Nat) (qs : List Wq) (g : Nat) : Prop := g < W.heap.size ∧ ∀ j, j < qs.length + 1 → W.cell? ⟨g, j, none⟩ = some (.int .u32 (sh c (rv qs j) : Nat))
theorem RowS.below {W W' : World} {c : Nat} {qs : List Wq} {g : Nat} (h : RowS W c qs g) (hb : Below W.heap.size W W') : RowS W' c qs g :=
  ⟨Nat.lt_of_lt_of_le h.1 hb.size, fun j hj => (hb.cell (p := ⟨g, j, none⟩) h.1).trans (h.2 j hj)⟩
theorem rowS_of {W : World} {c : Nat} {qs : List Wq} {base g cp : Nat} (h : W.ownsRow base 23 1 (.slice (some ⟨g, 0, none⟩) (qs.length + 1) cp) (qs.length + 1) (srow c qs (qs.length + 1))) : RowS W c qs g := by
  have hc : ∀ j, j < qs.length + 1 → W.cell? ⟨g, j, none⟩ = some (.int .u32 (sh c (rv qs j) : Nat)) := fun j hj => own_cell h j _ (srow_at c qs _ j hj)
  exact ⟨World.block_lt_of_cell? W _ (hc 0 (by omega)), hc⟩
set_option maxRecDepth 100000 in
set_option maxHeartbeats 4000000 in
theorem same_any (c : Nat) (qs : List Wq) (g1 cp1 g2 cp2 : Nat) (w : World) (hl : qs.length ≤ 60) (h1 : RowS w c qs g1) (h2 : RowS w c qs g2) :
    Calls Tryd.prog 13 #[.slice (some ⟨g1, 0, none⟩) (qs.length + 1) cp1, .slice (some ⟨g2, 0, none⟩) (qs.length + 1) cp2] w fun e w' => e = .returned (.bool true) ∧ Below w.heap.size w w' := by
  have H1 := Lib.hid h1
  have H2 := Lib.hid h2
  clear h1 h2
  go_enter Tryd.func13, Tryd.ntmps13
  go_wp2
  go_loopw [13] (fun s wr => ∃ (j : Nat), s = .int .i64 j ∧ j ≤ qs.length + 1 ∧ Below w.heap.size w wr) (fun s _ => qs.length + 1 - (intOf s).toNat)
  case atStart => exact ⟨0, rfl, Nat.zero_le _, Below.refl _ _⟩
  case round =>
    obtain ⟨j, rfl, hj, hb⟩ := hrel
    by_cases hlt : j < qs.length + 1
    · have x1 := (H1.out.below hb).2 j hlt
      have x2 := (H2.out.below hb).2 j hlt
      generalize sh c (rv qs j) = S at x1 x2
      have hij : ((j : Nat) : Int) < (qs.length : Int) + 1 := by omega
      have hi0 : (0 : Int) ≤ ((j : Nat) : Int) := by omega
      go_wp2_with fail
      go_quiet (fail)
      go_wp2
      exact ⟨⟨j + 1, by go_num, by omega, by first | exact below_drewN hb _ | exact hb.drew⟩, by simp [intOf] <;> omega⟩
    · have hje : j = qs.length + 1 := by omega
      subst hje
      go_wp2
      go_ret
      exact ⟨rfl, hb⟩

set_option maxRecDepth 100000 in
set_option maxHeartbeats 4000000 in
theorem law_levels (op num : Int) (c : Nat) (qs : List Wq) (ad : Option Addr) (cap n : Nat) (w : World) (h : ChR w c ad qs cap n) (hN : Wds w) :
    Calls Tryd.prog 3 #[.agg #[.int .i64 op, .int .i64 num, .int .u32 (c : Nat), .slice ad qs.length cap]] w fun e w' => e = .returned (.bool true) ∧ Below w.heap.size w w' := by
  have b0 := On.start w (.cells #[.int .i64 op, .int .i64 num, .int .u32 (c : Nat), .slice ad qs.length cap] 28)
  have HS : Hid (∀ wx, On w (.cells #[.int .i64 op, .int .i64 num, .int .u32 (c : Nat), .slice ad qs.length cap] 28) wx → wx.cell? ⟨w.heap.size, 0, none⟩ = some (.int .i64 op) ∧ wx.cell? ⟨w.heap.size, 1, none⟩ = some (.int .i64 num) ∧ wx.cell? ⟨w.heap.size, 2, none⟩ = some (.int .u32 (c : Nat)) ∧ wx.cell? ⟨w.heap.size, 3, none⟩ = some (.slice ad qs.length cap)) := fun wx h => ⟨h.cell 0, h.cell 1, h.cell 2, h.cell 3⟩
  have KA : Hid (∀ wx, On w (.cells #[.int .i64 op, .int .i64 num, .int .u32 (c : Nat), .slice ad qs.length cap] 28) wx → Calls Tryd.prog 10 #[] wx fun e w' => e = .returned (.bool true) ∧ On w (.cells #[.int .i64 op, .int .i64 num, .int .u32 (c : Nat), .slice ad qs.length cap] 28) w') := fun wx hx => (awake_any wx (hN.below hx.below)).mono fun e w' ⟨a, b⟩ => ⟨a, hx.step b⟩
  have KC : Hid (∀ wx, On w (.cells #[.int .i64 op, .int .i64 num, .int .u32 (c : Nat), .slice ad qs.length cap] 28) wx → Calls Tryd.prog 9 #[.agg #[.int .i64 op, .int .i64 num, .int .u32 (c : Nat), .slice ad qs.length cap]] wx fun e w' => ∃ b, e = .returned (.bool b) ∧ (b = true → ChOk w c ad qs ∧ qs.length ≤ 8) ∧ On w (.cells #[.int .i64 op, .int .i64 num, .int .u32 (c : Nat), .slice ad qs.length cap] 28) w') := fun wx hx => (rchain_any op num c qs ad cap n wx (h.below hx.below)).mono fun e w' ⟨b, a, f, hb⟩ => ⟨b, a, fun hb' => ⟨⟨(f hb').1, (f hb').2.1, by have := (f hb').2.2; omega, h.r, hN⟩, (f hb').2.2⟩, hx.step hb⟩
  clear h hN
  go_enter Tryd.func3, Tryd.ntmps3
  go_wp2_with fail
  refine (KC.out _ b0).mono ?_
  rintro e w1 ⟨bb, rfl, hbb, b1⟩
  obtain ⟨x0, x1, x2, x3⟩ := HS.out _ b1
  cases bb with
  | false =>
    go_wp2_with (first
      | (go_at_call 10; refine (KA.out _ b1).mono ?_; rintro e w2 ⟨rfl, b2⟩))
    go_ret
    exact ⟨rfl, b2.below⟩
  | true =>
    obtain ⟨hok, hl8⟩ := hbb rfl
    clear hbb KC
    have KS : Hid (∀ wx, On w (.cells #[.int .i64 op, .int .i64 num, .int .u32 (c : Nat), .slice ad qs.length cap] 28) wx → Calls Tryd.prog 16 #[.agg #[.int .i64 op, .int .i64 num, .int .u32 (c : Nat), .slice ad qs.length cap]] wx fun e w' => e = .returned (.int .u32 (sh c (rv qs qs.length) : Nat)) ∧ On w (.cells #[.int .i64 op, .int .i64 num, .int .u32 (c : Nat), .slice ad qs.length cap] 28) w') := fun wx hx => (shown_any op num c qs ad cap wx (hok.below hx.below)).mono fun e w' ⟨a, b⟩ => ⟨a, hx.step b⟩
    have KT : Hid (∀ wx, On w (.cells #[.int .i64 op, .int .i64 num, .int .u32 (c : Nat), .slice ad qs.length cap] 28) wx → Calls Tryd.prog 17 #[.agg #[.int .i64 op, .int .i64 num, .int .u32 (c : Nat), .slice ad qs.length cap]] wx fun e w' => e = .returned (.int .u32 (sh c (rv qs qs.length) : Nat)) ∧ On w (.cells #[.int .i64 op, .int .i64 num, .int .u32 (c : Nat), .slice ad qs.length cap] 28) w') := fun wx hx => (rshown_any op num c qs ad cap wx (hok.below hx.below)).mono fun e w' ⟨a, b⟩ => ⟨a, hx.step b⟩
    have KX : Hid (∀ wx, On w (.cells #[.int .i64 op, .int .i64 num, .int .u32 (c : Nat), .slice ad qs.length cap] 28) wx → Calls Tryd.prog 18 #[.agg #[.int .i64 op, .int .i64 num, .int .u32 (c : Nat), .slice ad qs.length cap]] wx fun e w' => e = .returned (.int .u32 (lost c (rv qs qs.length) 11 : Nat)) ∧ On w (.cells #[.int .i64 op, .int .i64 num, .int .u32 (c : Nat), .slice ad qs.length cap] 28) w') := fun wx hx => (plost_any op num c qs ad cap wx (hok.below hx.below)).mono fun e w' ⟨a, b⟩ => ⟨a, hx.step b⟩
    have KY : Hid (∀ wx, On w (.cells #[.int .i64 op, .int .i64 num, .int .u32 (c : Nat), .slice ad qs.length cap] 28) wx → Calls Tryd.prog 19 #[.agg #[.int .i64 op, .int .i64 num, .int .u32 (c : Nat), .slice ad qs.length cap]] wx fun e w' => e = .returned (.int .u32 (lost c (rv qs qs.length) 11 : Nat)) ∧ On w (.cells #[.int .i64 op, .int .i64 num, .int .u32 (c : Nat), .slice ad qs.length cap] 28) w') := fun wx hx => (rlost_any op num c qs ad cap wx (hok.below hx.below)).mono fun e w' ⟨a, b⟩ => ⟨a, hx.step b⟩
    have KP : Hid (∀ wx, On w (.cells #[.int .i64 op, .int .i64 num, .int .u32 (c : Nat), .slice ad qs.length cap] 28) wx → Calls Tryd.prog 14 #[.agg #[.int .i64 op, .int .i64 num, .int .u32 (c : Nat), .slice ad qs.length cap]] wx fun e w' => ∃ g cp, e = .returned (.slice (some ⟨g, 0, none⟩) (qs.length + 1) cp) ∧ RowS w' c qs g ∧ On w (.cells #[.int .i64 op, .int .i64 num, .int .u32 (c : Nat), .slice ad qs.length cap] 28) w' ∧ Below wx.heap.size wx w') := fun wx hx => (plevels_any op num c qs ad cap wx (hok.below hx.below)).mono fun e w' ⟨g, cp, a, ho, hb⟩ => ⟨g, cp, a, rowS_of ho, hx.step hb, hb⟩
    have KR : Hid (∀ wx, On w (.cells #[.int .i64 op, .int .i64 num, .int .u32 (c : Nat), .slice ad qs.length cap] 28) wx → Calls Tryd.prog 15 #[.agg #[.int .i64 op, .int .i64 num, .int .u32 (c : Nat), .slice ad qs.length cap]] wx fun e w' => ∃ g cp, e = .returned (.slice (some ⟨g, 0, none⟩) (qs.length + 1) cp) ∧ RowS w' c qs g ∧ On w (.cells #[.int .i64 op, .int .i64 num, .int .u32 (c : Nat), .slice ad qs.length cap] 28) w' ∧ Below wx.heap.size wx w') := fun wx hx => (rlevels_any op num c qs ad cap wx (hok.below hx.below)).mono fun e w' ⟨g, cp, a, ho, hb⟩ => ⟨g, cp, a, rowS_of ho, hx.step hb, hb⟩
    have KM : Hid (∀ (g1 cp1 g2 cp2 : Nat) wx, RowS wx c qs g1 → RowS wx c qs g2 → On w (.cells #[.int .i64 op, .int .i64 num, .int .u32 (c : Nat), .slice ad qs.length cap] 28) wx → Calls Tryd.prog 13 #[.slice (some ⟨g1, 0, none⟩) (qs.length + 1) cp1, .slice (some ⟨g2, 0, none⟩) (qs.length + 1) cp2] wx fun e w' => e = .returned (.bool true) ∧ On w (.cells #[.int .i64 op, .int .i64 num, .int .u32 (c : Nat), .slice ad qs.length cap] 28) w') := fun g1 cp1 g2 cp2 wx h1 h2 hx => (same_any c qs g1 cp1 g2 cp2 wx (by omega) h1 h2).mono fun e w' ⟨a, b⟩ => ⟨a, hx.step b⟩
    have HR := Lib.hid hok.r
    have HQ := Lib.hid hok.q
    clear hok
    generalize sh c (rv qs qs.length) = SS at KS KT
    generalize lost c (rv qs qs.length) 11 = LL at KX KY
    go_wp2_with fail
    clear x0 x1 x2 x3
    go_loopw [12] (fun s wr => ∃ (j : Nat), s = .int .i64 j ∧ j ≤ qs.length ∧ On w (.cells #[.int .i64 op, .int .i64 num, .int .u32 (c : Nat), .slice ad qs.length cap] 28) wr) (fun s _ => qs.length - (intOf s).toNat)
    case atStart => exact ⟨0, rfl, Nat.zero_le _, b1⟩
    case round =>
      obtain ⟨j, rfl, hj, hb⟩ := hrel
      by_cases hlt : j < qs.length
      · have hne : qs ≠ [] := by intro e; rw [e] at hlt; exact absurd hlt (Nat.not_lt_zero _)
        rcases HR.out with hk | ⟨gw, ow, hk1, hk2, hk3⟩
        · exact absurd hk hne
        subst hk1
        have hk4 := hk3 j _ (List.getElem?_eq_getElem hlt)
        have hok := HQ.out qs[j] (List.getElem_mem hlt)
        generalize qs[j] = q at hk4 hok
        obtain ⟨⟨qo, qc, qn⟩, qA, qB, q0, q1, qa, ql, qcc⟩ := q
        have X : ∀ m, m < 8 → wr.cell? ⟨gw, ow + j * 8 + m, none⟩ = _ := fun m hm => (hb.below.cell (p := ⟨gw, _, none⟩) hk2).trans (hk4 m hm)
        have x0 : wr.cell? ⟨gw, ow + j * 8, none⟩ = some (.int .i64 qo) := X 0 (by decide)
        have x1 : wr.cell? ⟨gw, ow + j * 8 + 1, none⟩ = some (.int .i64 qA) := X 1 (by decide)
        have x2 : wr.cell? ⟨gw, ow + j * 8 + 2, none⟩ = some (.int .i64 qB) := X 2 (by decide)
        have x3 : wr.cell? ⟨gw, ow + j * 8 + 3, none⟩ = some (.int .u32 (qc : Nat)) := X 3 (by decide)
        have x4 : wr.cell? ⟨gw, ow + j * 8 + 4, none⟩ = some (.int .i64 q0) := X 4 (by decide)
        have x5 : wr.cell? ⟨gw, ow + j * 8 + 5, none⟩ = some (.int .i64 q1) := X 5 (by decide)
        have x6 : wr.cell? ⟨gw, ow + j * 8 + 6, none⟩ = some (.slice qa ql qcc) := X 6 (by decide)
        have x7 : wr.cell? ⟨gw, ow + j * 8 + 7, none⟩ = some (.bool qn) := X 7 (by decide)
        have KG : Hid (∀ wx, On wr (.cells #[.int .i64 qo, .int .i64 qA, .int .i64 qB, .int .u32 (qc : Nat), .int .i64 q0, .int .i64 q1, .slice qa ql qcc, .bool qn] 35) wx → Calls Tryd.prog 11 #[.agg #[.int .i64 qo, .int .i64 qA, .int .i64 qB, .int .u32 (qc : Nat), .int .i64 q0, .int .i64 q1, .slice qa ql qcc, .bool qn]] wx fun e w' => e = .returned (.int .u32 (giv ⟨qo, qc, qn⟩ : Nat)) ∧ On wr (.cells #[.int .i64 qo, .int .i64 qA, .int .i64 qB, .int .u32 (qc : Nat), .int .i64 q0, .int .i64 q1, .slice qa ql qcc, .bool qn] 35) w') := fun wx hx => (pgives_any ⟨qo, qc, qn⟩ hok qA qB q0 q1 qa ql qcc wx).mono fun e w' ⟨a, b⟩ => ⟨a, hx.step b⟩
        have KH : Hid (∀ wx, On wr (.cells #[.int .i64 qo, .int .i64 qA, .int .i64 qB, .int .u32 (qc : Nat), .int .i64 q0, .int .i64 q1, .slice qa ql qcc, .bool qn] 35) wx → Calls Tryd.prog 12 #[.agg #[.int .i64 qo, .int .i64 qA, .int .i64 qB, .int .u32 (qc : Nat), .int .i64 q0, .int .i64 q1, .slice qa ql qcc, .bool qn]] wx fun e w' => e = .returned (.int .u32 (giv ⟨qo, qc, qn⟩ : Nat)) ∧ On wr (.cells #[.int .i64 qo, .int .i64 qA, .int .i64 qB, .int .u32 (qc : Nat), .int .i64 q0, .int .i64 q1, .slice qa ql qcc, .bool qn] 35) w') := fun wx hx => (rgives_any ⟨qo, qc, qn⟩ hok qA qB q0 q1 qa ql qcc wx).mono fun e w' ⟨a, b⟩ => ⟨a, hx.step b⟩
        have HS8 : Hid (∀ wx, On wr (.cells #[.int .i64 qo, .int .i64 qA, .int .i64 qB, .int .u32 (qc : Nat), .int .i64 q0, .int .i64 q1, .slice qa ql qcc, .bool qn] 35) wx → wx.cell? ⟨wr.heap.size, 0, none⟩ = some (.int .i64 qo) ∧ wx.cell? ⟨wr.heap.size, 1, none⟩ = some (.int .i64 qA) ∧ wx.cell? ⟨wr.heap.size, 2, none⟩ = some (.int .i64 qB) ∧ wx.cell? ⟨wr.heap.size, 3, none⟩ = some (.int .u32 (qc : Nat)) ∧ wx.cell? ⟨wr.heap.size, 4, none⟩ = some (.int .i64 q0) ∧ wx.cell? ⟨wr.heap.size, 5, none⟩ = some (.int .i64 q1) ∧ wx.cell? ⟨wr.heap.size, 6, none⟩ = some (.slice qa ql qcc) ∧ wx.cell? ⟨wr.heap.size, 7, none⟩ = some (.bool qn)) := fun wx h => ⟨h.cell 0, h.cell 1, h.cell 2, h.cell 3, h.cell 4, h.cell 5, h.cell 6, h.cell 7⟩
        have c0 := On.start wr (.cells #[.int .i64 qo, .int .i64 qA, .int .i64 qB, .int .u32 (qc : Nat), .int .i64 q0, .int .i64 q1, .slice qa ql qcc, .bool qn] 35)
        generalize giv ⟨qo, qc, qn⟩ = G at KG KH
        clear X hk4 hk3 hok KS KT KX KY KP KR KM KA b1 b0
        go_wp2_with fail
        go_region_held3 (fun w' => w'.cell? ⟨wr.heap.size, 0, none⟩ = some (.int .i64 qo) ∧ w'.cell? ⟨wr.heap.size, 1, none⟩ = some (.int .i64 qA) ∧ w'.cell? ⟨wr.heap.size, 2, none⟩ = some (.int .i64 qB) ∧ w'.cell? ⟨wr.heap.size, 3, none⟩ = some (.int .u32 (qc : Nat)) ∧ w'.cell? ⟨wr.heap.size, 4, none⟩ = some (.int .i64 q0) ∧ w'.cell? ⟨wr.heap.size, 5, none⟩ = some (.int .i64 q1) ∧ w'.cell? ⟨wr.heap.size, 6, none⟩ = some (.slice qa ql qcc) ∧ w'.cell? ⟨wr.heap.size, 7, none⟩ = some (.bool qn)) (exact HS8.out _ (by first | assumption | exact On.drew (by assumption))) (first
          | (go_at_call 11; refine (KG.out _ (by first | assumption | exact On.drew (by assumption))).mono ?_; rintro e wa ⟨rfl, ba⟩)
          | (go_at_call 12; refine (KH.out _ (by first | assumption | exact On.drew (by assumption))).mono ?_; rintro e wb ⟨rfl, bb⟩))
        all_goals go_wp2
        all_goals exact ⟨⟨j + 1, by go_num, by omega, hb.step (On.below (by first | assumption | exact On.drew (by assumption)))⟩, by simp [intOf] <;> omega⟩
      · skip
        go_wp2_with fail
        go_region_held3 (fun w' => w'.cell? ⟨w.heap.size, 0, none⟩ = some (.int .i64 op) ∧ w'.cell? ⟨w.heap.size, 1, none⟩ = some (.int .i64 num) ∧ w'.cell? ⟨w.heap.size, 2, none⟩ = some (.int .u32 (c : Nat)) ∧ w'.cell? ⟨w.heap.size, 3, none⟩ = some (.slice ad qs.length cap)) (exact HS.out _ (by first | assumption | exact On.drew (by assumption))) (first
          | (go_at_call 14; refine (KP.out _ (by first | assumption | exact On.drew (by assumption))).mono ?_; rintro e wa ⟨gp, cpp, rfl, rp, ba, ea⟩)
          | (go_at_call 15; refine (KR.out _ (by first | assumption | exact On.drew (by assumption))).mono ?_; rintro e wb ⟨gr, cpr, rfl, rr, bb, eb⟩)
          | (go_at_call 13; refine (KM.out _ _ _ _ _ (by first | exact rp | exact rp.below eb) (by first | exact rr | exact rr.below ea) (by first | assumption | exact On.drew (by assumption))).mono ?_; rintro e wc ⟨rfl, bc⟩)
          | (go_at_call 16; refine (KS.out _ (by first | assumption | exact On.drew (by assumption))).mono ?_; rintro e wd ⟨rfl, bd⟩)
          | (go_at_call 17; refine (KT.out _ (by first | assumption | exact On.drew (by assumption))).mono ?_; rintro e we ⟨rfl, be⟩)
          | (go_at_call 18; refine (KX.out _ (by first | assumption | exact On.drew (by assumption))).mono ?_; rintro e wf ⟨rfl, bf⟩)
          | (go_at_call 19; refine (KY.out _ (by first | assumption | exact On.drew (by assumption))).mono ?_; rintro e wg ⟨rfl, bg⟩)
          | (go_at_call 10; refine (KA.out _ (by first | assumption | exact On.drew (by assumption))).mono ?_; rintro e wh ⟨rfl, bh⟩))
        all_goals go_wp2
        all_goals go_ret
        all_goals exact ⟨rfl, On.below (by first | assumption | exact On.drew (by assumption))⟩
end Go.Proofs.YtcbplamomhimiaaDoor
