/- Shown, From, Who, Reach and Lost of the document, as the plain functions say; what is asked of the world: the chain where it is told to lie. -/
import Derived.Test.YtcbplamomhimiaaDoorUy
namespace Go.Proofs.YtcbplamomhimiaaDoor
open Go.RowKit

theorem lt_bit {x n i : Nat} (h : x < 2 ^ n) (hi : n ≤ i) : x.testBit i = false := by
  cases hb : x.testBit i with
  | false => rfl
  | true => have := lt_bits h hb; omega
theorem giv_open {x : Wr} (h : x.cp < 1024) : (giv x).testBit 10 = x.on := by
  have h1 : (own x).testBit 10 = false := lt_bit (n := 10) (own_lt h) (Nat.le_refl _)
  unfold giv
  cases hx : x.on with
  | true => rw [if_pos rfl, Nat.testBit_or, h1]; decide
  | false => rw [if_neg (by simp), h1]
theorem kp_open (x : Wr) (b : Nat) (hb : b < 4294967296) : (kp x b).testBit 10 = false := by
  have h1 : (andN b 1024).testBit 10 = false := by rw [bit_andN _ _ hb]; simp; intro _; decide
  unfold kp
  repeat' split
  · rw [bit_andN _ _ (andN_lt _ _ hb), h1]; rfl
  · rw [Nat.testBit_and, h1]; rfl
  · simp
  · exact h1
theorem sh_open {c : Nat} (hc : c < 1024) {x : Wr} {r : List Wr} (h : ∀ y ∈ x :: r, y.cp < 1024) : (sh c (x :: r)).testBit 10 = x.on := by
  show (kp x (sh c r) ||| giv x).testBit 10 = x.on
  have := sh_lt (c := c) (by omega) (ws := r) (fun y hy => h y (List.mem_cons_of_mem _ hy))
  rw [Nat.testBit_or, kp_open x _ (by omega), giv_open (h x (by simp))]; rfl
theorem who_out (c : Nat) (ws : List Wr) (k : Int) (hk : ¬ (0 ≤ k ∧ k < 11)) : who c ws k = -1 := by unfold who; rw [hs_out _ _ hk]; rfl
theorem rch_out (c : Nat) (k : Int) (hk : ¬ (0 ≤ k ∧ k < 11)) : ∀ ws, rch c ws k = -1
  | [] => who_out c [] k hk
  | x :: r => by
    unfold rch
    rw [who_out c _ k hk, if_neg (by omega), rch_out c k hk r]; split <;> rfl
theorem who_neg {c : Nat} {ws : List Wr} {k : Int} (h : ¬ 0 ≤ who c ws k) : who c ws k = -1 := by
  unfold who at h ⊢
  split
  · rename_i hq; rw [if_pos hq] at h; omega
  · rfl

set_option maxRecDepth 100000 in
set_option maxHeartbeats 4000000 in
theorem rshown_any (op num : Int) (c : Nat) (qs : List Wq) (ad : Option Addr) (cap : Nat) (w : World) (h : ChOk w c ad qs) :
    Calls Tryd.prog 17 #[.agg #[.int .i64 op, .int .i64 num, .int .u32 (c : Nat), .slice ad qs.length cap]] w fun e w' => e = .returned (.int .u32 (sh c (rv qs qs.length) : Nat)) ∧ Below w.heap.size w w' := by
  have b0 := below1 w (.cells #[.int .i64 op, .int .i64 num, .int .u32 (c : Nat), .slice ad qs.length cap] 28)
  have KL : Hid (∀ wx, Below w.heap.size w wx → Calls Tryd.prog 15 #[.agg #[.int .i64 op, .int .i64 num, .int .u32 (c : Nat), .slice ad qs.length cap]] wx fun e w' => ∃ g cp, e = .returned (.slice (some ⟨g, 0, none⟩) (qs.length + 1) cp) ∧ w'.cell? ⟨g, qs.length, none⟩ = some (.int .u32 (sh c (rv qs qs.length) : Nat)) ∧ Below w.heap.size w w') := fun wx hx => (rlevels_any op num c qs ad cap wx (h.below hx)).mono fun e w' ⟨g, cp, a, ho, hb⟩ => ⟨g, cp, a, own_cell ho _ _ (srow_at c qs _ _ (by omega)), hx.trans (hb.mono hx.size)⟩
  have hl := h.l
  clear h
  have hij : ((qs.length : Nat) : Int) < (qs.length : Int) + 1 := by omega
  go_enter Tryd.func17, Tryd.ntmps17
  go_wp2_with (first
    | (go_at_call 15; refine (KL.out _ b0).mono ?_; rintro e w2 ⟨g, cp, rfl, hc, b2⟩))
  go_ret
  exact ⟨rfl, b2⟩
set_option maxRecDepth 100000 in
set_option maxHeartbeats 4000000 in
theorem rfrom_any (op num : Int) (c : Nat) (qs : List Wq) (ad : Option Addr) (cap : Nat) (j : Nat) (hj : j ≤ qs.length) (k : Int) (w : World) (h : ChOk w c ad qs) :
    Calls Tryd.prog 39 #[.agg #[.int .i64 op, .int .i64 num, .int .u32 (c : Nat), .slice ad qs.length cap], .int .i64 (j : Nat), .int .i64 k] w fun e w' => e = .returned (.int .i64 (who c (rv qs j) k)) ∧ Below w.heap.size w w' := by
  have b0 := On.start w (.cells #[.int .i64 op, .int .i64 num, .int .u32 (c : Nat), .slice ad qs.length cap] 28)
  have KL : Hid (∀ wx, On w (.cells #[.int .i64 op, .int .i64 num, .int .u32 (c : Nat), .slice ad qs.length cap] 28) wx → Calls Tryd.prog 15 #[.agg #[.int .i64 op, .int .i64 num, .int .u32 (c : Nat), .slice ad qs.length cap]] wx fun e w' => ∃ g cp, e = .returned (.slice (some ⟨g, 0, none⟩) (qs.length + 1) cp) ∧ w'.cell? ⟨g, j, none⟩ = some (.int .u32 (sh c (rv qs j) : Nat)) ∧ On w (.cells #[.int .i64 op, .int .i64 num, .int .u32 (c : Nat), .slice ad qs.length cap] 28) w') := fun wx hx => (rlevels_any op num c qs ad cap wx (h.below hx.below)).mono fun e w' ⟨g, cp, a, ho, hb⟩ => ⟨g, cp, a, own_cell ho _ _ (srow_at c qs _ _ (by omega)), hx.step hb⟩
  have hlt := h.lt j
  have KH : Hid (∀ wx, Calls Tryd.prog 37 #[.int .u32 (sh c (rv qs j) : Nat), .int .i64 k] wx fun e w' => e = .returned (.bool (hs (sh c (rv qs j)) k)) ∧ w' = wx) := fun wx => rhas_all _ k (by omega) wx
  have hl := h.l
  have HR := Lib.hid h.r
  have HQ := Lib.hid h.q
  have HS : Hid (∀ wx, On w (.cells #[.int .i64 op, .int .i64 num, .int .u32 (c : Nat), .slice ad qs.length cap] 28) wx → wx.cell? ⟨w.heap.size, 3, none⟩ = some (.slice ad qs.length cap)) := fun wx h => h.cell 3
  clear h
  have hij : ((j : Nat) : Int) < (qs.length : Int) + 1 := by omega
  have HW : Hid (who c (rv qs j) k = if hs (sh c (rv qs j)) k = true then ((an (rv qs j) k : Nat) : Int) else -1) := Lib.hid rfl
  generalize who c (rv qs j) k = W at HW ⊢
  generalize sh c (rv qs j) = S at HW KH KL hlt
  cases hb : hs S k with
  | false =>
    rw [hb] at KH HW
    clear hb
    go_enter Tryd.func39, Tryd.ntmps39
    go_wp2_with (first
      | (go_at_call 15; refine (KL.out _ b0).mono ?_; rintro e w2 ⟨g, cp, rfl, hc, b2⟩)
      | (go_at_call 37; refine (KH.out _).mono ?_; rintro e w3 ⟨rfl, rfl⟩))
    go_ret
    exact ⟨by rw [HW.out]; rfl, b2.below⟩
  | true =>
    rw [hb] at KH HW
    clear hb
    go_enter Tryd.func39, Tryd.ntmps39
    go_wp2_with (first
      | (go_at_call 15; refine (KL.out _ b0).mono ?_; rintro e w2 ⟨g, cp, rfl, hc, b2⟩)
      | (go_at_call 37; refine (KH.out _).mono ?_; rintro e w3 ⟨rfl, rfl⟩))
    have HJ := Lib.hid hj
    clear hc KL KH hlt hij hj
    rename_i w2'
    go_loopw [1] (fun s1 wr => ∃ (i : Nat), s1 = .int .i64 i ∧ i ≤ j ∧ Hid (an (rv qs i) k = an (rv qs j) k) ∧ On w (.cells #[.int .i64 op, .int .i64 num, .int .u32 (c : Nat), .slice ad qs.length cap] 28) wr) (fun s1 _ => (intOf s1).toNat)
    case atStart => exact ⟨j, rfl, Nat.le_refl _, Lib.hid rfl, b2⟩
    case round =>
      obtain ⟨i, rfl, hi, HA, hb⟩ := hrel
      have x3 := HS.out _ hb
      have hjj := HJ.out
      cases i with
      | zero =>
        go_wp2
        go_ret
        exact ⟨by rw [HW.out, ← HA.out]; rfl, hb.below⟩
      | succ i =>
        have hin : i < qs.length := by omega
        have hne : qs ≠ [] := by intro e; rw [e] at hin; exact absurd hin (Nat.not_lt_zero _)
        rcases HR.out with hk | ⟨gw, ow, hk1, hk2, hk3⟩
        · exact absurd hk hne
        subst hk1
        have hk4 := hk3 i _ (List.getElem?_eq_getElem hin)
        have hok := HQ.out qs[i] (List.getElem_mem hin)
        have HN : Hid (an (rv qs (i + 1)) k = if hs (giv qs[i].x) k = true then i + 1 else an (rv qs i) k) := Lib.hid (by rw [rv_succ qs i hin]; show (if _ then (rv qs i).length + 1 else _) = _; rw [rv_len qs i (by omega)])
        generalize qs[i] = q at hk4 hok HN
        obtain ⟨⟨qo, qc, qn⟩, qA, qB, q0, q1, qa, ql, qcc⟩ := q
        have X : ∀ m, m < 8 → wr.cell? ⟨gw, ow + i * 8 + m, none⟩ = _ := fun m hm => (hb.below.cell (p := ⟨gw, _, none⟩) hk2).trans (hk4 m hm)
        have x0 : wr.cell? ⟨gw, ow + i * 8, none⟩ = some (.int .i64 qo) := X 0 (by decide)
        have x1 : wr.cell? ⟨gw, ow + i * 8 + 1, none⟩ = some (.int .i64 qA) := X 1 (by decide)
        have x2 : wr.cell? ⟨gw, ow + i * 8 + 2, none⟩ = some (.int .i64 qB) := X 2 (by decide)
        have y3 : wr.cell? ⟨gw, ow + i * 8 + 3, none⟩ = some (.int .u32 (qc : Nat)) := X 3 (by decide)
        have x4 : wr.cell? ⟨gw, ow + i * 8 + 4, none⟩ = some (.int .i64 q0) := X 4 (by decide)
        have x5 : wr.cell? ⟨gw, ow + i * 8 + 5, none⟩ = some (.int .i64 q1) := X 5 (by decide)
        have x6 : wr.cell? ⟨gw, ow + i * 8 + 6, none⟩ = some (.slice qa ql qcc) := X 6 (by decide)
        have x7 : wr.cell? ⟨gw, ow + i * 8 + 7, none⟩ = some (.bool qn) := X 7 (by decide)
        have hgv : giv ⟨qo, qc, qn⟩ < 2048 := giv_lt hok.2.2
        have KG : Hid (Calls Tryd.prog 12 #[.agg #[.int .i64 qo, .int .i64 qA, .int .i64 qB, .int .u32 (qc : Nat), .int .i64 q0, .int .i64 q1, .slice qa ql qcc, .bool qn]] wr fun e w' => e = .returned (.int .u32 (giv ⟨qo, qc, qn⟩ : Nat)) ∧ On w (.cells #[.int .i64 op, .int .i64 num, .int .u32 (c : Nat), .slice (some ⟨gw, ow, none⟩) qs.length cap] 28) w') := (rgives_any ⟨qo, qc, qn⟩ hok qA qB q0 q1 qa ql qcc wr).mono fun e w' ⟨a, b⟩ => ⟨a, hb.step b⟩
        have KH : Hid (∀ wx, Calls Tryd.prog 37 #[.int .u32 (giv ⟨qo, qc, qn⟩ : Nat), .int .i64 k] wx fun e w' => e = .returned (.bool (hs (giv ⟨qo, qc, qn⟩) k)) ∧ w' = wx) := fun wx => rhas_all _ k (by omega) wx
        simp only at HN
        generalize giv ⟨qo, qc, qn⟩ = G at KG KH HN
        have q1' : ((i : Nat) : Int) < (qs.length : Int) := by omega
        have q2' : (0 : Int) ≤ ((i : Nat) : Int) := by omega
        clear X hk4 hk3 hok
        cases hbb : hs G k with
        | true =>
          rw [hbb] at KH HN
          go_wp2_with (first
            | (go_at_call 12; refine KG.out.mono ?_; rintro e w4 ⟨rfl, b4⟩)
            | (go_at_call 37; refine (KH.out _).mono ?_; rintro e w5 ⟨rfl, rfl⟩))
          go_ret
          exact ⟨by rw [HW.out, ← HA.out, HN.out]; rfl, b4.below⟩
        | false =>
          rw [hbb] at KH HN
          go_wp2_with (first
            | (go_at_call 12; refine KG.out.mono ?_; rintro e w4 ⟨rfl, b4⟩)
            | (go_at_call 37; refine (KH.out _).mono ?_; rintro e w5 ⟨rfl, rfl⟩))
          exact ⟨⟨i, by go_num, by omega, Lib.hid (by rw [← HA.out, HN.out]; try rfl), b4⟩, by simp [intOf] <;> omega⟩
set_option maxRecDepth 100000 in
set_option maxHeartbeats 4000000 in
theorem rwho_any (op num : Int) (c : Nat) (qs : List Wq) (ad : Option Addr) (cap : Nat) (k : Int) (w : World) (h : ChOk w c ad qs) :
    Calls Tryd.prog 21 #[.agg #[.int .i64 op, .int .i64 num, .int .u32 (c : Nat), .slice ad qs.length cap], .int .i64 k] w fun e w' => e = .returned (.int .i64 (who c (rv qs qs.length) k)) ∧ Below w.heap.size w w' := by
  have b0 := below1 w (.cells #[.int .i64 op, .int .i64 num, .int .u32 (c : Nat), .slice ad qs.length cap] 28)
  have KF : Hid (∀ wx, Below w.heap.size w wx → Calls Tryd.prog 39 #[.agg #[.int .i64 op, .int .i64 num, .int .u32 (c : Nat), .slice ad qs.length cap], .int .i64 (qs.length : Nat), .int .i64 k] wx fun e w' => e = .returned (.int .i64 (who c (rv qs qs.length) k)) ∧ Below w.heap.size w w') := fun wx hx => (rfrom_any op num c qs ad cap qs.length (Nat.le_refl _) k wx (h.below hx)).mono fun e w' ⟨a, b⟩ => ⟨a, hx.trans (b.mono hx.size)⟩
  clear h
  go_enter Tryd.func21, Tryd.ntmps21
  go_wp2_with (first
    | (go_at_call 39; refine (KF.out _ b0).mono ?_; rintro e w2 ⟨rfl, b2⟩))
  go_ret
  exact ⟨rfl, b2⟩
set_option maxRecDepth 100000 in
set_option maxHeartbeats 4000000 in
theorem rreach_any (op num : Int) (c : Nat) (qs : List Wq) (ad : Option Addr) (cap : Nat) (k : Int) (w : World) (h : ChOk w c ad qs) :
    Calls Tryd.prog 23 #[.agg #[.int .i64 op, .int .i64 num, .int .u32 (c : Nat), .slice ad qs.length cap], .int .i64 k] w fun e w' => e = .returned (.int .i64 (rch c (rv qs qs.length) k)) ∧ Below w.heap.size w w' := by
  have b0 := On.start w (.cells #[.int .i64 op, .int .i64 num, .int .u32 (c : Nat), .slice ad qs.length cap] 28)
  have KL : Hid (∀ wx, On w (.cells #[.int .i64 op, .int .i64 num, .int .u32 (c : Nat), .slice ad qs.length cap] 28) wx → Calls Tryd.prog 15 #[.agg #[.int .i64 op, .int .i64 num, .int .u32 (c : Nat), .slice ad qs.length cap]] wx fun e w' => ∃ g cp, e = .returned (.slice (some ⟨g, 0, none⟩) (qs.length + 1) cp) ∧ (∀ j, j < qs.length + 1 → w'.cell? ⟨g, j, none⟩ = some (.int .u32 (sh c (rv qs j) : Nat))) ∧ On w (.cells #[.int .i64 op, .int .i64 num, .int .u32 (c : Nat), .slice ad qs.length cap] 28) w') := fun wx hx => (rlevels_any op num c qs ad cap wx (h.below hx.below)).mono fun e w' ⟨g, cp, a, ho, hb⟩ => ⟨g, cp, a, fun j hj => own_cell ho _ _ (srow_at c qs _ _ hj), hx.step hb⟩
  have KF : Hid (∀ (j : Nat) wx, j ≤ qs.length → On w (.cells #[.int .i64 op, .int .i64 num, .int .u32 (c : Nat), .slice ad qs.length cap] 28) wx → Calls Tryd.prog 39 #[.agg #[.int .i64 op, .int .i64 num, .int .u32 (c : Nat), .slice ad qs.length cap], .int .i64 (j : Nat), .int .i64 k] wx fun e w' => e = .returned (.int .i64 (who c (rv qs j) k)) ∧ Below wx.heap.size wx w') := fun j wx hj hx => rfrom_any op num c qs ad cap j hj k wx (h.below hx.below)
  have HO : Hid (∀ (j : Nat), j ≤ qs.length → ∀ wx, Calls Tryd.prog 37 #[.int .u32 (sh c (rv qs j) : Nat), .int .i64 10] wx fun e w' => e = .returned (.bool ((sh c (rv qs j)).testBit 10)) ∧ w' = wx) := fun j hj wx => rhas_any _ 10 (by have := h.lt j; omega) (by decide) wx
  have HCP := Lib.hid h.cp
  have hl := h.l
  have hc10 := h.c
  have HS : Hid (∀ wx, On w (.cells #[.int .i64 op, .int .i64 num, .int .u32 (c : Nat), .slice ad qs.length cap] 28) wx → wx.cell? ⟨w.heap.size, 0, none⟩ = some (.int .i64 op) ∧ wx.cell? ⟨w.heap.size, 1, none⟩ = some (.int .i64 num) ∧ wx.cell? ⟨w.heap.size, 2, none⟩ = some (.int .u32 (c : Nat)) ∧ wx.cell? ⟨w.heap.size, 3, none⟩ = some (.slice ad qs.length cap)) := fun wx h => ⟨h.cell 0, h.cell 1, h.cell 2, h.cell 3⟩
  clear h
  go_enter Tryd.func23, Tryd.ntmps23
  go_wp2_with (first
    | (go_at_call 15; refine (KL.out _ b0).mono ?_; rintro e w2 ⟨gl, cl, rfl, hcl, b2⟩; have x3 := (HS.out _ b2).2.2.2))
  have HC := Lib.hid hcl
  have hgl : gl < w2.heap.size := World.block_lt_of_cell? w2 _ (hcl 0 (by omega))
  clear hcl KL x3
  go_loopw [6] (fun s6 wr => ∃ (i : Nat), s6 = .int .i64 i ∧ i ≤ qs.length ∧ Hid (rch c (rv qs i) k = rch c (rv qs qs.length) k) ∧ Below w2.heap.size w2 wr ∧ On w (.cells #[.int .i64 op, .int .i64 num, .int .u32 (c : Nat), .slice ad qs.length cap] 28) wr) (fun s6 _ => (intOf s6).toNat)
  case atStart => exact ⟨qs.length, rfl, Nat.le_refl _, Lib.hid rfl, Below.refl _ _, b2⟩
  case round =>
    obtain ⟨i, rfl, hi, HA, hb2, hb⟩ := hrel
    obtain ⟨x0, x1, x2, x3⟩ := HS.out _ hb
    have KFi := Lib.hid (KF.out i wr hi hb)
    have KOi := Lib.hid (HO.out i hi)
    have HT : Hid (∀ wx, Below wr.heap.size wr wx → Below w2.heap.size w2 wx ∧ On w (.cells #[.int .i64 op, .int .i64 num, .int .u32 (c : Nat), .slice ad qs.length cap] 28) wx ∧ wx.cell? ⟨gl, i, none⟩ = some (.int .u32 (sh c (rv qs i) : Nat))) := fun wx hx => ⟨hb2.trans (hx.mono hb2.size), hb.step hx, ((hb2.trans (hx.mono hb2.size)).cell (p := ⟨gl, i, none⟩) hgl).trans (HC.out i (by omega))⟩
    have hii : ((i : Nat) : Int) < (qs.length : Int) + 1 := by omega
    have hi0 : (0 : Int) ≤ ((i : Nat) : Int) := by omega
    by_cases hw : 0 ≤ who c (rv qs i) k
    · have HR : Hid (rch c (rv qs i) k = who c (rv qs i) k) := Lib.hid (by
        cases i with
        | zero => rfl
        | succ i => rw [rv_succ qs i (by omega)] at hw ⊢; unfold rch; rw [if_pos hw])
      generalize who c (rv qs i) k = Wi at KFi hw HR
      go_wp2_with (first
        | (go_at_call 39; refine KFi.out.mono ?_; rintro e w4 ⟨rfl, b4⟩))
      go_ret
      exact ⟨by rw [← HA.out, HR.out]; rfl, (HT.out _ b4).2.1.below⟩
    · have hw1 := who_neg hw
      rw [hw1] at KFi
      by_cases hk : 0 ≤ k ∧ k < 11
      · obtain ⟨hk0, hk1⟩ := hk
        have hk2 : ¬ k < 0 := by omega
        have hk3 : ¬ 11 ≤ k := by omega
        cases hbt : (sh c (rv qs i)).testBit 10 with
        | false =>
          rw [hbt] at KOi
          have HR : Hid (rch c (rv qs i) k = -1) := Lib.hid (by
            cases i with
            | zero => exact hw1
            | succ i =>
              have hcp := HCP.out (i + 1)
              rw [rv_succ qs i (by omega)] at hw hbt hcp ⊢
              rw [sh_open hc10 hcp] at hbt
              unfold rch; rw [if_neg hw, if_neg (by rw [hbt]; simp)])
          clear hw hw1 hbt
          generalize sh c (rv qs i) = S at KOi HT
          go_wp2_with (first
            | (go_at_call 39; refine KFi.out.mono ?_; rintro e w4 ⟨rfl, b4⟩; obtain ⟨t1, t2, t3⟩ := HT.out _ b4)
            | (go_at_call 37; refine (KOi.out _).mono ?_; rintro e w5 ⟨rfl, rfl⟩))
          go_ret
          exact ⟨by rw [← HA.out, HR.out]; rfl, t2.below⟩
        | true =>
          rw [hbt] at KOi
          have HR : Hid (∃ i', i = i' + 1 ∧ rch c (rv qs i) k = rch c (rv qs i') k) := Lib.hid (by
            cases i with
            | zero => have := lt_bit (n := 10) hc10 (i := 10) (Nat.le_refl _); rw [show sh c (rv qs 0) = c from rfl, this] at hbt; cases hbt
            | succ i =>
              refine ⟨i, rfl, ?_⟩
              have hcp := HCP.out (i + 1)
              rw [rv_succ qs i (by omega)] at hw hbt hcp ⊢
              rw [sh_open hc10 hcp] at hbt
              show (if _ then _ else _) = _
              rw [if_neg hw, if_pos hbt])
          clear hw hw1 hbt
          generalize sh c (rv qs i) = S at KOi HT
          go_wp2_with (first
            | (go_at_call 39; refine KFi.out.mono ?_; rintro e w4 ⟨rfl, b4⟩; obtain ⟨t1, t2, t3⟩ := HT.out _ b4)
            | (go_at_call 37; refine (KOi.out _).mono ?_; rintro e w5 ⟨rfl, rfl⟩))
          obtain ⟨i', hi', hr⟩ := HR.out
          subst hi'
          exact ⟨⟨i', by go_num, by omega, Lib.hid (by rw [← HA.out, hr]), t1, t2⟩, by simp [intOf] <;> omega⟩
      · have HR : Hid (rch c (rv qs i) k = -1) := Lib.hid (rch_out c k hk _)
        clear hw hw1
        by_cases hk0 : k < 0
        · clear hk
          go_wp2_with (first
            | (go_at_call 39; refine KFi.out.mono ?_; rintro e w4 ⟨rfl, b4⟩; obtain ⟨t1, t2, t3⟩ := HT.out _ b4))
          go_ret
          exact ⟨by rw [← HA.out, HR.out]; rfl, t2.below⟩
        · have hk1 : 11 ≤ k := by omega
          clear hk
          go_wp2_with (first
            | (go_at_call 39; refine KFi.out.mono ?_; rintro e w4 ⟨rfl, b4⟩; obtain ⟨t1, t2, t3⟩ := HT.out _ b4))
          go_ret
          exact ⟨by rw [← HA.out, HR.out]; rfl, t2.below⟩
set_option maxRecDepth 100000 in
set_option maxHeartbeats 4000000 in
theorem rlost_any (op num : Int) (c : Nat) (qs : List Wq) (ad : Option Addr) (cap : Nat) (w : World) (h : ChOk w c ad qs) :
    Calls Tryd.prog 19 #[.agg #[.int .i64 op, .int .i64 num, .int .u32 (c : Nat), .slice ad qs.length cap]] w fun e w' => e = .returned (.int .u32 (lost c (rv qs qs.length) 11 : Nat)) ∧ Below w.heap.size w w' := by
  have b0 := On.start w (.cells #[.int .i64 op, .int .i64 num, .int .u32 (c : Nat), .slice ad qs.length cap] 28)
  have KH : Hid (∀ (k : Nat) wx, k < 11 → Calls Tryd.prog 37 #[.int .u32 (c : Nat), .int .i64 (k : Nat)] wx fun e w' => e = .returned (.bool (c.testBit k)) ∧ w' = wx) := fun k wx hk => rhas_any c k (by have := h.c; omega) hk wx
  have KR : Hid (∀ (k : Int) wx, On w (.cells #[.int .i64 op, .int .i64 num, .int .u32 (c : Nat), .slice ad qs.length cap] 28) wx → Calls Tryd.prog 23 #[.agg #[.int .i64 op, .int .i64 num, .int .u32 (c : Nat), .slice ad qs.length cap], .int .i64 k] wx fun e w' => e = .returned (.int .i64 (rch c (rv qs qs.length) k)) ∧ On w (.cells #[.int .i64 op, .int .i64 num, .int .u32 (c : Nat), .slice ad qs.length cap] 28) w') := fun k wx hx => (rreach_any op num c qs ad cap k wx (h.below hx.below)).mono fun e w' ⟨a, b⟩ => ⟨a, hx.step b⟩
  have KB : Hid (∀ (k : Nat), k < 32 → ∀ wx, Calls Tryd.prog 32 #[.int .i64 (k : Nat)] wx fun e w' => e = .returned (.int .u32 (2 ^ k : Nat)) ∧ w' = wx) := bit_any
  have HS : Hid (∀ wx, On w (.cells #[.int .i64 op, .int .i64 num, .int .u32 (c : Nat), .slice ad qs.length cap] 28) wx → wx.cell? ⟨w.heap.size, 0, none⟩ = some (.int .i64 op) ∧ wx.cell? ⟨w.heap.size, 1, none⟩ = some (.int .i64 num) ∧ wx.cell? ⟨w.heap.size, 2, none⟩ = some (.int .u32 (c : Nat)) ∧ wx.cell? ⟨w.heap.size, 3, none⟩ = some (.slice ad qs.length cap)) := fun wx h => ⟨h.cell 0, h.cell 1, h.cell 2, h.cell 3⟩
  clear h
  generalize hws : rv qs qs.length = ws at KR ⊢
  clear hws
  go_enter Tryd.func19, Tryd.ntmps19
  go_wp2
  go_loopw [3, 4] (fun s3 s4 wr => ∃ (j : Nat), s4 = .int .i64 j ∧ j ≤ 11 ∧ s3 = .int .u32 (lost c ws j : Nat) ∧ On w (.cells #[.int .i64 op, .int .i64 num, .int .u32 (c : Nat), .slice ad qs.length cap] 28) wr) (fun _ s4 _ => 11 - (intOf s4).toNat)
  case atStart => exact ⟨0, rfl, Nat.zero_le _, rfl, b0⟩
  case round =>
    obtain ⟨j, rfl, hj, rfl, hb⟩ := hrel
    obtain ⟨x0, x1, x2, x3⟩ := HS.out _ hb
    by_cases hlt : j < 11
    · have KHj := Lib.hid (KH.out j wr hlt)
      have KRj := Lib.hid (KR.out (j : Nat) wr hb)
      have KBj := Lib.hid (KB.out j (by omega))
      have hll := lost_lt c ws j
      have hp : 2 ^ j ≤ 2 ^ 10 := Nat.pow_le_pow_right (by decide) (by omega)
      have HE : Hid (lost c ws (j + 1) = if c.testBit j = true ∧ rch c ws (j : Nat) ≠ 0 then lost c ws j ||| 2 ^ j else lost c ws j) := Lib.hid rfl
      have e1 := (u32_bits (lost c ws j) (2 ^ j) (by omega) (by omega)).2.1
      generalize lost c ws j = Lj at HE e1 hll ⊢
      generalize rch c ws (j : Nat) = R at KRj HE
      generalize 2 ^ j = P2 at KBj HE e1 hll hp
      have hj1 : ((j : Nat) : Int) < 11 := by omega
      cases hbit : c.testBit j with
      | false =>
        rw [hbit] at KHj HE
        go_wp2_with (first
          | (go_at_call 37; refine KHj.out.mono ?_; rintro e w2 ⟨rfl, rfl⟩))
        exact ⟨⟨j + 1, by go_num, by omega, by rw [HE.out, if_neg (by simp)], hb⟩, by simp [intOf]; omega⟩
      | true =>
        rw [hbit] at KHj HE
        by_cases hr : R = 0
        · subst hr
          go_wp2_with (first
            | (go_at_call 37; refine KHj.out.mono ?_; rintro e w2 ⟨rfl, rfl⟩)
            | (go_at_call 23; refine KRj.out.mono ?_; rintro e w3 ⟨rfl, b3⟩))
          exact ⟨⟨j + 1, by go_num, by omega, by rw [HE.out, if_neg (by simp)], b3⟩, by simp [intOf]; omega⟩
        · have q1 : (R == 0) = false := by simpa using hr
          have q2 : (R != 0) = true := by simpa using hr
          have HR := Lib.hid hr
          clear hr
          go_wp2_with (first
            | (go_at_call 37; refine KHj.out.mono ?_; rintro e w2 ⟨rfl, rfl⟩)
            | (go_at_call 32; refine (KBj.out _).mono ?_; rintro e w4 ⟨rfl, rfl⟩)
            | (go_at_call 23; refine KRj.out.mono ?_; rintro e w3 ⟨rfl, b3⟩))
          refine ⟨⟨j + 1, by go_num, by omega, ?_, b3⟩, by simp [intOf]; omega⟩
          rw [HE.out, if_pos (by simp; exact HR.out), ← e1]
    · have hje : j = 11 := by omega
      subst hje
      go_wp2
      go_ret
      exact ⟨rfl, hb.below⟩
end Go.Proofs.YtcbplamomhimiaaDoor
