/- Shown, Levels, Who, Reach, Lost and Gives of the package, as the plain functions say; what is asked of the world: the chain where it is told to lie, the table of words as its text lays it. -/
import Derived.Test.YtcbplamomhimiaaDoorUv
namespace Go.Proofs.YtcbplamomhimiaaDoor
open Go.RowKit

set_option maxRecDepth 100000 in
set_option maxHeartbeats 4000000 in
theorem shown_any (op num : Int) (c : Nat) (qs : List Wq) (ad : Option Addr) (cap : Nat) (w : World) (h : ChOk w c ad qs) :
    Calls Tryd.prog 16 #[.agg #[.int .i64 op, .int .i64 num, .int .u32 (c : Nat), .slice ad qs.length cap]] w fun e w' => e = .returned (.int .u32 (sh c (rv qs qs.length) : Nat)) ∧ Below w.heap.size w w' := by
  have hmf := mkf
  have L := h.lv qs.length (Nat.le_refl _)
  obtain ⟨t, z, F, z', e1, hmm, hcf, hC⟩ := L.shw.get (by have := h.l; omega)
  have b0 := below1 w (.cells #[.int .i64 op, .int .i64 num, .int .u32 (c : Nat), .slice ad qs.length cap] 28)
  have KO : Hid (∀ wx, Below w.heap.size w wx → Calls Tryd.prog 35 #[.agg #[.int .i64 op, .int .i64 num, .int .u32 (c : Nat), .slice ad qs.length cap]] wx fun e w' => e = .returned (.iface t z) ∧ Below w.heap.size w w') := fun wx hx => (outer_any op num c qs ad cap wx (h.below hx)).mono fun e w' ⟨a, b⟩ => ⟨by rw [a, e1], hx.trans (b.mono hx.size)⟩
  have K : Hid (∀ wx, Below w.heap.size w wx → Calls Tryd.prog F #[z'] wx fun e w' => e = .returned (.int .u32 (sh c (rv qs qs.length) : Nat)) ∧ Below w.heap.size w w') := fun wx hx => (hC.out wx (h.n.below hx)).mono fun e w' ⟨a, b⟩ => ⟨a, hx.trans (b.mono hx.size)⟩
  clear hC L h e1
  go_enter Tryd.func16, Tryd.ntmps16
  go_wp2_with (first
    | (go_at_call 35; refine (KO.out _ b0).mono ?_; rintro e w2 ⟨rfl, b2⟩)
    | fail)
  refine (K.out _ b2).mono ?_
  rintro e w3 ⟨rfl, b3⟩
  go_wp2
  go_ret
  exact ⟨rfl, b3⟩
set_option maxRecDepth 100000 in
set_option maxHeartbeats 4000000 in
theorem pwho_any (op num : Int) (c : Nat) (qs : List Wq) (ad : Option Addr) (cap : Nat) (k : Int) (w : World) (h : ChOk w c ad qs) :
    Calls Tryd.prog 20 #[.agg #[.int .i64 op, .int .i64 num, .int .u32 (c : Nat), .slice ad qs.length cap], .int .i64 k] w fun e w' => e = .returned (.int .i64 (who c (rv qs qs.length) k)) ∧ Below w.heap.size w w' := by
  have b0 := below1 w (.cells #[.int .i64 op, .int .i64 num, .int .u32 (c : Nat), .slice ad qs.length cap] 28)
  have KO : Hid (∀ wx, Below w.heap.size w wx → Calls Tryd.prog 35 #[.agg #[.int .i64 op, .int .i64 num, .int .u32 (c : Nat), .slice ad qs.length cap]] wx fun e w' => e = .returned (lev c (rv qs qs.length)) ∧ Below w.heap.size w w') := fun wx hx => (outer_any op num c qs ad cap wx (h.below hx)).mono fun e w' ⟨a, b⟩ => ⟨a, hx.trans (b.mono hx.size)⟩
  have K : Hid (∀ wx, Below w.heap.size w wx → Calls Tryd.prog 38 #[lev c (rv qs qs.length), .int .i64 k] wx fun e w' => e = .returned (.int .i64 (who c (rv qs qs.length) k)) ∧ Below w.heap.size w w') := fun wx hx => (whol (by have := h.c; omega) (h.cp _) (by rw [rv_len qs _ (Nat.le_refl _)]; exact h.l) k wx (h.n.below hx)).mono fun e w' ⟨a, b⟩ => ⟨a, hx.trans (b.mono hx.size)⟩
  generalize lev c (rv qs qs.length) = V at KO K
  generalize who c (rv qs qs.length) k = R at K ⊢
  clear h
  go_enter Tryd.func20, Tryd.ntmps20
  go_wp2_with (first
    | (go_at_call 35; refine (KO.out _ b0).mono ?_; rintro e w2 ⟨rfl, b2⟩)
    | (go_at_call 38; refine (K.out _ b2).mono ?_; rintro e w3 ⟨rfl, b3⟩))
  go_ret
  exact ⟨rfl, b3⟩
set_option maxRecDepth 100000 in
set_option maxHeartbeats 4000000 in
theorem preach_any (op num : Int) (c : Nat) (qs : List Wq) (ad : Option Addr) (cap : Nat) (k : Int) (w : World) (h : ChOk w c ad qs) :
    Calls Tryd.prog 22 #[.agg #[.int .i64 op, .int .i64 num, .int .u32 (c : Nat), .slice ad qs.length cap], .int .i64 k] w fun e w' => e = .returned (.int .i64 (rch c (rv qs qs.length) k)) ∧ Below w.heap.size w w' := by
  have b0 := below1 w (.cells #[.int .i64 op, .int .i64 num, .int .u32 (c : Nat), .slice ad qs.length cap] 28)
  have KO : Hid (∀ wx, Below w.heap.size w wx → Calls Tryd.prog 35 #[.agg #[.int .i64 op, .int .i64 num, .int .u32 (c : Nat), .slice ad qs.length cap]] wx fun e w' => e = .returned (lev c (rv qs qs.length)) ∧ Below w.heap.size w w') := fun wx hx => (outer_any op num c qs ad cap wx (h.below hx)).mono fun e w' ⟨a, b⟩ => ⟨a, hx.trans (b.mono hx.size)⟩
  have K : Hid (∀ wx, Below w.heap.size w wx → Calls Tryd.prog 40 #[lev c (rv qs qs.length), .int .i64 k] wx fun e w' => e = .returned (.int .i64 (rch c (rv qs qs.length) k)) ∧ Below w.heap.size w w') := fun wx hx => (reachl (by have := h.c; omega) k (h.cp _) (by rw [rv_len qs _ (Nat.le_refl _)]; exact h.l) wx (h.n.below hx)).mono fun e w' ⟨a, b⟩ => ⟨a, hx.trans (b.mono hx.size)⟩
  generalize lev c (rv qs qs.length) = V at KO K
  generalize rch c (rv qs qs.length) k = R at K ⊢
  clear h
  go_enter Tryd.func22, Tryd.ntmps22
  go_wp2_with (first
    | (go_at_call 35; refine (KO.out _ b0).mono ?_; rintro e w2 ⟨rfl, b2⟩)
    | (go_at_call 40; refine (K.out _ b2).mono ?_; rintro e w3 ⟨rfl, b3⟩))
  go_ret
  exact ⟨rfl, b3⟩

/-- What the levels show. -/
theorem shl_u32 (j : Nat) (h : j < 32) : ((2 : Int) ^ j % 4294967296) = ((2 ^ j : Nat) : Int) := by
  have : 2 ^ j < 2 ^ 32 := Nat.pow_lt_pow_right (by decide) h
  rw [show ((2 : Int) ^ j) = ((2 ^ j : Nat) : Int) by simp]
  generalize 2 ^ j = X at this ⊢
  omega
theorem own_le {w : World} {base base' : Nat} {e : TypeId} {size : Nat} {v : Value} {n : Nat} {xs : List Value} (h : w.ownsRow base e size v n xs) (hb : base' ≤ base) : w.ownsRow base' e size v n xs := by
  refine ⟨h.1, ?_⟩
  rcases h.2 with h | ⟨g, c, cur, h1, h2, h3⟩
  · exact .inl h
  · exact .inr ⟨g, c, cur, h1, by omega, h3⟩
def srow (c : Nat) (qs : List Wq) (j : Nat) : List Value := (List.range j).map fun i => .int .u32 (sh c (rv qs i) : Nat)
theorem srow_succ (c : Nat) (qs : List Wq) (j : Nat) : srow c qs (j + 1) = srow c qs j ++ [.int .u32 (sh c (rv qs j) : Nat)] := by unfold srow; rw [List.range_succ, List.map_append]; rfl
theorem srow_at (c : Nat) (qs : List Wq) (n j : Nat) (h : j < n) : (srow c qs n)[j]? = some (.int .u32 (sh c (rv qs j) : Nat)) := by unfold srow; simp [h]
theorem infoCap : (Tryd.prog.info? 23).map (fun i => (i.zero, i.size, i.bytes)) = some (some (.int .u32 0), 1, 4) := by kernel_rfl
theorem capInfo : ∃ i0, Tryd.prog.info? 23 = some i0 ∧ i0.zero = some (.int .u32 0) ∧ i0.size = 1 ∧ i0.bytes = 4 := by
  have := infoCap
  cases h : Tryd.prog.info? 23 with
  | none => rw [h] at this; cases this
  | some i0 => rw [h] at this; simp at this; exact ⟨i0, rfl, this.1, this.2.1, this.2.2⟩
set_option maxRecDepth 100000 in
set_option maxHeartbeats 4000000 in
theorem plevels_any (op num : Int) (c : Nat) (qs : List Wq) (ad : Option Addr) (cap : Nat) (w : World) (h : ChOk w c ad qs) :
    Calls Tryd.prog 14 #[.agg #[.int .i64 op, .int .i64 num, .int .u32 (c : Nat), .slice ad qs.length cap]] w fun e w' => ∃ g cp, e = .returned (.slice (some ⟨g, 0, none⟩) (qs.length + 1) cp) ∧
      w'.ownsRow w.heap.size 23 1 (.slice (some ⟨g, 0, none⟩) (qs.length + 1) cp) (qs.length + 1) (srow c qs (qs.length + 1)) ∧ Below w.heap.size w w' := by
  have hmf := mkf
  obtain ⟨i0, hi0, hz0, hz1, hz2⟩ := capInfo
  have HI := Lib.hid hi0
  have HZ : Hid (i0.zero = some (.int .u32 0) ∧ i0.size = 1 ∧ i0.bytes = 4) := ⟨hz0, hz1, hz2⟩
  clear hi0 hz0 hz1 hz2
  have b0 := below1 w (.cells #[.int .i64 op, .int .i64 num, .int .u32 (c : Nat), .slice ad qs.length cap] 28)
  have KL : Hid (∀ wx, Below w.heap.size w wx → Calls Tryd.prog 33 #[.agg #[.int .i64 op, .int .i64 num, .int .u32 (c : Nat), .slice ad qs.length cap]] wx fun e w' => ∃ g cp, e = .returned (.slice (some ⟨g, 0, none⟩) (qs.length + 1) cp) ∧ g < w'.heap.size ∧ (∀ j, j < qs.length + 1 → w'.cell? ⟨g, j, none⟩ = some (lev c (rv qs j))) ∧ Below w.heap.size w w') := fun wx hx => (levels_any op num c qs ad cap wx h.q h.l (h.r.below hx)).mono fun e w' ⟨g, cp, a, h1, h2, ho, hb⟩ => by
    have hc : ∀ j, j < qs.length + 1 → w'.cell? ⟨g, j, none⟩ = some (lev c (rv qs j)) := fun j hj => own_cell ho _ _ (lrow_at c qs _ _ hj)
    exact ⟨g, cp, a, World.block_lt_of_cell? w' _ (hc 0 (by omega)), hc, hx.trans (hb.mono hx.size)⟩
  have HL := Lib.hid h
  have hl60 := h.l
  clear h
  go_enter Tryd.func14, Tryd.ntmps14
  go_wp2_with (first
    | (go_at_call 33; refine (KL.out _ b0).mono ?_; rintro e w2 ⟨gl, cl, rfl, hgl, hcl, b2⟩))
  have HC := Lib.hid hcl
  clear hcl
  go_loopw [3, 9] (fun s3 s9 wr => ∃ (j : Nat) (a : Option Addr) (cp : Nat), s9 = .int .i64 j ∧ j ≤ qs.length + 1 ∧ s3 = .slice a j cp ∧ wr.ownsRow w2.heap.size 23 1 (.slice a j cp) j (srow c qs j) ∧ Below w2.heap.size w2 wr) (fun _ s9 _ => qs.length + 1 - (intOf s9).toNat)
  case atStart => exact ⟨0, none, 0, rfl, Nat.zero_le _, rfl, ⟨rfl, .inl ⟨rfl, rfl⟩⟩, Below.refl _ _⟩
  case round =>
    obtain ⟨j, a, cp, rfl, hj, rfl, ho, hb⟩ := hrel
    have hB := b2.trans (hb.mono b2.size)
    by_cases hlt : j < qs.length + 1
    · have L := HL.out.lv j (by omega)
      obtain ⟨t, z, F, z', e1, hmm, hcf, hC⟩ := L.shw.get (by omega)
      have lj : wr.cell? ⟨gl, j, none⟩ = some (.iface t z) := by rw [← e1]; exact (hb.cell (p := ⟨gl, j, none⟩) hgl).trans (HC.out j hlt)
      have K : Hid (Calls Tryd.prog F #[z'] wr fun e w' => e = .returned (.int .u32 (sh c (rv qs j) : Nat)) ∧ Below wr.heap.size wr w' ∧ w'.ownsRow w2.heap.size 23 1 (.slice a j cp) j (srow c qs j)) := (hC.out wr (HL.out.n.below hB)).mono fun e w' ⟨a, b⟩ => ⟨a, b, own_kept ho b⟩
      have HO := Lib.hid ho
      have HE : Hid (srow c qs (j + 1) = srow c qs j ++ [.int .u32 (sh c (rv qs j) : Nat)]) := srow_succ c qs j
      generalize sh c (rv qs j) = S at K HE
      clear L hC e1 ho
      have hij : ((j : Nat) : Int) < (qs.length : Int) + 1 := by omega
      go_wp2_with fail
      refine K.out.mono ?_
      rintro e w3 ⟨rfl, b3, ho3⟩
      have HO3 := Lib.hid ho3
      clear ho3
      go_wp2_with (first
        | (at_builtin; refine wpList_append_lies _ rfl _ _ 38 rfl w2.heap.size 23 i0 (.int .u32 0) 1 4 Tryd.underlying38 HI.out HZ.out.1 HZ.out.2.1 HZ.out.2.2 rfl (by decide) (.slice a j cp) _ _ rfl (HO3.out.alloc _) ⟨w3.heap.size, 0, none⟩ 1 1 [.int .u32 (S : Nat)] rfl rfl (cell_one_new _ _ _) (by simp [Value.oneCell']) (by omega) (by unfold maxLen; omega) (by omega) (by have := hb.size; have := b3.size; simp; omega) _ rfl ?_; intro g4 d4 w4 ho4 hg4 ha4 hl4)
        | fail)
      have hb3 := hb.trans (b3.mono hb.size)
      refine ⟨⟨j + 1, _, d4, by go_num, by omega, rfl, ?_, ?_⟩, by simp [intOf]; omega⟩
      · rw [HE.out]; exact ho4
      · exact (hb3.alloc hb3.size _).grown hg4 (by have := hb3.size; simp; omega) (own_base HO.out)
    · have hje : j = qs.length + 1 := by omega
      subst hje
      obtain ⟨g5, c5, e5, h5, h6⟩ := ho.form (Nat.succ_pos _)
      injection e5 with e5 e6 e7
      subst e5 e7
      go_wp2
      go_ret
      exact ⟨g5, cp, rfl, own_le ho b2.size, hB⟩

/-- The core's own that is reached no more, among the first j. -/
def lost (c : Nat) (ws : List Wr) : Nat → Nat
  | 0 => 0
  | j + 1 => if c.testBit j = true ∧ rch c ws (j : Nat) ≠ 0 then lost c ws j ||| 2 ^ j else lost c ws j
theorem lost_lt (c : Nat) (ws : List Wr) : ∀ j, lost c ws j < 2 ^ j
  | 0 => Nat.zero_lt_one
  | j + 1 => by
    have := lost_lt c ws j
    have h2 : 2 ^ (j + 1) = 2 * 2 ^ j := by rw [Nat.pow_succ]; omega
    unfold lost; split
    · exact or_lt (n := j + 1) (by omega) (by omega)
    · omega
set_option maxRecDepth 100000 in
set_option maxHeartbeats 4000000 in
theorem plost_any (op num : Int) (c : Nat) (qs : List Wq) (ad : Option Addr) (cap : Nat) (w : World) (h : ChOk w c ad qs) :
    Calls Tryd.prog 18 #[.agg #[.int .i64 op, .int .i64 num, .int .u32 (c : Nat), .slice ad qs.length cap]] w fun e w' => e = .returned (.int .u32 (lost c (rv qs qs.length) 11 : Nat)) ∧ Below w.heap.size w w' := by
  have b0 := On.start w (.cells #[.int .i64 op, .int .i64 num, .int .u32 (c : Nat), .slice ad qs.length cap] 28)
  have KH : Hid (∀ (k : Int) wx, On w (.cells #[.int .i64 op, .int .i64 num, .int .u32 (c : Nat), .slice ad qs.length cap] 28) wx → Calls Tryd.prog 36 #[.int .u32 (c : Nat), .int .i64 k] wx fun e w' => e = .returned (.bool (hs c k)) ∧ w' = wx) := fun k wx hx => phas_any c k (by have := h.c; omega) wx (h.n.below hx.below)
  have KR : Hid (∀ (k : Int) wx, On w (.cells #[.int .i64 op, .int .i64 num, .int .u32 (c : Nat), .slice ad qs.length cap] 28) wx → Calls Tryd.prog 22 #[.agg #[.int .i64 op, .int .i64 num, .int .u32 (c : Nat), .slice ad qs.length cap], .int .i64 k] wx fun e w' => e = .returned (.int .i64 (rch c (rv qs qs.length) k)) ∧ On w (.cells #[.int .i64 op, .int .i64 num, .int .u32 (c : Nat), .slice ad qs.length cap] 28) w') := fun k wx hx => (preach_any op num c qs ad cap k wx (h.below hx.below)).mono fun e w' ⟨a, b⟩ => ⟨a, hx.step b⟩
  have HS : Hid (∀ wx, On w (.cells #[.int .i64 op, .int .i64 num, .int .u32 (c : Nat), .slice ad qs.length cap] 28) wx → wx.cell? ⟨w.heap.size, 0, none⟩ = some (.int .i64 op) ∧ wx.cell? ⟨w.heap.size, 1, none⟩ = some (.int .i64 num) ∧ wx.cell? ⟨w.heap.size, 2, none⟩ = some (.int .u32 (c : Nat)) ∧ wx.cell? ⟨w.heap.size, 3, none⟩ = some (.slice ad qs.length cap)) := fun wx h => ⟨h.cell 0, h.cell 1, h.cell 2, h.cell 3⟩
  clear h
  generalize hws : rv qs qs.length = ws at KR ⊢
  clear hws
  go_enter Tryd.func18, Tryd.ntmps18
  go_wp2
  go_loopw [3, 5] (fun s3 s5 wr => ∃ (j : Nat), s5 = .int .i64 j ∧ j ≤ 11 ∧ s3 = .int .u32 (lost c ws j : Nat) ∧ On w (.cells #[.int .i64 op, .int .i64 num, .int .u32 (c : Nat), .slice ad qs.length cap] 28) wr) (fun _ s5 _ => 11 - (intOf s5).toNat)
  case atStart => exact ⟨0, rfl, Nat.zero_le _, rfl, b0⟩
  case round =>
    obtain ⟨j, rfl, hj, rfl, hb⟩ := hrel
    obtain ⟨x0, x1, x2, x3⟩ := HS.out _ hb
    by_cases hlt : j < 11
    · have KHj := Lib.hid (KH.out (j : Nat) wr hb)
      rw [hs_nat c j hlt] at KHj
      have KRj := Lib.hid (KR.out (j : Nat) wr hb)
      have hll := lost_lt c ws j
      have hp : 2 ^ j ≤ 2 ^ 10 := Nat.pow_le_pow_right (by decide) (by omega)
      have HE : Hid (lost c ws (j + 1) = if c.testBit j = true ∧ rch c ws (j : Nat) ≠ 0 then lost c ws j ||| 2 ^ j else lost c ws j) := Lib.hid rfl
      have e1 := (u32_bits (lost c ws j) (2 ^ j) (by omega) (by omega)).2.1
      generalize lost c ws j = Lj at HE e1 hll ⊢
      generalize rch c ws (j : Nat) = R at KRj HE
      have hj0 : ¬ ((j : Nat) : Int) < 0 := by omega
      have hj1 : ((j : Nat) : Int) < 11 := by omega
      cases hbit : c.testBit j with
      | false =>
        rw [hbit] at KHj HE
        go_wp2_with (first
          | (go_at_call 36; refine KHj.out.mono ?_; rintro e w2 ⟨rfl, rfl⟩))
        exact ⟨⟨j + 1, by go_num, by omega, by rw [HE.out, if_neg (by simp)], hb⟩, by simp [intOf]; omega⟩
      | true =>
        rw [hbit] at KHj HE
        by_cases hr : R = 0
        · subst hr
          go_wp2_with (first
            | (go_at_call 36; refine KHj.out.mono ?_; rintro e w2 ⟨rfl, rfl⟩)
            | (go_at_call 22; refine KRj.out.mono ?_; rintro e w3 ⟨rfl, b3⟩))
          exact ⟨⟨j + 1, by go_num, by omega, by rw [HE.out, if_neg (by simp)], b3⟩, by simp [intOf]; omega⟩
        · have q1 : (R == 0) = false := by simpa using hr
          have q2 : (R != 0) = true := by simpa using hr
          have HR := Lib.hid hr
          clear hr
          go_wp2_with (first
            | (go_at_call 36; refine KHj.out.mono ?_; rintro e w2 ⟨rfl, rfl⟩)
            | (go_at_call 22; refine KRj.out.mono ?_; rintro e w3 ⟨rfl, b3⟩))
          refine ⟨⟨j + 1, by go_num, by omega, ?_, b3⟩, by simp [intOf]; omega⟩
          rw [HE.out, if_pos (by simp; exact HR.out), ← e1, shl_u32 j (by omega)]
    · have hje : j = 11 := by omega
      subst hje
      go_wp2
      go_ret
      exact ⟨rfl, hb.below⟩
set_option maxRecDepth 100000 in
set_option maxHeartbeats 4000000 in
theorem pgives_any (x : Wr) (hx : okr x) (A B w0 w1 : Int) (wa : Option Addr) (wl wc : Nat) (w : World) :
    Calls Tryd.prog 11 #[.agg (wcs x A B w0 w1 wa wl wc)] w fun e w' => e = .returned (.int .u32 (giv x : Nat)) ∧ Below w.heap.size w w' := by
  have b0 := below1 w (.cells (wcs x A B w0 w1 wa wl wc) 35)
  have KA : Hid (∀ wx, Below w.heap.size w wx → Calls Tryd.prog 31 #[.iface 57 (.agg #[.int .u32 0]), .agg (wcs x A B w0 w1 wa wl wc)] wx fun e w' => e = .returned (aro (.iface 57 (.agg #[.int .u32 0])) x) ∧ Below w.heap.size w w') := fun wx hx' => (around_any _ _ x hx A B w0 w1 wa wl wc wx).mono fun e w' ⟨a, b⟩ => ⟨a, hx'.trans (b.mono hx'.size)⟩
  have KG : Hid (∀ wx, Below w.heap.size w wx → Calls Tryd.prog 30 #[aro (.iface 57 (.agg #[.int .u32 0])) x] wx fun e w' => e = .returned (.int .u32 (giv x : Nat)) ∧ Below w.heap.size w w') := fun wx hx' => (gives_aro _ x wx).mono fun e w' ⟨a, b⟩ => ⟨a, hx'.trans (b.mono hx'.size)⟩
  generalize aro (.iface 57 (.agg #[.int .u32 0])) x = V at KA KG
  generalize giv x = G at KG ⊢
  clear hx
  obtain ⟨o, cp, on⟩ := x
  rw [wcs8] at b0 KA ⊢
  go_enter Tryd.func11, Tryd.ntmps11
  go_wp2_with (first
    | (go_at_call 31; refine (KA.out _ b0).mono ?_; rintro e w2 ⟨rfl, b2⟩)
    | (go_at_call 30; refine (KG.out _ b2).mono ?_; rintro e w3 ⟨rfl, b3⟩))
  go_ret
  exact ⟨rfl, b3⟩
end Go.Proofs.YtcbplamomhimiaaDoor
