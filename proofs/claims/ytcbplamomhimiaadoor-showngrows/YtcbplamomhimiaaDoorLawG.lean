/- The law ShownGrows at every chain that reads, and every set: true; what is asked of the world: the table of words as its text lays it. -/
import Derived.Test.YtcbplamomhimiaaDoorLawL
namespace Go.Proofs.YtcbplamomhimiaaDoor
open Go.RowKit

/-! ### two blocks of one's own -/
def On2 (w : World) (o p : Obj) (w' : World) : Prop := Below (w.heap.size + 2) ((w.alloc o).alloc p) w'
theorem On2.drew {w w' : World} {o p : Obj} (h : On2 w o p w') : On2 w o p w'.drew := Below.drew h
theorem On2.drewN {w w' : World} {o p : Obj} (h : On2 w o p w') (q : Nat) : On2 w o p (w'.drewN q) := below_drewN h q
theorem On2.below {w w' : World} {o p : Obj} (h : On2 w o p w') : Below w.heap.size w w' := ((below1 w o).trans ((below1 (w.alloc o) p).mono (by simp))).trans (Below.mono h (by omega))
theorem On2.size {w w' : World} {o p : Obj} (h : On2 w o p w') : w.heap.size + 2 ≤ w'.heap.size := by have := Below.size h; simpa using this
theorem On2.step {w w1 w2 : World} {o p : Obj} (h : On2 w o p w1) (hb : Below w1.heap.size w1 w2) : On2 w o p w2 := Below.trans h (hb.mono h.size)
theorem On2.start (w : World) (o p : Obj) : On2 w o p ((w.alloc o).alloc p) := Below.refl _ _
theorem On2.cell {w w' : World} {cs : Array Value} {t : TypeId} {f : Nat × Nat} {p : Obj} (h : On2 w (.cells cs t f) p w') (j : Nat) : w'.cell? ⟨w.heap.size, j, none⟩ = cs[j]? := by
  have e : (w.alloc (.cells cs t f)).cell? ⟨w.heap.size, j, none⟩ = cs[j]? := cell_at (heap_alloc_new w _) j
  have e2 : ((w.alloc (.cells cs t f)).alloc p).cell? ⟨w.heap.size, j, none⟩ = cs[j]? := ((below1 (w.alloc (.cells cs t f)) p).cell (p := ⟨w.heap.size, j, none⟩) (by simp)).trans e
  exact (Below.cell h (p := ⟨w.heap.size, j, none⟩) (by show w.heap.size < _; omega)).trans e2
theorem On2.cell' {w w' : World} {cs : Array Value} {t : TypeId} {f : Nat × Nat} {o : Obj} (h : On2 w o (.cells cs t f) w') (j : Nat) : w'.cell? ⟨w.heap.size + 1, j, none⟩ = cs[j]? := by
  have e : ((w.alloc o).alloc (.cells cs t f)).cell? ⟨(w.alloc o).heap.size, j, none⟩ = cs[j]? := cell_at (heap_alloc_new (w.alloc o) _) j
  rw [World.size_alloc] at e
  exact (Below.cell h (p := ⟨w.heap.size + 1, j, none⟩) (by show w.heap.size + 1 < _; omega)).trans e

theorem kp_mono (x : Wr) (a b : Nat) (ha : a < 4294967296) (hb : b < 4294967296) (h : subS a b) : subS (kp x a) (kp x b) := by
  have h1 : ∀ y z m, y < 4294967296 → z < 4294967296 → subS y z → subS (andN y m) (andN z m) := fun y z m hy hz hq i hi => by
    rw [bit_andN _ _ hy] at hi; rw [bit_andN _ _ hz]; simp at hi ⊢; exact ⟨hq i hi.1, hi.2⟩
  unfold kp
  split
  · exact h1 _ _ _ (andN_lt _ _ ha) (andN_lt _ _ hb) (h1 _ _ _ ha hb h)
  · split
    · intro i hi
      rw [Nat.testBit_and] at hi ⊢; simp at hi ⊢
      exact ⟨h1 _ _ _ ha hb h i hi.1, hi.2⟩
    · split
      · exact sub_refl _
      · exact h1 _ _ _ ha hb h
theorem sh_mono {c d : Nat} (hc : c < 2048) (hd : d < 2048) (h : subS c d) : ∀ {ws : List Wr}, (∀ x ∈ ws, x.cp < 1024) → subS (sh c ws) (sh d ws)
  | [], _ => h
  | x :: r, hw => by
    have hr : ∀ y ∈ r, y.cp < 1024 := fun y hy => hw y (List.mem_cons_of_mem _ hy)
    have ih := sh_mono hc hd h hr
    have l1 := sh_lt hc hr
    have l2 := sh_lt hd hr
    intro i hi
    show (kp x (sh d r) ||| giv x).testBit i = true
    have hi' : (kp x (sh c r) ||| giv x).testBit i = true := hi
    rw [Nat.testBit_or] at hi' ⊢
    simp at hi' ⊢
    rcases hi' with h3 | h3
    · exact .inl (kp_mono x _ _ (by omega) (by omega) ih i h3)
    · exact .inr h3
theorem sub_or (c m : Nat) : subS c (c ||| m) := fun i h => by rw [Nat.testBit_or, h]; rfl

set_option maxRecDepth 100000 in
set_option maxHeartbeats 4000000 in
theorem law_grows (op num : Int) (c : Nat) (qs : List Wq) (ad : Option Addr) (cap n : Nat) (more : Nat) (hmore : more < 4294967296) (w : World) (h : ChR w c ad qs cap n) (hN : Wds w) :
    Calls Tryd.prog 6 #[.agg #[.int .i64 op, .int .i64 num, .int .u32 (c : Nat), .slice ad qs.length cap], .int .u32 (more : Nat)] w fun e w' => e = .returned (.bool true) ∧ Below w.heap.size w w' := by
  have hc32 := h.c
  have e1 : bits .and .u32 (more : Int) 1023 = ((more &&& 1023 : Nat) : Int) := (u32_bits more 1023 hmore (by decide)).1
  have hml : more &&& 1023 < 1024 := Nat.lt_of_le_of_lt Nat.and_le_right (by decide)
  have e2 := (u32_bits c (more &&& 1023) hc32 (by omega)).2.1
  have hsub := sub_or c (more &&& 1023)
  have hd32 : c ||| (more &&& 1023) < 4294967296 := or_lt (n := 32) hc32 (by omega)
  generalize hdd : c ||| (more &&& 1023) = d at e2 hsub hd32
  generalize more &&& 1023 = mm at e1 e2 hml hdd
  clear hdd
  have b0 := On2.start w (.cells #[.int .i64 op, .int .i64 num, .int .u32 (c : Nat), .slice ad qs.length cap] 28) (.cells #[.int .i64 op, .int .i64 num, .int .u32 (d : Nat), .slice ad qs.length cap] 28)
  have HS : Hid (∀ wx, On2 w (.cells #[.int .i64 op, .int .i64 num, .int .u32 (c : Nat), .slice ad qs.length cap] 28) (.cells #[.int .i64 op, .int .i64 num, .int .u32 (d : Nat), .slice ad qs.length cap] 28) wx → wx.cell? ⟨w.heap.size, 0, none⟩ = some (.int .i64 op) ∧ wx.cell? ⟨w.heap.size, 1, none⟩ = some (.int .i64 num) ∧ wx.cell? ⟨w.heap.size, 2, none⟩ = some (.int .u32 (c : Nat)) ∧ wx.cell? ⟨w.heap.size, 3, none⟩ = some (.slice ad qs.length cap) ∧ wx.cell? ⟨w.heap.size + 1, 0, none⟩ = some (.int .i64 op) ∧ wx.cell? ⟨w.heap.size + 1, 1, none⟩ = some (.int .i64 num) ∧ wx.cell? ⟨w.heap.size + 1, 2, none⟩ = some (.int .u32 (d : Nat)) ∧ wx.cell? ⟨w.heap.size + 1, 3, none⟩ = some (.slice ad qs.length cap)) := fun wx h => ⟨h.cell 0, h.cell 1, h.cell 2, h.cell 3, h.cell' 0, h.cell' 1, h.cell' 2, h.cell' 3⟩
  have KA : Hid (∀ wx, On2 w (.cells #[.int .i64 op, .int .i64 num, .int .u32 (c : Nat), .slice ad qs.length cap] 28) (.cells #[.int .i64 op, .int .i64 num, .int .u32 (d : Nat), .slice ad qs.length cap] 28) wx → Calls Tryd.prog 10 #[] wx fun e w' => e = .returned (.bool true) ∧ On2 w (.cells #[.int .i64 op, .int .i64 num, .int .u32 (c : Nat), .slice ad qs.length cap] 28) (.cells #[.int .i64 op, .int .i64 num, .int .u32 (d : Nat), .slice ad qs.length cap] 28) w') := fun wx hx => (awake_any wx (hN.below hx.below)).mono fun e w' ⟨a, b⟩ => ⟨a, hx.step b⟩
  have KC : Hid (∀ wx, On2 w (.cells #[.int .i64 op, .int .i64 num, .int .u32 (c : Nat), .slice ad qs.length cap] 28) (.cells #[.int .i64 op, .int .i64 num, .int .u32 (d : Nat), .slice ad qs.length cap] 28) wx → Calls Tryd.prog 9 #[.agg #[.int .i64 op, .int .i64 num, .int .u32 (c : Nat), .slice ad qs.length cap]] wx fun e w' => ∃ b, e = .returned (.bool b) ∧ (b = true → ChOk w c ad qs ∧ qs.length ≤ 8) ∧ On2 w (.cells #[.int .i64 op, .int .i64 num, .int .u32 (c : Nat), .slice ad qs.length cap] 28) (.cells #[.int .i64 op, .int .i64 num, .int .u32 (d : Nat), .slice ad qs.length cap] 28) w') := fun wx hx => (rchain_any op num c qs ad cap n wx (h.below hx.below)).mono fun e w' ⟨b, a, f, hb⟩ => ⟨b, a, fun hb' => ⟨⟨(f hb').1, (f hb').2.1, by have := (f hb').2.2; omega, h.r, hN⟩, (f hb').2.2⟩, hx.step hb⟩
  have hdR : ChR w d ad qs cap n := ⟨hd32, h.l, h.m, h.r, h.q⟩
  have KD : Hid (∀ wx, On2 w (.cells #[.int .i64 op, .int .i64 num, .int .u32 (c : Nat), .slice ad qs.length cap] 28) (.cells #[.int .i64 op, .int .i64 num, .int .u32 (d : Nat), .slice ad qs.length cap] 28) wx → Calls Tryd.prog 9 #[.agg #[.int .i64 op, .int .i64 num, .int .u32 (d : Nat), .slice ad qs.length cap]] wx fun e w' => ∃ b, e = .returned (.bool b) ∧ (b = true → ChOk w d ad qs ∧ qs.length ≤ 8) ∧ On2 w (.cells #[.int .i64 op, .int .i64 num, .int .u32 (c : Nat), .slice ad qs.length cap] 28) (.cells #[.int .i64 op, .int .i64 num, .int .u32 (d : Nat), .slice ad qs.length cap] 28) w') := fun wx hx => (rchain_any op num d qs ad cap n wx (hdR.below hx.below)).mono fun e w' ⟨b, a, f, hb⟩ => ⟨b, a, fun hb' => ⟨⟨(f hb').1, (f hb').2.1, by have := (f hb').2.2; omega, h.r, hN⟩, (f hb').2.2⟩, hx.step hb⟩
  clear h hN hdR
  go_enter Tryd.func6, Tryd.ntmps6
  go_wp2_with fail
  refine (KC.out _ b0).mono ?_
  rintro e w1 ⟨bb, rfl, hbb, b1⟩
  obtain ⟨x0, x1, x2, x3, y0, y1, y2, y3⟩ := HS.out _ b1
  cases bb with
  | false =>
    go_wp2_with (first
      | (go_at_call 10; refine (KA.out _ b1).mono ?_; rintro e w2 ⟨rfl, b2⟩))
    go_ret
    exact ⟨rfl, b2.below⟩
  | true =>
    obtain ⟨hok, hl8⟩ := hbb rfl
    go_wp2_with fail
    refine (KD.out _ b1).mono ?_
    rintro e w2 ⟨bb, rfl, hbd, b2⟩
    clear x0 x1 x2 x3 y0 y1 y2 y3
    obtain ⟨x0, x1, x2, x3, y0, y1, y2, y3⟩ := HS.out _ b2
    cases bb with
    | false =>
      go_wp2_with (first
        | (go_at_call 10; refine (KA.out _ b2).mono ?_; rintro e w3 ⟨rfl, b3⟩))
      go_ret
      exact ⟨rfl, b3.below⟩
    | true =>
      obtain ⟨hod, -⟩ := hbd rfl
      have hz : Hid (∀ i, andN (sh c (rv qs i)) (sh d (rv qs i)) = 0) := Lib.hid (fun i => (andN_zero _ _ (by have := hok.lt i; omega)).2 (sh_mono (by have := hok.c; omega) (by have := hod.c; omega) hsub (hok.cp i)))
      have HL1 := Lib.hid hok.lt
      have HL2 := Lib.hid hod.lt
      have KP : Hid (∀ (c' : Nat), (c' = c ∨ c' = d) → ∀ wx, On2 w (.cells #[.int .i64 op, .int .i64 num, .int .u32 (c : Nat), .slice ad qs.length cap] 28) (.cells #[.int .i64 op, .int .i64 num, .int .u32 (d : Nat), .slice ad qs.length cap] 28) wx → Calls Tryd.prog 14 #[.agg #[.int .i64 op, .int .i64 num, .int .u32 (c' : Nat), .slice ad qs.length cap]] wx fun e w' => ∃ g cp, e = .returned (.slice (some ⟨g, 0, none⟩) (qs.length + 1) cp) ∧ RowS w' c' qs g ∧ On2 w (.cells #[.int .i64 op, .int .i64 num, .int .u32 (c : Nat), .slice ad qs.length cap] 28) (.cells #[.int .i64 op, .int .i64 num, .int .u32 (d : Nat), .slice ad qs.length cap] 28) w' ∧ Below wx.heap.size wx w') := fun c' hc' wx hx => (plevels_any op num c' qs ad cap wx (by rcases hc' with rfl | rfl; exact hok.below hx.below; exact hod.below hx.below)).mono fun e w' ⟨g, cp, a, ho, hb⟩ => ⟨g, cp, a, rowS_of ho, hx.step hb, hb⟩
      have KS : Hid (∀ (c' : Nat), (c' = c ∨ c' = d) → ∀ wx, On2 w (.cells #[.int .i64 op, .int .i64 num, .int .u32 (c : Nat), .slice ad qs.length cap] 28) (.cells #[.int .i64 op, .int .i64 num, .int .u32 (d : Nat), .slice ad qs.length cap] 28) wx → Calls Tryd.prog 16 #[.agg #[.int .i64 op, .int .i64 num, .int .u32 (c' : Nat), .slice ad qs.length cap]] wx fun e w' => e = .returned (.int .u32 (sh c' (rv qs qs.length) : Nat)) ∧ On2 w (.cells #[.int .i64 op, .int .i64 num, .int .u32 (c : Nat), .slice ad qs.length cap] 28) (.cells #[.int .i64 op, .int .i64 num, .int .u32 (d : Nat), .slice ad qs.length cap] 28) w') := fun c' hc' wx hx => (shown_any op num c' qs ad cap wx (by rcases hc' with rfl | rfl; exact hok.below hx.below; exact hod.below hx.below)).mono fun e w' ⟨a, b⟩ => ⟨a, hx.step b⟩
      clear hbb hbd KC KD hok hod b0 b1 hsub
      go_wp2_with fail
      go_region_held3 (fun w' => w'.cell? ⟨w.heap.size, 0, none⟩ = some (.int .i64 op) ∧ w'.cell? ⟨w.heap.size, 1, none⟩ = some (.int .i64 num) ∧ w'.cell? ⟨w.heap.size, 2, none⟩ = some (.int .u32 (c : Nat)) ∧ w'.cell? ⟨w.heap.size, 3, none⟩ = some (.slice ad qs.length cap) ∧ w'.cell? ⟨w.heap.size + 1, 0, none⟩ = some (.int .i64 op) ∧ w'.cell? ⟨w.heap.size + 1, 1, none⟩ = some (.int .i64 num) ∧ w'.cell? ⟨w.heap.size + 1, 2, none⟩ = some (.int .u32 (d : Nat)) ∧ w'.cell? ⟨w.heap.size + 1, 3, none⟩ = some (.slice ad qs.length cap)) (exact HS.out _ (by first | assumption | exact On2.drew (by assumption))) (first
        | (go_at_call 14; refine (KP.out _ (by first | exact .inl rfl | exact .inr rfl) _ (by first | assumption | exact On2.drew (by assumption))).mono ?_; rintro e wa ⟨ga, ca, rfl, ra, ba, ea⟩; first | (have hrc : RowS wa c qs ga := (by with_reducible exact ra); have eac := ea) | (have hrd : RowS wa d qs ga := (by with_reducible exact ra); have ead := ea)))
      all_goals go_wp2_with fail
      all_goals
        first
          | (have HRc := hrc.below ead; have HRd := hrd)
          | (have HRc := hrc; have HRd := hrd.below eac)
        go_loopw [38] (fun s38 wr => ∃ (j : Nat), s38 = .int .i64 j ∧ j ≤ qs.length + 1 ∧ Below wa.heap.size wa wr ∧ On2 w (.cells #[.int .i64 op, .int .i64 num, .int .u32 (c : Nat), .slice ad qs.length cap] 28) (.cells #[.int .i64 op, .int .i64 num, .int .u32 (d : Nat), .slice ad qs.length cap] 28) wr) (fun s38 _ => qs.length + 1 - (intOf s38).toNat)
        case atStart => exact ⟨0, rfl, Nat.zero_le _, Below.refl _ _, by assumption⟩
        case round =>
          clear x0 x1 x2 x3 y0 y1 y2 y3
          obtain ⟨j, rfl, hj, hbw, hb⟩ := hrel
          by_cases hlt : j < qs.length + 1
          · have x1 := (HRc.below hbw).2 j hlt
            have x2 := (HRd.below hbw).2 j hlt
            have f1 := (u32_bits (sh c (rv qs j)) (sh d (rv qs j)) (by have := HL1.out j; omega) (by have := HL2.out j; omega)).2.2
            rw [hz.out j] at f1
            generalize sh c (rv qs j) = S1 at x1 f1
            generalize sh d (rv qs j) = S2 at x2 f1
            have hij : ((j : Nat) : Int) < (qs.length : Int) + 1 := by omega
            have hi0 : (0 : Int) ≤ ((j : Nat) : Int) := by omega
            go_wp2_with fail
            go_quiet (fail)
            go_wp2
            exact ⟨⟨j + 1, by go_num, by omega, below_drewN hbw _, hb.drewN _⟩, by simp [intOf] <;> omega⟩
          · have f1 := (u32_bits (sh c (rv qs qs.length)) (sh d (rv qs qs.length)) (by have := HL1.out qs.length; omega) (by have := HL2.out qs.length; omega)).2.2
            rw [hz.out qs.length] at f1
            have KS1 := Lib.hid (KS.out c (.inl rfl))
            go_wp2_with fail
            go_region_held3 (fun w' => w'.cell? ⟨w.heap.size, 0, none⟩ = some (.int .i64 op) ∧ w'.cell? ⟨w.heap.size, 1, none⟩ = some (.int .i64 num) ∧ w'.cell? ⟨w.heap.size, 2, none⟩ = some (.int .u32 (c : Nat)) ∧ w'.cell? ⟨w.heap.size, 3, none⟩ = some (.slice ad qs.length cap) ∧ w'.cell? ⟨w.heap.size + 1, 0, none⟩ = some (.int .i64 op) ∧ w'.cell? ⟨w.heap.size + 1, 1, none⟩ = some (.int .i64 num) ∧ w'.cell? ⟨w.heap.size + 1, 2, none⟩ = some (.int .u32 (d : Nat)) ∧ w'.cell? ⟨w.heap.size + 1, 3, none⟩ = some (.slice ad qs.length cap)) (exact HS.out _ (by first | assumption | exact On2.drew (by assumption))) (first
              | (go_at_call 16; refine (KS.out _ (by first | exact .inl rfl | exact .inr rfl) _ (by first | assumption | exact On2.drew (by assumption))).mono ?_; rintro e wc ⟨rfl, bc⟩)
              | (go_at_call 10; refine (KA.out _ (by first | assumption | exact On2.drew (by assumption))).mono ?_; rintro e wd ⟨rfl, bd⟩))
            all_goals go_wp2
            all_goals go_ret
            all_goals exact ⟨rfl, On2.below (by first | assumption | exact On2.drew (by assumption))⟩
end Go.Proofs.YtcbplamomhimiaaDoor
