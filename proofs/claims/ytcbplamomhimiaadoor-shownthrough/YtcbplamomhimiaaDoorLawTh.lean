/- The law ShownThrough at every chain that reads, and every number: true; what is asked of the world: the table of words as its text lays it. -/
import Derived.Test.YtcbplamomhimiaaDoorLawTt
import Derived.Test.YtcbplamomhimiaaDoorLawL
import Derived.Deep.Cut
import Derived.Deep.CutRange
namespace Go.Proofs.YtcbplamomhimiaaDoor
open Go.RowKit

theorem tq_okr (o : Bool) : okr (tq o).x := by unfold okr tq; simp
set_option maxRecDepth 100000 in
set_option maxHeartbeats 4000000 in
theorem moved_any (a : Int) (k : Nat) (w : World) (h : a ≤ 100) : Calls Tryd.prog 24 #[.int .i64 a, .int .i64 (k : Int)] w fun e w' => e = .returned (.int .i64 (mvI k a)) ∧ w' = w := by
  unfold mvI
  by_cases q : (k : Int) < a
  · have q2 : IntKind.i64.wrap (a + 1) = a + 1 := IntWalk.i64_in _ (by omega)
    rw [if_pos q]
    go_enter Tryd.func24, Tryd.ntmps24
    go_wp2
    go_ret
    exact ⟨rfl, rfl⟩
  · rw [if_neg q]
    go_enter Tryd.func24, Tryd.ntmps24
    go_wp2
    go_ret
    exact ⟨rfl, rfl⟩
set_option maxRecDepth 100000 in
set_option maxHeartbeats 4000000 in
theorem law_through (op num : Int) (c : Nat) (qs : List Wq) (ad : Option Addr) (cap n : Nat) (at' : Int) (w : World) (h : ChR w c ad qs cap n) (hN : Wds w) :
    Calls Tryd.prog 7 #[.agg #[.int .i64 op, .int .i64 num, .int .u32 (c : Nat), .slice ad qs.length cap], .int .i64 at'] w fun e w' => e = .returned (.bool true) ∧ Below w.heap.size w w' := by
  have HLC := Lib.hid h.l
  have b0 := On.start w (.cells #[.int .i64 op, .int .i64 num, .int .u32 (c : Nat), .slice ad qs.length cap] 28)
  have HS : Hid (∀ wx, On w (.cells #[.int .i64 op, .int .i64 num, .int .u32 (c : Nat), .slice ad qs.length cap] 28) wx → wx.cell? ⟨w.heap.size, 0, none⟩ = some (.int .i64 op) ∧ wx.cell? ⟨w.heap.size, 1, none⟩ = some (.int .i64 num) ∧ wx.cell? ⟨w.heap.size, 2, none⟩ = some (.int .u32 (c : Nat)) ∧ wx.cell? ⟨w.heap.size, 3, none⟩ = some (.slice ad qs.length cap)) := fun wx h => ⟨h.cell 0, h.cell 1, h.cell 2, h.cell 3⟩
  have KA : Hid (∀ wx, On w (.cells #[.int .i64 op, .int .i64 num, .int .u32 (c : Nat), .slice ad qs.length cap] 28) wx → Calls Tryd.prog 10 #[] wx fun e w' => e = .returned (.bool true) ∧ On w (.cells #[.int .i64 op, .int .i64 num, .int .u32 (c : Nat), .slice ad qs.length cap] 28) w') := fun wx hx => (awake_any wx (hN.below hx.below)).mono fun e w' ⟨a, b⟩ => ⟨a, hx.step b⟩
  have KC : Hid (∀ wx, On w (.cells #[.int .i64 op, .int .i64 num, .int .u32 (c : Nat), .slice ad qs.length cap] 28) wx → Calls Tryd.prog 9 #[.agg #[.int .i64 op, .int .i64 num, .int .u32 (c : Nat), .slice ad qs.length cap]] wx fun e w' => ∃ b, e = .returned (.bool b) ∧ (b = true → ChOk w c ad qs ∧ qs.length ≤ 8) ∧ On w (.cells #[.int .i64 op, .int .i64 num, .int .u32 (c : Nat), .slice ad qs.length cap] 28) w') := fun wx hx => (rchain_any op num c qs ad cap n wx (h.below hx.below)).mono fun e w' ⟨b, a, f, hb⟩ => ⟨b, a, fun hb' => ⟨⟨(f hb').1, (f hb').2.1, by have := (f hb').2.2; omega, h.r, hN⟩, (f hb').2.2⟩, hx.step hb⟩
  clear h hN
  go_enter Tryd.func7, Tryd.ntmps7
  go_wp2_with fail
  refine (KC.out _ b0).mono ?_
  rintro e w1 ⟨bb, rfl, hbb, b1⟩
  obtain ⟨x0, x1, x2, x3⟩ := HS.out _ b1
  cases bb with
  | false =>
    go_wp2_with (first
      | (go_at_call 10; refine (KA.out _ b1).mono ?_; rintro e w2 ⟨rfl, b2⟩))
    go_ret
    exact ⟨rfl, b2.below⟩
  | true =>
    obtain ⟨hok, hl8⟩ := hbb rfl
    clear hbb KC
    have hlc := HLC.out
    by_cases hlen : 8 ≤ qs.length
    · have q : (8 : Int) ≤ (qs.length : Int) := by omega
      go_wp2_with (first
        | (go_at_call 10; refine (KA.out _ b1).mono ?_; rintro e w2 ⟨rfl, b2⟩))
      go_ret
      exact ⟨rfl, b2.below⟩
    have ql : ¬ (8 : Int) ≤ (qs.length : Int) := by omega
    obtain ⟨U, hU⟩ : ∃ U : Nat, IntKind.u64.wrap at' = (U : Int) := ⟨(at' % 18446744073709551616).toNat, by show at' % 18446744073709551616 = _; omega⟩
    obtain ⟨k, hk, hkn⟩ : ∃ k : Nat, ((U : Nat) : Int).tmod ((qs.length : Int) + 1) = (k : Int) ∧ k ≤ qs.length := ⟨U % (qs.length + 1), by rw [Int.tmod_eq_emod_of_nonneg (by omega), Int.natCast_emod]; simp, by have := Nat.mod_lt U (show 0 < qs.length + 1 by omega); omega⟩
    have hk1 : ((k : Nat) : Int) ≤ (cap : Int) := by omega
    have hk0 : (0 : Int) ≤ ((k : Nat) : Int) := by omega
    obtain ⟨i0, hi0, hz0, hz1, hz2⟩ := wrapInfo
    have HI := Lib.hid hi0
    have HZ : Hid (i0.zero = some (.agg #[.int .i64 0, .int .i64 0, .int .i64 0, .int .u32 0, .int .i64 0, .int .i64 0, .slice none 0 0, .bool false]) ∧ i0.size = 8 ∧ i0.bytes = 80) := ⟨hz0, hz1, hz2⟩
    clear hi0 hz0 hz1 hz2
    have hw1 : w.heap.size < w1.heap.size := by have := b1.size; omega
    have S0 : StT w (.cells #[.int .i64 op, .int .i64 num, .int .u32 (c : Nat), .slice ad qs.length cap] 28) w1.heap.size op num c (w1.alloc (.cells #[.int .i64 op, .int .i64 num, .int .u32 (c : Nat), .slice none 0 0] 28)) (.slice none 0 0) 0 [] := StT.start b1
    have HOK := Lib.hid hok
    clear hok
    go_wp2_with fail
    go_cut [40] from 34 to 41 (fun s40 wx => ∃ v, StT w (.cells #[.int .i64 op, .int .i64 num, .int .u32 (c : Nat), .slice ad qs.length cap] 28) w1.heap.size op num c wx v k (flat (qs.take k)))
    case first =>
      by_cases hkz : k = 0
      · subst hkz
        cases ad
        all_goals
          go_region_law (fail)
          all_goals go_wp2
          all_goals go_meet
          all_goals exact ⟨_, S0.drew⟩
      · have hne : qs ≠ [] := by intro e; rw [e] at hkn; simp at hkn; exact hkz hkn
        obtain ⟨g, o, hr1, hr2, hr3⟩ := HOK.out.r.resolve_left hne
        subst hr1
        have hF1 : WRow w (some ⟨g, o, none⟩) (qs.take k) := .inr ⟨g, o, rfl, hr2, fun j q hj => hr3 j q (by rw [List.getElem?_take] at hj; split at hj; exact hj; cases hj)⟩
        have hT : qs.take k ≠ [] := by intro e; have := congrArg List.length e; simp at this; rcases this with h | h; exact hkz h; exact hne h
        have N1 : Hid (∀ j u, (flat (qs.take k))[j]? = some u → (w1.alloc (.cells #[.int .i64 op, .int .i64 num, .int .u32 (c : Nat), .slice none 0 0] 28)).cell? ((⟨g, o, none⟩ : Addr).add j) = some u) := fun j u hu => by
          rw [← hF1.news hT j u hu]
          have hlt : ((⟨g, o, none⟩ : Addr).add j).block < w.heap.size := by rw [add_pl]; exact hr2
          have hb := b1.below.trans ((below1 w1 (.cells #[.int .i64 op, .int .i64 num, .int .u32 (c : Nat), .slice none 0 0] 28)).mono b1.below.size)
          exact hb.cell (p := (⟨g, o, none⟩ : Addr).add j) hlt
        have HL1 : Hid ((flat (qs.take k)).length = k * 8) := Lib.hid (by rw [flat_len, List.length_take, Nat.min_eq_left hkn])
        have HF1 := Lib.hid (flat_one (qs.take k))
        have hkp : 0 < k := by omega
        clear hF1 hT hr3
        have HS0 := Lib.hid S0
        clear S0
        go_region_law (first
          | (refine step_append_lies _ rfl _ _ 26 rfl (w1.heap.size + 1) 35 i0 (.agg #[.int .i64 0, .int .i64 0, .int .i64 0, .int .u32 0, .int .i64 0, .int .i64 0, .slice none 0 0, .bool false]) 8 80 Tryd.underlying26 HI.out HZ.out.1 HZ.out.2.1 HZ.out.2.2 rfl (by decide) (.slice none 0 0) 0 [] rfl ⟨rfl, .inl ⟨rfl, rfl⟩⟩ ⟨g, o, none⟩ k cap (flat (qs.take k)) rfl HL1.out N1.out HF1.out hkp (by unfold maxLen; omega) (by omega) (by simp) _ rfl ?_; intro g1 d1 w2 ho1 hg1 ha1 hl1; rw [Nat.zero_add, List.nil_append] at ho1; obtain ⟨s1, s2, s3⟩ := StT.next HS0.out.drew hg1 ho1; have HS1 := Lib.hid s1; clear s1))
        all_goals go_wp2
        all_goals go_meet
        all_goals exact ⟨_, HS1.out⟩
    case rest =>
      obtain ⟨v, hSt⟩ := hcut
      obtain ⟨y0, y1, y2, y3, y4, y5⟩ := hSt.cells
      clear x0 x1 x2 x3 S0
      obtain ⟨x0, x1, x2, x3⟩ := HS.out _ hSt.on
      have hwc : w.heap.size < wc.heap.size := by omega
      go_wp2_with fail
      go_cut [57] from 42 to 58 (fun s57 wx => ∃ v, StT w (.cells #[.int .i64 op, .int .i64 num, .int .u32 (c : Nat), .slice ad qs.length cap] 28) w1.heap.size op num c wx v (k + 1) (flat (qs.take k) ++ flat [tq (opk qs k)]))
      case first =>
        clear x0 x1 x2 y0 y1 y2 KA HLC hU hk b0 b1 ql hl8 hlc hk1
        cases k with
        | zero =>
          have HO : Hid (opk qs 0 = false) := Lib.hid rfl
          have HSS : Hid (∀ wx, On w (.cells #[.int .i64 op, .int .i64 num, .int .u32 (c : Nat), .slice ad qs.length cap] 28) wx → wx.cell? ⟨w.heap.size, 3, none⟩ = some (.slice ad qs.length cap)) := fun wx h => (HS.out _ h).2.2.2
          have HB1 : Hid (StT w (.cells #[.int .i64 op, .int .i64 num, .int .u32 (c : Nat), .slice ad qs.length cap] 28) w1.heap.size op num c wc.drew v 0 (flat (qs.take 0))) := hSt.drew
          have HAL : Hid (StT w (.cells #[.int .i64 op, .int .i64 num, .int .u32 (c : Nat), .slice ad qs.length cap] 28) w1.heap.size op num c (wc.alloc (.cells #[.int .i64 1, .int .i64 0, .int .i64 0, .int .u32 0, .int .i64 0, .int .i64 0, .slice none 0 0, .bool false] 35)).drew v 0 (flat (qs.take 0))) := (hSt.below (below1 _ _)).drew
          refine wp_region_held_drew (S := fun w' => w'.cell? ⟨w.heap.size, 3, none⟩ = some (.slice ad qs.length cap)) (by kernel_rfl) x3 (fun hHeld => ?_)
          refine wpAnyH_take (i := 0) (oi := { dst := some 42, op := Go.Op.fieldAddr 28 (Go.Operand.tmp 6) 1, type := 0, pos := "law.go:112", after := #[], guard := none }) (v := ?tv0a) rfl (by kernel_rfl) (by kernel_rfl) (by kernel_rfl) (fun _ _ _ h => h) (Or.inl ⟨by rfl, ?ty0a⟩) (by assumption) ?tr0a
          case ty0a => (intro w hSw; (try dsimp only at hSw); go_simp; (try with_reducible rfl))
          simp only [Act.put, List.setIfInBounds_toArray, List.set_cons_zero, List.set_cons_succ]
          refine wpAnyH_take (i := 2) (oi := { dst := some 44, op := Go.Op.move (Go.Operand.tmp 5), type := 3, pos := "law.go:112", after := #[], guard := none }) (v := ?tv2a) rfl (by kernel_rfl) (by kernel_rfl) (by kernel_rfl) (fun _ _ _ h => h) (Or.inl ⟨by rfl, ?ty2a⟩) (by assumption) ?tr2a
          case ty2a => (intro w hSw; (try dsimp only at hSw); go_simp; (try with_reducible rfl))
          simp only [Act.put, List.setIfInBounds_toArray, List.set_cons_zero, List.set_cons_succ]
          refine wpAnyH_take (i := 3) (oi := { dst := some 45, op := Go.Op.binOp Go.BinOp.gtr 3 (Go.Operand.tmp 44) (Go.Operand.const (Go.Value.int Go.IntKind.i64 0)) 3, type := 4, pos := "law.go:112", after := #[{ on := 2, ground := Go.Ground.data }], guard := none }) (v := ?tv3a) rfl (by kernel_rfl) (by kernel_rfl) (by kernel_rfl) (fun _ _ _ h => h) (Or.inl ⟨by rfl, ?ty3a⟩) (by assumption) ?tr3a
          case ty3a => (intro w hSw; (try dsimp only at hSw); go_simp; (try with_reducible rfl))
          simp only [Act.put, List.setIfInBounds_toArray, List.set_cons_zero, List.set_cons_succ]
          refine wpAnyH_take (i := 4) (oi := { dst := some 46, op := Go.Op.move (Go.Operand.tmp 45), type := 4, pos := "law.go:112", after := #[{ on := 3, ground := Go.Ground.data }], guard := none }) (v := ?tv4a) rfl (by kernel_rfl) (by kernel_rfl) (by kernel_rfl) (fun _ _ _ h => h) (Or.inl ⟨by rfl, ?ty4a⟩) (by assumption) ?tr4a
          case ty4a => (intro w hSw; (try dsimp only at hSw); go_simp; (try with_reducible rfl))
          simp only [Act.put, List.setIfInBounds_toArray, List.set_cons_zero, List.set_cons_succ]
          refine wpAnyH_take (i := 5) (oi := { dst := some 47, op := Go.Op.fieldAddr 28 (Go.Operand.tmp 2) 1, type := 0, pos := "law.go:112", after := #[{ on := 4, ground := Go.Ground.guard }], guard := some (4, true) }) (v := undef) rfl (by kernel_rfl) (by kernel_rfl) (by kernel_rfl) (fun _ _ _ h => h) (Or.inr ⟨by rfl, rfl⟩) (by assumption) ?_
          simp only [Act.put, List.setIfInBounds_toArray, List.set_cons_zero, List.set_cons_succ]
          refine wpAnyH_take (i := 6) (oi := { dst := some 48, op := Go.Op.load 26 (Go.Operand.tmp 47), type := 26, pos := "law.go:112", after := #[{ on := 5, ground := Go.Ground.data }, { on := 4, ground := Go.Ground.guard }], guard := some (4, true) }) (v := undef) rfl (by kernel_rfl) (by kernel_rfl) (by kernel_rfl) (fun _ _ _ h => h) (Or.inr ⟨by rfl, rfl⟩) (by assumption) ?_
          simp only [Act.put, List.setIfInBounds_toArray, List.set_cons_zero, List.set_cons_succ]
          refine wpAnyH_take (i := 7) (oi := { dst := some 49, op := Go.Op.move (Go.Operand.tmp 5), type := 3, pos := "law.go:112", after := #[{ on := 4, ground := Go.Ground.guard }], guard := some (4, true) }) (v := undef) rfl (by kernel_rfl) (by kernel_rfl) (by kernel_rfl) (fun _ _ _ h => h) (Or.inr ⟨by rfl, rfl⟩) (by assumption) ?_
          simp only [Act.put, List.setIfInBounds_toArray, List.set_cons_zero, List.set_cons_succ]
          refine wpAnyH_take (i := 8) (oi := { dst := some 50, op := Go.Op.binOp Go.BinOp.sub 3 (Go.Operand.tmp 49) (Go.Operand.const (Go.Value.int Go.IntKind.i64 1)) 3, type := 3, pos := "law.go:112", after := #[{ on := 7, ground := Go.Ground.data }, { on := 4, ground := Go.Ground.guard }], guard := some (4, true) }) (v := undef) rfl (by kernel_rfl) (by kernel_rfl) (by kernel_rfl) (fun _ _ _ h => h) (Or.inr ⟨by rfl, rfl⟩) (by assumption) ?_
          simp only [Act.put, List.setIfInBounds_toArray, List.set_cons_zero, List.set_cons_succ]
          refine wpAnyH_take (i := 9) (oi := { dst := some 51, op := Go.Op.indexAddr 26 (Go.Operand.tmp 48) (Go.Operand.tmp 50), type := 0, pos := "law.go:112", after := #[{ on := 6, ground := Go.Ground.data }, { on := 8, ground := Go.Ground.data }, { on := 4, ground := Go.Ground.guard }], guard := some (4, true) }) (v := undef) rfl (by kernel_rfl) (by kernel_rfl) (by kernel_rfl) (fun _ _ _ h => h) (Or.inr ⟨by rfl, rfl⟩) (by assumption) ?_
          simp only [Act.put, List.setIfInBounds_toArray, List.set_cons_zero, List.set_cons_succ]
          refine wpAnyH_take (i := 10) (oi := { dst := some 52, op := Go.Op.fieldAddr 35 (Go.Operand.tmp 51) 5, type := 0, pos := "law.go:112", after := #[{ on := 9, ground := Go.Ground.data }, { on := 4, ground := Go.Ground.guard }], guard := some (4, true) }) (v := undef) rfl (by kernel_rfl) (by kernel_rfl) (by kernel_rfl) (fun _ _ _ h => h) (Or.inr ⟨by rfl, rfl⟩) (by assumption) ?_
          simp only [Act.put, List.setIfInBounds_toArray, List.set_cons_zero, List.set_cons_succ]
          refine wpAnyH_take (i := 11) (oi := { dst := some 53, op := Go.Op.load 4 (Go.Operand.tmp 52), type := 4, pos := "law.go:112", after := #[{ on := 10, ground := Go.Ground.data }, { on := 4, ground := Go.Ground.guard }], guard := some (4, true) }) (v := undef) rfl (by kernel_rfl) (by kernel_rfl) (by kernel_rfl) (fun _ _ _ h => h) (Or.inr ⟨by rfl, rfl⟩) (by assumption) ?_
          simp only [Act.put, List.setIfInBounds_toArray, List.set_cons_zero, List.set_cons_succ]
          refine wpAnyH_take (i := 12) (oi := { dst := some 54, op := Go.Op.pick (Go.Operand.tmp 46) (Go.Operand.tmp 53) (Go.Operand.const (Go.Value.bool false)), type := 4, pos := "law.go:112", after := #[{ on := 4, ground := Go.Ground.data }, { on := 11, ground := Go.Ground.data }], guard := none }) (v := ?tv12a) rfl (by kernel_rfl) (by kernel_rfl) (by kernel_rfl) (fun _ _ _ h => h) (Or.inl ⟨by rfl, ?ty12a⟩) (by assumption) ?tr12a
          case ty12a => (intro w hSw; (try dsimp only at hSw); go_simp; (try with_reducible rfl))
          simp only [Act.put, List.setIfInBounds_toArray, List.set_cons_zero, List.set_cons_succ]
          refine wpAnyH_take (i := 13) (oi := { dst := some 55, op := Go.Op.build 35 #[(0, Go.Operand.const (Go.Value.int Go.IntKind.i64 1)), (5, Go.Operand.tmp 54)], type := 35, pos := "law.go:112", after := #[{ on := 12, ground := Go.Ground.data }], guard := none }) (v := ?tv13a) rfl (by kernel_rfl) (by kernel_rfl) (by kernel_rfl) (fun _ _ _ h => h) (Or.inl ⟨by rfl, ?ty13a⟩) (by assumption) ?tr13a
          case ty13a => (intro w hSw; (try dsimp only at hSw); go_simp; (try with_reducible rfl))
          simp only [Act.put, List.setIfInBounds_toArray, List.set_cons_zero, List.set_cons_succ]
          refine wpAnyH_ready (rs := [1, 14]) (by kernel_rfl) (by simp) ?_
          refine AllReadyH.cons (o := { dst := some 43, op := Go.Op.load 26 (Go.Operand.tmp 42), type := 26, pos := "law.go:112", after := #[{ on := 0, ground := Go.Ground.data }], guard := none }) rfl (fun K hK => ?_) (AllReadyH.cons (o := { dst := some 56, op := Go.Op.buildSlice 26 1 #[(0, Go.Operand.tmp 55)], type := 26, pos := "law.go:112", after := #[{ on := 13, ground := Go.Ground.data }], guard := none }) rfl (fun K hK => ?_) AllReadyH.nil)
          · go_simp
            refine hK.out _ _ (HSS.out _ HB1.out.on) (fun hHeld2 => ?_)
            clear hK K hHeld
            refine wpAnyH_ready (rs := [14]) (by kernel_rfl) (by simp) ?_
            refine AllReadyH.cons (o := { dst := some 56, op := Go.Op.buildSlice 26 1 #[(0, Go.Operand.tmp 55)], type := 26, pos := "law.go:112", after := #[{ on := 13, ground := Go.Ground.data }], guard := none }) rfl (fun K hK => ?_) AllReadyH.nil
            go_simp
            refine hK.out _ _ (HSS.out _ HAL.out.on) (fun hHeld3 => ?_)
            clear hK K hHeld2
            refine wpAnyH_ready (rs := [15]) (by kernel_rfl) (by simp) ?_
            refine AllReadyH.cons (o := { dst := some 57, op := Go.Op.call { callee := Go.Callee.builtin Go.Builtin.append, args := #[Go.Operand.tmp 43, Go.Operand.tmp 56], argTypes := #[26, 26] }, type := 26, pos := "law.go:112", after := #[{ on := 1, ground := Go.Ground.data }, { on := 14, ground := Go.Ground.data }, { on := 4, ground := Go.Ground.chain }], guard := none }) rfl (fun K hK => ?_) AllReadyH.nil
            refine step_append_lies _ rfl _ _ 26 rfl (w1.heap.size + 1) 35 i0 (.agg #[.int .i64 0, .int .i64 0, .int .i64 0, .int .u32 0, .int .i64 0, .int .i64 0, .slice none 0 0, .bool false]) 8 80 Tryd.underlying26 HI.out HZ.out.1 HZ.out.2.1 HZ.out.2.2 rfl (by decide) v 0 (flat (qs.take 0)) rfl HAL.out.own ⟨wc.heap.size, 0, none⟩ 1 1 [.int .i64 1, .int .i64 0, .int .i64 0, .int .u32 0, .int .i64 0, .int .i64 0, .slice none 0 0, .bool false] rfl rfl (World.news_of_block (heap_alloc_new wc (.cells #[.int .i64 1, .int .i64 0, .int .i64 0, .int .u32 0, .int .i64 0, .int .i64 0, .slice none 0 0, .bool false] 35))) (by simp [Value.oneCell']) (by decide) (by unfold maxLen; omega) (by omega) (by have := HAL.out.cells.2.2.2.2.2; simp; omega) _ rfl ?_
            intro g2 d2 w3 ho hg ha hl
            obtain ⟨s1, s2, s3⟩ := StT.next HAL.out hg ho
            have s4 := (StT.grown HAL.out hg).2
            have HS1 := Lib.hid s1
            have HS4 := Lib.hid s4
            clear s1 s4
            refine hK.out _ _ (HSS.out _ HS4.out) (fun hHeld4 => ?_)
            clear hK K hHeld3
            try simp only [Act.put, List.setIfInBounds_toArray, List.set_cons_zero, List.set_cons_succ]
            refine wpAnyH_take (i := 16) (oi := { dst := some 58, op := Go.Op.fieldAddr 28 (Go.Operand.tmp 6) 1, type := 0, pos := "law.go:112", after := #[{ on := 0, ground := Go.Ground.phase }, { on := 1, ground := Go.Ground.phase }, { on := 2, ground := Go.Ground.phase }, { on := 3, ground := Go.Ground.phase }, { on := 4, ground := Go.Ground.phase }, { on := 5, ground := Go.Ground.phase }, { on := 6, ground := Go.Ground.phase }, { on := 7, ground := Go.Ground.phase }, { on := 8, ground := Go.Ground.phase }, { on := 9, ground := Go.Ground.phase }, { on := 10, ground := Go.Ground.phase }, { on := 11, ground := Go.Ground.phase }, { on := 12, ground := Go.Ground.phase }, { on := 13, ground := Go.Ground.phase }, { on := 14, ground := Go.Ground.phase }, { on := 15, ground := Go.Ground.phase }], guard := none }) (v := ?tv16a14) rfl (by kernel_rfl) (by kernel_rfl) (by kernel_rfl) (fun _ _ _ h => h) (Or.inl ⟨by rfl, ?ty16a14⟩) (by assumption) ?tr16a14
            case ty16a14 => (intro w hSw; (try dsimp only at hSw); go_simp; (try with_reducible rfl))
            simp only [Act.put, List.setIfInBounds_toArray, List.set_cons_zero, List.set_cons_succ]
            refine wpAnyH_ready (rs := [17]) (by kernel_rfl) (by simp) ?_
            refine AllReadyH.cons (o := { dst := none, op := Go.Op.store 26 (Go.Operand.tmp 58) (Go.Operand.tmp 57), type := 0, pos := "law.go:112", after := #[{ on := 16, ground := Go.Ground.data }, { on := 15, ground := Go.Ground.data }, { on := 15, ground := Go.Ground.chain }, { on := 0, ground := Go.Ground.phase }, { on := 1, ground := Go.Ground.phase }, { on := 2, ground := Go.Ground.phase }, { on := 3, ground := Go.Ground.phase }, { on := 4, ground := Go.Ground.phase }, { on := 5, ground := Go.Ground.phase }, { on := 6, ground := Go.Ground.phase }, { on := 7, ground := Go.Ground.phase }, { on := 8, ground := Go.Ground.phase }, { on := 9, ground := Go.Ground.phase }, { on := 10, ground := Go.Ground.phase }, { on := 11, ground := Go.Ground.phase }, { on := 12, ground := Go.Ground.phase }, { on := 13, ground := Go.Ground.phase }, { on := 14, ground := Go.Ground.phase }, { on := 15, ground := Go.Ground.phase }], guard := none }) rfl (fun K hK => ?_) AllReadyH.nil
            go_simp
            refine hK.out _ _ (HSS.out _ HS1.out.on) (fun hHeld5 => ?_)
            clear hK K hHeld4
            refine wpAnyH_done (by kernel_rfl) ?_ _
            go_wp2
            all_goals go_meet
            all_goals exact ⟨_, by rw [HO.out]; exact HS1.out⟩
          · go_simp
            refine hK.out _ _ (HSS.out _ HAL.out.on) (fun hHeld2 => ?_)
            clear hK K hHeld
            refine wpAnyH_ready (rs := [1]) (by kernel_rfl) (by simp) ?_
            refine AllReadyH.cons (o := { dst := some 43, op := Go.Op.load 26 (Go.Operand.tmp 42), type := 26, pos := "law.go:112", after := #[{ on := 0, ground := Go.Ground.data }], guard := none }) rfl (fun K hK => ?_) AllReadyH.nil
            go_simp
            refine hK.out _ _ (HSS.out _ HAL.out.on) (fun hHeld3 => ?_)
            clear hK K hHeld2
            refine wpAnyH_ready (rs := [15]) (by kernel_rfl) (by simp) ?_
            refine AllReadyH.cons (o := { dst := some 57, op := Go.Op.call { callee := Go.Callee.builtin Go.Builtin.append, args := #[Go.Operand.tmp 43, Go.Operand.tmp 56], argTypes := #[26, 26] }, type := 26, pos := "law.go:112", after := #[{ on := 1, ground := Go.Ground.data }, { on := 14, ground := Go.Ground.data }, { on := 4, ground := Go.Ground.chain }], guard := none }) rfl (fun K hK => ?_) AllReadyH.nil
            refine step_append_lies _ rfl _ _ 26 rfl (w1.heap.size + 1) 35 i0 (.agg #[.int .i64 0, .int .i64 0, .int .i64 0, .int .u32 0, .int .i64 0, .int .i64 0, .slice none 0 0, .bool false]) 8 80 Tryd.underlying26 HI.out HZ.out.1 HZ.out.2.1 HZ.out.2.2 rfl (by decide) v 0 (flat (qs.take 0)) rfl HAL.out.own ⟨wc.heap.size, 0, none⟩ 1 1 [.int .i64 1, .int .i64 0, .int .i64 0, .int .u32 0, .int .i64 0, .int .i64 0, .slice none 0 0, .bool false] rfl rfl (World.news_of_block (heap_alloc_new wc (.cells #[.int .i64 1, .int .i64 0, .int .i64 0, .int .u32 0, .int .i64 0, .int .i64 0, .slice none 0 0, .bool false] 35))) (by simp [Value.oneCell']) (by decide) (by unfold maxLen; omega) (by omega) (by have := HAL.out.cells.2.2.2.2.2; simp; omega) _ rfl ?_
            intro g2 d2 w3 ho hg ha hl
            obtain ⟨s1, s2, s3⟩ := StT.next HAL.out hg ho
            have s4 := (StT.grown HAL.out hg).2
            have HS1 := Lib.hid s1
            have HS4 := Lib.hid s4
            clear s1 s4
            refine hK.out _ _ (HSS.out _ HS4.out) (fun hHeld4 => ?_)
            clear hK K hHeld3
            try simp only [Act.put, List.setIfInBounds_toArray, List.set_cons_zero, List.set_cons_succ]
            refine wpAnyH_take (i := 16) (oi := { dst := some 58, op := Go.Op.fieldAddr 28 (Go.Operand.tmp 6) 1, type := 0, pos := "law.go:112", after := #[{ on := 0, ground := Go.Ground.phase }, { on := 1, ground := Go.Ground.phase }, { on := 2, ground := Go.Ground.phase }, { on := 3, ground := Go.Ground.phase }, { on := 4, ground := Go.Ground.phase }, { on := 5, ground := Go.Ground.phase }, { on := 6, ground := Go.Ground.phase }, { on := 7, ground := Go.Ground.phase }, { on := 8, ground := Go.Ground.phase }, { on := 9, ground := Go.Ground.phase }, { on := 10, ground := Go.Ground.phase }, { on := 11, ground := Go.Ground.phase }, { on := 12, ground := Go.Ground.phase }, { on := 13, ground := Go.Ground.phase }, { on := 14, ground := Go.Ground.phase }, { on := 15, ground := Go.Ground.phase }], guard := none }) (v := ?tv16a1) rfl (by kernel_rfl) (by kernel_rfl) (by kernel_rfl) (fun _ _ _ h => h) (Or.inl ⟨by rfl, ?ty16a1⟩) (by assumption) ?tr16a1
            case ty16a1 => (intro w hSw; (try dsimp only at hSw); go_simp; (try with_reducible rfl))
            simp only [Act.put, List.setIfInBounds_toArray, List.set_cons_zero, List.set_cons_succ]
            refine wpAnyH_ready (rs := [17]) (by kernel_rfl) (by simp) ?_
            refine AllReadyH.cons (o := { dst := none, op := Go.Op.store 26 (Go.Operand.tmp 58) (Go.Operand.tmp 57), type := 0, pos := "law.go:112", after := #[{ on := 16, ground := Go.Ground.data }, { on := 15, ground := Go.Ground.data }, { on := 15, ground := Go.Ground.chain }, { on := 0, ground := Go.Ground.phase }, { on := 1, ground := Go.Ground.phase }, { on := 2, ground := Go.Ground.phase }, { on := 3, ground := Go.Ground.phase }, { on := 4, ground := Go.Ground.phase }, { on := 5, ground := Go.Ground.phase }, { on := 6, ground := Go.Ground.phase }, { on := 7, ground := Go.Ground.phase }, { on := 8, ground := Go.Ground.phase }, { on := 9, ground := Go.Ground.phase }, { on := 10, ground := Go.Ground.phase }, { on := 11, ground := Go.Ground.phase }, { on := 12, ground := Go.Ground.phase }, { on := 13, ground := Go.Ground.phase }, { on := 14, ground := Go.Ground.phase }, { on := 15, ground := Go.Ground.phase }], guard := none }) rfl (fun K hK => ?_) AllReadyH.nil
            go_simp
            refine hK.out _ _ (HSS.out _ HS1.out.on) (fun hHeld5 => ?_)
            clear hK K hHeld4
            refine wpAnyH_done (by kernel_rfl) ?_ _
            go_wp2
            all_goals go_meet
            all_goals exact ⟨_, by rw [HO.out]; exact HS1.out⟩
        | succ k =>
          have hin : k < qs.length := by omega
          have hne : qs ≠ [] := by intro e; rw [e] at hin; exact absurd hin (Nat.not_lt_zero _)
          obtain ⟨g, o, hr1, hr2, hr3⟩ := HOK.out.r.resolve_left hne
          subst hr1
          have ho : opk qs (k + 1) = qs[k].x.on := by unfold opk; rw [rv_succ qs k hin]
          have hc7 := hr3 k _ (List.getElem?_eq_getElem hin) 7 (by decide)
          have HO := Lib.hid ho
          clear ho
          generalize qs[k] = q at hc7 HO
          obtain ⟨⟨qo, qc, qn⟩, qA, qB, q0, qq, qa, ql', qcc⟩ := q
          have z7 : wc.cell? ⟨g, o + k * 8 + 7, none⟩ = some (.bool qn) := (hSt.on.below.cell (p := ⟨g, o + k * 8 + 7, none⟩) hr2).trans hc7
          have hgc : g < wc.heap.size := by omega
          have hin' : ((k : Nat) : Int) < (qs.length : Int) := by omega
          have hin0 : (0 : Int) ≤ ((k : Nat) : Int) := by omega
          have hin1 : (0 : Int) < ((k : Nat) : Int) + 1 := by omega
          have hwk : IntKind.i64.wrap ((k : Nat) : Int) = (k : Int) := IntWalk.i64_in _ (by omega)
          have HSS : Hid (∀ wx, On w (.cells #[.int .i64 op, .int .i64 num, .int .u32 (c : Nat), .slice (some ⟨g, o, none⟩) qs.length cap] 28) wx → wx.cell? ⟨w.heap.size, 3, none⟩ = some (.slice (some ⟨g, o, none⟩) qs.length cap) ∧ wx.cell? ⟨g, o + k * 8 + 7, none⟩ = some (.bool qn)) := fun wx h => ⟨(HS.out _ h).2.2.2, (h.below.cell (p := ⟨g, o + k * 8 + 7, none⟩) hr2).trans hc7⟩
          have HB1 : Hid (StT w (.cells #[.int .i64 op, .int .i64 num, .int .u32 (c : Nat), .slice (some ⟨g, o, none⟩) qs.length cap] 28) w1.heap.size op num c wc.drew v (k + 1) (flat (qs.take (k + 1)))) := hSt.drew
          have HAL : Hid (StT w (.cells #[.int .i64 op, .int .i64 num, .int .u32 (c : Nat), .slice (some ⟨g, o, none⟩) qs.length cap] 28) w1.heap.size op num c (wc.alloc (.cells #[.int .i64 1, .int .i64 0, .int .i64 0, .int .u32 0, .int .i64 0, .int .i64 0, .slice none 0 0, .bool qn] 35)).drew v (k + 1) (flat (qs.take (k + 1)))) := (hSt.below (below1 _ _)).drew
          refine wp_region_held_drew (S := fun w' => w'.cell? ⟨w.heap.size, 3, none⟩ = some (.slice (some ⟨g, o, none⟩) qs.length cap) ∧ w'.cell? ⟨g, o + k * 8 + 7, none⟩ = some (.bool qn)) (by kernel_rfl) ⟨x3, z7⟩ (fun hHeld => ?_)
          refine wpAnyH_take (i := 0) (oi := { dst := some 42, op := Go.Op.fieldAddr 28 (Go.Operand.tmp 6) 1, type := 0, pos := "law.go:112", after := #[], guard := none }) (v := ?tv0b) rfl (by kernel_rfl) (by kernel_rfl) (by kernel_rfl) (fun _ _ _ h => h) (Or.inl ⟨by rfl, ?ty0b⟩) (by assumption) ?tr0b
          case ty0b => (intro w hSw; (try dsimp only at hSw); go_simp; (try with_reducible rfl))
          simp only [Act.put, List.setIfInBounds_toArray, List.set_cons_zero, List.set_cons_succ]
          refine wpAnyH_take (i := 2) (oi := { dst := some 44, op := Go.Op.move (Go.Operand.tmp 5), type := 3, pos := "law.go:112", after := #[], guard := none }) (v := ?tv2b) rfl (by kernel_rfl) (by kernel_rfl) (by kernel_rfl) (fun _ _ _ h => h) (Or.inl ⟨by rfl, ?ty2b⟩) (by assumption) ?tr2b
          case ty2b => (intro w hSw; (try dsimp only at hSw); go_simp; (try with_reducible rfl))
          simp only [Act.put, List.setIfInBounds_toArray, List.set_cons_zero, List.set_cons_succ]
          refine wpAnyH_take (i := 3) (oi := { dst := some 45, op := Go.Op.binOp Go.BinOp.gtr 3 (Go.Operand.tmp 44) (Go.Operand.const (Go.Value.int Go.IntKind.i64 0)) 3, type := 4, pos := "law.go:112", after := #[{ on := 2, ground := Go.Ground.data }], guard := none }) (v := ?tv3b) rfl (by kernel_rfl) (by kernel_rfl) (by kernel_rfl) (fun _ _ _ h => h) (Or.inl ⟨by rfl, ?ty3b⟩) (by assumption) ?tr3b
          case ty3b => (intro w hSw; (try dsimp only at hSw); go_simp; (try with_reducible rfl))
          simp only [Act.put, List.setIfInBounds_toArray, List.set_cons_zero, List.set_cons_succ]
          refine wpAnyH_take (i := 4) (oi := { dst := some 46, op := Go.Op.move (Go.Operand.tmp 45), type := 4, pos := "law.go:112", after := #[{ on := 3, ground := Go.Ground.data }], guard := none }) (v := ?tv4b) rfl (by kernel_rfl) (by kernel_rfl) (by kernel_rfl) (fun _ _ _ h => h) (Or.inl ⟨by rfl, ?ty4b⟩) (by assumption) ?tr4b
          case ty4b => (intro w hSw; (try dsimp only at hSw); go_simp; (try with_reducible rfl))
          simp only [Act.put, List.setIfInBounds_toArray, List.set_cons_zero, List.set_cons_succ]
          refine wpAnyH_take (i := 5) (oi := { dst := some 47, op := Go.Op.fieldAddr 28 (Go.Operand.tmp 2) 1, type := 0, pos := "law.go:112", after := #[{ on := 4, ground := Go.Ground.guard }], guard := some (4, true) }) (v := ?tv5b) rfl (by kernel_rfl) (by kernel_rfl) (by kernel_rfl) (fun _ _ _ h => h) (Or.inl ⟨by rfl, ?ty5b⟩) (by assumption) ?tr5b
          case ty5b => (intro w hSw; (try dsimp only at hSw); go_simp; (try with_reducible rfl))
          simp only [Act.put, List.setIfInBounds_toArray, List.set_cons_zero, List.set_cons_succ]
          refine wpAnyH_take (i := 6) (oi := { dst := some 48, op := Go.Op.load 26 (Go.Operand.tmp 47), type := 26, pos := "law.go:112", after := #[{ on := 5, ground := Go.Ground.data }, { on := 4, ground := Go.Ground.guard }], guard := some (4, true) }) (v := ?tv6b) rfl (by kernel_rfl) (by kernel_rfl) (by kernel_rfl) (fun _ _ _ h => h) (Or.inl ⟨by rfl, ?ty6b⟩) (by assumption) ?tr6b
          case ty6b => (intro w hSw; (try dsimp only at hSw); go_simp; (try with_reducible rfl))
          simp only [Act.put, List.setIfInBounds_toArray, List.set_cons_zero, List.set_cons_succ]
          refine wpAnyH_take (i := 7) (oi := { dst := some 49, op := Go.Op.move (Go.Operand.tmp 5), type := 3, pos := "law.go:112", after := #[{ on := 4, ground := Go.Ground.guard }], guard := some (4, true) }) (v := ?tv7b) rfl (by kernel_rfl) (by kernel_rfl) (by kernel_rfl) (fun _ _ _ h => h) (Or.inl ⟨by rfl, ?ty7b⟩) (by assumption) ?tr7b
          case ty7b => (intro w hSw; (try dsimp only at hSw); go_simp; (try with_reducible rfl))
          simp only [Act.put, List.setIfInBounds_toArray, List.set_cons_zero, List.set_cons_succ]
          refine wpAnyH_take (i := 8) (oi := { dst := some 50, op := Go.Op.binOp Go.BinOp.sub 3 (Go.Operand.tmp 49) (Go.Operand.const (Go.Value.int Go.IntKind.i64 1)) 3, type := 3, pos := "law.go:112", after := #[{ on := 7, ground := Go.Ground.data }, { on := 4, ground := Go.Ground.guard }], guard := some (4, true) }) (v := ?tv8b) rfl (by kernel_rfl) (by kernel_rfl) (by kernel_rfl) (fun _ _ _ h => h) (Or.inl ⟨by rfl, ?ty8b⟩) (by assumption) ?tr8b
          case ty8b => (intro w hSw; (try dsimp only at hSw); go_simp; (try with_reducible rfl))
          simp only [Act.put, List.setIfInBounds_toArray, List.set_cons_zero, List.set_cons_succ]
          refine wpAnyH_take (i := 9) (oi := { dst := some 51, op := Go.Op.indexAddr 26 (Go.Operand.tmp 48) (Go.Operand.tmp 50), type := 0, pos := "law.go:112", after := #[{ on := 6, ground := Go.Ground.data }, { on := 8, ground := Go.Ground.data }, { on := 4, ground := Go.Ground.guard }], guard := some (4, true) }) (v := ?tv9b) rfl (by kernel_rfl) (by kernel_rfl) (by kernel_rfl) (fun _ _ _ h => h) (Or.inl ⟨by rfl, ?ty9b⟩) (by assumption) ?tr9b
          case ty9b => (intro w hSw; (try dsimp only at hSw); go_simp; (try with_reducible rfl))
          simp only [Act.put, List.setIfInBounds_toArray, List.set_cons_zero, List.set_cons_succ]
          refine wpAnyH_take (i := 10) (oi := { dst := some 52, op := Go.Op.fieldAddr 35 (Go.Operand.tmp 51) 5, type := 0, pos := "law.go:112", after := #[{ on := 9, ground := Go.Ground.data }, { on := 4, ground := Go.Ground.guard }], guard := some (4, true) }) (v := ?tv10b) rfl (by kernel_rfl) (by kernel_rfl) (by kernel_rfl) (fun _ _ _ h => h) (Or.inl ⟨by rfl, ?ty10b⟩) (by assumption) ?tr10b
          case ty10b => (intro w hSw; (try dsimp only at hSw); go_simp; (try with_reducible rfl))
          simp only [Act.put, List.setIfInBounds_toArray, List.set_cons_zero, List.set_cons_succ]
          refine wpAnyH_take (i := 11) (oi := { dst := some 53, op := Go.Op.load 4 (Go.Operand.tmp 52), type := 4, pos := "law.go:112", after := #[{ on := 10, ground := Go.Ground.data }, { on := 4, ground := Go.Ground.guard }], guard := some (4, true) }) (v := ?tv11b) rfl (by kernel_rfl) (by kernel_rfl) (by kernel_rfl) (fun _ _ _ h => h) (Or.inl ⟨by rfl, ?ty11b⟩) (by assumption) ?tr11b
          case ty11b => (intro w hSw; (try dsimp only at hSw); go_simp; (try with_reducible rfl))
          simp only [Act.put, List.setIfInBounds_toArray, List.set_cons_zero, List.set_cons_succ]
          refine wpAnyH_take (i := 12) (oi := { dst := some 54, op := Go.Op.pick (Go.Operand.tmp 46) (Go.Operand.tmp 53) (Go.Operand.const (Go.Value.bool false)), type := 4, pos := "law.go:112", after := #[{ on := 4, ground := Go.Ground.data }, { on := 11, ground := Go.Ground.data }], guard := none }) (v := ?tv12b) rfl (by kernel_rfl) (by kernel_rfl) (by kernel_rfl) (fun _ _ _ h => h) (Or.inl ⟨by rfl, ?ty12b⟩) (by assumption) ?tr12b
          case ty12b => (intro w hSw; (try dsimp only at hSw); go_simp; (try with_reducible rfl))
          simp only [Act.put, List.setIfInBounds_toArray, List.set_cons_zero, List.set_cons_succ]
          refine wpAnyH_take (i := 13) (oi := { dst := some 55, op := Go.Op.build 35 #[(0, Go.Operand.const (Go.Value.int Go.IntKind.i64 1)), (5, Go.Operand.tmp 54)], type := 35, pos := "law.go:112", after := #[{ on := 12, ground := Go.Ground.data }], guard := none }) (v := ?tv13b) rfl (by kernel_rfl) (by kernel_rfl) (by kernel_rfl) (fun _ _ _ h => h) (Or.inl ⟨by rfl, ?ty13b⟩) (by assumption) ?tr13b
          case ty13b => (intro w hSw; (try dsimp only at hSw); go_simp; (try with_reducible rfl))
          simp only [Act.put, List.setIfInBounds_toArray, List.set_cons_zero, List.set_cons_succ]
          refine wpAnyH_ready (rs := [1, 14]) (by kernel_rfl) (by simp) ?_
          refine AllReadyH.cons (o := { dst := some 43, op := Go.Op.load 26 (Go.Operand.tmp 42), type := 26, pos := "law.go:112", after := #[{ on := 0, ground := Go.Ground.data }], guard := none }) rfl (fun K hK => ?_) (AllReadyH.cons (o := { dst := some 56, op := Go.Op.buildSlice 26 1 #[(0, Go.Operand.tmp 55)], type := 26, pos := "law.go:112", after := #[{ on := 13, ground := Go.Ground.data }], guard := none }) rfl (fun K hK => ?_) AllReadyH.nil)
          · go_simp
            refine hK.out _ _ (HSS.out _ HB1.out.on) (fun hHeld2 => ?_)
            clear hK K hHeld
            refine wpAnyH_ready (rs := [14]) (by kernel_rfl) (by simp) ?_
            refine AllReadyH.cons (o := { dst := some 56, op := Go.Op.buildSlice 26 1 #[(0, Go.Operand.tmp 55)], type := 26, pos := "law.go:112", after := #[{ on := 13, ground := Go.Ground.data }], guard := none }) rfl (fun K hK => ?_) AllReadyH.nil
            go_simp
            refine hK.out _ _ (HSS.out _ HAL.out.on) (fun hHeld3 => ?_)
            clear hK K hHeld2
            refine wpAnyH_ready (rs := [15]) (by kernel_rfl) (by simp) ?_
            refine AllReadyH.cons (o := { dst := some 57, op := Go.Op.call { callee := Go.Callee.builtin Go.Builtin.append, args := #[Go.Operand.tmp 43, Go.Operand.tmp 56], argTypes := #[26, 26] }, type := 26, pos := "law.go:112", after := #[{ on := 1, ground := Go.Ground.data }, { on := 14, ground := Go.Ground.data }, { on := 4, ground := Go.Ground.chain }], guard := none }) rfl (fun K hK => ?_) AllReadyH.nil
            refine step_append_lies _ rfl _ _ 26 rfl (w1.heap.size + 1) 35 i0 (.agg #[.int .i64 0, .int .i64 0, .int .i64 0, .int .u32 0, .int .i64 0, .int .i64 0, .slice none 0 0, .bool false]) 8 80 Tryd.underlying26 HI.out HZ.out.1 HZ.out.2.1 HZ.out.2.2 rfl (by decide) v (k + 1) (flat (qs.take (k + 1))) rfl HAL.out.own ⟨wc.heap.size, 0, none⟩ 1 1 [.int .i64 1, .int .i64 0, .int .i64 0, .int .u32 0, .int .i64 0, .int .i64 0, .slice none 0 0, .bool qn] rfl rfl (World.news_of_block (heap_alloc_new wc (.cells #[.int .i64 1, .int .i64 0, .int .i64 0, .int .u32 0, .int .i64 0, .int .i64 0, .slice none 0 0, .bool qn] 35))) (by simp [Value.oneCell']) (by decide) (by unfold maxLen; omega) (by omega) (by have := HAL.out.cells.2.2.2.2.2; simp; omega) _ rfl ?_
            intro g2 d2 w3 ho hg ha hl
            obtain ⟨s1, s2, s3⟩ := StT.next HAL.out hg ho
            have s4 := (StT.grown HAL.out hg).2
            have HS1 := Lib.hid s1
            have HS4 := Lib.hid s4
            clear s1 s4
            refine hK.out _ _ (HSS.out _ HS4.out) (fun hHeld4 => ?_)
            clear hK K hHeld3
            try simp only [Act.put, List.setIfInBounds_toArray, List.set_cons_zero, List.set_cons_succ]
            refine wpAnyH_take (i := 16) (oi := { dst := some 58, op := Go.Op.fieldAddr 28 (Go.Operand.tmp 6) 1, type := 0, pos := "law.go:112", after := #[{ on := 0, ground := Go.Ground.phase }, { on := 1, ground := Go.Ground.phase }, { on := 2, ground := Go.Ground.phase }, { on := 3, ground := Go.Ground.phase }, { on := 4, ground := Go.Ground.phase }, { on := 5, ground := Go.Ground.phase }, { on := 6, ground := Go.Ground.phase }, { on := 7, ground := Go.Ground.phase }, { on := 8, ground := Go.Ground.phase }, { on := 9, ground := Go.Ground.phase }, { on := 10, ground := Go.Ground.phase }, { on := 11, ground := Go.Ground.phase }, { on := 12, ground := Go.Ground.phase }, { on := 13, ground := Go.Ground.phase }, { on := 14, ground := Go.Ground.phase }, { on := 15, ground := Go.Ground.phase }], guard := none }) (v := ?tv16b14) rfl (by kernel_rfl) (by kernel_rfl) (by kernel_rfl) (fun _ _ _ h => h) (Or.inl ⟨by rfl, ?ty16b14⟩) (by assumption) ?tr16b14
            case ty16b14 => (intro w hSw; (try dsimp only at hSw); go_simp; (try with_reducible rfl))
            simp only [Act.put, List.setIfInBounds_toArray, List.set_cons_zero, List.set_cons_succ]
            refine wpAnyH_ready (rs := [17]) (by kernel_rfl) (by simp) ?_
            refine AllReadyH.cons (o := { dst := none, op := Go.Op.store 26 (Go.Operand.tmp 58) (Go.Operand.tmp 57), type := 0, pos := "law.go:112", after := #[{ on := 16, ground := Go.Ground.data }, { on := 15, ground := Go.Ground.data }, { on := 15, ground := Go.Ground.chain }, { on := 0, ground := Go.Ground.phase }, { on := 1, ground := Go.Ground.phase }, { on := 2, ground := Go.Ground.phase }, { on := 3, ground := Go.Ground.phase }, { on := 4, ground := Go.Ground.phase }, { on := 5, ground := Go.Ground.phase }, { on := 6, ground := Go.Ground.phase }, { on := 7, ground := Go.Ground.phase }, { on := 8, ground := Go.Ground.phase }, { on := 9, ground := Go.Ground.phase }, { on := 10, ground := Go.Ground.phase }, { on := 11, ground := Go.Ground.phase }, { on := 12, ground := Go.Ground.phase }, { on := 13, ground := Go.Ground.phase }, { on := 14, ground := Go.Ground.phase }, { on := 15, ground := Go.Ground.phase }], guard := none }) rfl (fun K hK => ?_) AllReadyH.nil
            go_simp
            refine hK.out _ _ (HSS.out _ HS1.out.on) (fun hHeld5 => ?_)
            clear hK K hHeld4
            refine wpAnyH_done (by kernel_rfl) ?_ _
            go_wp2
            all_goals go_meet
            all_goals exact ⟨_, by rw [HO.out]; exact HS1.out⟩
          · go_simp
            refine hK.out _ _ (HSS.out _ HAL.out.on) (fun hHeld2 => ?_)
            clear hK K hHeld
            refine wpAnyH_ready (rs := [1]) (by kernel_rfl) (by simp) ?_
            refine AllReadyH.cons (o := { dst := some 43, op := Go.Op.load 26 (Go.Operand.tmp 42), type := 26, pos := "law.go:112", after := #[{ on := 0, ground := Go.Ground.data }], guard := none }) rfl (fun K hK => ?_) AllReadyH.nil
            go_simp
            refine hK.out _ _ (HSS.out _ HAL.out.on) (fun hHeld3 => ?_)
            clear hK K hHeld2
            refine wpAnyH_ready (rs := [15]) (by kernel_rfl) (by simp) ?_
            refine AllReadyH.cons (o := { dst := some 57, op := Go.Op.call { callee := Go.Callee.builtin Go.Builtin.append, args := #[Go.Operand.tmp 43, Go.Operand.tmp 56], argTypes := #[26, 26] }, type := 26, pos := "law.go:112", after := #[{ on := 1, ground := Go.Ground.data }, { on := 14, ground := Go.Ground.data }, { on := 4, ground := Go.Ground.chain }], guard := none }) rfl (fun K hK => ?_) AllReadyH.nil
            refine step_append_lies _ rfl _ _ 26 rfl (w1.heap.size + 1) 35 i0 (.agg #[.int .i64 0, .int .i64 0, .int .i64 0, .int .u32 0, .int .i64 0, .int .i64 0, .slice none 0 0, .bool false]) 8 80 Tryd.underlying26 HI.out HZ.out.1 HZ.out.2.1 HZ.out.2.2 rfl (by decide) v (k + 1) (flat (qs.take (k + 1))) rfl HAL.out.own ⟨wc.heap.size, 0, none⟩ 1 1 [.int .i64 1, .int .i64 0, .int .i64 0, .int .u32 0, .int .i64 0, .int .i64 0, .slice none 0 0, .bool qn] rfl rfl (World.news_of_block (heap_alloc_new wc (.cells #[.int .i64 1, .int .i64 0, .int .i64 0, .int .u32 0, .int .i64 0, .int .i64 0, .slice none 0 0, .bool qn] 35))) (by simp [Value.oneCell']) (by decide) (by unfold maxLen; omega) (by omega) (by have := HAL.out.cells.2.2.2.2.2; simp; omega) _ rfl ?_
            intro g2 d2 w3 ho hg ha hl
            obtain ⟨s1, s2, s3⟩ := StT.next HAL.out hg ho
            have s4 := (StT.grown HAL.out hg).2
            have HS1 := Lib.hid s1
            have HS4 := Lib.hid s4
            clear s1 s4
            refine hK.out _ _ (HSS.out _ HS4.out) (fun hHeld4 => ?_)
            clear hK K hHeld3
            try simp only [Act.put, List.setIfInBounds_toArray, List.set_cons_zero, List.set_cons_succ]
            refine wpAnyH_take (i := 16) (oi := { dst := some 58, op := Go.Op.fieldAddr 28 (Go.Operand.tmp 6) 1, type := 0, pos := "law.go:112", after := #[{ on := 0, ground := Go.Ground.phase }, { on := 1, ground := Go.Ground.phase }, { on := 2, ground := Go.Ground.phase }, { on := 3, ground := Go.Ground.phase }, { on := 4, ground := Go.Ground.phase }, { on := 5, ground := Go.Ground.phase }, { on := 6, ground := Go.Ground.phase }, { on := 7, ground := Go.Ground.phase }, { on := 8, ground := Go.Ground.phase }, { on := 9, ground := Go.Ground.phase }, { on := 10, ground := Go.Ground.phase }, { on := 11, ground := Go.Ground.phase }, { on := 12, ground := Go.Ground.phase }, { on := 13, ground := Go.Ground.phase }, { on := 14, ground := Go.Ground.phase }, { on := 15, ground := Go.Ground.phase }], guard := none }) (v := ?tv16b1) rfl (by kernel_rfl) (by kernel_rfl) (by kernel_rfl) (fun _ _ _ h => h) (Or.inl ⟨by rfl, ?ty16b1⟩) (by assumption) ?tr16b1
            case ty16b1 => (intro w hSw; (try dsimp only at hSw); go_simp; (try with_reducible rfl))
            simp only [Act.put, List.setIfInBounds_toArray, List.set_cons_zero, List.set_cons_succ]
            refine wpAnyH_ready (rs := [17]) (by kernel_rfl) (by simp) ?_
            refine AllReadyH.cons (o := { dst := none, op := Go.Op.store 26 (Go.Operand.tmp 58) (Go.Operand.tmp 57), type := 0, pos := "law.go:112", after := #[{ on := 16, ground := Go.Ground.data }, { on := 15, ground := Go.Ground.data }, { on := 15, ground := Go.Ground.chain }, { on := 0, ground := Go.Ground.phase }, { on := 1, ground := Go.Ground.phase }, { on := 2, ground := Go.Ground.phase }, { on := 3, ground := Go.Ground.phase }, { on := 4, ground := Go.Ground.phase }, { on := 5, ground := Go.Ground.phase }, { on := 6, ground := Go.Ground.phase }, { on := 7, ground := Go.Ground.phase }, { on := 8, ground := Go.Ground.phase }, { on := 9, ground := Go.Ground.phase }, { on := 10, ground := Go.Ground.phase }, { on := 11, ground := Go.Ground.phase }, { on := 12, ground := Go.Ground.phase }, { on := 13, ground := Go.Ground.phase }, { on := 14, ground := Go.Ground.phase }, { on := 15, ground := Go.Ground.phase }], guard := none }) rfl (fun K hK => ?_) AllReadyH.nil
            go_simp
            refine hK.out _ _ (HSS.out _ HS1.out.on) (fun hHeld5 => ?_)
            clear hK K hHeld4
            refine wpAnyH_done (by kernel_rfl) ?_ _
            go_wp2
            all_goals go_meet
            all_goals exact ⟨_, by rw [HO.out]; exact HS1.out⟩
      case rest =>
        obtain ⟨v, hSt⟩ := hcut
        obtain ⟨g2, d2, e2, hb2, hl2⟩ := hSt.own.form (Nat.succ_pos _)
        subst e2
        have hd2 : k + 1 ≤ d2 ∧ d2 ≤ 9223372036854775807 := by
          obtain ⟨_, (⟨h1, _⟩ | ⟨g', c', cur, h1, h2, h3, h4, h5, h6, h7⟩)⟩ := hSt.own
          · cases h1
          · injection h1 with e1 e2 e3
            unfold maxLen at h5; omega
        obtain ⟨hd21, hd22⟩ := hd2
        obtain ⟨y0, y1, y2, y3, y4, y5⟩ := hSt.cells
        clear x0 x1 x2 x3
        obtain ⟨x0, x1, x2, x3⟩ := HS.out _ hSt.on
        have hwc : w.heap.size < wc.heap.size := by omega
        go_wp2_with fail
        go_cut [65] from 59 to 66 (fun s65 wx => ∃ v, StT w (.cells #[.int .i64 op, .int .i64 num, .int .u32 (c : Nat), .slice ad qs.length cap] 28) w1.heap.size op num c wx v (qs.length + 1) (flat (ins qs k (tq (opk qs k)))))
        case first =>
          have HFI : Hid (flat (ins qs k (tq (opk qs k))) = flat (qs.take k) ++ flat [tq (opk qs k)] ++ flat (qs.drop k)) := Lib.hid (by unfold ins; rw [show qs.take k ++ tq (opk qs k) :: qs.drop k = (qs.take k ++ [tq (opk qs k)]) ++ qs.drop k by simp, flat_app, flat_app])
          by_cases hkn' : k = qs.length
          · have hd : qs.drop k = [] := by rw [hkn']; exact List.drop_length
            have T1 : StT w (.cells #[.int .i64 op, .int .i64 num, .int .u32 (c : Nat), .slice ad qs.length cap] 28) w1.heap.size op num c (wc.drew.setCell ⟨w1.heap.size, 3, none⟩ (.slice (some ⟨g2, 0, none⟩) (k + 1) d2)) (.slice (some ⟨g2, 0, none⟩) (k + 1) d2) (k + 1) (flat (qs.take k) ++ flat [tq (opk qs k)]) := StT.put hSt.drew hSt.drew.own
            have HS1 := Lib.hid T1
            have HD := Lib.hid hd
            clear T1 hd
            subst hkn'
            have hc1 : ((qs.length : Nat) : Int) ≤ (qs.length : Int) := by omega
            have hc2 : ((qs.length : Nat) : Int) ≤ (cap : Int) := by omega
            by_cases hcc : cap = qs.length
            · subst hcc
              cases ad with
              | none =>
                refine wp_region_held_drew (S := fun w' => w'.cell? ⟨w.heap.size, 3, none⟩ = some (.slice none qs.length qs.length)) (by kernel_rfl) x3 (fun hHeld => ?_)
                refine wpAnyH_take (i := 0) (oi := { dst := some 59, op := Go.Op.fieldAddr 28 (Go.Operand.tmp 6) 1, type := 0, pos := "law.go:113", after := #[], guard := none }) (v := ?tv0zns) rfl (by kernel_rfl) (by kernel_rfl) (by kernel_rfl) (fun _ _ _ h => h) (Or.inl ⟨by rfl, ?ty0zns⟩) (by assumption) ?tr0zns
                case ty0zns => (intro w hSw; (try dsimp only at hSw); go_simp; (try with_reducible rfl))
                simp only [Act.put, List.setIfInBounds_toArray, List.set_cons_zero, List.set_cons_succ]
                refine wpAnyH_take (i := 2) (oi := { dst := some 61, op := Go.Op.fieldAddr 28 (Go.Operand.tmp 2) 1, type := 0, pos := "law.go:113", after := #[], guard := none }) (v := ?tv2zns) rfl (by kernel_rfl) (by kernel_rfl) (by kernel_rfl) (fun _ _ _ h => h) (Or.inl ⟨by rfl, ?ty2zns⟩) (by assumption) ?tr2zns
                case ty2zns => (intro w hSw; (try dsimp only at hSw); go_simp; (try with_reducible rfl))
                simp only [Act.put, List.setIfInBounds_toArray, List.set_cons_zero, List.set_cons_succ]
                refine wpAnyH_take (i := 3) (oi := { dst := some 62, op := Go.Op.load 26 (Go.Operand.tmp 61), type := 26, pos := "law.go:113", after := #[{ on := 2, ground := Go.Ground.data }], guard := none }) (v := ?tv3zns) rfl (by kernel_rfl) (by kernel_rfl) (by kernel_rfl) (fun _ _ _ h => h) (Or.inl ⟨by rfl, ?ty3zns⟩) (by assumption) ?tr3zns
                case ty3zns => (intro w hSw; (try dsimp only at hSw); go_simp; (try with_reducible rfl))
                simp only [Act.put, List.setIfInBounds_toArray, List.set_cons_zero, List.set_cons_succ]
                refine wpAnyH_take (i := 4) (oi := { dst := some 63, op := Go.Op.move (Go.Operand.tmp 5), type := 3, pos := "law.go:113", after := #[], guard := none }) (v := ?tv4zns) rfl (by kernel_rfl) (by kernel_rfl) (by kernel_rfl) (fun _ _ _ h => h) (Or.inl ⟨by rfl, ?ty4zns⟩) (by assumption) ?tr4zns
                case ty4zns => (intro w hSw; (try dsimp only at hSw); go_simp; (try with_reducible rfl))
                simp only [Act.put, List.setIfInBounds_toArray, List.set_cons_zero, List.set_cons_succ]
                refine wpAnyH_take (i := 5) (oi := { dst := some 64, op := Go.Op.slice 26 (Go.Operand.tmp 62) (some (Go.Operand.tmp 63)) none none, type := 26, pos := "law.go:113", after := #[{ on := 3, ground := Go.Ground.data }, { on := 4, ground := Go.Ground.data }], guard := none }) (v := ?tv5zns) rfl (by kernel_rfl) (by kernel_rfl) (by kernel_rfl) (fun _ _ _ h => h) (Or.inl ⟨by rfl, ?ty5zns⟩) (by assumption) ?tr5zns
                case ty5zns => (intro w hSw; (try dsimp only at hSw); go_simp; (try with_reducible rfl))
                simp only [Act.put, List.setIfInBounds_toArray, List.set_cons_zero, List.set_cons_succ]
                refine wpAnyH_ready (rs := [1]) (by kernel_rfl) (by simp) ?_
                refine AllReadyH.cons (o := { dst := some 60, op := Go.Op.load 26 (Go.Operand.tmp 59), type := 26, pos := "law.go:113", after := #[{ on := 0, ground := Go.Ground.data }], guard := none }) rfl (fun K hK => ?_) AllReadyH.nil
                go_simp
                refine hK.out _ _ x3 (fun hHeld2 => ?_)
                clear hK K hHeld
                refine wpAnyH_ready (rs := [6]) (by kernel_rfl) (by simp) ?_
                refine AllReadyH.cons (o := { dst := some 65, op := Go.Op.call { callee := Go.Callee.builtin Go.Builtin.append, args := #[Go.Operand.tmp 60, Go.Operand.tmp 64], argTypes := #[26, 26] }, type := 26, pos := "law.go:113", after := #[{ on := 1, ground := Go.Ground.data }, { on := 5, ground := Go.Ground.data }], guard := none }) rfl (fun K hK => ?_) AllReadyH.nil
                refine step_append_none rfl _ _ 26 rfl 35 i0 Tryd.underlying26 HI.out g2 (qs.length + 1) d2 rfl hd21 _ _ _ rfl (by first | rfl | omega) ?_
                refine hK.out _ _ x3 (fun hHeld4 => ?_)
                clear hK K hHeld2
                try simp only [Act.put, List.setIfInBounds_toArray, List.set_cons_zero, List.set_cons_succ]
                refine wpAnyH_take (i := 7) (oi := { dst := some 66, op := Go.Op.fieldAddr 28 (Go.Operand.tmp 6) 1, type := 0, pos := "law.go:113", after := #[{ on := 0, ground := Go.Ground.phase }, { on := 1, ground := Go.Ground.phase }, { on := 2, ground := Go.Ground.phase }, { on := 3, ground := Go.Ground.phase }, { on := 4, ground := Go.Ground.phase }, { on := 5, ground := Go.Ground.phase }, { on := 6, ground := Go.Ground.phase }], guard := none }) (v := ?tv7zns) rfl (by kernel_rfl) (by kernel_rfl) (by kernel_rfl) (fun _ _ _ h => h) (Or.inl ⟨by rfl, ?ty7zns⟩) (by assumption) ?tr7zns
                case ty7zns => (intro w hSw; (try dsimp only at hSw); go_simp; (try with_reducible rfl))
                simp only [Act.put, List.setIfInBounds_toArray, List.set_cons_zero, List.set_cons_succ]
                refine wpAnyH_ready (rs := [8]) (by kernel_rfl) (by simp) ?_
                refine AllReadyH.cons (o := { dst := none, op := Go.Op.store 26 (Go.Operand.tmp 66) (Go.Operand.tmp 65), type := 0, pos := "law.go:113", after := #[{ on := 7, ground := Go.Ground.data }, { on := 6, ground := Go.Ground.data }, { on := 6, ground := Go.Ground.chain }, { on := 0, ground := Go.Ground.phase }, { on := 1, ground := Go.Ground.phase }, { on := 2, ground := Go.Ground.phase }, { on := 3, ground := Go.Ground.phase }, { on := 4, ground := Go.Ground.phase }, { on := 5, ground := Go.Ground.phase }, { on := 6, ground := Go.Ground.phase }], guard := none }) rfl (fun K hK => ?_) AllReadyH.nil
                go_simp
                refine hK.out _ _ (HS.out _ HS1.out.on).2.2.2 (fun hHeld5 => ?_)
                clear hK K hHeld4
                refine wpAnyH_done (by kernel_rfl) ?_ _
                go_wp2
                all_goals go_meet
                all_goals exact ⟨_, by rw [HFI.out, HD.out, show flat ([] : List Wq) = [] from rfl, List.append_nil]; exact HS1.out⟩
              | some p =>
                obtain ⟨p1, p2, p3⟩ := p
                refine wp_region_held_drew (S := fun w' => w'.cell? ⟨w.heap.size, 3, none⟩ = some (.slice (some ⟨p1, p2, p3⟩) qs.length qs.length)) (by kernel_rfl) x3 (fun hHeld => ?_)
                refine wpAnyH_take (i := 0) (oi := { dst := some 59, op := Go.Op.fieldAddr 28 (Go.Operand.tmp 6) 1, type := 0, pos := "law.go:113", after := #[], guard := none }) (v := ?tv0zss) rfl (by kernel_rfl) (by kernel_rfl) (by kernel_rfl) (fun _ _ _ h => h) (Or.inl ⟨by rfl, ?ty0zss⟩) (by assumption) ?tr0zss
                case ty0zss => (intro w hSw; (try dsimp only at hSw); go_simp; (try with_reducible rfl))
                simp only [Act.put, List.setIfInBounds_toArray, List.set_cons_zero, List.set_cons_succ]
                refine wpAnyH_take (i := 2) (oi := { dst := some 61, op := Go.Op.fieldAddr 28 (Go.Operand.tmp 2) 1, type := 0, pos := "law.go:113", after := #[], guard := none }) (v := ?tv2zss) rfl (by kernel_rfl) (by kernel_rfl) (by kernel_rfl) (fun _ _ _ h => h) (Or.inl ⟨by rfl, ?ty2zss⟩) (by assumption) ?tr2zss
                case ty2zss => (intro w hSw; (try dsimp only at hSw); go_simp; (try with_reducible rfl))
                simp only [Act.put, List.setIfInBounds_toArray, List.set_cons_zero, List.set_cons_succ]
                refine wpAnyH_take (i := 3) (oi := { dst := some 62, op := Go.Op.load 26 (Go.Operand.tmp 61), type := 26, pos := "law.go:113", after := #[{ on := 2, ground := Go.Ground.data }], guard := none }) (v := ?tv3zss) rfl (by kernel_rfl) (by kernel_rfl) (by kernel_rfl) (fun _ _ _ h => h) (Or.inl ⟨by rfl, ?ty3zss⟩) (by assumption) ?tr3zss
                case ty3zss => (intro w hSw; (try dsimp only at hSw); go_simp; (try with_reducible rfl))
                simp only [Act.put, List.setIfInBounds_toArray, List.set_cons_zero, List.set_cons_succ]
                refine wpAnyH_take (i := 4) (oi := { dst := some 63, op := Go.Op.move (Go.Operand.tmp 5), type := 3, pos := "law.go:113", after := #[], guard := none }) (v := ?tv4zss) rfl (by kernel_rfl) (by kernel_rfl) (by kernel_rfl) (fun _ _ _ h => h) (Or.inl ⟨by rfl, ?ty4zss⟩) (by assumption) ?tr4zss
                case ty4zss => (intro w hSw; (try dsimp only at hSw); go_simp; (try with_reducible rfl))
                simp only [Act.put, List.setIfInBounds_toArray, List.set_cons_zero, List.set_cons_succ]
                refine wpAnyH_take (i := 5) (oi := { dst := some 64, op := Go.Op.slice 26 (Go.Operand.tmp 62) (some (Go.Operand.tmp 63)) none none, type := 26, pos := "law.go:113", after := #[{ on := 3, ground := Go.Ground.data }, { on := 4, ground := Go.Ground.data }], guard := none }) (v := ?tv5zss) rfl (by kernel_rfl) (by kernel_rfl) (by kernel_rfl) (fun _ _ _ h => h) (Or.inl ⟨by rfl, ?ty5zss⟩) (by assumption) ?tr5zss
                case ty5zss => (intro w hSw; (try dsimp only at hSw); go_simp; (try with_reducible rfl))
                simp only [Act.put, List.setIfInBounds_toArray, List.set_cons_zero, List.set_cons_succ]
                refine wpAnyH_ready (rs := [1]) (by kernel_rfl) (by simp) ?_
                refine AllReadyH.cons (o := { dst := some 60, op := Go.Op.load 26 (Go.Operand.tmp 59), type := 26, pos := "law.go:113", after := #[{ on := 0, ground := Go.Ground.data }], guard := none }) rfl (fun K hK => ?_) AllReadyH.nil
                go_simp
                refine hK.out _ _ x3 (fun hHeld2 => ?_)
                clear hK K hHeld
                refine wpAnyH_ready (rs := [6]) (by kernel_rfl) (by simp) ?_
                refine AllReadyH.cons (o := { dst := some 65, op := Go.Op.call { callee := Go.Callee.builtin Go.Builtin.append, args := #[Go.Operand.tmp 60, Go.Operand.tmp 64], argTypes := #[26, 26] }, type := 26, pos := "law.go:113", after := #[{ on := 1, ground := Go.Ground.data }, { on := 5, ground := Go.Ground.data }], guard := none }) rfl (fun K hK => ?_) AllReadyH.nil
                refine step_append_none rfl _ _ 26 rfl 35 i0 Tryd.underlying26 HI.out g2 (qs.length + 1) d2 rfl hd21 _ _ _ rfl (by first | rfl | omega) ?_
                refine hK.out _ _ x3 (fun hHeld4 => ?_)
                clear hK K hHeld2
                try simp only [Act.put, List.setIfInBounds_toArray, List.set_cons_zero, List.set_cons_succ]
                refine wpAnyH_take (i := 7) (oi := { dst := some 66, op := Go.Op.fieldAddr 28 (Go.Operand.tmp 6) 1, type := 0, pos := "law.go:113", after := #[{ on := 0, ground := Go.Ground.phase }, { on := 1, ground := Go.Ground.phase }, { on := 2, ground := Go.Ground.phase }, { on := 3, ground := Go.Ground.phase }, { on := 4, ground := Go.Ground.phase }, { on := 5, ground := Go.Ground.phase }, { on := 6, ground := Go.Ground.phase }], guard := none }) (v := ?tv7zss) rfl (by kernel_rfl) (by kernel_rfl) (by kernel_rfl) (fun _ _ _ h => h) (Or.inl ⟨by rfl, ?ty7zss⟩) (by assumption) ?tr7zss
                case ty7zss => (intro w hSw; (try dsimp only at hSw); go_simp; (try with_reducible rfl))
                simp only [Act.put, List.setIfInBounds_toArray, List.set_cons_zero, List.set_cons_succ]
                refine wpAnyH_ready (rs := [8]) (by kernel_rfl) (by simp) ?_
                refine AllReadyH.cons (o := { dst := none, op := Go.Op.store 26 (Go.Operand.tmp 66) (Go.Operand.tmp 65), type := 0, pos := "law.go:113", after := #[{ on := 7, ground := Go.Ground.data }, { on := 6, ground := Go.Ground.data }, { on := 6, ground := Go.Ground.chain }, { on := 0, ground := Go.Ground.phase }, { on := 1, ground := Go.Ground.phase }, { on := 2, ground := Go.Ground.phase }, { on := 3, ground := Go.Ground.phase }, { on := 4, ground := Go.Ground.phase }, { on := 5, ground := Go.Ground.phase }, { on := 6, ground := Go.Ground.phase }], guard := none }) rfl (fun K hK => ?_) AllReadyH.nil
                go_simp
                refine hK.out _ _ (HS.out _ HS1.out.on).2.2.2 (fun hHeld5 => ?_)
                clear hK K hHeld4
                refine wpAnyH_done (by kernel_rfl) ?_ _
                go_wp2
                all_goals go_meet
                all_goals exact ⟨_, by rw [HFI.out, HD.out, show flat ([] : List Wq) = [] from rfl, List.append_nil]; exact HS1.out⟩
            · cases ad with
              | none =>
                refine wp_region_held_drew (S := fun w' => w'.cell? ⟨w.heap.size, 3, none⟩ = some (.slice none qs.length cap)) (by kernel_rfl) x3 (fun hHeld => ?_)
                refine wpAnyH_take (i := 0) (oi := { dst := some 59, op := Go.Op.fieldAddr 28 (Go.Operand.tmp 6) 1, type := 0, pos := "law.go:113", after := #[], guard := none }) (v := ?tv0yns) rfl (by kernel_rfl) (by kernel_rfl) (by kernel_rfl) (fun _ _ _ h => h) (Or.inl ⟨by rfl, ?ty0yns⟩) (by assumption) ?tr0yns
                case ty0yns => (intro w hSw; (try dsimp only at hSw); go_simp; (try with_reducible rfl))
                simp only [Act.put, List.setIfInBounds_toArray, List.set_cons_zero, List.set_cons_succ]
                refine wpAnyH_take (i := 2) (oi := { dst := some 61, op := Go.Op.fieldAddr 28 (Go.Operand.tmp 2) 1, type := 0, pos := "law.go:113", after := #[], guard := none }) (v := ?tv2yns) rfl (by kernel_rfl) (by kernel_rfl) (by kernel_rfl) (fun _ _ _ h => h) (Or.inl ⟨by rfl, ?ty2yns⟩) (by assumption) ?tr2yns
                case ty2yns => (intro w hSw; (try dsimp only at hSw); go_simp; (try with_reducible rfl))
                simp only [Act.put, List.setIfInBounds_toArray, List.set_cons_zero, List.set_cons_succ]
                refine wpAnyH_take (i := 3) (oi := { dst := some 62, op := Go.Op.load 26 (Go.Operand.tmp 61), type := 26, pos := "law.go:113", after := #[{ on := 2, ground := Go.Ground.data }], guard := none }) (v := ?tv3yns) rfl (by kernel_rfl) (by kernel_rfl) (by kernel_rfl) (fun _ _ _ h => h) (Or.inl ⟨by rfl, ?ty3yns⟩) (by assumption) ?tr3yns
                case ty3yns => (intro w hSw; (try dsimp only at hSw); go_simp; (try with_reducible rfl))
                simp only [Act.put, List.setIfInBounds_toArray, List.set_cons_zero, List.set_cons_succ]
                refine wpAnyH_take (i := 4) (oi := { dst := some 63, op := Go.Op.move (Go.Operand.tmp 5), type := 3, pos := "law.go:113", after := #[], guard := none }) (v := ?tv4yns) rfl (by kernel_rfl) (by kernel_rfl) (by kernel_rfl) (fun _ _ _ h => h) (Or.inl ⟨by rfl, ?ty4yns⟩) (by assumption) ?tr4yns
                case ty4yns => (intro w hSw; (try dsimp only at hSw); go_simp; (try with_reducible rfl))
                simp only [Act.put, List.setIfInBounds_toArray, List.set_cons_zero, List.set_cons_succ]
                refine wpAnyH_take (i := 5) (oi := { dst := some 64, op := Go.Op.slice 26 (Go.Operand.tmp 62) (some (Go.Operand.tmp 63)) none none, type := 26, pos := "law.go:113", after := #[{ on := 3, ground := Go.Ground.data }, { on := 4, ground := Go.Ground.data }], guard := none }) (v := ?tv5yns) rfl (by kernel_rfl) (by kernel_rfl) (by kernel_rfl) (fun _ _ _ h => h) (Or.inl ⟨by rfl, ?ty5yns⟩) (by assumption) ?tr5yns
                case ty5yns => (intro w hSw; (try dsimp only at hSw); go_simp; (try with_reducible rfl))
                simp only [Act.put, List.setIfInBounds_toArray, List.set_cons_zero, List.set_cons_succ]
                refine wpAnyH_ready (rs := [1]) (by kernel_rfl) (by simp) ?_
                refine AllReadyH.cons (o := { dst := some 60, op := Go.Op.load 26 (Go.Operand.tmp 59), type := 26, pos := "law.go:113", after := #[{ on := 0, ground := Go.Ground.data }], guard := none }) rfl (fun K hK => ?_) AllReadyH.nil
                go_simp
                refine hK.out _ _ x3 (fun hHeld2 => ?_)
                clear hK K hHeld
                refine wpAnyH_ready (rs := [6]) (by kernel_rfl) (by simp) ?_
                refine AllReadyH.cons (o := { dst := some 65, op := Go.Op.call { callee := Go.Callee.builtin Go.Builtin.append, args := #[Go.Operand.tmp 60, Go.Operand.tmp 64], argTypes := #[26, 26] }, type := 26, pos := "law.go:113", after := #[{ on := 1, ground := Go.Ground.data }, { on := 5, ground := Go.Ground.data }], guard := none }) rfl (fun K hK => ?_) AllReadyH.nil
                refine step_append_none rfl _ _ 26 rfl 35 i0 Tryd.underlying26 HI.out g2 (qs.length + 1) d2 rfl hd21 _ _ _ rfl (by first | rfl | omega) ?_
                refine hK.out _ _ x3 (fun hHeld4 => ?_)
                clear hK K hHeld2
                try simp only [Act.put, List.setIfInBounds_toArray, List.set_cons_zero, List.set_cons_succ]
                refine wpAnyH_take (i := 7) (oi := { dst := some 66, op := Go.Op.fieldAddr 28 (Go.Operand.tmp 6) 1, type := 0, pos := "law.go:113", after := #[{ on := 0, ground := Go.Ground.phase }, { on := 1, ground := Go.Ground.phase }, { on := 2, ground := Go.Ground.phase }, { on := 3, ground := Go.Ground.phase }, { on := 4, ground := Go.Ground.phase }, { on := 5, ground := Go.Ground.phase }, { on := 6, ground := Go.Ground.phase }], guard := none }) (v := ?tv7yns) rfl (by kernel_rfl) (by kernel_rfl) (by kernel_rfl) (fun _ _ _ h => h) (Or.inl ⟨by rfl, ?ty7yns⟩) (by assumption) ?tr7yns
                case ty7yns => (intro w hSw; (try dsimp only at hSw); go_simp; (try with_reducible rfl))
                simp only [Act.put, List.setIfInBounds_toArray, List.set_cons_zero, List.set_cons_succ]
                refine wpAnyH_ready (rs := [8]) (by kernel_rfl) (by simp) ?_
                refine AllReadyH.cons (o := { dst := none, op := Go.Op.store 26 (Go.Operand.tmp 66) (Go.Operand.tmp 65), type := 0, pos := "law.go:113", after := #[{ on := 7, ground := Go.Ground.data }, { on := 6, ground := Go.Ground.data }, { on := 6, ground := Go.Ground.chain }, { on := 0, ground := Go.Ground.phase }, { on := 1, ground := Go.Ground.phase }, { on := 2, ground := Go.Ground.phase }, { on := 3, ground := Go.Ground.phase }, { on := 4, ground := Go.Ground.phase }, { on := 5, ground := Go.Ground.phase }, { on := 6, ground := Go.Ground.phase }], guard := none }) rfl (fun K hK => ?_) AllReadyH.nil
                go_simp
                refine hK.out _ _ (HS.out _ HS1.out.on).2.2.2 (fun hHeld5 => ?_)
                clear hK K hHeld4
                refine wpAnyH_done (by kernel_rfl) ?_ _
                go_wp2
                all_goals go_meet
                all_goals exact ⟨_, by rw [HFI.out, HD.out, show flat ([] : List Wq) = [] from rfl, List.append_nil]; exact HS1.out⟩
              | some p =>
                obtain ⟨p1, p2, p3⟩ := p
                refine wp_region_held_drew (S := fun w' => w'.cell? ⟨w.heap.size, 3, none⟩ = some (.slice (some ⟨p1, p2, p3⟩) qs.length cap)) (by kernel_rfl) x3 (fun hHeld => ?_)
                refine wpAnyH_take (i := 0) (oi := { dst := some 59, op := Go.Op.fieldAddr 28 (Go.Operand.tmp 6) 1, type := 0, pos := "law.go:113", after := #[], guard := none }) (v := ?tv0yss) rfl (by kernel_rfl) (by kernel_rfl) (by kernel_rfl) (fun _ _ _ h => h) (Or.inl ⟨by rfl, ?ty0yss⟩) (by assumption) ?tr0yss
                case ty0yss => (intro w hSw; (try dsimp only at hSw); go_simp; (try with_reducible rfl))
                simp only [Act.put, List.setIfInBounds_toArray, List.set_cons_zero, List.set_cons_succ]
                refine wpAnyH_take (i := 2) (oi := { dst := some 61, op := Go.Op.fieldAddr 28 (Go.Operand.tmp 2) 1, type := 0, pos := "law.go:113", after := #[], guard := none }) (v := ?tv2yss) rfl (by kernel_rfl) (by kernel_rfl) (by kernel_rfl) (fun _ _ _ h => h) (Or.inl ⟨by rfl, ?ty2yss⟩) (by assumption) ?tr2yss
                case ty2yss => (intro w hSw; (try dsimp only at hSw); go_simp; (try with_reducible rfl))
                simp only [Act.put, List.setIfInBounds_toArray, List.set_cons_zero, List.set_cons_succ]
                refine wpAnyH_take (i := 3) (oi := { dst := some 62, op := Go.Op.load 26 (Go.Operand.tmp 61), type := 26, pos := "law.go:113", after := #[{ on := 2, ground := Go.Ground.data }], guard := none }) (v := ?tv3yss) rfl (by kernel_rfl) (by kernel_rfl) (by kernel_rfl) (fun _ _ _ h => h) (Or.inl ⟨by rfl, ?ty3yss⟩) (by assumption) ?tr3yss
                case ty3yss => (intro w hSw; (try dsimp only at hSw); go_simp; (try with_reducible rfl))
                simp only [Act.put, List.setIfInBounds_toArray, List.set_cons_zero, List.set_cons_succ]
                refine wpAnyH_take (i := 4) (oi := { dst := some 63, op := Go.Op.move (Go.Operand.tmp 5), type := 3, pos := "law.go:113", after := #[], guard := none }) (v := ?tv4yss) rfl (by kernel_rfl) (by kernel_rfl) (by kernel_rfl) (fun _ _ _ h => h) (Or.inl ⟨by rfl, ?ty4yss⟩) (by assumption) ?tr4yss
                case ty4yss => (intro w hSw; (try dsimp only at hSw); go_simp; (try with_reducible rfl))
                simp only [Act.put, List.setIfInBounds_toArray, List.set_cons_zero, List.set_cons_succ]
                refine wpAnyH_take (i := 5) (oi := { dst := some 64, op := Go.Op.slice 26 (Go.Operand.tmp 62) (some (Go.Operand.tmp 63)) none none, type := 26, pos := "law.go:113", after := #[{ on := 3, ground := Go.Ground.data }, { on := 4, ground := Go.Ground.data }], guard := none }) (v := ?tv5yss) rfl (by kernel_rfl) (by kernel_rfl) (by kernel_rfl) (fun _ _ _ h => h) (Or.inl ⟨by rfl, ?ty5yss⟩) (by assumption) ?tr5yss
                case ty5yss => (intro w hSw; (try dsimp only at hSw); go_simp; (try with_reducible rfl))
                simp only [Act.put, List.setIfInBounds_toArray, List.set_cons_zero, List.set_cons_succ]
                refine wpAnyH_ready (rs := [1]) (by kernel_rfl) (by simp) ?_
                refine AllReadyH.cons (o := { dst := some 60, op := Go.Op.load 26 (Go.Operand.tmp 59), type := 26, pos := "law.go:113", after := #[{ on := 0, ground := Go.Ground.data }], guard := none }) rfl (fun K hK => ?_) AllReadyH.nil
                go_simp
                refine hK.out _ _ x3 (fun hHeld2 => ?_)
                clear hK K hHeld
                refine wpAnyH_ready (rs := [6]) (by kernel_rfl) (by simp) ?_
                refine AllReadyH.cons (o := { dst := some 65, op := Go.Op.call { callee := Go.Callee.builtin Go.Builtin.append, args := #[Go.Operand.tmp 60, Go.Operand.tmp 64], argTypes := #[26, 26] }, type := 26, pos := "law.go:113", after := #[{ on := 1, ground := Go.Ground.data }, { on := 5, ground := Go.Ground.data }], guard := none }) rfl (fun K hK => ?_) AllReadyH.nil
                refine step_append_none rfl _ _ 26 rfl 35 i0 Tryd.underlying26 HI.out g2 (qs.length + 1) d2 rfl hd21 _ _ _ rfl (by first | rfl | omega) ?_
                refine hK.out _ _ x3 (fun hHeld4 => ?_)
                clear hK K hHeld2
                try simp only [Act.put, List.setIfInBounds_toArray, List.set_cons_zero, List.set_cons_succ]
                refine wpAnyH_take (i := 7) (oi := { dst := some 66, op := Go.Op.fieldAddr 28 (Go.Operand.tmp 6) 1, type := 0, pos := "law.go:113", after := #[{ on := 0, ground := Go.Ground.phase }, { on := 1, ground := Go.Ground.phase }, { on := 2, ground := Go.Ground.phase }, { on := 3, ground := Go.Ground.phase }, { on := 4, ground := Go.Ground.phase }, { on := 5, ground := Go.Ground.phase }, { on := 6, ground := Go.Ground.phase }], guard := none }) (v := ?tv7yss) rfl (by kernel_rfl) (by kernel_rfl) (by kernel_rfl) (fun _ _ _ h => h) (Or.inl ⟨by rfl, ?ty7yss⟩) (by assumption) ?tr7yss
                case ty7yss => (intro w hSw; (try dsimp only at hSw); go_simp; (try with_reducible rfl))
                simp only [Act.put, List.setIfInBounds_toArray, List.set_cons_zero, List.set_cons_succ]
                refine wpAnyH_ready (rs := [8]) (by kernel_rfl) (by simp) ?_
                refine AllReadyH.cons (o := { dst := none, op := Go.Op.store 26 (Go.Operand.tmp 66) (Go.Operand.tmp 65), type := 0, pos := "law.go:113", after := #[{ on := 7, ground := Go.Ground.data }, { on := 6, ground := Go.Ground.data }, { on := 6, ground := Go.Ground.chain }, { on := 0, ground := Go.Ground.phase }, { on := 1, ground := Go.Ground.phase }, { on := 2, ground := Go.Ground.phase }, { on := 3, ground := Go.Ground.phase }, { on := 4, ground := Go.Ground.phase }, { on := 5, ground := Go.Ground.phase }, { on := 6, ground := Go.Ground.phase }], guard := none }) rfl (fun K hK => ?_) AllReadyH.nil
                go_simp
                refine hK.out _ _ (HS.out _ HS1.out.on).2.2.2 (fun hHeld5 => ?_)
                clear hK K hHeld4
                refine wpAnyH_done (by kernel_rfl) ?_ _
                go_wp2
                all_goals go_meet
                all_goals exact ⟨_, by rw [HFI.out, HD.out, show flat ([] : List Wq) = [] from rfl, List.append_nil]; exact HS1.out⟩
          · have hkl : k < qs.length := by omega
            have hne : qs ≠ [] := by intro e; rw [e] at hkl; exact absurd hkl (Nat.not_lt_zero _)
            obtain ⟨g, o, hr1, hr2, hr3⟩ := HOK.out.r.resolve_left hne
            subst hr1
            have hF1 : WRow w (some ⟨g, o + k * 8, none⟩) (qs.drop k) := .inr ⟨g, o + k * 8, rfl, hr2, fun j q hj i hi => by rw [List.getElem?_drop] at hj; rw [show o + k * 8 + j * 8 + i = o + (k + j) * 8 + i by omega]; exact hr3 (k + j) q hj i hi⟩
            have hT : qs.drop k ≠ [] := by intro e; have := congrArg List.length e; simp at this; omega
            have N1 : Hid (∀ j u, (flat (qs.drop k))[j]? = some u → wc.cell? ((⟨g, o + k * 8, none⟩ : Addr).add j) = some u) := fun j u hu => by
              rw [← hF1.news hT j u hu]
              exact hSt.on.below.cell (p := (⟨g, o + k * 8, none⟩ : Addr).add j) (by rw [add_pl]; exact hr2)
            have HL1 : Hid ((flat (qs.drop k)).length = (qs.length - k) * 8) := Lib.hid (by rw [flat_len, List.length_drop])
            have HF1 := Lib.hid (flat_one (qs.drop k))
            have hkp : 0 < qs.length - k := by omega
            have hc1 : ((k : Nat) : Int) ≤ (qs.length : Int) := by omega
            have hc2 : ((qs.length : Nat) : Int) ≤ (cap : Int) := by omega
            have hcc : ¬ cap = k := by omega
            have HSt := Lib.hid hSt
            clear hF1 hT hr3 hSt
            refine wp_region_held_drew (S := fun w' => w'.cell? ⟨w.heap.size, 3, none⟩ = some (.slice (some ⟨g, o, none⟩) qs.length cap)) (by kernel_rfl) x3 (fun hHeld => ?_)
            refine wpAnyH_take (i := 0) (oi := { dst := some 59, op := Go.Op.fieldAddr 28 (Go.Operand.tmp 6) 1, type := 0, pos := "law.go:113", after := #[], guard := none }) (v := ?tv0ks) rfl (by kernel_rfl) (by kernel_rfl) (by kernel_rfl) (fun _ _ _ h => h) (Or.inl ⟨by rfl, ?ty0ks⟩) (by assumption) ?tr0ks
            case ty0ks => (intro w hSw; (try dsimp only at hSw); go_simp; (try with_reducible rfl))
            simp only [Act.put, List.setIfInBounds_toArray, List.set_cons_zero, List.set_cons_succ]
            refine wpAnyH_take (i := 2) (oi := { dst := some 61, op := Go.Op.fieldAddr 28 (Go.Operand.tmp 2) 1, type := 0, pos := "law.go:113", after := #[], guard := none }) (v := ?tv2ks) rfl (by kernel_rfl) (by kernel_rfl) (by kernel_rfl) (fun _ _ _ h => h) (Or.inl ⟨by rfl, ?ty2ks⟩) (by assumption) ?tr2ks
            case ty2ks => (intro w hSw; (try dsimp only at hSw); go_simp; (try with_reducible rfl))
            simp only [Act.put, List.setIfInBounds_toArray, List.set_cons_zero, List.set_cons_succ]
            refine wpAnyH_take (i := 3) (oi := { dst := some 62, op := Go.Op.load 26 (Go.Operand.tmp 61), type := 26, pos := "law.go:113", after := #[{ on := 2, ground := Go.Ground.data }], guard := none }) (v := ?tv3ks) rfl (by kernel_rfl) (by kernel_rfl) (by kernel_rfl) (fun _ _ _ h => h) (Or.inl ⟨by rfl, ?ty3ks⟩) (by assumption) ?tr3ks
            case ty3ks => (intro w hSw; (try dsimp only at hSw); go_simp; (try with_reducible rfl))
            simp only [Act.put, List.setIfInBounds_toArray, List.set_cons_zero, List.set_cons_succ]
            refine wpAnyH_take (i := 4) (oi := { dst := some 63, op := Go.Op.move (Go.Operand.tmp 5), type := 3, pos := "law.go:113", after := #[], guard := none }) (v := ?tv4ks) rfl (by kernel_rfl) (by kernel_rfl) (by kernel_rfl) (fun _ _ _ h => h) (Or.inl ⟨by rfl, ?ty4ks⟩) (by assumption) ?tr4ks
            case ty4ks => (intro w hSw; (try dsimp only at hSw); go_simp; (try with_reducible rfl))
            simp only [Act.put, List.setIfInBounds_toArray, List.set_cons_zero, List.set_cons_succ]
            refine wpAnyH_take (i := 5) (oi := { dst := some 64, op := Go.Op.slice 26 (Go.Operand.tmp 62) (some (Go.Operand.tmp 63)) none none, type := 26, pos := "law.go:113", after := #[{ on := 3, ground := Go.Ground.data }, { on := 4, ground := Go.Ground.data }], guard := none }) (v := ?tv5ks) rfl (by kernel_rfl) (by kernel_rfl) (by kernel_rfl) (fun _ _ _ h => h) (Or.inl ⟨by rfl, ?ty5ks⟩) (by assumption) ?tr5ks
            case ty5ks => (intro w hSw; (try dsimp only at hSw); go_simp; (try with_reducible rfl))
            simp only [Act.put, List.setIfInBounds_toArray, List.set_cons_zero, List.set_cons_succ]
            refine wpAnyH_ready (rs := [1]) (by kernel_rfl) (by simp) ?_
            refine AllReadyH.cons (o := { dst := some 60, op := Go.Op.load 26 (Go.Operand.tmp 59), type := 26, pos := "law.go:113", after := #[{ on := 0, ground := Go.Ground.data }], guard := none }) rfl (fun K hK => ?_) AllReadyH.nil
            go_simp
            refine hK.out _ _ x3 (fun hHeld2 => ?_)
            clear hK K hHeld
            refine wpAnyH_ready (rs := [6]) (by kernel_rfl) (by simp) ?_
            refine AllReadyH.cons (o := { dst := some 65, op := Go.Op.call { callee := Go.Callee.builtin Go.Builtin.append, args := #[Go.Operand.tmp 60, Go.Operand.tmp 64], argTypes := #[26, 26] }, type := 26, pos := "law.go:113", after := #[{ on := 1, ground := Go.Ground.data }, { on := 5, ground := Go.Ground.data }], guard := none }) rfl (fun K hK => ?_) AllReadyH.nil
            refine step_append_lies _ rfl _ _ 26 rfl (w1.heap.size + 1) 35 i0 (.agg #[.int .i64 0, .int .i64 0, .int .i64 0, .int .u32 0, .int .i64 0, .int .i64 0, .slice none 0 0, .bool false]) 8 80 Tryd.underlying26 HI.out HZ.out.1 HZ.out.2.1 HZ.out.2.2 rfl (by decide) (.slice (some ⟨g2, 0, none⟩) (k + 1) d2) (k + 1) _ rfl HSt.out.own.drew ⟨g, o + k * 8, none⟩ (qs.length - k) (cap - k) (flat (qs.drop k)) rfl HL1.out N1.out HF1.out hkp (by unfold maxLen; omega) (by omega) (by have := HSt.out.cells.2.2.2.2.2; simp; omega) _ rfl ?_
            intro g3 d3 w3 ho hg ha hl
            obtain ⟨s1, s2, s3⟩ := StT.next HSt.out.drew hg ho
            have s4 := (StT.grown HSt.out.drew hg).2
            have HS1 := Lib.hid s1
            have HS4 := Lib.hid s4
            clear s1 s4
            refine hK.out _ _ (HS.out _ HS4.out).2.2.2 (fun hHeld4 => ?_)
            clear hK K hHeld2
            try simp only [Act.put, List.setIfInBounds_toArray, List.set_cons_zero, List.set_cons_succ]
            refine wpAnyH_take (i := 7) (oi := { dst := some 66, op := Go.Op.fieldAddr 28 (Go.Operand.tmp 6) 1, type := 0, pos := "law.go:113", after := #[{ on := 0, ground := Go.Ground.phase }, { on := 1, ground := Go.Ground.phase }, { on := 2, ground := Go.Ground.phase }, { on := 3, ground := Go.Ground.phase }, { on := 4, ground := Go.Ground.phase }, { on := 5, ground := Go.Ground.phase }, { on := 6, ground := Go.Ground.phase }], guard := none }) (v := ?tv7ks) rfl (by kernel_rfl) (by kernel_rfl) (by kernel_rfl) (fun _ _ _ h => h) (Or.inl ⟨by rfl, ?ty7ks⟩) (by assumption) ?tr7ks
            case ty7ks => (intro w hSw; (try dsimp only at hSw); go_simp; (try with_reducible rfl))
            simp only [Act.put, List.setIfInBounds_toArray, List.set_cons_zero, List.set_cons_succ]
            refine wpAnyH_ready (rs := [8]) (by kernel_rfl) (by simp) ?_
            refine AllReadyH.cons (o := { dst := none, op := Go.Op.store 26 (Go.Operand.tmp 66) (Go.Operand.tmp 65), type := 0, pos := "law.go:113", after := #[{ on := 7, ground := Go.Ground.data }, { on := 6, ground := Go.Ground.data }, { on := 6, ground := Go.Ground.chain }, { on := 0, ground := Go.Ground.phase }, { on := 1, ground := Go.Ground.phase }, { on := 2, ground := Go.Ground.phase }, { on := 3, ground := Go.Ground.phase }, { on := 4, ground := Go.Ground.phase }, { on := 5, ground := Go.Ground.phase }, { on := 6, ground := Go.Ground.phase }], guard := none }) rfl (fun K hK => ?_) AllReadyH.nil
            go_simp
            refine hK.out _ _ (HS.out _ HS1.out.on).2.2.2 (fun hHeld5 => ?_)
            clear hK K hHeld4
            refine wpAnyH_done (by kernel_rfl) ?_ _
            go_wp2
            all_goals go_meet
            all_goals exact ⟨_, by rw [HFI.out, show qs.length + 1 = k + 1 + (qs.length - k) by omega]; exact HS1.out⟩
        case rest =>
          obtain ⟨v, hSt⟩ := hcut
          obtain ⟨g3, d3, e3, hb3, hl3⟩ := hSt.own.form (Nat.succ_pos _)
          subst e3
          have hqi := ins_len qs k (tq (opk qs k)) hkn
          have hc := HOK.out.c
          have hq := HOK.out.q
          have hod : ChOk wc c (some ⟨g3, 0, none⟩) (ins qs k (tq (opk qs k))) := ⟨hc, fun q hq' => (by
            unfold ins at hq'
            rcases List.mem_append.1 hq' with h | h
            · exact hq q (List.mem_of_mem_take h)
            · rcases List.mem_cons.1 h with rfl | h
              · exact tq_okr _
              · exact hq q (List.mem_of_mem_drop h)), by omega, wrow_own hqi.symm hSt.own, HOK.out.n.below hSt.on.below⟩
          have PS : Hid (∀ j, k ≤ j → j ≤ qs.length → sh c (rv (ins qs k (tq (opk qs k))) (j + 1)) = sh c (rv qs j)) := fun j h1 h2 => by
            have := ins_sh hc qs hq k hkn (j - k) (by omega)
            rwa [show k + (j - k) = j by omega] at this
          have PL : Hid (∀ j, j ≤ k → sh c (rv (ins qs k (tq (opk qs k))) j) = sh c (rv qs j)) := fun j h1 => by rw [ins_rv qs k _ hkn j h1]
          have PW : Hid (∀ κ : Nat, κ < 10 → who c (rv (ins qs k (tq (opk qs k))) (qs.length + 1)) κ = mvI k (who c (rv qs qs.length) κ)) := fun κ hκ => by
            have := ins_who hc qs hq k hkn κ hκ (qs.length - k) (by omega)
            rwa [show k + (qs.length - k) = qs.length by omega] at this
          have PR : Hid (∀ κ : Nat, κ < 10 → rch c (rv (ins qs k (tq (opk qs k))) (qs.length + 1)) κ = mvI k (rch c (rv qs qs.length) κ)) := fun κ hκ => by
            have := ins_rch hc qs hq k hkn κ hκ (qs.length - k) (by omega)
            rwa [show k + (qs.length - k) = qs.length by omega] at this
          have HON := Lib.hid hSt.on
          have HCE := Lib.hid hSt.cells
          have HOD := Lib.hid hod
          have HQI := Lib.hid hqi
          have hNc : w.heap.size < wc.heap.size := by have := hSt.on.size; omega
          have hNd : w1.heap.size < wc.heap.size := hSt.cells.2.2.2.2.2
          clear hSt hod hqi x0 x1 x2 x3 y0 y1 y2 y3 y4 y5 hc hq
          generalize ins qs k (tq (opk qs k)) = is at PS PL PW PR HOD HQI
          have HC8 : Hid (∀ wx, Below wc.heap.size wc wx → wx.cell? ⟨w.heap.size, 0, none⟩ = some (.int .i64 op) ∧ wx.cell? ⟨w.heap.size, 1, none⟩ = some (.int .i64 num) ∧ wx.cell? ⟨w.heap.size, 2, none⟩ = some (.int .u32 (c : Nat)) ∧ wx.cell? ⟨w.heap.size, 3, none⟩ = some (.slice ad qs.length cap) ∧ wx.cell? ⟨w1.heap.size, 0, none⟩ = some (.int .i64 op) ∧ wx.cell? ⟨w1.heap.size, 1, none⟩ = some (.int .i64 num) ∧ wx.cell? ⟨w1.heap.size, 2, none⟩ = some (.int .u32 (c : Nat)) ∧ wx.cell? ⟨w1.heap.size, 3, none⟩ = some (.slice (some ⟨g3, 0, none⟩) (qs.length + 1) d3)) := fun wx hb => by
            obtain ⟨z0, z1, z2, z3⟩ := HS.out _ HON.out
            obtain ⟨t0, t1, t2, t3, -, -⟩ := HCE.out
            exact ⟨(hb.cell hNc).trans z0, (hb.cell hNc).trans z1, (hb.cell hNc).trans z2, (hb.cell hNc).trans z3, (hb.cell hNd).trans t0, (hb.cell hNd).trans t1, (hb.cell hNd).trans t2, (hb.cell hNd).trans t3⟩
          have KA2 : Hid (∀ wx, Below wc.heap.size wc wx → Calls Tryd.prog 10 #[] wx fun e w' => e = .returned (.bool true) ∧ Below w.heap.size w w') := fun wx hb => (KA.out wx (HON.out.step hb)).mono fun e w' ⟨a, b⟩ => ⟨a, b.below⟩
          have KP : Hid (∀ wx, Below wc.heap.size wc wx → Calls Tryd.prog 14 #[.agg #[.int .i64 op, .int .i64 num, .int .u32 (c : Nat), .slice ad qs.length cap]] wx fun e w' => ∃ g cp, e = .returned (.slice (some ⟨g, 0, none⟩) (qs.length + 1) cp) ∧ RowS w' c qs g ∧ Below wc.heap.size wc w' ∧ Below wx.heap.size wx w') := fun wx hb => (plevels_any op num c qs ad cap wx (HOK.out.below (HON.out.step hb).below)).mono fun e w' ⟨g, cp, a, ho, hb'⟩ => ⟨g, cp, a, rowS_of ho, hb.trans (hb'.mono hb.size), hb'⟩
          have KQ : Hid (∀ wx, Below wc.heap.size wc wx → Calls Tryd.prog 14 #[.agg #[.int .i64 op, .int .i64 num, .int .u32 (c : Nat), .slice (some ⟨g3, 0, none⟩) (qs.length + 1) d3]] wx fun e w' => ∃ g cp, e = .returned (.slice (some ⟨g, 0, none⟩) (qs.length + 2) cp) ∧ RowS w' c is g ∧ Below wc.heap.size wc w' ∧ Below wx.heap.size wx w') := fun wx hb => by
            have := (plevels_any op num c is (some ⟨g3, 0, none⟩) d3 wx (HOD.out.below hb)).mono fun e w' ⟨g, cp, a, ho, hb'⟩ => (⟨g, cp, a, rowS_of ho, hb.trans (hb'.mono hb.size), hb'⟩ : ∃ g cp, e = Ending.returned (.slice (some ⟨g, 0, none⟩) (is.length + 1) cp) ∧ RowS w' c is g ∧ Below wc.heap.size wc w' ∧ Below wx.heap.size wx w')
            rw [HQI.out] at this
            exact this
          have KW : Hid (∀ (κ : Int) wx, Below wc.heap.size wc wx → Calls Tryd.prog 20 #[.agg #[.int .i64 op, .int .i64 num, .int .u32 (c : Nat), .slice ad qs.length cap], .int .i64 κ] wx fun e w' => e = .returned (.int .i64 (who c (rv qs qs.length) κ)) ∧ Below wc.heap.size wc w') := fun κ wx hb => (pwho_any op num c qs ad cap κ wx (HOK.out.below (HON.out.step hb).below)).mono fun e w' ⟨a, b⟩ => ⟨a, hb.trans (b.mono hb.size)⟩
          have KV : Hid (∀ (κ : Int) wx, Below wc.heap.size wc wx → Calls Tryd.prog 20 #[.agg #[.int .i64 op, .int .i64 num, .int .u32 (c : Nat), .slice (some ⟨g3, 0, none⟩) (qs.length + 1) d3], .int .i64 κ] wx fun e w' => e = .returned (.int .i64 (who c (rv is (qs.length + 1)) κ)) ∧ Below wc.heap.size wc w') := fun κ wx hb => by
            have := (pwho_any op num c is (some ⟨g3, 0, none⟩) d3 κ wx (HOD.out.below hb)).mono fun e w' ⟨a, b⟩ => (⟨a, hb.trans (b.mono hb.size)⟩ : e = Ending.returned (.int .i64 (who c (rv is is.length) κ)) ∧ Below wc.heap.size wc w')
            rw [HQI.out] at this
            exact this
          have KR : Hid (∀ (κ : Int) wx, Below wc.heap.size wc wx → Calls Tryd.prog 22 #[.agg #[.int .i64 op, .int .i64 num, .int .u32 (c : Nat), .slice ad qs.length cap], .int .i64 κ] wx fun e w' => e = .returned (.int .i64 (rch c (rv qs qs.length) κ)) ∧ Below wc.heap.size wc w') := fun κ wx hb => (preach_any op num c qs ad cap κ wx (HOK.out.below (HON.out.step hb).below)).mono fun e w' ⟨a, b⟩ => ⟨a, hb.trans (b.mono hb.size)⟩
          have KT : Hid (∀ (κ : Int) wx, Below wc.heap.size wc wx → Calls Tryd.prog 22 #[.agg #[.int .i64 op, .int .i64 num, .int .u32 (c : Nat), .slice (some ⟨g3, 0, none⟩) (qs.length + 1) d3], .int .i64 κ] wx fun e w' => e = .returned (.int .i64 (rch c (rv is (qs.length + 1)) κ)) ∧ Below wc.heap.size wc w') := fun κ wx hb => by
            have := (preach_any op num c is (some ⟨g3, 0, none⟩) d3 κ wx (HOD.out.below hb)).mono fun e w' ⟨a, b⟩ => (⟨a, hb.trans (b.mono hb.size)⟩ : e = Ending.returned (.int .i64 (rch c (rv is is.length) κ)) ∧ Below wc.heap.size wc w')
            rw [HQI.out] at this
            exact this
          clear KA b0 b1 hU hk
          have bz : Below wc.heap.size wc wc := Below.refl _ _
          obtain ⟨x0, x1, x2, x3, y0, y1, y2, y3⟩ := HC8.out _ bz
          go_wp2_with fail
          go_region_held3 (fun w' => w'.cell? ⟨w.heap.size, 0, none⟩ = some (.int .i64 op) ∧ w'.cell? ⟨w.heap.size, 1, none⟩ = some (.int .i64 num) ∧ w'.cell? ⟨w.heap.size, 2, none⟩ = some (.int .u32 (c : Nat)) ∧ w'.cell? ⟨w.heap.size, 3, none⟩ = some (.slice ad qs.length cap) ∧ w'.cell? ⟨w1.heap.size, 0, none⟩ = some (.int .i64 op) ∧ w'.cell? ⟨w1.heap.size, 1, none⟩ = some (.int .i64 num) ∧ w'.cell? ⟨w1.heap.size, 2, none⟩ = some (.int .u32 (c : Nat)) ∧ w'.cell? ⟨w1.heap.size, 3, none⟩ = some (.slice (some ⟨g3, 0, none⟩) (qs.length + 1) d3)) (exact HC8.out _ (by first | assumption | exact Below.drew (by assumption))) (first
            | (go_at_call 14; first
                | (with_reducible refine (KP.out _ (by first | assumption | exact Below.drew (by assumption))).mono ?_; rintro e wa ⟨ga, ca, rfl, hrc, ba, eac⟩)
                | (with_reducible refine (KQ.out _ (by first | assumption | exact Below.drew (by assumption))).mono ?_; rintro e wb ⟨gb, cb, rfl, hrd, bb', ead⟩)))
          have HRc := hrc.below ead
          have HRd := hrd
          clear hrc hrd eac x0 x1 x2 x3 y0 y1 y2 y3
          have HRC := Lib.hid HRc
          have HRD := Lib.hid HRd
          have z1 := HRc.2 k (by omega)
          have z2 := HRd.2 (k + 1) (by have := HQI.out; omega)
          rw [PS.out k (Nat.le_refl _) hkn] at z2
          clear HRc HRd
          obtain ⟨x0, x1, x2, x3, y0, y1, y2, y3⟩ := HC8.out _ bb'
          generalize sh c (rv qs k) = S0 at z1 z2
          have hk2 : ((k : Nat) : Int) < (qs.length : Int) + 1 := by omega
          have hk3 : ((k : Nat) : Int) + 1 < (qs.length : Int) + 2 := by omega
          have hk4 : (0 : Int) ≤ ((k : Nat) : Int) + 1 := by omega
          have hk5 : IntKind.i64.wrap (((k : Nat) : Int) + 1) = (k : Int) + 1 := IntWalk.i64_in _ (by omega)
          have hk6 : (((k : Nat) : Int) + 1).toNat = k + 1 := by omega
          go_wp2_with fail
          refine wp_region_held_drew (S := fun w' => w'.cell? ⟨w.heap.size, 3, none⟩ = some (.slice ad qs.length cap) ∧ w'.cell? ⟨ga, k, none⟩ = some (.int .u32 (S0 : Nat)) ∧ w'.cell? ⟨gb, k + 1, none⟩ = some (.int .u32 (S0 : Nat))) (by kernel_rfl) ⟨x3, z1, z2⟩ (fun hHeld => ?_)
          refine wpAnyH_take (i := 0) (oi := { dst := some 71, op := Go.Op.move (Go.Operand.tmp 7), type := 38, pos := "law.go:115", after := #[], guard := none }) (v := ?tv0r9) rfl (by kernel_rfl) (by kernel_rfl) (by kernel_rfl) (fun _ _ _ h => h) (Or.inl ⟨by rfl, ?ty0r9⟩) (by assumption) ?tr0r9
          case ty0r9 => (intro w hSw; (try dsimp only at hSw); go_simp; (try with_reducible rfl))
          simp only [Act.put, List.setIfInBounds_toArray, List.set_cons_zero, List.set_cons_succ]
          refine wpAnyH_take (i := 1) (oi := { dst := some 72, op := Go.Op.call { callee := Go.Callee.builtin Go.Builtin.len, args := #[Go.Operand.tmp 71], argTypes := #[38] }, type := 3, pos := "law.go:115", after := #[{ on := 0, ground := Go.Ground.data }], guard := none }) (v := ?tv1r9) rfl (by kernel_rfl) (by kernel_rfl) (by kernel_rfl) (fun _ _ _ h => h) (Or.inl ⟨by rfl, ?ty1r9⟩) (by assumption) ?tr1r9
          case ty1r9 => (intro w hSw; (try dsimp only at hSw); go_simp; (try with_reducible rfl))
          simp only [Act.put, List.setIfInBounds_toArray, List.set_cons_zero, List.set_cons_succ]
          refine wpAnyH_take (i := 2) (oi := { dst := some 73, op := Go.Op.fieldAddr 28 (Go.Operand.tmp 2) 1, type := 0, pos := "law.go:115", after := #[], guard := none }) (v := ?tv2r9) rfl (by kernel_rfl) (by kernel_rfl) (by kernel_rfl) (fun _ _ _ h => h) (Or.inl ⟨by rfl, ?ty2r9⟩) (by assumption) ?tr2r9
          case ty2r9 => (intro w hSw; (try dsimp only at hSw); go_simp; (try with_reducible rfl))
          simp only [Act.put, List.setIfInBounds_toArray, List.set_cons_zero, List.set_cons_succ]
          refine wpAnyH_take (i := 3) (oi := { dst := some 74, op := Go.Op.load 26 (Go.Operand.tmp 73), type := 26, pos := "law.go:115", after := #[{ on := 2, ground := Go.Ground.data }], guard := none }) (v := ?tv3r9) rfl (by kernel_rfl) (by kernel_rfl) (by kernel_rfl) (fun _ _ _ h => h) (Or.inl ⟨by rfl, ?ty3r9⟩) (by assumption) ?tr3r9
          case ty3r9 => (intro w hSw; (try dsimp only at hSw); go_simp; (try with_reducible rfl))
          simp only [Act.put, List.setIfInBounds_toArray, List.set_cons_zero, List.set_cons_succ]
          refine wpAnyH_take (i := 4) (oi := { dst := some 75, op := Go.Op.call { callee := Go.Callee.builtin Go.Builtin.len, args := #[Go.Operand.tmp 74], argTypes := #[26] }, type := 3, pos := "law.go:115", after := #[{ on := 3, ground := Go.Ground.data }], guard := none }) (v := ?tv4r9) rfl (by kernel_rfl) (by kernel_rfl) (by kernel_rfl) (fun _ _ _ h => h) (Or.inl ⟨by rfl, ?ty4r9⟩) (by assumption) ?tr4r9
          case ty4r9 => (intro w hSw; (try dsimp only at hSw); go_simp; (try with_reducible rfl))
          simp only [Act.put, List.setIfInBounds_toArray, List.set_cons_zero, List.set_cons_succ]
          refine wpAnyH_take (i := 5) (oi := { dst := some 76, op := Go.Op.binOp Go.BinOp.add 3 (Go.Operand.tmp 75) (Go.Operand.const (Go.Value.int Go.IntKind.i64 1)) 3, type := 3, pos := "law.go:115", after := #[{ on := 4, ground := Go.Ground.data }], guard := none }) (v := ?tv5r9) rfl (by kernel_rfl) (by kernel_rfl) (by kernel_rfl) (fun _ _ _ h => h) (Or.inl ⟨by rfl, ?ty5r9⟩) (by assumption) ?tr5r9
          case ty5r9 => (intro w hSw; (try dsimp only at hSw); go_simp; (try with_reducible rfl))
          simp only [Act.put, List.setIfInBounds_toArray, List.set_cons_zero, List.set_cons_succ]
          refine wpAnyH_take (i := 6) (oi := { dst := some 77, op := Go.Op.binOp Go.BinOp.neq 3 (Go.Operand.tmp 72) (Go.Operand.tmp 76) 3, type := 4, pos := "law.go:115", after := #[{ on := 1, ground := Go.Ground.data }, { on := 5, ground := Go.Ground.data }], guard := none }) (v := .bool false) rfl (by kernel_rfl) (by kernel_rfl) (by kernel_rfl) (fun _ _ _ h => h) (Or.inl ⟨by rfl, ?ty6r9⟩) (by assumption) ?tr6r9
          case ty6r9 => (intro w hSw; (try dsimp only at hSw); go_simp; (try with_reducible rfl); (try simp); (try omega); (try (rw [IntWalk.i64_in _ (by omega)]; (try omega))))
          simp only [Act.put, List.setIfInBounds_toArray, List.set_cons_zero, List.set_cons_succ]
          refine wpAnyH_take (i := 7) (oi := { dst := some 78, op := Go.Op.move (Go.Operand.tmp 77), type := 4, pos := "law.go:115", after := #[{ on := 6, ground := Go.Ground.data }], guard := none }) (v := ?tv7r9) rfl (by kernel_rfl) (by kernel_rfl) (by kernel_rfl) (fun _ _ _ h => h) (Or.inl ⟨by rfl, ?ty7r9⟩) (by assumption) ?tr7r9
          case ty7r9 => (intro w hSw; (try dsimp only at hSw); go_simp; (try with_reducible rfl))
          simp only [Act.put, List.setIfInBounds_toArray, List.set_cons_zero, List.set_cons_succ]
          refine wpAnyH_take (i := 8) (oi := { dst := some 79, op := Go.Op.move (Go.Operand.tmp 8), type := 38, pos := "law.go:115", after := #[{ on := 7, ground := Go.Ground.guard }], guard := some (7, false) }) (v := ?tv8r9) rfl (by kernel_rfl) (by kernel_rfl) (by kernel_rfl) (fun _ _ _ h => h) (Or.inl ⟨by rfl, ?ty8r9⟩) (by assumption) ?tr8r9
          case ty8r9 => (intro w hSw; (try dsimp only at hSw); go_simp; (try with_reducible rfl))
          simp only [Act.put, List.setIfInBounds_toArray, List.set_cons_zero, List.set_cons_succ]
          refine wpAnyH_take (i := 9) (oi := { dst := some 80, op := Go.Op.call { callee := Go.Callee.builtin Go.Builtin.len, args := #[Go.Operand.tmp 79], argTypes := #[38] }, type := 3, pos := "law.go:115", after := #[{ on := 8, ground := Go.Ground.data }, { on := 7, ground := Go.Ground.guard }], guard := some (7, false) }) (v := ?tv9r9) rfl (by kernel_rfl) (by kernel_rfl) (by kernel_rfl) (fun _ _ _ h => h) (Or.inl ⟨by rfl, ?ty9r9⟩) (by assumption) ?tr9r9
          case ty9r9 => (intro w hSw; (try dsimp only at hSw); go_simp; (try with_reducible rfl))
          simp only [Act.put, List.setIfInBounds_toArray, List.set_cons_zero, List.set_cons_succ]
          refine wpAnyH_take (i := 10) (oi := { dst := some 81, op := Go.Op.move (Go.Operand.tmp 7), type := 38, pos := "law.go:115", after := #[{ on := 7, ground := Go.Ground.guard }], guard := some (7, false) }) (v := ?tv10r9) rfl (by kernel_rfl) (by kernel_rfl) (by kernel_rfl) (fun _ _ _ h => h) (Or.inl ⟨by rfl, ?ty10r9⟩) (by assumption) ?tr10r9
          case ty10r9 => (intro w hSw; (try dsimp only at hSw); go_simp; (try with_reducible rfl))
          simp only [Act.put, List.setIfInBounds_toArray, List.set_cons_zero, List.set_cons_succ]
          refine wpAnyH_take (i := 11) (oi := { dst := some 82, op := Go.Op.call { callee := Go.Callee.builtin Go.Builtin.len, args := #[Go.Operand.tmp 81], argTypes := #[38] }, type := 3, pos := "law.go:115", after := #[{ on := 10, ground := Go.Ground.data }, { on := 7, ground := Go.Ground.guard }], guard := some (7, false) }) (v := ?tv11r9) rfl (by kernel_rfl) (by kernel_rfl) (by kernel_rfl) (fun _ _ _ h => h) (Or.inl ⟨by rfl, ?ty11r9⟩) (by assumption) ?tr11r9
          case ty11r9 => (intro w hSw; (try dsimp only at hSw); go_simp; (try with_reducible rfl))
          simp only [Act.put, List.setIfInBounds_toArray, List.set_cons_zero, List.set_cons_succ]
          refine wpAnyH_take (i := 12) (oi := { dst := some 83, op := Go.Op.binOp Go.BinOp.add 3 (Go.Operand.tmp 82) (Go.Operand.const (Go.Value.int Go.IntKind.i64 1)) 3, type := 3, pos := "law.go:115", after := #[{ on := 11, ground := Go.Ground.data }, { on := 7, ground := Go.Ground.guard }], guard := some (7, false) }) (v := ?tv12r9) rfl (by kernel_rfl) (by kernel_rfl) (by kernel_rfl) (fun _ _ _ h => h) (Or.inl ⟨by rfl, ?ty12r9⟩) (by assumption) ?tr12r9
          case ty12r9 => (intro w hSw; (try dsimp only at hSw); go_simp; (try with_reducible rfl))
          simp only [Act.put, List.setIfInBounds_toArray, List.set_cons_zero, List.set_cons_succ]
          refine wpAnyH_take (i := 13) (oi := { dst := some 84, op := Go.Op.binOp Go.BinOp.neq 3 (Go.Operand.tmp 80) (Go.Operand.tmp 83) 3, type := 4, pos := "law.go:115", after := #[{ on := 9, ground := Go.Ground.data }, { on := 12, ground := Go.Ground.data }, { on := 7, ground := Go.Ground.guard }], guard := some (7, false) }) (v := .bool false) rfl (by kernel_rfl) (by kernel_rfl) (by kernel_rfl) (fun _ _ _ h => h) (Or.inl ⟨by rfl, ?ty13r9⟩) (by assumption) ?tr13r9
          case ty13r9 => (intro w hSw; (try dsimp only at hSw); go_simp; (try with_reducible rfl); (try simp); (try omega); (try (rw [IntWalk.i64_in _ (by omega)]; (try omega))))
          simp only [Act.put, List.setIfInBounds_toArray, List.set_cons_zero, List.set_cons_succ]
          refine wpAnyH_take (i := 14) (oi := { dst := some 85, op := Go.Op.pick (Go.Operand.tmp 78) (Go.Operand.const (Go.Value.bool true)) (Go.Operand.tmp 84), type := 4, pos := "law.go:115", after := #[{ on := 7, ground := Go.Ground.data }, { on := 13, ground := Go.Ground.data }], guard := none }) (v := ?tv14r9) rfl (by kernel_rfl) (by kernel_rfl) (by kernel_rfl) (fun _ _ _ h => h) (Or.inl ⟨by rfl, ?ty14r9⟩) (by assumption) ?tr14r9
          case ty14r9 => (intro w hSw; (try dsimp only at hSw); go_simp; (try with_reducible rfl))
          simp only [Act.put, List.setIfInBounds_toArray, List.set_cons_zero, List.set_cons_succ]
          refine wpAnyH_take (i := 15) (oi := { dst := some 86, op := Go.Op.move (Go.Operand.tmp 85), type := 4, pos := "law.go:115", after := #[{ on := 14, ground := Go.Ground.data }, { on := 7, ground := Go.Ground.chain }], guard := none }) (v := ?tv15r9) rfl (by kernel_rfl) (by kernel_rfl) (by kernel_rfl) (fun _ _ _ h => h) (Or.inl ⟨by rfl, ?ty15r9⟩) (by assumption) ?tr15r9
          case ty15r9 => (intro w hSw; (try dsimp only at hSw); go_simp; (try with_reducible rfl))
          simp only [Act.put, List.setIfInBounds_toArray, List.set_cons_zero, List.set_cons_succ]
          refine wpAnyH_take (i := 16) (oi := { dst := some 87, op := Go.Op.move (Go.Operand.tmp 8), type := 38, pos := "law.go:115", after := #[{ on := 15, ground := Go.Ground.guard }], guard := some (15, false) }) (v := ?tv16r9) rfl (by kernel_rfl) (by kernel_rfl) (by kernel_rfl) (fun _ _ _ h => h) (Or.inl ⟨by rfl, ?ty16r9⟩) (by assumption) ?tr16r9
          case ty16r9 => (intro w hSw; (try dsimp only at hSw); go_simp; (try with_reducible rfl))
          simp only [Act.put, List.setIfInBounds_toArray, List.set_cons_zero, List.set_cons_succ]
          refine wpAnyH_take (i := 17) (oi := { dst := some 88, op := Go.Op.move (Go.Operand.tmp 5), type := 3, pos := "law.go:115", after := #[{ on := 15, ground := Go.Ground.guard }], guard := some (15, false) }) (v := ?tv17r9) rfl (by kernel_rfl) (by kernel_rfl) (by kernel_rfl) (fun _ _ _ h => h) (Or.inl ⟨by rfl, ?ty17r9⟩) (by assumption) ?tr17r9
          case ty17r9 => (intro w hSw; (try dsimp only at hSw); go_simp; (try with_reducible rfl))
          simp only [Act.put, List.setIfInBounds_toArray, List.set_cons_zero, List.set_cons_succ]
          refine wpAnyH_take (i := 18) (oi := { dst := some 89, op := Go.Op.binOp Go.BinOp.add 3 (Go.Operand.tmp 88) (Go.Operand.const (Go.Value.int Go.IntKind.i64 1)) 3, type := 3, pos := "law.go:115", after := #[{ on := 17, ground := Go.Ground.data }, { on := 15, ground := Go.Ground.guard }], guard := some (15, false) }) (v := ?tv18r9) rfl (by kernel_rfl) (by kernel_rfl) (by kernel_rfl) (fun _ _ _ h => h) (Or.inl ⟨by rfl, ?ty18r9⟩) (by assumption) ?tr18r9
          case ty18r9 => (intro w hSw; (try dsimp only at hSw); go_simp; (try with_reducible rfl))
          simp only [Act.put, List.setIfInBounds_toArray, List.set_cons_zero, List.set_cons_succ]
          refine wpAnyH_take (i := 19) (oi := { dst := some 90, op := Go.Op.indexAddr 38 (Go.Operand.tmp 87) (Go.Operand.tmp 89), type := 0, pos := "law.go:115", after := #[{ on := 16, ground := Go.Ground.data }, { on := 18, ground := Go.Ground.data }, { on := 15, ground := Go.Ground.guard }], guard := some (15, false) }) (v := ?tv19r9) rfl (by kernel_rfl) (by kernel_rfl) (by kernel_rfl) (fun _ _ _ h => h) (Or.inl ⟨by rfl, ?ty19r9⟩) (by assumption) ?tr19r9
          case ty19r9 => (intro w hSw; (try dsimp only at hSw); go_simp; (try with_reducible rfl))
          simp only [Act.put, List.setIfInBounds_toArray, List.set_cons_zero, List.set_cons_succ]
          refine wpAnyH_take (i := 20) (oi := { dst := some 91, op := Go.Op.load 23 (Go.Operand.tmp 90), type := 23, pos := "law.go:115", after := #[{ on := 19, ground := Go.Ground.data }, { on := 15, ground := Go.Ground.guard }], guard := some (15, false) }) (v := ?tv20r9) rfl (by kernel_rfl) (by kernel_rfl) (by kernel_rfl) (fun _ _ _ h => h) (Or.inl ⟨by rfl, ?ty20r9⟩) (by assumption) ?tr20r9
          case ty20r9 => (intro w hSw; (try dsimp only at hSw); go_simp; (try with_reducible rfl))
          simp only [Act.put, List.setIfInBounds_toArray, List.set_cons_zero, List.set_cons_succ]
          refine wpAnyH_take (i := 21) (oi := { dst := some 92, op := Go.Op.move (Go.Operand.tmp 7), type := 38, pos := "law.go:115", after := #[{ on := 15, ground := Go.Ground.guard }], guard := some (15, false) }) (v := ?tv21r9) rfl (by kernel_rfl) (by kernel_rfl) (by kernel_rfl) (fun _ _ _ h => h) (Or.inl ⟨by rfl, ?ty21r9⟩) (by assumption) ?tr21r9
          case ty21r9 => (intro w hSw; (try dsimp only at hSw); go_simp; (try with_reducible rfl))
          simp only [Act.put, List.setIfInBounds_toArray, List.set_cons_zero, List.set_cons_succ]
          refine wpAnyH_take (i := 22) (oi := { dst := some 93, op := Go.Op.move (Go.Operand.tmp 5), type := 3, pos := "law.go:115", after := #[{ on := 15, ground := Go.Ground.guard }], guard := some (15, false) }) (v := ?tv22r9) rfl (by kernel_rfl) (by kernel_rfl) (by kernel_rfl) (fun _ _ _ h => h) (Or.inl ⟨by rfl, ?ty22r9⟩) (by assumption) ?tr22r9
          case ty22r9 => (intro w hSw; (try dsimp only at hSw); go_simp; (try with_reducible rfl))
          simp only [Act.put, List.setIfInBounds_toArray, List.set_cons_zero, List.set_cons_succ]
          refine wpAnyH_take (i := 23) (oi := { dst := some 94, op := Go.Op.indexAddr 38 (Go.Operand.tmp 92) (Go.Operand.tmp 93), type := 0, pos := "law.go:115", after := #[{ on := 21, ground := Go.Ground.data }, { on := 22, ground := Go.Ground.data }, { on := 15, ground := Go.Ground.guard }], guard := some (15, false) }) (v := ?tv23r9) rfl (by kernel_rfl) (by kernel_rfl) (by kernel_rfl) (fun _ _ _ h => h) (Or.inl ⟨by rfl, ?ty23r9⟩) (by assumption) ?tr23r9
          case ty23r9 => (intro w hSw; (try dsimp only at hSw); go_simp; (try with_reducible rfl))
          simp only [Act.put, List.setIfInBounds_toArray, List.set_cons_zero, List.set_cons_succ]
          refine wpAnyH_take (i := 24) (oi := { dst := some 95, op := Go.Op.load 23 (Go.Operand.tmp 94), type := 23, pos := "law.go:115", after := #[{ on := 23, ground := Go.Ground.data }, { on := 15, ground := Go.Ground.guard }], guard := some (15, false) }) (v := ?tv24r9) rfl (by kernel_rfl) (by kernel_rfl) (by kernel_rfl) (fun _ _ _ h => h) (Or.inl ⟨by rfl, ?ty24r9⟩) (by assumption) ?tr24r9
          case ty24r9 => (intro w hSw; (try dsimp only at hSw); go_simp; (try with_reducible rfl))
          simp only [Act.put, List.setIfInBounds_toArray, List.set_cons_zero, List.set_cons_succ]
          refine wpAnyH_take (i := 25) (oi := { dst := some 96, op := Go.Op.binOp Go.BinOp.neq 23 (Go.Operand.tmp 91) (Go.Operand.tmp 95) 23, type := 4, pos := "law.go:115", after := #[{ on := 20, ground := Go.Ground.data }, { on := 24, ground := Go.Ground.data }, { on := 15, ground := Go.Ground.guard }], guard := some (15, false) }) (v := .bool false) rfl (by kernel_rfl) (by kernel_rfl) (by kernel_rfl) (fun _ _ _ h => h) (Or.inl ⟨by rfl, ?ty25r9⟩) (by assumption) ?tr25r9
          case ty25r9 => (intro w hSw; (try dsimp only at hSw); go_simp; (try with_reducible rfl); (try simp); (try omega); (try (rw [IntWalk.i64_in _ (by omega)]; (try omega))))
          simp only [Act.put, List.setIfInBounds_toArray, List.set_cons_zero, List.set_cons_succ]
          refine wpAnyH_take (i := 26) (oi := { dst := some 97, op := Go.Op.pick (Go.Operand.tmp 86) (Go.Operand.const (Go.Value.bool true)) (Go.Operand.tmp 96), type := 4, pos := "law.go:115", after := #[{ on := 15, ground := Go.Ground.data }, { on := 25, ground := Go.Ground.data }], guard := none }) (v := ?tv26r9) rfl (by kernel_rfl) (by kernel_rfl) (by kernel_rfl) (fun _ _ _ h => h) (Or.inl ⟨by rfl, ?ty26r9⟩) (by assumption) ?tr26r9
          case ty26r9 => (intro w hSw; (try dsimp only at hSw); go_simp; (try with_reducible rfl))
          simp only [Act.put, List.setIfInBounds_toArray, List.set_cons_zero, List.set_cons_succ]
          refine wpAnyH_done (by kernel_rfl) ?_ _
          clear hHeld
          go_wp2_with fail
          clear z1 z2 x0 x1 x2 x3 y0 y1 y2 y3
          go_loopw [100] (fun s100 wr => ∃ (j : Nat), s100 = .int .i64 j ∧ j ≤ qs.length + 1 ∧ Below wb.heap.size wb wr) (fun s100 _ => qs.length + 1 - (intOf s100).toNat)
          case atStart => exact ⟨0, rfl, Nat.zero_le _, Below.drew (Below.refl _ _)⟩
          case round =>
            obtain ⟨j, rfl, hj, hbw⟩ := hrel
            by_cases hlt : j < qs.length + 1
            · have z1 := (HRC.out.below hbw).2 j hlt
              have hij : ((j : Nat) : Int) < (qs.length : Int) + 1 := by omega
              have hi0 : (0 : Int) ≤ ((j : Nat) : Int) := by omega
              by_cases hjk : k < j
              · skip
                have z2 := (HRD.out.below hbw).2 (j + 1) (by have := HQI.out; omega)
                rw [PS.out j (by omega) (by omega)] at z2
                generalize sh c (rv qs j) = S1 at z1 z2
                have q1 : ((k : Nat) : Int) < ((j : Nat) : Int) := by omega
                have q2 : ((j : Nat) : Int) + 1 < (qs.length : Int) + 2 := by omega
                have q3 : (0 : Int) ≤ ((j : Nat) : Int) + 1 := by omega
                have q4 : IntKind.i64.wrap (((j : Nat) : Int) + 1) = (j : Int) + 1 := IntWalk.i64_in _ (by omega)
                have q5 : (((j : Nat) : Int) + 1).toNat = j + 1 := by omega
                go_wp2_with fail
                go_quiet (fail)
                go_wp2
                exact ⟨⟨j + 1, by go_num, by omega, below_drewN hbw _⟩, by simp [intOf] <;> omega⟩
              · skip
                have z2 := (HRD.out.below hbw).2 j (by have := HQI.out; omega)
                rw [PL.out j (by omega)] at z2
                generalize sh c (rv qs j) = S1 at z1 z2
                have q1 : ¬ ((k : Nat) : Int) < ((j : Nat) : Int) := by omega
                have q2 : ((j : Nat) : Int) < (qs.length : Int) + 2 := by omega
                go_wp2_with fail
                go_quiet (fail)
                go_wp2
                exact ⟨⟨j + 1, by go_num, by omega, below_drewN hbw _⟩, by simp [intOf] <;> omega⟩
            · have bz3 := bb'.trans (hbw.mono bb'.size)
              clear hbw bb' HRC HRD PS PL
              obtain ⟨x0, x1, x2, x3, y0, y1, y2, y3⟩ := HC8.out _ bz3
              go_wp2_with fail
              clear x0 x1 x2 x3 y0 y1 y2 y3
              go_loopw [11] (fun s11 wr => ∃ (j : Nat), s11 = .int .i64 j ∧ j ≤ 10 ∧ Below wc.heap.size wc wr) (fun s11 _ => 10 - (intOf s11).toNat)
              case atStart => exact ⟨0, rfl, Nat.zero_le _, by first | exact bz3 | exact bz3.drew | exact below_drewN bz3 _⟩
              case round =>
                clear bz3
                obtain ⟨j, rfl, hj, hbw⟩ := hrel
                by_cases hlt : j < 10
                · have hij : ((j : Nat) : Int) < 10 := by omega
                  have kv := KV.out (j : Int)
                  have kt := KT.out (j : Int)
                  have kw := KW.out (j : Int)
                  have kr := KR.out (j : Int)
                  rw [PW.out j hlt] at kv
                  rw [PR.out j hlt] at kt
                  have hX := who_le c qs (j : Int) qs.length (Nat.le_refl _)
                  have hY := rch_le c qs (j : Int) qs.length (Nat.le_refl _)
                  generalize who c (rv qs qs.length) (j : Int) = X at kv kw hX
                  generalize rch c (rv qs qs.length) (j : Int) = Y at kt kr hY
                  replace hX : X ≤ 100 := by omega
                  replace hY : Y ≤ 100 := by omega
                  have KW1 := Lib.hid kw
                  have KV1 := Lib.hid kv
                  have KR1 := Lib.hid kr
                  have KT1 := Lib.hid kt
                  clear kw kv kr kt
                  go_wp2_with fail
                  refine wp_region_held_drew (S := fun w' => w'.cell? ⟨w.heap.size, 0, none⟩ = some (.int .i64 op) ∧ w'.cell? ⟨w.heap.size, 1, none⟩ = some (.int .i64 num) ∧ w'.cell? ⟨w.heap.size, 2, none⟩ = some (.int .u32 (c : Nat)) ∧ w'.cell? ⟨w.heap.size, 3, none⟩ = some (.slice ad qs.length cap) ∧ w'.cell? ⟨w1.heap.size, 0, none⟩ = some (.int .i64 op) ∧ w'.cell? ⟨w1.heap.size, 1, none⟩ = some (.int .i64 num) ∧ w'.cell? ⟨w1.heap.size, 2, none⟩ = some (.int .u32 (c : Nat)) ∧ w'.cell? ⟨w1.heap.size, 3, none⟩ = some (.slice (some ⟨g3, 0, none⟩) (qs.length + 1) d3)) (by kernel_rfl) (HC8.out _ hbw.drew) (fun hHeld => ?_)
                  refine wpAnyH_take (i := 0) (oi := { dst := some 123, op := Go.Op.load 28 (Go.Operand.tmp 2), type := 28, pos := "law.go:128", after := #[], guard := none }) (v := ?tv0rr) rfl (by kernel_rfl) (by kernel_rfl) (by kernel_rfl) (fun _ _ _ h => h) (Or.inl ⟨by rfl, ?ty0rr⟩) (by assumption) ?tr0rr
                  case ty0rr => (intro w hSw; (try dsimp only at hSw); go_simp; (try with_reducible rfl))
                  simp only [Act.put, List.setIfInBounds_toArray, List.set_cons_zero, List.set_cons_succ]
                  refine wpAnyH_take (i := 1) (oi := { dst := some 124, op := Go.Op.move (Go.Operand.tmp 11), type := 3, pos := "law.go:128", after := #[], guard := none }) (v := ?tv1rr) rfl (by kernel_rfl) (by kernel_rfl) (by kernel_rfl) (fun _ _ _ h => h) (Or.inl ⟨by rfl, ?ty1rr⟩) (by assumption) ?tr1rr
                  case ty1rr => (intro w hSw; (try dsimp only at hSw); go_simp; (try with_reducible rfl))
                  simp only [Act.put, List.setIfInBounds_toArray, List.set_cons_zero, List.set_cons_succ]
                  refine wpAnyH_take (i := 3) (oi := { dst := some 126, op := Go.Op.move (Go.Operand.tmp 5), type := 3, pos := "law.go:128", after := #[], guard := none }) (v := ?tv3rr) rfl (by kernel_rfl) (by kernel_rfl) (by kernel_rfl) (fun _ _ _ h => h) (Or.inl ⟨by rfl, ?ty3rr⟩) (by assumption) ?tr3rr
                  case ty3rr => (intro w hSw; (try dsimp only at hSw); go_simp; (try with_reducible rfl))
                  simp only [Act.put, List.setIfInBounds_toArray, List.set_cons_zero, List.set_cons_succ]
                  refine wpAnyH_take (i := 5) (oi := { dst := some 128, op := Go.Op.load 28 (Go.Operand.tmp 6), type := 28, pos := "law.go:128", after := #[], guard := none }) (v := ?tv5rr) rfl (by kernel_rfl) (by kernel_rfl) (by kernel_rfl) (fun _ _ _ h => h) (Or.inl ⟨by rfl, ?ty5rr⟩) (by assumption) ?tr5rr
                  case ty5rr => (intro w hSw; (try dsimp only at hSw); go_simp; (try with_reducible rfl))
                  simp only [Act.put, List.setIfInBounds_toArray, List.set_cons_zero, List.set_cons_succ]
                  refine wpAnyH_take (i := 6) (oi := { dst := some 129, op := Go.Op.move (Go.Operand.tmp 11), type := 3, pos := "law.go:128", after := #[], guard := none }) (v := ?tv6rr) rfl (by kernel_rfl) (by kernel_rfl) (by kernel_rfl) (fun _ _ _ h => h) (Or.inl ⟨by rfl, ?ty6rr⟩) (by assumption) ?tr6rr
                  case ty6rr => (intro w hSw; (try dsimp only at hSw); go_simp; (try with_reducible rfl))
                  simp only [Act.put, List.setIfInBounds_toArray, List.set_cons_zero, List.set_cons_succ]
                  refine wpAnyH_ready (rs := [2]) (by kernel_rfl) (by simp) ?_
                  refine AllReadyH.cons (o := { dst := some 125, op := Go.Op.call { callee := Go.Callee.value (Go.Operand.func 20), args := #[Go.Operand.tmp 123, Go.Operand.tmp 124], argTypes := #[28, 3] }, type := 3, pos := "law.go:128", after := #[{ on := 0, ground := Go.Ground.data }, { on := 1, ground := Go.Ground.data }], guard := none }) rfl (fun K hK => ?_) AllReadyH.nil
                  go_simp
                  refine (KW1.out _ hbw.drew).mono ?_
                  rintro e v2 ⟨rfl, b2⟩
                  go_wp2_with fail
                  refine hK.out _ _ (HC8.out _ b2) (fun hHeld2 => ?_)
                  clear hK K hHeld
                  refine wpAnyH_ready (rs := [4]) (by kernel_rfl) (by simp) ?_
                  refine AllReadyH.cons (o := { dst := some 127, op := Go.Op.call { callee := Go.Callee.value (Go.Operand.func 24), args := #[Go.Operand.tmp 125, Go.Operand.tmp 126], argTypes := #[3, 3] }, type := 3, pos := "law.go:128", after := #[{ on := 2, ground := Go.Ground.data }, { on := 3, ground := Go.Ground.data }, { on := 2, ground := Go.Ground.chain }], guard := none }) rfl (fun K hK => ?_) AllReadyH.nil
                  go_simp
                  refine (moved_any X k _ hX).mono ?_
                  rintro e v4 ⟨rfl, h4⟩
                  subst h4
                  have b4 := b2
                  go_wp2_with fail
                  refine hK.out _ _ (HC8.out _ b4) (fun hHeld4 => ?_)
                  clear hK K hHeld2
                  refine wpAnyH_ready (rs := [7]) (by kernel_rfl) (by simp) ?_
                  refine AllReadyH.cons (o := { dst := some 130, op := Go.Op.call { callee := Go.Callee.value (Go.Operand.func 20), args := #[Go.Operand.tmp 128, Go.Operand.tmp 129], argTypes := #[28, 3] }, type := 3, pos := "law.go:128", after := #[{ on := 5, ground := Go.Ground.data }, { on := 6, ground := Go.Ground.data }, { on := 4, ground := Go.Ground.chain }], guard := none }) rfl (fun K hK => ?_) AllReadyH.nil
                  go_simp
                  refine (KV1.out _ b4).mono ?_
                  rintro e v7 ⟨rfl, b7⟩
                  go_wp2_with fail
                  refine hK.out _ _ (HC8.out _ b7) (fun hHeld7 => ?_)
                  clear hK K hHeld4
                  refine wpAnyH_take (i := 8) (oi := { dst := some 131, op := Go.Op.binOp Go.BinOp.neq 3 (Go.Operand.tmp 127) (Go.Operand.tmp 130) 3, type := 4, pos := "law.go:128", after := #[{ on := 4, ground := Go.Ground.data }, { on := 7, ground := Go.Ground.data }], guard := none }) (v := .bool false) rfl (by kernel_rfl) (by kernel_rfl) (by kernel_rfl) (fun _ _ _ h => h) (Or.inl ⟨by rfl, ?ty8rr⟩) (by assumption) ?tr8rr
                  case ty8rr => (intro w hSw; (try dsimp only at hSw); go_simp; (try with_reducible rfl); (try simp); (try omega))
                  simp only [Act.put, List.setIfInBounds_toArray, List.set_cons_zero, List.set_cons_succ]
                  refine wpAnyH_take (i := 9) (oi := { dst := some 132, op := Go.Op.move (Go.Operand.tmp 131), type := 4, pos := "law.go:128", after := #[{ on := 8, ground := Go.Ground.data }, { on := 7, ground := Go.Ground.chain }], guard := none }) (v := ?tv9rr) rfl (by kernel_rfl) (by kernel_rfl) (by kernel_rfl) (fun _ _ _ h => h) (Or.inl ⟨by rfl, ?ty9rr⟩) (by assumption) ?tr9rr
                  case ty9rr => (intro w hSw; (try dsimp only at hSw); go_simp; (try with_reducible rfl))
                  simp only [Act.put, List.setIfInBounds_toArray, List.set_cons_zero, List.set_cons_succ]
                  refine wpAnyH_take (i := 10) (oi := { dst := some 133, op := Go.Op.load 28 (Go.Operand.tmp 2), type := 28, pos := "law.go:128", after := #[{ on := 9, ground := Go.Ground.guard }], guard := some (9, false) }) (v := ?tv10rr) rfl (by kernel_rfl) (by kernel_rfl) (by kernel_rfl) (fun _ _ _ h => h) (Or.inl ⟨by rfl, ?ty10rr⟩) (by assumption) ?tr10rr
                  case ty10rr => (intro w hSw; (try dsimp only at hSw); go_simp; (try with_reducible rfl))
                  simp only [Act.put, List.setIfInBounds_toArray, List.set_cons_zero, List.set_cons_succ]
                  refine wpAnyH_take (i := 11) (oi := { dst := some 134, op := Go.Op.move (Go.Operand.tmp 11), type := 3, pos := "law.go:128", after := #[{ on := 9, ground := Go.Ground.guard }], guard := some (9, false) }) (v := ?tv11rr) rfl (by kernel_rfl) (by kernel_rfl) (by kernel_rfl) (fun _ _ _ h => h) (Or.inl ⟨by rfl, ?ty11rr⟩) (by assumption) ?tr11rr
                  case ty11rr => (intro w hSw; (try dsimp only at hSw); go_simp; (try with_reducible rfl))
                  simp only [Act.put, List.setIfInBounds_toArray, List.set_cons_zero, List.set_cons_succ]
                  refine wpAnyH_take (i := 13) (oi := { dst := some 136, op := Go.Op.move (Go.Operand.tmp 5), type := 3, pos := "law.go:128", after := #[{ on := 9, ground := Go.Ground.guard }], guard := some (9, false) }) (v := ?tv13rr) rfl (by kernel_rfl) (by kernel_rfl) (by kernel_rfl) (fun _ _ _ h => h) (Or.inl ⟨by rfl, ?ty13rr⟩) (by assumption) ?tr13rr
                  case ty13rr => (intro w hSw; (try dsimp only at hSw); go_simp; (try with_reducible rfl))
                  simp only [Act.put, List.setIfInBounds_toArray, List.set_cons_zero, List.set_cons_succ]
                  refine wpAnyH_take (i := 15) (oi := { dst := some 138, op := Go.Op.load 28 (Go.Operand.tmp 6), type := 28, pos := "law.go:128", after := #[{ on := 9, ground := Go.Ground.guard }], guard := some (9, false) }) (v := ?tv15rr) rfl (by kernel_rfl) (by kernel_rfl) (by kernel_rfl) (fun _ _ _ h => h) (Or.inl ⟨by rfl, ?ty15rr⟩) (by assumption) ?tr15rr
                  case ty15rr => (intro w hSw; (try dsimp only at hSw); go_simp; (try with_reducible rfl))
                  simp only [Act.put, List.setIfInBounds_toArray, List.set_cons_zero, List.set_cons_succ]
                  refine wpAnyH_take (i := 16) (oi := { dst := some 139, op := Go.Op.move (Go.Operand.tmp 11), type := 3, pos := "law.go:128", after := #[{ on := 9, ground := Go.Ground.guard }], guard := some (9, false) }) (v := ?tv16rr) rfl (by kernel_rfl) (by kernel_rfl) (by kernel_rfl) (fun _ _ _ h => h) (Or.inl ⟨by rfl, ?ty16rr⟩) (by assumption) ?tr16rr
                  case ty16rr => (intro w hSw; (try dsimp only at hSw); go_simp; (try with_reducible rfl))
                  simp only [Act.put, List.setIfInBounds_toArray, List.set_cons_zero, List.set_cons_succ]
                  refine wpAnyH_ready (rs := [12]) (by kernel_rfl) (by simp) ?_
                  refine AllReadyH.cons (o := { dst := some 135, op := Go.Op.call { callee := Go.Callee.value (Go.Operand.func 22), args := #[Go.Operand.tmp 133, Go.Operand.tmp 134], argTypes := #[28, 3] }, type := 3, pos := "law.go:128", after := #[{ on := 10, ground := Go.Ground.data }, { on := 11, ground := Go.Ground.data }, { on := 9, ground := Go.Ground.chain }, { on := 9, ground := Go.Ground.guard }], guard := some (9, false) }) rfl (fun K hK => ?_) AllReadyH.nil
                  go_simp
                  refine (KR1.out _ b7).mono ?_
                  rintro e v12 ⟨rfl, b12⟩
                  go_wp2_with fail
                  refine hK.out _ _ (HC8.out _ b12) (fun hHeld12 => ?_)
                  clear hK K hHeld7
                  refine wpAnyH_ready (rs := [14]) (by kernel_rfl) (by simp) ?_
                  refine AllReadyH.cons (o := { dst := some 137, op := Go.Op.call { callee := Go.Callee.value (Go.Operand.func 24), args := #[Go.Operand.tmp 135, Go.Operand.tmp 136], argTypes := #[3, 3] }, type := 3, pos := "law.go:128", after := #[{ on := 12, ground := Go.Ground.data }, { on := 13, ground := Go.Ground.data }, { on := 12, ground := Go.Ground.chain }, { on := 9, ground := Go.Ground.guard }], guard := some (9, false) }) rfl (fun K hK => ?_) AllReadyH.nil
                  go_simp
                  refine (moved_any Y k _ hY).mono ?_
                  rintro e v14 ⟨rfl, h14⟩
                  subst h14
                  have b14 := b12
                  go_wp2_with fail
                  refine hK.out _ _ (HC8.out _ b14) (fun hHeld14 => ?_)
                  clear hK K hHeld12
                  refine wpAnyH_ready (rs := [17]) (by kernel_rfl) (by simp) ?_
                  refine AllReadyH.cons (o := { dst := some 140, op := Go.Op.call { callee := Go.Callee.value (Go.Operand.func 22), args := #[Go.Operand.tmp 138, Go.Operand.tmp 139], argTypes := #[28, 3] }, type := 3, pos := "law.go:128", after := #[{ on := 15, ground := Go.Ground.data }, { on := 16, ground := Go.Ground.data }, { on := 14, ground := Go.Ground.chain }, { on := 9, ground := Go.Ground.guard }], guard := some (9, false) }) rfl (fun K hK => ?_) AllReadyH.nil
                  go_simp
                  refine (KT1.out _ b14).mono ?_
                  rintro e v17 ⟨rfl, b17⟩
                  go_wp2_with fail
                  refine hK.out _ _ (HC8.out _ b17) (fun hHeld17 => ?_)
                  clear hK K hHeld14
                  refine wpAnyH_take (i := 18) (oi := { dst := some 141, op := Go.Op.binOp Go.BinOp.neq 3 (Go.Operand.tmp 137) (Go.Operand.tmp 140) 3, type := 4, pos := "law.go:128", after := #[{ on := 14, ground := Go.Ground.data }, { on := 17, ground := Go.Ground.data }, { on := 9, ground := Go.Ground.guard }], guard := some (9, false) }) (v := .bool false) rfl (by kernel_rfl) (by kernel_rfl) (by kernel_rfl) (fun _ _ _ h => h) (Or.inl ⟨by rfl, ?ty18rr⟩) (by assumption) ?tr18rr
                  case ty18rr => (intro w hSw; (try dsimp only at hSw); go_simp; (try with_reducible rfl); (try simp); (try omega))
                  simp only [Act.put, List.setIfInBounds_toArray, List.set_cons_zero, List.set_cons_succ]
                  refine wpAnyH_take (i := 19) (oi := { dst := some 142, op := Go.Op.pick (Go.Operand.tmp 132) (Go.Operand.const (Go.Value.bool true)) (Go.Operand.tmp 141), type := 4, pos := "law.go:128", after := #[{ on := 9, ground := Go.Ground.data }, { on := 18, ground := Go.Ground.data }], guard := none }) (v := ?tv19rr) rfl (by kernel_rfl) (by kernel_rfl) (by kernel_rfl) (fun _ _ _ h => h) (Or.inl ⟨by rfl, ?ty19rr⟩) (by assumption) ?tr19rr
                  case ty19rr => (intro w hSw; (try dsimp only at hSw); go_simp; (try with_reducible rfl))
                  simp only [Act.put, List.setIfInBounds_toArray, List.set_cons_zero, List.set_cons_succ]
                  refine wpAnyH_done (by kernel_rfl) ?_ _
                  clear hHeld17
                  go_wp2
                  exact ⟨⟨j + 1, by go_num, by omega, b17⟩, by simp [intOf] <;> omega⟩
                · have hij : ¬ ((j : Nat) : Int) < 10 := by omega
                  go_wp2_with (first
                    | (go_at_call 10; refine (KA2.out _ hbw).mono ?_; rintro e w9 ⟨rfl, b9⟩))
                  go_ret
                  exact ⟨rfl, b9⟩
end Go.Proofs.YtcbplamomhimiaaDoor
