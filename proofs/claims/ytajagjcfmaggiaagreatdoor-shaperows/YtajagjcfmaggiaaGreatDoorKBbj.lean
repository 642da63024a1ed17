/- The law ShapePasses; the conditions: the pattern and the value in memory, the package's table as it is laid. -/
import Derived.Test.YtajagjcfmaggiaaGreatDoorKBbi
import Derived.Test.YtajagjcfmaggiaaGreatDoorKBbf
namespace Go.Proofs.YtajagjcfmaggiaaGreatDoor
open Go.RowKit

theorem OneD.c5 {w : World} {v0 v1 v2 : Value} {k i b : Int} {s : ByteArray} {ad : Option Addr} {len cap : Nat} {w' : World} (h : OneD w v0 v1 v2 k i b s ad len cap w') :
    (w'.cell? ⟨w.heap.size, 0, none⟩ = some v0 ∧ w'.cell? ⟨w.heap.size, 1, none⟩ = some v1 ∧ w'.cell? ⟨w.heap.size, 2, none⟩ = some v2) ∧ w'.cell? ⟨w.heap.size + 1, 0, none⟩ = some (.int .i64 k) ∧ w'.cell? ⟨w.heap.size + 1, 1, none⟩ = some (.int .i64 i) ∧ w'.cell? ⟨w.heap.size + 1, 2, none⟩ = some (.int .u64 b) ∧ w'.cell? ⟨w.heap.size + 1, 3, none⟩ = some (.string s) ∧ w'.cell? ⟨w.heap.size + 1, 4, none⟩ = some (.slice ad len cap) := by
  have e0 := heap_alloc_new w (.cells #[v0, v1, v2] 40)
  have e1 := heap_alloc_new (w.alloc (.cells #[v0, v1, v2] 40)) (.cells #[.int .i64 k, .int .i64 i, .int .u64 b, .string s, .slice ad len cap] 25)
  simp only [World.size_alloc] at e1
  have h0 : w'.heap[w.heap.size]? = some (.cells #[v0, v1, v2] 40 (0, 0)) := (Below.block h w.heap.size (by omega)).trans (((below1 _ _).block _ (by simp)).trans e0)
  have h1 : w'.heap[w.heap.size + 1]? = some (.cells #[.int .i64 k, .int .i64 i, .int .u64 b, .string s, .slice ad len cap] 25 (0, 0)) := (Below.block h (w.heap.size + 1) (by omega)).trans e1
  simp [World.cell?, h0, h1]

/-- A kind's bit. -/
theorem OneD.all {w : World} {o a : Int} {wd : Option Addr} {wl wc : Nat} {k i b : Int} {s : ByteArray} {ad : Option Addr} {len cap : Nat} {wx : World} (h : OneD w (.int .i64 o) (.int .i64 a) (.slice wd wl wc) k i b s ad len cap wx) : wx.cell? ⟨w.heap.size, 0, none⟩ = some (.int .i64 o) ∧ wx.cell? ⟨w.heap.size, 1, none⟩ = some (.int .i64 a) ∧ wx.cell? ⟨w.heap.size, 2, none⟩ = some (.slice wd wl wc) ∧ wx.cell? ⟨w.heap.size + 1, 0, none⟩ = some (.int .i64 k) ∧ wx.cell? ⟨w.heap.size + 1, 1, none⟩ = some (.int .i64 i) ∧ wx.cell? ⟨w.heap.size + 1, 2, none⟩ = some (.int .u64 b) ∧ wx.cell? ⟨w.heap.size + 1, 3, none⟩ = some (.string s) ∧ wx.cell? ⟨w.heap.size + 1, 4, none⟩ = some (.slice ad len cap) := by
  obtain ⟨⟨h0, h1, h2⟩, d0, d1, d2, d3, d4⟩ := h.c5
  exact ⟨h0, h1, h2, d0, d1, d2, d3, d4⟩

set_option maxRecDepth 100000 in
set_option maxHeartbeats 2000000 in
theorem pass_any (n : Nat) (t : Wt n) (o a : Int) (wd : Option Addr) (wl wc : Nat) (k i b : Int) (s : ByteArray) (ad : Option Addr) (len cap : Nat) (w : World) (h : RepW w n [.int .i64 o, .int .i64 a, .slice wd wl wc] t) (hg : wgt n t = true) (k0 : 0 ≤ k) (k1 : k ≤ 13) :
    Calls Tryz.prog 15 #[.agg #[.int .i64 o, .int .i64 a, .slice wd wl wc], .agg #[.int .i64 k, .int .i64 i, .int .u64 b, .string s, .slice ad len cap]] w fun e w' => e = .returned (.bool (evk n t k)) ∧ Below w.heap.size w w' := by
  have hb0 := OneD.start w (.int .i64 o) (.int .i64 a) (.slice wd wl wc) k i b s ad len cap
  have HH := Lib.hid (holdsP n t _ _ _ k i b s ad len cap _ (RepW.below hb0.below n _ _ h) hg k0 k1)
  obtain ⟨c0, c1, c2, d0, d1, d2, d3, d4⟩ := hb0.all
  clear h hg k0 k1
  go_enter Tryz.func15, Tryz.ntmps15
  go_wp2_with fail
  refine HH.out.mono ?_
  rintro e w1 ⟨rfl, b1⟩
  go_wp2
  go_ret
  exact ⟨rfl, (hb0.step b1).below⟩

set_option maxRecDepth 100000 in
set_option maxHeartbeats 2000000 in
theorem law_passes_at (n : Nat) (t : Wt n) (m : Nat) (d : Dt.Tr m) (o a : Int) (wd : Option Addr) (wl wc : Nat) (k i b : Int) (s : ByteArray) (ad : Option Addr) (len cap : Nat) (w : World) (h : RepW w n [.int .i64 o, .int .i64 a, .slice wd wl wc] t) (h' : Dt.Rep w m [.int .i64 k, .int .i64 i, .int .u64 b, .string s, .slice ad len cap] d) (hT : Dt.Tab14 w) :
    Calls Tryz.prog 4 #[.agg #[.int .i64 o, .int .i64 a, .slice wd wl wc], .agg #[.int .i64 k, .int .i64 i, .int .u64 b, .string s, .slice ad len cap]] w fun e w' => e = .returned (.bool true) ∧ Below w.heap.size w w' := by
  have hb0 := OneD.start w (.int .i64 o) (.int .i64 a) (.slice wd wl wc) k i b s ad len cap
  have HF : Hid (∀ wx, OneD w (.int .i64 o) (.int .i64 a) (.slice wd wl wc) k i b s ad len cap wx → Calls Tryz.prog 14 #[.agg #[.int .i64 o, .int .i64 a, .slice wd wl wc]] wx fun e w' => e = .returned (.bool (fitW n t)) ∧ OneD w (.int .i64 o) (.int .i64 a) (.slice wd wl wc) k i b s ad len cap w') := fun wx hx => (fit_any n t _ _ _ wx (RepW.below hx.below n _ _ h)).mono fun e w' ⟨a, b⟩ => ⟨a, hx.step b⟩
  have HG : Hid (∀ wx, OneD w (.int .i64 o) (.int .i64 a) (.slice wd wl wc) k i b s ad len cap wx → Calls Tryz.prog 7 #[.agg #[.int .i64 k, .int .i64 i, .int .u64 b, .string s, .slice ad len cap]] wx fun e w' => e = .returned (.bool (Dt.vB m d)) ∧ OneD w (.int .i64 o) (.int .i64 a) (.slice wd wl wc) k i b s ad len cap w') := fun wx hx => (Dt.refValid m d _ _ _ _ _ wx (Dt.Rep.below hx.below m _ _ h')).mono fun e w' ⟨a, b⟩ => ⟨a, hx.step b⟩
  have KA : Hid (∀ wx, OneD w (.int .i64 o) (.int .i64 a) (.slice wd wl wc) k i b s ad len cap wx → Calls Tryz.prog 8 #[] wx fun e w' => e = .returned (.bool true) ∧ OneD w (.int .i64 o) (.int .i64 a) (.slice wd wl wc) k i b s ad len cap w') := fun wx hx => (awake_any wx (hT.below hx.below)).mono fun e w' ⟨a, b⟩ => ⟨a, hx.step b⟩
  cases hV : fitW n t with
  | false =>
    rw [hV] at HF
    clear hV HG h h' hT
    obtain ⟨c0, c1, c2, d0, d1, d2, d3, d4⟩ := hb0.all
    go_enter Tryz.func4, Tryz.ntmps4
    go_wp2_with fail
    refine (HF.out _ hb0).mono ?_
    rintro e wa ⟨rfl, bwa⟩
    clear c0 c1 c2 d0 d1 d2 d3 d4
    go_wp2_with fail
    refine (KA.out _ bwa).mono ?_
    rintro e wb ⟨rfl, bwb⟩
    go_wp2
    go_ret
    exact ⟨rfl, bwb.below⟩
  | true =>
    rw [hV] at HF
    have ga := fitW_right n t hV
    clear hV
    cases hU : Dt.vB m d with
    | false =>
      rw [hU] at HG
      clear hU h h' ga hT
      obtain ⟨c0, c1, c2, d0, d1, d2, d3, d4⟩ := hb0.all
      go_enter Tryz.func4, Tryz.ntmps4
      go_wp2_with fail
      refine (HF.out _ hb0).mono ?_
      rintro e wa ⟨rfl, bwa⟩
      clear c0 c1 c2 d0 d1 d2 d3 d4
      obtain ⟨c0, c1, c2, d0, d1, d2, d3, d4⟩ := bwa.all
      go_wp2_with fail
      refine (HG.out _ bwa).mono ?_
      rintro e wb ⟨rfl, bwb⟩
      clear c0 c1 c2 d0 d1 d2 d3 d4
      go_wp2_with fail
      refine (KA.out _ bwb).mono ?_
      rintro e wc ⟨rfl, bwc⟩
      go_wp2
      go_ret
      exact ⟨rfl, bwc.below⟩
    | true =>
      rw [hU] at HG
      obtain ⟨k0, k1⟩ := valid_kind h' hU
      clear hU
      have KP : Hid (∀ wx, OneD w (.int .i64 o) (.int .i64 a) (.slice wd wl wc) k i b s ad len cap wx → Calls Tryz.prog 15 #[.agg #[.int .i64 o, .int .i64 a, .slice wd wl wc], .agg #[.int .i64 k, .int .i64 i, .int .u64 b, .string s, .slice ad len cap]] wx fun e w' => e = .returned (.bool (evk n t k)) ∧ OneD w (.int .i64 o) (.int .i64 a) (.slice wd wl wc) k i b s ad len cap w') := fun wx hx => (pass_any n t o a wd wl wc k i b s ad len cap wx (RepW.below hx.below n _ _ h) ga k0 k1).mono fun e w' ⟨a, b⟩ => ⟨a, hx.step b⟩
      have KM : Hid (∀ wx, OneD w (.int .i64 o) (.int .i64 a) (.slice wd wl wc) k i b s ad len cap wx → Calls Tryz.prog 16 #[.agg #[.int .i64 o, .int .i64 a, .slice wd wl wc], .agg #[.int .i64 k, .int .i64 i, .int .u64 b, .string s, .slice ad len cap]] wx fun e w' => e = .returned (.bool (evk n t k)) ∧ OneD w (.int .i64 o) (.int .i64 a) (.slice wd wl wc) k i b s ad len cap w') := fun wx hx => by
        obtain ⟨q, rfl⟩ := Int.eq_ofNat_of_zero_le k0
        exact (matchR n t _ _ _ q i b s ad len cap wx (RepW.below hx.below n _ _ h) ga (by omega)).mono fun e w' ⟨a, b⟩ => ⟨a, hx.step b⟩
      clear h h' ga k0 k1 hT
      generalize evk n t k = p at KP KM
      cases p
      · obtain ⟨c0, c1, c2, d0, d1, d2, d3, d4⟩ := hb0.all
        go_enter Tryz.func4, Tryz.ntmps4
        go_wp2_with fail
        refine (HF.out _ hb0).mono ?_
        rintro e wa ⟨rfl, bwa⟩
        clear c0 c1 c2 d0 d1 d2 d3 d4
        obtain ⟨c0, c1, c2, d0, d1, d2, d3, d4⟩ := bwa.all
        go_wp2_with fail
        refine (HG.out _ bwa).mono ?_
        rintro e wb ⟨rfl, bwb⟩
        clear c0 c1 c2 d0 d1 d2 d3 d4
        go_wp2_with fail
        have b0 := bwb.drew
        clear HF HG
        refine wp_region_held_drew (S := (fun wx => wx.cell? ⟨w.heap.size, 0, none⟩ = some (.int .i64 o) ∧ wx.cell? ⟨w.heap.size, 1, none⟩ = some (.int .i64 a) ∧ wx.cell? ⟨w.heap.size, 2, none⟩ = some (.slice wd wl wc) ∧ wx.cell? ⟨w.heap.size + 1, 0, none⟩ = some (.int .i64 k) ∧ wx.cell? ⟨w.heap.size + 1, 1, none⟩ = some (.int .i64 i) ∧ wx.cell? ⟨w.heap.size + 1, 2, none⟩ = some (.int .u64 b) ∧ wx.cell? ⟨w.heap.size + 1, 3, none⟩ = some (.string s) ∧ wx.cell? ⟨w.heap.size + 1, 4, none⟩ = some (.slice ad len cap))) (by kernel_rfl) b0.all (fun hHeld => ?_)
        generalize wb.drew = w1 at *
        refine wpAnyH_take (i := 0) (oi := { dst := some 14, op := Op.load 40 (Operand.tmp 2), type := 40, pos := _, after := #[], guard := none }) (v := ?tpa1) rfl (by kernel_rfl) (by kernel_rfl) (by kernel_rfl) (fun _ _ _ h => h) (Or.inl ⟨by rfl, ?upa1⟩) (by assumption) ?rpa1
        case upa1 => (intro w hSw; (try dsimp only at hSw); go_simp; (try with_reducible rfl))
        simp only [Act.put, List.setIfInBounds_toArray, List.set_cons_zero, List.set_cons_succ]
        refine wpAnyH_take (i := 1) (oi := { dst := some 15, op := Op.load 25 (Operand.tmp 3), type := 25, pos := _, after := #[], guard := none }) (v := ?tpa2) rfl (by kernel_rfl) (by kernel_rfl) (by kernel_rfl) (fun _ _ _ h => h) (Or.inl ⟨by rfl, ?upa2⟩) (by assumption) ?rpa2
        case upa2 => (intro w hSw; (try dsimp only at hSw); go_simp; (try with_reducible rfl))
        simp only [Act.put, List.setIfInBounds_toArray, List.set_cons_zero, List.set_cons_succ]
        refine wpAnyH_take (i := 3) (oi := { dst := some 17, op := Op.load 40 (Operand.tmp 2), type := 40, pos := _, after := #[], guard := none }) (v := ?tpa3) rfl (by kernel_rfl) (by kernel_rfl) (by kernel_rfl) (fun _ _ _ h => h) (Or.inl ⟨by rfl, ?upa3⟩) (by assumption) ?rpa3
        case upa3 => (intro w hSw; (try dsimp only at hSw); go_simp; (try with_reducible rfl))
        simp only [Act.put, List.setIfInBounds_toArray, List.set_cons_zero, List.set_cons_succ]
        refine wpAnyH_take (i := 4) (oi := { dst := some 18, op := Op.load 25 (Operand.tmp 3), type := 25, pos := _, after := #[], guard := none }) (v := ?tpa4) rfl (by kernel_rfl) (by kernel_rfl) (by kernel_rfl) (fun _ _ _ h => h) (Or.inl ⟨by rfl, ?upa4⟩) (by assumption) ?rpa4
        case upa4 => (intro w hSw; (try dsimp only at hSw); go_simp; (try with_reducible rfl))
        simp only [Act.put, List.setIfInBounds_toArray, List.set_cons_zero, List.set_cons_succ]
        refine wpAnyH_ready (rs := [2]) (by kernel_rfl) (by simp) ?_
        refine AllReadyH.cons (o := { dst := some 16, op := Op.call { callee := Callee.value (Operand.func 15), args := #[Operand.tmp 14, Operand.tmp 15], argTypes := #[40, 25] }, type := 4, pos := _, after := #[{ on := 0, ground := Ground.data }, { on := 1, ground := Ground.data }], guard := none }) rfl (fun K hK => ?_) AllReadyH.nil
        go_simp
        refine (KP.out _ b0).mono ?_
        rintro e wy1 ⟨rfl, b1⟩
        go_wp2_with fail
        refine hK.out _ _ (b1).all (fun hH1 => ?_)
        clear hK K
        (try simp only [Act.put, List.setIfInBounds_toArray, List.set_cons_zero, List.set_cons_succ])
        refine wpAnyH_ready (rs := [5]) (by kernel_rfl) (by simp) ?_
        refine AllReadyH.cons (o := { dst := some 19, op := Op.call { callee := Callee.value (Operand.func 16), args := #[Operand.tmp 17, Operand.tmp 18], argTypes := #[40, 25] }, type := 4, pos := _, after := #[{ on := 3, ground := Ground.data }, { on := 4, ground := Ground.data }, { on := 2, ground := Ground.chain }], guard := none }) rfl (fun K hK => ?_) AllReadyH.nil
        go_simp
        refine (KM.out _ b1).mono ?_
        rintro e wy2 ⟨rfl, b2⟩
        go_wp2_with fail
        refine hK.out _ _ (b2).all (fun hH2 => ?_)
        clear hK K
        (try simp only [Act.put, List.setIfInBounds_toArray, List.set_cons_zero, List.set_cons_succ])
        refine wpAnyH_take (i := 6) (oi := { dst := some 20, op := Op.binOp BinOp.eql 4 (Operand.tmp 16) (Operand.tmp 19) 4, type := 4, pos := _, after := #[{ on := 2, ground := Ground.data }, { on := 5, ground := Ground.data }], guard := none }) (v := ?tpa5) rfl (by kernel_rfl) (by kernel_rfl) (by kernel_rfl) (fun _ _ _ h => h) (Or.inl ⟨by rfl, ?upa5⟩) (by assumption) ?rpa5
        case upa5 => (intro w hSw; (try dsimp only at hSw); go_simp; (try with_reducible rfl))
        simp only [Act.put, List.setIfInBounds_toArray, List.set_cons_zero, List.set_cons_succ]
        refine wpAnyH_take (i := 7) (oi := { dst := some 21, op := Op.move (Operand.tmp 20), type := 4, pos := _, after := #[{ on := 6, ground := Ground.data }, { on := 5, ground := Ground.chain }], guard := none }) (v := ?tpa6) rfl (by kernel_rfl) (by kernel_rfl) (by kernel_rfl) (fun _ _ _ h => h) (Or.inl ⟨by rfl, ?upa6⟩) (by assumption) ?rpa6
        case upa6 => (intro w hSw; (try dsimp only at hSw); go_simp; (try with_reducible rfl))
        simp only [Act.put, List.setIfInBounds_toArray, List.set_cons_zero, List.set_cons_succ]
        refine wpAnyH_ready (rs := [8]) (by kernel_rfl) (by simp) ?_
        refine AllReadyH.cons (o := { dst := some 22, op := Op.call { callee := Callee.value (Operand.func 8), args := #[], argTypes := #[] }, type := 4, pos := _, after := #[{ on := 7, ground := Ground.chain }, { on := 7, ground := Ground.guard }], guard := some (7, true) }) rfl (fun K hK => ?_) AllReadyH.nil
        go_simp
        refine (KA.out _ b2).mono ?_
        rintro e wy3 ⟨rfl, b3⟩
        go_wp2_with fail
        refine hK.out _ _ (b3).all (fun hH3 => ?_)
        clear hK K
        (try simp only [Act.put, List.setIfInBounds_toArray, List.set_cons_zero, List.set_cons_succ])
        refine wpAnyH_take (i := 9) (oi := { dst := some 23, op := Op.pick (Operand.tmp 21) (Operand.tmp 22) (Operand.const (Value.bool false)), type := 4, pos := _, after := #[{ on := 7, ground := Ground.data }, { on := 8, ground := Ground.data }], guard := none }) (v := ?tpa7) rfl (by kernel_rfl) (by kernel_rfl) (by kernel_rfl) (fun _ _ _ h => h) (Or.inl ⟨by rfl, ?upa7⟩) (by assumption) ?rpa7
        case upa7 => (intro w hSw; (try dsimp only at hSw); go_simp; (try with_reducible rfl))
        simp only [Act.put, List.setIfInBounds_toArray, List.set_cons_zero, List.set_cons_succ]
        refine wpAnyH_take (i := 10) (oi := { dst := some 4, op := Op.assign (Operand.tmp 23), type := 4, pos := _, after := #[{ on := 9, ground := Ground.data }, { on := 8, ground := Ground.chain }, { on := 0, ground := Ground.phase }, { on := 1, ground := Ground.phase }, { on := 2, ground := Ground.phase }, { on := 3, ground := Ground.phase }, { on := 4, ground := Ground.phase }, { on := 5, ground := Ground.phase }, { on := 6, ground := Ground.phase }, { on := 7, ground := Ground.phase }, { on := 8, ground := Ground.phase }, { on := 9, ground := Ground.phase }], guard := none }) (v := ?tpa8) rfl (by kernel_rfl) (by kernel_rfl) (by kernel_rfl) (fun _ _ _ h => h) (Or.inl ⟨by rfl, ?upa8⟩) (by assumption) ?rpa8
        case upa8 => (intro w hSw; (try dsimp only at hSw); go_simp; (try with_reducible rfl))
        simp only [Act.put, List.setIfInBounds_toArray, List.set_cons_zero, List.set_cons_succ]
        refine wpAnyH_done (by kernel_rfl) ?_ _
        go_wp2_with fail
        go_ret
        exact ⟨rfl, b3.below⟩
      · obtain ⟨c0, c1, c2, d0, d1, d2, d3, d4⟩ := hb0.all
        go_enter Tryz.func4, Tryz.ntmps4
        go_wp2_with fail
        refine (HF.out _ hb0).mono ?_
        rintro e wa ⟨rfl, bwa⟩
        clear c0 c1 c2 d0 d1 d2 d3 d4
        obtain ⟨c0, c1, c2, d0, d1, d2, d3, d4⟩ := bwa.all
        go_wp2_with fail
        refine (HG.out _ bwa).mono ?_
        rintro e wb ⟨rfl, bwb⟩
        clear c0 c1 c2 d0 d1 d2 d3 d4
        go_wp2_with fail
        have b0 := bwb.drew
        clear HF HG
        refine wp_region_held_drew (S := (fun wx => wx.cell? ⟨w.heap.size, 0, none⟩ = some (.int .i64 o) ∧ wx.cell? ⟨w.heap.size, 1, none⟩ = some (.int .i64 a) ∧ wx.cell? ⟨w.heap.size, 2, none⟩ = some (.slice wd wl wc) ∧ wx.cell? ⟨w.heap.size + 1, 0, none⟩ = some (.int .i64 k) ∧ wx.cell? ⟨w.heap.size + 1, 1, none⟩ = some (.int .i64 i) ∧ wx.cell? ⟨w.heap.size + 1, 2, none⟩ = some (.int .u64 b) ∧ wx.cell? ⟨w.heap.size + 1, 3, none⟩ = some (.string s) ∧ wx.cell? ⟨w.heap.size + 1, 4, none⟩ = some (.slice ad len cap))) (by kernel_rfl) b0.all (fun hHeld => ?_)
        generalize wb.drew = w1 at *
        refine wpAnyH_take (i := 0) (oi := { dst := some 14, op := Op.load 40 (Operand.tmp 2), type := 40, pos := _, after := #[], guard := none }) (v := ?tpb9) rfl (by kernel_rfl) (by kernel_rfl) (by kernel_rfl) (fun _ _ _ h => h) (Or.inl ⟨by rfl, ?upb9⟩) (by assumption) ?rpb9
        case upb9 => (intro w hSw; (try dsimp only at hSw); go_simp; (try with_reducible rfl))
        simp only [Act.put, List.setIfInBounds_toArray, List.set_cons_zero, List.set_cons_succ]
        refine wpAnyH_take (i := 1) (oi := { dst := some 15, op := Op.load 25 (Operand.tmp 3), type := 25, pos := _, after := #[], guard := none }) (v := ?tpb10) rfl (by kernel_rfl) (by kernel_rfl) (by kernel_rfl) (fun _ _ _ h => h) (Or.inl ⟨by rfl, ?upb10⟩) (by assumption) ?rpb10
        case upb10 => (intro w hSw; (try dsimp only at hSw); go_simp; (try with_reducible rfl))
        simp only [Act.put, List.setIfInBounds_toArray, List.set_cons_zero, List.set_cons_succ]
        refine wpAnyH_take (i := 3) (oi := { dst := some 17, op := Op.load 40 (Operand.tmp 2), type := 40, pos := _, after := #[], guard := none }) (v := ?tpb11) rfl (by kernel_rfl) (by kernel_rfl) (by kernel_rfl) (fun _ _ _ h => h) (Or.inl ⟨by rfl, ?upb11⟩) (by assumption) ?rpb11
        case upb11 => (intro w hSw; (try dsimp only at hSw); go_simp; (try with_reducible rfl))
        simp only [Act.put, List.setIfInBounds_toArray, List.set_cons_zero, List.set_cons_succ]
        refine wpAnyH_take (i := 4) (oi := { dst := some 18, op := Op.load 25 (Operand.tmp 3), type := 25, pos := _, after := #[], guard := none }) (v := ?tpb12) rfl (by kernel_rfl) (by kernel_rfl) (by kernel_rfl) (fun _ _ _ h => h) (Or.inl ⟨by rfl, ?upb12⟩) (by assumption) ?rpb12
        case upb12 => (intro w hSw; (try dsimp only at hSw); go_simp; (try with_reducible rfl))
        simp only [Act.put, List.setIfInBounds_toArray, List.set_cons_zero, List.set_cons_succ]
        refine wpAnyH_ready (rs := [2]) (by kernel_rfl) (by simp) ?_
        refine AllReadyH.cons (o := { dst := some 16, op := Op.call { callee := Callee.value (Operand.func 15), args := #[Operand.tmp 14, Operand.tmp 15], argTypes := #[40, 25] }, type := 4, pos := _, after := #[{ on := 0, ground := Ground.data }, { on := 1, ground := Ground.data }], guard := none }) rfl (fun K hK => ?_) AllReadyH.nil
        go_simp
        refine (KP.out _ b0).mono ?_
        rintro e wy4 ⟨rfl, b4⟩
        go_wp2_with fail
        refine hK.out _ _ (b4).all (fun hH4 => ?_)
        clear hK K
        (try simp only [Act.put, List.setIfInBounds_toArray, List.set_cons_zero, List.set_cons_succ])
        refine wpAnyH_ready (rs := [5]) (by kernel_rfl) (by simp) ?_
        refine AllReadyH.cons (o := { dst := some 19, op := Op.call { callee := Callee.value (Operand.func 16), args := #[Operand.tmp 17, Operand.tmp 18], argTypes := #[40, 25] }, type := 4, pos := _, after := #[{ on := 3, ground := Ground.data }, { on := 4, ground := Ground.data }, { on := 2, ground := Ground.chain }], guard := none }) rfl (fun K hK => ?_) AllReadyH.nil
        go_simp
        refine (KM.out _ b4).mono ?_
        rintro e wy5 ⟨rfl, b5⟩
        go_wp2_with fail
        refine hK.out _ _ (b5).all (fun hH5 => ?_)
        clear hK K
        (try simp only [Act.put, List.setIfInBounds_toArray, List.set_cons_zero, List.set_cons_succ])
        refine wpAnyH_take (i := 6) (oi := { dst := some 20, op := Op.binOp BinOp.eql 4 (Operand.tmp 16) (Operand.tmp 19) 4, type := 4, pos := _, after := #[{ on := 2, ground := Ground.data }, { on := 5, ground := Ground.data }], guard := none }) (v := ?tpb13) rfl (by kernel_rfl) (by kernel_rfl) (by kernel_rfl) (fun _ _ _ h => h) (Or.inl ⟨by rfl, ?upb13⟩) (by assumption) ?rpb13
        case upb13 => (intro w hSw; (try dsimp only at hSw); go_simp; (try with_reducible rfl))
        simp only [Act.put, List.setIfInBounds_toArray, List.set_cons_zero, List.set_cons_succ]
        refine wpAnyH_take (i := 7) (oi := { dst := some 21, op := Op.move (Operand.tmp 20), type := 4, pos := _, after := #[{ on := 6, ground := Ground.data }, { on := 5, ground := Ground.chain }], guard := none }) (v := ?tpb14) rfl (by kernel_rfl) (by kernel_rfl) (by kernel_rfl) (fun _ _ _ h => h) (Or.inl ⟨by rfl, ?upb14⟩) (by assumption) ?rpb14
        case upb14 => (intro w hSw; (try dsimp only at hSw); go_simp; (try with_reducible rfl))
        simp only [Act.put, List.setIfInBounds_toArray, List.set_cons_zero, List.set_cons_succ]
        refine wpAnyH_ready (rs := [8]) (by kernel_rfl) (by simp) ?_
        refine AllReadyH.cons (o := { dst := some 22, op := Op.call { callee := Callee.value (Operand.func 8), args := #[], argTypes := #[] }, type := 4, pos := _, after := #[{ on := 7, ground := Ground.chain }, { on := 7, ground := Ground.guard }], guard := some (7, true) }) rfl (fun K hK => ?_) AllReadyH.nil
        go_simp
        refine (KA.out _ b5).mono ?_
        rintro e wy6 ⟨rfl, b6⟩
        go_wp2_with fail
        refine hK.out _ _ (b6).all (fun hH6 => ?_)
        clear hK K
        (try simp only [Act.put, List.setIfInBounds_toArray, List.set_cons_zero, List.set_cons_succ])
        refine wpAnyH_take (i := 9) (oi := { dst := some 23, op := Op.pick (Operand.tmp 21) (Operand.tmp 22) (Operand.const (Value.bool false)), type := 4, pos := _, after := #[{ on := 7, ground := Ground.data }, { on := 8, ground := Ground.data }], guard := none }) (v := ?tpb15) rfl (by kernel_rfl) (by kernel_rfl) (by kernel_rfl) (fun _ _ _ h => h) (Or.inl ⟨by rfl, ?upb15⟩) (by assumption) ?rpb15
        case upb15 => (intro w hSw; (try dsimp only at hSw); go_simp; (try with_reducible rfl))
        simp only [Act.put, List.setIfInBounds_toArray, List.set_cons_zero, List.set_cons_succ]
        refine wpAnyH_take (i := 10) (oi := { dst := some 4, op := Op.assign (Operand.tmp 23), type := 4, pos := _, after := #[{ on := 9, ground := Ground.data }, { on := 8, ground := Ground.chain }, { on := 0, ground := Ground.phase }, { on := 1, ground := Ground.phase }, { on := 2, ground := Ground.phase }, { on := 3, ground := Ground.phase }, { on := 4, ground := Ground.phase }, { on := 5, ground := Ground.phase }, { on := 6, ground := Ground.phase }, { on := 7, ground := Ground.phase }, { on := 8, ground := Ground.phase }, { on := 9, ground := Ground.phase }], guard := none }) (v := ?tpb16) rfl (by kernel_rfl) (by kernel_rfl) (by kernel_rfl) (fun _ _ _ h => h) (Or.inl ⟨by rfl, ?upb16⟩) (by assumption) ?rpb16
        case upb16 => (intro w hSw; (try dsimp only at hSw); go_simp; (try with_reducible rfl))
        simp only [Act.put, List.setIfInBounds_toArray, List.set_cons_zero, List.set_cons_succ]
        refine wpAnyH_done (by kernel_rfl) ?_ _
        go_wp2_with fail
        go_ret
        exact ⟨rfl, b6.below⟩

theorem law_passes (n : Nat) (t : Wt n) (v0 v1 v2 : Value) (m : Nat) (d : Dt.Tr m) (x0 x1 x2 x3 x4 : Value) (w : World) (h : RepW w n [v0, v1, v2] t) (h' : Dt.Rep w m [x0, x1, x2, x3, x4] d) (hT : Dt.Tab14 w) :
    Calls Tryz.prog 4 #[.agg #[v0, v1, v2], .agg #[x0, x1, x2, x3, x4]] w fun e w' => e = .returned (.bool true) ∧ Below w.heap.size w w' := by
  obtain ⟨k, i, u, s, ad, len, cap, rfl, rfl, rfl, rfl, rfl⟩ := Dt.rep_shape h'
  cases n with
  | zero => exact Empty.elim t
  | succ n =>
    have hr := h
    obtain ⟨a0, c0, e, -⟩ := h
    simp only [List.cons.injEq, and_true] at e
    obtain ⟨rfl, rfl, rfl⟩ := e
    exact law_passes_at (n + 1) t m d _ _ _ _ _ k i u s ad len cap w hr h' hT
end Go.Proofs.YtajagjcfmaggiaaGreatDoor
