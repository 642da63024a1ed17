/- The law RouteExplains, over what it asks of the package; the conditions that the theorem names. -/
import Derived.Test.YtkgbpildikjoiaaGreatDoorVg
namespace Go.Proofs.YtkgbpildikjoiaaGreatDoor
open Go.RowKit Tp


set_option maxRecDepth 100000 in
set_option maxHeartbeats 4000000 in
theorem law_explains (K : KHan) (KE : KExp) (L : List Ro) (ad : Option Addr) (cap : Nat) (m : Mg) (n : Nat) (d : Dt.Tr n) (w : World) (h : Rs w ad L) (hd : Dt.Rep w n [.int .i64 m.k, .int .i64 m.i, .int .u64 m.u, .string m.s, .slice m.a m.l m.c] d) (hmt : m.tp.size ≤ 9223372036854775807) (hT : Tabs w) (hP : P10 w) :
    Calls Tryz.prog 4 #[.slice ad L.length cap, .agg m.cs] w fun e w' => e = .returned (.bool true) ∧ Below w.heap.size w w' := by
  have b0 := below1 w (.cells m.cs 28)
  have n0 := Bk.new w m.cs 28
  obtain ⟨w0, hw0⟩ : ∃ w0, w0 = w.alloc (.cells m.cs 28) := ⟨_, rfl⟩
  rw [← hw0] at b0 n0
  have HW := Lib.hid hw0.symm
  have HFT := Lib.hid (lawfit_any L ad cap m n d w0 (h.below b0) (Dt.Rep.below b0 n _ _ hd) hmt (hT.below b0))
  have BM : Hid (∀ wx, Below w0.heap.size w0 wx → Bk wx w.heap.size m.cs 28) := fun wx hx => n0.below hx
  have HB : Hid (∀ wx, Below w0.heap.size w0 wx → Below w.heap.size w wx) := fun wx hx => b0.trans (hx.mono b0.size)
  have KA : Hid (∀ wx, Below w0.heap.size w0 wx → Calls Tryz.prog 8 #[] wx fun e w' => e = .returned (.bool true) ∧ Below w0.heap.size w0 w') := fun wx hx => (awake_any K wx ((hT.below b0).below hx)).mono fun e w' ⟨p, q⟩ => ⟨p, hx.trans (q.mono hx.size)⟩
  have KA2 : Hid (∀ wx, Below w0.heap.size w0 wx → Calls Tryz.prog 8 #[] wx fun e w' => e = .returned (.bool true) ∧ Below wx.heap.size wx w') := fun wx hx => awake_any K wx ((hT.below b0).below hx)
  obtain ⟨m0, m1, m2, m3, m4, m5, m6, m7, m8, m9, m10, m11, m12⟩ := n0.c13
  cases hfit : fitL L (tl m.tp) (Dt.vB n d) with
  | false =>
    rw [hfit] at HFT
    clear hfit h hd hmt hT hw0 n0 b0 K KE hP
    go_enter Tryz.func4, Tryz.ntmps4
    go_wp2_with (rw [HW.out])
    refine HFT.out.mono ?_
    rintro e w1 ⟨rfl, b1⟩
    clear m0 m1 m2 m3 m4 m5 m6 m7 m8 m9 m10 m11 m12
    go_wp2_with fail
    refine (KA.out _ b1).mono ?_
    rintro e w2 ⟨rfl, b2⟩
    go_wp2
    go_ret
    exact ⟨rfl, HB.out _ b2⟩
  | true =>
    rw [hfit] at HFT
    have hfit' := hfit
    unfold fitL at hfit'
    simp only [Bool.and_eq_true, decide_eq_true_eq, List.all_eq_true] at hfit'
    obtain ⟨⟨⟨hl, hok⟩, hnm⟩, hv⟩ := hfit'
    obtain ⟨k0, k1⟩ := valid_kind hd hv
    have h0 := h.below b0
    have hT0 := hT.below b0

    have hP0 := hP.below b0
    have HX : Hid (∀ wx, Below w0.heap.size w0 wx → Calls Tryz.prog 14 #[.slice ad L.length cap, .agg m.cs] wx fun e w' => e = .returned (.string (exf (tl m.tp) m.k (tkE (tl m.tp) m.k L) L L.length)) ∧ Below w0.heap.size w0 w') := fun wx hx => (KE L ad cap m wx (h0.below hx) hl hok ⟨k0, k1⟩ hnm (hT0.below hx) (hP0.below hx)).mono fun e w' ⟨p, q⟩ => ⟨p, hx.trans (q.mono hx.size)⟩
    have HY : Hid (∀ wx, Below w0.heap.size w0 wx → Calls Tryz.prog 15 #[.slice ad L.length cap, .agg m.cs] wx fun e w' => e = .returned (.string (exf (tl m.tp) m.k (tkE (tl m.tp) m.k L) L L.length)) ∧ Below w0.heap.size w0 w') := fun wx hx => (rexplain_any L ad cap m wx (h0.below hx) hl hok ⟨k0, k1⟩ hmt (hT0.below hx) (hP0.below hx)).mono fun e w' ⟨p, q⟩ => ⟨p, hx.trans (q.mono hx.size)⟩
    generalize exf (tl m.tp) m.k (tkE (tl m.tp) m.k L) L L.length = S at HX HY
    clear hfit h hd hmt hT hP hP0 h0 hT0 hl hok hnm hv k0 k1 hw0 n0 b0 K KE
    go_enter Tryz.func4, Tryz.ntmps4
    go_wp2_with (rw [HW.out])
    refine HFT.out.mono ?_
    rintro e w1 ⟨rfl, b1⟩
    clear m0 m1 m2 m3 m4 m5 m6 m7 m8 m9 m10 m11 m12
    go_wp2_with fail
    have XS : Hid (∀ wx, Below w0.heap.size w0 wx → (wx.cell? ⟨w.heap.size, 0, none⟩ = some (.int .i64 m.id) ∧ wx.cell? ⟨w.heap.size, 1, none⟩ = some (.string m.tp) ∧ wx.cell? ⟨w.heap.size, 2, none⟩ = some (.int .i64 m.k) ∧ wx.cell? ⟨w.heap.size, 3, none⟩ = some (.int .i64 m.i) ∧ wx.cell? ⟨w.heap.size, 4, none⟩ = some (.int .u64 m.u) ∧ wx.cell? ⟨w.heap.size, 5, none⟩ = some (.string m.s) ∧ wx.cell? ⟨w.heap.size, 6, none⟩ = some (.slice m.a m.l m.c) ∧ wx.cell? ⟨w.heap.size, 7, none⟩ = some (.int .i64 m.ti) ∧ wx.cell? ⟨w.heap.size, 8, none⟩ = some (.int .i64 m.un) ∧ wx.cell? ⟨w.heap.size, 9, none⟩ = some (.string m.rp) ∧ wx.cell? ⟨w.heap.size, 10, none⟩ = some (.int .i64 m.co) ∧ wx.cell? ⟨w.heap.size, 11, none⟩ = some (.int .i64 m.pr) ∧ wx.cell? ⟨w.heap.size, 12, none⟩ = some (.int .i64 m.ho))) := fun wx hx => (BM.out _ hx).c13
    have b1d := Below.drew b1
    refine wp_region_held_drew (S := (fun wx => (wx.cell? ⟨w.heap.size, 0, none⟩ = some (.int .i64 m.id) ∧ wx.cell? ⟨w.heap.size, 1, none⟩ = some (.string m.tp) ∧ wx.cell? ⟨w.heap.size, 2, none⟩ = some (.int .i64 m.k) ∧ wx.cell? ⟨w.heap.size, 3, none⟩ = some (.int .i64 m.i) ∧ wx.cell? ⟨w.heap.size, 4, none⟩ = some (.int .u64 m.u) ∧ wx.cell? ⟨w.heap.size, 5, none⟩ = some (.string m.s) ∧ wx.cell? ⟨w.heap.size, 6, none⟩ = some (.slice m.a m.l m.c) ∧ wx.cell? ⟨w.heap.size, 7, none⟩ = some (.int .i64 m.ti) ∧ wx.cell? ⟨w.heap.size, 8, none⟩ = some (.int .i64 m.un) ∧ wx.cell? ⟨w.heap.size, 9, none⟩ = some (.string m.rp) ∧ wx.cell? ⟨w.heap.size, 10, none⟩ = some (.int .i64 m.co) ∧ wx.cell? ⟨w.heap.size, 11, none⟩ = some (.int .i64 m.pr) ∧ wx.cell? ⟨w.heap.size, 12, none⟩ = some (.int .i64 m.ho)))) (by kernel_rfl) (XS.out _ b1d) (fun hHeld => ?_)
    generalize w1.drew = v0 at *
    refine wpAnyH_take (i := 0) (oi := { dst := some 10, op := Op.move (Operand.tmp 0), type := 22, pos := _, after := #[], guard := none }) (v := ?tex1) rfl (by kernel_rfl) (by kernel_rfl) (by kernel_rfl) (fun _ _ _ h => h) (Or.inl ⟨by rfl, ?uex1⟩) (by assumption) ?rex1
    case uex1 => (intro w hSw; (try dsimp only at hSw); go_simp; (try with_reducible rfl))
    simp only [Act.put, List.setIfInBounds_toArray, List.set_cons_zero, List.set_cons_succ]
    refine wpAnyH_take (i := 1) (oi := { dst := some 11, op := Op.load 28 (Operand.tmp 3), type := 28, pos := _, after := #[], guard := none }) (v := ?tex2) rfl (by kernel_rfl) (by kernel_rfl) (by kernel_rfl) (fun _ _ _ h => h) (Or.inl ⟨by rfl, ?uex2⟩) (by assumption) ?rex2
    case uex2 => (intro w hSw; (try dsimp only at hSw); go_simp; (try with_reducible rfl))
    simp only [Act.put, List.setIfInBounds_toArray, List.set_cons_zero, List.set_cons_succ]
    refine wpAnyH_take (i := 3) (oi := { dst := some 13, op := Op.move (Operand.tmp 0), type := 22, pos := _, after := #[], guard := none }) (v := ?tex3) rfl (by kernel_rfl) (by kernel_rfl) (by kernel_rfl) (fun _ _ _ h => h) (Or.inl ⟨by rfl, ?uex3⟩) (by assumption) ?rex3
    case uex3 => (intro w hSw; (try dsimp only at hSw); go_simp; (try with_reducible rfl))
    simp only [Act.put, List.setIfInBounds_toArray, List.set_cons_zero, List.set_cons_succ]
    refine wpAnyH_take (i := 4) (oi := { dst := some 14, op := Op.load 28 (Operand.tmp 3), type := 28, pos := _, after := #[], guard := none }) (v := ?tex4) rfl (by kernel_rfl) (by kernel_rfl) (by kernel_rfl) (fun _ _ _ h => h) (Or.inl ⟨by rfl, ?uex4⟩) (by assumption) ?rex4
    case uex4 => (intro w hSw; (try dsimp only at hSw); go_simp; (try with_reducible rfl))
    simp only [Act.put, List.setIfInBounds_toArray, List.set_cons_zero, List.set_cons_succ]
    refine wpAnyH_ready (rs := [2]) (by kernel_rfl) (by simp) ?_
    refine AllReadyH.cons (o := { dst := some 12, op := Op.call { callee := Callee.value (Operand.func 14), args := #[Operand.tmp 10, Operand.tmp 11], argTypes := #[22, 28] }, type := 9, pos := _, after := #[{ on := 0, ground := Ground.data }, { on := 1, ground := Ground.data }], guard := none }) rfl (fun K hK => ?_) AllReadyH.nil
    go_simp
    refine (HX.out _ b1d).mono ?_
    rintro e v1 ⟨rfl, e1⟩
    go_wp2_with fail
    refine hK.out _ _ (XS.out _ e1) (fun hH1 => ?_)
    clear hK K
    (try simp only [Act.put, List.setIfInBounds_toArray, List.set_cons_zero, List.set_cons_succ])
    refine wpAnyH_ready (rs := [5]) (by kernel_rfl) (by simp) ?_
    refine AllReadyH.cons (o := { dst := some 15, op := Op.call { callee := Callee.value (Operand.func 15), args := #[Operand.tmp 13, Operand.tmp 14], argTypes := #[22, 28] }, type := 9, pos := _, after := #[{ on := 3, ground := Ground.data }, { on := 4, ground := Ground.data }, { on := 2, ground := Ground.chain }], guard := none }) rfl (fun K hK => ?_) AllReadyH.nil
    go_simp
    refine (HY.out _ e1).mono ?_
    rintro e v2 ⟨rfl, e2⟩
    go_wp2_with fail
    refine hK.out _ _ (XS.out _ e2) (fun hH2 => ?_)
    clear hK K
    (try simp only [Act.put, List.setIfInBounds_toArray, List.set_cons_zero, List.set_cons_succ])
    refine wpAnyH_take (i := 6) (oi := { dst := some 16, op := Op.binOp BinOp.eql 9 (Operand.tmp 12) (Operand.tmp 15) 9, type := 4, pos := _, after := #[{ on := 2, ground := Ground.data }, { on := 5, ground := Ground.data }], guard := none }) (v := ?tex5) rfl (by kernel_rfl) (by kernel_rfl) (by kernel_rfl) (fun _ _ _ h => h) (Or.inl ⟨by rfl, ?uex5⟩) (by assumption) ?rex5
    case uex5 => (intro w hSw; (try dsimp only at hSw); go_simp; (try with_reducible rfl))
    simp only [Act.put, List.setIfInBounds_toArray, List.set_cons_zero, List.set_cons_succ]
    refine wpAnyH_take (i := 7) (oi := { dst := some 17, op := Op.move (Operand.tmp 16), type := 4, pos := _, after := #[{ on := 6, ground := Ground.data }, { on := 5, ground := Ground.chain }], guard := none }) (v := ?tex6) rfl (by kernel_rfl) (by kernel_rfl) (by kernel_rfl) (fun _ _ _ h => h) (Or.inl ⟨by rfl, ?uex6⟩) (by assumption) ?rex6
    case uex6 => (intro w hSw; (try dsimp only at hSw); go_simp; (try with_reducible rfl))
    simp only [Act.put, List.setIfInBounds_toArray, List.set_cons_zero, List.set_cons_succ]
    refine wpAnyH_ready (rs := [8]) (by kernel_rfl) (by simp) ?_
    refine AllReadyH.cons (o := { dst := some 18, op := Op.call { callee := Callee.value (Operand.func 8), args := #[], argTypes := #[] }, type := 4, pos := _, after := #[{ on := 7, ground := Ground.chain }, { on := 7, ground := Ground.guard }], guard := some (7, true) }) rfl (fun K hK => ?_) AllReadyH.nil
    go_simp
    refine (KA.out _ e2).mono ?_
    rintro e v3 ⟨rfl, e3⟩
    go_wp2_with fail
    refine hK.out _ _ (XS.out _ e3) (fun hH3 => ?_)
    clear hK K
    (try simp only [Act.put, List.setIfInBounds_toArray, List.set_cons_zero, List.set_cons_succ])
    refine wpAnyH_take (i := 9) (oi := { dst := some 19, op := Op.pick (Operand.tmp 17) (Operand.tmp 18) (Operand.const (Value.bool false)), type := 4, pos := _, after := #[{ on := 7, ground := Ground.data }, { on := 8, ground := Ground.data }], guard := none }) (v := ?tex7) rfl (by kernel_rfl) (by kernel_rfl) (by kernel_rfl) (fun _ _ _ h => h) (Or.inl ⟨by rfl, ?uex7⟩) (by assumption) ?rex7
    case uex7 => (intro w hSw; (try dsimp only at hSw); go_simp; (try with_reducible rfl))
    simp only [Act.put, List.setIfInBounds_toArray, List.set_cons_zero, List.set_cons_succ]
    refine wpAnyH_take (i := 10) (oi := { dst := some 4, op := Op.assign (Operand.tmp 19), type := 4, pos := _, after := #[{ on := 9, ground := Ground.data }, { on := 8, ground := Ground.chain }, { on := 0, ground := Ground.phase }, { on := 1, ground := Ground.phase }, { on := 2, ground := Ground.phase }, { on := 3, ground := Ground.phase }, { on := 4, ground := Ground.phase }, { on := 5, ground := Ground.phase }, { on := 6, ground := Ground.phase }, { on := 7, ground := Ground.phase }, { on := 8, ground := Ground.phase }, { on := 9, ground := Ground.phase }], guard := none }) (v := ?tex8) rfl (by kernel_rfl) (by kernel_rfl) (by kernel_rfl) (fun _ _ _ h => h) (Or.inl ⟨by rfl, ?uex8⟩) (by assumption) ?rex8
    case uex8 => (intro w hSw; (try dsimp only at hSw); go_simp; (try with_reducible rfl))
    simp only [Act.put, List.setIfInBounds_toArray, List.set_cons_zero, List.set_cons_succ]
    refine wpAnyH_done (by kernel_rfl) ?_ _
    go_wp2_with fail
    go_ret
    exact ⟨rfl, HB.out _ e3⟩

end Go.Proofs.YtkgbpildikjoiaaGreatDoor
