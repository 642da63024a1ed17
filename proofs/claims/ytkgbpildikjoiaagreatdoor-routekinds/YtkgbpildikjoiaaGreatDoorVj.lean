/- The law RouteKinds, over what it asks of the package; the conditions that the theorem names. -/
import Derived.Test.YtkgbpildikjoiaaGreatDoorVi
namespace Go.Proofs.YtkgbpildikjoiaaGreatDoor
open Go.RowKit Tp

set_option maxRecDepth 100000 in
set_option maxHeartbeats 4000000 in
theorem law_kinds (K : KHan) (KF : KFind 400) (KE : KExp) (L : List Ro) (ad : Option Addr) (cap : Nat) (m : Mg) (n : Nat) (d : Dt.Tr n) (x : Mg) (n' : Nat) (d' : Dt.Tr n') (w : World) (h : Rs w ad L) (hd : Dt.Rep w n [.int .i64 m.k, .int .i64 m.i, .int .u64 m.u, .string m.s, .slice m.a m.l m.c] d) (hmt : m.tp.size ≤ 9223372036854775807) (hd' : Dt.Rep w n' [.int .i64 x.k, .int .i64 x.i, .int .u64 x.u, .string x.s, .slice x.a x.l x.c] d') (hT : Tabs w) (hP : P10 w) :
    Calls Tryz.prog 5 #[.slice ad L.length cap, .agg m.cs, .agg x.cs] w fun e w' => e = .returned (.bool true) ∧ Below w.heap.size w w' := by
  have b0 := below1 w (.cells m.cs 28)
  have n0 := Bk.new w m.cs 28
  obtain ⟨wa, hwa⟩ : ∃ wa, wa = w.alloc (.cells m.cs 28) := ⟨_, rfl⟩
  rw [← hwa] at b0 n0
  have za : wa.heap.size = w.heap.size + 1 := by rw [hwa]; simp
  have b1 := below1 wa (.cells x.cs 28)
  have n1 := Bk.new wa x.cs 28
  obtain ⟨w0, hw0⟩ : ∃ w0, w0 = wa.alloc (.cells x.cs 28) := ⟨_, rfl⟩
  rw [← hw0] at b1 n1
  rw [za] at n1
  have HW := Lib.hid (show (w.alloc (.cells m.cs 28)).alloc (.cells x.cs 28) = w0 by rw [hw0, hwa])
  have B0 : Below w.heap.size w w0 := b0.trans (b1.mono (by omega))
  have HB : Hid (∀ wx, Below w0.heap.size w0 wx → Below w.heap.size w wx) := fun wx hx => B0.trans (hx.mono B0.size)
  have BM : Hid (∀ wx, Below w0.heap.size w0 wx → Bk wx w.heap.size m.cs 28) := fun wx hx => (n0.below b1).below hx
  have BX : Hid (∀ wx, Below w0.heap.size w0 wx → Bk wx (w.heap.size + 1) x.cs 28) := fun wx hx => n1.below hx
  have HFT := Lib.hid (lawfit_any L ad cap m n d w0 (h.below B0) (Dt.Rep.below B0 n _ _ hd) hmt (hT.below B0))
  have HVL : Hid (∀ wx, Below w.heap.size w wx → Calls Tryz.prog 16 #[.agg #[.int .i64 x.k, .int .i64 x.i, .int .u64 x.u, .string x.s, .slice x.a x.l x.c]] wx fun e w' => e = .returned (.bool (Dt.vB n' d')) ∧ Below wx.heap.size wx w') := fun wx hx => Dt.refValid n' d' _ _ _ _ _ wx (Dt.Rep.below hx n' _ _ hd')
  have KA : Hid (∀ wx, Below w.heap.size w wx → Calls Tryz.prog 8 #[] wx fun e w' => e = .returned (.bool true) ∧ Below wx.heap.size wx w') := fun wx hx => awake_any K wx (hT.below hx)
  obtain ⟨m0, m1, m2, m3, m4, m5, m6, m7, m8, m9, m10, m11, m12⟩ := (BM.out _ (Below.refl _ _)).c13
  cases hfit : fitL L (tl m.tp) (Dt.vB n d) with
  | false =>
    rw [hfit] at HFT
    clear hfit h hd hd' hmt hT hP hw0 hwa n0 n1 b0 b1 za K KF KE HVL
    go_enter Tryz.func5, Tryz.ntmps5
    go_wp2_with (rw [HW.out])
    refine HFT.out.mono ?_
    rintro e w1 ⟨rfl, b1⟩
    clear m0 m1 m2 m3 m4 m5 m6 m7 m8 m9 m10 m11 m12
    go_wp2_with fail
    refine (KA.out _ (HB.out _ b1)).mono ?_
    rintro e w2 ⟨rfl, b2⟩
    go_wp2
    go_ret
    exact ⟨rfl, HB.out _ (b1.trans (b2.mono b1.size))⟩
  | true =>
    rw [hfit] at HFT
    have hfit' := hfit
    unfold fitL at hfit'
    simp only [Bool.and_eq_true, decide_eq_true_eq, List.all_eq_true] at hfit'
    obtain ⟨⟨⟨hl, hok⟩, hnm⟩, hv⟩ := hfit'
    obtain ⟨k0, k1⟩ := valid_kind hd hv
    have hTl : ((tkR (tl m.tp) m.k L).map fun (i : Nat) => (i : Int)).length ≤ 400 := by rw [List.length_map]; exact Nat.le_trans (tk_len _ _ _) hl
    have HX : Hid (∀ wx, Below w.heap.size w wx → Calls Tryz.prog 9 #[.slice ad L.length cap, .agg m.cs] wx fun e w' => ∃ sv, e = .returned (.agg #[sv, .bool (tkE (tl m.tp) m.k L)]) ∧ Ri w' sv ((tkR (tl m.tp) m.k L).map fun (i : Nat) => (i : Int)) ∧ Below wx.heap.size wx w') := fun wx hx => KF L ad cap m wx (h.below hx) hl hok ⟨k0, k1⟩ hnm (hT.below hx)
    have HY : Hid (∀ wx, Below w.heap.size w wx → Calls Tryz.prog 9 #[.slice ad L.length cap, .agg #[.int .i64 x.id, .string m.tp, .int .i64 m.k, .int .i64 x.i, .int .u64 x.u, .string x.s, .slice x.a x.l x.c, .int .i64 x.ti, .int .i64 x.un, .string x.rp, .int .i64 x.co, .int .i64 x.pr, .int .i64 x.ho]] wx fun e w' => ∃ sv, e = .returned (.agg #[sv, .bool (tkE (tl m.tp) m.k L)]) ∧ Ri w' sv ((tkR (tl m.tp) m.k L).map fun (i : Nat) => (i : Int)) ∧ Below wx.heap.size wx w') := fun wx hx => KF L ad cap ⟨x.id, m.tp, m.k, x.i, x.u, x.s, x.a, x.l, x.c, x.ti, x.un, x.rp, x.co, x.pr, x.ho⟩ wx (h.below hx) hl hok ⟨k0, k1⟩ hnm (hT.below hx)
    have HH : Hid (∀ wx, Below w.heap.size w wx → Calls Tryz.prog 14 #[.slice ad L.length cap, .agg m.cs] wx fun e w' => e = .returned (.string (exf (tl m.tp) m.k (tkE (tl m.tp) m.k L) L L.length)) ∧ Below wx.heap.size wx w') := fun wx hx => KE L ad cap m wx (h.below hx) hl hok ⟨k0, k1⟩ hnm (hT.below hx) (hP.below hx)
    have HG : Hid (∀ wx, Below w.heap.size w wx → Calls Tryz.prog 14 #[.slice ad L.length cap, .agg #[.int .i64 x.id, .string m.tp, .int .i64 m.k, .int .i64 x.i, .int .u64 x.u, .string x.s, .slice x.a x.l x.c, .int .i64 x.ti, .int .i64 x.un, .string x.rp, .int .i64 x.co, .int .i64 x.pr, .int .i64 x.ho]] wx fun e w' => e = .returned (.string (exf (tl m.tp) m.k (tkE (tl m.tp) m.k L) L L.length)) ∧ Below wx.heap.size wx w') := fun wx hx => KE L ad cap ⟨x.id, m.tp, m.k, x.i, x.u, x.s, x.a, x.l, x.c, x.ti, x.un, x.rp, x.co, x.pr, x.ho⟩ wx (h.below hx) hl hok ⟨k0, k1⟩ hnm (hT.below hx) (hP.below hx)
    have HS : Hid (∀ (a b : Value) (l : List Int) (wx : World), l.length ≤ 400 → Ri wx a l → Ri wx b l → Calls Tryz.prog 11 #[a, b] wx fun e w' => e = .returned (.bool true) ∧ Below wx.heap.size wx w') := fun a b l wx hll ha hb => (same_any a b l l wx ha hb (by omega) (by omega)).mono fun e w' ⟨p, q⟩ => ⟨by rw [p]; simp, q⟩
    generalize exf (tl m.tp) m.k (tkE (tl m.tp) m.k L) L L.length = S at HH HG
    generalize ((tkR (tl m.tp) m.k L).map fun (i : Nat) => (i : Int)) = TT at HX HY hTl
    generalize tkE (tl m.tp) m.k L = E at HX HY
    generalize Dt.vB n' d' = vv at HVL
    have HTl := Lib.hid hTl
    clear hTl hfit h hd hd' hmt hT hP hl hok hnm hv k0 k1 hw0 hwa n0 n1 b0 b1 za K KF KE
    cases vv with
    | false =>
      clear HX HY HH HG HS HTl
      go_enter Tryz.func5, Tryz.ntmps5
      go_wp2_with (rw [HW.out])
      refine HFT.out.mono ?_
      rintro e w1 ⟨rfl, b1⟩
      clear m0 m1 m2 m3 m4 m5 m6 m7 m8 m9 m10 m11 m12
      obtain ⟨x0, x1, x2, x3, x4, x5, x6, x7, x8, x9, x10, x11, x12⟩ := (BX.out _ b1).c13
      go_wp2_with fail
      refine (HVL.out _ (HB.out _ b1)).mono ?_
      rintro e w2 ⟨rfl, b2⟩
      clear x0 x1 x2 x3 x4 x5 x6 x7 x8 x9 x10 x11 x12
      go_wp2_with fail
      refine (KA.out _ (HB.out _ (b1.trans (b2.mono b1.size)))).mono ?_
      rintro e w3 ⟨rfl, b3⟩
      go_wp2
      go_ret
      exact ⟨rfl, (HB.out _ (b1.trans (b2.mono b1.size))).trans (b3.mono (HB.out _ (b1.trans (b2.mono b1.size))).size)⟩
    | true =>
      cases hkk : (x.k != m.k) with
      | true =>
        clear HX HY HH HG HS HTl
        go_enter Tryz.func5, Tryz.ntmps5
        go_wp2_with (rw [HW.out])
        refine HFT.out.mono ?_
        rintro e w1 ⟨rfl, b1⟩
        clear m0 m1 m2 m3 m4 m5 m6 m7 m8 m9 m10 m11 m12
        obtain ⟨x0, x1, x2, x3, x4, x5, x6, x7, x8, x9, x10, x11, x12⟩ := (BX.out _ b1).c13
        go_wp2_with fail
        refine (HVL.out _ (HB.out _ b1)).mono ?_
        rintro e w2 ⟨rfl, b2⟩
        clear x0 x1 x2 x3 x4 x5 x6 x7 x8 x9 x10 x11 x12
        have b12 := b1.trans (b2.mono b1.size)
        obtain ⟨x0, x1, x2, x3, x4, x5, x6, x7, x8, x9, x10, x11, x12⟩ := (BX.out _ b12).c13
        obtain ⟨m0, m1, m2, m3, m4, m5, m6, m7, m8, m9, m10, m11, m12⟩ := (BM.out _ b12).c13
        go_wp2_with fail
        refine (KA.out _ (HB.out _ b12)).mono ?_
        rintro e w3 ⟨rfl, b3⟩
        clear x0 x1 x2 x3 x4 x5 x6 x7 x8 x9 x10 x11 x12
        clear m0 m1 m2 m3 m4 m5 m6 m7 m8 m9 m10 m11 m12
        go_wp2
        go_ret
        exact ⟨rfl, (HB.out _ b12).trans (b3.mono (HB.out _ b12).size)⟩
      | false =>
        have hke : x.k = m.k := by simpa using hkk
        have HKE := Lib.hid hke
        clear hke
        go_enter Tryz.func5, Tryz.ntmps5
        go_wp2_with (rw [HW.out])
        refine HFT.out.mono ?_
        rintro e w1 ⟨rfl, b1⟩
        clear m0 m1 m2 m3 m4 m5 m6 m7 m8 m9 m10 m11 m12
        obtain ⟨x0, x1, x2, x3, x4, x5, x6, x7, x8, x9, x10, x11, x12⟩ := (BX.out _ b1).c13
        go_wp2_with fail
        refine (HVL.out _ (HB.out _ b1)).mono ?_
        rintro e w2 ⟨rfl, b2⟩
        clear x0 x1 x2 x3 x4 x5 x6 x7 x8 x9 x10 x11 x12
        have b12 := b1.trans (b2.mono b1.size)
        have X2 := BX.out _ b12
        have M2 := BM.out _ b12
        have B2 := HB.out _ b12
        obtain ⟨x0, x1, x2, x3, x4, x5, x6, x7, x8, x9, x10, x11, x12⟩ := X2.c13
        obtain ⟨m0, m1, m2, m3, m4, m5, m6, m7, m8, m9, m10, m11, m12⟩ := M2.c13
        have xf := X2.f 1
        have X3 := X2.set 1 (.string m.tp)
        have M3 := M2.other ⟨w.heap.size + 1, 1, none⟩ (.string m.tp) (by simp)
        have B3 : Below w.heap.size w (w2.setCell ⟨w.heap.size + 1, 1, none⟩ (.string m.tp)) := B2.setCell (p := ⟨w.heap.size + 1, 1, none⟩) (by simp) _
        obtain ⟨w3, hw3⟩ : ∃ w3, w3 = w2.setCell ⟨w.heap.size + 1, 1, none⟩ (.string m.tp) := ⟨_, rfl⟩
        have HW3 := Lib.hid hw3.symm
        rw [← hw3] at X3 M3 B3
        have X4 : Bk w3 (w.heap.size + 1) #[.int .i64 x.id, .string m.tp, .int .i64 m.k, .int .i64 x.i, .int .u64 x.u, .string x.s, .slice x.a x.l x.c, .int .i64 x.ti, .int .i64 x.un, .string x.rp, .int .i64 x.co, .int .i64 x.pr, .int .i64 x.ho] 28 := by rw [← HKE.out]; exact X3
        have HMX := Lib.hid (And.intro M3 X4)
        have B3H := Lib.hid B3
        clear X2 M2 X3 M3 X4 B2 B3 hw3
        go_wp2_with (rw [HW3.out])
        clear x0 x1 x2 x3 x4 x5 x6 x7 x8 x9 x10 x11 x12
        clear m0 m1 m2 m3 m4 m5 m6 m7 m8 m9 m10 m11 m12
        clear xf
        have XS : Hid (∀ wx, Below w3.heap.size w3 wx → ((wx.cell? ⟨w.heap.size, 0, none⟩ = some (.int .i64 m.id) ∧ wx.cell? ⟨w.heap.size, 1, none⟩ = some (.string m.tp) ∧ wx.cell? ⟨w.heap.size, 2, none⟩ = some (.int .i64 m.k) ∧ wx.cell? ⟨w.heap.size, 3, none⟩ = some (.int .i64 m.i) ∧ wx.cell? ⟨w.heap.size, 4, none⟩ = some (.int .u64 m.u) ∧ wx.cell? ⟨w.heap.size, 5, none⟩ = some (.string m.s) ∧ wx.cell? ⟨w.heap.size, 6, none⟩ = some (.slice m.a m.l m.c) ∧ wx.cell? ⟨w.heap.size, 7, none⟩ = some (.int .i64 m.ti) ∧ wx.cell? ⟨w.heap.size, 8, none⟩ = some (.int .i64 m.un) ∧ wx.cell? ⟨w.heap.size, 9, none⟩ = some (.string m.rp) ∧ wx.cell? ⟨w.heap.size, 10, none⟩ = some (.int .i64 m.co) ∧ wx.cell? ⟨w.heap.size, 11, none⟩ = some (.int .i64 m.pr) ∧ wx.cell? ⟨w.heap.size, 12, none⟩ = some (.int .i64 m.ho)) ∧ wx.cell? ⟨w.heap.size + 1, 0, none⟩ = some (.int .i64 x.id) ∧ wx.cell? ⟨w.heap.size + 1, 1, none⟩ = some (.string m.tp) ∧ wx.cell? ⟨w.heap.size + 1, 2, none⟩ = some (.int .i64 m.k) ∧ wx.cell? ⟨w.heap.size + 1, 3, none⟩ = some (.int .i64 x.i) ∧ wx.cell? ⟨w.heap.size + 1, 4, none⟩ = some (.int .u64 x.u) ∧ wx.cell? ⟨w.heap.size + 1, 5, none⟩ = some (.string x.s) ∧ wx.cell? ⟨w.heap.size + 1, 6, none⟩ = some (.slice x.a x.l x.c) ∧ wx.cell? ⟨w.heap.size + 1, 7, none⟩ = some (.int .i64 x.ti) ∧ wx.cell? ⟨w.heap.size + 1, 8, none⟩ = some (.int .i64 x.un) ∧ wx.cell? ⟨w.heap.size + 1, 9, none⟩ = some (.string x.rp) ∧ wx.cell? ⟨w.heap.size + 1, 10, none⟩ = some (.int .i64 x.co) ∧ wx.cell? ⟨w.heap.size + 1, 11, none⟩ = some (.int .i64 x.pr) ∧ wx.cell? ⟨w.heap.size + 1, 12, none⟩ = some (.int .i64 x.ho))) := fun wx hx => ⟨(HMX.out.1.below hx).c13, (HMX.out.2.below hx).c13⟩
        have HB3 : Hid (∀ wx, Below w3.heap.size w3 wx → Below w.heap.size w wx) := fun wx hx => B3H.out.trans (hx.mono B3H.out.size)
        have HX3 : Hid (∀ wx, Below w3.heap.size w3 wx → Calls Tryz.prog 9 #[.slice ad L.length cap, .agg #[.int .i64 m.id, .string m.tp, .int .i64 m.k, .int .i64 m.i, .int .u64 m.u, .string m.s, .slice m.a m.l m.c, .int .i64 m.ti, .int .i64 m.un, .string m.rp, .int .i64 m.co, .int .i64 m.pr, .int .i64 m.ho]] wx fun e w' => ∃ sv, e = .returned (.agg #[sv, .bool E]) ∧ Ri w' sv TT ∧ Below wx.heap.size wx w') := fun wx hx => HX.out wx (HB3.out wx hx)
        have HY3 : Hid (∀ wx, Below w3.heap.size w3 wx → Calls Tryz.prog 9 #[.slice ad L.length cap, .agg #[.int .i64 x.id, .string m.tp, .int .i64 m.k, .int .i64 x.i, .int .u64 x.u, .string x.s, .slice x.a x.l x.c, .int .i64 x.ti, .int .i64 x.un, .string x.rp, .int .i64 x.co, .int .i64 x.pr, .int .i64 x.ho]] wx fun e w' => ∃ sv, e = .returned (.agg #[sv, .bool E]) ∧ Ri w' sv TT ∧ Below wx.heap.size wx w') := fun wx hx => HY.out wx (HB3.out wx hx)
        apply tail_of (F := fun pa pb W a1 c1 a2 c2 => Below w3.heap.size w3 W ∧ Bk W pa #[.slice a1 TT.length c1, .bool E] 33 ∧ Bk W pb #[.slice a2 TT.length c2, .bool E] 33 ∧ Ri W (.slice a1 TT.length c1) TT ∧ Ri W (.slice a2 TT.length c2) TT)
        · intro TAIL
          have b1d := Below.drew (Below.refl w3.heap.size w3)
          refine wp_region_held_drew (S := (fun wx => (wx.cell? ⟨w.heap.size, 0, none⟩ = some (.int .i64 m.id) ∧ wx.cell? ⟨w.heap.size, 1, none⟩ = some (.string m.tp) ∧ wx.cell? ⟨w.heap.size, 2, none⟩ = some (.int .i64 m.k) ∧ wx.cell? ⟨w.heap.size, 3, none⟩ = some (.int .i64 m.i) ∧ wx.cell? ⟨w.heap.size, 4, none⟩ = some (.int .u64 m.u) ∧ wx.cell? ⟨w.heap.size, 5, none⟩ = some (.string m.s) ∧ wx.cell? ⟨w.heap.size, 6, none⟩ = some (.slice m.a m.l m.c) ∧ wx.cell? ⟨w.heap.size, 7, none⟩ = some (.int .i64 m.ti) ∧ wx.cell? ⟨w.heap.size, 8, none⟩ = some (.int .i64 m.un) ∧ wx.cell? ⟨w.heap.size, 9, none⟩ = some (.string m.rp) ∧ wx.cell? ⟨w.heap.size, 10, none⟩ = some (.int .i64 m.co) ∧ wx.cell? ⟨w.heap.size, 11, none⟩ = some (.int .i64 m.pr) ∧ wx.cell? ⟨w.heap.size, 12, none⟩ = some (.int .i64 m.ho)) ∧ wx.cell? ⟨w.heap.size + 1, 0, none⟩ = some (.int .i64 x.id) ∧ wx.cell? ⟨w.heap.size + 1, 1, none⟩ = some (.string m.tp) ∧ wx.cell? ⟨w.heap.size + 1, 2, none⟩ = some (.int .i64 m.k) ∧ wx.cell? ⟨w.heap.size + 1, 3, none⟩ = some (.int .i64 x.i) ∧ wx.cell? ⟨w.heap.size + 1, 4, none⟩ = some (.int .u64 x.u) ∧ wx.cell? ⟨w.heap.size + 1, 5, none⟩ = some (.string x.s) ∧ wx.cell? ⟨w.heap.size + 1, 6, none⟩ = some (.slice x.a x.l x.c) ∧ wx.cell? ⟨w.heap.size + 1, 7, none⟩ = some (.int .i64 x.ti) ∧ wx.cell? ⟨w.heap.size + 1, 8, none⟩ = some (.int .i64 x.un) ∧ wx.cell? ⟨w.heap.size + 1, 9, none⟩ = some (.string x.rp) ∧ wx.cell? ⟨w.heap.size + 1, 10, none⟩ = some (.int .i64 x.co) ∧ wx.cell? ⟨w.heap.size + 1, 11, none⟩ = some (.int .i64 x.pr) ∧ wx.cell? ⟨w.heap.size + 1, 12, none⟩ = some (.int .i64 x.ho))) (by kernel_rfl) (XS.out _ b1d) (fun hHeld => ?_)
          generalize w3.drew = v0 at *
          refine wpAnyH_take (i := 0) (oi := { dst := some 32, op := Op.move (Operand.tmp 0), type := 22, pos := _, after := #[], guard := none }) (v := ?tpa1) rfl (by kernel_rfl) (by kernel_rfl) (by kernel_rfl) (fun _ _ _ h => h) (Or.inl ⟨by rfl, ?upa1⟩) (by assumption) ?rpa1
          case upa1 => (intro w hSw; (try dsimp only at hSw); go_simp; (try with_reducible rfl))
          simp only [Act.put, List.setIfInBounds_toArray, List.set_cons_zero, List.set_cons_succ]
          refine wpAnyH_take (i := 1) (oi := { dst := some 33, op := Op.load 28 (Operand.tmp 4), type := 28, pos := _, after := #[], guard := none }) (v := ?tpa2) rfl (by kernel_rfl) (by kernel_rfl) (by kernel_rfl) (fun _ _ _ h => h) (Or.inl ⟨by rfl, ?upa2⟩) (by assumption) ?rpa2
          case upa2 => (intro w hSw; (try dsimp only at hSw); go_simp; (try with_reducible rfl))
          simp only [Act.put, List.setIfInBounds_toArray, List.set_cons_zero, List.set_cons_succ]
          refine wpAnyH_take (i := 3) (oi := { dst := some 35, op := Op.move (Operand.tmp 0), type := 22, pos := _, after := #[], guard := none }) (v := ?tpa3) rfl (by kernel_rfl) (by kernel_rfl) (by kernel_rfl) (fun _ _ _ h => h) (Or.inl ⟨by rfl, ?upa3⟩) (by assumption) ?rpa3
          case upa3 => (intro w hSw; (try dsimp only at hSw); go_simp; (try with_reducible rfl))
          simp only [Act.put, List.setIfInBounds_toArray, List.set_cons_zero, List.set_cons_succ]
          refine wpAnyH_take (i := 4) (oi := { dst := some 36, op := Op.load 28 (Operand.tmp 5), type := 28, pos := _, after := #[], guard := none }) (v := ?tpa4) rfl (by kernel_rfl) (by kernel_rfl) (by kernel_rfl) (fun _ _ _ h => h) (Or.inl ⟨by rfl, ?upa4⟩) (by assumption) ?rpa4
          case upa4 => (intro w hSw; (try dsimp only at hSw); go_simp; (try with_reducible rfl))
          simp only [Act.put, List.setIfInBounds_toArray, List.set_cons_zero, List.set_cons_succ]
          refine wpAnyH_ready (rs := [2, 6, 7]) (by kernel_rfl) (by simp) ?_
          refine AllReadyH.cons (o := { dst := some 34, op := Op.call { callee := Callee.value (Operand.func 9), args := #[Operand.tmp 32, Operand.tmp 33], argTypes := #[22, 28] }, type := 33, pos := _, after := #[{ on := 0, ground := Ground.data }, { on := 1, ground := Ground.data }], guard := none }) rfl (fun K hK => ?_) (AllReadyH.cons (o := { dst := some 7, op := Op.alloc 33, type := 0, pos := _, after := #[], guard := none }) rfl (fun K hK => ?_) (AllReadyH.cons (o := { dst := some 8, op := Op.alloc 33, type := 0, pos := _, after := #[], guard := none }) rfl (fun K hK => ?_) AllReadyH.nil))
          · go_simp
            refine (HX3.out _ b1d).mono ?_
            rintro e v1 ⟨sv1, rfl, ri1, x1⟩
            obtain ⟨ad1, cp1, rfl, -⟩ := id ri1
            have b1 := b1d.trans (x1.mono b1d.size)
            go_wp2_with fail
            refine hK.out _ _ (XS.out _ b1) (fun hH1 => ?_)
            clear hK K
            (try simp only [Act.put, List.setIfInBounds_toArray, List.set_cons_zero, List.set_cons_succ])
            refine wpAnyH_ready (rs := [5, 6, 7]) (by kernel_rfl) (by simp) ?_
            refine AllReadyH.cons (o := { dst := some 37, op := Op.call { callee := Callee.value (Operand.func 9), args := #[Operand.tmp 35, Operand.tmp 36], argTypes := #[22, 28] }, type := 33, pos := _, after := #[{ on := 3, ground := Ground.data }, { on := 4, ground := Ground.data }, { on := 2, ground := Ground.chain }], guard := none }) rfl (fun K hK => ?_) (AllReadyH.cons (o := { dst := some 7, op := Op.alloc 33, type := 0, pos := _, after := #[], guard := none }) rfl (fun K hK => ?_) (AllReadyH.cons (o := { dst := some 8, op := Op.alloc 33, type := 0, pos := _, after := #[], guard := none }) rfl (fun K hK => ?_) AllReadyH.nil))
            · go_simp
              refine (HY3.out _ b1).mono ?_
              rintro e v2 ⟨sv2, rfl, ri2, x2⟩
              obtain ⟨ad2, cp2, rfl, -⟩ := id ri2
              have b2 := b1.trans (x2.mono b1.size)
              have RR2 := Ri.below ri1 x2
              go_wp2_with fail
              refine hK.out _ _ (XS.out _ b2) (fun hH2 => ?_)
              clear hK K
              (try simp only [Act.put, List.setIfInBounds_toArray, List.set_cons_zero, List.set_cons_succ])
              refine wpAnyH_ready (rs := [6, 7]) (by kernel_rfl) (by simp) ?_
              refine AllReadyH.cons (o := { dst := some 7, op := Op.alloc 33, type := 0, pos := _, after := #[], guard := none }) rfl (fun K hK => ?_) (AllReadyH.cons (o := { dst := some 8, op := Op.alloc 33, type := 0, pos := _, after := #[], guard := none }) rfl (fun K hK => ?_) AllReadyH.nil)
              · go_simp
                have x3 := below1 v2 (.cells #[.slice none 0 0, .bool false] 33)
                have N3 := Bk.new v2 #[.slice none 0 0, .bool false] 33
                have b3 := b2.trans (x3.mono b2.size)
                have R03 := Ri.below RR2 x3
                have R13 := Ri.below ri2 x3
                have sz3 := b2.size
                refine hK.out _ _ (XS.out _ b3) (fun hH3 => ?_)
                clear x3
                generalize v2.alloc (.cells #[.slice none 0 0, .bool false] 33) = u3 at *
                generalize hp3 : v2.heap.size = p3 at *
                clear hK K
                (try simp only [Act.put, List.setIfInBounds_toArray, List.set_cons_zero, List.set_cons_succ])
                refine wpAnyH_ready (rs := [7]) (by kernel_rfl) (by simp) ?_
                refine AllReadyH.cons (o := { dst := some 8, op := Op.alloc 33, type := 0, pos := _, after := #[], guard := none }) rfl (fun K hK => ?_) AllReadyH.nil
                go_simp
                have x4 := below1 u3 (.cells #[.slice none 0 0, .bool false] 33)
                have N4 := Bk.new u3 #[.slice none 0 0, .bool false] 33
                have b4 := b3.trans (x4.mono b3.size)
                have ne4 := N3.lt
                have P04 := Bk.below N3 x4
                have R04 := Ri.below R03 x4
                have R14 := Ri.below R13 x4
                have sz4 := b3.size
                refine hK.out _ _ (XS.out _ b4) (fun hH4 => ?_)
                clear x4
                generalize u3.alloc (.cells #[.slice none 0 0, .bool false] 33) = u4 at *
                generalize hp4 : u3.heap.size = p4 at *
                clear hK K
                (try simp only [Act.put, List.setIfInBounds_toArray, List.set_cons_zero, List.set_cons_succ])
                refine wpAnyH_ready (rs := [8]) (by kernel_rfl) (by simp) ?_
                refine AllReadyH.cons (o := { dst := none, op := Op.store 33 (Operand.tmp 7) (Operand.tmp 34), type := 0, pos := _, after := #[{ on := 6, ground := Ground.data }, { on := 2, ground := Ground.data }, { on := 5, ground := Ground.chain }, { on := 0, ground := Ground.phase }, { on := 1, ground := Ground.phase }, { on := 2, ground := Ground.phase }, { on := 3, ground := Ground.textOnly Departure.lateStores }, { on := 4, ground := Ground.textOnly Departure.lateStores }, { on := 5, ground := Ground.textOnly Departure.lateStoresUnsure }, { on := 6, ground := Ground.phase }, { on := 7, ground := Ground.phase }], guard := none }) rfl (fun K hK => ?_) AllReadyH.nil
                obtain ⟨q0, q1⟩ := Bk.c2 P04
                have qf := Bk.f P04
                go_simp
                clear q0 q1 qf
                have P05 := Bk.full2 P04 (.slice ad1 TT.length cp1) (.bool E)
                have P15 := Bk.set2 (M := p3) N4 (by omega) (.slice ad1 TT.length cp1) (.bool E)
                have R05 := Ri.set2 R04 P04 (.slice ad1 TT.length cp1) (.bool E)
                have R15 := Ri.set2 R14 P04 (.slice ad1 TT.length cp1) (.bool E)
                have b5 := below_set2 (M := p3) b4 (by omega) (.slice ad1 TT.length cp1) (.bool E)
                refine hK.out _ _ (XS.out _ b5) (fun hH5 => ?_)
                generalize (u4.setCell ⟨p3, 0, none⟩ (.slice ad1 TT.length cp1)).setCell ⟨p3, 1, none⟩ (.bool E) = u5 at *
                clear hK K
                (try simp only [Act.put, List.setIfInBounds_toArray, List.set_cons_zero, List.set_cons_succ])
                refine wpAnyH_ready (rs := [9]) (by kernel_rfl) (by simp) ?_
                refine AllReadyH.cons (o := { dst := none, op := Op.store 33 (Operand.tmp 8) (Operand.tmp 37), type := 0, pos := _, after := #[{ on := 7, ground := Ground.data }, { on := 5, ground := Ground.data }, { on := 8, ground := Ground.chain }, { on := 0, ground := Ground.phase }, { on := 1, ground := Ground.phase }, { on := 2, ground := Ground.phase }, { on := 3, ground := Ground.phase }, { on := 4, ground := Ground.phase }, { on := 5, ground := Ground.phase }, { on := 6, ground := Ground.phase }, { on := 7, ground := Ground.phase }, { on := 8, ground := Ground.phase }], guard := none }) rfl (fun K hK => ?_) AllReadyH.nil
                obtain ⟨q0, q1⟩ := Bk.c2 P15
                have qf := Bk.f P15
                go_simp
                clear q0 q1 qf
                have P16 := Bk.full2 P15 (.slice ad2 TT.length cp2) (.bool E)
                have P06 := Bk.set2 (M := p4) P05 (by omega) (.slice ad2 TT.length cp2) (.bool E)
                have R06 := Ri.set2 R05 P15 (.slice ad2 TT.length cp2) (.bool E)
                have R16 := Ri.set2 R15 P15 (.slice ad2 TT.length cp2) (.bool E)
                have b6 := below_set2 (M := p4) b5 (by omega) (.slice ad2 TT.length cp2) (.bool E)
                refine hK.out _ _ (XS.out _ b6) (fun hH6 => ?_)
                generalize (u5.setCell ⟨p4, 0, none⟩ (.slice ad2 TT.length cp2)).setCell ⟨p4, 1, none⟩ (.bool E) = u6 at *
                clear hK K
                (try simp only [Act.put, List.setIfInBounds_toArray, List.set_cons_zero, List.set_cons_succ])
                refine wpAnyH_done (by kernel_rfl) ?_ _
                exact TAIL p3 p4 u6 ad1 cp1 ad2 cp2 ⟨b6, P06, P16, R06, R16⟩
              · go_simp
                have x7 := below1 v2 (.cells #[.slice none 0 0, .bool false] 33)
                have N7 := Bk.new v2 #[.slice none 0 0, .bool false] 33
                have b7 := b2.trans (x7.mono b2.size)
                have R07 := Ri.below RR2 x7
                have R17 := Ri.below ri2 x7
                have sz7 := b2.size
                refine hK.out _ _ (XS.out _ b7) (fun hH7 => ?_)
                clear x7
                generalize v2.alloc (.cells #[.slice none 0 0, .bool false] 33) = u7 at *
                generalize hp7 : v2.heap.size = p7 at *
                clear hK K
                (try simp only [Act.put, List.setIfInBounds_toArray, List.set_cons_zero, List.set_cons_succ])
                refine wpAnyH_ready (rs := [6]) (by kernel_rfl) (by simp) ?_
                refine AllReadyH.cons (o := { dst := some 7, op := Op.alloc 33, type := 0, pos := _, after := #[], guard := none }) rfl (fun K hK => ?_) AllReadyH.nil
                go_simp
                have x8 := below1 u7 (.cells #[.slice none 0 0, .bool false] 33)
                have N8 := Bk.new u7 #[.slice none 0 0, .bool false] 33
                have b8 := b7.trans (x8.mono b7.size)
                have ne8 := N7.lt
                have P18 := Bk.below N7 x8
                have R08 := Ri.below R07 x8
                have R18 := Ri.below R17 x8
                have sz8 := b7.size
                refine hK.out _ _ (XS.out _ b8) (fun hH8 => ?_)
                clear x8
                generalize u7.alloc (.cells #[.slice none 0 0, .bool false] 33) = u8 at *
                generalize hp8 : u7.heap.size = p8 at *
                clear hK K
                (try simp only [Act.put, List.setIfInBounds_toArray, List.set_cons_zero, List.set_cons_succ])
                refine wpAnyH_ready (rs := [8]) (by kernel_rfl) (by simp) ?_
                refine AllReadyH.cons (o := { dst := none, op := Op.store 33 (Operand.tmp 7) (Operand.tmp 34), type := 0, pos := _, after := #[{ on := 6, ground := Ground.data }, { on := 2, ground := Ground.data }, { on := 5, ground := Ground.chain }, { on := 0, ground := Ground.phase }, { on := 1, ground := Ground.phase }, { on := 2, ground := Ground.phase }, { on := 3, ground := Ground.textOnly Departure.lateStores }, { on := 4, ground := Ground.textOnly Departure.lateStores }, { on := 5, ground := Ground.textOnly Departure.lateStoresUnsure }, { on := 6, ground := Ground.phase }, { on := 7, ground := Ground.phase }], guard := none }) rfl (fun K hK => ?_) AllReadyH.nil
                obtain ⟨q0, q1⟩ := Bk.c2 N8
                have qf := Bk.f N8
                go_simp
                clear q0 q1 qf
                have P09 := Bk.full2 N8 (.slice ad1 TT.length cp1) (.bool E)
                have P19 := Bk.set2 (M := p8) P18 (by omega) (.slice ad1 TT.length cp1) (.bool E)
                have R09 := Ri.set2 R08 N8 (.slice ad1 TT.length cp1) (.bool E)
                have R19 := Ri.set2 R18 N8 (.slice ad1 TT.length cp1) (.bool E)
                have b9 := below_set2 (M := p8) b8 (by omega) (.slice ad1 TT.length cp1) (.bool E)
                refine hK.out _ _ (XS.out _ b9) (fun hH9 => ?_)
                generalize (u8.setCell ⟨p8, 0, none⟩ (.slice ad1 TT.length cp1)).setCell ⟨p8, 1, none⟩ (.bool E) = u9 at *
                clear hK K
                (try simp only [Act.put, List.setIfInBounds_toArray, List.set_cons_zero, List.set_cons_succ])
                refine wpAnyH_ready (rs := [9]) (by kernel_rfl) (by simp) ?_
                refine AllReadyH.cons (o := { dst := none, op := Op.store 33 (Operand.tmp 8) (Operand.tmp 37), type := 0, pos := _, after := #[{ on := 7, ground := Ground.data }, { on := 5, ground := Ground.data }, { on := 8, ground := Ground.chain }, { on := 0, ground := Ground.phase }, { on := 1, ground := Ground.phase }, { on := 2, ground := Ground.phase }, { on := 3, ground := Ground.phase }, { on := 4, ground := Ground.phase }, { on := 5, ground := Ground.phase }, { on := 6, ground := Ground.phase }, { on := 7, ground := Ground.phase }, { on := 8, ground := Ground.phase }], guard := none }) rfl (fun K hK => ?_) AllReadyH.nil
                obtain ⟨q0, q1⟩ := Bk.c2 P19
                have qf := Bk.f P19
                go_simp
                clear q0 q1 qf
                have P110 := Bk.full2 P19 (.slice ad2 TT.length cp2) (.bool E)
                have P010 := Bk.set2 (M := p7) P09 (by omega) (.slice ad2 TT.length cp2) (.bool E)
                have R010 := Ri.set2 R09 P19 (.slice ad2 TT.length cp2) (.bool E)
                have R110 := Ri.set2 R19 P19 (.slice ad2 TT.length cp2) (.bool E)
                have b10 := below_set2 (M := p7) b9 (by omega) (.slice ad2 TT.length cp2) (.bool E)
                refine hK.out _ _ (XS.out _ b10) (fun hH10 => ?_)
                generalize (u9.setCell ⟨p7, 0, none⟩ (.slice ad2 TT.length cp2)).setCell ⟨p7, 1, none⟩ (.bool E) = u10 at *
                clear hK K
                (try simp only [Act.put, List.setIfInBounds_toArray, List.set_cons_zero, List.set_cons_succ])
                refine wpAnyH_done (by kernel_rfl) ?_ _
                exact TAIL p8 p7 u10 ad1 cp1 ad2 cp2 ⟨b10, P010, P110, R010, R110⟩
            · go_simp
              have x11 := below1 v1 (.cells #[.slice none 0 0, .bool false] 33)
              have N11 := Bk.new v1 #[.slice none 0 0, .bool false] 33
              have b11 := b1.trans (x11.mono b1.size)
              have R011 := Ri.below ri1 x11
              have sz11 := b1.size
              refine hK.out _ _ (XS.out _ b11) (fun hH11 => ?_)
              clear x11
              generalize v1.alloc (.cells #[.slice none 0 0, .bool false] 33) = u11 at *
              generalize hp11 : v1.heap.size = p11 at *
              clear hK K
              (try simp only [Act.put, List.setIfInBounds_toArray, List.set_cons_zero, List.set_cons_succ])
              refine wpAnyH_ready (rs := [5, 7]) (by kernel_rfl) (by simp) ?_
              refine AllReadyH.cons (o := { dst := some 37, op := Op.call { callee := Callee.value (Operand.func 9), args := #[Operand.tmp 35, Operand.tmp 36], argTypes := #[22, 28] }, type := 33, pos := _, after := #[{ on := 3, ground := Ground.data }, { on := 4, ground := Ground.data }, { on := 2, ground := Ground.chain }], guard := none }) rfl (fun K hK => ?_) (AllReadyH.cons (o := { dst := some 8, op := Op.alloc 33, type := 0, pos := _, after := #[], guard := none }) rfl (fun K hK => ?_) AllReadyH.nil)
              · go_simp
                refine (HY3.out _ b11).mono ?_
                rintro e v12 ⟨sv12, rfl, ri12, x12⟩
                obtain ⟨ad12, cp12, rfl, -⟩ := id ri12
                have b12 := b11.trans (x12.mono b11.size)
                have P012 := Bk.below N11 x12
                have RR12 := Ri.below R011 x12
                go_wp2_with fail
                refine hK.out _ _ (XS.out _ b12) (fun hH12 => ?_)
                clear hK K
                (try simp only [Act.put, List.setIfInBounds_toArray, List.set_cons_zero, List.set_cons_succ])
                refine wpAnyH_ready (rs := [7]) (by kernel_rfl) (by simp) ?_
                refine AllReadyH.cons (o := { dst := some 8, op := Op.alloc 33, type := 0, pos := _, after := #[], guard := none }) rfl (fun K hK => ?_) AllReadyH.nil
                go_simp
                have x13 := below1 v12 (.cells #[.slice none 0 0, .bool false] 33)
                have N13 := Bk.new v12 #[.slice none 0 0, .bool false] 33
                have b13 := b12.trans (x13.mono b12.size)
                have ne13 := P012.lt
                have P013 := Bk.below P012 x13
                have R013 := Ri.below RR12 x13
                have R113 := Ri.below ri12 x13
                have sz13 := b12.size
                refine hK.out _ _ (XS.out _ b13) (fun hH13 => ?_)
                clear x13
                generalize v12.alloc (.cells #[.slice none 0 0, .bool false] 33) = u13 at *
                generalize hp13 : v12.heap.size = p13 at *
                clear hK K
                (try simp only [Act.put, List.setIfInBounds_toArray, List.set_cons_zero, List.set_cons_succ])
                refine wpAnyH_ready (rs := [8]) (by kernel_rfl) (by simp) ?_
                refine AllReadyH.cons (o := { dst := none, op := Op.store 33 (Operand.tmp 7) (Operand.tmp 34), type := 0, pos := _, after := #[{ on := 6, ground := Ground.data }, { on := 2, ground := Ground.data }, { on := 5, ground := Ground.chain }, { on := 0, ground := Ground.phase }, { on := 1, ground := Ground.phase }, { on := 2, ground := Ground.phase }, { on := 3, ground := Ground.textOnly Departure.lateStores }, { on := 4, ground := Ground.textOnly Departure.lateStores }, { on := 5, ground := Ground.textOnly Departure.lateStoresUnsure }, { on := 6, ground := Ground.phase }, { on := 7, ground := Ground.phase }], guard := none }) rfl (fun K hK => ?_) AllReadyH.nil
                obtain ⟨q0, q1⟩ := Bk.c2 P013
                have qf := Bk.f P013
                go_simp
                clear q0 q1 qf
                have P014 := Bk.full2 P013 (.slice ad1 TT.length cp1) (.bool E)
                have P114 := Bk.set2 (M := p11) N13 (by omega) (.slice ad1 TT.length cp1) (.bool E)
                have R014 := Ri.set2 R013 P013 (.slice ad1 TT.length cp1) (.bool E)
                have R114 := Ri.set2 R113 P013 (.slice ad1 TT.length cp1) (.bool E)
                have b14 := below_set2 (M := p11) b13 (by omega) (.slice ad1 TT.length cp1) (.bool E)
                refine hK.out _ _ (XS.out _ b14) (fun hH14 => ?_)
                generalize (u13.setCell ⟨p11, 0, none⟩ (.slice ad1 TT.length cp1)).setCell ⟨p11, 1, none⟩ (.bool E) = u14 at *
                clear hK K
                (try simp only [Act.put, List.setIfInBounds_toArray, List.set_cons_zero, List.set_cons_succ])
                refine wpAnyH_ready (rs := [9]) (by kernel_rfl) (by simp) ?_
                refine AllReadyH.cons (o := { dst := none, op := Op.store 33 (Operand.tmp 8) (Operand.tmp 37), type := 0, pos := _, after := #[{ on := 7, ground := Ground.data }, { on := 5, ground := Ground.data }, { on := 8, ground := Ground.chain }, { on := 0, ground := Ground.phase }, { on := 1, ground := Ground.phase }, { on := 2, ground := Ground.phase }, { on := 3, ground := Ground.phase }, { on := 4, ground := Ground.phase }, { on := 5, ground := Ground.phase }, { on := 6, ground := Ground.phase }, { on := 7, ground := Ground.phase }, { on := 8, ground := Ground.phase }], guard := none }) rfl (fun K hK => ?_) AllReadyH.nil
                obtain ⟨q0, q1⟩ := Bk.c2 P114
                have qf := Bk.f P114
                go_simp
                clear q0 q1 qf
                have P115 := Bk.full2 P114 (.slice ad12 TT.length cp12) (.bool E)
                have P015 := Bk.set2 (M := p13) P014 (by omega) (.slice ad12 TT.length cp12) (.bool E)
                have R015 := Ri.set2 R014 P114 (.slice ad12 TT.length cp12) (.bool E)
                have R115 := Ri.set2 R114 P114 (.slice ad12 TT.length cp12) (.bool E)
                have b15 := below_set2 (M := p13) b14 (by omega) (.slice ad12 TT.length cp12) (.bool E)
                refine hK.out _ _ (XS.out _ b15) (fun hH15 => ?_)
                generalize (u14.setCell ⟨p13, 0, none⟩ (.slice ad12 TT.length cp12)).setCell ⟨p13, 1, none⟩ (.bool E) = u15 at *
                clear hK K
                (try simp only [Act.put, List.setIfInBounds_toArray, List.set_cons_zero, List.set_cons_succ])
                refine wpAnyH_done (by kernel_rfl) ?_ _
                exact TAIL p11 p13 u15 ad1 cp1 ad12 cp12 ⟨b15, P015, P115, R015, R115⟩
              · go_simp
                have x16 := below1 u11 (.cells #[.slice none 0 0, .bool false] 33)
                have N16 := Bk.new u11 #[.slice none 0 0, .bool false] 33
                have b16 := b11.trans (x16.mono b11.size)
                have ne16 := N11.lt
                have P016 := Bk.below N11 x16
                have R016 := Ri.below R011 x16
                have sz16 := b11.size
                refine hK.out _ _ (XS.out _ b16) (fun hH16 => ?_)
                clear x16
                generalize u11.alloc (.cells #[.slice none 0 0, .bool false] 33) = u16 at *
                generalize hp16 : u11.heap.size = p16 at *
                clear hK K
                (try simp only [Act.put, List.setIfInBounds_toArray, List.set_cons_zero, List.set_cons_succ])
                refine wpAnyH_ready (rs := [5]) (by kernel_rfl) (by simp) ?_
                refine AllReadyH.cons (o := { dst := some 37, op := Op.call { callee := Callee.value (Operand.func 9), args := #[Operand.tmp 35, Operand.tmp 36], argTypes := #[22, 28] }, type := 33, pos := _, after := #[{ on := 3, ground := Ground.data }, { on := 4, ground := Ground.data }, { on := 2, ground := Ground.chain }], guard := none }) rfl (fun K hK => ?_) AllReadyH.nil
                go_simp
                refine (HY3.out _ b16).mono ?_
                rintro e v17 ⟨sv17, rfl, ri17, x17⟩
                obtain ⟨ad17, cp17, rfl, -⟩ := id ri17
                have b17 := b16.trans (x17.mono b16.size)
                have P017 := Bk.below P016 x17
                have P117 := Bk.below N16 x17
                have RR17 := Ri.below R016 x17
                go_wp2_with fail
                refine hK.out _ _ (XS.out _ b17) (fun hH17 => ?_)
                clear hK K
                (try simp only [Act.put, List.setIfInBounds_toArray, List.set_cons_zero, List.set_cons_succ])
                refine wpAnyH_ready (rs := [8]) (by kernel_rfl) (by simp) ?_
                refine AllReadyH.cons (o := { dst := none, op := Op.store 33 (Operand.tmp 7) (Operand.tmp 34), type := 0, pos := _, after := #[{ on := 6, ground := Ground.data }, { on := 2, ground := Ground.data }, { on := 5, ground := Ground.chain }, { on := 0, ground := Ground.phase }, { on := 1, ground := Ground.phase }, { on := 2, ground := Ground.phase }, { on := 3, ground := Ground.textOnly Departure.lateStores }, { on := 4, ground := Ground.textOnly Departure.lateStores }, { on := 5, ground := Ground.textOnly Departure.lateStoresUnsure }, { on := 6, ground := Ground.phase }, { on := 7, ground := Ground.phase }], guard := none }) rfl (fun K hK => ?_) AllReadyH.nil
                obtain ⟨q0, q1⟩ := Bk.c2 P017
                have qf := Bk.f P017
                go_simp
                clear q0 q1 qf
                have P018 := Bk.full2 P017 (.slice ad1 TT.length cp1) (.bool E)
                have P118 := Bk.set2 (M := p11) P117 (by omega) (.slice ad1 TT.length cp1) (.bool E)
                have R018 := Ri.set2 RR17 P017 (.slice ad1 TT.length cp1) (.bool E)
                have R118 := Ri.set2 ri17 P017 (.slice ad1 TT.length cp1) (.bool E)
                have b18 := below_set2 (M := p11) b17 (by omega) (.slice ad1 TT.length cp1) (.bool E)
                refine hK.out _ _ (XS.out _ b18) (fun hH18 => ?_)
                generalize (v17.setCell ⟨p11, 0, none⟩ (.slice ad1 TT.length cp1)).setCell ⟨p11, 1, none⟩ (.bool E) = u18 at *
                clear hK K
                (try simp only [Act.put, List.setIfInBounds_toArray, List.set_cons_zero, List.set_cons_succ])
                refine wpAnyH_ready (rs := [9]) (by kernel_rfl) (by simp) ?_
                refine AllReadyH.cons (o := { dst := none, op := Op.store 33 (Operand.tmp 8) (Operand.tmp 37), type := 0, pos := _, after := #[{ on := 7, ground := Ground.data }, { on := 5, ground := Ground.data }, { on := 8, ground := Ground.chain }, { on := 0, ground := Ground.phase }, { on := 1, ground := Ground.phase }, { on := 2, ground := Ground.phase }, { on := 3, ground := Ground.phase }, { on := 4, ground := Ground.phase }, { on := 5, ground := Ground.phase }, { on := 6, ground := Ground.phase }, { on := 7, ground := Ground.phase }, { on := 8, ground := Ground.phase }], guard := none }) rfl (fun K hK => ?_) AllReadyH.nil
                obtain ⟨q0, q1⟩ := Bk.c2 P118
                have qf := Bk.f P118
                go_simp
                clear q0 q1 qf
                have P119 := Bk.full2 P118 (.slice ad17 TT.length cp17) (.bool E)
                have P019 := Bk.set2 (M := p16) P018 (by omega) (.slice ad17 TT.length cp17) (.bool E)
                have R019 := Ri.set2 R018 P118 (.slice ad17 TT.length cp17) (.bool E)
                have R119 := Ri.set2 R118 P118 (.slice ad17 TT.length cp17) (.bool E)
                have b19 := below_set2 (M := p16) b18 (by omega) (.slice ad17 TT.length cp17) (.bool E)
                refine hK.out _ _ (XS.out _ b19) (fun hH19 => ?_)
                generalize (u18.setCell ⟨p16, 0, none⟩ (.slice ad17 TT.length cp17)).setCell ⟨p16, 1, none⟩ (.bool E) = u19 at *
                clear hK K
                (try simp only [Act.put, List.setIfInBounds_toArray, List.set_cons_zero, List.set_cons_succ])
                refine wpAnyH_done (by kernel_rfl) ?_ _
                exact TAIL p11 p16 u19 ad1 cp1 ad17 cp17 ⟨b19, P019, P119, R019, R119⟩
            · go_simp
              have x20 := below1 v1 (.cells #[.slice none 0 0, .bool false] 33)
              have N20 := Bk.new v1 #[.slice none 0 0, .bool false] 33
              have b20 := b1.trans (x20.mono b1.size)
              have R020 := Ri.below ri1 x20
              have sz20 := b1.size
              refine hK.out _ _ (XS.out _ b20) (fun hH20 => ?_)
              clear x20
              generalize v1.alloc (.cells #[.slice none 0 0, .bool false] 33) = u20 at *
              generalize hp20 : v1.heap.size = p20 at *
              clear hK K
              (try simp only [Act.put, List.setIfInBounds_toArray, List.set_cons_zero, List.set_cons_succ])
              refine wpAnyH_ready (rs := [5, 6]) (by kernel_rfl) (by simp) ?_
              refine AllReadyH.cons (o := { dst := some 37, op := Op.call { callee := Callee.value (Operand.func 9), args := #[Operand.tmp 35, Operand.tmp 36], argTypes := #[22, 28] }, type := 33, pos := _, after := #[{ on := 3, ground := Ground.data }, { on := 4, ground := Ground.data }, { on := 2, ground := Ground.chain }], guard := none }) rfl (fun K hK => ?_) (AllReadyH.cons (o := { dst := some 7, op := Op.alloc 33, type := 0, pos := _, after := #[], guard := none }) rfl (fun K hK => ?_) AllReadyH.nil)
              · go_simp
                refine (HY3.out _ b20).mono ?_
                rintro e v21 ⟨sv21, rfl, ri21, x21⟩
                obtain ⟨ad21, cp21, rfl, -⟩ := id ri21
                have b21 := b20.trans (x21.mono b20.size)
                have P121 := Bk.below N20 x21
                have RR21 := Ri.below R020 x21
                go_wp2_with fail
                refine hK.out _ _ (XS.out _ b21) (fun hH21 => ?_)
                clear hK K
                (try simp only [Act.put, List.setIfInBounds_toArray, List.set_cons_zero, List.set_cons_succ])
                refine wpAnyH_ready (rs := [6]) (by kernel_rfl) (by simp) ?_
                refine AllReadyH.cons (o := { dst := some 7, op := Op.alloc 33, type := 0, pos := _, after := #[], guard := none }) rfl (fun K hK => ?_) AllReadyH.nil
                go_simp
                have x22 := below1 v21 (.cells #[.slice none 0 0, .bool false] 33)
                have N22 := Bk.new v21 #[.slice none 0 0, .bool false] 33
                have b22 := b21.trans (x22.mono b21.size)
                have ne22 := P121.lt
                have P122 := Bk.below P121 x22
                have R022 := Ri.below RR21 x22
                have R122 := Ri.below ri21 x22
                have sz22 := b21.size
                refine hK.out _ _ (XS.out _ b22) (fun hH22 => ?_)
                clear x22
                generalize v21.alloc (.cells #[.slice none 0 0, .bool false] 33) = u22 at *
                generalize hp22 : v21.heap.size = p22 at *
                clear hK K
                (try simp only [Act.put, List.setIfInBounds_toArray, List.set_cons_zero, List.set_cons_succ])
                refine wpAnyH_ready (rs := [8]) (by kernel_rfl) (by simp) ?_
                refine AllReadyH.cons (o := { dst := none, op := Op.store 33 (Operand.tmp 7) (Operand.tmp 34), type := 0, pos := _, after := #[{ on := 6, ground := Ground.data }, { on := 2, ground := Ground.data }, { on := 5, ground := Ground.chain }, { on := 0, ground := Ground.phase }, { on := 1, ground := Ground.phase }, { on := 2, ground := Ground.phase }, { on := 3, ground := Ground.textOnly Departure.lateStores }, { on := 4, ground := Ground.textOnly Departure.lateStores }, { on := 5, ground := Ground.textOnly Departure.lateStoresUnsure }, { on := 6, ground := Ground.phase }, { on := 7, ground := Ground.phase }], guard := none }) rfl (fun K hK => ?_) AllReadyH.nil
                obtain ⟨q0, q1⟩ := Bk.c2 N22
                have qf := Bk.f N22
                go_simp
                clear q0 q1 qf
                have P023 := Bk.full2 N22 (.slice ad1 TT.length cp1) (.bool E)
                have P123 := Bk.set2 (M := p22) P122 (by omega) (.slice ad1 TT.length cp1) (.bool E)
                have R023 := Ri.set2 R022 N22 (.slice ad1 TT.length cp1) (.bool E)
                have R123 := Ri.set2 R122 N22 (.slice ad1 TT.length cp1) (.bool E)
                have b23 := below_set2 (M := p22) b22 (by omega) (.slice ad1 TT.length cp1) (.bool E)
                refine hK.out _ _ (XS.out _ b23) (fun hH23 => ?_)
                generalize (u22.setCell ⟨p22, 0, none⟩ (.slice ad1 TT.length cp1)).setCell ⟨p22, 1, none⟩ (.bool E) = u23 at *
                clear hK K
                (try simp only [Act.put, List.setIfInBounds_toArray, List.set_cons_zero, List.set_cons_succ])
                refine wpAnyH_ready (rs := [9]) (by kernel_rfl) (by simp) ?_
                refine AllReadyH.cons (o := { dst := none, op := Op.store 33 (Operand.tmp 8) (Operand.tmp 37), type := 0, pos := _, after := #[{ on := 7, ground := Ground.data }, { on := 5, ground := Ground.data }, { on := 8, ground := Ground.chain }, { on := 0, ground := Ground.phase }, { on := 1, ground := Ground.phase }, { on := 2, ground := Ground.phase }, { on := 3, ground := Ground.phase }, { on := 4, ground := Ground.phase }, { on := 5, ground := Ground.phase }, { on := 6, ground := Ground.phase }, { on := 7, ground := Ground.phase }, { on := 8, ground := Ground.phase }], guard := none }) rfl (fun K hK => ?_) AllReadyH.nil
                obtain ⟨q0, q1⟩ := Bk.c2 P123
                have qf := Bk.f P123
                go_simp
                clear q0 q1 qf
                have P124 := Bk.full2 P123 (.slice ad21 TT.length cp21) (.bool E)
                have P024 := Bk.set2 (M := p20) P023 (by omega) (.slice ad21 TT.length cp21) (.bool E)
                have R024 := Ri.set2 R023 P123 (.slice ad21 TT.length cp21) (.bool E)
                have R124 := Ri.set2 R123 P123 (.slice ad21 TT.length cp21) (.bool E)
                have b24 := below_set2 (M := p20) b23 (by omega) (.slice ad21 TT.length cp21) (.bool E)
                refine hK.out _ _ (XS.out _ b24) (fun hH24 => ?_)
                generalize (u23.setCell ⟨p20, 0, none⟩ (.slice ad21 TT.length cp21)).setCell ⟨p20, 1, none⟩ (.bool E) = u24 at *
                clear hK K
                (try simp only [Act.put, List.setIfInBounds_toArray, List.set_cons_zero, List.set_cons_succ])
                refine wpAnyH_done (by kernel_rfl) ?_ _
                exact TAIL p22 p20 u24 ad1 cp1 ad21 cp21 ⟨b24, P024, P124, R024, R124⟩
              · go_simp
                have x25 := below1 u20 (.cells #[.slice none 0 0, .bool false] 33)
                have N25 := Bk.new u20 #[.slice none 0 0, .bool false] 33
                have b25 := b20.trans (x25.mono b20.size)
                have ne25 := N20.lt
                have P125 := Bk.below N20 x25
                have R025 := Ri.below R020 x25
                have sz25 := b20.size
                refine hK.out _ _ (XS.out _ b25) (fun hH25 => ?_)
                clear x25
                generalize u20.alloc (.cells #[.slice none 0 0, .bool false] 33) = u25 at *
                generalize hp25 : u20.heap.size = p25 at *
                clear hK K
                (try simp only [Act.put, List.setIfInBounds_toArray, List.set_cons_zero, List.set_cons_succ])
                refine wpAnyH_ready (rs := [5]) (by kernel_rfl) (by simp) ?_
                refine AllReadyH.cons (o := { dst := some 37, op := Op.call { callee := Callee.value (Operand.func 9), args := #[Operand.tmp 35, Operand.tmp 36], argTypes := #[22, 28] }, type := 33, pos := _, after := #[{ on := 3, ground := Ground.data }, { on := 4, ground := Ground.data }, { on := 2, ground := Ground.chain }], guard := none }) rfl (fun K hK => ?_) AllReadyH.nil
                go_simp
                refine (HY3.out _ b25).mono ?_
                rintro e v26 ⟨sv26, rfl, ri26, x26⟩
                obtain ⟨ad26, cp26, rfl, -⟩ := id ri26
                have b26 := b25.trans (x26.mono b25.size)
                have P026 := Bk.below N25 x26
                have P126 := Bk.below P125 x26
                have RR26 := Ri.below R025 x26
                go_wp2_with fail
                refine hK.out _ _ (XS.out _ b26) (fun hH26 => ?_)
                clear hK K
                (try simp only [Act.put, List.setIfInBounds_toArray, List.set_cons_zero, List.set_cons_succ])
                refine wpAnyH_ready (rs := [8]) (by kernel_rfl) (by simp) ?_
                refine AllReadyH.cons (o := { dst := none, op := Op.store 33 (Operand.tmp 7) (Operand.tmp 34), type := 0, pos := _, after := #[{ on := 6, ground := Ground.data }, { on := 2, ground := Ground.data }, { on := 5, ground := Ground.chain }, { on := 0, ground := Ground.phase }, { on := 1, ground := Ground.phase }, { on := 2, ground := Ground.phase }, { on := 3, ground := Ground.textOnly Departure.lateStores }, { on := 4, ground := Ground.textOnly Departure.lateStores }, { on := 5, ground := Ground.textOnly Departure.lateStoresUnsure }, { on := 6, ground := Ground.phase }, { on := 7, ground := Ground.phase }], guard := none }) rfl (fun K hK => ?_) AllReadyH.nil
                obtain ⟨q0, q1⟩ := Bk.c2 P026
                have qf := Bk.f P026
                go_simp
                clear q0 q1 qf
                have P027 := Bk.full2 P026 (.slice ad1 TT.length cp1) (.bool E)
                have P127 := Bk.set2 (M := p25) P126 (by omega) (.slice ad1 TT.length cp1) (.bool E)
                have R027 := Ri.set2 RR26 P026 (.slice ad1 TT.length cp1) (.bool E)
                have R127 := Ri.set2 ri26 P026 (.slice ad1 TT.length cp1) (.bool E)
                have b27 := below_set2 (M := p25) b26 (by omega) (.slice ad1 TT.length cp1) (.bool E)
                refine hK.out _ _ (XS.out _ b27) (fun hH27 => ?_)
                generalize (v26.setCell ⟨p25, 0, none⟩ (.slice ad1 TT.length cp1)).setCell ⟨p25, 1, none⟩ (.bool E) = u27 at *
                clear hK K
                (try simp only [Act.put, List.setIfInBounds_toArray, List.set_cons_zero, List.set_cons_succ])
                refine wpAnyH_ready (rs := [9]) (by kernel_rfl) (by simp) ?_
                refine AllReadyH.cons (o := { dst := none, op := Op.store 33 (Operand.tmp 8) (Operand.tmp 37), type := 0, pos := _, after := #[{ on := 7, ground := Ground.data }, { on := 5, ground := Ground.data }, { on := 8, ground := Ground.chain }, { on := 0, ground := Ground.phase }, { on := 1, ground := Ground.phase }, { on := 2, ground := Ground.phase }, { on := 3, ground := Ground.phase }, { on := 4, ground := Ground.phase }, { on := 5, ground := Ground.phase }, { on := 6, ground := Ground.phase }, { on := 7, ground := Ground.phase }, { on := 8, ground := Ground.phase }], guard := none }) rfl (fun K hK => ?_) AllReadyH.nil
                obtain ⟨q0, q1⟩ := Bk.c2 P127
                have qf := Bk.f P127
                go_simp
                clear q0 q1 qf
                have P128 := Bk.full2 P127 (.slice ad26 TT.length cp26) (.bool E)
                have P028 := Bk.set2 (M := p20) P027 (by omega) (.slice ad26 TT.length cp26) (.bool E)
                have R028 := Ri.set2 R027 P127 (.slice ad26 TT.length cp26) (.bool E)
                have R128 := Ri.set2 R127 P127 (.slice ad26 TT.length cp26) (.bool E)
                have b28 := below_set2 (M := p20) b27 (by omega) (.slice ad26 TT.length cp26) (.bool E)
                refine hK.out _ _ (XS.out _ b28) (fun hH28 => ?_)
                generalize (u27.setCell ⟨p20, 0, none⟩ (.slice ad26 TT.length cp26)).setCell ⟨p20, 1, none⟩ (.bool E) = u28 at *
                clear hK K
                (try simp only [Act.put, List.setIfInBounds_toArray, List.set_cons_zero, List.set_cons_succ])
                refine wpAnyH_done (by kernel_rfl) ?_ _
                exact TAIL p25 p20 u28 ad1 cp1 ad26 cp26 ⟨b28, P028, P128, R028, R128⟩
          · go_simp
            have x29 := below1 v0 (.cells #[.slice none 0 0, .bool false] 33)
            have N29 := Bk.new v0 #[.slice none 0 0, .bool false] 33
            have b29 := b1d.trans (x29.mono b1d.size)
            have sz29 := b1d.size
            refine hK.out _ _ (XS.out _ b29) (fun hH29 => ?_)
            clear x29
            generalize v0.alloc (.cells #[.slice none 0 0, .bool false] 33) = u29 at *
            generalize hp29 : v0.heap.size = p29 at *
            clear hK K
            (try simp only [Act.put, List.setIfInBounds_toArray, List.set_cons_zero, List.set_cons_succ])
            refine wpAnyH_ready (rs := [2, 7]) (by kernel_rfl) (by simp) ?_
            refine AllReadyH.cons (o := { dst := some 34, op := Op.call { callee := Callee.value (Operand.func 9), args := #[Operand.tmp 32, Operand.tmp 33], argTypes := #[22, 28] }, type := 33, pos := _, after := #[{ on := 0, ground := Ground.data }, { on := 1, ground := Ground.data }], guard := none }) rfl (fun K hK => ?_) (AllReadyH.cons (o := { dst := some 8, op := Op.alloc 33, type := 0, pos := _, after := #[], guard := none }) rfl (fun K hK => ?_) AllReadyH.nil)
            · go_simp
              refine (HX3.out _ b29).mono ?_
              rintro e v30 ⟨sv30, rfl, ri30, x30⟩
              obtain ⟨ad30, cp30, rfl, -⟩ := id ri30
              have b30 := b29.trans (x30.mono b29.size)
              have P030 := Bk.below N29 x30
              go_wp2_with fail
              refine hK.out _ _ (XS.out _ b30) (fun hH30 => ?_)
              clear hK K
              (try simp only [Act.put, List.setIfInBounds_toArray, List.set_cons_zero, List.set_cons_succ])
              refine wpAnyH_ready (rs := [5, 7]) (by kernel_rfl) (by simp) ?_
              refine AllReadyH.cons (o := { dst := some 37, op := Op.call { callee := Callee.value (Operand.func 9), args := #[Operand.tmp 35, Operand.tmp 36], argTypes := #[22, 28] }, type := 33, pos := _, after := #[{ on := 3, ground := Ground.data }, { on := 4, ground := Ground.data }, { on := 2, ground := Ground.chain }], guard := none }) rfl (fun K hK => ?_) (AllReadyH.cons (o := { dst := some 8, op := Op.alloc 33, type := 0, pos := _, after := #[], guard := none }) rfl (fun K hK => ?_) AllReadyH.nil)
              · go_simp
                refine (HY3.out _ b30).mono ?_
                rintro e v31 ⟨sv31, rfl, ri31, x31⟩
                obtain ⟨ad31, cp31, rfl, -⟩ := id ri31
                have b31 := b30.trans (x31.mono b30.size)
                have P031 := Bk.below P030 x31
                have RR31 := Ri.below ri30 x31
                go_wp2_with fail
                refine hK.out _ _ (XS.out _ b31) (fun hH31 => ?_)
                clear hK K
                (try simp only [Act.put, List.setIfInBounds_toArray, List.set_cons_zero, List.set_cons_succ])
                refine wpAnyH_ready (rs := [7]) (by kernel_rfl) (by simp) ?_
                refine AllReadyH.cons (o := { dst := some 8, op := Op.alloc 33, type := 0, pos := _, after := #[], guard := none }) rfl (fun K hK => ?_) AllReadyH.nil
                go_simp
                have x32 := below1 v31 (.cells #[.slice none 0 0, .bool false] 33)
                have N32 := Bk.new v31 #[.slice none 0 0, .bool false] 33
                have b32 := b31.trans (x32.mono b31.size)
                have ne32 := P031.lt
                have P032 := Bk.below P031 x32
                have R032 := Ri.below RR31 x32
                have R132 := Ri.below ri31 x32
                have sz32 := b31.size
                refine hK.out _ _ (XS.out _ b32) (fun hH32 => ?_)
                clear x32
                generalize v31.alloc (.cells #[.slice none 0 0, .bool false] 33) = u32 at *
                generalize hp32 : v31.heap.size = p32 at *
                clear hK K
                (try simp only [Act.put, List.setIfInBounds_toArray, List.set_cons_zero, List.set_cons_succ])
                refine wpAnyH_ready (rs := [8]) (by kernel_rfl) (by simp) ?_
                refine AllReadyH.cons (o := { dst := none, op := Op.store 33 (Operand.tmp 7) (Operand.tmp 34), type := 0, pos := _, after := #[{ on := 6, ground := Ground.data }, { on := 2, ground := Ground.data }, { on := 5, ground := Ground.chain }, { on := 0, ground := Ground.phase }, { on := 1, ground := Ground.phase }, { on := 2, ground := Ground.phase }, { on := 3, ground := Ground.textOnly Departure.lateStores }, { on := 4, ground := Ground.textOnly Departure.lateStores }, { on := 5, ground := Ground.textOnly Departure.lateStoresUnsure }, { on := 6, ground := Ground.phase }, { on := 7, ground := Ground.phase }], guard := none }) rfl (fun K hK => ?_) AllReadyH.nil
                obtain ⟨q0, q1⟩ := Bk.c2 P032
                have qf := Bk.f P032
                go_simp
                clear q0 q1 qf
                have P033 := Bk.full2 P032 (.slice ad30 TT.length cp30) (.bool E)
                have P133 := Bk.set2 (M := p29) N32 (by omega) (.slice ad30 TT.length cp30) (.bool E)
                have R033 := Ri.set2 R032 P032 (.slice ad30 TT.length cp30) (.bool E)
                have R133 := Ri.set2 R132 P032 (.slice ad30 TT.length cp30) (.bool E)
                have b33 := below_set2 (M := p29) b32 (by omega) (.slice ad30 TT.length cp30) (.bool E)
                refine hK.out _ _ (XS.out _ b33) (fun hH33 => ?_)
                generalize (u32.setCell ⟨p29, 0, none⟩ (.slice ad30 TT.length cp30)).setCell ⟨p29, 1, none⟩ (.bool E) = u33 at *
                clear hK K
                (try simp only [Act.put, List.setIfInBounds_toArray, List.set_cons_zero, List.set_cons_succ])
                refine wpAnyH_ready (rs := [9]) (by kernel_rfl) (by simp) ?_
                refine AllReadyH.cons (o := { dst := none, op := Op.store 33 (Operand.tmp 8) (Operand.tmp 37), type := 0, pos := _, after := #[{ on := 7, ground := Ground.data }, { on := 5, ground := Ground.data }, { on := 8, ground := Ground.chain }, { on := 0, ground := Ground.phase }, { on := 1, ground := Ground.phase }, { on := 2, ground := Ground.phase }, { on := 3, ground := Ground.phase }, { on := 4, ground := Ground.phase }, { on := 5, ground := Ground.phase }, { on := 6, ground := Ground.phase }, { on := 7, ground := Ground.phase }, { on := 8, ground := Ground.phase }], guard := none }) rfl (fun K hK => ?_) AllReadyH.nil
                obtain ⟨q0, q1⟩ := Bk.c2 P133
                have qf := Bk.f P133
                go_simp
                clear q0 q1 qf
                have P134 := Bk.full2 P133 (.slice ad31 TT.length cp31) (.bool E)
                have P034 := Bk.set2 (M := p32) P033 (by omega) (.slice ad31 TT.length cp31) (.bool E)
                have R034 := Ri.set2 R033 P133 (.slice ad31 TT.length cp31) (.bool E)
                have R134 := Ri.set2 R133 P133 (.slice ad31 TT.length cp31) (.bool E)
                have b34 := below_set2 (M := p32) b33 (by omega) (.slice ad31 TT.length cp31) (.bool E)
                refine hK.out _ _ (XS.out _ b34) (fun hH34 => ?_)
                generalize (u33.setCell ⟨p32, 0, none⟩ (.slice ad31 TT.length cp31)).setCell ⟨p32, 1, none⟩ (.bool E) = u34 at *
                clear hK K
                (try simp only [Act.put, List.setIfInBounds_toArray, List.set_cons_zero, List.set_cons_succ])
                refine wpAnyH_done (by kernel_rfl) ?_ _
                exact TAIL p29 p32 u34 ad30 cp30 ad31 cp31 ⟨b34, P034, P134, R034, R134⟩
              · go_simp
                have x35 := below1 v30 (.cells #[.slice none 0 0, .bool false] 33)
                have N35 := Bk.new v30 #[.slice none 0 0, .bool false] 33
                have b35 := b30.trans (x35.mono b30.size)
                have ne35 := P030.lt
                have P035 := Bk.below P030 x35
                have R035 := Ri.below ri30 x35
                have sz35 := b30.size
                refine hK.out _ _ (XS.out _ b35) (fun hH35 => ?_)
                clear x35
                generalize v30.alloc (.cells #[.slice none 0 0, .bool false] 33) = u35 at *
                generalize hp35 : v30.heap.size = p35 at *
                clear hK K
                (try simp only [Act.put, List.setIfInBounds_toArray, List.set_cons_zero, List.set_cons_succ])
                refine wpAnyH_ready (rs := [5]) (by kernel_rfl) (by simp) ?_
                refine AllReadyH.cons (o := { dst := some 37, op := Op.call { callee := Callee.value (Operand.func 9), args := #[Operand.tmp 35, Operand.tmp 36], argTypes := #[22, 28] }, type := 33, pos := _, after := #[{ on := 3, ground := Ground.data }, { on := 4, ground := Ground.data }, { on := 2, ground := Ground.chain }], guard := none }) rfl (fun K hK => ?_) AllReadyH.nil
                go_simp
                refine (HY3.out _ b35).mono ?_
                rintro e v36 ⟨sv36, rfl, ri36, x36⟩
                obtain ⟨ad36, cp36, rfl, -⟩ := id ri36
                have b36 := b35.trans (x36.mono b35.size)
                have P036 := Bk.below P035 x36
                have P136 := Bk.below N35 x36
                have RR36 := Ri.below R035 x36
                go_wp2_with fail
                refine hK.out _ _ (XS.out _ b36) (fun hH36 => ?_)
                clear hK K
                (try simp only [Act.put, List.setIfInBounds_toArray, List.set_cons_zero, List.set_cons_succ])
                refine wpAnyH_ready (rs := [8]) (by kernel_rfl) (by simp) ?_
                refine AllReadyH.cons (o := { dst := none, op := Op.store 33 (Operand.tmp 7) (Operand.tmp 34), type := 0, pos := _, after := #[{ on := 6, ground := Ground.data }, { on := 2, ground := Ground.data }, { on := 5, ground := Ground.chain }, { on := 0, ground := Ground.phase }, { on := 1, ground := Ground.phase }, { on := 2, ground := Ground.phase }, { on := 3, ground := Ground.textOnly Departure.lateStores }, { on := 4, ground := Ground.textOnly Departure.lateStores }, { on := 5, ground := Ground.textOnly Departure.lateStoresUnsure }, { on := 6, ground := Ground.phase }, { on := 7, ground := Ground.phase }], guard := none }) rfl (fun K hK => ?_) AllReadyH.nil
                obtain ⟨q0, q1⟩ := Bk.c2 P036
                have qf := Bk.f P036
                go_simp
                clear q0 q1 qf
                have P037 := Bk.full2 P036 (.slice ad30 TT.length cp30) (.bool E)
                have P137 := Bk.set2 (M := p29) P136 (by omega) (.slice ad30 TT.length cp30) (.bool E)
                have R037 := Ri.set2 RR36 P036 (.slice ad30 TT.length cp30) (.bool E)
                have R137 := Ri.set2 ri36 P036 (.slice ad30 TT.length cp30) (.bool E)
                have b37 := below_set2 (M := p29) b36 (by omega) (.slice ad30 TT.length cp30) (.bool E)
                refine hK.out _ _ (XS.out _ b37) (fun hH37 => ?_)
                generalize (v36.setCell ⟨p29, 0, none⟩ (.slice ad30 TT.length cp30)).setCell ⟨p29, 1, none⟩ (.bool E) = u37 at *
                clear hK K
                (try simp only [Act.put, List.setIfInBounds_toArray, List.set_cons_zero, List.set_cons_succ])
                refine wpAnyH_ready (rs := [9]) (by kernel_rfl) (by simp) ?_
                refine AllReadyH.cons (o := { dst := none, op := Op.store 33 (Operand.tmp 8) (Operand.tmp 37), type := 0, pos := _, after := #[{ on := 7, ground := Ground.data }, { on := 5, ground := Ground.data }, { on := 8, ground := Ground.chain }, { on := 0, ground := Ground.phase }, { on := 1, ground := Ground.phase }, { on := 2, ground := Ground.phase }, { on := 3, ground := Ground.phase }, { on := 4, ground := Ground.phase }, { on := 5, ground := Ground.phase }, { on := 6, ground := Ground.phase }, { on := 7, ground := Ground.phase }, { on := 8, ground := Ground.phase }], guard := none }) rfl (fun K hK => ?_) AllReadyH.nil
                obtain ⟨q0, q1⟩ := Bk.c2 P137
                have qf := Bk.f P137
                go_simp
                clear q0 q1 qf
                have P138 := Bk.full2 P137 (.slice ad36 TT.length cp36) (.bool E)
                have P038 := Bk.set2 (M := p35) P037 (by omega) (.slice ad36 TT.length cp36) (.bool E)
                have R038 := Ri.set2 R037 P137 (.slice ad36 TT.length cp36) (.bool E)
                have R138 := Ri.set2 R137 P137 (.slice ad36 TT.length cp36) (.bool E)
                have b38 := below_set2 (M := p35) b37 (by omega) (.slice ad36 TT.length cp36) (.bool E)
                refine hK.out _ _ (XS.out _ b38) (fun hH38 => ?_)
                generalize (u37.setCell ⟨p35, 0, none⟩ (.slice ad36 TT.length cp36)).setCell ⟨p35, 1, none⟩ (.bool E) = u38 at *
                clear hK K
                (try simp only [Act.put, List.setIfInBounds_toArray, List.set_cons_zero, List.set_cons_succ])
                refine wpAnyH_done (by kernel_rfl) ?_ _
                exact TAIL p29 p35 u38 ad30 cp30 ad36 cp36 ⟨b38, P038, P138, R038, R138⟩
            · go_simp
              have x39 := below1 u29 (.cells #[.slice none 0 0, .bool false] 33)
              have N39 := Bk.new u29 #[.slice none 0 0, .bool false] 33
              have b39 := b29.trans (x39.mono b29.size)
              have ne39 := N29.lt
              have P039 := Bk.below N29 x39
              have sz39 := b29.size
              refine hK.out _ _ (XS.out _ b39) (fun hH39 => ?_)
              clear x39
              generalize u29.alloc (.cells #[.slice none 0 0, .bool false] 33) = u39 at *
              generalize hp39 : u29.heap.size = p39 at *
              clear hK K
              (try simp only [Act.put, List.setIfInBounds_toArray, List.set_cons_zero, List.set_cons_succ])
              refine wpAnyH_ready (rs := [2]) (by kernel_rfl) (by simp) ?_
              refine AllReadyH.cons (o := { dst := some 34, op := Op.call { callee := Callee.value (Operand.func 9), args := #[Operand.tmp 32, Operand.tmp 33], argTypes := #[22, 28] }, type := 33, pos := _, after := #[{ on := 0, ground := Ground.data }, { on := 1, ground := Ground.data }], guard := none }) rfl (fun K hK => ?_) AllReadyH.nil
              go_simp
              refine (HX3.out _ b39).mono ?_
              rintro e v40 ⟨sv40, rfl, ri40, x40⟩
              obtain ⟨ad40, cp40, rfl, -⟩ := id ri40
              have b40 := b39.trans (x40.mono b39.size)
              have P040 := Bk.below P039 x40
              have P140 := Bk.below N39 x40
              go_wp2_with fail
              refine hK.out _ _ (XS.out _ b40) (fun hH40 => ?_)
              clear hK K
              (try simp only [Act.put, List.setIfInBounds_toArray, List.set_cons_zero, List.set_cons_succ])
              refine wpAnyH_ready (rs := [5]) (by kernel_rfl) (by simp) ?_
              refine AllReadyH.cons (o := { dst := some 37, op := Op.call { callee := Callee.value (Operand.func 9), args := #[Operand.tmp 35, Operand.tmp 36], argTypes := #[22, 28] }, type := 33, pos := _, after := #[{ on := 3, ground := Ground.data }, { on := 4, ground := Ground.data }, { on := 2, ground := Ground.chain }], guard := none }) rfl (fun K hK => ?_) AllReadyH.nil
              go_simp
              refine (HY3.out _ b40).mono ?_
              rintro e v41 ⟨sv41, rfl, ri41, x41⟩
              obtain ⟨ad41, cp41, rfl, -⟩ := id ri41
              have b41 := b40.trans (x41.mono b40.size)
              have P041 := Bk.below P040 x41
              have P141 := Bk.below P140 x41
              have RR41 := Ri.below ri40 x41
              go_wp2_with fail
              refine hK.out _ _ (XS.out _ b41) (fun hH41 => ?_)
              clear hK K
              (try simp only [Act.put, List.setIfInBounds_toArray, List.set_cons_zero, List.set_cons_succ])
              refine wpAnyH_ready (rs := [8]) (by kernel_rfl) (by simp) ?_
              refine AllReadyH.cons (o := { dst := none, op := Op.store 33 (Operand.tmp 7) (Operand.tmp 34), type := 0, pos := _, after := #[{ on := 6, ground := Ground.data }, { on := 2, ground := Ground.data }, { on := 5, ground := Ground.chain }, { on := 0, ground := Ground.phase }, { on := 1, ground := Ground.phase }, { on := 2, ground := Ground.phase }, { on := 3, ground := Ground.textOnly Departure.lateStores }, { on := 4, ground := Ground.textOnly Departure.lateStores }, { on := 5, ground := Ground.textOnly Departure.lateStoresUnsure }, { on := 6, ground := Ground.phase }, { on := 7, ground := Ground.phase }], guard := none }) rfl (fun K hK => ?_) AllReadyH.nil
              obtain ⟨q0, q1⟩ := Bk.c2 P041
              have qf := Bk.f P041
              go_simp
              clear q0 q1 qf
              have P042 := Bk.full2 P041 (.slice ad40 TT.length cp40) (.bool E)
              have P142 := Bk.set2 (M := p29) P141 (by omega) (.slice ad40 TT.length cp40) (.bool E)
              have R042 := Ri.set2 RR41 P041 (.slice ad40 TT.length cp40) (.bool E)
              have R142 := Ri.set2 ri41 P041 (.slice ad40 TT.length cp40) (.bool E)
              have b42 := below_set2 (M := p29) b41 (by omega) (.slice ad40 TT.length cp40) (.bool E)
              refine hK.out _ _ (XS.out _ b42) (fun hH42 => ?_)
              generalize (v41.setCell ⟨p29, 0, none⟩ (.slice ad40 TT.length cp40)).setCell ⟨p29, 1, none⟩ (.bool E) = u42 at *
              clear hK K
              (try simp only [Act.put, List.setIfInBounds_toArray, List.set_cons_zero, List.set_cons_succ])
              refine wpAnyH_ready (rs := [9]) (by kernel_rfl) (by simp) ?_
              refine AllReadyH.cons (o := { dst := none, op := Op.store 33 (Operand.tmp 8) (Operand.tmp 37), type := 0, pos := _, after := #[{ on := 7, ground := Ground.data }, { on := 5, ground := Ground.data }, { on := 8, ground := Ground.chain }, { on := 0, ground := Ground.phase }, { on := 1, ground := Ground.phase }, { on := 2, ground := Ground.phase }, { on := 3, ground := Ground.phase }, { on := 4, ground := Ground.phase }, { on := 5, ground := Ground.phase }, { on := 6, ground := Ground.phase }, { on := 7, ground := Ground.phase }, { on := 8, ground := Ground.phase }], guard := none }) rfl (fun K hK => ?_) AllReadyH.nil
              obtain ⟨q0, q1⟩ := Bk.c2 P142
              have qf := Bk.f P142
              go_simp
              clear q0 q1 qf
              have P143 := Bk.full2 P142 (.slice ad41 TT.length cp41) (.bool E)
              have P043 := Bk.set2 (M := p39) P042 (by omega) (.slice ad41 TT.length cp41) (.bool E)
              have R043 := Ri.set2 R042 P142 (.slice ad41 TT.length cp41) (.bool E)
              have R143 := Ri.set2 R142 P142 (.slice ad41 TT.length cp41) (.bool E)
              have b43 := below_set2 (M := p39) b42 (by omega) (.slice ad41 TT.length cp41) (.bool E)
              refine hK.out _ _ (XS.out _ b43) (fun hH43 => ?_)
              generalize (u42.setCell ⟨p39, 0, none⟩ (.slice ad41 TT.length cp41)).setCell ⟨p39, 1, none⟩ (.bool E) = u43 at *
              clear hK K
              (try simp only [Act.put, List.setIfInBounds_toArray, List.set_cons_zero, List.set_cons_succ])
              refine wpAnyH_done (by kernel_rfl) ?_ _
              exact TAIL p29 p39 u43 ad40 cp40 ad41 cp41 ⟨b43, P043, P143, R043, R143⟩
          · go_simp
            have x44 := below1 v0 (.cells #[.slice none 0 0, .bool false] 33)
            have N44 := Bk.new v0 #[.slice none 0 0, .bool false] 33
            have b44 := b1d.trans (x44.mono b1d.size)
            have sz44 := b1d.size
            refine hK.out _ _ (XS.out _ b44) (fun hH44 => ?_)
            clear x44
            generalize v0.alloc (.cells #[.slice none 0 0, .bool false] 33) = u44 at *
            generalize hp44 : v0.heap.size = p44 at *
            clear hK K
            (try simp only [Act.put, List.setIfInBounds_toArray, List.set_cons_zero, List.set_cons_succ])
            refine wpAnyH_ready (rs := [2, 6]) (by kernel_rfl) (by simp) ?_
            refine AllReadyH.cons (o := { dst := some 34, op := Op.call { callee := Callee.value (Operand.func 9), args := #[Operand.tmp 32, Operand.tmp 33], argTypes := #[22, 28] }, type := 33, pos := _, after := #[{ on := 0, ground := Ground.data }, { on := 1, ground := Ground.data }], guard := none }) rfl (fun K hK => ?_) (AllReadyH.cons (o := { dst := some 7, op := Op.alloc 33, type := 0, pos := _, after := #[], guard := none }) rfl (fun K hK => ?_) AllReadyH.nil)
            · go_simp
              refine (HX3.out _ b44).mono ?_
              rintro e v45 ⟨sv45, rfl, ri45, x45⟩
              obtain ⟨ad45, cp45, rfl, -⟩ := id ri45
              have b45 := b44.trans (x45.mono b44.size)
              have P145 := Bk.below N44 x45
              go_wp2_with fail
              refine hK.out _ _ (XS.out _ b45) (fun hH45 => ?_)
              clear hK K
              (try simp only [Act.put, List.setIfInBounds_toArray, List.set_cons_zero, List.set_cons_succ])
              refine wpAnyH_ready (rs := [5, 6]) (by kernel_rfl) (by simp) ?_
              refine AllReadyH.cons (o := { dst := some 37, op := Op.call { callee := Callee.value (Operand.func 9), args := #[Operand.tmp 35, Operand.tmp 36], argTypes := #[22, 28] }, type := 33, pos := _, after := #[{ on := 3, ground := Ground.data }, { on := 4, ground := Ground.data }, { on := 2, ground := Ground.chain }], guard := none }) rfl (fun K hK => ?_) (AllReadyH.cons (o := { dst := some 7, op := Op.alloc 33, type := 0, pos := _, after := #[], guard := none }) rfl (fun K hK => ?_) AllReadyH.nil)
              · go_simp
                refine (HY3.out _ b45).mono ?_
                rintro e v46 ⟨sv46, rfl, ri46, x46⟩
                obtain ⟨ad46, cp46, rfl, -⟩ := id ri46
                have b46 := b45.trans (x46.mono b45.size)
                have P146 := Bk.below P145 x46
                have RR46 := Ri.below ri45 x46
                go_wp2_with fail
                refine hK.out _ _ (XS.out _ b46) (fun hH46 => ?_)
                clear hK K
                (try simp only [Act.put, List.setIfInBounds_toArray, List.set_cons_zero, List.set_cons_succ])
                refine wpAnyH_ready (rs := [6]) (by kernel_rfl) (by simp) ?_
                refine AllReadyH.cons (o := { dst := some 7, op := Op.alloc 33, type := 0, pos := _, after := #[], guard := none }) rfl (fun K hK => ?_) AllReadyH.nil
                go_simp
                have x47 := below1 v46 (.cells #[.slice none 0 0, .bool false] 33)
                have N47 := Bk.new v46 #[.slice none 0 0, .bool false] 33
                have b47 := b46.trans (x47.mono b46.size)
                have ne47 := P146.lt
                have P147 := Bk.below P146 x47
                have R047 := Ri.below RR46 x47
                have R147 := Ri.below ri46 x47
                have sz47 := b46.size
                refine hK.out _ _ (XS.out _ b47) (fun hH47 => ?_)
                clear x47
                generalize v46.alloc (.cells #[.slice none 0 0, .bool false] 33) = u47 at *
                generalize hp47 : v46.heap.size = p47 at *
                clear hK K
                (try simp only [Act.put, List.setIfInBounds_toArray, List.set_cons_zero, List.set_cons_succ])
                refine wpAnyH_ready (rs := [8]) (by kernel_rfl) (by simp) ?_
                refine AllReadyH.cons (o := { dst := none, op := Op.store 33 (Operand.tmp 7) (Operand.tmp 34), type := 0, pos := _, after := #[{ on := 6, ground := Ground.data }, { on := 2, ground := Ground.data }, { on := 5, ground := Ground.chain }, { on := 0, ground := Ground.phase }, { on := 1, ground := Ground.phase }, { on := 2, ground := Ground.phase }, { on := 3, ground := Ground.textOnly Departure.lateStores }, { on := 4, ground := Ground.textOnly Departure.lateStores }, { on := 5, ground := Ground.textOnly Departure.lateStoresUnsure }, { on := 6, ground := Ground.phase }, { on := 7, ground := Ground.phase }], guard := none }) rfl (fun K hK => ?_) AllReadyH.nil
                obtain ⟨q0, q1⟩ := Bk.c2 N47
                have qf := Bk.f N47
                go_simp
                clear q0 q1 qf
                have P048 := Bk.full2 N47 (.slice ad45 TT.length cp45) (.bool E)
                have P148 := Bk.set2 (M := p47) P147 (by omega) (.slice ad45 TT.length cp45) (.bool E)
                have R048 := Ri.set2 R047 N47 (.slice ad45 TT.length cp45) (.bool E)
                have R148 := Ri.set2 R147 N47 (.slice ad45 TT.length cp45) (.bool E)
                have b48 := below_set2 (M := p47) b47 (by omega) (.slice ad45 TT.length cp45) (.bool E)
                refine hK.out _ _ (XS.out _ b48) (fun hH48 => ?_)
                generalize (u47.setCell ⟨p47, 0, none⟩ (.slice ad45 TT.length cp45)).setCell ⟨p47, 1, none⟩ (.bool E) = u48 at *
                clear hK K
                (try simp only [Act.put, List.setIfInBounds_toArray, List.set_cons_zero, List.set_cons_succ])
                refine wpAnyH_ready (rs := [9]) (by kernel_rfl) (by simp) ?_
                refine AllReadyH.cons (o := { dst := none, op := Op.store 33 (Operand.tmp 8) (Operand.tmp 37), type := 0, pos := _, after := #[{ on := 7, ground := Ground.data }, { on := 5, ground := Ground.data }, { on := 8, ground := Ground.chain }, { on := 0, ground := Ground.phase }, { on := 1, ground := Ground.phase }, { on := 2, ground := Ground.phase }, { on := 3, ground := Ground.phase }, { on := 4, ground := Ground.phase }, { on := 5, ground := Ground.phase }, { on := 6, ground := Ground.phase }, { on := 7, ground := Ground.phase }, { on := 8, ground := Ground.phase }], guard := none }) rfl (fun K hK => ?_) AllReadyH.nil
                obtain ⟨q0, q1⟩ := Bk.c2 P148
                have qf := Bk.f P148
                go_simp
                clear q0 q1 qf
                have P149 := Bk.full2 P148 (.slice ad46 TT.length cp46) (.bool E)
                have P049 := Bk.set2 (M := p44) P048 (by omega) (.slice ad46 TT.length cp46) (.bool E)
                have R049 := Ri.set2 R048 P148 (.slice ad46 TT.length cp46) (.bool E)
                have R149 := Ri.set2 R148 P148 (.slice ad46 TT.length cp46) (.bool E)
                have b49 := below_set2 (M := p44) b48 (by omega) (.slice ad46 TT.length cp46) (.bool E)
                refine hK.out _ _ (XS.out _ b49) (fun hH49 => ?_)
                generalize (u48.setCell ⟨p44, 0, none⟩ (.slice ad46 TT.length cp46)).setCell ⟨p44, 1, none⟩ (.bool E) = u49 at *
                clear hK K
                (try simp only [Act.put, List.setIfInBounds_toArray, List.set_cons_zero, List.set_cons_succ])
                refine wpAnyH_done (by kernel_rfl) ?_ _
                exact TAIL p47 p44 u49 ad45 cp45 ad46 cp46 ⟨b49, P049, P149, R049, R149⟩
              · go_simp
                have x50 := below1 v45 (.cells #[.slice none 0 0, .bool false] 33)
                have N50 := Bk.new v45 #[.slice none 0 0, .bool false] 33
                have b50 := b45.trans (x50.mono b45.size)
                have ne50 := P145.lt
                have P150 := Bk.below P145 x50
                have R050 := Ri.below ri45 x50
                have sz50 := b45.size
                refine hK.out _ _ (XS.out _ b50) (fun hH50 => ?_)
                clear x50
                generalize v45.alloc (.cells #[.slice none 0 0, .bool false] 33) = u50 at *
                generalize hp50 : v45.heap.size = p50 at *
                clear hK K
                (try simp only [Act.put, List.setIfInBounds_toArray, List.set_cons_zero, List.set_cons_succ])
                refine wpAnyH_ready (rs := [5]) (by kernel_rfl) (by simp) ?_
                refine AllReadyH.cons (o := { dst := some 37, op := Op.call { callee := Callee.value (Operand.func 9), args := #[Operand.tmp 35, Operand.tmp 36], argTypes := #[22, 28] }, type := 33, pos := _, after := #[{ on := 3, ground := Ground.data }, { on := 4, ground := Ground.data }, { on := 2, ground := Ground.chain }], guard := none }) rfl (fun K hK => ?_) AllReadyH.nil
                go_simp
                refine (HY3.out _ b50).mono ?_
                rintro e v51 ⟨sv51, rfl, ri51, x51⟩
                obtain ⟨ad51, cp51, rfl, -⟩ := id ri51
                have b51 := b50.trans (x51.mono b50.size)
                have P051 := Bk.below N50 x51
                have P151 := Bk.below P150 x51
                have RR51 := Ri.below R050 x51
                go_wp2_with fail
                refine hK.out _ _ (XS.out _ b51) (fun hH51 => ?_)
                clear hK K
                (try simp only [Act.put, List.setIfInBounds_toArray, List.set_cons_zero, List.set_cons_succ])
                refine wpAnyH_ready (rs := [8]) (by kernel_rfl) (by simp) ?_
                refine AllReadyH.cons (o := { dst := none, op := Op.store 33 (Operand.tmp 7) (Operand.tmp 34), type := 0, pos := _, after := #[{ on := 6, ground := Ground.data }, { on := 2, ground := Ground.data }, { on := 5, ground := Ground.chain }, { on := 0, ground := Ground.phase }, { on := 1, ground := Ground.phase }, { on := 2, ground := Ground.phase }, { on := 3, ground := Ground.textOnly Departure.lateStores }, { on := 4, ground := Ground.textOnly Departure.lateStores }, { on := 5, ground := Ground.textOnly Departure.lateStoresUnsure }, { on := 6, ground := Ground.phase }, { on := 7, ground := Ground.phase }], guard := none }) rfl (fun K hK => ?_) AllReadyH.nil
                obtain ⟨q0, q1⟩ := Bk.c2 P051
                have qf := Bk.f P051
                go_simp
                clear q0 q1 qf
                have P052 := Bk.full2 P051 (.slice ad45 TT.length cp45) (.bool E)
                have P152 := Bk.set2 (M := p50) P151 (by omega) (.slice ad45 TT.length cp45) (.bool E)
                have R052 := Ri.set2 RR51 P051 (.slice ad45 TT.length cp45) (.bool E)
                have R152 := Ri.set2 ri51 P051 (.slice ad45 TT.length cp45) (.bool E)
                have b52 := below_set2 (M := p50) b51 (by omega) (.slice ad45 TT.length cp45) (.bool E)
                refine hK.out _ _ (XS.out _ b52) (fun hH52 => ?_)
                generalize (v51.setCell ⟨p50, 0, none⟩ (.slice ad45 TT.length cp45)).setCell ⟨p50, 1, none⟩ (.bool E) = u52 at *
                clear hK K
                (try simp only [Act.put, List.setIfInBounds_toArray, List.set_cons_zero, List.set_cons_succ])
                refine wpAnyH_ready (rs := [9]) (by kernel_rfl) (by simp) ?_
                refine AllReadyH.cons (o := { dst := none, op := Op.store 33 (Operand.tmp 8) (Operand.tmp 37), type := 0, pos := _, after := #[{ on := 7, ground := Ground.data }, { on := 5, ground := Ground.data }, { on := 8, ground := Ground.chain }, { on := 0, ground := Ground.phase }, { on := 1, ground := Ground.phase }, { on := 2, ground := Ground.phase }, { on := 3, ground := Ground.phase }, { on := 4, ground := Ground.phase }, { on := 5, ground := Ground.phase }, { on := 6, ground := Ground.phase }, { on := 7, ground := Ground.phase }, { on := 8, ground := Ground.phase }], guard := none }) rfl (fun K hK => ?_) AllReadyH.nil
                obtain ⟨q0, q1⟩ := Bk.c2 P152
                have qf := Bk.f P152
                go_simp
                clear q0 q1 qf
                have P153 := Bk.full2 P152 (.slice ad51 TT.length cp51) (.bool E)
                have P053 := Bk.set2 (M := p44) P052 (by omega) (.slice ad51 TT.length cp51) (.bool E)
                have R053 := Ri.set2 R052 P152 (.slice ad51 TT.length cp51) (.bool E)
                have R153 := Ri.set2 R152 P152 (.slice ad51 TT.length cp51) (.bool E)
                have b53 := below_set2 (M := p44) b52 (by omega) (.slice ad51 TT.length cp51) (.bool E)
                refine hK.out _ _ (XS.out _ b53) (fun hH53 => ?_)
                generalize (u52.setCell ⟨p44, 0, none⟩ (.slice ad51 TT.length cp51)).setCell ⟨p44, 1, none⟩ (.bool E) = u53 at *
                clear hK K
                (try simp only [Act.put, List.setIfInBounds_toArray, List.set_cons_zero, List.set_cons_succ])
                refine wpAnyH_done (by kernel_rfl) ?_ _
                exact TAIL p50 p44 u53 ad45 cp45 ad51 cp51 ⟨b53, P053, P153, R053, R153⟩
            · go_simp
              have x54 := below1 u44 (.cells #[.slice none 0 0, .bool false] 33)
              have N54 := Bk.new u44 #[.slice none 0 0, .bool false] 33
              have b54 := b44.trans (x54.mono b44.size)
              have ne54 := N44.lt
              have P154 := Bk.below N44 x54
              have sz54 := b44.size
              refine hK.out _ _ (XS.out _ b54) (fun hH54 => ?_)
              clear x54
              generalize u44.alloc (.cells #[.slice none 0 0, .bool false] 33) = u54 at *
              generalize hp54 : u44.heap.size = p54 at *
              clear hK K
              (try simp only [Act.put, List.setIfInBounds_toArray, List.set_cons_zero, List.set_cons_succ])
              refine wpAnyH_ready (rs := [2]) (by kernel_rfl) (by simp) ?_
              refine AllReadyH.cons (o := { dst := some 34, op := Op.call { callee := Callee.value (Operand.func 9), args := #[Operand.tmp 32, Operand.tmp 33], argTypes := #[22, 28] }, type := 33, pos := _, after := #[{ on := 0, ground := Ground.data }, { on := 1, ground := Ground.data }], guard := none }) rfl (fun K hK => ?_) AllReadyH.nil
              go_simp
              refine (HX3.out _ b54).mono ?_
              rintro e v55 ⟨sv55, rfl, ri55, x55⟩
              obtain ⟨ad55, cp55, rfl, -⟩ := id ri55
              have b55 := b54.trans (x55.mono b54.size)
              have P055 := Bk.below N54 x55
              have P155 := Bk.below P154 x55
              go_wp2_with fail
              refine hK.out _ _ (XS.out _ b55) (fun hH55 => ?_)
              clear hK K
              (try simp only [Act.put, List.setIfInBounds_toArray, List.set_cons_zero, List.set_cons_succ])
              refine wpAnyH_ready (rs := [5]) (by kernel_rfl) (by simp) ?_
              refine AllReadyH.cons (o := { dst := some 37, op := Op.call { callee := Callee.value (Operand.func 9), args := #[Operand.tmp 35, Operand.tmp 36], argTypes := #[22, 28] }, type := 33, pos := _, after := #[{ on := 3, ground := Ground.data }, { on := 4, ground := Ground.data }, { on := 2, ground := Ground.chain }], guard := none }) rfl (fun K hK => ?_) AllReadyH.nil
              go_simp
              refine (HY3.out _ b55).mono ?_
              rintro e v56 ⟨sv56, rfl, ri56, x56⟩
              obtain ⟨ad56, cp56, rfl, -⟩ := id ri56
              have b56 := b55.trans (x56.mono b55.size)
              have P056 := Bk.below P055 x56
              have P156 := Bk.below P155 x56
              have RR56 := Ri.below ri55 x56
              go_wp2_with fail
              refine hK.out _ _ (XS.out _ b56) (fun hH56 => ?_)
              clear hK K
              (try simp only [Act.put, List.setIfInBounds_toArray, List.set_cons_zero, List.set_cons_succ])
              refine wpAnyH_ready (rs := [8]) (by kernel_rfl) (by simp) ?_
              refine AllReadyH.cons (o := { dst := none, op := Op.store 33 (Operand.tmp 7) (Operand.tmp 34), type := 0, pos := _, after := #[{ on := 6, ground := Ground.data }, { on := 2, ground := Ground.data }, { on := 5, ground := Ground.chain }, { on := 0, ground := Ground.phase }, { on := 1, ground := Ground.phase }, { on := 2, ground := Ground.phase }, { on := 3, ground := Ground.textOnly Departure.lateStores }, { on := 4, ground := Ground.textOnly Departure.lateStores }, { on := 5, ground := Ground.textOnly Departure.lateStoresUnsure }, { on := 6, ground := Ground.phase }, { on := 7, ground := Ground.phase }], guard := none }) rfl (fun K hK => ?_) AllReadyH.nil
              obtain ⟨q0, q1⟩ := Bk.c2 P056
              have qf := Bk.f P056
              go_simp
              clear q0 q1 qf
              have P057 := Bk.full2 P056 (.slice ad55 TT.length cp55) (.bool E)
              have P157 := Bk.set2 (M := p54) P156 (by omega) (.slice ad55 TT.length cp55) (.bool E)
              have R057 := Ri.set2 RR56 P056 (.slice ad55 TT.length cp55) (.bool E)
              have R157 := Ri.set2 ri56 P056 (.slice ad55 TT.length cp55) (.bool E)
              have b57 := below_set2 (M := p54) b56 (by omega) (.slice ad55 TT.length cp55) (.bool E)
              refine hK.out _ _ (XS.out _ b57) (fun hH57 => ?_)
              generalize (v56.setCell ⟨p54, 0, none⟩ (.slice ad55 TT.length cp55)).setCell ⟨p54, 1, none⟩ (.bool E) = u57 at *
              clear hK K
              (try simp only [Act.put, List.setIfInBounds_toArray, List.set_cons_zero, List.set_cons_succ])
              refine wpAnyH_ready (rs := [9]) (by kernel_rfl) (by simp) ?_
              refine AllReadyH.cons (o := { dst := none, op := Op.store 33 (Operand.tmp 8) (Operand.tmp 37), type := 0, pos := _, after := #[{ on := 7, ground := Ground.data }, { on := 5, ground := Ground.data }, { on := 8, ground := Ground.chain }, { on := 0, ground := Ground.phase }, { on := 1, ground := Ground.phase }, { on := 2, ground := Ground.phase }, { on := 3, ground := Ground.phase }, { on := 4, ground := Ground.phase }, { on := 5, ground := Ground.phase }, { on := 6, ground := Ground.phase }, { on := 7, ground := Ground.phase }, { on := 8, ground := Ground.phase }], guard := none }) rfl (fun K hK => ?_) AllReadyH.nil
              obtain ⟨q0, q1⟩ := Bk.c2 P157
              have qf := Bk.f P157
              go_simp
              clear q0 q1 qf
              have P158 := Bk.full2 P157 (.slice ad56 TT.length cp56) (.bool E)
              have P058 := Bk.set2 (M := p44) P057 (by omega) (.slice ad56 TT.length cp56) (.bool E)
              have R058 := Ri.set2 R057 P157 (.slice ad56 TT.length cp56) (.bool E)
              have R158 := Ri.set2 R157 P157 (.slice ad56 TT.length cp56) (.bool E)
              have b58 := below_set2 (M := p44) b57 (by omega) (.slice ad56 TT.length cp56) (.bool E)
              refine hK.out _ _ (XS.out _ b58) (fun hH58 => ?_)
              generalize (u57.setCell ⟨p44, 0, none⟩ (.slice ad56 TT.length cp56)).setCell ⟨p44, 1, none⟩ (.bool E) = u58 at *
              clear hK K
              (try simp only [Act.put, List.setIfInBounds_toArray, List.set_cons_zero, List.set_cons_succ])
              refine wpAnyH_done (by kernel_rfl) ?_ _
              exact TAIL p54 p44 u58 ad55 cp55 ad56 cp56 ⟨b58, P058, P158, R058, R158⟩

        · rintro pa pb W a1 c1 a2 c2 ⟨bW, Pa, Pb, Ra, Rb⟩
          have XS2 : Hid (∀ wx, Below W.heap.size W wx → (((wx.cell? ⟨w.heap.size, 0, none⟩ = some (.int .i64 m.id) ∧ wx.cell? ⟨w.heap.size, 1, none⟩ = some (.string m.tp) ∧ wx.cell? ⟨w.heap.size, 2, none⟩ = some (.int .i64 m.k) ∧ wx.cell? ⟨w.heap.size, 3, none⟩ = some (.int .i64 m.i) ∧ wx.cell? ⟨w.heap.size, 4, none⟩ = some (.int .u64 m.u) ∧ wx.cell? ⟨w.heap.size, 5, none⟩ = some (.string m.s) ∧ wx.cell? ⟨w.heap.size, 6, none⟩ = some (.slice m.a m.l m.c) ∧ wx.cell? ⟨w.heap.size, 7, none⟩ = some (.int .i64 m.ti) ∧ wx.cell? ⟨w.heap.size, 8, none⟩ = some (.int .i64 m.un) ∧ wx.cell? ⟨w.heap.size, 9, none⟩ = some (.string m.rp) ∧ wx.cell? ⟨w.heap.size, 10, none⟩ = some (.int .i64 m.co) ∧ wx.cell? ⟨w.heap.size, 11, none⟩ = some (.int .i64 m.pr) ∧ wx.cell? ⟨w.heap.size, 12, none⟩ = some (.int .i64 m.ho)) ∧ wx.cell? ⟨w.heap.size + 1, 0, none⟩ = some (.int .i64 x.id) ∧ wx.cell? ⟨w.heap.size + 1, 1, none⟩ = some (.string m.tp) ∧ wx.cell? ⟨w.heap.size + 1, 2, none⟩ = some (.int .i64 m.k) ∧ wx.cell? ⟨w.heap.size + 1, 3, none⟩ = some (.int .i64 x.i) ∧ wx.cell? ⟨w.heap.size + 1, 4, none⟩ = some (.int .u64 x.u) ∧ wx.cell? ⟨w.heap.size + 1, 5, none⟩ = some (.string x.s) ∧ wx.cell? ⟨w.heap.size + 1, 6, none⟩ = some (.slice x.a x.l x.c) ∧ wx.cell? ⟨w.heap.size + 1, 7, none⟩ = some (.int .i64 x.ti) ∧ wx.cell? ⟨w.heap.size + 1, 8, none⟩ = some (.int .i64 x.un) ∧ wx.cell? ⟨w.heap.size + 1, 9, none⟩ = some (.string x.rp) ∧ wx.cell? ⟨w.heap.size + 1, 10, none⟩ = some (.int .i64 x.co) ∧ wx.cell? ⟨w.heap.size + 1, 11, none⟩ = some (.int .i64 x.pr) ∧ wx.cell? ⟨w.heap.size + 1, 12, none⟩ = some (.int .i64 x.ho)) ∧ wx.cell? ⟨pa, 0, none⟩ = some (.slice a1 TT.length c1) ∧ wx.cell? ⟨pa, 1, none⟩ = some (.bool E) ∧ wx.cell? ⟨pb, 0, none⟩ = some (.slice a2 TT.length c2) ∧ wx.cell? ⟨pb, 1, none⟩ = some (.bool E))) := fun wx hx => ⟨XS.out _ (bW.trans (hx.mono bW.size)), (Pa.below hx).c 0, (Pa.below hx).c 1, (Pb.below hx).c 0, (Pb.below hx).c 1⟩
          have HBW : Hid (∀ wx, Below W.heap.size W wx → Below w.heap.size w wx) := fun wx hx => HB3.out _ (bW.trans (hx.mono bW.size))
          have HRa : Hid (∀ wx, Below W.heap.size W wx → Ri wx (.slice a1 TT.length c1) TT) := fun wx hx => Ra.below hx
          have HRb : Hid (∀ wx, Below W.heap.size W wx → Ri wx (.slice a2 TT.length c2) TT) := fun wx hx => Rb.below hx
          clear Pa Pb Ra Rb bW
          go_wp2_with fail
          have b2d := Below.drew (Below.refl W.heap.size W)
          refine wp_region_held_drew (S := (fun wx => ((wx.cell? ⟨w.heap.size, 0, none⟩ = some (.int .i64 m.id) ∧ wx.cell? ⟨w.heap.size, 1, none⟩ = some (.string m.tp) ∧ wx.cell? ⟨w.heap.size, 2, none⟩ = some (.int .i64 m.k) ∧ wx.cell? ⟨w.heap.size, 3, none⟩ = some (.int .i64 m.i) ∧ wx.cell? ⟨w.heap.size, 4, none⟩ = some (.int .u64 m.u) ∧ wx.cell? ⟨w.heap.size, 5, none⟩ = some (.string m.s) ∧ wx.cell? ⟨w.heap.size, 6, none⟩ = some (.slice m.a m.l m.c) ∧ wx.cell? ⟨w.heap.size, 7, none⟩ = some (.int .i64 m.ti) ∧ wx.cell? ⟨w.heap.size, 8, none⟩ = some (.int .i64 m.un) ∧ wx.cell? ⟨w.heap.size, 9, none⟩ = some (.string m.rp) ∧ wx.cell? ⟨w.heap.size, 10, none⟩ = some (.int .i64 m.co) ∧ wx.cell? ⟨w.heap.size, 11, none⟩ = some (.int .i64 m.pr) ∧ wx.cell? ⟨w.heap.size, 12, none⟩ = some (.int .i64 m.ho)) ∧ wx.cell? ⟨w.heap.size + 1, 0, none⟩ = some (.int .i64 x.id) ∧ wx.cell? ⟨w.heap.size + 1, 1, none⟩ = some (.string m.tp) ∧ wx.cell? ⟨w.heap.size + 1, 2, none⟩ = some (.int .i64 m.k) ∧ wx.cell? ⟨w.heap.size + 1, 3, none⟩ = some (.int .i64 x.i) ∧ wx.cell? ⟨w.heap.size + 1, 4, none⟩ = some (.int .u64 x.u) ∧ wx.cell? ⟨w.heap.size + 1, 5, none⟩ = some (.string x.s) ∧ wx.cell? ⟨w.heap.size + 1, 6, none⟩ = some (.slice x.a x.l x.c) ∧ wx.cell? ⟨w.heap.size + 1, 7, none⟩ = some (.int .i64 x.ti) ∧ wx.cell? ⟨w.heap.size + 1, 8, none⟩ = some (.int .i64 x.un) ∧ wx.cell? ⟨w.heap.size + 1, 9, none⟩ = some (.string x.rp) ∧ wx.cell? ⟨w.heap.size + 1, 10, none⟩ = some (.int .i64 x.co) ∧ wx.cell? ⟨w.heap.size + 1, 11, none⟩ = some (.int .i64 x.pr) ∧ wx.cell? ⟨w.heap.size + 1, 12, none⟩ = some (.int .i64 x.ho)) ∧ wx.cell? ⟨pa, 0, none⟩ = some (.slice a1 TT.length c1) ∧ wx.cell? ⟨pa, 1, none⟩ = some (.bool E) ∧ wx.cell? ⟨pb, 0, none⟩ = some (.slice a2 TT.length c2) ∧ wx.cell? ⟨pb, 1, none⟩ = some (.bool E))) (by kernel_rfl) (XS2.out _ b2d) (fun hHeld => ?_)
          generalize W.drew = v9 at *
          refine wpAnyH_take (i := 0) (oi := { dst := some 38, op := Op.fieldAddr 33 (Operand.tmp 7) 1, type := 0, pos := _, after := #[], guard := none }) (v := ?tfb1) rfl (by kernel_rfl) (by kernel_rfl) (by kernel_rfl) (fun _ _ _ h => h) (Or.inl ⟨by rfl, ?ufb1⟩) (by assumption) ?rfb1
          case ufb1 => (intro w hSw; (try dsimp only at hSw); go_simp; (try with_reducible rfl))
          simp only [Act.put, List.setIfInBounds_toArray, List.set_cons_zero, List.set_cons_succ]
          refine wpAnyH_take (i := 1) (oi := { dst := some 39, op := Op.load 4 (Operand.tmp 38), type := 4, pos := _, after := #[{ on := 0, ground := Ground.data }], guard := none }) (v := ?tfb2) rfl (by kernel_rfl) (by kernel_rfl) (by kernel_rfl) (fun _ _ _ h => h) (Or.inl ⟨by rfl, ?ufb2⟩) (by assumption) ?rfb2
          case ufb2 => (intro w hSw; (try dsimp only at hSw); go_simp; (try with_reducible rfl))
          simp only [Act.put, List.setIfInBounds_toArray, List.set_cons_zero, List.set_cons_succ]
          refine wpAnyH_take (i := 2) (oi := { dst := some 40, op := Op.fieldAddr 33 (Operand.tmp 8) 1, type := 0, pos := _, after := #[], guard := none }) (v := ?tfb3) rfl (by kernel_rfl) (by kernel_rfl) (by kernel_rfl) (fun _ _ _ h => h) (Or.inl ⟨by rfl, ?ufb3⟩) (by assumption) ?rfb3
          case ufb3 => (intro w hSw; (try dsimp only at hSw); go_simp; (try with_reducible rfl))
          simp only [Act.put, List.setIfInBounds_toArray, List.set_cons_zero, List.set_cons_succ]
          refine wpAnyH_take (i := 3) (oi := { dst := some 41, op := Op.load 4 (Operand.tmp 40), type := 4, pos := _, after := #[{ on := 2, ground := Ground.data }], guard := none }) (v := ?tfb4) rfl (by kernel_rfl) (by kernel_rfl) (by kernel_rfl) (fun _ _ _ h => h) (Or.inl ⟨by rfl, ?ufb4⟩) (by assumption) ?rfb4
          case ufb4 => (intro w hSw; (try dsimp only at hSw); go_simp; (try with_reducible rfl))
          simp only [Act.put, List.setIfInBounds_toArray, List.set_cons_zero, List.set_cons_succ]
          refine wpAnyH_take (i := 4) (oi := { dst := some 42, op := Op.binOp BinOp.eql 4 (Operand.tmp 39) (Operand.tmp 41) 4, type := 4, pos := _, after := #[{ on := 1, ground := Ground.data }, { on := 3, ground := Ground.data }], guard := none }) (v := ?tfb5) rfl (by kernel_rfl) (by kernel_rfl) (by kernel_rfl) (fun _ _ _ h => h) (Or.inl ⟨by rfl, ?ufb5⟩) (by assumption) ?rfb5
          case ufb5 => (intro w hSw; (try dsimp only at hSw); go_simp; (try with_reducible rfl))
          simp only [Act.put, List.setIfInBounds_toArray, List.set_cons_zero, List.set_cons_succ]
          refine wpAnyH_take (i := 5) (oi := { dst := some 43, op := Op.move (Operand.tmp 42), type := 4, pos := _, after := #[{ on := 4, ground := Ground.data }], guard := none }) (v := ?tfb6) rfl (by kernel_rfl) (by kernel_rfl) (by kernel_rfl) (fun _ _ _ h => h) (Or.inl ⟨by rfl, ?ufb6⟩) (by assumption) ?rfb6
          case ufb6 => (intro w hSw; (try dsimp only at hSw); go_simp; (try with_reducible rfl))
          simp only [Act.put, List.setIfInBounds_toArray, List.set_cons_zero, List.set_cons_succ]
          refine wpAnyH_take (i := 6) (oi := { dst := some 44, op := Op.fieldAddr 33 (Operand.tmp 7) 0, type := 0, pos := _, after := #[{ on := 5, ground := Ground.guard }], guard := some (5, true) }) (v := ?tfb7) rfl (by kernel_rfl) (by kernel_rfl) (by kernel_rfl) (fun _ _ _ h => h) (Or.inl ⟨by rfl, ?ufb7⟩) (by assumption) ?rfb7
          case ufb7 => (intro w hSw; (try dsimp only at hSw); go_simp; (try with_reducible rfl))
          simp only [Act.put, List.setIfInBounds_toArray, List.set_cons_zero, List.set_cons_succ]
          refine wpAnyH_take (i := 7) (oi := { dst := some 45, op := Op.load 31 (Operand.tmp 44), type := 31, pos := _, after := #[{ on := 6, ground := Ground.data }, { on := 5, ground := Ground.guard }], guard := some (5, true) }) (v := ?tfb8) rfl (by kernel_rfl) (by kernel_rfl) (by kernel_rfl) (fun _ _ _ h => h) (Or.inl ⟨by rfl, ?ufb8⟩) (by assumption) ?rfb8
          case ufb8 => (intro w hSw; (try dsimp only at hSw); go_simp; (try with_reducible rfl))
          simp only [Act.put, List.setIfInBounds_toArray, List.set_cons_zero, List.set_cons_succ]
          refine wpAnyH_take (i := 8) (oi := { dst := some 46, op := Op.fieldAddr 33 (Operand.tmp 8) 0, type := 0, pos := _, after := #[{ on := 5, ground := Ground.guard }], guard := some (5, true) }) (v := ?tfb9) rfl (by kernel_rfl) (by kernel_rfl) (by kernel_rfl) (fun _ _ _ h => h) (Or.inl ⟨by rfl, ?ufb9⟩) (by assumption) ?rfb9
          case ufb9 => (intro w hSw; (try dsimp only at hSw); go_simp; (try with_reducible rfl))
          simp only [Act.put, List.setIfInBounds_toArray, List.set_cons_zero, List.set_cons_succ]
          refine wpAnyH_take (i := 9) (oi := { dst := some 47, op := Op.load 31 (Operand.tmp 46), type := 31, pos := _, after := #[{ on := 8, ground := Ground.data }, { on := 5, ground := Ground.guard }], guard := some (5, true) }) (v := ?tfb10) rfl (by kernel_rfl) (by kernel_rfl) (by kernel_rfl) (fun _ _ _ h => h) (Or.inl ⟨by rfl, ?ufb10⟩) (by assumption) ?rfb10
          case ufb10 => (intro w hSw; (try dsimp only at hSw); go_simp; (try with_reducible rfl))
          simp only [Act.put, List.setIfInBounds_toArray, List.set_cons_zero, List.set_cons_succ]
          refine wpAnyH_ready (rs := [10]) (by kernel_rfl) (by simp) ?_
          refine AllReadyH.cons (o := { dst := some 48, op := Op.call { callee := Callee.value (Operand.func 11), args := #[Operand.tmp 45, Operand.tmp 47], argTypes := #[31, 31] }, type := 4, pos := _, after := #[{ on := 7, ground := Ground.data }, { on := 9, ground := Ground.data }, { on := 5, ground := Ground.chain }, { on := 5, ground := Ground.guard }], guard := some (5, true) }) rfl (fun K hK => ?_) AllReadyH.nil
          go_simp
          refine (HS.out _ _ TT _ HTl.out (HRa.out _ b2d) (HRb.out _ b2d)).mono ?_
          rintro e v59 ⟨rfl, x59⟩
          have b59 := b2d.trans (x59.mono b2d.size)
          go_wp2_with fail
          refine hK.out _ _ (XS2.out _ b59) (fun hH59 => ?_)
          clear hK K
          (try simp only [Act.put, List.setIfInBounds_toArray, List.set_cons_zero, List.set_cons_succ])
          refine wpAnyH_take (i := 11) (oi := { dst := some 49, op := Op.pick (Operand.tmp 43) (Operand.tmp 48) (Operand.const (Value.bool false)), type := 4, pos := _, after := #[{ on := 5, ground := Ground.data }, { on := 10, ground := Ground.data }], guard := none }) (v := ?tfb11) rfl (by kernel_rfl) (by kernel_rfl) (by kernel_rfl) (fun _ _ _ h => h) (Or.inl ⟨by rfl, ?ufb11⟩) (by assumption) ?rfb11
          case ufb11 => (intro w hSw; (try dsimp only at hSw); go_simp; (try with_reducible rfl))
          simp only [Act.put, List.setIfInBounds_toArray, List.set_cons_zero, List.set_cons_succ]
          refine wpAnyH_take (i := 12) (oi := { dst := some 50, op := Op.move (Operand.tmp 49), type := 4, pos := _, after := #[{ on := 11, ground := Ground.data }, { on := 10, ground := Ground.chain }], guard := none }) (v := ?tfb12) rfl (by kernel_rfl) (by kernel_rfl) (by kernel_rfl) (fun _ _ _ h => h) (Or.inl ⟨by rfl, ?ufb12⟩) (by assumption) ?rfb12
          case ufb12 => (intro w hSw; (try dsimp only at hSw); go_simp; (try with_reducible rfl))
          simp only [Act.put, List.setIfInBounds_toArray, List.set_cons_zero, List.set_cons_succ]
          refine wpAnyH_take (i := 13) (oi := { dst := some 51, op := Op.move (Operand.tmp 0), type := 22, pos := _, after := #[{ on := 12, ground := Ground.guard }], guard := some (12, true) }) (v := ?tfb13) rfl (by kernel_rfl) (by kernel_rfl) (by kernel_rfl) (fun _ _ _ h => h) (Or.inl ⟨by rfl, ?ufb13⟩) (by assumption) ?rfb13
          case ufb13 => (intro w hSw; (try dsimp only at hSw); go_simp; (try with_reducible rfl))
          simp only [Act.put, List.setIfInBounds_toArray, List.set_cons_zero, List.set_cons_succ]
          refine wpAnyH_take (i := 14) (oi := { dst := some 52, op := Op.load 28 (Operand.tmp 4), type := 28, pos := _, after := #[{ on := 12, ground := Ground.guard }], guard := some (12, true) }) (v := ?tfb14) rfl (by kernel_rfl) (by kernel_rfl) (by kernel_rfl) (fun _ _ _ h => h) (Or.inl ⟨by rfl, ?ufb14⟩) (by assumption) ?rfb14
          case ufb14 => (intro w hSw; (try dsimp only at hSw); go_simp; (try with_reducible rfl))
          simp only [Act.put, List.setIfInBounds_toArray, List.set_cons_zero, List.set_cons_succ]
          refine wpAnyH_take (i := 16) (oi := { dst := some 54, op := Op.move (Operand.tmp 0), type := 22, pos := _, after := #[{ on := 12, ground := Ground.guard }], guard := some (12, true) }) (v := ?tfb15) rfl (by kernel_rfl) (by kernel_rfl) (by kernel_rfl) (fun _ _ _ h => h) (Or.inl ⟨by rfl, ?ufb15⟩) (by assumption) ?rfb15
          case ufb15 => (intro w hSw; (try dsimp only at hSw); go_simp; (try with_reducible rfl))
          simp only [Act.put, List.setIfInBounds_toArray, List.set_cons_zero, List.set_cons_succ]
          refine wpAnyH_take (i := 17) (oi := { dst := some 55, op := Op.load 28 (Operand.tmp 5), type := 28, pos := _, after := #[{ on := 12, ground := Ground.guard }], guard := some (12, true) }) (v := ?tfb16) rfl (by kernel_rfl) (by kernel_rfl) (by kernel_rfl) (fun _ _ _ h => h) (Or.inl ⟨by rfl, ?ufb16⟩) (by assumption) ?rfb16
          case ufb16 => (intro w hSw; (try dsimp only at hSw); go_simp; (try with_reducible rfl))
          simp only [Act.put, List.setIfInBounds_toArray, List.set_cons_zero, List.set_cons_succ]
          refine wpAnyH_ready (rs := [15]) (by kernel_rfl) (by simp) ?_
          refine AllReadyH.cons (o := { dst := some 53, op := Op.call { callee := Callee.value (Operand.func 14), args := #[Operand.tmp 51, Operand.tmp 52], argTypes := #[22, 28] }, type := 9, pos := _, after := #[{ on := 13, ground := Ground.data }, { on := 14, ground := Ground.data }, { on := 12, ground := Ground.chain }, { on := 12, ground := Ground.guard }], guard := some (12, true) }) rfl (fun K hK => ?_) AllReadyH.nil
          go_simp
          refine (HH.out _ (HBW.out _ b59)).mono ?_
          rintro e v60 ⟨rfl, x60⟩
          have b60 := b59.trans (x60.mono b59.size)
          go_wp2_with fail
          refine hK.out _ _ (XS2.out _ b60) (fun hH60 => ?_)
          clear hK K
          (try simp only [Act.put, List.setIfInBounds_toArray, List.set_cons_zero, List.set_cons_succ])
          refine wpAnyH_ready (rs := [18]) (by kernel_rfl) (by simp) ?_
          refine AllReadyH.cons (o := { dst := some 56, op := Op.call { callee := Callee.value (Operand.func 14), args := #[Operand.tmp 54, Operand.tmp 55], argTypes := #[22, 28] }, type := 9, pos := _, after := #[{ on := 16, ground := Ground.data }, { on := 17, ground := Ground.data }, { on := 15, ground := Ground.chain }, { on := 12, ground := Ground.guard }], guard := some (12, true) }) rfl (fun K hK => ?_) AllReadyH.nil
          go_simp
          refine (HG.out _ (HBW.out _ b60)).mono ?_
          rintro e v61 ⟨rfl, x61⟩
          have b61 := b60.trans (x61.mono b60.size)
          go_wp2_with fail
          refine hK.out _ _ (XS2.out _ b61) (fun hH61 => ?_)
          clear hK K
          (try simp only [Act.put, List.setIfInBounds_toArray, List.set_cons_zero, List.set_cons_succ])
          refine wpAnyH_take (i := 19) (oi := { dst := some 57, op := Op.binOp BinOp.eql 9 (Operand.tmp 53) (Operand.tmp 56) 9, type := 4, pos := _, after := #[{ on := 15, ground := Ground.data }, { on := 18, ground := Ground.data }, { on := 12, ground := Ground.guard }], guard := some (12, true) }) (v := ?tfb17) rfl (by kernel_rfl) (by kernel_rfl) (by kernel_rfl) (fun _ _ _ h => h) (Or.inl ⟨by rfl, ?ufb17⟩) (by assumption) ?rfb17
          case ufb17 => (intro w hSw; (try dsimp only at hSw); go_simp; (try with_reducible rfl))
          simp only [Act.put, List.setIfInBounds_toArray, List.set_cons_zero, List.set_cons_succ]
          refine wpAnyH_take (i := 20) (oi := { dst := some 58, op := Op.pick (Operand.tmp 50) (Operand.tmp 57) (Operand.const (Value.bool false)), type := 4, pos := _, after := #[{ on := 12, ground := Ground.data }, { on := 19, ground := Ground.data }], guard := none }) (v := ?tfb18) rfl (by kernel_rfl) (by kernel_rfl) (by kernel_rfl) (fun _ _ _ h => h) (Or.inl ⟨by rfl, ?ufb18⟩) (by assumption) ?rfb18
          case ufb18 => (intro w hSw; (try dsimp only at hSw); go_simp; (try with_reducible rfl))
          simp only [Act.put, List.setIfInBounds_toArray, List.set_cons_zero, List.set_cons_succ]
          refine wpAnyH_take (i := 21) (oi := { dst := some 59, op := Op.move (Operand.tmp 58), type := 4, pos := _, after := #[{ on := 20, ground := Ground.data }, { on := 18, ground := Ground.chain }], guard := none }) (v := ?tfb19) rfl (by kernel_rfl) (by kernel_rfl) (by kernel_rfl) (fun _ _ _ h => h) (Or.inl ⟨by rfl, ?ufb19⟩) (by assumption) ?rfb19
          case ufb19 => (intro w hSw; (try dsimp only at hSw); go_simp; (try with_reducible rfl))
          simp only [Act.put, List.setIfInBounds_toArray, List.set_cons_zero, List.set_cons_succ]
          refine wpAnyH_ready (rs := [22]) (by kernel_rfl) (by simp) ?_
          refine AllReadyH.cons (o := { dst := some 60, op := Op.call { callee := Callee.value (Operand.func 8), args := #[], argTypes := #[] }, type := 4, pos := _, after := #[{ on := 21, ground := Ground.chain }, { on := 21, ground := Ground.guard }], guard := some (21, true) }) rfl (fun K hK => ?_) AllReadyH.nil
          go_simp
          refine (KA.out _ (HBW.out _ b61)).mono ?_
          rintro e v62 ⟨rfl, x62⟩
          have b62 := b61.trans (x62.mono b61.size)
          go_wp2_with fail
          refine hK.out _ _ (XS2.out _ b62) (fun hH62 => ?_)
          clear hK K
          (try simp only [Act.put, List.setIfInBounds_toArray, List.set_cons_zero, List.set_cons_succ])
          refine wpAnyH_take (i := 23) (oi := { dst := some 61, op := Op.pick (Operand.tmp 59) (Operand.tmp 60) (Operand.const (Value.bool false)), type := 4, pos := _, after := #[{ on := 21, ground := Ground.data }, { on := 22, ground := Ground.data }], guard := none }) (v := ?tfb20) rfl (by kernel_rfl) (by kernel_rfl) (by kernel_rfl) (fun _ _ _ h => h) (Or.inl ⟨by rfl, ?ufb20⟩) (by assumption) ?rfb20
          case ufb20 => (intro w hSw; (try dsimp only at hSw); go_simp; (try with_reducible rfl))
          simp only [Act.put, List.setIfInBounds_toArray, List.set_cons_zero, List.set_cons_succ]
          refine wpAnyH_take (i := 24) (oi := { dst := some 6, op := Op.assign (Operand.tmp 61), type := 4, pos := _, after := #[{ on := 23, ground := Ground.data }, { on := 22, ground := Ground.chain }, { on := 0, ground := Ground.phase }, { on := 1, ground := Ground.phase }, { on := 2, ground := Ground.phase }, { on := 3, ground := Ground.phase }, { on := 4, ground := Ground.phase }, { on := 5, ground := Ground.phase }, { on := 6, ground := Ground.phase }, { on := 7, ground := Ground.phase }, { on := 8, ground := Ground.phase }, { on := 9, ground := Ground.phase }, { on := 10, ground := Ground.phase }, { on := 11, ground := Ground.phase }, { on := 12, ground := Ground.phase }, { on := 13, ground := Ground.phase }, { on := 14, ground := Ground.phase }, { on := 15, ground := Ground.phase }, { on := 16, ground := Ground.phase }, { on := 17, ground := Ground.phase }, { on := 18, ground := Ground.phase }, { on := 19, ground := Ground.phase }, { on := 20, ground := Ground.phase }, { on := 21, ground := Ground.phase }, { on := 22, ground := Ground.phase }, { on := 23, ground := Ground.phase }], guard := none }) (v := ?tfb21) rfl (by kernel_rfl) (by kernel_rfl) (by kernel_rfl) (fun _ _ _ h => h) (Or.inl ⟨by rfl, ?ufb21⟩) (by assumption) ?rfb21
          case ufb21 => (intro w hSw; (try dsimp only at hSw); go_simp; (try with_reducible rfl))
          simp only [Act.put, List.setIfInBounds_toArray, List.set_cons_zero, List.set_cons_succ]
          refine wpAnyH_done (by kernel_rfl) ?_ _
          go_wp2_with fail
          go_ret
          exact ⟨rfl, HBW.out _ b62⟩

end Go.Proofs.YtkgbpildikjoiaaGreatDoor
