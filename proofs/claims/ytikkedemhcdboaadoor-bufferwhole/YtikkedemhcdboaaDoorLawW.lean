/- The law BufferWhole in memory; the conditions: the script in memory, the two tables of unicode/utf8. -/
import Derived.Test.YtikkedemhcdboaaDoorBy
import Derived.Test.YtikkedemhcdboaaDoorBz
import Derived.Test.YtikkedemhcdboaaDoorLawP2
namespace Go.Proofs.YtikkedemhcdboaaDoor
open Go.RowKit Tp

set_option maxRecDepth 100000 in
set_option maxHeartbeats 4000000 in
theorem bw_bad (a b : Int) (n c : Nat) (ad : Option Addr) (w : World)
    (hF : Calls Tryd.prog 6 #[.agg #[.slice none 0 0, .int .i64 0], .int .i64 a, .int .i64 b, .int .i64 0] w fun e w' => e = .returned (.bool false) ∧ Below w.heap.size w w') :
    Calls Tryd.prog 5 #[.int .i64 a, .int .i64 b, .slice ad n c] w fun e w' => e = .returned (.bool true) ∧ Below w.heap.size w w' := by
  have HF := Lib.hid hF
  clear hF
  go_enter Tryd.func5, Tryd.ntmps5
  go_wp2_with (first | (go_at_call 6; refine HF.out.mono ?_; rintro e w1 ⟨rfl, b1⟩) | (go_at_call 8; refine (awake_any w1).mono ?_; rintro e w2 ⟨rfl, b2⟩))
  go_ret
  exact ⟨rfl, b1.trans (b2.mono b1.size)⟩

/-- What holds before turn j. -/
structure Jw (w : World) (Bs : Nat) (a : Int) (j : Nat) (nw : Int) (P O S : List Ms) (sP sO : Value) (xsP xsO : List Value) (aS : Option Addr) (cS : Nat) (since : Int) (wr : World) : Prop where
  v : Wv w Bs P O S sP sO xsP xsO aS cS since wr
  e : P = O ++ S
  pl : P.length ≤ j
  sm : Sm P
  sa : (S.length : Int) < a
  s0 : 0 ≤ since
  s1 : since ≤ nw
  n0 : 0 ≤ nw
  n1 : nw ≤ 8 * j
theorem Jw.smS {w : World} {Bs : Nat} {a : Int} {j : Nat} {nw : Int} {P O S : List Ms} {sP sO : Value} {xsP xsO : List Value} {aS : Option Addr} {cS : Nat} {since : Int} {wr : World} (h : Jw w Bs a j nw P O S sP sO xsP xsO aS cS since wr) : Sm S := fun x hx => h.sm x (by rw [h.e]; exact List.mem_append_right _ hx)
theorem Jw.ol {w : World} {Bs : Nat} {a : Int} {j : Nat} {nw : Int} {P O S : List Ms} {sP sO : Value} {xsP xsO : List Value} {aS : Option Addr} {cS : Nat} {since : Int} {wr : World} (h : Jw w Bs a j nw P O S sP sO xsP xsO aS cS since wr) : O.length + S.length ≤ j := by have := h.pl; rw [h.e, List.length_append] at this; exact this

theorem nx_bd (nw n : Int) (h0 : 0 ≤ nw) (h1 : nw ≤ 480) : nw ≤ wrap64 (nw + wrap64 ((IntKind.u64.wrap n).tmod 9)) ∧ wrap64 (nw + wrap64 ((IntKind.u64.wrap n).tmod 9)) ≤ nw + 8 := by
  rw [IntKind.wrap_u64, Int.tmod_eq_emod_of_nonneg (by omega)]
  unfold wrap64
  omega

set_option maxRecDepth 100000 in
set_option maxHeartbeats 16000000 in
theorem bw_good (a b : Int) (l : List Tn) (ad : Option Addr) (c : Nat) (w : World) (ha1 : 1 ≤ a) (ha2 : a ≤ 1000) (hb1 : 0 ≤ b) (hb2 : b ≤ 1000000) (hI : Tw w ad l)
    (hF : Calls Tryd.prog 6 #[.agg #[.slice none 0 0, .int .i64 0], .int .i64 a, .int .i64 b, .int .i64 0] w fun e w' => e = .returned (.bool true) ∧ Below w.heap.size w w')
    (hX : ∀ y ∈ l, ∀ d wx, Below w.heap.size w wx → Dt.Rep w y.m.n (Bo.vs d) y.m.t → Calls Tryd.prog 7 #[.agg (y.m.cs d)] wx fun e w' => e = .returned (.bool (fmB y.m)) ∧ Below wx.heap.size wx w') :
    Calls Tryd.prog 5 #[.int .i64 a, .int .i64 b, .slice ad l.length c] w fun e w' => e = .returned (.bool true) ∧ Below w.heap.size w w' := by
  have HF := Lib.hid hF
  have HI := Lib.hid hI
  have HX := Lib.hid hX
  clear hF hI hX
  go_enter Tryd.func5, Tryd.ntmps5
  go_wp2_with (go_at_call 6; refine HF.out.mono ?_; rintro e w1 ⟨rfl, b1⟩)
  have V0 := Wv.new w w1 b1
  have hBs : w1.heap.size < (w1.alloc (.cells #[.slice none 0 0, .int .i64 0] 24)).heap.size := by simp
  generalize hb0 : w1.heap.size = Bs at *
  generalize hw2 : w1.alloc (.cells #[.slice none 0 0, .int .i64 0] 24) = w2 at *
  clear hw2 b1 HF
  have J0 : Jw w Bs a 0 0 [] [] [] (.slice none 0 0) (.slice none 0 0) [] [] none 0 0 w2 := ⟨V0, rfl, Nat.le_refl _, fun x hx => by simp at hx, by simp; omega, Int.le_refl _, Int.le_refl _, Int.le_refl _, by simp⟩
  clear V0
  go_loopw [8, 9, 10, 11] (fun sP sO sN si wr => ∃ (j : Nat) (nw : Int) (P O S : List Ms) (xsP xsO : List Value) (aS : Option Addr) (cS : Nat) (since : Int), si = .int .i64 j ∧ sN = .int .i64 nw ∧ j ≤ l.length ∧ j ≤ 60 ∧ Jw w Bs a j nw P O S sP sO xsP xsO aS cS since wr) (fun _ _ _ si _ => 60 - (intOf si).toNat)
  case atStart => exact ⟨0, 0, [], [], [], [], [], none, 0, 0, rfl, rfl, Nat.zero_le _, Nat.zero_le _, J0⟩
  case round =>
    obtain ⟨j, nw, P, O, S, xsP, xsO, aS, cS, since, rfl, rfl, hj1, hj2, J⟩ := hrel
    clear J0
    obtain ⟨st0, st1⟩ := J.v.s.c2
    by_cases hlt : j < l.length ∧ j < 60
    · obtain ⟨hlt1, hlt2⟩ := hlt
      rcases HI.out with h | ⟨bt, ot, rfl, hbt, h2⟩
      · rw [h] at hlt1; simp at hlt1
      obtain ⟨y, hy⟩ : ∃ y, l[j]? = some y := ⟨_, List.getElem?_eq_getElem hlt1⟩
      obtain ⟨d, c15, R⟩ := h2 j y hy
      have hym := List.mem_of_getElem? hy
      have HC := Lib.hid (fun wx hb => HX.out y hym d wx hb R)
      have C15 : Hid (∀ wx : World, Below w.heap.size w wx → T15 wx bt (ot + j * 15) y d) := fun wx hb => c15.heap (hb.block bt hbt)
      have RR := Lib.hid R
      clear h2 HI HX hy hym R c15
      obtain ⟨k0, ⟨x0, x1, x2, x3, x4, x5, x6, x7, x8, x9, x10, x11, x12⟩, n0⟩ := C15.out wr J.v.b
      have j0 : (0 : Int) ≤ (j : Int) := by omega
      have j1 : (j : Int) < (l.length : Int) := by omega
      have j2 : (j : Int) < 60 := by omega
      have JJ := Lib.hid J
      by_cases hk0 : y.k = 0
      · rw [hk0] at k0
        have hol := JJ.out.ol
        have hpl := JJ.out.pl
        have hsa := JJ.out.sa
        have hss0 := JJ.out.s0
        have hss1 := JJ.out.s1
        have hnn0 := JJ.out.n0
        clear J n0
        cases hf : fmB y.m with
        | false =>
          rw [hf] at HC
          go_wp2_with (go_at_call 7; refine (HC.out wr JJ.out.v.b).mono ?_; rintro e w3 ⟨rfl, b3⟩)
          exact ⟨⟨j + 1, nw, P, O, S, xsP, xsO, aS, cS, since, by go_num, rfl, by omega, by omega, ⟨JJ.out.v.step b3, JJ.out.e, Nat.le_succ_of_le JJ.out.pl, JJ.out.sm, JJ.out.sa, JJ.out.s0, JJ.out.s1, JJ.out.n0, by have := JJ.out.n1; omega⟩⟩, by simp [intOf]; omega⟩
        | true =>
          rw [hf] at HC
          have PUT : Hid (∀ w3 : World, Below wr.heap.size wr w3 → Wv w Bs P O S u8 u9 xsP xsO aS cS since (w3.alloc (.cells (y.m.cs d) 30)) ∧ Mz (Fw Bs u8 u9 (w3.alloc (.cells (y.m.cs d) 30))) (w3.alloc (.cells (y.m.cs d) 30)) (some ⟨w3.heap.size, 0, none⟩) [y.m]) := fun w3 b3 => by
            have V3 := JJ.out.v.step b3
            have e3 := below1 w3 (.cells (y.m.cs d) 30)
            have hb := V3.b
            have hbs := V3.bs
            have no1 : ∀ g, u8.ownBlock = some g → Bs + 1 ≤ g ∧ g < w3.heap.size := fun g hg => V3.p.own_lt g hg
            have no2 : ∀ g, u9.ownBlock = some g → Bs + 1 ≤ g ∧ g < w3.heap.size := fun g hg => V3.o.own_lt g hg
            have sB := V3.s.lt
            refine ⟨V3.step e3, mz_one (Bk.new w3 _ _) ⟨by simp, fun e => by have := (no1 _ e.symm).2; omega, fun e => by have := (no2 _ e.symm).2; omega, by omega⟩ ?_⟩
            refine Rz.to (fun g hg => ⟨⟨by rw [World.size_alloc]; have := hb.size; omega, fun e => by have := (no1 _ e.symm).1; omega, fun e => by have := (no2 _ e.symm).1; omega, by omega⟩, (e3.block g (by have := hb.size; omega)).trans (hb.block g hg)⟩) _ _ _ (Rz.of_rep _ _ _ RR.out)
          go_wp2_with (first | (go_at_call 7; refine (HC.out wr JJ.out.v.b).mono ?_; rintro e w3 ⟨rfl, b3⟩; clear k0 x0 x1 x2 x3 x4 x5 x6 x7 x8 x9 x10 x11 x12 st0 st1; obtain ⟨k0, ⟨x0, x1, x2, x3, x4, x5, x6, x7, x8, x9, x10, x11, x12⟩, -⟩ := C15.out w3 (JJ.out.v.step b3).b; have T3 := Lib.hid (PUT.out w3 b3); clear b3) | (at_builtin; refine wpList_mapp rfl _ _ rfl (Bs + 1) (Fw Bs u8 u9 _) P u8 xsP rfl T3.out.1.p (some ⟨w3.heap.size, 0, none⟩) 1 [y.m] rfl T3.out.2 (fun e => by cases e) (by simp; omega) (fun g hg => ⟨hg.1, hg.2.1⟩) ?_; intro sP' xs' w4 m4 g4 a4; have V4 := Lib.hid (T3.out.1.put m4 g4 a4); clear m4 g4 a4 T3 k0 x0 x1 x2 x3 x4 x5 x6 x7 x8 x9 x10 x11 x12))
          have hsm : Sm (S ++ [y.m]) := JJ.out.smS.app (fun z hz => by simp at hz; subst hz; exact fm_sm hf)
          have HSm : Hid (Sm (P ++ [y.m])) := JJ.out.sm.app (fun z hz => by simp at hz; subst hz; exact fm_sm hf)
          have hPut : ∀ wx, Below w4.heap.size w4 wx → Calls Tryd.prog 10 #[.agg #[.slice aS S.length cS, .int .i64 since], .int .i64 a, .int .i64 nw, .agg (y.m.cs d)] wx (PutP wx S y.m since a nw) := fun wx hb => put_any S y.m d aS cS since a nw wx (by omega) (Mw.below V4.out.r.mw hb) (Dt.Rep.below (V4.out.b.trans (hb.mono V4.out.b.size)) _ _ _ RR.out) hsm
          obtain ⟨l1, s1, l2, hPt, he, hla, hs10, hs11, hl2⟩ : ∃ l1 s1 l2, (∀ wx, Below w4.heap.size w4 wx → Calls Tryd.prog 10 #[.agg #[.slice aS S.length cS, .int .i64 since], .int .i64 a, .int .i64 nw, .agg (y.m.cs d)] wx (BfP wx l1 s1 l2)) ∧ P ++ [y.m] = (O ++ l2) ++ l1 ∧ (l1.length : Int) < a ∧ 0 ≤ s1 ∧ s1 ≤ nw ∧ O.length + l2.length ≤ 1000 := by
            by_cases hq : a ≤ (S.length : Int) + 1
            · exact ⟨[], 0, S ++ [y.m], fun wx hb => (hPut wx hb).mono fun e w' h => h.1 hq, by rw [JJ.out.e]; simp, by simp only [List.length_nil]; omega, Int.le_refl _, hnn0, by simp; omega⟩
            · by_cases h0 : S = []
              · exact ⟨[y.m], nw, [], fun wx hb => (hPut wx hb).mono fun e w' h => (h.2 (by omega)).1 h0, by simp [JJ.out.e, h0], by (have h9 : S.length = 0 := by rw [h0]; rfl); simp only [List.length_cons, List.length_nil]; omega, hnn0, Int.le_refl _, by simp only [List.length_nil]; omega⟩
              · exact ⟨S ++ [y.m], since, [], fun wx hb => (hPut wx hb).mono fun e w' h => (h.2 (by omega)).2 h0, by rw [JJ.out.e]; simp, by simp; omega, hss0, hss1, by simp; omega⟩
          have HPt := Lib.hid hPt
          have HE := Lib.hid he
          have hla' : ¬ a ≤ (l1.length : Int) := by omega
          have KS : Hid (∀ wx, Below w.heap.size w wx → (fun wx => wx.cell? ⟨bt, ot + j * 15 + 1, none⟩ = some (.int .i64 y.m.id) ∧ wx.cell? ⟨bt, ot + j * 15 + 1 + 1, none⟩ = some (.string y.m.tp) ∧ wx.cell? ⟨bt, ot + j * 15 + 1 + 2, none⟩ = some (.int .i64 d.k) ∧ wx.cell? ⟨bt, ot + j * 15 + 1 + 3, none⟩ = some (.int .i64 d.i) ∧ wx.cell? ⟨bt, ot + j * 15 + 1 + 4, none⟩ = some (.int .u64 d.u) ∧ wx.cell? ⟨bt, ot + j * 15 + 1 + 5, none⟩ = some (.string d.s) ∧ wx.cell? ⟨bt, ot + j * 15 + 1 + 6, none⟩ = some (.slice d.a d.l d.c) ∧ wx.cell? ⟨bt, ot + j * 15 + 1 + 7, none⟩ = some (.int .i64 y.m.ti) ∧ wx.cell? ⟨bt, ot + j * 15 + 1 + 8, none⟩ = some (.int .i64 y.m.un) ∧ wx.cell? ⟨bt, ot + j * 15 + 1 + 9, none⟩ = some (.string y.m.rp) ∧ wx.cell? ⟨bt, ot + j * 15 + 1 + 10, none⟩ = some (.int .i64 y.m.co) ∧ wx.cell? ⟨bt, ot + j * 15 + 1 + 11, none⟩ = some (.int .i64 y.m.pr) ∧ wx.cell? ⟨bt, ot + j * 15 + 1 + 12, none⟩ = some (.int .i64 y.m.ho)) wx) := fun wx hb => (C15.out wx hb).2.1
          clear hPt hPut he hsm PUT HC
          have b0 : Below w4.heap.size w4 w4.drew := (Below.refl _ _).drew
          refine wp_region_held_drew (S := (fun wx => wx.cell? ⟨bt, ot + j * 15 + 1, none⟩ = some (.int .i64 y.m.id) ∧ wx.cell? ⟨bt, ot + j * 15 + 1 + 1, none⟩ = some (.string y.m.tp) ∧ wx.cell? ⟨bt, ot + j * 15 + 1 + 2, none⟩ = some (.int .i64 d.k) ∧ wx.cell? ⟨bt, ot + j * 15 + 1 + 3, none⟩ = some (.int .i64 d.i) ∧ wx.cell? ⟨bt, ot + j * 15 + 1 + 4, none⟩ = some (.int .u64 d.u) ∧ wx.cell? ⟨bt, ot + j * 15 + 1 + 5, none⟩ = some (.string d.s) ∧ wx.cell? ⟨bt, ot + j * 15 + 1 + 6, none⟩ = some (.slice d.a d.l d.c) ∧ wx.cell? ⟨bt, ot + j * 15 + 1 + 7, none⟩ = some (.int .i64 y.m.ti) ∧ wx.cell? ⟨bt, ot + j * 15 + 1 + 8, none⟩ = some (.int .i64 y.m.un) ∧ wx.cell? ⟨bt, ot + j * 15 + 1 + 9, none⟩ = some (.string y.m.rp) ∧ wx.cell? ⟨bt, ot + j * 15 + 1 + 10, none⟩ = some (.int .i64 y.m.co) ∧ wx.cell? ⟨bt, ot + j * 15 + 1 + 11, none⟩ = some (.int .i64 y.m.pr) ∧ wx.cell? ⟨bt, ot + j * 15 + 1 + 12, none⟩ = some (.int .i64 y.m.ho))) (by kernel_rfl) (KS.out _ V4.out.b.drew) (fun hHeld => ?_)
          generalize w4.drew = w5 at *
          refine wpAnyH_take (i := 1) (oi := { dst := some 62, op := Op.move (Operand.tmp 0), type := 2, pos := _, after := #[], guard := none }) (v := ?tC1) rfl (by kernel_rfl) (by kernel_rfl) (by kernel_rfl) (fun _ _ _ h => h) (Or.inl ⟨by rfl, ?uC1⟩) (by assumption) ?rC1
          case uC1 => (intro w hSw; (try dsimp only at hSw); go_simp; (try with_reducible rfl))
          simp only [Act.put, List.setIfInBounds_toArray, List.set_cons_zero, List.set_cons_succ]
          refine wpAnyH_take (i := 2) (oi := { dst := some 63, op := Op.move (Operand.tmp 10), type := 2, pos := _, after := #[], guard := none }) (v := ?tC2) rfl (by kernel_rfl) (by kernel_rfl) (by kernel_rfl) (fun _ _ _ h => h) (Or.inl ⟨by rfl, ?uC2⟩) (by assumption) ?rC2
          case uC2 => (intro w hSw; (try dsimp only at hSw); go_simp; (try with_reducible rfl))
          simp only [Act.put, List.setIfInBounds_toArray, List.set_cons_zero, List.set_cons_succ]
          refine wpAnyH_take (i := 3) (oi := { dst := some 64, op := Op.move (Operand.tmp 2), type := 46, pos := _, after := #[], guard := none }) (v := ?tC3) rfl (by kernel_rfl) (by kernel_rfl) (by kernel_rfl) (fun _ _ _ h => h) (Or.inl ⟨by rfl, ?uC3⟩) (by assumption) ?rC3
          case uC3 => (intro w hSw; (try dsimp only at hSw); go_simp; (try with_reducible rfl))
          simp only [Act.put, List.setIfInBounds_toArray, List.set_cons_zero, List.set_cons_succ]
          refine wpAnyH_take (i := 4) (oi := { dst := some 65, op := Op.move (Operand.tmp 11), type := 3, pos := _, after := #[], guard := none }) (v := ?tC4) rfl (by kernel_rfl) (by kernel_rfl) (by kernel_rfl) (fun _ _ _ h => h) (Or.inl ⟨by rfl, ?uC4⟩) (by assumption) ?rC4
          case uC4 => (intro w hSw; (try dsimp only at hSw); go_simp; (try with_reducible rfl))
          simp only [Act.put, List.setIfInBounds_toArray, List.set_cons_zero, List.set_cons_succ]
          refine wpAnyH_take (i := 5) (oi := { dst := some 66, op := Op.indexAddr 46 (Operand.tmp 64) (Operand.tmp 65), type := 0, pos := _, after := #[{ on := 3, ground := Ground.data }, { on := 4, ground := Ground.data }], guard := none }) (v := ?tC5) rfl (by kernel_rfl) (by kernel_rfl) (by kernel_rfl) (fun _ _ _ h => h) (Or.inl ⟨by rfl, ?uC5⟩) (by assumption) ?rC5
          case uC5 => (intro w hSw; (try dsimp only at hSw); go_simp; (try with_reducible rfl))
          simp only [Act.put, List.setIfInBounds_toArray, List.set_cons_zero, List.set_cons_succ]
          refine wpAnyH_take (i := 6) (oi := { dst := some 67, op := Op.fieldAddr 48 (Operand.tmp 66) 1, type := 0, pos := _, after := #[{ on := 5, ground := Ground.data }], guard := none }) (v := ?tC6) rfl (by kernel_rfl) (by kernel_rfl) (by kernel_rfl) (fun _ _ _ h => h) (Or.inl ⟨by rfl, ?uC6⟩) (by assumption) ?rC6
          case uC6 => (intro w hSw; (try dsimp only at hSw); go_simp; (try with_reducible rfl))
          simp only [Act.put, List.setIfInBounds_toArray, List.set_cons_zero, List.set_cons_succ]
          refine wpAnyH_take (i := 7) (oi := { dst := some 68, op := Op.load 30 (Operand.tmp 67), type := 30, pos := _, after := #[{ on := 6, ground := Ground.data }], guard := none }) (v := ?tC7) rfl (by kernel_rfl) (by kernel_rfl) (by kernel_rfl) (fun _ _ _ h => h) (Or.inl ⟨by rfl, ?uC7⟩) (by assumption) ?rC7
          case uC7 => (intro w hSw; (try dsimp only at hSw); go_simp; (try with_reducible rfl))
          simp only [Act.put, List.setIfInBounds_toArray, List.set_cons_zero, List.set_cons_succ]
          refine wpAnyH_ready (rs := [0]) (by kernel_rfl) (by simp) ?_
          refine AllReadyH.cons (o := { dst := some 61, op := Op.load 24 (Operand.tmp 7), type := 24, pos := _, after := #[], guard := none }) rfl (fun K hK => ?_) AllReadyH.nil
          obtain ⟨st0, st1⟩ := (V4.out.step b0).s.c2
          go_simp
          refine hK.out _ _ (KS.out _ (V4.out.b.trans (b0.mono V4.out.b.size))) (fun hH1 => ?_)
          clear hK K
          (try simp only [Act.put, List.setIfInBounds_toArray, List.set_cons_zero, List.set_cons_succ])
          refine wpAnyH_ready (rs := [8]) (by kernel_rfl) (by simp) ?_
          refine AllReadyH.cons (o := { dst := some 69, op := Op.call { callee := Callee.value (Operand.func 10), args := #[Operand.tmp 61, Operand.tmp 62, Operand.tmp 63, Operand.tmp 68], argTypes := #[24, 2, 2, 30] }, type := 35, pos := _, after := #[{ on := 0, ground := Ground.data }, { on := 1, ground := Ground.data }, { on := 2, ground := Ground.data }, { on := 7, ground := Ground.data }], guard := none }) rfl (fun K hK => ?_) AllReadyH.nil
          clear st0 st1
          go_simp
          refine (HPt.out _ b0).mono ?_
          rintro e w6 ⟨a1, c1, a2, c2, rfl, n1, n2, m1, m2, e6⟩
          have b6 := b0.trans (e6.mono b0.size)
          have V6 := (V4.out.step b0).step e6
          have N2 := Lib.hid n2
          have T6 := Lib.hid ((V4.out.step b0).turn e6 c1 s1 m1 m2)
          clear n1 n2 m1 m2 e6
          go_wp2_with fail
          refine hK.out _ _ (KS.out _ (V4.out.b.trans (b6.mono V4.out.b.size))) (fun hH2 => ?_)
          clear hK K
          (try simp only [Act.put, List.setIfInBounds_toArray, List.set_cons_zero, List.set_cons_succ])
          refine wpAnyH_take (i := 9) (oi := { dst := some 60, op := Op.move (Operand.tmp 69), type := 35, pos := _, after := #[{ on := 8, ground := Ground.data }], guard := none }) (v := ?tC8) rfl (by kernel_rfl) (by kernel_rfl) (by kernel_rfl) (fun _ _ _ h => h) (Or.inl ⟨by rfl, ?uC8⟩) (by assumption) ?rC8
          case uC8 => (intro w hSw; (try dsimp only at hSw); go_simp; (try with_reducible rfl))
          simp only [Act.put, List.setIfInBounds_toArray, List.set_cons_zero, List.set_cons_succ]
          refine wpAnyH_take (i := 10) (oi := { dst := some 70, op := Op.extract (Operand.tmp 60) 0, type := 24, pos := _, after := #[{ on := 9, ground := Ground.data }], guard := none }) (v := ?tC9) rfl (by kernel_rfl) (by kernel_rfl) (by kernel_rfl) (fun _ _ _ h => h) (Or.inl ⟨by rfl, ?uC9⟩) (by assumption) ?rC9
          case uC9 => (intro w hSw; (try dsimp only at hSw); go_simp; (try with_reducible rfl))
          simp only [Act.put, List.setIfInBounds_toArray, List.set_cons_zero, List.set_cons_succ]
          refine wpAnyH_take (i := 11) (oi := { dst := some 71, op := Op.extract (Operand.tmp 60) 1, type := 22, pos := _, after := #[{ on := 9, ground := Ground.data }, { on := 12, ground := Ground.gcOnly Departure.lateStores }], guard := none }) (v := ?tC10) rfl (by kernel_rfl) (by kernel_rfl) (by kernel_rfl) (fun _ _ _ h => h) (Or.inl ⟨by rfl, ?uC10⟩) (by assumption) ?rC10
          case uC10 => (intro w hSw; (try dsimp only at hSw); go_simp; (try with_reducible rfl))
          simp only [Act.put, List.setIfInBounds_toArray, List.set_cons_zero, List.set_cons_succ]
          refine wpAnyH_ready (rs := [12]) (by kernel_rfl) (by simp) ?_
          refine AllReadyH.cons (o := { dst := none, op := Op.store 24 (Operand.tmp 7) (Operand.tmp 70), type := 0, pos := _, after := #[{ on := 10, ground := Ground.data }, { on := 8, ground := Ground.chain }, { on := 0, ground := Ground.phase }, { on := 1, ground := Ground.phase }, { on := 2, ground := Ground.phase }, { on := 3, ground := Ground.phase }, { on := 4, ground := Ground.phase }, { on := 5, ground := Ground.phase }, { on := 6, ground := Ground.phase }, { on := 7, ground := Ground.phase }, { on := 8, ground := Ground.phase }, { on := 9, ground := Ground.phase }, { on := 10, ground := Ground.phase }, { on := 11, ground := Ground.textOnly Departure.lateStores }], guard := none }) rfl (fun K hK => ?_) AllReadyH.nil
          obtain ⟨z0, z1⟩ := V6.s.c2
          have zf := V6.s.f
          go_simp
          have B8 := (T6.out _ rfl).1.b
          refine hK.out _ _ (KS.out _ B8) (fun hH3 => ?_)
          clear hK K
          (try simp only [Act.put, List.setIfInBounds_toArray, List.set_cons_zero, List.set_cons_succ])
          refine wpAnyH_take (i := 13) (oi := { dst := some 12, op := Op.assign (Operand.tmp 71), type := 22, pos := _, after := #[{ on := 11, ground := Ground.data }, { on := 12, ground := Ground.chain }, { on := 0, ground := Ground.phase }, { on := 1, ground := Ground.phase }, { on := 2, ground := Ground.phase }, { on := 3, ground := Ground.phase }, { on := 4, ground := Ground.phase }, { on := 5, ground := Ground.phase }, { on := 6, ground := Ground.phase }, { on := 7, ground := Ground.phase }, { on := 8, ground := Ground.phase }, { on := 9, ground := Ground.phase }, { on := 10, ground := Ground.phase }, { on := 11, ground := Ground.phase }, { on := 12, ground := Ground.phase }], guard := none }) (v := ?tC11) rfl (by kernel_rfl) (by kernel_rfl) (by kernel_rfl) (fun _ _ _ h => h) (Or.inl ⟨by rfl, ?uC11⟩) (by assumption) ?rC11
          case uC11 => (intro w hSw; (try dsimp only at hSw); go_simp; (try with_reducible rfl))
          simp only [Act.put, List.setIfInBounds_toArray, List.set_cons_zero, List.set_cons_succ]
          refine wpAnyH_done (by kernel_rfl) ?_ _
          go_wp2_with (at_builtin; refine wpList_mapp rfl _ _ rfl (Bs + 1) (Fw Bs sP' u9 _) O u9 xsO rfl (T6.out _ rfl).1.o a2 c2 l2 rfl (T6.out _ rfl).2 N2.out (by omega) (fun g hg => ⟨hg.1, hg.2.2.1⟩) ?_; intro sO' xo' w7 m7 g7 a7; have V7 := Lib.hid ((T6.out _ rfl).1.out m7 g7 a7); clear m7 g7 a7; obtain ⟨q0, q1⟩ := V7.out.s.c2; have k7 := (C15.out w7 V7.out.b).1; rw [hk0] at k7)
          exact ⟨⟨j + 1, nw, P ++ [y.m], O ++ l2, l1, xs', xo', a1, c1, s1, by go_num, rfl, by omega, by omega, ⟨V7.out, HE.out, by rw [List.length_append]; have := JJ.out.pl; simp; omega, HSm.out, hla, hs10, hs11, JJ.out.n0, by have := JJ.out.n1; omega⟩⟩, by simp [intOf]; omega⟩

      · by_cases hk1 : y.k = 1
        · rw [hk1] at k0
          clear J hk0
          have hn0 := JJ.out.n0
          have hn1 := JJ.out.n1
          have hs0 := JJ.out.s0
          have hs1 := JJ.out.s1
          have hol := JJ.out.ol
          have hsa := JJ.out.sa
          obtain ⟨hx1, hx2⟩ := nx_bd nw y.n hn0 (by omega)
          have HX1 := Lib.hid hx1
          have HX2 := Lib.hid hx2
          clear hx1 hx2
          go_wp2_with fail
          generalize wrap64 (nw + wrap64 ((IntKind.u64.wrap y.n).tmod 9)) = nx at *
          have hx1 := HX1.out
          have hx2 := HX2.out
          have V0 := Lib.hid JJ.out.v
          clear HX1 HX2
          by_cases hgo : 0 < b ∧ 0 < S.length
          · obtain ⟨hg1, hg2⟩ := hgo
            by_cases hnow : since + b ≤ nx
            · have hgo := And.intro hg1 hg2
              have hS0 : (0 : Int) < S.length := by omega
              refine (next_yes S.length aS cS since b wr (by omega) (by omega) (by omega) (by omega) hb2).mono ?_
              rintro e w4 ⟨rfl, b4⟩
              have V4 := Lib.hid (V0.out.step b4)
              clear st0 st1 k0 x0 x1 x2 x3 x4 x5 x6 x7 x8 x9 x10 x11 x12 n0 b4
              obtain ⟨st0, st1⟩ := V4.out.s.c2
              have HTk := Lib.hid (tick_go S aS cS since b nx w4 (by omega) V4.out.r.mw JJ.out.smS (by omega) (by omega) (by omega) (by omega) hb2 (by omega))
              go_wp2_with (first | (go_at_call 16; refine HTk.out.mono ?_; rintro e w5 ⟨a1, c1, a2, c2, rfl, n1, n2, m1, m2, b5⟩; clear st0 st1; have V5 := V4.out.step b5; obtain ⟨z0, z1⟩ := V5.s.c2; have zf := V5.s.f; have N1 := Lib.hid n1; have N2 := Lib.hid n2; have T6 := Lib.hid (V4.out.turn b5 c1 0 m1 m2); clear n1 n2 m1 m2 b5 V5) | (at_builtin; refine wpList_mapp rfl _ _ rfl (Bs + 1) (Fw Bs u8 u9 _) O u9 xsO rfl (T6.out _ rfl).1.o a2 c2 S rfl (T6.out _ rfl).2 N2.out (by first | omega | (simp; omega)) (fun g hg => ⟨hg.1, hg.2.2.1⟩) ?_; intro sO' xs' w7 m7 g7 a7; have V7 := Lib.hid ((T6.out _ rfl).1.out m7 g7 a7); clear m7 g7 a7 z0 z1; obtain ⟨q0, q1⟩ := V7.out.s.c2; have k7 := (C15.out w7 V7.out.b).1; rw [hk1] at k7))
              exact ⟨⟨j + 1, nx, P, O ++ S, [], xsP, xs', a1, c1, 0, by go_num, rfl, by omega, by omega, ⟨V7.out, by rw [JJ.out.e]; simp, Nat.le_succ_of_le JJ.out.pl, JJ.out.sm, by simp; omega, Int.le_refl _, by omega, by omega, by omega⟩⟩, by simp [intOf]; omega⟩
            · have hnow' : nx < since + b := by omega
              have hS0 : (0 : Int) < S.length := by omega
              refine (next_yes S.length aS cS since b wr (by omega) (by omega) (by omega) (by omega) hb2).mono ?_
              rintro e w4 ⟨rfl, b4⟩
              have V4 := Lib.hid (V0.out.step b4)
              clear st0 st1 k0 x0 x1 x2 x3 x4 x5 x6 x7 x8 x9 x10 x11 x12 n0 b4
              obtain ⟨st0, st1⟩ := V4.out.s.c2
              have HTk := Lib.hid (tick_stay S aS cS since b nx w4 (by omega) V4.out.r.mw JJ.out.smS (by omega) (by omega) hb2 (by omega))
              go_wp2_with (first | (go_at_call 16; refine HTk.out.mono ?_; rintro e w5 ⟨a1, c1, a2, c2, rfl, n1, n2, m1, m2, b5⟩; clear st0 st1; have V5 := V4.out.step b5; obtain ⟨z0, z1⟩ := V5.s.c2; have zf := V5.s.f; have N1 := Lib.hid n1; have N2 := Lib.hid n2; have T6 := Lib.hid (V4.out.turn b5 c1 since m1 m2); clear n1 n2 m1 m2 b5 V5) | (at_builtin; refine wpList_mapp rfl _ _ rfl (Bs + 1) (Fw Bs u8 u9 _) O u9 xsO rfl (T6.out _ rfl).1.o a2 c2 [] rfl (T6.out _ rfl).2 (fun _ => N2.out (by trivial)) (by first | omega | (simp; omega)) (fun g hg => ⟨hg.1, hg.2.2.1⟩) ?_; intro sO' xs' w7 m7 g7 a7; have V7 := Lib.hid ((T6.out _ rfl).1.out m7 g7 a7); clear m7 g7 a7 z0 z1; obtain ⟨q0, q1⟩ := V7.out.s.c2; have k7 := (C15.out w7 V7.out.b).1; rw [hk1] at k7))
              exact ⟨⟨j + 1, nx, P, O ++ [], S, xsP, xs', a1, c1, since, by go_num, rfl, by omega, by omega, ⟨V7.out, by rw [JJ.out.e]; simp, Nat.le_succ_of_le JJ.out.pl, JJ.out.sm, by omega, by omega, by omega, by omega, by omega⟩⟩, by simp [intOf]; omega⟩
          · have hno : b ≤ 0 ∨ S.length = 0 := by omega
            have hS0 : True := trivial
            refine (next_no S.length aS cS since b wr (by omega)).mono ?_
            rintro e w4 ⟨rfl, b4⟩
            have V4 := Lib.hid (V0.out.step b4)
            clear st0 st1 k0 x0 x1 x2 x3 x4 x5 x6 x7 x8 x9 x10 x11 x12 n0 b4
            obtain ⟨st0, st1⟩ := V4.out.s.c2
            have HTk := Lib.hid (tick_stay S aS cS since b nx w4 (by omega) V4.out.r.mw JJ.out.smS (by omega) (by omega) hb2 (by omega))
            go_wp2_with (first | (go_at_call 16; refine HTk.out.mono ?_; rintro e w5 ⟨a1, c1, a2, c2, rfl, n1, n2, m1, m2, b5⟩; clear st0 st1; have V5 := V4.out.step b5; obtain ⟨z0, z1⟩ := V5.s.c2; have zf := V5.s.f; have N1 := Lib.hid n1; have N2 := Lib.hid n2; have T6 := Lib.hid (V4.out.turn b5 c1 since m1 m2); clear n1 n2 m1 m2 b5 V5) | (at_builtin; refine wpList_mapp rfl _ _ rfl (Bs + 1) (Fw Bs u8 u9 _) O u9 xsO rfl (T6.out _ rfl).1.o a2 c2 [] rfl (T6.out _ rfl).2 (fun _ => N2.out (by trivial)) (by first | omega | (simp; omega)) (fun g hg => ⟨hg.1, hg.2.2.1⟩) ?_; intro sO' xs' w7 m7 g7 a7; have V7 := Lib.hid ((T6.out _ rfl).1.out m7 g7 a7); clear m7 g7 a7 z0 z1; obtain ⟨q0, q1⟩ := V7.out.s.c2; have k7 := (C15.out w7 V7.out.b).1; rw [hk1] at k7))
            all_goals exact ⟨⟨j + 1, nx, P, O ++ [], S, xsP, xs', a1, c1, since, by go_num, rfl, by omega, by omega, ⟨V7.out, by rw [JJ.out.e]; simp, Nat.le_succ_of_le JJ.out.pl, JJ.out.sm, by omega, by omega, by omega, by omega, by omega⟩⟩, by simp [intOf]; omega⟩

        · have hk0' : (y.k == 0) = false := by simpa using hk0
          have hk1' : (y.k == 1) = false := by simpa using hk1
          have HFl := Lib.hid (flush_any S aS cS since wr (by have := J.sa; omega) J.v.r.mw J.smS)
          clear J
          have hol := JJ.out.ol
          go_wp2_with (first | (go_at_call 18; refine HFl.out.mono ?_; rintro e w5 ⟨a1, c1, a2, c2, rfl, n1, n2, m1, m2, b5⟩; obtain ⟨rfl, rfl⟩ := n1 rfl; have V5 := JJ.out.v.step b5; clear st0 st1; obtain ⟨z0, z1⟩ := V5.s.c2; have zf := V5.s.f; have N2 := Lib.hid n2; have T6 := Lib.hid (JJ.out.v.turn b5 0 0 m1 m2); clear n1 n2 m1 m2 b5 V5) | (at_builtin; refine wpList_mapp rfl _ _ rfl (Bs + 1) (Fw Bs u8 u9 _) O u9 xsO rfl (T6.out _ rfl).1.o a2 c2 S rfl (T6.out _ rfl).2 N2.out (by omega) (fun g hg => ⟨hg.1, hg.2.2.1⟩) ?_; intro sO' xs' w7 m7 g7 a7; have V7 := Lib.hid ((T6.out _ rfl).1.out m7 g7 a7); clear m7 g7 a7 z0 z1 k0; obtain ⟨q0, q1⟩ := V7.out.s.c2; have k7 := (C15.out w7 V7.out.b).1))
          exact ⟨⟨j + 1, nw, P, O ++ S, [], xsP, xs', none, 0, 0, by go_num, rfl, by omega, by omega, ⟨V7.out, by rw [JJ.out.e]; simp, Nat.le_succ_of_le JJ.out.pl, JJ.out.sm, by simp; omega, Int.le_refl _, JJ.out.n0, JJ.out.n0, by have := JJ.out.n1; omega⟩⟩, by simp [intOf]; omega⟩
    · obtain rfl := J.e
      have hol := J.ol
      have hsm := J.smS
      have HFl := Lib.hid (flush_any S aS cS since wr (by omega) J.v.r.mw hsm)
      have V := Lib.hid J.v
      have SM := Lib.hid J.sm
      have ARM : Hid (∀ (w5 : World) (a2 : Option Addr), Mf (fun g => wr.heap.size ≤ g ∧ g < w5.heap.size) w5 a2 S → Below wr.heap.size wr w5 → Wv w Bs (O ++ S) O S u8 u9 xsP xsO aS cS since (w5.alloc (.cells #[.slice none 0 0, .int .i64 0] 24)) ∧ Mz (Fw Bs u8 u9 (w5.alloc (.cells #[.slice none 0 0, .int .i64 0] 24))) (w5.alloc (.cells #[.slice none 0 0, .int .i64 0] 24)) a2 S) := fun w5 a2 m2 b5 => by
        have e5 := below1 w5 (.cells #[.slice none 0 0, .int .i64 0] 24)
        refine ⟨(V.out.step b5).step e5, m2.mz.to fun g hg => ⟨⟨by rw [World.size_alloc]; omega, fun e => by have := (V.out.p.own_lt g e.symm).2; omega, fun e => by have := (V.out.o.own_lt g e.symm).2; omega, by have := V.out.s.lt; omega⟩, e5.block g hg.2⟩⟩
      clear J HX HI
      have stop : (decide ((j : Int) < (l.length : Int)) && decide ((j : Int) < 60)) = false := by simp; omega
      by_cases hA : j < l.length
      · have hB : ¬ (j : Int) < 60 := by omega
        have hA' : (j : Int) < (l.length : Int) := by omega
        go_wp2_with (first | (go_at_call 18; refine HFl.out.mono ?_; rintro e w5 ⟨a1, c1, a2, c2, rfl, n1, n2, m1, m2, b5⟩; obtain ⟨rfl, rfl⟩ := n1 rfl; have T6 := Lib.hid (ARM.out w5 a2 m2 b5); have N2 := Lib.hid n2; clear n1 n2 m1 m2 b5 st0 st1) | (at_builtin; refine wpList_mapp rfl _ _ rfl (Bs + 1) (Fw Bs u8 u9 _) O u9 xsO rfl T6.out.1.o a2 c2 S rfl T6.out.2 N2.out (by omega) (fun g hg => ⟨hg.1, hg.2.2.1⟩) ?_; intro sO' xs' w7 m7 g7 a7; have V7 := T6.out.1.out m7 g7 a7; obtain ⟨ao, co, eo, zo⟩ := V7.o.mz (F' := fun g => g < w7.heap.size) (fun g hg => hg.1) (fun g hg => (V7.o.own_lt g hg).2); obtain ⟨ap, cp, ep, zp⟩ := V7.p.mz (F' := fun g => g < w7.heap.size) (fun g hg => hg.1) (fun g hg => (V7.p.own_lt g hg).2); have B7 := V7.b; have HSM0 := smsgs_any (O ++ S) ao ap co cp w7 (by rw [List.length_append]; omega) zo zp; rw [List.length_append] at HSM0 eo ep; have HSM := Lib.hid HSM0; clear HSM0 V7 m7 g7 a7 T6 V ARM; subst eo; subst ep) | (go_at_call 14; refine HSM.out.mono ?_; rintro e w8 ⟨rfl, b8⟩; have B8 := B7.trans (b8.mono B7.size)) | (go_at_call 8; refine (awake_any w8).mono ?_; rintro e w9 ⟨rfl, b9⟩; have B9 := B8.trans (b9.mono B8.size)))
        go_ret
        exact ⟨rfl, B9⟩
      · have hA' : ¬ (j : Int) < (l.length : Int) := by omega
        go_wp2_with (first | (go_at_call 18; refine HFl.out.mono ?_; rintro e w5 ⟨a1, c1, a2, c2, rfl, n1, n2, m1, m2, b5⟩; obtain ⟨rfl, rfl⟩ := n1 rfl; have T6 := Lib.hid (ARM.out w5 a2 m2 b5); have N2 := Lib.hid n2; clear n1 n2 m1 m2 b5 st0 st1) | (at_builtin; refine wpList_mapp rfl _ _ rfl (Bs + 1) (Fw Bs u8 u9 _) O u9 xsO rfl T6.out.1.o a2 c2 S rfl T6.out.2 N2.out (by omega) (fun g hg => ⟨hg.1, hg.2.2.1⟩) ?_; intro sO' xs' w7 m7 g7 a7; have V7 := T6.out.1.out m7 g7 a7; obtain ⟨ao, co, eo, zo⟩ := V7.o.mz (F' := fun g => g < w7.heap.size) (fun g hg => hg.1) (fun g hg => (V7.o.own_lt g hg).2); obtain ⟨ap, cp, ep, zp⟩ := V7.p.mz (F' := fun g => g < w7.heap.size) (fun g hg => hg.1) (fun g hg => (V7.p.own_lt g hg).2); have B7 := V7.b; have HSM0 := smsgs_any (O ++ S) ao ap co cp w7 (by rw [List.length_append]; omega) zo zp; rw [List.length_append] at HSM0 eo ep; have HSM := Lib.hid HSM0; clear HSM0 V7 m7 g7 a7 T6 V ARM; subst eo; subst ep) | (go_at_call 14; refine HSM.out.mono ?_; rintro e w8 ⟨rfl, b8⟩; have B8 := B7.trans (b8.mono B7.size)) | (go_at_call 8; refine (awake_any w8).mono ?_; rintro e w9 ⟨rfl, b9⟩; have B9 := B8.trans (b9.mono B8.size)))
        go_ret
        exact ⟨rfl, B9⟩

end Go.Proofs.YtikkedemhcdboaaDoor
