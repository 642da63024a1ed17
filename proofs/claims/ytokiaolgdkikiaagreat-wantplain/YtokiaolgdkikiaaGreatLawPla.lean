/- The law WantPlain over a pattern's tree: true, in new memory alone; the condition: the tree in memory. -/
import Derived.Test.YtokiaolgdkikiaaGreatSamW
namespace Go.Proofs.YtokiaolgdkikiaaGreat
open Go.RowKit

theorem right_pT (X : Nat) (hX : X < 16384) : wgt 3 (pT X) = true := fitW_right 3 _ (by rw [← fitW_valid]; exact valid_pT X hX)
/-- Two blocks of patterns, and all that lies below them, whatever is done behind. -/
structure Fp (S : World) (A B : Nat) (v0 v1 v2 x0 x1 x2 : Value) (w' : World) : Prop where
  b : Below S.heap.size S w'
  p : P3 w' A v0 v1 v2
  q : P3 w' B x0 x1 x2
theorem Fp.step {S : World} {A B : Nat} {v0 v1 v2 x0 x1 x2 : Value} {w1 w2 : World} (h : Fp S A B v0 v1 v2 x0 x1 x2 w1) (hb : Below w1.heap.size w1 w2) : Fp S A B v0 v1 v2 x0 x1 x2 w2 := ⟨h.b.trans (hb.mono h.b.size), h.p.below hb, h.q.below hb⟩
theorem Fp.drew {S : World} {A B : Nat} {v0 v1 v2 x0 x1 x2 : Value} {w' : World} (h : Fp S A B v0 v1 v2 x0 x1 x2 w') : Fp S A B v0 v1 v2 x0 x1 x2 w'.drew := h.step (Below.drew (Below.refl _ _))
theorem Fp.c {S : World} {A B : Nat} {v0 v1 v2 x0 x1 x2 : Value} {w' : World} (h : Fp S A B v0 v1 v2 x0 x1 x2 w') : (w'.cell? ⟨A, 0, none⟩ = some v0 ∧ w'.cell? ⟨A, 1, none⟩ = some v1 ∧ w'.cell? ⟨A, 2, none⟩ = some v2) ∧ w'.cell? ⟨B, 0, none⟩ = some x0 ∧ w'.cell? ⟨B, 1, none⟩ = some x1 ∧ w'.cell? ⟨B, 2, none⟩ = some x2 := ⟨h.p.c, h.q.c⟩
theorem P3.kept {w w' : World} {N g : Nat} {v0 v1 v2 : Value} (h : P3 w N v0 v1 v2) (hg : w.grownBy w' (some g)) (hne : N ≠ g) : P3 w' N v0 v1 v2 := by
  have := h.lt
  unfold P3 at h ⊢
  rw [hg.block N this (fun e => hne (Option.some.inj e))]; exact h
theorem blk_set {w : World} {N o : Nat} {cs : Array Value} {T : TypeId} (h : w.heap[N]? = some (.cells cs T (0, 0))) (v : Value) : (w.setCell ⟨N, o, none⟩ v).heap[N]? = some (.cells (cs.setIfInBounds o v) T (0, 0)) := by
  simp [World.setCell, Array.getElem?_modify, h]

/-- What stays while the first pattern's row is written over. -/
structure Lp (w : World) (A B C : Nat) (o m : Int) (ad : Option Addr) (len cap : Nat) (po pm : Int) (pd : Option Addr) (pl pc : Nat) (qo qm : Int) (qd : Option Addr) (ql qc : Nat) (T : Wt 3) (wr : World) : Prop where
  a : P3 wr w.heap.size (.int .i64 o) (.int .i64 m) (.slice ad len cap)
  p : P3 wr A (.int .i64 po) (.int .i64 pm) (.slice pd pl pc)
  q : P3 wr B (.int .i64 qo) (.int .i64 qm) (.slice qd ql qc)
  r : RepB wr C 3 [.int .i64 qo, .int .i64 qm, .slice qd ql qc] T
  b : Below w.heap.size w wr
  k : pl = 0 ∨ ∃ g cur, pd = some ⟨g, 0, none⟩ ∧ w.heap.size + 1 ≤ g ∧ g < A ∧ wr.heap[g]? = some (.cells cur 24 (0, 0)) ∧ pl * 3 ≤ cur.size
theorem Lp.set {w : World} {A B C : Nat} {o m : Int} {ad : Option Addr} {len cap : Nat} {po pm : Int} {g pl pc : Nat} {qo qm : Int} {qd : Option Addr} {ql qc : Nat} {T : Wt 3} {wr : World} (h : Lp w A B C o m ad len cap po pm (some ⟨g, 0, none⟩) pl pc qo qm qd ql qc T wr) (hpl : pl ≠ 0) (hA : A ≤ C) (hC : C ≤ B) (j : Nat) (v : Value) : Lp w A B C o m ad len cap po pm (some ⟨g, 0, none⟩) pl pc qo qm qd ql qc T (wr.setCell ⟨g, j, none⟩ v) := by
  rcases h.k with h0 | ⟨g', cur, e, h1, h2, h3, h4⟩
  · exact absurd h0 hpl
  obtain rfl : g = g' := by injection e with e; injection e
  have gs := grown_set wr g j v
  refine ⟨h.a.kept gs (by omega), h.p.kept gs (by omega), h.q.kept gs (by omega), RepB.kept (fun x hx _ => Below.heap_setCell _ _ _ x (by show x ≠ g; omega)) _ _ _ h.r, h.b.setCell (by show w.heap.size ≤ g; omega) _, .inr ⟨g, _, rfl, h1, h2, blk_set h3 v, by simpa using h4⟩⟩

set_option maxRecDepth 100000 in
set_option maxHeartbeats 4000000 in
theorem law_plain (n : Nat) (t : Wt n) (v0 v1 v2 : Value) (w : World) (h : RepW w n [v0, v1, v2] t) :
    Calls Tryz.prog 6 #[.agg #[v0, v1, v2]] w fun e w' => e = .returned (.bool true) ∧ Below w.heap.size w w' := by
  obtain ⟨o, m, ad, len, cap, rfl, rfl, rfl⟩ := repW_shape h
  have hb0 := One.start w (.int .i64 o) (.int .i64 m) (.slice ad len cap)
  have HF := Lib.hid (fit_any n t _ _ _ _ (RepW.below hb0.below n _ _ h))
  obtain ⟨c0, c1, c2⟩ := hb0.c
  cases hV : fitW n t with
  | false =>
    rw [hV] at HF
    clear hV h
    go_enter Tryz.func6, Tryz.ntmps6
    go_wp2_with fail
    refine HF.out.mono ?_
    rintro e w1 ⟨rfl, b1⟩
    clear c0 c1 c2
    go_wp2_with fail
    refine (awake_any _).mono ?_
    rintro e w2 ⟨rfl, b2⟩
    go_wp2
    go_ret
    exact ⟨rfl, ((hb0.step b1).step b2).below⟩
  | true =>
    rw [hV] at HF
    have hg := fitW_right n t hV
    clear hV
    have hX := kset_lt (evk n t) 14
    have HP := Lib.hid (fun wx (hb : Below w.heap.size w wx) => plainP n t _ _ _ wx (RepW.below hb n _ _ h) hg)
    have HPR := Lib.hid (fun wx (hb : Below w.heap.size w wx) => plainR n t _ _ _ wx (RepW.below hb n _ _ h) hg)
    have HKW := Lib.hid (fun wx (hb : Below w.heap.size w wx) => kinds_any n t _ _ _ wx (RepW.below hb n _ _ h) hg)
    generalize kset (evk n t) 14 = X at HP HPR HKW hX
    have hrX := right_pT X hX
    have hkX := kinds_pT X hX
    have hvX := valid_pT X hX
    have HX := Lib.hid (And.intro hrX (And.intro hkX hvX))
    clear h hg hrX hkX hvX
    go_enter Tryz.func6, Tryz.ntmps6
    go_wp2_with fail
    refine HF.out.mono ?_
    rintro e w1 ⟨rfl, b1⟩
    have o1 := hb0.step b1
    clear c0 c1 c2
    obtain ⟨c0, c1, c2⟩ := o1.c
    go_wp2_with fail
    refine (HP.out _ o1.below).mono ?_
    rintro e w2 ⟨x0, x1, x2, rfl, R2, b2⟩
    obtain ⟨po, pm, pd, pl, pc, rfl, rfl, rfl⟩ := repB_shape R2
    have o2 := o1.step b2
    have z1 : w.heap.size + 1 ≤ w1.heap.size := by have := Below.size o1; simpa using this
    have z2 := b2.size
    clear c0 c1 c2
    have F3 : Fp w2 w.heap.size w2.heap.size (.int .i64 o) (.int .i64 m) (.slice ad len cap) (.int .i64 po) (.int .i64 pm) (.slice pd pl pc) (w2.alloc (.cells #[.int .i64 po, .int .i64 pm, .slice pd pl pc] 24)) :=
      ⟨below1 w2 _, P3.below ((Below.block o2 w.heap.size (by omega)).trans (P3.new w _ _ _)) (below1 w2 _), P3.new w2 _ _ _⟩
    have BW : Hid (∀ wx, Fp w2 w.heap.size w2.heap.size (.int .i64 o) (.int .i64 m) (.slice ad len cap) (.int .i64 po) (.int .i64 pm) (.slice pd pl pc) wx → Below w.heap.size w wx) := fun wx hx => o2.below.trans (hx.b.mono (by omega))
    have RP : Hid (∀ wx, Fp w2 w.heap.size w2.heap.size (.int .i64 o) (.int .i64 m) (.slice ad len cap) (.int .i64 po) (.int .i64 pm) (.slice pd pl pc) wx → RepW wx 3 [.int .i64 po, .int .i64 pm, .slice pd pl pc] (pT X)) := fun wx hx => RepW.below hx.b _ _ _ (RepB.rep _ _ _ R2)
    have A1 : Hid (∀ wx, Fp w2 w.heap.size w2.heap.size (.int .i64 o) (.int .i64 m) (.slice ad len cap) (.int .i64 po) (.int .i64 pm) (.slice pd pl pc) wx → Calls Tryz.prog 23 #[.agg #[.int .i64 o, .int .i64 m, .slice ad len cap]] wx fun e w' => ∃ y0 y1 y2, e = .returned (.agg #[y0, y1, y2]) ∧ Hid (RepW w' 3 [y0, y1, y2] (pT X)) ∧ Fp w2 w.heap.size w2.heap.size (.int .i64 o) (.int .i64 m) (.slice ad len cap) (.int .i64 po) (.int .i64 pm) (.slice pd pl pc) w') := fun wx hx => (HPR.out wx (BW.out wx hx)).mono fun e w' ⟨y0, y1, y2, a, b, c⟩ => ⟨y0, y1, y2, a, Lib.hid (RepB.rep _ _ _ b), hx.step c⟩
    have A2 : Hid (∀ y0 y1 y2 wx, Hid (RepW wx 3 [y0, y1, y2] (pT X)) → Fp w2 w.heap.size w2.heap.size (.int .i64 o) (.int .i64 m) (.slice ad len cap) (.int .i64 po) (.int .i64 pm) (.slice pd pl pc) wx → Calls Tryz.prog 22 #[.agg #[.int .i64 po, .int .i64 pm, .slice pd pl pc], .agg #[y0, y1, y2]] wx fun e w' => e = .returned (.bool true) ∧ Fp w2 w.heap.size w2.heap.size (.int .i64 o) (.int .i64 m) (.slice ad len cap) (.int .i64 po) (.int .i64 pm) (.slice pd pl pc) w') := fun y0 y1 y2 wx hy hx => (sameR 3 (pT X) _ _ _ _ _ _ wx (RP.out wx hx) hy.out).mono fun e w' ⟨a, b⟩ => ⟨a, hx.step b⟩
    have A3 : Hid (∀ wx, Fp w2 w.heap.size w2.heap.size (.int .i64 o) (.int .i64 m) (.slice ad len cap) (.int .i64 po) (.int .i64 pm) (.slice pd pl pc) wx → Calls Tryz.prog 9 #[.agg #[.int .i64 po, .int .i64 pm, .slice pd pl pc]] wx fun e w' => e = .returned (.bool true) ∧ Fp w2 w.heap.size w2.heap.size (.int .i64 o) (.int .i64 m) (.slice ad len cap) (.int .i64 po) (.int .i64 pm) (.slice pd pl pc) w') := fun wx hx => (valid_any 3 (pT X) _ _ _ wx (RP.out wx hx)).mono fun e w' ⟨a, b⟩ => ⟨by rw [a, HX.out.2.2], hx.step b⟩
    have A4 : Hid (∀ wx, Fp w2 w.heap.size w2.heap.size (.int .i64 o) (.int .i64 m) (.slice ad len cap) (.int .i64 po) (.int .i64 pm) (.slice pd pl pc) wx → Calls Tryz.prog 13 #[.agg #[.int .i64 po, .int .i64 pm, .slice pd pl pc]] wx fun e w' => e = .returned (.int .u32 (X : Int)) ∧ Fp w2 w.heap.size w2.heap.size (.int .i64 o) (.int .i64 m) (.slice ad len cap) (.int .i64 po) (.int .i64 pm) (.slice pd pl pc) w') := fun wx hx => (kinds_any 3 (pT X) _ _ _ wx (RP.out wx hx) HX.out.1).mono fun e w' ⟨a, b⟩ => ⟨by rw [a, HX.out.2.1], hx.step b⟩
    have A5 : Hid (∀ wx, Fp w2 w.heap.size w2.heap.size (.int .i64 o) (.int .i64 m) (.slice ad len cap) (.int .i64 po) (.int .i64 pm) (.slice pd pl pc) wx → Calls Tryz.prog 13 #[.agg #[.int .i64 o, .int .i64 m, .slice ad len cap]] wx fun e w' => e = .returned (.int .u32 (X : Int)) ∧ Fp w2 w.heap.size w2.heap.size (.int .i64 o) (.int .i64 m) (.slice ad len cap) (.int .i64 po) (.int .i64 pm) (.slice pd pl pc) w') := fun wx hx => (HKW.out wx (BW.out wx hx)).mono fun e w' ⟨a, b⟩ => ⟨a, hx.step b⟩
    have HS : Hid (∀ wx, Fp w2 w.heap.size w2.heap.size (.int .i64 o) (.int .i64 m) (.slice ad len cap) (.int .i64 po) (.int .i64 pm) (.slice pd pl pc) wx → (wx.cell? ⟨w.heap.size, 0, none⟩ = some (.int .i64 o) ∧ wx.cell? ⟨w.heap.size, 1, none⟩ = some (.int .i64 m) ∧ wx.cell? ⟨w.heap.size, 2, none⟩ = some (.slice ad len cap)) ∧ wx.cell? ⟨w2.heap.size, 0, none⟩ = some (.int .i64 po) ∧ wx.cell? ⟨w2.heap.size, 1, none⟩ = some (.int .i64 pm) ∧ wx.cell? ⟨w2.heap.size, 2, none⟩ = some (.slice pd pl pc)) := fun wx h => h.c
    go_wp2_with fail
    go_region_held3 (fun wx => (wx.cell? ⟨w.heap.size, 0, none⟩ = some (.int .i64 o) ∧ wx.cell? ⟨w.heap.size, 1, none⟩ = some (.int .i64 m) ∧ wx.cell? ⟨w.heap.size, 2, none⟩ = some (.slice ad len cap)) ∧ wx.cell? ⟨w2.heap.size, 0, none⟩ = some (.int .i64 po) ∧ wx.cell? ⟨w2.heap.size, 1, none⟩ = some (.int .i64 pm) ∧ wx.cell? ⟨w2.heap.size, 2, none⟩ = some (.slice pd pl pc)) (exact HS.out _ (by first | assumption | exact Fp.drew (by assumption))) (first | (go_at_call 23; refine (A1.out _ (by first | assumption | exact Fp.drew (by assumption))).mono ?_; rintro e wa ⟨y0, y1, y2, rfl, ry, fa⟩) | (go_at_call 22; refine (A2.out _ _ _ _ (by assumption) (by first | assumption | exact Fp.drew (by assumption))).mono ?_; rintro e wb ⟨rfl, fb⟩) | (go_at_call 9; refine (A3.out _ (by first | assumption | exact Fp.drew (by assumption))).mono ?_; rintro e wc ⟨rfl, fc⟩) | (go_at_call 13; with_reducible refine (A4.out _ (by first | assumption | exact Fp.drew (by assumption))).mono ?_; rintro e wd ⟨rfl, fd⟩) | (go_at_call 13; with_reducible refine (A5.out _ (by first | assumption | exact Fp.drew (by assumption))).mono ?_; rintro e wz ⟨rfl, fe⟩))
    go_wp2_with fail
    have fe' : Fp w2 w.heap.size w2.heap.size (.int .i64 o) (.int .i64 m) (.slice ad len cap) (.int .i64 po) (.int .i64 pm) (.slice pd pl pc) wz := by first | assumption | exact Fp.drew (by assumption)
    refine (plainP 3 (pT X) _ _ _ wz (RP.out wz fe') HX.out.1).mono ?_
    rw [HX.out.2.1]
    rintro e w5 ⟨q0, q1, q2, rfl, R5, b5⟩
    obtain ⟨qo, qm, qd, ql, qc, rfl, rfl, rfl⟩ := repB_shape R5
    have f5 := fe'.step b5
    have zz : w2.heap.size + 1 ≤ wz.heap.size := fe'.q.lt
    have z5 := b5.size
    have F6 := f5.step (below1 w5 (.cells #[.int .i64 qo, .int .i64 qm, .slice qd ql qc] 24))
    have Q6 : P3 (w5.alloc (.cells #[.int .i64 qo, .int .i64 qm, .slice qd ql qc] 24)) w5.heap.size (.int .i64 qo) (.int .i64 qm) (.slice qd ql qc) := P3.new w5 _ _ _
    have R6 := RepB.below (below1 w5 (.cells #[.int .i64 qo, .int .i64 qm, .slice qd ql qc] 24)) R5
    have BW6 := BW.out _ F6
    -- the pattern's own row
    obtain ⟨hpl, hrow⟩ : pl = (pT X).ks.length ∧ pl ≤ pc ∧ pc ≤ maxLen ∧ (pl = 0 ∨ ∃ g cur, pd = some ⟨g, 0, none⟩ ∧ w.heap.size + 1 ≤ g ∧ g < w2.heap.size ∧ w2.heap[g]? = some (.cells cur 24 (0, 0)) ∧ pl * 3 ≤ cur.size) := by
      obtain ⟨ad', cap', e, h3, h4, h5⟩ := R2
      simp only [List.cons.injEq, and_true] at e
      obtain ⟨-, -, e3⟩ := e
      injection e3 with e4 e5 e6
      subst e4 e5 e6
      refine ⟨rfl, h3, h4, ?_⟩
      rcases h5 with h5 | ⟨g, cur, h6, h7, h8, h9⟩
      · left; rw [h5]; rfl
      · right
        refine ⟨g, cur, h6, by omega, lt_of_heap h8, h8, ?_⟩
        by_cases hz : (pT X).ks.length = 0
        · omega
        · obtain ⟨x0, x1, x2, -, -, hc, -⟩ := h9 ((pT X).ks.length - 1) _ (List.getElem?_eq_getElem (by omega))
          have := (Array.getElem?_eq_some_iff.1 hc).1
          omega
    clear hpl HPR HKW A1 A2 A3 A4 A5 RP ry fa fb fc fd fe fe' f5 HF b1 b2 b5 R5 o1 o2 F3
    go_wp2_with fail
    have L0 : Lp w w2.heap.size w5.heap.size wz.heap.size o m ad len cap po pm pd pl pc qo qm qd ql qc (pT X) (w5.alloc (.cells #[.int .i64 qo, .int .i64 qm, .slice qd ql qc] 24)) := by
      refine ⟨F6.p, F6.q, Q6, R6, BW6, ?_⟩
      rcases hrow.2.2 with h0 | ⟨g, cur, h1, h2, h3, h4, h5⟩
      · exact .inl h0
      · exact .inr ⟨g, cur, h1, h2, h3, (F6.b.block g h3).trans h4, h5⟩
    have hpc := hrow.1
    have hpm := hrow.2.1
    unfold maxLen at hpm
    clear F6 Q6 R6 BW6 hrow HS BW
    go_loopw [5] (fun si wr => ∃ (j : Nat), si = .int .i64 j ∧ j ≤ pl ∧ Lp w w2.heap.size w5.heap.size wz.heap.size o m ad len cap po pm pd pl pc qo qm qd ql qc (pT X) wr) (fun si _ => pl - (intOf si).toNat)
    case atStart => exact ⟨0, rfl, Nat.zero_le _, L0⟩
    case round =>
      obtain ⟨j, rfl, hj, L⟩ := hrel
      obtain ⟨c0, c1, c2⟩ := L.p.c
      by_cases hlt : j < pl
      · rcases L.k with h0 | ⟨g, cur, h1, h2, h3, h4, h5⟩
        · omega
        subst h1
        have j0 : (0 : Int) ≤ (j : Int) := by omega
        have j1 : (j : Int) < (pl : Int) := by omega
        have L' := Lib.hid (L.set (by omega) (by omega) (by omega) (j * 3) (.int .i64 99))
        obtain ⟨xv, hxv⟩ : ∃ xv, wr.cell? ⟨g, j * 3, none⟩ = some xv := ⟨cur[j * 3]'(by omega), by simp [World.cell?, h4, Array.getElem?_eq_getElem (show j * 3 < cur.size by omega)]⟩
        have hfz : wr.frozen? ⟨g, j * 3, none⟩ = false := by simp [World.frozen?, h4]
        clear L h4 L0
        go_wp2_with fail
        exact ⟨⟨j + 1, by go_num, by omega, L'.out⟩, by simp [intOf]; omega⟩
      · have hje : j = pl := by omega
        have G7 : Fp wr w.heap.size w5.heap.size (.int .i64 o) (.int .i64 m) (.slice ad len cap) (.int .i64 qo) (.int .i64 qm) (.slice qd ql qc) wr := ⟨Below.refl _ _, L.a, L.q⟩
        have RQ := Lib.hid (RepB.rep _ _ _ L.r)
        have LB := L.b
        have B1 : Hid (∀ wx, Fp wr w.heap.size w5.heap.size (.int .i64 o) (.int .i64 m) (.slice ad len cap) (.int .i64 qo) (.int .i64 qm) (.slice qd ql qc) wx → Calls Tryz.prog 21 #[.agg #[.int .i64 o, .int .i64 m, .slice ad len cap]] wx fun e w' => ∃ y0 y1 y2, e = .returned (.agg #[y0, y1, y2]) ∧ Hid (RepW w' 3 [y0, y1, y2] (pT X)) ∧ Fp wr w.heap.size w5.heap.size (.int .i64 o) (.int .i64 m) (.slice ad len cap) (.int .i64 qo) (.int .i64 qm) (.slice qd ql qc) w') := fun wx hx => (HP.out wx (LB.trans (hx.b.mono LB.size))).mono fun e w' ⟨y0, y1, y2, a, b, c⟩ => ⟨y0, y1, y2, a, Lib.hid (RepB.rep _ _ _ b), hx.step c⟩
        have B2 : Hid (∀ y0 y1 y2 wx, Hid (RepW wx 3 [y0, y1, y2] (pT X)) → Fp wr w.heap.size w5.heap.size (.int .i64 o) (.int .i64 m) (.slice ad len cap) (.int .i64 qo) (.int .i64 qm) (.slice qd ql qc) wx → Calls Tryz.prog 22 #[.agg #[.int .i64 qo, .int .i64 qm, .slice qd ql qc], .agg #[y0, y1, y2]] wx fun e w' => e = .returned (.bool true) ∧ Fp wr w.heap.size w5.heap.size (.int .i64 o) (.int .i64 m) (.slice ad len cap) (.int .i64 qo) (.int .i64 qm) (.slice qd ql qc) w') := fun y0 y1 y2 wx hy hx => (sameR 3 (pT X) _ _ _ _ _ _ wx (RepW.below hx.b _ _ _ RQ.out) hy.out).mono fun e w' ⟨a, b⟩ => ⟨a, hx.step b⟩
        have B3 : Hid (∀ wx, Fp wr w.heap.size w5.heap.size (.int .i64 o) (.int .i64 m) (.slice ad len cap) (.int .i64 qo) (.int .i64 qm) (.slice qd ql qc) wx → Calls Tryz.prog 11 #[] wx fun e w' => e = .returned (.bool true) ∧ Fp wr w.heap.size w5.heap.size (.int .i64 o) (.int .i64 m) (.slice ad len cap) (.int .i64 qo) (.int .i64 qm) (.slice qd ql qc) w') := fun wx hx => (awake_any wx).mono fun e w' ⟨a, b⟩ => ⟨a, hx.step b⟩
        have HS2 : Hid (∀ wx, Fp wr w.heap.size w5.heap.size (.int .i64 o) (.int .i64 m) (.slice ad len cap) (.int .i64 qo) (.int .i64 qm) (.slice qd ql qc) wx → (wx.cell? ⟨w.heap.size, 0, none⟩ = some (.int .i64 o) ∧ wx.cell? ⟨w.heap.size, 1, none⟩ = some (.int .i64 m) ∧ wx.cell? ⟨w.heap.size, 2, none⟩ = some (.slice ad len cap)) ∧ wx.cell? ⟨w5.heap.size, 0, none⟩ = some (.int .i64 qo) ∧ wx.cell? ⟨w5.heap.size, 1, none⟩ = some (.int .i64 qm) ∧ wx.cell? ⟨w5.heap.size, 2, none⟩ = some (.slice qd ql qc)) := fun wx h => h.c
        clear L L0 HP
        go_wp2_with fail
        go_region_held3 (fun wx => (wx.cell? ⟨w.heap.size, 0, none⟩ = some (.int .i64 o) ∧ wx.cell? ⟨w.heap.size, 1, none⟩ = some (.int .i64 m) ∧ wx.cell? ⟨w.heap.size, 2, none⟩ = some (.slice ad len cap)) ∧ wx.cell? ⟨w5.heap.size, 0, none⟩ = some (.int .i64 qo) ∧ wx.cell? ⟨w5.heap.size, 1, none⟩ = some (.int .i64 qm) ∧ wx.cell? ⟨w5.heap.size, 2, none⟩ = some (.slice qd ql qc)) (exact HS2.out _ (by first | assumption | exact Fp.drew (by assumption))) (first | (go_at_call 21; refine (B1.out _ (by first | assumption | exact Fp.drew (by assumption))).mono ?_; rintro e wa ⟨y0, y1, y2, rfl, ry, fa⟩) | (go_at_call 22; refine (B2.out _ _ _ _ (by assumption) (by first | assumption | exact Fp.drew (by assumption))).mono ?_; rintro e wb ⟨rfl, fb⟩) | (go_at_call 11; refine (B3.out _ (by first | assumption | exact Fp.drew (by assumption))).mono ?_; rintro e wc ⟨rfl, fc⟩))
        all_goals go_wp2
        all_goals go_ret
        all_goals exact ⟨rfl, LB.trans ((Fp.b (by first | assumption | exact Fp.drew (by assumption))).mono LB.size)⟩
end Go.Proofs.YtokiaolgdkikiaaGreat
