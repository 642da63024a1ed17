/- The package's walk over a pattern's parts that counts down, and Valid: as the plain functions say; the conditions: the pattern's tree in memory. -/
import Derived.Test.YtokiaolgdkikiaaGreatWf
namespace Go.Proofs.YtokiaolgdkikiaaGreat
open Go.RowKit

theorem grown_trans {a w w' : World} {row : Option Nat} (h : a.grownBy w row) (k : w.grownBy w' row) : a.grownBy w' row :=
  ⟨k.os.trans h.os, k.tape.trans h.tape, k.output.trans h.output, Nat.le_trans h.size k.size, fun i hi hn => (k.block i (Nat.lt_of_lt_of_le hi h.size) hn).trans (h.block i hi hn)⟩
theorem grown_set (w : World) (b o : Nat) (v : Value) : w.grownBy (w.setCell ⟨b, o, none⟩ v) (some b) :=
  ⟨rfl, rfl, rfl, by simp [World.setCell], fun k _ hn => by simp only [World.setCell, Array.getElem?_modify]; rw [if_neg (fun e => hn (by rw [e]))]⟩
theorem grown_below {w w' : World} {row : Option Nat} (h : Below w.heap.size w w') : w.grownBy w' row :=
  ⟨h.os, h.tape, h.output, h.size, fun k hk _ => h.block k hk⟩
def Lf (w : World) (l : Nat) (k : Int) : Prop := w.heap[l]? = some (.cells #[.int .i64 k] 3 (0, 0))
theorem Lf.c {w : World} {l : Nat} {k : Int} (h : Lf w l k) : w.cell? ⟨l, 0, none⟩ = some (.int .i64 k) := by unfold Lf at h; simp [World.cell?, h]
theorem Lf.f {w : World} {l : Nat} {k : Int} (h : Lf w l k) : w.frozen? ⟨l, 0, none⟩ = false := by unfold Lf at h; simp [World.frozen?, h]
theorem Lf.lt {w : World} {l : Nat} {k : Int} (h : Lf w l k) : l < w.heap.size := by unfold Lf at h; exact (Array.getElem?_eq_some_iff.1 h).1
theorem Lf.below {w w' : World} {l : Nat} {k : Int} (h : Lf w l k) (hb : Below w.heap.size w w') : Lf w' l k := by
  have := h.lt
  unfold Lf at h ⊢; rw [hb.block l this]; exact h
theorem Lf.set {w : World} {l : Nat} {k : Int} (h : Lf w l k) (k' : Int) : Lf (w.setCell ⟨l, 0, none⟩ (.int .i64 k')) l k' := by
  unfold Lf at h ⊢
  simp [World.setCell, Array.getElem?_modify, h]
set_option maxRecDepth 100000 in
set_option maxHeartbeats 2000000 in
/-- Nothing that lay in W0 has turned. -/
theorem within_any (W0 : World) (l : Nat) (hl0 : W0.heap.size ≤ l)
    (f : Nat) : ∀ (n : Nat) (t : Wt n) (v0 v1 v2 : Value) (left : Int) (w : World), RepW W0 n [v0, v1, v2] t → Below W0.heap.size W0 w → Lf w l left → f ≤ 128 → 0 ≤ left → left ≤ 16384 →
    Calls Tryz.prog 34 #[.agg #[v0, v1, v2], .int .i64 f, .pointer (some ⟨l, 0, none⟩)] w fun e w' => e = .returned (.bool (vw f n t left).1) ∧ Lf w' l (vw f n t left).2 ∧ w.grownBy w' (some l) := by
  induction f with
  | zero =>
    intro n t v0 v1 v2 left w h hb hl hf h0 h1
    match n, t, h with
    | n + 1, t, h =>
      obtain ⟨ad, cap, e, -, -, -⟩ := h
      simp only [List.cons.injEq, and_true] at e
      obtain ⟨rfl, rfl, rfl⟩ := e
      simp only [vw]
      go_enter Tryz.func34, Tryz.ntmps34
      go_wp2
      go_ret
      exact ⟨rfl, hl.below ((Below.refl _ w).alloc (Nat.le_refl _) _), World.grownBy_alloc _ _ _⟩
  | succ f ih =>
    intro n t v0 v1 v2 left w h hb hl hf h0 h1
    match n, t, h with
    | n + 1, t, h =>
      obtain ⟨ad, cap, e, hlen, hcap, hk⟩ := h
      simp only [List.cons.injEq, and_true] at e
      obtain ⟨rfl, rfl, rfl⟩ := e
      have HI := Lib.hid ih
      have HK := Lib.hid hk
      clear ih hk
      have hd0 : ((((f + 1 : Nat) : Int)) == 0) = false := by simp; omega
      have hd1 : ((f : Int) + 1 == 0) = false := by simp; omega
      have hll := hl.lt
      have cl := hl.c
      have fl := hl.f
      have b0 : Below w.heap.size w (w.alloc (.cells #[.int .i64 t.op, .int .i64 t.nm, .slice ad t.ks.length cap] 24)) := (Below.refl _ w).alloc (Nat.le_refl _) _
      by_cases hz : left = 0
      · have hv : vw (f + 1) (n + 1) t left = (false, left) := by simp only [vw]; rw [if_pos (Or.inl hz)]
        rw [hv]
        have hz' : (left == 0) = true := by simpa using hz
        clear hv hz
        go_enter Tryz.func34, Tryz.ntmps34
        go_wp2_with fail
        go_ret
        exact ⟨rfl, hl.below b0, grown_below b0⟩
      · have hz' : (left == 0) = false := by simpa using hz
        have hleft : 1 ≤ left := by omega
        cases ho : t.ok with
        | false =>
          have hv : vw (f + 1) (n + 1) t left = (false, left) := by simp only [vw]; rw [if_pos (Or.inr ho)]
          rw [hv]
          have HO := Lib.hid ho
          clear hv ho hz
          go_enter Tryz.func34, Tryz.ntmps34
          go_wp2_with fail
          refine (wellFormed_any t.op t.nm ad t.ks.length cap _).mono ?_
          rintro e w1 ⟨rfl, b1⟩
          rw [show okW t.op t.nm t.ks.length = false from HO.out]
          go_wp2_with fail
          go_ret
          exact ⟨rfl, (hl.below b0).below b1, grown_trans (grown_below b0) (grown_below b1)⟩
        | true =>
          have hv : vw (f + 1) (n + 1) t left = vwL (fun t l => vw f n t l) t.ks (left - 1) := by simp only [vw]; rw [if_neg (by simp [ho]; exact hz)]
          rw [hv]
          have HO := Lib.hid ho
          generalize hcc : (fun (t : Wt n) l => vw f n t l) = cc
          have HC := Lib.hid hcc
          clear hv ho hz hcc
          go_enter Tryz.func34, Tryz.ntmps34
          go_wp2_with fail
          refine (wellFormed_any t.op t.nm ad t.ks.length cap _).mono ?_
          rintro e w1 ⟨rfl, b1⟩
          rw [show okW t.op t.nm t.ks.length = true from HO.out]
          have l1 := (hl.below b0).below b1
          have c1 := l1.c
          have f1 := l1.f
          have d1 : P3 w1 w.heap.size (.int .i64 t.op) (.int .i64 t.nm) (.slice ad t.ks.length cap) := (P3.new w _ _ _).below b1
          have k4 := d1.c.2.2
          have G1 := grown_trans (grown_below (row := some l) b0) (grown_below b1)
          have B1 : Below W0.heap.size W0 w1 := (hb.trans (b0.mono hb.size)).trans (b1.mono (Nat.le_trans hb.size b0.size))
          have z1 : w.heap.size < w1.heap.size := d1.lt
          clear b0 b1 cl fl
          go_wp2_with fail
          go_loopw [30] (fun si wr => ∃ (j : Nat) (l' : Int), si = .int .i64 j ∧ j ≤ t.ks.length ∧ vwL cc (t.ks.drop j) l' = vwL cc t.ks (left - 1) ∧ 0 ≤ l' ∧ l' ≤ 16384 ∧ Lf wr l l' ∧ Below W0.heap.size W0 wr ∧ w.grownBy wr (some l)) (fun si _ => t.ks.length - (intOf si).toNat)
          case atStart => exact ⟨0, left - 1, rfl, Nat.zero_le _, rfl, by omega, by omega, l1.set _, B1.setCell (p := ⟨l, 0, none⟩) hl0 _, grown_trans G1 (grown_set _ _ _ _)⟩
          case round =>
            obtain ⟨j, l', rfl, hj, hinv, hp0, hp1, hlf, hbr, hgr⟩ := hrel
            have HV := Lib.hid hinv
            clear hinv
            by_cases hlt : j < t.ks.length
            · have hne : t.ks ≠ [] := by intro e; rw [e] at hlt; exact absurd hlt (Nat.not_lt_zero _)
              rcases HK.out with hk | ⟨g, o, hk1, hk2⟩
              · exact absurd hk hne
              subst hk1
              obtain ⟨v0, v1, v2, e0, e1, e2, rk⟩ := hk2 j _ (List.getElem?_eq_getElem hlt)
              have hg : g < W0.heap.size := World.block_lt_of_cell? W0 _ e0
              have x0 := (hbr.cell (p := ⟨g, o + j * 3, none⟩) hg).trans e0
              have x1 := (hbr.cell (p := ⟨g, o + j * 3 + 1, none⟩) hg).trans e1
              have x2 := (hbr.cell (p := ⟨g, o + j * 3 + 2, none⟩) hg).trans e2
              clear e0 e1 e2 hk2 HK
              unfold maxLen at hcap
              obtain ⟨u0, u1, a4, n4, c4', rfl, rfl, rfl⟩ := repW_shape rk
              go_wp2_with fail
              have ba : Below wr.heap.size wr (wr.alloc (.cells #[.int .i64 u0, .int .i64 u1, .slice a4 n4 c4'] 24)) := (Below.refl _ wr).alloc (Nat.le_refl _) _
              refine (HI.out n t.ks[j] _ _ _ l' _ rk (hbr.trans (ba.mono hbr.size)) (hlf.below ba) (by omega) hp0 hp1).mono ?_
              rintro e w2 ⟨rfl, l2, g2⟩
              have bd := vw_left f n t.ks[j] l' hp0
              have hv := HV.out
              rw [drop_atW t.ks j hlt, vwL_cons, ← HC.out] at hv
              simp only [] at hv
              generalize vw f n t.ks[j] l' = C at bd hv l2
              have b2 : Below W0.heap.size W0 w2 := (hbr.trans (ba.mono hbr.size)).grown g2 (Nat.le_trans hbr.size ba.size) (fun k hk => by have := Option.some.inj hk; omega)
              have G2 : w.grownBy w2 (some l) := grown_trans hgr (grown_trans (grown_below ba) g2)
              obtain ⟨q1, q2⟩ := bd
              cases hb1 : C.1 with
              | true =>
                rw [if_pos hb1, HC.out] at hv
                have HW := Lib.hid hv
                clear hv HV x0 x1 x2 rk ba g2 hb1
                go_wp2_with fail
                refine ⟨⟨j + 1, C.2, by go_num, by omega, HW.out, by omega, by omega, l2, b2, G2⟩, by simp [intOf]; omega⟩
              | false =>
                rw [if_neg (by rw [hb1]; simp), HC.out] at hv
                have HW := Lib.hid hv
                clear hv HV x0 x1 x2 rk ba g2 hb1
                go_wp2_with fail
                go_ret
                exact ⟨by rw [← HW.out]; rfl, by rw [← HW.out]; exact l2, G2⟩
            · have hje : j = t.ks.length := by omega
              have hv := HV.out
              rw [hje, List.drop_length] at hv
              have HW := Lib.hid hv
              clear hv HV
              go_wp2_with fail
              go_ret
              exact ⟨by rw [← HW.out]; rfl, by rw [← HW.out]; exact hlf, hgr⟩

set_option maxRecDepth 100000 in
set_option maxHeartbeats 1000000 in
theorem valid_any (n : Nat) (t : Wt n) (v0 v1 v2 : Value) (w : World) (h : RepW w n [v0, v1, v2] t) :
    Calls Tryz.prog 9 #[.agg #[v0, v1, v2]] w fun e w' => e = .returned (.bool (vw 128 n t 16384).1) ∧ Below w.heap.size w w' := by
  obtain ⟨u0, u1, a4, n4, c4, rfl, rfl, rfl⟩ := repW_shape h
  have l0 : Lf ((w.alloc (.cells #[.int .i64 u0, .int .i64 u1, .slice a4 n4 c4] 24)).alloc (.cells #[.int .i64 16384] 3)) (w.heap.size + 1) 16384 := by
    have := heap_alloc_new (w.alloc (.cells #[.int .i64 u0, .int .i64 u1, .slice a4 n4 c4] 24)) (.cells #[.int .i64 16384] 3)
    rw [World.size_alloc] at this
    exact this
  have b0 := below2 w (.cells #[.int .i64 u0, .int .i64 u1, .slice a4 n4 c4] 24) (.cells #[.int .i64 16384] 3)
  have d0 := ((P3.new w (.int .i64 u0) (.int .i64 u1) (.slice a4 n4 c4)).below (below1 _ (.cells #[.int .i64 16384] 3))).c
  have HC := Lib.hid (within_any w (w.heap.size + 1) (Nat.le_succ _) 128 n t _ _ _ 16384 _ h b0 l0 (by decide) (by decide) (by decide))
  obtain ⟨c0, c1, c2⟩ := d0
  generalize (vw 128 n t 16384) = R at HC
  clear h
  go_enter Tryz.func9, Tryz.ntmps9
  go_wp2_with fail
  refine HC.out.mono ?_
  rintro e w1 ⟨rfl, -, g1⟩
  go_wp2
  go_ret
  exact ⟨rfl, b0.grown g1 (by simp; omega) (fun k hk => by have := Option.some.inj hk; omega)⟩
end Go.Proofs.YtokiaolgdkikiaaGreat
