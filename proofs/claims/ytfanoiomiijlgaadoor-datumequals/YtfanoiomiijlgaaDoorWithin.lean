/- The package's walk that counts down, over a value's tree; the conditions: the tree in memory, the table of fields, the counter in a block of its own. -/
import Derived.Test.YtfanoiomiijlgaaDoorWfB
namespace Go.Proofs.YtfanoiomiijlgaaDoor
open Go.RowKit
theorem Tab14.below {w w' : World} (h : Tab14 w) (hb : Below w.heap.size w w') : Tab14 w' :=
  ⟨Nat.lt_of_lt_of_le h.1 hb.size, fun j hj => (hb.cell (p := ⟨1, j, none⟩) h.1).trans (h.2 j hj)⟩

theorem rep_shape {w : World} {n : Nat} {v0 v1 v2 v3 v4 : Value} {t : Tr n} (h : Rep w n [v0, v1, v2, v3, v4] t) : ∃ (k i u : Int) (s : ByteArray) (ad : Option Addr) (len cap : Nat), v0 = .int .i64 k ∧ v1 = .int .i64 i ∧ v2 = .int .u64 u ∧ v3 = .string s ∧ v4 = .slice ad len cap := by
  match n, t, h with
  | n + 1, t, h =>
    obtain ⟨ad, cap, e, -, -, -, -⟩ := h
    simp only [List.cons.injEq, and_true] at e
    exact ⟨_, _, _, _, _, _, _, e⟩

set_option maxRecDepth 100000 in
set_option maxHeartbeats 2000000 in
/-- Nothing that lay in W0 has turned. -/
theorem within_any (W0 : World) (hT : Tab14 W0) (l : Nat) (hl0 : W0.heap.size ≤ l)
    (f : Nat) : ∀ (n : Nat) (t : Tr n) (v0 v1 v2 v3 v4 : Value) (left : Int) (w : World), Rep W0 n [v0, v1, v2, v3, v4] t → Below W0.heap.size W0 w → Lf w l left → f ≤ 16 → 0 ≤ left → left ≤ 4096 →
    Calls Tryd.prog 17 #[.agg #[v0, v1, v2, v3, v4], .int .i64 f, .pointer (some ⟨l, 0, none⟩)] w fun e w' => e = .returned (.bool (vw f n t left).1) ∧ Lf w' l (vw f n t left).2 ∧ w.grownBy w' (some l) := by
  induction f with
  | zero =>
    intro n t v0 v1 v2 v3 v4 left w h hb hl hf h0 h1
    match n, t, h with
    | n + 1, t, h =>
      obtain ⟨ad, cap, e, -, -, -, -⟩ := h
      simp only [List.cons.injEq, and_true] at e
      obtain ⟨rfl, rfl, rfl, rfl, rfl⟩ := e
      simp only [vw]
      go_enter Tryd.func17, Tryd.ntmps17
      go_wp2
      go_ret
      exact ⟨rfl, hl.below ((Below.refl _ w).alloc (Nat.le_refl _) _), World.grownBy_alloc _ _ _⟩
  | succ f ih =>
    intro n t v0 v1 v2 v3 v4 left w h hb hl hf h0 h1
    match n, t, h with
    | n + 1, t, h =>
      obtain ⟨ad, cap, e, htx, hlen, hcap, hk⟩ := h
      simp only [List.cons.injEq, and_true] at e
      obtain ⟨rfl, rfl, rfl, rfl, rfl⟩ := e
      have HI := Lib.hid ih
      have HK := Lib.hid hk
      clear ih hk
      have hd0 : ((((f + 1 : Nat) : Int)) == 0) = false := by simp; omega
      have hd1 : ((f : Int) + 1 == 0) = false := by simp; omega
      have hll := hl.lt
      have cl := hl.c
      have fl := hl.f
      have b0 : Below w.heap.size w (w.alloc (.cells #[.int .i64 t.kd, .int .i64 t.it, .int .u64 t.ut, .string t.tx, .slice ad t.ks.length cap] 25)) := (Below.refl _ w).alloc (Nat.le_refl _) _
      by_cases hz : left = 0
      · have hv : vw (f + 1) (n + 1) t left = (false, left) := by simp only [vw]; rw [if_pos (Or.inl hz)]
        rw [hv]
        have hz' : (left == 0) = true := by simpa using hz
        clear hv hz
        go_enter Tryd.func17, Tryd.ntmps17
        go_wp2_with fail
        go_ret
        exact ⟨rfl, hl.below b0, grown_below b0⟩
      · have hz' : (left == 0) = false := by simpa using hz
        have hleft : 1 ≤ left := by omega
        have T0 : Tab14 (w.alloc (.cells #[.int .i64 t.kd, .int .i64 t.it, .int .u64 t.ut, .string t.tx, .slice ad t.ks.length cap] 25)) := hT.below (hb.trans (b0.mono hb.size))
        have hmax : t.ks.length ≤ maxLen := Nat.le_trans hlen hcap
        cases ho : t.ok with
        | false =>
          have hv : vw (f + 1) (n + 1) t left = (false, left) := by simp only [vw]; rw [if_pos (Or.inr ho)]
          rw [hv]
          have HO := Lib.hid ho
          clear hv ho hz
          go_enter Tryd.func17, Tryd.ntmps17
          go_wp2_with fail
          refine (formed_any t.kd t.it t.ut t.tx ad t.ks.length cap _ T0 htx hmax).mono ?_
          rintro e w1 ⟨rfl, b1⟩
          rw [show okB t.kd t.it t.ut t.tx.size t.ks.length = false from HO.out]
          go_wp2_with fail
          go_ret
          exact ⟨rfl, (hl.below b0).below b1, grown_trans (grown_below b0) (grown_below b1)⟩
        | true =>
          have hv : vw (f + 1) (n + 1) t left = vwL (fun t l => vw f n t l) t.ks (left - 1) := by simp only [vw]; rw [if_neg (by simp [ho]; exact hz)]
          rw [hv]
          have HO := Lib.hid ho
          generalize hcc : (fun (t : Tr n) l => vw f n t l) = cc
          have HC := Lib.hid hcc
          clear hv ho hz hcc
          go_enter Tryd.func17, Tryd.ntmps17
          go_wp2_with fail
          refine (formed_any t.kd t.it t.ut t.tx ad t.ks.length cap _ T0 htx hmax).mono ?_
          rintro e w1 ⟨rfl, b1⟩
          rw [show okB t.kd t.it t.ut t.tx.size t.ks.length = true from HO.out]
          have l1 := (hl.below b0).below b1
          have c1 := l1.c
          have f1 := l1.f
          have d1 : D5 w1 w.heap.size (.int .i64 t.kd) (.int .i64 t.it) (.int .u64 t.ut) (.string t.tx) (.slice ad t.ks.length cap) := (D5.new w _ _ _ _ _).kept (b := l) (grown_below b1) (by omega)
          have k4 := d1.c.2.2.2.2
          have G1 := grown_trans (grown_below (row := some l) b0) (grown_below b1)
          have B1 : Below W0.heap.size W0 w1 := (hb.trans (b0.mono hb.size)).trans (b1.mono (Nat.le_trans hb.size b0.size))
          have z1 : w.heap.size < w1.heap.size := d1.lt
          clear b0 b1 T0 cl fl
          go_wp2_with fail
          go_loopw [30] (fun si wr => ∃ (j : Nat) (l' : Int), si = .int .i64 j ∧ j ≤ t.ks.length ∧ vwL cc (t.ks.drop j) l' = vwL cc t.ks (left - 1) ∧ 0 ≤ l' ∧ l' ≤ 4096 ∧ Lf wr l l' ∧ Below W0.heap.size W0 wr ∧ w.grownBy wr (some l)) (fun si _ => t.ks.length - (intOf si).toNat)
          case atStart => exact ⟨0, left - 1, rfl, Nat.zero_le _, rfl, by omega, by omega, l1.set _, B1.setCell (p := ⟨l, 0, none⟩) hl0 _, grown_trans G1 (grown_set _ _ _ _)⟩
          case round =>
            obtain ⟨j, l', rfl, hj, hinv, hp0, hp1, hlf, hbr, hgr⟩ := hrel
            have HV := Lib.hid hinv
            clear hinv
            by_cases hlt : j < t.ks.length
            · have hne : t.ks ≠ [] := by intro e; rw [e] at hlt; exact absurd hlt (Nat.not_lt_zero _)
              rcases HK.out with hk | ⟨g, o, hk1, hk2⟩
              · exact absurd hk hne
              subst hk1
              obtain ⟨v0, v1, v2, v3, v4, e0, e1, e2, e3, e4, rk⟩ := hk2 j _ (List.getElem?_eq_getElem hlt)
              have hg : g < W0.heap.size := World.block_lt_of_cell? W0 _ e0
              have x0 := (hbr.cell (p := ⟨g, o + j * 5, none⟩) hg).trans e0
              have x1 := (hbr.cell (p := ⟨g, o + j * 5 + 1, none⟩) hg).trans e1
              have x2 := (hbr.cell (p := ⟨g, o + j * 5 + 2, none⟩) hg).trans e2
              have x3 := (hbr.cell (p := ⟨g, o + j * 5 + 3, none⟩) hg).trans e3
              have x4 := (hbr.cell (p := ⟨g, o + j * 5 + 4, none⟩) hg).trans e4
              clear e0 e1 e2 e3 e4 hk2 HK
              unfold maxLen at hcap
              obtain ⟨u0, u1, u2, u3, a4, n4, c4', rfl, rfl, rfl, rfl, rfl⟩ := rep_shape rk
              go_wp2_with fail
              have ba : Below wr.heap.size wr (wr.alloc (.cells #[.int .i64 u0, .int .i64 u1, .int .u64 u2, .string u3, .slice a4 n4 c4'] 25)) := (Below.refl _ wr).alloc (Nat.le_refl _) _
              refine (HI.out n t.ks[j] _ _ _ _ _ l' _ rk (hbr.trans (ba.mono hbr.size)) (hlf.below ba) (by omega) hp0 hp1).mono ?_
              rintro e w2 ⟨rfl, l2, g2⟩
              have bd := vw_bd f n t.ks[j] l' hp0
              have hv := HV.out
              rw [drop_at t.ks j hlt, vwL_cons, ← HC.out] at hv
              simp only [] at hv
              generalize vw f n t.ks[j] l' = C at bd hv l2
              have b2 : Below W0.heap.size W0 w2 := (hbr.trans (ba.mono hbr.size)).grown g2 (Nat.le_trans hbr.size ba.size) (fun k hk => by have := Option.some.inj hk; omega)
              have G2 : w.grownBy w2 (some l) := grown_trans hgr (grown_trans (grown_below ba) g2)
              obtain ⟨q1, q2⟩ := bd
              cases hb1 : C.1 with
              | true =>
                rw [if_pos hb1, HC.out] at hv
                have HW := Lib.hid hv
                clear hv HV x0 x1 x2 x3 x4 rk ba g2 hb1
                go_wp2_with fail
                refine ⟨⟨j + 1, C.2, by go_num, by omega, HW.out, by omega, by omega, l2, b2, G2⟩, by simp [intOf]; omega⟩
              | false =>
                rw [if_neg (by rw [hb1]; simp), HC.out] at hv
                have HW := Lib.hid hv
                clear hv HV x0 x1 x2 x3 x4 rk ba g2 hb1
                go_wp2_with fail
                go_ret
                exact ⟨by rw [← HW.out]; rfl, by rw [← HW.out]; exact l2, G2⟩
            · have hje : j = t.ks.length := by omega
              have hv := HV.out
              rw [hje, List.drop_length] at hv
              have HW := Lib.hid hv
              clear hv HV
              go_wp2_with fail
              go_ret
              exact ⟨by rw [← HW.out]; rfl, by rw [← HW.out]; exact hlf, hgr⟩
end Go.Proofs.YtfanoiomiijlgaaDoor
