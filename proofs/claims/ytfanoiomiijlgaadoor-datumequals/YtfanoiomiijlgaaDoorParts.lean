/- The package's parts and depth of a value's tree; the conditions: the tree in memory, and not too great. -/
import Derived.Test.YtfanoiomiijlgaaDoorWithin
namespace Go.Proofs.YtfanoiomiijlgaaDoor
open Go.RowKit

theorem ptsL_le {T : Type} (c : T → Int × Int) (hc : ∀ t, 1 ≤ (c t).1 ∧ 1 ≤ (c t).2) : ∀ (ts : List T) (p d : Int), p ≤ (ptsL c ts p d).1 ∧ d + 1 ≤ (ptsL c ts p d).2 := by
  intro ts
  induction ts with
  | nil => intro p d; exact ⟨Int.le_refl _, Int.le_refl _⟩
  | cons t ts IH =>
    intro p d
    have := hc t
    have := IH (p + (c t).1) (max d (c t).2)
    simp only [ptsL]
    omega
theorem pts_pos : ∀ (n : Nat) (t : Tr n), 1 ≤ (pts n t).1 ∧ 1 ≤ (pts n t).2 := by
  intro n
  induction n with
  | zero => intro t; exact t.elim
  | succ n ih =>
    intro t
    have := ptsL_le (pts n) ih t.ks 1 0
    simp only [pts]
    omega

set_option maxRecDepth 100000 in
set_option maxHeartbeats 1000000 in
theorem parts_any : ∀ (n : Nat) (t : Tr n) (v0 v1 v2 v3 v4 : Value) (w : World), Rep w n [v0, v1, v2, v3, v4] t → (pts n t).1 ≤ 100000 → (pts n t).2 ≤ 100000 →
    Calls Tryd.prog 7 #[.agg #[v0, v1, v2, v3, v4]] w fun e w' => e = .returned (.tuple #[.int .i64 (pts n t).1, .int .i64 (pts n t).2]) ∧ Below w.heap.size w w' := by
  intro n
  induction n with
  | zero => intro t; exact t.elim
  | succ n ih =>
    intro t v0 v1 v2 v3 v4 w h hp1 hp2
    obtain ⟨ad, cap, e, htx, hlen, hcap, hk⟩ := h
    simp only [List.cons.injEq, and_true] at e
    obtain ⟨rfl, rfl, rfl, rfl, rfl⟩ := e
    simp only [pts] at hp1 hp2 ⊢
    have HI := Lib.hid ih
    have HK := Lib.hid hk
    clear ih hk
    unfold maxLen at hcap
    have d0 := D5.new w (.int .i64 t.kd) (.int .i64 t.it) (.int .u64 t.ut) (.string t.tx) (.slice ad t.ks.length cap)
    have hpos := pts_pos n
    generalize hcc : pts n = cc at hp1 hp2 hpos ⊢
    have HC := Lib.hid hcc
    have HP := Lib.hid hpos
    have H1 := Lib.hid hp1
    have H2 := Lib.hid hp2
    clear hcc hpos hp1 hp2
    go_enter Tryd.func7, Tryd.ntmps7
    go_wp2_with fail
    go_loopw [4, 5, 13] (fun sp sd si wr => ∃ (j : Nat) (p d : Int), sp = .int .i64 p ∧ sd = .int .i64 d ∧ si = .int .i64 j ∧ j ≤ t.ks.length ∧ ptsL cc (t.ks.drop j) p d = ptsL cc t.ks 1 0 ∧ 1 ≤ p ∧ 0 ≤ d ∧ Below (w.heap.size + 1) (w.alloc (.cells #[.int .i64 t.kd, .int .i64 t.it, .int .u64 t.ut, .string t.tx, .slice ad t.ks.length cap] 25)) wr) (fun _ _ si _ => t.ks.length - (intOf si).toNat)
    case atStart => exact ⟨0, 1, 0, rfl, rfl, rfl, Nat.zero_le _, rfl, by omega, by omega, Below.refl _ _⟩
    case round =>
      obtain ⟨j, p, d, rfl, rfl, rfl, hj, hinv, hp, hd, hb⟩ := hrel
      have bw : Below w.heap.size w wr := ((Below.refl _ w).alloc (Nat.le_refl _) _).trans (hb.mono (Nat.le_succ _))
      have hle := ptsL_le cc HP.out (t.ks.drop j) p d
      rw [hinv] at hle
      have hb1 := H1.out
      have hb2 := H2.out
      have HV := Lib.hid hinv
      have hpb : p ≤ 100000 := by omega
      have hdb : d + 1 ≤ 100000 := by omega
      clear hinv hle hb1 hb2
      by_cases hlt : j < t.ks.length
      · have hne : t.ks ≠ [] := by intro e; rw [e] at hlt; exact absurd hlt (Nat.not_lt_zero _)
        rcases HK.out with hk | ⟨g, o, hk1, hk2⟩
        · exact absurd hk hne
        subst hk1
        obtain ⟨v0, v1, v2, v3, v4, e0, e1, e2, e3, e4, rk⟩ := hk2 j _ (List.getElem?_eq_getElem hlt)
        have hg : g < w.heap.size := World.block_lt_of_cell? w _ e0
        have x0 := (bw.cell (p := ⟨g, o + j * 5, none⟩) hg).trans e0
        have x1 := (bw.cell (p := ⟨g, o + j * 5 + 1, none⟩) hg).trans e1
        have x2 := (bw.cell (p := ⟨g, o + j * 5 + 2, none⟩) hg).trans e2
        have x3 := (bw.cell (p := ⟨g, o + j * 5 + 3, none⟩) hg).trans e3
        have x4 := (bw.cell (p := ⟨g, o + j * 5 + 4, none⟩) hg).trans e4
        have rk' := Rep.below bw n _ _ rk
        clear e0 e1 e2 e3 e4 rk hk2 HK
        obtain ⟨u0, u1, u2, u3, a4, n4, c4', rfl, rfl, rfl, rfl, rfl⟩ := rep_shape rk'
        have hv := HV.out
        rw [drop_at t.ks j hlt, ptsL_cons] at hv
        have hle := ptsL_le cc HP.out (t.ks.drop (j + 1)) (p + (cc t.ks[j]).1) (max d (cc t.ks[j]).2)
        rw [hv] at hle
        have hb1 := H1.out
        have hb2 := H2.out
        have hcp := HP.out t.ks[j]
        have q1 : (cc t.ks[j]).1 ≤ 100000 := by omega
        have q2 : (cc t.ks[j]).2 ≤ 100000 := by omega
        obtain ⟨q3, q4⟩ := hcp
        have HW := Lib.hid hv
        clear hv hle hb1 hb2
        go_wp2_with fail
        have ba : Below wr.heap.size wr (wr.alloc (.cells #[.int .i64 u0, .int .i64 u1, .int .u64 u2, .string u3, .slice a4 n4 c4'] 25)) := (Below.refl _ wr).alloc (Nat.le_refl _) _
        refine (HI.out t.ks[j] _ _ _ _ _ _ (Rep.below ba n _ _ rk') (by rw [HC.out]; exact q1) (by rw [HC.out]; exact q2)).mono ?_
        rintro e w1 ⟨rfl, b1⟩
        rw [HC.out]
        have b2 : Below (w.heap.size + 1) (w.alloc (.cells #[.int .i64 t.kd, .int .i64 t.it, .int .u64 t.ut, .string t.tx, .slice (some ⟨g, o, none⟩) t.ks.length cap] 25)) w1 := (hb.trans (ba.mono (by have := hb.size; simp at this; omega))).trans (b1.mono (by have := hb.size; simp at this; simp; omega))
        generalize cc t.ks[j] = C at *
        clear x0 x1 x2 x3 x4 rk' ba b1
        go_wp2_with fail
        refine ⟨⟨j + 1, _, _, rfl, rfl, by go_num, by omega, HW.out, by omega, by omega, b2⟩, by simp [intOf]; omega⟩
      · have hje : j = t.ks.length := by omega
        have hv := HV.out
        rw [hje, List.drop_length] at hv
        have HW := Lib.hid hv
        clear hv HV
        go_wp2_with fail
        go_ret2
        exact ⟨by rw [← HW.out]; rfl, bw⟩
end Go.Proofs.YtfanoiomiijlgaaDoor
