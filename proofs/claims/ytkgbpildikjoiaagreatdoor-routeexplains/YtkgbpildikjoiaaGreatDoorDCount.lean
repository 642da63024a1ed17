/- A value's tree as it lies in memory, what of it stays when new memory is made, and the document's count of it; each theorem names its conditions. -/
import Derived.Test.YtkgbpildikjoiaaGreatDoorDTree
import Derived.Test.YtkgbpildikjoiaaGreatDoorVal0
namespace Go.Proofs.YtkgbpildikjoiaaGreatDoor.Dt
open Go.RowKit

/-- A Datum in a block of its own. -/
def D5 (w : World) (N : Nat) (v0 v1 v2 v3 v4 : Value) : Prop := w.heap[N]? = some (.cells #[v0, v1, v2, v3, v4] 26 (0, 0))
theorem D5.kept {w w' : World} {N b : Nat} {v0 v1 v2 v3 v4 : Value} (h : D5 w N v0 v1 v2 v3 v4) (hg : w.grownBy w' (some b)) (hne : N ≠ b) : D5 w' N v0 v1 v2 v3 v4 := by
  unfold D5 at h ⊢
  rw [hg.block N (Array.getElem?_eq_some_iff.1 h).1 (fun e => hne (Option.some.inj e))]; exact h
theorem D5.c {w : World} {N : Nat} {v0 v1 v2 v3 v4 : Value} (h : D5 w N v0 v1 v2 v3 v4) :
    w.cell? ⟨N, 0, none⟩ = some v0 ∧ w.cell? ⟨N, 1, none⟩ = some v1 ∧ w.cell? ⟨N, 2, none⟩ = some v2 ∧ w.cell? ⟨N, 3, none⟩ = some v3 ∧ w.cell? ⟨N, 4, none⟩ = some v4 := by
  unfold D5 at h; simp [World.cell?, h]
theorem D5.f {w : World} {N o : Nat} {v0 v1 v2 v3 v4 : Value} (h : D5 w N v0 v1 v2 v3 v4) : w.frozen? ⟨N, o, none⟩ = false := by
  unfold D5 at h; simp [World.frozen?, h]
theorem D5.new (w : World) (v0 v1 v2 v3 v4 : Value) : D5 (w.alloc (.cells #[v0, v1, v2, v3, v4] 26)) w.heap.size v0 v1 v2 v3 v4 := by
  unfold D5; exact heap_alloc_new w _
theorem D5.lt {w : World} {N : Nat} {v0 v1 v2 v3 v4 : Value} (h : D5 w N v0 v1 v2 v3 v4) : N < w.heap.size := by
  unfold D5 at h; exact (Array.getElem?_eq_some_iff.1 h).1
theorem D5.below {w w' : World} {N : Nat} {v0 v1 v2 v3 v4 : Value} (h : D5 w N v0 v1 v2 v3 v4) (hb : Below w.heap.size w w') : D5 w' N v0 v1 v2 v3 v4 := by
  have := h.lt
  unfold D5 at h ⊢
  exact (hb.block N this).trans h
theorem nil_size (s : ByteArray) : s.toList = [] ↔ s.size = 0 := by
  rw [ByteArray.toList_eq, ← List.length_eq_zero_iff, Array.length_toList]; exact Iff.rfl

/-- The tree t lies in w behind the five cells cs. -/
def Rep (w : World) : (n : Nat) → List Value → Tr n → Prop
  | 0, _, _ => False
  | n + 1, cs, t => ∃ (ad : Option Addr) (cap : Nat), cs = [.int .i64 t.kd, .int .i64 t.it, .int .u64 t.ut, .string t.tx, .slice ad t.ks.length cap] ∧ t.tx.size ≤ maxLen ∧ t.ks.length ≤ cap ∧ cap ≤ maxLen ∧
      (t.ks = [] ∨ ∃ g o, ad = some ⟨g, o, none⟩ ∧ ∀ (j : Nat) (t' : Tr n), t.ks[j]? = some t' → ∃ v0 v1 v2 v3 v4, w.cell? ⟨g, o + j * 5, none⟩ = some v0 ∧ w.cell? ⟨g, o + j * 5 + 1, none⟩ = some v1 ∧ w.cell? ⟨g, o + j * 5 + 2, none⟩ = some v2 ∧ w.cell? ⟨g, o + j * 5 + 3, none⟩ = some v3 ∧ w.cell? ⟨g, o + j * 5 + 4, none⟩ = some v4 ∧ Rep w n [v0, v1, v2, v3, v4] t')

theorem Rep.below {w w' : World} (hb : Below w.heap.size w w') : ∀ (n : Nat) (cs : List Value) (t : Tr n), Rep w n cs t → Rep w' n cs t
  | 0, _, _, h => h
  | n + 1, cs, t, h => by
    obtain ⟨ad, cap, h1, h2, h3, h4, h5⟩ := h
    refine ⟨ad, cap, h1, h2, h3, h4, ?_⟩
    rcases h5 with h5 | ⟨g, o, h6, h7⟩
    · exact .inl h5
    · refine .inr ⟨g, o, h6, fun j t' hj => ?_⟩
      obtain ⟨v0, v1, v2, v3, v4, c0, c1, c2, c3, c4, r⟩ := h7 j t' hj
      have hg : g < w.heap.size := World.block_lt_of_cell? w _ c0
      exact ⟨v0, v1, v2, v3, v4, (hb.cell (p := ⟨g, _, none⟩) hg).trans c0, (hb.cell (p := ⟨g, _, none⟩) hg).trans c1, (hb.cell (p := ⟨g, _, none⟩) hg).trans c2, (hb.cell (p := ⟨g, _, none⟩) hg).trans c3, (hb.cell (p := ⟨g, _, none⟩) hg).trans c4, Rep.below hb n _ _ r⟩

set_option maxRecDepth 100000 in
set_option maxHeartbeats 1000000 in
theorem count_any (f : Nat) : ∀ (n : Nat) (t : Tr n) (v0 v1 v2 v3 v4 : Value) (deep left : Int) (w : World), Rep w n [v0, v1, v2, v3, v4] t → deep + f = 17 → 1 ≤ deep → left ≤ 4096 → -10000 ≤ left →
    Calls Tryz.prog 26 #[.agg #[v0, v1, v2, v3, v4], .int .i64 deep, .int .i64 left] w fun e w' => e = .returned (.tuple #[.int .i64 (cnt f n t deep left).1, .int .i64 (cnt f n t deep left).2]) ∧ Below w.heap.size w w' := by
  induction f with
  | zero =>
    intro n t v0 v1 v2 v3 v4 deep left w h hd hd1 hl hl0
    match n, t, h with
    | n + 1, t, h =>
      obtain ⟨ad, cap, e, -, -, -, -⟩ := h
      simp only [List.cons.injEq, and_true] at e
      obtain ⟨rfl, rfl, rfl, rfl, rfl⟩ := e
      have hgt : 16 < deep := by omega
      simp only [cnt]
      go_enter Tryz.func26, Tryz.ntmps26
      go_wp2
      go_ret2
      exact ⟨rfl, (Below.refl _ w).alloc (Nat.le_refl _) _⟩
  | succ f ih =>
    intro n t v0 v1 v2 v3 v4 deep left w h hd hd1 hl hl0
    match n, t, h with
    | n + 1, t, h =>
      have hr := h
      obtain ⟨ad, cap, e, htx, hlen, hcap, hk⟩ := h
      simp only [List.cons.injEq, and_true] at e
      obtain ⟨rfl, rfl, rfl, rfl, rfl⟩ := e
      have hgt : ¬ 16 < deep := by omega
      by_cases hz : left ≤ 0
      · simp only [cnt, if_pos hz]
        go_enter Tryz.func26, Tryz.ntmps26
        go_wp2
        go_ret2
        exact ⟨rfl, (Below.refl _ w).alloc (Nat.le_refl _) _⟩
      · simp only [cnt, if_neg hz]
        have HI := Lib.hid ih
        clear ih
        have HK := Lib.hid hk
        clear hk
        unfold maxLen at hcap
        have d0 := D5.new w (.int .i64 t.kd) (.int .i64 t.it) (.int .u64 t.ut) (.string t.tx) (.slice ad t.ks.length cap)
        generalize hcc : (fun (t : Tr n) l => cnt f n t (deep + 1) l) = cc
        have HC := Lib.hid hcc
        clear hcc
        go_enter Tryz.func26, Tryz.ntmps26
        go_wp2_with fail
        go_loopw [8, 9, 24] (fun sn sm si wr => ∃ (j : Nat) (m most : Int), sn = .int .i64 m ∧ sm = .int .i64 most ∧ si = .int .i64 j ∧ j ≤ t.ks.length ∧ cntL cc left (t.ks.drop j) m most = cntL cc left t.ks 1 deep ∧ 1 ≤ m ∧ m ≤ left ∧ deep ≤ most ∧ most ≤ 16 ∧ Below (w.heap.size + 1) (w.alloc (.cells #[.int .i64 t.kd, .int .i64 t.it, .int .u64 t.ut, .string t.tx, .slice ad t.ks.length cap] 26)) wr) (fun _ _ si _ => t.ks.length - (intOf si).toNat)
        case atStart => exact ⟨0, 1, deep, rfl, rfl, rfl, Nat.zero_le _, rfl, by omega, by omega, Int.le_refl _, by omega, Below.refl _ _⟩
        case round =>
          obtain ⟨j, m, most, rfl, rfl, rfl, hj, hinv, hm1, hm2, hd2, hd3, hb⟩ := hrel
          have HV := Lib.hid hinv
          clear hinv
          have dr : D5 wr w.heap.size (.int .i64 t.kd) (.int .i64 t.it) (.int .u64 t.ut) (.string t.tx) (.slice ad t.ks.length cap) := (hb.block w.heap.size (Nat.lt_succ_self _)).trans d0
          have c4 := dr.c.2.2.2.2
          have bw : Below w.heap.size w wr := ((Below.refl _ w).alloc (Nat.le_refl _) _).trans (hb.mono (Nat.le_succ _))
          by_cases hlt : j < t.ks.length
          · have hne : t.ks ≠ [] := by intro e; rw [e] at hlt; exact absurd hlt (Nat.not_lt_zero _)
            rcases HK.out with hk | ⟨g, o, hk1, hk2⟩
            · exact absurd hk hne
            subst hk1
            obtain ⟨v0, v1, v2, v3, v4, e0, e1, e2, e3, e4, rk⟩ := hk2 j _ (List.getElem?_eq_getElem hlt)
            have hg : g < w.heap.size := World.block_lt_of_cell? w _ e0
            have x0 := (bw.cell (p := ⟨g, o + j * 5, none⟩) hg).trans e0
            have x1 := (bw.cell (p := ⟨g, o + j * 5 + 1, none⟩) hg).trans e1
            have x2 := (bw.cell (p := ⟨g, o + j * 5 + 2, none⟩) hg).trans e2
            have x3 := (bw.cell (p := ⟨g, o + j * 5 + 3, none⟩) hg).trans e3
            have x4 := (bw.cell (p := ⟨g, o + j * 5 + 4, none⟩) hg).trans e4
            have rk' := Rep.below bw n _ _ rk
            clear e0 e1 e2 e3 e4 rk hk2 HK
            go_wp2_with fail
            refine (HI.out n t.ks[j] v0 v1 v2 v3 v4 (deep + 1) (left - m) wr rk' (by omega) (by omega) (by omega) (by omega)).mono ?_
            rintro e w1 ⟨rfl, b1⟩
            have bd := cnt_bd f n t.ks[j] (deep + 1) (left - m) (by omega) (by omega)
            have hv := HV.out
            rw [drop_at t.ks j hlt, cntL_cons, ← HC.out] at hv
            simp only [] at hv
            generalize cnt f n t.ks[j] (deep + 1) (left - m) = C at bd hv
            have b2 : Below (w.heap.size + 1) (w.alloc (.cells #[.int .i64 t.kd, .int .i64 t.it, .int .u64 t.ut, .string t.tx, .slice (some ⟨g, o, none⟩) t.ks.length cap] 26)) w1 := hb.trans (b1.mono (by have := hb.size; simp at this; omega))
            have dr1 : D5 w1 w.heap.size (.int .i64 t.kd) (.int .i64 t.it) (.int .u64 t.ut) (.string t.tx) (.slice (some ⟨g, o, none⟩) t.ks.length cap) := (b2.block w.heap.size (Nat.lt_succ_self _)).trans d0
            obtain ⟨q1, q2, q3, q4⟩ := bd
            by_cases hbad : left < m + C.1 ∨ 16 < max most C.2
            · rw [if_pos hbad, HC.out] at hv
              have HW := Lib.hid hv
              clear hv HV x0 x1 x2 x3 x4 rk' b1 dr c4
              have bw1 : Below w.heap.size w w1 := ((Below.refl _ w).alloc (Nat.le_refl _) _).trans (b2.mono (Nat.le_succ _))
              go_wp2_with fail
              all_goals go_ret2
              all_goals exact ⟨by rw [← HW.out]; first | rfl | (rw [show max most C.2 = C.2 by omega]; rfl) | (rw [show max most C.2 = most by omega]; rfl), bw1⟩
            · rw [if_neg hbad, HC.out] at hv
              have HW := Lib.hid hv
              have hg1 : ¬ left < m + C.1 := fun h => hbad (.inl h)
              have hg2 : ¬ 16 < max most C.2 := fun h => hbad (.inr h)
              clear hv HV x0 x1 x2 x3 x4 rk' b1 dr c4 hbad
              go_wp2_with fail
              refine ⟨⟨j + 1, _, _, rfl, rfl, by go_num, by omega, by first | exact HW.out | (rw [show (if most < C.2 then C.2 else most) = max most C.2 by split <;> omega]; exact HW.out), by omega, by omega, by first | omega | (split <;> omega), by first | omega | (split <;> omega), b2⟩, by simp [intOf]; omega⟩
          · have hje : j = t.ks.length := by omega
            have hv := HV.out
            rw [hje, List.drop_length] at hv
            have HW := Lib.hid hv
            clear hv HV
            go_wp2_with fail
            go_ret2
            exact ⟨by rw [← HW.out]; rfl, bw⟩
end Go.Proofs.YtkgbpildikjoiaaGreatDoor.Dt
