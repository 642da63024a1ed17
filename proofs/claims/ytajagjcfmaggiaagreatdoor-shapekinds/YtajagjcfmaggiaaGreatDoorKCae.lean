/- A value's tree as it lies in memory, what of it stays when new memory is made, and the document's count of it; each theorem names its conditions. -/
import Derived.Test.YtajagjcfmaggiaaGreatDoorKCad
import Derived.Test.YtajagjcfmaggiaaGreatDoorKCaa
import Derived.Laws.MakeOwn
namespace Go.Proofs.YtajagjcfmaggiaaGreatDoor.Dt
open Go.RowKit

/-- A Datum in a block of its own. -/
def D5 (w : World) (N : Nat) (v0 v1 v2 v3 v4 : Value) : Prop := w.heap[N]? = some (.cells #[v0, v1, v2, v3, v4] 25 (0, 0))
theorem D5.kept {w w' : World} {N b : Nat} {v0 v1 v2 v3 v4 : Value} (h : D5 w N v0 v1 v2 v3 v4) (hg : w.grownBy w' (some b)) (hne : N ≠ b) : D5 w' N v0 v1 v2 v3 v4 := by
  unfold D5 at h ⊢
  rw [hg.block N (Array.getElem?_eq_some_iff.1 h).1 (fun e => hne (Option.some.inj e))]; exact h
theorem D5.c {w : World} {N : Nat} {v0 v1 v2 v3 v4 : Value} (h : D5 w N v0 v1 v2 v3 v4) :
    w.cell? ⟨N, 0, none⟩ = some v0 ∧ w.cell? ⟨N, 1, none⟩ = some v1 ∧ w.cell? ⟨N, 2, none⟩ = some v2 ∧ w.cell? ⟨N, 3, none⟩ = some v3 ∧ w.cell? ⟨N, 4, none⟩ = some v4 := by
  unfold D5 at h; simp [World.cell?, h]
theorem D5.f {w : World} {N o : Nat} {v0 v1 v2 v3 v4 : Value} (h : D5 w N v0 v1 v2 v3 v4) : w.frozen? ⟨N, o, none⟩ = false := by
  unfold D5 at h; simp [World.frozen?, h]
theorem D5.new (w : World) (v0 v1 v2 v3 v4 : Value) : D5 (w.alloc (.cells #[v0, v1, v2, v3, v4] 25)) w.heap.size v0 v1 v2 v3 v4 := by
  unfold D5; exact heap_alloc_new w _
theorem D5.lt {w : World} {N : Nat} {v0 v1 v2 v3 v4 : Value} (h : D5 w N v0 v1 v2 v3 v4) : N < w.heap.size := by
  unfold D5 at h; exact (Array.getElem?_eq_some_iff.1 h).1
theorem D5.below {w w' : World} {N : Nat} {v0 v1 v2 v3 v4 : Value} (h : D5 w N v0 v1 v2 v3 v4) (hb : Below w.heap.size w w') : D5 w' N v0 v1 v2 v3 v4 := by
  have := h.lt
  unfold D5 at h ⊢
  exact (hb.block N this).trans h
theorem nil_size (s : ByteArray) : s.toList = [] ↔ s.size = 0 := by
  rw [ByteArray.toList_eq, ← List.length_eq_zero_iff, Array.length_toList]; exact Iff.rfl

/-- The tree t lies in w behind the five cells cs. -/
def Rep (w : World) : (n : Nat) → List Value → Tr n → Prop
  | 0, _, _ => False
  | n + 1, cs, t => ∃ (ad : Option Addr) (cap : Nat), cs = [.int .i64 t.kd, .int .i64 t.it, .int .u64 t.ut, .string t.tx, .slice ad t.ks.length cap] ∧ t.tx.size ≤ maxLen ∧ t.ks.length ≤ cap ∧ cap ≤ maxLen ∧
      (t.ks = [] ∨ ∃ g o, ad = some ⟨g, o, none⟩ ∧ ∀ (j : Nat) (t' : Tr n), t.ks[j]? = some t' → ∃ v0 v1 v2 v3 v4, w.cell? ⟨g, o + j * 5, none⟩ = some v0 ∧ w.cell? ⟨g, o + j * 5 + 1, none⟩ = some v1 ∧ w.cell? ⟨g, o + j * 5 + 2, none⟩ = some v2 ∧ w.cell? ⟨g, o + j * 5 + 3, none⟩ = some v3 ∧ w.cell? ⟨g, o + j * 5 + 4, none⟩ = some v4 ∧ Rep w n [v0, v1, v2, v3, v4] t')

theorem Rep.below {w w' : World} (hb : Below w.heap.size w w') : ∀ (n : Nat) (cs : List Value) (t : Tr n), Rep w n cs t → Rep w' n cs t
  | 0, _, _, h => h
  | n + 1, cs, t, h => by
    obtain ⟨ad, cap, h1, h2, h3, h4, h5⟩ := h
    refine ⟨ad, cap, h1, h2, h3, h4, ?_⟩
    rcases h5 with h5 | ⟨g, o, h6, h7⟩
    · exact .inl h5
    · refine .inr ⟨g, o, h6, fun j t' hj => ?_⟩
      obtain ⟨v0, v1, v2, v3, v4, c0, c1, c2, c3, c4, r⟩ := h7 j t' hj
      have hg : g < w.heap.size := World.block_lt_of_cell? w _ c0
      exact ⟨v0, v1, v2, v3, v4, (hb.cell (p := ⟨g, _, none⟩) hg).trans c0, (hb.cell (p := ⟨g, _, none⟩) hg).trans c1, (hb.cell (p := ⟨g, _, none⟩) hg).trans c2, (hb.cell (p := ⟨g, _, none⟩) hg).trans c3, (hb.cell (p := ⟨g, _, none⟩) hg).trans c4, Rep.below hb n _ _ r⟩

set_option maxRecDepth 100000 in
set_option maxHeartbeats 1000000 in
theorem count_any (f : Nat) : ∀ (n : Nat) (t : Tr n) (v0 v1 v2 v3 v4 : Value) (deep left : Int) (w : World), Rep w n [v0, v1, v2, v3, v4] t → deep + f = 17 → 1 ≤ deep → left ≤ 4096 → -10000 ≤ left →
    Calls Tryz.prog 21 #[.agg #[v0, v1, v2, v3, v4], .int .i64 deep, .int .i64 left] w fun e w' => e = .returned (.tuple #[.int .i64 (cnt f n t deep left).1, .int .i64 (cnt f n t deep left).2]) ∧ Below w.heap.size w w' := by
  induction f with
  | zero =>
    intro n t v0 v1 v2 v3 v4 deep left w h hd hd1 hl hl0
    match n, t, h with
    | n + 1, t, h =>
      obtain ⟨ad, cap, e, -, -, -, -⟩ := h
      simp only [List.cons.injEq, and_true] at e
      obtain ⟨rfl, rfl, rfl, rfl, rfl⟩ := e
      have hgt : 16 < deep := by omega
      simp only [cnt]
      go_enter Tryz.func21, Tryz.ntmps21
      go_wp2
      go_ret2
      exact ⟨rfl, (Below.refl _ w).alloc (Nat.le_refl _) _⟩
  | succ f ih =>
    intro n t v0 v1 v2 v3 v4 deep left w h hd hd1 hl hl0
    match n, t, h with
    | n + 1, t, h =>
      have hr := h
      obtain ⟨ad, cap, e, htx, hlen, hcap, hk⟩ := h
      simp only [List.cons.injEq, and_true] at e
      obtain ⟨rfl, rfl, rfl, rfl, rfl⟩ := e
      have hgt : ¬ 16 < deep := by omega
      by_cases hz : left ≤ 0
      · simp only [cnt, if_pos hz]
        go_enter Tryz.func21, Tryz.ntmps21
        go_wp2
        go_ret2
        exact ⟨rfl, (Below.refl _ w).alloc (Nat.le_refl _) _⟩
      · simp only [cnt, if_neg hz]
        have HI := Lib.hid ih
        clear ih
        have HK := Lib.hid hk
        clear hk
        unfold maxLen at hcap
        have d0 := D5.new w (.int .i64 t.kd) (.int .i64 t.it) (.int .u64 t.ut) (.string t.tx) (.slice ad t.ks.length cap)
        generalize hcc : (fun (t : Tr n) l => cnt f n t (deep + 1) l) = cc
        have HC := Lib.hid hcc
        clear hcc
        go_enter Tryz.func21, Tryz.ntmps21
        go_wp2_with fail
        go_loopw [8, 9, 24] (fun sn sm si wr => ∃ (j : Nat) (m most : Int), sn = .int .i64 m ∧ sm = .int .i64 most ∧ si = .int .i64 j ∧ j ≤ t.ks.length ∧ cntL cc left (t.ks.drop j) m most = cntL cc left t.ks 1 deep ∧ 1 ≤ m ∧ m ≤ left ∧ deep ≤ most ∧ most ≤ 16 ∧ Below (w.heap.size + 1) (w.alloc (.cells #[.int .i64 t.kd, .int .i64 t.it, .int .u64 t.ut, .string t.tx, .slice ad t.ks.length cap] 25)) wr) (fun _ _ si _ => t.ks.length - (intOf si).toNat)
        case atStart => exact ⟨0, 1, deep, rfl, rfl, rfl, Nat.zero_le _, rfl, by omega, by omega, Int.le_refl _, by omega, Below.refl _ _⟩
        case round =>
          obtain ⟨j, m, most, rfl, rfl, rfl, hj, hinv, hm1, hm2, hd2, hd3, hb⟩ := hrel
          have HV := Lib.hid hinv
          clear hinv
          have dr : D5 wr w.heap.size (.int .i64 t.kd) (.int .i64 t.it) (.int .u64 t.ut) (.string t.tx) (.slice ad t.ks.length cap) := (hb.block w.heap.size (Nat.lt_succ_self _)).trans d0
          have c4 := dr.c.2.2.2.2
          have bw : Below w.heap.size w wr := ((Below.refl _ w).alloc (Nat.le_refl _) _).trans (hb.mono (Nat.le_succ _))
          by_cases hlt : j < t.ks.length
          · have hne : t.ks ≠ [] := by intro e; rw [e] at hlt; exact absurd hlt (Nat.not_lt_zero _)
            rcases HK.out with hk | ⟨g, o, hk1, hk2⟩
            · exact absurd hk hne
            subst hk1
            obtain ⟨v0, v1, v2, v3, v4, e0, e1, e2, e3, e4, rk⟩ := hk2 j _ (List.getElem?_eq_getElem hlt)
            have hg : g < w.heap.size := World.block_lt_of_cell? w _ e0
            have x0 := (bw.cell (p := ⟨g, o + j * 5, none⟩) hg).trans e0
            have x1 := (bw.cell (p := ⟨g, o + j * 5 + 1, none⟩) hg).trans e1
            have x2 := (bw.cell (p := ⟨g, o + j * 5 + 2, none⟩) hg).trans e2
            have x3 := (bw.cell (p := ⟨g, o + j * 5 + 3, none⟩) hg).trans e3
            have x4 := (bw.cell (p := ⟨g, o + j * 5 + 4, none⟩) hg).trans e4
            have rk' := Rep.below bw n _ _ rk
            clear e0 e1 e2 e3 e4 rk hk2 HK
            go_wp2_with fail
            refine (HI.out n t.ks[j] v0 v1 v2 v3 v4 (deep + 1) (left - m) wr rk' (by omega) (by omega) (by omega) (by omega)).mono ?_
            rintro e w1 ⟨rfl, b1⟩
            have bd := cnt_bd f n t.ks[j] (deep + 1) (left - m) (by omega) (by omega)
            have hv := HV.out
            rw [drop_at t.ks j hlt, cntL_cons, ← HC.out] at hv
            simp only [] at hv
            generalize cnt f n t.ks[j] (deep + 1) (left - m) = C at bd hv
            have b2 : Below (w.heap.size + 1) (w.alloc (.cells #[.int .i64 t.kd, .int .i64 t.it, .int .u64 t.ut, .string t.tx, .slice (some ⟨g, o, none⟩) t.ks.length cap] 25)) w1 := hb.trans (b1.mono (by have := hb.size; simp at this; omega))
            have dr1 : D5 w1 w.heap.size (.int .i64 t.kd) (.int .i64 t.it) (.int .u64 t.ut) (.string t.tx) (.slice (some ⟨g, o, none⟩) t.ks.length cap) := (b2.block w.heap.size (Nat.lt_succ_self _)).trans d0
            obtain ⟨q1, q2, q3, q4⟩ := bd
            by_cases hbad : left < m + C.1 ∨ 16 < max most C.2
            · rw [if_pos hbad, HC.out] at hv
              have HW := Lib.hid hv
              clear hv HV x0 x1 x2 x3 x4 rk' b1 dr c4
              have bw1 : Below w.heap.size w w1 := ((Below.refl _ w).alloc (Nat.le_refl _) _).trans (b2.mono (Nat.le_succ _))
              go_wp2_with fail
              all_goals go_ret2
              all_goals exact ⟨by rw [← HW.out]; first | rfl | (rw [show max most C.2 = C.2 by omega]; rfl) | (rw [show max most C.2 = most by omega]; rfl), bw1⟩
            · rw [if_neg hbad, HC.out] at hv
              have HW := Lib.hid hv
              have hg1 : ¬ left < m + C.1 := fun h => hbad (.inl h)
              have hg2 : ¬ 16 < max most C.2 := fun h => hbad (.inr h)
              clear hv HV x0 x1 x2 x3 x4 rk' b1 dr c4 hbad
              go_wp2_with fail
              refine ⟨⟨j + 1, _, _, rfl, rfl, by go_num, by omega, by first | exact HW.out | (rw [show (if most < C.2 then C.2 else most) = max most C.2 by split <;> omega]; exact HW.out), by omega, by omega, by first | omega | (split <;> omega), by first | omega | (split <;> omega), b2⟩, by simp [intOf]; omega⟩
          · have hje : j = t.ks.length := by omega
            have hv := HV.out
            rw [hje, List.drop_length] at hv
            have HW := Lib.hid hv
            clear hv HV
            go_wp2_with fail
            go_ret2
            exact ⟨by rw [← HW.out]; rfl, bw⟩
end Go.Proofs.YtajagjcfmaggiaaGreatDoor.Dt
/- Trees in memory with the blocks told, a block of places for plain data, and a place of it written; no condition but those that each theorem names. -/
namespace Go.Proofs.YtajagjcfmaggiaaGreatDoor.Dt
open Go.RowKit
theorem rep_shape' {w : World} {n : Nat} {v0 v1 v2 v3 v4 : Value} {t : Tr n} (h : Rep w n [v0, v1, v2, v3, v4] t) : ∃ (k i u : Int) (s : ByteArray) (ad : Option Addr) (len cap : Nat), v0 = .int .i64 k ∧ v1 = .int .i64 i ∧ v2 = .int .u64 u ∧ v3 = .string s ∧ v4 = .slice ad len cap := by
  match n, t, h with
  | 0, _, h => exact absurd h (by simp [Rep])
  | n + 1, t, h =>
    obtain ⟨ad, cap, h1, -⟩ := h
    simp only [List.cons.injEq, and_true] at h1
    obtain ⟨h0, h1, h2, h3, h4⟩ := h1
    exact ⟨_, _, _, _, _, _, _, h0, h1, h2, h3, h4⟩
/-- The tree t lies in w behind the five cells cs, in blocks of which F tells. -/
def Rf (F : Nat → Prop) (w : World) : (n : Nat) → List Value → Tr n → Prop
  | 0, _, _ => False
  | n + 1, cs, t => ∃ (ad : Option Addr) (cap : Nat), cs = [.int .i64 t.kd, .int .i64 t.it, .int .u64 t.ut, .string t.tx, .slice ad t.ks.length cap] ∧ t.tx.size ≤ maxLen ∧ t.ks.length ≤ cap ∧ cap ≤ maxLen ∧
      (t.ks = [] ∨ ∃ g o, ad = some ⟨g, o, none⟩ ∧ (F g ∧ ∀ q, w.frozen? ⟨g, q, none⟩ = false) ∧ ∀ (j : Nat) (t' : Tr n), t.ks[j]? = some t' → ∃ v0 v1 v2 v3 v4, w.cell? ⟨g, o + j * 5, none⟩ = some v0 ∧ w.cell? ⟨g, o + j * 5 + 1, none⟩ = some v1 ∧ w.cell? ⟨g, o + j * 5 + 2, none⟩ = some v2 ∧ w.cell? ⟨g, o + j * 5 + 3, none⟩ = some v3 ∧ w.cell? ⟨g, o + j * 5 + 4, none⟩ = some v4 ∧ Rf F w n [v0, v1, v2, v3, v4] t')
theorem Rf.rep {F : Nat → Prop} {w : World} : ∀ (n : Nat) (cs : List Value) (t : Tr n), Rf F w n cs t → Rep w n cs t
  | 0, _, _, h => h
  | n + 1, cs, t, h => by
    obtain ⟨ad, cap, h1, h2, h3, h4, h5⟩ := h
    refine ⟨ad, cap, h1, h2, h3, h4, ?_⟩
    rcases h5 with h5 | ⟨g, o, h6, -, h7⟩
    · exact .inl h5
    · refine .inr ⟨g, o, h6, fun j t' hj => ?_⟩
      obtain ⟨v0, v1, v2, v3, v4, c0, c1, c2, c3, c4, r⟩ := h7 j t' hj
      exact ⟨v0, v1, v2, v3, v4, c0, c1, c2, c3, c4, Rf.rep n _ _ r⟩
theorem cell_heap {w w' : World} {g o : Nat} (h : w'.heap[g]? = w.heap[g]?) : w'.cell? ⟨g, o, none⟩ = w.cell? ⟨g, o, none⟩ := by simp [World.cell?, h]
theorem frozen_heap {w w' : World} {g o : Nat} (h : w'.heap[g]? = w.heap[g]?) : w'.frozen? ⟨g, o, none⟩ = w.frozen? ⟨g, o, none⟩ := by simp [World.frozen?, h]
theorem Rf.to {F F' : Nat → Prop} {w w' : World} (hF : ∀ g, F g → F' g ∧ w'.heap[g]? = w.heap[g]?) : ∀ (n : Nat) (cs : List Value) (t : Tr n), Rf F w n cs t → Rf F' w' n cs t
  | 0, _, _, h => h
  | n + 1, cs, t, h => by
    obtain ⟨ad, cap, h1, h2, h3, h4, h5⟩ := h
    refine ⟨ad, cap, h1, h2, h3, h4, ?_⟩
    rcases h5 with h5 | ⟨g, o, h6, hg, h7⟩
    · exact .inl h5
    · obtain ⟨hg', hh⟩ := hF g hg.1
      refine .inr ⟨g, o, h6, ⟨hg', fun q => (frozen_heap hh).trans (hg.2 q)⟩, fun j t' hj => ?_⟩
      obtain ⟨v0, v1, v2, v3, v4, c0, c1, c2, c3, c4, r⟩ := h7 j t' hj
      exact ⟨v0, v1, v2, v3, v4, (cell_heap hh).trans c0, (cell_heap hh).trans c1, (cell_heap hh).trans c2, (cell_heap hh).trans c3, (cell_heap hh).trans c4, Rf.to hF n _ _ r⟩
/-- A block of n places for plain data. -/
def Rq (w : World) (N n : Nat) : Prop := ∃ cs : Array Value, w.heap[N]? = some (.cells cs 25 (0, 0)) ∧ cs.size = n * 5
theorem Rq.lt {w : World} {N n : Nat} (h : Rq w N n) : N < w.heap.size := by obtain ⟨cs, h, -⟩ := h; exact (Array.getElem?_eq_some_iff.1 h).1
theorem Rq.below {w w' : World} {N n : Nat} (h : Rq w N n) (hb : Below w.heap.size w w') : Rq w' N n := by
  have hl := h.lt
  obtain ⟨cs, h, e⟩ := h; exact ⟨cs, (hb.block N hl).trans h, e⟩
theorem Rq.c {w : World} {N n j : Nat} (h : Rq w N n) (hj : j < n * 5) : ∃ x, w.cell? ⟨N, j, none⟩ = some x := by
  obtain ⟨cs, h, e⟩ := h
  exact ⟨cs[j]'(by omega), by simp [World.cell?, h, e, hj]⟩
theorem Rq.f {w : World} {N n o : Nat} (h : Rq w N n) : w.frozen? ⟨N, o, none⟩ = false := by
  obtain ⟨cs, h, -⟩ := h; simp [World.frozen?, h]
theorem Rq.set {w : World} {N n j : Nat} (h : Rq w N n) (x : Value) : Rq (w.setCell ⟨N, j, none⟩ x) N n := by
  obtain ⟨cs, h1, h2⟩ := h
  exact ⟨cs.setIfInBounds j x, by simp [World.setCell, Array.getElem?_modify, h1], by simp [h2]⟩
/-- The list's block before its part j. -/
def Lq (w : World) (N n : Nat) (F : Nat → Prop) (m : Nat) (ks : List (Tr m)) (j : Nat) : Prop := Rq w N n ∧ ∀ (k : Nat) (t : Tr m), k < j → ks[k]? = some t → ∃ v0 v1 v2 v3 v4, w.cell? ⟨N, k * 5, none⟩ = some v0 ∧ w.cell? ⟨N, k * 5 + 1, none⟩ = some v1 ∧ w.cell? ⟨N, k * 5 + 2, none⟩ = some v2 ∧ w.cell? ⟨N, k * 5 + 3, none⟩ = some v3 ∧ w.cell? ⟨N, k * 5 + 4, none⟩ = some v4 ∧ Rf F w m [v0, v1, v2, v3, v4] t
theorem set5_at (w : World) (N n j : Nat) (h : Rq w N n) (hj : j < n) (x0 x1 x2 x3 x4 : Value) {W : World} (hW : W = ((((w.setCell ⟨N, j * 5, none⟩ x0).setCell ⟨N, j * 5 + 1, none⟩ x1).setCell ⟨N, j * 5 + 2, none⟩ x2).setCell ⟨N, j * 5 + 3, none⟩ x3).setCell ⟨N, j * 5 + 4, none⟩ x4) :
    Rq W N n ∧ W.heap.size = w.heap.size ∧ (∀ q, q ≠ N → W.heap[q]? = w.heap[q]?) ∧ (W.cell? ⟨N, j * 5, none⟩ = some x0 ∧ W.cell? ⟨N, j * 5 + 1, none⟩ = some x1 ∧ W.cell? ⟨N, j * 5 + 2, none⟩ = some x2 ∧ W.cell? ⟨N, j * 5 + 3, none⟩ = some x3 ∧ W.cell? ⟨N, j * 5 + 4, none⟩ = some x4) ∧ ∀ o, (o < j * 5 ∨ j * 5 + 4 < o) → W.cell? ⟨N, o, none⟩ = w.cell? ⟨N, o, none⟩ := by
  subst hW
  have c : ∀ o, o < n * 5 → ∃ x, w.cell? ⟨N, o, none⟩ = some x := fun o ho => h.c ho
  obtain ⟨y0, z0⟩ := c (j * 5) (by omega)
  obtain ⟨y1, z1⟩ := c (j * 5 + 1) (by omega)
  obtain ⟨y2, z2⟩ := c (j * 5 + 2) (by omega)
  obtain ⟨y3, z3⟩ := c (j * 5 + 3) (by omega)
  obtain ⟨y4, z4⟩ := c (j * 5 + 4) (by omega)
  refine ⟨((((h.set _).set _).set _).set _).set _, by simp [World.setCell], fun q hq => ?_, ?_, fun o ho => ?_⟩
  · rw [Below.heap_setCell _ _ _ q hq, Below.heap_setCell _ _ _ q hq, Below.heap_setCell _ _ _ q hq, Below.heap_setCell _ _ _ q hq, Below.heap_setCell _ _ _ q hq]
  · simp [World.cell?_setCell_same, World.cell?_setCell_other, z0, z1, z2, z3, z4]
  · rw [World.cell?_setCell_other, World.cell?_setCell_other, World.cell?_setCell_other, World.cell?_setCell_other, World.cell?_setCell_other]
    all_goals (simp only [ne_eq, Addr.mk.injEq]; omega)
theorem infoDat : (Tryz.prog.info? 25).map (fun i => (i.zero, i.size, i.bytes)) = some (some (.agg #[.int .i64 0, .int .i64 0, .int .u64 0, .string ⟨#[]⟩, .slice none 0 0]), 5, 64) := by kernel_rfl
theorem infoDat_parts : ∃ i0, Tryz.prog.info? 25 = some i0 ∧ i0.zero = some (.agg #[.int .i64 0, .int .i64 0, .int .u64 0, .string ⟨#[]⟩, .slice none 0 0]) ∧ i0.size = 5 ∧ i0.bytes = 64 := by
  have h := infoDat
  cases hi : Tryz.prog.info? 25 with
  | none => rw [hi] at h; cases h
  | some i0 =>
    rw [hi] at h
    simp only [Option.map_some, Option.some.injEq, Prod.mk.injEq] at h
    exact ⟨i0, rfl, h.1, h.2.1, h.2.2⟩

theorem ptsL_fst {T : Type} (c : T → Int × Int) (h1 : ∀ t, 1 ≤ (c t).1) : ∀ (ks : List T) (p d : Int), p + ks.length ≤ (ptsL c ks p d).1 ∧ ∀ t ∈ ks, p + (c t).1 ≤ (ptsL c ks p d).1
  | [], p, d => ⟨by simp [ptsL], fun t ht => by cases ht⟩
  | t :: ts, p, d => by
    have I := ptsL_fst c h1 ts (p + (c t).1) (max d (c t).2)
    have q := h1 t
    simp only [ptsL]
    refine ⟨?_, fun t' ht => ?_⟩
    · have := I.1; simp only [List.length_cons, Int.natCast_add, Int.natCast_one]; omega
    · rcases List.mem_cons.1 ht with rfl | ht
      · have := I.1; omega
      · have := I.2 t' ht; omega
theorem pts_pos1 : ∀ (n : Nat) (t : Tr n), 1 ≤ (pts n t).1
  | 0, t => t.elim
  | n + 1, t => by
    simp only [pts]
    have := (ptsL_fst (pts n) (pts_pos1 n) t.ks 1 0).1
    omega
theorem pts_kids {n : Nat} {t : Tr (n + 1)} (h : (pts (n + 1) t).1 ≤ 4096) : t.ks.length ≤ 4096 ∧ ∀ t' ∈ t.ks, (pts n t').1 ≤ 4096 := by
  simp only [pts] at h
  have := ptsL_fst (pts n) (pts_pos1 n) t.ks 1 0
  exact ⟨by omega, fun t' ht => by have := this.2 t' ht; omega⟩

end Go.Proofs.YtajagjcfmaggiaaGreatDoor.Dt
/- The document's look at each part, at the kinds that have no list: the table's answer; no condition but sizes. -/
namespace Go.Proofs.YtajagjcfmaggiaaGreatDoor.Dt
open Go.RowKit

set_option maxRecDepth 100000 in
set_option maxHeartbeats 1000000 in
theorem right0 (i u : Int) (s : ByteArray) (ad : Option Addr) (len cap : Nat) (w : World) (_hs : s.size ≤ maxLen) (_hl : len ≤ maxLen) :
    Calls Tryz.prog 22 #[.agg #[.int .i64 0, .int .i64 i, .int .u64 u, .string s, .slice ad len cap]] w fun e w' => e = .returned (.bool (okB 0 i u s.size len)) ∧ Below w.heap.size w w' := by
  unfold maxLen at _hs _hl
  go_enter Tryz.func22, Tryz.ntmps22
  go_wp2_with fail
  all_goals try (refine wp_loop_rounds 1 ?_; rw [rounds_succ]; go_wp2_with fail)
  all_goals go_ret
  all_goals refine ⟨ret_b ?_, (Below.refl _ w).alloc (Nat.le_refl _) _⟩
  all_goals have hz := nil_size s
  all_goals generalize s.toList = L at *
  all_goals generalize s.size = z at *
  all_goals (simp_all [okB] <;> first | omega | (rw [Bool.eq_iff_iff]; simp; omega))
set_option maxRecDepth 100000 in
set_option maxHeartbeats 1000000 in
theorem right1 (i u : Int) (s : ByteArray) (ad : Option Addr) (len cap : Nat) (w : World) (_hs : s.size ≤ maxLen) (_hl : len ≤ maxLen) :
    Calls Tryz.prog 22 #[.agg #[.int .i64 1, .int .i64 i, .int .u64 u, .string s, .slice ad len cap]] w fun e w' => e = .returned (.bool (okB 1 i u s.size len)) ∧ Below w.heap.size w w' := by
  unfold maxLen at _hs _hl
  go_enter Tryz.func22, Tryz.ntmps22
  go_wp2_with fail
  all_goals try (refine wp_loop_rounds 1 ?_; rw [rounds_succ]; go_wp2_with fail)
  all_goals go_ret
  all_goals refine ⟨ret_b ?_, (Below.refl _ w).alloc (Nat.le_refl _) _⟩
  all_goals have hz := nil_size s
  all_goals generalize s.toList = L at *
  all_goals generalize s.size = z at *
  all_goals (simp_all [okB] <;> first | omega | (rw [Bool.eq_iff_iff]; simp; omega))
set_option maxRecDepth 100000 in
set_option maxHeartbeats 1000000 in
theorem right2 (i u : Int) (s : ByteArray) (ad : Option Addr) (len cap : Nat) (w : World) (_hs : s.size ≤ maxLen) (_hl : len ≤ maxLen) :
    Calls Tryz.prog 22 #[.agg #[.int .i64 2, .int .i64 i, .int .u64 u, .string s, .slice ad len cap]] w fun e w' => e = .returned (.bool (okB 2 i u s.size len)) ∧ Below w.heap.size w w' := by
  unfold maxLen at _hs _hl
  go_enter Tryz.func22, Tryz.ntmps22
  go_wp2_with fail
  all_goals try (refine wp_loop_rounds 1 ?_; rw [rounds_succ]; go_wp2_with fail)
  all_goals go_ret
  all_goals refine ⟨ret_b ?_, (Below.refl _ w).alloc (Nat.le_refl _) _⟩
  all_goals have hz := nil_size s
  all_goals generalize s.toList = L at *
  all_goals generalize s.size = z at *
  all_goals (simp_all [okB] <;> first | omega | (rw [Bool.eq_iff_iff]; simp; omega))
set_option maxRecDepth 100000 in
set_option maxHeartbeats 1000000 in
theorem right3 (i u : Int) (s : ByteArray) (ad : Option Addr) (len cap : Nat) (w : World) (_hs : s.size ≤ maxLen) (_hl : len ≤ maxLen) :
    Calls Tryz.prog 22 #[.agg #[.int .i64 3, .int .i64 i, .int .u64 u, .string s, .slice ad len cap]] w fun e w' => e = .returned (.bool (okB 3 i u s.size len)) ∧ Below w.heap.size w w' := by
  unfold maxLen at _hs _hl
  go_enter Tryz.func22, Tryz.ntmps22
  go_wp2_with fail
  all_goals try (refine wp_loop_rounds 1 ?_; rw [rounds_succ]; go_wp2_with fail)
  all_goals go_ret
  all_goals refine ⟨ret_b ?_, (Below.refl _ w).alloc (Nat.le_refl _) _⟩
  all_goals have hz := nil_size s
  all_goals generalize s.toList = L at *
  all_goals generalize s.size = z at *
  all_goals (simp_all [okB] <;> first | omega | (rw [Bool.eq_iff_iff]; simp; omega))
set_option maxRecDepth 100000 in
set_option maxHeartbeats 1000000 in
theorem right4 (i u : Int) (s : ByteArray) (ad : Option Addr) (len cap : Nat) (w : World) (_hs : s.size ≤ maxLen) (_hl : len ≤ maxLen) :
    Calls Tryz.prog 22 #[.agg #[.int .i64 4, .int .i64 i, .int .u64 u, .string s, .slice ad len cap]] w fun e w' => e = .returned (.bool (okB 4 i u s.size len)) ∧ Below w.heap.size w w' := by
  unfold maxLen at _hs _hl
  go_enter Tryz.func22, Tryz.ntmps22
  go_wp2_with fail
  all_goals try (refine wp_loop_rounds 1 ?_; rw [rounds_succ]; go_wp2_with fail)
  all_goals go_ret
  all_goals refine ⟨ret_b ?_, (Below.refl _ w).alloc (Nat.le_refl _) _⟩
  all_goals have hz := nil_size s
  all_goals generalize s.toList = L at *
  all_goals generalize s.size = z at *
  all_goals (simp_all [okB] <;> first | omega | (rw [Bool.eq_iff_iff]; simp; omega))
set_option maxRecDepth 100000 in
set_option maxHeartbeats 1000000 in
theorem right5 (i u : Int) (s : ByteArray) (ad : Option Addr) (len cap : Nat) (w : World) (_hs : s.size ≤ maxLen) (_hl : len ≤ maxLen) :
    Calls Tryz.prog 22 #[.agg #[.int .i64 5, .int .i64 i, .int .u64 u, .string s, .slice ad len cap]] w fun e w' => e = .returned (.bool (okB 5 i u s.size len)) ∧ Below w.heap.size w w' := by
  unfold maxLen at _hs _hl
  go_enter Tryz.func22, Tryz.ntmps22
  go_wp2_with fail
  all_goals try (refine wp_loop_rounds 1 ?_; rw [rounds_succ]; go_wp2_with fail)
  all_goals go_ret
  all_goals refine ⟨ret_b ?_, (Below.refl _ w).alloc (Nat.le_refl _) _⟩
  all_goals have hz := nil_size s
  all_goals generalize s.toList = L at *
  all_goals generalize s.size = z at *
  all_goals (simp_all [okB] <;> first | omega | (rw [Bool.eq_iff_iff]; simp; omega))
end Go.Proofs.YtajagjcfmaggiaaGreatDoor.Dt
