/- The law's look at a list: it returns, and where it says true all are valid and they are not too many; and valid trees cut to depth 16; the conditions: the list's trees in memory. -/
import Derived.Test.YtgpbnmlcfimnnaaDoorLaw
import Derived.Test.YtgpbnmlcfimnnaaDoorCut
namespace Go.Proofs.YtgpbnmlcfimnnaaDoor
open Go.RowKit
theorem cut_one (n : Nat) (t : Tr n) (h : vB n t = true) : ∃ t' : Tr 16, rgt 16 t' = true ∧ (pts 16 t').1 ≤ 4096 ∧ ∀ w cs, Rep w n cs t → Rep w 16 cs t' := by
  have S := say 16 n t 1 4096 (by decide) (by decide) (by decide)
  obtain ⟨hr, hC, -⟩ := S.down h
  obtain ⟨f1, f2, f3, f4, f5⟩ := S.fit hC
  obtain ⟨t', e1, e2, e3⟩ := shrink 16 n t (by rw [f1]; show (cnt 16 n t 1 4096).2 - 1 + 1 ≤ ((16 : Nat) : Int); omega)
  exact ⟨t', e1.trans hr, by rw [e2, f1]; exact f3, e3⟩
theorem cut_all (n : Nat) (ts : List (Tr n)) (h : ∀ t ∈ ts, vB n t = true) (ad : Option Addr) (w : World) (hk : (ts = [] ∨ ∃ g o, ad = some ⟨g, o, none⟩ ∧ ∀ (j : Nat) (t' : Tr n), ts[j]? = some t' → ∃ v0 v1 v2 v3 v4, w.cell? ⟨g, o + j * 5, none⟩ = some v0 ∧ w.cell? ⟨g, o + j * 5 + 1, none⟩ = some v1 ∧ w.cell? ⟨g, o + j * 5 + 2, none⟩ = some v2 ∧ w.cell? ⟨g, o + j * 5 + 3, none⟩ = some v3 ∧ w.cell? ⟨g, o + j * 5 + 4, none⟩ = some v4 ∧ Rep w n [v0, v1, v2, v3, v4] t')) :
    ∃ us : List (Tr 16), us.length = ts.length ∧ (∀ u ∈ us, rgt 16 u = true) ∧ (∀ u ∈ us, (pts 16 u).1 ≤ 4096) ∧ (us = [] ∨ ∃ g o, ad = some ⟨g, o, none⟩ ∧ ∀ (j : Nat) (t' : Tr 16), us[j]? = some t' → ∃ v0 v1 v2 v3 v4, w.cell? ⟨g, o + j * 5, none⟩ = some v0 ∧ w.cell? ⟨g, o + j * 5 + 1, none⟩ = some v1 ∧ w.cell? ⟨g, o + j * 5 + 2, none⟩ = some v2 ∧ w.cell? ⟨g, o + j * 5 + 3, none⟩ = some v3 ∧ w.cell? ⟨g, o + j * 5 + 4, none⟩ = some v4 ∧ Rep w 16 [v0, v1, v2, v3, v4] t') := by
  obtain ⟨us, hl, hp⟩ := list_at (fun i (u : Tr 16) => rgt 16 u = true ∧ (pts 16 u).1 ≤ 4096 ∧ ∀ t, ts[i]? = some t → ∀ w cs, Rep w n cs t → Rep w 16 cs u) ts.length (fun i hi => by
    obtain ⟨u, u1, u2, u3⟩ := cut_one n ts[i] (h _ (List.getElem_mem hi))
    refine ⟨u, u1, u2, fun t ht => ?_⟩
    rw [List.getElem?_eq_getElem hi] at ht
    rw [← Option.some.inj ht]; exact u3)
  have mem : ∀ u ∈ us, rgt 16 u = true ∧ (pts 16 u).1 ≤ 4096 := fun u hu => by
    obtain ⟨k, hk, rfl⟩ := List.getElem_of_mem hu
    have := hp k _ (List.getElem?_eq_getElem hk)
    exact ⟨this.1, this.2.1⟩
  refine ⟨us, hl, fun u hu => (mem u hu).1, fun u hu => (mem u hu).2, ?_⟩
  rcases hk with rfl | ⟨g, o, h1, h2⟩
  · exact .inl (List.length_eq_zero_iff.1 hl)
  · refine .inr ⟨g, o, h1, fun j u hj => ?_⟩
    have hlt : j < ts.length := by have := (List.getElem?_eq_some_iff.1 hj).1; omega
    obtain ⟨v0, v1, v2, v3, v4, c0, c1, c2, c3, c4, r⟩ := h2 j _ (List.getElem?_eq_getElem hlt)
    exact ⟨v0, v1, v2, v3, v4, c0, c1, c2, c3, c4, (hp j u hj).2.2 _ (List.getElem?_eq_getElem hlt) w _ r⟩

set_option maxRecDepth 100000 in
set_option maxHeartbeats 4000000 in
theorem fit_any (n : Nat) (ts : List (Tr n)) (ad : Option Addr) (cap : Nat) (w : World) (hlen : ts.length ≤ maxLen) (hk : (ts = [] ∨ ∃ g o, ad = some ⟨g, o, none⟩ ∧ ∀ (j : Nat) (t' : Tr n), ts[j]? = some t' → ∃ v0 v1 v2 v3 v4, w.cell? ⟨g, o + j * 5, none⟩ = some v0 ∧ w.cell? ⟨g, o + j * 5 + 1, none⟩ = some v1 ∧ w.cell? ⟨g, o + j * 5 + 2, none⟩ = some v2 ∧ w.cell? ⟨g, o + j * 5 + 3, none⟩ = some v3 ∧ w.cell? ⟨g, o + j * 5 + 4, none⟩ = some v4 ∧ Rep w n [v0, v1, v2, v3, v4] t')) :
    Calls Tryd.prog 18 #[.slice ad ts.length cap] w fun e w' => ∃ b, e = .returned (.bool b) ∧ (b = true → (∀ t ∈ ts, vB n t = true) ∧ ts.length ≤ 65536) ∧ Below w.heap.size w w' := by
  unfold maxLen at hlen
  have HK := Lib.hid hk
  clear hk
  go_enter Tryd.func18, Tryd.ntmps18
  go_wp2_with fail
  go_loopw [3, 9] (fun sn si wr => ∃ (j : Nat) (N : Int), si = .int .i64 j ∧ sn = .int .i64 N ∧ j ≤ ts.length ∧ (j : Int) ≤ N ∧ N ≤ 65536 ∧ Below w.heap.size w wr ∧ ∀ k t, k < j → ts[k]? = some t → vB n t = true) (fun _ si _ => ts.length - (intOf si).toNat)
  case atStart => exact ⟨0, 0, rfl, rfl, Nat.zero_le _, by omega, by omega, Below.refl _ _, fun k _ hk => absurd hk (Nat.not_lt_zero _)⟩
  case round =>
    obtain ⟨j, N, rfl, rfl, hj, hN1, hN2, bw, hval⟩ := hrel
    have HY := Lib.hid hval
    clear hval
    by_cases hlt : j < ts.length
    · have hne : ts ≠ [] := by intro e; rw [e] at hlt; exact absurd hlt (Nat.not_lt_zero _)
      rcases HK.out with hk | ⟨g, o, hk1, hk2⟩
      · exact absurd hk hne
      subst hk1
      obtain ⟨v0, v1, v2, v3, v4, e0, e1, e2, e3, e4, rk⟩ := hk2 j _ (List.getElem?_eq_getElem hlt)
      clear hk2 HK
      have hg : g < w.heap.size := World.block_lt_of_cell? w _ e0
      have KJ : Hid (∀ w' : World, Below w.heap.size w w' → w'.cell? ⟨g, o + j * 5, none⟩ = some v0 ∧ w'.cell? ⟨g, o + j * 5 + 1, none⟩ = some v1 ∧ w'.cell? ⟨g, o + j * 5 + 2, none⟩ = some v2 ∧ w'.cell? ⟨g, o + j * 5 + 3, none⟩ = some v3 ∧ w'.cell? ⟨g, o + j * 5 + 4, none⟩ = some v4) := fun w' h => ⟨(h.cell (p := ⟨g, o + j * 5, none⟩) hg).trans e0, (h.cell (p := ⟨g, o + j * 5 + 1, none⟩) hg).trans e1, (h.cell (p := ⟨g, o + j * 5 + 2, none⟩) hg).trans e2, (h.cell (p := ⟨g, o + j * 5 + 3, none⟩) hg).trans e3, (h.cell (p := ⟨g, o + j * 5 + 4, none⟩) hg).trans e4⟩
      obtain ⟨y0, y1, y2, y3, y4⟩ := KJ.out wr bw
      clear e0 e1 e2 e3 e4
      have RJ := Lib.hid rk
      clear rk
      go_wp2_with fail
      refine (refValid n ts[j] _ _ _ _ _ wr (Rep.below bw n _ _ RJ.out)).mono ?_
      rintro e w1 ⟨rfl, b1⟩
      have B1 := bw.trans (b1.mono bw.size)
      clear y0 y1 y2 y3 y4
      obtain ⟨y0, y1, y2, y3, y4⟩ := KJ.out w1 B1
      cases hv : vB n ts[j] with
      | false =>
        clear hv
        go_wp2_with fail
        go_ret
        exact ⟨false, rfl, fun h => (by cases h), B1⟩
      | true =>
        have HY' : Hid (∀ k t, k < j + 1 → ts[k]? = some t → vB n t = true) := fun k t hk ht => by
          by_cases e : k = j
          · subst e; rw [List.getElem?_eq_getElem hlt] at ht; rw [← Option.some.inj ht]; exact hv
          · exact HY.out k t (by omega) ht
        clear hv
        go_wp2_with fail
        refine (refParts n ts[j] _ _ _ _ _ w1 (Rep.below B1 n _ _ RJ.out)).mono ?_
        rintro e w2 ⟨rfl, b2⟩
        have B2 := B1.trans (b2.mono B1.size)
        have bd := cnt_bd 16 n ts[j] 1 4096 (by decide) (by decide)
        generalize cnt 16 n ts[j] 1 4096 = C at *
        obtain ⟨q1, q2, q3, q4⟩ := bd
        clear y0 y1 y2 y3 y4
        by_cases hb : 65536 < N + C.1
        · go_wp2_with fail
          go_ret
          exact ⟨false, rfl, fun h => (by cases h), B2⟩
        · go_wp2_with fail
          exact ⟨⟨j + 1, _, by go_num, rfl, by omega, by omega, by omega, B2, HY'.out⟩, by simp [intOf]; omega⟩
    · have hje : j = ts.length := by omega
      subst hje
      have HL : Hid (∀ t ∈ ts, vB n t = true) := fun t ht => by
        obtain ⟨k, hk, rfl⟩ := List.getElem_of_mem ht
        exact HY.out k _ hk (List.getElem?_eq_getElem hk)
      go_wp2_with fail
      go_ret
      exact ⟨true, rfl, fun _ => ⟨HL.out, by omega⟩, bw⟩
end Go.Proofs.YtgpbnmlcfimnnaaDoor
