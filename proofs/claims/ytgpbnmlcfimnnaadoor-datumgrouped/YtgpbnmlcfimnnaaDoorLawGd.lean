/- For every list of values, valid or not, the law of groups and equality returns true, with new memory alone; the conditions: the values' trees in memory, the two tables. -/
import Derived.Test.YtgpbnmlcfimnnaaDoorFit
import Derived.Test.YtgpbnmlcfimnnaaDoorGroup
namespace Go.Proofs.YtgpbnmlcfimnnaaDoor
open Go.RowKit
theorem kl_below {n : Nat} {ts : List (Tr n)} {ad : Option Addr} {w w' : World} (h : (ts = [] ∨ ∃ g o, ad = some ⟨g, o, none⟩ ∧ ∀ (j : Nat) (t' : Tr n), ts[j]? = some t' → ∃ v0 v1 v2 v3 v4, w.cell? ⟨g, o + j * 5, none⟩ = some v0 ∧ w.cell? ⟨g, o + j * 5 + 1, none⟩ = some v1 ∧ w.cell? ⟨g, o + j * 5 + 2, none⟩ = some v2 ∧ w.cell? ⟨g, o + j * 5 + 3, none⟩ = some v3 ∧ w.cell? ⟨g, o + j * 5 + 4, none⟩ = some v4 ∧ Rep w n [v0, v1, v2, v3, v4] t')) (hb : Below w.heap.size w w') : (ts = [] ∨ ∃ g o, ad = some ⟨g, o, none⟩ ∧ ∀ (j : Nat) (t' : Tr n), ts[j]? = some t' → ∃ v0 v1 v2 v3 v4, w'.cell? ⟨g, o + j * 5, none⟩ = some v0 ∧ w'.cell? ⟨g, o + j * 5 + 1, none⟩ = some v1 ∧ w'.cell? ⟨g, o + j * 5 + 2, none⟩ = some v2 ∧ w'.cell? ⟨g, o + j * 5 + 3, none⟩ = some v3 ∧ w'.cell? ⟨g, o + j * 5 + 4, none⟩ = some v4 ∧ Rep w' n [v0, v1, v2, v3, v4] t') := by
  rcases h with h | ⟨g, o, h1, h2⟩
  · exact .inl h
  · refine .inr ⟨g, o, h1, fun j t' hj => ?_⟩
    obtain ⟨v0, v1, v2, v3, v4, c0, c1, c2, c3, c4, r⟩ := h2 j t' hj
    have hg : g < w.heap.size := World.block_lt_of_cell? w _ c0
    exact ⟨v0, v1, v2, v3, v4, (hb.cell (p := ⟨g, _, none⟩) hg).trans c0, (hb.cell (p := ⟨g, _, none⟩) hg).trans c1, (hb.cell (p := ⟨g, _, none⟩) hg).trans c2, (hb.cell (p := ⟨g, _, none⟩) hg).trans c3, (hb.cell (p := ⟨g, _, none⟩) hg).trans c4, Rep.below hb n _ _ r⟩
/-- A slice's cells. -/
def Cl (w : World) (a : Option Addr) (xs : List Value) : Prop := ∀ (i : Nat) (u : Value), xs[i]? = some u → ∃ g, a = some ⟨g, 0, none⟩ ∧ w.cell? ⟨g, i, none⟩ = some u
theorem Cl.below {w w' : World} {a : Option Addr} {xs : List Value} (h : Cl w a xs) (hb : Below w.heap.size w w') : Cl w' a xs := fun i u hu => by
  obtain ⟨g, h1, h2⟩ := h i u hu
  exact ⟨g, h1, (hb.cell (p := ⟨g, i, none⟩) (World.block_lt_of_cell? w _ h2)).trans h2⟩
theorem cl_of_own {w : World} {base : Nat} {e : TypeId} {size : Nat} {v : Value} {n : Nat} {xs : List Value} (h : w.ownsRow base e size v n xs) : ∃ a c, v = .slice a n c ∧ Cl w a xs := by
  rcases h.2 with ⟨e, e0⟩ | ⟨g, cap, cur, e1, -⟩
  · refine ⟨none, 0, by rw [e, e0], fun i u hu => ?_⟩
    have hl := h.1
    rw [e0, Nat.zero_mul] at hl
    rw [List.length_eq_zero_iff.1 hl] at hu
    simp at hu
  · refine ⟨_, cap, e1, fun i u hu => ⟨g, rfl, ?_⟩⟩
    have := h.cells (g := g) (by rw [e1]; rfl) i u hu
    have hadd : (⟨g, 0, none⟩ : Addr).add i = ⟨g, i, none⟩ := by unfold Addr.add; split <;> simp_all
    rwa [hadd] at this
theorem cl_nil (w : World) : Cl w none [] := fun i u hu => by simp at hu

theorem plc_at (us : List (Tr 16)) (N i : Nat) (h : i < N) : (plc us N)[i]? = some (.int .i64 (refAt us i)) := by simp [plc, h]

theorem refAt_le (ts : List (Tr 16)) (i : Nat) : refAt ts i ≤ i := by
  rcases down_spec (fun k => eqB ts k i) i i with ⟨h, -⟩ | ⟨h, -⟩
  · exact Nat.le_of_eq h
  · exact Nat.le_of_lt h
theorem refAt_idem (ts : List (Tr 16)) (i : Nat) : refAt ts (refAt ts i) = refAt ts i := by
  rcases down_spec (fun k => eqB ts k i) i i with ⟨h, -⟩ | ⟨d1, d2, d3⟩
  · have e : refAt ts i = i := h
    rw [e, e]
  · rcases down_spec (fun k => eqB ts k (refAt ts i)) (refAt ts i) (refAt ts i) with ⟨e1, -⟩ | ⟨e1, e2, -⟩
    · exact e1
    · have := eqB_trans ts _ _ _ e2 d2
      rw [d3 _ e1] at this; cases this
theorem refAt_same (ts : List (Tr 16)) (i k : Nat) (hk : k < i) : eqB ts i k = (refAt ts i == refAt ts k) := by
  have Di := down_spec (fun k => eqB ts k i) i i
  have Dk := down_spec (fun j => eqB ts j k) k k
  have ei : down (fun k => eqB ts k i) i i = refAt ts i := rfl
  have ek : down (fun j => eqB ts j k) k k = refAt ts k := rfl
  rw [ei] at Di
  rw [ek] at Dk
  have lk := refAt_le ts k
  cases h : eqB ts i k with
  | true =>
    have h' := eqB_sym ts _ _ h
    have e : refAt ts i = refAt ts k := by
      rcases Di with ⟨d1, d2⟩ | ⟨d1, d2, d3⟩
      · rw [d2 k hk] at h'; cases h'
      · rcases Dk with ⟨c1, c2⟩ | ⟨c1, c2, c3⟩
        · rw [c1]
          by_cases l1 : refAt ts i < k
          · have := eqB_trans ts _ _ _ d2 h
            rw [c2 _ l1] at this; cases this
          · by_cases l2 : k < refAt ts i
            · rw [d3 k l2] at h'; cases h'
            · omega
        · have mi := eqB_trans ts _ _ _ c2 h'
          by_cases l1 : refAt ts i < refAt ts k
          · have := eqB_trans ts _ _ _ d2 h
            rw [c3 _ l1] at this; cases this
          · by_cases l2 : refAt ts k < refAt ts i
            · rw [d3 _ l2] at mi; cases mi
            · omega
    rw [e]; simp
  | false =>
    have hne : refAt ts i ≠ refAt ts k := fun e => by
      rcases Di with ⟨d1, -⟩ | ⟨d1, d2, -⟩
      · omega
      · rw [e] at d2
        rcases Dk with ⟨c1, -⟩ | ⟨c1, c2, -⟩
        · rw [c1] at d2
          rw [eqB_sym ts _ _ d2] at h; cases h
        · have := eqB_trans ts _ _ _ (eqB_sym ts _ _ d2) c2
          rw [this] at h; cases h
    simp [hne]

set_option maxRecDepth 100000 in
set_option maxHeartbeats 4000000 in
theorem law_grouped (n : Nat) (ts : List (Tr n)) (ad : Option Addr) (cap : Nat) (w : World) (hlen : ts.length ≤ maxLen) (hk : (ts = [] ∨ ∃ g o, ad = some ⟨g, o, none⟩ ∧ ∀ (j : Nat) (t' : Tr n), ts[j]? = some t' → ∃ v0 v1 v2 v3 v4, w.cell? ⟨g, o + j * 5, none⟩ = some v0 ∧ w.cell? ⟨g, o + j * 5 + 1, none⟩ = some v1 ∧ w.cell? ⟨g, o + j * 5 + 2, none⟩ = some v2 ∧ w.cell? ⟨g, o + j * 5 + 3, none⟩ = some v3 ∧ w.cell? ⟨g, o + j * 5 + 4, none⟩ = some v4 ∧ Rep w n [v0, v1, v2, v3, v4] t')) (hT : Tab w) (hP : Pow0 w) :
    Calls Tryd.prog 7 #[.slice ad ts.length cap] w fun e w' => e = .returned (.bool true) ∧ Below w.heap.size w w' := by
  have HT := Lib.hid hT
  have HP := Lib.hid (Lib.tabBelow_of_tabIs hP)
  have HK := Lib.hid hk
  have HL := Lib.hid hlen
  clear hT hP hk hlen
  have KZ : Hid (∀ wx : World, Below w.heap.size w wx → Calls Tryd.prog 12 #[] wx fun e w' => e = .returned (.bool true) ∧ Below w.heap.size w w') := fun wx hx =>
    (awake_any wx (HT.out.below hx) (HP.out.on hx).here).mono fun e w' ⟨he, hb⟩ => ⟨he, hx.trans (hb.mono hx.size)⟩
  by_cases h60 : 60 < ts.length
  · go_enter Tryd.func7, Tryd.ntmps7
    go_wp2_with fail
    refine (KZ.out _ (Below.refl _ _)).mono ?_
    rintro e w3 ⟨rfl, b3⟩
    go_wp2_with fail
    go_ret
    exact ⟨rfl, b3⟩
  go_enter Tryd.func7, Tryd.ntmps7
  go_wp2_with fail
  refine (fit_any n ts ad cap w HL.out HK.out).mono ?_
  rintro e w1 ⟨b, rfl, hb, b1⟩
  have HB := Lib.hid hb
  clear hb
  cases b with
  | false =>
    go_wp2_with fail
    refine (KZ.out _ b1).mono ?_
    rintro e w3 ⟨rfl, b3⟩
    go_wp2_with fail
    go_ret
    exact ⟨rfl, b3⟩
  | true =>
    obtain ⟨hval, hn⟩ := HB.out rfl
    obtain ⟨us, hl, hrg, hps, hku⟩ := cut_all n ts hval ad w HK.out
    have hku1 := kl_below hku b1
    by_cases hkey : ∀ u ∈ us, keyT 16 u = true
    case neg =>
      have hno : ∃ u ∈ us, keyT 16 u = false := by
        simp only [Classical.not_forall] at hkey
        obtain ⟨u, hu, hk⟩ := hkey
        exact ⟨u, hu, by simpa using hk⟩
      have KG : Hid (Calls Tryd.prog 19 #[.slice ad ts.length cap] w1 fun e w' => e = .returned (.tuple #[.slice none 0 0, .int .i64 11]) ∧ Below w1.heap.size w1 w') := by
        rw [← hl]
        exact (group_any us ad cap w1 (by omega) hrg hps hku1).mono fun e w' ⟨_, h2, hb⟩ => ⟨h2 hno, hb⟩
      clear hval hl hrg hps hku hku1 hkey hno
      go_wp2_with fail
      refine KG.out.mono ?_
      rintro e w2 ⟨rfl, b2⟩
      have B2 := b1.trans (b2.mono b1.size)
      go_wp2_with fail
      refine (KZ.out _ B2).mono ?_
      rintro e w3 ⟨rfl, b3⟩
      go_wp2_with fail
      go_ret
      exact ⟨rfl, b3⟩
    have KG : Hid (Calls Tryd.prog 19 #[.slice ad ts.length cap] w1 fun e w' => ∃ a c, e = .returned (.tuple #[.slice a ts.length c, .int .i64 0]) ∧ Hid (Cl w' a (plc us ts.length)) ∧ Below w1.heap.size w1 w') := by
      rw [← hl]
      refine (group_any us ad cap w1 (by omega) hrg hps hku1).mono fun e w' ⟨h1, _, hb⟩ => ?_
      obtain ⟨sl, rfl, own⟩ := h1 hkey
      obtain ⟨a, c, rfl, cl⟩ := cl_of_own own
      exact ⟨a, c, rfl, cl, hb⟩
    have HU := Lib.hid (And.intro hl (And.intro hrg (And.intro hps (And.intro hku hkey))))
    clear hval hl hrg hps hku hku1 hkey
    go_wp2_with fail
    refine KG.out.mono ?_
    rintro e w2 ⟨a, c, rfl, cl, b2⟩
    have B2 := b1.trans (b2.mono b1.size)
    clear b2 b1 KG HB
    go_wp2_with fail
    go_loopw [38] (fun si wr => ∃ (i : Nat), si = .int .i64 i ∧ i ≤ ts.length ∧ Below w2.heap.size w2 wr) (fun si _ => ts.length - (intOf si).toNat)
    case atStart => exact ⟨0, rfl, Nat.zero_le _, Below.refl _ _⟩
    case round =>
      obtain ⟨i, rfl, hi, bi⟩ := hrel
      have BI := B2.trans (bi.mono B2.size)
      by_cases hlt : i < ts.length
      · obtain ⟨g1, rfl, k0⟩ := cl.out i _ (plc_at us ts.length i hlt)
        have hg1 : g1 < w2.heap.size := World.block_lt_of_cell? w2 _ k0
        have CG : Hid (∀ (q : Nat) (w' : World), q < ts.length → Below w2.heap.size w2 w' → w'.cell? ⟨g1, q, none⟩ = some (.int .i64 (refAt us q))) := fun q w' hq hb => by
          obtain ⟨g2, e, k1⟩ := cl.out q _ (plc_at us ts.length q hq)
          have e' : g1 = g2 := by simpa using e
          subst e'
          exact (hb.cell (p := ⟨g1, q, none⟩) hg1).trans k1
        clear k0
        have hrl := refAt_le us i
        have hri := refAt_idem us i
        have c1 := CG.out i wr hlt bi
        have c2 := CG.out (refAt us i) wr (by omega) bi
        rw [hri] at c2
        have HC : Hid (∀ (k : Nat) (hk : k < i), (eqT 16 16 (us[i]'(by have := HU.out.1; omega)) (us[k]'(by have := HU.out.1; omega))) = (((refAt us i : Nat) : Int) == ((refAt us k : Nat) : Int), 0)) := fun k hk => by
          obtain ⟨e1, -, -, -, e5⟩ := HU.out
          have hiu : i < us.length := by omega
          have hku : k < us.length := by omega
          have q1 := key_code 16 16 us[i] us[k] (e5 _ (List.getElem_mem hiu)) (e5 _ (List.getElem_mem hku))
          have q2 := refAt_same us i k hk
          simp only [eqB, List.getElem?_eq_getElem hiu, List.getElem?_eq_getElem hku] at q2
          refine Prod.ext ?_ q1
          rw [q2]
          by_cases e : refAt us i = refAt us k
          · simp [e]
          · have e' : ¬ ((refAt us i : Nat) : Int) = ((refAt us k : Nat) : Int) := by omega
            rw [beq_eq_false_iff_ne.2 e, beq_eq_false_iff_ne.2 e']
        have HRi : Hid (∀ (k : Nat) (w' : World), k < i → Below w2.heap.size w2 w' → w'.cell? ⟨g1, i, none⟩ = some (.int .i64 (refAt us i)) ∧ w'.cell? ⟨g1, k, none⟩ = some (.int .i64 (refAt us k))) := fun k w' hk hb => ⟨CG.out i w' hlt hb, CG.out k w' (by omega) hb⟩
        generalize refAt us i = r at hrl c1 c2 HC HRi
        have h0 : ¬ ((r : Int) < 0) := by omega
        have h0' : (0 : Int) ≤ r := by omega
        have h1 : ¬ ((i : Int) < (r : Int)) := by omega
        have h2 : (r : Int) < ts.length := by omega
        have hb1 : decide (i < r) = false := by simpa using hrl
        have hb2 : ¬ i < r := by omega
        have h3 : (0 : Int) ≤ i := by omega
        have h4 : (i : Int) < ts.length := by omega
        clear hri
        go_wp2_with fail
        go_region_held3 (fun w' => w'.cell? ⟨g1, i, none⟩ = some (.int .i64 r) ∧ w'.cell? ⟨g1, r, none⟩ = some (.int .i64 r)) (go_keep) (fail)
        clear c1 c2
        have bd := bi.drew
        go_wp2_with fail
        go_loopw [69] (fun sk wq => ∃ (k : Nat), sk = .int .i64 k ∧ k ≤ i ∧ Below w2.heap.size w2 wq) (fun sk _ => i - (intOf sk).toNat)
        case atStart => exact ⟨0, rfl, Nat.zero_le _, bd⟩
        case round =>
          obtain ⟨k, rfl, hk, bk⟩ := hrel
          have BK := B2.trans (bk.mono B2.size)
          by_cases hkl : k < i
          · obtain ⟨u1, u2, u3, u4, u5⟩ := HU.out
            have hiu : i < us.length := by omega
            have hku : k < us.length := by omega
            rcases u4 with u4 | ⟨g, o, u6, u7⟩
            · rw [u4] at hiu; exact absurd hiu (Nat.not_lt_zero _)
            subst u6
            obtain ⟨v0, v1, v2, v3, v4, e0, e1, e2, e3, e4, rk⟩ := u7 i _ (List.getElem?_eq_getElem hiu)
            obtain ⟨x0, x1, x2, x3, x4, f0, f1, f2, f3, f4, rq⟩ := u7 k _ (List.getElem?_eq_getElem hku)
            have hg : g < w.heap.size := World.block_lt_of_cell? w _ e0
            have KS : Hid (∀ w' : World, Below w2.heap.size w2 w' → w'.cell? ⟨g, o + i * 5, none⟩ = some v0 ∧ w'.cell? ⟨g, o + i * 5 + 1, none⟩ = some v1 ∧ w'.cell? ⟨g, o + i * 5 + 2, none⟩ = some v2 ∧ w'.cell? ⟨g, o + i * 5 + 3, none⟩ = some v3 ∧ w'.cell? ⟨g, o + i * 5 + 4, none⟩ = some v4 ∧ w'.cell? ⟨g, o + k * 5, none⟩ = some x0 ∧ w'.cell? ⟨g, o + k * 5 + 1, none⟩ = some x1 ∧ w'.cell? ⟨g, o + k * 5 + 2, none⟩ = some x2 ∧ w'.cell? ⟨g, o + k * 5 + 3, none⟩ = some x3 ∧ w'.cell? ⟨g, o + k * 5 + 4, none⟩ = some x4) := fun w' h => by
              have hw := B2.trans (h.mono B2.size)
              exact ⟨(hw.cell (p := ⟨g, o + i * 5, none⟩) hg).trans e0, (hw.cell (p := ⟨g, o + i * 5 + 1, none⟩) hg).trans e1, (hw.cell (p := ⟨g, o + i * 5 + 2, none⟩) hg).trans e2, (hw.cell (p := ⟨g, o + i * 5 + 3, none⟩) hg).trans e3, (hw.cell (p := ⟨g, o + i * 5 + 4, none⟩) hg).trans e4, (hw.cell (p := ⟨g, o + k * 5, none⟩) hg).trans f0, (hw.cell (p := ⟨g, o + k * 5 + 1, none⟩) hg).trans f1, (hw.cell (p := ⟨g, o + k * 5 + 2, none⟩) hg).trans f2, (hw.cell (p := ⟨g, o + k * 5 + 3, none⟩) hg).trans f3, (hw.cell (p := ⟨g, o + k * 5 + 4, none⟩) hg).trans f4⟩
            have KC : Hid (∀ wx : World, Below w2.heap.size w2 wx → Calls Tryd.prog 14 #[.agg #[v0, v1, v2, v3, v4], .agg #[x0, x1, x2, x3, x4]] wx fun e w' => e = .returned (.tuple #[.bool ((r : Int) == ((refAt us k : Nat) : Int)), .int .i64 0]) ∧ Below w2.heap.size w2 w') := fun wx hx => by
              have hw := B2.trans (hx.mono B2.size)
              refine (dequal_any 16 16 us[i] us[k] _ _ _ _ _ _ _ _ _ _ wx (by decide) (u2 _ (List.getElem_mem hiu)) (u2 _ (List.getElem_mem hku)) (u3 _ (List.getElem_mem hiu)) (u3 _ (List.getElem_mem hku)) (Rep.below hw 16 _ _ rk) (Rep.below hw 16 _ _ rq)).mono fun e w' ⟨he, hb⟩ => ⟨?_, hx.trans (hb.mono hx.size)⟩
              rw [he, HC.out k hkl]
            have KR : Hid (∀ w' : World, Below w2.heap.size w2 w' → w'.cell? ⟨g1, i, none⟩ = some (.int .i64 r) ∧ w'.cell? ⟨g1, k, none⟩ = some (.int .i64 (refAt us k))) := fun w' h => HRi.out k w' hkl h
            generalize refAt us k = rk' at KC KR
            have h5 : (0 : Int) ≤ k := by omega
            have h6 : (k : Int) < ts.length := by omega
            clear e0 e1 e2 e3 e4 f0 f1 f2 f3 f4 u7 u1 u2 u3 u5 rk rq
            go_wp2_with fail
            go_region_held3 (fun w' => w'.cell? ⟨g, o + i * 5, none⟩ = some v0 ∧ w'.cell? ⟨g, o + i * 5 + 1, none⟩ = some v1 ∧ w'.cell? ⟨g, o + i * 5 + 2, none⟩ = some v2 ∧ w'.cell? ⟨g, o + i * 5 + 3, none⟩ = some v3 ∧ w'.cell? ⟨g, o + i * 5 + 4, none⟩ = some v4 ∧ w'.cell? ⟨g, o + k * 5, none⟩ = some x0 ∧ w'.cell? ⟨g, o + k * 5 + 1, none⟩ = some x1 ∧ w'.cell? ⟨g, o + k * 5 + 2, none⟩ = some x2 ∧ w'.cell? ⟨g, o + k * 5 + 3, none⟩ = some x3 ∧ w'.cell? ⟨g, o + k * 5 + 4, none⟩ = some x4) (first | (refine KS.out _ ?_; with_reducible assumption) | exact KS.out _ (Below.drew bk)) ((go_at_call 14; refine (KC.out _ (by first | with_reducible assumption | exact Below.drew bk)).mono ?_; rintro e w5 ⟨rfl, b5⟩))
            all_goals go_wp2_with fail
            all_goals go_region_held3 (fun w' => w'.cell? ⟨g1, i, none⟩ = some (.int .i64 r) ∧ w'.cell? ⟨g1, k, none⟩ = some (.int .i64 rk')) (first | (refine KR.out _ ?_; with_reducible assumption) | exact KR.out _ (Below.drew b5)) (fail)
            all_goals go_wp2_with fail
            all_goals exact ⟨⟨k + 1, by go_num, by omega, b5.drew⟩, by simp [intOf]; omega⟩
          · have hke : k = i := by omega
            subst hke
            go_wp2_with fail
            exact ⟨⟨k + 1, by go_num, by omega, bk⟩, by simp [intOf]; omega⟩
      · have hie : i = ts.length := by omega
        subst hie
        go_wp2_with fail
        refine (KZ.out _ BI).mono ?_
        rintro e w4 ⟨rfl, b4⟩
        go_wp2_with fail
        go_ret
        exact ⟨rfl, b4⟩
end Go.Proofs.YtgpbnmlcfimnnaaDoor
