/- For every list of values, valid or not, the law of Group returns true, with new memory alone; the conditions: the values' trees in memory, the two tables. -/
import Derived.Test.YtgpbnmlcfimnnaaDoorFit
import Derived.Test.YtgpbnmlcfimnnaaDoorRgp
namespace Go.Proofs.YtgpbnmlcfimnnaaDoor
open Go.RowKit
theorem kl_below {n : Nat} {ts : List (Tr n)} {ad : Option Addr} {w w' : World} (h : (ts = [] ∨ ∃ g o, ad = some ⟨g, o, none⟩ ∧ ∀ (j : Nat) (t' : Tr n), ts[j]? = some t' → ∃ v0 v1 v2 v3 v4, w.cell? ⟨g, o + j * 5, none⟩ = some v0 ∧ w.cell? ⟨g, o + j * 5 + 1, none⟩ = some v1 ∧ w.cell? ⟨g, o + j * 5 + 2, none⟩ = some v2 ∧ w.cell? ⟨g, o + j * 5 + 3, none⟩ = some v3 ∧ w.cell? ⟨g, o + j * 5 + 4, none⟩ = some v4 ∧ Rep w n [v0, v1, v2, v3, v4] t')) (hb : Below w.heap.size w w') : (ts = [] ∨ ∃ g o, ad = some ⟨g, o, none⟩ ∧ ∀ (j : Nat) (t' : Tr n), ts[j]? = some t' → ∃ v0 v1 v2 v3 v4, w'.cell? ⟨g, o + j * 5, none⟩ = some v0 ∧ w'.cell? ⟨g, o + j * 5 + 1, none⟩ = some v1 ∧ w'.cell? ⟨g, o + j * 5 + 2, none⟩ = some v2 ∧ w'.cell? ⟨g, o + j * 5 + 3, none⟩ = some v3 ∧ w'.cell? ⟨g, o + j * 5 + 4, none⟩ = some v4 ∧ Rep w' n [v0, v1, v2, v3, v4] t') := by
  rcases h with h | ⟨g, o, h1, h2⟩
  · exact .inl h
  · refine .inr ⟨g, o, h1, fun j t' hj => ?_⟩
    obtain ⟨v0, v1, v2, v3, v4, c0, c1, c2, c3, c4, r⟩ := h2 j t' hj
    have hg : g < w.heap.size := World.block_lt_of_cell? w _ c0
    exact ⟨v0, v1, v2, v3, v4, (hb.cell (p := ⟨g, _, none⟩) hg).trans c0, (hb.cell (p := ⟨g, _, none⟩) hg).trans c1, (hb.cell (p := ⟨g, _, none⟩) hg).trans c2, (hb.cell (p := ⟨g, _, none⟩) hg).trans c3, (hb.cell (p := ⟨g, _, none⟩) hg).trans c4, Rep.below hb n _ _ r⟩
/-- A slice's cells. -/
def Cl (w : World) (a : Option Addr) (xs : List Value) : Prop := ∀ (i : Nat) (u : Value), xs[i]? = some u → ∃ g, a = some ⟨g, 0, none⟩ ∧ w.cell? ⟨g, i, none⟩ = some u
theorem Cl.below {w w' : World} {a : Option Addr} {xs : List Value} (h : Cl w a xs) (hb : Below w.heap.size w w') : Cl w' a xs := fun i u hu => by
  obtain ⟨g, h1, h2⟩ := h i u hu
  exact ⟨g, h1, (hb.cell (p := ⟨g, i, none⟩) (World.block_lt_of_cell? w _ h2)).trans h2⟩
theorem cl_of_own {w : World} {base : Nat} {e : TypeId} {size : Nat} {v : Value} {n : Nat} {xs : List Value} (h : w.ownsRow base e size v n xs) : ∃ a c, v = .slice a n c ∧ Cl w a xs := by
  rcases h.2 with ⟨e, e0⟩ | ⟨g, cap, cur, e1, -⟩
  · refine ⟨none, 0, by rw [e, e0], fun i u hu => ?_⟩
    have hl := h.1
    rw [e0, Nat.zero_mul] at hl
    rw [List.length_eq_zero_iff.1 hl] at hu
    simp at hu
  · refine ⟨_, cap, e1, fun i u hu => ⟨g, rfl, ?_⟩⟩
    have := h.cells (g := g) (by rw [e1]; rfl) i u hu
    have hadd : (⟨g, 0, none⟩ : Addr).add i = ⟨g, i, none⟩ := by unfold Addr.add; split <;> simp_all
    rwa [hadd] at this
theorem cl_nil (w : World) : Cl w none [] := fun i u hu => by simp at hu

/-- The two Groups side by side. -/
theorem both_groups (us : List (Tr 16)) (hn : us.length ≤ 65536) (hrg : ∀ u ∈ us, rgt 16 u = true) (hps : ∀ u ∈ us, (pts 16 u).1 ≤ 4096) (ad : Option Addr) (cap : Nat) (w : World) (hk : (us = [] ∨ ∃ g o, ad = some ⟨g, o, none⟩ ∧ ∀ (j : Nat) (t' : Tr 16), us[j]? = some t' → ∃ v0 v1 v2 v3 v4, w.cell? ⟨g, o + j * 5, none⟩ = some v0 ∧ w.cell? ⟨g, o + j * 5 + 1, none⟩ = some v1 ∧ w.cell? ⟨g, o + j * 5 + 2, none⟩ = some v2 ∧ w.cell? ⟨g, o + j * 5 + 3, none⟩ = some v3 ∧ w.cell? ⟨g, o + j * 5 + 4, none⟩ = some v4 ∧ Rep w 16 [v0, v1, v2, v3, v4] t')) :
    ∃ (N : Nat) (code : Int), N ≤ 65536 ∧ (code = 0 ∨ code = 11) ∧
      (∀ wx, Below w.heap.size w wx → Calls Tryd.prog 19 #[.slice ad us.length cap] wx fun e w' => ∃ a c, e = .returned (.tuple #[.slice a N c, .int .i64 code]) ∧ Cl w' a (plc us N) ∧ Below wx.heap.size wx w') ∧
      (∀ wx, Below w.heap.size w wx → Calls Tryd.prog 20 #[.slice ad us.length cap] wx fun e w' => ∃ a c, e = .returned (.tuple #[.slice a N c, .int .i64 code]) ∧ Cl w' a (plc us N) ∧ Below wx.heap.size wx w') := by
  by_cases hkey : ∀ u ∈ us, keyT 16 u = true
  · refine ⟨us.length, 0, hn, .inl rfl, fun wx hx => ?_, fun wx hx => ?_⟩
    · refine (group_any us ad cap wx hn hrg hps (kl_below hk hx)).mono fun e w' ⟨h1, _, hb⟩ => ?_
      obtain ⟨sl, rfl, own⟩ := h1 hkey
      obtain ⟨a, c, rfl, cl⟩ := cl_of_own own
      exact ⟨a, c, rfl, cl, hb⟩
    · refine (rgroup_any us ad cap wx hn hrg (kl_below hk hx)).mono fun e w' ⟨h1, _, hb⟩ => ?_
      obtain ⟨sl, rfl, own⟩ := h1 hkey
      obtain ⟨a, c, rfl, cl⟩ := cl_of_own own
      exact ⟨a, c, rfl, cl, hb⟩
  · have hno : ∃ u ∈ us, keyT 16 u = false := by
      simp only [Classical.not_forall] at hkey
      obtain ⟨u, hu, hk⟩ := hkey
      exact ⟨u, hu, by simpa using hk⟩
    refine ⟨0, 11, by omega, .inr rfl, fun wx hx => ?_, fun wx hx => ?_⟩
    · exact (group_any us ad cap wx hn hrg hps (kl_below hk hx)).mono fun e w' ⟨_, h2, hb⟩ => ⟨none, 0, h2 hno, cl_nil w', hb⟩
    · exact (rgroup_any us ad cap wx hn hrg (kl_below hk hx)).mono fun e w' ⟨_, h2, hb⟩ => ⟨none, 0, h2 hno, cl_nil w', hb⟩
theorem plc_at (us : List (Tr 16)) (N i : Nat) (h : i < N) : (plc us N)[i]? = some (.int .i64 (refAt us i)) := by simp [plc, h]

set_option maxRecDepth 100000 in
set_option maxHeartbeats 4000000 in
theorem law_groups (n : Nat) (ts : List (Tr n)) (ad : Option Addr) (cap : Nat) (w : World) (hlen : ts.length ≤ maxLen) (hk : (ts = [] ∨ ∃ g o, ad = some ⟨g, o, none⟩ ∧ ∀ (j : Nat) (t' : Tr n), ts[j]? = some t' → ∃ v0 v1 v2 v3 v4, w.cell? ⟨g, o + j * 5, none⟩ = some v0 ∧ w.cell? ⟨g, o + j * 5 + 1, none⟩ = some v1 ∧ w.cell? ⟨g, o + j * 5 + 2, none⟩ = some v2 ∧ w.cell? ⟨g, o + j * 5 + 3, none⟩ = some v3 ∧ w.cell? ⟨g, o + j * 5 + 4, none⟩ = some v4 ∧ Rep w n [v0, v1, v2, v3, v4] t')) (hT : Tab14 w) (hP : Pow0 w) :
    Calls Tryd.prog 5 #[.slice ad ts.length cap] w fun e w' => e = .returned (.bool true) ∧ Below w.heap.size w w' := by
  have HT := Lib.hid hT
  have HP := Lib.hid (Lib.tabBelow_of_tabIs hP)
  have HK := Lib.hid hk
  have HL := Lib.hid hlen
  clear hT hP hk hlen
  have KZ : Hid (∀ wx : World, Below w.heap.size w wx → Calls Tryd.prog 12 #[] wx fun e w' => e = .returned (.bool true) ∧ Below w.heap.size w w') := fun wx hx =>
    (awake_any wx (tab_of_14 (HT.out.below hx)) (HP.out.on hx).here).mono fun e w' ⟨he, hb⟩ => ⟨he, hx.trans (hb.mono hx.size)⟩
  go_enter Tryd.func5, Tryd.ntmps5
  go_wp2_with fail
  refine (fit_any n ts ad cap w HL.out HK.out).mono ?_
  rintro e w1 ⟨b, rfl, hb, b1⟩
  have HB := Lib.hid hb
  clear hb
  cases b with
  | false =>
    go_wp2_with fail
    refine (KZ.out _ b1).mono ?_
    rintro e w3 ⟨rfl, b3⟩
    go_wp2_with fail
    go_ret
    exact ⟨rfl, b3⟩
  | true =>
    obtain ⟨hval, hn⟩ := HB.out rfl
    obtain ⟨us, hl, hrg, hps, hku⟩ := cut_all n ts hval ad w HK.out
    have BG := both_groups us (by omega) hrg hps ad cap w hku
    rw [hl] at BG
    obtain ⟨N, code, hN, hcode, hG, hR⟩ := BG
    have HG := Lib.hid hG
    have HR := Lib.hid hR
    clear hval hl hrg hps hku hG hR
    go_wp2_with fail
    refine (HG.out _ b1).mono ?_
    rintro e w2 ⟨a, c, rfl, cl1, b2⟩
    have B2 := b1.trans (b2.mono b1.size)
    go_wp2_with fail
    refine (HR.out _ B2).mono ?_
    rintro e w3 ⟨a2, c2, rfl, cl2, b3⟩
    have B3 := B2.trans (b3.mono B2.size)
    have cl1' := Lib.hid (cl1.below b3)
    have cl2' := Lib.hid cl2
    clear cl1 cl2 b2 b3 B2 b1
    rcases hcode with rfl | rfl
    all_goals go_wp2_with fail
    all_goals go_loopw [34] (fun si wr => ∃ (i : Nat), si = .int .i64 i ∧ i ≤ N ∧ Below w3.heap.size w3 wr) (fun si _ => N - (intOf si).toNat)
    case atStart => exact ⟨0, rfl, Nat.zero_le _, Below.refl _ _⟩
    case atStart => exact ⟨0, rfl, Nat.zero_le _, Below.refl _ _⟩
    all_goals obtain ⟨i, rfl, hi, bi⟩ := hrel
    all_goals have BI := B3.trans (bi.mono B3.size)
    all_goals by_cases hlt : i < N
    case pos | pos =>
      obtain ⟨g1, rfl, k1⟩ := cl1'.out i _ (plc_at us N i hlt)
      obtain ⟨g2, rfl, k2⟩ := cl2'.out i _ (plc_at us N i hlt)
      have z1 := (bi.cell (p := ⟨g1, i, none⟩) (World.block_lt_of_cell? w3 _ k1)).trans k1
      have z2 := (bi.cell (p := ⟨g2, i, none⟩) (World.block_lt_of_cell? w3 _ k2)).trans k2
      have hii : (0 : Int) ≤ i := by omega
      have hii2 : (i : Int) < N := by omega
      clear k1 k2 cl1' cl2'
      generalize refAt us i = rf at z1 z2
      go_wp2_with fail
      go_region_held3 (fun w' => w'.cell? ⟨g1, i, none⟩ = some (.int .i64 rf) ∧ w'.cell? ⟨g2, i, none⟩ = some (.int .i64 rf)) (go_keep) (fail)
      all_goals go_wp2_with fail
      all_goals exact ⟨⟨i + 1, by go_num, by omega, bi.drew⟩, by simp [intOf]; omega⟩
    case neg | neg =>
      have hie : i = N := by omega
      subst hie
      go_wp2_with fail
      refine (KZ.out _ BI).mono ?_
      rintro e w4 ⟨rfl, b4⟩
      go_wp2_with fail
      go_ret
      exact ⟨rfl, b4⟩
end Go.Proofs.YtgpbnmlcfimnnaaDoor
