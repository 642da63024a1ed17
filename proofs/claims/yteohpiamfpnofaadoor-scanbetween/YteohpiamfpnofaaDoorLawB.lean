/- The law ScanBetween at every text; what is asked of the world: the bytes lie in memory, and the package's variables as their text lays them. -/
import Derived.Test.YteohpiamfpnofaaDoorSq
import Derived.Test.YteohpiamfpnofaaDoorSx
namespace Go.Proofs.YteohpiamfpnofaaDoor
open Go.RowKit Go.Maps

theorem ans_err : ∀ (f : Nat) (r : Bs) (p : Nat) (acc : List Tok) (q e : Nat), r.length ≤ f → ans r p acc = .inl (q, e) → 0 < e ∧ e < 100 := by
  intro f
  induction f with
  | zero =>
    intro r p acc q e hr h
    obtain rfl : r = [] := List.length_eq_zero_iff.1 (by omega)
    rw [ans_nil] at h; cases h
  | succ f ih =>
    intro r p acc q e hr h
    by_cases h0 : r = []
    · subst h0; rw [ans_nil] at h; cases h
    · cases e0 : skip r with
      | none => rw [ans_gap e0] at h; cases h; omega
      | some k =>
        cases k with
        | succ k =>
          have hk := skip_le _ _ e0
          rw [ans_skip e0] at h
          exact ih _ _ _ _ _ (by simp; omega) h
        | zero =>
          cases e1 : one r with
          | inl x =>
            rw [ans_bad h0 e0 e1] at h
            have := one_bad e1
            simp only [Sum.inl.injEq, Prod.mk.injEq] at h
            obtain ⟨h1, h2⟩ := h
            split at h2 <;> omega
          | inr qq4 =>
            obtain ⟨k, n, v, s⟩ := qq4
            have hn := one_len _ _ _ _ _ e1
            rw [ans_tok e0 e1] at h
            split at h
            · cases h; omega
            · exact ih _ _ _ _ _ (by simp; omega) h
theorem scan_err {l : Bs} {q e : Nat} (h : scan l = .inl (q, e)) : 0 < e ∧ e < 100 := by
  unfold scan at h
  split at h
  · cases h; omega
  · exact ans_err _ _ _ _ _ _ (Nat.le_refl _) h

/-- No tokens: the slice. -/
theorem toks_nil {W : World} {B : Nat} {v : Value} (h : Toks W B v []) : ∃ a c, v = .slice a 0 c := by
  obtain ⟨_, ⟨rfl, _⟩ | ⟨g, cap, cur, rfl, _⟩⟩ := h
  · exact ⟨_, _, rfl⟩
  · exact ⟨_, _, rfl⟩
theorem toks_slice {W : World} {B : Nat} {v : Value} {l : List Tok} (h : Toks W B v l) : ∃ a c, v = .slice a l.length c ∧ (l ≠ [] → ∃ g, a = some ⟨g, 0, none⟩) := by
  obtain ⟨_, ⟨rfl, h2⟩ | ⟨g, cap, cur, rfl, _⟩⟩ := h
  · have := List.length_eq_zero_iff.1 h2
    subst this
    exact ⟨_, _, rfl, fun h => absurd rfl h⟩
  · exact ⟨_, _, rfl, fun _ => ⟨g, rfl⟩⟩

theorem slice_run (a : Option Addr) (l : Bs) (c p e : Nat) (hc : l.length ≤ c) (hA : l = [] ∨ ∃ b o, a = some ⟨b, o, none⟩) (h1 : p ≤ e) (h2 : e ≤ l.length) :
    ∃ A, (∀ W, (Instr.slice 35 (.slice a l.length c) (some (.int .i64 (p : Nat))) (some (.int .i64 (e : Nat))) none).run Tryd.prog W = .ok (.slice A (e - p) (c - p)) W) ∧ (e = p ∨ ∃ b o, a = some ⟨b, o, none⟩ ∧ A = some ⟨b, o + p, none⟩) := by
  have ht' : Tryd.prog.underlying 35 = some (.slice (Tryd.prog.elem 35)) := by kernel_rfl
  have he : Tryd.prog.elem 35 = 5 := by kernel_rfl
  have hz : ∀ w, (Go.sizeOf 5).run Tryd.prog w = .ok 1 w := fun w => by kernel_rfl
  refine ⟨if c = p then a else a.map (·.add p), fun W => ?_, ?_⟩
  · rw [run_slice_lh W 35 _ _ _ ht' .i64 .i64 _ _ (by omega) (by omega) (by omega), he, hz]
    simp [Result.andThen, sliced]
  · by_cases hep : e = p
    · exact .inl hep
    · right
      rcases hA with rfl | ⟨b, o, rfl⟩
      · simp at h2; omega
      · refine ⟨b, o, rfl, ?_⟩
        rw [if_neg (by omega)]
        simp [WideShapes.add_plain]

set_option maxRecDepth 100000 in
set_option maxHeartbeats 4000000 in
theorem law_between {w : World} (a : Option Addr) (l : Bs) (c : Nat) (hS : Src w a l c) (_ : a = none → c = 0) (hm : l.length ≤ 140737488351232) (hv : Sv w) : Calls Tryd.prog 8 #[.slice a l.length c] w fun e w' => e = .returned (.bool true) ∧ Below w.heap.size w w' := by
  have KE : Hid (∀ W, Below w.heap.size w W → Calls Tryd.prog 18 #[] W fun e w' => e = .returned (.bool true) ∧ Below w.heap.size w w') := fun W h => (awake_any W (hv.below h (Nat.le_refl _))).mono fun e w' ⟨h1, h2⟩ => ⟨h1, h.trans (h2.mono h.size)⟩
  have KA := Lib.hid (scan_all a l c w hS (by omega) hv)
  cases hR : scan l with
  | inl qq2 =>
    obtain ⟨q, er⟩ := qq2
    have hq := scan_bad_le hR
    have he := scan_err hR
    have KA2 : Hid (Calls Tryd.prog 16 #[.slice a l.length c] w fun e w' => Below w.heap.size w w' ∧ e = .returned (.tuple #[.slice none 0 0, .agg #[.int .i64 q, .int .i64 er]])) := by
      have := KA.out
      rw [hR] at this
      exact this.mono fun e w' ⟨h1, h2⟩ => ⟨h1, h2⟩
    have q1 : ((er : Int) != 0) = true := by simp; omega
    have q2 : ((er : Int) == 0) = false := by simp; omega
    have q3 : (0 : Int) ≤ (q : Int) := by omega
    have q4 : (q : Int) ≤ (l.length : Int) := by omega
    clear KA hR hv hS he
    generalize l.length = n at *
    go_enter Tryd.func8, Tryd.ntmps8
    go_wp2_with fail
    refine KA2.out.mono ?_
    rintro e w2 ⟨b2, rfl⟩
    have HB2 := Lib.hid b2
    have HB3 := Lib.hid (fun ob => KE.out (w2.alloc ob) (b2.alloc b2.size ob))
    clear b2 KE
    go_wp2_with fail
    refine (HB3.out _).mono ?_
    rintro e w3 ⟨rfl, b3⟩
    go_wp2_with fail
    go_ret
    exact ⟨rfl, b3⟩
  | inr ts =>
    obtain ⟨h65, hch, htl⟩ := scan_good hR
    have KA2 : Hid (Calls Tryd.prog 16 #[.slice a l.length c] w fun e w' => Below w.heap.size w w' ∧ ∃ v, e = .returned (.tuple #[v, .agg #[.int .i64 0, .int .i64 0]]) ∧ Toks w' w.heap.size v ts) := by
      have := KA.out
      rw [hR] at this
      exact this.mono fun e w' ⟨h1, h2⟩ => ⟨h1, h2⟩
    have HC := Lib.hid hch
    have KP : Hid (∀ (A : Option Addr) (p e : Nat) (W : World), Below w.heap.size w W → p ≤ e → e ≤ l.length → (e = p ∨ ∃ b o, a = some ⟨b, o, none⟩ ∧ A = some ⟨b, o + p, none⟩) → Gapl ((l.drop p).take (e - p)) → Calls Tryd.prog 16 #[.slice A (e - p) (c - p)] W fun e w' => Below W.heap.size W w' ∧ ∃ a2 c2, e = .returned (.tuple #[.slice a2 0 c2, .agg #[.int .i64 0, .int .i64 0]])) := fun A p e W hW h1 h2 h3 h4 => by
      have hlen : ((l.drop p).take (e - p)).length = e - p := by simp; omega
      have hcc := hS.1
      have hSrc : Src W A ((l.drop p).take (e - p)) (c - p) := by
        refine ⟨by rw [hlen]; omega, ?_⟩
        rcases h3 with rfl | ⟨b, o, h5, rfl⟩
        · left; simp
        · by_cases h0 : e = p
          · left; subst h0; simp
          · right
            refine ⟨b, o + p, rfl, ?_⟩
            rcases (hS.below hW (Nat.le_refl _)).2 with h6 | ⟨b', o', h7, h8⟩
            · rw [h6] at h2; simp at h2; omega
            · rw [h5] at h7; cases h7
              exact (h8.drop p).take _
      have := scan_all A _ (c - p) W hSrc (by rw [hlen]; omega) (hv.below hW (Nat.le_refl _))
      rw [gapl_scan h4 (by rw [hlen]; omega), hlen] at this
      refine this.mono ?_
      rintro e w' ⟨h6, v, h7, h8⟩
      obtain ⟨a2, c2, rfl⟩ := toks_nil h8
      exact ⟨h6, a2, c2, h7⟩
    have KS : Hid (∀ (p e : Nat), p ≤ e → e ≤ l.length → ∃ A, (∀ W, (Instr.slice 35 (.slice a l.length c) (some (.int .i64 (p : Nat))) (some (.int .i64 (e : Nat))) none).run Tryd.prog W = .ok (.slice A (e - p) (c - p)) W) ∧ (e = p ∨ ∃ b o, a = some ⟨b, o, none⟩ ∧ A = some ⟨b, o + p, none⟩)) := fun p e h1 h2 => slice_run a l c p e hS.1 (hS.2.elim .inl fun ⟨b, o, h, _⟩ => .inr ⟨b, o, h⟩) h1 h2
    clear KA hR hv hS hch
    obtain ⟨n, hN⟩ : ∃ n, l.length = n := ⟨_, rfl⟩
    have HN := Lib.hid hN
    rw [hN] at KA2 KP KS h65 hm ⊢
    clear hN
    go_enter Tryd.func8, Tryd.ntmps8
    go_wp2_with fail
    refine KA2.out.mono ?_
    rintro e w2 ⟨b2, v, rfl, ht⟩
    obtain ⟨av, cv, rfl, hav⟩ := toks_slice ht
    have HT := Lib.hid ht
    have HB2 := Lib.hid (b2.alloc b2.size (.cells #[.int .i64 0, .int .i64 0] 38))
    have HB1 := Lib.hid (below1 w2 (.cells #[.int .i64 0, .int .i64 0] 38))
    clear b2 ht KA2
    go_wp2_with fail
    go_loopg [5, 6] (ts.length + 1) (fun gk s5 s6 wx => ∃ (j at' : Nat), j + gk = ts.length + 1 ∧ s6 = .int .i64 j ∧ s5 = .int .i64 at' ∧ (j ≤ ts.length → Chain (l.drop at') at' (ts.drop j) ∧ at' ≤ n) ∧ Below (w2.alloc (.cells #[.int .i64 0, .int .i64 0] 38)).heap.size (w2.alloc (.cells #[.int .i64 0, .int .i64 0] 38)) wx)
    case atStart => exact ⟨0, 0, by omega, rfl, rfl, fun _ => ⟨by simpa using HC.out, Nat.zero_le _⟩, Below.refl _ _⟩
    case round =>
      obtain ⟨j, at', hjg, rfl, rfl, hq, hbw⟩ := hrel
      have HW := Lib.hid hbw
      have hT := Lib.hid (owns_held (HT.out.alloc _) hbw)
      have HBW := Lib.hid (HB2.out.trans (hbw.mono HB2.out.size))
      clear hbw HC
      cases gk with
      | zero =>
        have hj : ¬ (j : Int) ≤ (ts.length : Int) := by omega
        clear hq
        go_wp2_with fail
        refine (KE.out _ HBW.out).mono ?_
        rintro e w4 ⟨rfl, b4⟩
        go_wp2_with fail
        go_ret
        exact ⟨rfl, b4⟩
      | succ gq =>
        obtain ⟨hch, hat⟩ := hq (by omega)
        have hj1 : (j : Int) ≤ (ts.length : Int) := by omega
        by_cases hjt : j = ts.length
        · subst hjt
          rw [List.drop_eq_nil_of_le (Nat.le_refl _)] at hch
          have HG : Hid (Gapl ((l.drop at').take (n - at'))) := by
            show Gapl _
            rw [List.take_of_length_le (by rw [List.length_drop, HN.out]; exact Nat.le_refl _)]
            exact hch
          obtain ⟨A, hA1, hA⟩ := KS.out at' n hat (Nat.le_refl _)
          have HA := Lib.hid hA
          have KK := Lib.hid (KP.out A at' n wr HBW.out hat (Nat.le_refl _) hA HG.out)
          clear hch hA
          go_wp2_with fail
          refine KK.out.mono ?_
          rintro e w3 ⟨b3, a2, c2, rfl⟩
          have HW3 := Lib.hid (HW.out.trans (b3.mono HW.out.size))
          clear b3 KK
          go_wp2_with fail
          go_roundg gq
          case measure => omega
          case rel => exact ⟨ts.length + 1, at', by omega, by first | rfl | simp, rfl, fun h => absurd h (by omega), HW3.out.alloc HW3.out.size _⟩
        · have hjl : j < ts.length := by omega
          have hj2 : (j : Int) < (ts.length : Int) := by omega
          obtain ⟨gb, rfl⟩ := hav (by intro h; rw [h] at hjl; simp at hjl)
          obtain ⟨t, ht⟩ : ∃ t, ts[j]? = some t := ⟨ts[j], List.getElem?_eq_getElem hjl⟩
          have hd : ts.drop j = t :: ts.drop (j + 1) := by
            have e1 := List.getElem?_eq_some_iff.1 ht
            rw [List.drop_eq_getElem_cons hjl, e1.2]
          rw [hd] at hch
          obtain ⟨g, m, h1, h2, h3, h4, h5, h6, h7, h8⟩ := hch
          rw [List.drop_drop] at h8
          rw [List.length_drop, HN.out] at h4
          obtain ⟨t0, t1, t2, t3, t4⟩ := tok_cell hT.out j t ht
          rw [h1] at t1
          rw [h2] at t2
          have HH8 : Hid (Chain (l.drop (at' + g + m)) (at' + g + m) (ts.drop (j + 1))) := by show Chain _ _ _; rw [show at' + g + m = at' + (g + m) by omega] at h8 ⊢; exact h8
          obtain ⟨A, hA1, hA⟩ := KS.out at' (at' + g) (by omega) (by omega)
          have KK := Lib.hid (fun q => KP.out A at' (at' + g) (wr.drewN q) (below_drewN HBW.out q) (by omega) (by omega) hA (by rw [show at' + g - at' = g by omega]; exact h5))
          have H2 := Lib.hid h2
          have HTJ := Lib.hid ht
          obtain ⟨P, hP⟩ : ∃ P, at' + g = P := ⟨_, rfl⟩
          obtain ⟨F, hF⟩ : ∃ F, at' + g + m = F := ⟨_, rfl⟩
          have HF := Lib.hid hF
          have hPF : P < F := by omega
          have hFn : F ≤ n := by omega
          have haP : at' ≤ P := by omega
          rw [hF] at t2 HH8
          rw [hP] at t1 hA1 KK
          have u1 : ¬ ((F : Nat) : Int) ≤ ((P : Nat) : Int) := by omega
          have u2 : ¬ (n : Int) < ((F : Nat) : Int) := by omega
          have u3 : ¬ ((P : Nat) : Int) < ((at' : Nat) : Int) := by omega
          have u4 : (0 : Int) ≤ (j : Int) := by omega
          clear hq hd h1 h2 h3 h4 h5 h6 h7 h8 hA hP hF t0 t3 t4
          have u5 : decide (((F : Nat) : Int) ≤ ((P : Nat) : Int)) = false := decide_eq_false u1
          have u6 : decide (F ≤ P) = false := decide_eq_false (by omega)
          have u7 : decide (n < F) = false := decide_eq_false (by omega)
          go_wp2_with fail
          go_quiet (fail)
          go_wp2_with fail
          refine (KK.out _).mono ?_
          rintro e w3 ⟨b3, a2, c2, rfl⟩
          have B3 := (below_drewN HW.out _).trans (b3.mono (below_drewN HW.out _).size)
          have HW3 := Lib.hid B3
          have hT3 := owns_held (HT.out.alloc _) B3
          have t2' : ∀ ob, (w3.alloc ob).cell? ⟨gb, j * 5 + 2, none⟩ = some (.int .i64 ((F : Nat) : Int)) := fun ob => by
            have := (tok_cell (hT3.alloc ob) j t HTJ.out).2.2.1
            rw [this, H2.out, HF.out]
          clear b3 B3 hT3 KK t1 t2
          go_wp2_with fail
          go_roundg gq
          case measure => omega
          case rel => exact ⟨j + 1, F, by omega, by first | rfl | simp, rfl, fun h => ⟨HH8.out, hFn⟩, HW3.out.alloc HW3.out.size _⟩
end Go.Proofs.YteohpiamfpnofaaDoor
