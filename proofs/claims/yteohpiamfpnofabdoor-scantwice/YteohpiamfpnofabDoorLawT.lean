/- The law ScanTwice at every text; what is asked of the world: the bytes lie in memory, and the package's variables as their text lays them. -/
import Derived.Test.YteohpiamfpnofabDoorLawB
import Derived.Test.YteohpiamfpnofabDoorSy
namespace Go.Proofs.YteohpiamfpnofabDoor
open Go.RowKit Go.Maps

theorem cat_len (l : Bs) (h : l.length ≤ 65536) : ∀ ts : List Tok, (cat l ts).length ≤ ts.length * 65537
  | [] => by simp [cat]
  | t :: ts => by
    have := cat_len l h ts
    have e : cat l (t :: ts) = ((l.drop t.pos).take (t.fin - t.pos) ++ [32]) ++ cat l ts := rfl
    rw [e]
    simp only [List.length_append, List.length_take, List.length_drop, List.length_cons, List.length_nil]
    omega
theorem cat_take (l : Bs) (ts : List Tok) (j : Nat) (t : Tok) (h : ts[j]? = some t) : cat l (ts.take (j + 1)) = cat l (ts.take j) ++ ((l.drop t.pos).take (t.fin - t.pos) ++ [32]) := by
  unfold cat
  rw [List.take_add_one, h, Option.toList_some, List.flatMap_append]
  simp
theorem own_src {W : World} {B : Nat} {a : Option Addr} {c : Nat} {d : Bs} (h : Own W B (.slice a d.length c) d) : Src W a d c := by
  have h0 := h
  obtain ⟨h1, ⟨h2, h3⟩ | ⟨g', cap, cur, h2, h3, h4, h5, h6, h7, h8⟩⟩ := h
  · simp only [Value.slice.injEq] at h2
    obtain ⟨rfl, h4, rfl⟩ := h2
    exact ⟨by omega, .inl (List.length_eq_zero_iff.1 h4)⟩
  · simp only [Value.slice.injEq, true_and] at h2
    obtain ⟨rfl, rfl⟩ := h2
    exact ⟨h5, .inr ⟨_, _, rfl, own_byt h0⟩⟩
theorem own_shape {W : World} {B : Nat} {v : Value} {d : Bs} (h : Own W B v d) : ∃ a c, v = .slice a d.length c := by
  obtain ⟨_, ⟨rfl, h2⟩ | ⟨g, cap, cur, rfl, _⟩⟩ := h
  · rw [h2]; exact ⟨_, _, rfl⟩
  · exact ⟨_, _, rfl⟩
theorem own_len {W : World} {B n : Nat} {a : Option Addr} {c : Nat} {d : Bs} (h : Own W B (.slice a d.length c) d) (hn : n = d.length) : Own W B (.slice a n c) d := by rw [hn]; exact h
theorem alike_at {a b : List Tok} (h : Alike a b) (j : Nat) (t : Tok) (ht : b[j]? = some t) : ∃ t', a[j]? = some t' ∧ t'.kind = t.kind ∧ t'.num = t.num ∧ t'.text = t.text := by
  have := congrArg (·[j]?) h
  simp only [List.getElem?_map, ht, Option.map_some] at this
  obtain ⟨t', h1, h2⟩ := Option.map_eq_some_iff.1 this
  simp only [Prod.mk.injEq] at h2
  exact ⟨t', h1, h2.1, h2.2.1, h2.2.2⟩
/-- Each token of a chain lies within its text. -/
theorem chain_at (l : Bs) : ∀ (ts : List Tok) (p : Nat), Chain (l.drop p) p ts → p ≤ l.length → ∀ (j : Nat) (t : Tok), ts[j]? = some t → t.pos < t.fin ∧ t.fin ≤ l.length
  | [], _, _, _, j, t, h => by simp at h
  | x :: ts, p, hc, hp, j, t, h => by
    obtain ⟨g, m, h1, h2, h3, h4, h5, h6, h7, h8⟩ := hc
    rw [List.length_drop] at h4
    rw [List.drop_drop] at h8
    cases j with
    | zero => simp at h; subst h; omega
    | succ j => exact chain_at l ts (p + (g + m)) (by rw [show p + g + m = p + (g + m) by omega] at h8; exact h8) (by omega) j t (by simpa using h)

set_option maxRecDepth 100000 in
set_option maxHeartbeats 8000000 in
theorem law_twice {w : World} (a : Option Addr) (l : Bs) (c : Nat) (hS : Src w a l c) (_ : a = none → c = 0) (hm : l.length ≤ 140737488351232) (hv : Sv w) : Calls Tryd.prog 3 #[.slice a l.length c] w fun e w' => e = .returned (.bool true) ∧ Below w.heap.size w w' := by
  have KE : Hid (∀ W, Below w.heap.size w W → Calls Tryd.prog 5 #[] W fun e w' => e = .returned (.bool true) ∧ Below w.heap.size w w') := fun W h => (awake_any W (hv.below h (Nat.le_refl _))).mono fun e w' ⟨h1, h2⟩ => ⟨h1, h.trans (h2.mono h.size)⟩
  have KA := Lib.hid (scan_all a l c w hS (by omega) hv)
  cases hR : scan l with
  | inl qq2 =>
    obtain ⟨q, er⟩ := qq2
    have he := scan_err hR
    have KA2 : Hid (Calls Tryd.prog 4 #[.slice a l.length c] w fun e w' => Below w.heap.size w w' ∧ e = .returned (.tuple #[.slice none 0 0, .agg #[.int .i64 q, .int .i64 er]])) := by
      have := KA.out
      rw [hR] at this
      exact this.mono fun e w' ⟨h1, h2⟩ => ⟨h1, h2⟩
    have q1 : ((er : Int) != 0) = true := by simp; omega
    have q2 : ((er : Int) == 0) = false := by simp; omega
    clear KA hR hv hS he
    generalize l.length = n at *
    go_enter Tryd.func3, Tryd.ntmps3
    go_wp2_with fail
    refine KA2.out.mono ?_
    rintro e w2 ⟨b2, rfl⟩
    have HB3 := Lib.hid (fun ob => KE.out (w2.alloc ob) (b2.alloc b2.size ob))
    clear b2 KE
    go_wp2_with fail
    refine (HB3.out _).mono ?_
    rintro e w3 ⟨rfl, b3⟩
    go_wp2_with fail
    go_ret
    exact ⟨rfl, b3⟩
  | inr ts =>
    obtain ⟨h65, hch, htl⟩ := scan_good hR
    have KA2 : Hid (Calls Tryd.prog 4 #[.slice a l.length c] w fun e w' => Below w.heap.size w w' ∧ ∃ v, e = .returned (.tuple #[v, .agg #[.int .i64 0, .int .i64 0]]) ∧ Toks w' w.heap.size v ts) := by
      have := KA.out
      rw [hR] at this
      exact this.mono fun e w' ⟨h1, h2⟩ => ⟨h1, h2⟩
    have HAT := Lib.hid (chain_at l ts 0 hch (Nat.zero_le _))
    obtain ⟨ts', hc1, hc2⟩ := cat_ans l ts 0 0 [] hch (by simpa using htl)
    have hlen' : ts'.length = ts.length := by have := congrArg List.length hc2; simpa using this
    have HAL := Lib.hid hc2
    have HLEN := Lib.hid hlen'
    clear hlen'
    have KB : Hid (∀ (ab : Option Addr) (cb : Nat) (W : World) (B : Nat), Below w.heap.size w W → Own W B (.slice ab (cat l ts).length cb) (cat l ts) → (cat l ts).length ≤ 65536 → Calls Tryd.prog 4 #[.slice ab (cat l ts).length cb] W fun e w' => Below W.heap.size W w' ∧ ∃ v, e = .returned (.tuple #[v, .agg #[.int .i64 0, .int .i64 0]]) ∧ Toks w' W.heap.size v ts') := fun ab cb W B hW ho hl => by
      have := scan_all ab (cat l ts) cb W (own_src ho) (by omega) (hv.below hW (Nat.le_refl _))
      rw [show scan (cat l ts) = .inr ts' by unfold scan; rw [if_neg (by omega), hc1]; rfl] at this
      exact this.mono fun e w' ⟨h1, h2⟩ => ⟨h1, h2⟩
    have KS : Hid (∀ (p e : Nat) (W : World), Below w.heap.size w W → p < e → e ≤ l.length → ∃ b o, (∀ W, (Instr.slice 22 (.slice a l.length c) (some (.int .i64 (p : Nat))) (some (.int .i64 (e : Nat))) none).run Tryd.prog W = .ok (.slice (some ⟨b, o + p, none⟩) (e - p) (c - p)) W) ∧ Byt W b (o + p) ((l.drop p).take (e - p))) := fun p e W hW h1 h2 => by
      obtain ⟨A, h3, h4⟩ := slice_run a l c p e hS.1 (hS.2.elim .inl fun ⟨b, o, h, _⟩ => .inr ⟨b, o, h⟩) (by omega) h2
      rcases h4 with h4 | ⟨b, o, h4, rfl⟩
      · omega
      · rcases (hS.below hW (Nat.le_refl _)).2 with h6 | ⟨b', o', h7, h8⟩
        · rw [h6] at h2; simp at h2; omega
        · rw [h4] at h7; cases h7
          exact ⟨b, o, h3, (h8.drop p).take _⟩
    have HCL := Lib.hid (cat_len l h65)
    clear KA hR hv hS hch hc1 hc2
    obtain ⟨n, hN⟩ : ∃ n, l.length = n := ⟨_, rfl⟩
    have HN := Lib.hid hN
    rw [hN] at KA2 KS h65 hm HAT ⊢
    clear hN
    obtain ⟨i0, hi0, hz0, hz1, hz2⟩ := info_parts infoU8
    go_enter Tryd.func3, Tryd.ntmps3
    go_wp2_with fail
    refine KA2.out.mono ?_
    rintro e w2 ⟨b2, v, rfl, ht⟩
    obtain ⟨av, cv, rfl, hav⟩ := toks_slice ht
    obtain ⟨W2, hW2⟩ : ∃ W2, W2 = w2.alloc (.cells #[.int .i64 0, .int .i64 0] 26) := ⟨_, rfl⟩
    have HW2 := Lib.hid hW2
    have HT : Hid (Toks W2 w.heap.size (.slice av ts.length cv) ts) := by show Toks _ _ _ _; rw [hW2]; exact ht.alloc _
    have HB2 : Hid (Below w.heap.size w W2) := by show Below _ _ _; rw [hW2]; exact b2.alloc b2.size _
    have HGB : Hid (∀ g, (av : Option Addr) = some ⟨g, 0, none⟩ → g < W2.heap.size) := fun g hg => by
      subst hg
      obtain ⟨_, ⟨h2, _⟩ | ⟨g', cap, cur, h2, _, h4, _⟩⟩ := HT.out
      · cases h2
      · cases h2; exact (Array.getElem?_eq_some_iff.1 h4).1
    clear b2 ht KA2 hW2
    go_wp2_with fail
    go_loopg [5, 6] ts.length (fun gk s5 s6 wx => ∃ (j : Nat) (ab : Option Addr) (cb : Nat), j + gk = ts.length ∧ s6 = .int .i64 j ∧ s5 = .slice ab (cat l (ts.take j)).length cb ∧ Own wx W2.heap.size s5 (cat l (ts.take j)) ∧ Below W2.heap.size W2 wx)
    case atStart =>
      rw [← HW2.out]
      exact ⟨0, none, 0, by omega, rfl, rfl, World.ownsRow_nil _ _ _ _, Below.refl _ _⟩
    case round =>
      obtain ⟨j, ab, cb, hjg, rfl, rfl, ho, hbw⟩ := hrel
      have HW := Lib.hid hbw
      have HO := Lib.hid ho
      have hT := Lib.hid (owns_held HT.out hbw)
      have HBW := Lib.hid (HB2.out.trans (hbw.mono HB2.out.size))
      have hdl : (cat l (ts.take j)).length ≤ 16384 * 65537 := by
        have := HCL.out (ts.take j)
        have h2 : (ts.take j).length ≤ 16384 := by simp; omega
        exact Nat.le_trans this (Nat.mul_le_mul_right _ h2)
      have hz3 := hbw.size
      clear hbw ho
      cases gk with
      | zero =>
        obtain rfl : j = ts.length := by omega
        rw [List.take_of_length_le (Nat.le_refl _)] at HO hdl ⊢
        obtain ⟨D, hD⟩ : ∃ D, cat l ts = D := ⟨_, rfl⟩
        rw [hD] at HO hdl KB ⊢
        clear HAT KS hD
        by_cases hbig : 65536 < D.length
        · have q1 : (65536 : Int) < (D.length : Int) := by omega
          go_wp2_with fail
          refine (KE.out _ HBW.out).mono ?_
          rintro e w4 ⟨rfl, b4⟩
          go_wp2_with fail
          go_ret
          exact ⟨rfl, b4⟩
        · have q1 : ¬ (65536 : Int) < (D.length : Int) := by omega
          have KK := Lib.hid (KB.out ab cb wr _ HBW.out HO.out (by omega))
          clear KB
          go_wp2_with fail
          refine KK.out.mono ?_
          rintro e w3 ⟨b3, v3, rfl, ht3⟩
          obtain ⟨a3, c3, rfl, ha3⟩ := toks_slice ht3
          rw [HLEN.out] at ht3 ⊢
          have q2 : ((ts.length : Int) == (ts.length : Int)) = true := by simp
          obtain ⟨W3, hW3⟩ : ∃ W3, W3 = w3.alloc (.cells #[.int .i64 0, .int .i64 0] 26) := ⟨_, rfl⟩
          have HT3 : Hid (Toks W3 wr.heap.size (.slice a3 ts.length c3) ts') := by show Toks _ _ _ _; rw [hW3]; exact ht3.alloc _
          have BW3 : Below wr.heap.size wr W3 := by rw [hW3]; exact b3.alloc b3.size _
          have HTT : Hid (Toks W3 w.heap.size (.slice av ts.length cv) ts) := owns_held hT.out BW3
          have HB5 := Lib.hid (HBW.out.trans (BW3.mono HBW.out.size))
          have HHW3 := Lib.hid hW3
          clear b3 ht3 KK BW3 hW3 hT HT HBW HO
          go_wp2_with fail
          go_loopg [9] ts.length (fun gk s9 wx => ∃ j : Nat, j + gk = ts.length ∧ s9 = .int .i64 j ∧ Below W3.heap.size W3 wx)
          case atStart => rw [← HHW3.out]; exact ⟨0, by omega, rfl, Below.refl _ _⟩
          case round =>
            obtain ⟨i, hig, rfl, hbx⟩ := hrel
            have HX := Lib.hid hbx
            have HBX := Lib.hid (HB5.out.trans (hbx.mono HB5.out.size))
            have T1 := Lib.hid (owns_held HTT.out hbx)
            have T2 := Lib.hid (owns_held HT3.out hbx)
            clear hbx
            cases gk with
            | zero =>
              obtain rfl : i = ts.length := by omega
              go_wp2_with fail
              refine (KE.out _ HBX.out).mono ?_
              rintro e w4 ⟨rfl, b4⟩
              go_wp2_with fail
              go_ret
              exact ⟨rfl, b4⟩
            | succ gq =>
              have hil : i < ts.length := by omega
              have hi2 : (i : Int) < (ts.length : Int) := by omega
              have hi0' : (0 : Int) ≤ (i : Int) := by omega
              obtain ⟨gb, rfl⟩ := hav (by intro h; rw [h] at hil; simp at hil)
              obtain ⟨g3, rfl⟩ := ha3 (by intro h; have h9 := HLEN.out; rw [h] at h9; simp at h9; omega)
              obtain ⟨t, ht⟩ : ∃ t, ts[i]? = some t := ⟨ts[i], List.getElem?_eq_getElem hil⟩
              obtain ⟨t', ht', k1, k2, k3⟩ := alike_at HAL.out i t ht
              obtain ⟨s0, _, _, s3, s4⟩ := tok_cell T1.out i t ht
              obtain ⟨r0, _, _, r3, r4⟩ := tok_cell T2.out i t' ht'
              rw [k1] at r0
              rw [k2] at r3
              rw [k3] at r4
              clear k1 k2 k3 ht ht'
              generalize t.kind = A1 at *
              generalize t.num = A2 at *
              generalize bs t.text = A3 at *
              have e3 : (A3.toList == A3.toList) = true := by simp
              have e4 : (A3.toList != A3.toList) = false := by simp
              clear KE HN HW HW2 HB2 HCL
              go_wp2_with fail
              go_quiet (fail)
              go_wp2_with fail
              go_roundg gq
              case measure => omega
              case rel => exact ⟨i + 1, by omega, by first | rfl | simp, below_drewN HX.out _⟩
      | succ gq =>
        have hjl : j < ts.length := by omega
        have hj2 : (j : Int) < (ts.length : Int) := by omega
        have hj0 : (0 : Int) ≤ (j : Int) := by omega
        obtain ⟨gb, rfl⟩ := hav (by intro h; rw [h] at hjl; simp at hjl)
        obtain ⟨t, ht⟩ : ∃ t, ts[j]? = some t := ⟨ts[j], List.getElem?_eq_getElem hjl⟩
        have hPF := HAT.out j t ht
        obtain ⟨t0, t1, t2, t3, t4⟩ := tok_cell hT.out j t ht
        obtain ⟨bb, oo, hA1, hby⟩ := KS.out t.pos t.fin wr HBW.out hPF.1 hPF.2
        have HCT := Lib.hid (cat_take l ts j t ht)
        obtain ⟨D, hD⟩ : ∃ D, cat l (ts.take j) = D := ⟨_, rfl⟩
        obtain ⟨E, hE⟩ : ∃ E, (l.drop t.pos).take (t.fin - t.pos) = E := ⟨_, rfl⟩
        have hEl : E.length = t.fin - t.pos := by rw [← hE, List.length_take, List.length_drop, HN.out]; omega
        rw [hD] at HO hdl HCT ⊢
        rw [hE] at hby HCT
        generalize t.pos = P at *
        generalize t.fin = F at *
        have hgl := HGB.out gb rfl
        have hne : some gb ≠ (Value.slice ab D.length cb).ownBlock := fun h => by
          have := (HO.out.lt _ h.symm).1
          omega
        have m1 : wr.drew.cell? ⟨gb, j * 5 + 1, none⟩ = some (.int .i64 P) := by simpa using t1
        have m2 : wr.drew.cell? ⟨gb, j * 5 + 2, none⟩ = some (.int .i64 F) := by simpa using t2
        have KKS : Hid (∀ w4, wr.drew.grownBy w4 (Value.slice ab D.length cb).ownBlock → w4.cell? ⟨gb, j * 5 + 1, none⟩ = some (.int .i64 P) ∧ w4.cell? ⟨gb, j * 5 + 2, none⟩ = some (.int .i64 F)) := fun w4 hg => ⟨hg.cell m1 hne, hg.cell m2 hne⟩
        have HBY := Lib.hid hby
        have HHD := Lib.hid hD
        have p0 : (0 : Int) ≤ (P : Int) := by omega
        have p1 : (P : Int) ≤ (F : Int) := by omega
        have p2 : (F : Int) ≤ (n : Int) := by omega
        clear hD hE hby ht t0 t1 t2 t3 t4 HAT KE KB hT hne HGB HCL
        have hnw : ∀ k u, (E.map fun x => Value.int .u8 (x.toNat : Int))[k]? = some u → wr.drew.cell? ((⟨bb, oo + P, none⟩ : Addr).add k) = some u := fun k u hk => by
          rw [List.getElem?_map] at hk
          obtain ⟨x, hx, rfl⟩ := Option.map_eq_some_iff.1 hk
          obtain ⟨hkl, rfl⟩ := List.getElem?_eq_some_iff.1 hx
          rw [WideShapes.add_plain]
          have := HBY.out k hkl
          simpa using this
        have HNW := Lib.hid hnw
        have HEL := Lib.hid hEl
        have hFP : F - P ≤ 65536 := by omega
        clear hnw HBY hEl
        go_wp2_with fail
        go_region_held3 (fun w' => w'.cell? ⟨gb, j * 5 + 1, none⟩ = some (.int .i64 P) ∧ w'.cell? ⟨gb, j * 5 + 2, none⟩ = some (.int .i64 F)) (first | go_keep | exact KKS.out _ (by assumption)) (first
          | (rw [if_pos (by rfl)]; refine wp_append_own _ _ _ 22 rfl W2.heap.size 5 i0 (.int .u8 0) 1 1 Tryd.underlying22 hi0 hz0 hz1 hz2 rfl (by decide) (.slice ab D.length cb) _ _ rfl HO.out.drew ⟨bb, oo + P, none⟩ (F - P) (c - P) (E.map fun x => Value.int .u8 (x.toNat : Int)) rfl (by rw [List.length_map, HEL.out, Nat.mul_one]) HNW.out (by intro u hu; obtain ⟨x, _, rfl⟩ := List.mem_map.1 hu; rfl) (by unfold maxLen; omega) (by omega) (by simpa using hz3) ?_; intro v4 w4 ho4 hg4 hn4))
        rw [← HEL.out] at ho4
        have ho5 := own_app ho4
        obtain ⟨a4, d4, rfl⟩ := own_shape ho5
        have HO5 := Lib.hid ho5
        have hB4 := below_grown (Below.drew HW.out) hg4 HO.out.drew (Nat.le_refl _)
        have HB4 := Lib.hid hB4
        have hz5 := hB4.size
        have hEl2 := HEL.out
        have hDE : (D ++ E).length ≤ 16384 * 65537 + 65536 := by rw [List.length_append]; omega
        have HEL2 := Lib.hid hEl2
        clear ho4 ho5 hg4 hn4 hB4 m1 m2 hA1 KKS HNW hEl2
        generalize hG : D ++ E = G at *
        have HG := Lib.hid hG
        clear hG
        go_wp2_with (first
          | (at_builtin; refine wpList_append_own_at _ rfl _ _ 22 rfl W2.heap.size 5 i0 (.int .u8 0) 1 1 Tryd.underlying22 hi0 hz0 hz1 hz2 rfl (by decide) (.slice a4 G.length d4) _ _ rfl (HO5.out.alloc _) ⟨w4.heap.size, 0, none⟩ 1 1 [.int .u8 32] rfl rfl (cell_one_new _ _ _) (by simp [Value.oneCell']) (by unfold maxLen; omega) (by omega) (by simp; omega) ?_; intro v6 w6 ho6 hg6 hn6 ha6; have ho7 := own_app (new := [32]) ho6; obtain ⟨a6, d6, rfl⟩ := own_shape ho7))
        go_roundg gq
        case measure => omega
        case rel =>
          have e : cat l (ts.take (j + 1)) = G ++ [32] := by rw [HCT.out, ← HG.out, List.append_assoc]
          refine ⟨j + 1, a6, d6, by omega, by first | rfl | simp, by rw [e]; simp, by rw [e]; exact own_len ho7 (by simp), below_grown (HB4.out.alloc HB4.out.size _) hg6 (HO5.out.alloc _) (Nat.le_refl _)⟩
end Go.Proofs.YteohpiamfpnofabDoor
