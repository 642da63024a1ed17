/- The law ShutFewer, over what it asks of the package; the conditions that the theorem names. -/
import Derived.Test.YtblpafmcnhhdpaaUg
import Derived.Deep.AppendLies
namespace Go.Proofs.Ytblpafmcnhhdpaa
open Go.RowKit

theorem infoJ : (Try.prog.info? 25).map (fun i => (i.zero, i.size, i.bytes)) = some (some (.slice none 0 0), 1, 24) := by kernel_rfl
theorem u64_rng (n : Int) : IntKind.u64.wrap n = n % 18446744073709551616 := by
  simp [IntKind.wrap, IntKind.bits, IntKind.signed]
theorem rem_num (n : Nat) (d : Int) (h : 0 < n) : ∃ q : Nat, (IntKind.u64.wrap d).tmod (n : Int) = q ∧ q < n := by
  have h1 : 0 ≤ IntKind.u64.wrap d := by rw [u64_rng]; omega
  rw [Int.tmod_eq_emod_of_nonneg h1]
  have h2 := Int.emod_nonneg (IntKind.u64.wrap d) (b := (n : Int)) (by omega)
  have h3 := Int.emod_lt_of_pos (IntKind.u64.wrap d) (b := (n : Int)) (by omega)
  exact ⟨((IntKind.u64.wrap d) % (n : Int)).toNat, by omega, by omega⟩
theorem set_sum : ∀ (A : List (List Int)) (k : Nat), ((A.set k []).map fun l => l.length + 1).sum ≤ (A.map fun l => l.length + 1).sum
  | [], _ => by simp
  | x :: r, 0 => by simp only [List.set_cons_zero, List.map_cons, List.sum_cons, List.length_nil]; omega
  | x :: r, k + 1 => by
    have := set_sum r k
    simp only [List.set_cons_succ, List.map_cons, List.sum_cons]
    omega
theorem set_sub (A : List (List Int)) (k i : Nat) (x : Int) (h : x ∈ ((A.set k [])[i]?).getD []) : x ∈ (A[i]?).getD [] := by
  rw [List.getElem?_set] at h
  by_cases e : k = i
  · rw [if_pos e] at h
    by_cases e2 : k < A.length
    · rw [if_pos e2] at h; simp at h
    · rw [if_neg e2] at h; simp at h
  · rw [if_neg e] at h; exact h
theorem add1 (b o n : Nat) : (⟨b, o, none⟩ : Addr).add n = ⟨b, o + n, none⟩ := by unfold Addr.add; split <;> simp_all

set_option maxRecDepth 100000 in
set_option maxHeartbeats 4000000 in
theorem law_fewer (K : KOrd) (A : List (List Int)) (ad : Option Addr) (cap : Nat) (d : Int) (w : World) (h : Rj w ad A) (hA : A.length ≤ 4611686018427387904) (hx : ∀ l ∈ A, l.length ≤ 4611686018427387904) :
    Calls Try.prog 5 #[.slice ad A.length cap, .int .i64 d] w fun e w' => e = .returned (.bool true) ∧ Below w.heap.size w w' := by
  obtain ⟨i1, hi1, hy0, hy1, hy2⟩ := info_parts infoB
  obtain ⟨i0, hi0, hz0, hz1, hz2⟩ := info_parts infoJ
  have HSM := Lib.hid (small_any A ad cap w h hA hx)
  have KA : Hid (∀ wx, Calls Try.prog 7 #[] wx fun e w' => e = .returned (.bool true) ∧ Below wx.heap.size wx w') := fun wx => awake_any K wx
  cases hs : sml A with
  | false =>
    rw [hs] at HSM
    clear hs h hA hx K
    go_enter Try.func5, Try.ntmps5
    go_wp2_with fail
    refine HSM.out.mono ?_
    rintro e w1 ⟨rfl, rfl⟩
    go_wp2_with fail
    refine (KA.out _).mono ?_
    rintro e w2 ⟨rfl, b2⟩
    go_wp2
    go_ret
    exact ⟨rfl, b2⟩
  | true =>
    rw [hs] at HSM
    by_cases h0 : A.length = 0
    · have e0 : ((A.length : Int) == 0) = true := by rw [h0]; rfl
      clear hs h hA hx K h0
      go_enter Try.func5, Try.ntmps5
      go_wp2_with fail
      refine HSM.out.mono ?_
      rintro e w1 ⟨rfl, rfl⟩
      go_wp2_with fail
      refine (KA.out _).mono ?_
      rintro e w2 ⟨rfl, b2⟩
      go_wp2
      go_ret
      exact ⟨rfl, b2⟩
    · have e0 : ((A.length : Int) == 0) = false := beq_false_of_ne (by omega)
      have hs' : (A.map fun l => l.length + 1).sum ≤ 400 := of_decide_eq_true hs
      obtain ⟨hl, hll⟩ := sml_len hs'
      obtain ⟨b, o, svs, rfl, hsv, hsc, hsr⟩ := h.svs (fun e => h0 (by rw [e]; rfl))
      obtain ⟨k, hk, hkl⟩ := rem_num A.length d (by omega)
      have hR := h
      have hn0 : ¬ (A.length : Int) = 0 := by omega
      have hkl' : (k : Int) < (A.length : Int) := by omega
      have hk0 : (0 : Int) ≤ (k : Int) := by omega
      have hRi : ∀ (j : Nat) sv l, svs[j]? = some sv → A[j]? = some l → Ri w sv l := hsr
      have HSC := Lib.hid hsc
      have HSR := Lib.hid hRi
      have HSV := Lib.hid hsv
      have HR := Lib.hid hR
      have HK := Lib.hid K
      have HS' := Lib.hid hs'
      have HE := Lib.hid (ord_fewer (A := A) (B := A.set k []) (by simp) (set_sub A k))
      have HFK := Lib.hid (ord_free (A := A.set k []) (k := k) (by simpa using hkl) (by simp [hkl]))
      have hBl : (A.set k []).length = A.length := by simp
      have hBs : ((A.set k []).map fun l => l.length + 1).sum ≤ 400 := Nat.le_trans (set_sum A k) hs'
      have HBS := Lib.hid hBs
      have HBL := Lib.hid hBl
      have HOC := Lib.hid (ord_cyc_len A)
      have hone : ∀ u ∈ svs, u.oneCell' = true := fun u hu => by
        obtain ⟨j, hj⟩ := List.getElem?_of_mem hu
        have hjl : j < A.length := by rw [← hsv]; exact (List.getElem?_eq_some_iff.1 hj).1
        obtain ⟨a, c, e, -⟩ := hsr j u A[j] hj (List.getElem?_eq_getElem hjl)
        rw [e]; rfl
      have HONE := Lib.hid hone
      clear hs hs' hsc hsr hsv hRi hR h hA hx K hBs hBl hone hll
      go_enter Try.func5, Try.ntmps5
      go_wp2_with fail
      refine HSM.out.mono ?_
      rintro e w1 ⟨rfl, rfl⟩
      have own0 : (w1.alloc (.cells #[] 25)).ownsRow w1.heap.size 25 1 (.slice (some ⟨w1.heap.size, 0, none⟩) 0 0) 0 [] := ⟨rfl, .inr ⟨w1.heap.size, 0, #[], rfl, Nat.le_refl _, heap_alloc_new w1 _, Nat.le_refl _, by decide, rfl, rfl⟩⟩
      have ba := below1 w1 (.cells #[] 25)
      have hcell : ∀ (j : Nat) u, svs[j]? = some u → (w1.alloc (.cells #[] 25)).cell? ((⟨b, o, none⟩ : Addr).add j) = some u := fun j u hu => by
        have h9 := HSC.out j u hu
        rw [add1]
        exact (ba.cell (p := ⟨b, _, none⟩) (World.block_lt_of_cell? w1 _ h9)).trans h9
      obtain ⟨sk, hsk⟩ : ∃ sk, svs[k]? = some sk := ⟨_, List.getElem?_eq_getElem (by have := HSV.out; omega)⟩
      have HSK := Lib.hid hsk
      clear hsk
      go_wp2_with (at_builtin; refine wpList_append_lies _ rfl _ _ 22 rfl w1.heap.size 25 i0 _ 1 24 Try.underlying22 hi0 hz0 hz1 hz2 rfl (by decide) _ _ _ rfl own0 ⟨b, o, none⟩ A.length cap svs rfl (by have := HSV.out; omega) hcell HONE.out (by omega) (by unfold maxLen; omega) (by omega) (by simp) _ rfl ?_; intro g2 cp2 w3 own3 gr3 at3 lt3; have own4 : w3.ownsRow w1.heap.size 25 1 (.slice (some ⟨g2, 0, none⟩) A.length cp2) A.length svs := (by simpa using own3); have q0 := (own4.cellAt k (by omega)).trans HSK.out; have q1 := own4.frozenAt k; clear own3)
      have b3 : Below w1.heap.size w1 w3 := by
        have h9 := below_grown (ba) gr3 own0 (Nat.le_refl _)
        exact h9
      obtain ⟨own5, gr5⟩ := own4.stored k (.slice none 0 0)
      have hg2 := (own4.lt g2 rfl).1
      have b4 : Below w1.heap.size w1 (w3.setCell ⟨g2, k, none⟩ (.slice none 0 0)) := b3.setCell (p := ⟨g2, k, none⟩) hg2 _
      clear own4 gr5 gr3 at3 own0 hcell ba q0 q1
      generalize w3.setCell ⟨g2, k, none⟩ (.slice none 0 0) = w4 at own5 b4 ⊢
      have hRB : Rj w4 (some ⟨g2, 0, none⟩) (A.set k []) := by
        refine .inr ⟨g2, 0, rfl, fun j l hj => ?_⟩
        have hjl : j < A.length := by have := (List.getElem?_eq_some_iff.1 hj).1; simpa using this
        have hc := own5.cellAt j (by omega)
        rw [Nat.zero_add]
        by_cases e : k = j
        · subst e
          rw [List.getElem?_set_self (by simpa using hkl)] at hj
          rw [List.getElem?_set_self (by have := HSV.out; omega)] at hc
          obtain rfl := Option.some.inj hj
          exact ⟨_, hc, none, 0, rfl, .inl rfl⟩
        · rw [List.getElem?_set_ne e] at hj hc
          obtain ⟨sv, hsv⟩ : ∃ sv, svs[j]? = some sv := ⟨_, List.getElem?_eq_getElem (by have := HSV.out; omega)⟩
          rw [hsv] at hc
          exact ⟨sv, hc, (HSR.out j sv l hsv hj).below b4⟩
      have HX := Lib.hid (HK.out A (some ⟨b, o, none⟩) cap w4 (HR.out.below b4) HS'.out)
      have HY : Hid (∀ wx, Below w4.heap.size w4 wx → Calls Try.prog 8 #[.slice (some ⟨g2, 0, none⟩) A.length cp2] wx fun e w' => ∃ s1 s2, e = .returned (.agg #[s1, s2]) ∧ Ri w' s1 ((ord (A.set k [])).map fun (i : Nat) => (i : Int)) ∧ Ri w' s2 ((cyc (A.set k [])).map fun (i : Nat) => (i : Int)) ∧ Below wx.heap.size wx w') := fun wx hb => by
        have h9 := HK.out (A.set k []) (some ⟨g2, 0, none⟩) cp2 wx (hRB.below hb) HBS.out
        rw [HBL.out] at h9
        exact h9
      have HLT2 : Hid (∀ i ∈ ord (A.set k []), i < A.length) := fun i hi => by have := ord_lt hi; rwa [HBL.out] at this
      have HLT1 : Hid (∀ i ∈ ord A, i < A.length) := fun i hi => ord_lt hi
      have h1l := ord_len A
      have h2l : (ord (A.set k [])).length ≤ A.length := by have := ord_len (A.set k []); rwa [HBL.out] at this
      generalize ord A = O1 at HX HE HOC HLT1 h1l
      generalize cyc A = C1 at HX HOC
      generalize ord (A.set k []) = O2 at HY HE HFK HLT2 h2l
      obtain ⟨T1, hT1⟩ : ∃ T1, T1 = O1.map fun (i : Nat) => (i : Int) := ⟨_, rfl⟩
      obtain ⟨TC, hTC⟩ : ∃ TC, TC = C1.map fun (i : Nat) => (i : Int) := ⟨_, rfl⟩
      obtain ⟨T2, hT2⟩ : ∃ T2, T2 = O2.map fun (i : Nat) => (i : Int) := ⟨_, rfl⟩
      rw [← hT1, ← hTC] at HX
      rw [← hT2] at HY
      have HT1 : Hid (T1.length = O1.length ∧ ∀ (q i : Nat), O1[q]? = some i → T1[q]? = some (i : Int)) := ⟨by rw [hT1, List.length_map], fun q i hq => by rw [hT1]; simp [hq]⟩
      have HT2 : Hid (T2.length = O2.length ∧ ∀ (q i : Nat), O2[q]? = some i → T2[q]? = some (i : Int)) := ⟨by rw [hT2, List.length_map], fun q i hq => by rw [hT2]; simp [hq]⟩
      have HSUM : Hid ((T1.length : Int) + (TC.length : Int) = (A.length : Int)) := by
        have := HOC.out
        show (T1.length : Int) + (TC.length : Int) = (A.length : Int)
        rw [hT1, hTC, List.length_map, List.length_map]
        omega
      have ht1 : T1.length ≤ 400 := by rw [hT1, List.length_map]; omega
      have ht2 : T2.length ≤ 400 := by rw [hT2, List.length_map]; omega
      clear hT1 hTC hT2 h1l h2l hRB own5 HOC HSK HSC HSR HSV HONE HR HK HS' HBS HBL b3
      generalize hC2 : (cyc (A.set k [])).map (fun (i : Nat) => (i : Int)) = TD at HY
      clear hC2
      refine HX.out.mono ?_
      rintro e w5 ⟨s1, s2, rfl, r1, r2, b5⟩
      go_wp2_with fail
      refine (HY.out _ b5).mono ?_
      rintro e w6 ⟨s3, s4, rfl, r3, r4, b6⟩
      obtain ⟨a1, c1, rfl, -⟩ := id r1
      obtain ⟨a2, c2, rfl, -⟩ := id r2
      obtain ⟨a3, c3, rfl, -⟩ := id r3
      obtain ⟨a4, c4, rfl, -⟩ := id r4
      have b7 := below1 w6 (.cells #[.slice a1 T1.length c1, .slice a2 TC.length c2] 27)
      have n7 := Bk.new w6 #[.slice a1 T1.length c1, .slice a2 TC.length c2] 27
      obtain ⟨w7, hw7⟩ : ∃ w7, w7 = w6.alloc (.cells #[.slice a1 T1.length c1, .slice a2 TC.length c2] 27) := ⟨_, rfl⟩
      rw [← hw7] at b7 n7
      have z7 : w7.heap.size = w6.heap.size + 1 := by rw [hw7]; simp
      have b8 := below1 w7 (.cells #[.slice a3 T2.length c3, .slice a4 TD.length c4] 27)
      have n8 := Bk.new w7 #[.slice a3 T2.length c3, .slice a4 TD.length c4] 27
      obtain ⟨w8, hw8⟩ : ∃ w8, w8 = w7.alloc (.cells #[.slice a3 T2.length c3, .slice a4 TD.length c4] 27) := ⟨_, rfl⟩
      rw [← hw8] at b8 n8
      rw [z7] at n8
      have HW := Lib.hid (show (w6.alloc (.cells #[.slice a1 T1.length c1, .slice a2 TC.length c2] 27)).alloc (.cells #[.slice a3 T2.length c3, .slice a4 TD.length c4] 27) = w8 by rw [hw8, hw7])
      have B78 : Below w6.heap.size w6 w8 := b7.trans (b8.mono (by omega))
      have B8 : Below w1.heap.size w1 w8 := (b4.trans ((b5.trans (b6.mono b5.size)).mono b4.size)).trans (B78.mono (by have := b4.size; have := b5.size; have := b6.size; omega))
      have HPa : Hid (∀ wx, Below w8.heap.size w8 wx → Bk wx w6.heap.size #[.slice a1 T1.length c1, .slice a2 TC.length c2] 27) := fun wx hb => (n7.below b8).below hb
      have HPb : Hid (∀ wx, Below w8.heap.size w8 wx → Bk wx (w6.heap.size + 1) #[.slice a3 T2.length c3, .slice a4 TD.length c4] 27) := fun wx hb => n8.below hb
      have HRa : Hid (∀ wx, Below w8.heap.size w8 wx → Ri wx (.slice a1 T1.length c1) T1) := fun wx hb => ((r1.below b6).below B78).below hb
      have HRb : Hid (∀ wx, Below w8.heap.size w8 wx → Ri wx (.slice a3 T2.length c3) T2) := fun wx hb => (r3.below B78).below hb
      have hz8 : w8.heap.size = w6.heap.size + 1 + 1 := by rw [hw8]; simp [z7]
      have HZ8 := Lib.hid hz8
      have HB8 := Lib.hid B8
      clear r1 r2 r3 r4 hw7 hw8 z7 n7 n8 b4 b5 b6 b7 b8 B78 B8 hz8 HX HY
      go_wp2_with (first
        | rw [HW.out]
        | (at_make; refine wpList_make_full _ rfl _ _ 32 rfl w8.heap.size 4 i1 (.bool false) 1 Try.underlying32 hi1 hy0 hy1 _ _ _ _ A.length rfl rfl rfl rfl (by rw [hy2]; omega) (by unfold maxLen; omega) (Nat.le_refl _) ?_; intro w9 own9 gr9; have b9 : Below w8.heap.size w8 w9 := below_none gr9 (Nat.le_refl _); obtain ⟨q0, q1⟩ := (HPb.out _ b9).c2))
      have F9 : Bf w9 w8.heap.size A.length fun j => decide (j ∈ O2.take 0) := by simpa using bf_made own9
      have F9H := Lib.hid F9
      clear own9 gr9 q0 q1 F9
      generalize hG : w8.heap.size = G at *
      go_loopg [11, 46] T2.length (fun g s11 s46 wx => ∃ q : Nat, q + g = T2.length ∧ s46 = .int .i64 q ∧ Below G w8 wx ∧ Bf wx G A.length fun j => decide (j ∈ O2.take q))
      case atStart => exact ⟨0, by omega, rfl, b9, F9H.out⟩
      case round =>
        clear F9H
        obtain ⟨q, hqg, rfl, hB, hF⟩ := hrel
        have F6 := Lib.hid hF
        clear hF
        cases gk with
        | succ g =>
          have hq : q < O2.length := by have := HT2.out.1; omega
          obtain ⟨i, hi⟩ : ∃ i, O2[q]? = some i := ⟨_, List.getElem?_eq_getElem hq⟩
          have hil := HLT2.out i (List.mem_of_getElem? hi)
          obtain ⟨g3, o3, c3', e3, hc3⟩ := (HRb.out wr hB).at (by omega)
          simp only [Value.slice.injEq] at e3
          obtain ⟨rfl, -, rfl⟩ := e3
          have t0 := hc3 q i (HT2.out.2 q i hi)
          have t1 := F6.out.c i hil
          have t2 := Bk.f F6.out i
          have d1 : ¬ ((i : Nat) : Int) < 0 := by omega
          have d2 : ((i : Nat) : Int) < (A.length : Int) := by omega
          have d3 : (0 : Int) ≤ ((i : Nat) : Int) := by omega
          have d4 : ¬ (A.length : Int) ≤ ((i : Nat) : Int) := by omega
          have hq' : ((q : Nat) : Int) < (T2.length : Int) := by omega
          have HSET : Hid (Bf (wr.setCell ⟨G, i, none⟩ (.bool true)) G A.length fun j => decide (j ∈ O2.take (q + 1))) := F6.out.set i (fun j _ => by
            rw [List.take_add_one, hi]
            simp only [Option.toList, List.mem_append, List.mem_singleton]
            by_cases h1 : j ∈ O2.take q <;> by_cases h2 : j = i <;> simp [h1, h2])
          clear hi hc3
          go_wp2
          go_roundg g
          case measure => omega
          case rel => exact ⟨q + 1, by omega, by simp, hB.setCell (p := ⟨G, i, none⟩) (Nat.le_refl _) _, HSET.out⟩
        | zero =>
          obtain rfl : q = T2.length := by omega
          have F7 : Hid (Bf wr G A.length fun j => decide (j ∈ O2)) := by
            have h9 := F6.out
            rw [HT2.out.1, List.take_length] at h9
            exact h9
          obtain ⟨w7, hw7⟩ : ∃ w7, w7 = wr := ⟨_, rfl⟩
          subst hw7
          clear F6
          obtain ⟨q0, q1⟩ := (HPa.out _ hB).c2
          have HRA := Lib.hid (HRa.out _ hB)
          have HBE : Hid (Below w1.heap.size w1 w7) := HB8.out.trans (hB.mono (by have := HB8.out.size; omega))
          have tk := F7.out.c k hkl
          rw [decide_eq_true HFK.out] at tk
          clear hB
          go_wp2
          go_loopg [13, 65] T1.length (fun g s13 s65 wx => ∃ q : Nat, q + g = T1.length ∧ s65 = .int .i64 q ∧ wx = w7)
          case atStart => exact ⟨0, by omega, rfl, rfl⟩
          case round =>
            obtain ⟨q, hqg, rfl, rfl⟩ := hrel
            cases gk with
            | zero =>
              obtain rfl : q = T1.length := by omega
              have hsum : (((T1.length : Int) + (TC.length : Int)) == (A.length : Int)) = true := by simpa using HSUM.out
              have hsu := HSUM.out
              go_wp2_with fail
              refine (KA.out _).mono ?_
              rintro e wz ⟨rfl, bz⟩
              go_wp2
              go_ret
              exact ⟨rfl, HBE.out.trans (bz.mono HBE.out.size)⟩
            | succ g =>
              have hq : q < O1.length := by have := HT1.out.1; omega
              obtain ⟨i, hi⟩ : ∃ i, O1[q]? = some i := ⟨_, List.getElem?_eq_getElem hq⟩
              have hil := HLT1.out i (List.mem_of_getElem? hi)
              obtain ⟨g1, o1, c1', e1, hc1⟩ := HRA.out.at (by omega)
              simp only [Value.slice.injEq] at e1
              obtain ⟨rfl, -, rfl⟩ := e1
              have t0 := hc1 q i (HT1.out.2 q i hi)
              have t1 := F7.out.c i hil
              rw [decide_eq_true (HE.out i (List.mem_of_getElem? hi))] at t1
              have d1 : ¬ ((i : Nat) : Int) < 0 := by omega
              have d2 : ((i : Nat) : Int) < (A.length : Int) := by omega
              have d3 : (0 : Int) ≤ ((i : Nat) : Int) := by omega
              have d4 : ¬ (A.length : Int) ≤ ((i : Nat) : Int) := by omega
              have hq' : ((q : Nat) : Int) < (T1.length : Int) := by omega
              clear hi hc1 tk
              go_wp2
              go_roundg g
              case measure => omega
              case rel => exact ⟨q + 1, by omega, by simp, rfl⟩
end Go.Proofs.Ytblpafmcnhhdpaa
