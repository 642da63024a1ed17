/- The law ShutFirst, over what it asks of the package; the conditions that the theorem names. -/
import Derived.Test.YtblpafmcnhhdpaaUl
import Derived.Test.YtblpafmcnhhdpaaHf
namespace Go.Proofs.Ytblpafmcnhhdpaa
open Go.RowKit

set_option maxRecDepth 100000 in
set_option maxHeartbeats 8000000 in
theorem law_first (K : KOrd) (A : List (List Int)) (ad : Option Addr) (cap : Nat) (w : World) (h : Rj w ad A) (hA : A.length ≤ 4611686018427387904) (hx : ∀ l ∈ A, l.length ≤ 4611686018427387904) :
    Calls Try.prog 4 #[.slice ad A.length cap] w fun e w' => e = .returned (.bool true) ∧ Below w.heap.size w w' := by
  obtain ⟨i0, hi0, hz0, hz1, hz2⟩ := info_parts infoInt
  have HSM := Lib.hid (small_any A ad cap w h hA hx)
  have KA : Hid (∀ wx, Calls Try.prog 7 #[] wx fun e w' => e = .returned (.bool true) ∧ Below wx.heap.size wx w') := fun wx => awake_any K wx
  cases hs : sml A with
  | false =>
    rw [hs] at HSM
    clear hs h hA hx K
    go_enter Try.func4, Try.ntmps4
    go_wp2_with fail
    refine HSM.out.mono ?_
    rintro e w1 ⟨rfl, rfl⟩
    go_wp2_with fail
    refine (KA.out _).mono ?_
    rintro e w2 ⟨rfl, b2⟩
    go_wp2
    go_ret
    exact ⟨rfl, b2⟩
  | true =>
    rw [hs] at HSM
    have hs' : (A.map fun l => l.length + 1).sum ≤ 400 := of_decide_eq_true hs
    obtain ⟨hl, hll⟩ := sml_len hs'
    have HX := Lib.hid (K A ad cap w h hs')
    have HS := Lib.hid h
    have HLL := Lib.hid hll
    have KG : Hid (∀ (j : Nat) (wx : World), j < A.length → Below w.heap.size w wx → Calls Try.prog 11 #[.slice ad A.length cap, .int .i64 j] wx fun e w' => ∃ b : Bool, e = .returned (.bool b) ∧ (b = true ↔ Rg A j) ∧ Below wx.heap.size wx w') := fun j wx hj hb => rings_any A ad cap j wx (h.below hb) hj hl hll
    have HPRE := Lib.hid (ord_end A).2.2
    have HND := Lib.hid (ord_nodup A)
    have HLT : Hid (∀ i ∈ ord A, i < A.length) := fun i hi => ord_lt hi
    have HCY : Hid (∀ i, i ∈ cyc A ↔ i < A.length ∧ i ∉ ord A) := fun i => by
      unfold cyc lft
      rw [List.mem_filter]
      simp [mf]
    have HCN : Hid ((cyc A).Nodup) := List.Pairwise.filter _ List.nodup_range
    have HRI : Hid (∀ i, i < A.length → (i ∉ ord A ↔ Rg A i)) := fun i hi => ring_iff hi
    have h1l := ord_len A
    have h2l := cyc_len A
    generalize ord A = O at HX HPRE HND HLT HCY HRI h1l
    generalize cyc A = C at HX HCY HCN h2l
    obtain ⟨TO, hTO⟩ : ∃ TO, TO = O.map fun (i : Nat) => (i : Int) := ⟨_, rfl⟩
    obtain ⟨TC, hTC⟩ : ∃ TC, TC = C.map fun (i : Nat) => (i : Int) := ⟨_, rfl⟩
    rw [← hTO, ← hTC] at HX
    have HTO : Hid (TO.length = O.length ∧ ∀ (q i : Nat), O[q]? = some i → TO[q]? = some (i : Int)) := ⟨by rw [hTO, List.length_map], fun q i hq => by rw [hTO]; simp [hq]⟩
    have HTC : Hid (TC.length = C.length ∧ ∀ (q i : Nat), C[q]? = some i → TC[q]? = some (i : Int)) := ⟨by rw [hTC, List.length_map], fun q i hq => by rw [hTC]; simp [hq]⟩
    have ht1 : TO.length ≤ 400 := by rw [hTO, List.length_map]; omega
    have ht2 : TC.length ≤ 400 := by rw [hTC, List.length_map]; omega
    clear hs hs' hll h hA hx K hTO hTC h1l h2l
    go_enter Try.func4, Try.ntmps4
    go_wp2_with fail
    refine HSM.out.mono ?_
    rintro e w1 ⟨rfl, rfl⟩
    go_wp2_with fail
    refine HX.out.mono ?_
    rintro e w2 ⟨s1, s2, rfl, r1, r2, b2⟩
    obtain ⟨a1, c1, rfl, -⟩ := id r1
    obtain ⟨a2, c2, rfl, -⟩ := id r2
    have b3 := below1 w2 (.cells #[.slice a1 TO.length c1, .slice a2 TC.length c2] 27)
    have n3 := Bk.new w2 #[.slice a1 TO.length c1, .slice a2 TC.length c2] 27
    obtain ⟨w3, hw3⟩ : ∃ w3, w3 = w2.alloc (.cells #[.slice a1 TO.length c1, .slice a2 TC.length c2] 27) := ⟨_, rfl⟩
    rw [← hw3] at b3 n3
    have HW := Lib.hid hw3.symm
    have B3 : Below w1.heap.size w1 w3 := b2.trans (b3.mono b2.size)
    have HPa : Hid (∀ wx, Below w3.heap.size w3 wx → Bk wx w2.heap.size #[.slice a1 TO.length c1, .slice a2 TC.length c2] 27) := fun wx hb => n3.below hb
    have HRa : Hid (∀ wx, Below w3.heap.size w3 wx → Ri wx (.slice a1 TO.length c1) TO) := fun wx hb => (r1.below b3).below hb
    have HRb : Hid (∀ wx, Below w3.heap.size w3 wx → Ri wx (.slice a2 TC.length c2) TC) := fun wx hb => (r2.below b3).below hb
    have HB3 : Hid (∀ wx, Below w3.heap.size w3 wx → Below w1.heap.size w1 wx) := fun wx hb => B3.trans (hb.mono B3.size)
    clear r1 r2 b2 b3 n3 hw3 B3 HX
    go_wp2_with (first
      | rw [HW.out]
      | (at_make; refine wpList_make_full _ rfl _ _ 25 rfl w3.heap.size 3 i0 (.int .i64 0) 1 Try.underlying25 hi0 hz0 hz1 _ _ _ _ A.length rfl rfl rfl rfl (by rw [hz2]; omega) (by unfold maxLen; omega) (Nat.le_refl _) ?_; intro w4 own4 gr4; have b4 : Below w3.heap.size w3 w4 := below_none gr4 (Nat.le_refl _); obtain ⟨q0, q1⟩ := (HPa.out _ b4).c2))
    have F4 := Lib.hid (bn_made own4)
    clear own4 gr4 q0 q1
    generalize hG : w3.heap.size = G at *
    go_loopg [5, 6, 24] TO.length (fun g s5 s6 s24 wx => ∃ (q : Nat) (f : Nat → Int), q + g = TO.length ∧ s24 = .int .i64 q ∧ Below G w3 wx ∧ Bn wx G A.length f ∧ (∀ (p i : Nat), p < q → O[p]? = some i → f i = (p : Int) + 1) ∧ (∀ i, i ∉ O.take q → f i = 0))
    case atStart => exact ⟨0, fun _ => 0, by omega, rfl, b4, F4.out, fun p i hp => by omega, fun i _ => rfl⟩
    case round =>
      clear F4 b4
      obtain ⟨q, f, hqg, rfl, hB, hF, hf1, hf2⟩ := hrel
      have HF := Lib.hid hF
      have HF1 := Lib.hid hf1
      have HF2 := Lib.hid hf2
      clear hF hf1 hf2
      cases gk with
      | succ g =>
        have hq : q < O.length := by have := HTO.out.1; omega
        obtain ⟨i, hi⟩ : ∃ i, O[q]? = some i := ⟨_, List.getElem?_eq_getElem hq⟩
        have hil := HLT.out i (List.mem_of_getElem? hi)
        have hnt : i ∉ O.take q := fun hm => by
          obtain ⟨c, hc, e⟩ := List.mem_iff_getElem.1 hm
          rw [List.length_take] at hc
          rw [List.getElem_take] at e
          obtain ⟨hq2, e2⟩ := List.getElem?_eq_some_iff.1 hi
          exact List.pairwise_iff_getElem.1 HND.out c q (by omega) hq2 (by omega) (e.trans e2.symm)
        obtain ⟨g3, o3, c3, e3, hc3⟩ := (HRa.out wr hB).at (by omega)
        simp only [Value.slice.injEq] at e3
        obtain ⟨rfl, -, rfl⟩ := e3
        have t0 := hc3 q i (HTO.out.2 q i hi)
        have t1 := HF.out.c i hil
        rw [HF2.out i hnt] at t1
        have t2 := Bk.f HF.out i
        have d1 : ¬ ((i : Nat) : Int) < 0 := by omega
        have d2 : ((i : Nat) : Int) < (A.length : Int) := by omega
        have d3 : (0 : Int) ≤ ((i : Nat) : Int) := by omega
        have d4 : ¬ (A.length : Int) ≤ ((i : Nat) : Int) := by omega
        have hq' : ((q : Nat) : Int) < (TO.length : Int) := by omega
        have HSET := Lib.hid (HF.out.set (f' := fun j => if j = i then (q : Int) + 1 else f j) i ((q : Int) + 1) (fun j _ => rfl))
        have HP1 : Hid (∀ (p j : Nat), p < q + 1 → O[p]? = some j → (if j = i then (q : Int) + 1 else f j) = (p : Int) + 1) := fun p j hp hj => by
          by_cases e : p = q
          · subst e
            rw [hi] at hj
            rw [if_pos (Option.some.inj hj).symm]
          · have hji : j ≠ i := fun e2 => by
              subst e2
              exact hnt (List.mem_iff_getElem.2 ⟨p, by rw [List.length_take]; have := (List.getElem?_eq_some_iff.1 hj).1; omega, by rw [List.getElem_take]; exact (List.getElem?_eq_some_iff.1 hj).2⟩)
            rw [if_neg hji]
            exact HF1.out p j (by omega) hj
        have HP2 : Hid (∀ j, j ∉ O.take (q + 1) → (if j = i then (q : Int) + 1 else f j) = 0) := fun j hj => by
          rw [List.take_add_one, hi] at hj
          simp only [Option.toList, List.mem_append, List.mem_singleton, not_or] at hj
          rw [if_neg hj.2]
          exact HF2.out j hj.1
        clear hi hc3 hnt
        go_wp2
        go_roundg g
        case measure => omega
        case rel => exact ⟨q + 1, fun j => if j = i then (q : Int) + 1 else f j, by omega, by simp, hB.setCell (p := ⟨G, i, none⟩) (Nat.le_refl _) _, HSET.out, HP1.out, HP2.out⟩
      | zero =>
        obtain rfl : q = TO.length := by omega
        have G1 : Hid (∀ (p i : Nat), O[p]? = some i → f i = (p : Int) + 1) := fun p i hp => HF1.out p i (by rw [HTO.out.1]; exact (List.getElem?_eq_some_iff.1 hp).1) hp
        have G2 : Hid (∀ i, i ∉ O → f i = 0) := fun i hi => HF2.out i (fun hm => hi (List.mem_of_mem_take hm))
        clear HF1 HF2
        obtain ⟨q0, q1⟩ := (HPa.out _ hB).c2
        go_wp2
        go_loopg [8, 53] TC.length (fun g s8 s53 wx => ∃ (q : Nat) (f : Nat → Int), q + g = TC.length ∧ s53 = .int .i64 q ∧ Below G w3 wx ∧ Bn wx G A.length f ∧ (∀ (p i : Nat), O[p]? = some i → f i = (p : Int) + 1) ∧ (∀ i, i ∈ C.take q → f i = -1) ∧ (∀ i, i ∉ O → i ∉ C.take q → f i = 0))
        case atStart => exact ⟨0, f, by omega, rfl, hB, HF.out, G1.out, fun i hi => by simp at hi, fun i h1 _ => G2.out i h1⟩
        case round =>
          clear HF G1 G2 q0 q1 hB
          obtain ⟨q, f, hqg, rfl, hB, hF, hf1, hf2, hf3⟩ := hrel
          have HF := Lib.hid hF
          have HF1 := Lib.hid hf1
          have HF2 := Lib.hid hf2
          have HF3 := Lib.hid hf3
          clear hF hf1 hf2 hf3
          cases gk with
          | succ g =>
            have hq : q < C.length := by have := HTC.out.1; omega
            obtain ⟨i, hi⟩ : ∃ i, C[q]? = some i := ⟨_, List.getElem?_eq_getElem hq⟩
            obtain ⟨hil, hio⟩ := (HCY.out i).1 (List.mem_of_getElem? hi)
            have hnt : i ∉ C.take q := fun hm => by
              obtain ⟨c, hc, e⟩ := List.mem_iff_getElem.1 hm
              rw [List.length_take] at hc
              rw [List.getElem_take] at e
              obtain ⟨hq2, e2⟩ := List.getElem?_eq_some_iff.1 hi
              exact List.pairwise_iff_getElem.1 HCN.out c q (by omega) hq2 (by omega) (e.trans e2.symm)
            obtain ⟨g3, o3, c3, e3, hc3⟩ := (HRb.out wr hB).at (by omega)
            simp only [Value.slice.injEq] at e3
            obtain ⟨rfl, -, rfl⟩ := e3
            have t0 := hc3 q i (HTC.out.2 q i hi)
            have t1 := HF.out.c i hil
            rw [HF3.out i hio hnt] at t1
            have t2 := Bk.f HF.out i
            have d1 : ¬ ((i : Nat) : Int) < 0 := by omega
            have d2 : ((i : Nat) : Int) < (A.length : Int) := by omega
            have d3 : (0 : Int) ≤ ((i : Nat) : Int) := by omega
            have d4 : ¬ (A.length : Int) ≤ ((i : Nat) : Int) := by omega
            have hq' : ((q : Nat) : Int) < (TC.length : Int) := by omega
            have HSET := Lib.hid (HF.out.set (f' := fun j => if j = i then -1 else f j) i (-1) (fun j _ => rfl))
            have HP1 : Hid (∀ (p j : Nat), O[p]? = some j → (if j = i then -1 else f j) = (p : Int) + 1) := fun p j hj => by
              have hji : j ≠ i := fun e => hio (e ▸ List.mem_of_getElem? hj)
              rw [if_neg hji]
              exact HF1.out p j hj
            have HP2 : Hid (∀ j, j ∈ C.take (q + 1) → (if j = i then -1 else f j) = -1) := fun j hj => by
              rw [List.take_add_one, hi] at hj
              simp only [Option.toList, List.mem_append, List.mem_singleton] at hj
              by_cases e : j = i
              · rw [if_pos e]
              · rw [if_neg e]
                exact HF2.out j (hj.resolve_right e)
            have HP3 : Hid (∀ j, j ∉ O → j ∉ C.take (q + 1) → (if j = i then -1 else f j) = 0) := fun j ho hj => by
              rw [List.take_add_one, hi] at hj
              simp only [Option.toList, List.mem_append, List.mem_singleton, not_or] at hj
              rw [if_neg hj.2]
              exact HF3.out j ho hj.1
            clear hi hc3 hnt hio
            go_wp2
            go_roundg g
            case measure => omega
            case rel => exact ⟨q + 1, fun j => if j = i then -1 else f j, by omega, by simp, hB.setCell (p := ⟨G, i, none⟩) (Nat.le_refl _) _, HSET.out, HP1.out, HP2.out, HP3.out⟩
          | zero =>
            obtain rfl : q = TC.length := by omega
            have HFO : Hid (∀ (p i : Nat), O[p]? = some i → f i = (p : Int) + 1) := HF1.out
            have HFC : Hid (∀ i, i < A.length → i ∉ O → f i = -1) := fun i hi ho => by
              have h9 := HF2.out
              rw [HTC.out.1, List.take_length] at h9
              exact h9 i ((HCY.out i).2 ⟨hi, ho⟩)
            obtain ⟨w7, hw7⟩ : ∃ w7, w7 = wr := ⟨_, rfl⟩
            subst hw7
            have HF7 : Hid (∀ wx, Below w7.heap.size w7 wx → Bn wx G A.length f) := fun wx hb => HF.out.below hb
            have HB7 : Hid (∀ wx, Below w7.heap.size w7 wx → Below w1.heap.size w1 wx) := fun wx hb => (HB3.out _ hB).trans (hb.mono (HB3.out _ hB).size)
            clear HF HF1 HF2 HF3 hB HCY HCN HTO HTC HRa HRb HPa
            go_wp2
            go_loopg [9, 11, 78] A.length (fun g s9 s11 s78 wx => ∃ j : Nat, j + g = A.length ∧ s78 = .int .i64 j ∧ Below w7.heap.size w7 wx)
            case atStart => exact ⟨0, by omega, rfl, Below.refl _ _⟩
            case round =>
              obtain ⟨j, hjg, rfl, hB8⟩ := hrel
              cases gk with
              | zero =>
                obtain rfl : j = A.length := by omega
                go_wp2_with fail
                refine (KA.out _).mono ?_
                rintro e wz ⟨rfl, bz⟩
                go_wp2
                go_ret
                exact ⟨rfl, (HB7.out _ hB8).trans (bz.mono (HB7.out _ hB8).size)⟩
              | succ g =>
                have hj : j < A.length := by omega
                obtain ⟨lj, hlj⟩ : ∃ lj, A[j]? = some lj := ⟨_, List.getElem?_eq_getElem hj⟩
                obtain ⟨b, of, svj, rfl, f1', hrj⟩ := HS.out.at j lj hlj
                have f1 := ((HB7.out _ hB8).cell (p := ⟨b, _, none⟩) (World.block_lt_of_cell? w1 _ f1')).trans f1'
                obtain ⟨saj, scj, rfl, -⟩ := id hrj
                have hljl := HLL.out lj (List.mem_of_getElem? hlj)
                have hjj : (j : Int) < (A.length : Int) := by omega
                have hj0 : (0 : Int) ≤ (j : Int) := by omega
                have HCJ : Hid (∀ wx, Below w7.heap.size w7 wx → wx.cell? ⟨G, j, none⟩ = some (.int .i64 (f j))) := fun wx hb => (HF7.out _ hb).c j hj
                have t8 := HCJ.out _ hB8
                have hfj : (f j < 0 ↔ j ∉ O) ∧ f j ≠ 0 := by
                  by_cases hm : j ∈ O
                  · obtain ⟨p, hp⟩ := List.getElem?_of_mem hm
                    have := HFO.out p j hp
                    exact ⟨⟨fun h => by omega, fun h => absurd hm h⟩, by omega⟩
                  · have := HFC.out j hj hm
                    exact ⟨⟨fun _ => hm, fun _ => by omega⟩, by omega⟩
                have hfe : (f j == 0) = false := beq_false_of_ne hfj.2
                have HFJ := Lib.hid hfj.1
                have HLK : Hid (∀ k ∈ lj, vd A.length j k = true → 0 < f j → 0 ≤ f k.toNat ∧ f k.toNat ≤ f j) := fun k hk hv hp => by
                  have hm : j ∈ O := Classical.byContradiction fun hn => by have := hfj.1.2 hn; omega
                  obtain ⟨p, hpp⟩ := List.getElem?_of_mem hm
                  have h9 := HPRE.out p j hpp k (by rw [hlj]; exact hk) hv
                  obtain ⟨c, hc, e⟩ := List.mem_iff_getElem.1 h9
                  rw [List.length_take] at hc
                  rw [List.getElem_take] at e
                  have h1 := HFO.out c k.toNat (by rw [← e]; exact List.getElem?_eq_getElem (by omega))
                  have h2 := HFO.out p j hpp
                  omega
                have HRJ : Hid (∀ wx, Below w7.heap.size w7 wx → Ri wx (.slice saj lj.length scj) lj) := fun wx hb => hrj.below (HB7.out _ hb)
                clear hlj hrj hfj f1'
                go_wp2
                go_loopg [11, 91] lj.length (fun g s11 s91 wx => ∃ c : Nat, c + g = lj.length ∧ s91 = .int .i64 c ∧ Below w7.heap.size w7 wx)
                case atStart => exact ⟨0, by omega, rfl, hB8⟩
                case round =>
                  clear t8 f1 hB8
                  obtain ⟨c, hcg, rfl, hB9⟩ := hrel
                  have t8 := HCJ.out _ hB9
                  cases gk with
                  | zero =>
                    obtain rfl : c = lj.length := by omega
                    go_wp2
                    have HRG : Hid (∀ b : Bool, (b = true ↔ Rg A j) → b = decide (f j < 0)) := fun b hb => by
                      have h1 := HRI.out j hj
                      have h2 := HFJ.out
                      by_cases h3 : f j < 0
                      · rw [decide_eq_true h3, hb.2 (h1.1 (h2.1 h3))]
                      · have h4 : b = false := by
                          cases hbb : b with
                          | false => rfl
                          | true => exact absurd (h2.2 (h1.2 (hb.1 hbb))) h3
                        rw [decide_eq_false h3, h4]
                    have XS : Hid (∀ wx, Below w7.heap.size w7 wx → (wx.cell? ⟨G, j, none⟩ = some (.int .i64 (f j)))) := HCJ.out
                    have b9d := Below.drew hB9
                    by_cases hfn : f j < 0
                    · rw [decide_eq_true hfn] at HRG
                      refine wp_region_held_drew (S := (fun wx => wx.cell? ⟨G, j, none⟩ = some (.int .i64 (f j)))) (by kernel_rfl) (XS.out _ b9d) (fun hHeld => ?_)
                      generalize wr.drew = v0 at *
                      refine wpAnyH_take (i := 0) (oi := { dst := some 134, op := Op.move (Operand.tmp 4), type := 25, pos := _, after := #[], guard := none }) (v := ?tra1) rfl (by kernel_rfl) (by kernel_rfl) (by kernel_rfl) (fun _ _ _ h => h) (Or.inl ⟨by rfl, ?ura1⟩) (by assumption) ?rra1
                      case ura1 => (intro w hSw; (try dsimp only at hSw); go_simp; (try with_reducible rfl))
                      simp only [Act.put, List.setIfInBounds_toArray, List.set_cons_zero, List.set_cons_succ]
                      refine wpAnyH_take (i := 1) (oi := { dst := some 135, op := Op.move (Operand.tmp 9), type := 3, pos := _, after := #[], guard := none }) (v := ?tra2) rfl (by kernel_rfl) (by kernel_rfl) (by kernel_rfl) (fun _ _ _ h => h) (Or.inl ⟨by rfl, ?ura2⟩) (by assumption) ?rra2
                      case ura2 => (intro w hSw; (try dsimp only at hSw); go_simp; (try with_reducible rfl))
                      simp only [Act.put, List.setIfInBounds_toArray, List.set_cons_zero, List.set_cons_succ]
                      refine wpAnyH_take (i := 2) (oi := { dst := some 136, op := Op.indexAddr 25 (Operand.tmp 134) (Operand.tmp 135), type := 0, pos := _, after := #[{ on := 0, ground := Ground.data }, { on := 1, ground := Ground.data }], guard := none }) (v := ?tra3) rfl (by kernel_rfl) (by kernel_rfl) (by kernel_rfl) (fun _ _ _ h => h) (Or.inl ⟨by rfl, ?ura3⟩) (by assumption) ?rra3
                      case ura3 => (intro w hSw; (try dsimp only at hSw); go_simp; (try with_reducible rfl))
                      simp only [Act.put, List.setIfInBounds_toArray, List.set_cons_zero, List.set_cons_succ]
                      refine wpAnyH_take (i := 3) (oi := { dst := some 137, op := Op.load 3 (Operand.tmp 136), type := 3, pos := _, after := #[{ on := 2, ground := Ground.data }], guard := none }) (v := ?tra4) rfl (by kernel_rfl) (by kernel_rfl) (by kernel_rfl) (fun _ _ _ h => h) (Or.inl ⟨by rfl, ?ura4⟩) (by assumption) ?rra4
                      case ura4 => (intro w hSw; (try dsimp only at hSw); go_simp; (try with_reducible rfl))
                      simp only [Act.put, List.setIfInBounds_toArray, List.set_cons_zero, List.set_cons_succ]
                      refine wpAnyH_take (i := 4) (oi := { dst := some 138, op := Op.binOp BinOp.lss 3 (Operand.tmp 137) (Operand.const (Value.int IntKind.i64 0)) 3, type := 4, pos := _, after := #[{ on := 3, ground := Ground.data }], guard := none }) (v := ?tra5) rfl (by kernel_rfl) (by kernel_rfl) (by kernel_rfl) (fun _ _ _ h => h) (Or.inl ⟨by rfl, ?ura5⟩) (by assumption) ?rra5
                      case ura5 => (intro w hSw; (try dsimp only at hSw); go_simp; (try with_reducible rfl))
                      simp only [Act.put, List.setIfInBounds_toArray, List.set_cons_zero, List.set_cons_succ]
                      refine wpAnyH_take (i := 5) (oi := { dst := some 139, op := Op.move (Operand.tmp 0), type := 22, pos := _, after := #[], guard := none }) (v := ?tra6) rfl (by kernel_rfl) (by kernel_rfl) (by kernel_rfl) (fun _ _ _ h => h) (Or.inl ⟨by rfl, ?ura6⟩) (by assumption) ?rra6
                      case ura6 => (intro w hSw; (try dsimp only at hSw); go_simp; (try with_reducible rfl))
                      simp only [Act.put, List.setIfInBounds_toArray, List.set_cons_zero, List.set_cons_succ]
                      refine wpAnyH_take (i := 6) (oi := { dst := some 140, op := Op.move (Operand.tmp 9), type := 3, pos := _, after := #[], guard := none }) (v := ?tra7) rfl (by kernel_rfl) (by kernel_rfl) (by kernel_rfl) (fun _ _ _ h => h) (Or.inl ⟨by rfl, ?ura7⟩) (by assumption) ?rra7
                      case ura7 => (intro w hSw; (try dsimp only at hSw); go_simp; (try with_reducible rfl))
                      simp only [Act.put, List.setIfInBounds_toArray, List.set_cons_zero, List.set_cons_succ]
                      refine wpAnyH_ready (rs := [7]) (by kernel_rfl) (by simp) ?_
                      refine AllReadyH.cons (o := { dst := some 141, op := Op.call { callee := Callee.value (Operand.func 11), args := #[Operand.tmp 139, Operand.tmp 140], argTypes := #[22, 3] }, type := 4, pos := _, after := #[{ on := 5, ground := Ground.data }, { on := 6, ground := Ground.data }], guard := none }) rfl (fun K hK => ?_) AllReadyH.nil
                      go_simp
                      refine (KG.out j _ hj (HB7.out _ b9d)).mono ?_
                      rintro e v1 ⟨bb, rfl, hbb, x1⟩
                      have b1 := b9d.trans (x1.mono b9d.size)
                      obtain rfl := HRG.out bb hbb
                      clear hbb
                      go_wp2_with fail
                      refine hK.out _ _ (XS.out _ b1) (fun hH1 => ?_)
                      clear hK K
                      (try simp only [Act.put, List.setIfInBounds_toArray, List.set_cons_zero, List.set_cons_succ])
                      refine wpAnyH_take (i := 8) (oi := { dst := some 142, op := Op.binOp BinOp.neq 4 (Operand.tmp 138) (Operand.tmp 141) 4, type := 4, pos := _, after := #[{ on := 4, ground := Ground.data }, { on := 7, ground := Ground.data }], guard := none }) (v := ?tra8) rfl (by kernel_rfl) (by kernel_rfl) (by kernel_rfl) (fun _ _ _ h => h) (Or.inl ⟨by rfl, ?ura8⟩) (by assumption) ?rra8
                      case ura8 => (intro w hSw; (try dsimp only at hSw); go_simp; (try with_reducible rfl))
                      simp only [Act.put, List.setIfInBounds_toArray, List.set_cons_zero, List.set_cons_succ]
                      refine wpAnyH_done (by kernel_rfl) ?_ _
                      go_wp2_with fail
                      go_roundg g
                      case measure => omega
                      case rel => exact ⟨j + 1, by omega, by simp, b1⟩
                    · rw [decide_eq_false hfn] at HRG
                      refine wp_region_held_drew (S := (fun wx => wx.cell? ⟨G, j, none⟩ = some (.int .i64 (f j)))) (by kernel_rfl) (XS.out _ b9d) (fun hHeld => ?_)
                      generalize wr.drew = v0 at *
                      refine wpAnyH_take (i := 0) (oi := { dst := some 134, op := Op.move (Operand.tmp 4), type := 25, pos := _, after := #[], guard := none }) (v := ?trb9) rfl (by kernel_rfl) (by kernel_rfl) (by kernel_rfl) (fun _ _ _ h => h) (Or.inl ⟨by rfl, ?urb9⟩) (by assumption) ?rrb9
                      case urb9 => (intro w hSw; (try dsimp only at hSw); go_simp; (try with_reducible rfl))
                      simp only [Act.put, List.setIfInBounds_toArray, List.set_cons_zero, List.set_cons_succ]
                      refine wpAnyH_take (i := 1) (oi := { dst := some 135, op := Op.move (Operand.tmp 9), type := 3, pos := _, after := #[], guard := none }) (v := ?trb10) rfl (by kernel_rfl) (by kernel_rfl) (by kernel_rfl) (fun _ _ _ h => h) (Or.inl ⟨by rfl, ?urb10⟩) (by assumption) ?rrb10
                      case urb10 => (intro w hSw; (try dsimp only at hSw); go_simp; (try with_reducible rfl))
                      simp only [Act.put, List.setIfInBounds_toArray, List.set_cons_zero, List.set_cons_succ]
                      refine wpAnyH_take (i := 2) (oi := { dst := some 136, op := Op.indexAddr 25 (Operand.tmp 134) (Operand.tmp 135), type := 0, pos := _, after := #[{ on := 0, ground := Ground.data }, { on := 1, ground := Ground.data }], guard := none }) (v := ?trb11) rfl (by kernel_rfl) (by kernel_rfl) (by kernel_rfl) (fun _ _ _ h => h) (Or.inl ⟨by rfl, ?urb11⟩) (by assumption) ?rrb11
                      case urb11 => (intro w hSw; (try dsimp only at hSw); go_simp; (try with_reducible rfl))
                      simp only [Act.put, List.setIfInBounds_toArray, List.set_cons_zero, List.set_cons_succ]
                      refine wpAnyH_take (i := 3) (oi := { dst := some 137, op := Op.load 3 (Operand.tmp 136), type := 3, pos := _, after := #[{ on := 2, ground := Ground.data }], guard := none }) (v := ?trb12) rfl (by kernel_rfl) (by kernel_rfl) (by kernel_rfl) (fun _ _ _ h => h) (Or.inl ⟨by rfl, ?urb12⟩) (by assumption) ?rrb12
                      case urb12 => (intro w hSw; (try dsimp only at hSw); go_simp; (try with_reducible rfl))
                      simp only [Act.put, List.setIfInBounds_toArray, List.set_cons_zero, List.set_cons_succ]
                      refine wpAnyH_take (i := 4) (oi := { dst := some 138, op := Op.binOp BinOp.lss 3 (Operand.tmp 137) (Operand.const (Value.int IntKind.i64 0)) 3, type := 4, pos := _, after := #[{ on := 3, ground := Ground.data }], guard := none }) (v := ?trb13) rfl (by kernel_rfl) (by kernel_rfl) (by kernel_rfl) (fun _ _ _ h => h) (Or.inl ⟨by rfl, ?urb13⟩) (by assumption) ?rrb13
                      case urb13 => (intro w hSw; (try dsimp only at hSw); go_simp; (try with_reducible rfl))
                      simp only [Act.put, List.setIfInBounds_toArray, List.set_cons_zero, List.set_cons_succ]
                      refine wpAnyH_take (i := 5) (oi := { dst := some 139, op := Op.move (Operand.tmp 0), type := 22, pos := _, after := #[], guard := none }) (v := ?trb14) rfl (by kernel_rfl) (by kernel_rfl) (by kernel_rfl) (fun _ _ _ h => h) (Or.inl ⟨by rfl, ?urb14⟩) (by assumption) ?rrb14
                      case urb14 => (intro w hSw; (try dsimp only at hSw); go_simp; (try with_reducible rfl))
                      simp only [Act.put, List.setIfInBounds_toArray, List.set_cons_zero, List.set_cons_succ]
                      refine wpAnyH_take (i := 6) (oi := { dst := some 140, op := Op.move (Operand.tmp 9), type := 3, pos := _, after := #[], guard := none }) (v := ?trb15) rfl (by kernel_rfl) (by kernel_rfl) (by kernel_rfl) (fun _ _ _ h => h) (Or.inl ⟨by rfl, ?urb15⟩) (by assumption) ?rrb15
                      case urb15 => (intro w hSw; (try dsimp only at hSw); go_simp; (try with_reducible rfl))
                      simp only [Act.put, List.setIfInBounds_toArray, List.set_cons_zero, List.set_cons_succ]
                      refine wpAnyH_ready (rs := [7]) (by kernel_rfl) (by simp) ?_
                      refine AllReadyH.cons (o := { dst := some 141, op := Op.call { callee := Callee.value (Operand.func 11), args := #[Operand.tmp 139, Operand.tmp 140], argTypes := #[22, 3] }, type := 4, pos := _, after := #[{ on := 5, ground := Ground.data }, { on := 6, ground := Ground.data }], guard := none }) rfl (fun K hK => ?_) AllReadyH.nil
                      go_simp
                      refine (KG.out j _ hj (HB7.out _ b9d)).mono ?_
                      rintro e v1 ⟨bb, rfl, hbb, x1⟩
                      have b1 := b9d.trans (x1.mono b9d.size)
                      obtain rfl := HRG.out bb hbb
                      clear hbb
                      go_wp2_with fail
                      refine hK.out _ _ (XS.out _ b1) (fun hH1 => ?_)
                      clear hK K
                      (try simp only [Act.put, List.setIfInBounds_toArray, List.set_cons_zero, List.set_cons_succ])
                      refine wpAnyH_take (i := 8) (oi := { dst := some 142, op := Op.binOp BinOp.neq 4 (Operand.tmp 138) (Operand.tmp 141) 4, type := 4, pos := _, after := #[{ on := 4, ground := Ground.data }, { on := 7, ground := Ground.data }], guard := none }) (v := ?trb16) rfl (by kernel_rfl) (by kernel_rfl) (by kernel_rfl) (fun _ _ _ h => h) (Or.inl ⟨by rfl, ?urb16⟩) (by assumption) ?rrb16
                      case urb16 => (intro w hSw; (try dsimp only at hSw); go_simp; (try with_reducible rfl))
                      simp only [Act.put, List.setIfInBounds_toArray, List.set_cons_zero, List.set_cons_succ]
                      refine wpAnyH_done (by kernel_rfl) ?_ _
                      go_wp2_with fail
                      go_roundg g
                      case measure => omega
                      case rel => exact ⟨j + 1, by omega, by simp, b1⟩
                  | succ gc =>
                    have hc : c < lj.length := by omega
                    obtain ⟨k, hk⟩ : ∃ k, lj[c]? = some k := ⟨_, List.getElem?_eq_getElem hc⟩
                    obtain ⟨g5, o5, c5, e5, hc5⟩ := (HRJ.out _ hB9).at (by omega)
                    simp only [Value.slice.injEq] at e5
                    obtain ⟨rfl, -, rfl⟩ := e5
                    have t0 := hc5 c k hk
                    have hcc : (c : Int) < (lj.length : Int) := by omega
                    have hlk := HLK.out k (List.mem_of_getElem? hk)
                    clear hk hc5
                    by_cases k0 : 0 ≤ k
                    · by_cases k1 : k < (A.length : Int)
                      · by_cases k2 : k = (j : Int)
                        · have e2 : (k != (j : Int)) = false := by simp [k2]
                          clear k2 hlk
                          go_wp2
                          go_quiet (fail)
                          go_wp2
                          go_roundg gc
                          case measure => omega
                          case rel => exact ⟨c + 1, by omega, by simp, by first | exact hB9 | exact below_drewN hB9 _⟩
                        · have e2 : (k != (j : Int)) = true := by simp [k2]
                          have hv : vd A.length j k = true := by unfold vd; rw [decide_eq_true k0, decide_eq_true k1, decide_eq_true k2]; rfl
                          have hlk2 := hlk hv
                          clear k2 hv hlk
                          obtain ⟨kn, rfl⟩ := Int.eq_ofNat_of_zero_le k0
                          have t9 := (HF7.out _ hB9).c kn (by omega)
                          simp only [Int.toNat_natCast] at hlk2
                          by_cases hp : 0 < f j
                          · obtain ⟨h1, h2⟩ := hlk2 hp
                            have h3 : ¬ f kn < 0 := by omega
                            have h4 : ¬ f j < f kn := by omega
                            clear hlk2
                            go_wp2
                            go_quiet (fail)
                            go_wp2
                            go_roundg gc
                            case measure => omega
                            case rel => exact ⟨c + 1, by omega, by simp, by first | exact hB9 | exact below_drewN hB9 _⟩
                          · clear hlk2
                            have hp3 : f j < 0 := by
                              have h9 : f j ≠ 0 := by simpa using hfe
                              omega
                            have hp4 : ¬ f j > 0 := by omega
                            have hp5 : decide (0 < f j) = false := decide_eq_false hp
                            go_wp2
                            go_quiet (fail)
                            go_wp2
                            go_roundg gc
                            case measure => omega
                            case rel => exact ⟨c + 1, by omega, by simp, by first | exact hB9 | exact below_drewN hB9 _⟩
                      · clear hlk
                        have hk5 : decide (k < (A.length : Int)) = false := decide_eq_false k1
                        have hk6 : (A.length : Int) ≤ k := by omega
                        go_wp2
                        go_quiet (fail)
                        go_wp2
                        go_roundg gc
                        case measure => omega
                        case rel => exact ⟨c + 1, by omega, by simp, by first | exact hB9 | exact below_drewN hB9 _⟩
                    · clear hlk
                      have hk5 : decide (0 ≤ k) = false := decide_eq_false k0
                      have hk6 : k < 0 := by omega
                      go_wp2
                      go_quiet (fail)
                      go_wp2
                      go_roundg gc
                      case measure => omega
                      case rel => exact ⟨c + 1, by omega, by simp, by first | exact hB9 | exact below_drewN hB9 _⟩
end Go.Proofs.Ytblpafmcnhhdpaa
