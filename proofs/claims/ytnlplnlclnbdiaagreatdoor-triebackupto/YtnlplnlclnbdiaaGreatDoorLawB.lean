/- The law TrieBack at every input within the sizes named; what is asked of the world: the two tables of unicode/utf8 as their text lays them. -/
import Derived.Test.YtnlplnlclnbdiaaGreatDoorWa
import Derived.Test.YtnlplnlclnbdiaaGreatDoorNg
namespace Go.Proofs.YtnlplnlclnbdiaaGreatDoor
open Go.RowKit Tp Go.Maps Go.Shelf

theorem back_list {A : List (Bs × Int)} {f : Bs} {i : Int} (h : (isFilter f && !Sof A (lvs f) i) = true) : remA (addA A f i) f i = A := by
  simp only [Bool.and_eq_true, Bool.not_eq_true'] at h
  have hn : (f, i) ∉ A := fun c => by rw [Sof_lvs.2 c] at h; cases h.2
  unfold remA addA
  rw [if_pos ⟨h.1, hn⟩, List.erase_append_right _ hn]; simp
theorem back_same {A : List (Bs × Int)} {f : Bs} {i : Int} (h : (isFilter f && !Sof A (lvs f) i) = false) : addA A f i = A := by
  unfold addA
  rw [if_neg]
  rintro ⟨h1, h2⟩
  have : Sof A (lvs f) i = false := by
    cases hs : Sof A (lvs f) i with
    | false => rfl
    | true => exact absurd (Sof_lvs.1 hs) h2
  rw [h1, this] at h; cases h

set_option maxRecDepth 100000 in
set_option maxHeartbeats 4000000 in
theorem law_back (w : World) (v vn : Value) (X : List Ac) (Ns : List ByteArray) (f : ByteArray) (i : Int) (hX : ActRow w v X) (hok : ActOk X) (hN : NamesAt w vn Ns) (hNs : ∀ x ∈ Ns, x.size ≤ 9223372036854775807) (hf : f.size ≤ 9223372036854775807) (hi : (Lit.int .i64 i).wf = true)
    (hlX : X.length ≤ 1048576) (hlN : Ns.length ≤ 1048576) (hT : Tabs w) :
    Calls Tryz.prog 5 #[v, .string f, .int .i64 i, vn] w fun e w' => e = .returned (.bool true) ∧ Below w.heap.size w w' := by
  have hrl := runA_len X
  have KB := Lib.hid (built_any w v X hX hok (by omega) hT)
  have KN : Hid (∀ W t lb K, TL w W t lb (runA X) (runA X) K → Calls Tryz.prog 16 #[.pointer (some ⟨t, 0, none⟩)] W fun e w' => ∃ ps : List Pth, e = .returned (.int .i64 (ps.length : Nat)) ∧ (ps.Nodup ∧ ∀ q, q ∈ ps ↔ q ≠ [] ∧ ∃ e ∈ runA X, q <+: lvs e.1) ∧ Below W.heap.size W w') := fun W t lb K ⟨_, nd, own, n, v, q2, _⟩ => (nodes_any q2 (by omega)).mono fun e w' ⟨ps, r1, r2, r3, r4⟩ => ⟨ps, r1, ⟨r2, r3⟩, r4⟩
  have hsn : ∃ a c, vn = .slice a Ns.length c := by rcases hN with ⟨⟨_, _, rfl⟩, rfl⟩ | ⟨g, o, c, rfl, _⟩ <;> exact ⟨_, _, rfl⟩
  obtain ⟨an, cn, rfl⟩ := hsn
  have hsv : ∃ a c, v = .slice a X.length c := by rcases hX with ⟨⟨_, _, rfl⟩, rfl⟩ | ⟨g, o, c, rfl, _⟩ <;> exact ⟨_, _, rfl⟩
  obtain ⟨ax, cx, rfl⟩ := hsv
  go_enter Tryz.func5, Tryz.ntmps5
  go_wp2_with (first
    | (go_at_call 12; refine KB.out.mono ?_; rintro e w1 ⟨t, lb, rfl, h1⟩)
    | (go_at_call 16; refine (KN.out _ t lb _ h1).mono ?_; rintro e wb ⟨ps0, rfl, hps0, hbn⟩; have h2 := h1.below hbn; clear h1))
  have HH : Hid (Has w wb t (runA X) (X.length * 65537)) := by obtain ⟨q1, nd, own, n, v, q2, _⟩ := h2; exact ⟨q1, nd, own, n, q2⟩
  have hbw := h2.1
  have HP0 := Lib.hid hps0
  clear hps0 hbn KB
  have KM : Hid (∀ W (j : Nat) (hj : j < Ns.length), Below wb.heap.size wb W → Calls Tryz.prog 15 #[.pointer (some ⟨t, 0, none⟩), .string Ns[j]] W fun e w' => ∃ a n c l, e = .returned (.slice a n c) ∧ Heard (runA X) Ns[j] l ∧ IntRow w' (.slice a n c) l ∧ (∀ g, (Value.slice a n c).ownBlock = some g → W.heap.size ≤ g ∧ g < w'.heap.size) ∧ Below W.heap.size W w') := fun W j hj hW =>
    (has_match (HH.out.below hW) hT Ns[j] (hNs _ (List.getElem_mem hj)) (by unfold maxLen; omega) (by omega)).mono fun e w' ⟨v, l, q1, q2, q3, q4, q5, q6⟩ => by
      obtain ⟨a, n, c, rfl⟩ : ∃ a n c, v = .slice a n c := by rcases q5.row with ⟨rfl, _⟩ | ⟨_, _, _, rfl, _⟩ <;> exact ⟨_, _, _, rfl⟩
      refine ⟨a, n, c, l, q1, ⟨q2, q3⟩, q5.row, ?_, q6⟩
      intro g e
      obtain ⟨_, ⟨e', _⟩ | ⟨g', c, cur, e', r3, r4, _⟩⟩ := q5
      · rw [e'] at e; cases e
      · rw [e'] at e; cases e; exact ⟨r3, (Array.getElem?_eq_some_iff.1 r4).1⟩
  obtain ⟨i0, hi0, hz0, hz1, hz2⟩ := info_parts infoSl
  go_loopg [12, 13] Ns.length (fun gk s13 s14 wx => ∃ (j : Nat) (vs : List Value) (ls : List (List Int)), j + gk = Ns.length ∧ s14 = .int .i64 j ∧ vs.length = j ∧ Below wb.heap.size wb wx ∧ Was wb wx s13 vs ls ∧ ∀ (k : Nat) nm l, Ns[k]? = some nm → ls[k]? = some l → Heard (runA X) nm l)
  case atStart => exact ⟨0, [], [], by omega, rfl, rfl, Below.refl _ _, Was.start _ _, by simp⟩
  case round =>
    obtain ⟨j, vs, ls, hjg, rfl, hvl, hB, hW, hH⟩ := hrel
    cases gk with
    | zero =>
      obtain rfl : j = Ns.length := by omega
      obtain ⟨aw, cw, rfl, _⟩ := hW.cell
      have ADD : Hid (Calls Tryz.prog 13 #[.pointer (some ⟨t, 0, none⟩), .string f, .int .i64 i] wr fun e w' => e = .returned (.bool (isFilter (tl f) && !Sof (runA X) (lvs (tl f)) i)) ∧ ((isFilter (tl f) && !Sof (runA X) (lvs (tl f)) i) = false → TL w w' t lb (runA X) (runA X) (X.length * 65537 + 65537) ∧ Was wb w' (.slice aw vs.length cw) vs ls) ∧
          ((isFilter (tl f) && !Sof (runA X) (lvs (tl f)) i) = true → Calls Tryz.prog 19 #[.pointer (some ⟨t, 0, none⟩), .string f, .int .i64 i] w' fun e w'' => e = .returned (.bool true) ∧ TL w w'' t lb (runA X) (runA X) (X.length * 65537 + 65537) ∧ Was wb w'' (.slice aw vs.length cw) vs ls)) := by
        obtain ⟨q1, nd, own, n, v, q2, q3, q4, q5, q6⟩ := h2
        have hBw : Below w.heap.size w wr := hbw.trans (hB.mono hbw.size)
        have hlt : ∀ k, wb.heap.size ≤ k → ¬ Bl own k := fun k hk c => by have := q2.g.lt k c; omega
        refine (add_any (q2.below hB) hBw.size f hf (hT.from (Nat.le_refl _) hBw) i hi (by unfold maxLen; omega)).mono fun e w' ⟨r1, ⟨nd', own', n', r2, r3⟩, r4⟩ => ⟨r1, fun hb => ?_, fun hb => ?_⟩
        · rw [back_same hb] at r2
          exact ⟨tl_t hBw (q2.below hB) (q3.below hB) q4 q5 q6 r2 r3 r4, hW.but r4 hlt⟩
        · have hBw' : w.heap.size ≤ w'.heap.size := Nat.le_trans hBw.size r4.size
          refine (rem_any r2 hBw' f hf ?_ i hi).mono fun e w'' ⟨s1, ⟨nd'', own'', n'', s2, s3⟩, s4⟩ => ?_
          · exact hT.from (Nat.le_refl _) ⟨r4.os.trans hBw.os, r4.tape.trans hBw.tape, r4.output.trans hBw.output, hBw', fun k hk => (r4.block k (by have := hBw.size; omega) (fun c => by have := q2.bas k c; omega)).trans (hBw.block k hk)⟩
          · rw [back_list hb] at s2
            have hBB : But (Bl own) wr w'' := r4.trans s4 (fun k hk c => (r3 k c).resolve_right (by omega))
            have hGG : Gro wr own own'' := r3.trans s3 r4.size
            refine ⟨?_, tl_t hBw (q2.below hB) (q3.below hB) q4 q5 q6 s2 hGG hBB, hW.but hBB hlt⟩
            rw [s1]
            have : Sof (addA (runA X) (tl f) i) (lvs (tl f)) i = true := Sof_lvs.2 (by
              simp only [Bool.and_eq_true, Bool.not_eq_true'] at hb
              unfold addA
              rw [if_pos ⟨hb.1, fun c => by rw [Sof_lvs.2 c] at hb; cases hb.2⟩]; simp)
            rw [this]
      have KA := Lib.hid awake_any
      have KS := Lib.hid same_any
      have FIN : Hid (∀ w4, TL w w4 t lb (runA X) (runA X) (X.length * 65537 + 65537) ∧ Was wb w4 (.slice aw vs.length cw) vs ls → Has w w4 t (runA X) (X.length * 65537 + 65537)) := fun w4 h => by obtain ⟨⟨q1, nd, own, n, v, q2, _⟩, _⟩ := h; exact ⟨q1, nd, own, n, q2⟩
      cases hbb : (isFilter (tl f) && !Sof (runA X) (lvs (tl f)) i) with
      | false =>
        rw [hbb] at ADD
        go_wp2_with (first
          | (go_at_call 13; refine ADD.out.mono ?_; rintro e w4 ⟨rfl, h4, _⟩; have h4' := h4 rfl; clear h4))
        have TL4 := Lib.hid h4'.1
        have hW4 := h4'.2
        have H3 := Lib.hid (FIN.out _ h4')
        have hb4 := H3.out.1
        clear h4' ADD KM hW hB HH h2
        have KM : Hid (∀ W (j : Nat) (hj : j < Ns.length), Below w4.heap.size w4 W → Calls Tryz.prog 15 #[.pointer (some ⟨t, 0, none⟩), .string Ns[j]] W.drew fun e w' => ∃ a n c l, e = .returned (.slice a n c) ∧ Heard (runA X) Ns[j] l ∧ IntRow w' (.slice a n c) l ∧ l.length ≤ X.length + 2 ∧ Below w4.heap.size w4 w') := fun W j hj hW =>
          (has_match (H3.out.below (Below.drew hW)) hT Ns[j] (hNs _ (List.getElem_mem hj)) (by unfold maxLen; omega) (by omega)).mono fun e w' ⟨v, l, q1, q2, q3, q4, q5, q6⟩ => by
            obtain ⟨a, n, c, rfl⟩ : ∃ a n c, v = .slice a n c := by rcases q5.row with ⟨rfl, _⟩ | ⟨_, _, _, rfl, _⟩ <;> exact ⟨_, _, _, rfl⟩
            exact ⟨a, n, c, l, q1, ⟨q2, q3⟩, q5.row, by omega, (Below.drew hW).trans (q6.mono (Below.drew hW).size)⟩
        go_loopg [14] Ns.length (fun gk s15 wx => ∃ j : Nat, j + gk = Ns.length ∧ s15 = .int .i64 j ∧ Below w4.heap.size w4 wx)
        case atStart => exact ⟨0, by omega, rfl, Below.refl _ _⟩
        case round =>
          obtain ⟨j, hjg2, rfl, hB⟩ := hrel
          have hBw : Below w.heap.size w wr := hb4.trans (hB.mono hb4.size)
          cases gk with
          | zero =>
            obtain rfl : j = Ns.length := by omega
            have TLr := TL4.out.below hB
            have KNr := Lib.hid (KN.out _ t lb _ TLr)
            have KWh : Hid (∀ W', Below wr.heap.size wr W' → Calls Tryz.prog 10 #[.pointer (some ⟨t, 0, none⟩), .pointer (some ⟨lb, 0, none⟩)] W' fun e w' => e = .returned (.bool true) ∧ Below wr.heap.size wr w') := fun W' hW' => (whole_any (TLr.below hW') (Same.refl _) (by omega)).mono fun e w' ⟨r1, r2⟩ => ⟨r1, hW'.trans (r2.mono hW'.size)⟩
            clear TLr
            go_wp2_with (first
              | (go_at_call 16; refine KNr.out.mono ?_; rintro e w5 ⟨ps1, rfl, hps1, h5⟩; have e5 : ps1.length = ps0.length := nodup_eq ps1 ps0 hps1.1 HP0.out.1 (fun q => by rw [hps1.2 q, HP0.out.2 q]); rw [e5]; clear e5 hps1)
              | (go_at_call 10; refine (KWh.out _ h5).mono ?_; rintro e w6 ⟨rfl, h6⟩; have h7 := hBw.trans (h6.mono hBw.size))
              | (go_at_call 11; refine (KA.out _ (hT.from (Nat.le_refl _) h7)).mono ?_; rintro e w8 ⟨rfl, h8⟩))
            go_ret
            exact ⟨rfl, h7.trans (h8.mono h7.size)⟩
          | succ gq =>
            have hj : j < Ns.length := by omega
            have hj' : ((j : Nat) : Int) < (Ns.length : Int) := by omega
            obtain ⟨gN, oN, cN, e0, hgN, hcN⟩ := hN.resolve_left (fun h0 => by rw [h0.2] at hj; simp at hj)
            simp only [Value.slice.injEq, true_and] at e0
            obtain ⟨rfl, rfl⟩ := e0
            obtain ⟨vj, hvj⟩ : ∃ v, vs[j]? = some v := ⟨_, List.getElem?_eq_getElem (by omega)⟩
            obtain ⟨lj, hlj⟩ : ∃ l, ls[j]? = some l := ⟨_, List.getElem?_eq_getElem (by have := hW4.len; omega)⟩
            have hrj := hW4.ints j vj lj hvj hlj
            obtain ⟨a3, n3, c3, rfl⟩ : ∃ a n c, vj = .slice a n c := by rcases hrj with ⟨rfl, _⟩ | ⟨_, _, _, rfl, _⟩ <;> exact ⟨_, _, _, rfl⟩
            obtain ⟨_, _, ew, hwc⟩ := hW4.cell
            cases ew
            obtain ⟨gw, rfl, hcw⟩ := hwc j _ hvj
            have hgw : gw < w4.heap.size := hW4.lt gw rfl
            have KC : Hid (∀ W, Below w4.heap.size w4 W → W.cell? ⟨gN, oN + j, none⟩ = some (.string Ns[j]) ∧ W.cell? ⟨gw, j, none⟩ = some (.slice a3 n3 c3)) := fun W hW => by
              refine ⟨(hcN.below (hb4.trans (hW.mono hb4.size)) hgN) j _ (List.getElem?_eq_getElem hj), ?_⟩
              unfold World.cell? at hcw ⊢
              rw [hW.block gw hgw]; exact hcw
            obtain ⟨x0, x1⟩ := KC.out wr hB
            have KMj := Lib.hid (KM.out wr j hj hB)
            have HE : Hid (∀ l, Heard (runA X) Ns[j] l → l = lj) := fun l hl => by
              refine hl.eq (hH j _ _ (List.getElem?_eq_getElem hj) hlj) (fun hn k => ?_)
              exact Iff.rfl
            have KSj : Hid (∀ W a n c l, l = lj → l.length ≤ X.length + 2 → IntRow W (.slice a n c) l → Below w4.heap.size w4 W → Calls Tryz.prog 14 #[.slice a n c, .slice a3 n3 c3] W fun e w' => e = .returned (.bool true) ∧ Below w4.heap.size w4 w') := fun W a n c l e hll hr hW => by
              subst e
              refine (KS.out (.slice a n c) (.slice a3 n3 c3) l l W hr (hrj.below hW) (by omega)).mono fun e w' ⟨r1, r2⟩ => ⟨by rw [r1, decide_eq_true rfl], hW.trans (r2.mono hW.size)⟩
            clear KM KS hcw hwc hrj
            go_wp2_with fail
            go_region_held3 (fun W => W.cell? ⟨gN, oN + j, none⟩ = some (.string Ns[j]) ∧ W.cell? ⟨gw, j, none⟩ = some (.slice a3 n3 c3)) (first | with_reducible assumption | with_reducible exact ⟨z0, z1⟩ | with_reducible exact ⟨y0, y1⟩ | exact ⟨x0, x1⟩) (first
              | (go_at_call 15; refine KMj.out.mono ?_; rintro e w5 ⟨a5, n5, c5, l5, rfl, q1, q2, q3, q4⟩; obtain ⟨y0, y1⟩ := KC.out _ q4; replace q1 := HE.out _ q1)
              | (go_at_call 14; refine (KSj.out _ _ _ _ _ q1 q3 q2 q4).mono ?_; rintro e w6 ⟨rfl, h6⟩; obtain ⟨z0, z1⟩ := KC.out _ h6))
            go_wp2
            go_roundg gq
            case measure => omega
            case rel => exact ⟨j + 1, by omega, by first | rfl | rw [wrap64_nat (by omega)] | simp, h6⟩
      | true =>
        rw [hbb] at ADD
        go_wp2_with (first
          | (go_at_call 13; refine ADD.out.mono ?_; rintro e w3 ⟨rfl, _, h3⟩; have h3' := Lib.hid (h3 rfl); clear h3)
          | (go_at_call 19; refine h3'.out.mono ?_; rintro e w4 ⟨rfl, h4⟩; have h4' := h4; clear h4))
        have TL4 := Lib.hid h4'.1
        have hW4 := h4'.2
        have H3 := Lib.hid (FIN.out _ h4')
        have hb4 := H3.out.1
        clear h4' ADD KM hW hB HH h2
        have KM : Hid (∀ W (j : Nat) (hj : j < Ns.length), Below w4.heap.size w4 W → Calls Tryz.prog 15 #[.pointer (some ⟨t, 0, none⟩), .string Ns[j]] W.drew fun e w' => ∃ a n c l, e = .returned (.slice a n c) ∧ Heard (runA X) Ns[j] l ∧ IntRow w' (.slice a n c) l ∧ l.length ≤ X.length + 2 ∧ Below w4.heap.size w4 w') := fun W j hj hW =>
          (has_match (H3.out.below (Below.drew hW)) hT Ns[j] (hNs _ (List.getElem_mem hj)) (by unfold maxLen; omega) (by omega)).mono fun e w' ⟨v, l, q1, q2, q3, q4, q5, q6⟩ => by
            obtain ⟨a, n, c, rfl⟩ : ∃ a n c, v = .slice a n c := by rcases q5.row with ⟨rfl, _⟩ | ⟨_, _, _, rfl, _⟩ <;> exact ⟨_, _, _, rfl⟩
            exact ⟨a, n, c, l, q1, ⟨q2, q3⟩, q5.row, by omega, (Below.drew hW).trans (q6.mono (Below.drew hW).size)⟩
        go_loopg [14] Ns.length (fun gk s15 wx => ∃ j : Nat, j + gk = Ns.length ∧ s15 = .int .i64 j ∧ Below w4.heap.size w4 wx)
        case atStart => exact ⟨0, by omega, rfl, Below.refl _ _⟩
        case round =>
          obtain ⟨j, hjg2, rfl, hB⟩ := hrel
          have hBw : Below w.heap.size w wr := hb4.trans (hB.mono hb4.size)
          cases gk with
          | zero =>
            obtain rfl : j = Ns.length := by omega
            have TLr := TL4.out.below hB
            have KNr := Lib.hid (KN.out _ t lb _ TLr)
            have KWh : Hid (∀ W', Below wr.heap.size wr W' → Calls Tryz.prog 10 #[.pointer (some ⟨t, 0, none⟩), .pointer (some ⟨lb, 0, none⟩)] W' fun e w' => e = .returned (.bool true) ∧ Below wr.heap.size wr w') := fun W' hW' => (whole_any (TLr.below hW') (Same.refl _) (by omega)).mono fun e w' ⟨r1, r2⟩ => ⟨r1, hW'.trans (r2.mono hW'.size)⟩
            clear TLr
            go_wp2_with (first
              | (go_at_call 16; refine KNr.out.mono ?_; rintro e w5 ⟨ps1, rfl, hps1, h5⟩; have e5 : ps1.length = ps0.length := nodup_eq ps1 ps0 hps1.1 HP0.out.1 (fun q => by rw [hps1.2 q, HP0.out.2 q]); rw [e5]; clear e5 hps1)
              | (go_at_call 10; refine (KWh.out _ h5).mono ?_; rintro e w6 ⟨rfl, h6⟩; have h7 := hBw.trans (h6.mono hBw.size))
              | (go_at_call 11; refine (KA.out _ (hT.from (Nat.le_refl _) h7)).mono ?_; rintro e w8 ⟨rfl, h8⟩))
            go_ret
            exact ⟨rfl, h7.trans (h8.mono h7.size)⟩
          | succ gq =>
            have hj : j < Ns.length := by omega
            have hj' : ((j : Nat) : Int) < (Ns.length : Int) := by omega
            obtain ⟨gN, oN, cN, e0, hgN, hcN⟩ := hN.resolve_left (fun h0 => by rw [h0.2] at hj; simp at hj)
            simp only [Value.slice.injEq, true_and] at e0
            obtain ⟨rfl, rfl⟩ := e0
            obtain ⟨vj, hvj⟩ : ∃ v, vs[j]? = some v := ⟨_, List.getElem?_eq_getElem (by omega)⟩
            obtain ⟨lj, hlj⟩ : ∃ l, ls[j]? = some l := ⟨_, List.getElem?_eq_getElem (by have := hW4.len; omega)⟩
            have hrj := hW4.ints j vj lj hvj hlj
            obtain ⟨a3, n3, c3, rfl⟩ : ∃ a n c, vj = .slice a n c := by rcases hrj with ⟨rfl, _⟩ | ⟨_, _, _, rfl, _⟩ <;> exact ⟨_, _, _, rfl⟩
            obtain ⟨_, _, ew, hwc⟩ := hW4.cell
            cases ew
            obtain ⟨gw, rfl, hcw⟩ := hwc j _ hvj
            have hgw : gw < w4.heap.size := hW4.lt gw rfl
            have KC : Hid (∀ W, Below w4.heap.size w4 W → W.cell? ⟨gN, oN + j, none⟩ = some (.string Ns[j]) ∧ W.cell? ⟨gw, j, none⟩ = some (.slice a3 n3 c3)) := fun W hW => by
              refine ⟨(hcN.below (hb4.trans (hW.mono hb4.size)) hgN) j _ (List.getElem?_eq_getElem hj), ?_⟩
              unfold World.cell? at hcw ⊢
              rw [hW.block gw hgw]; exact hcw
            obtain ⟨x0, x1⟩ := KC.out wr hB
            have KMj := Lib.hid (KM.out wr j hj hB)
            have HE : Hid (∀ l, Heard (runA X) Ns[j] l → l = lj) := fun l hl => by
              refine hl.eq (hH j _ _ (List.getElem?_eq_getElem hj) hlj) (fun hn k => ?_)
              exact Iff.rfl
            have KSj : Hid (∀ W a n c l, l = lj → l.length ≤ X.length + 2 → IntRow W (.slice a n c) l → Below w4.heap.size w4 W → Calls Tryz.prog 14 #[.slice a n c, .slice a3 n3 c3] W fun e w' => e = .returned (.bool true) ∧ Below w4.heap.size w4 w') := fun W a n c l e hll hr hW => by
              subst e
              refine (KS.out (.slice a n c) (.slice a3 n3 c3) l l W hr (hrj.below hW) (by omega)).mono fun e w' ⟨r1, r2⟩ => ⟨by rw [r1, decide_eq_true rfl], hW.trans (r2.mono hW.size)⟩
            clear KM KS hcw hwc hrj
            go_wp2_with fail
            go_region_held3 (fun W => W.cell? ⟨gN, oN + j, none⟩ = some (.string Ns[j]) ∧ W.cell? ⟨gw, j, none⟩ = some (.slice a3 n3 c3)) (first | with_reducible assumption | with_reducible exact ⟨z0, z1⟩ | with_reducible exact ⟨y0, y1⟩ | exact ⟨x0, x1⟩) (first
              | (go_at_call 15; refine KMj.out.mono ?_; rintro e w5 ⟨a5, n5, c5, l5, rfl, q1, q2, q3, q4⟩; obtain ⟨y0, y1⟩ := KC.out _ q4; replace q1 := HE.out _ q1)
              | (go_at_call 14; refine (KSj.out _ _ _ _ _ q1 q3 q2 q4).mono ?_; rintro e w6 ⟨rfl, h6⟩; obtain ⟨z0, z1⟩ := KC.out _ h6))
            go_wp2
            go_roundg gq
            case measure => omega
            case rel => exact ⟨j + 1, by omega, by first | rfl | rw [wrap64_nat (by omega)] | simp, h6⟩
    | succ gq =>
      subst hvl
      have hj : vs.length < Ns.length := by omega
      have hj' : ((vs.length : Nat) : Int) < (Ns.length : Int) := by omega
      obtain ⟨gN, oN, cN, e0, hgN, hcN⟩ := hN.resolve_left (fun h0 => by rw [h0.2] at hj; simp at hj)
      simp only [Value.slice.injEq, true_and] at e0
      obtain ⟨rfl, rfl⟩ := e0
      have hBw : Below w.heap.size w wr := hbw.trans (hB.mono hbw.size)
      have x0 : wr.cell? ⟨gN, oN + vs.length, none⟩ = some (.string Ns[vs.length]) := (hcN.below hBw hgN) vs.length _ (List.getElem?_eq_getElem hj)
      have KMj := Lib.hid (KM.out wr vs.length hj hB)
      obtain ⟨aw, cw, rfl, hwc⟩ := hW.cell
      have WM : Hid (∀ (w2 : World) v l, Below wr.heap.size wr w2 → IntRow w2 v l → (∀ g, v.ownBlock = some g → wr.heap.size ≤ g ∧ g < w2.heap.size) → ∀ w4 v4, w4.ownsRow wb.heap.size 42 1 v4 (vs.length + 1) (vs ++ [v]) → (w2.alloc (.cells #[v] 42)).grownBy w4 (Value.slice aw vs.length cw).ownBlock → (v4.ownBlock = (Value.slice aw vs.length cw).ownBlock ∨ v4.ownBlock = some (w2.alloc (.cells #[v] 42)).heap.size) →
          Was wb w4 v4 (vs ++ [v]) (ls ++ [l]) ∧ Below wb.heap.size wb w4) := fun w2 v l k1 k2 k3 w4 v4 k4 k5 k6 => by
        have hal := below1 w2 (.cells #[v] 42)
        have hBA : Below wr.heap.size wr (w2.alloc (.cells #[v] 42)) := k1.trans (hal.mono k1.size)
        have hWA := hW.below hBA
        have hBt : But (fun k => (Value.slice aw vs.length cw).ownBlock = some k) (w2.alloc (.cells #[v] 42)) w4 := But.grown (C := fun k => (Value.slice aw vs.length cw).ownBlock = some k) k5 (fun k e _ => e)
        have hsz := hB.size
        have hsz2 := hal.size
        refine ⟨hWA.more (k2.below hal) (fun g e => ?_) k4 hBt (k6.imp_right fun q g e => ?_), ?_⟩
        · obtain ⟨r1, r2⟩ := k3 g e
          exact ⟨by omega, by omega, fun c => by have := hW.lt g c; omega⟩
        · rw [q] at e; cases e; exact Nat.le_refl _
        · have hw0 : ∀ g, (Value.slice aw vs.length cw).ownBlock = some g → wb.heap.size ≤ g := fun g e => by
            obtain ⟨_, ⟨e', _⟩ | ⟨g', c, cur, e', h3, _⟩⟩ := hW.row
            · rw [e'] at e; cases e
            · rw [e'] at e; cases e; exact h3
          have hB2 := hB.trans (hBA.mono hsz)
          exact ⟨hBt.os.trans hB2.os, hBt.tape.trans hB2.tape, hBt.output.trans hB2.output, Nat.le_trans hB2.size hBt.size, fun k hk => (hBt.block k (by have := hB2.size; omega) (fun c => by have := hw0 k c; omega)).trans (hB2.block k hk)⟩
      have O2 : Hid (∀ w2 v, Below wr.heap.size wr w2 → (w2.alloc (.cells #[v] 42)).ownsRow wb.heap.size 42 1 (Value.slice aw vs.length cw) vs.length vs ∧ wb.heap.size ≤ (w2.alloc (.cells #[v] 42)).heap.size) := fun w2 v k1 => by
        have hal := below1 w2 (.cells #[v] 42)
        have hBA : Below wr.heap.size wr (w2.alloc (.cells #[v] 42)) := k1.trans (hal.mono k1.size)
        exact ⟨(hW.below hBA).row, Nat.le_trans hB.size hBA.size⟩
      have hone : ∀ (v : Value) w2 l, IntRow w2 v l → ∀ u ∈ [v], u.oneCell' = true := fun v w2 l h u hu => by
        rw [List.mem_singleton] at hu; subst hu
        rcases h with ⟨rfl, _⟩ | ⟨_, _, _, rfl, _⟩ <;> rfl
      go_wp2_with (first
        | (go_at_call 15; refine KMj.out.mono ?_; rintro e w2 ⟨a2, n2, c2, l2, rfl, q1, q2, q3, q4⟩)
        | (at_builtin; refine wpList_append_own_at _ rfl _ _ 48 rfl wb.heap.size 42 i0 (.slice none 0 0) 1 24 Tryz.underlying48 hi0 hz0 hz1 hz2 rfl (by decide) (.slice aw vs.length cw) _ _ rfl (O2.out _ _ q4).1 ⟨w2.heap.size, 0, none⟩ 1 1 [.slice a2 n2 c2] rfl rfl (cell_one_new _ _ _) (hone _ _ _ q2) (by unfold maxLen; omega) (by omega) (O2.out _ _ q4).2 ?_; intro v4 w4 ho4 hg4 hn4 ha4))
      obtain ⟨z1, z2⟩ := WM.out _ _ _ q4 q2 q3 _ _ ho4 hg4 ha4
      go_roundg gq
      case measure => omega
      case rel =>
        refine ⟨vs.length + 1, vs ++ [.slice a2 n2 c2], ls ++ [l2], by omega, by first | rfl | rw [wrap64_nat (by omega)] | simp, by simp, z2, z1, fun k nm l h1 h2 => ?_⟩
        by_cases hk : k < ls.length
        · rw [List.getElem?_append_left hk] at h2; exact hH k nm l h1 h2
        · rw [List.getElem?_append_right (by omega)] at h2
          have : k - ls.length = 0 := by have := (List.getElem?_eq_some_iff.1 h2).1; simp at this; omega
          rw [this] at h2; simp at h2; subst h2
          obtain rfl : k = vs.length := by have := hW.len; omega
          rw [List.getElem?_eq_getElem hj] at h1; cases h1; exact q1
end Go.Proofs.YtnlplnlclnbdiaaGreatDoor
