/- The law TrieOrders at every input within the sizes named; what is asked of the world: the two tables of unicode/utf8 as their text lays them. -/
import Derived.Test.YtnlplnlclnbdiaaGreatDoorNg
import Derived.Test.YtnlplnlclnbdiaaGreatDoorWa
namespace Go.Proofs.YtnlplnlclnbdiaaGreatDoor
open Go.RowKit Tp Go.Maps Go.Shelf

theorem rev_add {A : List (Bs × Int)} (h : Subs A) (j : Nat) (hj : j < A.length) : (isFilter (A.reverse[j]'(by simpa using hj)).1 && !Sof (A.reverse.take j) (lvs (A.reverse[j]'(by simpa using hj)).1) (A.reverse[j]'(by simpa using hj)).2) = true ∧ addA (A.reverse.take j) (A.reverse[j]'(by simpa using hj)).1 (A.reverse[j]'(by simpa using hj)).2 = A.reverse.take (j + 1) := by
  have hjr : j < A.reverse.length := by simpa using hj
  have hfil := h.fil _ (List.mem_reverse.1 (List.getElem_mem hjr))
  have hnd : A.reverse.Nodup := (by unfold List.Nodup; rw [List.pairwise_reverse]; exact h.nd.imp (fun h e => h e.symm))
  have hno : A.reverse[j] ∉ A.reverse.take j := fun c => by
    obtain ⟨k, hk, e⟩ := List.mem_take_iff_getElem.1 c
    exact List.pairwise_iff_getElem.1 hnd k j (by omega) hjr (by omega) e
  refine ⟨?_, ?_⟩
  · rw [hfil]
    cases hs : Sof (A.reverse.take j) (lvs A.reverse[j].1) A.reverse[j].2 with
    | false => rfl
    | true => exact absurd (Sof_lvs.1 hs) hno
  · unfold addA
    rw [if_pos ⟨hfil, hno⟩, List.take_succ_eq_append_getElem hjr]
theorem rev_at {A : List (Bs × Int)} (j : Nat) (hj : j < A.length) : A.reverse[j]'(by simpa using hj) = A[A.length - 1 - j] := List.getElem_reverse _
theorem same_rev (A : List (Bs × Int)) : Same A.reverse A := ⟨fun e => by simp, by simp⟩

set_option maxRecDepth 100000 in
set_option maxHeartbeats 4000000 in
theorem law_orders (w : World) (v vn : Value) (X : List Ac) (Ns : List ByteArray) (hX : ActRow w v X) (hok : ActOk X) (hN : NamesAt w vn Ns) (hNs : ∀ x ∈ Ns, x.size ≤ 9223372036854775807) (hlX : X.length ≤ 1048576) (hlN : Ns.length ≤ 1048576) (hT : Tabs w) :
    Calls Tryz.prog 4 #[v, vn] w fun e w' => e = .returned (.bool true) ∧ Below w.heap.size w w' := by
  have hrl := runA_len X
  have KB := Lib.hid (built_any w v X hX hok (by omega) hT)
  have KW : Hid (∀ W, Calls Tryz.prog 8 #[] W fun e w' => ∃ u, e = .returned (.pointer (some ⟨u, 0, none⟩)) ∧ Has W w' u [] 0) := fun W => (new_any W).mono fun e w' ⟨t, nd, own, n, h1, h2, h3⟩ => ⟨t, h1, h3, nd, own, n, h2⟩
  have hsn : ∃ a c, vn = .slice a Ns.length c := by rcases hN with ⟨⟨_, _, rfl⟩, rfl⟩ | ⟨g, o, c, rfl, _⟩ <;> exact ⟨_, _, rfl⟩
  obtain ⟨an, cn, rfl⟩ := hsn
  have hsv : ∃ a c, v = .slice a X.length c := by rcases hX with ⟨⟨_, _, rfl⟩, rfl⟩ | ⟨g, o, c, rfl, _⟩ <;> exact ⟨_, _, rfl⟩
  obtain ⟨ax, cx, rfl⟩ := hsv
  have LC : Hid (∀ W t lb K, TL w W t lb (runA X) (runA X) K → ∃ a c, ∀ W', Below W.heap.size W W' → W'.cell? ⟨lb, 0, none⟩ = some (.slice a (runA X).length c) ∧ ∀ (j : Nat) (hj : j < (runA X).length), ∃ g, a = some ⟨g, 0, none⟩ ∧ W'.cell? ⟨g, j * 2, none⟩ = some (.string (bs (runA X)[j].1)) ∧ W'.cell? ⟨g, j * 2 + 1, none⟩ = some (.int .i64 (runA X)[j].2)) := fun W t lb K ⟨_, nd, own, n, v, q2, q3, _⟩ => by
    obtain ⟨a, c, rfl, h⟩ := list_cells q3
    exact ⟨a, c, h⟩
  go_enter Tryz.func4, Tryz.ntmps4
  go_wp2_with (first
    | (go_at_call 12; refine KB.out.mono ?_; rintro e wb ⟨t, lb, rfl, h1⟩)
    | (go_at_call 8; refine (KW.out _).mono ?_; rintro e w2 ⟨u, rfl, h2⟩; obtain ⟨al, cl, hcl⟩ := LC.out _ _ _ _ h1; have x2 := (hcl _ h2.1).1))
  have HS : Subs (runA X) := h1.subs
  have hbw := h1.1
  have hTb : Tabs wb := hT.from (Nat.le_refl _) hbw
  have CL := Lib.hid hcl
  have KAd : Hid (∀ W (j : Nat) (hj : j < (runA X).length), Has wb W u ((runA X).reverse.take j) (j * 65537) → Calls Tryz.prog 13 #[.pointer (some ⟨u, 0, none⟩), .string (bs (runA X)[(runA X).length - 1 - j].1), .int .i64 (runA X)[(runA X).length - 1 - j].2] W.drew fun e w' => e = .returned (.bool true) ∧ Has wb w' u ((runA X).reverse.take (j + 1)) ((j + 1) * 65537)) := fun W j hj hh => by
    obtain ⟨e1, e2⟩ := rev_add HS j hj
    rw [rev_at j hj] at e1 e2
    have hm : (runA X)[(runA X).length - 1 - j] ∈ runA X := List.getElem_mem _
    have hfil := HS.fil _ hm
    have hfl : (runA X)[(runA X).length - 1 - j].1.length ≤ 65535 := by simp only [isFilter, okText, Bool.and_eq_true, decide_eq_true_eq] at hfil; exact hfil.1.1.1.2
    have := has_add (hh.below (Below.drew (Below.refl _ _))) hTb (bs (runA X)[(runA X).length - 1 - j].1) (runA X)[(runA X).length - 1 - j].2 (by rw [← tl_size, tl_bs]; omega) (HS.wf _ hm) (by unfold maxLen; omega)
    rw [tl_bs, e1, e2] at this
    rw [show (j + 1) * 65537 = j * 65537 + 65537 by omega]; exact this
  clear hcl KB KW LC
  go_loopg [8] (runA X).length (fun gk s8 wx => ∃ j : Nat, j + gk = (runA X).length ∧ s8 = .int .i64 (((runA X).length : Int) - 1 - j) ∧ Has wb wx u ((runA X).reverse.take j) (j * 65537))
  case atStart => exact ⟨0, by omega, by simp, by simpa using h2⟩
  case round =>
    obtain ⟨j, hjg, rfl, hU⟩ := hrel
    cases gk with
    | zero =>
      obtain rfl : j = (runA X).length := by omega
      rw [show (((runA X).length : Int) - 1 - ((runA X).length : Nat)) = -1 by omega]
      rw [List.take_of_length_le (by simp)] at hU
      have HSr : Subs (runA X).reverse := ⟨fun e he => HS.fil e (List.mem_reverse.1 he), fun e he => HS.wf e (List.mem_reverse.1 he), (by unfold List.Nodup; rw [List.pairwise_reverse]; exact HS.nd.imp (fun h e => h e.symm))⟩
      have hb0 : Below w.heap.size w wr := hbw.trans (hU.1.mono hbw.size)
      have TLt : Hid (TL w wr t lb (runA X) (runA X) (X.length * 65537)) := h1.below hU.1
      have TLu : Hid (TL w wr u lb (runA X).reverse (runA X) ((runA X).length * 65537)) := by
        obtain ⟨q1, nd, own, n, v, q2, q3, q4, q5, q6⟩ := h1
        obtain ⟨b1, nd', own', n', p2⟩ := hU
        have hlt := q3.lt
        have ho : ∀ k, k < wb.heap.size → own' k = none := fun k hk => by
          cases hc : own' k with
          | none => rfl
          | some z => exact absurd (p2.bas k (by show own' k ≠ none; rw [hc]; simp)) (by omega)
        have hbu := p2.bt
        have hsz := q1.size
        exact ⟨hb0, nd', own', n', v, { p2 with bas := fun k c => by have := p2.bas k c; omega, bt := by omega }, q3.below b1, ho lb hlt.1, by have := hlt.1; omega, fun g e => ⟨ho g (hlt.2 g e).2, by have := (hlt.2 g e).2; omega⟩⟩
      have hrl2 : (runA X).reverse.length = (runA X).length := by simp
      have HT1 : Hid (Has w wr t (runA X) (X.length * 65537)) := by obtain ⟨q1, nd, own, n, v, q2, _⟩ := TLt.out; exact ⟨q1, nd, own, n, q2⟩
      have HU1 : Hid (Has w wr u (runA X).reverse ((runA X).length * 65537)) := by obtain ⟨q1, nd, own, n, v, q2, _⟩ := TLu.out; exact ⟨q1, nd, own, n, q2⟩
      generalize hAr : (runA X).reverse = Ar at *
      have mk : ∀ (x : Nat) (A : List (Bs × Int)) (K : Nat), A.length ≤ X.length → K ≤ X.length * 65537 → Has w wr x A K → ∀ W (j : Nat) (hj : j < Ns.length), Below wr.heap.size wr W → Calls Tryz.prog 15 #[.pointer (some ⟨x, 0, none⟩), .string Ns[j]] W fun e w' => ∃ a n c l, e = .returned (.slice a n c) ∧ Heard A Ns[j] l ∧ IntRow w' (.slice a n c) l ∧ l.length ≤ X.length ∧ Below W.heap.size W w' ∧ Below wr.heap.size wr w' := fun x A K hA hK hh W j hj hW =>
        (has_match (hh.below hW) hT Ns[j] (hNs _ (List.getElem_mem hj)) (by unfold maxLen; omega) (by omega)).mono fun e w' ⟨v, l, q1, q2, q3, q4, q5, q6⟩ => by
          obtain ⟨a, n, c, rfl⟩ : ∃ a n c, v = .slice a n c := by rcases q5.row with ⟨rfl, _⟩ | ⟨_, _, _, rfl, _⟩ <;> exact ⟨_, _, _, rfl⟩
          exact ⟨a, n, c, l, q1, ⟨q2, q3⟩, q5.row, by omega, q6, hW.trans (q6.mono hW.size)⟩
      have KMt := Lib.hid (mk t (runA X) _ (by omega) (Nat.le_refl _) HT1.out)
      have KMu := Lib.hid (mk u Ar _ (by omega) (by omega) HU1.out)
      have mkN : ∀ (x : Nat) (A : List (Bs × Int)) (K : Nat), A.length ≤ X.length → Has w wr x A K → ∀ W, Below wr.heap.size wr W → Calls Tryz.prog 16 #[.pointer (some ⟨x, 0, none⟩)] W fun e w' => ∃ ps : List Pth, e = .returned (.int .i64 (ps.length : Nat)) ∧ (ps.Nodup ∧ ∀ q, q ∈ ps ↔ q ≠ [] ∧ ∃ e ∈ A, q <+: lvs e.1) ∧ Below wr.heap.size wr w' := fun x A K hA hh W hW => by
        obtain ⟨_, nd, own, n, q2⟩ := hh.below hW
        exact (nodes_any q2 (by omega)).mono fun e w' ⟨ps, r1, r2, r3, r4⟩ => ⟨ps, r1, ⟨r2, r3⟩, hW.trans (r4.mono hW.size)⟩
      have KNt := Lib.hid (mkN t (runA X) _ (by omega) HT1.out)
      have KNu := Lib.hid (mkN u Ar _ (by omega) HU1.out)
      have mkF : ∀ (x : Nat) (A : List (Bs × Int)) (K : Nat), A.length ≤ X.length → Has w wr x A K → ∀ W, Below wr.heap.size wr W → Calls Tryz.prog 18 #[.pointer (some ⟨x, 0, none⟩)] W fun e w' => ∃ a c F, e = .returned (.slice a F.length c) ∧ TRise F ∧ (∀ f, f ∈ F ↔ ∃ i, (f, i) ∈ A) ∧ F.length ≤ X.length ∧ TextRow w' (.slice a F.length c) F ∧ Below W.heap.size W w' ∧ Below wr.heap.size wr w' := fun x A K hA hh W hW => by
        obtain ⟨_, nd, own, n, q2⟩ := hh.below hW
        exact (filters_any q2 (by omega)).mono fun e w' ⟨a, c, F, r1, r2, r3, r4, r5, r6⟩ => ⟨a, c, F, r1, r2, r3, by omega, TextsAt.row r5, r6, hW.trans (r6.mono hW.size)⟩
      have KFt := Lib.hid (mkF t (runA X) _ (by omega) HT1.out)
      have KFu := Lib.hid (mkF u Ar _ (by omega) HU1.out)
      have KWh : Hid (∀ W', Below wr.heap.size wr W' → Calls Tryz.prog 10 #[.pointer (some ⟨u, 0, none⟩), .pointer (some ⟨lb, 0, none⟩)] W' fun e w' => e = .returned (.bool true) ∧ Below wr.heap.size wr w') := fun W' hW' => (whole_any (TLu.out.below hW') (by rw [← hAr]; exact same_rev _) (by omega)).mono fun e w' ⟨r1, r2⟩ => ⟨r1, hW'.trans (r2.mono hW'.size)⟩
      have HM : Hid (∀ e, e ∈ runA X ↔ e ∈ Ar) := fun e => by rw [← hAr]; simp
      have KA := Lib.hid awake_any
      have KSm := Lib.hid same_any
      have KST := Lib.hid sameT_any
      clear mk mkN mkF h1 hU h2 CL KAd hAr x2
      go_wp2_with fail
      go_loopg [9] Ns.length (fun gk s9 wx => ∃ j : Nat, j + gk = Ns.length ∧ s9 = .int .i64 j ∧ Below wr.heap.size wr wx)
      case atStart => exact ⟨0, by omega, rfl, Below.refl _ _⟩
      case round =>
        obtain ⟨j, hjg2, rfl, hB⟩ := hrel
        have hBw : Below w.heap.size w wr := hb0.trans (hB.mono hb0.size)
        cases gk with
        | zero =>
          obtain rfl : j = Ns.length := by omega
          clear KMt KMu KSm
          go_wp2_with (first
            | (go_at_call 10; refine (KWh.out _ hB).mono ?_; rintro e w5 ⟨rfl, h5⟩)
            | (go_at_call 16; refine (KNu.out _ h6).mono ?_; rintro e w7 ⟨ps2, rfl, n2, h7⟩; have e7 : ps1.length = ps2.length := nodup_eq ps1 ps2 n1.1 n2.1 (fun q => by rw [n1.2 q, n2.2 q]; exact ⟨fun ⟨a, e, he, hp⟩ => ⟨a, e, (HM.out e).1 he, hp⟩, fun ⟨a, e, he, hp⟩ => ⟨a, e, (HM.out e).2 he, hp⟩⟩); rw [e7]; clear e7 n1 n2)
            | (go_at_call 16; refine (KNt.out _ h5).mono ?_; rintro e w6 ⟨ps1, rfl, n1, h6⟩)
            | (go_at_call 18; refine (KFu.out _ h8).mono ?_; rintro e w9 ⟨a9, c9, F9, rfl, g1, g2, g3, g4, g5, h9⟩; have e9 : F8 = F9 := f1.ext g1 (fun f => by rw [f2 f, g2 f]; exact ⟨fun ⟨i, h⟩ => ⟨i, (HM.out _).1 h⟩, fun ⟨i, h⟩ => ⟨i, (HM.out _).2 h⟩⟩); have E9 := Lib.hid e9; have R8 := Lib.hid (f4.below g5); have R9 := Lib.hid g4; clear e9 f1 f2 g1 g2 f4 g4)
            | (go_at_call 18; refine (KFt.out _ h7).mono ?_; rintro e w8 ⟨a8, c8, F8, rfl, f1, f2, f3, f4, f5, h8⟩)
            | (go_at_call 17; refine (KST.out _ _ F8 F9 _ R8.out R9.out (by omega)).mono ?_; rintro e w10 ⟨rfl, h10⟩; rw [decide_eq_true E9.out]; have h11 := hb0.trans ((h9.trans (h10.mono h9.size)).mono hb0.size))
            | (go_at_call 11; refine (KA.out _ (hT.from (Nat.le_refl _) h11)).mono ?_; rintro e w12 ⟨rfl, h12⟩))
          go_ret
          exact ⟨rfl, h11.trans (h12.mono h11.size)⟩
        | succ gq =>
          have hj : j < Ns.length := by omega
          have hj' : ((j : Nat) : Int) < (Ns.length : Int) := by omega
          obtain ⟨gN, oN, cN, e0, hgN, hcN⟩ := hN.resolve_left (fun h0 => by rw [h0.2] at hj; simp at hj)
          simp only [Value.slice.injEq, true_and] at e0
          obtain ⟨rfl, rfl⟩ := e0
          have KC : Hid (∀ W, Below w.heap.size w W → W.cell? ⟨gN, oN + j, none⟩ = some (.string Ns[j])) := fun W hW => (hcN.below hW hgN) j _ (List.getElem?_eq_getElem hj)
          have KCr : Hid (∀ W, Below _ _ W → W.cell? ⟨gN, oN + j, none⟩ = some (.string Ns[j])) := fun W hW => KC.out W (hb0.trans (hW.mono hb0.size))
          have x0 := KC.out _ hBw
          have HE : Hid (∀ l l', Heard (runA X) Ns[j] l → Heard Ar Ns[j] l' → l = l') := fun l l' h h' => h.eq h' (fun hn k => by rw [hears_iff HS hn, hears_iff HSr hn]; exact ⟨fun ⟨f, a, b⟩ => ⟨f, (HM.out _).1 a, b⟩, fun ⟨f, a, b⟩ => ⟨f, (HM.out _).2 a, b⟩⟩)
          have KMt1 := Lib.hid (KMt.out wr.drew j hj (Below.drew hB))
          clear KNt KNu KFt KFu KWh KST KA TLt TLu HT1 HU1 KMt hcN
          go_wp2_with fail
          go_region_held3 (fun W => W.cell? ⟨gN, oN + j, none⟩ = some (.string Ns[j])) (first | with_reducible assumption | exact x0) (first
            | (go_at_call 15; refine (KMu.out _ j hj q5).mono ?_; rintro e w4 ⟨a4, n4, c4, l4, rfl, p1, p2, p3, p4, p5⟩; have z4 := KCr.out _ p5; have E := HE.out _ _ q1 p1)
            | (go_at_call 15; refine KMt1.out.mono ?_; rintro e w3 ⟨a3, n3, c3, l3, rfl, q1, q2, q3, q4, q5⟩; have z3 := KCr.out _ q5)
            | (go_at_call 14; refine (KSm.out _ _ l3 l4 _ (q2.below p4) p2 (by omega)).mono ?_; rintro e w6 ⟨rfl, h6⟩; rw [decide_eq_true E]; have h7 := p5.trans (h6.mono p5.size); have z6 := KCr.out _ h7))
          go_wp2
          go_roundg gq
          case measure => omega
          case rel => exact ⟨j + 1, by omega, by first | rfl | rw [wrap64_nat (by omega)] | simp, h7⟩
    | succ gq =>
      have hj : j < (runA X).length := by omega
      have KAj := Lib.hid (KAd.out wr j hj hU)
      obtain ⟨jj, hjj⟩ : ∃ jj, jj = (runA X).length - 1 - j := ⟨_, rfl⟩
      have hjl : jj < (runA X).length := by omega
      rw [show (((runA X).length : Int) - 1 - (j : Nat)) = ((jj : Nat) : Int) by omega]
      obtain ⟨y0, yj⟩ := CL.out wr hU.1
      obtain ⟨g, rfl, y1, y2⟩ := yj jj hjl
      have XC : Hid (∀ W, Below wb.heap.size wb W → W.cell? ⟨lb, 0, none⟩ = some (.slice (some ⟨g, 0, none⟩) (runA X).length cl) ∧ W.cell? ⟨g, jj * 2, none⟩ = some (.string (bs (runA X)[jj].1)) ∧ W.cell? ⟨g, jj * 2 + 1, none⟩ = some (.int .i64 (runA X)[jj].2)) := fun W hW => by
        obtain ⟨q1, q2⟩ := CL.out W hW
        obtain ⟨g', e, q3, q4⟩ := q2 jj hjl
        cases e; exact ⟨q1, q3, q4⟩
      have KAj2 : Hid (Calls Tryz.prog 13 #[.pointer (some ⟨u, 0, none⟩), .string (bs (runA X)[jj].1), .int .i64 (runA X)[jj].2] wr.drew fun e w' => e = .returned (.bool true) ∧ Has wb w' u ((runA X).reverse.take (j + 1)) ((j + 1) * 65537)) := by subst hjj; exact KAj.out
      have i0 : (0 : Int) ≤ ((jj : Nat) : Int) := by omega
      have i1 : ((jj : Nat) : Int) < ((runA X).length : Int) := by omega
      have HJ := Lib.hid hjj
      clear yj hjj KAj KAd
      go_wp2_with fail
      go_region_held3 (fun W => W.cell? ⟨lb, 0, none⟩ = some (.slice (some ⟨g, 0, none⟩) (runA X).length cl) ∧ W.cell? ⟨g, jj * 2, none⟩ = some (.string (bs (runA X)[jj].1)) ∧ W.cell? ⟨g, jj * 2 + 1, none⟩ = some (.int .i64 (runA X)[jj].2)) (first | with_reducible assumption | with_reducible exact ⟨z0, z1, z2⟩ | exact ⟨y0, y1, y2⟩) (
        (go_at_call 13; refine KAj2.out.mono ?_; rintro e w3 ⟨rfl, h3⟩; obtain ⟨z0, z1, z2⟩ := XC.out _ h3.1))
      have H3 := Lib.hid h3
      clear h3 z0 z1 z2 y0 y1 y2
      go_wp2
      go_roundg gq
      case measure => omega
      case rel =>
        have := HJ.out
        refine ⟨j + 1, by omega, ?_, H3.out⟩
        first
          | (congr 1; omega)
          | (rw [show IntKind.i64.wrap (((jj : Nat) : Int) - 1) = ((jj : Nat) : Int) - 1 by rw [IntWalk.i64_left]; exact IntWalk.wrap64_in _ (by omega)]; congr 1; omega)
end Go.Proofs.YtnlplnlclnbdiaaGreatDoor
