/- The law TrieHears at every input within the sizes named; what is asked of the world: the two tables of unicode/utf8 as their text lays them. -/
import Derived.Test.YtnlplnlclnbdiaaGreatDoorMd
import Derived.Test.YtnlplnlclnbdiaaGreatDoorKt
import Derived.Test.YtnlplnlclnbdiaaGreatDoorKw
import Derived.Test.YtnlplnlclnbdiaaGreatDoorKx
import Derived.Test.YtnlplnlclnbdiaaGreatDoorNa
import Derived.Test.YtnlplnlclnbdiaaGreatDoorRm
namespace Go.Proofs.YtnlplnlclnbdiaaGreatDoor
open Go.RowKit Tp Go.Maps Go.Shelf

theorem own_cell {W : World} {B : Nat} {e : TypeId} {a : Option Addr} {n c : Nat} {xs : List Value} (h : W.ownsRow B e 1 (.slice a n c) n xs) : ∀ (j : Nat) (u : Value), xs[j]? = some u → ∃ g, a = some ⟨g, 0, none⟩ ∧ g < W.heap.size ∧ W.cell? ⟨g, j, none⟩ = some u := fun j u hj => by
  have hjl := (List.getElem?_eq_some_iff.1 hj).1
  obtain ⟨h1, ⟨e0, h0⟩ | ⟨g, cp, cur, e0, h3, h4, h5, h6, h7, h8⟩⟩ := h
  · omega
  · simp only [Value.slice.injEq, true_and] at e0
    obtain ⟨rfl, rfl⟩ := e0
    refine ⟨g, rfl, (Array.getElem?_eq_some_iff.1 h4).1, ?_⟩
    rw [cell_at h4 j]
    rw [← h8, List.getElem?_take_of_lt (by omega)] at hj
    simpa using hj
theorem rise_len {A : List (Bs × Int)} {l : List Int} (hr : Rise l) (h : ∀ i ∈ l, ∃ f, (f, i) ∈ A) : l.length ≤ A.length := by
  have := nodup_le l (A.map Prod.snd) (hr.imp fun {a b} h => by omega) (fun i hi => by obtain ⟨f, hf⟩ := h i hi; exact List.mem_map.2 ⟨_, hf, rfl⟩)
  rwa [List.length_map] at this

set_option maxRecDepth 100000 in
set_option maxHeartbeats 4000000 in
theorem law_hears (w : World) (v : Value) (X : List Ac) (nm : ByteArray) (hX : ActRow w v X) (hok : ActOk X) (hnm : nm.size ≤ 9223372036854775807) (hlX : X.length ≤ 1048576) (hT : Tabs w) :
    Calls Tryz.prog 6 #[v, .string nm] w fun e w' => e = .returned (.bool true) ∧ Below w.heap.size w w' := by
  have hrl := runA_len X
  have KB := Lib.hid (built_any w v X hX hok (by omega) hT)
  have KF : Hid (∀ W t lb, TL w W t lb (runA X) (runA X) (X.length * 65537) → Calls Tryz.prog 18 #[.pointer (some ⟨t, 0, none⟩)] W fun e w' => ∃ a c F, e = .returned (.slice a F.length c) ∧ TRise F ∧ (∀ f, f ∈ F ↔ ∃ i, (f, i) ∈ runA X) ∧ F.length ≤ (runA X).length ∧ TextsAt w' W.heap.size (.slice a F.length c) F ∧ Below W.heap.size W w') := fun W t lb ⟨_, nd, own, n, v, h2, _⟩ => filters_any h2 (by omega)
  have hsv : ∃ a c, v = .slice a X.length c := by rcases hX with ⟨⟨_, _, rfl⟩, rfl⟩ | ⟨g, o, c, rfl, _⟩ <;> exact ⟨_, _, rfl⟩
  obtain ⟨ax, cx, rfl⟩ := hsv
  go_enter Tryz.func6, Tryz.ntmps6
  go_wp2_with (first
    | (go_at_call 12; refine KB.out.mono ?_; rintro e w1 ⟨t, lb, rfl, h1⟩)
    | (go_at_call 18; refine (KF.out _ t lb h1).mono ?_; rintro e w2 ⟨aF, cF, F, rfl, hF1, hF2, hF3, hF4, hF5⟩; clear KF))
  have HS : Subs (runA X) := h1.subs
  have HH : Hid (Has w w2 t (runA X) (X.length * 65537)) := by obtain ⟨q1, nd, own, n, v, q2, _⟩ := h1; exact Has.below ⟨q1, nd, own, n, q2⟩ hF5
  have hb2 : Below w.heap.size w w2 := HH.out.1
  have TT : Hid (∀ W, Below w2.heap.size w2 W → Tabs W ∧ Below w.heap.size w W) := fun W hW => ⟨hT.from (Nat.le_refl _) (hb2.trans (hW.mono hb2.size)), hb2.trans (hW.mono hb2.size)⟩
  have KM : Hid (∀ W, Below w2.heap.size w2 W → Calls Tryz.prog 15 #[.pointer (some ⟨t, 0, none⟩), .string nm] W fun e w' => ∃ a n c l, e = .returned (.slice a n c) ∧ Rise l ∧ (∀ i, i ∈ l ↔ (isName (tl nm) = true ∧ hears (Sof (runA X)) (tl nm) i = true)) ∧ IntRow w' (.slice a n c) l ∧ l.length ≤ X.length ∧ Below W.heap.size W w') := fun W hW =>
    (has_match (HH.out.below hW) hT nm hnm (by unfold maxLen; omega) (by omega)).mono fun e w' ⟨v, l, q1, q2, q3, q4, q5, q6⟩ => by
      obtain ⟨a, n, c, rfl⟩ : ∃ a n c, v = .slice a n c := by rcases q5.row with ⟨rfl, _⟩ | ⟨_, _, _, rfl, _⟩ <;> exact ⟨_, _, _, rfl⟩
      exact ⟨a, n, c, l, q1, q2, q3, q5.row, by omega, q6⟩
  have KU : Hid (∀ W (f : Bs), f ∈ F → Below w2.heap.size w2 W → Calls Tryz.prog 21 #[.pointer (some ⟨t, 0, none⟩), .string (bs f)] W fun e w' => ∃ a c l, e = .returned (.slice a l.length c) ∧ Rise l ∧ (∀ i, i ∈ l ↔ (f, i) ∈ runA X) ∧ IntsAt w' W.heap.size (.slice a l.length c) l ∧ Below W.heap.size W w') := fun W f hf hW => by
    obtain ⟨i, hi⟩ := (hF2 f).1 hf
    have hfil := HS.fil _ hi
    have hfl : f.length ≤ 65535 := by simp only [isFilter, okText, Bool.and_eq_true, decide_eq_true_eq] at hfil; exact hfil.1.1.1.2
    obtain ⟨_, nd, own, n, q2⟩ := HH.out.below hW
    refine (under_yes q2 (bs f) (by rw [← tl_size, tl_bs]; omega) (TT.out W hW).1 (by rw [tl_bs]; exact hfil) (by omega)).mono fun e w' ⟨a, c, l, r1, r2, r3, r4, r5⟩ => ⟨a, c, l, r1, r2, fun i => ?_, r4, r5⟩
    rw [r3 i, tl_bs, Sof_lvs]
  have KX : Hid (∀ W (f : Bs), f ∈ F → Below w2.heap.size w2 W → Calls Tryz.prog 20 #[.string (bs f), .string nm] W fun e w' => e = .returned (.bool (matchesR f (tl nm))) ∧ Below W.heap.size W w') := fun W f hf hW => by
    obtain ⟨i, hi⟩ := (hF2 f).1 hf
    have hfil := HS.fil _ hi
    have hfl : f.length ≤ 65535 := by simp only [isFilter, okText, Bool.and_eq_true, decide_eq_true_eq] at hfil; exact hfil.1.1.1.2
    have := rmatch_any (bs f) nm W (by rw [← tl_size, tl_bs]; omega) hnm (TT.out W hW).1
    rw [tl_bs] at this; exact this
  have KA := Lib.hid awake_any
  have KSm := Lib.hid same_any
  have KP := Lib.hid rput_any
  have HF := Lib.hid hF4
  clear KB hF1 hF4 h1
  go_loopg [7, 9] F.length (fun gk s7 s9 wx => ∃ (j : Nat) (a : Option Addr) (c : Nat) (wl : List Int), j + gk = F.length ∧ s9 = .int .i64 j ∧ s7 = .slice a wl.length c ∧ Below w2.heap.size w2 wx ∧ Rise wl ∧ IntsAt wx w2.heap.size (.slice a wl.length c) wl ∧ ∀ i, i ∈ wl ↔ ∃ f ∈ F.take j, matchesR f (tl nm) = true ∧ (f, i) ∈ runA X)
  case atStart => exact ⟨0, none, 0, [], by omega, rfl, rfl, Below.refl _ _, List.Pairwise.nil, World.ownsRow_nil _ _ _ _, by simp⟩
  case round =>
    obtain ⟨j, aw, cw, wl, hjg, rfl, rfl, hB, hwr, hwi, hwm⟩ := hrel
    have hwl : wl.length ≤ X.length := Nat.le_trans (rise_len hwr (fun i hi => by obtain ⟨f, _, _, h⟩ := (hwm i).1 hi; exact ⟨f, h⟩)) hrl
    obtain ⟨hTr, hBw⟩ := TT.out _ hB
    cases gk with
    | zero =>
      obtain rfl : j = F.length := by omega
      have KMw := Lib.hid (KM.out wr hB)
      have HE : Hid (∀ l, Rise l → (∀ i, i ∈ l ↔ (isName (tl nm) = true ∧ hears (Sof (runA X)) (tl nm) i = true)) → l = wl) := fun l h1 h2 => h1.ext hwr fun i => by
        rw [h2 i, hwm i, List.take_length]
        constructor
        · rintro ⟨a, b⟩
          obtain ⟨f, h3, h4⟩ := (hears_iff HS a i).1 b
          exact ⟨f, (hF2 f).2 ⟨i, h3⟩, h4, h3⟩
        · rintro ⟨f, _, h3, h4⟩
          have hn : isName (tl nm) = true := by unfold matchesR at h3; simp only [Bool.and_eq_true] at h3; exact h3.1.1.2
          exact ⟨hn, (hears_iff HS hn i).2 ⟨f, h4, h3⟩⟩
      have HW := Lib.hid hwi
      clear hwi hwm KM KU KX HF hF2
      go_wp2_with (first
        | (go_at_call 15; refine KMw.out.mono ?_; rintro e w3 ⟨a3, n3, c3, l3, rfl, q1, q2, q3, q4, q5⟩; have q6 := HE.out _ q1 q2; clear q2)
        | (go_at_call 14; refine (KSm.out _ _ l3 wl _ q3 ((IntsAt.row HW.out).below q5) (by omega)).mono ?_; rintro e w4 ⟨rfl, q7⟩; rw [decide_eq_true q6]; have q8 := hBw.trans ((q5.trans (q7.mono q5.size)).mono hBw.size))
        | (go_at_call 11; refine (KA.out _ (hT.from (Nat.le_refl _) q8)).mono ?_; rintro e w5 ⟨rfl, q9⟩))
      go_ret
      exact ⟨rfl, q8.trans (q9.mono q8.size)⟩
    | succ gq =>
      have hj : j < F.length := by omega
      have hj' : ((j : Nat) : Int) < (F.length : Int) := by omega
      have hmem : F[j] ∈ F := List.getElem_mem hj
      obtain ⟨gF, rfl, hgF, hcF⟩ := own_cell HF.out j (.string (bs F[j])) (by simp [hj])
      have XC : Hid (∀ W, Below w2.heap.size w2 W → W.cell? ⟨gF, j, none⟩ = some (.string (bs F[j]))) := fun W hW => by
        unfold World.cell? at hcF ⊢
        rw [hW.block gF hgF]; exact hcF
      have x0 := XC.out wr hB
      have htk : ∀ f, f ∈ F.take (j + 1) ↔ f ∈ F.take j ∨ f = F[j] := fun f => by rw [List.take_succ_eq_append_getElem hj, List.mem_append, List.mem_singleton]
      have HTK := Lib.hid htk
      have HWM := Lib.hid hwm
      have HWI := Lib.hid hwi
      have KXj := Lib.hid (KX.out wr F[j] hmem hB)
      clear htk hwm hwi hcF hF2 KM KX
      cases hmt : matchesR F[j] (tl nm) with
      | false =>
        rw [hmt] at KXj
        go_wp2_with (first
          | (go_at_call 20; refine KXj.out.mono ?_; rintro e w3 ⟨rfl, h3⟩; have h4 := hB.trans (h3.mono hB.size)))
        go_roundg gq
        case measure => omega
        case rel =>
          refine ⟨j + 1, aw, cw, wl, by omega, by first | rfl | rw [wrap64_nat (by omega)] | simp, rfl, h4, hwr, row_below HWI.out h3, fun i => ?_⟩
          rw [HWM.out i]
          constructor
          · rintro ⟨f, h5, h6⟩; exact ⟨f, (HTK.out f).2 (.inl h5), h6⟩
          · rintro ⟨f, h5, h6, h7⟩
            rcases (HTK.out f).1 h5 with h8 | rfl
            · exact ⟨f, h8, h6, h7⟩
            · rw [hmt] at h6; cases h6
      | true =>
        rw [hmt] at KXj
        go_wp2_with (first
          | (go_at_call 20; refine KXj.out.mono ?_; rintro e w3 ⟨rfl, h3⟩; have h4 := hB.trans (h3.mono hB.size); have x1 := XC.out w3 h4; have KUj := Lib.hid (KU.out w3 F[j] hmem h4))
          | (go_at_call 21; refine KUj.out.mono ?_; rintro e w4 ⟨aM, cM, M, rfl, r1, r2, r3, r4⟩))
        have h5 : Below w2.heap.size w2 w4 := h4.trans (r4.mono h4.size)
        have h34 : Below wr.heap.size wr w4 := h3.trans (r4.mono h3.size)
        have hMl : M.length ≤ X.length := Nat.le_trans (rise_len r1 (fun i hi => ⟨_, (r2 i).1 hi⟩)) hrl
        have HM := Lib.hid r3
        have HM2 := Lib.hid r2
        have HW4 : Hid (IntsAt w4 w2.heap.size (.slice aw wl.length cw) wl) := row_below HWI.out h34
        have HSub : Hid (∀ i, i ∈ wl → ∃ f, (f, i) ∈ runA X) := fun i hi => by obtain ⟨f, _, _, h⟩ := (HWM.out i).1 hi; exact ⟨f, h⟩
        clear r3 r2 x0 x1 KUj KXj HWI
        go_loopg [7, 11] M.length (fun gk s7 s11 wy => ∃ (q : Nat) (a : Option Addr) (c : Nat) (wl' : List Int), q + gk = M.length ∧ s11 = .int .i64 q ∧ s7 = .slice a wl'.length c ∧ Below w4.heap.size w4 wy ∧ Rise wl' ∧ IntsAt wy w2.heap.size (.slice a wl'.length c) wl' ∧ ∀ i, i ∈ wl' ↔ i ∈ wl ∨ i ∈ M.take q)
        case atStart => exact ⟨0, aw, cw, wl, by omega, rfl, rfl, Below.refl _ _, hwr, HW4.out, by simp⟩
        case round =>
          obtain ⟨q, aw2, cw2, wl2, hqg, rfl, rfl, hB2, hwr2, hwi2, hwm2⟩ := hrel
          have h6 : Below w2.heap.size w2 wr := h5.trans (hB2.mono h5.size)
          cases gk with
          | zero =>
            obtain rfl : q = M.length := by omega
            have HWI2 := Lib.hid hwi2
            clear hwi2
            go_wp2
            go_roundg gq
            case measure => omega
            case rel =>
              refine ⟨j + 1, aw2, cw2, wl2, by omega, by first | rfl | rw [wrap64_nat (by omega)] | simp, rfl, h6, hwr2, HWI2.out, fun i => ?_⟩
              rw [hwm2 i, List.take_length, HM2.out i, HWM.out i]
              constructor
              · rintro (⟨f, h7, h8⟩ | h7)
                · exact ⟨f, (HTK.out f).2 (.inl h7), h8⟩
                · exact ⟨F[j], (HTK.out _).2 (.inr rfl), hmt, h7⟩
              · rintro ⟨f, h7, h8, h9⟩
                rcases (HTK.out f).1 h7 with h10 | rfl
                · exact .inl ⟨f, h10, h8, h9⟩
                · exact .inr h9
          | succ gp =>
            have hq : q < M.length := by omega
            have hq' : ((q : Nat) : Int) < (M.length : Int) := by omega
            obtain ⟨gM, rfl, hgM, hcM⟩ := own_cell (row_below HM.out hB2) q (.int .i64 M[q]) (by simp [hq])
            have hw2l : wl2.length ≤ X.length := Nat.le_trans (rise_len hwr2 (fun i hi => by
              rcases (hwm2 i).1 hi with h | h
              · exact HSub.out i h
              · exact ⟨_, (HM2.out i).1 (List.mem_of_mem_take h)⟩)) hrl
            have KPq := Lib.hid (KP.out wr w2.heap.size h6.size _ wl2 M[q] hwi2 hwr2 (by omega))
            have HWM2 := Lib.hid hwm2
            clear hwi2 hwm2
            go_wp2_with (first
              | (go_at_call 22; refine KPq.out.mono ?_; rintro e w5 ⟨a5, c5, l5, rfl, p1, p2, p3, p4, p5⟩))
            have P4 := Lib.hid p4
            clear p4
            go_roundg gp
            case measure => omega
            case rel =>
              refine ⟨q + 1, a5, c5, l5, by omega, by first | rfl | rw [wrap64_nat (by omega)] | simp, rfl, hB2.trans (p5.mono hB2.size), p1, P4.out, fun i => ?_⟩
              rw [p2 i, HWM2.out i, List.take_succ_eq_append_getElem hq, List.mem_append, List.mem_singleton, or_assoc]
end Go.Proofs.YtnlplnlclnbdiaaGreatDoor
