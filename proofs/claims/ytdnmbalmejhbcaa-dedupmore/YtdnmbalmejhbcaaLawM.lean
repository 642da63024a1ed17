/- For any sizes and numbers the law DedupMore answers true; the conditions: the row in memory. -/
import Derived.Test.YtdnmbalmejhbcaaLawR
namespace Go.Proofs.Ytdnmbalmejhbcaa
open Go.RowKit Go.Shelf

theorem lastS_sub {A B : Nat} (h : A ≤ B) {fr : List Int} {x : Int} (hx : x ∈ lastS A fr) : x ∈ lastS B fr := by
  obtain ⟨j, h1, h2, h3⟩ := lastS_mem.1 hx
  exact lastS_mem.2 ⟨j, by omega, h2, h3⟩
/-- Two states in their boxes. -/
structure Mo (w : World) (l1 : List Int) (a1 : Option Addr) (c1 : Nat) (l2 : List Int) (a2 : Option Addr) (c2 : Nat) (W : World) : Prop where
  b1 : Bk W w.heap.size #[.slice a1 l1.length c1] 24
  b2 : Bk W (w.heap.size + 1) #[.slice a2 l2.length c2] 24
  r1 : Ow W (w.heap.size + 2) a1 c1 l1
  r2 : Ow W (w.heap.size + 2) a2 c2 l2
  lo : Below w.heap.size w W
theorem Mo.start (w : World) : Mo w [] none 0 [] none 0 ((w.alloc (.cells #[.slice none 0 0] 24)).alloc (.cells #[.slice none 0 0] 24)) :=
  ⟨(Bk.new w _ _).alloc _, Bk.new2 w _ _ _, Ow.nil _ _, Ow.nil _ _, below2 _ _ _⟩
theorem Mo.one {w W w1 : World} {l1 l2 l3 : List Int} {a1 a2 a3 : Option Addr} {c1 c2 c3 : Nat} (h : Mo w l1 a1 c1 l2 a2 c2 W) (hb : Below W.heap.size W w1) (o : Ow w1 W.heap.size a3 c3 l3) : Mo w l3 a3 c3 l2 a2 c2 (w1.setCell ⟨w.heap.size, 0, none⟩ (.slice a3 l3.length c3)) := by
  have hs := h.b2.lt
  exact ⟨(h.b1.step hb).set 0 _, (h.b2.step hb).other _ _ (by simp), (o.mono (by omega)).set (by omega) _, (h.r2.step hb).set (by omega) _, (h.lo.trans (hb.mono (by omega))).setCell (p := ⟨w.heap.size, 0, none⟩) (by simp) _⟩
theorem Mo.two {w W w1 : World} {l1 l2 l3 : List Int} {a1 a2 a3 : Option Addr} {c1 c2 c3 : Nat} (h : Mo w l1 a1 c1 l2 a2 c2 W) (hb : Below W.heap.size W w1) (o : Ow w1 W.heap.size a3 c3 l3) : Mo w l1 a1 c1 l3 a3 c3 (w1.setCell ⟨w.heap.size + 1, 0, none⟩ (.slice a3 l3.length c3)) := by
  have hs := h.b2.lt
  exact ⟨(h.b1.step hb).other _ _ (by simp), (h.b2.step hb).set 0 _, (h.r1.step hb).set (by omega) _, (o.mono (by omega)).set (by omega) _, (h.lo.trans (hb.mono (by omega))).setCell (p := ⟨w.heap.size + 1, 0, none⟩) (by simp) _⟩

set_option maxRecDepth 100000 in
set_option maxHeartbeats 4000000 in
theorem law_more (z y : Int) (ad : Option Addr) (zs : List Int) (cap : Nat) (w : World) (hr : zs.length ≤ 9223372036854775807) (hI : Sl w ad cap zs) :
    Calls Try.prog 5 #[.int .i64 z, .int .i64 y, .slice ad zs.length cap] w fun e w' => e = .returned (.bool true) ∧ Below w.heap.size w w' := by
  obtain ⟨q, hq, hq1⟩ := rem_num 29 z (by omega)
  rw [show (29 : Int) + 1 = 30 by omega] at hq
  obtain ⟨r, hr', hr1⟩ := rem_num 29 y (by omega)
  rw [show (29 : Int) + 1 = 30 by omega] at hr'
  have HI := Lib.hid hI
  have F0 : Hid (Mo w (lastS (q + 1) []) none 0 (lastS (q + 1 + r) []) none 0 _) := Lib.hid (by simpa [lastS] using Mo.start w)
  clear hI
  go_enter Try.func5, Try.ntmps5
  go_wp2_with fail
  clear hq hr'
  go_loopw [27] (fun si wr => ∃ (j : Nat) (fr : List Int) (a1 : Option Addr) (c1 : Nat) (a2 : Option Addr) (c2 : Nat), si = .int .i64 j ∧ j ≤ zs.length ∧ Hid (Mo w (lastS (q + 1) fr) a1 c1 (lastS (q + 1 + r) fr) a2 c2 wr)) (fun si _ => (zs.length - intOf si).toNat)
  case atStart => exact ⟨0, [], none, 0, none, 0, rfl, Nat.zero_le _, F0⟩
  case round =>
    obtain ⟨j, fr, a1, c1, a2, c2, rfl, hj, hF⟩ := hrel
    clear F0
    by_cases hjl : j < zs.length
    · obtain ⟨b, o, rfl, hb, hc⟩ := (HI.out.below hF.out.lo (Nat.le_refl _)).getD (by omega)
      have d1 := hc j hjl
      generalize zs.getD j 0 = id at d1
      clear hc
      by_cases h200 : j < 200
      · have x1 := hF.out.b1.c 0
        simp at x1
        have es : (1 + (q : Int)) = ((q + 1 : Nat) : Int) := by omega
        have et : (1 + (q : Int)) + r = ((q + 1 + r : Nat) : Int) := by omega
        have S1 := Lib.hid (seen_any a1 (lastS (q + 1) fr) c1 (1 + (q : Int)) id wr (by have := lastS_len (q + 1) fr; omega) hF.out.r1.sl)
        have S2 := Lib.hid (fun w' (h : Sl w' a2 c2 (lastS (q + 1 + r) fr)) => seen_any a2 (lastS (q + 1 + r) fr) c2 (1 + (q : Int) + r) id w' (by have := lastS_len (q + 1 + r) fr; omega) h)
        by_cases hm : id ∈ lastS (q + 1) fr
        · have hm2 := lastS_sub (B := q + 1 + r) (by omega) hm
          rw [sn_yes hm, decide_eq_true hm] at S1
          rw [sn_yes hm2, decide_eq_true hm2] at S2
          clear hm hm2 es et
          go_wp2_with (first
            | (go_at_call 8; with_reducible refine S1.out.mono ?_; rintro e w1 ⟨a3, c3, rfl, o3, b3⟩; have f0 := (hF.out.b1.step b3).f 0; have g0 := (hF.out.b1.step b3).c 0; simp at g0; have N1 := Lib.hid (hF.out.one b3 o3); have x2 := N1.out.b2.c 0; have y2 := (hF.out.b2.step b3).c 0; simp at x2 y2; clear o3 b3)
            | (go_at_call 8; with_reducible refine (S2.out _ N1.out.r2.sl).mono ?_; rintro e w2 ⟨a4, c4, rfl, o4, b4⟩; have f1 := (N1.out.b2.step b4).f 0; have g1 := (N1.out.b2.step b4).c 0; simp at g1; have N2 := Lib.hid (N1.out.two b4 o4); clear o4 b4))
          exact ⟨⟨j + 1, fr, a3, c3, a4, c4, by simp, by omega, N2⟩, by simp [intOf]; omega⟩
        · by_cases hm2 : id ∈ lastS (q + 1 + r) fr
          · rw [decide_eq_false hm] at S1
            rw [decide_eq_true hm2] at S2
            clear hm hm2 es et
            generalize sn (1 + (q : Int)) id (lastS (q + 1) fr) = L1 at S1
            generalize sn (1 + (q : Int) + r) id (lastS (q + 1 + r) fr) = L2 at S2
            go_wp2_with (first
              | (go_at_call 8; with_reducible refine S1.out.mono ?_; rintro e w1 ⟨a3, c3, rfl, o3, b3⟩; have f0 := (hF.out.b1.step b3).f 0; have g0 := (hF.out.b1.step b3).c 0; simp at g0; have N1 := Lib.hid (hF.out.one b3 o3); have x2 := N1.out.b2.c 0; have y2 := (hF.out.b2.step b3).c 0; simp at x2 y2; clear o3 b3)
              | (go_at_call 8; with_reducible refine (S2.out _ N1.out.r2.sl).mono ?_; rintro e w2 ⟨a4, c4, rfl, o4, b4⟩; have f1 := (N1.out.b2.step b4).f 0; have g1 := (N1.out.b2.step b4).c 0; simp at g1; have N2 := Lib.hid (N1.out.two b4 o4); clear o4 b4)
              | (go_at_call 7; refine (awake_any _).mono ?_; rintro e w5 ⟨rfl, b5⟩))
            go_ret
            exact ⟨rfl, below_then b5 N2.out.lo⟩
          · rw [decide_eq_false hm, es, sn_lastS (by omega) fr id hm, ← es] at S1
            rw [decide_eq_false hm2, et, sn_lastS (by omega) fr id hm2, ← et] at S2
            clear hm hm2 es et
            go_wp2_with (first
              | (go_at_call 8; with_reducible refine S1.out.mono ?_; rintro e w1 ⟨a3, c3, rfl, o3, b3⟩; have f0 := (hF.out.b1.step b3).f 0; have g0 := (hF.out.b1.step b3).c 0; simp at g0; have N1 := Lib.hid (hF.out.one b3 o3); have x2 := N1.out.b2.c 0; have y2 := (hF.out.b2.step b3).c 0; simp at x2 y2; clear o3 b3)
              | (go_at_call 8; with_reducible refine (S2.out _ N1.out.r2.sl).mono ?_; rintro e w2 ⟨a4, c4, rfl, o4, b4⟩; have f1 := (N1.out.b2.step b4).f 0; have g1 := (N1.out.b2.step b4).c 0; simp at g1; have N2 := Lib.hid (N1.out.two b4 o4); clear o4 b4))
            exact ⟨⟨j + 1, fr ++ [id], a3, c3, a4, c4, by simp, by omega, N2⟩, by simp [intOf]; omega⟩
      · go_wp2_with (go_at_call 7; refine (awake_any _).mono ?_; rintro e w2 ⟨rfl, b2⟩)
        go_ret
        exact ⟨rfl, below_then b2 hF.out.lo⟩
    · go_wp2_with (go_at_call 7; refine (awake_any _).mono ?_; rintro e w2 ⟨rfl, b2⟩)
      go_ret
      exact ⟨rfl, below_then b2 hF.out.lo⟩
end Go.Proofs.Ytdnmbalmejhbcaa
