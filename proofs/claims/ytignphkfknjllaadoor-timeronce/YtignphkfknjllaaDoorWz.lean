/- Next, and a cancel that finds nothing; the conditions: the wheel in memory, its slots' least ticks known. -/
import Derived.Test.YtignphkfknjllaaDoorWy
namespace Go.Proofs.YtignphkfknjllaaDoor
open Go.RowKit

set_option maxRecDepth 100000 in
theorem soon_mixed (B o : Nat) (n : Int) (w : World) (hn : n ≠ 0) (c2 : w.cell? ⟨B, o + 2, none⟩ = some (.bool true)) (c3 : w.cell? ⟨B, o + 3, none⟩ = some (.int .i64 n)) : Calls Tryd.prog 29 #[.pointer (some ⟨B, o, none⟩)] w fun e w' => e = .returned (.int .i64 n) ∧ w' = w := by
  have h1 : (n == 0) = false := by simpa using hn
  have h2 : (n != 0) = true := by simpa using hn
  go_enter Tryd.func29, Tryd.ntmps29
  go_wp2
  go_ret
  exact ⟨rfl, rfl⟩
set_option maxRecDepth 100000 in
theorem soon_first (B o N : Nat) (n : Int) (w : World) (c2 : w.cell? ⟨B, o + 2, none⟩ = some (.bool false)) (c1 : w.cell? ⟨B, o + 1, none⟩ = some (.pointer (some ⟨N, 0, none⟩))) (d2 : w.cell? ⟨N, 2, none⟩ = some (.int .i64 n)) : Calls Tryd.prog 29 #[.pointer (some ⟨B, o, none⟩)] w fun e w' => e = .returned (.int .i64 n) ∧ w' = w := by
  go_enter Tryd.func29, Tryd.ntmps29
  go_wp2
  go_ret
  exact ⟨rfl, rfl⟩
theorem soon_any {w : World} {b m T : Nat} {LL : List Tm} {q : Nat → List Tm} {mx : Nat → Bool} {ls : Nat → Int} {us : Nat → Nat} (h : Ws true w b m T LL q mx ls us) {k : Nat} (hk : k < 448) (hne : q k ≠ []) : ∃ n : Nat, (∃ t ∈ q k, t.a = n) ∧ (∀ t ∈ q k, n ≤ t.a) ∧ Calls Tryd.prog 29 #[.pointer (some ⟨b, 2 + 4 * k, none⟩)] w fun e w' => e = .returned (.int .i64 n) ∧ w' = w := by
  cases hm : mx k with
  | true =>
    have c2 := h.wl.c2 k hk
    rw [hm] at c2
    rcases (h.ma k hk).2 hm with c | c | ⟨c, t, ht, e⟩
    · exact absurd c hne
    · rcases h.st rfl k hk hm with d | d
      · exact absurd d hne
      · exact absurd c d
    · have hpos := (h.gd.lo t (h.gd.mem hk ht).1).1
      refine ⟨t.a, ⟨t, ht, rfl⟩, fun u hu => by have := c u hu; omega, ?_⟩
      rw [← e] at c
      have c3 := h.wl.c3 k hk
      rw [← e] at c3
      exact soon_mixed b (2 + 4 * k) _ w (by omega) c2 c3
  | false =>
    have c2 := h.wl.c2 k hk
    rw [hm] at c2
    have hs := (h.ma k hk).1 hm
    cases hq : q k with
    | nil => exact absurd hq hne
    | cons f r =>
      have hf : (q k).head? = some f := by rw [hq]; rfl
      have hfm : f ∈ q k := by rw [hq]; simp
      have hbe := h.wl.wm.ls.be k hk
      rw [hf] at hbe
      refine ⟨f.a, ⟨f, by simp, rfl⟩, fun t ht => sorted_head hs hf t (by rw [hq]; exact ht), ?_⟩
      exact soon_first b (2 + 4 * k) f.b _ w c2 hbe (h.wl.wm.ls.tc k f hk hfm).1
/-- What Next tells. -/
def Nx (LL : List Tm) (e : Ending) : Prop := (LL = [] ∧ e = .returned (.tuple #[.int .i64 0, .bool false])) ∨ (∃ n : Nat, (∃ t ∈ LL, t.a = n) ∧ (∀ t ∈ LL, n ≤ t.a) ∧ e = .returned (.tuple #[.int .i64 n, .bool true]))
theorem nx_first {T : Nat} {q : Nat → List Tm} {us : Nat → Nat} {LL : List Tm} (g : Gd T q us LL) {k0 n : Nat} (hk : k0 < 448) (hne : q k0 ≠ []) (hf : ∀ k, k < k0 → q k = []) (h1 : ∃ t ∈ q k0, t.a = n) (h2 : ∀ t ∈ q k0, n ≤ t.a) : (∃ t ∈ LL, t.a = n) ∧ ∀ t ∈ LL, n ≤ t.a := by
  obtain ⟨t, ht, e⟩ := h1
  obtain ⟨m1, m2⟩ := g.mem hk ht
  obtain ⟨_, _, _, _, _, hge⟩ := first_place g hk hne hf
  refine ⟨⟨t, m1, e⟩, fun u hu => ?_⟩
  by_cases c : plc T u.a = k0
  · have := g.inn hu
    rw [c] at this
    exact h2 u this
  · have h3 := hge u hu
    have h4 := beg_lt (n := T) (a := t.a) (b := u.a) (g.lo u hu).1 (by omega)
    have h5 := beg_le T u.a
    omega
set_option maxRecDepth 100000 in
set_option maxHeartbeats 1000000 in
theorem next_any {w : World} {b m T : Nat} {LL : List Tm} (h : Wh true w b m T LL) (hT : Tb w) : Calls Tryd.prog 18 #[.pointer (some ⟨b, 0, none⟩)] w fun e w' => Nx LL e ∧ Below w.heap.size w w' := by
  have HM := Lib.hid (made_yes b m w h.c1)
  obtain ⟨q, mx, ls, us, ws⟩ := h
  have WS := Lib.hid ws
  have HT := Lib.hid hT
  clear ws hT
  go_enter Tryd.func18, Tryd.ntmps18
  go_wp2_with (go_at_call 25; refine HM.out.mono ?_; rintro e w9 ⟨rfl, hw9⟩; rw [hw9]; clear hw9 w9)
  go_loopw [10] (fun s10 wi => ∃ i : Nat, i ≤ 7 ∧ s10 = .int .i64 i ∧ (∀ k, k < i * 64 → q k = []) ∧ Below w.heap.size w wi) (fun s10 _ => 7 - (intOf s10).toNat)
  case atStart => exact ⟨0, by omega, rfl, fun k hk => by omega, Below.refl _ _⟩
  case round =>
    obtain ⟨i, hi, rfl, hf, bi⟩ := hrel
    have WI := Lib.hid (WS.out.wl.below bi)
    have hbi := WI.out.lt (.inl rfl)
    have szi := bi.size
    by_cases h7 : i < 7
    · have h7' : ((i : Nat) : Int) < 7 := by omega
      by_cases hu : us i = 0
      · have c : wr.cell? ⟨b, 1794 + i, none⟩ = some (.int .u64 0) := by have := WI.out.us i h7; rw [hu] at this; exact this
        have HN := Lib.hid (first_no b i wr h7 hbi c)
        clear c
        go_wp2_with (go_at_call 27; refine HN.out.mono ?_; rintro e w1 ⟨rfl, B1⟩)
        go_roundw
        case rel => exact ⟨i + 1, by omega, by go_num, level_none WS.out.gd h7 hu hf, bi.trans (((B1.mono (Nat.le_refl _)).alloc (B1.size) _).mono szi)⟩
        case measure => simp [intOf]; omega
      · obtain ⟨k1, k2, k3, k4⟩ := level_some WS.out.gd h7 hu hf
        have HY := Lib.hid (first_yes b i (us i) wr h7 hbi (WS.out.gd.ul i h7) hu (HT.out.below bi) (WI.out.us i h7))
        generalize tz 64 (us i) = s at *
        clear hu hf
        go_wp2_with fail
        refine HY.out.mono ?_
        rintro e w1 ⟨rfl, B1⟩
        have B2 : Below wr.heap.size wr (w1.alloc (.cells #[.int .i64 (i : Nat), .int .i64 (s : Nat)] 64)) := B1.alloc B1.size _
        have HS := Lib.hid (slotAt_any b i s (w1.alloc (.cells #[.int .i64 (i : Nat), .int .i64 (s : Nat)] 64)) h7 k2)
        clear HY
        go_wp2_with fail
        refine HS.out.mono ?_
        rintro e w3 ⟨rfl, B3⟩
        have b3 := bi.trans ((B2.trans (B3.mono B2.size)).mono szi)
        obtain ⟨n, n1, n2, n3⟩ := soon_any (WS.out.but (But.of_below (C := fun _ => False) b3) (fun _ c => c.elim)) k1 k3
        have N3 := Lib.hid n3
        have NX := Lib.hid (nx_first WS.out.gd k1 k3 k4 n1 n2)
        clear n1 n2 n3 HS B1 B2 B3
        go_wp2_with fail
        refine N3.out.mono ?_
        rintro e w9 ⟨rfl, hw9⟩
        rw [hw9]
        clear hw9 w9
        go_wp2_with fail
        go_ret2
        exact ⟨.inr ⟨n, NX.out.1, NX.out.2, rfl⟩, b3⟩
    · have h7' : ¬ ((i : Nat) : Int) < 7 := by omega
      obtain rfl : i = 7 := by omega
      have HNI := Lib.hid (no_timers WS.out.gd hf)
      clear hf
      go_wp2_with fail
      go_ret2
      exact ⟨.inl ⟨HNI.out, rfl⟩, bi⟩
set_option maxRecDepth 100000 in
theorem cancel_no {zf : Bool} {w : World} {b m T : Nat} {LL : List Tm} (h : Wh zf w b m T LL) (i : Int) (hi : i ∉ LL.map Tm.i) : Calls Tryd.prog 19 #[.pointer (some ⟨b, 0, none⟩), .int .i64 i] w fun e w' => e = .returned (.bool false) ∧ w' = w := by
  have HM := Lib.hid (made_yes b m w h.c1)
  have hw := waits_any h i
  rw [decide_eq_false hi] at hw
  have HW := Lib.hid hw
  clear h hw hi
  go_enter Tryd.func19, Tryd.ntmps19
  go_wp2_with (first | (go_at_call 25; refine HM.out.mono ?_; rintro e w9 ⟨rfl, hw9⟩; rw [hw9]; clear hw9 w9) | (go_at_call 30; refine HW.out.mono ?_; rintro e w9 ⟨rfl, hw9⟩; rw [hw9]; clear hw9 w9))
  go_ret
  exact ⟨rfl, rfl⟩
end Go.Proofs.YtignphkfknjllaaDoor
