/- Which numbers stay, and rows laid one behind another; the conditions: the rows in memory, of a size that can be. -/
import Derived.Test.YtdnmbalmejhbcaaDc
namespace Go.Proofs.Ytdnmbalmejhbcaa
open Go.RowKit Go.Shelf

/-- Those that another one is laid behind. -/
def stayL (size : Int) (l : List Int) : List Int := if 0 < l.length ∧ size ≤ l.length then l.tail else l
theorem stayL_le (size : Int) (l : List Int) : (stayL size l).length ≤ l.length := by unfold stayL; split <;> simp
theorem Sl.tail {w : World} {ad : Option Addr} {cap : Nat} {l : List Int} (h : Sl w ad cap l) (hp : 0 < l.length) {a : Addr} (e : ad = some a) : Sl w (if cap = 1 then some a else some (a.add 1)) (cap - 1) l.tail := by
  have hle := h.le
  refine ⟨by simp; omega, by split <;> (intro e; cases e), ?_⟩
  obtain ⟨b, o, e', h1, h2⟩ := h.cell hp
  by_cases hc : cap = 1
  · left
    exact List.eq_nil_of_length_eq_zero (by simp; omega)
  · right
    rw [if_neg hc]
    rw [e] at e'
    cases e'
    have hadd : (⟨b, o, none⟩ : Addr).add 1 = ⟨b, o + 1, none⟩ := by unfold Addr.add; split <;> simp_all
    refine ⟨b, o + 1, by rw [hadd], h1, fun j hj => ?_⟩
    simp at hj
    have := h2 (j + 1) (by omega)
    rw [show o + 1 + j = o + (j + 1) by omega, this, List.getElem_tail]

set_option maxRecDepth 100000 in
set_option maxHeartbeats 1000000 in
theorem staying_any (ad : Option Addr) (l : List Int) (cap : Nat) (size : Int) (w : World) (hl : l.length ≤ 100000) (hI : Sl w ad cap l) :
    Calls Try.prog 15 #[.slice ad l.length cap, .int .i64 size] w fun e w' => ∃ ad' cap', e = .returned (.slice ad' (stayL size l).length cap') ∧ Sl w ad' cap' (stayL size l) ∧ w' = w := by
  have HI := Lib.hid hI
  clear hI
  by_cases h0 : 0 < l.length
  · by_cases h1 : size ≤ l.length
    · have e : stayL size l = l.tail := if_pos ⟨h0, h1⟩
      rw [e]
      obtain ⟨b, o, rfl, _⟩ := HI.out.cell h0
      have HT := Lib.hid (HI.out.tail h0 rfl)
      have hle := HI.out.le
      by_cases hne : cap = 1
      · rw [if_pos hne] at HT
        subst hne
        go_enter Try.func15, Try.ntmps15
        go_wp2
        go_ret
        exact ⟨some ⟨b, o, none⟩, 0, by simp; omega, HT.out, rfl⟩
      · rw [if_neg hne] at HT
        go_enter Try.func15, Try.ntmps15
        go_wp2
        go_ret
        exact ⟨_, _, by simp; rfl, HT.out, rfl⟩
    · have e : stayL size l = l := if_neg (by omega)
      rw [e]
      go_enter Try.func15, Try.ntmps15
      go_wp2
      go_ret
      exact ⟨ad, cap, rfl, HI.out, rfl⟩
  · have e : stayL size l = l := if_neg (by omega)
    rw [e]
    go_enter Try.func15, Try.ntmps15
    go_wp2
    go_ret
    exact ⟨ad, cap, rfl, HI.out, rfl⟩

set_option maxRecDepth 100000 in
set_option maxHeartbeats 1000000 in
theorem grow_any (n : Nat) (w : World) (h0 : 0 < n) (hn : n ≤ 200000) :
    Calls Try.prog 17 #[.slice none 0 0, .int .i64 n] w fun e w' => ∃ ad' cap', e = .returned (.slice ad' 0 cap') ∧ Ow w' w.heap.size ad' cap' [] ∧ Below w.heap.size w w' := by
  obtain ⟨i0, hi0, hz0, hz1, hz2⟩ := info_parts infoI
  have hr := fun w => Lib.run_append_nil_zeros (P := Try.prog) w 22 3 22 2 i0 (.int .i64 0) .i64 .i64 Try.underlying22 Try.underlying3 hi0 hz0 n h0 (by omega) (by omega) (by rw [hz2]; omega)
  go_enter Try.func17, Try.ntmps17
  go_wp2_with (at_builtin; refine Lib.wpList_append_run _ rfl _ _ _ _ rfl _ _ rfl rfl _ _ (hr _) ?_)
  go_ret
  refine ⟨_, _, rfl, ⟨rfl, .inr ⟨w.heap.size, grownCap w n 0 2, _, rfl, Nat.le_refl _, heap_alloc_new w _, Nat.zero_le _, grownCap_le_maxLen _ _ _ _ (by unfold maxLen; omega), ?_, by simp⟩⟩, (below1 w _).drew⟩
  have := grownCap_ge w n 0 2
  simp [size_zeroCells]
  omega

set_option maxRecDepth 100000 in
set_option maxHeartbeats 1000000 in
theorem concat_any (B : Nat) (a1 a2 : Option Addr) (l1 l2 : List Int) (c1 c2 : Nat) (w : World) (h1 : l1.length ≤ 100000) (h2 : l2.length ≤ 1000) (hp : 0 < l2.length) (hB : B < w.heap.size) (cB0 : w.cell? ⟨B, 0, none⟩ = some (.slice a1 l1.length c1)) (cB1 : w.cell? ⟨B, 1, none⟩ = some (.slice a2 l2.length c2)) (s1 : Sl w a1 c1 l1) (s2 : Sl w a2 c2 l2) :
    Calls Try.prog 14 #[.slice (some ⟨B, 0, none⟩) 2 2] w fun e w' => ∃ ad' cap', e = .returned (.slice ad' (l1 ++ l2).length cap') ∧ Ow w' w.heap.size ad' cap' (l1 ++ l2) ∧ Below w.heap.size w w' := by
  have S1 := Lib.hid s1
  have S2 := Lib.hid s2
  clear s1 s2
  go_enter Try.func14, Try.ntmps14
  go_wp2
  go_loopw [3, 5, 11] (fun sn _ si wr => ∃ j : Nat, si = .int .i64 j ∧ j ≤ 2 ∧ sn = .int .i64 ((if 1 ≤ j then l1.length else 0) + (if 2 ≤ j then l2.length else 0) : Nat) ∧ w = wr) (fun _ _ si _ => (2 - intOf si).toNat)
  case atStart => exact ⟨0, rfl, by omega, rfl, rfl⟩
  case round =>
    obtain ⟨j, rfl, hj, rfl, rfl⟩ := hrel
    obtain rfl | rfl | rfl : j = 0 ∨ j = 1 ∨ j = 2 := by omega
    · go_wp2_with fail
      exact ⟨⟨1, rfl, by omega, by simp, trivial⟩, by decide⟩
    · go_wp2_with fail
      exact ⟨⟨2, rfl, by omega, by simp, trivial⟩, by decide⟩
    · have G := Lib.hid (fun w' => grow_any (l1.length + l2.length) w' (by omega) (by omega))
      rw [Int.natCast_add] at G
      go_wp2_with (go_at_call 17; refine (G.out _).mono ?_; rintro e w1 ⟨ad3, c3, rfl, o3, b3⟩)
      have O3 := Lib.hid o3
      have B3 := Lib.hid b3
      clear o3 b3 G
      go_loopw [6, 8, 27] (fun sn _ si wx => ∃ (j : Nat) (xs : List Int) (ad : Option Addr) (c : Nat), si = .int .i64 j ∧ j ≤ 2 ∧ sn = .slice ad xs.length c ∧ xs = (if 1 ≤ j then l1 else []) ++ (if 2 ≤ j then l2 else []) ∧ Hid (Ow wx w.heap.size ad c xs ∧ Below w.heap.size w wx)) (fun _ _ si _ => (2 - intOf si).toNat)
      case atStart => exact ⟨0, [], ad3, c3, rfl, by omega, rfl, rfl, Lib.hid ⟨O3.out, B3.out⟩⟩
      case round =>
        obtain ⟨j, xs, ad, c, rfl, hj, rfl, hxs, hR⟩ := hrel
        clear O3 B3
        have k0 := (World.cell?_of_block (a := ⟨B, 0, none⟩) (hR.out.2.block B hB)).trans cB0
        have k1 := (World.cell?_of_block (a := ⟨B, 1, none⟩) (hR.out.2.block B hB)).trans cB1
        obtain rfl | rfl | rfl : j = 0 ∨ j = 1 ∨ j = 2 := by omega
        · go_wp2_with (at_builtin; refine wpList_app rfl _ _ rfl w.heap.size _ _ xs rfl hR.out.1 a1 c1 l1 rfl (S1.out.step hR.out.2) (by simp [hxs]; omega) hR.out.2.size ?_; intro ad4 c4 w4 o4 b4)
          exact ⟨⟨1, xs ++ l1, ad4, c4, rfl, by omega, by simp [hxs], by simp [hxs], Lib.hid ⟨o4, hR.out.2.trans b4⟩⟩, by decide⟩
        · go_wp2_with (at_builtin; refine wpList_app rfl _ _ rfl w.heap.size _ _ xs rfl hR.out.1 a2 c2 l2 rfl (S2.out.step hR.out.2) (by simp [hxs]; omega) hR.out.2.size ?_; intro ad4 c4 w4 o4 b4)
          exact ⟨⟨2, xs ++ l2, ad4, c4, rfl, by omega, by simp [hxs], by simp [hxs], Lib.hid ⟨o4, hR.out.2.trans b4⟩⟩, by decide⟩
        · go_wp2_with fail
          go_ret
          exact ⟨ad, c, by simp [hxs], by simpa [hxs] using hR.out.1, hR.out.2⟩
end Go.Proofs.Ytdnmbalmejhbcaa
