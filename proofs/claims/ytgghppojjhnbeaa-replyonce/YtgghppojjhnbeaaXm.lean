/- The package's rows copied and put together, Open; the conditions that each theorem names. -/
import Derived.Test.YtgghppojjhnbeaaXl
import Derived.Lib.AppendZeros
namespace Go.Proofs.Ytgghppojjhnbeaa
open Go.RowKit

theorem own_empty (w : World) : (w.alloc (.cells #[] 41)).ownsRow w.heap.size 41 3 (.slice (some ⟨w.heap.size, 0, none⟩) 0 0) ([] : List Ak).length (flk Ak.cl []) :=
  ⟨rfl, .inr ⟨w.heap.size, 0, #[], rfl, Nat.le_refl _, heap_alloc_new w _, Nat.le_refl _, by decide, rfl, rfl⟩⟩

set_option maxRecDepth 100000 in
set_option maxHeartbeats 1000000 in
theorem clone_any (sv : Value) (L : List Ak) (w : World) (h : Al w sv L) (hl : L.length ≤ 100000) :
    Calls Try.prog 21 #[sv] w fun e w' => ∃ s2, e = .returned s2 ∧ w'.ownsRow w.heap.size 41 3 s2 L.length (flk Ak.cl L) ∧ Below w.heap.size w w' := by
  have HA := Lib.hid h
  obtain ⟨ad, cap, rfl, hk⟩ := h
  have q22 : ∀ (w : World) (a : Option Addr) (n c n' c' : Nat), (binOp .eql 22 (.slice a n c) (.slice none n' c')).run Try.prog w = .ok (.bool a.isNone) w := fun w a n c n' c' => Lib.run_eql_slice_nil w _ _ a n c n' c' Try.underlying22
  cases ad with
  | none =>
    obtain rfl : L = [] := by
      rcases hk with hk | ⟨b, o, e, -⟩
      · exact hk
      · cases e
    go_enter Try.func21, Try.ntmps21
    go_wp2
    go_ret
    exact ⟨_, rfl, World.ownsRow_nil _ _ _ _, Below.refl _ _⟩
  | some a =>
    clear hk
    have HO := Lib.hid (own_empty w)
    go_enter Try.func21, Try.ntmps21
    go_wp2_with (at_builtin; refine wpList_aapp rfl _ _ rfl w.heap.size [] _ rfl HO.out (by simp) _ L rfl (HA.out.below (below1 w _)) (by simp; omega) ?_; intro s2 w2 o2 g2)
    go_ret
    exact ⟨s2, rfl, o2, below_grown (below1 w _) g2 HO.out (Nat.le_refl _)⟩

set_option maxRecDepth 100000 in
set_option maxHeartbeats 1000000 in
theorem grow_any (n : Nat) (w : World) (h0 : 0 < n) (hn : n ≤ 200000) :
    Calls Try.prog 22 #[.slice none 0 0, .int .i64 n] w fun e w' => ∃ s2, e = .returned s2 ∧ w'.ownsRow w.heap.size 41 3 s2 ([] : List Ak).length (flk Ak.cl []) ∧ Below w.heap.size w w' := by
  obtain ⟨i0, hi0, hz0, hz1, hz2⟩ := info_parts infoAk
  have hr := fun w => Lib.run_append_nil_zeros (P := Try.prog) w 22 3 22 41 i0 _ .i64 .i64 Try.underlying22 Try.underlying3 hi0 hz0 n h0 (by omega) (by omega) (by rw [hz2]; omega)
  go_enter Try.func22, Try.ntmps22
  go_wp2_with (at_builtin; refine Lib.wpList_append_run _ rfl _ _ _ _ rfl _ _ rfl rfl _ _ (hr _) ?_)
  go_ret
  refine ⟨_, rfl, ⟨rfl, .inr ⟨w.heap.size, grownCap w n 0 41, _, rfl, Nat.le_refl _, heap_alloc_new w _, Nat.zero_le _, grownCap_le_maxLen _ _ _ _ (by unfold maxLen; omega), ?_, by simp [flk]⟩⟩, (below1 w _).drew⟩
  have := grownCap_ge w n 0 41
  simp [size_zeroCells]
  omega

set_option maxRecDepth 100000 in
set_option maxHeartbeats 1000000 in
theorem concat_any (B : Nat) (v1 v2 : Value) (l1 l2 : List Ak) (w : World) (h1 : l1.length ≤ 100000) (h2 : l2.length ≤ 1000) (hp : 0 < l2.length) (hB : B < w.heap.size) (cB0 : w.cell? ⟨B, 0, none⟩ = some v1) (cB1 : w.cell? ⟨B, 1, none⟩ = some v2) (s1 : Al w v1 l1) (s2 : Al w v2 l2) :
    Calls Try.prog 16 #[.slice (some ⟨B, 0, none⟩) 2 2] w fun e w' => ∃ s, e = .returned s ∧ w'.ownsRow w.heap.size 41 3 s (l1 ++ l2).length (flk Ak.cl (l1 ++ l2)) ∧ Below w.heap.size w w' := by
  have S1 := Lib.hid s1
  have S2 := Lib.hid s2
  obtain ⟨a1, c1, rfl, -⟩ := s1
  obtain ⟨a2, c2, rfl, -⟩ := s2
  go_enter Try.func16, Try.ntmps16
  go_wp2
  go_loopw [3, 5, 11] (fun sn _ si wr => ∃ j : Nat, si = .int .i64 j ∧ j ≤ 2 ∧ sn = .int .i64 ((if 1 ≤ j then l1.length else 0) + (if 2 ≤ j then l2.length else 0) : Nat) ∧ w = wr) (fun _ _ si _ => (2 - intOf si).toNat)
  case atStart => exact ⟨0, rfl, by omega, rfl, rfl⟩
  case round =>
    obtain ⟨j, rfl, hj, rfl, rfl⟩ := hrel
    obtain rfl | rfl | rfl : j = 0 ∨ j = 1 ∨ j = 2 := by omega
    · go_wp2_with fail
      exact ⟨⟨1, rfl, by omega, by simp, trivial⟩, by decide⟩
    · go_wp2_with fail
      exact ⟨⟨2, rfl, by omega, by simp, trivial⟩, by decide⟩
    · have G := Lib.hid (fun w' => grow_any (l1.length + l2.length) w' (by omega) (by omega))
      rw [Int.natCast_add] at G
      go_wp2_with (go_at_call 22; refine (G.out _).mono ?_; rintro e w1 ⟨v3, rfl, o3, b3⟩)
      have O3 := Lib.hid o3
      have B3 := Lib.hid b3
      clear o3 b3 G
      go_loopw [6, 8, 27] (fun sn _ si wx => ∃ (j : Nat) (xs : List Ak), si = .int .i64 j ∧ j ≤ 2 ∧ xs = (if 1 ≤ j then l1 else []) ++ (if 2 ≤ j then l2 else []) ∧ Hid (wx.ownsRow w.heap.size 41 3 sn xs.length (flk Ak.cl xs) ∧ Below w.heap.size w wx)) (fun _ _ si _ => (2 - intOf si).toNat)
      case atStart => exact ⟨0, [], rfl, by omega, rfl, Lib.hid ⟨O3.out, B3.out⟩⟩
      case round =>
        obtain ⟨j, xs, rfl, hj, hxs, hR⟩ := hrel
        clear O3 B3
        have k0 := (World.cell?_of_block (a := ⟨B, 0, none⟩) (hR.out.2.block B hB)).trans cB0
        have k1 := (World.cell?_of_block (a := ⟨B, 1, none⟩) (hR.out.2.block B hB)).trans cB1
        obtain rfl | rfl | rfl : j = 0 ∨ j = 1 ∨ j = 2 := by omega
        · go_wp2_with (at_builtin; refine wpList_aapp rfl _ _ rfl w.heap.size xs _ rfl hR.out.1 hR.out.2.size _ l1 rfl (S1.out.below hR.out.2) (by simp [hxs]; omega) ?_; intro s4 w4 o4 g4)
          exact ⟨⟨1, xs ++ l1, rfl, by omega, by simp [hxs], Lib.hid ⟨o4, below_grown hR.out.2 g4 hR.out.1 (Nat.le_refl _)⟩⟩, by decide⟩
        · go_wp2_with (at_builtin; refine wpList_aapp rfl _ _ rfl w.heap.size xs _ rfl hR.out.1 hR.out.2.size _ l2 rfl (S2.out.below hR.out.2) (by simp [hxs]; omega) ?_; intro s4 w4 o4 g4)
          exact ⟨⟨2, xs ++ l2, rfl, by omega, by simp [hxs], Lib.hid ⟨o4, below_grown hR.out.2 g4 hR.out.1 (Nat.le_refl _)⟩⟩, by decide⟩
        · go_wp2_with fail
          go_ret
          exact ⟨_, rfl, by simpa [hxs] using hR.out.1, hR.out.2⟩

end Go.Proofs.Ytgghppojjhnbeaa
