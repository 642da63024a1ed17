/- The reader's call value over its calls word and marked; the theorem names its conditions. -/
import Derived.Test.YtfanoiomiijlgaaDoorMarked
namespace Go.Proofs.YtfanoiomiijlgaaDoor
open Go.RowKit

theorem size_setCell' (w : World) (p : Addr) (v : Value) : (w.setCell p v).heap.size = w.heap.size := by simp [World.setCell]
theorem set5_keep (w : World) {N k : Nat} (u0 u1 u2 u3 u4 : Value) (hk : k ≠ N) :
    (((((w.setCell ⟨N, 0, none⟩ u0).setCell ⟨N, 1, none⟩ u1).setCell ⟨N, 2, none⟩ u2).setCell ⟨N, 3, none⟩ u3).setCell ⟨N, 4, none⟩ u4).heap[k]? = w.heap[k]? :=
  (Below.heap_setCell _ _ _ _ hk).trans ((Below.heap_setCell _ _ _ _ hk).trans ((Below.heap_setCell _ _ _ _ hk).trans ((Below.heap_setCell _ _ _ _ hk).trans (Below.heap_setCell _ _ _ _ hk))))
theorem D5.setOther {w : World} {N M o : Nat} {v0 v1 v2 v3 v4 : Value} (h : D5 w N v0 v1 v2 v3 v4) (hne : N ≠ M) (u : Value) : D5 (w.setCell ⟨M, o, none⟩ u) N v0 v1 v2 v3 v4 := by
  unfold D5 at h ⊢; rw [Below.heap_setCell _ _ _ _ hne]; exact h
theorem D5.setOther5 {w : World} {N M : Nat} {v0 v1 v2 v3 v4 : Value} (h : D5 w N v0 v1 v2 v3 v4) (hne : N ≠ M) (u0 u1 u2 u3 u4 : Value) :
    D5 (((((w.setCell ⟨M, 0, none⟩ u0).setCell ⟨M, 1, none⟩ u1).setCell ⟨M, 2, none⟩ u2).setCell ⟨M, 3, none⟩ u3).setCell ⟨M, 4, none⟩ u4) N v0 v1 v2 v3 v4 :=
  ((((h.setOther hne u0).setOther hne u1).setOther hne u2).setOther hne u3).setOther hne u4

set_option maxRecDepth 100000 in
set_option maxHeartbeats 1000000 in
theorem value_of (b : Nat) (s : ByteArray) (a n : Nat) (deep : Int) (w : World) (h : Rd w b s a n) (hd : deep ≤ 16) (hn : n < 4096) (ha : a ≤ s.size) (hs : s.size ≤ maxLen)
    (p1 : Lib.hasPrefix (List.drop a s.data.toList) [110, 105, 108] = false)
    (p2 : Lib.hasPrefix (List.drop a s.data.toList) [116, 114, 117, 101] = false)
    (p3 : Lib.hasPrefix (List.drop a s.data.toList) [102, 97, 108, 115, 101] = false)
    (p4 : Lib.hasPrefix (List.drop a s.data.toList) [38, 110, 105, 108] = false)
    (p5 : Lib.hasPrefix (List.drop a s.data.toList) [123, 125] = false)
    (a' n' len : Nat) (u0 u1 u2 : Int) (u3 : ByteArray) (K : Option Addr → Nat → World → Prop)
    (hK : ∀ ad cap w2 w3, (∀ k, w.heap.size + 2 ≤ k → w3.heap[k]? = w2.heap[k]?) → K ad cap w2 → K ad cap w3)
    (H : ∀ w1 : World, w.heap.size + 2 ≤ w1.heap.size → Rd w1 b s a ↑(n + 1) → Calls Tryd.prog 33 #[.pointer (some ⟨b, 0, none⟩), .int .i64 deep] w1 fun e w' => ∃ ad cap, e = .returned (.tuple #[.agg #[.int .i64 u0, .int .i64 u1, .int .u64 u2, .string u3, .slice ad len cap], .bool true]) ∧ Rd w' b s a' n' ∧ w1.grownBy w' (some b) ∧ K ad cap w') :
    Calls Tryd.prog 25 #[.pointer (some ⟨b, 0, none⟩), .int .i64 deep] w fun e w' => ∃ ad cap, e = .returned (.tuple #[.agg #[.int .i64 u0, .int .i64 u1, .int .u64 u2, .string u3, .slice ad len cap], .bool true]) ∧ Rd w' b s a' n' ∧ w.grownBy w' (some b) ∧ K ad cap w' := by
  have hb := h.lt
  have hc2 := h.c2
  have hf2 := h.f (o := 2)
  have HK := Lib.hid hK
  have HH := Lib.hid H
  clear hK H
  have e1 : ¬ 16 < deep := by omega
  have e2 : ((n : Int) == 4096) = false := by simp; omega
  unfold maxLen at hs
  go_enter Tryd.func25, Tryd.ntmps25
  go_wp2_with fail
  go_step3
  go_wp2_with fail
  have hV : (w.setCell ⟨b, 2, none⟩ (.int .i64 ((n : Int) + 1))).heap.size = w.heap.size := by simp [World.setCell]
  have r0 : Rd (((w.setCell ⟨b, 2, none⟩ (.int .i64 ((n : Int) + 1))).alloc (.cells #[.int .i64 0, .int .i64 0, .int .u64 0, .string ⟨#[]⟩, .slice none 0 0] 25)).alloc (.cells #[.int .i64 0, .int .i64 0, .int .u64 0, .string ⟨#[]⟩, .slice none 0 0] 25)) b s a ↑(n + 1) := ((h.set2 ((n : Int) + 1)).alloc _).alloc _
  have d1 : D5 (((w.setCell ⟨b, 2, none⟩ (.int .i64 ((n : Int) + 1))).alloc (.cells #[.int .i64 0, .int .i64 0, .int .u64 0, .string ⟨#[]⟩, .slice none 0 0] 25)).alloc (.cells #[.int .i64 0, .int .i64 0, .int .u64 0, .string ⟨#[]⟩, .slice none 0 0] 25)) w.heap.size (.int .i64 0) (.int .i64 0) (.int .u64 0) (.string ⟨#[]⟩) (.slice none 0 0) := by
    have := D5.new (w.setCell ⟨b, 2, none⟩ (.int .i64 ((n : Int) + 1))) (.int .i64 0) (.int .i64 0) (.int .u64 0) (.string ⟨#[]⟩) (.slice none 0 0)
    rw [hV] at this
    exact this.kept (b := b) (World.grownBy_alloc _ _ _) (by omega)
  have d2 : D5 (((w.setCell ⟨b, 2, none⟩ (.int .i64 ((n : Int) + 1))).alloc (.cells #[.int .i64 0, .int .i64 0, .int .u64 0, .string ⟨#[]⟩, .slice none 0 0] 25)).alloc (.cells #[.int .i64 0, .int .i64 0, .int .u64 0, .string ⟨#[]⟩, .slice none 0 0] 25)) (w.heap.size + 1) (.int .i64 0) (.int .i64 0) (.int .u64 0) (.string ⟨#[]⟩) (.slice none 0 0) := by
    have := D5.new ((w.setCell ⟨b, 2, none⟩ (.int .i64 ((n : Int) + 1))).alloc (.cells #[.int .i64 0, .int .i64 0, .int .u64 0, .string ⟨#[]⟩, .slice none 0 0] 25)) (.int .i64 0) (.int .i64 0) (.int .u64 0) (.string ⟨#[]⟩) (.slice none 0 0)
    rw [World.size_alloc, hV] at this
    exact this
  have g0 : w.grownBy (((w.setCell ⟨b, 2, none⟩ (.int .i64 ((n : Int) + 1))).alloc (.cells #[.int .i64 0, .int .i64 0, .int .u64 0, .string ⟨#[]⟩, .slice none 0 0] 25)).alloc (.cells #[.int .i64 0, .int .i64 0, .int .u64 0, .string ⟨#[]⟩, .slice none 0 0] 25)) (some b) := grown_trans (grown_trans (grown_set w b 2 _) (World.grownBy_alloc _ _ _)) (World.grownBy_alloc _ _ _)
  refine (word_none b s a (n + 1) _ r0 ha (by unfold maxLen; omega) p1 p2 p3 p4 p5).mono ?_
  rintro e w1 ⟨rfl, r1, g1⟩
  have e1 := d1.kept g1 (by omega)
  have e2 := d2.kept g1 (by omega)
  have G1 := grown_trans g0 g1
  obtain ⟨k0, k1, k2, k3, k4⟩ := e2.c
  have f0 := e2.f (o := 0)
  have f1 := e2.f (o := 1)
  have f2 := e2.f (o := 2)
  have f3 := e2.f (o := 3)
  have f4 := e2.f (o := 4)
  have hN : w.heap.size + 1 < w1.heap.size := e2.lt
  clear r0 d1 d2 g0 g1 hV hc2 hf2 p1 p2 p3 p4 p5 h
  go_wp2_with fail
  have hz : w.heap.size + 2 ≤ (((((w1.setCell ⟨w.heap.size + 1, 0, none⟩ (.int .i64 0)).setCell ⟨w.heap.size + 1, 1, none⟩ (.int .i64 0)).setCell ⟨w.heap.size + 1, 2, none⟩ (.int .u64 0)).setCell ⟨w.heap.size + 1, 3, none⟩ (.string ⟨#[]⟩)).setCell ⟨w.heap.size + 1, 4, none⟩ (.slice none 0 0)).heap.size := by simp only [size_setCell']; omega
  have y1 := e1.setOther5 (M := w.heap.size + 1) (by omega) (.int .i64 0) (.int .i64 0) (.int .u64 0) (.string ⟨#[]⟩) (.slice none 0 0)
  have y2 := e2.set (.int .i64 0) (.int .i64 0) (.int .u64 0) (.string ⟨#[]⟩) (.slice none 0 0)
  have G2 := grown_set5 G1 (N := w.heap.size + 1) (by omega) (.int .i64 0) (.int .i64 0) (.int .u64 0) (.string ⟨#[]⟩) (.slice none 0 0)
  refine (HH.out _ hz (r1.set5 (by omega) _ _ _ _ _)).mono ?_
  rintro e w2 ⟨ad, cap, rfl, r2, g2, hk⟩
  have z1 := y1.kept g2 (by omega)
  have z2 := y2.kept g2 (by omega)
  have G3 := grown_trans G2 g2
  clear k0 k1 k2 k3 k4 f0 f1 f2 f3 f4 hz y1 y2 G1 G2 g2 e1 e2 r1 HH hN
  obtain ⟨k0, k1, k2, k3, k4⟩ := z2.c
  have f0 := z2.f (o := 0)
  have f1 := z2.f (o := 1)
  have f2 := z2.f (o := 2)
  have f3 := z2.f (o := 3)
  have f4 := z2.f (o := 4)
  obtain ⟨l0, l1, l2, l3, l4⟩ := z1.c
  have o0 := z1.f (o := 0)
  have o1 := z1.f (o := 1)
  have o2 := z1.f (o := 2)
  have o3 := z1.f (o := 3)
  have o4 := z1.f (o := 4)
  have hN : w.heap.size + 1 < w2.heap.size := z2.lt
  have HKK := Lib.hid hk
  clear hk
  go_wp2
  rw [Exit.noGoto_ret]
  exact bodyPost_ret (res_dat Tryd.results25 ((z1.setOther5 (by omega) _ _ _ _ _).set _ _ _ _ _) rfl) rfl
    ⟨ad, cap, rfl, (r2.set5 (by omega) _ _ _ _ _).set5 (by omega) _ _ _ _ _, grown_set5 (grown_set5 G3 (by omega) _ _ _ _ _) (Nat.le_refl _) _ _ _ _ _,
      HK.out ad cap _ _ (fun k hk => (set5_keep _ _ _ _ _ _ (by omega)).trans (set5_keep _ _ _ _ _ _ (by omega))) HKK.out⟩
end Go.Proofs.YtfanoiomiijlgaaDoor
