/- The reader's call marked at a number, at a text of one letter and at a row, and its call value above them; each theorem names its conditions. -/
import Derived.Test.YtfanoiomiijlgaaDoorWhole
namespace Go.Proofs.YtfanoiomiijlgaaDoor
open Go.RowKit

theorem D5.set0 {w : World} {N : Nat} {v0 v1 v2 v3 v4 : Value} (h : D5 w N v0 v1 v2 v3 v4) (u : Value) : D5 (w.setCell ⟨N, 0, none⟩ u) N u v1 v2 v3 v4 := set_blk h u
theorem D5.set1 {w : World} {N : Nat} {v0 v1 v2 v3 v4 : Value} (h : D5 w N v0 v1 v2 v3 v4) (u : Value) : D5 (w.setCell ⟨N, 1, none⟩ u) N v0 u v2 v3 v4 := set_blk h u
theorem D5.set2 {w : World} {N : Nat} {v0 v1 v2 v3 v4 : Value} (h : D5 w N v0 v1 v2 v3 v4) (u : Value) : D5 (w.setCell ⟨N, 2, none⟩ u) N v0 v1 u v3 v4 := set_blk h u
theorem D5.set3 {w : World} {N : Nat} {v0 v1 v2 v3 v4 : Value} (h : D5 w N v0 v1 v2 v3 v4) (u : Value) : D5 (w.setCell ⟨N, 3, none⟩ u) N v0 v1 v2 u v4 := set_blk h u
theorem D5.set4 {w : World} {N : Nat} {v0 v1 v2 v3 v4 : Value} (h : D5 w N v0 v1 v2 v3 v4) (u : Value) : D5 (w.setCell ⟨N, 4, none⟩ u) N v0 v1 v2 v3 u := set_blk h u

set_option maxRecDepth 100000 in
set_option maxHeartbeats 1000000 in
theorem marked_int (b : Nat) (s : ByteArray) (a n i : Nat) (deep : Int) (w : World) (h : Rd w b s a n) (ha : a + 1 < s.size) (hs : s.size ≤ maxLen)
    (p1 : Lib.hasPrefix (List.drop a s.data.toList) [35] = false)
    (p2 : Lib.hasPrefix (List.drop a s.data.toList) [102] = false)
    (p3 : Lib.hasPrefix (List.drop a s.data.toList) [34] = false)
    (p4 : Lib.hasPrefix (List.drop a s.data.toList) [64, 34] = false)
    (p5 : Lib.hasPrefix (List.drop a s.data.toList) [37] = false)
    (p6 : Lib.hasPrefix (List.drop a s.data.toList) [91] = false)
    (p7 : Lib.hasPrefix (List.drop a s.data.toList) [40] = false)
    (p8 : Lib.hasPrefix (List.drop a s.data.toList) [33] = false)
    (p9 : Lib.hasPrefix (List.drop a s.data.toList) [38] = false)
    (p0 : Lib.hasPrefix (List.drop a s.data.toList) [45] = false)
    (q1 : 48 ≤ (s[a].toNat : Int)) (q2 : (s[a].toNat : Int) ≤ 57) (q3 : (s[a + 1].toNat : Int) < 48)
    (hP : Lib.parseIntB 64 (s.extract a (a + 1)).data.toList = .ok i) (hi : i < 100) (hD : ByteArray.mk (Lib.decDigits i).toArray = s.extract a (a + 1)) :
    Calls Tryd.prog 33 #[.pointer (some ⟨b, 0, none⟩), .int .i64 deep] w fun e w' => e = .returned (.tuple #[.agg #[.int .i64 1, .int .i64 i, .int .u64 0, .string ⟨#[]⟩, .slice none 0 0], .bool true]) ∧ Rd w' b s ↑(a + 1) n ∧ w.grownBy w' (some b) := by
  have HP := Lib.hid hP
  have HD := Lib.hid hD
  clear hP hD
  have hb := h.lt
  have d0 := D5.new w (.int .i64 0) (.int .i64 0) (.int .u64 0) (.string ⟨#[]⟩) (.slice none 0 0)
  have r0 := h.alloc (.cells #[.int .i64 0, .int .i64 0, .int .u64 0, .string ⟨#[]⟩, .slice none 0 0] 25)
  have g0 : w.grownBy (w.alloc (.cells #[.int .i64 0, .int .i64 0, .int .u64 0, .string ⟨#[]⟩, .slice none 0 0] 25)) (some b) := World.grownBy_alloc w _ _
  go_enter Tryd.func33, Tryd.ntmps33
  go_wp2_with fail
  refine (skipN b s _ a n _ r0 (by omega) hs p1).mono ?_
  rintro e w1 ⟨rfl, r1, g1⟩
  go_wp2_with fail
  refine (skipN b s _ a n _ r1 (by omega) hs p2).mono ?_
  rintro e w2 ⟨rfl, r2, g2⟩
  go_wp2_with fail
  refine (skipN b s _ a n _ r2 (by omega) hs p3).mono ?_
  rintro e w3 ⟨rfl, r3, g3⟩
  go_wp2_with fail
  refine (skipN b s _ a n _ r3 (by omega) hs p4).mono ?_
  rintro e w4 ⟨rfl, r4, g4⟩
  go_wp2_with fail
  refine (skipN b s _ a n _ r4 (by omega) hs p5).mono ?_
  rintro e w5 ⟨rfl, r5, g5⟩
  go_wp2_with fail
  refine (skipN b s _ a n _ r5 (by omega) hs p6).mono ?_
  rintro e w6 ⟨rfl, r6, g6⟩
  go_wp2_with fail
  refine (skipN b s _ a n _ r6 (by omega) hs p7).mono ?_
  rintro e w7 ⟨rfl, r7, g7⟩
  go_wp2_with fail
  refine (skipN b s _ a n _ r7 (by omega) hs p8).mono ?_
  rintro e w8 ⟨rfl, r8, g8⟩
  go_wp2_with fail
  refine (skipN b s _ a n _ r8 (by omega) hs p9).mono ?_
  rintro e w9 ⟨rfl, r9, g9⟩
  have gg := (grown_trans (grown_trans (grown_trans (grown_trans (grown_trans (grown_trans (grown_trans (grown_trans g1 g2) g3) g4) g5) g6) g7) g8) g9)
  have d9 := d0.kept gg (by omega)
  have G := grown_trans g0 gg
  have hN : w.heap.size < w9.heap.size := d9.lt
  have cc := d9.c.1
  have ff := d9.f (o := 0)
  clear r0 r1 r2 r3 r4 r5 r6 r7 r8 g0 g1 g2 g3 g4 g5 g6 g7 g8 g9 d0 p1 p2 p3 p4 p5 p6 p7 p8 p9 gg h
  go_wp2_with fail
  have r10 := r9.setOther (k := w.heap.size) (o := 0) (by omega) (.int .i64 1)
  have d10 := d9.set0 (.int .i64 1)
  have g10 := grown_setNew (o := 0) G (Nat.le_refl _) (.int .i64 1)
  clear cc ff r9 d9 G
  refine (whole_one b s a n i _ r10 ha hs p0 q1 q2 q3 HP.out hi HD.out).mono ?_
  rintro e w11 ⟨rfl, r11, g11⟩
  have d11 := d10.kept g11 (by omega)
  have G := grown_trans g10 g11
  obtain ⟨k0, k1, k2, k3, k4⟩ := d11.c
  have f0 := d11.f (o := 0)
  have f1 := d11.f (o := 1)
  have f2 := d11.f (o := 2)
  have f3 := d11.f (o := 3)
  have f4 := d11.f (o := 4)
  have hN : w.heap.size < w11.heap.size := d11.lt
  clear r10 d10 g10 g11
  go_wp2
  exact bodyPost_ret (res_dat Tryd.results33 ((d11.set1 (.int .i64 i)).set _ _ _ _ _) rfl) rfl ⟨rfl, (r11.setOther (by omega) _).set5 (by omega) _ _ _ _ _, grown_set5 (grown_setNew G (Nat.le_refl _) _) (Nat.le_refl _) _ _ _ _ _⟩

set_option maxRecDepth 100000 in
set_option maxHeartbeats 1000000 in
theorem marked_text (b : Nat) (s : ByteArray) (a n : Nat) (deep : Int) (w : World) (h : Rd w b s a n) (ha : a + 2 < s.size) (hs : s.size ≤ maxLen)
    (p1 : Lib.hasPrefix (List.drop a s.data.toList) [35] = false)
    (p2 : Lib.hasPrefix (List.drop a s.data.toList) [102] = false)
    (p3 : Lib.hasPrefix (List.drop a s.data.toList) [34] = true)
    (m0 : Lib.hasPrefix (List.drop (a + 1) s.data.toList) [34] = false)
    (m1 : Lib.hasPrefix (List.drop (a + 1) s.data.toList) [92, 34] = false)
    (m2 : Lib.hasPrefix (List.drop (a + 1) s.data.toList) [92, 92] = false)
    (m3 : Lib.hasPrefix (List.drop (a + 1) s.data.toList) [92, 120] = false)
    (q1 : ((s[a + 1].toNat : Int) == 92) = false) (q2 : ¬ (s[a + 1].toNat : Int) < 32) (q3 : ¬ 126 < (s[a + 1].toNat : Int))
    (m4 : Lib.hasPrefix (List.drop (a + 1 + 1) s.data.toList) [34] = true) :
    Calls Tryd.prog 33 #[.pointer (some ⟨b, 0, none⟩), .int .i64 deep] w fun e w' => e = .returned (.tuple #[.agg #[.int .i64 4, .int .i64 0, .int .u64 0, .string ⟨#[s[a + 1]]⟩, .slice none 0 0], .bool true]) ∧ Rd w' b s ↑(a + 3) n ∧ w.grownBy w' (some b) := by
  have M := quoted_one b s (a + 1) n
  have HM : Hid _ := M
  clear M
  have hb := h.lt
  have d0 := D5.new w (.int .i64 0) (.int .i64 0) (.int .u64 0) (.string ⟨#[]⟩) (.slice none 0 0)
  have r0 := h.alloc (.cells #[.int .i64 0, .int .i64 0, .int .u64 0, .string ⟨#[]⟩, .slice none 0 0] 25)
  have g0 : w.grownBy (w.alloc (.cells #[.int .i64 0, .int .i64 0, .int .u64 0, .string ⟨#[]⟩, .slice none 0 0] 25)) (some b) := World.grownBy_alloc w _ _
  go_enter Tryd.func33, Tryd.ntmps33
  go_wp2_with fail
  refine (skipN b s _ a n _ r0 (by omega) hs p1).mono ?_
  rintro e w1 ⟨rfl, r1, g1⟩
  go_wp2_with fail
  refine (skipN b s _ a n _ r1 (by omega) hs p2).mono ?_
  rintro e w2 ⟨rfl, r2, g2⟩
  go_wp2_with fail
  refine (skipY b s ⟨#[34]⟩ a n _ r2 (by omega) hs p3 (by show a + 1 ≤ s.size; omega)).mono ?_
  rintro e w3 ⟨rfl, r3, g3⟩
  have gg := (grown_trans (grown_trans g1 g2) g3)
  have d3 := d0.kept gg (by omega)
  have G := grown_trans g0 gg
  have hN : w.heap.size < w3.heap.size := d3.lt
  have cc := d3.c.1
  have ff := d3.f (o := 0)
  clear r0 r1 r2 g0 g1 g2 g3 d0 p1 p2 p3 gg h
  go_wp2_with fail
  have r10 := r3.setOther (k := w.heap.size) (o := 0) (by omega) (.int .i64 4)
  have d10 := d3.set0 (.int .i64 4)
  have g10 := grown_setNew (o := 0) G (Nat.le_refl _) (.int .i64 4)
  clear cc ff r3 d3 G
  refine (HM.out _ r10 (by omega) hs m0 m1 m2 m3 q1 (by omega) (by omega) m4).mono ?_
  rintro e w11 ⟨rfl, r11, g11⟩
  have d11 := d10.kept g11 (by omega)
  have G := grown_trans g10 g11
  obtain ⟨k0, k1, k2, k3, k4⟩ := d11.c
  have f0 := d11.f (o := 0)
  have f1 := d11.f (o := 1)
  have f2 := d11.f (o := 2)
  have f3 := d11.f (o := 3)
  have f4 := d11.f (o := 4)
  have hN : w.heap.size < w11.heap.size := d11.lt
  clear r10 d10 g10 g11 m0 m1 m2 m3 m4 q1 q2 q3
  go_wp2
  exact bodyPost_ret (res_dat Tryd.results33 ((d11.set3 _).set _ _ _ _ _) rfl) rfl ⟨rfl, (r11.setOther (by omega) _).set5 (by omega) _ _ _ _ _, grown_set5 (grown_setNew G (Nat.le_refl _) _) (Nat.le_refl _) _ _ _ _ _⟩
end Go.Proofs.YtfanoiomiijlgaaDoor
