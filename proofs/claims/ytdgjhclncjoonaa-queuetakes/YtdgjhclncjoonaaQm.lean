/- The law's first look: of two the one of greater priority comes first; no condition. -/
import Derived.Test.YtdgjhclncjoonaaQj
import Derived.Test.YtdgjhclncjoonaaQk
namespace Go.Proofs.Ytdgjhclncjoonaa
open Go.RowKit

/-- A message with a number and a priority alone. -/
def mN (i p : Int) : Ms := ⟨i, ⟨#[]⟩, 1, zT, 0, 0, ⟨#[]⟩, 0, p, 0⟩
theorem mN_rep (i p : Int) (w : World) : Dt.Rep w (mN i p).n zD.vs (mN i p).t := ⟨none, 0, rfl, Nat.zero_le _, Nat.zero_le _, Nat.zero_le _, .inl rfl⟩
theorem mN_pts (i p : Int) : (Dt.pts (mN i p).n (mN i p).t).1 ≤ 4096 := by show (Dt.pts 1 zT).1 ≤ 4096; decide
theorem sm_nil : Sm [] := fun x hx => by simp at hx
theorem sm_cons {x : Ms} {l : List Ms} (h : (Dt.pts x.n x.t).1 ≤ 4096) (h2 : Sm l) : Sm (x :: l) := fun y hy => by
  rcases List.mem_cons.1 hy with rfl | hy
  · exact h
  · exact h2 y hy
theorem best_two : Best true (prl [mN 1 1, mN 2 5]) 2 1 := by
  refine ⟨by decide, fun c hc => ?_⟩
  match c, hc with
  | 0, _ => simp [nb, ahd, gf, prl, mN]
  | 1, _ => exact nb.refl _ _
/-- A box written anew: what is new stays. -/
theorem Mz.box {w1 : World} {N : Nat} {a : Option Addr} {l : List Ms} {n0 : Nat} (h : Mz (fun g => n0 ≤ g ∧ g < w1.heap.size) w1 a l) (hN : N < n0) (v0 v1 v2 : Value) : Mw (((w1.setCell ⟨N, 0, none⟩ v0).setCell ⟨N, 1, none⟩ v1).setCell ⟨N, 2, none⟩ v2) a l :=
  (Mz.to (F' := fun g => g < (((w1.setCell ⟨N, 0, none⟩ v0).setCell ⟨N, 1, none⟩ v1).setCell ⟨N, 2, none⟩ v2).heap.size) h fun g hg => ⟨by simp only [World.size_setCell]; exact hg.2, set3_heap _ _ _ (by omega) _ _ _⟩)

set_option maxRecDepth 100000 in
set_option maxHeartbeats 4000000 in
theorem awake_any (w : World) : Calls Try.prog 8 #[] w fun e w' => e = .returned (.bool true) ∧ Below w.heap.size w w' := by
  have P1 : Hid (∀ wx : World, Calls Try.prog 10 #[.agg #[.slice none 0 0, .int .i64 0, .int .i64 0], .int .i64 2, .int .i64 2, .agg #[.int .i64 1, .string ⟨#[]⟩, .int .i64 0, .int .i64 0, .int .u64 0, .string ⟨#[]⟩, .slice none 0 0, .int .i64 0, .int .i64 0, .string ⟨#[]⟩, .int .i64 0, .int .i64 1, .int .i64 0]] wx (PuP wx [mN 1 1] 0 0 mZ false 0)) := fun wx => (qput_any [] none 0 0 0 2 2 (mN 1 1) zD wx (by decide) (.inl rfl) (sm_cons (mN_pts _ _) sm_nil) (mN_rep _ _ _) (by decide) (by decide) (by decide) (by decide)).mono fun e w' h => h.1 (by decide)
  have P2 : Hid (∀ (wx : World) (a : Option Addr) (c : Nat), Mw wx a [mN 1 1] → Calls Try.prog 10 #[.agg #[.slice a 1 c, .int .i64 0, .int .i64 0], .int .i64 2, .int .i64 2, .agg #[.int .i64 2, .string ⟨#[]⟩, .int .i64 0, .int .i64 0, .int .u64 0, .string ⟨#[]⟩, .slice none 0 0, .int .i64 0, .int .i64 0, .string ⟨#[]⟩, .int .i64 0, .int .i64 5, .int .i64 0]] wx (PuP wx [mN 1 1, mN 2 5] 0 0 mZ false 0)) := fun wx a c hm => (qput_any [mN 1 1] a c 0 0 2 2 (mN 2 5) zD wx (by simp) hm (sm_cons (mN_pts _ _) (sm_cons (mN_pts _ _) sm_nil)) (mN_rep _ _ _) (by decide) (by decide) (by decide) (by decide)).mono fun e w' h => h.1 (by decide)
  have P3 : Hid (∀ (wx : World) (a : Option Addr) (c : Nat), Mw wx a [mN 1 1, mN 2 5] → Calls Try.prog 10 #[.agg #[.slice a 2 c, .int .i64 0, .int .i64 0], .int .i64 2, .int .i64 2, .agg #[.int .i64 3, .string ⟨#[]⟩, .int .i64 0, .int .i64 0, .int .u64 0, .string ⟨#[]⟩, .slice none 0 0, .int .i64 0, .int .i64 0, .string ⟨#[]⟩, .int .i64 0, .int .i64 0, .int .i64 0]] wx (PuP wx [mN 1 1, mN 2 5] 1 0 mZ false 190)) := fun wx a c hm => (qput_any [mN 1 1, mN 2 5] a c 0 0 2 2 (mN 3 0) zD wx (by simp) hm (sm_cons (mN_pts _ _) (sm_cons (mN_pts _ _) (sm_cons (mN_pts _ _) sm_nil))) (mN_rep _ _ _) (by decide) (by decide) (by decide) (by decide)).mono fun e w' h => (h.2 (by decide)).2.2 (by decide) (by decide)
  have T1 : Hid (∀ (wx : World) (a : Option Addr) (c : Nat), Mw wx a [mN 1 1, mN 2 5] → Calls Try.prog 14 #[.agg #[.slice a 2 c, .int .i64 0, .int .i64 0]] wx (TaP wx [mN 1 1] 0 0 (mN 2 5) true)) := fun wx a c hm => (qtake_any [mN 1 1, mN 2 5] a c 0 0 wx (by simp) hm (sm_cons (mN_pts _ _) (sm_cons (mN_pts _ _) sm_nil))).mono fun e w' h => by
    obtain ⟨k, y, hb, hy, ht⟩ := h.2 (by simp)
    obtain rfl := hb.one best_two
    obtain rfl : mN 2 5 = y := by simpa using hy
    exact ht
  have S0 := Bk.new w #[.slice none 0 0, .int .i64 0, .int .i64 0] 24
  have B0 := below1 w (.cells #[.slice none 0 0, .int .i64 0, .int .i64 0] 24)
  go_enter Try.func8, Try.ntmps8
  go_wp2_with fail
  refine (P1.out _).mono ?_
  rintro e w1 ⟨a1, c1, d1, rfl, m1, -, b1⟩
  have S1 := S0.step b1
  have B1 := B0.trans (b1.mono B0.size)
  obtain ⟨q0, q1, q2⟩ := S1.c3
  have qf := S1.f
  obtain ⟨w2, hw2⟩ : ∃ w2, w2 = ((w1.setCell ⟨w.heap.size, 0, none⟩ (.slice a1 1 c1)).setCell ⟨w.heap.size, 1, none⟩ (.int .i64 0)).setCell ⟨w.heap.size, 2, none⟩ (.int .i64 0) := ⟨_, rfl⟩
  have S2 : Bk w2 w.heap.size #[.slice a1 1 c1, .int .i64 0, .int .i64 0] 24 := by rw [hw2]; exact Bk.full3 S1 _ _ _
  have R2 : Hid (Mw w2 a1 [mN 1 1]) := by rw [hw2]; exact m1.box (by simp) _ _ _
  have B2 : Below w.heap.size w w2 := by rw [hw2]; exact below_set3 B1 (Nat.le_refl _) _ _ _
  have hs2 : w.heap.size + 1 ≤ w2.heap.size := by rw [hw2]; simp only [World.size_setCell]; have := b1.size; simpa using this
  have HW := Lib.hid hw2.symm
  obtain ⟨k0, k1, k2⟩ := S2.c3
  have HP2 := Lib.hid (P2.out w2 a1 c1 R2.out)
  clear S0 B0 S1 B1 m1 b1 P1 hw2 P2 R2
  go_wp2_with (rw [HW.out])
  refine HP2.out.mono ?_
  rintro e w3 ⟨a3, c3, d3, rfl, m3, r3, b3⟩
  have S3 := S2.step b3
  have B3 := B2.trans (b3.mono B2.size)
  have hs3 := b3.size
  rw [show (Value.agg (mZ.cs d3)) = .agg #[.int .i64 0, .string ⟨#[]⟩, .int .i64 d3.k, .int .i64 d3.i, .int .u64 d3.u, .string d3.s, .slice d3.a d3.l d3.c, .int .i64 0, .int .i64 0, .string ⟨#[]⟩, .int .i64 0, .int .i64 0, .int .i64 0] from rfl]
  clear q0 q1 q2 qf k0 k1 k2
  obtain ⟨v3, hv3⟩ : ∃ v3, v3 = w3.alloc (.cells #[.int .i64 0, .string ⟨#[]⟩, .int .i64 0, .int .i64 0, .int .u64 0, .string ⟨#[]⟩, .slice none 0 0, .int .i64 0, .int .i64 0, .string ⟨#[]⟩, .int .i64 0, .int .i64 0, .int .i64 0] 30) := ⟨_, rfl⟩
  have Sv : Bk v3 w.heap.size #[.slice a1 1 c1, .int .i64 0, .int .i64 0] 24 := by rw [hv3]; exact S3.alloc _
  have Tv : Bk v3 w3.heap.size #[.int .i64 0, .string ⟨#[]⟩, .int .i64 0, .int .i64 0, .int .u64 0, .string ⟨#[]⟩, .slice none 0 0, .int .i64 0, .int .i64 0, .string ⟨#[]⟩, .int .i64 0, .int .i64 0, .int .i64 0] 30 := by rw [hv3]; exact Bk.new w3 _ _
  have Bv : Below w.heap.size w v3 := by rw [hv3]; exact B3.alloc (by omega) _
  have hvs : v3.heap.size = w3.heap.size + 1 := by rw [hv3]; simp
  have Mv : Mz (fun g => w2.heap.size ≤ g ∧ g < w3.heap.size) v3 a3 [mN 1 1, mN 2 5] := by rw [hv3]; exact Mz.to m3 fun g hg => ⟨hg, (below1 w3 _).block g hg.2⟩
  obtain ⟨w4, hw4⟩ : ∃ w4, w4 = (((((((((((((((v3.setCell ⟨w.heap.size, 0, none⟩ (.slice a3 2 c3)).setCell ⟨w.heap.size, 1, none⟩ (.int .i64 0)).setCell ⟨w.heap.size, 2, none⟩ (.int .i64 0)).setCell ⟨w3.heap.size, 0, none⟩ (.int .i64 0)).setCell ⟨w3.heap.size, 1, none⟩ (.string ⟨#[]⟩)).setCell ⟨w3.heap.size, 2, none⟩ (.int .i64 d3.k)).setCell ⟨w3.heap.size, 3, none⟩ (.int .i64 d3.i)).setCell ⟨w3.heap.size, 4, none⟩ (.int .u64 d3.u)).setCell ⟨w3.heap.size, 5, none⟩ (.string d3.s)).setCell ⟨w3.heap.size, 6, none⟩ (.slice d3.a d3.l d3.c)).setCell ⟨w3.heap.size, 7, none⟩ (.int .i64 0)).setCell ⟨w3.heap.size, 8, none⟩ (.int .i64 0)).setCell ⟨w3.heap.size, 9, none⟩ (.string ⟨#[]⟩)).setCell ⟨w3.heap.size, 10, none⟩ (.int .i64 0)).setCell ⟨w3.heap.size, 11, none⟩ (.int .i64 0)).setCell ⟨w3.heap.size, 12, none⟩ (.int .i64 0) := ⟨_, rfl⟩
  have S4 : Bk w4 w.heap.size #[.slice a3 2 c3, .int .i64 0, .int .i64 0] 24 := by rw [hw4]; exact Bk.set13 (Bk.full3 Sv _ _ _) (by omega) _ _ _ _ _ _ _ _ _ _ _ _ _
  have B4 : Below w.heap.size w w4 := by rw [hw4]; exact below_set13 (below_set3 Bv (Nat.le_refl _) _ _ _) (by omega) _ _ _ _ _ _ _ _ _ _ _ _ _
  have hs4 : w4.heap.size = w3.heap.size + 1 := by rw [hw4]; simp only [World.size_setCell]; exact hvs
  have R4 : Mw w4 a3 [mN 1 1, mN 2 5] := Mz.to Mv fun g hg => ⟨by omega, by rw [hw4, set13_heap _ _ _ (by omega), set3_heap _ _ _ (by omega)]⟩
  obtain ⟨q0, q1, q2⟩ := Sv.c3
  have qf := Sv.f
  obtain ⟨j0, j1, j2, j3, j4, j5, j6, j7, j8, j9, j10, j11, j12⟩ := (Bk.set3 (M := w.heap.size) Tv (by omega) (.slice a3 2 c3) (.int .i64 0) (.int .i64 0)).c13
  have jf := (Bk.set3 (M := w.heap.size) Tv (by omega) (.slice a3 2 c3) (.int .i64 0) (.int .i64 0)).f
  obtain ⟨k0, k1, k2⟩ := S4.c3
  have HV := Lib.hid hv3.symm
  have HW4 := Lib.hid hw4.symm
  have HT := Lib.hid (T1.out w4 a3 c3 R4)
  have R4h := Lib.hid R4
  clear S2 B2 HW HP2 r3 S3 B3 m3 b3 hv3 Sv Tv Bv Mv hw4 R4 hvs
  go_wp2_with (first | rw [HV.out] | rw [HW4.out])
  refine HT.out.mono ?_
  rintro e w5 ⟨a5, c5, d5, rfl, -, -, b5⟩
  rw [show (Value.agg ((mN 2 5).cs d5)) = .agg #[.int .i64 2, .string ⟨#[]⟩, .int .i64 d5.k, .int .i64 d5.i, .int .u64 d5.u, .string d5.s, .slice d5.a d5.l d5.c, .int .i64 0, .int .i64 0, .string ⟨#[]⟩, .int .i64 0, .int .i64 5, .int .i64 0] from rfl]
  have S5 := S4.step b5
  have B5 := B4.trans (b5.mono B4.size)
  have R5 := Mw.below R4h.out b5
  have hs5 := b5.size
  clear q0 q1 q2 qf j0 j1 j2 j3 j4 j5 j6 j7 j8 j9 j10 j11 j12 jf k0 k1 k2
  obtain ⟨v5, hv5⟩ : ∃ v5, v5 = (w5.alloc (.cells #[.slice none 0 0, .int .i64 0, .int .i64 0] 24)).alloc (.cells #[.int .i64 0, .string ⟨#[]⟩, .int .i64 0, .int .i64 0, .int .u64 0, .string ⟨#[]⟩, .slice none 0 0, .int .i64 0, .int .i64 0, .string ⟨#[]⟩, .int .i64 0, .int .i64 0, .int .i64 0] 30) := ⟨_, rfl⟩
  have Sv : Bk v5 w.heap.size #[.slice a3 2 c3, .int .i64 0, .int .i64 0] 24 := by rw [hv5]; exact (S5.alloc _).alloc _
  have Iv : Bk v5 w5.heap.size #[.slice none 0 0, .int .i64 0, .int .i64 0] 24 := by rw [hv5]; exact (Bk.new w5 _ _).alloc _
  have Tv : Bk v5 (w5.heap.size + 1) #[.int .i64 0, .string ⟨#[]⟩, .int .i64 0, .int .i64 0, .int .u64 0, .string ⟨#[]⟩, .slice none 0 0, .int .i64 0, .int .i64 0, .string ⟨#[]⟩, .int .i64 0, .int .i64 0, .int .i64 0] 30 := by rw [hv5]; exact Bk.new2 w5 _ _ _
  have b6 : Below w5.heap.size w5 v5 := by rw [hv5]; exact below2 w5 _ _
  have hvs : v5.heap.size = w5.heap.size + 2 := by rw [hv5]; simp
  obtain ⟨w6, hw6⟩ : ∃ w6, w6 = (((((((((((((((v5.setCell ⟨w5.heap.size, 0, none⟩ (.slice a5 1 c5)).setCell ⟨w5.heap.size, 1, none⟩ (.int .i64 0)).setCell ⟨w5.heap.size, 2, none⟩ (.int .i64 0)).setCell ⟨w5.heap.size + 1, 0, none⟩ (.int .i64 2)).setCell ⟨w5.heap.size + 1, 1, none⟩ (.string ⟨#[]⟩)).setCell ⟨w5.heap.size + 1, 2, none⟩ (.int .i64 d5.k)).setCell ⟨w5.heap.size + 1, 3, none⟩ (.int .i64 d5.i)).setCell ⟨w5.heap.size + 1, 4, none⟩ (.int .u64 d5.u)).setCell ⟨w5.heap.size + 1, 5, none⟩ (.string d5.s)).setCell ⟨w5.heap.size + 1, 6, none⟩ (.slice d5.a d5.l d5.c)).setCell ⟨w5.heap.size + 1, 7, none⟩ (.int .i64 0)).setCell ⟨w5.heap.size + 1, 8, none⟩ (.int .i64 0)).setCell ⟨w5.heap.size + 1, 9, none⟩ (.string ⟨#[]⟩)).setCell ⟨w5.heap.size + 1, 10, none⟩ (.int .i64 0)).setCell ⟨w5.heap.size + 1, 11, none⟩ (.int .i64 5)).setCell ⟨w5.heap.size + 1, 12, none⟩ (.int .i64 0) := ⟨_, rfl⟩
  have S6 : Bk w6 w.heap.size #[.slice a3 2 c3, .int .i64 0, .int .i64 0] 24 := by rw [hw6]; exact Bk.set13 (Bk.set3 Sv (by omega) _ _ _) (by omega) _ _ _ _ _ _ _ _ _ _ _ _ _
  have T6 : Bk w6 (w5.heap.size + 1) #[.int .i64 2, .string ⟨#[]⟩, .int .i64 d5.k, .int .i64 d5.i, .int .u64 d5.u, .string d5.s, .slice d5.a d5.l d5.c, .int .i64 0, .int .i64 0, .string ⟨#[]⟩, .int .i64 0, .int .i64 5, .int .i64 0] 30 := by rw [hw6]; exact Bk.full13 (Bk.set3 Tv (by omega) _ _ _) _ _ _ _ _ _ _ _ _ _ _ _ _
  have b56 : Below w5.heap.size w5 w6 := by rw [hw6]; exact below_set13 (below_set3 b6 (Nat.le_refl _) _ _ _) (by omega) _ _ _ _ _ _ _ _ _ _ _ _ _
  have B6 := B5.trans (b56.mono B5.size)
  have R6 := Mw.below R5 b56
  have hs6 : w6.heap.size = w5.heap.size + 2 := by rw [hw6]; simp only [World.size_setCell]; exact hvs
  obtain ⟨q0, q1, q2⟩ := Iv.c3
  have qf := Iv.f
  obtain ⟨j0, j1, j2, j3, j4, j5, j6, j7, j8, j9, j10, j11, j12⟩ := (Bk.set3 (M := w5.heap.size) Tv (by omega) (.slice a5 1 c5) (.int .i64 0) (.int .i64 0)).c13
  have jf := (Bk.set3 (M := w5.heap.size) Tv (by omega) (.slice a5 1 c5) (.int .i64 0) (.int .i64 0)).f
  obtain ⟨k0, k1, k2⟩ := S6.c3
  have HV := Lib.hid hv5.symm
  have HW6 := Lib.hid hw6.symm
  have HP := Lib.hid (P3.out w6 a3 c3 R6)
  clear S4 B4 HT R4h S5 B5 R5 b5 b6 b56 R6 hv5 hw6 Sv Iv Tv hvs T1 P3 HW4
  go_wp2_with (first | rw [HV.out] | rw [HW6.out])
  refine HP.out.mono ?_
  rintro e w7 ⟨a7, c7, d7, rfl, -, -, b7⟩
  rw [show (Value.agg (mZ.cs d7)) = .agg #[.int .i64 0, .string ⟨#[]⟩, .int .i64 d7.k, .int .i64 d7.i, .int .u64 d7.u, .string d7.s, .slice d7.a d7.l d7.c, .int .i64 0, .int .i64 0, .string ⟨#[]⟩, .int .i64 0, .int .i64 0, .int .i64 0] from rfl]
  have T7 := T6.step b7
  have B7 := B6.trans (b7.mono B6.size)
  have hs7 := b7.size
  clear q0 q1 q2 qf j0 j1 j2 j3 j4 j5 j6 j7 j8 j9 j10 j11 j12 jf k0 k1 k2 HV
  obtain ⟨v7, hv7⟩ : ∃ v7, v7 = (w7.alloc (.cells #[.slice none 0 0, .int .i64 0, .int .i64 0] 24)).alloc (.cells #[.int .i64 0, .string ⟨#[]⟩, .int .i64 0, .int .i64 0, .int .u64 0, .string ⟨#[]⟩, .slice none 0 0, .int .i64 0, .int .i64 0, .string ⟨#[]⟩, .int .i64 0, .int .i64 0, .int .i64 0] 30) := ⟨_, rfl⟩
  have Iv : Bk v7 w7.heap.size #[.slice none 0 0, .int .i64 0, .int .i64 0] 24 := by rw [hv7]; exact (Bk.new w7 _ _).alloc _
  have Tv : Bk v7 (w7.heap.size + 1) #[.int .i64 0, .string ⟨#[]⟩, .int .i64 0, .int .i64 0, .int .u64 0, .string ⟨#[]⟩, .slice none 0 0, .int .i64 0, .int .i64 0, .string ⟨#[]⟩, .int .i64 0, .int .i64 0, .int .i64 0] 30 := by rw [hv7]; exact Bk.new2 w7 _ _ _
  have Uv : Bk v7 (w5.heap.size + 1) #[.int .i64 2, .string ⟨#[]⟩, .int .i64 d5.k, .int .i64 d5.i, .int .u64 d5.u, .string d5.s, .slice d5.a d5.l d5.c, .int .i64 0, .int .i64 0, .string ⟨#[]⟩, .int .i64 0, .int .i64 5, .int .i64 0] 30 := by rw [hv7]; exact (T7.alloc _).alloc _
  have b8 : Below w7.heap.size w7 v7 := by rw [hv7]; exact below2 w7 _ _
  obtain ⟨w8, hw8⟩ : ∃ w8, w8 = (((((((((((((((v7.setCell ⟨w7.heap.size, 0, none⟩ (.slice a7 2 c7)).setCell ⟨w7.heap.size, 1, none⟩ (.int .i64 1)).setCell ⟨w7.heap.size, 2, none⟩ (.int .i64 0)).setCell ⟨w7.heap.size + 1, 0, none⟩ (.int .i64 0)).setCell ⟨w7.heap.size + 1, 1, none⟩ (.string ⟨#[]⟩)).setCell ⟨w7.heap.size + 1, 2, none⟩ (.int .i64 d7.k)).setCell ⟨w7.heap.size + 1, 3, none⟩ (.int .i64 d7.i)).setCell ⟨w7.heap.size + 1, 4, none⟩ (.int .u64 d7.u)).setCell ⟨w7.heap.size + 1, 5, none⟩ (.string d7.s)).setCell ⟨w7.heap.size + 1, 6, none⟩ (.slice d7.a d7.l d7.c)).setCell ⟨w7.heap.size + 1, 7, none⟩ (.int .i64 0)).setCell ⟨w7.heap.size + 1, 8, none⟩ (.int .i64 0)).setCell ⟨w7.heap.size + 1, 9, none⟩ (.string ⟨#[]⟩)).setCell ⟨w7.heap.size + 1, 10, none⟩ (.int .i64 0)).setCell ⟨w7.heap.size + 1, 11, none⟩ (.int .i64 0)).setCell ⟨w7.heap.size + 1, 12, none⟩ (.int .i64 0) := ⟨_, rfl⟩
  have T8 : Bk w8 (w5.heap.size + 1) #[.int .i64 2, .string ⟨#[]⟩, .int .i64 d5.k, .int .i64 d5.i, .int .u64 d5.u, .string d5.s, .slice d5.a d5.l d5.c, .int .i64 0, .int .i64 0, .string ⟨#[]⟩, .int .i64 0, .int .i64 5, .int .i64 0] 30 := by rw [hw8]; exact Bk.set13 (Bk.set3 Uv (by omega) _ _ _) (by omega) _ _ _ _ _ _ _ _ _ _ _ _ _
  have b78 : Below w7.heap.size w7 w8 := by rw [hw8]; exact below_set13 (below_set3 b8 (Nat.le_refl _) _ _ _) (by omega) _ _ _ _ _ _ _ _ _ _ _ _ _
  have B8 := B7.trans (b78.mono B7.size)
  obtain ⟨q0, q1, q2⟩ := Iv.c3
  have qf := Iv.f
  obtain ⟨j0, j1, j2, j3, j4, j5, j6, j7, j8, j9, j10, j11, j12⟩ := (Bk.set3 (M := w7.heap.size) Tv (by omega) (.slice a7 2 c7) (.int .i64 1) (.int .i64 0)).c13
  have jf := (Bk.set3 (M := w7.heap.size) Tv (by omega) (.slice a7 2 c7) (.int .i64 1) (.int .i64 0)).f
  have k0 : w8.cell? ⟨w5.heap.size + 1, 0, none⟩ = some (.int .i64 2) := T8.c 0
  have HV := Lib.hid hv7.symm
  have HW8 := Lib.hid hw8.symm
  clear S6 B6 HP T6 T7 B7 b7 b8 b78 hv7 hw8 Iv Tv Uv T8 HW6
  go_wp2_with (first | rw [HV.out] | rw [HW8.out])
  go_ret
  exact ⟨rfl, B8⟩
end Go.Proofs.Ytdgjhclncjoonaa
