/- The law QueueTakes by its contracts; the conditions: what lies in memory. -/
import Derived.Test.YtdgjhclncjoonaaTa
import Derived.Test.YtdgjhclncjoonaaTd
import Derived.Test.YtdgjhclncjoonaaQm
import Derived.Test.YtdgjhclncjoonaaFi
namespace Go.Proofs.Ytdgjhclncjoonaa
open Go.RowKit

theorem best_exT (pr : Nat → Int) : ∀ n, 0 < n → ∃ k, Best true pr n k
  | 0, h => absurd h (by decide)
  | 1, _ => ⟨0, Best.one0T pr⟩
  | n + 2, _ => by
    obtain ⟨k, h⟩ := best_exT pr (n + 1) (by omega)
    by_cases c : pr k < pr (n + 1)
    · exact ⟨n + 1, h.yesT c⟩
    · exact ⟨k, h.noT c⟩
/-- What Take gives, in one word. -/
theorem take_one (l : List Ms) (r dr : Int) (hl : l.length ≤ 1400) : ∃ l2 y b, l2.length ≤ 2000 ∧ ∀ (w : World) e w', TakeP w l r dr e w' → TaP w l2 r dr y b e w' := by
  by_cases c1 : l = []
  · subst c1
    exact ⟨[], mZ, false, by simp, fun w e w' h => h.1 rfl⟩
  · obtain ⟨k, hb⟩ := best_exT (prl l) l.length (List.length_pos_iff.2 c1)
    obtain ⟨y, hy⟩ : ∃ y, l[k]? = some y := ⟨_, List.getElem?_eq_getElem hb.1⟩
    refine ⟨l.eraseIdx k, y, true, ?_, fun w e w' h => ?_⟩
    · have := List.length_eraseIdx_le l k
      omega
    · obtain ⟨k', y', hb', hy', hp⟩ := h.2 c1
      obtain rfl := hb'.one hb
      rw [hy] at hy'
      obtain rfl := Option.some.inj hy'
      exact hp

set_option maxRecDepth 100000 in
set_option maxHeartbeats 8000000 in
theorem law_takes (l : List Ms) (ad : Option Addr) (cap : Nat) (r dr now : Int) (w : World) (hl : l.length ≤ maxLen) (hI : Mw w ad l) :
    Calls Try.prog 4 #[.agg #[.slice ad l.length cap, .int .i64 r, .int .i64 dr], .int .i64 now] w fun e w' => e = .returned (.bool true) ∧ Below w.heap.size w w' := by
  unfold maxLen at hl
  obtain ⟨W, hW⟩ : ∃ W, W = w.alloc (.cells #[.slice ad l.length cap, .int .i64 r, .int .i64 dr] 24) := ⟨_, rfl⟩
  have B0 : Below w.heap.size w W := by rw [hW]; exact below1 w _
  have Q0 : Bk W w.heap.size #[.slice ad l.length cap, .int .i64 r, .int .i64 dr] 24 := by rw [hW]; exact Bk.new w _ _
  have HF := Lib.hid (fit_any l ad cap r dr W (by omega) (Mw.below hI B0))
  have HI := Lib.hid hI
  obtain ⟨q0, q1, q2⟩ := Q0.c3
  have HW := Lib.hid hW.symm
  clear hI hW
  go_enter Try.func4, Try.ntmps4
  go_wp2_with (rw [HW.out])
  refine HF.out.mono ?_
  rintro e w1 ⟨b0, rfl, hfit, b1⟩
  have Q1 := Q0.step b1
  have B1 := B0.trans (b1.mono B0.size)
  clear b1 HF
  cases b0
  · clear hfit
    go_wp2_with (go_at_call 8; refine (awake_any _).mono ?_; rintro e w9 ⟨rfl, b9⟩)
    go_ret
    exact ⟨rfl, B1.trans (b9.mono B1.size)⟩
  have hf := hfit rfl
  clear hfit
  obtain ⟨hf1, hf2, hf3, hf4, hf5, -⟩ := id hf
  obtain ⟨l2, y, b, hl2, hone⟩ := take_one l r dr (by omega)
  have HS := Lib.hid hf.sm
  have HO := Lib.hid hone
  obtain ⟨ls, hls⟩ : ∃ ls, ls = sts now l := ⟨_, rfl⟩
  obtain ⟨ll, hll⟩ : ∃ ll, ll = lts now l := ⟨_, rfl⟩
  obtain ⟨dl, hdl⟩ : ∃ dl : Int, dl = dr + (lts now l).length := ⟨_, rfl⟩
  have en1 := lts_len now l l.length
  have en2 := sts_len now l l.length
  rw [List.take_length, ← hll] at en1
  rw [List.take_length, ← hls] at en2
  have HQL : Hid (∀ a c wx, Mw wx a l → Calls Try.prog 16 #[.agg #[.slice a l.length c, .int .i64 r, .int .i64 dr], .int .i64 now] wx (LateP wx ls ll r dl)) := fun a c wx h => by rw [hls, hll, hdl]; exact qlate_any l a c r dr now wx (by omega) h HS.out hf3 hf5
  have HRL : Hid (∀ a c wx, Mw wx a l → Calls Try.prog 17 #[.agg #[.slice a l.length c, .int .i64 r, .int .i64 dr], .int .i64 now] wx (LateP wx ls ll r dl)) := fun a c wx h => by rw [hls, hll, hdl]; exact rlate_any l a c r dr now wx (by omega) h HS.out hf3 hf5
  clear hone hf hls hll hdl q0 q1 q2
  obtain ⟨q0, q1, q2⟩ := Q1.c3
  have HC := Lib.hid (rcopy_any l ad cap r dr w1 (by omega) (Mw.below HI.out B1) HS.out)
  go_wp2_with fail
  refine HC.out.mono ?_
  rintro e w3 ⟨sl, xs, rfl, m3, b3⟩
  obtain ⟨a3, c3, rfl, mz3⟩ := m3.mz (F' := fun g => g < w3.heap.size) (fun g hg => hg.2.1) (fun g hg => (m3.own_lt g hg).2)
  have Q3 := Q1.step b3
  have B3 := B1.trans (b3.mono B1.size)
  obtain ⟨w4, hw4⟩ : ∃ w4, w4 = w3.alloc (.cells #[.slice a3 l.length c3, .int .i64 r, .int .i64 dr] 24) := ⟨_, rfl⟩
  have b4 : Below w3.heap.size w3 w4 := by rw [hw4]; exact below1 w3 _
  have O4 : Bk w4 w3.heap.size #[.slice a3 l.length c3, .int .i64 r, .int .i64 dr] 24 := by rw [hw4]; exact Bk.new w3 _ _
  have Q4 := Q3.step b4
  have B4 := B3.trans (b4.mono B3.size)
  have mw4 : Mw w4 a3 l := Mw.below mz3 b4
  have HP5 : Hid (Calls Try.prog 14 #[.agg #[.slice a3 l.length c3, .int .i64 r, .int .i64 dr]] w4 (TaP w4 l2 r dr y b)) := (qtake_any l a3 c3 r dr w4 (by omega) mw4 HS.out).mono fun e w' h => HO.out w4 e w' h
  obtain ⟨o0, o1, o2⟩ := O4.c3
  have HW4 := Lib.hid hw4.symm
  have MW4 := Lib.hid mw4
  clear q0 q1 q2 HC m3 mz3 b3 b4 hw4 mw4 Q3 B3 Q1 B1 HW
  go_wp2_with (rw [HW4.out])
  refine HP5.out.mono ?_
  rintro e w5 ⟨a5, c5, gd, rfl, n5, z5, b5⟩
  have hs5 := b5.size
  rw [show (Value.agg (y.cs gd)) = .agg #[.int .i64 y.id, .string y.tp, .int .i64 gd.k, .int .i64 gd.i, .int .u64 gd.u, .string gd.s, .slice gd.a gd.l gd.c, .int .i64 y.ti, .int .i64 y.un, .string y.rp, .int .i64 y.co, .int .i64 y.pr, .int .i64 y.ho] from rfl]
  clear o0 o1 o2 HP5
  obtain ⟨v5, hv5⟩ : ∃ v5, v5 = (w5.alloc (.cells #[.slice none 0 0, .int .i64 0, .int .i64 0] 24)).alloc (.cells #[.int .i64 0, .string ⟨#[]⟩, .int .i64 0, .int .i64 0, .int .u64 0, .string ⟨#[]⟩, .slice none 0 0, .int .i64 0, .int .i64 0, .string ⟨#[]⟩, .int .i64 0, .int .i64 0, .int .i64 0] 30) := ⟨_, rfl⟩
  have Iv : Bk v5 w5.heap.size #[.slice none 0 0, .int .i64 0, .int .i64 0] 24 := by rw [hv5]; exact (Bk.new w5 _ _).alloc _
  have Tv : Bk v5 (w5.heap.size + 1) #[.int .i64 0, .string ⟨#[]⟩, .int .i64 0, .int .i64 0, .int .u64 0, .string ⟨#[]⟩, .slice none 0 0, .int .i64 0, .int .i64 0, .string ⟨#[]⟩, .int .i64 0, .int .i64 0, .int .i64 0] 30 := by rw [hv5]; exact Bk.new2 w5 _ _ _
  have bv : Below w5.heap.size w5 v5 := by rw [hv5]; exact below2 w5 _ _
  have hvs : v5.heap.size = w5.heap.size + 2 := by rw [hv5]; simp
  obtain ⟨w6, hw6⟩ : ∃ w6, w6 = (((((((((((((((v5.setCell ⟨w5.heap.size, 0, none⟩ (.slice a5 l2.length c5)).setCell ⟨w5.heap.size, 1, none⟩ (.int .i64 r)).setCell ⟨w5.heap.size, 2, none⟩ (.int .i64 dr)).setCell ⟨w5.heap.size + 1, 0, none⟩ (.int .i64 y.id)).setCell ⟨w5.heap.size + 1, 1, none⟩ (.string y.tp)).setCell ⟨w5.heap.size + 1, 2, none⟩ (.int .i64 gd.k)).setCell ⟨w5.heap.size + 1, 3, none⟩ (.int .i64 gd.i)).setCell ⟨w5.heap.size + 1, 4, none⟩ (.int .u64 gd.u)).setCell ⟨w5.heap.size + 1, 5, none⟩ (.string gd.s)).setCell ⟨w5.heap.size + 1, 6, none⟩ (.slice gd.a gd.l gd.c)).setCell ⟨w5.heap.size + 1, 7, none⟩ (.int .i64 y.ti)).setCell ⟨w5.heap.size + 1, 8, none⟩ (.int .i64 y.un)).setCell ⟨w5.heap.size + 1, 9, none⟩ (.string y.rp)).setCell ⟨w5.heap.size + 1, 10, none⟩ (.int .i64 y.co)).setCell ⟨w5.heap.size + 1, 11, none⟩ (.int .i64 y.pr)).setCell ⟨w5.heap.size + 1, 12, none⟩ (.int .i64 y.ho) := ⟨_, rfl⟩
  have I6 : Bk w6 w5.heap.size #[.slice a5 l2.length c5, .int .i64 r, .int .i64 dr] 24 := by rw [hw6]; exact Bk.set13 (Bk.full3 Iv _ _ _) (by omega) _ _ _ _ _ _ _ _ _ _ _ _ _
  have T6 : Bk w6 (w5.heap.size + 1) #[.int .i64 y.id, .string y.tp, .int .i64 gd.k, .int .i64 gd.i, .int .u64 gd.u, .string gd.s, .slice gd.a gd.l gd.c, .int .i64 y.ti, .int .i64 y.un, .string y.rp, .int .i64 y.co, .int .i64 y.pr, .int .i64 y.ho] 30 := by rw [hw6]; exact Bk.full13 (Bk.set3 Tv (by omega) _ _ _) _ _ _ _ _ _ _ _ _ _ _ _ _
  have b6 : Below w5.heap.size w5 w6 := by rw [hw6]; exact below_set13 (below_set3 bv (Nat.le_refl _) _ _ _) (by omega) _ _ _ _ _ _ _ _ _ _ _ _ _
  have s6 : w6.heap.size = w5.heap.size + 2 := by rw [hw6]; simp only [World.size_setCell]; exact hvs
  obtain ⟨q0, q1, q2⟩ := Iv.c3
  have qf := Iv.f
  obtain ⟨j0, j1, j2, j3, j4, j5, j6, j7, j8, j9, j10, j11, j12⟩ := (Bk.set3 (M := w5.heap.size) Tv (by omega) (.slice a5 l2.length c5) (.int .i64 r) (.int .i64 dr)).c13
  have jf := (Bk.set3 (M := w5.heap.size) Tv (by omega) (.slice a5 l2.length c5) (.int .i64 r) (.int .i64 dr)).f
  have HV6 := Lib.hid hv5.symm
  have HW6 := Lib.hid hw6.symm
  clear hv5 hw6 Iv Tv bv hvs
  have O6 := (O4.step b5).step b6
  have Q6 := (Q4.step b5).step b6
  have B6 := (B4.trans (b5.mono B4.size)).trans (b6.mono (by have := B4.size; omega))
  have HP7 : Hid (Calls Try.prog 15 #[.agg #[.slice ad l.length cap, .int .i64 r, .int .i64 dr]] w6 (TaP w6 l2 r dr y b)) := (rtake_any l ad cap r dr w6 (by omega) (Mw.below HI.out B6) HS.out).mono fun e w' h => HO.out w6 e w' h
  have N6 := Lib.hid (Mw.below n5.mw b6)
  have Z6 := Lib.hid (Dt.Rep.below b6 _ _ _ (Rz.rep _ _ _ z5))
  have MW6 := Lib.hid (Mw.below (Mw.below MW4.out b5) b6)
  obtain ⟨o0, o1, o2⟩ := Q6.c3
  clear O4 Q4 B4 MW4 n5 z5 b5 b6 HW4
  go_wp2_with (first | rw [HV6.out] | rw [HW6.out])
  refine HP7.out.mono ?_
  rintro e w7 ⟨a7, c7, hd, rfl, n7, z7, b7⟩
  have hs7 := b7.size
  rw [show (Value.agg (y.cs hd)) = .agg #[.int .i64 y.id, .string y.tp, .int .i64 hd.k, .int .i64 hd.i, .int .u64 hd.u, .string hd.s, .slice hd.a hd.l hd.c, .int .i64 y.ti, .int .i64 y.un, .string y.rp, .int .i64 y.co, .int .i64 y.pr, .int .i64 y.ho] from rfl]
  clear o0 o1 o2 HP7 q0 q1 q2 qf j0 j1 j2 j3 j4 j5 j6 j7 j8 j9 j10 j11 j12 jf HV6 HW6
  obtain ⟨v7, hv7⟩ : ∃ v7, v7 = (w7.alloc (.cells #[.slice none 0 0, .int .i64 0, .int .i64 0] 24)).alloc (.cells #[.int .i64 0, .string ⟨#[]⟩, .int .i64 0, .int .i64 0, .int .u64 0, .string ⟨#[]⟩, .slice none 0 0, .int .i64 0, .int .i64 0, .string ⟨#[]⟩, .int .i64 0, .int .i64 0, .int .i64 0] 30) := ⟨_, rfl⟩
  have Iv : Bk v7 w7.heap.size #[.slice none 0 0, .int .i64 0, .int .i64 0] 24 := by rw [hv7]; exact (Bk.new w7 _ _).alloc _
  have Tv : Bk v7 (w7.heap.size + 1) #[.int .i64 0, .string ⟨#[]⟩, .int .i64 0, .int .i64 0, .int .u64 0, .string ⟨#[]⟩, .slice none 0 0, .int .i64 0, .int .i64 0, .string ⟨#[]⟩, .int .i64 0, .int .i64 0, .int .i64 0] 30 := by rw [hv7]; exact Bk.new2 w7 _ _ _
  have bv : Below w7.heap.size w7 v7 := by rw [hv7]; exact below2 w7 _ _
  have hvs : v7.heap.size = w7.heap.size + 2 := by rw [hv7]; simp
  obtain ⟨w8, hw8⟩ : ∃ w8, w8 = (((((((((((((((v7.setCell ⟨w7.heap.size, 0, none⟩ (.slice a7 l2.length c7)).setCell ⟨w7.heap.size, 1, none⟩ (.int .i64 r)).setCell ⟨w7.heap.size, 2, none⟩ (.int .i64 dr)).setCell ⟨w7.heap.size + 1, 0, none⟩ (.int .i64 y.id)).setCell ⟨w7.heap.size + 1, 1, none⟩ (.string y.tp)).setCell ⟨w7.heap.size + 1, 2, none⟩ (.int .i64 hd.k)).setCell ⟨w7.heap.size + 1, 3, none⟩ (.int .i64 hd.i)).setCell ⟨w7.heap.size + 1, 4, none⟩ (.int .u64 hd.u)).setCell ⟨w7.heap.size + 1, 5, none⟩ (.string hd.s)).setCell ⟨w7.heap.size + 1, 6, none⟩ (.slice hd.a hd.l hd.c)).setCell ⟨w7.heap.size + 1, 7, none⟩ (.int .i64 y.ti)).setCell ⟨w7.heap.size + 1, 8, none⟩ (.int .i64 y.un)).setCell ⟨w7.heap.size + 1, 9, none⟩ (.string y.rp)).setCell ⟨w7.heap.size + 1, 10, none⟩ (.int .i64 y.co)).setCell ⟨w7.heap.size + 1, 11, none⟩ (.int .i64 y.pr)).setCell ⟨w7.heap.size + 1, 12, none⟩ (.int .i64 y.ho) := ⟨_, rfl⟩
  have I8 : Bk w8 w7.heap.size #[.slice a7 l2.length c7, .int .i64 r, .int .i64 dr] 24 := by rw [hw8]; exact Bk.set13 (Bk.full3 Iv _ _ _) (by omega) _ _ _ _ _ _ _ _ _ _ _ _ _
  have T8 : Bk w8 (w7.heap.size + 1) #[.int .i64 y.id, .string y.tp, .int .i64 hd.k, .int .i64 hd.i, .int .u64 hd.u, .string hd.s, .slice hd.a hd.l hd.c, .int .i64 y.ti, .int .i64 y.un, .string y.rp, .int .i64 y.co, .int .i64 y.pr, .int .i64 y.ho] 30 := by rw [hw8]; exact Bk.full13 (Bk.set3 Tv (by omega) _ _ _) _ _ _ _ _ _ _ _ _ _ _ _ _
  have b8 : Below w7.heap.size w7 w8 := by rw [hw8]; exact below_set13 (below_set3 bv (Nat.le_refl _) _ _ _) (by omega) _ _ _ _ _ _ _ _ _ _ _ _ _
  have s8 : w8.heap.size = w7.heap.size + 2 := by rw [hw8]; simp only [World.size_setCell]; exact hvs
  obtain ⟨q0, q1, q2⟩ := Iv.c3
  have qf := Iv.f
  obtain ⟨j0, j1, j2, j3, j4, j5, j6, j7, j8, j9, j10, j11, j12⟩ := (Bk.set3 (M := w7.heap.size) Tv (by omega) (.slice a7 l2.length c7) (.int .i64 r) (.int .i64 dr)).c13
  have jf := (Bk.set3 (M := w7.heap.size) Tv (by omega) (.slice a7 l2.length c7) (.int .i64 r) (.int .i64 dr)).f
  have HV8 := Lib.hid hv7.symm
  have HW8 := Lib.hid hw8.symm
  clear hv7 hw8 Iv Tv bv hvs
  have b68 := b7.trans (b8.mono hs7)
  have O8 := O6.step b68
  have Q8 := Q6.step b68
  have I68 := I6.step b68
  have T68 := T6.step b68
  have B8 := B6.trans (b68.mono B6.size)
  have N8 := Lib.hid (Mw.below N6.out b68)
  have Z8 := Lib.hid (Dt.Rep.below b68 _ _ _ Z6.out)
  have MW8 := Lib.hid (Mw.below MW6.out b68)
  have P8 := Lib.hid (Mw.below n7.mw b8)
  have X8 := Lib.hid (Dt.Rep.below b8 _ _ _ (Rz.rep _ _ _ z7))
  have HP9 := Lib.hid (HQL.out a3 c3 w8 MW8.out)
  obtain ⟨o0, o1, o2⟩ := O8.c3
  clear O6 Q6 I6 T6 B6 N6 Z6 MW6 n7 z7 b7 b8 b68
  go_wp2_with (first | rw [HV8.out] | rw [HW8.out])
  refine HP9.out.mono ?_
  rintro e w9 ⟨a9, c9, a9', c9', rfl, n9, n9', b9⟩
  clear o0 o1 o2 HP9 q0 q1 q2 qf j0 j1 j2 j3 j4 j5 j6 j7 j8 j9 j10 j11 j12 jf HV8 HW8
  obtain ⟨w10, hw10⟩ : ∃ w10, w10 = w9.alloc (.cells #[.slice a9 ls.length c9, .int .i64 r, .int .i64 dl] 24) := ⟨_, rfl⟩
  have b10 : Below w9.heap.size w9 w10 := by rw [hw10]; exact below1 w9 _
  have C10 : Bk w10 w9.heap.size #[.slice a9 ls.length c9, .int .i64 r, .int .i64 dl] 24 := by rw [hw10]; exact Bk.new w9 _ _
  have b89 := b9.trans (b10.mono b9.size)
  have O10 := O8.step b89
  have Q10 := Q8.step b89
  have I10 := I68.step b89
  have T10 := T68.step b89
  have J10 := I8.step b89
  have U10 := T8.step b89
  have B10 := B8.trans (b89.mono B8.size)
  have N10 := Lib.hid (Mw.below N8.out b89)
  have Z10 := Lib.hid (Dt.Rep.below b89 _ _ _ Z8.out)
  have MW10 := Lib.hid (Mw.below MW8.out b89)
  have P10 := Lib.hid (Mw.below P8.out b89)
  have X10 := Lib.hid (Dt.Rep.below b89 _ _ _ X8.out)
  have E10 := Lib.hid (Mw.below n9 b10)
  have F10 := Lib.hid (Mw.below n9' b10)
  have HP11 := Lib.hid (HRL.out ad cap w10 (Mw.below HI.out B10))
  obtain ⟨o0, o1, o2⟩ := Q10.c3
  have HW10 := Lib.hid hw10.symm
  clear O8 Q8 I68 T68 I8 T8 B8 N8 Z8 MW8 P8 X8 n9 n9' b9 b10 b89 hw10 HQL HRL
  go_wp2_with (rw [HW10.out])
  refine HP11.out.mono ?_
  rintro e w11 ⟨a11, c11, a11', c11', rfl, n11, n11', b11⟩
  clear o0 o1 o2 HP11 HW10
  obtain ⟨w12, hw12⟩ : ∃ w12, w12 = w11.alloc (.cells #[.slice a11 ls.length c11, .int .i64 r, .int .i64 dl] 24) := ⟨_, rfl⟩
  have b12 : Below w11.heap.size w11 w12 := by rw [hw12]; exact below1 w11 _
  have D12 : Bk w12 w11.heap.size #[.slice a11 ls.length c11, .int .i64 r, .int .i64 dl] 24 := by rw [hw12]; exact Bk.new w11 _ _
  have b112 := b11.trans (b12.mono b11.size)
  have O12 := O10.step b112
  have Q12 := Q10.step b112
  have I12 := I10.step b112
  have T12 := T10.step b112
  have J12 := J10.step b112
  have U12 := U10.step b112
  have C12 := C10.step b112
  have B12 := B10.trans (b112.mono B10.size)
  have E12 := Lib.hid (Mw.below E10.out b112)
  have F12 := Lib.hid (Mw.below F10.out b112)
  have G12 := Lib.hid (Mw.below n11 b12)
  have H12 := Lib.hid (Mw.below n11' b12)
  have MW12 := Lib.hid (Mw.below MW10.out b112)
  have HS1 := Lib.hid (same_any l2 a5 a7 c5 c7 r dr w12 (by omega) (Mw.below N10.out b112) (Mw.below P10.out b112))
  have SM : Hid (∀ wx, Below w12.heap.size w12 wx → Calls Try.prog 13 #[.agg #[.int .i64 y.id, .string y.tp, .int .i64 gd.k, .int .i64 gd.i, .int .u64 gd.u, .string gd.s, .slice gd.a gd.l gd.c, .int .i64 y.ti, .int .i64 y.un, .string y.rp, .int .i64 y.co, .int .i64 y.pr, .int .i64 y.ho], .agg #[.int .i64 y.id, .string y.tp, .int .i64 hd.k, .int .i64 hd.i, .int .u64 hd.u, .string hd.s, .slice hd.a hd.l hd.c, .int .i64 y.ti, .int .i64 y.un, .string y.rp, .int .i64 y.co, .int .i64 y.pr, .int .i64 y.ho]] wx fun e w' => e = .returned (.bool true) ∧ Below wx.heap.size wx w') := fun wx hb => smsg_any y gd hd wx (Dt.Rep.below hb _ _ _ (Dt.Rep.below b112 _ _ _ Z10.out)) (Dt.Rep.below hb _ _ _ (Dt.Rep.below b112 _ _ _ X10.out))
  have S2 : Hid (∀ wx, Below w12.heap.size w12 wx → Calls Try.prog 12 #[.agg #[.slice a9 ls.length c9, .int .i64 r, .int .i64 dl], .agg #[.slice a11 ls.length c11, .int .i64 r, .int .i64 dl]] wx fun e w' => e = .returned (.bool true) ∧ Below wx.heap.size wx w') := fun wx hb => same_any ls a9 a11 c9 c11 r dl wx (by omega) (Mw.below E12.out hb) (Mw.below G12.out hb)
  have SQ : Hid (∀ wx, Below w12.heap.size w12 wx → Calls Try.prog 12 #[.agg #[.slice a3 l.length c3, .int .i64 r, .int .i64 dr], .agg #[.slice ad l.length cap, .int .i64 r, .int .i64 dr]] wx fun e w' => e = .returned (.bool true) ∧ Below wx.heap.size wx w') := fun wx hb => same_any l a3 ad c3 cap r dr wx (by omega) (Mw.below MW12.out hb) (Mw.below (Mw.below HI.out B12) hb)
  obtain ⟨u0, u1, u2⟩ := I12.c3
  obtain ⟨t0, t1, t2⟩ := J12.c3
  have hbb : (b != b) = false := by cases b <;> rfl
  have hlln : ((ll.length : Int) != (ll.length : Int)) = false := by simp
  have HW12 := Lib.hid hw12.symm
  clear O10 Q10 I10 T10 J10 U10 C10 B10 N10 Z10 MW10 P10 X10 E10 F10 n11 n11' b11 b12 b112 hw12
  go_wp2_with (first | rw [HW12.out] | (go_at_call 12; refine (S2.out w14 B14).mono ?_; rintro e w15 ⟨rfl, b15⟩; have B15 := B14.trans (b15.mono B14.size)) | (go_at_call 12; refine HS1.out.mono ?_; rintro e w13 ⟨rfl, b13⟩; obtain ⟨r0', r1', r2', r3', r4', r5', r6', r7', r8', r9', r10', r11', r12'⟩ := (T12.step b13).c13; obtain ⟨s0', s1', s2', s3', s4', s5', s6', s7', s8', s9', s10', s11', s12'⟩ := (U12.step b13).c13) | (go_at_call 13; refine (SM.out w13 b13).mono ?_; rintro e w14 ⟨rfl, b14⟩; have B14 := b13.trans (b14.mono b13.size); obtain ⟨o0, o1, o2⟩ := (C12.step B14).c3; obtain ⟨e0, e1, e2⟩ := (D12.step B14).c3))
  have RL := Lib.hid (Mw.below F12.out B15)
  have RK := Lib.hid (Mw.below H12.out B15)
  have B15H := Lib.hid B15
  have hs15 := B15.size
  clear r0' r1' r2' r3' r4' r5' r6' r7' r8' r9' r10' r11' r12' s0' s1' s2' s3' s4' s5' s6' s7' s8' s9' s10' s11' s12' o0 o1 o2 e0 e1 e2 u0 u1 u2 t0 t1 t2 HS1 SM S2 b13 b14 b15 B14 B15 I12 T12 J12 U12 C12 D12 E12 F12 G12 H12 MW12 HW12
  go_loopw [77] (fun s77 wr => ∃ (j : Nat), s77 = .int .i64 j ∧ j ≤ ll.length ∧ Below w15.heap.size w15 wr) (fun s77 _ => ll.length - (intOf s77).toNat)
  case atStart => exact ⟨0, rfl, Nat.zero_le _, Below.refl _ _⟩
  case round =>
    obtain ⟨j, rfl, hj, hb⟩ := hrel
    by_cases hlt : j < ll.length
    · rcases RL.out with h | ⟨bl, ol, rfl, hbl, h2⟩
      · rw [h] at hlt; simp at hlt
      rcases RK.out with h | ⟨bk, ok, rfl, hbk, h3⟩
      · rw [h] at hlt; simp at hlt
      obtain ⟨x, hx⟩ : ∃ x, ll[j]? = some x := ⟨_, List.getElem?_eq_getElem hlt⟩
      obtain ⟨d1, cl, r1⟩ := h2 j x hx
      obtain ⟨d2, ck, r2⟩ := h3 j x hx
      have CL := Lib.hid cl
      have CK := Lib.hid ck
      have SMj : Hid (∀ wx, Below w15.heap.size w15 wx → Calls Try.prog 13 #[.agg #[.int .i64 x.id, .string x.tp, .int .i64 d1.k, .int .i64 d1.i, .int .u64 d1.u, .string d1.s, .slice d1.a d1.l d1.c, .int .i64 x.ti, .int .i64 x.un, .string x.rp, .int .i64 x.co, .int .i64 x.pr, .int .i64 x.ho], .agg #[.int .i64 x.id, .string x.tp, .int .i64 d2.k, .int .i64 d2.i, .int .u64 d2.u, .string d2.s, .slice d2.a d2.l d2.c, .int .i64 x.ti, .int .i64 x.un, .string x.rp, .int .i64 x.co, .int .i64 x.pr, .int .i64 x.ho]] wx fun e w' => e = .returned (.bool true) ∧ Below wx.heap.size wx w') := fun wx hb => smsg_any x d1 d2 wx (Dt.Rep.below hb _ _ _ (Rz.rep _ _ _ r1)) (Dt.Rep.below hb _ _ _ (Rz.rep _ _ _ r2))
      have BW5 : Hid (Below w15.heap.size w15 wr.drew) := hb.drew
      have j0 : (0 : Int) ≤ (j : Int) := by omega
      have j1 : (j : Int) < (ll.length : Int) := by omega
      clear cl ck r1 r2 h2 h3 RL RK hx hb
      go_wp2_with fail
      have XS : Hid (∀ wx, Below w15.heap.size w15 wx → ((wx.cell? ⟨bl, ol + j * 13, none⟩ = some (.int .i64 x.id) ∧ wx.cell? ⟨bl, ol + j * 13 + 1, none⟩ = some (.string x.tp) ∧ wx.cell? ⟨bl, ol + j * 13 + 2, none⟩ = some (.int .i64 d1.k) ∧ wx.cell? ⟨bl, ol + j * 13 + 3, none⟩ = some (.int .i64 d1.i) ∧ wx.cell? ⟨bl, ol + j * 13 + 4, none⟩ = some (.int .u64 d1.u) ∧ wx.cell? ⟨bl, ol + j * 13 + 5, none⟩ = some (.string d1.s) ∧ wx.cell? ⟨bl, ol + j * 13 + 6, none⟩ = some (.slice d1.a d1.l d1.c) ∧ wx.cell? ⟨bl, ol + j * 13 + 7, none⟩ = some (.int .i64 x.ti) ∧ wx.cell? ⟨bl, ol + j * 13 + 8, none⟩ = some (.int .i64 x.un) ∧ wx.cell? ⟨bl, ol + j * 13 + 9, none⟩ = some (.string x.rp) ∧ wx.cell? ⟨bl, ol + j * 13 + 10, none⟩ = some (.int .i64 x.co) ∧ wx.cell? ⟨bl, ol + j * 13 + 11, none⟩ = some (.int .i64 x.pr) ∧ wx.cell? ⟨bl, ol + j * 13 + 12, none⟩ = some (.int .i64 x.ho)) ∧ (wx.cell? ⟨bk, ok + j * 13, none⟩ = some (.int .i64 x.id) ∧ wx.cell? ⟨bk, ok + j * 13 + 1, none⟩ = some (.string x.tp) ∧ wx.cell? ⟨bk, ok + j * 13 + 2, none⟩ = some (.int .i64 d2.k) ∧ wx.cell? ⟨bk, ok + j * 13 + 3, none⟩ = some (.int .i64 d2.i) ∧ wx.cell? ⟨bk, ok + j * 13 + 4, none⟩ = some (.int .u64 d2.u) ∧ wx.cell? ⟨bk, ok + j * 13 + 5, none⟩ = some (.string d2.s) ∧ wx.cell? ⟨bk, ok + j * 13 + 6, none⟩ = some (.slice d2.a d2.l d2.c) ∧ wx.cell? ⟨bk, ok + j * 13 + 7, none⟩ = some (.int .i64 x.ti) ∧ wx.cell? ⟨bk, ok + j * 13 + 8, none⟩ = some (.int .i64 x.un) ∧ wx.cell? ⟨bk, ok + j * 13 + 9, none⟩ = some (.string x.rp) ∧ wx.cell? ⟨bk, ok + j * 13 + 10, none⟩ = some (.int .i64 x.co) ∧ wx.cell? ⟨bk, ok + j * 13 + 11, none⟩ = some (.int .i64 x.pr) ∧ wx.cell? ⟨bk, ok + j * 13 + 12, none⟩ = some (.int .i64 x.ho)))) := fun wx h => ⟨CL.out.heap (h.block bl hbl), CK.out.heap (h.block bk hbk)⟩
      refine wp_region_held_drew (S := (fun wx => (wx.cell? ⟨bl, ol + j * 13, none⟩ = some (.int .i64 x.id) ∧ wx.cell? ⟨bl, ol + j * 13 + 1, none⟩ = some (.string x.tp) ∧ wx.cell? ⟨bl, ol + j * 13 + 2, none⟩ = some (.int .i64 d1.k) ∧ wx.cell? ⟨bl, ol + j * 13 + 3, none⟩ = some (.int .i64 d1.i) ∧ wx.cell? ⟨bl, ol + j * 13 + 4, none⟩ = some (.int .u64 d1.u) ∧ wx.cell? ⟨bl, ol + j * 13 + 5, none⟩ = some (.string d1.s) ∧ wx.cell? ⟨bl, ol + j * 13 + 6, none⟩ = some (.slice d1.a d1.l d1.c) ∧ wx.cell? ⟨bl, ol + j * 13 + 7, none⟩ = some (.int .i64 x.ti) ∧ wx.cell? ⟨bl, ol + j * 13 + 8, none⟩ = some (.int .i64 x.un) ∧ wx.cell? ⟨bl, ol + j * 13 + 9, none⟩ = some (.string x.rp) ∧ wx.cell? ⟨bl, ol + j * 13 + 10, none⟩ = some (.int .i64 x.co) ∧ wx.cell? ⟨bl, ol + j * 13 + 11, none⟩ = some (.int .i64 x.pr) ∧ wx.cell? ⟨bl, ol + j * 13 + 12, none⟩ = some (.int .i64 x.ho)) ∧ (wx.cell? ⟨bk, ok + j * 13, none⟩ = some (.int .i64 x.id) ∧ wx.cell? ⟨bk, ok + j * 13 + 1, none⟩ = some (.string x.tp) ∧ wx.cell? ⟨bk, ok + j * 13 + 2, none⟩ = some (.int .i64 d2.k) ∧ wx.cell? ⟨bk, ok + j * 13 + 3, none⟩ = some (.int .i64 d2.i) ∧ wx.cell? ⟨bk, ok + j * 13 + 4, none⟩ = some (.int .u64 d2.u) ∧ wx.cell? ⟨bk, ok + j * 13 + 5, none⟩ = some (.string d2.s) ∧ wx.cell? ⟨bk, ok + j * 13 + 6, none⟩ = some (.slice d2.a d2.l d2.c) ∧ wx.cell? ⟨bk, ok + j * 13 + 7, none⟩ = some (.int .i64 x.ti) ∧ wx.cell? ⟨bk, ok + j * 13 + 8, none⟩ = some (.int .i64 x.un) ∧ wx.cell? ⟨bk, ok + j * 13 + 9, none⟩ = some (.string x.rp) ∧ wx.cell? ⟨bk, ok + j * 13 + 10, none⟩ = some (.int .i64 x.co) ∧ wx.cell? ⟨bk, ok + j * 13 + 11, none⟩ = some (.int .i64 x.pr) ∧ wx.cell? ⟨bk, ok + j * 13 + 12, none⟩ = some (.int .i64 x.ho)))) (by kernel_rfl) (XS.out _ BW5.out) (fun hHeld => ?_)
      generalize wr.drew = v9 at *
      refine wpAnyH_take (i := 0) (oi := { dst := some 80, op := Op.move (Operand.tmp 13), type := 22, pos := _, after := #[], guard := none }) (v := ?tlk1) rfl (by kernel_rfl) (by kernel_rfl) (by kernel_rfl) (fun _ _ _ h => h) (Or.inl ⟨by rfl, ?ulk1⟩) (by assumption) ?rlk1
      case ulk1 => (intro w hSw; (try dsimp only at hSw); go_simp; (try with_reducible rfl))
      simp only [Act.put, List.setIfInBounds_toArray, List.set_cons_zero, List.set_cons_succ]
      refine wpAnyH_take (i := 1) (oi := { dst := some 81, op := Op.move (Operand.tmp 16), type := 3, pos := _, after := #[], guard := none }) (v := ?tlk2) rfl (by kernel_rfl) (by kernel_rfl) (by kernel_rfl) (fun _ _ _ h => h) (Or.inl ⟨by rfl, ?ulk2⟩) (by assumption) ?rlk2
      case ulk2 => (intro w hSw; (try dsimp only at hSw); go_simp; (try with_reducible rfl))
      simp only [Act.put, List.setIfInBounds_toArray, List.set_cons_zero, List.set_cons_succ]
      refine wpAnyH_take (i := 2) (oi := { dst := some 82, op := Op.indexAddr 22 (Operand.tmp 80) (Operand.tmp 81), type := 0, pos := _, after := #[{ on := 0, ground := Ground.data }, { on := 1, ground := Ground.data }], guard := none }) (v := ?tlk3) rfl (by kernel_rfl) (by kernel_rfl) (by kernel_rfl) (fun _ _ _ h => h) (Or.inl ⟨by rfl, ?ulk3⟩) (by assumption) ?rlk3
      case ulk3 => (intro w hSw; (try dsimp only at hSw); go_simp; (try with_reducible rfl))
      simp only [Act.put, List.setIfInBounds_toArray, List.set_cons_zero, List.set_cons_succ]
      refine wpAnyH_take (i := 3) (oi := { dst := some 83, op := Op.load 30 (Operand.tmp 82), type := 30, pos := _, after := #[{ on := 2, ground := Ground.data }], guard := none }) (v := ?tlk4) rfl (by kernel_rfl) (by kernel_rfl) (by kernel_rfl) (fun _ _ _ h => h) (Or.inl ⟨by rfl, ?ulk4⟩) (by assumption) ?rlk4
      case ulk4 => (intro w hSw; (try dsimp only at hSw); go_simp; (try with_reducible rfl))
      simp only [Act.put, List.setIfInBounds_toArray, List.set_cons_zero, List.set_cons_succ]
      refine wpAnyH_take (i := 4) (oi := { dst := some 84, op := Op.move (Operand.tmp 15), type := 22, pos := _, after := #[], guard := none }) (v := ?tlk5) rfl (by kernel_rfl) (by kernel_rfl) (by kernel_rfl) (fun _ _ _ h => h) (Or.inl ⟨by rfl, ?ulk5⟩) (by assumption) ?rlk5
      case ulk5 => (intro w hSw; (try dsimp only at hSw); go_simp; (try with_reducible rfl))
      simp only [Act.put, List.setIfInBounds_toArray, List.set_cons_zero, List.set_cons_succ]
      refine wpAnyH_take (i := 5) (oi := { dst := some 85, op := Op.move (Operand.tmp 16), type := 3, pos := _, after := #[], guard := none }) (v := ?tlk6) rfl (by kernel_rfl) (by kernel_rfl) (by kernel_rfl) (fun _ _ _ h => h) (Or.inl ⟨by rfl, ?ulk6⟩) (by assumption) ?rlk6
      case ulk6 => (intro w hSw; (try dsimp only at hSw); go_simp; (try with_reducible rfl))
      simp only [Act.put, List.setIfInBounds_toArray, List.set_cons_zero, List.set_cons_succ]
      refine wpAnyH_take (i := 6) (oi := { dst := some 86, op := Op.indexAddr 22 (Operand.tmp 84) (Operand.tmp 85), type := 0, pos := _, after := #[{ on := 4, ground := Ground.data }, { on := 5, ground := Ground.data }], guard := none }) (v := ?tlk7) rfl (by kernel_rfl) (by kernel_rfl) (by kernel_rfl) (fun _ _ _ h => h) (Or.inl ⟨by rfl, ?ulk7⟩) (by assumption) ?rlk7
      case ulk7 => (intro w hSw; (try dsimp only at hSw); go_simp; (try with_reducible rfl))
      simp only [Act.put, List.setIfInBounds_toArray, List.set_cons_zero, List.set_cons_succ]
      refine wpAnyH_take (i := 7) (oi := { dst := some 87, op := Op.load 30 (Operand.tmp 86), type := 30, pos := _, after := #[{ on := 6, ground := Ground.data }], guard := none }) (v := ?tlk8) rfl (by kernel_rfl) (by kernel_rfl) (by kernel_rfl) (fun _ _ _ h => h) (Or.inl ⟨by rfl, ?ulk8⟩) (by assumption) ?rlk8
      case ulk8 => (intro w hSw; (try dsimp only at hSw); go_simp; (try with_reducible rfl))
      simp only [Act.put, List.setIfInBounds_toArray, List.set_cons_zero, List.set_cons_succ]
      refine wpAnyH_ready (rs := [8]) (by kernel_rfl) (by simp) ?_
      refine AllReadyH.cons (o := { dst := some 88, op := Op.call { callee := Callee.value (Operand.func 13), args := #[Operand.tmp 83, Operand.tmp 87], argTypes := #[30, 30] }, type := 4, pos := _, after := #[{ on := 3, ground := Ground.data }, { on := 7, ground := Ground.data }], guard := none }) rfl (fun K hK => ?_) AllReadyH.nil
      go_simp
      refine (SMj.out _ BW5.out).mono ?_
      rintro e v1 ⟨rfl, b1⟩
      have bb1 := Lib.hid (BW5.out.trans (b1.mono BW5.out.size))
      refine hK.out _ _ (XS.out _ bb1.out) (fun hH1 => ?_)
      clear hK K
      (try simp only [Act.put, List.setIfInBounds_toArray, List.set_cons_zero, List.set_cons_succ])
      refine wpAnyH_take (i := 9) (oi := { dst := some 89, op := Op.unOp UnOp.not 4 (Operand.tmp 88), type := 4, pos := _, after := #[{ on := 8, ground := Ground.data }], guard := none }) (v := ?tlk9) rfl (by kernel_rfl) (by kernel_rfl) (by kernel_rfl) (fun _ _ _ h => h) (Or.inl ⟨by rfl, ?ulk9⟩) (by assumption) ?rlk9
      case ulk9 => (intro w hSw; (try dsimp only at hSw); go_simp; (try with_reducible rfl))
      simp only [Act.put, List.setIfInBounds_toArray, List.set_cons_zero, List.set_cons_succ]
      refine wpAnyH_done (by kernel_rfl) ?_ _
      go_wp2_with fail
      exact ⟨⟨j + 1, by go_num, by omega, bb1.out⟩, by simp [intOf]; omega⟩
    · have B16 := B15H.out.trans (hb.mono hs15)
      obtain ⟨o0, o1, o2⟩ := (O12.step B16).c3
      obtain ⟨e0, e1, e2⟩ := (Q12.step B16).c3
      clear RL RK
      go_wp2_with (first | (go_at_call 12; refine (SQ.out wr B16).mono ?_; rintro e w17 ⟨rfl, b17⟩; have B17 := B16.trans (b17.mono B16.size)) | (go_at_call 8; refine (awake_any _).mono ?_; rintro e w18 ⟨rfl, b18⟩; have B18 := B17.trans (b18.mono B17.size)))
      go_ret
      exact ⟨rfl, B12.trans (B18.mono B12.size)⟩
end Go.Proofs.Ytdgjhclncjoonaa
