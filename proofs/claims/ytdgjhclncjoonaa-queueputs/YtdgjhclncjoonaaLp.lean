/- The law QueuePuts by its contracts; the conditions: what lies in memory. -/
import Derived.Test.YtdgjhclncjoonaaRx
import Derived.Test.YtdgjhclncjoonaaQm
import Derived.Test.YtdgjhclncjoonaaFi
namespace Go.Proofs.Ytdgjhclncjoonaa
open Go.RowKit

theorem best_ex (pr : Nat → Int) : ∀ n, 0 < n → ∃ k, Best false pr n k
  | 0, h => absurd h (by decide)
  | 1, _ => ⟨0, Best.one0 pr⟩
  | n + 2, _ => by
    obtain ⟨k, h⟩ := best_ex pr (n + 1) (by omega)
    by_cases c : pr (n + 1) < pr k
    · exact ⟨n + 1, h.yes c⟩
    · exact ⟨k, h.no c⟩
/-- What Put gives, in one word. -/
theorem put_one (l : List Ms) (r dr room drop : Int) (x : Ms) (hl : l.length ≤ 1400) : ∃ l2 r2 d2 y b er, l2.length ≤ 2000 ∧ ∀ (w : World) e w', PutP w l r dr room drop x e w' → PuP w l2 r2 d2 y b er e w' := by
  by_cases c1 : (l.length : Int) < room
  · exact ⟨l ++ [x], r, dr, mZ, false, 0, by simp; omega, fun w e w' h => h.1 c1⟩
  by_cases c2 : drop = 0
  · exact ⟨l, r, dr + 1, x, true, 0, by omega, fun w e w' h => (h.2 c1).1 c2⟩
  by_cases c3 : drop = 1
  · obtain ⟨k, hb⟩ := best_ex (prl (l ++ [x])) (l.length + 1) (by omega)
    obtain ⟨y, hy⟩ : ∃ y, (l ++ [x])[k]? = some y := ⟨_, List.getElem?_eq_getElem (by have := hb.1; simp; omega)⟩
    refine ⟨(l ++ [x]).eraseIdx k, r, dr + 1, y, true, 0, ?_, fun w e w' h => ?_⟩
    · have := List.length_eraseIdx_le (l ++ [x]) k
      simp at this
      omega
    · obtain ⟨k', y', hb', hy', hp⟩ := (h.2 c1).2.1 c3
      obtain rfl := hb'.one hb
      rw [hy] at hy'
      obtain rfl := Option.some.inj hy'
      exact hp
  · exact ⟨l, r + 1, dr, mZ, false, 190, by omega, fun w e w' h => (h.2 c1).2.2 c2 c3⟩

set_option maxRecDepth 100000 in
set_option maxHeartbeats 8000000 in
theorem law_puts (l : List Ms) (ad : Option Addr) (cap : Nat) (r dr room drop : Int) (x : Ms) (d : Bo) (w : World) (hl : l.length ≤ maxLen) (hI : Mw w ad l) (hx : Dt.Rep w x.n d.vs x.t) :
    Calls Try.prog 3 #[.agg #[.slice ad l.length cap, .int .i64 r, .int .i64 dr], .int .i64 room, .int .i64 drop, .agg (x.cs d)] w fun e w' => e = .returned (.bool true) ∧ Below w.heap.size w w' := by
  unfold maxLen at hl
  obtain ⟨W, hW⟩ : ∃ W, W = (w.alloc (.cells #[.slice ad l.length cap, .int .i64 r, .int .i64 dr] 24)).alloc (.cells #[.int .i64 x.id, .string x.tp, .int .i64 d.k, .int .i64 d.i, .int .u64 d.u, .string d.s, .slice d.a d.l d.c, .int .i64 x.ti, .int .i64 x.un, .string x.rp, .int .i64 x.co, .int .i64 x.pr, .int .i64 x.ho] 30) := ⟨_, rfl⟩
  have B0 : Below w.heap.size w W := by rw [hW]; exact below2 w _ _
  have Q0 : Bk W w.heap.size #[.slice ad l.length cap, .int .i64 r, .int .i64 dr] 24 := by rw [hW]; exact (Bk.new w _ _).alloc _
  have M0 : Bk W (w.heap.size + 1) #[.int .i64 x.id, .string x.tp, .int .i64 d.k, .int .i64 d.i, .int .u64 d.u, .string d.s, .slice d.a d.l d.c, .int .i64 x.ti, .int .i64 x.un, .string x.rp, .int .i64 x.co, .int .i64 x.pr, .int .i64 x.ho] 30 := by rw [hW]; exact Bk.new2 w _ _ _
  have HF := Lib.hid (fit_any l ad cap r dr W (by omega) (Mw.below hI B0))
  have HV : Hid (∀ wx, Below w.heap.size w wx → Calls Try.prog 7 #[.agg #[.int .i64 d.k, .int .i64 d.i, .int .u64 d.u, .string d.s, .slice d.a d.l d.c]] wx fun e w' => e = .returned (.bool (Dt.vB x.n x.t)) ∧ Below wx.heap.size wx w') := fun wx hb => Dt.refValid x.n x.t _ _ _ _ _ wx (Dt.Rep.below hb _ _ _ hx)
  have HI := Lib.hid hI
  have HX := Lib.hid hx
  obtain ⟨q0, q1, q2⟩ := Q0.c3
  have HW := Lib.hid hW.symm
  clear hI hx hW
  go_enter Try.func3, Try.ntmps3
  go_wp2_with (rw [HW.out])
  refine HF.out.mono ?_
  rintro e w1 ⟨b0, rfl, hfit, b1⟩
  have Q1 := Q0.step b1
  have M1 := M0.step b1
  have B1 := B0.trans (b1.mono B0.size)
  obtain ⟨m0, m1, m2, m3, m4, m5, m6, m7, m8, m9, m10, m11, m12⟩ := M1.c13
  clear b1 HF
  cases b0
  · clear hfit
    go_wp2_with (go_at_call 8; refine (awake_any _).mono ?_; rintro e w9 ⟨rfl, b9⟩)
    go_ret
    exact ⟨rfl, B1.trans (b9.mono B1.size)⟩
  have hf := hfit rfl
  clear hfit
  by_cases c1 : ¬ (1 ≤ room)
  · have f1 : decide (room < 1) = true := decide_eq_true (by omega)
    clear hf
    go_wp2_with (go_at_call 8; refine (awake_any _).mono ?_; rintro e w9 ⟨rfl, b9⟩)
    go_ret
    exact ⟨rfl, B1.trans (b9.mono B1.size)⟩
  have f1 : decide (room < 1) = false := decide_eq_false (by omega)
  by_cases c2 : ¬ (room ≤ 1024)
  · have f2 : decide ((1024 : Int) < room) = true := decide_eq_true (by omega)
    clear hf
    go_wp2_with (go_at_call 8; refine (awake_any _).mono ?_; rintro e w9 ⟨rfl, b9⟩)
    go_ret
    exact ⟨rfl, B1.trans (b9.mono B1.size)⟩
  have f2 : decide ((1024 : Int) < room) = false := decide_eq_false (by omega)
  obtain ⟨vb, hvb⟩ : ∃ vb, vb = Dt.vB x.n x.t := ⟨_, rfl⟩
  rw [← hvb] at HV
  cases vb
  · clear hf hvb
    go_wp2_with (first | (go_at_call 7; refine (HV.out w1 B1).mono ?_; rintro e w2 ⟨rfl, b2⟩; have B2 := B1.trans (b2.mono B1.size); clear b2) | (go_at_call 8; refine (awake_any _).mono ?_; rintro e w9 ⟨rfl, b9⟩))
    go_ret
    exact ⟨rfl, B2.trans (b9.mono B2.size)⟩
  have hv := hvb.symm
  obtain ⟨hf1, hf2, hf3, hf4, hf5, -⟩ := id hf
  have hsm : Sm (l ++ [x]) := hf.sm.app (fun y hy => by simp at hy; subst hy; exact valid_pts hv)
  obtain ⟨l2, r2, d2, y, b, er, hl2, hone⟩ := put_one l r dr room drop x (by omega)
  have HS := Lib.hid hsm
  have HO := Lib.hid hone
  clear hsm hone hv hvb hf c1 c2
  go_wp2_with (go_at_call 7; refine (HV.out w1 B1).mono ?_; rintro e w2 ⟨rfl, b2⟩; have Q2 := Q1.step b2; have M2 := M1.step b2; have B2 := B1.trans (b2.mono B1.size); clear q0 q1 q2; obtain ⟨q0, q1, q2⟩ := Q2.c3; have HC := Lib.hid (rcopy_any l ad cap r dr w2 (by omega) (Mw.below HI.out B2) (fun y hy => HS.out y (by simp [hy]))); clear b2 HV m0 m1 m2 m3 m4 m5 m6 m7 m8 m9 m10 m11 m12)
  refine HC.out.mono ?_
  rintro e w3 ⟨sl, xs, rfl, m3, b3⟩
  obtain ⟨a3, c3, rfl, mz3⟩ := m3.mz (F' := fun g => g < w3.heap.size) (fun g hg => hg.2.1) (fun g hg => (m3.own_lt g hg).2)
  have Q3 := Q2.step b3
  have M3 := M2.step b3
  have B3 := B2.trans (b3.mono B2.size)
  have hs3 := b3.size
  obtain ⟨w4, hw4⟩ : ∃ w4, w4 = w3.alloc (.cells #[.slice a3 l.length c3, .int .i64 r, .int .i64 dr] 24) := ⟨_, rfl⟩
  have b4 : Below w3.heap.size w3 w4 := by rw [hw4]; exact below1 w3 _
  have O4 : Bk w4 w3.heap.size #[.slice a3 l.length c3, .int .i64 r, .int .i64 dr] 24 := by rw [hw4]; exact Bk.new w3 _ _
  have Q4 := Q3.step b4
  have M4 := M3.step b4
  have B4 := B3.trans (b4.mono B3.size)
  have mw4 : Mw w4 a3 l := Mw.below mz3 b4
  have HP5 : Hid (Calls Try.prog 10 #[.agg #[.slice a3 l.length c3, .int .i64 r, .int .i64 dr], .int .i64 room, .int .i64 drop, .agg #[.int .i64 x.id, .string x.tp, .int .i64 d.k, .int .i64 d.i, .int .u64 d.u, .string d.s, .slice d.a d.l d.c, .int .i64 x.ti, .int .i64 x.un, .string x.rp, .int .i64 x.co, .int .i64 x.pr, .int .i64 x.ho]] w4 (PuP w4 l2 r2 d2 y b er)) := (qput_any l a3 c3 r dr room drop x d w4 (by omega) mw4 HS.out (Dt.Rep.below B4 _ _ _ HX.out) hf2 hf4 hf3 hf5).mono fun e w' h => HO.out w4 e w' h
  obtain ⟨o0, o1, o2⟩ := O4.c3
  obtain ⟨m0, m1, m2, m4, m5, m6, m7, m8, m9, m10, m11, m12, m13⟩ := M4.c13
  have HW4 := Lib.hid hw4.symm
  have MW4 := Lib.hid mw4
  clear q0 q1 q2 HC m3 mz3 b3 b4 hw4 mw4 Q2 M2 B2 Q3 M3 B3 Q1 M1 B1 HW
  go_wp2_with (rw [HW4.out])
  refine HP5.out.mono ?_
  rintro e w5 ⟨a5, c5, gd, rfl, n5, z5, b5⟩
  have hs5 := b5.size
  rw [show (Value.agg (y.cs gd)) = .agg #[.int .i64 y.id, .string y.tp, .int .i64 gd.k, .int .i64 gd.i, .int .u64 gd.u, .string gd.s, .slice gd.a gd.l gd.c, .int .i64 y.ti, .int .i64 y.un, .string y.rp, .int .i64 y.co, .int .i64 y.pr, .int .i64 y.ho] from rfl]
  clear o0 o1 o2 m0 m1 m2 m4 m5 m6 m7 m8 m9 m10 m11 m12 m13 HP5
  obtain ⟨v5, hv5⟩ : ∃ v5, v5 = (w5.alloc (.cells #[.slice none 0 0, .int .i64 0, .int .i64 0] 24)).alloc (.cells #[.int .i64 0, .string ⟨#[]⟩, .int .i64 0, .int .i64 0, .int .u64 0, .string ⟨#[]⟩, .slice none 0 0, .int .i64 0, .int .i64 0, .string ⟨#[]⟩, .int .i64 0, .int .i64 0, .int .i64 0] 30) := ⟨_, rfl⟩
  have Iv : Bk v5 w5.heap.size #[.slice none 0 0, .int .i64 0, .int .i64 0] 24 := by rw [hv5]; exact (Bk.new w5 _ _).alloc _
  have Tv : Bk v5 (w5.heap.size + 1) #[.int .i64 0, .string ⟨#[]⟩, .int .i64 0, .int .i64 0, .int .u64 0, .string ⟨#[]⟩, .slice none 0 0, .int .i64 0, .int .i64 0, .string ⟨#[]⟩, .int .i64 0, .int .i64 0, .int .i64 0] 30 := by rw [hv5]; exact Bk.new2 w5 _ _ _
  have bv : Below w5.heap.size w5 v5 := by rw [hv5]; exact below2 w5 _ _
  have hvs : v5.heap.size = w5.heap.size + 2 := by rw [hv5]; simp
  obtain ⟨w6, hw6⟩ : ∃ w6, w6 = (((((((((((((((v5.setCell ⟨w5.heap.size, 0, none⟩ (.slice a5 l2.length c5)).setCell ⟨w5.heap.size, 1, none⟩ (.int .i64 r2)).setCell ⟨w5.heap.size, 2, none⟩ (.int .i64 d2)).setCell ⟨w5.heap.size + 1, 0, none⟩ (.int .i64 y.id)).setCell ⟨w5.heap.size + 1, 1, none⟩ (.string y.tp)).setCell ⟨w5.heap.size + 1, 2, none⟩ (.int .i64 gd.k)).setCell ⟨w5.heap.size + 1, 3, none⟩ (.int .i64 gd.i)).setCell ⟨w5.heap.size + 1, 4, none⟩ (.int .u64 gd.u)).setCell ⟨w5.heap.size + 1, 5, none⟩ (.string gd.s)).setCell ⟨w5.heap.size + 1, 6, none⟩ (.slice gd.a gd.l gd.c)).setCell ⟨w5.heap.size + 1, 7, none⟩ (.int .i64 y.ti)).setCell ⟨w5.heap.size + 1, 8, none⟩ (.int .i64 y.un)).setCell ⟨w5.heap.size + 1, 9, none⟩ (.string y.rp)).setCell ⟨w5.heap.size + 1, 10, none⟩ (.int .i64 y.co)).setCell ⟨w5.heap.size + 1, 11, none⟩ (.int .i64 y.pr)).setCell ⟨w5.heap.size + 1, 12, none⟩ (.int .i64 y.ho) := ⟨_, rfl⟩
  have I6 : Bk w6 w5.heap.size #[.slice a5 l2.length c5, .int .i64 r2, .int .i64 d2] 24 := by rw [hw6]; exact Bk.set13 (Bk.full3 Iv _ _ _) (by omega) _ _ _ _ _ _ _ _ _ _ _ _ _
  have T6 : Bk w6 (w5.heap.size + 1) #[.int .i64 y.id, .string y.tp, .int .i64 gd.k, .int .i64 gd.i, .int .u64 gd.u, .string gd.s, .slice gd.a gd.l gd.c, .int .i64 y.ti, .int .i64 y.un, .string y.rp, .int .i64 y.co, .int .i64 y.pr, .int .i64 y.ho] 30 := by rw [hw6]; exact Bk.full13 (Bk.set3 Tv (by omega) _ _ _) _ _ _ _ _ _ _ _ _ _ _ _ _
  have b6 : Below w5.heap.size w5 w6 := by rw [hw6]; exact below_set13 (below_set3 bv (Nat.le_refl _) _ _ _) (by omega) _ _ _ _ _ _ _ _ _ _ _ _ _
  have s6 : w6.heap.size = w5.heap.size + 2 := by rw [hw6]; simp only [World.size_setCell]; exact hvs
  obtain ⟨q0, q1, q2⟩ := Iv.c3
  have qf := Iv.f
  obtain ⟨j0, j1, j2, j3, j4, j5, j6, j7, j8, j9, j10, j11, j12⟩ := (Bk.set3 (M := w5.heap.size) Tv (by omega) (.slice a5 l2.length c5) (.int .i64 r2) (.int .i64 d2)).c13
  have jf := (Bk.set3 (M := w5.heap.size) Tv (by omega) (.slice a5 l2.length c5) (.int .i64 r2) (.int .i64 d2)).f
  have HV6 := Lib.hid hv5.symm
  have HW6 := Lib.hid hw6.symm
  clear hv5 hw6 Iv Tv bv hvs
  have O6 := (O4.step b5).step b6
  have Q6 := (Q4.step b5).step b6
  have M6 := (M4.step b5).step b6
  have B6 := (B4.trans (b5.mono B4.size)).trans (b6.mono (by have := B4.size; omega))
  have HP7 : Hid (Calls Try.prog 11 #[.agg #[.slice ad l.length cap, .int .i64 r, .int .i64 dr], .int .i64 room, .int .i64 drop, .agg #[.int .i64 x.id, .string x.tp, .int .i64 d.k, .int .i64 d.i, .int .u64 d.u, .string d.s, .slice d.a d.l d.c, .int .i64 x.ti, .int .i64 x.un, .string x.rp, .int .i64 x.co, .int .i64 x.pr, .int .i64 x.ho]] w6 (PuP w6 l2 r2 d2 y b er)) := (rput_any l ad cap r dr room drop x d w6 (by omega) (Mw.below HI.out B6) HS.out (Dt.Rep.below B6 _ _ _ HX.out) hf2 hf4 hf3 hf5).mono fun e w' h => HO.out w6 e w' h
  have N6 := Lib.hid (Mw.below n5.mw b6)
  have Z6 := Lib.hid (Dt.Rep.below b6 _ _ _ (Rz.rep _ _ _ z5))
  have MW6 := Lib.hid (Mw.below (Mw.below MW4.out b5) b6)
  obtain ⟨o0, o1, o2⟩ := Q6.c3
  obtain ⟨m0, m1, m2, m4, m5, m6, m7, m8, m9, m10, m11, m12, m13⟩ := M6.c13
  clear O4 Q4 M4 B4 MW4 n5 z5 b5 b6 HW4
  go_wp2_with (first | rw [HV6.out] | rw [HW6.out])
  refine HP7.out.mono ?_
  rintro e w7 ⟨a7, c7, hd, rfl, n7, z7, b7⟩
  have hs7 := b7.size
  rw [show (Value.agg (y.cs hd)) = .agg #[.int .i64 y.id, .string y.tp, .int .i64 hd.k, .int .i64 hd.i, .int .u64 hd.u, .string hd.s, .slice hd.a hd.l hd.c, .int .i64 y.ti, .int .i64 y.un, .string y.rp, .int .i64 y.co, .int .i64 y.pr, .int .i64 y.ho] from rfl]
  clear o0 o1 o2 m0 m1 m2 m4 m5 m6 m7 m8 m9 m10 m11 m12 m13 HP7 q0 q1 q2 qf j0 j1 j2 j3 j4 j5 j6 j7 j8 j9 j10 j11 j12 jf HV6 HW6
  obtain ⟨v7, hv7⟩ : ∃ v7, v7 = (w7.alloc (.cells #[.slice none 0 0, .int .i64 0, .int .i64 0] 24)).alloc (.cells #[.int .i64 0, .string ⟨#[]⟩, .int .i64 0, .int .i64 0, .int .u64 0, .string ⟨#[]⟩, .slice none 0 0, .int .i64 0, .int .i64 0, .string ⟨#[]⟩, .int .i64 0, .int .i64 0, .int .i64 0] 30) := ⟨_, rfl⟩
  have Iv : Bk v7 w7.heap.size #[.slice none 0 0, .int .i64 0, .int .i64 0] 24 := by rw [hv7]; exact (Bk.new w7 _ _).alloc _
  have Tv : Bk v7 (w7.heap.size + 1) #[.int .i64 0, .string ⟨#[]⟩, .int .i64 0, .int .i64 0, .int .u64 0, .string ⟨#[]⟩, .slice none 0 0, .int .i64 0, .int .i64 0, .string ⟨#[]⟩, .int .i64 0, .int .i64 0, .int .i64 0] 30 := by rw [hv7]; exact Bk.new2 w7 _ _ _
  have bv : Below w7.heap.size w7 v7 := by rw [hv7]; exact below2 w7 _ _
  have hvs : v7.heap.size = w7.heap.size + 2 := by rw [hv7]; simp
  obtain ⟨w8, hw8⟩ : ∃ w8, w8 = (((((((((((((((v7.setCell ⟨w7.heap.size, 0, none⟩ (.slice a7 l2.length c7)).setCell ⟨w7.heap.size, 1, none⟩ (.int .i64 r2)).setCell ⟨w7.heap.size, 2, none⟩ (.int .i64 d2)).setCell ⟨w7.heap.size + 1, 0, none⟩ (.int .i64 y.id)).setCell ⟨w7.heap.size + 1, 1, none⟩ (.string y.tp)).setCell ⟨w7.heap.size + 1, 2, none⟩ (.int .i64 hd.k)).setCell ⟨w7.heap.size + 1, 3, none⟩ (.int .i64 hd.i)).setCell ⟨w7.heap.size + 1, 4, none⟩ (.int .u64 hd.u)).setCell ⟨w7.heap.size + 1, 5, none⟩ (.string hd.s)).setCell ⟨w7.heap.size + 1, 6, none⟩ (.slice hd.a hd.l hd.c)).setCell ⟨w7.heap.size + 1, 7, none⟩ (.int .i64 y.ti)).setCell ⟨w7.heap.size + 1, 8, none⟩ (.int .i64 y.un)).setCell ⟨w7.heap.size + 1, 9, none⟩ (.string y.rp)).setCell ⟨w7.heap.size + 1, 10, none⟩ (.int .i64 y.co)).setCell ⟨w7.heap.size + 1, 11, none⟩ (.int .i64 y.pr)).setCell ⟨w7.heap.size + 1, 12, none⟩ (.int .i64 y.ho) := ⟨_, rfl⟩
  have I8 : Bk w8 w7.heap.size #[.slice a7 l2.length c7, .int .i64 r2, .int .i64 d2] 24 := by rw [hw8]; exact Bk.set13 (Bk.full3 Iv _ _ _) (by omega) _ _ _ _ _ _ _ _ _ _ _ _ _
  have T8 : Bk w8 (w7.heap.size + 1) #[.int .i64 y.id, .string y.tp, .int .i64 hd.k, .int .i64 hd.i, .int .u64 hd.u, .string hd.s, .slice hd.a hd.l hd.c, .int .i64 y.ti, .int .i64 y.un, .string y.rp, .int .i64 y.co, .int .i64 y.pr, .int .i64 y.ho] 30 := by rw [hw8]; exact Bk.full13 (Bk.set3 Tv (by omega) _ _ _) _ _ _ _ _ _ _ _ _ _ _ _ _
  have b8 : Below w7.heap.size w7 w8 := by rw [hw8]; exact below_set13 (below_set3 bv (Nat.le_refl _) _ _ _) (by omega) _ _ _ _ _ _ _ _ _ _ _ _ _
  have s8 : w8.heap.size = w7.heap.size + 2 := by rw [hw8]; simp only [World.size_setCell]; exact hvs
  obtain ⟨q0, q1, q2⟩ := Iv.c3
  have qf := Iv.f
  obtain ⟨j0, j1, j2, j3, j4, j5, j6, j7, j8, j9, j10, j11, j12⟩ := (Bk.set3 (M := w7.heap.size) Tv (by omega) (.slice a7 l2.length c7) (.int .i64 r2) (.int .i64 d2)).c13
  have jf := (Bk.set3 (M := w7.heap.size) Tv (by omega) (.slice a7 l2.length c7) (.int .i64 r2) (.int .i64 d2)).f
  have HV8 := Lib.hid hv7.symm
  have HW8 := Lib.hid hw8.symm
  clear hv7 hw8 Iv Tv bv hvs
  have O8 := (O6.step b7).step b8
  have Q8 := (Q6.step b7).step b8
  have I68 := (I6.step b7).step b8
  have T68 := (T6.step b7).step b8
  have b68 := b7.trans (b8.mono hs7)
  have B8 := B6.trans (b68.mono B6.size)
  have HS1 := Lib.hid (same_any l2 a5 a7 c5 c7 r2 d2 w8 (by omega) (Mw.below N6.out b68) (Mw.below n7.mw b8))
  have SM : Hid (∀ wx, Below w8.heap.size w8 wx → Calls Try.prog 13 #[.agg #[.int .i64 y.id, .string y.tp, .int .i64 gd.k, .int .i64 gd.i, .int .u64 gd.u, .string gd.s, .slice gd.a gd.l gd.c, .int .i64 y.ti, .int .i64 y.un, .string y.rp, .int .i64 y.co, .int .i64 y.pr, .int .i64 y.ho], .agg #[.int .i64 y.id, .string y.tp, .int .i64 hd.k, .int .i64 hd.i, .int .u64 hd.u, .string hd.s, .slice hd.a hd.l hd.c, .int .i64 y.ti, .int .i64 y.un, .string y.rp, .int .i64 y.co, .int .i64 y.pr, .int .i64 y.ho]] wx fun e w' => e = .returned (.bool true) ∧ Below wx.heap.size wx w') := fun wx hb => smsg_any y gd hd wx (Dt.Rep.below hb _ _ _ (Dt.Rep.below b68 _ _ _ Z6.out)) (Dt.Rep.below hb _ _ _ (Dt.Rep.below b8 _ _ _ (Rz.rep _ _ _ z7)))
  have SQ : Hid (∀ wx, Below w8.heap.size w8 wx → Calls Try.prog 12 #[.agg #[.slice a3 l.length c3, .int .i64 r, .int .i64 dr], .agg #[.slice ad l.length cap, .int .i64 r, .int .i64 dr]] wx fun e w' => e = .returned (.bool true) ∧ Below wx.heap.size wx w') := fun wx hb => same_any l a3 ad c3 cap r dr wx (by omega) (Mw.below (Mw.below MW6.out b68) hb) (Mw.below (Mw.below HI.out B8) (hb.mono (Nat.le_refl _)))
  obtain ⟨u0, u1, u2⟩ := I68.c3
  obtain ⟨t0, t1, t2⟩ := I8.c3
  clear O6 Q6 M6 I6 T6 B6 N6 Z6 MW6 n7 z7 b7 b8 b68
  go_wp2_with (first | rw [HV8.out] | rw [HW8.out] | (go_at_call 12; refine (SQ.out w10 B10).mono ?_; rintro e w11 ⟨rfl, b11⟩; have B11 := B10.trans (b11.mono B10.size)) | (go_at_call 12; refine HS1.out.mono ?_; rintro e w9 ⟨rfl, b9⟩; obtain ⟨r0', r1', r2', r3', r4', r5', r6', r7', r8', r9', r10', r11', r12'⟩ := (T68.step b9).c13; obtain ⟨s0', s1', s2', s3', s4', s5', s6', s7', s8', s9', s10', s11', s12'⟩ := (T8.step b9).c13) | (go_at_call 13; refine (SM.out w9 b9).mono ?_; rintro e w10 ⟨rfl, b10⟩; have B10 := b9.trans (b10.mono b9.size); obtain ⟨o0, o1, o2⟩ := (O8.step B10).c3; obtain ⟨e0, e1, e2⟩ := (Q8.step B10).c3) | (go_at_call 8; refine (awake_any _).mono ?_; rintro e w12 ⟨rfl, b12⟩; have B12 := B11.trans (b12.mono B11.size)))
  go_ret
  exact ⟨rfl, B8.trans (B12.mono B8.size)⟩
end Go.Proofs.Ytdgjhclncjoonaa
