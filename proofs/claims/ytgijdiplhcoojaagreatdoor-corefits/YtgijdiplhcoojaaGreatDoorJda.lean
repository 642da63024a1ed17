/- The document's Copy of a state, its blocks told; the conditions: the state in memory, its trees of 4096 parts at most. -/
import Derived.Test.YtgijdiplhcoojaaGreatDoorJcf
import Derived.Test.YtgijdiplhcoojaaGreatDoorXRm
import Derived.Test.YtgijdiplhcoojaaGreatDoorXRl
import Derived.Test.YtgijdiplhcoojaaGreatDoorXIt
namespace Go.Proofs.YtgijdiplhcoojaaGreatDoor.Dt
open Go.RowKit

set_option maxRecDepth 100000 in
set_option maxHeartbeats 2000000 in
theorem rcopy_co (n : Nat) (cn ac un k i u : Int) (s : ByteArray) (a : Option Addr) (len cap : Nat) (la : Option Addr) (lc : Nat) (cl : Bool) (l : Tr n) (ts : List (Tr n)) (w : World) (hS : StR w n l ts k i u s a len cap la lc) (hl : (pts n l).1 ≤ 4096) (hp : ∀ t ∈ ts, (pts n t).1 ≤ 4096) :
    Calls Tryz.prog 31 #[.agg #[.int .i64 cn, .int .i64 ac, .int .i64 k, .int .i64 i, .int .u64 u, .string s, .slice a len cap, .slice la ts.length lc, .bool cl, .int .i64 un]] w fun e w' => ∃ k i u s a len cap la lc, e = .returned (.agg #[.int .i64 cn, .int .i64 ac, .int .i64 k, .int .i64 i, .int .u64 u, .string s, .slice a len cap, .slice la ts.length lc, .bool cl, .int .i64 un]) ∧ Hid (CoF (w.heap.size + 3) n l ts k i u s a len cap la ts.length lc w') ∧ Below w.heap.size w w' := by
  have HS := Lib.hid hS
  have hlt := hS.lt
  have HP := Lib.hid hp
  have HL := Lib.hid hl
  obtain ⟨i0, hi, hz0, hz1, hz2⟩ := infoDat_parts
  clear hS hp hl
  have B0 : Below w.heap.size w (((w.alloc (.cells #[.int .i64 cn, .int .i64 ac, .int .i64 k, .int .i64 i, .int .u64 u, .string s, .slice a len cap, .slice la ts.length lc, .bool cl, .int .i64 un] 27)).alloc (.cells #[.int .i64 0, .int .i64 0, .int .i64 0, .int .i64 0, .int .u64 0, .string ⟨#[]⟩, .slice none 0 0, .slice none 0 0, .bool false, .int .i64 0] 27)).alloc (.cells #[.int .i64 cn, .int .i64 ac, .int .i64 k, .int .i64 i, .int .u64 u, .string s, .slice a len cap, .slice la ts.length lc, .bool cl, .int .i64 un] 27)) := (((Below.refl _ w).alloc (Nat.le_refl _) _).alloc (by simp) _).alloc (by simp; omega) _
  have D0 : Bk (((w.alloc (.cells #[.int .i64 cn, .int .i64 ac, .int .i64 k, .int .i64 i, .int .u64 u, .string s, .slice a len cap, .slice la ts.length lc, .bool cl, .int .i64 un] 27)).alloc (.cells #[.int .i64 0, .int .i64 0, .int .i64 0, .int .i64 0, .int .u64 0, .string ⟨#[]⟩, .slice none 0 0, .slice none 0 0, .bool false, .int .i64 0] 27)).alloc (.cells #[.int .i64 cn, .int .i64 ac, .int .i64 k, .int .i64 i, .int .u64 u, .string s, .slice a len cap, .slice la ts.length lc, .bool cl, .int .i64 un] 27)) w.heap.size #[.int .i64 cn, .int .i64 ac, .int .i64 k, .int .i64 i, .int .u64 u, .string s, .slice a len cap, .slice la ts.length lc, .bool cl, .int .i64 un] 27 := ((Bk.new w _ _).alloc _).alloc _
  have R0 : Bk (((w.alloc (.cells #[.int .i64 cn, .int .i64 ac, .int .i64 k, .int .i64 i, .int .u64 u, .string s, .slice a len cap, .slice la ts.length lc, .bool cl, .int .i64 un] 27)).alloc (.cells #[.int .i64 0, .int .i64 0, .int .i64 0, .int .i64 0, .int .u64 0, .string ⟨#[]⟩, .slice none 0 0, .slice none 0 0, .bool false, .int .i64 0] 27)).alloc (.cells #[.int .i64 cn, .int .i64 ac, .int .i64 k, .int .i64 i, .int .u64 u, .string s, .slice a len cap, .slice la ts.length lc, .bool cl, .int .i64 un] 27)) (w.heap.size + 1) #[.int .i64 0, .int .i64 0, .int .i64 0, .int .i64 0, .int .u64 0, .string ⟨#[]⟩, .slice none 0 0, .slice none 0 0, .bool false, .int .i64 0] 27 := (Bk.new2 w _ _ _).alloc _
  have C0 : Bk (((w.alloc (.cells #[.int .i64 cn, .int .i64 ac, .int .i64 k, .int .i64 i, .int .u64 u, .string s, .slice a len cap, .slice la ts.length lc, .bool cl, .int .i64 un] 27)).alloc (.cells #[.int .i64 0, .int .i64 0, .int .i64 0, .int .i64 0, .int .u64 0, .string ⟨#[]⟩, .slice none 0 0, .slice none 0 0, .bool false, .int .i64 0] 27)).alloc (.cells #[.int .i64 cn, .int .i64 ac, .int .i64 k, .int .i64 i, .int .u64 u, .string s, .slice a len cap, .slice la ts.length lc, .bool cl, .int .i64 un] 27)) (w.heap.size + 1 + 1) #[.int .i64 cn, .int .i64 ac, .int .i64 k, .int .i64 i, .int .u64 u, .string s, .slice a len cap, .slice la ts.length lc, .bool cl, .int .i64 un] 27 := by
    have := Bk.new2 (w.alloc (.cells #[.int .i64 cn, .int .i64 ac, .int .i64 k, .int .i64 i, .int .u64 u, .string s, .slice a len cap, .slice la ts.length lc, .bool cl, .int .i64 un] 27)) (.cells #[.int .i64 0, .int .i64 0, .int .i64 0, .int .i64 0, .int .u64 0, .string ⟨#[]⟩, .slice none 0 0, .slice none 0 0, .bool false, .int .i64 0] 27) #[.int .i64 cn, .int .i64 ac, .int .i64 k, .int .i64 i, .int .u64 u, .string s, .slice a len cap, .slice la ts.length lc, .bool cl, .int .i64 un] 27
    rwa [World.size_alloc] at this
  go_enter Tryz.func31, Tryz.ntmps31
  go_wp2_with fail
  refine (copy_any n l _ _ _ _ _ _ (HS.out.below B0).last HL.out).mono ?_
  rintro e w1 ⟨k1, i1, u1, s1, a1, n1, c1, rfl, rf1, b1⟩
  have D1 := D0.step b1
  have R1 := R0.step b1
  have C1 := C0.step b1
  have B1 := B0.trans (b1.mono B0.size)
  have F1 : Hid (Rf (fun g => w.heap.size + 3 ≤ g ∧ g < w1.heap.size) w1 n [.int .i64 k1, .int .i64 i1, .int .u64 u1, .string s1, .slice a1 n1 c1] l) := Rf.to (fun g hg => ⟨⟨by have := hg.1; simp at this; omega, hg.2⟩, rfl⟩) n _ _ rf1
  clear D0 R0 C0 B0 b1 rf1 HL
  obtain ⟨c0, c1', c2, c3, c4, c5, c6, c7, c8, c9⟩ := C1.c10
  have f1 := C1.f
  go_wp2_with fail
  obtain ⟨K1, K2, K3, K4⟩ := set6 C1 (.int .i64 k1) (.int .i64 i1) (.int .u64 u1) (.string s1) (.slice a1 n1 c1) (.slice none 0 0) rfl
  have F2 : Hid (Rf (fun g => w.heap.size + 3 ≤ g ∧ g < w1.heap.size) ((((((w1.setCell ⟨w.heap.size + 1 + 1, 2, none⟩ (.int .i64 k1)).setCell ⟨w.heap.size + 1 + 1, 3, none⟩ (.int .i64 i1)).setCell ⟨w.heap.size + 1 + 1, 4, none⟩ (.int .u64 u1)).setCell ⟨w.heap.size + 1 + 1, 5, none⟩ (.string s1)).setCell ⟨w.heap.size + 1 + 1, 6, none⟩ (.slice a1 n1 c1)).setCell ⟨w.heap.size + 1 + 1, 7, none⟩ (.slice none 0 0)) n [.int .i64 k1, .int .i64 i1, .int .u64 u1, .string s1, .slice a1 n1 c1] l) := Rf.to (fun g hg => ⟨hg, K3 g (by omega)⟩) n _ _ F1.out
  have D2 : Bk ((((((w1.setCell ⟨w.heap.size + 1 + 1, 2, none⟩ (.int .i64 k1)).setCell ⟨w.heap.size + 1 + 1, 3, none⟩ (.int .i64 i1)).setCell ⟨w.heap.size + 1 + 1, 4, none⟩ (.int .u64 u1)).setCell ⟨w.heap.size + 1 + 1, 5, none⟩ (.string s1)).setCell ⟨w.heap.size + 1 + 1, 6, none⟩ (.slice a1 n1 c1)).setCell ⟨w.heap.size + 1 + 1, 7, none⟩ (.slice none 0 0)) w.heap.size #[.int .i64 cn, .int .i64 ac, .int .i64 k, .int .i64 i, .int .u64 u, .string s, .slice a len cap, .slice la ts.length lc, .bool cl, .int .i64 un] 27 := (K3 _ (by omega)).trans D1
  have R2 : Bk ((((((w1.setCell ⟨w.heap.size + 1 + 1, 2, none⟩ (.int .i64 k1)).setCell ⟨w.heap.size + 1 + 1, 3, none⟩ (.int .i64 i1)).setCell ⟨w.heap.size + 1 + 1, 4, none⟩ (.int .u64 u1)).setCell ⟨w.heap.size + 1 + 1, 5, none⟩ (.string s1)).setCell ⟨w.heap.size + 1 + 1, 6, none⟩ (.slice a1 n1 c1)).setCell ⟨w.heap.size + 1 + 1, 7, none⟩ (.slice none 0 0)) (w.heap.size + 1) #[.int .i64 0, .int .i64 0, .int .i64 0, .int .i64 0, .int .u64 0, .string ⟨#[]⟩, .slice none 0 0, .slice none 0 0, .bool false, .int .i64 0] 27 := (K3 _ (by omega)).trans R1
  have B2 : Below w.heap.size w ((((((w1.setCell ⟨w.heap.size + 1 + 1, 2, none⟩ (.int .i64 k1)).setCell ⟨w.heap.size + 1 + 1, 3, none⟩ (.int .i64 i1)).setCell ⟨w.heap.size + 1 + 1, 4, none⟩ (.int .u64 u1)).setCell ⟨w.heap.size + 1 + 1, 5, none⟩ (.string s1)).setCell ⟨w.heap.size + 1 + 1, 6, none⟩ (.slice a1 n1 c1)).setCell ⟨w.heap.size + 1 + 1, 7, none⟩ (.slice none 0 0)) := B1.trans (K4.mono (by omega))
  have hA1 : w.heap.size + 1 + 1 < w1.heap.size := C1.lt
  clear D1 R1 C1 B1 F1 K4 c0 c1' c2 c3 c4 c5 c6 c7 c8 c9 f1 K3
  generalize ((((((w1.setCell ⟨w.heap.size + 1 + 1, 2, none⟩ (.int .i64 k1)).setCell ⟨w.heap.size + 1 + 1, 3, none⟩ (.int .i64 i1)).setCell ⟨w.heap.size + 1 + 1, 4, none⟩ (.int .u64 u1)).setCell ⟨w.heap.size + 1 + 1, 5, none⟩ (.string s1)).setCell ⟨w.heap.size + 1 + 1, 6, none⟩ (.slice a1 n1 c1)).setCell ⟨w.heap.size + 1 + 1, 7, none⟩ (.slice none 0 0)) = w2 at *
  rw [← K2] at hA1 F2
  clear K2
  have I0 : Cs w w2 (w.heap.size + 1 + 1) w2.heap.size 27 (fun sl => #[.int .i64 cn, .int .i64 ac, .int .i64 k1, .int .i64 i1, .int .u64 u1, .string s1, .slice a1 n1 c1, sl, .bool cl, .int .i64 un]) n ts 0 (.slice none 0 0) [] w2 := ⟨B2, fun _ _ _ => rfl, K1, Ap.nil _ _ _ _ (Nat.le_refl _)⟩
  clear K1
  go_wp2_with fail
  go_loopw [4] (fun si wr => ∃ (j : Nat) (sl : Value) (xs : List Value), si = .int .i64 j ∧ j ≤ ts.length ∧ Cs w w2 (w.heap.size + 1 + 1) w2.heap.size 27 (fun sl => #[.int .i64 cn, .int .i64 ac, .int .i64 k1, .int .i64 i1, .int .u64 u1, .string s1, .slice a1 n1 c1, sl, .bool cl, .int .i64 un]) n ts j sl xs wr) (fun si _ => ts.length - (intOf si).toNat)
  case atStart => exact ⟨0, _, [], rfl, Nat.zero_le _, I0⟩
  case round =>
    obtain ⟨j, sl, xs, rfl, hj, cv⟩ := hrel
    clear I0
    have hsz : w.heap.size + 1 + 1 < wr.heap.size := cv.c.lt
    have D3 : Bk wr w.heap.size #[.int .i64 cn, .int .i64 ac, .int .i64 k, .int .i64 i, .int .u64 u, .string s, .slice a len cap, .slice la ts.length lc, .bool cl, .int .i64 un] 27 := (cv.lo _ (by omega) (by omega)).trans D2
    have hd := D3.c10.2.2.2.2.2.2.2.1
    by_cases hlt' : j < ts.length
    · obtain ⟨g, o, v0, v1, v2, v3, a4, n4, c4, rfl, hg, e0, e1, e2, e3, e4, rk⟩ := HS.out.list.at hlt'
      have bw := cv.b
      have KS : Hid (∀ w' : World, Cs w w2 (w.heap.size + 1 + 1) w2.heap.size 27 (fun sl => #[.int .i64 cn, .int .i64 ac, .int .i64 k1, .int .i64 i1, .int .u64 u1, .string s1, .slice a1 n1 c1, sl, .bool cl, .int .i64 un]) n ts j sl xs w' → w'.cell? ⟨w.heap.size, 7, none⟩ = some (.slice (some ⟨g, o, none⟩) ts.length lc) ∧ w'.cell? ⟨w.heap.size + 1 + 1, 7, none⟩ = some sl ∧ w'.cell? ⟨g, o + j * 5, none⟩ = some (.int .i64 v0) ∧ w'.cell? ⟨g, o + j * 5 + 1, none⟩ = some (.int .i64 v1) ∧ w'.cell? ⟨g, o + j * 5 + 2, none⟩ = some (.int .u64 v2) ∧ w'.cell? ⟨g, o + j * 5 + 3, none⟩ = some (.string v3) ∧ w'.cell? ⟨g, o + j * 5 + 4, none⟩ = some (.slice a4 n4 c4)) := fun w' h =>
        ⟨(Bk.c ((h.lo _ (by omega) (by omega)).trans D2) 7), h.c.c10.2.2.2.2.2.2.2.1, (h.b.cell (p := ⟨g, o + j * 5, none⟩) hg).trans e0, (h.b.cell (p := ⟨g, o + j * 5 + 1, none⟩) hg).trans e1, (h.b.cell (p := ⟨g, o + j * 5 + 2, none⟩) hg).trans e2, (h.b.cell (p := ⟨g, o + j * 5 + 3, none⟩) hg).trans e3, (h.b.cell (p := ⟨g, o + j * 5 + 4, none⟩) hg).trans e4⟩
      have KC : Hid (Calls Tryz.prog 25 #[.agg #[.int .i64 v0, .int .i64 v1, .int .u64 v2, .string v3, .slice a4 n4 c4]] wr.drew fun e w' => ∃ (k i u : Int) (s : ByteArray) (ad' : Option Addr) (len' cap' : Nat), e = .returned (.agg #[.int .i64 k, .int .i64 i, .int .u64 u, .string s, .slice ad' len' cap']) ∧ Hid (Rf (fun g => wr.heap.size ≤ g ∧ g < w'.heap.size) w' n [.int .i64 k, .int .i64 i, .int .u64 u, .string s, .slice ad' len' cap'] ts[j]) ∧ Hid (Below wr.heap.size wr w') ∧ Cs w w2 (w.heap.size + 1 + 1) w2.heap.size 27 (fun sl => #[.int .i64 cn, .int .i64 ac, .int .i64 k1, .int .i64 i1, .int .u64 u1, .string s1, .slice a1 n1 c1, sl, .bool cl, .int .i64 un]) n ts j sl xs w') :=
        (copy_any n ts[j] _ _ _ _ _ wr.drew (Rep.below (bw.drew.mono (Nat.le_refl _)) n _ _ rk) (HP.out _ (List.getElem_mem hlt'))).mono fun e w' ⟨k, i, u, s, ad', len', cap', he, rf, hb'⟩ => ⟨k, i, u, s, ad', len', cap', he, rf, (Below.drew (Below.refl _ wr)).trans hb', cv.below ((Below.drew (Below.refl _ wr)).trans hb')⟩
      obtain ⟨cd0, cl0, y0, y1, y2, y3, y4⟩ := KS.out _ cv
      have hjl : (0 : Int) ≤ j ∧ (j : Int) < ts.length := by omega
      clear e0 e1 e2 e3 e4 rk HS D3 hd F2 R2 B2
      go_wp2_with fail
      go_region_law (first | (refine step_append_lies _ rfl _ _ 23 rfl w2.heap.size 25 i0 (.agg #[.int .i64 0, .int .i64 0, .int .u64 0, .string ⟨#[]⟩, .slice none 0 0]) 5 64 Tryz.underlying23 hi hz0 hz1 hz2 rfl (by decide) sl j xs (by simp [Act.eval]) (cv1.ap.o.alloc _) ⟨w3.heap.size, 0, none⟩ 1 1 [.int .i64 k', .int .i64 i', .int .u64 u', .string s', .slice ad' len' cap'] (by simp [Act.eval]) rfl (five_one _ _ _ _ _ _) (by intro u hu; simp at hu; rcases hu with rfl | rfl | rfl | rfl | rfl <;> rfl) (by decide) (by unfold maxLen; omega) (by omega) (by have := cv1.ap.s; simp; omega) _ rfl ?_; intro g' cap2 w4 own3 gr3 at3 lt3; have d3 := (cv1.below (below1 _ _)).app hA1 gr3; have fz3 := d3.f 7; have cl3 := d3.c10.2.2.2.2.2.2.2.1) | (go_simp; go_at_call 25; refine KC.out.mono ?_; rintro e w3 ⟨k', i', u', s', ad', len', cap', rfl, rf, hb', cv1⟩; have cl1 := cv1.c.c10.2.2.2.2.2.2.2.1; have hl1 := cv1.c.lt))
      all_goals go_wp2_with fail
      all_goals exact ⟨⟨j + 1, _, _, by go_num, by omega, cv.step hA1 (by omega) 7 (fun _ _ => rfl) hb'.out (below1 _ _) _ _ _ _ _ ts[j] (List.getElem?_eq_getElem hlt') rf.out g' cap2 own3 gr3 at3⟩, by simp [intOf]; omega⟩
    · have hje : j = ts.length := by omega
      subst hje
      obtain ⟨ad', cap', rfl, hc1, hc2, rl⟩ := cv.ap.done
      have RL := Lib.hid rl
      have R3 : Bk wr (w.heap.size + 1) #[.int .i64 0, .int .i64 0, .int .i64 0, .int .i64 0, .int .u64 0, .string ⟨#[]⟩, .slice none 0 0, .slice none 0 0, .bool false, .int .i64 0] 27 := (cv.lo _ (by omega) (by omega)).trans R2
      have F3 : Hid (Rf (fun g => w.heap.size + 3 ≤ g ∧ g < w2.heap.size) wr n [.int .i64 k1, .int .i64 i1, .int .u64 u1, .string s1, .slice a1 n1 c1] l) := Rf.to (fun g hg => ⟨hg, cv.lo g hg.2 (by omega)⟩) n _ _ F2.out
      obtain ⟨q0, q1, q2, q3, q4, q5, q6, q7, q8, q9⟩ := cv.c.c10
      obtain ⟨z0, z1, z2, z3, z4, z5, z6, z7, z8, z9⟩ := R3.c10
      have f3 := R3.f
      clear rl D3 R2 F2 D2 B2 HS HP
      go_wp2_with fail
      obtain ⟨X1, X2, X3, X4⟩ := set10 R3 (.int .i64 cn) (.int .i64 ac) (.int .i64 k1) (.int .i64 i1) (.int .u64 u1) (.string s1) (.slice a1 n1 c1) (.slice ad' ts.length cap') (.bool cl) (.int .i64 un) rfl
      obtain ⟨x0, x1, x2, x3, x4, x5, x6, x7, x8, x9⟩ := X1.c10
      have FB := Rf.to (F' := fun g => w.heap.size + 3 ≤ g ∧ g < w2.heap.size) (fun g hg => ⟨hg, X3 g (by omega)⟩) n _ _ F3.out
      have FL := Rlf.to (F' := fun g => w2.heap.size ≤ g ∧ g < wr.heap.size) (fun g hg => ⟨hg, X3 g (by omega)⟩) RL.out
      have hw2 := cv.ap.s
      have FB' := Rf.to (F' := fun g => w.heap.size + 3 ≤ g ∧ g < wr.heap.size) (fun g hg => ⟨⟨hg.1, by omega⟩, rfl⟩) n _ _ FB
      have FL' := Rlf.to (F' := fun g => w.heap.size + 3 ≤ g ∧ g < wr.heap.size) (fun g hg => ⟨⟨by omega, hg.2⟩, rfl⟩) FL
      rw [← X2] at FB' FL'
      exact bodyPost_ret (v := .agg #[.int .i64 cn, .int .i64 ac, .int .i64 k1, .int .i64 i1, .int .u64 u1, .string s1, .slice a1 n1 c1, .slice ad' ts.length cap', .bool cl, .int .i64 un]) (by simp [results, Tryz.results31, go_sem, x0, x1, x2, x3, x4, x5, x6, x7, x8, x9]) rfl ⟨_, _, _, _, _, _, _, _, _, rfl, ⟨FB', rfl, hc1, hc2, FL'⟩, cv.b.trans (X4.mono (by omega))⟩
end Go.Proofs.YtgijdiplhcoojaaGreatDoor.Dt
/- Both Loads at a right value in memory: one answer; the conditions: the value in memory, the table of fields as the text lays it. -/
namespace Go.Proofs.YtgijdiplhcoojaaGreatDoor.Dt
open Go.RowKit

/-- The answer of both Fits, by the trees. -/
def fitR (cn ac un : Int) (l : Tr 16) (us : List (Tr 16)) : Bool := vB 16 l && (us.all (vB 16) && fitB cn ac un us)
theorem fit_det (cn ac un k i u : Int) (s : ByteArray) (a : Option Addr) (len cap : Nat) (la : Option Addr) (lc : Nat) (cl : Bool) (l : Tr 16) (us : List (Tr 16)) (w : World) (hS : StR w 16 l us k i u s a len cap la lc) (hT : Tab14 w) :
    Fits (fitR cn ac un l us) cn ac un k i u s a len cap la us.length lc cl w := by
  rcases fit_two 16 cn ac un k i u s a len cap la lc cl l us w hS hT with h | ⟨l', us', e1, F, v1, v2, f, h⟩
  · by_cases hv : vB 16 l = true ∧ ∀ t ∈ us, vB 16 t = true
    · obtain ⟨us', hl, hr, hp, hk⟩ := cut_all 16 us hv.2 la w hS.list
      obtain ⟨l', q1, q2, q3⟩ := cut_one 16 l hv.1
      have e2 : us' = us := rl_uniq hS.list hk hl
      have e3 : l' = l := rep_uniq 16 _ _ _ hS.last (q3 _ _ hS.last)
      subst e2; subst e3
      have hh := fit_right cn ac un k i u s a len cap la lc cl l' us' w ⟨hS, ⟨q1, q2⟩, fun x hx => ⟨hr x hx, hp x hx⟩⟩ hv.1 hv.2 hT
      have : fitR cn ac un l' us' = fitB cn ac un us' := by unfold fitR; rw [hv.1, List.all_eq_true.2 hv.2]; rfl
      rw [this]; exact hh
    · have : fitR cn ac un l us = false := by
        unfold fitR
        cases h1 : vB 16 l with
        | false => rfl
        | true =>
          cases h2 : us.all (vB 16) with
          | false => rfl
          | true => exact absurd ⟨h1, List.all_eq_true.1 h2⟩ hv
      rw [this]; exact h
  · have e2 : us' = us := rl_uniq hS.list F.m.list e1
    have e3 : l' = l := rep_uniq 16 _ _ _ hS.last F.m.last
    subst e2; subst e3
    have : fitR cn ac un l' us' = true := by unfold fitR; rw [v1, List.all_eq_true.2 v2, f]; rfl
    rw [this]; exact h

/-- Four values side by side. -/
theorem four_of {T : Type} {ks : List T} (h : ks.length = 4) : ∃ a b c d, ks = [a, b, c, d] := by
  match ks, h with
  | [a, b, c, d], _ => exact ⟨a, b, c, d, rfl⟩
theorem rl_four {w : World} {n : Nat} {a : Option Addr} {e0 e1 e2 e3 : Tr (n + 1)} (h : Rl w (n + 1) a [e0, e1, e2, e3]) : ∃ g o, a = some ⟨g, o, none⟩ ∧ g < w.heap.size ∧ (w.cell? ⟨g, o, none⟩ = some (.int .i64 e0.kd) ∧ w.cell? ⟨g, o + 1, none⟩ = some (.int .i64 e0.it)) ∧ (w.cell? ⟨g, o + 5, none⟩ = some (.int .i64 e1.kd) ∧ w.cell? ⟨g, o + 5 + 1, none⟩ = some (.int .i64 e1.it)) ∧ (w.cell? ⟨g, o + 10, none⟩ = some (.int .i64 e2.kd) ∧ w.cell? ⟨g, o + 10 + 1, none⟩ = some (.int .i64 e2.it)) ∧ (w.cell? ⟨g, o + 15, none⟩ = some (.int .i64 e3.kd) ∧ w.cell? ⟨g, o + 15 + 1, none⟩ = some (.int .i64 e3.it)) := by
  rcases h with h | ⟨g, o, rfl, h⟩
  · cases h
  have at' : ∀ (j : Nat) (t : Tr (n + 1)), [e0, e1, e2, e3][j]? = some t → w.cell? ⟨g, o + j * 5, none⟩ = some (.int .i64 t.kd) ∧ w.cell? ⟨g, o + j * 5 + 1, none⟩ = some (.int .i64 t.it) := fun j t hj => by
    obtain ⟨v0, v1, v2, v3, v4, c0, c1, c2, c3, c4, ad, cap, e, -⟩ := h j t hj
    simp only [List.cons.injEq, and_true] at e
    obtain ⟨rfl, rfl, -⟩ := e
    exact ⟨c0, c1⟩
  have a0 := at' 0 e0 rfl
  simp only [Nat.zero_mul, Nat.add_zero] at a0
  exact ⟨g, o, rfl, World.block_lt_of_cell? w _ a0.1, a0, at' 1 e1 rfl, at' 2 e2 rfl, at' 3 e3 rfl⟩

/-- The state that a value of the form tells, in memory. -/
def StQ (l : Tr 16) (us : List (Tr 16)) (k i u : Int) (s : ByteArray) (a : Option Addr) (n c : Nat) (a' : Option Addr) (n' c' : Nat) (w' : World) : Prop := n' = us.length ∧ StR w' 16 l us k i u s a n c a' c'

theorem load_good (n : Nat) (d : Tr (n + 3)) (a : Option Addr) (c : Nat) (w : World) (h : Rep w (n + 3) [.int .i64 d.kd, .int .i64 d.it, .int .u64 d.ut, .string d.tx, .slice a d.ks.length c] d) (hv : vB (n + 3) d = true) (hr : rgt (n + 3) d = true) (hx4 : ∀ x ∈ d.ks, x.ks.length ≤ 4096) (hT : Tab14 w)
    (x y : Tr (n + 2)) (e0 e1 e2 e3 p q : Tr (n + 1)) (hd : d.kd = 9) (hks : d.ks = [x, y]) (hxk : x.kd = 8) (hyk : y.kd = 9) (hxs : x.ks = [e0, e1, e2, e3]) (k0 : e0.kd = 1) (k1 : e1.kd = 1) (k2 : e2.kd = 1) (k3 : e3.kd = 6) (hys : y.ks = [p, q]) (hq : q.kd = 8)
    (l : Tr 16) (us : List (Tr 16)) (hl : ∀ w cs, Rep w (n + 1) cs p → Rep w 16 cs l) (hul : us.length = q.ks.length) (hu : ∀ w a, Rl w n a q.ks → Rl w 16 a us) (hul2 : us.length ≤ 2199023255551) (pl : (pts 16 l).1 ≤ 4096) (pu : ∀ t ∈ us, (pts 16 t).1 ≤ 4096) :
    (∀ wx, Below w.heap.size w wx → Calls Tryz.prog 10 #[.agg #[.int .i64 d.kd, .int .i64 d.it, .int .u64 d.ut, .string d.tx, .slice a d.ks.length c]] wx fun e w' => LdP (fitR e0.it e1.it e2.it l us) e0.it e1.it e2.it (e3.it == 1) (StQ l us) wx e w') ∧
    (∀ wx, Below w.heap.size w wx → Calls Tryz.prog 14 #[.agg #[.int .i64 d.kd, .int .i64 d.it, .int .u64 d.ut, .string d.tx, .slice a d.ks.length c]] wx fun e w' => LdP (fitR e0.it e1.it e2.it l us) e0.it e1.it e2.it (e3.it == 1) (StQ l us) wx e w') := by
  have RD := rep_rl h
  have hlen : d.ks.length = 2 := by rw [hks]; rfl
  rw [hks] at RD
  obtain ⟨g, o, ax, cx, ay, cy, ha, hg, ⟨x0, x1, x2, x3, x4⟩, ⟨y0, y1, y2, y3, y4⟩, rx, ry⟩ := rl_pair RD
  have RX := rep_rl rx
  have RY := rep_rl ry
  have hxl : x.ks.length = 4 := by rw [hxs]; rfl
  have hyl : y.ks.length = 2 := by rw [hys]; rfl
  rw [hxs] at RX
  rw [hys] at RY
  obtain ⟨gh, oh, hax, hgh, ⟨m0, m0'⟩, ⟨m1, m1'⟩, ⟨m2, m2'⟩, ⟨m3, m3'⟩⟩ := rl_four RX
  obtain ⟨gt, ot, ap, cp, aq, cq, hay, hgt, ⟨p0, p1, p2, p3, p4⟩, ⟨q0, q1, q2, q3, q4⟩, rp, rq⟩ := rl_pair RY
  rw [hxl, hax] at x4
  rw [hyl, hay] at y4
  rw [hxk] at x0
  rw [hyk] at y0
  rw [k0] at m0
  rw [k1] at m1
  rw [k2] at m2
  rw [k3] at m3
  rw [hq] at q0
  subst ha
  have SH : Sh w g o 8 x.it x.ut x.tx gh oh cx 9 y.it y.ut y.tx gt ot cy e0.it e1.it e2.it e3.it p.kd p.it p.ut p.tx ap p.ks.length cp 0 0 0 ⟨#[]⟩ aq q.ks.length cq :=
    ⟨⟨hg, hgh, hgt⟩, ⟨x0, x1, x2, x3, x4⟩, ⟨y0, y1, y2, y3, y4⟩, ⟨m0', m1', m2', m3'⟩, ⟨p0, p1, p2, p3, p4⟩, q4⟩
  obtain ⟨aq', cq', eq', -, hc1, hc2, hc3⟩ := rq
  simp only [List.cons.injEq, Value.slice.injEq, true_and, and_true] at eq'
  obtain ⟨rfl, rfl⟩ := eq'
  have ST : StR w 16 l us p.kd p.it p.ut p.tx ap p.ks.length cp aq cq := ⟨hl _ _ rp, hu _ _ hc3, hul2, by rw [hul]; exact ⟨hc1, hc2⟩⟩
  have hsv : savB d = true := by
    unfold savB
    rw [hks, hd]
    simp only [hxk, hyk, hxs, hys, List.map, k0, k1, k2, k3, hq]
    decide
  have hQF : ∀ (L : Nat) k i u s a n c a' n' c' w', CoF L 16 l us k i u s a n c a' n' c' w' → StQ l us k i u s a n c a' n' c' w' := fun L k i u s a n c a' n' c' w' h => ⟨h.2.1, h.st hul2⟩
  have hFit : ∀ (wx : World) k i u s a n c a' n' c' wy, StQ l us k i u s a n c a' n' c' wy → Below w.heap.size w wy → Fits (fitR e0.it e1.it e2.it l us) e0.it e1.it e2.it k i u s a n c a' n' c' (e3.it == 1) wy := fun wx k i u s a n c a' n' c' wy h hb => by
    obtain ⟨rfl, hS⟩ := h
    exact fit_det _ _ _ _ _ _ _ _ _ _ _ _ _ l us wy hS (hT.below hb)
  rw [hlen, hd]
  rw [hlen, hd] at h
  refine ⟨fun wx hb => ?_, fun wx hb => ?_⟩
  · refine (load_by (fitR e0.it e1.it e2.it l us) e0.it e1.it e2.it (e3.it == 1) 9 d.it d.ut d.tx (some ⟨g, o, none⟩) 2 c wx (fun k i u s a n c a' n' c' w' => CoF (wx.heap.size + 2) 16 l us k i u s a n c a' n' c' w') (fun k i u s a n c a' n' c' w' w'' h hs hg => h.to (Nat.le_refl _) hs hg) (fun wy hy => ?_) (fun wy hy => ?_) (fun wy hy hz => ?_) (fun k i u s a n c a' n' c' wy h hy => ?_)).mono ?_
    · exact (ownValid (n + 3) d _ _ _ _ _ wy (Rep.below hy _ _ _ (Rep.below hb _ _ _ h)) ((hT.below hb).below hy)).mono fun e w' ⟨h1, h2⟩ => ⟨by rw [h1, hv], h2⟩
    · have hI := isSaved_any n d (some ⟨g, o, none⟩) c wy (by rw [hlen, hd]; exact Rep.below hy _ _ _ (Rep.below hb _ _ _ h)) hr hx4
      rw [hlen, hd, hsv] at hI
      exact hI
    · refine (loaded_by g o 8 x.it x.ut x.tx gh oh cx 9 y.it y.ut y.tx gt ot cy e0.it e1.it e2.it e3.it p.kd p.it p.ut p.tx ap p.ks.length cp 0 0 0 ⟨#[]⟩ aq q.ks.length cq 9 d.it d.ut d.tx c wy ((SH.below hb).below hy) (fun k i u s a n c a' n' c' w' => CoF (wy.heap.size + 2) 16 l us k i u s a n c a' n' c' w') (fun k i u s a n c a' n' c' w' w'' h hs hg => h.to (Nat.le_refl _) hs hg) (fun wz hz' hs' => ?_)).mono ?_
      · have hC := copyOf_any 16 e0.it e1.it e2.it p.kd p.it p.ut p.tx ap p.ks.length cp aq cq (e3.it == 1) l us wz (((ST.below hb).below hy).below hz') pl pu
        rw [hul] at hC
        exact hC.mono fun e w' ⟨k, i, u, s, a, n1, c, a', n', c', he, h, hb'⟩ => ⟨k, i, u, s, a, n1, c, a', n', c', he, h.to (by omega) (Nat.le_refl _) fun _ _ _ => rfl, hb'⟩
      · exact fun e w' ⟨k, i, u, s, a, n1, c, a', n', c', he, h, hb'⟩ => ⟨k, i, u, s, a, n1, c, a', n', c', he, h.out.to (by omega) (Nat.le_refl _) fun _ _ _ => rfl, hb'⟩
    · exact (hFit wx k i u s a n c a' n' c' wy (hQF _ _ _ _ _ _ _ _ _ _ _ _ h) (hb.trans (hy.mono hb.size))).1 wy (Below.refl _ _)
    · exact fun e w' ⟨h1, h2, h3⟩ => ⟨h1, fun hR => by
        obtain ⟨k, i, u, s, a, n1, c, a', n', c', he, h⟩ := h2 hR
        exact ⟨k, i, u, s, a, n1, c, a', n', c', he, hQF _ _ _ _ _ _ _ _ _ _ _ _ h⟩, h3⟩
  · have fh : ∀ o v, w.cell? ⟨gh, o, none⟩ = some v → wx.cell? ⟨gh, o, none⟩ = some v := fun o v e => (hb.cell (p := ⟨gh, o, none⟩) hgh).trans e
    have ft : ∀ o v, w.cell? ⟨gt, o, none⟩ = some v → wx.cell? ⟨gt, o, none⟩ = some v := fun o v e => (hb.cell (p := ⟨gt, o, none⟩) hgt).trans e
    refine rload_by (fitR e0.it e1.it e2.it l us) g o x.it x.ut x.tx gh oh cx y.it y.ut y.tx gt ot cy e0.it e1.it e2.it e3.it p.kd p.it p.ut p.tx ap p.ks.length cp 0 0 0 ⟨#[]⟩ aq q.ks.length cq d.it d.ut d.tx c wx (SH.below hb) (fh _ _ m0) (fh _ _ m1) (fh _ _ m2) (fh _ _ m3) (ft _ _ q0) (StQ l us) (wx.heap.size + 4) rfl (fun L k i u s a n c a' n' c' w' => CoF L 16 l us k i u s a n c a' n' c' w') (fun L k i u s a n c a' n' c' w' w'' h hs hg => h.to (Nat.le_refl _) hs hg) hQF (fun wy hy => ?_) (fun k i u s a n c a' n' c' wy h hy => ?_)
    · have hC := rcopy_co 16 e0.it e1.it e2.it p.kd p.it p.ut p.tx ap p.ks.length cp aq cq (e3.it == 1) l us wy ((ST.below hb).below hy) pl pu
      rw [hul] at hC
      exact hC.mono fun e w' ⟨k, i, u, s, a, n1, c, a', c', he, h, hb'⟩ => ⟨k, i, u, s, a, n1, c, a', _, c', he, h, hb'⟩
    · exact (hFit wx k i u s a n c a' n' c' wy h (hb.trans (hy.mono hb.size))).2 wy (Below.refl _ _)
end Go.Proofs.YtgijdiplhcoojaaGreatDoor.Dt
