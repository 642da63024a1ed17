/- Which inboxes are fit: an answer, and what a yes tells; the conditions: the messages in memory. -/
import Derived.Test.YtdgjhclncjoonaaQi
import Derived.Test.YtdgjhclncjoonaaDRv
namespace Go.Proofs.Ytdgjhclncjoonaa
open Go.RowKit

theorem valid_pts {n : Nat} {t : Dt.Tr n} (h : Dt.vB n t = true) : (Dt.pts n t).1 ≤ 4096 := by
  have S := Dt.say 16 n t 1 4096 (by decide) (by decide) (by decide)
  obtain ⟨h1, h2, -⟩ := S.down h
  obtain ⟨h3, -, h4, -, -⟩ := S.fit h2
  rw [h3]; exact h4
set_option maxHeartbeats 1000000 in
theorem parts_any (n : Nat) (t : Dt.Tr n) (d : Bo) (w : World) (h : Dt.Rep w n d.vs t) :
    Calls Try.prog 19 #[.agg #[.int .i64 d.k, .int .i64 d.i, .int .u64 d.u, .string d.s, .slice d.a d.l d.c]] w fun e w' => ∃ p q : Int, e = .returned (.tuple #[.int .i64 p, .int .i64 q]) ∧ 1 ≤ p ∧ p ≤ 4097 ∧ Below w.heap.size w w' := by
  have b0 := below1 w (.cells #[.int .i64 d.k, .int .i64 d.i, .int .u64 d.u, .string d.s, .slice d.a d.l d.c] 28)
  have bd := Dt.cnt_bd 16 n t 1 4096 (by decide) (by decide)
  have HC := Lib.hid (Dt.count_any 16 n t _ _ _ _ _ 1 4096 _ (Dt.Rep.below b0 _ _ _ h) (by decide) (by decide) (by decide) (by decide))
  generalize Dt.cnt 16 n t 1 4096 = C at bd HC
  clear h
  go_enter Try.func19, Try.ntmps19
  go_wp2_with (go_at_call 20; refine HC.out.mono ?_; rintro e w1 ⟨rfl, b1⟩)
  exact bodyPost_ret (v := .tuple #[.int .i64 C.1, .int .i64 C.2]) (by simp [results, Try.results19, go_sem]) rfl ⟨_, _, rfl, bd.1, bd.2.1, b0.trans (b1.mono b0.size)⟩
/-- What a fit inbox is. -/
def FitP (l : List Ms) (r dr : Int) : Prop := l.length ≤ 1024 ∧ 0 ≤ r ∧ 0 ≤ dr ∧ r ≤ 4611686018427387904 ∧ dr ≤ 4611686018427387904 ∧ ∀ x ∈ l, Dt.vB x.n x.t = true
theorem FitP.sm {l : List Ms} {r dr : Int} (h : FitP l r dr) : Sm l := fun x hx => valid_pts (h.2.2.2.2.2 x hx)

/-- An answer comes, and a yes tells. -/
def FiP (w : World) (l : List Ms) (r dr : Int) (e : Ending) (w' : World) : Prop := ∃ b : Bool, e = .returned (.bool b) ∧ (b = true → FitP l r dr) ∧ Below w.heap.size w w'
set_option maxRecDepth 100000 in
set_option maxHeartbeats 4000000 in
theorem fit_any (l : List Ms) (ad : Option Addr) (cap : Nat) (r dr : Int) (w : World) (hl : l.length ≤ 9223372036854775807) (hI : Mw w ad l) :
    Calls Try.prog 6 #[.agg #[.slice ad l.length cap, .int .i64 r, .int .i64 dr]] w (FiP w l r dr) := by
  obtain ⟨W, hW⟩ : ∃ W, W = w.alloc (.cells #[.slice ad l.length cap, .int .i64 r, .int .i64 dr] 24) := ⟨_, rfl⟩
  have B0 : Below w.heap.size w W := by rw [hW]; exact below1 w _
  have S0 : Bk W w.heap.size #[.slice ad l.length cap, .int .i64 r, .int .i64 dr] 24 := by rw [hW]; exact Bk.new w _ _
  have HI := Lib.hid (Mw.below hI B0)
  obtain ⟨s0, s1, s2⟩ := S0.c3
  have HW := Lib.hid hW.symm
  clear hI hW
  by_cases hc : l.length ≤ 1024 ∧ 0 ≤ r ∧ 0 ≤ dr ∧ r ≤ 4611686018427387904 ∧ dr ≤ 4611686018427387904
  · obtain ⟨g1, g2, g3, g4, g5⟩ := hc
    have f1 : decide ((1024 : Int) < (l.length : Int)) = false := decide_eq_false (by omega)
    have f2 : decide (r < 0) = false := decide_eq_false (by omega)
    have f3 : decide (dr < 0) = false := decide_eq_false (by omega)
    have f4 : decide ((4611686018427387904 : Int) < r) = false := decide_eq_false (by omega)
    have f5 : decide ((4611686018427387904 : Int) < dr) = false := decide_eq_false (by omega)
    go_enter Try.func6, Try.ntmps6
    go_wp2_with (rw [HW.out])
    clear f1 f2 f3 f4 f5 s0 s1 s2
    go_loopw [3, 35] (fun s3 s35 wr => ∃ (j : Nat) (n : Int), s35 = .int .i64 j ∧ s3 = .int .i64 n ∧ 0 ≤ n ∧ n ≤ 65536 ∧ j ≤ l.length ∧ (∀ q y, q < j → l[q]? = some y → Dt.vB y.n y.t = true) ∧ Below W.heap.size W wr) (fun _ s35 _ => l.length - (intOf s35).toNat)
    case atStart => exact ⟨0, 0, rfl, rfl, by omega, by omega, Nat.zero_le _, fun q y hq => absurd hq (Nat.not_lt_zero _), Below.refl _ _⟩
    case round =>
      obtain ⟨j, n, rfl, rfl, hn0, hn1, hj, hall, hb⟩ := hrel
      by_cases hlt : j < l.length
      · rcases HI.out with h | ⟨b, o, rfl, hbl, h2⟩
        · rw [h] at hlt; simp at hlt
        obtain ⟨x, hx⟩ : ∃ x, l[j]? = some x := ⟨_, List.getElem?_eq_getElem hlt⟩
        obtain ⟨d, c, rr⟩ := h2 j x hx
        obtain ⟨x0, x1, x2, x3, x4, x5, x6, x7, x8, x9, x10, x11, x12⟩ := c.heap (hb.block b hbl)
        obtain ⟨w1, hw1⟩ : ∃ w1, w1 = wr.alloc (.cells #[.int .i64 x.id, .string x.tp, .int .i64 d.k, .int .i64 d.i, .int .u64 d.u, .string d.s, .slice d.a d.l d.c, .int .i64 x.ti, .int .i64 x.un, .string x.rp, .int .i64 x.co, .int .i64 x.pr, .int .i64 x.ho] 30) := ⟨_, rfl⟩
        have b1 : Below wr.heap.size wr w1 := by rw [hw1]; exact below1 wr _
        have X1 : Bk w1 wr.heap.size #[.int .i64 x.id, .string x.tp, .int .i64 d.k, .int .i64 d.i, .int .u64 d.u, .string d.s, .slice d.a d.l d.c, .int .i64 x.ti, .int .i64 x.un, .string x.rp, .int .i64 x.co, .int .i64 x.pr, .int .i64 x.ho] 30 := by rw [hw1]; exact Bk.new wr _ _
        have B1 : Below W.heap.size W w1 := hb.trans (b1.mono hb.size)
        have R1 := Dt.Rep.below B1 _ _ _ (Rz.rep _ _ _ rr)
        have HV := Lib.hid (Dt.refValid x.n x.t _ _ _ _ _ w1 R1)
        have HR1 := Lib.hid R1
        have HX := Lib.hid hx
        have HA := Lib.hid hall
        have j0 : (0 : Int) ≤ (j : Int) := by omega
        have j1 : (j : Int) < (l.length : Int) := by omega
        obtain ⟨t0, t1, t2, t3, t4, t5, t6, t7, t8, t9, t10, t11, t12⟩ := X1.c13
        have HW1 := Lib.hid hw1.symm
        clear h2 c rr hx hall R1 hw1 b1 HI
        cases hv : Dt.vB x.n x.t with
        | false =>
          rw [hv] at HV
          go_wp2_with (first | rw [HW1.out] | (go_at_call 7; refine HV.out.mono ?_; rintro e w2 ⟨rfl, b2⟩))
          go_ret
          exact ⟨false, rfl, fun h => (by cases h), B0.trans ((B1.trans (b2.mono B1.size)).mono B0.size)⟩
        | true =>
          rw [hv] at HV
          go_wp2_with (first | rw [HW1.out] | (go_at_call 7; refine HV.out.mono ?_; rintro e w2 ⟨rfl, b2⟩; have B2 := B1.trans (b2.mono B1.size); have HPa := Lib.hid (parts_any x.n x.t d w2 (Dt.Rep.below b2 _ _ _ HR1.out)); clear t0 t1 t2 t3 t4 t5 t6 t7 t8 t9 t10 t11 t12; obtain ⟨t0, t1, t2, t3, t4, t5, t6, t7, t8, t9, t10, t11, t12⟩ := (X1.step b2).c13; clear b2 HV) | (go_at_call 19; refine HPa.out.mono ?_; rintro e w3 ⟨p, q, rfl, p1, p2, b3⟩; have B3 := B2.trans (b3.mono B2.size); clear HPa b3))
          all_goals first | (go_ret; exact ⟨false, rfl, fun h => (by cases h), B0.trans (B3.mono B0.size)⟩) | (refine ⟨⟨j + 1, n + p, by go_num, by go_num, by omega, by omega, by omega, fun q y hq hy => ?_, B3⟩, by simp [intOf]; omega⟩; by_cases e : q = j; (subst e; have h9 := HX.out; rw [hy] at h9; cases h9; exact hv); (exact HA.out q y (by omega) hy))
      · go_wp2_with fail
        go_ret
        refine ⟨true, rfl, fun _ => ⟨g1, g2, g3, g4, g5, fun x hx => ?_⟩, B0.trans (hb.mono B0.size)⟩
        obtain ⟨q, hq, e⟩ := List.mem_iff_getElem.1 hx
        exact hall q x (by omega) (by rw [List.getElem?_eq_getElem hq, e])
  · clear HI
    by_cases c0 : ¬ (l.length ≤ 1024)
    · have f0 : decide ((1024 : Int) < (l.length : Int)) = true := decide_eq_true (by omega)
      go_enter Try.func6, Try.ntmps6
      go_wp2_with (rw [HW.out])
      go_ret
      exact ⟨false, rfl, fun h => (by cases h), B0⟩
    have f0 : decide ((1024 : Int) < (l.length : Int)) = false := decide_eq_false (by omega)
    by_cases c1 : ¬ (0 ≤ r)
    · have f1 : decide (r < 0) = true := decide_eq_true (by omega)
      go_enter Try.func6, Try.ntmps6
      go_wp2_with (rw [HW.out])
      go_ret
      exact ⟨false, rfl, fun h => (by cases h), B0⟩
    have f1 : decide (r < 0) = false := decide_eq_false (by omega)
    by_cases c2 : ¬ (0 ≤ dr)
    · have f2 : decide (dr < 0) = true := decide_eq_true (by omega)
      go_enter Try.func6, Try.ntmps6
      go_wp2_with (rw [HW.out])
      go_ret
      exact ⟨false, rfl, fun h => (by cases h), B0⟩
    have f2 : decide (dr < 0) = false := decide_eq_false (by omega)
    by_cases c3 : ¬ (r ≤ 4611686018427387904)
    · have f3 : decide ((4611686018427387904 : Int) < r) = true := decide_eq_true (by omega)
      go_enter Try.func6, Try.ntmps6
      go_wp2_with (rw [HW.out])
      go_ret
      exact ⟨false, rfl, fun h => (by cases h), B0⟩
    have f3 : decide ((4611686018427387904 : Int) < r) = false := decide_eq_false (by omega)
    by_cases c4 : ¬ (dr ≤ 4611686018427387904)
    · have f4 : decide ((4611686018427387904 : Int) < dr) = true := decide_eq_true (by omega)
      go_enter Try.func6, Try.ntmps6
      go_wp2_with (rw [HW.out])
      go_ret
      exact ⟨false, rfl, fun h => (by cases h), B0⟩
    have f4 : decide ((4611686018427387904 : Int) < dr) = false := decide_eq_false (by omega)
    exact absurd ⟨Decidable.of_not_not c0, Decidable.of_not_not c1, Decidable.of_not_not c2, Decidable.of_not_not c3, Decidable.of_not_not c4⟩ hc
end Go.Proofs.Ytdgjhclncjoonaa
