/- The law WantSets over two patterns' trees: true, in new memory alone; the condition: the trees in memory. -/
import Derived.Test.YtokiaolgdkikiabGreatAwk
namespace Go.Proofs.YtokiaolgdkikiabGreat
open Go.RowKit

/-- The blocks that the law makes first. -/
structure Sv (w : World) (a0 a1 : Int) (ad : Option Addr) (al ac : Nat) (b0 b1 : Int) (bd : Option Addr) (bl bc : Nat) (w' : World) : Prop where
  h0 : w'.heap[w.heap.size]? = some (.cells #[.int .i64 a0, .int .i64 a1, .slice ad al ac] 39 (0, 0))
  h1 : w'.heap[w.heap.size + 1]? = some (.cells #[.int .i64 b0, .int .i64 b1, .slice bd bl bc] 39 (0, 0))
  h2 : w'.heap[w.heap.size + 1 + 1]? = some (.cells #[.int .i64 a0, .int .i64 a1, .slice ad al ac, .int .i64 b0, .int .i64 b1, .slice bd bl bc] 39 (0, 0))
  h3 : w'.heap[w.heap.size + 1 + 1 + 1]? = some (.cells #[.int .i64 5, .int .i64 0, .slice (some ⟨w.heap.size + 1 + 1, 0, none⟩) 2 2] 39 (0, 0))
  h4 : w'.heap[w.heap.size + 1 + 1 + 1 + 1]? = some (.cells #[.int .i64 a0, .int .i64 a1, .slice ad al ac, .int .i64 b0, .int .i64 b1, .slice bd bl bc] 39 (0, 0))
  h5 : w'.heap[w.heap.size + 1 + 1 + 1 + 1 + 1]? = some (.cells #[.int .i64 4, .int .i64 0, .slice (some ⟨w.heap.size + 1 + 1 + 1 + 1, 0, none⟩) 2 2] 39 (0, 0))
  h6 : w'.heap[w.heap.size + 1 + 1 + 1 + 1 + 1 + 1]? = some (.cells #[.int .i64 a0, .int .i64 a1, .slice ad al ac] 39 (0, 0))
  h7 : w'.heap[w.heap.size + 1 + 1 + 1 + 1 + 1 + 1 + 1]? = some (.cells #[.int .i64 6, .int .i64 0, .slice (some ⟨w.heap.size + 1 + 1 + 1 + 1 + 1 + 1, 0, none⟩) 1 1] 39 (0, 0))
  b : Below w.heap.size w w'
theorem Sv.step {w : World} {a0 a1 : Int} {ad : Option Addr} {al ac : Nat} {b0 b1 : Int} {bd : Option Addr} {bl bc : Nat} {w1 w2 : World} (h : Sv w a0 a1 ad al ac b0 b1 bd bl bc w1) (hb : Below w1.heap.size w1 w2) : Sv w a0 a1 ad al ac b0 b1 bd bl bc w2 :=
  ⟨(hb.block _ (lt_of_heap h.h0)).trans h.h0, (hb.block _ (lt_of_heap h.h1)).trans h.h1, (hb.block _ (lt_of_heap h.h2)).trans h.h2, (hb.block _ (lt_of_heap h.h3)).trans h.h3, (hb.block _ (lt_of_heap h.h4)).trans h.h4, (hb.block _ (lt_of_heap h.h5)).trans h.h5, (hb.block _ (lt_of_heap h.h6)).trans h.h6, (hb.block _ (lt_of_heap h.h7)).trans h.h7, h.b.trans (hb.mono h.b.size)⟩
theorem hp_old {w : World} {o x : Obj} {N : Nat} (h : w.heap[N]? = some x) : (w.alloc o).heap[N]? = some x := ((below1 w o).block N (lt_of_heap h)).trans h
theorem hp_new (w : World) (o : Obj) (N : Nat) (h : N = w.heap.size) : (w.alloc o).heap[N]? = some o := by subst h; exact heap_alloc_new w o
theorem Sv.start (w : World) (a0 a1 : Int) (ad : Option Addr) (al ac : Nat) (b0 b1 : Int) (bd : Option Addr) (bl bc : Nat) : Sv w a0 a1 ad al ac b0 b1 bd bl bc ((((((((w.alloc (.cells #[.int .i64 a0, .int .i64 a1, .slice ad al ac] 39)).alloc (.cells #[.int .i64 b0, .int .i64 b1, .slice bd bl bc] 39)).alloc (.cells #[.int .i64 a0, .int .i64 a1, .slice ad al ac, .int .i64 b0, .int .i64 b1, .slice bd bl bc] 39)).alloc (.cells #[.int .i64 5, .int .i64 0, .slice (some ⟨w.heap.size + 1 + 1, 0, none⟩) 2 2] 39)).alloc (.cells #[.int .i64 a0, .int .i64 a1, .slice ad al ac, .int .i64 b0, .int .i64 b1, .slice bd bl bc] 39)).alloc (.cells #[.int .i64 4, .int .i64 0, .slice (some ⟨w.heap.size + 1 + 1 + 1 + 1, 0, none⟩) 2 2] 39)).alloc (.cells #[.int .i64 a0, .int .i64 a1, .slice ad al ac] 39)).alloc (.cells #[.int .i64 6, .int .i64 0, .slice (some ⟨w.heap.size + 1 + 1 + 1 + 1 + 1 + 1, 0, none⟩) 1 1] 39)) := by
  refine ⟨hp_old (hp_old (hp_old (hp_old (hp_old (hp_old (hp_old (hp_new _ _ _ (by simp)))))))), hp_old (hp_old (hp_old (hp_old (hp_old (hp_old (hp_new _ _ _ (by simp))))))), hp_old (hp_old (hp_old (hp_old (hp_old (hp_new _ _ _ (by simp)))))), hp_old (hp_old (hp_old (hp_old (hp_new _ _ _ (by simp))))), hp_old (hp_old (hp_old (hp_new _ _ _ (by simp)))), hp_old (hp_old (hp_new _ _ _ (by simp))), hp_old (hp_new _ _ _ (by simp)), hp_new _ _ _ (by simp), ?_⟩
  exact ((((((((Below.refl _ w).alloc (Nat.le_refl _) _).alloc (by simp; try omega) _).alloc (by simp; try omega) _).alloc (by simp; try omega) _).alloc (by simp; try omega) _).alloc (by simp; try omega) _).alloc (by simp; try omega) _).alloc (by simp; try omega) _
theorem Sv.c {w : World} {a0 a1 : Int} {ad : Option Addr} {al ac : Nat} {b0 b1 : Int} {bd : Option Addr} {bl bc : Nat} {w' : World} (h : Sv w a0 a1 ad al ac b0 b1 bd bl bc w') : (w'.cell? ⟨w.heap.size, 0, none⟩ = some (.int .i64 a0) ∧ w'.cell? ⟨w.heap.size, 1, none⟩ = some (.int .i64 a1) ∧ w'.cell? ⟨w.heap.size, 2, none⟩ = some (.slice ad al ac)) ∧ (w'.cell? ⟨w.heap.size + 1, 0, none⟩ = some (.int .i64 b0) ∧ w'.cell? ⟨w.heap.size + 1, 1, none⟩ = some (.int .i64 b1) ∧ w'.cell? ⟨w.heap.size + 1, 2, none⟩ = some (.slice bd bl bc))
    ∧ (w'.cell? ⟨w.heap.size + 1 + 1 + 1, 0, none⟩ = some (.int .i64 5) ∧ w'.cell? ⟨w.heap.size + 1 + 1 + 1, 1, none⟩ = some (.int .i64 0) ∧ w'.cell? ⟨w.heap.size + 1 + 1 + 1, 2, none⟩ = some (.slice (some ⟨w.heap.size + 1 + 1, 0, none⟩) 2 2))
    ∧ (w'.cell? ⟨w.heap.size + 1 + 1 + 1 + 1 + 1, 0, none⟩ = some (.int .i64 4) ∧ w'.cell? ⟨w.heap.size + 1 + 1 + 1 + 1 + 1, 1, none⟩ = some (.int .i64 0) ∧ w'.cell? ⟨w.heap.size + 1 + 1 + 1 + 1 + 1, 2, none⟩ = some (.slice (some ⟨w.heap.size + 1 + 1 + 1 + 1, 0, none⟩) 2 2))
    ∧ (w'.cell? ⟨w.heap.size + 1 + 1 + 1 + 1 + 1 + 1 + 1, 0, none⟩ = some (.int .i64 6) ∧ w'.cell? ⟨w.heap.size + 1 + 1 + 1 + 1 + 1 + 1 + 1, 1, none⟩ = some (.int .i64 0) ∧ w'.cell? ⟨w.heap.size + 1 + 1 + 1 + 1 + 1 + 1 + 1, 2, none⟩ = some (.slice (some ⟨w.heap.size + 1 + 1 + 1 + 1 + 1 + 1, 0, none⟩) 1 1)) := by
  obtain ⟨h0, h1, -, h3, -, h5, -, h7, -⟩ := h
  simp [World.cell?, h0, h1, h3, h5, h7]

theorem kset_and (p q : Int → Bool) : kset p 14 &&& kset q 14 = kset (fun k => p k && q k) 14 :=
  kset_eq _ (Nat.and_lt_two_pow (n := 14) _ (kset_lt q 14)) fun k hk => by rw [Nat.testBit_and, kset_bit, kset_bit]; simp [hk]
theorem kset_or (p q : Int → Bool) : kset p 14 ||| kset q 14 = kset (fun k => p k || q k) 14 :=
  kset_eq _ (Nat.or_lt_two_pow (n := 14) (kset_lt p 14) (kset_lt q 14)) fun k hk => by rw [Nat.testBit_or, kset_bit, kset_bit]; simp [hk]
theorem kset_none : kset (fun _ => false) 14 = 0 := by decide
theorem off_kset (p q : Int → Bool) : offN p q = kset (fun k => q k && !p k) 14 := by
  have hl := kset_lt p 14
  unfold offN
  refine kset_eq _ (Nat.lt_of_le_of_lt Nat.and_le_left (kset_lt q 14)) fun k hk => ?_
  have e : (4294967295 - kset p 14) = 2 ^ 32 - (kset p 14 + 1) := by omega
  rw [Nat.testBit_and, e, Nat.testBit_two_pow_sub_succ (by omega), kset_bit, kset_bit]
  simp [hk, show k < 32 by omega]
theorem meet_not (p : Int → Bool) : meeB p (fun k => !p k) = false := by
  unfold meeB bothN
  rw [kset_and, show (fun k => p k && !p k) = fun _ => false from funext fun k => by cases p k <;> rfl, kset_none]
  rfl
theorem cov_or (p q : Int → Bool) : covB (fun k => p k || q k) p = true := by
  unfold covB
  rw [off_kset, show (fun k => p k && !(p k || q k)) = fun _ => false from funext fun k => by cases p k <;> cases q k <;> rfl, kset_none]
  rfl
theorem cov_and (p q : Int → Bool) : covB p (fun k => p k && q k) = true := by
  unfold covB
  rw [off_kset, show (fun k => (p k && q k) && !p k) = fun _ => false from funext fun k => by cases p k <;> cases q k <;> rfl, kset_none]
  rfl

/-- A pattern of two parts, and of one. -/
def w2 {n : Nat} (o : Int) (t r : Wt n) : Wt (n + 1) := ((o, 0, [t, r]) : Int × Int × List (Wt n))
def w1 {n : Nat} (t : Wt n) : Wt (n + 1) := ((6, 0, [t]) : Int × Int × List (Wt n))
theorem ev_and {n : Nat} (t r : Wt n) : evk (n + 1) (w2 5 t r) = fun k => evk n t k && evk n r k := funext fun k => by
  show (if (5 : Int) = 1 then _ else _) = _
  simp [w2, Wt.ks, Wt.op]
theorem ev_or {n : Nat} (t r : Wt n) : evk (n + 1) (w2 4 t r) = fun k => evk n t k || evk n r k := funext fun k => by
  show (if (4 : Int) = 1 then _ else _) = _
  simp [w2, Wt.ks, Wt.op]
theorem ev_not {n : Nat} (t : Wt n) : evk (n + 1) (w1 t) = fun k => !evk n t k := funext fun k => by
  show (if (6 : Int) = 1 then _ else _) = _
  simp [w1, Wt.ks, Wt.op]
theorem right2 {n : Nat} {o : Int} {t r : Wt n} (h : wgt (n + 1) (w2 o t r) = true) : wgt n t = true ∧ wgt n r = true := by
  simp only [wgt, Bool.and_eq_true, List.all_eq_true] at h
  exact ⟨h.2 t (by simp [w2, Wt.ks]), h.2 r (by simp [w2, Wt.ks])⟩
theorem row_two {w : World} {n N : Nat} {o : Int} {t r : Wt n} {x0 x1 x2 y0 y1 y2 : Value} (h : w.heap[N]? = some (.cells #[x0, x1, x2, y0, y1, y2] 39 (0, 0))) (ha : RepW w n [x0, x1, x2] t) (hb : RepW w n [y0, y1, y2] r) : RepW w (n + 1) [.int .i64 o, .int .i64 0, .slice (some ⟨N, 0, none⟩) 2 2] (w2 o t r) := by
  refine ⟨some ⟨N, 0, none⟩, 2, rfl, Nat.le_refl _, by unfold maxLen; omega, .inr ⟨N, 0, rfl, fun j t' hj => ?_⟩⟩
  match j, hj with
  | 0, hj =>
    obtain rfl : t = t' := Option.some.inj hj
    exact ⟨x0, x1, x2, by simp [World.cell?, h], by simp [World.cell?, h], by simp [World.cell?, h], ha⟩
  | 1, hj =>
    obtain rfl : r = t' := Option.some.inj hj
    exact ⟨y0, y1, y2, by simp [World.cell?, h], by simp [World.cell?, h], by simp [World.cell?, h], hb⟩
theorem row_one {w : World} {n N : Nat} {t : Wt n} {x0 x1 x2 : Value} (h : w.heap[N]? = some (.cells #[x0, x1, x2] 39 (0, 0))) (ha : RepW w n [x0, x1, x2] t) : RepW w (n + 1) [.int .i64 6, .int .i64 0, .slice (some ⟨N, 0, none⟩) 1 1] (w1 t) := by
  refine ⟨some ⟨N, 0, none⟩, 1, rfl, Nat.le_refl _, by unfold maxLen; omega, .inr ⟨N, 0, rfl, fun j t' hj => ?_⟩⟩
  match j, hj with
  | 0, hj =>
    obtain rfl : t = t' := Option.some.inj hj
    exact ⟨x0, x1, x2, by simp [World.cell?, h], by simp [World.cell?, h], by simp [World.cell?, h], ha⟩

set_option maxRecDepth 100000 in
set_option maxHeartbeats 4000000 in
theorem law_sets (n : Nat) (t r : Wt n) (a0 a1 : Int) (ad : Option Addr) (al ac : Nat) (b0 b1 : Int) (bd : Option Addr) (bl bc : Nat) (w : World) (ha : RepW w n [.int .i64 a0, .int .i64 a1, .slice ad al ac] t) (hb : RepW w n [.int .i64 b0, .int .i64 b1, .slice bd bl bc] r) :
    Calls Tryz.prog 5 #[.agg #[.int .i64 a0, .int .i64 a1, .slice ad al ac], .agg #[.int .i64 b0, .int .i64 b1, .slice bd bl bc]] w fun e w' => e = .returned (.bool true) ∧ Below w.heap.size w w' := by
  have F5 : Hid (∀ wx, Sv w a0 a1 ad al ac b0 b1 bd bl bc wx → Calls Tryz.prog 12 #[.agg #[.int .i64 5, .int .i64 0, .slice (some ⟨w.heap.size + 1 + 1, 0, none⟩) 2 2]] wx fun e w' => e = .returned (.bool (fitW (n + 1) (w2 5 t r))) ∧ Sv w a0 a1 ad al ac b0 b1 bd bl bc w') := fun wx hx => (fit_any (n + 1) (w2 5 t r) _ _ _ wx (row_two hx.h2 (RepW.below hx.b n _ _ ha) (RepW.below hx.b n _ _ hb))).mono fun e w' ⟨a, b⟩ => ⟨a, hx.step b⟩
  have F4 : Hid (∀ wx, Sv w a0 a1 ad al ac b0 b1 bd bl bc wx → Calls Tryz.prog 12 #[.agg #[.int .i64 4, .int .i64 0, .slice (some ⟨w.heap.size + 1 + 1 + 1 + 1, 0, none⟩) 2 2]] wx fun e w' => e = .returned (.bool (fitW (n + 1) (w2 4 t r))) ∧ Sv w a0 a1 ad al ac b0 b1 bd bl bc w') := fun wx hx => (fit_any (n + 1) (w2 4 t r) _ _ _ wx (row_two hx.h4 (RepW.below hx.b n _ _ ha) (RepW.below hx.b n _ _ hb))).mono fun e w' ⟨a, b⟩ => ⟨a, hx.step b⟩
  have F6 : Hid (∀ wx, Sv w a0 a1 ad al ac b0 b1 bd bl bc wx → Calls Tryz.prog 12 #[.agg #[.int .i64 6, .int .i64 0, .slice (some ⟨w.heap.size + 1 + 1 + 1 + 1 + 1 + 1, 0, none⟩) 1 1]] wx fun e w' => e = .returned (.bool (fitW (n + 1) (w1 t))) ∧ Sv w a0 a1 ad al ac b0 b1 bd bl bc w') := fun wx hx => (fit_any (n + 1) (w1 t) _ _ _ wx (row_one hx.h6 (RepW.below hx.b n _ _ ha))).mono fun e w' ⟨a, b⟩ => ⟨a, hx.step b⟩
  have HA : Hid (∀ wx, Sv w a0 a1 ad al ac b0 b1 bd bl bc wx → Calls Tryz.prog 7 #[] wx fun e w' => e = .returned (.bool true) ∧ Sv w a0 a1 ad al ac b0 b1 bd bl bc w') := fun wx hx => (awake_any wx).mono fun e w' ⟨a, b⟩ => ⟨a, hx.step b⟩
  have hb0 := Sv.start w a0 a1 ad al ac b0 b1 bd bl bc
  have HS : Hid (∀ wx, Sv w a0 a1 ad al ac b0 b1 bd bl bc wx → _) := fun wx (h : Sv w a0 a1 ad al ac b0 b1 bd bl bc wx) => h.c
  cases hV5 : fitW (n + 1) (w2 5 t r) with
  | false =>
    rw [hV5] at F5
    clear hV5 F4 F6 ha hb
    obtain ⟨⟨c0, c1, c2⟩, ⟨d0, d1, d2⟩, ⟨e0, e1, e2⟩, ⟨f0, f1, f2⟩, g0, g1, g2⟩ := HS.out _ hb0
    go_enter Tryz.func5, Tryz.ntmps5
    go_wp2_with fail
    refine (F5.out _ hb0).mono ?_
    rintro e wa ⟨rfl, bwa⟩
    clear c0 c1 c2 d0 d1 d2 e0 e1 e2 f0 f1 f2 g0 g1 g2
    obtain ⟨⟨c0, c1, c2⟩, ⟨d0, d1, d2⟩, ⟨e0, e1, e2⟩, ⟨f0, f1, f2⟩, g0, g1, g2⟩ := HS.out _ bwa
    go_wp2_with fail
    refine (HA.out _ bwa).mono ?_
    rintro e wb ⟨rfl, bwb⟩
    clear c0 c1 c2 d0 d1 d2 e0 e1 e2 f0 f1 f2 g0 g1 g2
    go_wp2
    go_ret
    exact ⟨rfl, bwb.b⟩
  | true =>
    rw [hV5] at F5
    obtain ⟨ga, gb⟩ := right2 (fitW_right _ _ hV5)
    have g5 := fitW_right _ _ hV5
    clear hV5
    cases hV4 : fitW (n + 1) (w2 4 t r) with
    | false =>
      rw [hV4] at F4
      clear hV4 F6 ha hb ga gb g5
      obtain ⟨⟨c0, c1, c2⟩, ⟨d0, d1, d2⟩, ⟨e0, e1, e2⟩, ⟨f0, f1, f2⟩, g0, g1, g2⟩ := HS.out _ hb0
      go_enter Tryz.func5, Tryz.ntmps5
      go_wp2_with fail
      refine (F5.out _ hb0).mono ?_
      rintro e wa ⟨rfl, bwa⟩
      clear c0 c1 c2 d0 d1 d2 e0 e1 e2 f0 f1 f2 g0 g1 g2
      obtain ⟨⟨c0, c1, c2⟩, ⟨d0, d1, d2⟩, ⟨e0, e1, e2⟩, ⟨f0, f1, f2⟩, g0, g1, g2⟩ := HS.out _ bwa
      go_wp2_with fail
      refine (F4.out _ bwa).mono ?_
      rintro e wb ⟨rfl, bwb⟩
      clear c0 c1 c2 d0 d1 d2 e0 e1 e2 f0 f1 f2 g0 g1 g2
      obtain ⟨⟨c0, c1, c2⟩, ⟨d0, d1, d2⟩, ⟨e0, e1, e2⟩, ⟨f0, f1, f2⟩, g0, g1, g2⟩ := HS.out _ bwb
      go_wp2_with fail
      refine (HA.out _ bwb).mono ?_
      rintro e wc ⟨rfl, bwc⟩
      clear c0 c1 c2 d0 d1 d2 e0 e1 e2 f0 f1 f2 g0 g1 g2
      go_wp2
      go_ret
      exact ⟨rfl, bwc.b⟩
    | true =>
      rw [hV4] at F4
      have g4 := fitW_right _ _ hV4
      clear hV4
      cases hV6 : fitW (n + 1) (w1 t) with
      | false =>
        rw [hV6] at F6
        clear hV6 ha hb ga gb g5 g4
        obtain ⟨⟨c0, c1, c2⟩, ⟨d0, d1, d2⟩, ⟨e0, e1, e2⟩, ⟨f0, f1, f2⟩, g0, g1, g2⟩ := HS.out _ hb0
        go_enter Tryz.func5, Tryz.ntmps5
        go_wp2_with fail
        refine (F5.out _ hb0).mono ?_
        rintro e wa ⟨rfl, bwa⟩
        clear c0 c1 c2 d0 d1 d2 e0 e1 e2 f0 f1 f2 g0 g1 g2
        obtain ⟨⟨c0, c1, c2⟩, ⟨d0, d1, d2⟩, ⟨e0, e1, e2⟩, ⟨f0, f1, f2⟩, g0, g1, g2⟩ := HS.out _ bwa
        go_wp2_with fail
        refine (F4.out _ bwa).mono ?_
        rintro e wb ⟨rfl, bwb⟩
        clear c0 c1 c2 d0 d1 d2 e0 e1 e2 f0 f1 f2 g0 g1 g2
        obtain ⟨⟨c0, c1, c2⟩, ⟨d0, d1, d2⟩, ⟨e0, e1, e2⟩, ⟨f0, f1, f2⟩, g0, g1, g2⟩ := HS.out _ bwb
        go_wp2_with fail
        refine (F6.out _ bwb).mono ?_
        rintro e wc ⟨rfl, bwc⟩
        clear c0 c1 c2 d0 d1 d2 e0 e1 e2 f0 f1 f2 g0 g1 g2
        obtain ⟨⟨c0, c1, c2⟩, ⟨d0, d1, d2⟩, ⟨e0, e1, e2⟩, ⟨f0, f1, f2⟩, g0, g1, g2⟩ := HS.out _ bwc
        go_wp2_with fail
        refine (HA.out _ bwc).mono ?_
        rintro e wd ⟨rfl, bwd⟩
        clear c0 c1 c2 d0 d1 d2 e0 e1 e2 f0 f1 f2 g0 g1 g2
        go_wp2
        go_ret
        exact ⟨rfl, bwd.b⟩
      | true =>
        rw [hV6] at F6
        have g6 := fitW_right _ _ hV6
        clear hV6
        have KA : Hid (∀ wx, Sv w a0 a1 ad al ac b0 b1 bd bl bc wx → Calls Tryz.prog 15 #[.agg #[.int .i64 a0, .int .i64 a1, .slice ad al ac]] wx fun e w' => e = .returned (.int .u32 ((kset (evk n t) 14 : Nat) : Int)) ∧ Sv w a0 a1 ad al ac b0 b1 bd bl bc w') := fun wx hx => (kinds_any n t _ _ _ wx (RepW.below hx.b n _ _ ha) ga).mono fun e w' ⟨a, b⟩ => ⟨a, hx.step b⟩
        have KB : Hid (∀ wx, Sv w a0 a1 ad al ac b0 b1 bd bl bc wx → Calls Tryz.prog 15 #[.agg #[.int .i64 b0, .int .i64 b1, .slice bd bl bc]] wx fun e w' => e = .returned (.int .u32 ((kset (evk n r) 14 : Nat) : Int)) ∧ Sv w a0 a1 ad al ac b0 b1 bd bl bc w') := fun wx hx => (kinds_any n r _ _ _ wx (RepW.below hx.b n _ _ hb) gb).mono fun e w' ⟨a, b⟩ => ⟨a, hx.step b⟩
        have K5 : Hid (∀ wx, Sv w a0 a1 ad al ac b0 b1 bd bl bc wx → Calls Tryz.prog 15 #[.agg #[.int .i64 5, .int .i64 0, .slice (some ⟨w.heap.size + 1 + 1, 0, none⟩) 2 2]] wx fun e w' => e = .returned (.int .u32 ((kset (evk (n + 1) (w2 5 t r)) 14 : Nat) : Int)) ∧ Sv w a0 a1 ad al ac b0 b1 bd bl bc w') := fun wx hx => (kinds_any (n + 1) (w2 5 t r) _ _ _ wx (row_two hx.h2 (RepW.below hx.b n _ _ ha) (RepW.below hx.b n _ _ hb)) g5).mono fun e w' ⟨a, b⟩ => ⟨a, hx.step b⟩
        have K4 : Hid (∀ wx, Sv w a0 a1 ad al ac b0 b1 bd bl bc wx → Calls Tryz.prog 15 #[.agg #[.int .i64 4, .int .i64 0, .slice (some ⟨w.heap.size + 1 + 1 + 1 + 1, 0, none⟩) 2 2]] wx fun e w' => e = .returned (.int .u32 ((kset (evk (n + 1) (w2 4 t r)) 14 : Nat) : Int)) ∧ Sv w a0 a1 ad al ac b0 b1 bd bl bc w') := fun wx hx => (kinds_any (n + 1) (w2 4 t r) _ _ _ wx (row_two hx.h4 (RepW.below hx.b n _ _ ha) (RepW.below hx.b n _ _ hb)) g4).mono fun e w' ⟨a, b⟩ => ⟨a, hx.step b⟩
        have K6 : Hid (∀ wx, Sv w a0 a1 ad al ac b0 b1 bd bl bc wx → Calls Tryz.prog 15 #[.agg #[.int .i64 6, .int .i64 0, .slice (some ⟨w.heap.size + 1 + 1 + 1 + 1 + 1 + 1, 0, none⟩) 1 1]] wx fun e w' => e = .returned (.int .u32 ((kset (evk (n + 1) (w1 t)) 14 : Nat) : Int)) ∧ Sv w a0 a1 ad al ac b0 b1 bd bl bc w') := fun wx hx => (kinds_any (n + 1) (w1 t) _ _ _ wx (row_one hx.h6 (RepW.below hx.b n _ _ ha)) g6).mono fun e w' ⟨a, b⟩ => ⟨a, hx.step b⟩
        have HM : Hid (∀ wx, Sv w a0 a1 ad al ac b0 b1 bd bl bc wx → Calls Tryz.prog 16 #[.agg #[.int .i64 a0, .int .i64 a1, .slice ad al ac], .agg #[.int .i64 6, .int .i64 0, .slice (some ⟨w.heap.size + 1 + 1 + 1 + 1 + 1 + 1, 0, none⟩) 1 1]] wx fun e w' => e = .returned (.bool (meeB (evk n t) (evk (n + 1) (w1 t)))) ∧ Sv w a0 a1 ad al ac b0 b1 bd bl bc w') := fun wx hx => (meetsP n (n + 1) t (w1 t) _ _ _ _ _ _ wx (RepW.below hx.b n _ _ ha) (row_one hx.h6 (RepW.below hx.b n _ _ ha)) ga g6).mono fun e w' ⟨a, b⟩ => ⟨a, hx.step b⟩
        have HC : Hid (∀ wx, Sv w a0 a1 ad al ac b0 b1 bd bl bc wx → Calls Tryz.prog 17 #[.agg #[.int .i64 4, .int .i64 0, .slice (some ⟨w.heap.size + 1 + 1 + 1 + 1, 0, none⟩) 2 2], .agg #[.int .i64 a0, .int .i64 a1, .slice ad al ac]] wx fun e w' => e = .returned (.bool (covB (evk (n + 1) (w2 4 t r)) (evk n t))) ∧ Sv w a0 a1 ad al ac b0 b1 bd bl bc w') := fun wx hx => (coversP (n + 1) n (w2 4 t r) t _ _ _ _ _ _ wx (row_two hx.h4 (RepW.below hx.b n _ _ ha) (RepW.below hx.b n _ _ hb)) (RepW.below hx.b n _ _ ha) g4 ga).mono fun e w' ⟨a, b⟩ => ⟨a, hx.step b⟩
        have HD : Hid (∀ wx, Sv w a0 a1 ad al ac b0 b1 bd bl bc wx → Calls Tryz.prog 17 #[.agg #[.int .i64 a0, .int .i64 a1, .slice ad al ac], .agg #[.int .i64 5, .int .i64 0, .slice (some ⟨w.heap.size + 1 + 1, 0, none⟩) 2 2]] wx fun e w' => e = .returned (.bool (covB (evk n t) (evk (n + 1) (w2 5 t r)))) ∧ Sv w a0 a1 ad al ac b0 b1 bd bl bc w') := fun wx hx => (coversP n (n + 1) t (w2 5 t r) _ _ _ _ _ _ wx (RepW.below hx.b n _ _ ha) (row_two hx.h2 (RepW.below hx.b n _ _ ha) (RepW.below hx.b n _ _ hb)) ga g5).mono fun e w' ⟨a, b⟩ => ⟨a, hx.step b⟩
        rw [ev_and, ← kset_and] at K5
        rw [ev_or, ← kset_or] at K4
        rw [ev_not, ← not_mask] at K6
        rw [ev_not, meet_not] at HM
        rw [ev_or, cov_or] at HC
        rw [ev_and, cov_and] at HD
        have la := Nat.lt_trans (kset_lt (evk n t) 14) (show 2 ^ 14 < 4294967296 by decide)
        have lb := Nat.lt_trans (kset_lt (evk n r) 14) (show 2 ^ 14 < 4294967296 by decide)
        generalize kset (evk n t) 14 = X at KA K5 K4 K6 la
        generalize kset (evk n r) 14 = Y at KB K5 K4 lb
        have ba := u32_and_nat X Y la lb
        have bo := u32_or_nat X Y la lb
        have bn : bits .andNot .u32 16383 (X : Int) = ((16383 &&& (4294967295 - X) : Nat) : Int) := u32_andNot_nat 16383 X (by decide) la
        generalize X &&& Y = Z1 at K5 ba
        generalize X ||| Y = Z2 at K4 bo
        generalize 16383 &&& (4294967295 - X) = Z3 at K6 bn
        clear ha hb ga gb g5 g4 g6 la lb
        obtain ⟨⟨c0, c1, c2⟩, ⟨d0, d1, d2⟩, ⟨e0, e1, e2⟩, ⟨f0, f1, f2⟩, g0, g1, g2⟩ := HS.out _ hb0
        go_enter Tryz.func5, Tryz.ntmps5
        go_wp2_with fail
        refine (F5.out _ hb0).mono ?_
        rintro e wa ⟨rfl, bwa⟩
        clear c0 c1 c2 d0 d1 d2 e0 e1 e2 f0 f1 f2 g0 g1 g2
        obtain ⟨⟨c0, c1, c2⟩, ⟨d0, d1, d2⟩, ⟨e0, e1, e2⟩, ⟨f0, f1, f2⟩, g0, g1, g2⟩ := HS.out _ bwa
        go_wp2_with fail
        refine (F4.out _ bwa).mono ?_
        rintro e wb ⟨rfl, bwb⟩
        clear c0 c1 c2 d0 d1 d2 e0 e1 e2 f0 f1 f2 g0 g1 g2
        obtain ⟨⟨c0, c1, c2⟩, ⟨d0, d1, d2⟩, ⟨e0, e1, e2⟩, ⟨f0, f1, f2⟩, g0, g1, g2⟩ := HS.out _ bwb
        go_wp2_with fail
        refine (F6.out _ bwb).mono ?_
        rintro e wc ⟨rfl, bwc⟩
        clear c0 c1 c2 d0 d1 d2 e0 e1 e2 f0 f1 f2 g0 g1 g2
        obtain ⟨⟨c0, c1, c2⟩, ⟨d0, d1, d2⟩, ⟨e0, e1, e2⟩, ⟨f0, f1, f2⟩, g0, g1, g2⟩ := HS.out _ bwc
        go_wp2_with fail
        refine (KA.out _ bwc).mono ?_
        rintro e wd ⟨rfl, bwd⟩
        clear c0 c1 c2 d0 d1 d2 e0 e1 e2 f0 f1 f2 g0 g1 g2
        obtain ⟨⟨c0, c1, c2⟩, ⟨d0, d1, d2⟩, ⟨e0, e1, e2⟩, ⟨f0, f1, f2⟩, g0, g1, g2⟩ := HS.out _ bwd
        go_wp2_with fail
        refine (KB.out _ bwd).mono ?_
        rintro e we ⟨rfl, bwe⟩
        clear c0 c1 c2 d0 d1 d2 e0 e1 e2 f0 f1 f2 g0 g1 g2
        obtain ⟨⟨c0, c1, c2⟩, ⟨d0, d1, d2⟩, ⟨e0, e1, e2⟩, ⟨f0, f1, f2⟩, g0, g1, g2⟩ := HS.out _ bwe
        go_wp2_with fail
        refine (K5.out _ bwe).mono ?_
        rintro e wf ⟨rfl, bwf⟩
        clear c0 c1 c2 d0 d1 d2 e0 e1 e2 f0 f1 f2 g0 g1 g2
        obtain ⟨⟨c0, c1, c2⟩, ⟨d0, d1, d2⟩, ⟨e0, e1, e2⟩, ⟨f0, f1, f2⟩, g0, g1, g2⟩ := HS.out _ bwf
        go_wp2_with fail
        refine (K4.out _ bwf).mono ?_
        rintro e wg ⟨rfl, bwg⟩
        clear c0 c1 c2 d0 d1 d2 e0 e1 e2 f0 f1 f2 g0 g1 g2
        obtain ⟨⟨c0, c1, c2⟩, ⟨d0, d1, d2⟩, ⟨e0, e1, e2⟩, ⟨f0, f1, f2⟩, g0, g1, g2⟩ := HS.out _ bwg
        go_wp2_with fail
        refine (K6.out _ bwg).mono ?_
        rintro e wh ⟨rfl, bwh⟩
        clear c0 c1 c2 d0 d1 d2 e0 e1 e2 f0 f1 f2 g0 g1 g2
        obtain ⟨⟨c0, c1, c2⟩, ⟨d0, d1, d2⟩, ⟨e0, e1, e2⟩, ⟨f0, f1, f2⟩, g0, g1, g2⟩ := HS.out _ bwh
        go_wp2_with fail
        refine (HM.out _ bwh).mono ?_
        rintro e wi ⟨rfl, bwi⟩
        clear c0 c1 c2 d0 d1 d2 e0 e1 e2 f0 f1 f2 g0 g1 g2
        obtain ⟨⟨c0, c1, c2⟩, ⟨d0, d1, d2⟩, ⟨e0, e1, e2⟩, ⟨f0, f1, f2⟩, g0, g1, g2⟩ := HS.out _ bwi
        go_wp2_with fail
        refine (HC.out _ bwi).mono ?_
        rintro e wj ⟨rfl, bwj⟩
        clear c0 c1 c2 d0 d1 d2 e0 e1 e2 f0 f1 f2 g0 g1 g2
        obtain ⟨⟨c0, c1, c2⟩, ⟨d0, d1, d2⟩, ⟨e0, e1, e2⟩, ⟨f0, f1, f2⟩, g0, g1, g2⟩ := HS.out _ bwj
        go_wp2_with fail
        refine (HD.out _ bwj).mono ?_
        rintro e wk ⟨rfl, bwk⟩
        clear c0 c1 c2 d0 d1 d2 e0 e1 e2 f0 f1 f2 g0 g1 g2
        obtain ⟨⟨c0, c1, c2⟩, ⟨d0, d1, d2⟩, ⟨e0, e1, e2⟩, ⟨f0, f1, f2⟩, g0, g1, g2⟩ := HS.out _ bwk
        go_wp2_with fail
        refine (HA.out _ bwk).mono ?_
        rintro e wl ⟨rfl, bwl⟩
        clear c0 c1 c2 d0 d1 d2 e0 e1 e2 f0 f1 f2 g0 g1 g2
        go_wp2
        go_ret
        exact ⟨rfl, bwl.b⟩
theorem law_sets' (n : Nat) (t : Wt n) (v0 v1 v2 : Value) (r : Wt n) (x0 x1 x2 : Value) (w : World) (h : RepW w n [v0, v1, v2] t) (h' : RepW w n [x0, x1, x2] r) :
    Calls Tryz.prog 5 #[.agg #[v0, v1, v2], .agg #[x0, x1, x2]] w fun e w' => e = .returned (.bool true) ∧ Below w.heap.size w w' := by
  obtain ⟨a0, a1, ad, al, ac, rfl, rfl, rfl⟩ := repW_shape h
  obtain ⟨b0, b1, bd, bl, bc, rfl, rfl, rfl⟩ := repW_shape h'
  exact law_sets n t r a0 a1 ad al ac b0 b1 bd bl bc w h h'
end Go.Proofs.YtokiaolgdkikiabGreat
