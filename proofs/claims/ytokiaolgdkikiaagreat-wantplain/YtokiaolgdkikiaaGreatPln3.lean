/- The package's one form of the kinds' bits, and its Plain: the plain tree, in new memory; the conditions: the kinds' bits are below 2^14, the pattern's tree lies in memory and is right. -/
import Derived.Test.YtokiaolgdkikiaaGreatPln2
namespace Go.Proofs.YtokiaolgdkikiaaGreat
open Go.RowKit

theorem Tw.f {w : World} {v0 v1 v2 x0 x1 x2 : Value} {w' : World} (h : Tw w v0 v1 v2 x0 x1 x2 w') (o : Nat) : w'.frozen? ⟨w.heap.size + 1, o, none⟩ = false := by
  have e1 := heap_alloc_new (w.alloc (.cells #[v0, v1, v2] 24)) (.cells #[x0, x1, x2] 24)
  simp only [World.size_alloc] at e1
  have h1 : w'.heap[w.heap.size + 1]? = some (.cells #[x0, x1, x2] 24 (0, 0)) := (Below.block h (w.heap.size + 1) (by omega)).trans e1
  simp [World.frozen?, h1]
theorem repB_shape {w : World} {B n : Nat} {v0 v1 v2 : Value} {t : Wt n} (h : RepB w B n [v0, v1, v2] t) : ∃ (o m : Int) (ad : Option Addr) (len cap : Nat), v0 = .int .i64 o ∧ v1 = .int .i64 m ∧ v2 = .slice ad len cap := repW_shape (RepB.rep n _ _ h)

set_option maxRecDepth 100000 in
set_option maxHeartbeats 2000000 in
theorem plain0 (w : World) : Calls Tryz.prog 42 #[.int .u32 0] w fun e w' => ∃ v0 v1 v2, e = .returned (.agg #[v0, v1, v2]) ∧ RepB w' w.heap.size 3 [v0, v1, v2] (wn 5 [wa, wn 6 [wa]]) ∧ Below w.heap.size w w' := by
  have hb0 := One.start w (.int .i64 0) (.int .i64 0) (.slice none 0 0)
  go_enter Tryz.func42, Tryz.ntmps42
  go_wp2_with fail
  refine (notP 1 0 none 0 0 _).mono ?_
  rintro e w1 ⟨N1, rfl, hN1, h1, b1⟩
  go_wp2_with fail
  refine (andP 1 0 none 0 0 6 0 (some ⟨N1, 0, none⟩) 1 1 _).mono ?_
  rintro e w2 ⟨N2, rfl, hN2, h2, b2⟩
  have o2 := (hb0.step b1).step b2
  obtain ⟨c0, c1, c2⟩ := o2.c
  have fz := o2.f
  have hs1 : w.heap.size + 1 ≤ w1.heap.size := by have := b1.size; simp at this; omega
  have hN1' : w.heap.size + 1 ≤ N1 := by simpa using hN1
  have R2 : RepB w2 (w.heap.size + 1) 3 [.int .i64 5, .int .i64 0, .slice (some ⟨N2, 0, none⟩) 2 2] (wn 5 [wa, wn 6 [wa]]) := repB_two (by omega) h2 (repB_wa _ _ _) (repB_one hN1' ((b2.block N1 (lt_of_heap h1)).trans h1) (repB_wa _ _ _))
  have kp : ∀ (x y z : Value) (g : Nat), w.heap.size + 1 ≤ g → g < w2.heap.size → (((w2.setCell ⟨w.heap.size, 0, none⟩ x).setCell ⟨w.heap.size, 1, none⟩ y).setCell ⟨w.heap.size, 2, none⟩ z).heap[g]? = w2.heap[g]? := fun x y z g hg _ => by
    rw [Below.heap_setCell _ _ _ g (by show g ≠ w.heap.size; omega), Below.heap_setCell _ _ _ g (by show g ≠ w.heap.size; omega), Below.heap_setCell _ _ _ g (by show g ≠ w.heap.size; omega)]
  have R3 := Lib.hid fun x y z => RepB.mono (Nat.le_succ _) _ _ _ (RepB.kept (kp x y z) _ _ _ R2)
  clear R2 kp h1 h2 b1 b2
  go_wp2_with fail
  exact bodyPost_ret (v := .agg #[.int .i64 5, .int .i64 0, .slice (some ⟨N2, 0, none⟩) 2 2]) (by simp [results, Tryz.results42, go_sem, World.cell?_setCell_same, World.cell?_setCell_other, c0, c1, c2]) rfl ⟨_, _, _, rfl, R3.out _ _ _, ((o2.below.setCell (Nat.le_refl _) _).setCell (Nat.le_refl _) _).setCell (Nat.le_refl _) _⟩

theorem mask_ptr (X : Nat) (hX : X < 16384) : bits .and .u32 (X : Int) 6144 = 2048 ↔ (X / 2 ^ 11 % 2 = 1 ∧ ¬ X / 2 ^ 12 % 2 = 1) := by
  have e := u32_and_nat X 6144 (by omega) (by decide)
  have e' : bits .and .u32 (X : Int) 6144 = ((X &&& 6144 : Nat) : Int) := e
  rw [e']
  have h : (X &&& 6144 = 2048) ↔ (X / 2 ^ 11 % 2 = 1 ∧ ¬ X / 2 ^ 12 % 2 = 1) := by
    rw [bit_iff, bit_iff]
    constructor
    · intro h
      have h11 := congrArg (fun n => Nat.testBit n 11) h
      have h12 := congrArg (fun n => Nat.testBit n 12) h
      simp only [Nat.testBit_and] at h11 h12
      rw [show Nat.testBit 6144 11 = true by decide, show Nat.testBit 2048 11 = true by decide] at h11
      rw [show Nat.testBit 6144 12 = true by decide, show Nat.testBit 2048 12 = false by decide] at h12
      simp at h11 h12
      exact ⟨h11, by rw [h12]; simp⟩
    · rintro ⟨h11, h12⟩
      refine Nat.eq_of_testBit_eq fun k => ?_
      rw [Nat.testBit_and]
      by_cases hk : k = 11
      · subst hk; rw [h11]; decide
      · by_cases hk2 : k = 12
        · subst hk2; have : X.testBit 12 = false := by simpa using h12
          rw [this]; decide
        · have a1 : Nat.testBit 6144 k = false := by
            rw [show (6144 : Nat) = 2 ^ 11 ||| 2 ^ 12 by decide, Nat.testBit_or, Nat.testBit_two_pow, Nat.testBit_two_pow]
            simp; omega
          have a2 : Nat.testBit 2048 k = false := by
            rw [show (2048 : Nat) = 2 ^ 11 by decide, Nat.testBit_two_pow]; simp; omega
          rw [a1, a2]; simp
  rw [← h]
  constructor
  · intro hh; omega
  · intro hh; omega

set_option maxRecDepth 100000 in
set_option maxHeartbeats 2000000 in
theorem plain1 (X : Nat) (hX : X < 16384) (h0 : X ≠ 0) (h1 : X / 2 ^ 11 % 2 = 1 ∧ ¬ X / 2 ^ 12 % 2 = 1) (w : World) : Calls Tryz.prog 42 #[.int .u32 (X : Int)] w fun e w' => ∃ v0 v1 v2, e = .returned (.agg #[v0, v1, v2]) ∧ RepB w' w.heap.size 3 [v0, v1, v2] (wn 5 [eT (mset (dropN X) 14), wn 6 [wk 12]]) ∧ Below w.heap.size w w' := by
  have hb0 := One.start w (.int .i64 0) (.int .i64 0) (.slice none 0 0)
  have hm := (mask_ptr X hX).2 h1
  have hz : ((X : Int) == 0) = false := by simp; exact h0
  have HE := Lib.hid (eitherP X hX h0 0)
  generalize (eT (mset (dropN X) 14) : Wt (0 + 2)) = T at HE
  clear h1
  go_enter Tryz.func42, Tryz.ntmps42
  go_wp2_with fail
  refine (HE.out _).mono ?_
  rintro e w1 ⟨v0, v1, v2, rfl, R1, b1⟩
  obtain ⟨o, m, ad, len, cap, rfl, rfl, rfl⟩ := repB_shape R1
  go_wp2_with fail
  refine (ofKindP 12 _).mono ?_
  rintro e w2 ⟨rfl, b2⟩
  go_wp2_with fail
  refine (notP 2 12 none 0 0 _).mono ?_
  rintro e w3 ⟨N3, rfl, hN3, h3, b3⟩
  go_wp2_with fail
  refine (andP o m ad len cap 6 0 (some ⟨N3, 0, none⟩) 1 1 _).mono ?_
  rintro e w4 ⟨N4, rfl, hN4, h4, b4⟩
  have o4 := (((hb0.step b1).step b2).step b3).step b4
  obtain ⟨c0, c1, c2⟩ := o4.c
  have fz := o4.f
  have s1 : w.heap.size + 1 ≤ w1.heap.size := by have := b1.size; simp at this; omega
  have s2 := b2.size
  have s3 := b3.size
  have R1' : RepB w4 (w.heap.size + 1) 2 [.int .i64 o, .int .i64 m, .slice ad len cap] T := by
    have := RepB.below b4 (RepB.below b3 (RepB.below b2 R1))
    simpa using this
  have R2 : RepB w4 (w.heap.size + 1) 3 [.int .i64 5, .int .i64 0, .slice (some ⟨N4, 0, none⟩) 2 2] (wn 5 [T, wn 6 [wk 12]]) := repB_two (by omega) h4 R1' (repB_one (by omega) ((b4.block N3 (lt_of_heap h3)).trans h3) (repB_wk _ _ _ _))
  have kp : ∀ (x y z : Value) (g : Nat), w.heap.size + 1 ≤ g → g < w4.heap.size → (((w4.setCell ⟨w.heap.size, 0, none⟩ x).setCell ⟨w.heap.size, 1, none⟩ y).setCell ⟨w.heap.size, 2, none⟩ z).heap[g]? = w4.heap[g]? := fun x y z g hg _ => by
    rw [Below.heap_setCell _ _ _ g (by show g ≠ w.heap.size; omega), Below.heap_setCell _ _ _ g (by show g ≠ w.heap.size; omega), Below.heap_setCell _ _ _ g (by show g ≠ w.heap.size; omega)]
  have R3 := Lib.hid fun x y z => RepB.mono (Nat.le_succ _) _ _ _ (RepB.kept (kp x y z) _ _ _ R2)
  clear R2 R1' R1 kp h3 h4 b1 b2 b3 b4
  go_wp2_with fail
  exact bodyPost_ret (v := .agg #[.int .i64 5, .int .i64 0, .slice (some ⟨N4, 0, none⟩) 2 2]) (by simp [results, Tryz.results42, go_sem, World.cell?_setCell_same, World.cell?_setCell_other, c0, c1, c2]) rfl ⟨_, _, _, rfl, R3.out _ _ _, ((o4.below.setCell (Nat.le_refl _) _).setCell (Nat.le_refl _) _).setCell (Nat.le_refl _) _⟩

set_option maxRecDepth 100000 in
set_option maxHeartbeats 2000000 in
theorem plain2 (X : Nat) (hX : X < 16384) (h0 : X ≠ 0) (h1 : ¬ (X / 2 ^ 11 % 2 = 1 ∧ ¬ X / 2 ^ 12 % 2 = 1)) (w : World) : Calls Tryz.prog 42 #[.int .u32 (X : Int)] w fun e w' => ∃ v0 v1 v2, e = .returned (.agg #[v0, v1, v2]) ∧ RepB w' w.heap.size 3 [v0, v1, v2] (eT (mset (dropN X) 14)) ∧ Below w.heap.size w w' := by
  have hb0 := One.start w (.int .i64 0) (.int .i64 0) (.slice none 0 0)
  have hm : (bits .and .u32 (X : Int) 6144 == 2048) = false := by simp; exact fun h => h1 ((mask_ptr X hX).1 h)
  have hz : ((X : Int) == 0) = false := by simp; exact h0
  have HE := Lib.hid (eitherP X hX h0 1)
  generalize (eT (mset (dropN X) 14) : Wt (1 + 2)) = T at HE
  clear h1
  go_enter Tryz.func42, Tryz.ntmps42
  go_wp2_with fail
  refine (HE.out _).mono ?_
  rintro e w1 ⟨v0, v1, v2, rfl, R1, b1⟩
  obtain ⟨o, m, ad, len, cap, rfl, rfl, rfl⟩ := repB_shape R1
  have o4 := hb0.step b1
  obtain ⟨c0, c1, c2⟩ := o4.c
  have fz := o4.f
  have R2 : RepB w1 (w.heap.size + 1) 3 [.int .i64 o, .int .i64 m, .slice ad len cap] T := by simpa using R1
  have kp : ∀ (x y z : Value) (g : Nat), w.heap.size + 1 ≤ g → g < w1.heap.size → (((w1.setCell ⟨w.heap.size, 0, none⟩ x).setCell ⟨w.heap.size, 1, none⟩ y).setCell ⟨w.heap.size, 2, none⟩ z).heap[g]? = w1.heap[g]? := fun x y z g hg _ => by
    rw [Below.heap_setCell _ _ _ g (by show g ≠ w.heap.size; omega), Below.heap_setCell _ _ _ g (by show g ≠ w.heap.size; omega), Below.heap_setCell _ _ _ g (by show g ≠ w.heap.size; omega)]
  have R3 := Lib.hid fun x y z => RepB.mono (Nat.le_succ _) _ _ _ (RepB.kept (kp x y z) _ _ _ R2)
  clear R2 R1 kp b1
  go_wp2_with fail
  exact bodyPost_ret (v := .agg #[.int .i64 o, .int .i64 m, .slice ad len cap]) (by simp [results, Tryz.results42, go_sem, World.cell?_setCell_same, World.cell?_setCell_other, c0, c1, c2]) rfl ⟨_, _, _, rfl, R3.out _ _ _, ((o4.below.setCell (Nat.le_refl _) _).setCell (Nat.le_refl _) _).setCell (Nat.le_refl _) _⟩

theorem plain_bits (X : Nat) (hX : X < 16384) (w : World) : Calls Tryz.prog 42 #[.int .u32 (X : Int)] w fun e w' => ∃ v0 v1 v2, e = .returned (.agg #[v0, v1, v2]) ∧ RepB w' w.heap.size 3 [v0, v1, v2] (pT X) ∧ Below w.heap.size w w' := by
  unfold pT
  by_cases h0 : X = 0
  · subst h0; exact plain0 w
  · rw [if_neg h0]
    by_cases h1 : X / 2 ^ 11 % 2 = 1 ∧ ¬ X / 2 ^ 12 % 2 = 1
    · rw [if_pos h1]; exact plain1 X hX h0 h1 w
    · rw [if_neg h1]; exact plain2 X hX h0 h1 w

set_option maxRecDepth 100000 in
set_option maxHeartbeats 2000000 in
theorem plainP (n : Nat) (t : Wt n) (v0 v1 v2 : Value) (w : World) (hr : RepW w n [v0, v1, v2] t) (hg : wgt n t = true) :
    Calls Tryz.prog 21 #[.agg #[v0, v1, v2]] w fun e w' => ∃ x0 x1 x2, e = .returned (.agg #[x0, x1, x2]) ∧ RepB w' w.heap.size 3 [x0, x1, x2] (pT (kset (evk n t) 14)) ∧ Below w.heap.size w w' := by
  obtain ⟨o, m, wd, wl, wc, rfl, rfl, rfl⟩ := repW_shape hr
  have hb0 := Tw.start w (.int .i64 o) (.int .i64 m) (.slice wd wl wc) (.int .i64 0) (.int .i64 0) (.slice none 0 0)
  have HK := Lib.hid (kinds_any n t _ _ _ _ (RepW.below hb0.below n _ _ hr) hg)
  have hX := kset_lt (evk n t) 14
  have HP := Lib.hid (plain_bits (kset (evk n t) 14) hX)
  generalize kset (evk n t) 14 = X at HK HP
  clear hr hg hX
  obtain ⟨⟨c0, c1, c2⟩, d0, d1, d2⟩ := hb0.c
  go_enter Tryz.func21, Tryz.ntmps21
  go_wp2_with fail
  refine HK.out.mono ?_
  rintro e w1 ⟨rfl, b1⟩
  go_wp2_with fail
  refine (HP.out _).mono ?_
  rintro e w2 ⟨v0, v1, v2, rfl, R1, b2⟩
  obtain ⟨o', m', ad, len, cap, rfl, rfl, rfl⟩ := repB_shape R1
  have T2 := (hb0.step b1).step b2
  clear c0 c1 c2 d0 d1 d2
  obtain ⟨-, c0, c1, c2⟩ := T2.c
  have fz := T2.f
  have s1 : w.heap.size + 2 ≤ w1.heap.size := by have := b1.size; simp at this; omega
  have kp : ∀ (x y z : Value) (g : Nat), w1.heap.size ≤ g → g < w2.heap.size → (((w2.setCell ⟨w.heap.size + 1, 0, none⟩ x).setCell ⟨w.heap.size + 1, 1, none⟩ y).setCell ⟨w.heap.size + 1, 2, none⟩ z).heap[g]? = w2.heap[g]? := fun x y z g hg _ => by
    rw [Below.heap_setCell _ _ _ g (by show g ≠ w.heap.size + 1; omega), Below.heap_setCell _ _ _ g (by show g ≠ w.heap.size + 1; omega), Below.heap_setCell _ _ _ g (by show g ≠ w.heap.size + 1; omega)]
  have R3 := Lib.hid fun x y z => RepB.mono (show w.heap.size ≤ w1.heap.size by omega) _ _ _ (RepB.kept (kp x y z) _ _ _ R1)
  clear R1 kp b1 b2
  go_wp2_with fail
  exact bodyPost_ret (v := .agg #[.int .i64 o', .int .i64 m', .slice ad len cap]) (by simp [results, Tryz.results21, go_sem, World.cell?_setCell_same, World.cell?_setCell_other, c0, c1, c2]) rfl ⟨_, _, _, rfl, R3.out _ _ _, ((T2.below.setCell (by show w.heap.size ≤ w.heap.size + 1; omega) _).setCell (by show w.heap.size ≤ w.heap.size + 1; omega) _).setCell (by show w.heap.size ≤ w.heap.size + 1; omega) _⟩
end Go.Proofs.YtokiaolgdkikiaaGreat
