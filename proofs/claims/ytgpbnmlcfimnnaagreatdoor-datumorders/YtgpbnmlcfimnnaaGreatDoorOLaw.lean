/- The law DatumOrders over three values' trees: it returns true, in new memory alone; the conditions: the trees in memory, the bits of the first two as a uint64 has them, the tables that are read as the text lays them. -/
import Derived.Test.YtgpbnmlcfimnnaaGreatDoorOEq
import Derived.Test.YtgpbnmlcfimnnaaGreatDoorOOrd
import Derived.Test.YtgpbnmlcfimnnaaGreatDoorAnsG
import Derived.Test.YtgpbnmlcfimnnaaGreatDoorAwAwake
namespace Go.Proofs.YtgpbnmlcfimnnaaGreatDoor.Dt
open Go.RowKit

set_option maxRecDepth 100000 in
set_option maxHeartbeats 2000000 in
theorem nan3 (i u : Int) (s : ByteArray) (ad : Option Addr) (len cap : Nat) (w : World) :
    Calls Tryz.prog 9 #[.agg #[.int .i64 3, .int .i64 i, .int .u64 u, .string s, .slice ad len cap]] w fun e w' => e = .returned (.bool (nanB u)) ∧ Below w.heap.size w w' := by
  have hn : nanB u = ((bits .and .u64 u 9218868437227405312 == 9218868437227405312) && (bits .and .u64 u 4503599627370495 != 0)) := rfl
  by_cases h : bits .and .u64 u 9218868437227405312 = 9218868437227405312
  · have hn' : nanB u = (bits .and .u64 u 4503599627370495 != 0) := by rw [hn, h]; simp
    rw [hn']
    clear hn hn'
    go_enter Tryz.func9, Tryz.ntmps9
    go_wp2
    go_ret
    exact ⟨rfl, (Below.refl _ w).alloc (Nat.le_refl _) _⟩
  · have hn' : nanB u = false := by rw [hn]; simp [h]
    rw [hn']
    clear hn hn'
    go_enter Tryz.func9, Tryz.ntmps9
    go_wp2
    go_ret
    exact ⟨rfl, (Below.refl _ w).alloc (Nat.le_refl _) _⟩
theorem nanO (k i u : Int) (hk : k ≠ 3) (hk' : k ≠ 9) (s : ByteArray) (ad : Option Addr) (len cap : Nat) (w : World) :
    Calls Tryz.prog 9 #[.agg #[.int .i64 k, .int .i64 i, .int .u64 u, .string s, .slice ad len cap]] w fun e w' => e = .returned (.bool false) ∧ Below w.heap.size w w' := by
  go_enter Tryz.func9, Tryz.ntmps9
  go_wp2
  go_ret
  exact ⟨rfl, (Below.refl _ w).alloc (Nat.le_refl _) _⟩
theorem nan_any (k i u : Int) (hk : 1 ≤ k ∧ k ≤ 5) (s : ByteArray) (ad : Option Addr) (len cap : Nat) (w : World) :
    Calls Tryz.prog 9 #[.agg #[.int .i64 k, .int .i64 i, .int .u64 u, .string s, .slice ad len cap]] w fun e w' => e = .returned (.bool (nanV k u)) ∧ Below w.heap.size w w' := by
  unfold nanV
  by_cases h3 : k = 3
  · subst h3; rw [if_pos rfl]; exact nan3 _ _ _ _ _ _ _
  · rw [if_neg h3]; exact nanO _ _ _ h3 (by omega) _ _ _ _ _
theorem less_any (k i u j v : Int) (hk : 1 ≤ k ∧ k ≤ 5) (s z : ByteArray) (ad bd : Option Addr) (len cap len' cap' : Nat) (w : World) :
    Calls Tryz.prog 7 #[.agg #[.int .i64 k, .int .i64 i, .int .u64 u, .string s, .slice ad len cap], .agg #[.int .i64 k, .int .i64 j, .int .u64 v, .string z, .slice bd len' cap']] w fun e w' => e = .returned (.tuple #[.bool (ltV k i u s j v z), .int .i64 0]) ∧ Below w.heap.size w w' := by
  obtain h | h | h | h | h : k = 1 ∨ k = 2 ∨ k = 3 ∨ k = 4 ∨ k = 5 := by omega
  · subst h; exact odLess1 _ _ _ _ _ _ _ _ _ _ _ _ _
  · subst h; exact odLess2 _ _ _ _ _ _ _ _ _ _ _ _ _
  · subst h; exact odLess3 _ _ _ _ _ _ _ _ _ _ _ _ _
  · subst h; exact odLess4 _ _ _ _ _ _ _ _ _ _ _ _ _
  · subst h; exact odLess5 _ _ _ _ _ _ _ _ _ _ _ _ _
theorem equal_any (k i u j v : Int) (hk : 1 ≤ k ∧ k ≤ 5) (s z : ByteArray) (ad bd : Option Addr) (len cap len' cap' : Nat) (w : World) :
    Calls Tryz.prog 8 #[.agg #[.int .i64 k, .int .i64 i, .int .u64 u, .string s, .slice ad len cap], .agg #[.int .i64 k, .int .i64 j, .int .u64 v, .string z, .slice bd len' cap']] w fun e w' => e = .returned (.tuple #[.bool (eqV k i u s j v z), .int .i64 0]) ∧ Below w.heap.size w w' := by
  obtain h | h | h | h | h : k = 1 ∨ k = 2 ∨ k = 3 ∨ k = 4 ∨ k = 5 := by omega
  · subst h; exact odEqual1 _ _ _ _ _ _ _ _ _ _ _ _ _
  · subst h; exact odEqual2 _ _ _ _ _ _ _ _ _ _ _ _ _
  · subst h; exact odEqual3 _ _ _ _ _ _ _ _ _ _ _ _ _
  · subst h; exact odEqual4 _ _ _ _ _ _ _ _ _ _ _ _ _
  · subst h; exact odEqual5 _ _ _ _ _ _ _ _ _ _ _ _ _
theorem has_less (k : Int) : refHas k 4 = decide (1 ≤ k ∧ k ≤ 5) := by
  rw [Bool.eq_iff_iff]
  simp [refHas]
  omega

/-- A loop that ends within n + 1 turns. -/
def Un (P : Program) (c : Code) (Q : Exit → Act → World → Prop) : Nat → Act → World → Prop
  | 0, a, w => c.wp P (Exit.then (fun _ _ => False) Q) a w
  | n + 1, a, w => c.wp P (Exit.then (Un P c Q n) Q) a w
theorem cells3 {w : World} {N : Nat} {t : TypeId} {x y z : Value} (h : w.heap[N]? = some (.cells #[x, y, z] t (0, 0))) : w.cell? ⟨N, 0, none⟩ = some x ∧ w.cell? ⟨N, 1, none⟩ = some y ∧ w.cell? ⟨N, 2, none⟩ = some z := by simp [World.cell?, h]
theorem least (X : Nat → Prop) : ∀ n, X n → ∃ m, X m ∧ ∀ j, X j → m ≤ j := by
  intro n
  induction n using Nat.strongRecOn with
  | _ n ih =>
    intro h
    by_cases hx : ∃ j, j < n ∧ X j
    · obtain ⟨j, hj, hXj⟩ := hx; exact ih j hj hXj
    · exact ⟨n, h, fun j hj => by by_cases hl : n ≤ j; exact hl; exact absurd ⟨j, by omega, hj⟩ hx⟩
theorem wp_turns {P : Program} {c : Code} {Q : Exit → Act → World → Prop} (n : Nat) {a : Act} {w : World} (h : Un P c Q n a w) : (Code.loop c).wp P Q a w := by
  refine wp_loop (fun a w => ∃ m, Un P c Q m a w) (fun a w => Classical.epsilon fun m => Un P c Q m a w ∧ ∀ j, Un P c Q j a w → m ≤ j) ⟨n, h⟩ ?_
  rintro a w ⟨m, hm⟩
  have E := Classical.epsilon_spec (least (fun m => Un P c Q m a w) m hm)
  generalize (Classical.epsilon fun m => Un P c Q m a w ∧ ∀ j, Un P c Q j a w → m ≤ j) = q at E ⊢
  cases q with
  | zero => exact Code.wp_mono (fun e a w x => by cases e <;> first | exact x | exact x.elim) E.1
  | succ q =>
    refine Code.wp_mono (fun e a' w' x => ?_) (show c.wp P (Exit.then (Un P c Q q) Q) a w from E.1)
    cases e with
    | normal =>
      have F := Classical.epsilon_spec (least (fun m => Un P c Q m a' w') q x)
      exact ⟨⟨q, x⟩, by have := F.2 q x; omega⟩
    | _ => exact x
theorem un_succ {P : Program} {c : Code} {Q : Exit → Act → World → Prop} {n : Nat} {a : Act} {w : World} (h : c.wp P (Exit.then (Un P c Q n) Q) a w) : Un P c Q (n + 1) a w := h
theorem un_zero {P : Program} {c : Code} {Q : Exit → Act → World → Prop} {a : Act} {w : World} (h : c.wp P (Exit.then (fun _ _ => False) Q) a w) : Un P c Q 0 a w := h

set_option maxRecDepth 100000 in
set_option maxHeartbeats 4000000 in
theorem law_orders (na nb nc : Nat) (ta : Tr na) (tb : Tr nb) (tc : Tr nc) (ka ia ua kb ib ub kc ic uc : Int) (sa sb sc : ByteArray) (pa pb pc : Option Addr) (la ca lb cb lc cc : Nat) (w : World)
    (ha : Rep w na [.int .i64 ka, .int .i64 ia, .int .u64 ua, .string sa, .slice pa la ca] ta) (hb : Rep w nb [.int .i64 kb, .int .i64 ib, .int .u64 ub, .string sb, .slice pb lb cb] tb) (hc : Rep w nc [.int .i64 kc, .int .i64 ic, .int .u64 uc, .string sc, .slice pc lc cc] tc) (hua : In64 ua) (hub : In64 ub) (hT : Aw.Tab w) (hP : Aw.Pow0 w) :
    Calls Tryz.prog 3 #[.agg #[.int .i64 ka, .int .i64 ia, .int .u64 ua, .string sa, .slice pa la ca], .agg #[.int .i64 kb, .int .i64 ib, .int .u64 ub, .string sb, .slice pb lb cb], .agg #[.int .i64 kc, .int .i64 ic, .int .u64 uc, .string sc, .slice pc lc cc]] w fun e w' => e = .returned (.bool true) ∧ Below w.heap.size w w' := by
  have bx : Below w.heap.size w (((w.alloc (.cells #[.int .i64 ka, .int .i64 ia, .int .u64 ua, .string sa, .slice pa la ca] 25)).alloc (.cells #[.int .i64 kb, .int .i64 ib, .int .u64 ub, .string sb, .slice pb lb cb] 25)).alloc (.cells #[.int .i64 kc, .int .i64 ic, .int .u64 uc, .string sc, .slice pc lc cc] 25)) := (((Below.refl _ w).alloc (Nat.le_refl _) _).alloc (by simp) _).alloc (by simp; omega) _
  have sx : (((w.alloc (.cells #[.int .i64 ka, .int .i64 ia, .int .u64 ua, .string sa, .slice pa la ca] 25)).alloc (.cells #[.int .i64 kb, .int .i64 ib, .int .u64 ub, .string sb, .slice pb lb cb] 25)).alloc (.cells #[.int .i64 kc, .int .i64 ic, .int .u64 uc, .string sc, .slice pc lc cc] 25)).heap.size = (w.heap.size + 1 + 1 + 1) := by simp
  have cv : ∀ w', Below (w.heap.size + 1 + 1 + 1) (((w.alloc (.cells #[.int .i64 ka, .int .i64 ia, .int .u64 ua, .string sa, .slice pa la ca] 25)).alloc (.cells #[.int .i64 kb, .int .i64 ib, .int .u64 ub, .string sb, .slice pb lb cb] 25)).alloc (.cells #[.int .i64 kc, .int .i64 ic, .int .u64 uc, .string sc, .slice pc lc cc] 25)) w' → Below (((w.alloc (.cells #[.int .i64 ka, .int .i64 ia, .int .u64 ua, .string sa, .slice pa la ca] 25)).alloc (.cells #[.int .i64 kb, .int .i64 ib, .int .u64 ub, .string sb, .slice pb lb cb] 25)).alloc (.cells #[.int .i64 kc, .int .i64 ic, .int .u64 uc, .string sc, .slice pc lc cc] 25)).heap.size (((w.alloc (.cells #[.int .i64 ka, .int .i64 ia, .int .u64 ua, .string sa, .slice pa la ca] 25)).alloc (.cells #[.int .i64 kb, .int .i64 ib, .int .u64 ub, .string sb, .slice pb lb cb] 25)).alloc (.cells #[.int .i64 kc, .int .i64 ic, .int .u64 uc, .string sc, .slice pc lc cc] 25)) w' := fun w' h => by rw [sx]; exact h
  have up : ∀ w', Below (w.heap.size + 1 + 1 + 1) (((w.alloc (.cells #[.int .i64 ka, .int .i64 ia, .int .u64 ua, .string sa, .slice pa la ca] 25)).alloc (.cells #[.int .i64 kb, .int .i64 ib, .int .u64 ub, .string sb, .slice pb lb cb] 25)).alloc (.cells #[.int .i64 kc, .int .i64 ic, .int .u64 uc, .string sc, .slice pc lc cc] 25)) w' → (w.heap.size + 1 + 1 + 1) ≤ w'.heap.size := fun w' h => by have := h.size; rwa [sx] at this
  have HK : Hid (∀ w', Below (w.heap.size + 1 + 1 + 1) (((w.alloc (.cells #[.int .i64 ka, .int .i64 ia, .int .u64 ua, .string sa, .slice pa la ca] 25)).alloc (.cells #[.int .i64 kb, .int .i64 ib, .int .u64 ub, .string sb, .slice pb lb cb] 25)).alloc (.cells #[.int .i64 kc, .int .i64 ic, .int .u64 uc, .string sc, .slice pc lc cc] 25)) w' → (w'.cell? ⟨w.heap.size, 0, none⟩ = some (.int .i64 ka) ∧ w'.cell? ⟨w.heap.size, 1, none⟩ = some (.int .i64 ia) ∧ w'.cell? ⟨w.heap.size, 2, none⟩ = some (.int .u64 ua) ∧ w'.cell? ⟨w.heap.size, 3, none⟩ = some (.string sa) ∧ w'.cell? ⟨w.heap.size, 4, none⟩ = some (.slice pa la ca)) ∧ (w'.cell? ⟨w.heap.size + 1, 0, none⟩ = some (.int .i64 kb) ∧ w'.cell? ⟨w.heap.size + 1, 1, none⟩ = some (.int .i64 ib) ∧ w'.cell? ⟨w.heap.size + 1, 2, none⟩ = some (.int .u64 ub) ∧ w'.cell? ⟨w.heap.size + 1, 3, none⟩ = some (.string sb) ∧ w'.cell? ⟨w.heap.size + 1, 4, none⟩ = some (.slice pb lb cb)) ∧ w'.cell? ⟨w.heap.size + 1 + 1, 0, none⟩ = some (.int .i64 kc) ∧ w'.cell? ⟨w.heap.size + 1 + 1, 1, none⟩ = some (.int .i64 ic) ∧ w'.cell? ⟨w.heap.size + 1 + 1, 2, none⟩ = some (.int .u64 uc) ∧ w'.cell? ⟨w.heap.size + 1 + 1, 3, none⟩ = some (.string sc) ∧ w'.cell? ⟨w.heap.size + 1 + 1, 4, none⟩ = some (.slice pc lc cc)) := fun w' h => by
    have h' := cv w' h
    have d1 : D5 (((w.alloc (.cells #[.int .i64 ka, .int .i64 ia, .int .u64 ua, .string sa, .slice pa la ca] 25)).alloc (.cells #[.int .i64 kb, .int .i64 ib, .int .u64 ub, .string sb, .slice pb lb cb] 25)).alloc (.cells #[.int .i64 kc, .int .i64 ic, .int .u64 uc, .string sc, .slice pc lc cc] 25)) w.heap.size (.int .i64 ka) (.int .i64 ia) (.int .u64 ua) (.string sa) (.slice pa la ca) := ((D5.new w _ _ _ _ _).below (below1 _ _)).below (below1 _ _)
    have d2 : D5 (((w.alloc (.cells #[.int .i64 ka, .int .i64 ia, .int .u64 ua, .string sa, .slice pa la ca] 25)).alloc (.cells #[.int .i64 kb, .int .i64 ib, .int .u64 ub, .string sb, .slice pb lb cb] 25)).alloc (.cells #[.int .i64 kc, .int .i64 ic, .int .u64 uc, .string sc, .slice pc lc cc] 25)) (w.heap.size + 1) (.int .i64 kb) (.int .i64 ib) (.int .u64 ub) (.string sb) (.slice pb lb cb) := by
      have := D5.new (w.alloc (.cells #[.int .i64 ka, .int .i64 ia, .int .u64 ua, .string sa, .slice pa la ca] 25)) (.int .i64 kb) (.int .i64 ib) (.int .u64 ub) (.string sb) (.slice pb lb cb)
      rw [World.size_alloc] at this
      exact this.below (below1 _ _)
    have d3 : D5 (((w.alloc (.cells #[.int .i64 ka, .int .i64 ia, .int .u64 ua, .string sa, .slice pa la ca] 25)).alloc (.cells #[.int .i64 kb, .int .i64 ib, .int .u64 ub, .string sb, .slice pb lb cb] 25)).alloc (.cells #[.int .i64 kc, .int .i64 ic, .int .u64 uc, .string sc, .slice pc lc cc] 25)) (w.heap.size + 1 + 1) (.int .i64 kc) (.int .i64 ic) (.int .u64 uc) (.string sc) (.slice pc lc cc) := by
      have := D5.new ((w.alloc (.cells #[.int .i64 ka, .int .i64 ia, .int .u64 ua, .string sa, .slice pa la ca] 25)).alloc (.cells #[.int .i64 kb, .int .i64 ib, .int .u64 ub, .string sb, .slice pb lb cb] 25)) (.int .i64 kc) (.int .i64 ic) (.int .u64 uc) (.string sc) (.slice pc lc cc)
      rw [World.size_alloc, World.size_alloc] at this
      exact this
    exact ⟨(d1.below h').c, (d2.below h').c, (d3.below h').c⟩
  have HVa : Hid (∀ w', Below (w.heap.size + 1 + 1 + 1) (((w.alloc (.cells #[.int .i64 ka, .int .i64 ia, .int .u64 ua, .string sa, .slice pa la ca] 25)).alloc (.cells #[.int .i64 kb, .int .i64 ib, .int .u64 ub, .string sb, .slice pb lb cb] 25)).alloc (.cells #[.int .i64 kc, .int .i64 ic, .int .u64 uc, .string sc, .slice pc lc cc] 25)) w' → Calls Tryz.prog 4 #[.agg #[.int .i64 ka, .int .i64 ia, .int .u64 ua, .string sa, .slice pa la ca]] w' fun e w'' => e = .returned (.bool (vB na ta)) ∧ Below (w.heap.size + 1 + 1 + 1) (((w.alloc (.cells #[.int .i64 ka, .int .i64 ia, .int .u64 ua, .string sa, .slice pa la ca] 25)).alloc (.cells #[.int .i64 kb, .int .i64 ib, .int .u64 ub, .string sb, .slice pb lb cb] 25)).alloc (.cells #[.int .i64 kc, .int .i64 ic, .int .u64 uc, .string sc, .slice pc lc cc] 25)) w'') := fun w' h =>
    (refValid na ta _ _ _ _ _ w' (Rep.below (cv w' h) na _ _ (Rep.below bx na _ _ ha))).mono fun e w'' ⟨he, h'⟩ => ⟨he, h.trans (h'.mono (up w' h))⟩
  have HVb : Hid (∀ w', Below (w.heap.size + 1 + 1 + 1) (((w.alloc (.cells #[.int .i64 ka, .int .i64 ia, .int .u64 ua, .string sa, .slice pa la ca] 25)).alloc (.cells #[.int .i64 kb, .int .i64 ib, .int .u64 ub, .string sb, .slice pb lb cb] 25)).alloc (.cells #[.int .i64 kc, .int .i64 ic, .int .u64 uc, .string sc, .slice pc lc cc] 25)) w' → Calls Tryz.prog 4 #[.agg #[.int .i64 kb, .int .i64 ib, .int .u64 ub, .string sb, .slice pb lb cb]] w' fun e w'' => e = .returned (.bool (vB nb tb)) ∧ Below (w.heap.size + 1 + 1 + 1) (((w.alloc (.cells #[.int .i64 ka, .int .i64 ia, .int .u64 ua, .string sa, .slice pa la ca] 25)).alloc (.cells #[.int .i64 kb, .int .i64 ib, .int .u64 ub, .string sb, .slice pb lb cb] 25)).alloc (.cells #[.int .i64 kc, .int .i64 ic, .int .u64 uc, .string sc, .slice pc lc cc] 25)) w'') := fun w' h =>
    (refValid nb tb _ _ _ _ _ w' (Rep.below (cv w' h) nb _ _ (Rep.below bx nb _ _ hb))).mono fun e w'' ⟨he, h'⟩ => ⟨he, h.trans (h'.mono (up w' h))⟩
  have HVc : Hid (∀ w', Below (w.heap.size + 1 + 1 + 1) (((w.alloc (.cells #[.int .i64 ka, .int .i64 ia, .int .u64 ua, .string sa, .slice pa la ca] 25)).alloc (.cells #[.int .i64 kb, .int .i64 ib, .int .u64 ub, .string sb, .slice pb lb cb] 25)).alloc (.cells #[.int .i64 kc, .int .i64 ic, .int .u64 uc, .string sc, .slice pc lc cc] 25)) w' → Calls Tryz.prog 4 #[.agg #[.int .i64 kc, .int .i64 ic, .int .u64 uc, .string sc, .slice pc lc cc]] w' fun e w'' => e = .returned (.bool (vB nc tc)) ∧ Below (w.heap.size + 1 + 1 + 1) (((w.alloc (.cells #[.int .i64 ka, .int .i64 ia, .int .u64 ua, .string sa, .slice pa la ca] 25)).alloc (.cells #[.int .i64 kb, .int .i64 ib, .int .u64 ub, .string sb, .slice pb lb cb] 25)).alloc (.cells #[.int .i64 kc, .int .i64 ic, .int .u64 uc, .string sc, .slice pc lc cc] 25)) w'') := fun w' h =>
    (refValid nc tc _ _ _ _ _ w' (Rep.below (cv w' h) nc _ _ (Rep.below bx nc _ _ hc))).mono fun e w'' ⟨he, h'⟩ => ⟨he, h.trans (h'.mono (up w' h))⟩
  have HW : Hid (∀ w', Below (w.heap.size + 1 + 1 + 1) (((w.alloc (.cells #[.int .i64 ka, .int .i64 ia, .int .u64 ua, .string sa, .slice pa la ca] 25)).alloc (.cells #[.int .i64 kb, .int .i64 ib, .int .u64 ub, .string sb, .slice pb lb cb] 25)).alloc (.cells #[.int .i64 kc, .int .i64 ic, .int .u64 uc, .string sc, .slice pc lc cc] 25)) w' → Calls Tryz.prog 6 #[] w' fun e w'' => e = .returned (.bool true) ∧ Below w.heap.size w w'') := fun w' h => by
    have b2 : Below w.heap.size w w' := bx.trans (h.mono (by omega))
    exact (Aw.awake_any w' (hT.below b2) ((Lib.tabBelow_of_tabIs hP).on b2).here).mono fun e w'' ⟨he, h'⟩ => ⟨he, b2.trans (h'.mono b2.size)⟩
  have HH : Hid (∀ w', Below (w.heap.size + 1 + 1 + 1) (((w.alloc (.cells #[.int .i64 ka, .int .i64 ia, .int .u64 ua, .string sa, .slice pa la ca] 25)).alloc (.cells #[.int .i64 kb, .int .i64 ib, .int .u64 ub, .string sb, .slice pb lb cb] 25)).alloc (.cells #[.int .i64 kc, .int .i64 ic, .int .u64 uc, .string sc, .slice pc lc cc] 25)) w' → Calls Tryz.prog 5 #[.int .i64 ka, .int .i64 4] w' fun e w'' => e = .returned (.bool (refHas ka 4)) ∧ Below (w.heap.size + 1 + 1 + 1) (((w.alloc (.cells #[.int .i64 ka, .int .i64 ia, .int .u64 ua, .string sa, .slice pa la ca] 25)).alloc (.cells #[.int .i64 kb, .int .i64 ib, .int .u64 ub, .string sb, .slice pb lb cb] 25)).alloc (.cells #[.int .i64 kc, .int .i64 ic, .int .u64 uc, .string sc, .slice pc lc cc] 25)) w'') := fun w' h =>
    (has_any ka 4 w').mono fun e w'' ⟨he, h'⟩ => ⟨he, h.trans (h'.mono (up w' h))⟩
  have B0 : Hid (Below (w.heap.size + 1 + 1 + 1) (((w.alloc (.cells #[.int .i64 ka, .int .i64 ia, .int .u64 ua, .string sa, .slice pa la ca] 25)).alloc (.cells #[.int .i64 kb, .int .i64 ib, .int .u64 ub, .string sb, .slice pb lb cb] 25)).alloc (.cells #[.int .i64 kc, .int .i64 ic, .int .u64 uc, .string sc, .slice pc lc cc] 25)) (((w.alloc (.cells #[.int .i64 ka, .int .i64 ia, .int .u64 ua, .string sa, .slice pa la ca] 25)).alloc (.cells #[.int .i64 kb, .int .i64 ib, .int .u64 ub, .string sb, .slice pb lb cb] 25)).alloc (.cells #[.int .i64 kc, .int .i64 ic, .int .u64 uc, .string sc, .slice pc lc cc] 25))) := Below.refl _ _
  clear bx sx ha hb hc hT hP
  by_cases va : vB na ta = false
  · rw [va] at HVa
    clear cv up HVb HVc HH hua hub va
    go_enter Tryz.func3, Tryz.ntmps3
    go_wp2_with fail
    refine (HVa.out _ B0.out).mono ?_
    rintro e w1 ⟨rfl, b1⟩
    go_wp2_with fail
    refine (HW.out _ b1).mono ?_
    rintro e w2 ⟨rfl, b2⟩
    go_wp2_with fail
    go_ret
    exact ⟨rfl, b2⟩
  have va' : vB na ta = true := by simpa using va
  rw [va'] at HVa
  clear va va'
  by_cases vb : vB nb tb = false
  · rw [vb] at HVb
    clear cv up HVc HH hua hub vb
    go_enter Tryz.func3, Tryz.ntmps3
    go_wp2_with fail
    refine (HVa.out _ B0.out).mono ?_
    rintro e w1 ⟨rfl, b1⟩
    have k1 := HK.out _ b1
    go_wp2_with fail
    refine (HVb.out _ b1).mono ?_
    rintro e w2 ⟨rfl, b2⟩
    clear k1
    go_wp2_with fail
    refine (HW.out _ b2).mono ?_
    rintro e w3 ⟨rfl, b3⟩
    go_wp2_with fail
    go_ret
    exact ⟨rfl, b3⟩
  have vb' : vB nb tb = true := by simpa using vb
  rw [vb'] at HVb
  clear vb vb'
  by_cases vc : vB nc tc = false
  · rw [vc] at HVc
    clear cv up HH hua hub vc
    go_enter Tryz.func3, Tryz.ntmps3
    go_wp2_with fail
    refine (HVa.out _ B0.out).mono ?_
    rintro e w1 ⟨rfl, b1⟩
    have k1 := HK.out _ b1
    go_wp2_with fail
    refine (HVb.out _ b1).mono ?_
    rintro e w2 ⟨rfl, b2⟩
    clear k1 b1
    have k2 := HK.out _ b2
    go_wp2_with fail
    refine (HVc.out _ b2).mono ?_
    rintro e w3 ⟨rfl, b3⟩
    clear k2 b2
    go_wp2_with fail
    refine (HW.out _ b3).mono ?_
    rintro e wl ⟨rfl, bl⟩
    go_wp2_with fail
    go_ret
    exact ⟨rfl, bl⟩
  have vc' : vB nc tc = true := by simpa using vc
  rw [vc'] at HVc
  clear vc vc'
  by_cases hk : ka = kb
  case neg =>
    clear cv up HH hua hub
    go_enter Tryz.func3, Tryz.ntmps3
    go_wp2_with fail
    refine (HVa.out _ B0.out).mono ?_
    rintro e w1 ⟨rfl, b1⟩
    have k1 := HK.out _ b1
    go_wp2_with fail
    refine (HVb.out _ b1).mono ?_
    rintro e w2 ⟨rfl, b2⟩
    clear k1 b1
    have k2 := HK.out _ b2
    go_wp2_with fail
    refine (HVc.out _ b2).mono ?_
    rintro e w3 ⟨rfl, b3⟩
    clear k2 b2
    have k3 := HK.out _ b3
    go_wp2_with fail
    refine (HW.out _ b3).mono ?_
    rintro e wl ⟨rfl, bl⟩
    go_wp2_with fail
    go_ret
    exact ⟨rfl, bl⟩
  subst hk
  by_cases h5 : 1 ≤ ka ∧ ka ≤ 5
  case neg =>
    have hh : refHas ka 4 = false := by rw [has_less]; simpa using h5
    rw [hh] at HH
    clear cv up hua hub hh h5
    go_enter Tryz.func3, Tryz.ntmps3
    go_wp2_with fail
    refine (HVa.out _ B0.out).mono ?_
    rintro e w1 ⟨rfl, b1⟩
    have k1 := HK.out _ b1
    go_wp2_with fail
    refine (HVb.out _ b1).mono ?_
    rintro e w2 ⟨rfl, b2⟩
    clear k1 b1
    have k2 := HK.out _ b2
    go_wp2_with fail
    refine (HVc.out _ b2).mono ?_
    rintro e w3 ⟨rfl, b3⟩
    clear k2 b2
    have k3 := HK.out _ b3
    go_wp2_with fail
    refine (HH.out _ b3).mono ?_
    rintro e w4 ⟨rfl, b4⟩
    clear k3 b3
    go_wp2_with fail
    refine (HW.out _ b4).mono ?_
    rintro e wl ⟨rfl, bl⟩
    go_wp2_with fail
    go_ret
    exact ⟨rfl, bl⟩
  have hh : refHas ka 4 = true := by rw [has_less]; simpa using h5
  rw [hh] at HH
  clear hh
  have HLab : Hid (∀ w', Below (w.heap.size + 1 + 1 + 1) (((w.alloc (.cells #[.int .i64 ka, .int .i64 ia, .int .u64 ua, .string sa, .slice pa la ca] 25)).alloc (.cells #[.int .i64 ka, .int .i64 ib, .int .u64 ub, .string sb, .slice pb lb cb] 25)).alloc (.cells #[.int .i64 kc, .int .i64 ic, .int .u64 uc, .string sc, .slice pc lc cc] 25)) w' → Calls Tryz.prog 7 #[.agg #[.int .i64 ka, .int .i64 ia, .int .u64 ua, .string sa, .slice pa la ca], .agg #[.int .i64 ka, .int .i64 ib, .int .u64 ub, .string sb, .slice pb lb cb]] w' fun e w'' => e = .returned (.tuple #[.bool (ltV ka ia ua sa ib ub sb), .int .i64 0]) ∧ Below (w.heap.size + 1 + 1 + 1) (((w.alloc (.cells #[.int .i64 ka, .int .i64 ia, .int .u64 ua, .string sa, .slice pa la ca] 25)).alloc (.cells #[.int .i64 ka, .int .i64 ib, .int .u64 ub, .string sb, .slice pb lb cb] 25)).alloc (.cells #[.int .i64 kc, .int .i64 ic, .int .u64 uc, .string sc, .slice pc lc cc] 25)) w'') := fun w' h =>
    (less_any ka _ _ _ _ h5 _ _ _ _ _ _ _ _ w').mono fun e w'' ⟨he, h'⟩ => ⟨he, h.trans (h'.mono (up w' h))⟩
  have HLba : Hid (∀ w', Below (w.heap.size + 1 + 1 + 1) (((w.alloc (.cells #[.int .i64 ka, .int .i64 ia, .int .u64 ua, .string sa, .slice pa la ca] 25)).alloc (.cells #[.int .i64 ka, .int .i64 ib, .int .u64 ub, .string sb, .slice pb lb cb] 25)).alloc (.cells #[.int .i64 kc, .int .i64 ic, .int .u64 uc, .string sc, .slice pc lc cc] 25)) w' → Calls Tryz.prog 7 #[.agg #[.int .i64 ka, .int .i64 ib, .int .u64 ub, .string sb, .slice pb lb cb], .agg #[.int .i64 ka, .int .i64 ia, .int .u64 ua, .string sa, .slice pa la ca]] w' fun e w'' => e = .returned (.tuple #[.bool (ltV ka ib ub sb ia ua sa), .int .i64 0]) ∧ Below (w.heap.size + 1 + 1 + 1) (((w.alloc (.cells #[.int .i64 ka, .int .i64 ia, .int .u64 ua, .string sa, .slice pa la ca] 25)).alloc (.cells #[.int .i64 ka, .int .i64 ib, .int .u64 ub, .string sb, .slice pb lb cb] 25)).alloc (.cells #[.int .i64 kc, .int .i64 ic, .int .u64 uc, .string sc, .slice pc lc cc] 25)) w'') := fun w' h =>
    (less_any ka _ _ _ _ h5 _ _ _ _ _ _ _ _ w').mono fun e w'' ⟨he, h'⟩ => ⟨he, h.trans (h'.mono (up w' h))⟩
  have HE : Hid (∀ w', Below (w.heap.size + 1 + 1 + 1) (((w.alloc (.cells #[.int .i64 ka, .int .i64 ia, .int .u64 ua, .string sa, .slice pa la ca] 25)).alloc (.cells #[.int .i64 ka, .int .i64 ib, .int .u64 ub, .string sb, .slice pb lb cb] 25)).alloc (.cells #[.int .i64 kc, .int .i64 ic, .int .u64 uc, .string sc, .slice pc lc cc] 25)) w' → Calls Tryz.prog 8 #[.agg #[.int .i64 ka, .int .i64 ia, .int .u64 ua, .string sa, .slice pa la ca], .agg #[.int .i64 ka, .int .i64 ib, .int .u64 ub, .string sb, .slice pb lb cb]] w' fun e w'' => e = .returned (.tuple #[.bool (eqV ka ia ua sa ib ub sb), .int .i64 0]) ∧ Below (w.heap.size + 1 + 1 + 1) (((w.alloc (.cells #[.int .i64 ka, .int .i64 ia, .int .u64 ua, .string sa, .slice pa la ca] 25)).alloc (.cells #[.int .i64 ka, .int .i64 ib, .int .u64 ub, .string sb, .slice pb lb cb] 25)).alloc (.cells #[.int .i64 kc, .int .i64 ic, .int .u64 uc, .string sc, .slice pc lc cc] 25)) w'') := fun w' h =>
    (equal_any ka _ _ _ _ h5 _ _ _ _ _ _ _ _ w').mono fun e w'' ⟨he, h'⟩ => ⟨he, h.trans (h'.mono (up w' h))⟩
  have HNa : Hid (∀ w', Below (w.heap.size + 1 + 1 + 1) (((w.alloc (.cells #[.int .i64 ka, .int .i64 ia, .int .u64 ua, .string sa, .slice pa la ca] 25)).alloc (.cells #[.int .i64 ka, .int .i64 ib, .int .u64 ub, .string sb, .slice pb lb cb] 25)).alloc (.cells #[.int .i64 kc, .int .i64 ic, .int .u64 uc, .string sc, .slice pc lc cc] 25)) w' → Calls Tryz.prog 9 #[.agg #[.int .i64 ka, .int .i64 ia, .int .u64 ua, .string sa, .slice pa la ca]] w' fun e w'' => e = .returned (.bool (nanV ka ua)) ∧ Below (w.heap.size + 1 + 1 + 1) (((w.alloc (.cells #[.int .i64 ka, .int .i64 ia, .int .u64 ua, .string sa, .slice pa la ca] 25)).alloc (.cells #[.int .i64 ka, .int .i64 ib, .int .u64 ub, .string sb, .slice pb lb cb] 25)).alloc (.cells #[.int .i64 kc, .int .i64 ic, .int .u64 uc, .string sc, .slice pc lc cc] 25)) w'') := fun w' h =>
    (nan_any ka _ _ h5 _ _ _ _ w').mono fun e w'' ⟨he, h'⟩ => ⟨he, h.trans (h'.mono (up w' h))⟩
  have HNb : Hid (∀ w', Below (w.heap.size + 1 + 1 + 1) (((w.alloc (.cells #[.int .i64 ka, .int .i64 ia, .int .u64 ua, .string sa, .slice pa la ca] 25)).alloc (.cells #[.int .i64 ka, .int .i64 ib, .int .u64 ub, .string sb, .slice pb lb cb] 25)).alloc (.cells #[.int .i64 kc, .int .i64 ic, .int .u64 uc, .string sc, .slice pc lc cc] 25)) w' → Calls Tryz.prog 9 #[.agg #[.int .i64 ka, .int .i64 ib, .int .u64 ub, .string sb, .slice pb lb cb]] w' fun e w'' => e = .returned (.bool (nanV ka ub)) ∧ Below (w.heap.size + 1 + 1 + 1) (((w.alloc (.cells #[.int .i64 ka, .int .i64 ia, .int .u64 ua, .string sa, .slice pa la ca] 25)).alloc (.cells #[.int .i64 ka, .int .i64 ib, .int .u64 ub, .string sb, .slice pb lb cb] 25)).alloc (.cells #[.int .i64 kc, .int .i64 ic, .int .u64 uc, .string sc, .slice pc lc cc] 25)) w'') := fun w' h =>
    (nan_any ka _ _ h5 _ _ _ _ w').mono fun e w'' ⟨he, h'⟩ => ⟨he, h.trans (h'.mono (up w' h))⟩
  by_cases nA : nanV ka ua = true
  · obtain ⟨z1, z2, z3⟩ := ltV_nan ka ia ua sa ib ub sb hua hub (.inl nA)
    rw [nA] at HNa
    rw [z1] at HLab
    rw [z2] at HLba
    rw [z3] at HE
    clear cv up hua hub nA z1 z2 z3
    go_enter Tryz.func3, Tryz.ntmps3
    go_wp2_with fail
    refine (HVa.out _ B0.out).mono ?_
    rintro e w1 ⟨rfl, b1⟩
    have k1 := HK.out _ b1
    go_wp2_with fail
    refine (HVb.out _ b1).mono ?_
    rintro e w2 ⟨rfl, b2⟩
    clear k1 b1
    have k2 := HK.out _ b2
    go_wp2_with fail
    refine (HVc.out _ b2).mono ?_
    rintro e w3 ⟨rfl, b3⟩
    clear k2 b2
    have k3 := HK.out _ b3
    go_wp2_with fail
    refine (HH.out _ b3).mono ?_
    rintro e w4 ⟨rfl, b4⟩
    clear k3 b3
    have k4 := HK.out _ b4
    go_wp2_with fail
    refine (HLab.out _ b4).mono ?_
    rintro e w5 ⟨rfl, b5⟩
    clear k4 b4
    have k5 := HK.out _ b5
    go_wp2_with fail
    refine (HLba.out _ b5).mono ?_
    rintro e w6 ⟨rfl, b6⟩
    clear k5 b5
    have k6 := HK.out _ b6
    go_wp2_with fail
    refine (HE.out _ b6).mono ?_
    rintro e w7 ⟨rfl, b7⟩
    clear k6 b6
    have k7 := HK.out _ b7
    go_wp2_with fail
    refine (HNa.out _ b7).mono ?_
    rintro e w8 ⟨rfl, b8⟩
    clear k7 b7
    go_wp2_with fail
    refine (HW.out _ b8).mono ?_
    rintro e wl ⟨rfl, bl⟩
    go_wp2_with fail
    go_ret
    exact ⟨rfl, bl⟩
  have nA' : nanV ka ua = false := by simpa using nA
  rw [nA'] at HNa
  clear nA
  by_cases nB : nanV ka ub = true
  · obtain ⟨z1, z2, z3⟩ := ltV_nan ka ia ua sa ib ub sb hua hub (.inr nB)
    rw [nB] at HNb
    rw [z1] at HLab
    rw [z2] at HLba
    rw [z3] at HE
    clear cv up hua hub nB z1 z2 z3
    go_enter Tryz.func3, Tryz.ntmps3
    go_wp2_with fail
    refine (HVa.out _ B0.out).mono ?_
    rintro e w1 ⟨rfl, b1⟩
    have k1 := HK.out _ b1
    go_wp2_with fail
    refine (HVb.out _ b1).mono ?_
    rintro e w2 ⟨rfl, b2⟩
    clear k1 b1
    have k2 := HK.out _ b2
    go_wp2_with fail
    refine (HVc.out _ b2).mono ?_
    rintro e w3 ⟨rfl, b3⟩
    clear k2 b2
    have k3 := HK.out _ b3
    go_wp2_with fail
    refine (HH.out _ b3).mono ?_
    rintro e w4 ⟨rfl, b4⟩
    clear k3 b3
    have k4 := HK.out _ b4
    go_wp2_with fail
    refine (HLab.out _ b4).mono ?_
    rintro e w5 ⟨rfl, b5⟩
    clear k4 b4
    have k5 := HK.out _ b5
    go_wp2_with fail
    refine (HLba.out _ b5).mono ?_
    rintro e w6 ⟨rfl, b6⟩
    clear k5 b5
    have k6 := HK.out _ b6
    go_wp2_with fail
    refine (HE.out _ b6).mono ?_
    rintro e w7 ⟨rfl, b7⟩
    clear k6 b6
    have k7 := HK.out _ b7
    go_wp2_with fail
    refine (HNa.out _ b7).mono ?_
    rintro e w8 ⟨rfl, b8⟩
    clear k7 b7
    have k8 := HK.out _ b8
    go_wp2_with fail
    refine (HNb.out _ b8).mono ?_
    rintro e w9 ⟨rfl, b9⟩
    clear k8 b8
    go_wp2_with fail
    refine (HW.out _ b9).mono ?_
    rintro e wl ⟨rfl, bl⟩
    go_wp2_with fail
    go_ret
    exact ⟨rfl, bl⟩
  have nB' : nanV ka ub = false := by simpa using nB
  rw [nB'] at HNb
  clear nB
  rcases ltV_tri ka ia ua sa ib ub sb hua hub nA' nB' with ⟨z1, z2, z3⟩ | ⟨z1, z2, z3⟩ | ⟨z1, z2, z3⟩
  · by_cases hk : ka = kc
    case neg =>
      rw [z1] at HLab
      rw [z2] at HLba
      rw [z3] at HE
      clear cv hua hub nA' nB' z1 z2 z3
      go_enter Tryz.func3, Tryz.ntmps3
      go_wp2_with fail
      refine (HVa.out _ B0.out).mono ?_
      rintro e w1 ⟨rfl, b1⟩
      have k1 := HK.out _ b1
      go_wp2_with fail
      refine (HVb.out _ b1).mono ?_
      rintro e w2 ⟨rfl, b2⟩
      clear k1 b1
      have k2 := HK.out _ b2
      go_wp2_with fail
      refine (HVc.out _ b2).mono ?_
      rintro e w3 ⟨rfl, b3⟩
      clear k2 b2
      have k3 := HK.out _ b3
      go_wp2_with fail
      refine (HH.out _ b3).mono ?_
      rintro e w4 ⟨rfl, b4⟩
      clear k3 b3
      have k4 := HK.out _ b4
      go_wp2_with fail
      refine (HLab.out _ b4).mono ?_
      rintro e w5 ⟨rfl, b5⟩
      clear k4 b4
      have k5 := HK.out _ b5
      go_wp2_with fail
      refine (HLba.out _ b5).mono ?_
      rintro e w6 ⟨rfl, b6⟩
      clear k5 b5
      have k6 := HK.out _ b6
      go_wp2_with fail
      refine (HE.out _ b6).mono ?_
      rintro e w7 ⟨rfl, b7⟩
      clear k6 b6
      have k7 := HK.out _ b7
      go_wp2_with fail
      refine (HNa.out _ b7).mono ?_
      rintro e w8 ⟨rfl, b8⟩
      clear k7 b7
      have k8 := HK.out _ b8
      go_wp2_with fail
      refine (HNb.out _ b8).mono ?_
      rintro e w9 ⟨rfl, b9⟩
      clear k8 b8
      go_wp2_with fail
      have q0 : (w9.alloc (.cells #[.bool true, .bool false, .bool false] 4)).heap[w9.heap.size]? = some (.cells #[.bool true, .bool false, .bool false] 4 (0, 0)) := heap_alloc_new w9 _
      have b10 := b9.alloc (up _ b9) (.cells #[.bool true, .bool false, .bool false] 4)
      have k10 := HK.out _ b10
      obtain ⟨q1, q2, q3⟩ := cells3 q0
      clear q0 b9
      refine wp_turns 3 (un_succ ?_)
      generalize (w9.alloc (.cells #[.bool true, .bool false, .bool false] 4)) = wa at *
      go_wp2_with fail
      refine un_succ ?_
      go_wp2_with fail
      refine un_succ ?_
      go_wp2_with fail
      refine un_zero ?_
      go_wp2_with fail
      all_goals (refine (HW.out _ b10).mono ?_; rintro e wl ⟨rfl, bl⟩; go_wp2_with fail; go_ret; exact ⟨rfl, bl⟩)
    subst hk
    have HLbc : Hid (∀ w', Below (w.heap.size + 1 + 1 + 1) (((w.alloc (.cells #[.int .i64 ka, .int .i64 ia, .int .u64 ua, .string sa, .slice pa la ca] 25)).alloc (.cells #[.int .i64 ka, .int .i64 ib, .int .u64 ub, .string sb, .slice pb lb cb] 25)).alloc (.cells #[.int .i64 ka, .int .i64 ic, .int .u64 uc, .string sc, .slice pc lc cc] 25)) w' → Calls Tryz.prog 7 #[.agg #[.int .i64 ka, .int .i64 ib, .int .u64 ub, .string sb, .slice pb lb cb], .agg #[.int .i64 ka, .int .i64 ic, .int .u64 uc, .string sc, .slice pc lc cc]] w' fun e w'' => e = .returned (.tuple #[.bool (ltV ka ib ub sb ic uc sc), .int .i64 0]) ∧ Below (w.heap.size + 1 + 1 + 1) (((w.alloc (.cells #[.int .i64 ka, .int .i64 ia, .int .u64 ua, .string sa, .slice pa la ca] 25)).alloc (.cells #[.int .i64 ka, .int .i64 ib, .int .u64 ub, .string sb, .slice pb lb cb] 25)).alloc (.cells #[.int .i64 ka, .int .i64 ic, .int .u64 uc, .string sc, .slice pc lc cc] 25)) w'') := fun w' h =>
      (less_any ka _ _ _ _ h5 _ _ _ _ _ _ _ _ w').mono fun e w'' ⟨he, h'⟩ => ⟨he, h.trans (h'.mono (up w' h))⟩
    have HLac : Hid (∀ w', Below (w.heap.size + 1 + 1 + 1) (((w.alloc (.cells #[.int .i64 ka, .int .i64 ia, .int .u64 ua, .string sa, .slice pa la ca] 25)).alloc (.cells #[.int .i64 ka, .int .i64 ib, .int .u64 ub, .string sb, .slice pb lb cb] 25)).alloc (.cells #[.int .i64 ka, .int .i64 ic, .int .u64 uc, .string sc, .slice pc lc cc] 25)) w' → Calls Tryz.prog 7 #[.agg #[.int .i64 ka, .int .i64 ia, .int .u64 ua, .string sa, .slice pa la ca], .agg #[.int .i64 ka, .int .i64 ic, .int .u64 uc, .string sc, .slice pc lc cc]] w' fun e w'' => e = .returned (.tuple #[.bool (ltV ka ia ua sa ic uc sc), .int .i64 0]) ∧ Below (w.heap.size + 1 + 1 + 1) (((w.alloc (.cells #[.int .i64 ka, .int .i64 ia, .int .u64 ua, .string sa, .slice pa la ca] 25)).alloc (.cells #[.int .i64 ka, .int .i64 ib, .int .u64 ub, .string sb, .slice pb lb cb] 25)).alloc (.cells #[.int .i64 ka, .int .i64 ic, .int .u64 uc, .string sc, .slice pc lc cc] 25)) w'') := fun w' h =>
      (less_any ka _ _ _ _ h5 _ _ _ _ _ _ _ _ w').mono fun e w'' ⟨he, h'⟩ => ⟨he, h.trans (h'.mono (up w' h))⟩
    by_cases hn : ltV ka ib ub sb ic uc sc = true
    · have hf := ltV_trans ka ia ua sa ib ub sb ic uc sc z1 hn
      rw [hn] at HLbc
      rw [hf] at HLac
      rw [z1] at HLab
      rw [z2] at HLba
      rw [z3] at HE
      clear cv hua hub nA' nB' z1 z2 z3 hn hf
      go_enter Tryz.func3, Tryz.ntmps3
      go_wp2_with fail
      refine (HVa.out _ B0.out).mono ?_
      rintro e w1 ⟨rfl, b1⟩
      have k1 := HK.out _ b1
      go_wp2_with fail
      refine (HVb.out _ b1).mono ?_
      rintro e w2 ⟨rfl, b2⟩
      clear k1 b1
      have k2 := HK.out _ b2
      go_wp2_with fail
      refine (HVc.out _ b2).mono ?_
      rintro e w3 ⟨rfl, b3⟩
      clear k2 b2
      have k3 := HK.out _ b3
      go_wp2_with fail
      refine (HH.out _ b3).mono ?_
      rintro e w4 ⟨rfl, b4⟩
      clear k3 b3
      have k4 := HK.out _ b4
      go_wp2_with fail
      refine (HLab.out _ b4).mono ?_
      rintro e w5 ⟨rfl, b5⟩
      clear k4 b4
      have k5 := HK.out _ b5
      go_wp2_with fail
      refine (HLba.out _ b5).mono ?_
      rintro e w6 ⟨rfl, b6⟩
      clear k5 b5
      have k6 := HK.out _ b6
      go_wp2_with fail
      refine (HE.out _ b6).mono ?_
      rintro e w7 ⟨rfl, b7⟩
      clear k6 b6
      have k7 := HK.out _ b7
      go_wp2_with fail
      refine (HNa.out _ b7).mono ?_
      rintro e w8 ⟨rfl, b8⟩
      clear k7 b7
      have k8 := HK.out _ b8
      go_wp2_with fail
      refine (HNb.out _ b8).mono ?_
      rintro e w9 ⟨rfl, b9⟩
      clear k8 b8
      go_wp2_with fail
      have q0 : (w9.alloc (.cells #[.bool true, .bool false, .bool false] 4)).heap[w9.heap.size]? = some (.cells #[.bool true, .bool false, .bool false] 4 (0, 0)) := heap_alloc_new w9 _
      have b10 := b9.alloc (up _ b9) (.cells #[.bool true, .bool false, .bool false] 4)
      have k10 := HK.out _ b10
      obtain ⟨q1, q2, q3⟩ := cells3 q0
      clear q0 b9
      refine wp_turns 3 (un_succ ?_)
      generalize (w9.alloc (.cells #[.bool true, .bool false, .bool false] 4)) = wa at *
      go_wp2_with fail
      refine un_succ ?_
      go_wp2_with fail
      refine un_succ ?_
      go_wp2_with fail
      refine un_zero ?_
      go_wp2_with fail
      have k10' := HK.out _ b10
      refine (HLbc.out _ b10).mono ?_
      rintro e w11 ⟨rfl, b11⟩
      clear k10 k10' q1 q2 q3
      have k11 := HK.out _ b11
      go_wp2_with fail
      refine (HLac.out _ b11).mono ?_
      rintro e w12 ⟨rfl, b12⟩
      clear k11
      go_wp2_with fail
      refine (HW.out _ b12).mono ?_
      rintro e wl ⟨rfl, bl⟩
      go_wp2_with fail
      go_ret
      exact ⟨rfl, bl⟩
    · have hn' : ltV ka ib ub sb ic uc sc = false := by simpa using hn
      rw [hn'] at HLbc
      rw [z1] at HLab
      rw [z2] at HLba
      rw [z3] at HE
      clear cv hua hub nA' nB' z1 z2 z3 hn hn'
      go_enter Tryz.func3, Tryz.ntmps3
      go_wp2_with fail
      refine (HVa.out _ B0.out).mono ?_
      rintro e w1 ⟨rfl, b1⟩
      have k1 := HK.out _ b1
      go_wp2_with fail
      refine (HVb.out _ b1).mono ?_
      rintro e w2 ⟨rfl, b2⟩
      clear k1 b1
      have k2 := HK.out _ b2
      go_wp2_with fail
      refine (HVc.out _ b2).mono ?_
      rintro e w3 ⟨rfl, b3⟩
      clear k2 b2
      have k3 := HK.out _ b3
      go_wp2_with fail
      refine (HH.out _ b3).mono ?_
      rintro e w4 ⟨rfl, b4⟩
      clear k3 b3
      have k4 := HK.out _ b4
      go_wp2_with fail
      refine (HLab.out _ b4).mono ?_
      rintro e w5 ⟨rfl, b5⟩
      clear k4 b4
      have k5 := HK.out _ b5
      go_wp2_with fail
      refine (HLba.out _ b5).mono ?_
      rintro e w6 ⟨rfl, b6⟩
      clear k5 b5
      have k6 := HK.out _ b6
      go_wp2_with fail
      refine (HE.out _ b6).mono ?_
      rintro e w7 ⟨rfl, b7⟩
      clear k6 b6
      have k7 := HK.out _ b7
      go_wp2_with fail
      refine (HNa.out _ b7).mono ?_
      rintro e w8 ⟨rfl, b8⟩
      clear k7 b7
      have k8 := HK.out _ b8
      go_wp2_with fail
      refine (HNb.out _ b8).mono ?_
      rintro e w9 ⟨rfl, b9⟩
      clear k8 b8
      go_wp2_with fail
      have q0 : (w9.alloc (.cells #[.bool true, .bool false, .bool false] 4)).heap[w9.heap.size]? = some (.cells #[.bool true, .bool false, .bool false] 4 (0, 0)) := heap_alloc_new w9 _
      have b10 := b9.alloc (up _ b9) (.cells #[.bool true, .bool false, .bool false] 4)
      have k10 := HK.out _ b10
      obtain ⟨q1, q2, q3⟩ := cells3 q0
      clear q0 b9
      refine wp_turns 3 (un_succ ?_)
      generalize (w9.alloc (.cells #[.bool true, .bool false, .bool false] 4)) = wa at *
      go_wp2_with fail
      refine un_succ ?_
      go_wp2_with fail
      refine un_succ ?_
      go_wp2_with fail
      refine un_zero ?_
      go_wp2_with fail
      have k10' := HK.out _ b10
      refine (HLbc.out _ b10).mono ?_
      rintro e w11 ⟨rfl, b11⟩
      clear k10 k10' q1 q2 q3
      have k11 := HK.out _ b11
      go_wp2_with fail
      refine (HLac.out _ b11).mono ?_
      rintro e w12 ⟨rfl, b12⟩
      clear k11
      go_wp2_with fail
      refine (HW.out _ b12).mono ?_
      rintro e wl ⟨rfl, bl⟩
      go_wp2_with fail
      go_ret
      exact ⟨rfl, bl⟩
  · rw [z1] at HLab
    rw [z2] at HLba
    rw [z3] at HE
    clear cv hua hub nA' nB' z1 z2 z3
    go_enter Tryz.func3, Tryz.ntmps3
    go_wp2_with fail
    refine (HVa.out _ B0.out).mono ?_
    rintro e w1 ⟨rfl, b1⟩
    have k1 := HK.out _ b1
    go_wp2_with fail
    refine (HVb.out _ b1).mono ?_
    rintro e w2 ⟨rfl, b2⟩
    clear k1 b1
    have k2 := HK.out _ b2
    go_wp2_with fail
    refine (HVc.out _ b2).mono ?_
    rintro e w3 ⟨rfl, b3⟩
    clear k2 b2
    have k3 := HK.out _ b3
    go_wp2_with fail
    refine (HH.out _ b3).mono ?_
    rintro e w4 ⟨rfl, b4⟩
    clear k3 b3
    have k4 := HK.out _ b4
    go_wp2_with fail
    refine (HLab.out _ b4).mono ?_
    rintro e w5 ⟨rfl, b5⟩
    clear k4 b4
    have k5 := HK.out _ b5
    go_wp2_with fail
    refine (HLba.out _ b5).mono ?_
    rintro e w6 ⟨rfl, b6⟩
    clear k5 b5
    have k6 := HK.out _ b6
    go_wp2_with fail
    refine (HE.out _ b6).mono ?_
    rintro e w7 ⟨rfl, b7⟩
    clear k6 b6
    have k7 := HK.out _ b7
    go_wp2_with fail
    refine (HNa.out _ b7).mono ?_
    rintro e w8 ⟨rfl, b8⟩
    clear k7 b7
    have k8 := HK.out _ b8
    go_wp2_with fail
    refine (HNb.out _ b8).mono ?_
    rintro e w9 ⟨rfl, b9⟩
    clear k8 b8
    go_wp2_with fail
    have q0 : (w9.alloc (.cells #[.bool false, .bool true, .bool false] 4)).heap[w9.heap.size]? = some (.cells #[.bool false, .bool true, .bool false] 4 (0, 0)) := heap_alloc_new w9 _
    have b10 := b9.alloc (up _ b9) (.cells #[.bool false, .bool true, .bool false] 4)
    have k10 := HK.out _ b10
    obtain ⟨q1, q2, q3⟩ := cells3 q0
    clear q0 b9
    refine wp_turns 3 (un_succ ?_)
    generalize (w9.alloc (.cells #[.bool false, .bool true, .bool false] 4)) = wa at *
    go_wp2_with fail
    refine un_succ ?_
    go_wp2_with fail
    refine un_succ ?_
    go_wp2_with fail
    refine un_zero ?_
    go_wp2_with fail
    all_goals (refine (HW.out _ b10).mono ?_; rintro e wl ⟨rfl, bl⟩; go_wp2_with fail; go_ret; exact ⟨rfl, bl⟩)
  · rw [z1] at HLab
    rw [z2] at HLba
    rw [z3] at HE
    clear cv hua hub nA' nB' z1 z2 z3
    go_enter Tryz.func3, Tryz.ntmps3
    go_wp2_with fail
    refine (HVa.out _ B0.out).mono ?_
    rintro e w1 ⟨rfl, b1⟩
    have k1 := HK.out _ b1
    go_wp2_with fail
    refine (HVb.out _ b1).mono ?_
    rintro e w2 ⟨rfl, b2⟩
    clear k1 b1
    have k2 := HK.out _ b2
    go_wp2_with fail
    refine (HVc.out _ b2).mono ?_
    rintro e w3 ⟨rfl, b3⟩
    clear k2 b2
    have k3 := HK.out _ b3
    go_wp2_with fail
    refine (HH.out _ b3).mono ?_
    rintro e w4 ⟨rfl, b4⟩
    clear k3 b3
    have k4 := HK.out _ b4
    go_wp2_with fail
    refine (HLab.out _ b4).mono ?_
    rintro e w5 ⟨rfl, b5⟩
    clear k4 b4
    have k5 := HK.out _ b5
    go_wp2_with fail
    refine (HLba.out _ b5).mono ?_
    rintro e w6 ⟨rfl, b6⟩
    clear k5 b5
    have k6 := HK.out _ b6
    go_wp2_with fail
    refine (HE.out _ b6).mono ?_
    rintro e w7 ⟨rfl, b7⟩
    clear k6 b6
    have k7 := HK.out _ b7
    go_wp2_with fail
    refine (HNa.out _ b7).mono ?_
    rintro e w8 ⟨rfl, b8⟩
    clear k7 b7
    have k8 := HK.out _ b8
    go_wp2_with fail
    refine (HNb.out _ b8).mono ?_
    rintro e w9 ⟨rfl, b9⟩
    clear k8 b8
    go_wp2_with fail
    have q0 : (w9.alloc (.cells #[.bool false, .bool false, .bool true] 4)).heap[w9.heap.size]? = some (.cells #[.bool false, .bool false, .bool true] 4 (0, 0)) := heap_alloc_new w9 _
    have b10 := b9.alloc (up _ b9) (.cells #[.bool false, .bool false, .bool true] 4)
    have k10 := HK.out _ b10
    obtain ⟨q1, q2, q3⟩ := cells3 q0
    clear q0 b9
    refine wp_turns 3 (un_succ ?_)
    generalize (w9.alloc (.cells #[.bool false, .bool false, .bool true] 4)) = wa at *
    go_wp2_with fail
    refine un_succ ?_
    go_wp2_with fail
    refine un_succ ?_
    go_wp2_with fail
    refine un_zero ?_
    go_wp2_with fail
    all_goals (refine (HW.out _ b10).mono ?_; rintro e wl ⟨rfl, bl⟩; go_wp2_with fail; go_ret; exact ⟨rfl, bl⟩)
end Go.Proofs.YtgpbnmlcfimnnaaGreatDoor.Dt
