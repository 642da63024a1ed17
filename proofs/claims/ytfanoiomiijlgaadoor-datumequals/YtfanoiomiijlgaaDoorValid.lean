/- The package's Valid at the value that this package's own check reads: true, in new memory alone; the conditions: the table of fields as the text lays it, the value's list in memory. -/
import Derived.Test.YtfanoiomiijlgaaDoorFormed
namespace Go.Proofs.YtfanoiomiijlgaaDoor
open Go.RowKit

/-- The counter at block l. -/
def Lf (w : World) (l : Nat) (k : Int) : Prop := w.heap[l]? = some (.cells #[.int .i64 k] 3 (0, 0))
theorem Lf.c {w : World} {l : Nat} {k : Int} (h : Lf w l k) : w.cell? ⟨l, 0, none⟩ = some (.int .i64 k) := by unfold Lf at h; simp [World.cell?, h]
theorem Lf.f {w : World} {l : Nat} {k : Int} (h : Lf w l k) : w.frozen? ⟨l, 0, none⟩ = false := by unfold Lf at h; simp [World.frozen?, h]
theorem Lf.lt {w : World} {l : Nat} {k : Int} (h : Lf w l k) : l < w.heap.size := by unfold Lf at h; exact (Array.getElem?_eq_some_iff.1 h).1
theorem Lf.below {w w' : World} {l : Nat} {k : Int} (h : Lf w l k) (hb : Below w.heap.size w w') : Lf w' l k := by
  have := h.lt
  unfold Lf at h ⊢; rw [hb.block l this]; exact h
theorem Lf.set {w : World} {l : Nat} {k : Int} (h : Lf w l k) (k' : Int) : Lf (w.setCell ⟨l, 0, none⟩ (.int .i64 k')) l k' := by
  unfold Lf at h ⊢
  simp [World.setCell, Array.getElem?_modify, h]
theorem Tab.kept {w w' : World} {l : Nat} (h : Tab w) (hg : w.grownBy w' (some l)) (hl : 1 ≠ l) : Tab w' := by
  obtain ⟨h0, h1, h2, h3⟩ := h
  have hb := hg.block 1 h0 (fun e => hl (Option.some.inj e))
  exact ⟨Nat.lt_of_lt_of_le h0 hg.size, (World.cell?_of_block (a := ⟨1, 1, none⟩) hb).trans h1, (World.cell?_of_block (a := ⟨1, 4, none⟩) hb).trans h2, (World.cell?_of_block (a := ⟨1, 8, none⟩) hb).trans h3⟩

set_option maxRecDepth 100000 in
set_option maxHeartbeats 1000000 in
theorem within_leaf (u0 u1 u2 : Int) (u3 : ByteArray) (deep k : Int) (l : Nat) (w : World) (h : Tab w) (hl : Lf w l k) (hd : (deep == 0) = false) (hk : (k == 0) = false) (hk0 : 0 ≤ k) (hk1 : k ≤ 4096)
    (H : ∀ w, Tab w → Calls Tryd.prog 24 #[.agg #[.int .i64 u0, .int .i64 u1, .int .u64 u2, .string u3, .slice none 0 0]] w fun e w' => e = .returned (.bool true) ∧ Below w.heap.size w w') :
    Calls Tryd.prog 17 #[.agg #[.int .i64 u0, .int .i64 u1, .int .u64 u2, .string u3, .slice none 0 0], .int .i64 deep, .pointer (some ⟨l, 0, none⟩)] w fun e w' => e = .returned (.bool true) ∧ Lf w' l (k - 1) ∧ w.grownBy w' (some l) := by
  have HH := Lib.hid H
  clear H
  have hll := hl.lt
  have cl := hl.c
  have b0 : Below w.heap.size w (w.alloc (.cells #[.int .i64 u0, .int .i64 u1, .int .u64 u2, .string u3, .slice none 0 0] 25)) := (Below.refl _ w).alloc (Nat.le_refl _) _
  have d0 := D5.new w (.int .i64 u0) (.int .i64 u1) (.int .u64 u2) (.string u3) (.slice none 0 0)
  go_enter Tryd.func17, Tryd.ntmps17
  go_wp2_with fail
  refine (HH.out _ (h.below b0)).mono ?_
  rintro e w1 ⟨rfl, b1⟩
  have l1 := (hl.below b0).below b1
  have c1 := l1.c
  have f1 := l1.f
  have d1 : D5 w1 w.heap.size (.int .i64 u0) (.int .i64 u1) (.int .u64 u2) (.string u3) (.slice none 0 0) := d0.kept (b := l) (grown_below b1) (by omega)
  obtain ⟨k0, k1, k2, k3, k4⟩ := d1.c
  have G := grown_trans (grown_below (row := some l) b0) (grown_below b1)
  clear HH b0 d0 b1 cl
  go_wp2_with fail
  refine wp_loop_rounds 1 ?_
  rw [rounds_succ]
  go_wp2
  go_ret
  exact ⟨rfl, l1.set _, grown_trans G (grown_set _ _ _ _)⟩

theorem row8_cells {w : World} {base g cap : Nat} (h : w.ownsRow base 25 5 (.slice (some ⟨g, 0, none⟩) 2 cap) 2 cells8) :
    (w.cell? ⟨g, 0, none⟩ = some (.int .i64 1) ∧ w.cell? ⟨g, 1, none⟩ = some (.int .i64 1) ∧ w.cell? ⟨g, 2, none⟩ = some (.int .u64 0) ∧ w.cell? ⟨g, 3, none⟩ = some (.string ⟨#[]⟩) ∧ w.cell? ⟨g, 4, none⟩ = some (.slice none 0 0)) ∧
    (w.cell? ⟨g, 5, none⟩ = some (.int .i64 4) ∧ w.cell? ⟨g, 6, none⟩ = some (.int .i64 0) ∧ w.cell? ⟨g, 7, none⟩ = some (.int .u64 0) ∧ w.cell? ⟨g, 8, none⟩ = some (.string ⟨#[97]⟩) ∧ w.cell? ⟨g, 9, none⟩ = some (.slice none 0 0)) := by
  have hc := h.cells (g := g) rfl
  have c : ∀ j v, cells8[j]? = some v → w.cell? ⟨g, j, none⟩ = some v := fun j v hj => by
    have := hc j v hj
    by_cases h0 : j = 0
    · subst h0; simpa [Addr.add] using this
    · simpa [Addr.add, h0] using this
  exact ⟨⟨c 0 _ rfl, c 1 _ rfl, c 2 _ rfl, c 3 _ rfl, c 4 _ rfl⟩, c 5 _ rfl, c 6 _ rfl, c 7 _ rfl, c 8 _ rfl, c 9 _ rfl⟩

set_option maxRecDepth 100000 in
set_option maxHeartbeats 1000000 in
theorem within_list (g cap base l : Nat) (deep k : Int) (w : World) (h : Tab w) (hl : Lf w l k) (hl1 : 1 ≠ l) (own : w.ownsRow base 25 5 (.slice (some ⟨g, 0, none⟩) 2 cap) 2 cells8) (hg : g ≠ l) (_hgs : g < w.heap.size) (hd : 2 ≤ deep) (hd1 : deep ≤ 16) (hk0 : 3 ≤ k) (hk1 : k ≤ 4096) :
    Calls Tryd.prog 17 #[.agg #[.int .i64 8, .int .i64 0, .int .u64 0, .string ⟨#[]⟩, .slice (some ⟨g, 0, none⟩) 2 cap], .int .i64 deep, .pointer (some ⟨l, 0, none⟩)] w fun e w' => e = .returned (.bool true) ∧ Lf w' l (k - 3) ∧ w.grownBy w' (some l) := by
  have hd0 : (deep == 0) = false := by simp; omega
  have hkk : (k == 0) = false := by simp; omega
  have hll := hl.lt
  have cl := hl.c
  have b0 : Below w.heap.size w (w.alloc (.cells #[.int .i64 8, .int .i64 0, .int .u64 0, .string ⟨#[]⟩, .slice (some ⟨g, 0, none⟩) 2 cap] 25)) := (Below.refl _ w).alloc (Nat.le_refl _) _
  have d0 := D5.new w (.int .i64 8) (.int .i64 0) (.int .u64 0) (.string ⟨#[]⟩) (.slice (some ⟨g, 0, none⟩) 2 cap)
  go_enter Tryd.func17, Tryd.ntmps17
  go_wp2_with fail
  refine (wf_list _ _ _ (h.below b0)).mono ?_
  rintro e w1 ⟨rfl, b1⟩
  have l1 := (hl.below b0).below b1
  have c1 := l1.c
  have f1 := l1.f
  have d1 : D5 w1 w.heap.size (.int .i64 8) (.int .i64 0) (.int .u64 0) (.string ⟨#[]⟩) (.slice (some ⟨g, 0, none⟩) 2 cap) := d0.kept (b := l) (grown_below b1) (by omega)
  have k4 := d1.c.2.2.2.2
  have G1 := grown_trans (grown_below (row := some l) b0) (grown_below b1)
  have own1 := own.kept G1 (.inr (fun e => hg (Option.some.inj e)))
  have T1 := h.kept G1 hl1
  have z1 : w.heap.size < w1.heap.size := d1.lt
  obtain ⟨⟨e0, e1, e2, e3, e4⟩, -⟩ := row8_cells own1
  clear b0 d0 b1 cl hl h
  go_wp2_with fail
  refine wp_loop_rounds 3 ?_
  rw [rounds_succ]
  go_wp2_with fail
  have g2 : w1.grownBy ((w1.setCell ⟨l, 0, none⟩ (.int .i64 (k - 1))).alloc (.cells #[.int .i64 1, .int .i64 1, .int .u64 0, .string ⟨#[]⟩, .slice none 0 0] 25)) (some l) := grown_trans (grown_set _ _ _ _) (World.grownBy_alloc _ _ _)
  have l2 : Lf ((w1.setCell ⟨l, 0, none⟩ (.int .i64 (k - 1))).alloc (.cells #[.int .i64 1, .int .i64 1, .int .u64 0, .string ⟨#[]⟩, .slice none 0 0] 25)) l (k - 1) := (l1.set (k - 1)).below ((Below.refl _ _).alloc (Nat.le_refl _) _)
  refine (within_leaf 1 1 0 ⟨#[]⟩ (deep - 1) (k - 1) l _ (T1.kept g2 hl1) l2 (by simp; omega) (by simp; omega) (by omega) (by omega) (fun w h => wf_int w h)).mono ?_
  rintro e w3 ⟨rfl, l3, g3⟩
  have g13 := grown_trans g2 g3
  have own3 := own1.kept g13 (.inr (fun e => hg (Option.some.inj e)))
  have T3 := T1.kept g13 hl1
  have G3 := grown_trans G1 g13
  have c3 := l3.c
  have f3 := l3.f
  have z3 : w1.heap.size ≤ w3.heap.size := g13.size
  clear e0 e1 e2 e3 e4 g2 l2 g3 g13 own1 T1 G1 l1 c1 f1 k4 d1
  obtain ⟨-, e0, e1, e2, e3, e4⟩ := row8_cells own3
  go_wp2_with fail
  rw [rounds_succ]
  go_wp2_with fail
  have g4 : w3.grownBy (w3.alloc (.cells #[.int .i64 4, .int .i64 0, .int .u64 0, .string ⟨#[97]⟩, .slice none 0 0] 25)) (some l) := World.grownBy_alloc _ _ _
  have l4 : Lf (w3.alloc (.cells #[.int .i64 4, .int .i64 0, .int .u64 0, .string ⟨#[97]⟩, .slice none 0 0] 25)) l (k - 1 - 1) := l3.below ((Below.refl _ _).alloc (Nat.le_refl _) _)
  refine (within_leaf 4 0 0 ⟨#[97]⟩ (deep - 1) (k - 1 - 1) l _ (T3.kept g4 hl1) l4 (by simp; omega) (by simp; omega) (by omega) (by omega) (fun w h => wf_text w h)).mono ?_
  rintro e w5 ⟨rfl, l5, g5⟩
  have G5 := grown_trans G3 (grown_trans g4 g5)
  have l5' : Lf w5 l (k - 3) := by rw [show k - 3 = k - 1 - 1 - 1 from by omega]; exact l5
  clear e0 e1 e2 e3 e4 g4 l4 g5 own3 T3 G3 l3 c3 f3 l5
  go_wp2_with fail
  rw [rounds_succ]
  go_wp2
  go_ret
  exact ⟨rfl, l5', G5⟩

set_option maxRecDepth 100000 in
set_option maxHeartbeats 1000000 in
theorem valid8 (g cap base : Nat) (w : World) (h : Tab w) (own : w.ownsRow base 25 5 (.slice (some ⟨g, 0, none⟩) 2 cap) 2 cells8) (hgs : g < w.heap.size) :
    Calls Tryd.prog 6 #[.agg #[.int .i64 8, .int .i64 0, .int .u64 0, .string ⟨#[]⟩, .slice (some ⟨g, 0, none⟩) 2 cap]] w fun e w' => e = .returned (.bool true) ∧ Below w.heap.size w w' := by
  go_enter Tryd.func6, Tryd.ntmps6
  go_wp2_with fail
  have b0 : Below w.heap.size w ((w.alloc (.cells #[.int .i64 8, .int .i64 0, .int .u64 0, .string ⟨#[]⟩, .slice (some ⟨g, 0, none⟩) 2 cap] 25)).alloc (.cells #[.int .i64 4096] 3)) := ((Below.refl _ w).alloc (Nat.le_refl _) _).alloc (by simp) _
  have l0 : Lf ((w.alloc (.cells #[.int .i64 8, .int .i64 0, .int .u64 0, .string ⟨#[]⟩, .slice (some ⟨g, 0, none⟩) 2 cap] 25)).alloc (.cells #[.int .i64 4096] 3)) (w.heap.size + 1) 4096 := by
    have := heap_alloc_new (w.alloc (.cells #[.int .i64 8, .int .i64 0, .int .u64 0, .string ⟨#[]⟩, .slice (some ⟨g, 0, none⟩) 2 cap] 25)) (.cells #[.int .i64 4096] 3)
    rw [World.size_alloc] at this
    exact this
  have h1 := h.1
  refine (within_list g cap base (w.heap.size + 1) 16 4096 _ (h.below b0) l0 (by omega) (own.kept (grown_below (row := none) b0) (.inr (by simp [Value.ownBlock]))) (by omega) (by simp; omega) (by decide) (by decide) (by decide) (by decide)).mono ?_
  rintro e w1 ⟨rfl, -, g1⟩
  have b1 : Below w.heap.size w w1 := b0.grown g1 (by simp; omega) (fun k hk => by have := Option.some.inj hk; omega)
  clear b0 l0 g1 own
  go_wp2
  go_ret
  exact ⟨rfl, b1⟩
end Go.Proofs.YtfanoiomiijlgaaDoor
