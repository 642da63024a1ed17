/- For every two values, valid or not, the law of Equal and Same returns true, with new memory alone; the conditions: the values' trees in memory, the two tables. -/
import Derived.Test.YtfanoiomiijlgaaDoorLaw
import Derived.Test.YtfanoiomiijlgaaDoorCopy
import Derived.Test.YtfanoiomiijlgaaDoorDsame
import Derived.Test.YtfanoiomiijlgaaDoorReq
import Derived.Test.YtfanoiomiijlgaaDoorDeq
import Derived.Deep.DeepCutAuto
namespace Go.Proofs.YtfanoiomiijlgaaDoor
open Go.RowKit

theorem valid_cut (n : Nat) (t : Tr n) (h : vB n t = true) : ∃ t' : Tr 16, rgt 16 t' = true ∧ (pts 16 t').1 ≤ 4096 ∧ ∀ w cs, Rep w n cs t → Rep w 16 cs t' := by
  have S := say 16 n t 1 4096 (by decide) (by decide) (by decide)
  obtain ⟨hr, hC, -⟩ := S.down h
  obtain ⟨f1, f2, f3, f4, f5⟩ := S.fit hC
  obtain ⟨t', e1, e2, e3⟩ := shrink 16 n t (by rw [f1]; show (cnt 16 n t 1 4096).2 - 1 + 1 ≤ ((16 : Nat) : Int); omega)
  exact ⟨t', e1.trans hr, by rw [e2, f1]; exact f3, e3⟩
theorem smL_refl {T : Type} (c : T → T → Bool) : ∀ (xs : List T), (∀ x ∈ xs, c x x = true) → smL c xs xs = true
  | [], _ => rfl
  | x :: xs, h => by simp only [smL]; rw [h x (by simp), smL_refl c xs (fun y hy => h y (by simp [hy]))]; rfl
theorem sm_refl : ∀ (n : Nat) (t : Tr n), sm n n t t = true
  | 0, t => t.elim
  | n + 1, t => by simp only [sm]; rw [smL_refl _ _ (fun x _ => sm_refl n x)]; simp
theorem zed_b1 {w w' : World} {N : Nat} (h : D5 w N (.int .i64 0) (.int .i64 0) (.int .u64 0) (.string ⟨#[]⟩) (.slice none 0 0)) (b : Below w.heap.size w w') : D5 w' N (.int .i64 0) (.int .i64 0) (.int .u64 0) (.string ⟨#[]⟩) (.slice none 0 0) := h.below b
theorem zed_b2 {w w' : World} {N : Nat} (h : D5 w N (.int .i64 0) (.int .i64 0) (.int .u64 0) (.string ⟨#[]⟩) (.slice none 0 0)) (b : Below (w.alloc (.cells #[.int .i64 0, .int .i64 0, .int .u64 0, .string ⟨#[]⟩, .slice none 0 0] 25)).heap.size (w.alloc (.cells #[.int .i64 0, .int .i64 0, .int .u64 0, .string ⟨#[]⟩, .slice none 0 0] 25)) w') : D5 w' N (.int .i64 0) (.int .i64 0) (.int .u64 0) (.string ⟨#[]⟩) (.slice none 0 0) := (h.below (below1 _ _)).below b
theorem zed_n1 {w w' : World} (b : Below (w.alloc (.cells #[.int .i64 0, .int .i64 0, .int .u64 0, .string ⟨#[]⟩, .slice none 0 0] 25)).heap.size (w.alloc (.cells #[.int .i64 0, .int .i64 0, .int .u64 0, .string ⟨#[]⟩, .slice none 0 0] 25)) w') : D5 w' w.heap.size (.int .i64 0) (.int .i64 0) (.int .u64 0) (.string ⟨#[]⟩) (.slice none 0 0) := (D5.new w (.int .i64 0) (.int .i64 0) (.int .u64 0) (.string ⟨#[]⟩) (.slice none 0 0)).below b
theorem zed_n2 {w w' : World} (b : Below ((w.alloc (.cells #[.int .i64 0, .int .i64 0, .int .u64 0, .string ⟨#[]⟩, .slice none 0 0] 25)).alloc (.cells #[.int .i64 0, .int .i64 0, .int .u64 0, .string ⟨#[]⟩, .slice none 0 0] 25)).heap.size ((w.alloc (.cells #[.int .i64 0, .int .i64 0, .int .u64 0, .string ⟨#[]⟩, .slice none 0 0] 25)).alloc (.cells #[.int .i64 0, .int .i64 0, .int .u64 0, .string ⟨#[]⟩, .slice none 0 0] 25)) w') : D5 w' w.heap.size (.int .i64 0) (.int .i64 0) (.int .u64 0) (.string ⟨#[]⟩) (.slice none 0 0) ∧ D5 w' (w.heap.size + 1) (.int .i64 0) (.int .i64 0) (.int .u64 0) (.string ⟨#[]⟩) (.slice none 0 0) :=
  ⟨((D5.new w (.int .i64 0) (.int .i64 0) (.int .u64 0) (.string ⟨#[]⟩) (.slice none 0 0)).below (below1 _ _)).below b, D5.below (by have h := D5.new (w.alloc (.cells #[.int .i64 0, .int .i64 0, .int .u64 0, .string ⟨#[]⟩, .slice none 0 0] 25)) (.int .i64 0) (.int .i64 0) (.int .u64 0) (.string ⟨#[]⟩) (.slice none 0 0); rw [World.size_alloc] at h; exact h) b⟩
theorem zed_a (w : World) : D5 ((w.alloc (.cells #[.int .i64 0, .int .i64 0, .int .u64 0, .string ⟨#[]⟩, .slice none 0 0] 25)).alloc (.cells #[.int .i64 0, .int .i64 0, .int .u64 0, .string ⟨#[]⟩, .slice none 0 0] 25)) w.heap.size (.int .i64 0) (.int .i64 0) (.int .u64 0) (.string ⟨#[]⟩) (.slice none 0 0) := (D5.new w (.int .i64 0) (.int .i64 0) (.int .u64 0) (.string ⟨#[]⟩) (.slice none 0 0)).below (below1 _ _)
theorem zed_d1 {w w' : World} (b : Below (w.alloc (.cells #[.int .i64 0, .int .i64 0, .int .u64 0, .string ⟨#[]⟩, .slice none 0 0] 25)).drew.heap.size (w.alloc (.cells #[.int .i64 0, .int .i64 0, .int .u64 0, .string ⟨#[]⟩, .slice none 0 0] 25)).drew w') : D5 w' w.heap.size (.int .i64 0) (.int .i64 0) (.int .u64 0) (.string ⟨#[]⟩) (.slice none 0 0) := D5.below (w := (w.alloc (.cells #[.int .i64 0, .int .i64 0, .int .u64 0, .string ⟨#[]⟩, .slice none 0 0] 25)).drew) (D5.new w (.int .i64 0) (.int .i64 0) (.int .u64 0) (.string ⟨#[]⟩) (.slice none 0 0)) b
theorem zed_d2 {w w' : World} (b : Below ((w.alloc (.cells #[.int .i64 0, .int .i64 0, .int .u64 0, .string ⟨#[]⟩, .slice none 0 0] 25)).alloc (.cells #[.int .i64 0, .int .i64 0, .int .u64 0, .string ⟨#[]⟩, .slice none 0 0] 25)).drew.heap.size ((w.alloc (.cells #[.int .i64 0, .int .i64 0, .int .u64 0, .string ⟨#[]⟩, .slice none 0 0] 25)).alloc (.cells #[.int .i64 0, .int .i64 0, .int .u64 0, .string ⟨#[]⟩, .slice none 0 0] 25)).drew w') : D5 w' w.heap.size (.int .i64 0) (.int .i64 0) (.int .u64 0) (.string ⟨#[]⟩) (.slice none 0 0) ∧ D5 w' (w.heap.size + 1) (.int .i64 0) (.int .i64 0) (.int .u64 0) (.string ⟨#[]⟩) (.slice none 0 0) :=
  ⟨D5.below (w := ((w.alloc (.cells #[.int .i64 0, .int .i64 0, .int .u64 0, .string ⟨#[]⟩, .slice none 0 0] 25)).alloc (.cells #[.int .i64 0, .int .i64 0, .int .u64 0, .string ⟨#[]⟩, .slice none 0 0] 25)).drew) (zed_a w) b, D5.below (w := ((w.alloc (.cells #[.int .i64 0, .int .i64 0, .int .u64 0, .string ⟨#[]⟩, .slice none 0 0] 25)).alloc (.cells #[.int .i64 0, .int .i64 0, .int .u64 0, .string ⟨#[]⟩, .slice none 0 0] 25)).drew) (by have h := D5.new (w.alloc (.cells #[.int .i64 0, .int .i64 0, .int .u64 0, .string ⟨#[]⟩, .slice none 0 0] 25)) (.int .i64 0) (.int .i64 0) (.int .u64 0) (.string ⟨#[]⟩) (.slice none 0 0); rw [World.size_alloc] at h; exact h) b⟩
theorem set5_other (w : World) (N : Nat) (a0 a1 a2 a3 a4 : Value) (g : Nat) (h : g ≠ N) : (((((w.setCell ⟨N, 0, none⟩ a0).setCell ⟨N, 1, none⟩ a1).setCell ⟨N, 2, none⟩ a2).setCell ⟨N, 3, none⟩ a3).setCell ⟨N, 4, none⟩ a4).heap[g]? = w.heap[g]? :=
  (Below.heap_setCell _ _ _ g h).trans ((Below.heap_setCell _ _ _ g h).trans ((Below.heap_setCell _ _ _ g h).trans ((Below.heap_setCell _ _ _ g h).trans (Below.heap_setCell _ _ _ g h))))
theorem set5_below {w2 w : World} {N : Nat} (b : Below w2.heap.size w2 w) (h : w2.heap.size ≤ N) (a0 a1 a2 a3 a4 : Value) : Below w2.heap.size w2 (((((w.setCell ⟨N, 0, none⟩ a0).setCell ⟨N, 1, none⟩ a1).setCell ⟨N, 2, none⟩ a2).setCell ⟨N, 3, none⟩ a3).setCell ⟨N, 4, none⟩ a4) :=
  ((((b.setCell (p := ⟨N, 0, none⟩) h _).setCell (p := ⟨N, 1, none⟩) h _).setCell (p := ⟨N, 2, none⟩) h _).setCell (p := ⟨N, 3, none⟩) h _).setCell (p := ⟨N, 4, none⟩) h _
theorem set5_size (w : World) (N : Nat) (a0 a1 a2 a3 a4 : Value) : (((((w.setCell ⟨N, 0, none⟩ a0).setCell ⟨N, 1, none⟩ a1).setCell ⟨N, 2, none⟩ a2).setCell ⟨N, 3, none⟩ a3).setCell ⟨N, 4, none⟩ a4).heap.size = w.heap.size := by simp [World.setCell]
theorem alloc_old (w : World) (o : Obj) (g : Nat) (h : g < w.heap.size) : (w.alloc o).heap[g]? = w.heap[g]? := (below1 w o).block g h
theorem way_sets {ta tb : Tr 16} {w2 w4 : World} {a0 a1 a2 a3 a4 c0 c1 c2 c3 c4 : Value} {FA FB : Nat → Prop} (b4 : Below w2.heap.size w2 w4) (rx : Rf FA w4 16 [a0, a1, a2, a3, a4] ta) (ry : Rf FB w4 16 [c0, c1, c2, c3, c4] tb) {X Y : Nat} (zx : D5 w4 X (.int .i64 0) (.int .i64 0) (.int .u64 0) (.string ⟨#[]⟩) (.slice none 0 0)) (zy : D5 w4 Y (.int .i64 0) (.int .i64 0) (.int .u64 0) (.string ⟨#[]⟩) (.slice none 0 0)) (hne : X ≠ Y) (hx : w2.heap.size ≤ X) (hy : w2.heap.size ≤ Y) (hA : ∀ g, FA g → g ≠ X ∧ g ≠ Y) (hB : ∀ g, FB g → g ≠ X ∧ g ≠ Y) : D5 ((((((((((w4.setCell ⟨X, 0, none⟩ a0).setCell ⟨X, 1, none⟩ a1).setCell ⟨X, 2, none⟩ a2).setCell ⟨X, 3, none⟩ a3).setCell ⟨X, 4, none⟩ a4).setCell ⟨Y, 0, none⟩ c0).setCell ⟨Y, 1, none⟩ c1).setCell ⟨Y, 2, none⟩ c2).setCell ⟨Y, 3, none⟩ c3).setCell ⟨Y, 4, none⟩ c4) X a0 a1 a2 a3 a4 ∧ D5 ((((((((((w4.setCell ⟨X, 0, none⟩ a0).setCell ⟨X, 1, none⟩ a1).setCell ⟨X, 2, none⟩ a2).setCell ⟨X, 3, none⟩ a3).setCell ⟨X, 4, none⟩ a4).setCell ⟨Y, 0, none⟩ c0).setCell ⟨Y, 1, none⟩ c1).setCell ⟨Y, 2, none⟩ c2).setCell ⟨Y, 3, none⟩ c3).setCell ⟨Y, 4, none⟩ c4) Y c0 c1 c2 c3 c4 ∧ Rep ((((((((((w4.setCell ⟨X, 0, none⟩ a0).setCell ⟨X, 1, none⟩ a1).setCell ⟨X, 2, none⟩ a2).setCell ⟨X, 3, none⟩ a3).setCell ⟨X, 4, none⟩ a4).setCell ⟨Y, 0, none⟩ c0).setCell ⟨Y, 1, none⟩ c1).setCell ⟨Y, 2, none⟩ c2).setCell ⟨Y, 3, none⟩ c3).setCell ⟨Y, 4, none⟩ c4) 16 [a0, a1, a2, a3, a4] ta ∧ Rep ((((((((((w4.setCell ⟨X, 0, none⟩ a0).setCell ⟨X, 1, none⟩ a1).setCell ⟨X, 2, none⟩ a2).setCell ⟨X, 3, none⟩ a3).setCell ⟨X, 4, none⟩ a4).setCell ⟨Y, 0, none⟩ c0).setCell ⟨Y, 1, none⟩ c1).setCell ⟨Y, 2, none⟩ c2).setCell ⟨Y, 3, none⟩ c3).setCell ⟨Y, 4, none⟩ c4) 16 [c0, c1, c2, c3, c4] tb ∧ Below w2.heap.size w2 ((((((((((w4.setCell ⟨X, 0, none⟩ a0).setCell ⟨X, 1, none⟩ a1).setCell ⟨X, 2, none⟩ a2).setCell ⟨X, 3, none⟩ a3).setCell ⟨X, 4, none⟩ a4).setCell ⟨Y, 0, none⟩ c0).setCell ⟨Y, 1, none⟩ c1).setCell ⟨Y, 2, none⟩ c2).setCell ⟨Y, 3, none⟩ c3).setCell ⟨Y, 4, none⟩ c4) := by
  have e : ∀ g, g ≠ X → g ≠ Y → ((((((((((w4.setCell ⟨X, 0, none⟩ a0).setCell ⟨X, 1, none⟩ a1).setCell ⟨X, 2, none⟩ a2).setCell ⟨X, 3, none⟩ a3).setCell ⟨X, 4, none⟩ a4).setCell ⟨Y, 0, none⟩ c0).setCell ⟨Y, 1, none⟩ c1).setCell ⟨Y, 2, none⟩ c2).setCell ⟨Y, 3, none⟩ c3).setCell ⟨Y, 4, none⟩ c4).heap[g]? = w4.heap[g]? := fun g h1 h2 => (set5_other _ Y _ _ _ _ _ g h2).trans (set5_other _ X _ _ _ _ _ g h1)
  exact ⟨(set5_other _ Y _ _ _ _ _ X hne).trans (zx.set _ _ _ _ _), D5.set (w := (((((w4.setCell ⟨X, 0, none⟩ a0).setCell ⟨X, 1, none⟩ a1).setCell ⟨X, 2, none⟩ a2).setCell ⟨X, 3, none⟩ a3).setCell ⟨X, 4, none⟩ a4)) ((set5_other _ X _ _ _ _ _ Y hne.symm).trans zy) _ _ _ _ _, Rf.rep _ _ _ (Rf.to (F' := FA) (fun g hg => ⟨hg, e g (hA g hg).1 (hA g hg).2⟩) _ _ _ rx), Rf.rep _ _ _ (Rf.to (F' := FB) (fun g hg => ⟨hg, e g (hB g hg).1 (hB g hg).2⟩) _ _ _ ry), set5_below (set5_below b4 hx _ _ _ _ _) hy _ _ _ _ _⟩
theorem way_xy {ta tb : Tr 16} {w2 w4 : World} {a0 a1 a2 a3 a4 c0 c1 c2 c3 c4 : Value} {FA FB : Nat → Prop} (b4 : Below w2.heap.size w2 w4) (rx : Rf FA w4 16 [a0, a1, a2, a3, a4] ta) (ry : Rf FB w4 16 [c0, c1, c2, c3, c4] tb) {X : Nat} (zx : D5 w4 X (.int .i64 0) (.int .i64 0) (.int .u64 0) (.string ⟨#[]⟩) (.slice none 0 0)) (hx : w2.heap.size ≤ X) (hA : ∀ g, FA g → g ≠ X ∧ g < w4.heap.size) (hB : ∀ g, FB g → g ≠ X ∧ g < w4.heap.size) : D5 ((((((w4.setCell ⟨X, 0, none⟩ a0).setCell ⟨X, 1, none⟩ a1).setCell ⟨X, 2, none⟩ a2).setCell ⟨X, 3, none⟩ a3).setCell ⟨X, 4, none⟩ a4).alloc (.cells #[c0, c1, c2, c3, c4] 25)) X a0 a1 a2 a3 a4 ∧ D5 ((((((w4.setCell ⟨X, 0, none⟩ a0).setCell ⟨X, 1, none⟩ a1).setCell ⟨X, 2, none⟩ a2).setCell ⟨X, 3, none⟩ a3).setCell ⟨X, 4, none⟩ a4).alloc (.cells #[c0, c1, c2, c3, c4] 25)) w4.heap.size c0 c1 c2 c3 c4 ∧ Rep ((((((w4.setCell ⟨X, 0, none⟩ a0).setCell ⟨X, 1, none⟩ a1).setCell ⟨X, 2, none⟩ a2).setCell ⟨X, 3, none⟩ a3).setCell ⟨X, 4, none⟩ a4).alloc (.cells #[c0, c1, c2, c3, c4] 25)) 16 [a0, a1, a2, a3, a4] ta ∧ Rep ((((((w4.setCell ⟨X, 0, none⟩ a0).setCell ⟨X, 1, none⟩ a1).setCell ⟨X, 2, none⟩ a2).setCell ⟨X, 3, none⟩ a3).setCell ⟨X, 4, none⟩ a4).alloc (.cells #[c0, c1, c2, c3, c4] 25)) 16 [c0, c1, c2, c3, c4] tb ∧ Below w2.heap.size w2 ((((((w4.setCell ⟨X, 0, none⟩ a0).setCell ⟨X, 1, none⟩ a1).setCell ⟨X, 2, none⟩ a2).setCell ⟨X, 3, none⟩ a3).setCell ⟨X, 4, none⟩ a4).alloc (.cells #[c0, c1, c2, c3, c4] 25)) := by
  have sz := set5_size w4 X a0 a1 a2 a3 a4
  have e : ∀ g, g ≠ X → g < w4.heap.size → ((((((w4.setCell ⟨X, 0, none⟩ a0).setCell ⟨X, 1, none⟩ a1).setCell ⟨X, 2, none⟩ a2).setCell ⟨X, 3, none⟩ a3).setCell ⟨X, 4, none⟩ a4).alloc (.cells #[c0, c1, c2, c3, c4] 25)).heap[g]? = w4.heap[g]? := fun g h1 h2 => (alloc_old _ _ g (by rw [sz]; exact h2)).trans (set5_other _ X _ _ _ _ _ g h1)
  have n := D5.new (((((w4.setCell ⟨X, 0, none⟩ a0).setCell ⟨X, 1, none⟩ a1).setCell ⟨X, 2, none⟩ a2).setCell ⟨X, 3, none⟩ a3).setCell ⟨X, 4, none⟩ a4) c0 c1 c2 c3 c4
  rw [sz] at n
  exact ⟨(alloc_old _ _ X (by rw [sz]; exact zx.lt)).trans (zx.set _ _ _ _ _), n, Rf.rep _ _ _ (Rf.to (F' := FA) (fun g hg => ⟨hg, e g (hA g hg).1 (hA g hg).2⟩) _ _ _ rx), Rf.rep _ _ _ (Rf.to (F' := FB) (fun g hg => ⟨hg, e g (hB g hg).1 (hB g hg).2⟩) _ _ _ ry), (set5_below b4 hx _ _ _ _ _).alloc (by rw [sz]; exact b4.size) _⟩
theorem way_new {ta tb : Tr 16} {w2 w4 : World} {a0 a1 a2 a3 a4 c0 c1 c2 c3 c4 : Value} {FA FB : Nat → Prop} (b4 : Below w2.heap.size w2 w4) (rx : Rf FA w4 16 [a0, a1, a2, a3, a4] ta) (ry : Rf FB w4 16 [c0, c1, c2, c3, c4] tb) (hA : ∀ g, FA g → g < w4.heap.size) (hB : ∀ g, FB g → g < w4.heap.size) : D5 ((w4.alloc (.cells #[a0, a1, a2, a3, a4] 25)).alloc (.cells #[c0, c1, c2, c3, c4] 25)) w4.heap.size a0 a1 a2 a3 a4 ∧ D5 ((w4.alloc (.cells #[a0, a1, a2, a3, a4] 25)).alloc (.cells #[c0, c1, c2, c3, c4] 25)) (w4.heap.size + 1) c0 c1 c2 c3 c4 ∧ Rep ((w4.alloc (.cells #[a0, a1, a2, a3, a4] 25)).alloc (.cells #[c0, c1, c2, c3, c4] 25)) 16 [a0, a1, a2, a3, a4] ta ∧ Rep ((w4.alloc (.cells #[a0, a1, a2, a3, a4] 25)).alloc (.cells #[c0, c1, c2, c3, c4] 25)) 16 [c0, c1, c2, c3, c4] tb ∧ Below w2.heap.size w2 ((w4.alloc (.cells #[a0, a1, a2, a3, a4] 25)).alloc (.cells #[c0, c1, c2, c3, c4] 25)) := by
  have e : ∀ g, g < w4.heap.size → ((w4.alloc (.cells #[a0, a1, a2, a3, a4] 25)).alloc (.cells #[c0, c1, c2, c3, c4] 25)).heap[g]? = w4.heap[g]? := fun g h => (alloc_old _ _ g (by rw [World.size_alloc]; omega)).trans (alloc_old _ _ g h)
  have n := D5.new (w4.alloc (.cells #[a0, a1, a2, a3, a4] 25)) c0 c1 c2 c3 c4
  rw [World.size_alloc] at n
  exact ⟨(D5.new w4 _ _ _ _ _).below (below1 _ _), n, Rf.rep _ _ _ (Rf.to (F' := FA) (fun g hg => ⟨hg, e g (hA g hg)⟩) _ _ _ rx), Rf.rep _ _ _ (Rf.to (F' := FB) (fun g hg => ⟨hg, e g (hB g hg)⟩) _ _ _ ry), (b4.alloc b4.size _).alloc (by rw [World.size_alloc]; have := b4.size; omega) _⟩
theorem drew_size (w : World) : w.drew.heap.size = w.heap.size := rfl
theorem swap5 {A B C D E : Prop} (h : A ∧ B ∧ C ∧ D ∧ E) : B ∧ A ∧ D ∧ C ∧ E := ⟨h.2.1, h.1, h.2.2.2.1, h.2.2.1, h.2.2.2.2⟩
theorem eqT_code : ∀ (n m : Nat) (a : Tr n) (b : Tr m), (eqT n m a b).2 = 0 ∨ (eqT n m a b).2 = 10
  | 0, _, a, _ => a.elim
  | _ + 1, 0, _, b => b.elim
  | n + 1, m + 1, a, b => by
    simp only [eqT]
    split
    · exact .inl rfl
    split
    · exact .inr rfl
    split
    · exact .inl rfl
    split
    · generalize a.ks = xs
      generalize b.ks = ys
      match xs, ys with
      | [a0, a1], [b0, b1] =>
        simp only [eqP]
        split
        · exact eqT_code n m a0 b0
        · exact eqT_code n m a1 b1
      | [], _ | [_], _ | _ :: _ :: _ :: _, _ | [_, _], [] | [_, _], [_] | [_, _], _ :: _ :: _ :: _ => exact .inl rfl
    · exact .inl rfl
/-- Marks of steps. -/
def Mq (n : Nat) : Prop := n = n
theorem Mq.mk (n : Nat) : Mq n := rfl
/-- A mark of a step. -/
def Mk : Prop := True

set_option maxRecDepth 100000 in
set_option maxHeartbeats 20000000 in
theorem law_main (ta tb : Tr 16) (ka ia ua kb ib ub : Int) (sa sb : ByteArray) (pa pb : Option Addr) (la ca lb cb : Nat) (na nb : Nat) (ta0 : Tr na) (tb0 : Tr nb) (w : World)
    (rga : rgt 16 ta = true) (rgb : rgt 16 tb = true) (ptA : (pts 16 ta).1 ≤ 4096) (ptB : (pts 16 tb).1 ≤ 4096) (ra : Rep w 16 [.int .i64 ka, .int .i64 ia, .int .u64 ua, .string sa, .slice pa la ca] ta) (rb : Rep w 16 [.int .i64 kb, .int .i64 ib, .int .u64 ub, .string sb, .slice pb lb cb] tb)
    (ra0 : Rep w na [.int .i64 ka, .int .i64 ia, .int .u64 ua, .string sa, .slice pa la ca] ta0) (rb0 : Rep w nb [.int .i64 kb, .int .i64 ib, .int .u64 ub, .string sb, .slice pb lb cb] tb0) (va : vB na ta0 = true) (vb : vB nb tb0 = true) (hT : Tab14 w) (hP : Pow0 w) :
    Calls Tryd.prog 4 #[.agg #[.int .i64 ka, .int .i64 ia, .int .u64 ua, .string sa, .slice pa la ca], .agg #[.int .i64 kb, .int .i64 ib, .int .u64 ub, .string sb, .slice pb lb cb]] w fun e w' => e = .returned (.bool true) ∧ Below w.heap.size w w' := by
  have b0 : Below w.heap.size w ((w.alloc (.cells #[.int .i64 ka, .int .i64 ia, .int .u64 ua, .string sa, .slice pa la ca] 25)).alloc (.cells #[.int .i64 kb, .int .i64 ib, .int .u64 ub, .string sb, .slice pb lb cb] 25)) := ((Below.refl _ w).alloc (Nat.le_refl _) _).alloc (by simp) _
  have da : D5 ((w.alloc (.cells #[.int .i64 ka, .int .i64 ia, .int .u64 ua, .string sa, .slice pa la ca] 25)).alloc (.cells #[.int .i64 kb, .int .i64 ib, .int .u64 ub, .string sb, .slice pb lb cb] 25)) w.heap.size (.int .i64 ka) (.int .i64 ia) (.int .u64 ua) (.string sa) (.slice pa la ca) := (D5.new w _ _ _ _ _).below (below1 _ _)
  have db : D5 ((w.alloc (.cells #[.int .i64 ka, .int .i64 ia, .int .u64 ua, .string sa, .slice pa la ca] 25)).alloc (.cells #[.int .i64 kb, .int .i64 ib, .int .u64 ub, .string sb, .slice pb lb cb] 25)) (w.heap.size + 1) (.int .i64 kb) (.int .i64 ib) (.int .u64 ub) (.string sb) (.slice pb lb cb) := by
    have := D5.new (w.alloc (.cells #[.int .i64 ka, .int .i64 ia, .int .u64 ua, .string sa, .slice pa la ca] 25)) (.int .i64 kb) (.int .i64 ib) (.int .u64 ub) (.string sb) (.slice pb lb cb)
    rw [World.size_alloc] at this
    exact this
  have HT := Lib.hid hT
  have HP := Lib.hid (Lib.tabBelow_of_tabIs hP)
  have HV := Lib.hid (And.intro va vb)
  have HA := Lib.hid (And.intro ra (And.intro rb (And.intro rga (And.intro rgb (And.intro ptA ptB)))))
  clear hT hP va vb ra rb rga rgb ptA ptB
  go_enter Tryd.func4, Tryd.ntmps4
  go_wp2_with fail
  refine (refValid na ta0 _ _ _ _ _ _ (Rep.below b0 na _ _ ra0)).mono ?_
  rintro e w1 ⟨rfl, b1⟩
  rw [HV.out.1]
  have B1 := b0.trans (b1.mono b0.size)
  have da1 := da.below b1
  have db1 := db.below b1
  have cb1 := db1.c
  clear da db b0 b1
  go_wp2_with fail
  refine (refValid nb tb0 _ _ _ _ _ _ (Rep.below B1 nb _ _ rb0)).mono ?_
  rintro e w2 ⟨rfl, b2⟩
  rw [HV.out.2]
  have B2 := B1.trans (b2.mono B1.size)
  have da2 := da1.below b2
  have db2 := db1.below b2
  have hz := db2.lt
  clear da1 db1 B1 b2 cb1 ra0 rb0 HV
  have KS : Hid (∀ w' : World, Below w2.heap.size w2 w' → (w'.cell? ⟨w.heap.size, 0, none⟩ = some (.int .i64 ka) ∧ w'.cell? ⟨w.heap.size, 1, none⟩ = some (.int .i64 ia) ∧ w'.cell? ⟨w.heap.size, 2, none⟩ = some (.int .u64 ua) ∧ w'.cell? ⟨w.heap.size, 3, none⟩ = some (.string sa) ∧ w'.cell? ⟨w.heap.size, 4, none⟩ = some (.slice pa la ca)) ∧ w'.cell? ⟨w.heap.size + 1, 0, none⟩ = some (.int .i64 kb) ∧ w'.cell? ⟨w.heap.size + 1, 1, none⟩ = some (.int .i64 ib) ∧ w'.cell? ⟨w.heap.size + 1, 2, none⟩ = some (.int .u64 ub) ∧ w'.cell? ⟨w.heap.size + 1, 3, none⟩ = some (.string sb) ∧ w'.cell? ⟨w.heap.size + 1, 4, none⟩ = some (.slice pb lb cb)) := fun w' h => ⟨(da2.below h).c, (db2.below h).c⟩
  have KA : Hid (∀ wx : World, Below w2.heap.size w2 wx → Calls Tryd.prog 10 #[.agg #[.int .i64 ka, .int .i64 ia, .int .u64 ua, .string sa, .slice pa la ca]] wx fun e w' => ∃ (k i u : Int) (s : ByteArray) (ad : Option Addr) (len cap : Nat), e = .returned (.agg #[.int .i64 k, .int .i64 i, .int .u64 u, .string s, .slice ad len cap]) ∧ Mk ∧ Hid (Rf (fun g => wx.heap.size ≤ g ∧ g < w'.heap.size) w' 16 [.int .i64 k, .int .i64 i, .int .u64 u, .string s, .slice ad len cap] ta) ∧ Hid (Below wx.heap.size wx w') ∧ wx.heap.size ≤ w'.heap.size ∧ Below w2.heap.size w2 w' ∧ w2.heap.size ≤ w'.heap.size) := fun wx hx =>
    (copy_any 16 ta _ _ _ _ _ wx (Rep.below (B2.trans (hx.mono B2.size)) 16 _ _ HA.out.1) HA.out.2.2.2.2.1).mono fun e w' ⟨k, i, u, s, ad, len, cap, he, rf, hb⟩ => ⟨k, i, u, s, ad, len, cap, he, trivial, rf, hb, hb.size, hx.trans (hb.mono hx.size), (hx.trans (hb.mono hx.size)).size⟩
  have KB : Hid (∀ wx wq : World, Below wq.heap.size wq wx → Below w2.heap.size w2 wx → Calls Tryd.prog 10 #[.agg #[.int .i64 kb, .int .i64 ib, .int .u64 ub, .string sb, .slice pb lb cb]] wx fun e w' => ∃ (k i u : Int) (s : ByteArray) (ad : Option Addr) (len cap : Nat), e = .returned (.agg #[.int .i64 k, .int .i64 i, .int .u64 u, .string s, .slice ad len cap]) ∧ Hid (Rf (fun g => wx.heap.size ≤ g ∧ g < w'.heap.size) w' 16 [.int .i64 k, .int .i64 i, .int .u64 u, .string s, .slice ad len cap] tb) ∧ Hid (Below wq.heap.size wq w') ∧ Hid (Below wx.heap.size wx w') ∧ wx.heap.size ≤ w'.heap.size ∧ Below w2.heap.size w2 w' ∧ w2.heap.size ≤ w'.heap.size) := fun wx wq hq hx =>
    (copy_any 16 tb _ _ _ _ _ wx (Rep.below (B2.trans (hx.mono B2.size)) 16 _ _ HA.out.2.1) HA.out.2.2.2.2.2).mono fun e w' ⟨k, i, u, s, ad, len, cap, he, rf, hb⟩ => ⟨k, i, u, s, ad, len, cap, he, rf, hq.trans (hb.mono hq.size), hb, hb.size, hx.trans (hb.mono hx.size), (hx.trans (hb.mono hx.size)).size⟩
  go_wp2_with fail
  go_cut [5, 6] (fun s5 s6 wc => ∃ (X Y : Nat) (k i u : Int) (s : ByteArray) (ad : Option Addr) (len cap : Nat) (k' i' u' : Int) (s' : ByteArray) (ad' : Option Addr) (len' cap' : Nat), s5 = .pointer (some ⟨X, 0, none⟩) ∧ s6 = .pointer (some ⟨Y, 0, none⟩) ∧ D5 wc X (.int .i64 k) (.int .i64 i) (.int .u64 u) (.string s) (.slice ad len cap) ∧ D5 wc Y (.int .i64 k') (.int .i64 i') (.int .u64 u') (.string s') (.slice ad' len' cap') ∧ Rep wc 16 [.int .i64 k, .int .i64 i, .int .u64 u, .string s, .slice ad len cap] ta ∧ Rep wc 16 [.int .i64 k', .int .i64 i', .int .u64 u', .string s', .slice ad' len' cap'] tb ∧ Below w2.heap.size w2 wc)
  case first =>
    go_region_held3 (fun w' => (w'.cell? ⟨w.heap.size, 0, none⟩ = some (.int .i64 ka) ∧ w'.cell? ⟨w.heap.size, 1, none⟩ = some (.int .i64 ia) ∧ w'.cell? ⟨w.heap.size, 2, none⟩ = some (.int .u64 ua) ∧ w'.cell? ⟨w.heap.size, 3, none⟩ = some (.string sa) ∧ w'.cell? ⟨w.heap.size, 4, none⟩ = some (.slice pa la ca)) ∧ w'.cell? ⟨w.heap.size + 1, 0, none⟩ = some (.int .i64 kb) ∧ w'.cell? ⟨w.heap.size + 1, 1, none⟩ = some (.int .i64 ib) ∧ w'.cell? ⟨w.heap.size + 1, 2, none⟩ = some (.int .u64 ub) ∧ w'.cell? ⟨w.heap.size + 1, 3, none⟩ = some (.string sb) ∧ w'.cell? ⟨w.heap.size + 1, 4, none⟩ = some (.slice pb lb cb)) (first | (refine KS.out _ ?_; with_reducible assumption) | (refine KS.out _ ?_; ((repeat' first | with_reducible assumption | with_reducible exact Below.refl _ _ | with_reducible refine Below.drew ?_ | with_reducible refine Below.setCell ?_ ?_ _ | with_reducible refine Below.alloc ?_ ?_ _); all_goals (first | omega | (simp only [World.size_alloc]; omega) | (simp; omega) | (show w2.heap.size ≤ _; simp; omega))))) (first | (go_at_call 10; have hm0 := ‹Mk›; refine (KB.out _ w3 (by ((repeat' first | with_reducible assumption | with_reducible exact Below.refl _ _ | with_reducible refine Below.drew ?_ | with_reducible refine Below.setCell ?_ ?_ _ | with_reducible refine Below.alloc ?_ ?_ _); all_goals (first | omega | (simp only [World.size_alloc]; omega) | (simp; omega) | (show w3.heap.size ≤ _; simp; omega)))) (by ((repeat' first | with_reducible assumption | with_reducible exact Below.refl _ _ | with_reducible refine Below.drew ?_ | with_reducible refine Below.setCell ?_ ?_ _ | with_reducible refine Below.alloc ?_ ?_ _); all_goals (first | omega | (simp only [World.size_alloc]; omega) | (simp; omega) | (show w2.heap.size ≤ _; simp; omega))))).mono ?_; rintro e w4 ⟨k', i', u', s', ad', len', cap', rfl, ry, b34, bB, zB, b4, z4⟩; (try (with_reducible have ra := zed_b1 qa bB.out); obtain ⟨ra0, ra1, ra2, ra3, ra4⟩ := ra.c; have raf0 := ra.f (o := 0); have raf1 := ra.f (o := 1); have raf2 := ra.f (o := 2); have raf3 := ra.f (o := 3); have raf4 := ra.f (o := 4); have ral := ra.lt); (try (with_reducible have ra := zed_b2 qa bB.out); obtain ⟨ra0, ra1, ra2, ra3, ra4⟩ := ra.c; have raf0 := ra.f (o := 0); have raf1 := ra.f (o := 1); have raf2 := ra.f (o := 2); have raf3 := ra.f (o := 3); have raf4 := ra.f (o := 4); have ral := ra.lt); (try (with_reducible have rb := zed_b1 qb bB.out); obtain ⟨rb0, rb1, rb2, rb3, rb4⟩ := rb.c; have rbf0 := rb.f (o := 0); have rbf1 := rb.f (o := 1); have rbf2 := rb.f (o := 2); have rbf3 := rb.f (o := 3); have rbf4 := rb.f (o := 4); have rbl := rb.lt); (try (with_reducible have rc := zed_n1 bB.out); obtain ⟨rc0, rc1, rc2, rc3, rc4⟩ := rc.c; have rcf0 := rc.f (o := 0); have rcf1 := rc.f (o := 1); have rcf2 := rc.f (o := 2); have rcf3 := rc.f (o := 3); have rcf4 := rc.f (o := 4); have rcl := rc.lt); (try (with_reducible obtain ⟨rc, rd⟩ := zed_n2 bB.out); obtain ⟨rc0, rc1, rc2, rc3, rc4⟩ := rc.c; have rcf0 := rc.f (o := 0); have rcf1 := rc.f (o := 1); have rcf2 := rc.f (o := 2); have rcf3 := rc.f (o := 3); have rcf4 := rc.f (o := 4); have rcl := rc.lt; obtain ⟨rd0, rd1, rd2, rd3, rd4⟩ := rd.c; have rdf0 := rd.f (o := 0); have rdf1 := rd.f (o := 1); have rdf2 := rd.f (o := 2); have rdf3 := rd.f (o := 3); have rdf4 := rd.f (o := 4); have rdl := rd.lt)) | (go_at_call 10; refine (KA.out _ (by ((repeat' first | with_reducible assumption | with_reducible exact Below.refl _ _ | with_reducible refine Below.drew ?_ | with_reducible refine Below.setCell ?_ ?_ _ | with_reducible refine Below.alloc ?_ ?_ _); all_goals (first | omega | (simp only [World.size_alloc]; omega) | (simp; omega) | (show w2.heap.size ≤ _; simp; omega))))).mono ?_; rintro e w3 ⟨k, i, u, s, ad, len, cap, rfl, mk3, rx, bA, zA, b3, z3⟩; (try (with_reducible have qa := zed_d1 bA.out); obtain ⟨qa0, qa1, qa2, qa3, qa4⟩ := qa.c; have qaf0 := qa.f (o := 0); have qaf1 := qa.f (o := 1); have qaf2 := qa.f (o := 2); have qaf3 := qa.f (o := 3); have qaf4 := qa.f (o := 4); have qal := qa.lt); (try (with_reducible obtain ⟨qa, qb⟩ := zed_d2 bA.out); obtain ⟨qa0, qa1, qa2, qa3, qa4⟩ := qa.c; have qaf0 := qa.f (o := 0); have qaf1 := qa.f (o := 1); have qaf2 := qa.f (o := 2); have qaf3 := qa.f (o := 3); have qaf4 := qa.f (o := 4); have qal := qa.lt; obtain ⟨qb0, qb1, qb2, qb3, qb4⟩ := qb.c; have qbf0 := qb.f (o := 0); have qbf1 := qb.f (o := 1); have qbf2 := qb.f (o := 2); have qbf3 := qb.f (o := 3); have qbf4 := qb.f (o := 4); have qbl := qb.lt)))
    all_goals (go_wp2_with fail; go_meet)
    all_goals have rx4 := Rf.to (F' := _) (fun g hg => ⟨hg, b34.out.block g hg.2⟩) _ _ _ rx.out
    all_goals refine ⟨_, _, k, i, u, s, ad, len, cap, k', i', u', s', ad', len', cap', rfl, rfl, ?_⟩
    all_goals first
      | with_reducible refine way_new b4 rx4 ry.out ?_ ?_
      | with_reducible refine swap5 (way_new b4 ry.out rx4 ?_ ?_)
      | with_reducible refine way_xy b4 rx4 ry.out (by assumption) ?_ ?_ ?_
      | with_reducible refine swap5 (way_xy b4 ry.out rx4 (by assumption) ?_ ?_ ?_)
      | with_reducible refine way_sets b4 rx4 ry.out (by assumption) (by assumption) ?_ ?_ ?_ ?_ ?_
    all_goals first
      | omega
      | (intro g hg; simp only [drew_size, World.size_alloc] at hg zA zB; omega)
      | (intro g hg; simp only [drew_size, World.size_alloc] at hg zA zB; constructor <;> omega)
  case rest =>
    obtain ⟨X, Y, k, i, u, s, ad, len, cap, k', i', u', s', ad', len', cap', rfl, rfl, dx, dy, rx, ry, B3⟩ := hcut
    have hxl := dx.lt
    have hyl := dy.lt
    have da3 := da2.below B3
    have db3 := db2.below B3
    have W3 := B2.trans (B3.mono B2.size)
    obtain ⟨x0, x1, x2, x3, x4⟩ := dx.c
    obtain ⟨y0, y1, y2, y3, y4⟩ := dy.c
    clear KS KA KB da2 db2 hz
    have hcode := eqT_code 16 16 ta tb
    go_wp2_with fail
    refine (dequal_any 16 16 ta tb _ _ _ _ _ _ _ _ _ _ _ (by decide) HA.out.2.2.1 HA.out.2.2.2.1 HA.out.2.2.2.2.1 HA.out.2.2.2.2.2 rx ry).mono ?_
    rintro e w5 ⟨rfl, b5⟩
    have da5 := da3.below b5
    have db5 := db3.below b5
    have dx5 := dx.below b5
    have dy5 := dy.below b5
    have rx5 := Rep.below b5 16 _ _ rx
    have ry5 := Rep.below b5 16 _ _ ry
    have W5 := W3.trans (b5.mono W3.size)
    clear x0 x1 x2 x3 x4 y0 y1 y2 y3 y4 dx dy da3 db3 rx ry hxl hyl B3
    obtain ⟨x0, x1, x2, x3, x4⟩ := da5.c
    obtain ⟨y0, y1, y2, y3, y4⟩ := db5.c
    go_wp2_with fail
    refine (requal_any 16 16 ta tb _ _ _ _ _ _ _ _ _ _ _ HA.out.2.2.1 HA.out.2.2.2.1 (Rep.below W5 16 _ _ HA.out.1) (Rep.below W5 16 _ _ HA.out.2.1)).mono ?_
    rintro e w6 ⟨rfl, b6⟩
    have da6 := da5.below b6
    have db6 := db5.below b6
    have dx6 := dx5.below b6
    have dy6 := dy5.below b6
    have rx6 := Rep.below b6 16 _ _ rx5
    have ry6 := Rep.below b6 16 _ _ ry5
    have W6 := W5.trans (b6.mono W5.size)
    clear x0 x1 x2 x3 x4 y0 y1 y2 y3 y4 dx5 dy5 da5 db5 rx5 ry5 W5 b5 b6
    generalize eqT 16 16 ta tb = R at *
    obtain ⟨got, code⟩ := R
    have hcode : code = 0 ∨ code = 10 := hcode
    have KT : Hid (∀ w' : World, Below w6.heap.size w6 w' → (w'.cell? ⟨X, 0, none⟩ = some (.int .i64 k) ∧ w'.cell? ⟨X, 1, none⟩ = some (.int .i64 i) ∧ w'.cell? ⟨X, 2, none⟩ = some (.int .u64 u) ∧ w'.cell? ⟨X, 3, none⟩ = some (.string s) ∧ w'.cell? ⟨X, 4, none⟩ = some (.slice ad len cap)) ∧ (w'.cell? ⟨Y, 0, none⟩ = some (.int .i64 k') ∧ w'.cell? ⟨Y, 1, none⟩ = some (.int .i64 i') ∧ w'.cell? ⟨Y, 2, none⟩ = some (.int .u64 u') ∧ w'.cell? ⟨Y, 3, none⟩ = some (.string s') ∧ w'.cell? ⟨Y, 4, none⟩ = some (.slice ad' len' cap')) ∧ (w'.cell? ⟨w.heap.size, 0, none⟩ = some (.int .i64 ka) ∧ w'.cell? ⟨w.heap.size, 1, none⟩ = some (.int .i64 ia) ∧ w'.cell? ⟨w.heap.size, 2, none⟩ = some (.int .u64 ua) ∧ w'.cell? ⟨w.heap.size, 3, none⟩ = some (.string sa) ∧ w'.cell? ⟨w.heap.size, 4, none⟩ = some (.slice pa la ca)) ∧ w'.cell? ⟨w.heap.size + 1, 0, none⟩ = some (.int .i64 kb) ∧ w'.cell? ⟨w.heap.size + 1, 1, none⟩ = some (.int .i64 ib) ∧ w'.cell? ⟨w.heap.size + 1, 2, none⟩ = some (.int .u64 ub) ∧ w'.cell? ⟨w.heap.size + 1, 3, none⟩ = some (.string sb) ∧ w'.cell? ⟨w.heap.size + 1, 4, none⟩ = some (.slice pb lb cb)) := fun w' h => ⟨(dx6.below h).c, (dy6.below h).c, (da6.below h).c, (db6.below h).c⟩
    have KD : Hid (∀ wx : World, Below w6.heap.size w6 wx → Calls Tryd.prog 13 #[.agg #[.int .i64 k, .int .i64 i, .int .u64 u, .string s, .slice ad len cap], .agg #[.int .i64 k', .int .i64 i', .int .u64 u', .string s', .slice ad' len' cap']] wx fun e w' => e = .returned (.bool (sm 16 16 ta tb)) ∧ Below w6.heap.size w6 w') := fun wx hx =>
      (dsame_any 16 16 ta tb _ _ _ _ _ _ _ _ _ _ wx (Rep.below hx 16 _ _ rx6) (Rep.below hx 16 _ _ ry6)).mono fun e w' ⟨he, hb⟩ => ⟨he, hx.trans (hb.mono hx.size)⟩
    have KE : Hid (∀ wx : World, Below w6.heap.size w6 wx → Calls Tryd.prog 14 #[.agg #[.int .i64 ka, .int .i64 ia, .int .u64 ua, .string sa, .slice pa la ca], .agg #[.int .i64 kb, .int .i64 ib, .int .u64 ub, .string sb, .slice pb lb cb]] wx fun e w' => e = .returned (.bool (sm 16 16 ta tb)) ∧ Below w6.heap.size w6 w') := fun wx hx =>
      (same_any 16 16 ta tb _ _ _ _ _ _ _ _ _ _ wx (Rep.below (W6.trans (hx.mono W6.size)) 16 _ _ HA.out.1) (Rep.below (W6.trans (hx.mono W6.size)) 16 _ _ HA.out.2.1)).mono fun e w' ⟨he, hb⟩ => ⟨he, hx.trans (hb.mono hx.size)⟩
    have KX : Hid (∀ wx : World, Below w6.heap.size w6 wx → Calls Tryd.prog 14 #[.agg #[.int .i64 k, .int .i64 i, .int .u64 u, .string s, .slice ad len cap], .agg #[.int .i64 ka, .int .i64 ia, .int .u64 ua, .string sa, .slice pa la ca]] wx fun e w' => e = .returned (.bool true) ∧ Below w6.heap.size w6 w') := fun wx hx =>
      (same_any 16 16 ta ta _ _ _ _ _ _ _ _ _ _ wx (Rep.below hx 16 _ _ rx6) (Rep.below (W6.trans (hx.mono W6.size)) 16 _ _ HA.out.1)).mono fun e w' ⟨he, hb⟩ => ⟨by rw [he, sm_refl], hx.trans (hb.mono hx.size)⟩
    have KY : Hid (∀ wx : World, Below w6.heap.size w6 wx → Calls Tryd.prog 14 #[.agg #[.int .i64 k', .int .i64 i', .int .u64 u', .string s', .slice ad' len' cap'], .agg #[.int .i64 kb, .int .i64 ib, .int .u64 ub, .string sb, .slice pb lb cb]] wx fun e w' => e = .returned (.bool true) ∧ Below w6.heap.size w6 w') := fun wx hx =>
      (same_any 16 16 tb tb _ _ _ _ _ _ _ _ _ _ wx (Rep.below hx 16 _ _ ry6) (Rep.below (W6.trans (hx.mono W6.size)) 16 _ _ HA.out.2.1)).mono fun e w' ⟨he, hb⟩ => ⟨by rw [he, sm_refl], hx.trans (hb.mono hx.size)⟩
    have hlo := db6.lt
    clear dx6 dy6 da6 db6 rx6 ry6 HA W3
    have KZ : Hid (∀ wx : World, Below w6.heap.size w6 wx → Calls Tryd.prog 9 #[] wx fun e w' => e = .returned (.bool true) ∧ Below w6.heap.size w6 w') := fun wx hx =>
      (awake_any wx (tab_of_14 (HT.out.below (W6.trans (hx.mono W6.size)))) (HP.out.on (W6.trans (hx.mono W6.size))).here).mono fun e w' ⟨he, hb⟩ => ⟨he, hx.trans (hb.mono hx.size)⟩
    generalize sm 16 16 ta tb = q at KD KE
    rcases hcode with rfl | rfl
    all_goals go_wp2_with fail
    all_goals go_region_held3 (fun w' => (w'.cell? ⟨X, 0, none⟩ = some (.int .i64 k) ∧ w'.cell? ⟨X, 1, none⟩ = some (.int .i64 i) ∧ w'.cell? ⟨X, 2, none⟩ = some (.int .u64 u) ∧ w'.cell? ⟨X, 3, none⟩ = some (.string s) ∧ w'.cell? ⟨X, 4, none⟩ = some (.slice ad len cap)) ∧ (w'.cell? ⟨Y, 0, none⟩ = some (.int .i64 k') ∧ w'.cell? ⟨Y, 1, none⟩ = some (.int .i64 i') ∧ w'.cell? ⟨Y, 2, none⟩ = some (.int .u64 u') ∧ w'.cell? ⟨Y, 3, none⟩ = some (.string s') ∧ w'.cell? ⟨Y, 4, none⟩ = some (.slice ad' len' cap')) ∧ (w'.cell? ⟨w.heap.size, 0, none⟩ = some (.int .i64 ka) ∧ w'.cell? ⟨w.heap.size, 1, none⟩ = some (.int .i64 ia) ∧ w'.cell? ⟨w.heap.size, 2, none⟩ = some (.int .u64 ua) ∧ w'.cell? ⟨w.heap.size, 3, none⟩ = some (.string sa) ∧ w'.cell? ⟨w.heap.size, 4, none⟩ = some (.slice pa la ca)) ∧ w'.cell? ⟨w.heap.size + 1, 0, none⟩ = some (.int .i64 kb) ∧ w'.cell? ⟨w.heap.size + 1, 1, none⟩ = some (.int .i64 ib) ∧ w'.cell? ⟨w.heap.size + 1, 2, none⟩ = some (.int .u64 ub) ∧ w'.cell? ⟨w.heap.size + 1, 3, none⟩ = some (.string sb) ∧ w'.cell? ⟨w.heap.size + 1, 4, none⟩ = some (.slice pb lb cb)) (first | (refine KT.out _ ?_; with_reducible assumption) | exact KT.out _ (Below.drew (Below.refl _ _))) (first | (go_at_call 13; refine (KD.out _ (by first | with_reducible assumption | exact Below.drew (Below.refl _ _) | exact Below.drew (by with_reducible assumption))).mono ?_; rintro e w7 ⟨rfl, b7⟩) | (go_at_call 9; refine (KZ.out _ (by first | with_reducible assumption | exact Below.drew (Below.refl _ _) | exact Below.drew (by with_reducible assumption))).mono ?_; rintro e w11 ⟨rfl, b11⟩) | (go_at_call 14; have m0 := ‹Mq 2›; refine (KY.out _ (by first | with_reducible assumption | exact Below.drew (Below.refl _ _) | exact Below.drew (by with_reducible assumption))).mono ?_; rintro e w10 ⟨rfl, b10⟩) | (go_at_call 14; have m0 := ‹Mq 1›; refine (KX.out _ (by first | with_reducible assumption | exact Below.drew (Below.refl _ _) | exact Below.drew (by with_reducible assumption))).mono ?_; rintro e w9 ⟨rfl, b9⟩; have m2 := Mq.mk 2) | (go_at_call 14; refine (KE.out _ (by first | with_reducible assumption | exact Below.drew (Below.refl _ _) | exact Below.drew (by with_reducible assumption))).mono ?_; rintro e w8 ⟨rfl, b8⟩; have m1 := Mq.mk 1))
    all_goals go_wp2_with fail
    all_goals go_ret
    all_goals exact ⟨rfl, W6.trans (b11.mono W6.size)⟩

set_option maxRecDepth 100000 in
set_option maxHeartbeats 2000000 in
theorem law_equals (na nb : Nat) (ta : Tr na) (tb : Tr nb) (ka ia ua kb ib ub : Int) (sa sb : ByteArray) (pa pb : Option Addr) (la ca lb cb : Nat) (w : World)
    (ra : Rep w na [.int .i64 ka, .int .i64 ia, .int .u64 ua, .string sa, .slice pa la ca] ta) (rb : Rep w nb [.int .i64 kb, .int .i64 ib, .int .u64 ub, .string sb, .slice pb lb cb] tb) (hT : Tab14 w) (hP : Pow0 w) :
    Calls Tryd.prog 4 #[.agg #[.int .i64 ka, .int .i64 ia, .int .u64 ua, .string sa, .slice pa la ca], .agg #[.int .i64 kb, .int .i64 ib, .int .u64 ub, .string sb, .slice pb lb cb]] w fun e w' => e = .returned (.bool true) ∧ Below w.heap.size w w' := by
  cases hA : vB na ta with
  | false =>
    have b0 : Below w.heap.size w ((w.alloc (.cells #[.int .i64 ka, .int .i64 ia, .int .u64 ua, .string sa, .slice pa la ca] 25)).alloc (.cells #[.int .i64 kb, .int .i64 ib, .int .u64 ub, .string sb, .slice pb lb cb] 25)) := ((Below.refl _ w).alloc (Nat.le_refl _) _).alloc (by simp) _
    have HT := Lib.hid hT
    have HP := Lib.hid (Lib.tabBelow_of_tabIs hP)
    have HV := Lib.hid hA
    clear hT hP hA rb
    go_enter Tryd.func4, Tryd.ntmps4
    go_wp2_with fail
    refine (refValid na ta _ _ _ _ _ _ (Rep.below b0 na _ _ ra)).mono ?_
    rintro e w1 ⟨rfl, b1⟩
    rw [HV.out]
    have B1 := b0.trans (b1.mono b0.size)
    clear b0 b1
    go_wp2_with fail
    refine (awake_any _ (tab_of_14 (HT.out.below B1)) (HP.out.on B1).here).mono ?_
    rintro e w3 ⟨rfl, b3⟩
    go_wp2_with fail
    go_ret
    exact ⟨rfl, B1.trans (b3.mono B1.size)⟩
  | true =>
    cases hB : vB nb tb with
    | false =>
      have b0 : Below w.heap.size w ((w.alloc (.cells #[.int .i64 ka, .int .i64 ia, .int .u64 ua, .string sa, .slice pa la ca] 25)).alloc (.cells #[.int .i64 kb, .int .i64 ib, .int .u64 ub, .string sb, .slice pb lb cb] 25)) := ((Below.refl _ w).alloc (Nat.le_refl _) _).alloc (by simp) _
      have db : D5 ((w.alloc (.cells #[.int .i64 ka, .int .i64 ia, .int .u64 ua, .string sa, .slice pa la ca] 25)).alloc (.cells #[.int .i64 kb, .int .i64 ib, .int .u64 ub, .string sb, .slice pb lb cb] 25)) (w.heap.size + 1) (.int .i64 kb) (.int .i64 ib) (.int .u64 ub) (.string sb) (.slice pb lb cb) := by
        have := D5.new (w.alloc (.cells #[.int .i64 ka, .int .i64 ia, .int .u64 ua, .string sa, .slice pa la ca] 25)) (.int .i64 kb) (.int .i64 ib) (.int .u64 ub) (.string sb) (.slice pb lb cb)
        rw [World.size_alloc] at this
        exact this
      have HT := Lib.hid hT
      have HP := Lib.hid (Lib.tabBelow_of_tabIs hP)
      have HV := Lib.hid (And.intro hA hB)
      clear hT hP hA hB
      go_enter Tryd.func4, Tryd.ntmps4
      go_wp2_with fail
      refine (refValid na ta _ _ _ _ _ _ (Rep.below b0 na _ _ ra)).mono ?_
      rintro e w1 ⟨rfl, b1⟩
      rw [HV.out.1]
      have B1 := b0.trans (b1.mono b0.size)
      have cb1 := (db.below b1).c
      clear b0 b1 db
      go_wp2_with fail
      refine (refValid nb tb _ _ _ _ _ _ (Rep.below B1 nb _ _ rb)).mono ?_
      rintro e w2 ⟨rfl, b2⟩
      rw [HV.out.2]
      have B2 := B1.trans (b2.mono B1.size)
      clear B1 b2 cb1
      go_wp2_with fail
      refine (awake_any _ (tab_of_14 (HT.out.below B2)) (HP.out.on B2).here).mono ?_
      rintro e w3 ⟨rfl, b3⟩
      go_wp2_with fail
      go_ret
      exact ⟨rfl, B2.trans (b3.mono B2.size)⟩
    | true =>
      obtain ⟨ta', a1, a2, a3⟩ := valid_cut na ta hA
      obtain ⟨tb', c1, c2, c3⟩ := valid_cut nb tb hB
      exact law_main ta' tb' ka ia ua kb ib ub sa sb pa pb la ca lb cb na nb ta tb w a1 c1 a2 c2 (a3 w _ ra) (c3 w _ rb) ra rb hA hB hT hP
end Go.Proofs.YtfanoiomiijlgaaDoor
