/- The package's Parse at the text that this package's own check reads: the row of 1 and "a", in new memory; no condition. -/
import Derived.Test.YtfanoiomiijlgaaDoorRow
namespace Go.Proofs.YtfanoiomiijlgaaDoor
open Go.RowKit

theorem ownsRow_blocks {w w' : World} {base : Nat} {e : TypeId} {size : Nat} {v : Value} {n : Nat} {xs : List Value} (h : w.ownsRow base e size v n xs) (hk : ∀ k, base ≤ k → w'.heap[k]? = w.heap[k]?) : w'.ownsRow base e size v n xs := by
  obtain ⟨h1, h2⟩ := h
  refine ⟨h1, ?_⟩
  rcases h2 with h2 | ⟨g, cap, cur, e1, e2, e3, e4⟩
  · exact .inl h2
  · exact .inr ⟨g, cap, cur, e1, e2, (hk g e2).trans e3, e4⟩

/-- The text. -/
def S8 : ByteArray := ⟨#[91, 49, 44, 32, 34, 97, 34, 93]⟩

theorem leaf1 (b : Nat) : Leaf b S8 1 1 2 2 2 1 1 0 ⟨#[]⟩ := by
  intro w1 h
  refine (value_of b S8 1 1 2 w1 h (by decide) (by decide) (by decide) (by decide) (by decide) (by decide) (by decide) (by decide) (by decide) 2 2 0 1 1 0 ⟨#[]⟩ (fun ad cap _ => ad = none ∧ cap = 0) (fun _ _ _ _ _ h => h) ?_).mono ?_
  · intro w2 _ h2
    refine (marked_int b S8 1 2 1 2 w2 h2 (by decide) (by decide) (by decide) (by decide) (by decide) (by decide) (by decide) (by decide) (by decide) (by decide) (by decide) (by decide) (by decide) (by decide) (by decide) (by rfl) (by decide) (by decide +kernel)).mono ?_
    rintro e w' ⟨rfl, r, g⟩
    exact ⟨none, 0, rfl, r, g, rfl, rfl⟩
  · rintro e w' ⟨ad, cap, rfl, r, g, rfl, rfl⟩
    exact ⟨rfl, r, g⟩

theorem leaf2 (b : Nat) : Leaf b S8 4 2 7 3 2 4 0 0 ⟨#[97]⟩ := by
  intro w1 h
  refine (value_of b S8 4 2 2 w1 h (by decide) (by decide) (by decide) (by decide) (by decide) (by decide) (by decide) (by decide) (by decide) 7 3 0 4 0 0 ⟨#[97]⟩ (fun ad cap _ => ad = none ∧ cap = 0) (fun _ _ _ _ _ h => h) ?_).mono ?_
  · intro w2 _ h2
    refine (marked_text b S8 4 3 2 w2 h2 (by decide) (by decide) (by decide) (by decide) (by decide) (by decide) (by decide) (by decide) (by decide) (by decide) (by decide) (by decide) (by decide)).mono ?_
    rintro e w' ⟨rfl, r, g⟩
    exact ⟨none, 0, rfl, r, g, rfl, rfl⟩
  · rintro e w' ⟨ad, cap, rfl, r, g, rfl, rfl⟩
    exact ⟨rfl, r, g⟩

def cells8 : List Value := [.int .i64 1, .int .i64 1, .int .u64 0, .string ⟨#[]⟩, .slice none 0 0, .int .i64 4, .int .i64 0, .int .u64 0, .string ⟨#[97]⟩, .slice none 0 0]

theorem value8 (b : Nat) (w : World) (h : Rd w b S8 0 0) :
    Calls Tryd.prog 25 #[.pointer (some ⟨b, 0, none⟩), .int .i64 1] w fun e w' => ∃ ad cap, e = .returned (.tuple #[.agg #[.int .i64 8, .int .i64 0, .int .u64 0, .string ⟨#[]⟩, .slice ad 2 cap], .bool true]) ∧ Rd w' b S8 8 3 ∧ w.grownBy w' (some b) ∧ w'.ownsRow w.heap.size 25 5 (.slice ad 2 cap) 2 cells8 := by
  refine (value_of b S8 0 0 1 w h (by decide) (by decide) (by decide) (by decide) (by decide) (by decide) (by decide) (by decide) (by decide) 8 3 2 8 0 0 ⟨#[]⟩ (fun ad cap w' => w'.ownsRow (w.heap.size + 2) 25 5 (.slice ad 2 cap) 2 cells8) ?_ ?_).mono ?_
  · intro ad cap w2 w3 hk ho
    exact ownsRow_blocks ho hk
  · intro w1 hz h1
    refine (marked_list b S8 0 1 8 3 1 (by decide) (by decide) w1 h1 (by decide) (by decide) (by decide) (by decide) (by decide) (by decide) (by decide) (by decide) cells8 ?_).mono ?_
    · intro w2 h2
      exact row_two b S8 1 1 2 2 7 3 2 w2 h2 (by decide) (by decide) (by decide) (by decide) (by decide) (by decide) (by decide) (by decide) 1 1 0 4 0 0 ⟨#[]⟩ ⟨#[97]⟩ (leaf1 b) (leaf2 b)
    · rintro e w' ⟨ad, cap, rfl, r, g, o⟩
      exact ⟨ad, cap, rfl, r, g, ownsRow_base o _ (by omega)⟩
  · rintro e w' ⟨ad, cap, rfl, r, g, o⟩
    exact ⟨ad, cap, rfl, r, g, ownsRow_base o _ (by omega)⟩

theorem below_set5 {B : Nat} {w0 w : World} (h : Below B w0 w) {N : Nat} (hN : B ≤ N) (u0 u1 u2 u3 u4 : Value) :
    Below B w0 (((((w.setCell ⟨N, 0, none⟩ u0).setCell ⟨N, 1, none⟩ u1).setCell ⟨N, 2, none⟩ u2).setCell ⟨N, 3, none⟩ u3).setCell ⟨N, 4, none⟩ u4) :=
  ((((h.setCell (p := ⟨N, 0, none⟩) hN u0).setCell (p := ⟨N, 1, none⟩) hN u1).setCell (p := ⟨N, 2, none⟩) hN u2).setCell (p := ⟨N, 3, none⟩) hN u3).setCell (p := ⟨N, 4, none⟩) hN u4
theorem Rd.new (w : World) (s : ByteArray) (a n : Int) : Rd (w.alloc (.cells #[.string s, .int .i64 a, .int .i64 n] 51)) w.heap.size s a n := by
  unfold Rd; exact heap_alloc_new w _

set_option maxRecDepth 100000 in
set_option maxHeartbeats 1000000 in
theorem parse8 (w : World) :
    Calls Tryd.prog 18 #[.string S8] w fun e w' => ∃ ad cap, e = .returned (.tuple #[.agg #[.int .i64 8, .int .i64 0, .int .u64 0, .string ⟨#[]⟩, .slice ad 2 cap], .int .i64 0]) ∧ w'.ownsRow w.heap.size 25 5 (.slice ad 2 cap) 2 cells8 ∧ Below w.heap.size w w' := by
  go_enter Tryd.func18, Tryd.ntmps18
  go_wp2_with fail
  have r0 : Rd ((w.alloc (.cells #[.int .i64 0, .int .i64 0, .int .u64 0, .string ⟨#[]⟩, .slice none 0 0] 25)).alloc (.cells #[.string S8, .int .i64 0, .int .i64 0] 51)) (w.heap.size + 1) S8 0 0 := by
    have := Rd.new (w.alloc (.cells #[.int .i64 0, .int .i64 0, .int .u64 0, .string ⟨#[]⟩, .slice none 0 0] 25)) S8 0 0
    rw [World.size_alloc] at this
    exact this
  have d0 := (D5.new w (.int .i64 0) (.int .i64 0) (.int .u64 0) (.string ⟨#[]⟩) (.slice none 0 0)).kept (b := w.heap.size + 1) (World.grownBy_alloc _ (.cells #[.string S8, .int .i64 0, .int .i64 0] 51) _) (by omega)
  have b0 : Below w.heap.size w ((w.alloc (.cells #[.int .i64 0, .int .i64 0, .int .u64 0, .string ⟨#[]⟩, .slice none 0 0] 25)).alloc (.cells #[.string S8, .int .i64 0, .int .i64 0] 51)) := ((Below.refl _ w).alloc (Nat.le_refl _) _).alloc (by simp) _
  refine (value8 _ _ r0).mono ?_
  rintro e w1 ⟨ad, cap, rfl, r1, g1, o1⟩
  have d1 := d0.kept g1 (by omega)
  have b1 : Below w.heap.size w w1 := b0.grown g1 (by simp; omega) (fun k hk => by have := Option.some.inj hk; omega)
  have o1' := ownsRow_base o1 (w.heap.size + 1) (by simp)
  have hz : w.heap.size < w1.heap.size := d1.lt
  have hz2 : w.heap.size + 1 < w1.heap.size := r1.lt
  have c1 := r1.c1
  have hs8 : S8.size = 8 := rfl
  obtain ⟨k0, k1, k2, k3, k4⟩ := d1.c
  have f0 := d1.f (o := 0)
  have f1 := d1.f (o := 1)
  have f2 := d1.f (o := 2)
  have f3 := d1.f (o := 3)
  have f4 := d1.f (o := 4)
  clear r0 d0 b0 g1 o1 r1
  go_wp2
  refine bodyPost_ret (res_dat Tryd.results18 ((d1.set _ _ _ _ _).kept (b := w.heap.size + 1) (World.grownBy_alloc _ _ _) (by omega)) rfl) rfl ⟨ad, cap, rfl, ?_, ?_⟩
  · exact ownsRow_base ((ownsRow_set5 o1' (Nat.lt_succ_self _) _ _ _ _ _).alloc _) _ (by omega)
  · exact (below_set5 b1 (Nat.le_refl _) _ _ _ _ _).alloc (by simp only [size_setCell']; omega) _
end Go.Proofs.YtfanoiomiijlgaaDoor
