/- The chapter's examples that every statement ends with: true; no condition. -/
import Derived.Test.YtokiaolgdkikiaaGreatFst
import Derived.Test.YtokiaolgdkikiaaGreatMu1
namespace Go.Proofs.YtokiaolgdkikiaaGreat
open Go.RowKit

/-- What the two variables of the examples hold. -/
structure Aw (w : World) (N M : Nat) (w' : World) : Prop where
  n : w'.heap[N]? = some (.cells #[.int .i64 12, .int .i64 0, .int .u64 0, .string ⟨#[]⟩, .slice none 0 0] 30 (0, 0))
  m : w'.heap[M]? = some (.cells #[.int .i64 1, .int .i64 (-1)] 44 (0, 0))
  b : Below w.heap.size w w'
theorem lt_of_heap {w : World} {N : Nat} {o : Obj} (h : w.heap[N]? = some o) : N < w.heap.size := (Array.getElem?_eq_some_iff.1 h).1
theorem Aw.step {w : World} {N M : Nat} {w1 w2 : World} (h : Aw w N M w1) (hb : Below w1.heap.size w1 w2) : Aw w N M w2 :=
  ⟨(hb.block N (lt_of_heap h.n)).trans h.n, (hb.block M (lt_of_heap h.m)).trans h.m, h.b.trans (hb.mono h.b.size)⟩
theorem Aw.c {w : World} {N M : Nat} {w' : World} (h : Aw w N M w') : (w'.cell? ⟨N, 0, none⟩ = some (.int .i64 12) ∧ w'.cell? ⟨N, 1, none⟩ = some (.int .i64 0) ∧ w'.cell? ⟨N, 2, none⟩ = some (.int .u64 0) ∧ w'.cell? ⟨N, 3, none⟩ = some (.string ⟨#[]⟩) ∧ w'.cell? ⟨N, 4, none⟩ = some (.slice none 0 0)) ∧ w'.cell? ⟨M, 0, none⟩ = some (.int .i64 1) ∧ w'.cell? ⟨M, 1, none⟩ = some (.int .i64 (-1)) := by
  have h0 := h.n
  have h1 := h.m
  simp [World.cell?, h0, h1]
theorem Aw.start (w w1 : World) (o2 : Obj) (b1 : Below (w.alloc (.cells #[.int .i64 12, .int .i64 0, .int .u64 0, .string ⟨#[]⟩, .slice none 0 0] 30)).heap.size (w.alloc (.cells #[.int .i64 12, .int .i64 0, .int .u64 0, .string ⟨#[]⟩, .slice none 0 0] 30)) w1) :
    Aw w w.heap.size (w1.heap.size + 1) ((w1.alloc o2).alloc (.cells #[.int .i64 1, .int .i64 (-1)] 44)) := by
  have e0 := heap_alloc_new w (.cells #[.int .i64 12, .int .i64 0, .int .u64 0, .string ⟨#[]⟩, .slice none 0 0] 30)
  have e1 := heap_alloc_new (w1.alloc o2) (.cells #[.int .i64 1, .int .i64 (-1)] 44)
  simp only [World.size_alloc] at e1
  have hs : w.heap.size < w1.heap.size := by have := b1.size; simp at this; omega
  refine ⟨((below2 w1 _ _).block _ hs).trans ((b1.block _ (by simp)).trans e0), e1, ?_⟩
  exact ((below1 w _).trans (b1.mono (by simp))).trans ((below2 w1 _ _).mono (by omega))

/-- A pattern without parts. -/
def w0 (o m : Int) : Wt 1 := ((o, m, []) : Int × Int × List (Wt 0))
theorem w0_rep (w : World) (o m : Int) : RepW w 1 [.int .i64 o, .int .i64 m, .slice none 0 0] (w0 o m) := ⟨none, 0, rfl, Nat.le_refl _, by unfold maxLen; omega, .inl rfl⟩
theorem row1 (w : World) (o m : Int) : RowW (w.alloc (.cells #[.int .i64 o, .int .i64 m, .slice none 0 0] 24)) 1 (some ⟨w.heap.size, 0, none⟩) [w0 o m] := by
  obtain ⟨c0, c1, c2⟩ := (P3.new w (.int .i64 o) (.int .i64 m) (.slice none 0 0)).c
  refine .inr ⟨w.heap.size, 0, rfl, fun j t' hj => ?_⟩
  match j, hj with
  | 0, hj =>
    have : t' = w0 o m := by simpa using hj.symm
    subst this
    exact ⟨_, _, _, c0, c1, c2, w0_rep _ o m⟩

theorem ex_holds1 (w : World) : Calls Tryz.prog 14 #[.agg #[.int .i64 2, .int .i64 11, .slice none 0 0], .agg #[.int .i64 12, .int .i64 0, .int .u64 0, .string ⟨#[]⟩, .slice none 0 0]] w fun e w' => e = .returned (.bool true) ∧ Below w.heap.size w w' :=
  holdsP 1 (w0 2 11) _ _ _ 12 0 0 ⟨#[]⟩ none 0 0 w (w0_rep w 2 11) (by decide) (by decide) (by decide)
theorem ex_holds2 (w : World) : Calls Tryz.prog 14 #[.agg #[.int .i64 1, .int .i64 0, .slice none 0 0], .agg #[.int .i64 0, .int .i64 0, .int .u64 0, .string ⟨#[]⟩, .slice none 0 0]] w fun e w' => e = .returned (.bool false) ∧ Below w.heap.size w w' :=
  holdsP 1 (w0 1 0) _ _ _ 0 0 0 ⟨#[]⟩ none 0 0 w (w0_rep w 1 0) (by decide) (by decide) (by decide)
theorem ex_impl (w : World) : Calls Tryz.prog 26 #[.int .i64 5, .int .i64 9] w fun e w' => e = .returned (.bool true) ∧ Below w.heap.size w w' := implements_any 5 9 w
theorem ex_valid (w : World) : Calls Tryz.prog 9 #[.agg #[.int .i64 1, .int .i64 0, .slice none 0 0]] w fun e w' => e = .returned (.bool true) ∧ Below w.heap.size w w' := by
  have h := valid_any 1 (w0 1 0) _ _ _ w (w0_rep w 1 0)
  rwa [show (vw 128 1 (w0 1 0) 16384).1 = true by decide] at h
theorem ex_covers (w : World) : Calls Tryz.prog 17 #[.agg #[.int .i64 1, .int .i64 0, .slice none 0 0], .agg #[.int .i64 2, .int .i64 1, .slice none 0 0]] w fun e w' => e = .returned (.bool true) ∧ Below w.heap.size w w' := by
  have h := coversP 1 1 (w0 1 0) (w0 2 1) _ _ _ _ _ _ w (w0_rep w 1 0) (w0_rep w 2 1) (by decide) (by decide)
  rwa [show covB (evk 1 (w0 1 0)) (evk 1 (w0 2 1)) = true by decide] at h
theorem ex_methods (w : World) : Calls Tryz.prog 24 #[.int .i64 9] w fun e w' => ∃ (ad : Option Addr) (cap : Nat), e = .returned (.slice ad 3 cap) ∧ Below w.heap.size w w' :=
  (methods_any 9 w).mono fun e w' ⟨v, he, ⟨ad, cap, hv, _⟩, hb⟩ => ⟨ad, cap, by rw [he, hv]; rfl, hb⟩
theorem ex_first (w : World) : Calls Tryz.prog 36 #[.slice (some ⟨w.heap.size, 0, none⟩) 1 1, .agg #[.int .i64 12, .int .i64 0, .int .u64 0, .string ⟨#[]⟩, .slice none 0 0]] (w.alloc (.cells #[.int .i64 2, .int .i64 1, .slice none 0 0] 24)) fun e w' => e = .returned (.int .i64 (-1)) ∧ Below w.heap.size w w' := by
  have h := firstP 1 [w0 2 1] (some ⟨w.heap.size, 0, none⟩) 1 12 0 0 ⟨#[]⟩ none 0 0 (w.alloc (.cells #[.int .i64 2, .int .i64 1, .slice none 0 0] 24)) (by decide) (by unfold maxLen; omega) (row1 w 2 1) (by decide) (by decide) (by decide)
  exact h.mono fun e w' ⟨he, hb⟩ => ⟨by rw [he]; rfl, (below1 w _).trans (hb.mono (by simp))⟩

set_option maxRecDepth 100000 in
set_option maxHeartbeats 2000000 in
theorem awake_any (w : World) : Calls Tryz.prog 11 #[] w fun e w' => e = .returned (.bool true) ∧ Below w.heap.size w w' := by
  go_enter Tryz.func11, Tryz.ntmps11
  go_wp2_with fail
  refine (must_five _).mono ?_
  rintro e w1 ⟨rfl, b1⟩
  have A1 := Aw.start w w1 (.cells #[.int .i64 0, .int .i64 0, .int .u64 0, .string ⟨#[]⟩, .slice none 0 0] 30) b1
  obtain ⟨⟨c0, c1, c2, c3, c4⟩, m0, m1⟩ := A1.c
  go_wp2_with fail
  refine (ex_holds1 _).mono ?_
  rintro e w2 ⟨rfl, b2⟩
  have A2 := A1.step b2
  clear c0 c1 c2 c3 c4 m0 m1 b1 b2 A1
  go_wp2_with fail
  refine (ex_holds2 _).mono ?_
  rintro e w3 ⟨rfl, b3⟩
  have A3 := A2.step b3
  clear b3 A2
  obtain ⟨⟨c0, c1, c2, c3, c4⟩, m0, m1⟩ := A3.c
  go_wp2_with fail
  refine (ex_impl _).mono ?_
  rintro e w4 ⟨rfl, b4⟩
  have A4 := A3.step b4
  clear c0 c1 c2 c3 c4 m0 m1 b4 A3
  go_wp2_with fail
  refine (ex_valid _).mono ?_
  rintro e w5 ⟨rfl, b5⟩
  have A5 := A4.step b5
  clear b5 A4
  go_wp2_with fail
  refine (ex_covers _).mono ?_
  rintro e w6 ⟨rfl, b6⟩
  have A6 := A5.step b6
  clear b6 A5
  go_wp2_with fail
  refine (ex_methods _).mono ?_
  rintro e w7 ⟨ad, cap, rfl, b7⟩
  have A7 := A6.step b7
  clear b7 A6
  have A8 := A7.step (below1 w7 (.cells #[.int .i64 2, .int .i64 1, .slice none 0 0] 24))
  obtain ⟨⟨c0, c1, c2, c3, c4⟩, m0, m1⟩ := A8.c
  obtain ⟨⟨e0, e1, e2, e3, e4⟩, -, -⟩ := A7.c
  go_wp2_with fail
  refine (ex_first _).mono ?_
  rintro e w9 ⟨rfl, b9⟩
  have A9 := A7.step b9
  clear c0 c1 c2 c3 c4 m0 m1 e0 e1 e2 e3 e4 b9 A8 A7
  go_wp2
  go_ret
  exact ⟨rfl, A9.b⟩
end Go.Proofs.YtokiaolgdkikiaaGreat
