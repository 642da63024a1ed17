/- What has come as of a tick, by the package and by the document; the conditions: numbers within the chapter's bounds. -/
import Derived.Test.YtbaalkkhbcclnaaRows
import Derived.WalkKit
import Derived.WalkSpells
import Derived.WalkLawsBesides
import Derived.Deep.QuietTactic
import Derived.BigQuiet
import Derived.Stop.Asserts
import Derived.Deep.RegionHeld3
import Derived.Lib.Hide
import Derived.Laws.IdiomStrings
namespace Go.Proofs.Ytbaalkkhbcclnaa
open Go.RowKit

theorem w64 (n : Int) (h : -9223372036854775808 ≤ n ∧ n ≤ 9223372036854775807) : wrap64 n = n := by unfold wrap64; omega

set_option maxRecDepth 100000 in
theorem in_any (p t : Int) (w : World) : Calls Try.prog 19 #[.int .i64 p, .int .i64 t] w fun e w' => e = .returned (.int .i64 (wrap64 (p * t))) ∧ w' = w := by
  go_enter Try.func19, Try.ntmps19
  go_wp2
  go_ret
  exact ⟨rfl, rfl⟩

set_option maxRecDepth 100000 in
theorem least_any (x y : Int) (w : World) : Calls Try.prog 21 #[.int .i64 x, .int .i64 y] w fun e w' => e = .returned (.int .i64 (min x y)) ∧ w' = w := by
  go_enter Try.func21, Try.ntmps21
  go_wp2
  all_goals go_ret
  all_goals refine ⟨?_, rfl⟩
  all_goals (show Ending.returned (.int .i64 _) = _)
  all_goals (congr 2; omega)

/-- The state of the bucket stays in its block. -/
theorem two_at {w w' : World} {L l x y : Int} {T : TypeId} (h : Below (w.heap.size + 1 + 1) ((w.alloc (.cells #[.int .i64 L, .int .i64 l] T)).alloc (.cells #[.int .i64 x, .int .i64 y] T)) w') :
    w'.cell? ⟨w.heap.size, 0, none⟩ = some (.int .i64 L) ∧ w'.cell? ⟨w.heap.size, 1, none⟩ = some (.int .i64 l) := by
  constructor
  · rw [h.cell (by show w.heap.size < _; omega)]; simp
  · rw [h.cell (by show w.heap.size < _; omega)]; simp

theorem below1 (w : World) (o : Obj) : Below w.heap.size w (w.alloc o) := (Below.refl _ w).alloc (Nat.le_refl _) _
theorem below2 (w : World) (o p : Obj) : Below w.heap.size w ((w.alloc o).alloc p) := ((Below.refl _ w).alloc (Nat.le_refl _) _).alloc (by simp) _
theorem as_wraps {L l a b M : Int} (h0 : 0 ≤ l ∧ l ≤ 1099511627776) (h1 : 0 ≤ M ∧ M ≤ 1099511627776) (h2 : -9223372036854775808 ≤ a * (M - l) ∧ a * (M - l) ≤ 9223372036854775807) (h3 : -9223372036854775808 ≤ a * b ∧ a * b ≤ 9223372036854775807) (h4 : -9223372036854775808 ≤ L + a * (M - l) ∧ L + a * (M - l) ≤ 9223372036854775807) :
    min (IntKind.i64.wrap (L + wrap64 (a * IntKind.i64.wrap (M - l)))) (wrap64 (a * b)) = min (L + a * (M - l)) (a * b) := by
  have e : ∀ n : Int, IntKind.i64.wrap n = wrap64 n := fun n => by rw [IntKind.wrap_i64]; unfold wrap64; omega
  rw [e, e]
  rw [show wrap64 (M - l) = M - l from w64 _ (by omega), w64 _ h2, w64 _ h3, w64 _ h4]

set_option maxRecDepth 100000 in
set_option maxHeartbeats 1000000 in
theorem asOf_any (L l a b n : Int) (w : World) (h0 : 0 ≤ l ∧ l ≤ 1099511627776) (h1 : 0 ≤ n ∧ n ≤ 1099511627776) (h2 : -9223372036854775808 ≤ a * (max l n - l) ∧ a * (max l n - l) ≤ 9223372036854775807) (h3 : -9223372036854775808 ≤ a * b ∧ a * b ≤ 9223372036854775807) (h4 : -9223372036854775808 ≤ L + a * (max l n - l) ∧ L + a * (max l n - l) ≤ 9223372036854775807) : Calls Try.prog 17 #[.agg #[.int .i64 L, .int .i64 l], .int .i64 a, .int .i64 b, .int .i64 n] w fun e w' => e = .returned (.agg #[.int .i64 (min (L + a * (max l n - l)) (a * b)), .int .i64 (max l n)]) ∧ w' = ((w.alloc (.cells #[.int .i64 L, .int .i64 l] 23)).alloc (.cells #[.int .i64 (min (L + a * (max l n - l)) (a * b)), .int .i64 (max l n)] 23)).drew := by
  have HV := as_wraps h0 (by omega) h2 h3 h4
  by_cases hln : l < n
  · rw [show max l n = n by omega] at HV ⊢
    replace HV := Lib.hid HV
    clear h0 h1 h2 h3 h4
    go_enter Try.func17, Try.ntmps17
    go_wp2_with fail
    have HS := Lib.hid (fun w' (h : Below (w.heap.size + 1 + 1) ((w.alloc (.cells #[.int .i64 L, .int .i64 l] 23)).alloc (.cells #[.int .i64 0, .int .i64 0] 23)) w') => two_at h)
    have B0 := Below.refl (w.heap.size + 1 + 1) ((w.alloc (.cells #[.int .i64 L, .int .i64 l] 23)).alloc (.cells #[.int .i64 0, .int .i64 0] 23))
    go_region_held3 (fun w' => w'.cell? ⟨w.heap.size, 0, none⟩ = some (.int .i64 L) ∧ w'.cell? ⟨w.heap.size, 1, none⟩ = some (.int .i64 l)) (exact HS.out _ (by first | assumption | exact Below.drew (by assumption))) (first
      | (go_at_call 19; refine (in_any _ _ _).mono ?_; rintro e w1 ⟨rfl, rfl⟩)
      | (go_at_call 21; refine (least_any _ _ _).mono ?_; rintro e w1 ⟨rfl, rfl⟩))
    rw [HV.out]
    go_wp2_with fail
    refine bodyPost_ret (v := .agg #[.int .i64 _, .int .i64 _]) (by simp [results, Try.results17, go_sem]) rfl ⟨rfl, ?_⟩
    rfl
  · rw [show max l n = l by omega] at HV ⊢
    rw [Int.sub_self, Int.mul_zero, Int.add_zero] at HV ⊢
    replace HV := Lib.hid HV
    clear h0 h1 h2 h3 h4
    go_enter Try.func17, Try.ntmps17
    go_wp2_with fail
    have HS := Lib.hid (fun w' (h : Below (w.heap.size + 1 + 1) ((w.alloc (.cells #[.int .i64 L, .int .i64 l] 23)).alloc (.cells #[.int .i64 0, .int .i64 0] 23)) w') => two_at h)
    have B0 := Below.refl (w.heap.size + 1 + 1) ((w.alloc (.cells #[.int .i64 L, .int .i64 l] 23)).alloc (.cells #[.int .i64 0, .int .i64 0] 23))
    go_region_held3 (fun w' => w'.cell? ⟨w.heap.size, 0, none⟩ = some (.int .i64 L) ∧ w'.cell? ⟨w.heap.size, 1, none⟩ = some (.int .i64 l)) (exact HS.out _ (by first | assumption | exact Below.drew (by assumption))) (first
      | (go_at_call 19; refine (in_any _ _ _).mono ?_; rintro e w1 ⟨rfl, rfl⟩)
      | (go_at_call 21; refine (least_any _ _ _).mono ?_; rintro e w1 ⟨rfl, rfl⟩))
    rw [HV.out]
    go_wp2_with fail
    refine bodyPost_ret (v := .agg #[.int .i64 _, .int .i64 _]) (by simp [results, Try.results17, go_sem]) rfl ⟨rfl, ?_⟩
    rfl
/-- A fit state of a bucket of a in b, and a tick. -/
structure Ft (L l a b n : Int) : Prop where
  a1 : 1 ≤ a
  a2 : a ≤ 1000000
  b1 : 1 ≤ b
  b2 : b ≤ 1000000
  L1 : 0 ≤ L
  L2 : L ≤ a * b
  l1 : 0 ≤ l
  l2 : l ≤ 1099511627776
  n1 : 0 ≤ n
  n2 : n ≤ 1099511627776
/-- How many parts there are as of a tick. -/
def lv (L l a b n : Int) : Int := min (L + a * (max l n - l)) (a * b)
theorem Ft.ab {L l a b n : Int} (h : Ft L l a b n) : 1 ≤ a * b ∧ a * b ≤ 1000000000000 := by
  have := h.a1; have := h.a2; have := h.b1; have := h.b2
  have h1 : a * b ≤ 1000000 * b := Int.mul_le_mul_of_nonneg_right h.a2 (by omega)
  have h2 : 1 * b ≤ a * b := Int.mul_le_mul_of_nonneg_right h.a1 (by omega)
  omega
theorem Ft.come {L l a b n : Int} (h : Ft L l a b n) : 0 ≤ a * (max l n - l) ∧ a * (max l n - l) ≤ 1099511627776000000 := by
  have := h.a1; have := h.a2; have := h.l1; have := h.l2; have := h.n1; have := h.n2
  have h1 : a * (max l n - l) ≤ 1000000 * (max l n - l) := Int.mul_le_mul_of_nonneg_right h.a2 (by omega)
  have h2 : 0 ≤ a * (max l n - l) := Int.mul_nonneg (by omega) (by omega)
  omega
theorem Ft.lv0 {L l a b n : Int} (h : Ft L l a b n) : 0 ≤ lv L l a b n ∧ lv L l a b n ≤ a * b := by
  have := h.ab; have := h.come; have := h.L1
  unfold lv; omega
theorem asOf_ft {L l a b n : Int} (h : Ft L l a b n) (w : World) : Calls Try.prog 17 #[.agg #[.int .i64 L, .int .i64 l], .int .i64 a, .int .i64 b, .int .i64 n] w fun e w' => e = .returned (.agg #[.int .i64 (lv L l a b n), .int .i64 (max l n)]) ∧ w' = ((w.alloc (.cells #[.int .i64 L, .int .i64 l] 23)).alloc (.cells #[.int .i64 (lv L l a b n), .int .i64 (max l n)] 23)).drew := by
  have h1 := h.ab; have h2 := h.come; have h3 := h.L1; have h4 := h.L2
  exact asOf_any L l a b n w ⟨h.l1, h.l2⟩ ⟨h.n1, h.n2⟩ (by omega) (by omega) (by omega)
end Go.Proofs.Ytbaalkkhbcclnaa
