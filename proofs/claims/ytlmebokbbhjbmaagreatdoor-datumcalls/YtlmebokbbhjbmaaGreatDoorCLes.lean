/- The document's Less of two values; the condition: the first is no float. -/
import Derived.Test.YtlmebokbbhjbmaaGreatDoorCHas
import Derived.Test.YtlmebokbbhjbmaaGreatDoorOOrd
import Derived.Test.YtlmebokbbhjbmaaGreatDoorDCount
namespace Go.Proofs.YtlmebokbbhjbmaaGreatDoor.Dt
open Go.RowKit
/-- What Less answers. -/
def lesP (k i u : Int) (s : ByteArray) (k' j v : Int) (z : ByteArray) : Bool × Int := if refHas k 4 = false then (false, 12) else if k ≠ k' then (false, 15) else (ltV k i u s j v z, 0)
theorem refHas4 (k : Int) : refHas k 4 = decide (1 ≤ k ∧ k ≤ 5) := by
  rw [Bool.eq_iff_iff]
  simp [refHas]
  omega
set_option maxRecDepth 100000 in
set_option maxHeartbeats 1000000 in
theorem refLes (k i u k' j v : Int) (s z : ByteArray) (ad bd : Option Addr) (len cap len' cap' : Nat) (w : World) (h3 : k ≠ 3) :
    Calls Tryz.prog 16 #[.agg #[.int .i64 k, .int .i64 i, .int .u64 u, .string s, .slice ad len cap], .agg #[.int .i64 k', .int .i64 j, .int .u64 v, .string z, .slice bd len' cap']] w fun e w' => e = .returned (.tuple #[.bool (lesP k i u s k' j v z).1, .int .i64 (lesP k i u s k' j v z).2]) ∧ Below w.heap.size w w' := by
  have hR : ∀ A, lesP k i u s k' j v z = A → (Calls Tryz.prog 16 #[.agg #[.int .i64 k, .int .i64 i, .int .u64 u, .string s, .slice ad len cap], .agg #[.int .i64 k', .int .i64 j, .int .u64 v, .string z, .slice bd len' cap']] w fun e w' => e = .returned (.tuple #[.bool A.1, .int .i64 A.2]) ∧ Below w.heap.size w w') → (Calls Tryz.prog 16 #[.agg #[.int .i64 k, .int .i64 i, .int .u64 u, .string s, .slice ad len cap], .agg #[.int .i64 k', .int .i64 j, .int .u64 v, .string z, .slice bd len' cap']] w fun e w' => e = .returned (.tuple #[.bool (lesP k i u s k' j v z).1, .int .i64 (lesP k i u s k' j v z).2]) ∧ Below w.heap.size w w') := fun A hA h => by rw [hA]; exact h
  have B := below2 w (.cells #[.int .i64 k, .int .i64 i, .int .u64 u, .string s, .slice ad len cap] 25) (.cells #[.int .i64 k', .int .i64 j, .int .u64 v, .string z, .slice bd len' cap'] 25)
  have HH := Lib.hid (fun w => refHas_any k 4 w)
  cases h4 : refHas k 4 with
  | false =>
    refine hR (false, 12) (by simp [lesP, h4]) ?_
    rw [h4] at HH
    clear hR h4
    go_enter Tryz.func16, Tryz.ntmps16
    go_wp2_with fail
    refine (HH.out _).mono ?_
    rintro e w1 ⟨rfl, rfl⟩
    go_wp2
    go_ret2
    exact ⟨rfl, B⟩
  | true =>
    by_cases hk : k = k'
    · subst hk
      refine hR (ltV k i u s j v z, 0) (by simp [lesP, h4]) ?_
      rw [h4] at HH
      rw [refHas4] at h4
      have h5 := of_decide_eq_true h4
      clear hR h4
      obtain h | h | h | h : k = 1 ∨ k = 2 ∨ k = 4 ∨ k = 5 := by omega
      all_goals
        subst h
        clear h5 h3
        simp only [ltV, Int.reduceEq, or_false, or_true, or_self, reduceIte]
        go_enter Tryz.func16, Tryz.ntmps16
        go_wp2_with fail
        refine (HH.out _).mono ?_
        rintro e w1 ⟨rfl, rfl⟩
        go_wp2
        go_ret2
        exact ⟨rfl, B⟩
    · refine hR (false, 15) (by simp [lesP, h4, hk]) ?_
      rw [h4] at HH
      clear hR h4
      go_enter Tryz.func16, Tryz.ntmps16
      go_wp2_with fail
      refine (HH.out _).mono ?_
      rintro e w1 ⟨rfl, rfl⟩
      go_wp2
      go_ret2
      exact ⟨rfl, B⟩
end Go.Proofs.YtlmebokbbhjbmaaGreatDoor.Dt
