/- What the package's inner 'holds' answers at the pattern of one kind; the conditions: a kind, a value of a kind. -/
import Derived.Test.YtkgbpildikjoiaaGreatDoorLeaf
namespace Go.Proofs.YtkgbpildikjoiaaGreatDoor
open Go.RowKit

theorem below_dn {B : Nat} {a w : World} (h : Below B a w) (n : Nat) : Below B a (w.drewN n) := ⟨h.os, h.tape, h.output, h.size, h.block⟩

set_option maxRecDepth 100000 in
set_option maxHeartbeats 2000000 in
theorem holds20_nil (ad : Option Addr) (len cap : Nat) (w : World) :
    Calls Tryz.prog 74 #[.agg #[.int .i64 2, .int .i64 0, .slice ad len cap], .nilIface] w fun e w' => e = .returned (.bool true) ∧ Below w.heap.size w w' := by
  go_enter Tryz.func74, Tryz.ntmps74
  go_wp2_with fail
  go_quiet (fail)
  go_wp2
  go_ret
  exact ⟨rfl, below_dn (below2 w _ _) _⟩

theorem holds2 (m : Int) (h0 : 0 ≤ m) (h1 : m ≤ 13) (ad : Option Addr) (len cap : Nat) (k : Int) (u : Value) (w : World) (hk : Kd k u) (k0 : 0 ≤ k) (k1 : k ≤ 13) :
    Calls Tryz.prog 74 #[.agg #[.int .i64 2, .int .i64 m, .slice ad len cap], u] w fun e w' => e = .returned (.bool (k == m || (m == 11 && k == 12))) ∧ Below w.heap.size w w' := by
  by_cases hm : m = 0
  · subst hm
    rcases hk.nil_iff k0 k1 with ⟨rfl, rfl⟩ | ⟨hne, T, z, rfl⟩
    · exact holds20_nil ad len cap w
    · have e : (k == 0 || ((0 : Int) == 11 && k == 12)) = tkd 0 k := by simp [tkd, hne]
      rw [e]
      exact holds20_val ad len cap k T z w hk
  · have e : (k == m || (m == 11 && k == 12)) = tkd m k := by
      unfold tkd
      rw [decide_eq_true (by omega), Bool.true_and]
    rw [e]
    exact holds2n m (by simpa using hm) ad len cap k u w hk
end Go.Proofs.YtkgbpildikjoiaaGreatDoor
