/- The package's value of a tree, in new memory; the conditions: the tree in memory, valid. -/
import Derived.Test.YtlmebokbbhjbmaaGreatDoorDvN
namespace Go.Proofs.YtlmebokbbhjbmaaGreatDoor.Dt
open Go.RowKit
/-- The value that stands for a tree, in new memory. -/
theorem of_any (W0 : World) (m : Nat) (t : Tr m) (k i u : Int) (s : ByteArray) (ad : Option Addr) (len cap : Nat) (w : World) (hrg : rgt m t = true) (hps : (pts m t).1 ≤ 4096) (hrep : Rep W0 m [.int .i64 k, .int .i64 i, .int .u64 u, .string s, .slice ad len cap] t) (hb : Below W0.heap.size W0 w) :
    Calls Tryz.prog 24 #[.agg #[.int .i64 k, .int .i64 i, .int .u64 u, .string s, .slice ad len cap]] w fun e w' => ∃ v, e = .returned v ∧ Hid (VR (fun g => w.heap.size ≤ g ∧ g < w'.heap.size) w' m v t) ∧ Below w.heap.size w w' := by
  have b1 := below1 w (.cells #[.int .i64 k, .int .i64 i, .int .u64 u, .string s, .slice ad len cap] 25)
  have HO : Hid (Calls Tryz.prog 36 #[.agg #[.map none], .agg #[.int .i64 k, .int .i64 i, .int .u64 u, .string s, .slice ad len cap]] (w.alloc (.cells #[.int .i64 k, .int .i64 i, .int .u64 u, .string s, .slice ad len cap] 25)) fun e w' => ∃ v, e = .returned v ∧ Sx v ∧ Hid (VR (fun g => w.heap.size ≤ g ∧ g < w'.heap.size) w' m v t) ∧ Below w.heap.size w w') := by
    refine (value_nb W0 m t _ _ _ _ _ _ hrg hps hrep (hb.trans (b1.mono hb.size))).mono fun e w' ⟨v, he, vr, hb'⟩ => ?_
    exact ⟨v, he, vr_any vr, VR.to (fun g hg => ⟨⟨by have := hg.1; simp at this; omega, hg.2⟩, rfl⟩) _ _ _ vr, b1.trans (hb'.mono (by simp))⟩
  clear hrg hps hrep hb b1
  go_enter Tryz.func24, Tryz.ntmps24
  go_wp2_with fail
  refine HO.out.mono ?_
  rintro e w1 ⟨v, rfl, hs, vr, b1⟩
  rcases hs with rfl | ⟨T, z, rfl⟩
  all_goals
    go_wp2
    go_ret
    exact ⟨_, rfl, vr, b1⟩
end Go.Proofs.YtlmebokbbhjbmaaGreatDoor.Dt
