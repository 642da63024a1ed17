/- The document's own answers, walked: Name of the reference; what is asked of the world: the two tables of unicode/utf8 as their text lays them. -/
import Derived.Test.YtcnglhlljmfanaaGreatDoorRa
namespace Go.Proofs.YtcnglhlljmfanaaGreatDoor
open Go.RowKit Tp

set_option maxHeartbeats 1000000 in
theorem rname_any (s : ByteArray) (w : World) (hs : s.size ≤ 9223372036854775807) (hT : Tabs w) :
    Calls Tryz.prog 61 #[.string s] w fun e w' => e = .returned (.bool (isName (tl s))) ∧ Below w.heap.size w w' := by
  have c1 := rplain_any s w hs hT
  unfold isName
  cases h : okText (tl s) with
  | false =>
    rw [h] at c1
    rw [Bool.false_and]
    go_enter Tryz.func61, Tryz.ntmps61
    go_wp2_with (go_at_call 50; refine c1.mono ?_; rintro e w' ⟨rfl, hb⟩)
    go_ret
    exact ⟨rfl, hb⟩
  | true =>
    rw [h] at c1
    have hz := okText_size h
    rw [Bool.true_and]
    go_enter Tryz.func61, Tryz.ntmps61
    go_wp2_with (first | (go_at_call 50; refine c1.mono ?_; rintro e w' ⟨rfl, hb⟩) | (go_at_call 51; refine (rhas_any s _ (by omega)).mono ?_; rintro e w2 ⟨rfl, rfl⟩))
    go_ret
    exact ⟨rfl, hb⟩
end Go.Proofs.YtcnglhlljmfanaaGreatDoor
