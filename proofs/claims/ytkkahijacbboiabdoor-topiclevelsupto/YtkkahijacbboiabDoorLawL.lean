/- The law's own check (awake), and the law TopicLevels at every text of at most 1048576 bytes; what is asked of the world: the two tables of unicode/utf8 as their text lays them. -/
import Derived.Test.YtkkahijacbboiabDoorTg
namespace Go.Proofs.YtkkahijacbboiabDoor
open Go.RowKit Tp

theorem aw1 : matches' (tl ⟨#[97, 47, 43, 47, 99]⟩) (tl ⟨#[97, 47, 98, 47, 99]⟩) = true := by rw [tl_data, tl_data]; decide +kernel
theorem aw2 : matches' (tl ⟨#[97, 47, 43]⟩) (tl ⟨#[97, 47, 98, 47, 99]⟩) = false := by rw [tl_data, tl_data]; decide +kernel
theorem aw3 : covers (tl ⟨#[97, 47, 35]⟩) (tl ⟨#[97, 47, 98]⟩) = true := by rw [tl_data, tl_data]; decide +kernel

set_option maxHeartbeats 1000000 in
theorem awake_any (w : World) (hT : Tabs w) :
    Calls Tryd.prog 5 #[] w fun e w' => e = .returned (.bool true) ∧ Below w.heap.size w w' := by
  go_enter Tryd.func5, Tryd.ntmps5
  go_wp2_with fail
  refine (match_any _ _ w (by decide) (by decide) hT).mono ?_
  rintro e w1 ⟨rfl, hb1⟩
  rw [aw1]
  go_wp2_with fail
  refine (match_any _ _ w1 (by decide) (by decide) (hT.below hb1)).mono ?_
  rintro e w2 ⟨rfl, hb2⟩
  rw [aw2]
  have B2 := hb1.trans (hb2.mono hb1.size)
  go_wp2_with fail
  refine (covers_any _ _ w2 (by decide) (by decide) (hT.below B2)).mono ?_
  rintro e w3 ⟨rfl, hb3⟩
  rw [aw3]
  go_wp2
  go_ret
  exact ⟨rfl, B2.trans (hb3.mono B2.size)⟩

end Go.Proofs.YtkkahijacbboiabDoor
