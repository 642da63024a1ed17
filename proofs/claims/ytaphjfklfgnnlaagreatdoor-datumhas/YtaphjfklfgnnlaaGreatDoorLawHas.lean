/- The law DatumHas at every two numbers: true, in new memory alone; the condition: the two tables as the text lays them. -/
import Derived.Test.YtaphjfklfgnnlaaGreatDoorAnsH
import Derived.Test.YtaphjfklfgnnlaaGreatDoorAwAwake
namespace Go.Proofs.YtaphjfklfgnnlaaGreatDoor
open Go.RowKit
set_option maxRecDepth 100000 in
set_option maxHeartbeats 1000000 in
theorem law_has (k m : Int) (w : World) (hT : Aw.Tab w) (hP : Aw.Pow0 w) :
    Calls Tryz.prog 3 #[.int .i64 k, .int .i64 m] w fun e w' => e = .returned (.bool true) ∧ Below w.heap.size w w' := by
  have HT := Lib.hid hT
  have HP := Lib.hid (Lib.tabBelow_of_tabIs hP)
  clear hT hP
  go_enter Tryz.func3, Tryz.ntmps3
  go_wp2_with fail
  refine (has_any k m _).mono ?_
  rintro e w1 ⟨rfl, b1⟩
  go_wp2_with fail
  refine (refHas_any k m _).mono ?_
  rintro e w2 ⟨rfl, hw⟩
  subst hw
  generalize refHas k m = x
  go_wp2_with fail
  refine (Aw.awake_any _ (HT.out.below b1) (HP.out.on b1).here).mono ?_
  rintro e w3 ⟨rfl, b3⟩
  go_wp2
  go_ret
  exact ⟨rfl, b1.trans (b3.mono b1.size)⟩
end Go.Proofs.YtaphjfklfgnnlaaGreatDoor
