/- The law CapsFixes at every set; what is asked of the world: the two tables of the package as their text lays them. -/
import Derived.Test.YtanjkljcoccblaaDoorCm
import Derived.Test.YtanjkljcoccblaaDoorCf
import Derived.Test.YtanjkljcoccblaaDoorCh
namespace Go.Proofs.YtanjkljcoccblaaDoor
open Go.RowKit Go.Maps
set_option maxRecDepth 100000 in
set_option maxHeartbeats 2000000 in
theorem law_fixes (c : Nat) (hc : c < 4294967296) (w : World) (hN : Wds w) (hD : Nds w) : Calls Tryd.prog 5 #[.int .u32 (c : Nat)] w fun e w' => e = .returned (.bool true) ∧ Below w.heap.size w w' := by
  have K1 := Lib.hid (fix_any c hc w hD)
  have K2 := Lib.hid (rfix_any c hc)
  have K3 : Hid (∀ W, Below w.heap.size w W → Calls Tryd.prog 25 #[.int .u32 (c : Nat)] W fun e w' => e = .returned (.int .u32 (groS c : Nat)) ∧ Below W.heap.size W w') := fun W h => gro_any c hc W (hD.below h)
  have K4 := Lib.hid (rgro_any c hc)
  have K5 : Hid (∀ W, Below w.heap.size w W → Calls Tryd.prog 18 #[] W fun e w' => e = .returned (.bool true) ∧ Below W.heap.size W w') := fun W h => awake_any W (hN.below h)
  go_enter Tryd.func5, Tryd.ntmps5
  go_wp2_with (first
    | (go_at_call 23; refine K1.out.mono ?_; rintro e w2 ⟨rfl, h2⟩)
    | (go_at_call 24; refine (K2.out _).mono ?_; rintro e w3 ⟨rfl, rfl⟩)
    | (go_at_call 25; refine (K3.out _ h2).mono ?_; rintro e w4 ⟨rfl, h4⟩; have h4' := h2.trans (h4.mono h2.size))
    | (go_at_call 26; refine (K4.out _).mono ?_; rintro e w5 ⟨rfl, rfl⟩)
    | (go_at_call 18; refine (K5.out _ h4').mono ?_; rintro e w6 ⟨rfl, h6⟩))
  go_ret
  exact ⟨rfl, h4'.trans (h6.mono h4'.size)⟩
end Go.Proofs.YtanjkljcoccblaaDoor
