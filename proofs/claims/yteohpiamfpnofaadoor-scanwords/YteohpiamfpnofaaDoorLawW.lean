/- The law ScanWords at every text and number; what is asked of the world: the package's variables as their text lays them. -/
import Derived.Test.YteohpiamfpnofaaDoorSq
import Derived.Test.YteohpiamfpnofaaDoorSr
namespace Go.Proofs.YteohpiamfpnofaaDoor
open Go.RowKit Go.Maps

set_option maxRecDepth 100000 in
set_option maxHeartbeats 4000000 in
theorem law_words (s : ByteArray) (k : Int) (_ : -9223372036854775808 ≤ k ∧ k ≤ 9223372036854775807) (w : World) (hv : Sv w) : Calls Tryd.prog 5 #[.string s, .int .i64 k] w fun e w' => e = .returned (.bool true) ∧ Below w.heap.size w w' := by
  have KA : Hid (∀ W, Below w.heap.size w W → Calls Tryd.prog 19 #[.string s] W fun e w' => e = .returned (.int .i64 (kd (tl s))) ∧ Below w.heap.size w w') := fun W h => (kind_any s W (hv.below h (Nat.le_refl _)).1).mono fun e w' ⟨h1, h2⟩ => ⟨h1, h2 ▸ h⟩
  have KB : Hid (∀ W, Below w.heap.size w W → Calls Tryd.prog 20 #[.string s] W fun e w' => e = .returned (.int .i64 (kd (tl s))) ∧ Below w.heap.size w w') := fun W h => (rkind_any s W).mono fun e w' ⟨h1, h2⟩ => ⟨h1, h.trans (h2.mono h.size)⟩
  have KC : Hid (∀ W, Below w.heap.size w W → Calls Tryd.prog 21 #[.int .i64 k] W fun e w' => e = .returned (.string (bs (tx k))) ∧ Below w.heap.size w w') := fun W h => (text_kind k W (hv.below h (Nat.le_refl _)).1).mono fun e w' ⟨h1, h2⟩ => ⟨h1, h2 ▸ h⟩
  have KD : Hid (∀ W, Below w.heap.size w W → Calls Tryd.prog 22 #[.int .i64 k] W fun e w' => e = .returned (.string (bs (tx k))) ∧ Below w.heap.size w w') := fun W h => (rtext_any k W).mono fun e w' ⟨h1, h2⟩ => ⟨h1, h.trans (h2.mono h.size)⟩
  have KE : Hid (∀ W, Below w.heap.size w W → Calls Tryd.prog 18 #[] W fun e w' => e = .returned (.bool true) ∧ Below w.heap.size w w') := fun W h => (awake_any W (hv.below h (Nat.le_refl _))).mono fun e w' ⟨h1, h2⟩ => ⟨h1, h.trans (h2.mono h.size)⟩
  generalize kd (tl s) = K at KA KB
  generalize bs (tx k) = Z at KC KD
  have e1 : (Z.toList == Z.toList) = true := by simp
  clear hv
  have hb0 := Below.refl w.heap.size w
  go_enter Tryd.func5, Tryd.ntmps5
  go_wp2_with (first
    | (go_at_call 19; refine (KA.out _ (by assumption)).mono ?_; rintro e w2 ⟨rfl, b2⟩)
    | (go_at_call 20; refine (KB.out _ (by assumption)).mono ?_; rintro e w3 ⟨rfl, b3⟩)
    | (go_at_call 21; refine (KC.out _ (by assumption)).mono ?_; rintro e w4 ⟨rfl, b4⟩)
    | (go_at_call 22; refine (KD.out _ (by assumption)).mono ?_; rintro e w5 ⟨rfl, b5⟩)
    | (go_at_call 18; refine (KE.out _ (by assumption)).mono ?_; rintro e w6 ⟨rfl, b6⟩))
  go_ret
  exact ⟨rfl, b6⟩
end Go.Proofs.YteohpiamfpnofaaDoor
