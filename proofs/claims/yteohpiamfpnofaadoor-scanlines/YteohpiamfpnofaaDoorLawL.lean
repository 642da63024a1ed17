/- The law ScanLines at every text and place; what is asked of the world: the bytes lie in memory, and the package's variables as their text lays them. -/
import Derived.Test.YteohpiamfpnofaaDoorSq
import Derived.Test.YteohpiamfpnofaaDoorSt
namespace Go.Proofs.YteohpiamfpnofaaDoor
open Go.RowKit Go.Maps

set_option maxRecDepth 100000 in
set_option maxHeartbeats 4000000 in
theorem law_lines {w : World} (a : Option Addr) (l : Bs) (c : Nat) (hS : Src w a l c) (hn : a = none → c = 0) (hm : l.length ≤ 140737488351232) (p : Int) (_ : -9223372036854775808 ≤ p ∧ p ≤ 9223372036854775807) (hv : Sv w) : Calls Tryd.prog 7 #[.slice a l.length c, .int .i64 p] w fun e w' => e = .returned (.bool true) ∧ Below w.heap.size w w' := by
  have KA := Lib.hid (line_any a l c p w hS hn hm)
  have KB : Hid (∀ W, Below w.heap.size w W → Calls Tryd.prog 28 #[.slice a l.length c, .int .i64 p] W fun e w' => e = .returned (.tuple #[.int .i64 ((1 + (l.take (clamp p l.length)).count 10 : Nat) : Int), .int .i64 ((clamp p l.length : Int) - lastI (clamp p l.length) l)]) ∧ w' = W) := fun W h => rline_any a l c p W (hS.below h (Nat.le_refl _)) hm
  have KE : Hid (∀ W, Below w.heap.size w W → Calls Tryd.prog 18 #[] W fun e w' => e = .returned (.bool true) ∧ Below w.heap.size w w') := fun W h => (awake_any W (hv.below h (Nat.le_refl _))).mono fun e w' ⟨h1, h2⟩ => ⟨h1, h.trans (h2.mono h.size)⟩
  generalize ((1 + (l.take (clamp p l.length)).count 10 : Nat) : Int) = M at KA KB
  generalize ((clamp p l.length : Int) - lastI (clamp p l.length) l) = Y at KA KB
  generalize l.length = n at KA KB
  clear hv hS hm hn
  go_enter Tryd.func7, Tryd.ntmps7
  go_wp2_with fail
  refine KA.out.mono ?_
  rintro e w2 ⟨rfl, b2⟩
  go_wp2_with fail
  refine (KB.out _ b2).mono ?_
  rintro e w3 ⟨rfl, rfl⟩
  go_wp2_with fail
  refine (KE.out _ b2).mono ?_
  rintro e w4 ⟨rfl, b4⟩
  go_wp2_with fail
  go_ret
  exact ⟨rfl, b4⟩
end Go.Proofs.YteohpiamfpnofaaDoor
