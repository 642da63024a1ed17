/- The document's own answer: hex, the text that begins at a place; what is asked: the bytes lie in memory. -/
import Derived.Test.YteohpiamfpnofaaDoorSi
namespace Go.Proofs.YteohpiamfpnofaaDoor
open Go.RowKit Go.Maps

/-- A hexadecimal digit's value; -1: it is none. -/
def rhx (b : UInt8) : Int := if hx b < 16 then (hx b : Int) else -1

set_option maxHeartbeats 1000000 in
theorem rhex_any (b : UInt8) (w : World) : Calls Tryd.prog 67 #[.int .u8 b.toNat] w fun e w' => e = .returned (.int .i64 (rhx b)) ∧ w' = w := by
  have hb := u8_lt b
  have K := Lib.hid (rdigit_any b)
  have h0 : 0 ≤ (b.toNat : Int) := by omega
  have HC : Hid (rhx b = if 48 ≤ (b.toNat : Int) ∧ (b.toNat : Int) ≤ 57 then (b.toNat : Int) - 48 else if 97 ≤ (b.toNat : Int) ∧ (b.toNat : Int) ≤ 102 then (b.toNat : Int) - 87 else if 65 ≤ (b.toNat : Int) ∧ (b.toNat : Int) ≤ 70 then (b.toNat : Int) - 55 else -1) := by
    show rhx b = _
    unfold rhx hx
    repeat' split
    all_goals omega
  have HD : Hid (dig b = true ↔ 48 ≤ (b.toNat : Int) ∧ (b.toNat : Int) ≤ 57) := by
    show _ ↔ _
    unfold dig
    simp only [decide_eq_true_eq]
    omega
  go_enter Tryd.func67, Tryd.ntmps67
  go_wp2_with fail
  refine (K.out _).mono ?_
  rintro e w2 ⟨rfl, rfl⟩
  cases hd : dig b with
  | true =>
    have h1 := HD.out.1 hd
    have q : IntKind.u8.wrap ((b.toNat : Int) - 48) = (b.toNat : Int) - 48 := u8_wrap (by omega) (by omega)
    generalize (b.toNat : Int) = x at *
    go_wp2
    go_ret
    refine ⟨ret_i ?_, rfl⟩
    rw [HC.out, if_pos h1]
  | false =>
    have h1 : ¬ (48 ≤ (b.toNat : Int) ∧ (b.toNat : Int) ≤ 57) := fun h => by rw [HD.out.2 h] at hd; cases hd
    clear hd
    generalize hx' : (b.toNat : Int) = x at *
    clear hx'
    by_cases h2 : 97 ≤ x ∧ x ≤ 102
    · have q : IntKind.u8.wrap (x - 97) = x - 97 := u8_wrap (by omega) (by omega)
      have g1 : 97 ≤ x := h2.1
      have g2 : x ≤ 102 := h2.2
      go_wp2
      go_ret
      refine ⟨ret_i ?_, rfl⟩
      rw [HC.out, if_neg h1, if_pos h2]; omega
    · by_cases h3 : 65 ≤ x ∧ x ≤ 70
      · have q : IntKind.u8.wrap (x - 65) = x - 65 := u8_wrap (by omega) (by omega)
        have g0 : ¬ 97 ≤ x := by omega
        have g1 : 65 ≤ x := h3.1
        have g2 : x ≤ 70 := h3.2
        go_wp2
        go_ret
        refine ⟨ret_i ?_, rfl⟩
        rw [HC.out, if_neg h1, if_neg h2, if_pos h3]; omega
      · go_wp2
        all_goals (go_ret; refine ⟨ret_i ?_, rfl⟩; rw [HC.out, if_neg h1, if_neg h2, if_neg h3])
end Go.Proofs.YteohpiamfpnofaaDoor
