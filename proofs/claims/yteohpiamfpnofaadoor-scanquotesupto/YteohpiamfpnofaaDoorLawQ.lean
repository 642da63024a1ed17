/- The law ScanQuotes at texts of at most 1048576 bytes; what is asked of the world: the package's variables as their text lays them. -/
import Derived.Test.YteohpiamfpnofaaDoorSq
import Derived.Test.YteohpiamfpnofaaDoorRe
namespace Go.Proofs.YteohpiamfpnofaaDoor
open Go.RowKit Go.Maps

def Mk1 : Prop := True
theorem seen_at (l : Bs) (Q : ByteArray) (h : bs (qt l) = Q) (j : Nat) (hj : j < Q.size) : 32 ≤ (Q[j]).toNat ∧ (Q[j]).toNat ≤ 126 := by
  obtain ⟨h2, h3⟩ := byte_at Q j hj
  rw [← h3]
  refine qt_seen l _ ?_
  have e : tl Q = qt l := by rw [← h, tl_bs]
  rw [← e]
  exact List.getElem_mem _

set_option maxRecDepth 100000 in
set_option maxHeartbeats 1600000 in
theorem law_quotes (s o : ByteArray) (hs : s.size ≤ 1048576) (ho : o.size ≤ 1048576) (w : World) (hv : Sv w) : Calls Tryd.prog 6 #[.string s, .string o] w fun e w' => e = .returned (.bool true) ∧ Below w.heap.size w w' := by
  obtain ⟨Q, hQ⟩ : ∃ Q, bs (qt (tl s)) = Q := ⟨_, rfl⟩
  have htl : tl Q = qt (tl s) := by rw [← hQ, tl_bs]
  have hsz : Q.size ≤ 4194306 := by
    rw [← tl_size, htl]
    have := qt_len (tl s)
    rw [tl_size] at this
    omega
  have KA : Hid (∀ W, Below w.heap.size w W → Calls Tryd.prog 23 #[.string s] W fun e w' => e = .returned (.string Q) ∧ Below w.heap.size w w') := fun W h => (quote_any s W hs).mono fun e w' ⟨h1, h2⟩ => ⟨by rw [h1, hQ], h.trans (h2.mono h.size)⟩
  have KR : Hid (∀ W, Below w.heap.size w W → Calls Tryd.prog 26 #[.string s] W fun e w' => e = .returned (.string Q) ∧ Below w.heap.size w w') := fun W h => (rquote_any s W hs).mono fun e w' ⟨h1, h2⟩ => ⟨by rw [h1, hQ], h.trans (h2.mono h.size)⟩
  have KB : Hid (∀ W, Below w.heap.size w W → Calls Tryd.prog 24 #[.string Q] W fun e w' => e = .returned (.tuple #[.string s, .bool true]) ∧ Below w.heap.size w w') := fun W h => (unquote_any Q W (by omega)).mono fun e w' ⟨h1, h2⟩ => ⟨by rw [h1, htl, unq_qt]; simp [bs_tl], h.trans (h2.mono h.size)⟩
  have KC : Hid (∀ W, Below w.heap.size w W → Calls Tryd.prog 24 #[.string o] W fun e w' => e = .returned (.tuple #[.string (bs ((unq (tl o)).getD [])), .bool (unq (tl o)).isSome]) ∧ Below w.heap.size w w') := fun W h => (unquote_any o W (by omega)).mono fun e w' ⟨h1, h2⟩ => ⟨h1, h.trans (h2.mono h.size)⟩
  have KD : Hid (∀ W, Below w.heap.size w W → Calls Tryd.prog 25 #[.string o] W fun e w' => e = .returned (.tuple #[.string (bs ((unq (tl o)).getD [])), .bool (unq (tl o)).isSome]) ∧ Below w.heap.size w w') := fun W h => (runquote_any o W (by omega)).mono fun e w' ⟨h1, h2⟩ => ⟨h1, h.trans (h2.mono h.size)⟩
  have KE : Hid (∀ W, Below w.heap.size w W → Calls Tryd.prog 18 #[] W fun e w' => e = .returned (.bool true) ∧ Below w.heap.size w w') := fun W h => (awake_any W (hv.below h (Nat.le_refl _))).mono fun e w' ⟨h1, h2⟩ => ⟨h1, h.trans (h2.mono h.size)⟩
  have HS := Lib.hid (seen_at (tl s) Q hQ)
  generalize bs ((unq (tl o)).getD []) = V at KC KD
  generalize (unq (tl o)).isSome = G at KC KD
  have e1 : (Q.toList == Q.toList) = true := by simp
  have e2 : (V.toList == V.toList) = true := by simp
  have e3 : (s.toList == s.toList) = true := by simp
  have e4 : (G == G) = true := by simp
  clear hv hQ htl
  have hb0 := Below.refl w.heap.size w
  have hmk : Mk1 := trivial
  go_enter Tryd.func6, Tryd.ntmps6
  go_wp2_with (first
    | (go_at_call 23; refine (KA.out _ (by assumption)).mono ?_; rintro e w2 ⟨rfl, b2⟩)
    | (go_at_call 24; first | (clear hmk; refine (KB.out _ (by assumption)).mono ?_; rintro e w3 ⟨rfl, b3⟩) | (refine (KC.out _ (by assumption)).mono ?_; rintro e w4 ⟨rfl, b4⟩))
    | (go_at_call 25; refine (KD.out _ (by assumption)).mono ?_; rintro e w5 ⟨rfl, b5⟩)
    | (go_at_call 26; refine (KR.out _ (by assumption)).mono ?_; rintro e w6 ⟨rfl, b6⟩))
  have HB6 := Lib.hid b6
  clear KA KB KC KD KR b2 b3 b4 b5 b6 hb0 e1 e2 e3 e4
  go_loopg [12] Q.size (fun gk s12 wx => ∃ (j : Nat), j ≤ Q.size ∧ gk = Q.size - j ∧ s12 = .int .i64 j ∧ Below w.heap.size w wx)
  case atStart => exact ⟨0, Nat.zero_le _, rfl, rfl, HB6.out⟩
  case round =>
    obtain ⟨j, hjn, rfl, rfl, hbw⟩ := hrel
    by_cases hj : j = Q.size
    · have hj1 : ((j : Int) < (Q.size : Int)) = False := by simp; omega
      go_wp2_with (first
        | (go_at_call 18; refine (KE.out _ (by assumption)).mono ?_; rintro e w7 ⟨rfl, b7⟩))
      go_ret
      exact ⟨rfl, b7⟩
    · have hj3 : j < Q.size := by omega
      have hj2 : (j : Int) < (Q.size : Int) := by omega
      have hq := HS.out j hj3
      have q1 : ¬ ((Q[j]).toNat : Int) < 32 := by omega
      have q2 : ¬ 126 < ((Q[j]).toNat : Int) := by omega
      have HW := Lib.hid hbw
      clear hbw hq
      go_wp2
      go_roundg (Q.size - (j + 1))
      case measure => omega
      case rel => exact ⟨j + 1, by omega, rfl, by first | rfl | simp, HW.out⟩
end Go.Proofs.YteohpiamfpnofaaDoor
