/- Kinds and their texts: Kind, Text in the package; what is asked of the world: the table as its text lays it. -/
import Derived.Test.YteohpiamfpnofabDoorSd
namespace Go.Proofs.YteohpiamfpnofabDoor
open Go.RowKit

/-- The table of words and marks as its text lays it. -/
def Spl (w : World) : Prop := 0 < w.heap.size ∧ ∀ k x, spl[k]? = some x → w.cell? ⟨0, k, none⟩ = some (.string (bs x))
theorem Spl.below {w W : World} {n : Nat} (h : Spl w) (hB : Below n w W) (hn : w.heap.size ≤ n) : Spl W := ⟨Nat.lt_of_lt_of_le h.1 (by have := hB.size; omega), fun k x hx => (hB.cell (p := ⟨0, k, none⟩) (Nat.lt_of_lt_of_le h.1 hn)).trans (h.2 k x hx)⟩
theorem Spl.at {w : World} (h : Spl w) (k : Nat) (hk : k < 26) : w.cell? ⟨0, k, none⟩ = some (.string (bs (sp k))) := by
  have hl : spl.length = 26 := rfl
  refine h.2 k _ ?_
  unfold sp
  rw [List.getElem?_eq_getElem (by omega)]
  simp [List.getD, hl, hk]
theorem beqq (a : Bs) (s : ByteArray) : ((bs a).toList == s.toList) = decide (a = tl s) := by
  have : (bs a).toList = a := tl_bs a
  rw [this]
  by_cases h : a = tl s
  · rw [decide_eq_true h, h]; simp [tl]
  · rw [decide_eq_false h]; simpa [tl] using h
theorem spl_drop (j : Nat) (hj : j < 26) : spl.drop j = sp j :: spl.drop (j + 1) := by
  rw [List.drop_eq_getElem_cons (show j < spl.length from hj)]
  simp [sp, List.getD, List.getElem?_eq_getElem (show j < spl.length from hj)]

set_option maxRecDepth 100000 in
set_option maxHeartbeats 2000000 in
theorem kind_any (s : ByteArray) (w : World) (hN : Spl w) : Calls Tryd.prog 8 #[.string s] w fun e w' => e = .returned (.int .i64 (kd (tl s))) ∧ w' = w := by
  have HN := Lib.hid hN
  clear hN
  obtain ⟨K, hK⟩ : ∃ K, kd (tl s) = K := ⟨_, rfl⟩
  rw [hK]
  have HK := Lib.hid hK
  clear hK
  go_enter Tryd.func8, Tryd.ntmps8
  go_wp2
  go_loopg [3] 22 (fun gk s3 wx => ∃ j : Nat, 4 ≤ j ∧ j + gk = 26 ∧ s3 = .int .i64 j ∧ K = kdF (spl.drop j) j (tl s) ∧ wx = w)
  case atStart => exact ⟨4, Nat.le_refl _, rfl, rfl, HK.out.symm, rfl⟩
  case round =>
    obtain ⟨j, h4, hjg, rfl, hq, rfl⟩ := hrel
    have HQ := Lib.hid hq
    clear hq
    cases gk with
    | zero =>
      obtain rfl : j = 26 := by omega
      go_wp2
      go_ret
      exact ⟨ret_i (by rw [HQ.out]; rfl), rfl⟩
    | succ gq =>
      have hj : j < 26 := by omega
      have hj' : ((j : Nat) : Int) < 26 := by omega
      have c1 := HN.out.at j hj
      have HD := Lib.hid (spl_drop j hj)
      by_cases he : sp j = tl s
      · have b1 : ((bs (sp j)).toList == s.toList) = true := by rw [beqq]; exact decide_eq_true he
        have HE := Lib.hid he
        clear he
        go_wp2
        go_ret
        exact ⟨ret_i (by rw [HQ.out, HD.out, kdF, if_pos HE.out]), rfl⟩
      · have b1 : ((bs (sp j)).toList == s.toList) = false := by rw [beqq]; exact decide_eq_false he
        go_wp2
        go_roundg gq
        case measure => omega
        case rel => exact ⟨j + 1, by omega, by omega, by first | rfl | simp, by rw [HQ.out, HD.out, kdF, if_neg he], rfl⟩

/-- The text of a kind, at any number. -/
def tx (k : Int) : Bs := if 0 ≤ k ∧ k < 26 then sp k.toNat else []
theorem text_kind (k : Int) (w : World) (hN : Spl w) : Calls Tryd.prog 9 #[.int .i64 k] w fun e w' => e = .returned (.string (bs (tx k))) ∧ w' = w := by
  by_cases h0 : k < 0
  · have hn : ¬ (0 ≤ k ∧ k < 26) := by omega
    obtain ⟨z, hz⟩ : ∃ z, tx k = z := ⟨_, rfl⟩
    have HZ : Hid (z = []) := by show z = []; rw [← hz, tx, if_neg hn]
    rw [hz]
    clear hz hN
    go_enter Tryd.func9, Tryd.ntmps9
    go_wp2
    go_ret
    exact ⟨by rw [HZ.out]; rfl, rfl⟩
  · by_cases h1 : k < 26
    · obtain ⟨n, rfl⟩ : ∃ n : Nat, k = n := ⟨k.toNat, by omega⟩
      have hn : n < 26 := by omega
      have c1 := hN.at n hn
      have e : tx (n : Int) = sp n := by rw [tx, if_pos ⟨by omega, h1⟩, Int.toNat_natCast]
      rw [e]
      generalize sp n = z at c1
      clear hN e
      go_enter Tryd.func9, Tryd.ntmps9
      go_wp2
      go_ret
      exact ⟨rfl, rfl⟩
    · have hn : ¬ (0 ≤ k ∧ k < 26) := by omega
      obtain ⟨z, hz⟩ : ∃ z, tx k = z := ⟨_, rfl⟩
      have HZ : Hid (z = []) := by show z = []; rw [← hz, tx, if_neg hn]
      rw [hz]
      clear hz hN
      go_enter Tryd.func9, Tryd.ntmps9
      go_wp2
      go_ret
      exact ⟨by rw [HZ.out]; rfl, rfl⟩
end Go.Proofs.YteohpiamfpnofabDoor
