/- The law TrieNobody at every input; what is asked of the world: the two tables of unicode/utf8 as their text lays them. -/
import Derived.Test.YtnlplnlclnbdiaaGreatDoorKt
namespace Go.Proofs.YtnlplnlclnbdiaaGreatDoor
open Go.RowKit Tp Go.Maps Go.Shelf

set_option maxRecDepth 100000 in
set_option maxHeartbeats 4000000 in
theorem law_nobody (plain : Bool) (k : Int) (f : ByteArray) (i : Int) (w : World) (hf : f.size ≤ 9223372036854775807) (hT : Tabs w) :
    Calls Tryz.prog 7 #[.bool plain, .agg #[.int .i64 k, .string f, .int .i64 i]] w fun e w' => e = .returned (.bool true) ∧ Below w.heap.size w w' := by
  have hB0 := below1 w (.cells #[.int .i64 k, .string f, .int .i64 i] 31)
  have hnew := heap_alloc_new w (.cells #[.int .i64 k, .string f, .int .i64 i] 31)
  have KC : Hid (∀ W, Below (w.heap.size + 1) (w.alloc (.cells #[.int .i64 k, .string f, .int .i64 i] 31)) W → W.cell? ⟨w.heap.size, 1, none⟩ = some (.string f) ∧ W.cell? ⟨w.heap.size, 2, none⟩ = some (.int .i64 i) ∧ Below w.heap.size w W) := fun W h => by
    have := (h.block w.heap.size (by omega)).trans hnew
    exact ⟨by rw [cell_at this 1]; rfl, by rw [cell_at this 2]; rfl, hB0.trans (h.mono (by omega))⟩
  have TT : Hid (∀ W, Below (w.heap.size + 1) (w.alloc (.cells #[.int .i64 k, .string f, .int .i64 i] 31)) W → Tabs W) := fun W h => hT.from (Nat.le_refl _) (KC.out W h).2.2
  have KAdd : Hid (∀ v W, (Below (w.heap.size + 1) (w.alloc (.cells #[.int .i64 k, .string f, .int .i64 i] 31)) W ∧ Nob W v) → Calls Tryz.prog 13 #[v, .string f, .int .i64 i] W fun e w' => e = .returned (.bool false) ∧ (Below (w.heap.size + 1) (w.alloc (.cells #[.int .i64 k, .string f, .int .i64 i] 31)) w' ∧ Nob w' v) ∧ w'.cell? ⟨w.heap.size, 1, none⟩ = some (.string f) ∧ w'.cell? ⟨w.heap.size, 2, none⟩ = some (.int .i64 i)) := fun v W h => (add_nob h.2 f i).mono fun e w' ⟨h1, h2⟩ => by
    have h3 := h.1.trans (h2.mono (by have := h.1.size; simp at this; omega))
    exact ⟨h1, ⟨h3, h.2.below h2⟩, (KC.out w' h3).1, (KC.out w' h3).2.1⟩
  have KRemove : Hid (∀ v W, (Below (w.heap.size + 1) (w.alloc (.cells #[.int .i64 k, .string f, .int .i64 i] 31)) W ∧ Nob W v) → Calls Tryz.prog 19 #[v, .string f, .int .i64 i] W fun e w' => e = .returned (.bool false) ∧ (Below (w.heap.size + 1) (w.alloc (.cells #[.int .i64 k, .string f, .int .i64 i] 31)) w' ∧ Nob w' v) ∧ w'.cell? ⟨w.heap.size, 1, none⟩ = some (.string f) ∧ w'.cell? ⟨w.heap.size, 2, none⟩ = some (.int .i64 i)) := fun v W h => (rem_nob h.2 f i).mono fun e w' ⟨h1, h2⟩ => by
    have h3 := h.1.trans (h2.mono (by have := h.1.size; simp at this; omega))
    exact ⟨h1, ⟨h3, h.2.below h2⟩, (KC.out w' h3).1, (KC.out w' h3).2.1⟩
  have KMatch : Hid (∀ v W, (Below (w.heap.size + 1) (w.alloc (.cells #[.int .i64 k, .string f, .int .i64 i] 31)) W ∧ Nob W v) → Calls Tryz.prog 15 #[v, .string f] W fun e w' => e = .returned (.slice none 0 0) ∧ (Below (w.heap.size + 1) (w.alloc (.cells #[.int .i64 k, .string f, .int .i64 i] 31)) w' ∧ Nob w' v) ∧ w'.cell? ⟨w.heap.size, 1, none⟩ = some (.string f) ∧ w'.cell? ⟨w.heap.size, 2, none⟩ = some (.int .i64 i)) := fun v W h => (match_nob h.2 f hf (TT.out W h.1)).mono fun e w' ⟨h1, h2⟩ => by
    have h3 := h.1.trans (h2.mono (by have := h.1.size; simp at this; omega))
    exact ⟨h1, ⟨h3, h.2.below h2⟩, (KC.out w' h3).1, (KC.out w' h3).2.1⟩
  have KFilters : Hid (∀ v W, (Below (w.heap.size + 1) (w.alloc (.cells #[.int .i64 k, .string f, .int .i64 i] 31)) W ∧ Nob W v) → Calls Tryz.prog 18 #[v] W fun e w' => e = .returned (.slice none 0 0) ∧ (Below (w.heap.size + 1) (w.alloc (.cells #[.int .i64 k, .string f, .int .i64 i] 31)) w' ∧ Nob w' v) ∧ w'.cell? ⟨w.heap.size, 1, none⟩ = some (.string f) ∧ w'.cell? ⟨w.heap.size, 2, none⟩ = some (.int .i64 i)) := fun v W h => (filters_nob h.2 ).mono fun e w' ⟨h1, h2⟩ => by
    have h3 := h.1.trans (h2.mono (by have := h.1.size; simp at this; omega))
    exact ⟨h1, ⟨h3, h.2.below h2⟩, (KC.out w' h3).1, (KC.out w' h3).2.1⟩
  have KUnder : Hid (∀ v W, (Below (w.heap.size + 1) (w.alloc (.cells #[.int .i64 k, .string f, .int .i64 i] 31)) W ∧ Nob W v) → Calls Tryz.prog 21 #[v, .string f] W fun e w' => e = .returned (.slice none 0 0) ∧ (Below (w.heap.size + 1) (w.alloc (.cells #[.int .i64 k, .string f, .int .i64 i] 31)) w' ∧ Nob w' v) ∧ w'.cell? ⟨w.heap.size, 1, none⟩ = some (.string f) ∧ w'.cell? ⟨w.heap.size, 2, none⟩ = some (.int .i64 i)) := fun v W h => (under_nob h.2 f).mono fun e w' ⟨h1, h2⟩ => by
    have h3 := h.1.trans (h2.mono (by have := h.1.size; simp at this; omega))
    exact ⟨h1, ⟨h3, h.2.below h2⟩, (KC.out w' h3).1, (KC.out w' h3).2.1⟩
  have KLen : Hid (∀ v W, (Below (w.heap.size + 1) (w.alloc (.cells #[.int .i64 k, .string f, .int .i64 i] 31)) W ∧ Nob W v) → Calls Tryz.prog 23 #[v] W fun e w' => e = .returned (.int .i64 0) ∧ (Below (w.heap.size + 1) (w.alloc (.cells #[.int .i64 k, .string f, .int .i64 i] 31)) w' ∧ Nob w' v) ∧ w'.cell? ⟨w.heap.size, 1, none⟩ = some (.string f) ∧ w'.cell? ⟨w.heap.size, 2, none⟩ = some (.int .i64 i)) := fun v W h => (len_nob h.2 ).mono fun e w' ⟨h1, h2⟩ => by
    have h3 := h.1.trans (h2.mono (by have := h.1.size; simp at this; omega))
    exact ⟨h1, ⟨h3, h.2.below h2⟩, (KC.out w' h3).1, (KC.out w' h3).2.1⟩
  have KNodes : Hid (∀ v W, (Below (w.heap.size + 1) (w.alloc (.cells #[.int .i64 k, .string f, .int .i64 i] 31)) W ∧ Nob W v) → Calls Tryz.prog 16 #[v] W fun e w' => e = .returned (.int .i64 0) ∧ (Below (w.heap.size + 1) (w.alloc (.cells #[.int .i64 k, .string f, .int .i64 i] 31)) w' ∧ Nob w' v) ∧ w'.cell? ⟨w.heap.size, 1, none⟩ = some (.string f) ∧ w'.cell? ⟨w.heap.size, 2, none⟩ = some (.int .i64 i)) := fun v W h => (nodes_nob h.2 ).mono fun e w' ⟨h1, h2⟩ => by
    have h3 := h.1.trans (h2.mono (by have := h.1.size; simp at this; omega))
    exact ⟨h1, ⟨h3, h.2.below h2⟩, (KC.out w' h3).1, (KC.out w' h3).2.1⟩
  cases plain with
  | false =>
    go_enter Tryz.func7, Tryz.ntmps7
    go_wp2
    go_loopg [6] 2 (fun gk s6 wx => ∃ j : Nat, j + gk = 2 ∧ s6 = .int .i64 j ∧ Below (w.heap.size + 1) (w.alloc (.cells #[.int .i64 k, .string f, .int .i64 i] 31)) wx ∧ Nob wx (.pointer none))
    case atStart => exact ⟨0, rfl, rfl, Below.refl _ _, .inl rfl⟩
    case round =>
      obtain ⟨j, hjg, rfl, HH⟩ := hrel
      obtain ⟨d1, d2, hbw⟩ := KC.out _ HH.1
      have hA := Lib.hid (awake_any wr (TT.out _ HH.1))
      cases gk with
      | zero =>
        obtain rfl : j = 2 := by omega
        go_wp2_with (first
          | (go_at_call 11; refine hA.out.mono ?_; rintro e w2 ⟨rfl, hb2⟩))
        go_ret
        exact ⟨rfl, hbw.trans (hb2.mono hbw.size)⟩
      | succ gq =>
        have hj : ((j : Nat) : Int) < 2 := by omega
        have hj' : j < 2 := by omega
        go_wp2_with (first
        | (go_at_call 13; refine (KAdd.out _ _ HH).mono ?_; rintro e w2 ⟨rfl, h2, d1, d2⟩; clear HH; have HH := h2; clear h2)
        | (go_at_call 19; refine (KRemove.out _ _ HH).mono ?_; rintro e w3 ⟨rfl, h3, d1, d2⟩; clear HH; have HH := h3; clear h3)
        | (go_at_call 15; refine (KMatch.out _ _ HH).mono ?_; rintro e w4 ⟨rfl, h4, d1, d2⟩; clear HH; have HH := h4; clear h4)
        | (go_at_call 18; refine (KFilters.out _ _ HH).mono ?_; rintro e w5 ⟨rfl, h5, d1, d2⟩; clear HH; have HH := h5; clear h5)
        | (go_at_call 21; refine (KUnder.out _ _ HH).mono ?_; rintro e w6 ⟨rfl, h6, d1, d2⟩; clear HH; have HH := h6; clear h6)
        | (go_at_call 23; refine (KLen.out _ _ HH).mono ?_; rintro e w7 ⟨rfl, h7, d1, d2⟩; clear HH; have HH := h7; clear h7)
        | (go_at_call 16; refine (KNodes.out _ _ HH).mono ?_; rintro e w8 ⟨rfl, h8, d1, d2⟩; clear HH; have HH := h8; clear h8))
        go_roundg gq
        case measure => omega
        case rel => exact ⟨j + 1, by omega, by first | rfl | rw [wrap64_nat (by omega)] | simp, HH⟩
  | true =>
    go_enter Tryz.func7, Tryz.ntmps7
    go_wp2
    go_loopg [6] 2 (fun gk s6 wx => ∃ j : Nat, j + gk = 2 ∧ s6 = .int .i64 j ∧ Below (w.heap.size + 1) (w.alloc (.cells #[.int .i64 k, .string f, .int .i64 i] 31)) wx ∧ Nob wx (.pointer (some ⟨w.heap.size + 1, 0, none⟩)))
    case atStart => exact ⟨0, rfl, rfl, by have := below1 (w.alloc (.cells #[.int .i64 k, .string f, .int .i64 i] 31)) (.cells #[.pointer none] 55); exact this.mono (by simp), .inr ⟨w.heap.size + 1, rfl, by have := heap_alloc_new (w.alloc (.cells #[.int .i64 k, .string f, .int .i64 i] 31)) (.cells #[.pointer none] 55); rw [World.size_alloc] at this; exact this⟩⟩
    case round =>
      obtain ⟨j, hjg, rfl, HH⟩ := hrel
      obtain ⟨d1, d2, hbw⟩ := KC.out _ HH.1
      have hA := Lib.hid (awake_any wr (TT.out _ HH.1))
      cases gk with
      | zero =>
        obtain rfl : j = 2 := by omega
        go_wp2_with (first
          | (go_at_call 11; refine hA.out.mono ?_; rintro e w2 ⟨rfl, hb2⟩))
        go_ret
        exact ⟨rfl, hbw.trans (hb2.mono hbw.size)⟩
      | succ gq =>
        have hj : ((j : Nat) : Int) < 2 := by omega
        have hj' : j < 2 := by omega
        go_wp2_with (first
        | (go_at_call 13; refine (KAdd.out _ _ HH).mono ?_; rintro e w2 ⟨rfl, h2, d1, d2⟩; clear HH; have HH := h2; clear h2)
        | (go_at_call 19; refine (KRemove.out _ _ HH).mono ?_; rintro e w3 ⟨rfl, h3, d1, d2⟩; clear HH; have HH := h3; clear h3)
        | (go_at_call 15; refine (KMatch.out _ _ HH).mono ?_; rintro e w4 ⟨rfl, h4, d1, d2⟩; clear HH; have HH := h4; clear h4)
        | (go_at_call 18; refine (KFilters.out _ _ HH).mono ?_; rintro e w5 ⟨rfl, h5, d1, d2⟩; clear HH; have HH := h5; clear h5)
        | (go_at_call 21; refine (KUnder.out _ _ HH).mono ?_; rintro e w6 ⟨rfl, h6, d1, d2⟩; clear HH; have HH := h6; clear h6)
        | (go_at_call 23; refine (KLen.out _ _ HH).mono ?_; rintro e w7 ⟨rfl, h7, d1, d2⟩; clear HH; have HH := h7; clear h7)
        | (go_at_call 16; refine (KNodes.out _ _ HH).mono ?_; rintro e w8 ⟨rfl, h8, d1, d2⟩; clear HH; have HH := h8; clear h8))
        go_roundg gq
        case measure => omega
        case rel => exact ⟨j + 1, by omega, by first | rfl | rw [wrap64_nat (by omega)] | simp, HH⟩
end Go.Proofs.YtnlplnlclnbdiaaGreatDoor
