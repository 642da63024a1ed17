/- The document's own bits and Parts; no condition. -/
import Derived.Test.YtanjkljcoccblaaDoorCg
namespace Go.Proofs.YtanjkljcoccblaaDoor
open Go.RowKit Go.Maps

set_option maxRecDepth 100000 in
set_option maxHeartbeats 2000000 in
theorem rbits (k1 k2 : Nat) (h1 : k1 < 11) (h2 : k2 < 11) (b : Nat) (w : World) (x1 : w.cell? ⟨b, 0, none⟩ = some (.int .i64 (k1 : Nat))) (x2 : w.cell? ⟨b, 1, none⟩ = some (.int .i64 (k2 : Nat))) :
    Calls Tryd.prog 37 #[.slice (some ⟨b, 0, none⟩) 2 2] w fun e w' => e = .returned (.int .u32 (2 ^ k1 ||| 2 ^ k2 : Nat)) ∧ Below w.heap.size w w' := by
  have q1 : IntKind.u64.wrap ((k1 : Nat) : Int) = (k1 : Nat) := by show ((k1 : Nat) : Int) % 18446744073709551616 = _; omega
  have q2 : IntKind.u64.wrap ((k2 : Nat) : Int) = (k2 : Nat) := by show ((k2 : Nat) : Int) % 18446744073709551616 = _; omega
  have b1 := bit_at k1 h1
  have b2 := bit_at k2 h2
  have b3 := (u32_bits 0 (2 ^ k1) (by decide) (pow_lt k1 h1)).2.1
  have b4 := (u32_bits (2 ^ k1) (2 ^ k2) (pow_lt k1 h1) (pow_lt k2 h2)).2.1
  rw [Nat.zero_or] at b3
  have C1 : Hid ((2 : Int) ^ k1 = ((2 ^ k1 : Nat) : Int)) := by show (2 : Int) ^ k1 = _; simp
  have C2 : Hid ((2 : Int) ^ k2 = ((2 ^ k2 : Nat) : Int)) := by show (2 : Int) ^ k2 = _; simp
  have B3 := Lib.hid b3
  have B4 := Lib.hid b4
  clear b3 b4
  go_enter Tryd.func37, Tryd.ntmps37
  go_wp2
  go_loopg [3, 8] 2 (fun gk s3 s8 wx => wx = w ∧ ((gk = 2 ∧ s8 = .int .i64 0 ∧ s3 = .int .u32 0) ∨ (gk = 1 ∧ s8 = .int .i64 1 ∧ s3 = .int .u32 (2 ^ k1 : Nat)) ∨ (gk = 0 ∧ s8 = .int .i64 2 ∧ s3 = .int .u32 (2 ^ k1 ||| 2 ^ k2 : Nat))))
  case atStart => exact ⟨rfl, .inl ⟨rfl, rfl, rfl⟩⟩
  case round =>
    obtain ⟨rfl, ⟨rfl, rfl, rfl⟩ | ⟨rfl, rfl, rfl⟩ | ⟨rfl, rfl, rfl⟩⟩ := hrel
    · go_wp2
      go_roundg 1
      case measure => omega
      case rel => exact ⟨rfl, .inr (.inl ⟨rfl, rfl, by rw [C1.out]; exact congrArg (Value.int .u32) B3.out⟩)⟩
    · go_wp2
      go_roundg 0
      case measure => omega
      case rel => exact ⟨rfl, .inr (.inr ⟨rfl, rfl, by rw [C1.out, C2.out]; exact congrArg (Value.int .u32) B4.out⟩)⟩
    · go_wp2
      go_ret
      exact ⟨rfl, Below.refl _ _⟩
set_option maxRecDepth 100000 in
set_option maxHeartbeats 2000000 in
theorem rparts0 (w : World) : Calls Tryd.prog 22 #[.int .i64 0] w fun e w' => e = .returned (.int .u32 3) ∧ Below w.heap.size w w' := by
  have K : Hid (Calls Tryd.prog 37 #[.slice (some ⟨w.heap.size, 0, none⟩) 2 2] (w.alloc (.cells #[.int .i64 0, .int .i64 1] 3)) fun e w' => e = .returned (.int .u32 3) ∧ Below w.heap.size w w') := (rbits 0 1 (by decide) (by decide) w.heap.size _ (by rw [cell_at (heap_alloc_new w _) 0]; rfl) (by rw [cell_at (heap_alloc_new w _) 1]; rfl)).mono fun e w' ⟨q1, q2⟩ => ⟨q1, (below1 w _).trans (q2.mono (by simp))⟩
  go_enter Tryd.func22, Tryd.ntmps22
  go_wp2_with (first
    | (go_at_call 37; refine K.out.mono ?_; rintro e w2 ⟨rfl, h2⟩))
  go_ret
  exact ⟨rfl, h2⟩
set_option maxRecDepth 100000 in
set_option maxHeartbeats 2000000 in
theorem rparts1 (w : World) : Calls Tryd.prog 22 #[.int .i64 1] w fun e w' => e = .returned (.int .u32 192) ∧ Below w.heap.size w w' := by
  have K : Hid (Calls Tryd.prog 37 #[.slice (some ⟨w.heap.size, 0, none⟩) 2 2] (w.alloc (.cells #[.int .i64 6, .int .i64 7] 3)) fun e w' => e = .returned (.int .u32 192) ∧ Below w.heap.size w w') := (rbits 6 7 (by decide) (by decide) w.heap.size _ (by rw [cell_at (heap_alloc_new w _) 0]; rfl) (by rw [cell_at (heap_alloc_new w _) 1]; rfl)).mono fun e w' ⟨q1, q2⟩ => ⟨q1, (below1 w _).trans (q2.mono (by simp))⟩
  go_enter Tryd.func22, Tryd.ntmps22
  go_wp2_with (first
    | (go_at_call 37; refine K.out.mono ?_; rintro e w2 ⟨rfl, h2⟩))
  go_ret
  exact ⟨rfl, h2⟩
set_option maxRecDepth 100000 in
set_option maxHeartbeats 2000000 in
theorem rparts2 (w : World) : Calls Tryd.prog 22 #[.int .i64 2] w fun e w' => e = .returned (.int .u32 48) ∧ Below w.heap.size w w' := by
  have K : Hid (Calls Tryd.prog 37 #[.slice (some ⟨w.heap.size, 0, none⟩) 2 2] (w.alloc (.cells #[.int .i64 4, .int .i64 5] 3)) fun e w' => e = .returned (.int .u32 48) ∧ Below w.heap.size w w') := (rbits 4 5 (by decide) (by decide) w.heap.size _ (by rw [cell_at (heap_alloc_new w _) 0]; rfl) (by rw [cell_at (heap_alloc_new w _) 1]; rfl)).mono fun e w' ⟨q1, q2⟩ => ⟨q1, (below1 w _).trans (q2.mono (by simp))⟩
  go_enter Tryd.func22, Tryd.ntmps22
  go_wp2_with (first
    | (go_at_call 37; refine K.out.mono ?_; rintro e w2 ⟨rfl, h2⟩))
  go_ret
  exact ⟨rfl, h2⟩
set_option maxRecDepth 100000 in
set_option maxHeartbeats 2000000 in
theorem rparts3 (w : World) : Calls Tryd.prog 22 #[.int .i64 3] w fun e w' => e = .returned (.int .u32 240) ∧ Below w.heap.size w w' := by
  have K1 := Lib.hid rparts1
  have K2 : Hid (∀ W W', Below W.heap.size W W' → Calls Tryd.prog 22 #[.int .i64 2] W' fun e w' => e = .returned (.int .u32 48) ∧ Below W'.heap.size W' w') := fun _ W' _ => rparts2 W'
  have b1 : bits .or .u32 192 48 = 240 := by decide
  go_enter Tryd.func22, Tryd.ntmps22
  go_wp2_with (first
    | (go_at_call 22; refine (K2.out _ _ h2).mono ?_; rintro e w3 ⟨rfl, h3⟩)
    | (go_at_call 22; refine (K1.out _).mono ?_; rintro e w2 ⟨rfl, h2⟩))
  go_wp2
  go_ret
  exact ⟨rfl, h2.trans (h3.mono h2.size)⟩
set_option maxRecDepth 100000 in
set_option maxHeartbeats 2000000 in
theorem rparts4 (w : World) : Calls Tryd.prog 22 #[.int .i64 4] w fun e w' => e = .returned (.int .u32 243) ∧ Below w.heap.size w w' := by
  have K1 := Lib.hid rparts0
  have K2 : Hid (∀ W W', Below W.heap.size W W' → Calls Tryd.prog 22 #[.int .i64 3] W' fun e w' => e = .returned (.int .u32 240) ∧ Below W'.heap.size W' w') := fun _ W' _ => rparts3 W'
  have b1 : bits .or .u32 3 240 = 243 := by decide
  go_enter Tryd.func22, Tryd.ntmps22
  go_wp2_with (first
    | (go_at_call 22; refine (K2.out _ _ h2).mono ?_; rintro e w3 ⟨rfl, h3⟩)
    | (go_at_call 22; refine (K1.out _).mono ?_; rintro e w2 ⟨rfl, h2⟩))
  go_wp2
  go_ret
  exact ⟨rfl, h2.trans (h3.mono h2.size)⟩
set_option maxRecDepth 100000 in
set_option maxHeartbeats 2000000 in
theorem rparts5 (g : Int) (h : g ≠ 0) (h1 : g ≠ 1) (h2 : g ≠ 2) (h3 : g ≠ 3) (h4 : g ≠ 4) (w : World) : Calls Tryd.prog 22 #[.int .i64 g] w fun e w' => e = .returned (.int .u32 0) ∧ Below w.heap.size w w' := by
  go_enter Tryd.func22, Tryd.ntmps22
  go_wp2
  go_ret
  exact ⟨rfl, Below.refl _ _⟩
theorem rparts_any (g : Int) (w : World) : Calls Tryd.prog 22 #[.int .i64 g] w fun e w' => e = .returned (.int .u32 (pts g : Nat)) ∧ Below w.heap.size w w' := by
  by_cases h0 : g = 0
  · subst h0; exact rparts0 w
  · by_cases h1 : g = 1
    · subst h1; exact rparts1 w
    · by_cases h2 : g = 2
      · subst h2; exact rparts2 w
      · by_cases h3 : g = 3
        · subst h3; exact rparts3 w
        · by_cases h4 : g = 4
          · subst h4; exact rparts4 w
          · have e : pts g = 0 := by unfold pts; rw [if_neg h0, if_neg h1, if_neg h2, if_neg h3, if_neg h4]
            rw [e]; exact rparts5 g h0 h1 h2 h3 h4 w
end Go.Proofs.YtanjkljcoccblaaDoor
