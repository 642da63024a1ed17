/- The law CapsOrders at every two sets; what is asked of the world: the two tables of the package as their text lays them. -/
import Derived.Test.YtanjkljcoccblaaDoorCm
import Derived.Test.YtanjkljcoccblaaDoorCf
namespace Go.Proofs.YtanjkljcoccblaaDoor
open Go.RowKit Go.Maps
theorem andN_of_sub {x y : Nat} (hx : x < 4294967296) (h : subS x y) : andN x y = 0 := (andN_zero x y hx).2 h
set_option maxRecDepth 100000 in
set_option maxHeartbeats 2000000 in
theorem law_orders5 (c0 : Nat) (hc0 : c0 < 4294967296) (d : Nat) (hd : d < 4294967296) (w : World) (hN : Wds w) (hD : Nds w) : Calls Tryd.prog 6 #[.int .u32 (c0 : Nat), .int .u32 (d : Nat)] w fun e w' => e = .returned (.bool true) ∧ Below w.heap.size w w' := by
  have KF : Hid (∀ (x : Nat) W, x < 4294967296 → Below w.heap.size w W → Calls Tryd.prog 23 #[.int .u32 (x : Nat)] W fun e w' => e = .returned (.int .u32 (fixS x : Nat)) ∧ Below w.heap.size w w') := fun x W hx h => (fix_any x hx W (hD.below h)).mono fun e w' ⟨q1, q2⟩ => ⟨q1, h.trans (q2.mono h.size)⟩
  have KG : Hid (∀ (x : Nat) W, x < 4294967296 → Below w.heap.size w W → Calls Tryd.prog 25 #[.int .u32 (x : Nat)] W fun e w' => e = .returned (.int .u32 (groS x : Nat)) ∧ Below w.heap.size w w') := fun x W hx h => (gro_any x hx W (hD.below h)).mono fun e w' ⟨q1, q2⟩ => ⟨q1, h.trans (q2.mono h.size)⟩
  have K5 : Hid (∀ W, Below w.heap.size w W → Calls Tryd.prog 18 #[] W fun e w' => e = .returned (.bool true) ∧ Below W.heap.size W w') := fun W h => awake_any W (hN.below h)
  have hcl := low_lt c0
  have e0 : bits .and .u32 (c0 : Int) 2047 = ((c0 &&& 2047 : Nat) : Int) := (u32_bits c0 2047 hc0 (by decide)).1
  obtain ⟨C, hC⟩ : ∃ C, c0 &&& 2047 = C := ⟨_, rfl⟩
  rw [hC] at e0 hcl
  obtain ⟨B, hB⟩ : ∃ B, C &&& d = B := ⟨_, rfl⟩
  have hBC : subS B C := fun i h => by rw [← hB, Nat.testBit_and, Bool.and_eq_true] at h; exact h.1
  have hBl : B < 2048 := by rw [← hB]; exact Nat.lt_of_le_of_lt Nat.and_le_left hcl
  have e1 : bits .and .u32 (C : Int) (d : Int) = ((B : Nat) : Int) := by rw [← hB]; exact (u32_bits C d (by omega) hd).1
  have a1 : andN (fixS C) C = 0 := andN_of_sub (by have := fix_lt C; omega) (fix_sub C)
  have a2 : andN C (groS C) = 0 := andN_of_sub (by omega) (by have := gro_sub C; rwa [low_of hcl] at this)
  have a3 : andN (fixS B) (fixS C) = 0 := andN_of_sub (by have := fix_lt B; omega) (fix_mono hBC)
  have a4 : andN (groS B) (groS C) = 0 := andN_of_sub (by have := gro_lt B; omega) (gro_mono hBC)
  have f1 : fixS (fixS C) = fixS C := fix_fixed (fix_lt C) (fix_prop C)
  have f2 : groS (groS C) = groS C := gro_fixed (gro_lt C) (gro_prop C)
  have f3 : fixS (groS C) = groS C := fix_fixed (gro_lt C) (gro_prop C)
  have f4 : groS (fixS C) = fixS C := gro_fixed (fix_lt C) (fix_prop C)
  have f5 := fix_iff hcl
  have l1 := fix_lt C
  have l2 := gro_lt C
  have l3 := fix_lt B
  have l4 := gro_lt B
  obtain ⟨F, hF⟩ : ∃ F, fixS C = F := ⟨_, rfl⟩
  obtain ⟨G, hG⟩ : ∃ G, groS C = G := ⟨_, rfl⟩
  obtain ⟨FB, hFB⟩ : ∃ F, fixS B = F := ⟨_, rfl⟩
  obtain ⟨GB, hGB⟩ : ∃ G, groS B = G := ⟨_, rfl⟩
  rw [hF] at a1 a3 f1 f4 f5 l1
  rw [hG] at a2 a4 f2 f3 f5 l2
  rw [hFB] at a3 l3
  rw [hGB] at a4 l4
  have u1 : bits .andNot .u32 (F : Int) (C : Int) = 0 := by have := (u32_bits F C (by omega) (by omega)).2.2; rw [a1] at this; exact this
  have u2 : bits .andNot .u32 (C : Int) (G : Int) = 0 := by have := (u32_bits C G (by omega) (by omega)).2.2; rw [a2] at this; exact this
  have u3 : bits .andNot .u32 (FB : Int) (F : Int) = 0 := by have := (u32_bits FB F (by omega) (by omega)).2.2; rw [a3] at this; exact this
  have u4 : bits .andNot .u32 (GB : Int) (G : Int) = 0 := by have := (u32_bits GB G (by omega) (by omega)).2.2; rw [a4] at this; exact this
  have u5 : (((F : Nat) : Int) == ((C : Nat) : Int)) = (((G : Nat) : Int) == ((C : Nat) : Int)) := by
    by_cases h : F = C
    · rw [h, f5.1 h]
    · have h' : ¬ G = C := fun e => h (f5.2 e)
      have x1 : (((F : Nat) : Int) == ((C : Nat) : Int)) = false := by simp; omega
      have x2 : (((G : Nat) : Int) == ((C : Nat) : Int)) = false := by simp; omega
      rw [x1, x2]
  have o1 : C < 4294967296 := by omega
  have o2 : F < 4294967296 := by omega
  have o3 : G < 4294967296 := by omega
  have o4 : B < 4294967296 := by omega
  have hb0 := Below.refl w.heap.size w
  clear a1 a2 a3 a4 f5 hBC hB hC l1 l2 l3 l4 hcl hBl hd hc0 hN hD
  go_enter Tryd.func6, Tryd.ntmps6
  go_wp2_with (first
    | (go_at_call 23; refine (KF.out _ _ (by assumption) (by assumption)).mono ?_; rintro e w2 ⟨rfl, h2⟩)
    | (go_at_call 25; refine (KG.out _ _ (by assumption) (by assumption)).mono ?_; rintro e w2 ⟨rfl, h2⟩)
    | (go_at_call 18; refine (K5.out _ (by assumption)).mono ?_; rintro e w6 ⟨rfl, h6⟩))
  go_ret
  exact ⟨rfl, h2.trans (h6.mono h2.size)⟩
end Go.Proofs.YtanjkljcoccblaaDoor
