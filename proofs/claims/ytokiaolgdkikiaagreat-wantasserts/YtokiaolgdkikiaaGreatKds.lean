/- The package's Kinds, Holds, Covers and Meets at right patterns: the kinds of which the pattern holds, as bits, and what follows of them; the conditions: the patterns' trees lie in memory and are right. -/
import Derived.Test.YtokiaolgdkikiaaGreatHold
namespace Go.Proofs.YtokiaolgdkikiaaGreat
open Go.RowKit

theorem bit_at (j : Nat) (h : j < 14) : (2 : Int) ^ j % 4294967296 = ((2 ^ j : Nat) : Int) := by
  have : j = 0 ∨ j = 1 ∨ j = 2 ∨ j = 3 ∨ j = 4 ∨ j = 5 ∨ j = 6 ∨ j = 7 ∨ j = 8 ∨ j = 9 ∨ j = 10 ∨ j = 11 ∨ j = 12 ∨ j = 13 := by omega
  rcases this with rfl | rfl | rfl | rfl | rfl | rfl | rfl | rfl | rfl | rfl | rfl | rfl | rfl | rfl <;> decide
theorem or_at (p : Int → Bool) (j : Nat) (h : j < 14) (hp : p j = true) : bits .or .u32 ((kset p j : Nat) : Int) ((2 : Int) ^ j % 4294967296) = ((kset p (j + 1) : Nat) : Int) := by
  have h1 := kset_lt p j
  have h2 : (2 : Nat) ^ j ≤ 2 ^ 13 := Nat.pow_le_pow_right (by decide) (by omega)
  rw [bit_at j h, u32_or_nat _ _ (by omega) (by omega)]
  simp only [kset, if_pos hp]

theorem kset_no (p : Int → Bool) (j : Nat) (hp : p j = false) : kset p j = kset p (j + 1) := by simp only [kset, hp]; rfl
/-- The pattern's own block, whatever is done behind it. -/
def One (w : World) (v0 v1 v2 : Value) (w' : World) : Prop := Below (w.heap.size + 1) (w.alloc (.cells #[v0, v1, v2] 24)) w'
theorem One.drew {w : World} {v0 v1 v2 : Value} {w' : World} (h : One w v0 v1 v2 w') : One w v0 v1 v2 w'.drew := Below.drew h
theorem One.below {w : World} {v0 v1 v2 : Value} {w' : World} (h : One w v0 v1 v2 w') : Below w.heap.size w w' := (below1 w _).trans (Below.mono h (by omega))
theorem One.step {w : World} {v0 v1 v2 : Value} {w1 w2 : World} (h : One w v0 v1 v2 w1) (hb : Below w1.heap.size w1 w2) : One w v0 v1 v2 w2 := by
  have := Below.size h
  simp at this
  exact Below.trans h (hb.mono (by omega))
theorem One.c {w : World} {v0 v1 v2 : Value} {w' : World} (h : One w v0 v1 v2 w') : w'.cell? ⟨w.heap.size, 0, none⟩ = some v0 ∧ w'.cell? ⟨w.heap.size, 1, none⟩ = some v1 ∧ w'.cell? ⟨w.heap.size, 2, none⟩ = some v2 := by
  obtain ⟨h0, h1, h2⟩ := (P3.new w v0 v1 v2).c
  refine ⟨?_, ?_, ?_⟩
  · rw [← h0]; exact Below.cell h (p := ⟨w.heap.size, 0, none⟩) (by show w.heap.size < w.heap.size + 1; omega)
  · rw [← h1]; exact Below.cell h (p := ⟨w.heap.size, 1, none⟩) (by show w.heap.size < w.heap.size + 1; omega)
  · rw [← h2]; exact Below.cell h (p := ⟨w.heap.size, 2, none⟩) (by show w.heap.size < w.heap.size + 1; omega)
theorem One.start (w : World) (v0 v1 v2 : Value) : One w v0 v1 v2 (w.alloc (.cells #[v0, v1, v2] 24)) := Below.refl _ _

set_option maxRecDepth 100000 in
set_option maxHeartbeats 2000000 in
theorem kinds_any (n : Nat) (t : Wt n) (v0 v1 v2 : Value) (w : World) (hr : RepW w n [v0, v1, v2] t) (hg : wgt n t = true) :
    Calls Tryz.prog 13 #[.agg #[v0, v1, v2]] w fun e w' => e = .returned (.int .u32 ((kset (evk n t) 14 : Nat) : Int)) ∧ Below w.heap.size w w' := by
  obtain ⟨o, m, ad, len, cap, rfl, rfl, rfl⟩ := repW_shape hr
  have HK : Hid (∀ (j : Nat) (wx : World), One w (.int .i64 o) (.int .i64 m) (.slice ad len cap) wx → Calls Tryz.prog 40 #[.int .i64 j] wx fun e w' => ∃ u, e = .returned u ∧ Kd j u ∧ One w (.int .i64 o) (.int .i64 m) (.slice ad len cap) w') := fun j wx hx => (ofKind_any j wx).mono fun e w' ⟨u, a, b, c⟩ => ⟨u, a, b, hx.step c⟩
  have HH : Hid (∀ (j : Nat) (u : Value) (wx : World), Kd j u → j < 14 → One w (.int .i64 o) (.int .i64 m) (.slice ad len cap) wx → Calls Tryz.prog 39 #[.agg #[.int .i64 o, .int .i64 m, .slice ad len cap], u] wx fun e w' => e = .returned (.bool (evk n t j)) ∧ One w (.int .i64 o) (.int .i64 m) (.slice ad len cap) w') := fun j u wx hu hj hx => (holds_any n t _ _ _ u j wx (RepW.below hx.below n _ _ hr) hg hu (by omega) (by omega)).mono fun e w' ⟨a, b⟩ => ⟨a, hx.step b⟩
  have HS : Hid (∀ wx, One w (.int .i64 o) (.int .i64 m) (.slice ad len cap) wx → wx.cell? ⟨w.heap.size, 0, none⟩ = some (.int .i64 o) ∧ wx.cell? ⟨w.heap.size, 1, none⟩ = some (.int .i64 m) ∧ wx.cell? ⟨w.heap.size, 2, none⟩ = some (.slice ad len cap)) := fun wx h => h.c
  have hb0 := One.start w (.int .i64 o) (.int .i64 m) (.slice ad len cap)
  clear hr hg
  generalize evk n t = p at HH
  go_enter Tryz.func13, Tryz.ntmps13
  go_wp2_with fail
  go_loopw [3, 5] (fun sk si wr => ∃ (j : Nat), sk = .int .u32 ((kset p j : Nat) : Int) ∧ si = .int .i64 j ∧ j ≤ 14 ∧ One w (.int .i64 o) (.int .i64 m) (.slice ad len cap) wr) (fun _ si _ => 14 - (intOf si).toNat)
  case atStart => exact ⟨0, rfl, rfl, by omega, hb0⟩
  case round =>
    obtain ⟨j, rfl, rfl, hj, hb⟩ := hrel
    by_cases hlt : j < 14
    · have i0 : (0 : Int) ≤ ↑j := by omega
      have i1 : (↑j : Int) ≤ 32 := by omega
      have i2 : (↑j : Int) < 14 := by omega
      obtain ⟨c0, c1, c2⟩ := HS.out _ hb
      go_wp2_with fail
      go_region_held3 (fun w' => w'.cell? ⟨w.heap.size, 0, none⟩ = some (.int .i64 o) ∧ w'.cell? ⟨w.heap.size, 1, none⟩ = some (.int .i64 m) ∧ w'.cell? ⟨w.heap.size, 2, none⟩ = some (.slice ad len cap)) (exact HS.out _ (by first | assumption | exact One.drew (by assumption))) (first | (go_at_call 40; refine (HK.out j _ (by first | assumption | exact One.drew (by assumption))).mono ?_; rintro e wa ⟨ua, rfl, hu, ba⟩) | (go_at_call 39; refine (HH.out j _ _ (by assumption) hlt (by first | assumption | exact One.drew (by assumption))).mono ?_; rintro e wc ⟨he, bc⟩; obtain ⟨bb, hbb⟩ : ∃ bb : Bool, p j = bb := ⟨_, rfl⟩; rw [hbb] at he; subst he))
      all_goals cases bb
      all_goals go_wp2_with fail
      all_goals first
        | exact ⟨⟨j + 1, congrArg (Value.int .u32) (or_at p j hlt hbb), by go_num, by omega, by first | assumption | exact One.drew (by assumption)⟩, by simp [intOf]; omega⟩
        | exact ⟨⟨j + 1, congrArg (fun x : Nat => Value.int .u32 (x : Int)) (kset_no p j hbb), by go_num, by omega, by first | assumption | exact One.drew (by assumption)⟩, by simp [intOf]; omega⟩
    · obtain rfl : j = 14 := by omega
      have i2 : ¬ (((14 : Nat) : Int) < 14) := by omega
      go_wp2_with fail
      go_ret
      exact ⟨rfl, hb.below⟩

/-- What the two blocks of Holds keep. -/
def OneD (w : World) (v0 v1 v2 : Value) (k i b : Int) (s : ByteArray) (ad : Option Addr) (len cap : Nat) (w' : World) : Prop :=
  Below (w.heap.size + 2) ((w.alloc (.cells #[v0, v1, v2] 24)).alloc (.cells #[.int .i64 k, .int .i64 i, .int .u64 b, .string s, .slice ad len cap] 30)) w'
end Go.Proofs.YtokiaolgdkikiaaGreat
