/- The kinds that may come of a map of some kinds, of the package and of the document: the same; no condition but those that each theorem names. -/
import Derived.Test.YtajagjcfmaggiaaGreatDoorKCeb
namespace Go.Proofs.YtajagjcfmaggiaaGreatDoor
open Go.RowKit

/-- Is the bit set. -/
def cB (K : Int) (j : Nat) : Bool := bits .and .u32 (K / 2 ^ j) 1 == 1
/-- The kinds that come of the first ones. -/
def kin (op K : Int) : Nat → Nat
  | 0 => 0
  | j + 1 => if cB K j = true then kin op K j ||| kiP op j else kin op K j
theorem kiP_lt (op k : Int) (hk : 0 ≤ k ∧ k ≤ 13) : kiP op k < 16384 := by
  have h1 : 2 ^ k.toNat < 16384 := (Nat.pow_lt_pow_iff_right (by decide) (m := 14)).2 (by omega)
  have h2 : 2 ^ (kyK k).toNat < 16384 := (Nat.pow_lt_pow_iff_right (by decide) (m := 14)).2 (by have := kyK_in hk; omega)
  unfold kiP
  repeat' split
  all_goals omega
theorem kin_lt (op K : Int) : ∀ j : Nat, j ≤ 14 → kin op K j < 16384
  | 0, _ => by show 0 < 16384; decide
  | j + 1, h => by
    have h1 := kin_lt op K j (by omega)
    simp only [kin]
    split
    · exact Nat.or_lt_two_pow (n := 14) h1 (kiP_lt op j (by omega))
    · exact h1

set_option maxRecDepth 100000 in
set_option maxHeartbeats 2000000 in
theorem kinds17_any (op K : Int) (w : World) : Calls Tryz.prog 19 #[.int .i64 op, .int .u32 K] w fun e w' => e = .returned (.int .u32 ((kin op K 14 : Nat) : Int)) ∧ Below w.heap.size w w' := by
  have HM := Lib.hid (mappingOf_any op w)
  have hcf := kcall op
  have hfl : ∀ (v0 v1 : Value) (w : World), (Instr.field 65 (.agg #[v0, v1]) 1).run Tryz.prog w = .ok v1 w := fun _ _ _ => by kernel_rfl
  have HF := Lib.hid (kfn_any op)
  go_enter Tryz.func19, Tryz.ntmps19
  go_wp2_with fail
  refine HM.out.mono ?_
  rintro e w1 ⟨rfl, b1⟩
  clear HM
  go_wp2_with fail
  go_loopw [5, 11] (fun s5 s11 wr => ∃ (j : Nat), s11 = .int .i64 j ∧ s5 = .int .u32 ((kin op K j : Nat) : Int) ∧ j ≤ 14 ∧ Below w.heap.size w wr) (fun _ s11 _ => 14 - (intOf s11).toNat)
  case atStart => exact ⟨0, rfl, rfl, Nat.zero_le _, b1⟩
  case round =>
    obtain ⟨j, rfl, rfl, hj, hb⟩ := hrel
    by_cases hlt : j < 14
    · have hlt' : (j : Int) < 14 := by omega
      obtain ⟨X, hX⟩ : ∃ X, kin op K j = X := ⟨_, rfl⟩
      have hXl : X < 16384 := hX ▸ kin_lt op K j (by omega)
      have hk1 : kin op K (j + 1) = if cB K j = true then X ||| kiP op j else X := by rw [← hX]; rfl
      have HK1 := Lib.hid hk1
      rw [hX]
      clear hX hk1
      cases hc : cB K j with
      | false =>
        have hc' : (bits .and .u32 (K / 2 ^ j) 1 == 1) = false := hc
        rw [hc] at HK1
        clear hc
        go_wp2_with fail
        exact ⟨⟨j + 1, by go_num, by rw [HK1.out]; rfl, by omega, hb⟩, by simp [intOf]; omega⟩
      | true =>
        have hc' : (bits .and .u32 (K / 2 ^ j) 1 == 1) = true := hc
        rw [hc] at HK1
        clear hc
        have hor : bits .or .u32 (X : Int) ((kiP op j : Nat) : Int) = ((X ||| kiP op j : Nat) : Int) := u32_or_nat _ _ (by omega) (by have := kiP_lt op j (by omega); omega)
        go_wp2_with fail
        refine (HF.out j (by omega) _).mono ?_
        rintro e w2 ⟨rfl, b2⟩
        go_wp2_with fail
        exact ⟨⟨j + 1, by go_num, by rw [HK1.out]; rfl, by omega, hb.trans (b2.mono hb.size)⟩, by simp [intOf]; omega⟩
    · have hje : j = 14 := by omega
      subst hje
      go_wp2_with fail
      go_ret
      exact ⟨rfl, hb⟩

set_option maxRecDepth 100000 in
set_option maxHeartbeats 2000000 in
theorem rout_1 (k : Int) (hk : 0 ≤ k ∧ k ≤ 13) (w : World) : Calls Tryz.prog 37 #[.int .i64 1, .int .i64 k] w fun e w' => e = .returned (.int .u32 ((kiP 1 k : Nat) : Int)) ∧ Below w.heap.size w w' := by
  have HH := Lib.hid (refHas_any k 5 w)
  rcases kind_cases hk with rfl | rfl | rfl | rfl | rfl | rfl | rfl | rfl | rfl | rfl | rfl | rfl | rfl | rfl
  all_goals
    go_enter Tryz.func37, Tryz.ntmps37
    go_wp2_with fail
    refine HH.out.mono ?_
    rintro e w1 ⟨rfl, rfl⟩
    go_wp2
    go_ret
    exact ⟨rfl, Below.refl _ _⟩

set_option maxRecDepth 100000 in
set_option maxHeartbeats 2000000 in
theorem rout_2 (k : Int) (hk : 0 ≤ k ∧ k ≤ 13) (w : World) : Calls Tryz.prog 37 #[.int .i64 2, .int .i64 k] w fun e w' => e = .returned (.int .u32 ((kiP 2 k : Nat) : Int)) ∧ Below w.heap.size w w' := by
  rcases kind_cases hk with rfl | rfl | rfl | rfl | rfl | rfl | rfl | rfl | rfl | rfl | rfl | rfl | rfl | rfl
  all_goals
    go_enter Tryz.func37, Tryz.ntmps37
    go_wp2
    go_ret
    exact ⟨rfl, Below.refl _ _⟩

set_option maxRecDepth 100000 in
set_option maxHeartbeats 2000000 in
theorem rout_3 (k : Int) (hk : 0 ≤ k ∧ k ≤ 13) (w : World) : Calls Tryz.prog 37 #[.int .i64 3, .int .i64 k] w fun e w' => e = .returned (.int .u32 ((kiP 3 k : Nat) : Int)) ∧ Below w.heap.size w w' := by
  rcases kind_cases hk with rfl | rfl | rfl | rfl | rfl | rfl | rfl | rfl | rfl | rfl | rfl | rfl | rfl | rfl
  all_goals
    go_enter Tryz.func37, Tryz.ntmps37
    go_wp2
    go_ret
    exact ⟨rfl, Below.refl _ _⟩

set_option maxRecDepth 100000 in
set_option maxHeartbeats 2000000 in
theorem rout_4 (k : Int) (hk : 0 ≤ k ∧ k ≤ 13) (w : World) : Calls Tryz.prog 37 #[.int .i64 4, .int .i64 k] w fun e w' => e = .returned (.int .u32 ((kiP 4 k : Nat) : Int)) ∧ Below w.heap.size w w' := by
  have HH := Lib.hid (refHas_any k 0 w)
  rcases kind_cases hk with rfl | rfl | rfl | rfl | rfl | rfl | rfl | rfl | rfl | rfl | rfl | rfl | rfl | rfl
  all_goals
    go_enter Tryz.func37, Tryz.ntmps37
    go_wp2_with fail
    refine HH.out.mono ?_
    rintro e w1 ⟨rfl, rfl⟩
    go_wp2
    go_ret
    exact ⟨rfl, Below.refl _ _⟩

set_option maxRecDepth 100000 in
set_option maxHeartbeats 2000000 in
theorem rout_5 (k : Int) (hk : 0 ≤ k ∧ k ≤ 13) (w : World) : Calls Tryz.prog 37 #[.int .i64 5, .int .i64 k] w fun e w' => e = .returned (.int .u32 ((kiP 5 k : Nat) : Int)) ∧ Below w.heap.size w w' := by
  have HH := Lib.hid (refHas_any k 1 w)
  rcases kind_cases hk with rfl | rfl | rfl | rfl | rfl | rfl | rfl | rfl | rfl | rfl | rfl | rfl | rfl | rfl
  all_goals
    go_enter Tryz.func37, Tryz.ntmps37
    go_wp2_with fail
    refine HH.out.mono ?_
    rintro e w1 ⟨rfl, rfl⟩
    go_wp2
    go_ret
    exact ⟨rfl, Below.refl _ _⟩

set_option maxRecDepth 100000 in
set_option maxHeartbeats 2000000 in
theorem rout_6 (k : Int) (hk : 0 ≤ k ∧ k ≤ 13) (w : World) : Calls Tryz.prog 37 #[.int .i64 6, .int .i64 k] w fun e w' => e = .returned (.int .u32 ((kiP 6 k : Nat) : Int)) ∧ Below w.heap.size w w' := by
  rcases kind_cases hk with rfl | rfl | rfl | rfl | rfl | rfl | rfl | rfl | rfl | rfl | rfl | rfl | rfl | rfl
  all_goals
    go_enter Tryz.func37, Tryz.ntmps37
    go_wp2
    go_ret
    exact ⟨rfl, Below.refl _ _⟩

set_option maxRecDepth 100000 in
set_option maxHeartbeats 2000000 in
theorem rout_7 (k : Int) (hk : 0 ≤ k ∧ k ≤ 13) (w : World) : Calls Tryz.prog 37 #[.int .i64 7, .int .i64 k] w fun e w' => e = .returned (.int .u32 ((kiP 7 k : Nat) : Int)) ∧ Below w.heap.size w w' := by
  rcases kind_cases hk with rfl | rfl | rfl | rfl | rfl | rfl | rfl | rfl | rfl | rfl | rfl | rfl | rfl | rfl
  all_goals
    go_enter Tryz.func37, Tryz.ntmps37
    go_wp2
    go_ret
    exact ⟨rfl, Below.refl _ _⟩

set_option maxRecDepth 100000 in
set_option maxHeartbeats 2000000 in
theorem rout_8 (k : Int) (hk : 0 ≤ k ∧ k ≤ 13) (w : World) : Calls Tryz.prog 37 #[.int .i64 8, .int .i64 k] w fun e w' => e = .returned (.int .u32 ((kiP 8 k : Nat) : Int)) ∧ Below w.heap.size w w' := by
  rcases kind_cases hk with rfl | rfl | rfl | rfl | rfl | rfl | rfl | rfl | rfl | rfl | rfl | rfl | rfl | rfl
  all_goals
    go_enter Tryz.func37, Tryz.ntmps37
    go_wp2
    go_ret
    exact ⟨rfl, Below.refl _ _⟩

set_option maxRecDepth 100000 in
set_option maxHeartbeats 2000000 in
theorem rout_0 (op k : Int) (hk : 0 ≤ k ∧ k ≤ 13) (w : World) (h1 : (op == 1) = false) (h2 : (op == 2) = false) (h3 : (op == 3) = false) (h4 : (op == 4) = false) (h5 : (op == 5) = false) (h6 : (op == 6) = false) (h7 : (op == 7) = false) (h8 : (op == 8) = false) : Calls Tryz.prog 37 #[.int .i64 op, .int .i64 k] w fun e w' => e = .returned (.int .u32 0) ∧ Below w.heap.size w w' := by
  rcases kind_cases hk with rfl | rfl | rfl | rfl | rfl | rfl | rfl | rfl | rfl | rfl | rfl | rfl | rfl | rfl
  all_goals
    go_enter Tryz.func37, Tryz.ntmps37
    go_wp2
    go_ret
    exact ⟨rfl, Below.refl _ _⟩
theorem rout_any (op k : Int) (hk : 0 ≤ k ∧ k ≤ 13) (w : World) : Calls Tryz.prog 37 #[.int .i64 op, .int .i64 k] w fun e w' => e = .returned (.int .u32 ((kiP op k : Nat) : Int)) ∧ Below w.heap.size w w' := by
  by_cases o1 : op = 1
  · subst o1
    exact rout_1 k hk w
  by_cases o2 : op = 2
  · subst o2
    exact rout_2 k hk w
  by_cases o3 : op = 3
  · subst o3
    exact rout_3 k hk w
  by_cases o4 : op = 4
  · subst o4
    exact rout_4 k hk w
  by_cases o5 : op = 5
  · subst o5
    exact rout_5 k hk w
  by_cases o6 : op = 6
  · subst o6
    exact rout_6 k hk w
  by_cases o7 : op = 7
  · subst o7
    exact rout_7 k hk w
  by_cases o8 : op = 8
  · subst o8
    exact rout_8 k hk w
  have e : kiP op k = 0 := by simp [kiP, o1, o2, o3, o4, o5, o6, o7, o8]
  rw [e]
  exact rout_0 op k hk w (by simpa using o1) (by simpa using o2) (by simpa using o3) (by simpa using o4) (by simpa using o5) (by simpa using o6) (by simpa using o7) (by simpa using o8)

set_option maxRecDepth 100000 in
set_option maxHeartbeats 2000000 in
theorem rkinds17_any (op K : Int) (w : World) : Calls Tryz.prog 20 #[.int .i64 op, .int .u32 K] w fun e w' => e = .returned (.int .u32 ((kin op K 14 : Nat) : Int)) ∧ Below w.heap.size w w' := by
  have HF := Lib.hid (rout_any op)
  go_enter Tryz.func20, Tryz.ntmps20
  go_wp2_with fail
  go_loopw [5, 6] (fun s5 s11 wr => ∃ (j : Nat), s11 = .int .i64 j ∧ s5 = .int .u32 ((kin op K j : Nat) : Int) ∧ j ≤ 14 ∧ Below w.heap.size w wr) (fun _ s11 _ => 14 - (intOf s11).toNat)
  case atStart => exact ⟨0, rfl, rfl, Nat.zero_le _, Below.refl _ _⟩
  case round =>
    obtain ⟨j, rfl, rfl, hj, hb⟩ := hrel
    by_cases hlt : j < 14
    · have hlt' : (j : Int) < 14 := by omega
      obtain ⟨X, hX⟩ : ∃ X, kin op K j = X := ⟨_, rfl⟩
      have hXl : X < 16384 := hX ▸ kin_lt op K j (by omega)
      have hk1 : kin op K (j + 1) = if cB K j = true then X ||| kiP op j else X := by rw [← hX]; rfl
      have HK1 := Lib.hid hk1
      rw [hX]
      clear hX hk1
      cases hc : cB K j with
      | false =>
        have hc' : (bits .and .u32 (K / 2 ^ j) 1 == 1) = false := hc
        rw [hc] at HK1
        clear hc
        go_wp2_with fail
        exact ⟨⟨j + 1, by go_num, by rw [HK1.out]; rfl, by omega, hb⟩, by simp [intOf]; omega⟩
      | true =>
        have hc' : (bits .and .u32 (K / 2 ^ j) 1 == 1) = true := hc
        rw [hc] at HK1
        clear hc
        have hor : bits .or .u32 (X : Int) ((kiP op j : Nat) : Int) = ((X ||| kiP op j : Nat) : Int) := u32_or_nat _ _ (by omega) (by have := kiP_lt op j (by omega); omega)
        go_wp2_with fail
        refine (HF.out j (by omega) _).mono ?_
        rintro e w2 ⟨rfl, b2⟩
        go_wp2_with fail
        exact ⟨⟨j + 1, by go_num, by rw [HK1.out]; rfl, by omega, hb.trans (b2.mono hb.size)⟩, by simp [intOf]; omega⟩
    · have hje : j = 14 := by omega
      subst hje
      go_wp2_with fail
      go_ret
      exact ⟨rfl, hb⟩

end Go.Proofs.YtajagjcfmaggiaaGreatDoor
