/- The document's Match at a right pattern: whether it holds of the value's kind; the conditions: the pattern's tree lies in memory and is right, the value's kind is one. -/
import Derived.Test.YtkgbpildikjoiaaGreatDoorPub
import Derived.Test.YtkgbpildikjoiaaGreatDoorRk
namespace Go.Proofs.YtkgbpildikjoiaaGreatDoor
open Go.RowKit

/-- A kind's bit. -/
theorem shr_bit (p : Int → Bool) (j : Nat) (hj : j < 14) : bits .and .u32 (((kset p 14 : Nat) : Int) / 2 ^ j) 1 = if p j = true then 1 else 0 := by
  have e : (((kset p 14 : Nat) : Int) / 2 ^ j) = ((kset p 14 / 2 ^ j : Nat) : Int) := by norm_cast
  have hl := kset_lt p 14
  have hl2 : kset p 14 / 2 ^ j ≤ kset p 14 := Nat.div_le_self _ _
  rw [e, show (1 : Int) = ((1 : Nat) : Int) from rfl, u32_and_nat _ _ (by omega) (by decide), Nat.and_one_is_mod, kset_shr p j hj]
  split <;> rfl

set_option maxRecDepth 100000 in
set_option maxHeartbeats 2000000 in
theorem matchR (n : Nat) (t : Wt n) (v0 v1 v2 : Value) (j : Nat) (i b : Int) (s : ByteArray) (ad : Option Addr) (len cap : Nat) (w : World) (hr : RepW w n [v0, v1, v2] t) (hg : wgt n t = true) (hj : j < 14) :
    Calls Tryz.prog 33 #[.agg #[v0, v1, v2], .agg #[.int .i64 j, .int .i64 i, .int .u64 b, .string s, .slice ad len cap]] w fun e w' => e = .returned (.bool (evk n t j)) ∧ Below w.heap.size w w' := by
  obtain ⟨o, m, wd, wl, wc, rfl, rfl, rfl⟩ := repW_shape hr
  have HK : Hid (∀ (wx : World), OneD w (.int .i64 o) (.int .i64 m) (.slice wd wl wc) j i b s ad len cap wx → Calls Tryz.prog 42 #[.agg #[.int .i64 o, .int .i64 m, .slice wd wl wc]] wx fun e w' => e = .returned (.int .u32 ((kset (evk n t) 14 : Nat) : Int)) ∧ OneD w (.int .i64 o) (.int .i64 m) (.slice wd wl wc) j i b s ad len cap w') := fun wx hx => (refKinds_any n t _ _ _ wx (RepW.below hx.below n _ _ hr) hg).mono fun e w' ⟨a, b⟩ => ⟨a, hx.step b⟩
  have HS : Hid (∀ wx, OneD w (.int .i64 o) (.int .i64 m) (.slice wd wl wc) j i b s ad len cap wx → wx.cell? ⟨w.heap.size, 0, none⟩ = some (.int .i64 o) ∧ wx.cell? ⟨w.heap.size, 1, none⟩ = some (.int .i64 m) ∧ wx.cell? ⟨w.heap.size, 2, none⟩ = some (.slice wd wl wc) ∧ wx.cell? ⟨w.heap.size + 1, 0, none⟩ = some (.int .i64 j)) := fun wx h => h.c
  have hb0 := OneD.start w (.int .i64 o) (.int .i64 m) (.slice wd wl wc) j i b s ad len cap
  have hbit := shr_bit (evk n t) j hj
  have j0 : (0 : Int) ≤ (j : Int) := by omega
  have j1 : (j : Int) ≤ 32 := by omega
  clear hr hg
  generalize evk n t j = p at hbit
  generalize kset (evk n t) 14 = X at HK hbit
  cases p
  all_goals
    simp only [if_true, Bool.false_eq_true, if_false] at hbit
    go_enter Tryz.func33, Tryz.ntmps33
    go_wp2_with fail
    go_region_held3 (fun w' => w'.cell? ⟨w.heap.size, 0, none⟩ = some (.int .i64 o) ∧ w'.cell? ⟨w.heap.size, 1, none⟩ = some (.int .i64 m) ∧ w'.cell? ⟨w.heap.size, 2, none⟩ = some (.slice wd wl wc) ∧ w'.cell? ⟨w.heap.size + 1, 0, none⟩ = some (.int .i64 j)) (exact HS.out _ (by first | assumption | exact OneD.drew (by assumption))) (first | (go_at_call 42; refine (HK.out _ (by first | assumption | exact OneD.drew (by assumption))).mono ?_; rintro e wa ⟨rfl, ba⟩))
    all_goals go_wp2
    all_goals go_ret
    all_goals exact ⟨rfl, OneD.below (by first | assumption | exact OneD.drew (by assumption))⟩
end Go.Proofs.YtkgbpildikjoiaaGreatDoor
