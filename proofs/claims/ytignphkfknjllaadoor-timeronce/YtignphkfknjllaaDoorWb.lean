/- Bits, and where a tick lies; the conditions: the wheel's time in memory, ticks within their bounds. -/
import Derived.Test.YtignphkfknjllaaDoorWa
namespace Go.Proofs.YtignphkfknjllaaDoor
open Go.RowKit

theorem xor_i64 (a b : Nat) (ha : a < 9223372036854775808) (hb : b < 9223372036854775808) :
    bits .xor .i64 (a : Int) (b : Int) = ((a ^^^ b : Nat) : Int) := by
  have hx : a ^^^ b < 2 ^ 63 := Nat.xor_lt_two_pow (by omega) (by omega)
  have h1 : (BitVec.ofInt 64 (a : Int)).toNat = a := by
    rw [BitVec.ofInt_natCast, BitVec.toNat_ofNat]; exact Nat.mod_eq_of_lt (by omega)
  have h2 : (BitVec.ofInt 64 (b : Int)).toNat = b := by
    rw [BitVec.ofInt_natCast, BitVec.toNat_ofNat]; exact Nat.mod_eq_of_lt (by omega)
  show IntKind.i64.wrap ((BitVec.ofInt 64 (a : Int) ^^^ BitVec.ofInt 64 (b : Int)).toNat : Int) = _
  rw [BitVec.toNat_xor, h1, h2, IntKind.wrap_i64]
  omega
theorem or_i64 (a b : Nat) (ha : a < 9223372036854775808) (hb : b < 9223372036854775808) :
    bits .or .i64 (a : Int) (b : Int) = ((a ||| b : Nat) : Int) := by
  have hx : a ||| b < 2 ^ 63 := Nat.or_lt_two_pow (by omega) (by omega)
  have h1 : (BitVec.ofInt 64 (a : Int)).toNat = a := by
    rw [BitVec.ofInt_natCast, BitVec.toNat_ofNat]; exact Nat.mod_eq_of_lt (by omega)
  have h2 : (BitVec.ofInt 64 (b : Int)).toNat = b := by
    rw [BitVec.ofInt_natCast, BitVec.toNat_ofNat]; exact Nat.mod_eq_of_lt (by omega)
  show IntKind.i64.wrap ((BitVec.ofInt 64 (a : Int) ||| BitVec.ofInt 64 (b : Int)).toNat : Int) = _
  rw [BitVec.toNat_or, h1, h2, IntKind.wrap_i64]
  omega

theorem below_drewN {w w' : World} {n : Nat} (h : Below n w w') : ∀ k, Below n w (w'.drewN k)
  | 0 => h
  | k + 1 => by
    have := below_drewN h k
    exact ⟨this.os, this.tape, this.output, this.size, this.block⟩
theorem bitLen_log : ∀ (f x : Nat), x < 2 ^ f → x ≠ 0 → Lib.bitLenAux f x = x.log2 + 1
  | 0, x, h, h0 => by simp at h; omega
  | f + 1, x, h, h0 => by
    rw [Lib.bitLenAux, if_neg h0]
    by_cases h2 : x / 2 = 0
    · have hz : ∀ f, Lib.bitLenAux f 0 = 0 := fun f => by cases f <;> simp [Lib.bitLenAux]
      obtain rfl : x = 1 := by omega
      rw [h2, hz]; rfl
    · rw [bitLen_log f (x / 2) (by rw [Nat.pow_succ] at h; omega) h2]
      have : x.log2 = (x / 2).log2 + 1 := by rw [Nat.log2_def x, if_pos (by omega)]
      omega

set_option maxRecDepth 100000 in
set_option maxHeartbeats 1000000 in
theorem place_any (b n a : Nat) (w : World) (hn : n ≤ 1099511627776) (ha : a ≤ 1099511627776) (c0 : w.cell? ⟨b, 0, none⟩ = some (.int .i64 n)) (hb : b < w.heap.size) :
    Calls Tryd.prog 40 #[.pointer (some ⟨b, 0, none⟩), .int .i64 a] w fun e w' => e = .returned (.agg #[.int .i64 (lev n a), .int .i64 (slo n a)]) ∧ Below w.heap.size w w' := by
  have X := Lib.hid (xor_i64 a n (by omega) (by omega))
  have hx : a ^^^ n < 2 ^ 41 := Nat.xor_lt_two_pow (by omega) (by omega)
  have ho : (a ^^^ n) ||| 1 < 2 ^ 41 := Nat.or_lt_two_pow hx (by omega)
  have h0 : (a ^^^ n) ||| 1 ≠ 0 := by
    have := Nat.right_le_or (n := a ^^^ n) (m := 1)
    omega
  have W : Hid (IntKind.u64.wrap ((a ^^^ n : Nat) : Int) = ((a ^^^ n : Nat) : Int)) := Lib.hid (by rw [IntKind.wrap_u64]; omega)
  have O : Hid (bits .or .u64 ((a ^^^ n : Nat) : Int) 1 = (((a ^^^ n) ||| 1 : Nat) : Int)) := Lib.hid (bits_or_u64_nat (a ^^^ n) 1 (by omega) (by omega))
  have hl : ((a ^^^ n) ||| 1).log2 < 41 := (Nat.log2_lt h0).2 ho
  have HL : Hid (Lib.bitLen ((((a ^^^ n) ||| 1 : Nat) : Int)).toNat = ((a ^^^ n) ||| 1).log2 + 1) := Lib.hid (by unfold Lib.bitLen; rw [Int.toNat_natCast]; exact bitLen_log 64 _ (by omega) h0)
  have HC := Lib.hid (fun w => Tryd.bits_Len64 (((a ^^^ n) ||| 1 : Nat) : Int) w (by omega) (by omega))
  have HS : Hid (lev n a = ((a ^^^ n) ||| 1).log2 / 6) := Lib.hid rfl
  generalize (a ^^^ n) ||| 1 = x at *
  clear hx ho h0
  go_enter Tryd.func40, Tryd.ntmps40
  go_wp2_with fail
  rw [X.out, W.out, O.out]
  refine (HC.out _).mono ?_
  rintro e w1 ⟨rfl, rfl⟩
  rw [HL.out]
  clear X W O HL HC
  generalize x.log2 = y at *
  go_wp2
  have e1 : ((y : Int) / 6) = ((lev n a : Nat) : Int) := by rw [HS.out]; omega
  have e2 : ((a : Int) / 2 ^ (y / 6 * 6)).tmod 64 = ((slo n a : Nat) : Int) := by
    unfold slo
    rw [HS.out, pow64, show y / 6 * 6 = 6 * (y / 6) by omega]
    generalize 6 * (y / 6) = k
    rw [show ((a : Int) / 2 ^ k) = ((a / 2 ^ k : Nat) : Int) by simp, Int.tmod_eq_emod_of_nonneg (Int.natCast_nonneg _)]
    generalize a / 2 ^ k = z
    omega
  rw [e1, e2]
  exact bodyPost_ret (v := .agg #[.int .i64 (lev n a), .int .i64 (slo n a)]) (by simp [results, Tryd.results40, go_sem]) rfl ⟨rfl, below1 w _⟩

set_option maxRecDepth 100000 in
set_option maxHeartbeats 1000000 in
theorem slotAt_any (b l s : Nat) (w : World) (hl : l < 7) (hs : s < 64) :
    Calls Tryd.prog 28 #[.pointer (some ⟨b, 0, none⟩), .agg #[.int .i64 l, .int .i64 s]] w fun e w' => e = .returned (.pointer (some ⟨b, 2 + 4 * (l * 64 + s), none⟩)) ∧ Below w.heap.size w w' := by
  have l0 : (0 : Int) ≤ (l : Int) := by omega
  have l1 : (l : Int) < 7 := by omega
  have s0 : (0 : Int) ≤ (s : Int) := by omega
  have s1 : (s : Int) < 64 := by omega
  go_enter Tryd.func28, Tryd.ntmps28
  go_wp2
  go_quiet (fail)
  go_wp2
  go_ret
  refine ⟨?_, below_drewN (below1 w _) _⟩
  show Ending.returned (Value.pointer (some { block := b, off := 2 + l * 256 + s * 4 })) = _
  rw [show 2 + l * 256 + s * 4 = 2 + 4 * (l * 64 + s) by omega]
theorem beg_or (n l s : Nat) (hl : l < 7) (hs : s < 64) (hn : n ≤ 1099511627776) :
    bits .or .i64 (wrap64 ((n : Int) / 2 ^ (l * 6 + 6) * 2 ^ (l * 6 + 6))) (wrap64 ((s : Int) * 2 ^ (l * 6))) = ((beg n l s : Nat) : Int) := by
  have e1 : ((n : Int) / 2 ^ (l * 6 + 6) * 2 ^ (l * 6 + 6)) = ((2 ^ (l * 6 + 6) * (n / 2 ^ (l * 6 + 6)) : Nat) : Int) := by rw [Int.natCast_mul, Int.mul_comm]; simp
  have e2 : ((s : Int) * 2 ^ (l * 6)) = ((s * 2 ^ (l * 6) : Nat) : Int) := by rw [Int.natCast_mul]; simp
  have h1 : 2 ^ (l * 6 + 6) * (n / 2 ^ (l * 6 + 6)) ≤ n := Nat.mul_div_le n _
  have hp : 2 ^ (l * 6) ≤ 2 ^ 36 := Nat.pow_le_pow_right (by decide) (by omega)
  have h2 : s * 2 ^ (l * 6) ≤ 63 * 2 ^ 36 := Nat.mul_le_mul (by omega) hp
  have h3 : s * 2 ^ (l * 6) < 2 ^ (l * 6 + 6) := by
    rw [Nat.pow_add, Nat.mul_comm]
    exact Nat.mul_lt_mul_of_pos_left (by omega) (Nat.two_pow_pos _)
  rw [e1, e2, IntWalk.wrap64_in _ (by omega), IntWalk.wrap64_in _ (by omega), or_i64 _ _ (by omega) (by omega), ← Nat.two_pow_add_eq_or_of_lt h3]
  unfold beg
  rw [pow64, pow64, show 6 * (l + 1) = l * 6 + 6 by omega, show 6 * l = l * 6 by omega, Nat.mul_comm (2 ^ (l * 6 + 6))]
set_option maxRecDepth 100000 in
set_option maxHeartbeats 1000000 in
theorem begin_any (b n l s : Nat) (w : World) (hl : l < 7) (hs : s < 64) (hn : n ≤ 1099511627776) (c0 : w.cell? ⟨b, 0, none⟩ = some (.int .i64 n)) (hb : b < w.heap.size) :
    Calls Tryd.prog 36 #[.pointer (some ⟨b, 0, none⟩), .agg #[.int .i64 l, .int .i64 s]] w fun e w' => e = .returned (.int .i64 (beg n l s)) ∧ Below w.heap.size w w' := by
  have l0 : (0 : Int) ≤ (l : Int) := by omega
  have l1 : (l : Int) < 7 := by omega
  have s0 : (0 : Int) ≤ (s : Int) := by omega
  have s1 : (s : Int) < 64 := by omega
  go_enter Tryd.func36, Tryd.ntmps36
  go_wp2
  go_quiet (fail)
  go_wp2
  go_ret
  refine ⟨?_, below_drewN (below1 w _) _⟩
  show Ending.returned (Value.int .i64 (bits .or .i64 (wrap64 ((n : Int) / 2 ^ (l * 6 + 6) * 2 ^ (l * 6 + 6))) (wrap64 ((s : Int) * 2 ^ (l * 6))))) = _
  rw [beg_or n l s hl hs hn]
end Go.Proofs.YtignphkfknjllaaDoor
