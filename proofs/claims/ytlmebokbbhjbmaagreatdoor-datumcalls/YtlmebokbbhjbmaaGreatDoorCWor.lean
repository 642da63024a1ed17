/- The document's Words of a value, and the two Error methods of the package's values; the conditions: the number within 64 bits, the table of powers, the box in memory. -/
import Derived.Test.YtlmebokbbhjbmaaGreatDoorCLab
namespace Go.Proofs.YtlmebokbbhjbmaaGreatDoor.Dt
open Go.RowKit
/-- What Words answers. -/
def worP (k i : Int) (s : ByteArray) : ByteArray × Int := if k = 10 then (if s.size = 0 then (wnum errW i, 0) else (s, 0)) else if k = 11 then (wnum boxW i, 0) else if k = 12 then (⟨#[]⟩, 13) else (⟨#[]⟩, 12)
theorem beq_empty (s : ByteArray) : s.toList.isEmpty = decide (s.size = 0) := by
  rw [Bool.eq_iff_iff, List.isEmpty_iff, nil_size, decide_eq_true_eq]
theorem errBox (b : Nat) (i : Int) (hi : I64 i) (x : Value) (w : World) (h : w.heap[b]? = some (.cells #[.int .i64 i, x] 127 (0, 0))) (hT : P10 w) : Calls Tryz.prog 142 #[.pointer (some ⟨b, 0, none⟩)] w fun e w' => e = .returned (.string (wnum boxW i)) ∧ Below w.heap.size w w' := by
  have c0 : w.cell? ⟨b, 0, none⟩ = some (.int .i64 i) := by simp [World.cell?, h]
  have HF := Lib.hid (fmt_int i hi w hT)
  have hl := not_long i hi 4 (by decide)
  clear hT hi h
  go_enter Tryz.func142, Tryz.ntmps142
  go_wp2_with fail
  refine HF.out.mono ?_
  rintro e w1 ⟨rfl, b1⟩
  go_wp2
  go_ret
  exact ⟨rfl, b1⟩
set_option maxRecDepth 100000 in
set_option maxHeartbeats 1000000 in
theorem errFail (c : Int) (s : ByteArray) (hi : I64 c) (w : World) (hT : P10 w) : Calls Tryz.prog 140 #[.agg #[.int .i64 c, .string s]] w fun e w' => e = .returned (.string (if s.size = 0 then wnum errW c else s)) ∧ Below w.heap.size w w' := by
  have b0 := below1 w (.cells #[.int .i64 c, .string s] 109)
  have HF := Lib.hid (fmt_int c hi _ (hT.below b0))
  have hl := not_long c hi 6 (by decide)
  have hs := beq_empty s
  clear hT hi
  by_cases hz : s.size = 0
  · rw [if_pos hz]
    rw [decide_eq_true hz] at hs
    clear hz
    go_enter Tryz.func140, Tryz.ntmps140
    go_wp2_with fail
    refine HF.out.mono ?_
    rintro e w1 ⟨rfl, b1⟩
    go_wp2
    go_ret
    exact ⟨rfl, b0.trans (b1.mono b0.size)⟩
  · rw [if_neg hz]
    rw [decide_eq_false hz] at hs
    clear hz HF
    go_enter Tryz.func140, Tryz.ntmps140
    go_wp2
    go_ret
    exact ⟨rfl, b0⟩
set_option maxRecDepth 100000 in
set_option maxHeartbeats 1000000 in
theorem refWor (k i u : Int) (s0 : ByteArray) (ad : Option Addr) (len cap : Nat) (w : World) (hi : I64 i) (hT : P10 w) :
    Calls Tryz.prog 11 #[.agg #[.int .i64 k, .int .i64 i, .int .u64 u, .string s0, .slice ad len cap]] w fun e w' => e = .returned (.tuple #[.string (worP k i s0).1, .int .i64 (worP k i s0).2]) ∧ Below w.heap.size w w' := by
  have b0 := below1 w (.cells #[.int .i64 k, .int .i64 i, .int .u64 u, .string s0, .slice ad len cap] 25)
  have HD := Lib.hid (digits_any i hi _ (hT.below b0))
  have hR : ∀ A, worP k i s0 = A → (Calls Tryz.prog 11 #[.agg #[.int .i64 k, .int .i64 i, .int .u64 u, .string s0, .slice ad len cap]] w fun e w' => e = .returned (.tuple #[.string A.1, .int .i64 A.2]) ∧ Below w.heap.size w w') → (Calls Tryz.prog 11 #[.agg #[.int .i64 k, .int .i64 i, .int .u64 u, .string s0, .slice ad len cap]] w fun e w' => e = .returned (.tuple #[.string (worP k i s0).1, .int .i64 (worP k i s0).2]) ∧ Below w.heap.size w w') := fun A hA h => by rw [hA]; exact h
  have hl := not_long i hi 4 (by decide)
  have hl6 := not_long i hi 6 (by decide)
  have hs := beq_empty s0
  clear hT hi
  by_cases h10 : k = 10
  · subst h10
    by_cases hz : s0.size = 0
    · refine hR (wnum errW i, 0) (by simp [worP, hz]) ?_
      rw [decide_eq_true hz] at hs
      clear hR hz
      go_enter Tryz.func11, Tryz.ntmps11
      go_wp2_with fail
      refine HD.out.mono ?_
      rintro e w1 ⟨rfl, b1⟩
      go_wp2
      go_ret2
      exact ⟨rfl, b0.trans (b1.mono b0.size)⟩
    · refine hR (s0, 0) (by simp [worP, hz]) ?_
      rw [decide_eq_false hz] at hs
      clear hR hz HD
      go_enter Tryz.func11, Tryz.ntmps11
      go_wp2
      go_ret2
      exact ⟨rfl, b0⟩
  clear hs
  by_cases h11 : k = 11
  · subst h11
    refine hR (wnum boxW i, 0) (by simp [worP]) ?_
    clear hR
    go_enter Tryz.func11, Tryz.ntmps11
    go_wp2_with fail
    refine HD.out.mono ?_
    rintro e w1 ⟨rfl, b1⟩
    go_wp2
    go_ret2
    exact ⟨rfl, b0.trans (b1.mono b0.size)⟩
  by_cases h12 : k = 12
  · subst h12
    refine hR (⟨#[]⟩, 13) (by simp [worP]) ?_
    clear hR HD
    go_enter Tryz.func11, Tryz.ntmps11
    go_wp2
    go_ret2
    exact ⟨rfl, b0⟩
  · refine hR (⟨#[]⟩, 12) (by simp [worP, *]) ?_
    clear hR HD
    go_enter Tryz.func11, Tryz.ntmps11
    go_wp2
    go_ret2
    exact ⟨rfl, b0⟩
end Go.Proofs.YtlmebokbbhjbmaaGreatDoor.Dt
