/- The package's Label and the document's, of a value: one answer; the conditions: what the package's value is, the table of powers, the number within 64 bits. -/
import Derived.Test.YtlmebokbbhjbmaaGreatDoorShelf
import Derived.Test.YtlmebokbbhjbmaaGreatDoorDCount
import Derived.Lib.AppendIntMem
import Derived.Lib.ItoaLen
namespace Go.Proofs.YtlmebokbbhjbmaaGreatDoor.Dt
open Go.RowKit
def P10 (w : World) : Prop := Lib.TabIs Tryz.prog w "internal/strconv.uint64pow10" .u64 Lib.pow10Tab
theorem P10.below {w w' : World} (h : P10 w) (hb : Below w.heap.size w w') : P10 w' := ((Lib.tabBelow_of_tabIs h).on hb).here
def I64 (i : Int) : Prop := -9223372036854775808 ≤ i ∧ i ≤ 9223372036854775807
theorem fmt_int (i : Int) (h : I64 i) (w : World) (hT : P10 w) : Calls Tryz.prog 37 #[.int .i64 i, .int .i64 10] w fun e w' => e = .returned (.string ⟨(Lib.itoa i).toArray⟩) ∧ Below w.heap.size w w' := by
  refine (Tryz.strconv_FormatInt_10 i h.1 h.2 w hT).mono ?_
  rintro e w' ⟨he, k, os, rfl⟩
  exact ⟨he, Lib.below_grow _ w (Nat.le_refl _) k os⟩
theorem digits_any (i : Int) (h : I64 i) (w : World) (hT : P10 w) : Calls Tryz.prog 25 #[.int .i64 i] w fun e w' => e = .returned (.string ⟨(Lib.itoa i).toArray⟩) ∧ Below w.heap.size w w' := by
  have HF := Lib.hid (fmt_int i h w hT)
  clear hT h
  go_enter Tryz.func25, Tryz.ntmps25
  go_wp2_with fail
  refine HF.out.mono ?_
  rintro e w1 ⟨rfl, b1⟩
  go_wp2
  go_ret
  exact ⟨rfl, b1⟩
theorem not_long (i : Int) (h : I64 i) (k : Nat) (hk : k ≤ 1000) : ¬ 9223372036854775807 < k + (Lib.itoa i).length := by
  have := Lib.itoa_length_le i h.1 h.2
  omega
/-- A word and a number. -/
def wnum (s : ByteArray) (i : Int) : ByteArray := s ++ ⟨(Lib.itoa i).toArray⟩
def keyW : ByteArray := ⟨#[107, 101, 121, 32]⟩
def errW : ByteArray := ⟨#[101, 114, 114, 111, 114, 32]⟩
def boxW : ByteArray := ⟨#[98, 111, 120, 32]⟩
theorem nameKey (i : Int) (h : I64 i) (w : World) (hT : P10 w) : Calls Tryz.prog 124 #[.int .i64 i] w fun e w' => e = .returned (.string (wnum keyW i)) ∧ Below w.heap.size w w' := by
  have HF := Lib.hid (fmt_int i h w hT)
  have hl := not_long i h 4 (by decide)
  clear hT h
  go_enter Tryz.func124, Tryz.ntmps124
  go_wp2_with fail
  refine HF.out.mono ?_
  rintro e w1 ⟨rfl, b1⟩
  go_wp2
  go_ret
  exact ⟨rfl, b1⟩
theorem nameName (s : ByteArray) (w : World) : Calls Tryz.prog 134 #[.string s] w fun e w' => e = .returned (.string s) ∧ Below w.heap.size w w' := by
  go_enter Tryz.func134, Tryz.ntmps134
  go_wp2
  go_ret
  exact ⟨rfl, Below.refl _ _⟩
theorem nameFail (c : Int) (s : ByteArray) (w : World) : Calls Tryz.prog 141 #[.agg #[.int .i64 c, .string s]] w fun e w' => e = .returned (.string s) ∧ Below w.heap.size w w' := by
  go_enter Tryz.func141, Tryz.ntmps141
  go_wp2
  go_ret
  first | exact ⟨rfl, Below.refl _ _⟩ | exact ⟨rfl, below1 _ _⟩
/-- What Label answers. -/
def labP (k i : Int) (s : ByteArray) : ByteArray × Int := if k = 5 ∨ k = 10 then (s, 0) else if k = 2 then (wnum keyW i, 0) else (⟨#[]⟩, 12)
set_option maxRecDepth 100000 in
set_option maxHeartbeats 1000000 in
theorem refLab (k i u : Int) (s0 : ByteArray) (ad : Option Addr) (len cap : Nat) (w : World) (hi : I64 i) (hT : P10 w) :
    Calls Tryz.prog 9 #[.agg #[.int .i64 k, .int .i64 i, .int .u64 u, .string s0, .slice ad len cap]] w fun e w' => e = .returned (.tuple #[.string (labP k i s0).1, .int .i64 (labP k i s0).2]) ∧ Below w.heap.size w w' := by
  have b0 := below1 w (.cells #[.int .i64 k, .int .i64 i, .int .u64 u, .string s0, .slice ad len cap] 25)
  have HD := Lib.hid (digits_any i hi _ (hT.below b0))
  have hR : ∀ A, labP k i s0 = A → (Calls Tryz.prog 9 #[.agg #[.int .i64 k, .int .i64 i, .int .u64 u, .string s0, .slice ad len cap]] w fun e w' => e = .returned (.tuple #[.string A.1, .int .i64 A.2]) ∧ Below w.heap.size w w') → (Calls Tryz.prog 9 #[.agg #[.int .i64 k, .int .i64 i, .int .u64 u, .string s0, .slice ad len cap]] w fun e w' => e = .returned (.tuple #[.string (labP k i s0).1, .int .i64 (labP k i s0).2]) ∧ Below w.heap.size w w') := fun A hA h => by rw [hA]; exact h
  have hl := not_long i hi 4 (by decide)
  clear hT hi
  by_cases h5 : k = 5
  · subst h5
    refine hR (s0, 0) (by simp [labP]) ?_
    clear hR HD
    go_enter Tryz.func9, Tryz.ntmps9
    go_wp2
    go_ret2
    exact ⟨rfl, b0⟩
  by_cases h10 : k = 10
  · subst h10
    refine hR (s0, 0) (by simp [labP]) ?_
    clear hR HD
    go_enter Tryz.func9, Tryz.ntmps9
    go_wp2
    go_ret2
    exact ⟨rfl, b0⟩
  by_cases h2 : k = 2
  · subst h2
    refine hR (wnum keyW i, 0) (by simp [labP]) ?_
    clear hR
    go_enter Tryz.func9, Tryz.ntmps9
    go_wp2_with fail
    refine HD.out.mono ?_
    rintro e w1 ⟨rfl, b1⟩
    go_wp2
    go_ret2
    exact ⟨rfl, b0.trans (b1.mono b0.size)⟩
  · refine hR (⟨#[]⟩, 12) (by simp [labP, *]) ?_
    clear hR HD
    go_enter Tryz.func9, Tryz.ntmps9
    go_wp2
    go_ret2
    exact ⟨rfl, b0⟩
end Go.Proofs.YtlmebokbbhjbmaaGreatDoor.Dt
