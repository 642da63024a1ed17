/- The cores' words, by the package and by the document; what is asked of the world: the table of words as its text lays it. -/
import Derived.Test.YtgijdiplhcoojaaGreatDoorJab
namespace Go.Proofs.YtgijdiplhcoojaaGreatDoor
open Go.RowKit

/-- The words, by their bytes. -/
def cwd : List (List UInt8) := [[], [101, 99, 104, 111], [99, 111, 117, 110, 116], [115, 116, 111, 114, 101], [115, 117, 109], [115, 105, 122, 101], [117, 110, 98, 111, 120], [102, 97, 105, 108], [112, 97, 110, 105, 99], [110, 116, 104], [110, 111, 110, 101], [109, 117, 116, 101], [108, 101, 115, 115]]
/-- The table of words, as its text lays it. -/
def Wc (W : World) : Prop := 0 < W.heap.size ∧ ∀ (j : Nat) x, cwd[j]? = some x → W.cell? ⟨0, j, none⟩ = some (.string ⟨x.toArray⟩)
theorem Wc.below {w w' : World} (h : Wc w) (hb : Below w.heap.size w w') : Wc w' := ⟨Nat.lt_of_lt_of_le h.1 hb.size, fun j x hx => (hb.cell (p := ⟨0, j, none⟩) h.1).trans (h.2 j x hx)⟩

set_option maxRecDepth 100000 in
theorem word_out (op : Int) (h : op < 0 ∨ 13 ≤ op) (w : World) : Calls Tryz.prog 15 #[.int .i64 op] w fun e w' => e = .returned (.string ⟨#[]⟩) ∧ Below w.heap.size w w' := by
  by_cases h0 : op < 0
  · have h0' : decide (op < 0) = true := by simp [h0]
    go_enter Tryz.func15, Tryz.ntmps15
    go_wp2
    all_goals (go_ret; exact ⟨rfl, Below.refl _ _⟩)
  · have h0' : decide (op < 0) = false := by simp [h0]
    have h1 : 13 ≤ op := by omega
    have h1' : decide (13 ≤ op) = true := by simp [h1]
    clear h
    go_enter Tryz.func15, Tryz.ntmps15
    go_wp2
    all_goals (go_ret; exact ⟨rfl, Below.refl _ _⟩)

set_option maxRecDepth 100000 in
theorem word_0 (w : World) (hw : Wc w) : Calls Tryz.prog 15 #[.int .i64 0] w fun e w' => e = .returned (.string ⟨#[]⟩) ∧ Below w.heap.size w w' := by
  have c : w.cell? ⟨0, 0, none⟩ = some (.string ⟨#[]⟩) := hw.2 0 _ rfl
  go_enter Tryz.func15, Tryz.ntmps15
  go_wp2
  all_goals (go_ret; exact ⟨rfl, Below.refl _ _⟩)

set_option maxRecDepth 100000 in
theorem word_1 (w : World) (hw : Wc w) : Calls Tryz.prog 15 #[.int .i64 1] w fun e w' => e = .returned (.string ⟨#[101, 99, 104, 111]⟩) ∧ Below w.heap.size w w' := by
  have c : w.cell? ⟨0, 1, none⟩ = some (.string ⟨#[101, 99, 104, 111]⟩) := hw.2 1 _ rfl
  go_enter Tryz.func15, Tryz.ntmps15
  go_wp2
  all_goals (go_ret; exact ⟨rfl, Below.refl _ _⟩)

set_option maxRecDepth 100000 in
theorem word_2 (w : World) (hw : Wc w) : Calls Tryz.prog 15 #[.int .i64 2] w fun e w' => e = .returned (.string ⟨#[99, 111, 117, 110, 116]⟩) ∧ Below w.heap.size w w' := by
  have c : w.cell? ⟨0, 2, none⟩ = some (.string ⟨#[99, 111, 117, 110, 116]⟩) := hw.2 2 _ rfl
  go_enter Tryz.func15, Tryz.ntmps15
  go_wp2
  all_goals (go_ret; exact ⟨rfl, Below.refl _ _⟩)

set_option maxRecDepth 100000 in
theorem word_3 (w : World) (hw : Wc w) : Calls Tryz.prog 15 #[.int .i64 3] w fun e w' => e = .returned (.string ⟨#[115, 116, 111, 114, 101]⟩) ∧ Below w.heap.size w w' := by
  have c : w.cell? ⟨0, 3, none⟩ = some (.string ⟨#[115, 116, 111, 114, 101]⟩) := hw.2 3 _ rfl
  go_enter Tryz.func15, Tryz.ntmps15
  go_wp2
  all_goals (go_ret; exact ⟨rfl, Below.refl _ _⟩)

set_option maxRecDepth 100000 in
theorem word_4 (w : World) (hw : Wc w) : Calls Tryz.prog 15 #[.int .i64 4] w fun e w' => e = .returned (.string ⟨#[115, 117, 109]⟩) ∧ Below w.heap.size w w' := by
  have c : w.cell? ⟨0, 4, none⟩ = some (.string ⟨#[115, 117, 109]⟩) := hw.2 4 _ rfl
  go_enter Tryz.func15, Tryz.ntmps15
  go_wp2
  all_goals (go_ret; exact ⟨rfl, Below.refl _ _⟩)

set_option maxRecDepth 100000 in
theorem word_5 (w : World) (hw : Wc w) : Calls Tryz.prog 15 #[.int .i64 5] w fun e w' => e = .returned (.string ⟨#[115, 105, 122, 101]⟩) ∧ Below w.heap.size w w' := by
  have c : w.cell? ⟨0, 5, none⟩ = some (.string ⟨#[115, 105, 122, 101]⟩) := hw.2 5 _ rfl
  go_enter Tryz.func15, Tryz.ntmps15
  go_wp2
  all_goals (go_ret; exact ⟨rfl, Below.refl _ _⟩)

set_option maxRecDepth 100000 in
theorem word_6 (w : World) (hw : Wc w) : Calls Tryz.prog 15 #[.int .i64 6] w fun e w' => e = .returned (.string ⟨#[117, 110, 98, 111, 120]⟩) ∧ Below w.heap.size w w' := by
  have c : w.cell? ⟨0, 6, none⟩ = some (.string ⟨#[117, 110, 98, 111, 120]⟩) := hw.2 6 _ rfl
  go_enter Tryz.func15, Tryz.ntmps15
  go_wp2
  all_goals (go_ret; exact ⟨rfl, Below.refl _ _⟩)

set_option maxRecDepth 100000 in
theorem word_7 (w : World) (hw : Wc w) : Calls Tryz.prog 15 #[.int .i64 7] w fun e w' => e = .returned (.string ⟨#[102, 97, 105, 108]⟩) ∧ Below w.heap.size w w' := by
  have c : w.cell? ⟨0, 7, none⟩ = some (.string ⟨#[102, 97, 105, 108]⟩) := hw.2 7 _ rfl
  go_enter Tryz.func15, Tryz.ntmps15
  go_wp2
  all_goals (go_ret; exact ⟨rfl, Below.refl _ _⟩)

set_option maxRecDepth 100000 in
theorem word_8 (w : World) (hw : Wc w) : Calls Tryz.prog 15 #[.int .i64 8] w fun e w' => e = .returned (.string ⟨#[112, 97, 110, 105, 99]⟩) ∧ Below w.heap.size w w' := by
  have c : w.cell? ⟨0, 8, none⟩ = some (.string ⟨#[112, 97, 110, 105, 99]⟩) := hw.2 8 _ rfl
  go_enter Tryz.func15, Tryz.ntmps15
  go_wp2
  all_goals (go_ret; exact ⟨rfl, Below.refl _ _⟩)

set_option maxRecDepth 100000 in
theorem word_9 (w : World) (hw : Wc w) : Calls Tryz.prog 15 #[.int .i64 9] w fun e w' => e = .returned (.string ⟨#[110, 116, 104]⟩) ∧ Below w.heap.size w w' := by
  have c : w.cell? ⟨0, 9, none⟩ = some (.string ⟨#[110, 116, 104]⟩) := hw.2 9 _ rfl
  go_enter Tryz.func15, Tryz.ntmps15
  go_wp2
  all_goals (go_ret; exact ⟨rfl, Below.refl _ _⟩)

set_option maxRecDepth 100000 in
theorem word_10 (w : World) (hw : Wc w) : Calls Tryz.prog 15 #[.int .i64 10] w fun e w' => e = .returned (.string ⟨#[110, 111, 110, 101]⟩) ∧ Below w.heap.size w w' := by
  have c : w.cell? ⟨0, 10, none⟩ = some (.string ⟨#[110, 111, 110, 101]⟩) := hw.2 10 _ rfl
  go_enter Tryz.func15, Tryz.ntmps15
  go_wp2
  all_goals (go_ret; exact ⟨rfl, Below.refl _ _⟩)

set_option maxRecDepth 100000 in
theorem word_11 (w : World) (hw : Wc w) : Calls Tryz.prog 15 #[.int .i64 11] w fun e w' => e = .returned (.string ⟨#[109, 117, 116, 101]⟩) ∧ Below w.heap.size w w' := by
  have c : w.cell? ⟨0, 11, none⟩ = some (.string ⟨#[109, 117, 116, 101]⟩) := hw.2 11 _ rfl
  go_enter Tryz.func15, Tryz.ntmps15
  go_wp2
  all_goals (go_ret; exact ⟨rfl, Below.refl _ _⟩)

set_option maxRecDepth 100000 in
theorem word_12 (w : World) (hw : Wc w) : Calls Tryz.prog 15 #[.int .i64 12] w fun e w' => e = .returned (.string ⟨#[108, 101, 115, 115]⟩) ∧ Below w.heap.size w w' := by
  have c : w.cell? ⟨0, 12, none⟩ = some (.string ⟨#[108, 101, 115, 115]⟩) := hw.2 12 _ rfl
  go_enter Tryz.func15, Tryz.ntmps15
  go_wp2
  all_goals (go_ret; exact ⟨rfl, Below.refl _ _⟩)

/-- The document's list. -/
abbrev cwv : Array Value := #[.string ⟨#[]⟩, .string ⟨#[101, 99, 104, 111]⟩, .string ⟨#[99, 111, 117, 110, 116]⟩, .string ⟨#[115, 116, 111, 114, 101]⟩, .string ⟨#[115, 117, 109]⟩, .string ⟨#[115, 105, 122, 101]⟩, .string ⟨#[117, 110, 98, 111, 120]⟩, .string ⟨#[102, 97, 105, 108]⟩, .string ⟨#[112, 97, 110, 105, 99]⟩, .string ⟨#[110, 116, 104]⟩, .string ⟨#[110, 111, 110, 101]⟩, .string ⟨#[109, 117, 116, 101]⟩, .string ⟨#[108, 101, 115, 115]⟩]
set_option maxRecDepth 100000 in
theorem cores_any (w : World) : Calls Tryz.prog 32 #[] w fun e w' => e = .returned (.slice (some ⟨w.heap.size, 0, none⟩) 13 13) ∧ Bk w' w.heap.size cwv 9 ∧ Below w.heap.size w w' := by
  go_enter Tryz.func32, Tryz.ntmps32
  go_wp2
  go_ret
  exact ⟨rfl, Bk.new _ _ _, below1 w _⟩

set_option maxRecDepth 100000 in
set_option maxHeartbeats 1000000 in
theorem rword_out (op : Int) (h : op < 1 ∨ 13 ≤ op) (w : World) : Calls Tryz.prog 16 #[.int .i64 op] w fun e w' => e = .returned (.string ⟨#[]⟩) ∧ Below w.heap.size w w' := by
  have H := Lib.hid cores_any
  by_cases h0 : op < 1
  · have h0' : decide (op < 1) = true := by simp [h0]
    go_enter Tryz.func16, Tryz.ntmps16
    go_wp2_with fail
    refine (H.out _).mono ?_
    rintro e w1 ⟨rfl, -, b1⟩
    go_wp2
    all_goals (go_ret; exact ⟨rfl, b1⟩)
  · have h0' : decide (op < 1) = false := by simp [h0]
    have h1 : 13 ≤ op := by omega
    have h1' : decide (13 ≤ op) = true := by simp [h1]
    clear h
    go_enter Tryz.func16, Tryz.ntmps16
    go_wp2_with fail
    refine (H.out _).mono ?_
    rintro e w1 ⟨rfl, -, b1⟩
    go_wp2
    all_goals (go_ret; exact ⟨rfl, b1⟩)

set_option maxRecDepth 100000 in
theorem rword_1 (w : World) : Calls Tryz.prog 16 #[.int .i64 1] w fun e w' => e = .returned (.string ⟨#[101, 99, 104, 111]⟩) ∧ Below w.heap.size w w' := by
  have H := Lib.hid cores_any
  go_enter Tryz.func16, Tryz.ntmps16
  go_wp2_with fail
  refine (H.out _).mono ?_
  rintro e w1 ⟨rfl, k1, b1⟩
  have c : w1.cell? ⟨w.heap.size, 1, none⟩ = some (.string ⟨#[101, 99, 104, 111]⟩) := k1.c 1
  clear k1
  go_wp2
  all_goals (go_ret; exact ⟨rfl, b1⟩)

set_option maxRecDepth 100000 in
theorem rword_2 (w : World) : Calls Tryz.prog 16 #[.int .i64 2] w fun e w' => e = .returned (.string ⟨#[99, 111, 117, 110, 116]⟩) ∧ Below w.heap.size w w' := by
  have H := Lib.hid cores_any
  go_enter Tryz.func16, Tryz.ntmps16
  go_wp2_with fail
  refine (H.out _).mono ?_
  rintro e w1 ⟨rfl, k1, b1⟩
  have c : w1.cell? ⟨w.heap.size, 2, none⟩ = some (.string ⟨#[99, 111, 117, 110, 116]⟩) := k1.c 2
  clear k1
  go_wp2
  all_goals (go_ret; exact ⟨rfl, b1⟩)

set_option maxRecDepth 100000 in
theorem rword_3 (w : World) : Calls Tryz.prog 16 #[.int .i64 3] w fun e w' => e = .returned (.string ⟨#[115, 116, 111, 114, 101]⟩) ∧ Below w.heap.size w w' := by
  have H := Lib.hid cores_any
  go_enter Tryz.func16, Tryz.ntmps16
  go_wp2_with fail
  refine (H.out _).mono ?_
  rintro e w1 ⟨rfl, k1, b1⟩
  have c : w1.cell? ⟨w.heap.size, 3, none⟩ = some (.string ⟨#[115, 116, 111, 114, 101]⟩) := k1.c 3
  clear k1
  go_wp2
  all_goals (go_ret; exact ⟨rfl, b1⟩)

set_option maxRecDepth 100000 in
theorem rword_4 (w : World) : Calls Tryz.prog 16 #[.int .i64 4] w fun e w' => e = .returned (.string ⟨#[115, 117, 109]⟩) ∧ Below w.heap.size w w' := by
  have H := Lib.hid cores_any
  go_enter Tryz.func16, Tryz.ntmps16
  go_wp2_with fail
  refine (H.out _).mono ?_
  rintro e w1 ⟨rfl, k1, b1⟩
  have c : w1.cell? ⟨w.heap.size, 4, none⟩ = some (.string ⟨#[115, 117, 109]⟩) := k1.c 4
  clear k1
  go_wp2
  all_goals (go_ret; exact ⟨rfl, b1⟩)

set_option maxRecDepth 100000 in
theorem rword_5 (w : World) : Calls Tryz.prog 16 #[.int .i64 5] w fun e w' => e = .returned (.string ⟨#[115, 105, 122, 101]⟩) ∧ Below w.heap.size w w' := by
  have H := Lib.hid cores_any
  go_enter Tryz.func16, Tryz.ntmps16
  go_wp2_with fail
  refine (H.out _).mono ?_
  rintro e w1 ⟨rfl, k1, b1⟩
  have c : w1.cell? ⟨w.heap.size, 5, none⟩ = some (.string ⟨#[115, 105, 122, 101]⟩) := k1.c 5
  clear k1
  go_wp2
  all_goals (go_ret; exact ⟨rfl, b1⟩)

set_option maxRecDepth 100000 in
theorem rword_6 (w : World) : Calls Tryz.prog 16 #[.int .i64 6] w fun e w' => e = .returned (.string ⟨#[117, 110, 98, 111, 120]⟩) ∧ Below w.heap.size w w' := by
  have H := Lib.hid cores_any
  go_enter Tryz.func16, Tryz.ntmps16
  go_wp2_with fail
  refine (H.out _).mono ?_
  rintro e w1 ⟨rfl, k1, b1⟩
  have c : w1.cell? ⟨w.heap.size, 6, none⟩ = some (.string ⟨#[117, 110, 98, 111, 120]⟩) := k1.c 6
  clear k1
  go_wp2
  all_goals (go_ret; exact ⟨rfl, b1⟩)

set_option maxRecDepth 100000 in
theorem rword_7 (w : World) : Calls Tryz.prog 16 #[.int .i64 7] w fun e w' => e = .returned (.string ⟨#[102, 97, 105, 108]⟩) ∧ Below w.heap.size w w' := by
  have H := Lib.hid cores_any
  go_enter Tryz.func16, Tryz.ntmps16
  go_wp2_with fail
  refine (H.out _).mono ?_
  rintro e w1 ⟨rfl, k1, b1⟩
  have c : w1.cell? ⟨w.heap.size, 7, none⟩ = some (.string ⟨#[102, 97, 105, 108]⟩) := k1.c 7
  clear k1
  go_wp2
  all_goals (go_ret; exact ⟨rfl, b1⟩)

set_option maxRecDepth 100000 in
theorem rword_8 (w : World) : Calls Tryz.prog 16 #[.int .i64 8] w fun e w' => e = .returned (.string ⟨#[112, 97, 110, 105, 99]⟩) ∧ Below w.heap.size w w' := by
  have H := Lib.hid cores_any
  go_enter Tryz.func16, Tryz.ntmps16
  go_wp2_with fail
  refine (H.out _).mono ?_
  rintro e w1 ⟨rfl, k1, b1⟩
  have c : w1.cell? ⟨w.heap.size, 8, none⟩ = some (.string ⟨#[112, 97, 110, 105, 99]⟩) := k1.c 8
  clear k1
  go_wp2
  all_goals (go_ret; exact ⟨rfl, b1⟩)

set_option maxRecDepth 100000 in
theorem rword_9 (w : World) : Calls Tryz.prog 16 #[.int .i64 9] w fun e w' => e = .returned (.string ⟨#[110, 116, 104]⟩) ∧ Below w.heap.size w w' := by
  have H := Lib.hid cores_any
  go_enter Tryz.func16, Tryz.ntmps16
  go_wp2_with fail
  refine (H.out _).mono ?_
  rintro e w1 ⟨rfl, k1, b1⟩
  have c : w1.cell? ⟨w.heap.size, 9, none⟩ = some (.string ⟨#[110, 116, 104]⟩) := k1.c 9
  clear k1
  go_wp2
  all_goals (go_ret; exact ⟨rfl, b1⟩)

set_option maxRecDepth 100000 in
theorem rword_10 (w : World) : Calls Tryz.prog 16 #[.int .i64 10] w fun e w' => e = .returned (.string ⟨#[110, 111, 110, 101]⟩) ∧ Below w.heap.size w w' := by
  have H := Lib.hid cores_any
  go_enter Tryz.func16, Tryz.ntmps16
  go_wp2_with fail
  refine (H.out _).mono ?_
  rintro e w1 ⟨rfl, k1, b1⟩
  have c : w1.cell? ⟨w.heap.size, 10, none⟩ = some (.string ⟨#[110, 111, 110, 101]⟩) := k1.c 10
  clear k1
  go_wp2
  all_goals (go_ret; exact ⟨rfl, b1⟩)

set_option maxRecDepth 100000 in
theorem rword_11 (w : World) : Calls Tryz.prog 16 #[.int .i64 11] w fun e w' => e = .returned (.string ⟨#[109, 117, 116, 101]⟩) ∧ Below w.heap.size w w' := by
  have H := Lib.hid cores_any
  go_enter Tryz.func16, Tryz.ntmps16
  go_wp2_with fail
  refine (H.out _).mono ?_
  rintro e w1 ⟨rfl, k1, b1⟩
  have c : w1.cell? ⟨w.heap.size, 11, none⟩ = some (.string ⟨#[109, 117, 116, 101]⟩) := k1.c 11
  clear k1
  go_wp2
  all_goals (go_ret; exact ⟨rfl, b1⟩)

set_option maxRecDepth 100000 in
theorem rword_12 (w : World) : Calls Tryz.prog 16 #[.int .i64 12] w fun e w' => e = .returned (.string ⟨#[108, 101, 115, 115]⟩) ∧ Below w.heap.size w w' := by
  have H := Lib.hid cores_any
  go_enter Tryz.func16, Tryz.ntmps16
  go_wp2_with fail
  refine (H.out _).mono ?_
  rintro e w1 ⟨rfl, k1, b1⟩
  have c : w1.cell? ⟨w.heap.size, 12, none⟩ = some (.string ⟨#[108, 101, 115, 115]⟩) := k1.c 12
  clear k1
  go_wp2
  all_goals (go_ret; exact ⟨rfl, b1⟩)

/-- The package's word and the document's are one. -/
theorem words_one (op : Int) : ∃ s, (∀ w, Wc w → Calls Tryz.prog 15 #[.int .i64 op] w fun e w' => e = .returned (.string s) ∧ Below w.heap.size w w') ∧ ∀ w, Calls Tryz.prog 16 #[.int .i64 op] w fun e w' => e = .returned (.string s) ∧ Below w.heap.size w w' := by
  by_cases h : op < 0 ∨ 13 ≤ op
  · exact ⟨_, fun w _ => word_out op h w, fun w => rword_out op (by omega) w⟩
  obtain rfl | rfl | rfl | rfl | rfl | rfl | rfl | rfl | rfl | rfl | rfl | rfl | rfl : op = 0 ∨ op = 1 ∨ op = 2 ∨ op = 3 ∨ op = 4 ∨ op = 5 ∨ op = 6 ∨ op = 7 ∨ op = 8 ∨ op = 9 ∨ op = 10 ∨ op = 11 ∨ op = 12 := by omega
  · exact ⟨_, word_0, fun w => rword_out 0 (by omega) w⟩
  · exact ⟨_, word_1, rword_1⟩
  · exact ⟨_, word_2, rword_2⟩
  · exact ⟨_, word_3, rword_3⟩
  · exact ⟨_, word_4, rword_4⟩
  · exact ⟨_, word_5, rword_5⟩
  · exact ⟨_, word_6, rword_6⟩
  · exact ⟨_, word_7, rword_7⟩
  · exact ⟨_, word_8, rword_8⟩
  · exact ⟨_, word_9, rword_9⟩
  · exact ⟨_, word_10, rword_10⟩
  · exact ⟨_, word_11, rword_11⟩
  · exact ⟨_, word_12, rword_12⟩
end Go.Proofs.YtgijdiplhcoojaaGreatDoor
