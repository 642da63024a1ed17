/- The package's own check ('awake'): it returns true in every world in which the tables that it reads lie as the text lays them; it writes new memory alone. -/
import Derived.Test.YtfanoiomiijlgaaDoorMake
namespace Go.Proofs.YtfanoiomiijlgaaDoor
open Go.RowKit

theorem byteCells_at (l : List UInt8) (j : Nat) (hj : j < l.length) : (Lib.byteCells l)[j]? = some (.int .u8 (l[j].toNat : Int)) := by simp [Lib.byteCells, hj]

set_option maxRecDepth 100000 in
set_option maxHeartbeats 1000000 in
theorem mkList8 (g cap base : Nat) (w : World) (own : w.ownsRow base 25 5 (.slice (some ⟨g, 0, none⟩) 2 cap) 2 cells8) (hg : g < w.heap.size) :
    Calls Tryd.prog 21 #[.agg #[.map none], .agg #[.int .i64 8, .int .i64 0, .int .u64 0, .string ⟨#[]⟩, .slice (some ⟨g, 0, none⟩) 2 cap]] w fun e w' => ∃ r, e = .returned (.iface 64 (.slice (some ⟨r, 0, none⟩) 2 2)) ∧ w.heap.size ≤ r ∧ r < w'.heap.size ∧ w'.cell? ⟨r, 0, none⟩ = some (.iface 56 (.int .i64 1)) ∧ w'.cell? ⟨r, 1, none⟩ = some (.iface 59 (.string ⟨#[97]⟩)) ∧ Below w.heap.size w w' := by
  have b0 : Below w.heap.size w ((w.alloc (.cells #[.map none] 45)).alloc (.cells #[.int .i64 8, .int .i64 0, .int .u64 0, .string ⟨#[]⟩, .slice (some ⟨g, 0, none⟩) 2 cap] 25)) := ((Below.refl _ w).alloc (Nat.le_refl _) _).alloc (by simp) _
  have own0 := own.kept (grown_below (row := none) b0) (.inr (by simp [Value.ownBlock]))
  have s0 : w.heap.size ≤ ((w.alloc (.cells #[.map none] 45)).alloc (.cells #[.int .i64 8, .int .i64 0, .int .u64 0, .string ⟨#[]⟩, .slice (some ⟨g, 0, none⟩) 2 cap] 25)).heap.size := b0.size
  go_enter Tryd.func21, Tryd.ntmps21
  go_wp2_with fail
  refine (mkRow8 g cap base _ own0 (by omega)).mono ?_
  rintro e w1 ⟨r, rfl, h1, h2, h3, h4, b1⟩
  have B1 := b0.trans (b1.mono s0)
  clear own own0 b1 b0
  go_wp2
  go_ret
  exact ⟨r, rfl, by omega, h2, h3, h4, B1⟩

set_option maxRecDepth 100000 in
set_option maxHeartbeats 1000000 in
theorem iface8 (g cap base : Nat) (w : World) (own : w.ownsRow base 25 5 (.slice (some ⟨g, 0, none⟩) 2 cap) 2 cells8) (hg : g < w.heap.size) :
    Calls Tryd.prog 27 #[.agg #[.int .i64 8, .int .i64 0, .int .u64 0, .string ⟨#[]⟩, .slice (some ⟨g, 0, none⟩) 2 cap]] w fun e w' => ∃ r, e = .returned (.iface 64 (.slice (some ⟨r, 0, none⟩) 2 2)) ∧ r < w'.heap.size ∧ w'.cell? ⟨r, 0, none⟩ = some (.iface 56 (.int .i64 1)) ∧ w'.cell? ⟨r, 1, none⟩ = some (.iface 59 (.string ⟨#[97]⟩)) ∧ Below w.heap.size w w' := by
  have b0 : Below w.heap.size w (w.alloc (.cells #[.int .i64 8, .int .i64 0, .int .u64 0, .string ⟨#[]⟩, .slice (some ⟨g, 0, none⟩) 2 cap] 25)) := (Below.refl _ w).alloc (Nat.le_refl _) _
  have own0 := own.kept (grown_below (row := none) b0) (.inr (by simp [Value.ownBlock]))
  have s0 : w.heap.size ≤ (w.alloc (.cells #[.int .i64 8, .int .i64 0, .int .u64 0, .string ⟨#[]⟩, .slice (some ⟨g, 0, none⟩) 2 cap] 25)).heap.size := b0.size
  go_enter Tryd.func27, Tryd.ntmps27
  go_wp2_with fail
  refine (mkList8 g cap base _ own0 (by omega)).mono ?_
  rintro e w1 ⟨r, rfl, h1, h2, h3, h4, b1⟩
  have B1 := b0.trans (b1.mono s0)
  clear own own0 b1 b0
  go_wp2
  go_ret
  exact ⟨r, rfl, h2, h3, h4, B1⟩

/-- The table of powers as the text lays it. -/
def Pow0 (w : World) : Prop := Lib.TabIs Tryd.prog w "internal/strconv.uint64pow10" .u64 Lib.pow10Tab

set_option maxRecDepth 100000 in
set_option maxHeartbeats 1000000 in
theorem print8 (g cap base : Nat) (w : World) (own : w.ownsRow base 25 5 (.slice (some ⟨g, 0, none⟩) 2 cap) 2 cells8) (hg : g < w.heap.size) (hP : Pow w.heap.size w) :
    Calls Tryd.prog 19 #[.agg #[.int .i64 8, .int .i64 0, .int .u64 0, .string ⟨#[]⟩, .slice (some ⟨g, 0, none⟩) 2 cap]] w fun e w' => e = .returned (.string S8) ∧ Below w.heap.size w w' := by
  have HP := Lib.hid hP
  clear hP
  have b0 : Below w.heap.size w (w.alloc (.cells #[.int .i64 8, .int .i64 0, .int .u64 0, .string ⟨#[]⟩, .slice (some ⟨g, 0, none⟩) 2 cap] 25)) := (Below.refl _ w).alloc (Nat.le_refl _) _
  have own0 := own.kept (grown_below (row := none) b0) (.inr (by simp [Value.ownBlock]))
  have s0 : w.heap.size ≤ (w.alloc (.cells #[.int .i64 8, .int .i64 0, .int .u64 0, .string ⟨#[]⟩, .slice (some ⟨g, 0, none⟩) 2 cap] 25)).heap.size := b0.size
  go_enter Tryd.func19, Tryd.ntmps19
  go_wp2_with fail
  refine (iface8 g cap base _ own0 (by omega)).mono ?_
  rintro e w1 ⟨r, rfl, h2, h3, h4, b1⟩
  have B1 := b0.trans (b1.mono s0)
  clear own own0 b1 b0 s0
  go_wp2_with fail
  refine (putList8 w1.heap.size r 2 _ (Nat.le_refl _) ?_ h2 h3 h4).mono ?_
  · exact Lib.tabBelow_of_tabIs (HP.out.on B1).here
  rintro e w2 ⟨v2, rfl, own2, b2⟩
  have B2 := B1.trans (b2.mono B1.size)
  rcases own2.2 with ⟨-, h0⟩ | ⟨q, cap', cur, rfl, -, -, -, -, -, -⟩
  · cases h0
  have hcv := run_convert_bytes_back (P := Tryd.prog) w2 54 9 5 ⟨q, 0, none⟩ cap' S8.data.toList Tryd.underlying54 Tryd.underlying5 Tryd.underlying9 (fun j hj => own2.cells (g := q) rfl j _ (byteCells_at _ j hj))
  have e8 : S8.data.toList.length = 8 := rfl
  rw [e8] at hcv
  have e9 : (ByteArray.mk S8.data.toList.toArray) = S8 := rfl
  rw [e9] at hcv
  clear own2 b2 B1 h2 h3 h4 e8 e9
  go_wp2
  go_ret
  exact ⟨rfl, B2⟩

set_option maxRecDepth 100000 in
set_option maxHeartbeats 1000000 in
theorem awake_any (w : World) (hT : Tab w) (hP : Pow0 w) :
    Calls Tryd.prog 9 #[] w fun e w' => e = .returned (.bool true) ∧ Below w.heap.size w w' := by
  have HP := Lib.hid (Lib.tabBelow_of_tabIs hP)
  have HT := Lib.hid hT
  clear hP hT
  have es : (⟨#[91, 49, 44, 32, 34, 97, 34, 93]⟩ : ByteArray) = S8 := rfl
  go_enter Tryd.func9, Tryd.ntmps9
  go_wp2_with fail
  refine (parse8 _).mono ?_
  rintro e w1 ⟨ad, cap, rfl, own1, b1⟩
  rcases own1.2 with ⟨e0, -⟩ | ⟨g, cap', cur, e0, -, hc, -, -, -, -⟩
  · cases e0
  cases e0
  have hg : g < w1.heap.size := (Array.getElem?_eq_some_iff.1 hc).1
  clear hc
  go_wp2_with fail
  have b2 : Below w1.heap.size w1 (w1.alloc (.cells #[.int .i64 8, .int .i64 0, .int .u64 0, .string ⟨#[]⟩, .slice (some ⟨g, 0, none⟩) 2 cap] 25)) := (Below.refl _ w1).alloc (Nat.le_refl _) _
  have own2 := own1.kept (grown_below (row := none) b2) (.inr (by simp [Value.ownBlock]))
  have d2 := D5.new w1 (.int .i64 8) (.int .i64 0) (.int .u64 0) (.string ⟨#[]⟩) (.slice (some ⟨g, 0, none⟩) 2 cap)
  have B2 : Below w.heap.size w (w1.alloc (.cells #[.int .i64 8, .int .i64 0, .int .u64 0, .string ⟨#[]⟩, .slice (some ⟨g, 0, none⟩) 2 cap] 25)) := b1.trans (b2.mono b1.size)
  have s2 : g < (w1.alloc (.cells #[.int .i64 8, .int .i64 0, .int .u64 0, .string ⟨#[]⟩, .slice (some ⟨g, 0, none⟩) 2 cap] 25)).heap.size := Nat.lt_of_lt_of_le hg b2.size
  refine (valid8 g cap _ _ (HT.out.below B2) own2 s2).mono ?_
  rintro e w3 ⟨rfl, b3⟩
  have own3 := own2.kept (grown_below (row := none) b3) (.inr (by simp [Value.ownBlock]))
  have d3 := d2.kept (b := w1.heap.size + 1) (grown_below b3) (by omega)
  have B3 : Below w.heap.size w w3 := B2.trans (b3.mono B2.size)
  have s3 : g < w3.heap.size := Nat.lt_of_lt_of_le s2 b3.size
  obtain ⟨k0, k1, k2, k3, k4⟩ := d3.c
  clear b2 own2 d2 B2 s2 b3 own1 b1 hg
  go_wp2_with fail
  refine (print8 g cap _ _ own3 s3 (Lib.tabBelow_of_tabIs (HP.out.on B3).here)).mono ?_
  rintro e w4 ⟨rfl, b4⟩
  have B4 : Below w.heap.size w w4 := B3.trans (b4.mono B3.size)
  clear own3 d3 B3 s3 b4 k0 k1 k2 k3 k4
  go_wp2
  go_ret
  exact ⟨rfl, B4⟩
end Go.Proofs.YtfanoiomiijlgaaDoor
