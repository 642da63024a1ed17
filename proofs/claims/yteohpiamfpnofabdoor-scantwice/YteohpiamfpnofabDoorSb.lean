/- The ground of the walks over bytes: a row of bytes in memory; small calls: classOf, digit, blank, letter, hex; no condition but those that each theorem names. -/
import Derived.Test.YteohpiamfpnofabDoorRows
import Derived.Test.YteohpiamfpnofabDoorSp
import Derived.WalkKit
import Derived.WalkSpells
import Derived.WalkLawsBesides
import Derived.Deep.QuietTactic
import Derived.BigQuiet
import Derived.Deep.RegionHeld3
import Derived.Laws.IdiomStrings
import Derived.Below
import Derived.Lib.Walk
import Derived.Lib.Bytes
import Derived.Lib.Hide
import Derived.Deep.LoopGhost
import Derived.WalkMore
import Derived.OwnWalk
namespace Go.Proofs.YteohpiamfpnofabDoor
open Go.RowKit

/-- A text's bytes. -/
abbrev tl (x : ByteArray) : Bs := x.toList
/-- Bytes as a text. -/
def bs (l : Bs) : ByteArray := ⟨l.toArray⟩
theorem tl_data (x : ByteArray) : tl x = x.data.toList := Lib.toList_data x
theorem tl_bs (l : Bs) : tl (bs l) = l := by rw [tl_data]; simp [bs]
theorem bs_tl (x : ByteArray) : bs (tl x) = x := by rw [tl_data]; cases x; simp [bs]
theorem tl_inj {x y : ByteArray} : tl x = tl y ↔ x = y := ⟨fun h => by rw [← bs_tl x, h, bs_tl], fun h => by rw [h]⟩
theorem bs_inj {x y : Bs} : bs x = bs y ↔ x = y := ⟨fun h => by rw [← tl_bs x, h, tl_bs], fun h => by rw [h]⟩
theorem tl_size (x : ByteArray) : (tl x).length = x.size := by rw [tl_data, Array.length_toList]; rfl
theorem bs_size (l : Bs) : (bs l).size = l.length := by rw [← tl_size, tl_bs]
theorem ret_b {a b : Bool} (h : a = b) : Ending.returned (.bool a) = .returned (.bool b) := by rw [h]
theorem ret_i {k : IntKind} {a b : Int} (h : a = b) : Ending.returned (.int k a) = .returned (.int k b) := by rw [h]
theorem below1 (w : World) (o : Obj) : Below w.heap.size w (w.alloc o) := (Below.refl _ w).alloc (Nat.le_refl _) _
theorem below_drewN {B : Nat} {a w : World} (h : Below B a w) : ∀ q, Below B a (w.drewN q)
  | 0 => h
  | q + 1 => (below_drewN h q).drew
theorem heap_alloc_new (w : World) (o : Obj) : (w.alloc o).heap[w.heap.size]? = some o := by
  show (w.heap.push o)[w.heap.size]? = some o
  simp

/-- Bytes in memory, from a place on. -/
def Byt (w : World) (b o : Nat) (l : Bs) : Prop := ∀ i (h : i < l.length), w.cell? ⟨b, o + i, none⟩ = some (.int .u8 (l[i].toNat : Int))
theorem Byt.below {n : Nat} {A B : World} {b o : Nat} {l : Bs} (h : Byt A b o l) (hB : Below n A B) (hb : b < n) : Byt B b o l :=
  fun i hi => (hB.cell (p := ⟨b, o + i, none⟩) hb).trans (h i hi)
theorem Byt.drop {w : World} {b o : Nat} {l : Bs} (h : Byt w b o l) (k : Nat) : Byt w b (o + k) (l.drop k) := fun i hi => by
  have := h (k + i) (by simp at hi; omega)
  rw [Nat.add_assoc, this]; simp
theorem Byt.take {w : World} {b o : Nat} {l : Bs} (h : Byt w b o l) (k : Nat) : Byt w b o (l.take k) := fun i hi => by
  have := h i (by simp at hi; omega)
  rw [this]; simp
theorem Byt.lt {w : World} {b o : Nat} {l : Bs} (h : Byt w b o l) (h0 : 0 < l.length) : b < w.heap.size := World.block_lt_of_cell? _ _ (h 0 h0)
theorem Byt.at {w : World} {b o : Nat} {l : Bs} (h : Byt w b o l) {i : Nat} {x : UInt8} {r : Bs} (hd : l.drop i = x :: r) : w.cell? ⟨b, o + i, none⟩ = some (.int .u8 (x.toNat : Int)) := by
  have hi : i < l.length := by
    rcases Nat.lt_or_ge i l.length with h | h
    · exact h
    · rw [List.drop_eq_nil_of_le h] at hd; cases hd
  rw [h i hi]
  have : l[i] = x := by
    have := List.getElem_cons_drop hi
    rw [hd] at this
    exact (List.cons.inj this).1
  rw [this]
theorem Byt.drewN {w : World} {b o : Nat} {l : Bs} (h : Byt w b o l) (q : Nat) : Byt (w.drewN q) b o l := fun i hi => by
  have := h i hi
  simpa using this
/-- The numbers of bytes. -/
def nums (l : Bs) : List Int := l.map fun x => (x.toNat : Int)
theorem nums_len (l : Bs) : (nums l).length = l.length := by simp [nums]
theorem nums_bytes (l : Bs) : Lib.bytesOf (nums l) = l := by
  simp only [Lib.bytesOf, nums, List.map_map]
  conv => rhs; rw [← List.map_id l]
  apply List.map_congr_left
  intro x _
  simp
theorem nums_get (l : Bs) (i : Nat) (h : i < l.length) : (nums l).getD i 0 = (l[i].toNat : Int) := by
  simp [nums, List.getD, h]
theorem u8_lt (b : UInt8) : (b.toNat : Int) < 256 := by have := b.toNat_lt; omega

set_option maxHeartbeats 1000000 in
theorem classOf_any (b : UInt8) (w : World) : Calls Tryd.prog 11 #[.int .u8 b.toNat] w fun e w' => e = .returned (.int .u8 (cls b)) ∧ w' = w := by
  have hb := u8_lt b
  have hc : cls b = if 48 ≤ (b.toNat : Int) ∧ (b.toNat : Int) ≤ 57 then 3 else if (97 ≤ (b.toNat : Int) ∧ (b.toNat : Int) ≤ 122) ∨ (65 ≤ (b.toNat : Int) ∧ (b.toNat : Int) ≤ 90) ∨ (b.toNat : Int) = 95 then 2 else if (b.toNat : Int) = 32 ∨ (b.toNat : Int) = 9 ∨ (b.toNat : Int) = 13 ∨ (b.toNat : Int) = 10 then 4 else 0 := by
    unfold cls dig ltr blk
    simp only [decide_eq_true_eq]
    congr 1
    · apply propext; omega
    · congr 1
      · apply propext; omega
      · congr 1
        · apply propext; omega
  rw [hc]
  clear hc
  generalize (b.toNat : Int) = x at hb
  obtain ⟨z, hz⟩ : ∃ z : Nat, (if 48 ≤ x ∧ x ≤ 57 then 3 else if (97 ≤ x ∧ x ≤ 122) ∨ (65 ≤ x ∧ x ≤ 90) ∨ x = 95 then 2 else if x = 32 ∨ x = 9 ∨ x = 13 ∨ x = 10 then 4 else 0) = z := ⟨_, rfl⟩
  rw [hz]
  have HZ := Lib.hid hz
  clear hz
  go_enter Tryd.func11, Tryd.ntmps11
  go_wp2
  all_goals (go_ret; refine ⟨ret_i ?_, rfl⟩; rw [← HZ.out]; clear HZ)
  all_goals try simp only [beq_iff_eq, beq_eq_false_iff_ne, ne_eq] at *
  all_goals repeat' split
  all_goals (first | rfl | omega)

theorem u8_wrap {x : Int} (h0 : 0 ≤ x) (h1 : x < 256) : IntKind.u8.wrap x = x := by
  simp only [IntKind.wrap, IntKind.bits, IntKind.signed]
  simp
  omega

set_option maxHeartbeats 1000000 in
theorem digit_any (b : UInt8) (w : World) : Calls Tryd.prog 34 #[.int .u8 b.toNat] w fun e w' => e = .returned (.int .u8 (hx b)) ∧ w' = w := by
  have hb := u8_lt b
  have h0 : 0 ≤ (b.toNat : Int) := by omega
  have hc : ((hx b : Nat) : Int) = if 48 ≤ (b.toNat : Int) ∧ (b.toNat : Int) ≤ 57 then (b.toNat : Int) - 48 else if 97 ≤ (b.toNat : Int) ∧ (b.toNat : Int) ≤ 102 then (b.toNat : Int) - 87 else if 65 ≤ (b.toNat : Int) ∧ (b.toNat : Int) ≤ 70 then (b.toNat : Int) - 55 else 16 := by
    unfold hx
    repeat' split
    all_goals omega
  rw [hc]
  clear hc
  generalize (b.toNat : Int) = x at hb h0
  obtain ⟨z, hz⟩ : ∃ z : Int, (if 48 ≤ x ∧ x ≤ 57 then x - 48 else if 97 ≤ x ∧ x ≤ 102 then x - 87 else if 65 ≤ x ∧ x ≤ 70 then x - 55 else 16) = z := ⟨_, rfl⟩
  rw [hz]
  have HZ := Lib.hid hz
  clear hz
  go_enter Tryd.func34, Tryd.ntmps34
  go_wp2
  all_goals (go_ret; refine ⟨ret_i ?_, rfl⟩; rw [← HZ.out]; clear HZ)
  all_goals try simp only [beq_iff_eq, beq_eq_false_iff_ne, ne_eq] at *
  all_goals try rw [u8_wrap (x := x - 48) (by omega) (by omega)]
  all_goals try rw [u8_wrap (x := x - 97) (by omega) (by omega)]
  all_goals try rw [u8_wrap (x := x - 65) (by omega) (by omega)]
  all_goals try rw [u8_wrap (by omega) (by omega)]
  all_goals repeat' split
  all_goals (first | rfl | omega)

end Go.Proofs.YteohpiamfpnofabDoor
