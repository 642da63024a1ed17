/- What the package's Print writes of the value that this package's own check reads; each theorem names its conditions. -/
import Derived.Test.YtfanoiomiijlgaaDoorPut
import Derived.Lib.AppendStr
namespace Go.Proofs.YtfanoiomiijlgaaDoor
open Go.RowKit

set_option maxRecDepth 100000 in
set_option maxHeartbeats 1000000 in
theorem putRow8 (B n g cap : Nat) (xs : List Value) (v : Value) (w : World) (own : w.ownsRow B 5 1 v n xs) (hB : B ≤ w.heap.size) (hn : n ≤ 100) (hT : Pow B w)
    (hg : g < B) (c0 : w.cell? ⟨g, 0, none⟩ = some (.iface 56 (.int .i64 1))) (c1 : w.cell? ⟨g, 1, none⟩ = some (.iface 59 (.string ⟨#[97]⟩))) :
    Calls Tryd.prog 40 #[v, .slice (some ⟨g, 0, none⟩) 2 cap] w fun e w' => ∃ v', e = .returned v' ∧ w'.ownsRow B 5 1 v' (n + 6) (xs ++ [.int .u8 49, .int .u8 44, .int .u8 32, .int .u8 34, .int .u8 97, .int .u8 34]) ∧ Below B w w' := by
  obtain ⟨i0, hi, hz0, hz1, hz2⟩ := info_parts infoByte
  have HT := Lib.hid hT
  clear hT
  go_enter Tryd.func40, Tryd.ntmps40
  go_wp2_with fail
  refine wp_loop_rounds 3 ?_
  rw [rounds_succ]
  go_wp2_with fail
  refine (putOne B n xs v _ own hB (by omega) HT.out).mono ?_
  rintro e w1 ⟨v1, rfl, own1, b1⟩
  have c1' : w1.cell? ⟨g, 1, none⟩ = some (.iface 59 (.string ⟨#[97]⟩)) := (b1.cell (p := ⟨g, 1, none⟩) hg).trans c1
  have z1 : B ≤ w1.heap.size := Nat.le_trans hB b1.size
  clear own c0
  have c1 := Lib.hid c1
  go_wp2_with fail
  rw [rounds_succ]
  go_wp2_with (at_builtin; refine Lib.wpList_append_own_string _ rfl _ _ 54 9 rfl B 5 i0 Tryd.underlying54 Tryd.underlying9 hi hz0 hz1 hz2 v1 _ _ rfl own1 ⟨#[44, 32]⟩ rfl ?h63 ?hby ?hbase ?next)
  case h63 => unfold maxLen; show n + 1 + 2 ≤ _; omega
  case hby => show n + 1 + 2 ≤ _; omega
  case hbase => exact z1
  intro v2 w2 own2 g2 _
  have b2 : Below B w w2 := below_own b1 own1 g2 z1
  have c1'' : w2.cell? ⟨g, 1, none⟩ = some (.iface 59 (.string ⟨#[97]⟩)) := (b2.cell (p := ⟨g, 1, none⟩) hg).trans c1.out
  have z2 : B ≤ w2.heap.size := Nat.le_trans hB b2.size
  clear own1 g2 c1' z1 b1
  go_wp2_with fail
  refine (putA B _ _ v2 _ own2 z2 (by show n + 1 + 2 ≤ 1000; omega)).mono ?_
  rintro e w3 ⟨v3, rfl, own3, b3⟩
  have b4 := b2.trans b3
  go_wp2_with fail
  rw [rounds_succ]
  go_wp2
  go_ret
  exact ⟨v3, rfl, by simpa [List.append_assoc, Lib.strCells] using own3, b4⟩

set_option maxRecDepth 100000 in
set_option maxHeartbeats 1000000 in
theorem putList8 (B g cap : Nat) (w : World) (hB : B ≤ w.heap.size) (hT : Pow B w)
    (hg : g < B) (c0 : w.cell? ⟨g, 0, none⟩ = some (.iface 56 (.int .i64 1))) (c1 : w.cell? ⟨g, 1, none⟩ = some (.iface 59 (.string ⟨#[97]⟩))) :
    Calls Tryd.prog 26 #[.slice none 0 0, .iface 64 (.slice (some ⟨g, 0, none⟩) 2 cap)] w fun e w' => ∃ v', e = .returned v' ∧ w'.ownsRow B 5 1 v' 8 (Lib.byteCells S8.data.toList) ∧ Below B w w' := by
  obtain ⟨i0, hi, hz0, hz1, hz2⟩ := info_parts infoByte
  have HT := Lib.hid hT
  have k0 := Lib.hid c0
  have k1 := Lib.hid c1
  clear hT c0 c1
  have q0 := as64_56 (.slice (some ⟨g, 0, none⟩) 2 cap)
  have q1 := as64_57 (.slice (some ⟨g, 0, none⟩) 2 cap)
  have q2 := as64_58 (.slice (some ⟨g, 0, none⟩) 2 cap)
  have q3 := as64_59 (.slice (some ⟨g, 0, none⟩) 2 cap)
  have q4 := as64_60 (.slice (some ⟨g, 0, none⟩) 2 cap)
  have q5 := as64_61 (.slice (some ⟨g, 0, none⟩) 2 cap)
  have q6 := as64_62 (.slice (some ⟨g, 0, none⟩) 2 cap)
  have q7 := as64_64 (.slice (some ⟨g, 0, none⟩) 2 cap)
  have ob := World.ownsRow_nil w B 5 1
  go_enter Tryd.func26, Tryd.ntmps26
  go_wp2_with (at_builtin; refine wpList_append_own _ rfl _ _ 54 rfl B 5 i0 (.int .u8 0) 1 1 Tryd.underlying54 hi hz0 hz1 hz2 rfl (by decide) (.slice none 0 0) 0 [] rfl (ob.alloc _) ⟨w.heap.size, 0, none⟩ 1 1 [Value.int .u8 91] rfl rfl ?hnews ?h1 ?h63 ?hby ?hbase ?next)
  case hnews => exact cell_one_new _ _ _
  case h1 => intro u hu; simp at hu; subst hu; rfl
  case h63 => unfold maxLen; omega
  case hby => omega
  case hbase => simp; omega
  intro v1 w1 own1 g1 _
  have b1 : Below B w w1 := below_own ((Below.refl B w).alloc hB _) (ob.alloc _) g1 (by simp; omega)
  have z1 : B ≤ w1.heap.size := Nat.le_trans hB b1.size
  clear ob g1
  go_wp2_with fail
  refine (putRow8 B 1 g cap _ v1 _ own1 z1 (by decide) (HT.out.on b1) hg ((b1.cell (p := ⟨g, 0, none⟩) hg).trans k0.out) ((b1.cell (p := ⟨g, 1, none⟩) hg).trans k1.out)).mono ?_
  rintro e w2 ⟨v2, rfl, own2, b2'⟩
  have b2 := b1.trans b2'
  have z2 : B ≤ w2.heap.size := Nat.le_trans hB b2.size
  clear own1 b1 z1 b2'
  go_wp2_with (at_builtin; refine wpList_append_own _ rfl _ _ 54 rfl B 5 i0 (.int .u8 0) 1 1 Tryd.underlying54 hi hz0 hz1 hz2 rfl (by decide) v2 _ _ rfl (own2.alloc _) ⟨w2.heap.size, 0, none⟩ 1 1 [Value.int .u8 93] rfl rfl ?hnewsB ?h1B ?h63B ?hbyB ?hbaseB ?nextB)
  case hnewsB => exact cell_one_new _ _ _
  case h1B => intro u hu; simp at hu; subst hu; rfl
  case h63B => unfold maxLen; omega
  case hbyB => omega
  case hbaseB => simp; omega
  intro v3 w3 own3 g3 _
  have b3 : Below B w w3 := below_own (b2.alloc z2 _) (own2.alloc _) g3 (by simp; omega)
  clear own2 g3
  go_wp2
  go_ret
  exact ⟨v3, rfl, own3, b3⟩
end Go.Proofs.YtfanoiomiijlgaaDoor
