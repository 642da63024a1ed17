/- The document's Load at a value that is not of the form; the conditions: the cells that it reads. -/
import Derived.Test.YtgijdiplhcoojaaGreatDoorJaf
import Derived.Deep.RegionHeld3
namespace Go.Proofs.YtgijdiplhcoojaaGreatDoor
open Go.RowKit
set_option maxRecDepth 100000 in
set_option maxHeartbeats 1000000 in
theorem rload_1 (kd it ut : Int) (tx : ByteArray) (a : Option Addr) (dn c : Nat) (w : World) (f0 : (kd != 9) = true) :
    Calls Tryz.prog 14 #[.agg #[.int .i64 kd, .int .i64 it, .int .u64 ut, .string tx, .slice a dn c]] w fun e w' => e = .returned (.tuple #[.agg zsv, .bool false]) ∧ Below w.heap.size w w' := by
  go_enter Tryz.func14, Tryz.ntmps14
  go_wp2_with fail
  exact bodyPost_ret (v := .tuple #[.agg zsv, .bool false]) (by simp [results, Tryz.results14, go_sem]) rfl ⟨rfl, below3 w _ _ _⟩
set_option maxRecDepth 100000 in
set_option maxHeartbeats 1000000 in
theorem rload_2 (it ut : Int) (tx : ByteArray) (c g o : Nat) (xk : Int) (w : World) (h0 : w.cell? ⟨g, o, none⟩ = some (.int .i64 xk)) (lg : g < w.heap.size) (f0 : (xk != 8) = true) :
    Calls Tryz.prog 14 #[.agg #[.int .i64 9, .int .i64 it, .int .u64 ut, .string tx, .slice (some ⟨g, o, none⟩) 2 c]] w fun e w' => e = .returned (.tuple #[.agg zsv, .bool false]) ∧ Below w.heap.size w w' := by
  have lg1 : g < w.heap.size + 1 := by omega
  have lg2 : g < w.heap.size + 1 + 1 := by omega
  go_enter Tryz.func14, Tryz.ntmps14
  go_wp2_with fail
  exact bodyPost_ret (v := .tuple #[.agg zsv, .bool false]) (by simp [results, Tryz.results14, go_sem]) rfl ⟨rfl, below3 w _ _ _⟩
set_option maxRecDepth 100000 in
set_option maxHeartbeats 1000000 in
theorem rload_3 (it ut : Int) (tx : ByteArray) (c g o : Nat) (ax : Option Addr) (xn xc : Nat) (w : World) (h0 : w.cell? ⟨g, o, none⟩ = some (.int .i64 8)) (h1 : w.cell? ⟨g, o + 4, none⟩ = some (.slice ax xn xc)) (lg : g < w.heap.size) (f0 : ((xn : Int) != 4) = true) :
    Calls Tryz.prog 14 #[.agg #[.int .i64 9, .int .i64 it, .int .u64 ut, .string tx, .slice (some ⟨g, o, none⟩) 2 c]] w fun e w' => e = .returned (.tuple #[.agg zsv, .bool false]) ∧ Below w.heap.size w w' := by
  have lg1 : g < w.heap.size + 1 := by omega
  have lg2 : g < w.heap.size + 1 + 1 := by omega
  go_enter Tryz.func14, Tryz.ntmps14
  go_wp2_with fail
  exact bodyPost_ret (v := .tuple #[.agg zsv, .bool false]) (by simp [results, Tryz.results14, go_sem]) rfl ⟨rfl, below3 w _ _ _⟩
set_option maxRecDepth 100000 in
set_option maxHeartbeats 1000000 in
theorem rload_4 (it ut : Int) (tx : ByteArray) (c g o : Nat) (ax : Option Addr) (xc : Nat) (yk : Int) (w : World) (h0 : w.cell? ⟨g, o, none⟩ = some (.int .i64 8)) (h1 : w.cell? ⟨g, o + 4, none⟩ = some (.slice ax 4 xc)) (h2 : w.cell? ⟨g, o + 5, none⟩ = some (.int .i64 yk)) (lg : g < w.heap.size) (f0 : (yk != 9) = true) :
    Calls Tryz.prog 14 #[.agg #[.int .i64 9, .int .i64 it, .int .u64 ut, .string tx, .slice (some ⟨g, o, none⟩) 2 c]] w fun e w' => e = .returned (.tuple #[.agg zsv, .bool false]) ∧ Below w.heap.size w w' := by
  have lg1 : g < w.heap.size + 1 := by omega
  have lg2 : g < w.heap.size + 1 + 1 := by omega
  go_enter Tryz.func14, Tryz.ntmps14
  go_wp2_with fail
  exact bodyPost_ret (v := .tuple #[.agg zsv, .bool false]) (by simp [results, Tryz.results14, go_sem]) rfl ⟨rfl, below3 w _ _ _⟩
set_option maxRecDepth 100000 in
set_option maxHeartbeats 1000000 in
theorem rload_5 (it ut : Int) (tx : ByteArray) (c g o : Nat) (ax : Option Addr) (xc yc gt ot : Nat) (qk : Int) (w : World) (h0 : w.cell? ⟨g, o, none⟩ = some (.int .i64 8)) (h1 : w.cell? ⟨g, o + 4, none⟩ = some (.slice ax 4 xc)) (h2 : w.cell? ⟨g, o + 5, none⟩ = some (.int .i64 9)) (h3 : w.cell? ⟨g, o + 5 + 4, none⟩ = some (.slice (some ⟨gt, ot, none⟩) 2 yc)) (h4 : w.cell? ⟨gt, ot + 5, none⟩ = some (.int .i64 qk)) (lg : g < w.heap.size) (lgt : gt < w.heap.size) (f0 : (qk != 8) = true) :
    Calls Tryz.prog 14 #[.agg #[.int .i64 9, .int .i64 it, .int .u64 ut, .string tx, .slice (some ⟨g, o, none⟩) 2 c]] w fun e w' => e = .returned (.tuple #[.agg zsv, .bool false]) ∧ Below w.heap.size w w' := by
  have lg1 : g < w.heap.size + 1 := by omega
  have lg2 : g < w.heap.size + 1 + 1 := by omega
  have lgt1 : gt < w.heap.size + 1 := by omega
  have lgt2 : gt < w.heap.size + 1 + 1 := by omega
  go_enter Tryz.func14, Tryz.ntmps14
  go_wp2_with fail
  exact bodyPost_ret (v := .tuple #[.agg zsv, .bool false]) (by simp [results, Tryz.results14, go_sem]) rfl ⟨rfl, below3 w _ _ _⟩
set_option maxRecDepth 100000 in
set_option maxHeartbeats 1000000 in
theorem rload_6 (it ut : Int) (tx : ByteArray) (c g o : Nat) (gh oh xc yc gt ot : Nat) (hk : Int) (w : World) (h0 : w.cell? ⟨g, o, none⟩ = some (.int .i64 8)) (h1 : w.cell? ⟨g, o + 4, none⟩ = some (.slice (some ⟨gh, oh, none⟩) 4 xc)) (h2 : w.cell? ⟨g, o + 5, none⟩ = some (.int .i64 9)) (h3 : w.cell? ⟨g, o + 5 + 4, none⟩ = some (.slice (some ⟨gt, ot, none⟩) 2 yc)) (h4 : w.cell? ⟨gt, ot + 5, none⟩ = some (.int .i64 8)) (h5 : w.cell? ⟨gh, oh, none⟩ = some (.int .i64 hk)) (lg : g < w.heap.size) (lgh : gh < w.heap.size) (lgt : gt < w.heap.size) (f0 : (hk != 1) = true) :
    Calls Tryz.prog 14 #[.agg #[.int .i64 9, .int .i64 it, .int .u64 ut, .string tx, .slice (some ⟨g, o, none⟩) 2 c]] w fun e w' => e = .returned (.tuple #[.agg zsv, .bool false]) ∧ Below w.heap.size w w' := by
  have lg1 : g < w.heap.size + 1 := by omega
  have lg2 : g < w.heap.size + 1 + 1 := by omega
  have lgh1 : gh < w.heap.size + 1 := by omega
  have lgh2 : gh < w.heap.size + 1 + 1 := by omega
  have lgt1 : gt < w.heap.size + 1 := by omega
  have lgt2 : gt < w.heap.size + 1 + 1 := by omega
  go_enter Tryz.func14, Tryz.ntmps14
  go_wp2_with fail
  exact bodyPost_ret (v := .tuple #[.agg zsv, .bool false]) (by simp [results, Tryz.results14, go_sem]) rfl ⟨rfl, below3 w _ _ _⟩
set_option maxRecDepth 100000 in
set_option maxHeartbeats 1000000 in
theorem rload_7 (it ut : Int) (tx : ByteArray) (c g o : Nat) (gh oh xc yc gt ot : Nat) (hk : Int) (w : World) (h0 : w.cell? ⟨g, o, none⟩ = some (.int .i64 8)) (h1 : w.cell? ⟨g, o + 4, none⟩ = some (.slice (some ⟨gh, oh, none⟩) 4 xc)) (h2 : w.cell? ⟨g, o + 5, none⟩ = some (.int .i64 9)) (h3 : w.cell? ⟨g, o + 5 + 4, none⟩ = some (.slice (some ⟨gt, ot, none⟩) 2 yc)) (h4 : w.cell? ⟨gt, ot + 5, none⟩ = some (.int .i64 8)) (h5 : w.cell? ⟨gh, oh, none⟩ = some (.int .i64 1)) (h6 : w.cell? ⟨gh, oh + 5, none⟩ = some (.int .i64 hk)) (lg : g < w.heap.size) (lgh : gh < w.heap.size) (lgt : gt < w.heap.size) (f0 : (hk != 1) = true) :
    Calls Tryz.prog 14 #[.agg #[.int .i64 9, .int .i64 it, .int .u64 ut, .string tx, .slice (some ⟨g, o, none⟩) 2 c]] w fun e w' => e = .returned (.tuple #[.agg zsv, .bool false]) ∧ Below w.heap.size w w' := by
  have lg1 : g < w.heap.size + 1 := by omega
  have lg2 : g < w.heap.size + 1 + 1 := by omega
  have lgh1 : gh < w.heap.size + 1 := by omega
  have lgh2 : gh < w.heap.size + 1 + 1 := by omega
  have lgt1 : gt < w.heap.size + 1 := by omega
  have lgt2 : gt < w.heap.size + 1 + 1 := by omega
  go_enter Tryz.func14, Tryz.ntmps14
  go_wp2_with fail
  exact bodyPost_ret (v := .tuple #[.agg zsv, .bool false]) (by simp [results, Tryz.results14, go_sem]) rfl ⟨rfl, below3 w _ _ _⟩
set_option maxRecDepth 100000 in
set_option maxHeartbeats 1000000 in
theorem rload_8 (it ut : Int) (tx : ByteArray) (c g o : Nat) (gh oh xc yc gt ot : Nat) (hk : Int) (w : World) (h0 : w.cell? ⟨g, o, none⟩ = some (.int .i64 8)) (h1 : w.cell? ⟨g, o + 4, none⟩ = some (.slice (some ⟨gh, oh, none⟩) 4 xc)) (h2 : w.cell? ⟨g, o + 5, none⟩ = some (.int .i64 9)) (h3 : w.cell? ⟨g, o + 5 + 4, none⟩ = some (.slice (some ⟨gt, ot, none⟩) 2 yc)) (h4 : w.cell? ⟨gt, ot + 5, none⟩ = some (.int .i64 8)) (h5 : w.cell? ⟨gh, oh, none⟩ = some (.int .i64 1)) (h6 : w.cell? ⟨gh, oh + 5, none⟩ = some (.int .i64 1)) (h7 : w.cell? ⟨gh, oh + 10, none⟩ = some (.int .i64 hk)) (lg : g < w.heap.size) (lgh : gh < w.heap.size) (lgt : gt < w.heap.size) (f0 : (hk != 1) = true) :
    Calls Tryz.prog 14 #[.agg #[.int .i64 9, .int .i64 it, .int .u64 ut, .string tx, .slice (some ⟨g, o, none⟩) 2 c]] w fun e w' => e = .returned (.tuple #[.agg zsv, .bool false]) ∧ Below w.heap.size w w' := by
  have lg1 : g < w.heap.size + 1 := by omega
  have lg2 : g < w.heap.size + 1 + 1 := by omega
  have lgh1 : gh < w.heap.size + 1 := by omega
  have lgh2 : gh < w.heap.size + 1 + 1 := by omega
  have lgt1 : gt < w.heap.size + 1 := by omega
  have lgt2 : gt < w.heap.size + 1 + 1 := by omega
  go_enter Tryz.func14, Tryz.ntmps14
  go_wp2_with fail
  exact bodyPost_ret (v := .tuple #[.agg zsv, .bool false]) (by simp [results, Tryz.results14, go_sem]) rfl ⟨rfl, below3 w _ _ _⟩
set_option maxRecDepth 100000 in
set_option maxHeartbeats 1000000 in
theorem rload_9 (it ut : Int) (tx : ByteArray) (c g o : Nat) (gh oh xc yc gt ot : Nat) (hk : Int) (w : World) (h0 : w.cell? ⟨g, o, none⟩ = some (.int .i64 8)) (h1 : w.cell? ⟨g, o + 4, none⟩ = some (.slice (some ⟨gh, oh, none⟩) 4 xc)) (h2 : w.cell? ⟨g, o + 5, none⟩ = some (.int .i64 9)) (h3 : w.cell? ⟨g, o + 5 + 4, none⟩ = some (.slice (some ⟨gt, ot, none⟩) 2 yc)) (h4 : w.cell? ⟨gt, ot + 5, none⟩ = some (.int .i64 8)) (h5 : w.cell? ⟨gh, oh, none⟩ = some (.int .i64 1)) (h6 : w.cell? ⟨gh, oh + 5, none⟩ = some (.int .i64 1)) (h7 : w.cell? ⟨gh, oh + 10, none⟩ = some (.int .i64 1)) (h8 : w.cell? ⟨gh, oh + 15, none⟩ = some (.int .i64 hk)) (lg : g < w.heap.size) (lgh : gh < w.heap.size) (lgt : gt < w.heap.size) (f0 : (hk != 6) = true) :
    Calls Tryz.prog 14 #[.agg #[.int .i64 9, .int .i64 it, .int .u64 ut, .string tx, .slice (some ⟨g, o, none⟩) 2 c]] w fun e w' => e = .returned (.tuple #[.agg zsv, .bool false]) ∧ Below w.heap.size w w' := by
  have lg1 : g < w.heap.size + 1 := by omega
  have lg2 : g < w.heap.size + 1 + 1 := by omega
  have lgh1 : gh < w.heap.size + 1 := by omega
  have lgh2 : gh < w.heap.size + 1 + 1 := by omega
  have lgt1 : gt < w.heap.size + 1 := by omega
  have lgt2 : gt < w.heap.size + 1 + 1 := by omega
  go_enter Tryz.func14, Tryz.ntmps14
  go_wp2_with fail
  exact bodyPost_ret (v := .tuple #[.agg zsv, .bool false]) (by simp [results, Tryz.results14, go_sem]) rfl ⟨rfl, below3 w _ _ _⟩
end Go.Proofs.YtgijdiplhcoojaaGreatDoor
