/- Which question the package asks for a kind's type, and which for an interface's number; no condition. -/
import Derived.Test.YtkgbpildikjoiaaGreatDoorAsk
import Derived.Test.YtkgbpildikjoiaaGreatDoorKinds
namespace Go.Proofs.YtkgbpildikjoiaaGreatDoor
open Go.RowKit

/-- The question's type for a kind. -/
def qty (k : Int) : Nat :=
  if k = 1 then 165 else if k = 2 then 166 else if k = 3 then 167 else if k = 4 then 168 else if k = 5 then 169 else if k = 6 then 170 else if k = 7 then 171 else if k = 8 then 172 else if k = 9 then 173 else if k = 10 then 174 else if k = 11 then 175 else if k = 12 then 176 else if k = 13 then 177 else 178
/-- The question's type for an interface, and its methods as bits. -/
def qfc (f : Int) : Nat :=
  if f = 0 then 179 else if f = 1 then 180 else if f = 2 then 181 else if f = 3 then 182 else if f = 4 then 183 else if f = 5 then 184 else if f = 6 then 185 else if f = 7 then 186 else if f = 8 then 187 else if f = 9 then 188 else 178
def mbits (f : Int) : Int :=
  if f = 0 then 1 else if f = 1 then 2 else if f = 2 then 4 else if f = 3 then 8 else if f = 4 then 16 else if f = 5 then 32 else if f = 6 then 3 else if f = 7 then 17 else if f = 8 then 48 else if f = 9 then 19 else 0

set_option maxRecDepth 100000 in
set_option maxHeartbeats 1000000 in
theorem typeOf1 (w : World) : Calls Tryz.prog 86 #[.int .i64 1] w fun e w' => e = .returned (.iface (qty 1) (.agg #[])) ∧ w' = w := by
  show Calls Tryz.prog 86 #[.int .i64 1] w fun e w' => e = .returned (.iface 165 (.agg #[])) ∧ w' = w
  go_enter Tryz.func86, Tryz.ntmps86
  go_wp2
  go_ret
  exact ⟨rfl, rfl⟩
set_option maxRecDepth 100000 in
set_option maxHeartbeats 1000000 in
theorem typeOf2 (w : World) : Calls Tryz.prog 86 #[.int .i64 2] w fun e w' => e = .returned (.iface (qty 2) (.agg #[])) ∧ w' = w := by
  show Calls Tryz.prog 86 #[.int .i64 2] w fun e w' => e = .returned (.iface 166 (.agg #[])) ∧ w' = w
  go_enter Tryz.func86, Tryz.ntmps86
  go_wp2
  go_ret
  exact ⟨rfl, rfl⟩
set_option maxRecDepth 100000 in
set_option maxHeartbeats 1000000 in
theorem typeOf3 (w : World) : Calls Tryz.prog 86 #[.int .i64 3] w fun e w' => e = .returned (.iface (qty 3) (.agg #[])) ∧ w' = w := by
  show Calls Tryz.prog 86 #[.int .i64 3] w fun e w' => e = .returned (.iface 167 (.agg #[])) ∧ w' = w
  go_enter Tryz.func86, Tryz.ntmps86
  go_wp2
  go_ret
  exact ⟨rfl, rfl⟩
set_option maxRecDepth 100000 in
set_option maxHeartbeats 1000000 in
theorem typeOf4 (w : World) : Calls Tryz.prog 86 #[.int .i64 4] w fun e w' => e = .returned (.iface (qty 4) (.agg #[])) ∧ w' = w := by
  show Calls Tryz.prog 86 #[.int .i64 4] w fun e w' => e = .returned (.iface 168 (.agg #[])) ∧ w' = w
  go_enter Tryz.func86, Tryz.ntmps86
  go_wp2
  go_ret
  exact ⟨rfl, rfl⟩
set_option maxRecDepth 100000 in
set_option maxHeartbeats 1000000 in
theorem typeOf5 (w : World) : Calls Tryz.prog 86 #[.int .i64 5] w fun e w' => e = .returned (.iface (qty 5) (.agg #[])) ∧ w' = w := by
  show Calls Tryz.prog 86 #[.int .i64 5] w fun e w' => e = .returned (.iface 169 (.agg #[])) ∧ w' = w
  go_enter Tryz.func86, Tryz.ntmps86
  go_wp2
  go_ret
  exact ⟨rfl, rfl⟩
set_option maxRecDepth 100000 in
set_option maxHeartbeats 1000000 in
theorem typeOf6 (w : World) : Calls Tryz.prog 86 #[.int .i64 6] w fun e w' => e = .returned (.iface (qty 6) (.agg #[])) ∧ w' = w := by
  show Calls Tryz.prog 86 #[.int .i64 6] w fun e w' => e = .returned (.iface 170 (.agg #[])) ∧ w' = w
  go_enter Tryz.func86, Tryz.ntmps86
  go_wp2
  go_ret
  exact ⟨rfl, rfl⟩
set_option maxRecDepth 100000 in
set_option maxHeartbeats 1000000 in
theorem typeOf7 (w : World) : Calls Tryz.prog 86 #[.int .i64 7] w fun e w' => e = .returned (.iface (qty 7) (.agg #[])) ∧ w' = w := by
  show Calls Tryz.prog 86 #[.int .i64 7] w fun e w' => e = .returned (.iface 171 (.agg #[])) ∧ w' = w
  go_enter Tryz.func86, Tryz.ntmps86
  go_wp2
  go_ret
  exact ⟨rfl, rfl⟩
set_option maxRecDepth 100000 in
set_option maxHeartbeats 1000000 in
theorem typeOf8 (w : World) : Calls Tryz.prog 86 #[.int .i64 8] w fun e w' => e = .returned (.iface (qty 8) (.agg #[])) ∧ w' = w := by
  show Calls Tryz.prog 86 #[.int .i64 8] w fun e w' => e = .returned (.iface 172 (.agg #[])) ∧ w' = w
  go_enter Tryz.func86, Tryz.ntmps86
  go_wp2
  go_ret
  exact ⟨rfl, rfl⟩
set_option maxRecDepth 100000 in
set_option maxHeartbeats 1000000 in
theorem typeOf9 (w : World) : Calls Tryz.prog 86 #[.int .i64 9] w fun e w' => e = .returned (.iface (qty 9) (.agg #[])) ∧ w' = w := by
  show Calls Tryz.prog 86 #[.int .i64 9] w fun e w' => e = .returned (.iface 173 (.agg #[])) ∧ w' = w
  go_enter Tryz.func86, Tryz.ntmps86
  go_wp2
  go_ret
  exact ⟨rfl, rfl⟩
set_option maxRecDepth 100000 in
set_option maxHeartbeats 1000000 in
theorem typeOf10 (w : World) : Calls Tryz.prog 86 #[.int .i64 10] w fun e w' => e = .returned (.iface (qty 10) (.agg #[])) ∧ w' = w := by
  show Calls Tryz.prog 86 #[.int .i64 10] w fun e w' => e = .returned (.iface 174 (.agg #[])) ∧ w' = w
  go_enter Tryz.func86, Tryz.ntmps86
  go_wp2
  go_ret
  exact ⟨rfl, rfl⟩
set_option maxRecDepth 100000 in
set_option maxHeartbeats 1000000 in
theorem typeOf11 (w : World) : Calls Tryz.prog 86 #[.int .i64 11] w fun e w' => e = .returned (.iface (qty 11) (.agg #[])) ∧ w' = w := by
  show Calls Tryz.prog 86 #[.int .i64 11] w fun e w' => e = .returned (.iface 175 (.agg #[])) ∧ w' = w
  go_enter Tryz.func86, Tryz.ntmps86
  go_wp2
  go_ret
  exact ⟨rfl, rfl⟩
set_option maxRecDepth 100000 in
set_option maxHeartbeats 1000000 in
theorem typeOf12 (w : World) : Calls Tryz.prog 86 #[.int .i64 12] w fun e w' => e = .returned (.iface (qty 12) (.agg #[])) ∧ w' = w := by
  show Calls Tryz.prog 86 #[.int .i64 12] w fun e w' => e = .returned (.iface 176 (.agg #[])) ∧ w' = w
  go_enter Tryz.func86, Tryz.ntmps86
  go_wp2
  go_ret
  exact ⟨rfl, rfl⟩
set_option maxRecDepth 100000 in
set_option maxHeartbeats 1000000 in
theorem typeOf13 (w : World) : Calls Tryz.prog 86 #[.int .i64 13] w fun e w' => e = .returned (.iface (qty 13) (.agg #[])) ∧ w' = w := by
  show Calls Tryz.prog 86 #[.int .i64 13] w fun e w' => e = .returned (.iface 177 (.agg #[])) ∧ w' = w
  go_enter Tryz.func86, Tryz.ntmps86
  go_wp2
  go_ret
  exact ⟨rfl, rfl⟩
set_option maxRecDepth 100000 in
set_option maxHeartbeats 1000000 in
theorem typeOfNo (k : Int) (h : k < 1 ∨ 13 < k) (w : World) : Calls Tryz.prog 86 #[.int .i64 k] w fun e w' => e = .returned (.iface (qty k) (.agg #[])) ∧ w' = w := by
  have hq : qty k = 178 := by
    unfold qty
    rw [if_neg (show ¬ k = 1 by omega)]
    rw [if_neg (show ¬ k = 2 by omega)]
    rw [if_neg (show ¬ k = 3 by omega)]
    rw [if_neg (show ¬ k = 4 by omega)]
    rw [if_neg (show ¬ k = 5 by omega)]
    rw [if_neg (show ¬ k = 6 by omega)]
    rw [if_neg (show ¬ k = 7 by omega)]
    rw [if_neg (show ¬ k = 8 by omega)]
    rw [if_neg (show ¬ k = 9 by omega)]
    rw [if_neg (show ¬ k = 10 by omega)]
    rw [if_neg (show ¬ k = 11 by omega)]
    rw [if_neg (show ¬ k = 12 by omega)]
    rw [if_neg (show ¬ k = 13 by omega)]
  rw [hq]
  have h1 : (k == 1) = false := by simp; omega
  have h2 : (k == 2) = false := by simp; omega
  have h3 : (k == 3) = false := by simp; omega
  have h4 : (k == 4) = false := by simp; omega
  have h5 : (k == 5) = false := by simp; omega
  have h6 : (k == 6) = false := by simp; omega
  have h7 : (k == 7) = false := by simp; omega
  have h8 : (k == 8) = false := by simp; omega
  have h9 : (k == 9) = false := by simp; omega
  have h10 : (k == 10) = false := by simp; omega
  have h11 : (k == 11) = false := by simp; omega
  have h12 : (k == 12) = false := by simp; omega
  have h13 : (k == 13) = false := by simp; omega
  clear h hq
  go_enter Tryz.func86, Tryz.ntmps86
  go_wp2
  go_ret
  exact ⟨rfl, rfl⟩
theorem typeOf_any (k : Int) (w : World) : Calls Tryz.prog 86 #[.int .i64 k] w fun e w' => e = .returned (.iface (qty k) (.agg #[])) ∧ w' = w := by
  by_cases h : k < 1 ∨ 13 < k
  · exact typeOfNo k h w
  have hk : k = 1 ∨ k = 2 ∨ k = 3 ∨ k = 4 ∨ k = 5 ∨ k = 6 ∨ k = 7 ∨ k = 8 ∨ k = 9 ∨ k = 10 ∨ k = 11 ∨ k = 12 ∨ k = 13 := by omega
  rcases hk with rfl | rfl | rfl | rfl | rfl | rfl | rfl | rfl | rfl | rfl | rfl | rfl | rfl
  · exact typeOf1 w
  · exact typeOf2 w
  · exact typeOf3 w
  · exact typeOf4 w
  · exact typeOf5 w
  · exact typeOf6 w
  · exact typeOf7 w
  · exact typeOf8 w
  · exact typeOf9 w
  · exact typeOf10 w
  · exact typeOf11 w
  · exact typeOf12 w
  · exact typeOf13 w

set_option maxRecDepth 100000 in
set_option maxHeartbeats 1000000 in
theorem interfaceOf0 (w : World) : Calls Tryz.prog 87 #[.int .i64 0] w fun e w' => e = .returned (.agg #[.iface (qfc 0) (.agg #[]), .int .u8 (mbits 0)]) ∧ Below w.heap.size w w' := by
  show Calls Tryz.prog 87 #[.int .i64 0] w fun e w' => e = .returned (.agg #[.iface 179 (.agg #[]), .int .u8 1]) ∧ Below w.heap.size w w'
  go_enter Tryz.func87, Tryz.ntmps87
  go_wp2
  refine bodyPost_ret (v := .agg #[.iface 179 (.agg #[]), .int .u8 1]) (by simp [results, Tryz.results87, go_sem]) rfl ⟨rfl, ?_⟩
  exact below1 w _
set_option maxRecDepth 100000 in
set_option maxHeartbeats 1000000 in
theorem interfaceOf1 (w : World) : Calls Tryz.prog 87 #[.int .i64 1] w fun e w' => e = .returned (.agg #[.iface (qfc 1) (.agg #[]), .int .u8 (mbits 1)]) ∧ Below w.heap.size w w' := by
  show Calls Tryz.prog 87 #[.int .i64 1] w fun e w' => e = .returned (.agg #[.iface 180 (.agg #[]), .int .u8 2]) ∧ Below w.heap.size w w'
  go_enter Tryz.func87, Tryz.ntmps87
  go_wp2
  refine bodyPost_ret (v := .agg #[.iface 180 (.agg #[]), .int .u8 2]) (by simp [results, Tryz.results87, go_sem]) rfl ⟨rfl, ?_⟩
  exact below1 w _
set_option maxRecDepth 100000 in
set_option maxHeartbeats 1000000 in
theorem interfaceOf2 (w : World) : Calls Tryz.prog 87 #[.int .i64 2] w fun e w' => e = .returned (.agg #[.iface (qfc 2) (.agg #[]), .int .u8 (mbits 2)]) ∧ Below w.heap.size w w' := by
  show Calls Tryz.prog 87 #[.int .i64 2] w fun e w' => e = .returned (.agg #[.iface 181 (.agg #[]), .int .u8 4]) ∧ Below w.heap.size w w'
  go_enter Tryz.func87, Tryz.ntmps87
  go_wp2
  refine bodyPost_ret (v := .agg #[.iface 181 (.agg #[]), .int .u8 4]) (by simp [results, Tryz.results87, go_sem]) rfl ⟨rfl, ?_⟩
  exact below1 w _
set_option maxRecDepth 100000 in
set_option maxHeartbeats 1000000 in
theorem interfaceOf3 (w : World) : Calls Tryz.prog 87 #[.int .i64 3] w fun e w' => e = .returned (.agg #[.iface (qfc 3) (.agg #[]), .int .u8 (mbits 3)]) ∧ Below w.heap.size w w' := by
  show Calls Tryz.prog 87 #[.int .i64 3] w fun e w' => e = .returned (.agg #[.iface 182 (.agg #[]), .int .u8 8]) ∧ Below w.heap.size w w'
  go_enter Tryz.func87, Tryz.ntmps87
  go_wp2
  refine bodyPost_ret (v := .agg #[.iface 182 (.agg #[]), .int .u8 8]) (by simp [results, Tryz.results87, go_sem]) rfl ⟨rfl, ?_⟩
  exact below1 w _
set_option maxRecDepth 100000 in
set_option maxHeartbeats 1000000 in
theorem interfaceOf4 (w : World) : Calls Tryz.prog 87 #[.int .i64 4] w fun e w' => e = .returned (.agg #[.iface (qfc 4) (.agg #[]), .int .u8 (mbits 4)]) ∧ Below w.heap.size w w' := by
  show Calls Tryz.prog 87 #[.int .i64 4] w fun e w' => e = .returned (.agg #[.iface 183 (.agg #[]), .int .u8 16]) ∧ Below w.heap.size w w'
  go_enter Tryz.func87, Tryz.ntmps87
  go_wp2
  refine bodyPost_ret (v := .agg #[.iface 183 (.agg #[]), .int .u8 16]) (by simp [results, Tryz.results87, go_sem]) rfl ⟨rfl, ?_⟩
  exact below1 w _
set_option maxRecDepth 100000 in
set_option maxHeartbeats 1000000 in
theorem interfaceOf5 (w : World) : Calls Tryz.prog 87 #[.int .i64 5] w fun e w' => e = .returned (.agg #[.iface (qfc 5) (.agg #[]), .int .u8 (mbits 5)]) ∧ Below w.heap.size w w' := by
  show Calls Tryz.prog 87 #[.int .i64 5] w fun e w' => e = .returned (.agg #[.iface 184 (.agg #[]), .int .u8 32]) ∧ Below w.heap.size w w'
  go_enter Tryz.func87, Tryz.ntmps87
  go_wp2
  refine bodyPost_ret (v := .agg #[.iface 184 (.agg #[]), .int .u8 32]) (by simp [results, Tryz.results87, go_sem]) rfl ⟨rfl, ?_⟩
  exact below1 w _
set_option maxRecDepth 100000 in
set_option maxHeartbeats 1000000 in
theorem interfaceOf6 (w : World) : Calls Tryz.prog 87 #[.int .i64 6] w fun e w' => e = .returned (.agg #[.iface (qfc 6) (.agg #[]), .int .u8 (mbits 6)]) ∧ Below w.heap.size w w' := by
  show Calls Tryz.prog 87 #[.int .i64 6] w fun e w' => e = .returned (.agg #[.iface 185 (.agg #[]), .int .u8 3]) ∧ Below w.heap.size w w'
  go_enter Tryz.func87, Tryz.ntmps87
  go_wp2
  refine bodyPost_ret (v := .agg #[.iface 185 (.agg #[]), .int .u8 3]) (by simp [results, Tryz.results87, go_sem]) rfl ⟨rfl, ?_⟩
  exact below1 w _
set_option maxRecDepth 100000 in
set_option maxHeartbeats 1000000 in
theorem interfaceOf7 (w : World) : Calls Tryz.prog 87 #[.int .i64 7] w fun e w' => e = .returned (.agg #[.iface (qfc 7) (.agg #[]), .int .u8 (mbits 7)]) ∧ Below w.heap.size w w' := by
  show Calls Tryz.prog 87 #[.int .i64 7] w fun e w' => e = .returned (.agg #[.iface 186 (.agg #[]), .int .u8 17]) ∧ Below w.heap.size w w'
  go_enter Tryz.func87, Tryz.ntmps87
  go_wp2
  refine bodyPost_ret (v := .agg #[.iface 186 (.agg #[]), .int .u8 17]) (by simp [results, Tryz.results87, go_sem]) rfl ⟨rfl, ?_⟩
  exact below1 w _
set_option maxRecDepth 100000 in
set_option maxHeartbeats 1000000 in
theorem interfaceOf8 (w : World) : Calls Tryz.prog 87 #[.int .i64 8] w fun e w' => e = .returned (.agg #[.iface (qfc 8) (.agg #[]), .int .u8 (mbits 8)]) ∧ Below w.heap.size w w' := by
  show Calls Tryz.prog 87 #[.int .i64 8] w fun e w' => e = .returned (.agg #[.iface 187 (.agg #[]), .int .u8 48]) ∧ Below w.heap.size w w'
  go_enter Tryz.func87, Tryz.ntmps87
  go_wp2
  refine bodyPost_ret (v := .agg #[.iface 187 (.agg #[]), .int .u8 48]) (by simp [results, Tryz.results87, go_sem]) rfl ⟨rfl, ?_⟩
  exact below1 w _
set_option maxRecDepth 100000 in
set_option maxHeartbeats 1000000 in
theorem interfaceOf9 (w : World) : Calls Tryz.prog 87 #[.int .i64 9] w fun e w' => e = .returned (.agg #[.iface (qfc 9) (.agg #[]), .int .u8 (mbits 9)]) ∧ Below w.heap.size w w' := by
  show Calls Tryz.prog 87 #[.int .i64 9] w fun e w' => e = .returned (.agg #[.iface 188 (.agg #[]), .int .u8 19]) ∧ Below w.heap.size w w'
  go_enter Tryz.func87, Tryz.ntmps87
  go_wp2
  refine bodyPost_ret (v := .agg #[.iface 188 (.agg #[]), .int .u8 19]) (by simp [results, Tryz.results87, go_sem]) rfl ⟨rfl, ?_⟩
  exact below1 w _
set_option maxRecDepth 100000 in
set_option maxHeartbeats 1000000 in
theorem interfaceOfNo (f : Int) (h : f < 0 ∨ 9 < f) (w : World) : Calls Tryz.prog 87 #[.int .i64 f] w fun e w' => e = .returned (.agg #[.iface (qfc f) (.agg #[]), .int .u8 (mbits f)]) ∧ Below w.heap.size w w' := by
  have hq : qfc f = 178 := by
    unfold qfc
    rw [if_neg (show ¬ f = 0 by omega)]
    rw [if_neg (show ¬ f = 1 by omega)]
    rw [if_neg (show ¬ f = 2 by omega)]
    rw [if_neg (show ¬ f = 3 by omega)]
    rw [if_neg (show ¬ f = 4 by omega)]
    rw [if_neg (show ¬ f = 5 by omega)]
    rw [if_neg (show ¬ f = 6 by omega)]
    rw [if_neg (show ¬ f = 7 by omega)]
    rw [if_neg (show ¬ f = 8 by omega)]
    rw [if_neg (show ¬ f = 9 by omega)]
  have hm : mbits f = 0 := by
    unfold mbits
    rw [if_neg (show ¬ f = 0 by omega)]
    rw [if_neg (show ¬ f = 1 by omega)]
    rw [if_neg (show ¬ f = 2 by omega)]
    rw [if_neg (show ¬ f = 3 by omega)]
    rw [if_neg (show ¬ f = 4 by omega)]
    rw [if_neg (show ¬ f = 5 by omega)]
    rw [if_neg (show ¬ f = 6 by omega)]
    rw [if_neg (show ¬ f = 7 by omega)]
    rw [if_neg (show ¬ f = 8 by omega)]
    rw [if_neg (show ¬ f = 9 by omega)]
  rw [hq, hm]
  have h0 : (f == 0) = false := by simp; omega
  have h1 : (f == 1) = false := by simp; omega
  have h2 : (f == 2) = false := by simp; omega
  have h3 : (f == 3) = false := by simp; omega
  have h4 : (f == 4) = false := by simp; omega
  have h5 : (f == 5) = false := by simp; omega
  have h6 : (f == 6) = false := by simp; omega
  have h7 : (f == 7) = false := by simp; omega
  have h8 : (f == 8) = false := by simp; omega
  have h9 : (f == 9) = false := by simp; omega
  clear h hq hm
  go_enter Tryz.func87, Tryz.ntmps87
  go_wp2
  refine bodyPost_ret (v := .agg #[.iface 178 (.agg #[]), .int .u8 0]) (by simp [results, Tryz.results87, go_sem]) rfl ⟨rfl, ?_⟩
  exact below1 w _
theorem interfaceOf_any (f : Int) (w : World) : Calls Tryz.prog 87 #[.int .i64 f] w fun e w' => e = .returned (.agg #[.iface (qfc f) (.agg #[]), .int .u8 (mbits f)]) ∧ Below w.heap.size w w' := by
  by_cases h : f < 0 ∨ 9 < f
  · exact interfaceOfNo f h w
  have hk : f = 0 ∨ f = 1 ∨ f = 2 ∨ f = 3 ∨ f = 4 ∨ f = 5 ∨ f = 6 ∨ f = 7 ∨ f = 8 ∨ f = 9 := by omega
  rcases hk with rfl | rfl | rfl | rfl | rfl | rfl | rfl | rfl | rfl | rfl
  · exact interfaceOf0 w
  · exact interfaceOf1 w
  · exact interfaceOf2 w
  · exact interfaceOf3 w
  · exact interfaceOf4 w
  · exact interfaceOf5 w
  · exact interfaceOf6 w
  · exact interfaceOf7 w
  · exact interfaceOf8 w
  · exact interfaceOf9 w

theorem impl_none (k f : Int) (h : f < 0 ∨ 9 < f) : impl k f = false := by
  have : mths f = [] := by
    unfold mths
    rw [if_neg (show ¬ f = 0 by omega)]
    rw [if_neg (show ¬ f = 1 by omega)]
    rw [if_neg (show ¬ f = 2 by omega)]
    rw [if_neg (show ¬ f = 3 by omega)]
    rw [if_neg (show ¬ f = 4 by omega)]
    rw [if_neg (show ¬ f = 5 by omega)]
    rw [if_neg (show ¬ f = 6 by omega)]
    rw [if_neg (show ¬ f = 7 by omega)]
    rw [if_neg (show ¬ f = 8 by omega)]
    rw [if_neg (show ¬ f = 9 by omega)]
  unfold impl
  rw [this]
  simp

end Go.Proofs.YtkgbpildikjoiaaGreatDoor
