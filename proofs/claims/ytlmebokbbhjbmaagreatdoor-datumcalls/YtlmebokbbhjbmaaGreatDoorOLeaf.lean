/- What the package's inner value makes of the kinds that have an order, and what its Less answers of two values of one such kind; each theorem names its conditions. -/
import Derived.Test.YtlmebokbbhjbmaaGreatDoorDRv
import Derived.Deep.RegionHeld3
namespace Go.Proofs.YtlmebokbbhjbmaaGreatDoor.Dt
open Go.RowKit

theorem frombits (u : Int) (w : World) : (callFunc 31 #[.int .u64 u]).run Tryz.prog w = .ok (.value (.float .f64 u.toNat)) w := by kernel_rfl

set_option maxRecDepth 100000 in
set_option maxHeartbeats 1000000 in
theorem odLeaf1 (r : Option Nat) (i u : Int) (s : ByteArray) (ad : Option Addr) (len cap : Nat) (w : World) :
    Calls Tryz.prog 36 #[.agg #[.map r], .agg #[.int .i64 1, .int .i64 i, .int .u64 u, .string s, .slice ad len cap]] w fun e w' => e = .returned (.iface 95 (.int .i64 i)) ∧ Below w.heap.size w w' := by
  have hf := frombits u
  go_enter Tryz.func36, Tryz.ntmps36
  go_wp2
  go_ret
  exact ⟨rfl, ((Below.refl _ w).alloc (Nat.le_refl _) _).alloc (by simp) _⟩

set_option maxRecDepth 100000 in
set_option maxHeartbeats 1000000 in
theorem odVal1 (i u : Int) (s : ByteArray) (ad : Option Addr) (len cap : Nat) (w : World) :
    Calls Tryz.prog 24 #[.agg #[.int .i64 1, .int .i64 i, .int .u64 u, .string s, .slice ad len cap]] w fun e w' => e = .returned (.iface 95 (.int .i64 i)) ∧ Below w.heap.size w w' := by
  go_enter Tryz.func24, Tryz.ntmps24
  go_wp2_with fail
  refine (odLeaf1 none i u s ad len cap _).mono ?_
  rintro e w1 ⟨rfl, b1⟩
  go_wp2
  go_ret
  exact ⟨rfl, ((Below.refl _ w).alloc (Nat.le_refl _) _).trans (b1.mono (by simp))⟩

theorem odLessat1 (i j : Int) (w : World) : Calls Tryz.prog 121 #[.int .i64 i, .iface 95 (.int .i64 j)] w fun e w' => e = .returned (.tuple #[.bool (decide (i < j)), .int .i64 0]) ∧ w' = w := by
  have h1 : ∀ w : World, (Instr.typeAssert (.iface 95 (.int .i64 j)) 20 95 true).run Tryz.prog w = .ok (.tuple #[.int .i64 j, .bool true]) w := fun _ => by kernel_rfl
  by_cases h : i < j
  · have e : decide (i < j) = true := by simpa using h
    rw [e]
    go_enter Tryz.func121, Tryz.ntmps121
    go_wp2
    go_ret2
    exact ⟨rfl, rfl⟩
  · have e : decide (i < j) = false := by simpa using h
    rw [e]
    go_enter Tryz.func121, Tryz.ntmps121
    go_wp2
    go_ret2
    exact ⟨rfl, rfl⟩

set_option maxRecDepth 100000 in
set_option maxHeartbeats 2000000 in
theorem odLess1 (i u j v : Int) (s z : ByteArray) (ad bd : Option Addr) (len cap len' cap' : Nat) (w : World) :
    Calls Tryz.prog 15 #[.agg #[.int .i64 1, .int .i64 i, .int .u64 u, .string s, .slice ad len cap], .agg #[.int .i64 1, .int .i64 j, .int .u64 v, .string z, .slice bd len' cap']] w fun e w' => e = .returned (.tuple #[.bool (decide (i < j)), .int .i64 0]) ∧ Below w.heap.size w w' := by
  have h1 : ∀ w : World, (Instr.typeAssert (.iface 95 (.int .i64 i)) 20 71 true).run Tryz.prog w = .ok (.tuple #[.iface 95 (.int .i64 i), .bool true]) w := fun _ => by kernel_rfl
  have hmf : ∀ (fn : Fn) (first cap : Array Value) (w : World), (Instr.makeFunc fn first cap).run Tryz.prog w = .ok (.func fn first cap) w := fun _ _ _ _ => rfl
  have hna : ∀ w : World, (nilAhead 323 95 (.int .i64 i) "Less").run Tryz.prog w = .ok (some false) w := fun _ => by kernel_rfl
  have hme : ∀ w : World, (method 323 95 (.int .i64 i) "Less").run Tryz.prog w = .ok (121, .int .i64 i) w := fun _ => by kernel_rfl
  have b0 : ∀ o1 o2 : Obj, Below w.heap.size w ((w.alloc o1).alloc o2) := fun o1 o2 => ((Below.refl _ w).alloc (Nat.le_refl _) _).alloc (by simp) _
  have db := D5.new (w.alloc (.cells #[.int .i64 1, .int .i64 i, .int .u64 u, .string s, .slice ad len cap] 25)) (.int .i64 1) (.int .i64 j) (.int .u64 v) (.string z) (.slice bd len' cap')
  rw [World.size_alloc] at db
  go_enter Tryz.func15, Tryz.ntmps15
  go_wp2_with fail
  refine (odVal1 i u s ad len cap _).mono ?_
  rintro e w1 ⟨rfl, b1⟩
  have d1 := db.kept (b := w.heap.size) (grown_below b1) (by omega)
  obtain ⟨k0, k1, k2, k3, k4⟩ := d1.c
  have B1 := (b0 _ _).trans (b1.mono (by simp; omega))
  clear db b1 b0
  have hz : w.heap.size + 1 < w1.heap.size := d1.lt
  have KS : Hid (∀ w' : World, Below w1.heap.size w1 w' → w'.cell? ⟨w.heap.size + 1, 0, none⟩ = some (.int .i64 1) ∧ w'.cell? ⟨w.heap.size + 1, 1, none⟩ = some (.int .i64 j) ∧ w'.cell? ⟨w.heap.size + 1, 2, none⟩ = some (.int .u64 v) ∧ w'.cell? ⟨w.heap.size + 1, 3, none⟩ = some (.string z) ∧ w'.cell? ⟨w.heap.size + 1, 4, none⟩ = some (.slice bd len' cap')) := fun w' h' => ⟨(h'.cell (p := ⟨w.heap.size + 1, 0, none⟩) hz).trans k0, (h'.cell (p := ⟨w.heap.size + 1, 1, none⟩) hz).trans k1, (h'.cell (p := ⟨w.heap.size + 1, 2, none⟩) hz).trans k2, (h'.cell (p := ⟨w.heap.size + 1, 3, none⟩) hz).trans k3, (h'.cell (p := ⟨w.heap.size + 1, 4, none⟩) hz).trans k4⟩
  have KC : Hid (Calls Tryz.prog 24 #[.agg #[.int .i64 1, .int .i64 j, .int .u64 v, .string z, .slice bd len' cap']] w1.drew fun e w' => e = .returned (.iface 95 (.int .i64 j)) ∧ Below w1.heap.size w1 w') :=
    (odVal1 j v z bd len' cap' w1.drew).mono fun e w' ⟨he, hb'⟩ => ⟨he, (Below.drew (Below.refl _ w1)).trans hb'⟩
  clear d1
  go_wp2_with fail
  go_region_held3 (fun w' => w'.cell? ⟨w.heap.size + 1, 0, none⟩ = some (.int .i64 1) ∧ w'.cell? ⟨w.heap.size + 1, 1, none⟩ = some (.int .i64 j) ∧ w'.cell? ⟨w.heap.size + 1, 2, none⟩ = some (.int .u64 v) ∧ w'.cell? ⟨w.heap.size + 1, 3, none⟩ = some (.string z) ∧ w'.cell? ⟨w.heap.size + 1, 4, none⟩ = some (.slice bd len' cap')) (first | go_keep | exact KS.out _ (by assumption)) (first | (go_at_call 24; refine KC.out.mono ?_; rintro e w2 ⟨rfl, b2⟩) | (go_at_call 121; refine (odLessat1 _ _ _).mono ?_; rintro e w3 ⟨rfl, hw3⟩; subst hw3))
  all_goals go_wp2
  all_goals go_ret2
  all_goals exact ⟨rfl, B1.trans (b2.mono B1.size)⟩

set_option maxRecDepth 100000 in
set_option maxHeartbeats 1000000 in
theorem odLeaf2 (r : Option Nat) (i u : Int) (s : ByteArray) (ad : Option Addr) (len cap : Nat) (w : World) :
    Calls Tryz.prog 36 #[.agg #[.map r], .agg #[.int .i64 2, .int .i64 i, .int .u64 u, .string s, .slice ad len cap]] w fun e w' => e = .returned (.iface 96 (.int .i64 i)) ∧ Below w.heap.size w w' := by
  have hf := frombits u
  go_enter Tryz.func36, Tryz.ntmps36
  go_wp2
  go_ret
  exact ⟨rfl, ((Below.refl _ w).alloc (Nat.le_refl _) _).alloc (by simp) _⟩

set_option maxRecDepth 100000 in
set_option maxHeartbeats 1000000 in
theorem odVal2 (i u : Int) (s : ByteArray) (ad : Option Addr) (len cap : Nat) (w : World) :
    Calls Tryz.prog 24 #[.agg #[.int .i64 2, .int .i64 i, .int .u64 u, .string s, .slice ad len cap]] w fun e w' => e = .returned (.iface 96 (.int .i64 i)) ∧ Below w.heap.size w w' := by
  go_enter Tryz.func24, Tryz.ntmps24
  go_wp2_with fail
  refine (odLeaf2 none i u s ad len cap _).mono ?_
  rintro e w1 ⟨rfl, b1⟩
  go_wp2
  go_ret
  exact ⟨rfl, ((Below.refl _ w).alloc (Nat.le_refl _) _).trans (b1.mono (by simp))⟩

theorem odLessat2 (i j : Int) (w : World) : Calls Tryz.prog 123 #[.int .i64 i, .iface 96 (.int .i64 j)] w fun e w' => e = .returned (.tuple #[.bool (decide (i < j)), .int .i64 0]) ∧ w' = w := by
  have h1 : ∀ w : World, (Instr.typeAssert (.iface 96 (.int .i64 j)) 20 96 true).run Tryz.prog w = .ok (.tuple #[.int .i64 j, .bool true]) w := fun _ => by kernel_rfl
  by_cases h : i < j
  · have e : decide (i < j) = true := by simpa using h
    rw [e]
    go_enter Tryz.func123, Tryz.ntmps123
    go_wp2
    go_ret2
    exact ⟨rfl, rfl⟩
  · have e : decide (i < j) = false := by simpa using h
    rw [e]
    go_enter Tryz.func123, Tryz.ntmps123
    go_wp2
    go_ret2
    exact ⟨rfl, rfl⟩

set_option maxRecDepth 100000 in
set_option maxHeartbeats 2000000 in
theorem odLess2 (i u j v : Int) (s z : ByteArray) (ad bd : Option Addr) (len cap len' cap' : Nat) (w : World) :
    Calls Tryz.prog 15 #[.agg #[.int .i64 2, .int .i64 i, .int .u64 u, .string s, .slice ad len cap], .agg #[.int .i64 2, .int .i64 j, .int .u64 v, .string z, .slice bd len' cap']] w fun e w' => e = .returned (.tuple #[.bool (decide (i < j)), .int .i64 0]) ∧ Below w.heap.size w w' := by
  have h1 : ∀ w : World, (Instr.typeAssert (.iface 96 (.int .i64 i)) 20 71 true).run Tryz.prog w = .ok (.tuple #[.iface 96 (.int .i64 i), .bool true]) w := fun _ => by kernel_rfl
  have hmf : ∀ (fn : Fn) (first cap : Array Value) (w : World), (Instr.makeFunc fn first cap).run Tryz.prog w = .ok (.func fn first cap) w := fun _ _ _ _ => rfl
  have hna : ∀ w : World, (nilAhead 323 96 (.int .i64 i) "Less").run Tryz.prog w = .ok (some false) w := fun _ => by kernel_rfl
  have hme : ∀ w : World, (method 323 96 (.int .i64 i) "Less").run Tryz.prog w = .ok (123, .int .i64 i) w := fun _ => by kernel_rfl
  have b0 : ∀ o1 o2 : Obj, Below w.heap.size w ((w.alloc o1).alloc o2) := fun o1 o2 => ((Below.refl _ w).alloc (Nat.le_refl _) _).alloc (by simp) _
  have db := D5.new (w.alloc (.cells #[.int .i64 2, .int .i64 i, .int .u64 u, .string s, .slice ad len cap] 25)) (.int .i64 2) (.int .i64 j) (.int .u64 v) (.string z) (.slice bd len' cap')
  rw [World.size_alloc] at db
  go_enter Tryz.func15, Tryz.ntmps15
  go_wp2_with fail
  refine (odVal2 i u s ad len cap _).mono ?_
  rintro e w1 ⟨rfl, b1⟩
  have d1 := db.kept (b := w.heap.size) (grown_below b1) (by omega)
  obtain ⟨k0, k1, k2, k3, k4⟩ := d1.c
  have B1 := (b0 _ _).trans (b1.mono (by simp; omega))
  clear db b1 b0
  have hz : w.heap.size + 1 < w1.heap.size := d1.lt
  have KS : Hid (∀ w' : World, Below w1.heap.size w1 w' → w'.cell? ⟨w.heap.size + 1, 0, none⟩ = some (.int .i64 2) ∧ w'.cell? ⟨w.heap.size + 1, 1, none⟩ = some (.int .i64 j) ∧ w'.cell? ⟨w.heap.size + 1, 2, none⟩ = some (.int .u64 v) ∧ w'.cell? ⟨w.heap.size + 1, 3, none⟩ = some (.string z) ∧ w'.cell? ⟨w.heap.size + 1, 4, none⟩ = some (.slice bd len' cap')) := fun w' h' => ⟨(h'.cell (p := ⟨w.heap.size + 1, 0, none⟩) hz).trans k0, (h'.cell (p := ⟨w.heap.size + 1, 1, none⟩) hz).trans k1, (h'.cell (p := ⟨w.heap.size + 1, 2, none⟩) hz).trans k2, (h'.cell (p := ⟨w.heap.size + 1, 3, none⟩) hz).trans k3, (h'.cell (p := ⟨w.heap.size + 1, 4, none⟩) hz).trans k4⟩
  have KC : Hid (Calls Tryz.prog 24 #[.agg #[.int .i64 2, .int .i64 j, .int .u64 v, .string z, .slice bd len' cap']] w1.drew fun e w' => e = .returned (.iface 96 (.int .i64 j)) ∧ Below w1.heap.size w1 w') :=
    (odVal2 j v z bd len' cap' w1.drew).mono fun e w' ⟨he, hb'⟩ => ⟨he, (Below.drew (Below.refl _ w1)).trans hb'⟩
  clear d1
  go_wp2_with fail
  go_region_held3 (fun w' => w'.cell? ⟨w.heap.size + 1, 0, none⟩ = some (.int .i64 2) ∧ w'.cell? ⟨w.heap.size + 1, 1, none⟩ = some (.int .i64 j) ∧ w'.cell? ⟨w.heap.size + 1, 2, none⟩ = some (.int .u64 v) ∧ w'.cell? ⟨w.heap.size + 1, 3, none⟩ = some (.string z) ∧ w'.cell? ⟨w.heap.size + 1, 4, none⟩ = some (.slice bd len' cap')) (first | go_keep | exact KS.out _ (by assumption)) (first | (go_at_call 24; refine KC.out.mono ?_; rintro e w2 ⟨rfl, b2⟩) | (go_at_call 123; refine (odLessat2 _ _ _).mono ?_; rintro e w3 ⟨rfl, hw3⟩; subst hw3))
  all_goals go_wp2
  all_goals go_ret2
  all_goals exact ⟨rfl, B1.trans (b2.mono B1.size)⟩

set_option maxRecDepth 100000 in
set_option maxHeartbeats 1000000 in
theorem odLeaf3 (r : Option Nat) (i u : Int) (s : ByteArray) (ad : Option Addr) (len cap : Nat) (w : World) :
    Calls Tryz.prog 36 #[.agg #[.map r], .agg #[.int .i64 3, .int .i64 i, .int .u64 u, .string s, .slice ad len cap]] w fun e w' => e = .returned (.iface 97 (.float .f64 u.toNat)) ∧ Below w.heap.size w w' := by
  have hf := frombits u
  go_enter Tryz.func36, Tryz.ntmps36
  go_wp2
  go_ret
  exact ⟨rfl, ((Below.refl _ w).alloc (Nat.le_refl _) _).alloc (by simp) _⟩

set_option maxRecDepth 100000 in
set_option maxHeartbeats 1000000 in
theorem odVal3 (i u : Int) (s : ByteArray) (ad : Option Addr) (len cap : Nat) (w : World) :
    Calls Tryz.prog 24 #[.agg #[.int .i64 3, .int .i64 i, .int .u64 u, .string s, .slice ad len cap]] w fun e w' => e = .returned (.iface 97 (.float .f64 u.toNat)) ∧ Below w.heap.size w w' := by
  go_enter Tryz.func24, Tryz.ntmps24
  go_wp2_with fail
  refine (odLeaf3 none i u s ad len cap _).mono ?_
  rintro e w1 ⟨rfl, b1⟩
  go_wp2
  go_ret
  exact ⟨rfl, ((Below.refl _ w).alloc (Nat.le_refl _) _).trans (b1.mono (by simp))⟩

theorem odLessat3 (u v : Int) (w : World) : Calls Tryz.prog 127 #[.float .f64 u.toNat, .iface 97 (.float .f64 v.toNat)] w fun e w' => e = .returned (.tuple #[.bool (FloatKind.f64.format.order u.toNat v.toNat == some .lt), .int .i64 0]) ∧ w' = w := by
  have h1 : ∀ w : World, (Instr.typeAssert (.iface 97 (.float .f64 v.toNat)) 20 97 true).run Tryz.prog w = .ok (.tuple #[.float .f64 v.toNat, .bool true]) w := fun _ => by kernel_rfl
  go_enter Tryz.func127, Tryz.ntmps127
  go_wp2
  go_ret2
  exact ⟨rfl, rfl⟩

set_option maxRecDepth 100000 in
set_option maxHeartbeats 2000000 in
theorem odLess3 (i u j v : Int) (s z : ByteArray) (ad bd : Option Addr) (len cap len' cap' : Nat) (w : World) :
    Calls Tryz.prog 15 #[.agg #[.int .i64 3, .int .i64 i, .int .u64 u, .string s, .slice ad len cap], .agg #[.int .i64 3, .int .i64 j, .int .u64 v, .string z, .slice bd len' cap']] w fun e w' => e = .returned (.tuple #[.bool (FloatKind.f64.format.order u.toNat v.toNat == some .lt), .int .i64 0]) ∧ Below w.heap.size w w' := by
  have h1 : ∀ w : World, (Instr.typeAssert (.iface 97 (.float .f64 u.toNat)) 20 71 true).run Tryz.prog w = .ok (.tuple #[.iface 97 (.float .f64 u.toNat), .bool true]) w := fun _ => by kernel_rfl
  have hmf : ∀ (fn : Fn) (first cap : Array Value) (w : World), (Instr.makeFunc fn first cap).run Tryz.prog w = .ok (.func fn first cap) w := fun _ _ _ _ => rfl
  have hna : ∀ w : World, (nilAhead 323 97 (.float .f64 u.toNat) "Less").run Tryz.prog w = .ok (some false) w := fun _ => by kernel_rfl
  have hme : ∀ w : World, (method 323 97 (.float .f64 u.toNat) "Less").run Tryz.prog w = .ok (127, .float .f64 u.toNat) w := fun _ => by kernel_rfl
  have b0 : ∀ o1 o2 : Obj, Below w.heap.size w ((w.alloc o1).alloc o2) := fun o1 o2 => ((Below.refl _ w).alloc (Nat.le_refl _) _).alloc (by simp) _
  have db := D5.new (w.alloc (.cells #[.int .i64 3, .int .i64 i, .int .u64 u, .string s, .slice ad len cap] 25)) (.int .i64 3) (.int .i64 j) (.int .u64 v) (.string z) (.slice bd len' cap')
  rw [World.size_alloc] at db
  go_enter Tryz.func15, Tryz.ntmps15
  go_wp2_with fail
  refine (odVal3 i u s ad len cap _).mono ?_
  rintro e w1 ⟨rfl, b1⟩
  have d1 := db.kept (b := w.heap.size) (grown_below b1) (by omega)
  obtain ⟨k0, k1, k2, k3, k4⟩ := d1.c
  have B1 := (b0 _ _).trans (b1.mono (by simp; omega))
  clear db b1 b0
  have hz : w.heap.size + 1 < w1.heap.size := d1.lt
  have KS : Hid (∀ w' : World, Below w1.heap.size w1 w' → w'.cell? ⟨w.heap.size + 1, 0, none⟩ = some (.int .i64 3) ∧ w'.cell? ⟨w.heap.size + 1, 1, none⟩ = some (.int .i64 j) ∧ w'.cell? ⟨w.heap.size + 1, 2, none⟩ = some (.int .u64 v) ∧ w'.cell? ⟨w.heap.size + 1, 3, none⟩ = some (.string z) ∧ w'.cell? ⟨w.heap.size + 1, 4, none⟩ = some (.slice bd len' cap')) := fun w' h' => ⟨(h'.cell (p := ⟨w.heap.size + 1, 0, none⟩) hz).trans k0, (h'.cell (p := ⟨w.heap.size + 1, 1, none⟩) hz).trans k1, (h'.cell (p := ⟨w.heap.size + 1, 2, none⟩) hz).trans k2, (h'.cell (p := ⟨w.heap.size + 1, 3, none⟩) hz).trans k3, (h'.cell (p := ⟨w.heap.size + 1, 4, none⟩) hz).trans k4⟩
  have KC : Hid (Calls Tryz.prog 24 #[.agg #[.int .i64 3, .int .i64 j, .int .u64 v, .string z, .slice bd len' cap']] w1.drew fun e w' => e = .returned (.iface 97 (.float .f64 v.toNat)) ∧ Below w1.heap.size w1 w') :=
    (odVal3 j v z bd len' cap' w1.drew).mono fun e w' ⟨he, hb'⟩ => ⟨he, (Below.drew (Below.refl _ w1)).trans hb'⟩
  clear d1
  go_wp2_with fail
  go_region_held3 (fun w' => w'.cell? ⟨w.heap.size + 1, 0, none⟩ = some (.int .i64 3) ∧ w'.cell? ⟨w.heap.size + 1, 1, none⟩ = some (.int .i64 j) ∧ w'.cell? ⟨w.heap.size + 1, 2, none⟩ = some (.int .u64 v) ∧ w'.cell? ⟨w.heap.size + 1, 3, none⟩ = some (.string z) ∧ w'.cell? ⟨w.heap.size + 1, 4, none⟩ = some (.slice bd len' cap')) (first | go_keep | exact KS.out _ (by assumption)) (first | (go_at_call 24; refine KC.out.mono ?_; rintro e w2 ⟨rfl, b2⟩) | (go_at_call 127; refine (odLessat3 _ _ _).mono ?_; rintro e w3 ⟨rfl, hw3⟩; subst hw3))
  all_goals go_wp2
  all_goals go_ret2
  all_goals exact ⟨rfl, B1.trans (b2.mono B1.size)⟩

set_option maxRecDepth 100000 in
set_option maxHeartbeats 1000000 in
theorem odLeaf4 (r : Option Nat) (i u : Int) (s : ByteArray) (ad : Option Addr) (len cap : Nat) (w : World) :
    Calls Tryz.prog 36 #[.agg #[.map r], .agg #[.int .i64 4, .int .i64 i, .int .u64 u, .string s, .slice ad len cap]] w fun e w' => e = .returned (.iface 98 (.string s)) ∧ Below w.heap.size w w' := by
  have hf := frombits u
  go_enter Tryz.func36, Tryz.ntmps36
  go_wp2
  go_ret
  exact ⟨rfl, ((Below.refl _ w).alloc (Nat.le_refl _) _).alloc (by simp) _⟩

set_option maxRecDepth 100000 in
set_option maxHeartbeats 1000000 in
theorem odVal4 (i u : Int) (s : ByteArray) (ad : Option Addr) (len cap : Nat) (w : World) :
    Calls Tryz.prog 24 #[.agg #[.int .i64 4, .int .i64 i, .int .u64 u, .string s, .slice ad len cap]] w fun e w' => e = .returned (.iface 98 (.string s)) ∧ Below w.heap.size w w' := by
  go_enter Tryz.func24, Tryz.ntmps24
  go_wp2_with fail
  refine (odLeaf4 none i u s ad len cap _).mono ?_
  rintro e w1 ⟨rfl, b1⟩
  go_wp2
  go_ret
  exact ⟨rfl, ((Below.refl _ w).alloc (Nat.le_refl _) _).trans (b1.mono (by simp))⟩

theorem odLessat4 (s z : ByteArray) (w : World) : Calls Tryz.prog 130 #[.string s, .iface 98 (.string z)] w fun e w' => e = .returned (.tuple #[.bool (Op.bytesLess s.toList z.toList), .int .i64 0]) ∧ w' = w := by
  have h1 : ∀ w : World, (Instr.typeAssert (.iface 98 (.string z)) 20 98 true).run Tryz.prog w = .ok (.tuple #[.string z, .bool true]) w := fun _ => by kernel_rfl
  go_enter Tryz.func130, Tryz.ntmps130
  go_wp2
  go_ret2
  exact ⟨rfl, rfl⟩

set_option maxRecDepth 100000 in
set_option maxHeartbeats 2000000 in
theorem odLess4 (i u j v : Int) (s z : ByteArray) (ad bd : Option Addr) (len cap len' cap' : Nat) (w : World) :
    Calls Tryz.prog 15 #[.agg #[.int .i64 4, .int .i64 i, .int .u64 u, .string s, .slice ad len cap], .agg #[.int .i64 4, .int .i64 j, .int .u64 v, .string z, .slice bd len' cap']] w fun e w' => e = .returned (.tuple #[.bool (Op.bytesLess s.toList z.toList), .int .i64 0]) ∧ Below w.heap.size w w' := by
  have h1 : ∀ w : World, (Instr.typeAssert (.iface 98 (.string s)) 20 71 true).run Tryz.prog w = .ok (.tuple #[.iface 98 (.string s), .bool true]) w := fun _ => by kernel_rfl
  have hmf : ∀ (fn : Fn) (first cap : Array Value) (w : World), (Instr.makeFunc fn first cap).run Tryz.prog w = .ok (.func fn first cap) w := fun _ _ _ _ => rfl
  have hna : ∀ w : World, (nilAhead 323 98 (.string s) "Less").run Tryz.prog w = .ok (some false) w := fun _ => by kernel_rfl
  have hme : ∀ w : World, (method 323 98 (.string s) "Less").run Tryz.prog w = .ok (130, .string s) w := fun _ => by kernel_rfl
  have b0 : ∀ o1 o2 : Obj, Below w.heap.size w ((w.alloc o1).alloc o2) := fun o1 o2 => ((Below.refl _ w).alloc (Nat.le_refl _) _).alloc (by simp) _
  have db := D5.new (w.alloc (.cells #[.int .i64 4, .int .i64 i, .int .u64 u, .string s, .slice ad len cap] 25)) (.int .i64 4) (.int .i64 j) (.int .u64 v) (.string z) (.slice bd len' cap')
  rw [World.size_alloc] at db
  go_enter Tryz.func15, Tryz.ntmps15
  go_wp2_with fail
  refine (odVal4 i u s ad len cap _).mono ?_
  rintro e w1 ⟨rfl, b1⟩
  have d1 := db.kept (b := w.heap.size) (grown_below b1) (by omega)
  obtain ⟨k0, k1, k2, k3, k4⟩ := d1.c
  have B1 := (b0 _ _).trans (b1.mono (by simp; omega))
  clear db b1 b0
  have hz : w.heap.size + 1 < w1.heap.size := d1.lt
  have KS : Hid (∀ w' : World, Below w1.heap.size w1 w' → w'.cell? ⟨w.heap.size + 1, 0, none⟩ = some (.int .i64 4) ∧ w'.cell? ⟨w.heap.size + 1, 1, none⟩ = some (.int .i64 j) ∧ w'.cell? ⟨w.heap.size + 1, 2, none⟩ = some (.int .u64 v) ∧ w'.cell? ⟨w.heap.size + 1, 3, none⟩ = some (.string z) ∧ w'.cell? ⟨w.heap.size + 1, 4, none⟩ = some (.slice bd len' cap')) := fun w' h' => ⟨(h'.cell (p := ⟨w.heap.size + 1, 0, none⟩) hz).trans k0, (h'.cell (p := ⟨w.heap.size + 1, 1, none⟩) hz).trans k1, (h'.cell (p := ⟨w.heap.size + 1, 2, none⟩) hz).trans k2, (h'.cell (p := ⟨w.heap.size + 1, 3, none⟩) hz).trans k3, (h'.cell (p := ⟨w.heap.size + 1, 4, none⟩) hz).trans k4⟩
  have KC : Hid (Calls Tryz.prog 24 #[.agg #[.int .i64 4, .int .i64 j, .int .u64 v, .string z, .slice bd len' cap']] w1.drew fun e w' => e = .returned (.iface 98 (.string z)) ∧ Below w1.heap.size w1 w') :=
    (odVal4 j v z bd len' cap' w1.drew).mono fun e w' ⟨he, hb'⟩ => ⟨he, (Below.drew (Below.refl _ w1)).trans hb'⟩
  clear d1
  go_wp2_with fail
  go_region_held3 (fun w' => w'.cell? ⟨w.heap.size + 1, 0, none⟩ = some (.int .i64 4) ∧ w'.cell? ⟨w.heap.size + 1, 1, none⟩ = some (.int .i64 j) ∧ w'.cell? ⟨w.heap.size + 1, 2, none⟩ = some (.int .u64 v) ∧ w'.cell? ⟨w.heap.size + 1, 3, none⟩ = some (.string z) ∧ w'.cell? ⟨w.heap.size + 1, 4, none⟩ = some (.slice bd len' cap')) (first | go_keep | exact KS.out _ (by assumption)) (first | (go_at_call 24; refine KC.out.mono ?_; rintro e w2 ⟨rfl, b2⟩) | (go_at_call 130; refine (odLessat4 _ _ _).mono ?_; rintro e w3 ⟨rfl, hw3⟩; subst hw3))
  all_goals go_wp2
  all_goals go_ret2
  all_goals exact ⟨rfl, B1.trans (b2.mono B1.size)⟩

set_option maxRecDepth 100000 in
set_option maxHeartbeats 1000000 in
theorem odLeaf5 (r : Option Nat) (i u : Int) (s : ByteArray) (ad : Option Addr) (len cap : Nat) (w : World) :
    Calls Tryz.prog 36 #[.agg #[.map r], .agg #[.int .i64 5, .int .i64 i, .int .u64 u, .string s, .slice ad len cap]] w fun e w' => e = .returned (.iface 99 (.string s)) ∧ Below w.heap.size w w' := by
  have hf := frombits u
  go_enter Tryz.func36, Tryz.ntmps36
  go_wp2
  go_ret
  exact ⟨rfl, ((Below.refl _ w).alloc (Nat.le_refl _) _).alloc (by simp) _⟩

set_option maxRecDepth 100000 in
set_option maxHeartbeats 1000000 in
theorem odVal5 (i u : Int) (s : ByteArray) (ad : Option Addr) (len cap : Nat) (w : World) :
    Calls Tryz.prog 24 #[.agg #[.int .i64 5, .int .i64 i, .int .u64 u, .string s, .slice ad len cap]] w fun e w' => e = .returned (.iface 99 (.string s)) ∧ Below w.heap.size w w' := by
  go_enter Tryz.func24, Tryz.ntmps24
  go_wp2_with fail
  refine (odLeaf5 none i u s ad len cap _).mono ?_
  rintro e w1 ⟨rfl, b1⟩
  go_wp2
  go_ret
  exact ⟨rfl, ((Below.refl _ w).alloc (Nat.le_refl _) _).trans (b1.mono (by simp))⟩

theorem odLessat5 (s z : ByteArray) (w : World) : Calls Tryz.prog 133 #[.string s, .iface 99 (.string z)] w fun e w' => e = .returned (.tuple #[.bool (Op.bytesLess s.toList z.toList), .int .i64 0]) ∧ w' = w := by
  have h1 : ∀ w : World, (Instr.typeAssert (.iface 99 (.string z)) 20 99 true).run Tryz.prog w = .ok (.tuple #[.string z, .bool true]) w := fun _ => by kernel_rfl
  go_enter Tryz.func133, Tryz.ntmps133
  go_wp2
  go_ret2
  exact ⟨rfl, rfl⟩

set_option maxRecDepth 100000 in
set_option maxHeartbeats 2000000 in
theorem odLess5 (i u j v : Int) (s z : ByteArray) (ad bd : Option Addr) (len cap len' cap' : Nat) (w : World) :
    Calls Tryz.prog 15 #[.agg #[.int .i64 5, .int .i64 i, .int .u64 u, .string s, .slice ad len cap], .agg #[.int .i64 5, .int .i64 j, .int .u64 v, .string z, .slice bd len' cap']] w fun e w' => e = .returned (.tuple #[.bool (Op.bytesLess s.toList z.toList), .int .i64 0]) ∧ Below w.heap.size w w' := by
  have h1 : ∀ w : World, (Instr.typeAssert (.iface 99 (.string s)) 20 71 true).run Tryz.prog w = .ok (.tuple #[.iface 99 (.string s), .bool true]) w := fun _ => by kernel_rfl
  have hmf : ∀ (fn : Fn) (first cap : Array Value) (w : World), (Instr.makeFunc fn first cap).run Tryz.prog w = .ok (.func fn first cap) w := fun _ _ _ _ => rfl
  have hna : ∀ w : World, (nilAhead 323 99 (.string s) "Less").run Tryz.prog w = .ok (some false) w := fun _ => by kernel_rfl
  have hme : ∀ w : World, (method 323 99 (.string s) "Less").run Tryz.prog w = .ok (133, .string s) w := fun _ => by kernel_rfl
  have b0 : ∀ o1 o2 : Obj, Below w.heap.size w ((w.alloc o1).alloc o2) := fun o1 o2 => ((Below.refl _ w).alloc (Nat.le_refl _) _).alloc (by simp) _
  have db := D5.new (w.alloc (.cells #[.int .i64 5, .int .i64 i, .int .u64 u, .string s, .slice ad len cap] 25)) (.int .i64 5) (.int .i64 j) (.int .u64 v) (.string z) (.slice bd len' cap')
  rw [World.size_alloc] at db
  go_enter Tryz.func15, Tryz.ntmps15
  go_wp2_with fail
  refine (odVal5 i u s ad len cap _).mono ?_
  rintro e w1 ⟨rfl, b1⟩
  have d1 := db.kept (b := w.heap.size) (grown_below b1) (by omega)
  obtain ⟨k0, k1, k2, k3, k4⟩ := d1.c
  have B1 := (b0 _ _).trans (b1.mono (by simp; omega))
  clear db b1 b0
  have hz : w.heap.size + 1 < w1.heap.size := d1.lt
  have KS : Hid (∀ w' : World, Below w1.heap.size w1 w' → w'.cell? ⟨w.heap.size + 1, 0, none⟩ = some (.int .i64 5) ∧ w'.cell? ⟨w.heap.size + 1, 1, none⟩ = some (.int .i64 j) ∧ w'.cell? ⟨w.heap.size + 1, 2, none⟩ = some (.int .u64 v) ∧ w'.cell? ⟨w.heap.size + 1, 3, none⟩ = some (.string z) ∧ w'.cell? ⟨w.heap.size + 1, 4, none⟩ = some (.slice bd len' cap')) := fun w' h' => ⟨(h'.cell (p := ⟨w.heap.size + 1, 0, none⟩) hz).trans k0, (h'.cell (p := ⟨w.heap.size + 1, 1, none⟩) hz).trans k1, (h'.cell (p := ⟨w.heap.size + 1, 2, none⟩) hz).trans k2, (h'.cell (p := ⟨w.heap.size + 1, 3, none⟩) hz).trans k3, (h'.cell (p := ⟨w.heap.size + 1, 4, none⟩) hz).trans k4⟩
  have KC : Hid (Calls Tryz.prog 24 #[.agg #[.int .i64 5, .int .i64 j, .int .u64 v, .string z, .slice bd len' cap']] w1.drew fun e w' => e = .returned (.iface 99 (.string z)) ∧ Below w1.heap.size w1 w') :=
    (odVal5 j v z bd len' cap' w1.drew).mono fun e w' ⟨he, hb'⟩ => ⟨he, (Below.drew (Below.refl _ w1)).trans hb'⟩
  clear d1
  go_wp2_with fail
  go_region_held3 (fun w' => w'.cell? ⟨w.heap.size + 1, 0, none⟩ = some (.int .i64 5) ∧ w'.cell? ⟨w.heap.size + 1, 1, none⟩ = some (.int .i64 j) ∧ w'.cell? ⟨w.heap.size + 1, 2, none⟩ = some (.int .u64 v) ∧ w'.cell? ⟨w.heap.size + 1, 3, none⟩ = some (.string z) ∧ w'.cell? ⟨w.heap.size + 1, 4, none⟩ = some (.slice bd len' cap')) (first | go_keep | exact KS.out _ (by assumption)) (first | (go_at_call 24; refine KC.out.mono ?_; rintro e w2 ⟨rfl, b2⟩) | (go_at_call 133; refine (odLessat5 _ _ _).mono ?_; rintro e w3 ⟨rfl, hw3⟩; subst hw3))
  all_goals go_wp2
  all_goals go_ret2
  all_goals exact ⟨rfl, B1.trans (b2.mono B1.size)⟩
end Go.Proofs.YtlmebokbbhjbmaaGreatDoor.Dt
