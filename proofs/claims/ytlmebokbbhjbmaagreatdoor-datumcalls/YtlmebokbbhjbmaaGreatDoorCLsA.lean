/- The package's Less of two values' trees: what the document's answers; the conditions: the trees in memory, valid. -/
import Derived.Test.YtlmebokbbhjbmaaGreatDoorBase
import Derived.Test.YtlmebokbbhjbmaaGreatDoorOOrd
import Derived.Test.YtlmebokbbhjbmaaGreatDoorDCount
import Derived.Test.YtlmebokbbhjbmaaGreatDoorOLeaf
import Derived.Test.YtlmebokbbhjbmaaGreatDoorCLnA
import Derived.Test.YtlmebokbbhjbmaaGreatDoorDpA
namespace Go.Proofs.YtlmebokbbhjbmaaGreatDoor
open Go.RowKit
theorem ret_true {b : Bool} (h : b = true) : Ending.returned (.bool true) = .returned (.bool b) := by rw [h]

set_option maxHeartbeats 1000000 in
theorem refHas_any (k m : Int) (w : World) :
    Calls Tryz.prog 30 #[.int .i64 k, .int .i64 m] w fun e w' => e = .returned (.bool (refHas k m)) ∧ w' = w := by
  by_cases h0 : m = 0
  · subst h0
    show Calls Tryz.prog 30 _ w fun e w' => e = .returned (.bool (k == 4 || k == 5 || k == 7 || k == 8 || k == 9 || k == 11 || k == 12)) ∧ w' = w
    go_enter Tryz.func30, Tryz.ntmps30
    go_wp2
    all_goals (go_ret; first | exact ⟨rfl, rfl⟩ | exact ⟨ret_true (by simp_all), rfl⟩)
  by_cases h1 : m = 1
  · subst h1
    show Calls Tryz.prog 30 _ w fun e w' => e = .returned (.bool (k == 5 || k == 2 || k == 10)) ∧ w' = w
    clear h0
    go_enter Tryz.func30, Tryz.ntmps30
    go_wp2
    all_goals (go_ret; first | exact ⟨rfl, rfl⟩ | exact ⟨ret_true (by simp_all), rfl⟩)
  by_cases h2 : m = 2
  · subst h2
    show Calls Tryz.prog 30 _ w fun e w' => e = .returned (.bool (k == 10 || k == 11 || k == 12)) ∧ w' = w
    clear h0 h1
    go_enter Tryz.func30, Tryz.ntmps30
    go_wp2
    all_goals (go_ret; first | exact ⟨rfl, rfl⟩ | exact ⟨ret_true (by simp_all), rfl⟩)
  by_cases h3 : m = 3
  · subst h3
    show Calls Tryz.prog 30 _ w fun e w' => e = .returned (.bool (k == 11 || k == 12)) ∧ w' = w
    clear h0 h1 h2
    go_enter Tryz.func30, Tryz.ntmps30
    go_wp2
    all_goals (go_ret; first | exact ⟨rfl, rfl⟩ | exact ⟨ret_true (by simp_all), rfl⟩)
  by_cases h4 : m = 4
  · subst h4
    show Calls Tryz.prog 30 _ w fun e w' => e = .returned (.bool (k == 1 || k == 2 || k == 3 || k == 4 || k == 5)) ∧ w' = w
    clear h0 h1 h2 h3
    go_enter Tryz.func30, Tryz.ntmps30
    go_wp2
    all_goals (go_ret; first | exact ⟨rfl, rfl⟩ | exact ⟨ret_true (by simp_all), rfl⟩)
  by_cases h5 : m = 5
  · subst h5
    show Calls Tryz.prog 30 _ w fun e w' => e = .returned (.bool (k == 1 || k == 3)) ∧ w' = w
    clear h0 h1 h2 h3 h4
    go_enter Tryz.func30, Tryz.ntmps30
    go_wp2
    all_goals (go_ret; first | exact ⟨rfl, rfl⟩ | exact ⟨ret_true (by simp_all), rfl⟩)
  have hf : refHas k m = false := by unfold refHas; simp [h0, h1, h2, h3, h4, h5]
  rw [hf]; clear hf
  have g0 : (m == 0) = false := by simpa using h0
  have g1 : (m == 1) = false := by simpa using h1
  have g2 : (m == 2) = false := by simpa using h2
  have g3 : (m == 3) = false := by simpa using h3
  have g4 : (m == 4) = false := by simpa using h4
  have g5 : (m == 5) = false := by simpa using h5
  clear h0 h1 h2 h3 h4 h5
  go_enter Tryz.func30, Tryz.ntmps30
  go_wp2
  go_ret
  exact ⟨rfl, rfl⟩
end Go.Proofs.YtlmebokbbhjbmaaGreatDoor
namespace Go.Proofs.YtlmebokbbhjbmaaGreatDoor.Dt
open Go.RowKit
/-- What Less answers. -/
def lesP (k i u : Int) (s : ByteArray) (k' j v : Int) (z : ByteArray) : Bool × Int := if refHas k 4 = false then (false, 12) else if k ≠ k' then (false, 15) else (ltV k i u s j v z, 0)
theorem refHas4 (k : Int) : refHas k 4 = decide (1 ≤ k ∧ k ≤ 5) := by
  rw [Bool.eq_iff_iff]
  simp [refHas]
  omega
set_option maxRecDepth 100000 in
set_option maxHeartbeats 1000000 in
theorem refLes (k i u k' j v : Int) (s z : ByteArray) (ad bd : Option Addr) (len cap len' cap' : Nat) (w : World) (h3 : k ≠ 3) :
    Calls Tryz.prog 16 #[.agg #[.int .i64 k, .int .i64 i, .int .u64 u, .string s, .slice ad len cap], .agg #[.int .i64 k', .int .i64 j, .int .u64 v, .string z, .slice bd len' cap']] w fun e w' => e = .returned (.tuple #[.bool (lesP k i u s k' j v z).1, .int .i64 (lesP k i u s k' j v z).2]) ∧ Below w.heap.size w w' := by
  have hR : ∀ A, lesP k i u s k' j v z = A → (Calls Tryz.prog 16 #[.agg #[.int .i64 k, .int .i64 i, .int .u64 u, .string s, .slice ad len cap], .agg #[.int .i64 k', .int .i64 j, .int .u64 v, .string z, .slice bd len' cap']] w fun e w' => e = .returned (.tuple #[.bool A.1, .int .i64 A.2]) ∧ Below w.heap.size w w') → (Calls Tryz.prog 16 #[.agg #[.int .i64 k, .int .i64 i, .int .u64 u, .string s, .slice ad len cap], .agg #[.int .i64 k', .int .i64 j, .int .u64 v, .string z, .slice bd len' cap']] w fun e w' => e = .returned (.tuple #[.bool (lesP k i u s k' j v z).1, .int .i64 (lesP k i u s k' j v z).2]) ∧ Below w.heap.size w w') := fun A hA h => by rw [hA]; exact h
  have B := below2 w (.cells #[.int .i64 k, .int .i64 i, .int .u64 u, .string s, .slice ad len cap] 25) (.cells #[.int .i64 k', .int .i64 j, .int .u64 v, .string z, .slice bd len' cap'] 25)
  have HH := Lib.hid (fun w => refHas_any k 4 w)
  cases h4 : refHas k 4 with
  | false =>
    refine hR (false, 12) (by simp [lesP, h4]) ?_
    rw [h4] at HH
    clear hR h4
    go_enter Tryz.func16, Tryz.ntmps16
    go_wp2_with fail
    refine (HH.out _).mono ?_
    rintro e w1 ⟨rfl, rfl⟩
    go_wp2
    go_ret2
    exact ⟨rfl, B⟩
  | true =>
    by_cases hk : k = k'
    · subst hk
      refine hR (ltV k i u s j v z, 0) (by simp [lesP, h4]) ?_
      rw [h4] at HH
      rw [refHas4] at h4
      have h5 := of_decide_eq_true h4
      clear hR h4
      obtain h | h | h | h : k = 1 ∨ k = 2 ∨ k = 4 ∨ k = 5 := by omega
      all_goals
        subst h
        clear h5 h3
        simp only [ltV, Int.reduceEq, or_false, or_true, or_self, reduceIte]
        go_enter Tryz.func16, Tryz.ntmps16
        go_wp2_with fail
        refine (HH.out _).mono ?_
        rintro e w1 ⟨rfl, rfl⟩
        go_wp2
        go_ret2
        exact ⟨rfl, B⟩
    · refine hR (false, 15) (by simp [lesP, h4, hk]) ?_
      rw [h4] at HH
      clear hR h4
      go_enter Tryz.func16, Tryz.ntmps16
      go_wp2_with fail
      refine (HH.out _).mono ?_
      rintro e w1 ⟨rfl, rfl⟩
      go_wp2
      go_ret2
      exact ⟨rfl, B⟩
end Go.Proofs.YtlmebokbbhjbmaaGreatDoor.Dt
namespace Go.Proofs.YtlmebokbbhjbmaaGreatDoor.Dt
open Go.RowKit
/-- What stands for a tree: nil, or of its kind's type. -/
theorem of_ty (W0 : World) (m : Nat) (t : Tr (m + 1)) (k i u : Int) (s : ByteArray) (ad : Option Addr) (len cap : Nat) (w : World) (hrg : rgt (m + 1) t = true) (hps : (pts (m + 1) t).1 ≤ 4096) (hrep : Rep W0 (m + 1) [.int .i64 k, .int .i64 i, .int .u64 u, .string s, .slice ad len cap] t) (hb : Below W0.heap.size W0 w) :
    Calls Tryz.prog 24 #[.agg #[.int .i64 k, .int .i64 i, .int .u64 u, .string s, .slice ad len cap]] w fun e w' => ((t.kd = 0 ∧ e = .returned .nilIface) ∨ (t.kd ≠ 0 ∧ ∃ q, e = .returned (.iface (tyk t.kd) q))) ∧ Below w.heap.size w w' := by
  refine (of_any W0 (m + 1) t k i u s ad len cap w hrg hps hrep hb).mono fun e w' ⟨v, he, vr, hb'⟩ => ⟨?_, hb'⟩
  rcases vr_cases vr.out with ⟨q, rfl⟩ | ⟨q, rfl⟩ | ⟨q, rfl⟩ | ⟨q, rfl⟩ | ⟨q, rfl⟩ | ⟨q, rfl⟩ | ⟨q, rfl⟩ | ⟨q, a, c, rfl⟩ | ⟨q, a, c, rfl⟩ | ⟨q, x, y, rfl, hx, hy⟩ | ⟨q, rfl⟩ | ⟨q, b, u, rfl, hh, hu⟩ | ⟨q, rfl⟩ | ⟨q, rfl⟩
  · exact .inl ⟨q, he⟩
  all_goals exact .inr ⟨by omega, _, by rw [he, q]; rfl⟩
theorem lsAt1A (i : Int) (w : World) : Calls Tryz.prog 121 #[.int .i64 i, .nilIface] w fun e w' => e = .returned (.tuple #[.bool false, .int .i64 15]) ∧ w' = w := by
  have h1 : ∀ w : World, (Instr.typeAssert .nilIface 20 95 true).run Tryz.prog w = .ok (.tuple #[.int .i64 0, .bool false]) w := fun _ => by kernel_rfl
  go_enter Tryz.func121, Tryz.ntmps121
  go_wp2
  go_ret2
  exact ⟨rfl, rfl⟩
theorem lsAt1B (i : Int) (T : TypeId) (q : Value) (hT : T ≠ 95) (w : World) : Calls Tryz.prog 121 #[.int .i64 i, .iface T q] w fun e w' => e = .returned (.tuple #[.bool false, .int .i64 15]) ∧ w' = w := by
  have h1 : ∀ w : World, (Instr.typeAssert (.iface T q) 20 95 true).run Tryz.prog w = .ok (.tuple #[.int .i64 0, .bool false]) w := fun w => asto_no Tryz.underlying95 (fun m h => by cases h) (by kernel_rfl) hT
  go_enter Tryz.func121, Tryz.ntmps121
  go_wp2
  go_ret2
  exact ⟨rfl, rfl⟩
set_option maxRecDepth 100000 in
set_option maxHeartbeats 2000000 in
theorem lsDiff1A (i u k' j v : Int) (s z : ByteArray) (ad bd : Option Addr) (len cap len' cap' : Nat) (w : World) (hO : ∀ wx, Below w.heap.size w wx → Calls Tryz.prog 24 #[.agg #[.int .i64 k', .int .i64 j, .int .u64 v, .string z, .slice bd len' cap']] wx fun e w' => e = .returned .nilIface ∧ Below wx.heap.size wx w') :
    Calls Tryz.prog 15 #[.agg #[.int .i64 1, .int .i64 i, .int .u64 u, .string s, .slice ad len cap], .agg #[.int .i64 k', .int .i64 j, .int .u64 v, .string z, .slice bd len' cap']] w fun e w' => e = .returned (.tuple #[.bool false, .int .i64 15]) ∧ Below w.heap.size w w' := by
  have h1 : ∀ w : World, (Instr.typeAssert (.iface 95 (.int .i64 i)) 20 71 true).run Tryz.prog w = .ok (.tuple #[.iface 95 (.int .i64 i), .bool true]) w := fun _ => by kernel_rfl
  have hmf : ∀ (fn : Fn) (first cap : Array Value) (w : World), (Instr.makeFunc fn first cap).run Tryz.prog w = .ok (.func fn first cap) w := fun _ _ _ _ => rfl
  have hna : ∀ w : World, (nilAhead 323 95 (.int .i64 i) "Less").run Tryz.prog w = .ok (some false) w := fun _ => by kernel_rfl
  have hme : ∀ w : World, (method 323 95 (.int .i64 i) "Less").run Tryz.prog w = .ok (121, .int .i64 i) w := fun _ => by kernel_rfl
  have b0 : ∀ o1 o2 : Obj, Below w.heap.size w ((w.alloc o1).alloc o2) := fun o1 o2 => ((Below.refl _ w).alloc (Nat.le_refl _) _).alloc (by simp) _
  have db := D5.new (w.alloc (.cells #[.int .i64 1, .int .i64 i, .int .u64 u, .string s, .slice ad len cap] 25)) (.int .i64 k') (.int .i64 j) (.int .u64 v) (.string z) (.slice bd len' cap')
  rw [World.size_alloc] at db
  have HO := Lib.hid hO
  clear hO
  go_enter Tryz.func15, Tryz.ntmps15
  go_wp2_with fail
  refine (odVal1 i u s ad len cap _).mono ?_
  rintro e w1 ⟨rfl, b1⟩
  have d1 := db.kept (b := w.heap.size) (grown_below b1) (by omega)
  obtain ⟨k0, k1, k2, k3, k4⟩ := d1.c
  have B1 := (b0 _ _).trans (b1.mono (by simp; omega))
  clear db b1 b0
  have hz : w.heap.size + 1 < w1.heap.size := d1.lt
  have KS : Hid (∀ w' : World, Below w1.heap.size w1 w' → w'.cell? ⟨w.heap.size + 1, 0, none⟩ = some (.int .i64 k') ∧ w'.cell? ⟨w.heap.size + 1, 1, none⟩ = some (.int .i64 j) ∧ w'.cell? ⟨w.heap.size + 1, 2, none⟩ = some (.int .u64 v) ∧ w'.cell? ⟨w.heap.size + 1, 3, none⟩ = some (.string z) ∧ w'.cell? ⟨w.heap.size + 1, 4, none⟩ = some (.slice bd len' cap')) := fun w' h' => ⟨(h'.cell (p := ⟨w.heap.size + 1, 0, none⟩) hz).trans k0, (h'.cell (p := ⟨w.heap.size + 1, 1, none⟩) hz).trans k1, (h'.cell (p := ⟨w.heap.size + 1, 2, none⟩) hz).trans k2, (h'.cell (p := ⟨w.heap.size + 1, 3, none⟩) hz).trans k3, (h'.cell (p := ⟨w.heap.size + 1, 4, none⟩) hz).trans k4⟩
  have KC : Hid (Calls Tryz.prog 24 #[.agg #[.int .i64 k', .int .i64 j, .int .u64 v, .string z, .slice bd len' cap']] w1.drew fun e w' => e = .returned .nilIface ∧ Below w1.heap.size w1 w') :=
    (HO.out w1.drew (Below.drew B1)).mono fun e w' ⟨he, hb'⟩ => ⟨he, (Below.drew (Below.refl _ w1)).trans hb'⟩
  clear d1
  go_wp2_with fail
  go_region_held3 (fun w' => w'.cell? ⟨w.heap.size + 1, 0, none⟩ = some (.int .i64 k') ∧ w'.cell? ⟨w.heap.size + 1, 1, none⟩ = some (.int .i64 j) ∧ w'.cell? ⟨w.heap.size + 1, 2, none⟩ = some (.int .u64 v) ∧ w'.cell? ⟨w.heap.size + 1, 3, none⟩ = some (.string z) ∧ w'.cell? ⟨w.heap.size + 1, 4, none⟩ = some (.slice bd len' cap')) (first | go_keep | exact KS.out _ (by assumption)) (first | (go_at_call 24; refine KC.out.mono ?_; rintro e w2 ⟨rfl, b2⟩) | (go_at_call 121; refine (lsAt1A i _).mono ?_; rintro e w3 ⟨rfl, hw3⟩; subst hw3))
  all_goals go_wp2
  all_goals go_ret2
  all_goals exact ⟨rfl, B1.trans (b2.mono B1.size)⟩
set_option maxRecDepth 100000 in
set_option maxHeartbeats 2000000 in
theorem lsDiff1B (i u k' j v : Int) (s z : ByteArray) (ad bd : Option Addr) (len cap len' cap' : Nat) (w : World) (T : TypeId) (hT : T ≠ 95) (hO : ∀ wx, Below w.heap.size w wx → Calls Tryz.prog 24 #[.agg #[.int .i64 k', .int .i64 j, .int .u64 v, .string z, .slice bd len' cap']] wx fun e w' => ∃ q, e = .returned (.iface T q) ∧ Below wx.heap.size wx w') :
    Calls Tryz.prog 15 #[.agg #[.int .i64 1, .int .i64 i, .int .u64 u, .string s, .slice ad len cap], .agg #[.int .i64 k', .int .i64 j, .int .u64 v, .string z, .slice bd len' cap']] w fun e w' => e = .returned (.tuple #[.bool false, .int .i64 15]) ∧ Below w.heap.size w w' := by
  have h1 : ∀ w : World, (Instr.typeAssert (.iface 95 (.int .i64 i)) 20 71 true).run Tryz.prog w = .ok (.tuple #[.iface 95 (.int .i64 i), .bool true]) w := fun _ => by kernel_rfl
  have hmf : ∀ (fn : Fn) (first cap : Array Value) (w : World), (Instr.makeFunc fn first cap).run Tryz.prog w = .ok (.func fn first cap) w := fun _ _ _ _ => rfl
  have hna : ∀ w : World, (nilAhead 323 95 (.int .i64 i) "Less").run Tryz.prog w = .ok (some false) w := fun _ => by kernel_rfl
  have hme : ∀ w : World, (method 323 95 (.int .i64 i) "Less").run Tryz.prog w = .ok (121, .int .i64 i) w := fun _ => by kernel_rfl
  have b0 : ∀ o1 o2 : Obj, Below w.heap.size w ((w.alloc o1).alloc o2) := fun o1 o2 => ((Below.refl _ w).alloc (Nat.le_refl _) _).alloc (by simp) _
  have db := D5.new (w.alloc (.cells #[.int .i64 1, .int .i64 i, .int .u64 u, .string s, .slice ad len cap] 25)) (.int .i64 k') (.int .i64 j) (.int .u64 v) (.string z) (.slice bd len' cap')
  rw [World.size_alloc] at db
  have HO := Lib.hid hO
  clear hO
  go_enter Tryz.func15, Tryz.ntmps15
  go_wp2_with fail
  refine (odVal1 i u s ad len cap _).mono ?_
  rintro e w1 ⟨rfl, b1⟩
  have d1 := db.kept (b := w.heap.size) (grown_below b1) (by omega)
  obtain ⟨k0, k1, k2, k3, k4⟩ := d1.c
  have B1 := (b0 _ _).trans (b1.mono (by simp; omega))
  clear db b1 b0
  have hz : w.heap.size + 1 < w1.heap.size := d1.lt
  have KS : Hid (∀ w' : World, Below w1.heap.size w1 w' → w'.cell? ⟨w.heap.size + 1, 0, none⟩ = some (.int .i64 k') ∧ w'.cell? ⟨w.heap.size + 1, 1, none⟩ = some (.int .i64 j) ∧ w'.cell? ⟨w.heap.size + 1, 2, none⟩ = some (.int .u64 v) ∧ w'.cell? ⟨w.heap.size + 1, 3, none⟩ = some (.string z) ∧ w'.cell? ⟨w.heap.size + 1, 4, none⟩ = some (.slice bd len' cap')) := fun w' h' => ⟨(h'.cell (p := ⟨w.heap.size + 1, 0, none⟩) hz).trans k0, (h'.cell (p := ⟨w.heap.size + 1, 1, none⟩) hz).trans k1, (h'.cell (p := ⟨w.heap.size + 1, 2, none⟩) hz).trans k2, (h'.cell (p := ⟨w.heap.size + 1, 3, none⟩) hz).trans k3, (h'.cell (p := ⟨w.heap.size + 1, 4, none⟩) hz).trans k4⟩
  have KC : Hid (Calls Tryz.prog 24 #[.agg #[.int .i64 k', .int .i64 j, .int .u64 v, .string z, .slice bd len' cap']] w1.drew fun e w' => ∃ q, e = .returned (.iface T q) ∧ Below w1.heap.size w1 w') :=
    (HO.out w1.drew (Below.drew B1)).mono fun e w' ⟨q, he, hb'⟩ => ⟨q, he, (Below.drew (Below.refl _ w1)).trans hb'⟩
  clear d1
  go_wp2_with fail
  go_region_held3 (fun w' => w'.cell? ⟨w.heap.size + 1, 0, none⟩ = some (.int .i64 k') ∧ w'.cell? ⟨w.heap.size + 1, 1, none⟩ = some (.int .i64 j) ∧ w'.cell? ⟨w.heap.size + 1, 2, none⟩ = some (.int .u64 v) ∧ w'.cell? ⟨w.heap.size + 1, 3, none⟩ = some (.string z) ∧ w'.cell? ⟨w.heap.size + 1, 4, none⟩ = some (.slice bd len' cap')) (first | go_keep | exact KS.out _ (by assumption)) (first | (go_at_call 24; refine KC.out.mono ?_; rintro e w2 ⟨q, rfl, b2⟩) | (go_at_call 121; refine (lsAt1B i T _ hT _).mono ?_; rintro e w3 ⟨rfl, hw3⟩; subst hw3))
  all_goals go_wp2
  all_goals go_ret2
  all_goals exact ⟨rfl, B1.trans (b2.mono B1.size)⟩
theorem lsAt2A (i : Int) (w : World) : Calls Tryz.prog 123 #[.int .i64 i, .nilIface] w fun e w' => e = .returned (.tuple #[.bool false, .int .i64 15]) ∧ w' = w := by
  have h1 : ∀ w : World, (Instr.typeAssert .nilIface 20 96 true).run Tryz.prog w = .ok (.tuple #[.int .i64 0, .bool false]) w := fun _ => by kernel_rfl
  go_enter Tryz.func123, Tryz.ntmps123
  go_wp2
  go_ret2
  exact ⟨rfl, rfl⟩
theorem lsAt2B (i : Int) (T : TypeId) (q : Value) (hT : T ≠ 96) (w : World) : Calls Tryz.prog 123 #[.int .i64 i, .iface T q] w fun e w' => e = .returned (.tuple #[.bool false, .int .i64 15]) ∧ w' = w := by
  have h1 : ∀ w : World, (Instr.typeAssert (.iface T q) 20 96 true).run Tryz.prog w = .ok (.tuple #[.int .i64 0, .bool false]) w := fun w => asto_no Tryz.underlying96 (fun m h => by cases h) (by kernel_rfl) hT
  go_enter Tryz.func123, Tryz.ntmps123
  go_wp2
  go_ret2
  exact ⟨rfl, rfl⟩
set_option maxRecDepth 100000 in
set_option maxHeartbeats 2000000 in
theorem lsDiff2A (i u k' j v : Int) (s z : ByteArray) (ad bd : Option Addr) (len cap len' cap' : Nat) (w : World) (hO : ∀ wx, Below w.heap.size w wx → Calls Tryz.prog 24 #[.agg #[.int .i64 k', .int .i64 j, .int .u64 v, .string z, .slice bd len' cap']] wx fun e w' => e = .returned .nilIface ∧ Below wx.heap.size wx w') :
    Calls Tryz.prog 15 #[.agg #[.int .i64 2, .int .i64 i, .int .u64 u, .string s, .slice ad len cap], .agg #[.int .i64 k', .int .i64 j, .int .u64 v, .string z, .slice bd len' cap']] w fun e w' => e = .returned (.tuple #[.bool false, .int .i64 15]) ∧ Below w.heap.size w w' := by
  have h1 : ∀ w : World, (Instr.typeAssert (.iface 96 (.int .i64 i)) 20 71 true).run Tryz.prog w = .ok (.tuple #[.iface 96 (.int .i64 i), .bool true]) w := fun _ => by kernel_rfl
  have hmf : ∀ (fn : Fn) (first cap : Array Value) (w : World), (Instr.makeFunc fn first cap).run Tryz.prog w = .ok (.func fn first cap) w := fun _ _ _ _ => rfl
  have hna : ∀ w : World, (nilAhead 323 96 (.int .i64 i) "Less").run Tryz.prog w = .ok (some false) w := fun _ => by kernel_rfl
  have hme : ∀ w : World, (method 323 96 (.int .i64 i) "Less").run Tryz.prog w = .ok (123, .int .i64 i) w := fun _ => by kernel_rfl
  have b0 : ∀ o1 o2 : Obj, Below w.heap.size w ((w.alloc o1).alloc o2) := fun o1 o2 => ((Below.refl _ w).alloc (Nat.le_refl _) _).alloc (by simp) _
  have db := D5.new (w.alloc (.cells #[.int .i64 2, .int .i64 i, .int .u64 u, .string s, .slice ad len cap] 25)) (.int .i64 k') (.int .i64 j) (.int .u64 v) (.string z) (.slice bd len' cap')
  rw [World.size_alloc] at db
  have HO := Lib.hid hO
  clear hO
  go_enter Tryz.func15, Tryz.ntmps15
  go_wp2_with fail
  refine (odVal2 i u s ad len cap _).mono ?_
  rintro e w1 ⟨rfl, b1⟩
  have d1 := db.kept (b := w.heap.size) (grown_below b1) (by omega)
  obtain ⟨k0, k1, k2, k3, k4⟩ := d1.c
  have B1 := (b0 _ _).trans (b1.mono (by simp; omega))
  clear db b1 b0
  have hz : w.heap.size + 1 < w1.heap.size := d1.lt
  have KS : Hid (∀ w' : World, Below w1.heap.size w1 w' → w'.cell? ⟨w.heap.size + 1, 0, none⟩ = some (.int .i64 k') ∧ w'.cell? ⟨w.heap.size + 1, 1, none⟩ = some (.int .i64 j) ∧ w'.cell? ⟨w.heap.size + 1, 2, none⟩ = some (.int .u64 v) ∧ w'.cell? ⟨w.heap.size + 1, 3, none⟩ = some (.string z) ∧ w'.cell? ⟨w.heap.size + 1, 4, none⟩ = some (.slice bd len' cap')) := fun w' h' => ⟨(h'.cell (p := ⟨w.heap.size + 1, 0, none⟩) hz).trans k0, (h'.cell (p := ⟨w.heap.size + 1, 1, none⟩) hz).trans k1, (h'.cell (p := ⟨w.heap.size + 1, 2, none⟩) hz).trans k2, (h'.cell (p := ⟨w.heap.size + 1, 3, none⟩) hz).trans k3, (h'.cell (p := ⟨w.heap.size + 1, 4, none⟩) hz).trans k4⟩
  have KC : Hid (Calls Tryz.prog 24 #[.agg #[.int .i64 k', .int .i64 j, .int .u64 v, .string z, .slice bd len' cap']] w1.drew fun e w' => e = .returned .nilIface ∧ Below w1.heap.size w1 w') :=
    (HO.out w1.drew (Below.drew B1)).mono fun e w' ⟨he, hb'⟩ => ⟨he, (Below.drew (Below.refl _ w1)).trans hb'⟩
  clear d1
  go_wp2_with fail
  go_region_held3 (fun w' => w'.cell? ⟨w.heap.size + 1, 0, none⟩ = some (.int .i64 k') ∧ w'.cell? ⟨w.heap.size + 1, 1, none⟩ = some (.int .i64 j) ∧ w'.cell? ⟨w.heap.size + 1, 2, none⟩ = some (.int .u64 v) ∧ w'.cell? ⟨w.heap.size + 1, 3, none⟩ = some (.string z) ∧ w'.cell? ⟨w.heap.size + 1, 4, none⟩ = some (.slice bd len' cap')) (first | go_keep | exact KS.out _ (by assumption)) (first | (go_at_call 24; refine KC.out.mono ?_; rintro e w2 ⟨rfl, b2⟩) | (go_at_call 123; refine (lsAt2A i _).mono ?_; rintro e w3 ⟨rfl, hw3⟩; subst hw3))
  all_goals go_wp2
  all_goals go_ret2
  all_goals exact ⟨rfl, B1.trans (b2.mono B1.size)⟩
set_option maxRecDepth 100000 in
set_option maxHeartbeats 2000000 in
theorem lsDiff2B (i u k' j v : Int) (s z : ByteArray) (ad bd : Option Addr) (len cap len' cap' : Nat) (w : World) (T : TypeId) (hT : T ≠ 96) (hO : ∀ wx, Below w.heap.size w wx → Calls Tryz.prog 24 #[.agg #[.int .i64 k', .int .i64 j, .int .u64 v, .string z, .slice bd len' cap']] wx fun e w' => ∃ q, e = .returned (.iface T q) ∧ Below wx.heap.size wx w') :
    Calls Tryz.prog 15 #[.agg #[.int .i64 2, .int .i64 i, .int .u64 u, .string s, .slice ad len cap], .agg #[.int .i64 k', .int .i64 j, .int .u64 v, .string z, .slice bd len' cap']] w fun e w' => e = .returned (.tuple #[.bool false, .int .i64 15]) ∧ Below w.heap.size w w' := by
  have h1 : ∀ w : World, (Instr.typeAssert (.iface 96 (.int .i64 i)) 20 71 true).run Tryz.prog w = .ok (.tuple #[.iface 96 (.int .i64 i), .bool true]) w := fun _ => by kernel_rfl
  have hmf : ∀ (fn : Fn) (first cap : Array Value) (w : World), (Instr.makeFunc fn first cap).run Tryz.prog w = .ok (.func fn first cap) w := fun _ _ _ _ => rfl
  have hna : ∀ w : World, (nilAhead 323 96 (.int .i64 i) "Less").run Tryz.prog w = .ok (some false) w := fun _ => by kernel_rfl
  have hme : ∀ w : World, (method 323 96 (.int .i64 i) "Less").run Tryz.prog w = .ok (123, .int .i64 i) w := fun _ => by kernel_rfl
  have b0 : ∀ o1 o2 : Obj, Below w.heap.size w ((w.alloc o1).alloc o2) := fun o1 o2 => ((Below.refl _ w).alloc (Nat.le_refl _) _).alloc (by simp) _
  have db := D5.new (w.alloc (.cells #[.int .i64 2, .int .i64 i, .int .u64 u, .string s, .slice ad len cap] 25)) (.int .i64 k') (.int .i64 j) (.int .u64 v) (.string z) (.slice bd len' cap')
  rw [World.size_alloc] at db
  have HO := Lib.hid hO
  clear hO
  go_enter Tryz.func15, Tryz.ntmps15
  go_wp2_with fail
  refine (odVal2 i u s ad len cap _).mono ?_
  rintro e w1 ⟨rfl, b1⟩
  have d1 := db.kept (b := w.heap.size) (grown_below b1) (by omega)
  obtain ⟨k0, k1, k2, k3, k4⟩ := d1.c
  have B1 := (b0 _ _).trans (b1.mono (by simp; omega))
  clear db b1 b0
  have hz : w.heap.size + 1 < w1.heap.size := d1.lt
  have KS : Hid (∀ w' : World, Below w1.heap.size w1 w' → w'.cell? ⟨w.heap.size + 1, 0, none⟩ = some (.int .i64 k') ∧ w'.cell? ⟨w.heap.size + 1, 1, none⟩ = some (.int .i64 j) ∧ w'.cell? ⟨w.heap.size + 1, 2, none⟩ = some (.int .u64 v) ∧ w'.cell? ⟨w.heap.size + 1, 3, none⟩ = some (.string z) ∧ w'.cell? ⟨w.heap.size + 1, 4, none⟩ = some (.slice bd len' cap')) := fun w' h' => ⟨(h'.cell (p := ⟨w.heap.size + 1, 0, none⟩) hz).trans k0, (h'.cell (p := ⟨w.heap.size + 1, 1, none⟩) hz).trans k1, (h'.cell (p := ⟨w.heap.size + 1, 2, none⟩) hz).trans k2, (h'.cell (p := ⟨w.heap.size + 1, 3, none⟩) hz).trans k3, (h'.cell (p := ⟨w.heap.size + 1, 4, none⟩) hz).trans k4⟩
  have KC : Hid (Calls Tryz.prog 24 #[.agg #[.int .i64 k', .int .i64 j, .int .u64 v, .string z, .slice bd len' cap']] w1.drew fun e w' => ∃ q, e = .returned (.iface T q) ∧ Below w1.heap.size w1 w') :=
    (HO.out w1.drew (Below.drew B1)).mono fun e w' ⟨q, he, hb'⟩ => ⟨q, he, (Below.drew (Below.refl _ w1)).trans hb'⟩
  clear d1
  go_wp2_with fail
  go_region_held3 (fun w' => w'.cell? ⟨w.heap.size + 1, 0, none⟩ = some (.int .i64 k') ∧ w'.cell? ⟨w.heap.size + 1, 1, none⟩ = some (.int .i64 j) ∧ w'.cell? ⟨w.heap.size + 1, 2, none⟩ = some (.int .u64 v) ∧ w'.cell? ⟨w.heap.size + 1, 3, none⟩ = some (.string z) ∧ w'.cell? ⟨w.heap.size + 1, 4, none⟩ = some (.slice bd len' cap')) (first | go_keep | exact KS.out _ (by assumption)) (first | (go_at_call 24; refine KC.out.mono ?_; rintro e w2 ⟨q, rfl, b2⟩) | (go_at_call 123; refine (lsAt2B i T _ hT _).mono ?_; rintro e w3 ⟨rfl, hw3⟩; subst hw3))
  all_goals go_wp2
  all_goals go_ret2
  all_goals exact ⟨rfl, B1.trans (b2.mono B1.size)⟩
theorem lsAt3A (u : Int) (w : World) : Calls Tryz.prog 127 #[.float .f64 u.toNat, .nilIface] w fun e w' => e = .returned (.tuple #[.bool false, .int .i64 15]) ∧ w' = w := by
  have h1 : ∀ w : World, (Instr.typeAssert .nilIface 20 97 true).run Tryz.prog w = .ok (.tuple #[.float .f64 0, .bool false]) w := fun _ => by kernel_rfl
  go_enter Tryz.func127, Tryz.ntmps127
  go_wp2
  go_ret2
  exact ⟨rfl, rfl⟩
theorem lsAt3B (u : Int) (T : TypeId) (q : Value) (hT : T ≠ 97) (w : World) : Calls Tryz.prog 127 #[.float .f64 u.toNat, .iface T q] w fun e w' => e = .returned (.tuple #[.bool false, .int .i64 15]) ∧ w' = w := by
  have h1 : ∀ w : World, (Instr.typeAssert (.iface T q) 20 97 true).run Tryz.prog w = .ok (.tuple #[.float .f64 0, .bool false]) w := fun w => asto_no Tryz.underlying97 (fun m h => by cases h) (by kernel_rfl) hT
  go_enter Tryz.func127, Tryz.ntmps127
  go_wp2
  go_ret2
  exact ⟨rfl, rfl⟩
set_option maxRecDepth 100000 in
set_option maxHeartbeats 2000000 in
theorem lsDiff3A (i u k' j v : Int) (s z : ByteArray) (ad bd : Option Addr) (len cap len' cap' : Nat) (w : World) (hO : ∀ wx, Below w.heap.size w wx → Calls Tryz.prog 24 #[.agg #[.int .i64 k', .int .i64 j, .int .u64 v, .string z, .slice bd len' cap']] wx fun e w' => e = .returned .nilIface ∧ Below wx.heap.size wx w') :
    Calls Tryz.prog 15 #[.agg #[.int .i64 3, .int .i64 i, .int .u64 u, .string s, .slice ad len cap], .agg #[.int .i64 k', .int .i64 j, .int .u64 v, .string z, .slice bd len' cap']] w fun e w' => e = .returned (.tuple #[.bool false, .int .i64 15]) ∧ Below w.heap.size w w' := by
  have h1 : ∀ w : World, (Instr.typeAssert (.iface 97 (.float .f64 u.toNat)) 20 71 true).run Tryz.prog w = .ok (.tuple #[.iface 97 (.float .f64 u.toNat), .bool true]) w := fun _ => by kernel_rfl
  have hmf : ∀ (fn : Fn) (first cap : Array Value) (w : World), (Instr.makeFunc fn first cap).run Tryz.prog w = .ok (.func fn first cap) w := fun _ _ _ _ => rfl
  have hna : ∀ w : World, (nilAhead 323 97 (.float .f64 u.toNat) "Less").run Tryz.prog w = .ok (some false) w := fun _ => by kernel_rfl
  have hme : ∀ w : World, (method 323 97 (.float .f64 u.toNat) "Less").run Tryz.prog w = .ok (127, .float .f64 u.toNat) w := fun _ => by kernel_rfl
  have b0 : ∀ o1 o2 : Obj, Below w.heap.size w ((w.alloc o1).alloc o2) := fun o1 o2 => ((Below.refl _ w).alloc (Nat.le_refl _) _).alloc (by simp) _
  have db := D5.new (w.alloc (.cells #[.int .i64 3, .int .i64 i, .int .u64 u, .string s, .slice ad len cap] 25)) (.int .i64 k') (.int .i64 j) (.int .u64 v) (.string z) (.slice bd len' cap')
  rw [World.size_alloc] at db
  have HO := Lib.hid hO
  clear hO
  go_enter Tryz.func15, Tryz.ntmps15
  go_wp2_with fail
  refine (odVal3 i u s ad len cap _).mono ?_
  rintro e w1 ⟨rfl, b1⟩
  have d1 := db.kept (b := w.heap.size) (grown_below b1) (by omega)
  obtain ⟨k0, k1, k2, k3, k4⟩ := d1.c
  have B1 := (b0 _ _).trans (b1.mono (by simp; omega))
  clear db b1 b0
  have hz : w.heap.size + 1 < w1.heap.size := d1.lt
  have KS : Hid (∀ w' : World, Below w1.heap.size w1 w' → w'.cell? ⟨w.heap.size + 1, 0, none⟩ = some (.int .i64 k') ∧ w'.cell? ⟨w.heap.size + 1, 1, none⟩ = some (.int .i64 j) ∧ w'.cell? ⟨w.heap.size + 1, 2, none⟩ = some (.int .u64 v) ∧ w'.cell? ⟨w.heap.size + 1, 3, none⟩ = some (.string z) ∧ w'.cell? ⟨w.heap.size + 1, 4, none⟩ = some (.slice bd len' cap')) := fun w' h' => ⟨(h'.cell (p := ⟨w.heap.size + 1, 0, none⟩) hz).trans k0, (h'.cell (p := ⟨w.heap.size + 1, 1, none⟩) hz).trans k1, (h'.cell (p := ⟨w.heap.size + 1, 2, none⟩) hz).trans k2, (h'.cell (p := ⟨w.heap.size + 1, 3, none⟩) hz).trans k3, (h'.cell (p := ⟨w.heap.size + 1, 4, none⟩) hz).trans k4⟩
  have KC : Hid (Calls Tryz.prog 24 #[.agg #[.int .i64 k', .int .i64 j, .int .u64 v, .string z, .slice bd len' cap']] w1.drew fun e w' => e = .returned .nilIface ∧ Below w1.heap.size w1 w') :=
    (HO.out w1.drew (Below.drew B1)).mono fun e w' ⟨he, hb'⟩ => ⟨he, (Below.drew (Below.refl _ w1)).trans hb'⟩
  clear d1
  go_wp2_with fail
  go_region_held3 (fun w' => w'.cell? ⟨w.heap.size + 1, 0, none⟩ = some (.int .i64 k') ∧ w'.cell? ⟨w.heap.size + 1, 1, none⟩ = some (.int .i64 j) ∧ w'.cell? ⟨w.heap.size + 1, 2, none⟩ = some (.int .u64 v) ∧ w'.cell? ⟨w.heap.size + 1, 3, none⟩ = some (.string z) ∧ w'.cell? ⟨w.heap.size + 1, 4, none⟩ = some (.slice bd len' cap')) (first | go_keep | exact KS.out _ (by assumption)) (first | (go_at_call 24; refine KC.out.mono ?_; rintro e w2 ⟨rfl, b2⟩) | (go_at_call 127; refine (lsAt3A u _).mono ?_; rintro e w3 ⟨rfl, hw3⟩; subst hw3))
  all_goals go_wp2
  all_goals go_ret2
  all_goals exact ⟨rfl, B1.trans (b2.mono B1.size)⟩
set_option maxRecDepth 100000 in
set_option maxHeartbeats 2000000 in
theorem lsDiff3B (i u k' j v : Int) (s z : ByteArray) (ad bd : Option Addr) (len cap len' cap' : Nat) (w : World) (T : TypeId) (hT : T ≠ 97) (hO : ∀ wx, Below w.heap.size w wx → Calls Tryz.prog 24 #[.agg #[.int .i64 k', .int .i64 j, .int .u64 v, .string z, .slice bd len' cap']] wx fun e w' => ∃ q, e = .returned (.iface T q) ∧ Below wx.heap.size wx w') :
    Calls Tryz.prog 15 #[.agg #[.int .i64 3, .int .i64 i, .int .u64 u, .string s, .slice ad len cap], .agg #[.int .i64 k', .int .i64 j, .int .u64 v, .string z, .slice bd len' cap']] w fun e w' => e = .returned (.tuple #[.bool false, .int .i64 15]) ∧ Below w.heap.size w w' := by
  have h1 : ∀ w : World, (Instr.typeAssert (.iface 97 (.float .f64 u.toNat)) 20 71 true).run Tryz.prog w = .ok (.tuple #[.iface 97 (.float .f64 u.toNat), .bool true]) w := fun _ => by kernel_rfl
  have hmf : ∀ (fn : Fn) (first cap : Array Value) (w : World), (Instr.makeFunc fn first cap).run Tryz.prog w = .ok (.func fn first cap) w := fun _ _ _ _ => rfl
  have hna : ∀ w : World, (nilAhead 323 97 (.float .f64 u.toNat) "Less").run Tryz.prog w = .ok (some false) w := fun _ => by kernel_rfl
  have hme : ∀ w : World, (method 323 97 (.float .f64 u.toNat) "Less").run Tryz.prog w = .ok (127, .float .f64 u.toNat) w := fun _ => by kernel_rfl
  have b0 : ∀ o1 o2 : Obj, Below w.heap.size w ((w.alloc o1).alloc o2) := fun o1 o2 => ((Below.refl _ w).alloc (Nat.le_refl _) _).alloc (by simp) _
  have db := D5.new (w.alloc (.cells #[.int .i64 3, .int .i64 i, .int .u64 u, .string s, .slice ad len cap] 25)) (.int .i64 k') (.int .i64 j) (.int .u64 v) (.string z) (.slice bd len' cap')
  rw [World.size_alloc] at db
  have HO := Lib.hid hO
  clear hO
  go_enter Tryz.func15, Tryz.ntmps15
  go_wp2_with fail
  refine (odVal3 i u s ad len cap _).mono ?_
  rintro e w1 ⟨rfl, b1⟩
  have d1 := db.kept (b := w.heap.size) (grown_below b1) (by omega)
  obtain ⟨k0, k1, k2, k3, k4⟩ := d1.c
  have B1 := (b0 _ _).trans (b1.mono (by simp; omega))
  clear db b1 b0
  have hz : w.heap.size + 1 < w1.heap.size := d1.lt
  have KS : Hid (∀ w' : World, Below w1.heap.size w1 w' → w'.cell? ⟨w.heap.size + 1, 0, none⟩ = some (.int .i64 k') ∧ w'.cell? ⟨w.heap.size + 1, 1, none⟩ = some (.int .i64 j) ∧ w'.cell? ⟨w.heap.size + 1, 2, none⟩ = some (.int .u64 v) ∧ w'.cell? ⟨w.heap.size + 1, 3, none⟩ = some (.string z) ∧ w'.cell? ⟨w.heap.size + 1, 4, none⟩ = some (.slice bd len' cap')) := fun w' h' => ⟨(h'.cell (p := ⟨w.heap.size + 1, 0, none⟩) hz).trans k0, (h'.cell (p := ⟨w.heap.size + 1, 1, none⟩) hz).trans k1, (h'.cell (p := ⟨w.heap.size + 1, 2, none⟩) hz).trans k2, (h'.cell (p := ⟨w.heap.size + 1, 3, none⟩) hz).trans k3, (h'.cell (p := ⟨w.heap.size + 1, 4, none⟩) hz).trans k4⟩
  have KC : Hid (Calls Tryz.prog 24 #[.agg #[.int .i64 k', .int .i64 j, .int .u64 v, .string z, .slice bd len' cap']] w1.drew fun e w' => ∃ q, e = .returned (.iface T q) ∧ Below w1.heap.size w1 w') :=
    (HO.out w1.drew (Below.drew B1)).mono fun e w' ⟨q, he, hb'⟩ => ⟨q, he, (Below.drew (Below.refl _ w1)).trans hb'⟩
  clear d1
  go_wp2_with fail
  go_region_held3 (fun w' => w'.cell? ⟨w.heap.size + 1, 0, none⟩ = some (.int .i64 k') ∧ w'.cell? ⟨w.heap.size + 1, 1, none⟩ = some (.int .i64 j) ∧ w'.cell? ⟨w.heap.size + 1, 2, none⟩ = some (.int .u64 v) ∧ w'.cell? ⟨w.heap.size + 1, 3, none⟩ = some (.string z) ∧ w'.cell? ⟨w.heap.size + 1, 4, none⟩ = some (.slice bd len' cap')) (first | go_keep | exact KS.out _ (by assumption)) (first | (go_at_call 24; refine KC.out.mono ?_; rintro e w2 ⟨q, rfl, b2⟩) | (go_at_call 127; refine (lsAt3B u T _ hT _).mono ?_; rintro e w3 ⟨rfl, hw3⟩; subst hw3))
  all_goals go_wp2
  all_goals go_ret2
  all_goals exact ⟨rfl, B1.trans (b2.mono B1.size)⟩
theorem lsAt4A (s : ByteArray) (w : World) : Calls Tryz.prog 130 #[.string s, .nilIface] w fun e w' => e = .returned (.tuple #[.bool false, .int .i64 15]) ∧ w' = w := by
  have h1 : ∀ w : World, (Instr.typeAssert .nilIface 20 98 true).run Tryz.prog w = .ok (.tuple #[.string ⟨#[]⟩, .bool false]) w := fun _ => by kernel_rfl
  go_enter Tryz.func130, Tryz.ntmps130
  go_wp2
  go_ret2
  exact ⟨rfl, rfl⟩
theorem lsAt4B (s : ByteArray) (T : TypeId) (q : Value) (hT : T ≠ 98) (w : World) : Calls Tryz.prog 130 #[.string s, .iface T q] w fun e w' => e = .returned (.tuple #[.bool false, .int .i64 15]) ∧ w' = w := by
  have h1 : ∀ w : World, (Instr.typeAssert (.iface T q) 20 98 true).run Tryz.prog w = .ok (.tuple #[.string ⟨#[]⟩, .bool false]) w := fun w => asto_no Tryz.underlying98 (fun m h => by cases h) (by kernel_rfl) hT
  go_enter Tryz.func130, Tryz.ntmps130
  go_wp2
  go_ret2
  exact ⟨rfl, rfl⟩
set_option maxRecDepth 100000 in
set_option maxHeartbeats 2000000 in
theorem lsDiff4A (i u k' j v : Int) (s z : ByteArray) (ad bd : Option Addr) (len cap len' cap' : Nat) (w : World) (hO : ∀ wx, Below w.heap.size w wx → Calls Tryz.prog 24 #[.agg #[.int .i64 k', .int .i64 j, .int .u64 v, .string z, .slice bd len' cap']] wx fun e w' => e = .returned .nilIface ∧ Below wx.heap.size wx w') :
    Calls Tryz.prog 15 #[.agg #[.int .i64 4, .int .i64 i, .int .u64 u, .string s, .slice ad len cap], .agg #[.int .i64 k', .int .i64 j, .int .u64 v, .string z, .slice bd len' cap']] w fun e w' => e = .returned (.tuple #[.bool false, .int .i64 15]) ∧ Below w.heap.size w w' := by
  have h1 : ∀ w : World, (Instr.typeAssert (.iface 98 (.string s)) 20 71 true).run Tryz.prog w = .ok (.tuple #[.iface 98 (.string s), .bool true]) w := fun _ => by kernel_rfl
  have hmf : ∀ (fn : Fn) (first cap : Array Value) (w : World), (Instr.makeFunc fn first cap).run Tryz.prog w = .ok (.func fn first cap) w := fun _ _ _ _ => rfl
  have hna : ∀ w : World, (nilAhead 323 98 (.string s) "Less").run Tryz.prog w = .ok (some false) w := fun _ => by kernel_rfl
  have hme : ∀ w : World, (method 323 98 (.string s) "Less").run Tryz.prog w = .ok (130, .string s) w := fun _ => by kernel_rfl
  have b0 : ∀ o1 o2 : Obj, Below w.heap.size w ((w.alloc o1).alloc o2) := fun o1 o2 => ((Below.refl _ w).alloc (Nat.le_refl _) _).alloc (by simp) _
  have db := D5.new (w.alloc (.cells #[.int .i64 4, .int .i64 i, .int .u64 u, .string s, .slice ad len cap] 25)) (.int .i64 k') (.int .i64 j) (.int .u64 v) (.string z) (.slice bd len' cap')
  rw [World.size_alloc] at db
  have HO := Lib.hid hO
  clear hO
  go_enter Tryz.func15, Tryz.ntmps15
  go_wp2_with fail
  refine (odVal4 i u s ad len cap _).mono ?_
  rintro e w1 ⟨rfl, b1⟩
  have d1 := db.kept (b := w.heap.size) (grown_below b1) (by omega)
  obtain ⟨k0, k1, k2, k3, k4⟩ := d1.c
  have B1 := (b0 _ _).trans (b1.mono (by simp; omega))
  clear db b1 b0
  have hz : w.heap.size + 1 < w1.heap.size := d1.lt
  have KS : Hid (∀ w' : World, Below w1.heap.size w1 w' → w'.cell? ⟨w.heap.size + 1, 0, none⟩ = some (.int .i64 k') ∧ w'.cell? ⟨w.heap.size + 1, 1, none⟩ = some (.int .i64 j) ∧ w'.cell? ⟨w.heap.size + 1, 2, none⟩ = some (.int .u64 v) ∧ w'.cell? ⟨w.heap.size + 1, 3, none⟩ = some (.string z) ∧ w'.cell? ⟨w.heap.size + 1, 4, none⟩ = some (.slice bd len' cap')) := fun w' h' => ⟨(h'.cell (p := ⟨w.heap.size + 1, 0, none⟩) hz).trans k0, (h'.cell (p := ⟨w.heap.size + 1, 1, none⟩) hz).trans k1, (h'.cell (p := ⟨w.heap.size + 1, 2, none⟩) hz).trans k2, (h'.cell (p := ⟨w.heap.size + 1, 3, none⟩) hz).trans k3, (h'.cell (p := ⟨w.heap.size + 1, 4, none⟩) hz).trans k4⟩
  have KC : Hid (Calls Tryz.prog 24 #[.agg #[.int .i64 k', .int .i64 j, .int .u64 v, .string z, .slice bd len' cap']] w1.drew fun e w' => e = .returned .nilIface ∧ Below w1.heap.size w1 w') :=
    (HO.out w1.drew (Below.drew B1)).mono fun e w' ⟨he, hb'⟩ => ⟨he, (Below.drew (Below.refl _ w1)).trans hb'⟩
  clear d1
  go_wp2_with fail
  go_region_held3 (fun w' => w'.cell? ⟨w.heap.size + 1, 0, none⟩ = some (.int .i64 k') ∧ w'.cell? ⟨w.heap.size + 1, 1, none⟩ = some (.int .i64 j) ∧ w'.cell? ⟨w.heap.size + 1, 2, none⟩ = some (.int .u64 v) ∧ w'.cell? ⟨w.heap.size + 1, 3, none⟩ = some (.string z) ∧ w'.cell? ⟨w.heap.size + 1, 4, none⟩ = some (.slice bd len' cap')) (first | go_keep | exact KS.out _ (by assumption)) (first | (go_at_call 24; refine KC.out.mono ?_; rintro e w2 ⟨rfl, b2⟩) | (go_at_call 130; refine (lsAt4A s _).mono ?_; rintro e w3 ⟨rfl, hw3⟩; subst hw3))
  all_goals go_wp2
  all_goals go_ret2
  all_goals exact ⟨rfl, B1.trans (b2.mono B1.size)⟩
set_option maxRecDepth 100000 in
set_option maxHeartbeats 2000000 in
theorem lsDiff4B (i u k' j v : Int) (s z : ByteArray) (ad bd : Option Addr) (len cap len' cap' : Nat) (w : World) (T : TypeId) (hT : T ≠ 98) (hO : ∀ wx, Below w.heap.size w wx → Calls Tryz.prog 24 #[.agg #[.int .i64 k', .int .i64 j, .int .u64 v, .string z, .slice bd len' cap']] wx fun e w' => ∃ q, e = .returned (.iface T q) ∧ Below wx.heap.size wx w') :
    Calls Tryz.prog 15 #[.agg #[.int .i64 4, .int .i64 i, .int .u64 u, .string s, .slice ad len cap], .agg #[.int .i64 k', .int .i64 j, .int .u64 v, .string z, .slice bd len' cap']] w fun e w' => e = .returned (.tuple #[.bool false, .int .i64 15]) ∧ Below w.heap.size w w' := by
  have h1 : ∀ w : World, (Instr.typeAssert (.iface 98 (.string s)) 20 71 true).run Tryz.prog w = .ok (.tuple #[.iface 98 (.string s), .bool true]) w := fun _ => by kernel_rfl
  have hmf : ∀ (fn : Fn) (first cap : Array Value) (w : World), (Instr.makeFunc fn first cap).run Tryz.prog w = .ok (.func fn first cap) w := fun _ _ _ _ => rfl
  have hna : ∀ w : World, (nilAhead 323 98 (.string s) "Less").run Tryz.prog w = .ok (some false) w := fun _ => by kernel_rfl
  have hme : ∀ w : World, (method 323 98 (.string s) "Less").run Tryz.prog w = .ok (130, .string s) w := fun _ => by kernel_rfl
  have b0 : ∀ o1 o2 : Obj, Below w.heap.size w ((w.alloc o1).alloc o2) := fun o1 o2 => ((Below.refl _ w).alloc (Nat.le_refl _) _).alloc (by simp) _
  have db := D5.new (w.alloc (.cells #[.int .i64 4, .int .i64 i, .int .u64 u, .string s, .slice ad len cap] 25)) (.int .i64 k') (.int .i64 j) (.int .u64 v) (.string z) (.slice bd len' cap')
  rw [World.size_alloc] at db
  have HO := Lib.hid hO
  clear hO
  go_enter Tryz.func15, Tryz.ntmps15
  go_wp2_with fail
  refine (odVal4 i u s ad len cap _).mono ?_
  rintro e w1 ⟨rfl, b1⟩
  have d1 := db.kept (b := w.heap.size) (grown_below b1) (by omega)
  obtain ⟨k0, k1, k2, k3, k4⟩ := d1.c
  have B1 := (b0 _ _).trans (b1.mono (by simp; omega))
  clear db b1 b0
  have hz : w.heap.size + 1 < w1.heap.size := d1.lt
  have KS : Hid (∀ w' : World, Below w1.heap.size w1 w' → w'.cell? ⟨w.heap.size + 1, 0, none⟩ = some (.int .i64 k') ∧ w'.cell? ⟨w.heap.size + 1, 1, none⟩ = some (.int .i64 j) ∧ w'.cell? ⟨w.heap.size + 1, 2, none⟩ = some (.int .u64 v) ∧ w'.cell? ⟨w.heap.size + 1, 3, none⟩ = some (.string z) ∧ w'.cell? ⟨w.heap.size + 1, 4, none⟩ = some (.slice bd len' cap')) := fun w' h' => ⟨(h'.cell (p := ⟨w.heap.size + 1, 0, none⟩) hz).trans k0, (h'.cell (p := ⟨w.heap.size + 1, 1, none⟩) hz).trans k1, (h'.cell (p := ⟨w.heap.size + 1, 2, none⟩) hz).trans k2, (h'.cell (p := ⟨w.heap.size + 1, 3, none⟩) hz).trans k3, (h'.cell (p := ⟨w.heap.size + 1, 4, none⟩) hz).trans k4⟩
  have KC : Hid (Calls Tryz.prog 24 #[.agg #[.int .i64 k', .int .i64 j, .int .u64 v, .string z, .slice bd len' cap']] w1.drew fun e w' => ∃ q, e = .returned (.iface T q) ∧ Below w1.heap.size w1 w') :=
    (HO.out w1.drew (Below.drew B1)).mono fun e w' ⟨q, he, hb'⟩ => ⟨q, he, (Below.drew (Below.refl _ w1)).trans hb'⟩
  clear d1
  go_wp2_with fail
  go_region_held3 (fun w' => w'.cell? ⟨w.heap.size + 1, 0, none⟩ = some (.int .i64 k') ∧ w'.cell? ⟨w.heap.size + 1, 1, none⟩ = some (.int .i64 j) ∧ w'.cell? ⟨w.heap.size + 1, 2, none⟩ = some (.int .u64 v) ∧ w'.cell? ⟨w.heap.size + 1, 3, none⟩ = some (.string z) ∧ w'.cell? ⟨w.heap.size + 1, 4, none⟩ = some (.slice bd len' cap')) (first | go_keep | exact KS.out _ (by assumption)) (first | (go_at_call 24; refine KC.out.mono ?_; rintro e w2 ⟨q, rfl, b2⟩) | (go_at_call 130; refine (lsAt4B s T _ hT _).mono ?_; rintro e w3 ⟨rfl, hw3⟩; subst hw3))
  all_goals go_wp2
  all_goals go_ret2
  all_goals exact ⟨rfl, B1.trans (b2.mono B1.size)⟩
theorem lsAt5A (s : ByteArray) (w : World) : Calls Tryz.prog 133 #[.string s, .nilIface] w fun e w' => e = .returned (.tuple #[.bool false, .int .i64 15]) ∧ w' = w := by
  have h1 : ∀ w : World, (Instr.typeAssert .nilIface 20 99 true).run Tryz.prog w = .ok (.tuple #[.string ⟨#[]⟩, .bool false]) w := fun _ => by kernel_rfl
  go_enter Tryz.func133, Tryz.ntmps133
  go_wp2
  go_ret2
  exact ⟨rfl, rfl⟩
theorem lsAt5B (s : ByteArray) (T : TypeId) (q : Value) (hT : T ≠ 99) (w : World) : Calls Tryz.prog 133 #[.string s, .iface T q] w fun e w' => e = .returned (.tuple #[.bool false, .int .i64 15]) ∧ w' = w := by
  have h1 : ∀ w : World, (Instr.typeAssert (.iface T q) 20 99 true).run Tryz.prog w = .ok (.tuple #[.string ⟨#[]⟩, .bool false]) w := fun w => asto_no Tryz.underlying99 (fun m h => by cases h) (by kernel_rfl) hT
  go_enter Tryz.func133, Tryz.ntmps133
  go_wp2
  go_ret2
  exact ⟨rfl, rfl⟩
set_option maxRecDepth 100000 in
set_option maxHeartbeats 2000000 in
theorem lsDiff5A (i u k' j v : Int) (s z : ByteArray) (ad bd : Option Addr) (len cap len' cap' : Nat) (w : World) (hO : ∀ wx, Below w.heap.size w wx → Calls Tryz.prog 24 #[.agg #[.int .i64 k', .int .i64 j, .int .u64 v, .string z, .slice bd len' cap']] wx fun e w' => e = .returned .nilIface ∧ Below wx.heap.size wx w') :
    Calls Tryz.prog 15 #[.agg #[.int .i64 5, .int .i64 i, .int .u64 u, .string s, .slice ad len cap], .agg #[.int .i64 k', .int .i64 j, .int .u64 v, .string z, .slice bd len' cap']] w fun e w' => e = .returned (.tuple #[.bool false, .int .i64 15]) ∧ Below w.heap.size w w' := by
  have h1 : ∀ w : World, (Instr.typeAssert (.iface 99 (.string s)) 20 71 true).run Tryz.prog w = .ok (.tuple #[.iface 99 (.string s), .bool true]) w := fun _ => by kernel_rfl
  have hmf : ∀ (fn : Fn) (first cap : Array Value) (w : World), (Instr.makeFunc fn first cap).run Tryz.prog w = .ok (.func fn first cap) w := fun _ _ _ _ => rfl
  have hna : ∀ w : World, (nilAhead 323 99 (.string s) "Less").run Tryz.prog w = .ok (some false) w := fun _ => by kernel_rfl
  have hme : ∀ w : World, (method 323 99 (.string s) "Less").run Tryz.prog w = .ok (133, .string s) w := fun _ => by kernel_rfl
  have b0 : ∀ o1 o2 : Obj, Below w.heap.size w ((w.alloc o1).alloc o2) := fun o1 o2 => ((Below.refl _ w).alloc (Nat.le_refl _) _).alloc (by simp) _
  have db := D5.new (w.alloc (.cells #[.int .i64 5, .int .i64 i, .int .u64 u, .string s, .slice ad len cap] 25)) (.int .i64 k') (.int .i64 j) (.int .u64 v) (.string z) (.slice bd len' cap')
  rw [World.size_alloc] at db
  have HO := Lib.hid hO
  clear hO
  go_enter Tryz.func15, Tryz.ntmps15
  go_wp2_with fail
  refine (odVal5 i u s ad len cap _).mono ?_
  rintro e w1 ⟨rfl, b1⟩
  have d1 := db.kept (b := w.heap.size) (grown_below b1) (by omega)
  obtain ⟨k0, k1, k2, k3, k4⟩ := d1.c
  have B1 := (b0 _ _).trans (b1.mono (by simp; omega))
  clear db b1 b0
  have hz : w.heap.size + 1 < w1.heap.size := d1.lt
  have KS : Hid (∀ w' : World, Below w1.heap.size w1 w' → w'.cell? ⟨w.heap.size + 1, 0, none⟩ = some (.int .i64 k') ∧ w'.cell? ⟨w.heap.size + 1, 1, none⟩ = some (.int .i64 j) ∧ w'.cell? ⟨w.heap.size + 1, 2, none⟩ = some (.int .u64 v) ∧ w'.cell? ⟨w.heap.size + 1, 3, none⟩ = some (.string z) ∧ w'.cell? ⟨w.heap.size + 1, 4, none⟩ = some (.slice bd len' cap')) := fun w' h' => ⟨(h'.cell (p := ⟨w.heap.size + 1, 0, none⟩) hz).trans k0, (h'.cell (p := ⟨w.heap.size + 1, 1, none⟩) hz).trans k1, (h'.cell (p := ⟨w.heap.size + 1, 2, none⟩) hz).trans k2, (h'.cell (p := ⟨w.heap.size + 1, 3, none⟩) hz).trans k3, (h'.cell (p := ⟨w.heap.size + 1, 4, none⟩) hz).trans k4⟩
  have KC : Hid (Calls Tryz.prog 24 #[.agg #[.int .i64 k', .int .i64 j, .int .u64 v, .string z, .slice bd len' cap']] w1.drew fun e w' => e = .returned .nilIface ∧ Below w1.heap.size w1 w') :=
    (HO.out w1.drew (Below.drew B1)).mono fun e w' ⟨he, hb'⟩ => ⟨he, (Below.drew (Below.refl _ w1)).trans hb'⟩
  clear d1
  go_wp2_with fail
  go_region_held3 (fun w' => w'.cell? ⟨w.heap.size + 1, 0, none⟩ = some (.int .i64 k') ∧ w'.cell? ⟨w.heap.size + 1, 1, none⟩ = some (.int .i64 j) ∧ w'.cell? ⟨w.heap.size + 1, 2, none⟩ = some (.int .u64 v) ∧ w'.cell? ⟨w.heap.size + 1, 3, none⟩ = some (.string z) ∧ w'.cell? ⟨w.heap.size + 1, 4, none⟩ = some (.slice bd len' cap')) (first | go_keep | exact KS.out _ (by assumption)) (first | (go_at_call 24; refine KC.out.mono ?_; rintro e w2 ⟨rfl, b2⟩) | (go_at_call 133; refine (lsAt5A s _).mono ?_; rintro e w3 ⟨rfl, hw3⟩; subst hw3))
  all_goals go_wp2
  all_goals go_ret2
  all_goals exact ⟨rfl, B1.trans (b2.mono B1.size)⟩
set_option maxRecDepth 100000 in
set_option maxHeartbeats 2000000 in
theorem lsDiff5B (i u k' j v : Int) (s z : ByteArray) (ad bd : Option Addr) (len cap len' cap' : Nat) (w : World) (T : TypeId) (hT : T ≠ 99) (hO : ∀ wx, Below w.heap.size w wx → Calls Tryz.prog 24 #[.agg #[.int .i64 k', .int .i64 j, .int .u64 v, .string z, .slice bd len' cap']] wx fun e w' => ∃ q, e = .returned (.iface T q) ∧ Below wx.heap.size wx w') :
    Calls Tryz.prog 15 #[.agg #[.int .i64 5, .int .i64 i, .int .u64 u, .string s, .slice ad len cap], .agg #[.int .i64 k', .int .i64 j, .int .u64 v, .string z, .slice bd len' cap']] w fun e w' => e = .returned (.tuple #[.bool false, .int .i64 15]) ∧ Below w.heap.size w w' := by
  have h1 : ∀ w : World, (Instr.typeAssert (.iface 99 (.string s)) 20 71 true).run Tryz.prog w = .ok (.tuple #[.iface 99 (.string s), .bool true]) w := fun _ => by kernel_rfl
  have hmf : ∀ (fn : Fn) (first cap : Array Value) (w : World), (Instr.makeFunc fn first cap).run Tryz.prog w = .ok (.func fn first cap) w := fun _ _ _ _ => rfl
  have hna : ∀ w : World, (nilAhead 323 99 (.string s) "Less").run Tryz.prog w = .ok (some false) w := fun _ => by kernel_rfl
  have hme : ∀ w : World, (method 323 99 (.string s) "Less").run Tryz.prog w = .ok (133, .string s) w := fun _ => by kernel_rfl
  have b0 : ∀ o1 o2 : Obj, Below w.heap.size w ((w.alloc o1).alloc o2) := fun o1 o2 => ((Below.refl _ w).alloc (Nat.le_refl _) _).alloc (by simp) _
  have db := D5.new (w.alloc (.cells #[.int .i64 5, .int .i64 i, .int .u64 u, .string s, .slice ad len cap] 25)) (.int .i64 k') (.int .i64 j) (.int .u64 v) (.string z) (.slice bd len' cap')
  rw [World.size_alloc] at db
  have HO := Lib.hid hO
  clear hO
  go_enter Tryz.func15, Tryz.ntmps15
  go_wp2_with fail
  refine (odVal5 i u s ad len cap _).mono ?_
  rintro e w1 ⟨rfl, b1⟩
  have d1 := db.kept (b := w.heap.size) (grown_below b1) (by omega)
  obtain ⟨k0, k1, k2, k3, k4⟩ := d1.c
  have B1 := (b0 _ _).trans (b1.mono (by simp; omega))
  clear db b1 b0
  have hz : w.heap.size + 1 < w1.heap.size := d1.lt
  have KS : Hid (∀ w' : World, Below w1.heap.size w1 w' → w'.cell? ⟨w.heap.size + 1, 0, none⟩ = some (.int .i64 k') ∧ w'.cell? ⟨w.heap.size + 1, 1, none⟩ = some (.int .i64 j) ∧ w'.cell? ⟨w.heap.size + 1, 2, none⟩ = some (.int .u64 v) ∧ w'.cell? ⟨w.heap.size + 1, 3, none⟩ = some (.string z) ∧ w'.cell? ⟨w.heap.size + 1, 4, none⟩ = some (.slice bd len' cap')) := fun w' h' => ⟨(h'.cell (p := ⟨w.heap.size + 1, 0, none⟩) hz).trans k0, (h'.cell (p := ⟨w.heap.size + 1, 1, none⟩) hz).trans k1, (h'.cell (p := ⟨w.heap.size + 1, 2, none⟩) hz).trans k2, (h'.cell (p := ⟨w.heap.size + 1, 3, none⟩) hz).trans k3, (h'.cell (p := ⟨w.heap.size + 1, 4, none⟩) hz).trans k4⟩
  have KC : Hid (Calls Tryz.prog 24 #[.agg #[.int .i64 k', .int .i64 j, .int .u64 v, .string z, .slice bd len' cap']] w1.drew fun e w' => ∃ q, e = .returned (.iface T q) ∧ Below w1.heap.size w1 w') :=
    (HO.out w1.drew (Below.drew B1)).mono fun e w' ⟨q, he, hb'⟩ => ⟨q, he, (Below.drew (Below.refl _ w1)).trans hb'⟩
  clear d1
  go_wp2_with fail
  go_region_held3 (fun w' => w'.cell? ⟨w.heap.size + 1, 0, none⟩ = some (.int .i64 k') ∧ w'.cell? ⟨w.heap.size + 1, 1, none⟩ = some (.int .i64 j) ∧ w'.cell? ⟨w.heap.size + 1, 2, none⟩ = some (.int .u64 v) ∧ w'.cell? ⟨w.heap.size + 1, 3, none⟩ = some (.string z) ∧ w'.cell? ⟨w.heap.size + 1, 4, none⟩ = some (.slice bd len' cap')) (first | go_keep | exact KS.out _ (by assumption)) (first | (go_at_call 24; refine KC.out.mono ?_; rintro e w2 ⟨q, rfl, b2⟩) | (go_at_call 133; refine (lsAt5B s T _ hT _).mono ?_; rintro e w3 ⟨rfl, hw3⟩; subst hw3))
  all_goals go_wp2
  all_goals go_ret2
  all_goals exact ⟨rfl, B1.trans (b2.mono B1.size)⟩
set_option maxRecDepth 100000 in
set_option maxHeartbeats 2000000 in
theorem lsNo (k i u k' j v : Int) (s z : ByteArray) (ad bd : Option Addr) (len cap len' cap' : Nat) (w : World)
    (hO : ∀ wx, Below w.heap.size w wx → Calls Tryz.prog 24 #[.agg #[.int .i64 k, .int .i64 i, .int .u64 u, .string s, .slice ad len cap]] wx fun e w' => ∃ v, e = .returned v ∧ Sx v ∧ Hid (∀ w, (Instr.typeAssert v 20 71 true).run Tryz.prog w = .ok (.tuple #[.nilIface, .bool false]) w) ∧ Below wx.heap.size wx w') :
    Calls Tryz.prog 15 #[.agg #[.int .i64 k, .int .i64 i, .int .u64 u, .string s, .slice ad len cap], .agg #[.int .i64 k', .int .i64 j, .int .u64 v, .string z, .slice bd len' cap']] w fun e w' => e = .returned (.tuple #[.bool false, .int .i64 12]) ∧ Below w.heap.size w w' := by
  have b0 : ∀ o1 o2 : Obj, Below w.heap.size w ((w.alloc o1).alloc o2) := fun o1 o2 => ((Below.refl _ w).alloc (Nat.le_refl _) _).alloc (by simp) _
  have HO := Lib.hid hO
  clear hO
  go_enter Tryz.func15, Tryz.ntmps15
  go_wp2_with fail
  refine (HO.out _ (b0 _ _)).mono ?_
  rintro e w1 ⟨vv, rfl, hs, ha, b1⟩
  have B1 := (b0 (.cells #[.int .i64 k, .int .i64 i, .int .u64 u, .string s, .slice ad len cap] 25) (.cells #[.int .i64 k', .int .i64 j, .int .u64 v, .string z, .slice bd len' cap'] 25)).trans (b1.mono (by simp; omega))
  rcases hs with rfl | ⟨T, z, rfl⟩
  all_goals
    have has := ha.out
    go_wp2
    go_ret2
    exact ⟨rfl, B1⟩
end Go.Proofs.YtlmebokbbhjbmaaGreatDoor.Dt
