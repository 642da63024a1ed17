/- The document's look at each part of a value's tree, every kind; the condition: the tree in memory. -/
import Derived.Test.YtkgbpildikjoiaaGreatDoorDRtB
namespace Go.Proofs.YtkgbpildikjoiaaGreatDoor.Dt
open Go.RowKit

theorem ok8 {i u : Int} {z len : Nat} (h : okB 8 i u z len = true) : i = 0 ∧ u = 0 ∧ z = 0 := by
  have e : okB 8 i u z len = decide (i = 0 ∧ u = 0 ∧ z = 0) := rfl
  rw [e] at h; exact of_decide_eq_true h
theorem ok9 {i u : Int} {z len : Nat} (h : okB 9 i u z len = true) : i = 0 ∧ u = 0 ∧ z = 0 ∧ len = 2 := by
  have e : okB 9 i u z len = decide (i = 0 ∧ u = 0 ∧ z = 0 ∧ len = 2) := rfl
  rw [e] at h; exact of_decide_eq_true h
theorem ok11 {i u : Int} {z len : Nat} (h : okB 11 i u z len = true) : 1 ≤ i ∧ u = 0 ∧ z = 0 ∧ len = 1 := by
  have e : okB 11 i u z len = decide (1 ≤ i ∧ u = 0 ∧ z = 0 ∧ len = 1) := rfl
  rw [e] at h; exact of_decide_eq_true h
set_option maxRecDepth 100000 in
set_option maxHeartbeats 1000000 in
theorem wrong8 (i u : Int) (s : ByteArray) (ad : Option Addr) (len cap : Nat) (w : World) (_hs : s.size ≤ maxLen) (_hl : len ≤ maxLen) (ho : okB 8 i u s.size len = false) :
    Calls Tryz.prog 27 #[.agg #[.int .i64 8, .int .i64 i, .int .u64 u, .string s, .slice ad len cap]] w fun e w' => e = .returned (.bool false) ∧ Below w.heap.size w w' := by
  have HO := Lib.hid ho
  clear ho
  unfold maxLen at _hs _hl
  go_enter Tryz.func27, Tryz.ntmps27
  go_wp2_with fail
  all_goals first | (go_ret; exact ⟨rfl, (Below.refl _ w).alloc (Nat.le_refl _) _⟩) | (exfalso; have ho := HO.out; have hz := nil_size s; generalize s.toList = L at *; generalize s.size = z at *; simp_all [okB]; done) | (exfalso; have ho := HO.out; have hz := nil_size s; generalize s.toList = L at *; generalize s.size = z at *; simp_all [okB]; omega)
set_option maxRecDepth 100000 in
set_option maxHeartbeats 1000000 in
theorem wrong9 (i u : Int) (s : ByteArray) (ad : Option Addr) (len cap : Nat) (w : World) (_hs : s.size ≤ maxLen) (_hl : len ≤ maxLen) (ho : okB 9 i u s.size len = false) :
    Calls Tryz.prog 27 #[.agg #[.int .i64 9, .int .i64 i, .int .u64 u, .string s, .slice ad len cap]] w fun e w' => e = .returned (.bool false) ∧ Below w.heap.size w w' := by
  have HO := Lib.hid ho
  clear ho
  unfold maxLen at _hs _hl
  go_enter Tryz.func27, Tryz.ntmps27
  go_wp2_with fail
  all_goals first | (go_ret; exact ⟨rfl, (Below.refl _ w).alloc (Nat.le_refl _) _⟩) | (exfalso; have ho := HO.out; have hz := nil_size s; generalize s.toList = L at *; generalize s.size = z at *; simp_all [okB]; done) | (exfalso; have ho := HO.out; have hz := nil_size s; generalize s.toList = L at *; generalize s.size = z at *; simp_all [okB]; omega)
set_option maxRecDepth 100000 in
set_option maxHeartbeats 1000000 in
theorem wrong11 (i u : Int) (s : ByteArray) (ad : Option Addr) (len cap : Nat) (w : World) (_hs : s.size ≤ maxLen) (_hl : len ≤ maxLen) (ho : okB 11 i u s.size len = false) :
    Calls Tryz.prog 27 #[.agg #[.int .i64 11, .int .i64 i, .int .u64 u, .string s, .slice ad len cap]] w fun e w' => e = .returned (.bool false) ∧ Below w.heap.size w w' := by
  have HO := Lib.hid ho
  clear ho
  unfold maxLen at _hs _hl
  go_enter Tryz.func27, Tryz.ntmps27
  go_wp2_with fail
  all_goals first | (go_ret; exact ⟨rfl, (Below.refl _ w).alloc (Nat.le_refl _) _⟩) | (exfalso; have ho := HO.out; have hz := nil_size s; generalize s.toList = L at *; generalize s.size = z at *; simp_all [okB]; done) | (exfalso; have ho := HO.out; have hz := nil_size s; generalize s.toList = L at *; generalize s.size = z at *; simp_all [okB]; omega)

set_option maxRecDepth 100000 in
set_option maxHeartbeats 1000000 in
theorem rightRow8 (n : Nat) (ks : List (Tr n)) (s : ByteArray) (ad : Option Addr) (cap : Nat) (w : World) (htx : s.size ≤ maxLen) (hlen : ks.length ≤ cap) (hcap : cap ≤ maxLen)
    (hk : ks = [] ∨ ∃ g o, ad = some ⟨g, o, none⟩ ∧ ∀ (j : Nat) (t' : Tr n), ks[j]? = some t' → ∃ v0 v1 v2 v3 v4, w.cell? ⟨g, o + j * 5, none⟩ = some v0 ∧ w.cell? ⟨g, o + j * 5 + 1, none⟩ = some v1 ∧ w.cell? ⟨g, o + j * 5 + 2, none⟩ = some v2 ∧ w.cell? ⟨g, o + j * 5 + 3, none⟩ = some v3 ∧ w.cell? ⟨g, o + j * 5 + 4, none⟩ = some v4 ∧ Rep w n [v0, v1, v2, v3, v4] t')
    (ho : okB 8 0 0 s.size ks.length = true)
    (ih : ∀ (t : Tr n) (v0 v1 v2 v3 v4 : Value) (w : World), Rep w n [v0, v1, v2, v3, v4] t → Calls Tryz.prog 27 #[.agg #[v0, v1, v2, v3, v4]] w fun e w' => e = .returned (.bool (rgt n t)) ∧ Below w.heap.size w w') :
    Calls Tryz.prog 27 #[.agg #[.int .i64 8, .int .i64 0, .int .u64 0, .string s, .slice ad ks.length cap]] w fun e w' => e = .returned (.bool (ks.all (rgt n))) ∧ Below w.heap.size w w' := by
  have HI := Lib.hid ih
  have HK := Lib.hid hk
  clear ih hk
  unfold maxLen at hcap htx
  obtain ⟨-, -, hsz⟩ := ok8 ho
  have hnl := (nil_size s).2 hsz
  have hlt5 : (s.size : Int) ≤ 65535 := by omega
  clear ho hsz
  have d0 := D5.new w (.int .i64 8) (.int .i64 0) (.int .u64 0) (.string s) (.slice ad ks.length cap)
  go_enter Tryz.func27, Tryz.ntmps27
  go_wp2_with fail
  go_loopw [89] (fun si wr => ∃ (j : Nat), si = .int .i64 j ∧ j ≤ ks.length ∧ (ks.drop j).all (rgt n) = ks.all (rgt n) ∧ Below (w.heap.size + 1) (w.alloc (.cells #[.int .i64 8, .int .i64 0, .int .u64 0, .string s, .slice ad ks.length cap] 26)) wr) (fun si _ => ks.length - (intOf si).toNat)
  case atStart => exact ⟨0, rfl, Nat.zero_le _, rfl, Below.refl _ _⟩
  case round =>
    obtain ⟨j, rfl, hj, hinv, hb⟩ := hrel
    have HV := Lib.hid hinv
    clear hinv
    have dr : D5 wr w.heap.size (.int .i64 8) (.int .i64 0) (.int .u64 0) (.string s) (.slice ad ks.length cap) := (hb.block w.heap.size (Nat.lt_succ_self _)).trans d0
    have c4 := dr.c.2.2.2.2
    have bw : Below w.heap.size w wr := ((Below.refl _ w).alloc (Nat.le_refl _) _).trans (hb.mono (Nat.le_succ _))
    by_cases hlt : j < ks.length
    · have hne : ks ≠ [] := by intro e; rw [e] at hlt; exact absurd hlt (Nat.not_lt_zero _)
      rcases HK.out with hk | ⟨g, o, hk1, hk2⟩
      · exact absurd hk hne
      subst hk1
      obtain ⟨v0, v1, v2, v3, v4, e0, e1, e2, e3, e4, rk⟩ := hk2 j _ (List.getElem?_eq_getElem hlt)
      have hg : g < w.heap.size := World.block_lt_of_cell? w _ e0
      have x0 := (bw.cell (p := ⟨g, o + j * 5, none⟩) hg).trans e0
      have x1 := (bw.cell (p := ⟨g, o + j * 5 + 1, none⟩) hg).trans e1
      have x2 := (bw.cell (p := ⟨g, o + j * 5 + 2, none⟩) hg).trans e2
      have x3 := (bw.cell (p := ⟨g, o + j * 5 + 3, none⟩) hg).trans e3
      have x4 := (bw.cell (p := ⟨g, o + j * 5 + 4, none⟩) hg).trans e4
      have rk' := Rep.below bw n _ _ rk
      clear e0 e1 e2 e3 e4 rk hk2 HK
      go_wp2_with fail
      refine (HI.out ks[j] v0 v1 v2 v3 v4 wr rk').mono ?_
      rintro e w1 ⟨rfl, b1⟩
      have hv := HV.out
      rw [drop_at ks j hlt, List.all_cons] at hv
      have b2 : Below (w.heap.size + 1) (w.alloc (.cells #[.int .i64 8, .int .i64 0, .int .u64 0, .string s, .slice (some ⟨g, o, none⟩) ks.length cap] 26)) w1 := hb.trans (b1.mono (by have := hb.size; simp at this; omega))
      have bw1 : Below w.heap.size w w1 := ((Below.refl _ w).alloc (Nat.le_refl _) _).trans (b2.mono (Nat.le_succ _))
      cases hr : rgt n ks[j] with
      | true =>
        rw [hr, Bool.true_and] at hv
        have HW := Lib.hid hv
        clear hv HV x0 x1 x2 x3 x4 rk' b1 dr c4 hr
        go_wp2_with fail
        refine ⟨⟨j + 1, by go_num, by omega, HW.out, b2⟩, by simp [intOf]; omega⟩
      | false =>
        rw [hr, Bool.false_and] at hv
        have HW := Lib.hid hv
        clear hv HV x0 x1 x2 x3 x4 rk' b1 dr c4 hr
        go_wp2_with fail
        go_ret
        exact ⟨ret_b HW.out, bw1⟩
    · have hje : j = ks.length := by omega
      have hv := HV.out
      rw [hje, List.drop_length] at hv
      have HW := Lib.hid hv
      clear hv HV
      go_wp2_with fail
      go_ret
      exact ⟨ret_b HW.out, bw⟩

set_option maxRecDepth 100000 in
set_option maxHeartbeats 1000000 in
theorem rightRow9 (n : Nat) (ks : List (Tr n)) (s : ByteArray) (ad : Option Addr) (cap : Nat) (w : World) (htx : s.size ≤ maxLen) (hlen : ks.length ≤ cap) (hcap : cap ≤ maxLen)
    (hk : ks = [] ∨ ∃ g o, ad = some ⟨g, o, none⟩ ∧ ∀ (j : Nat) (t' : Tr n), ks[j]? = some t' → ∃ v0 v1 v2 v3 v4, w.cell? ⟨g, o + j * 5, none⟩ = some v0 ∧ w.cell? ⟨g, o + j * 5 + 1, none⟩ = some v1 ∧ w.cell? ⟨g, o + j * 5 + 2, none⟩ = some v2 ∧ w.cell? ⟨g, o + j * 5 + 3, none⟩ = some v3 ∧ w.cell? ⟨g, o + j * 5 + 4, none⟩ = some v4 ∧ Rep w n [v0, v1, v2, v3, v4] t')
    (ho : okB 9 0 0 s.size ks.length = true)
    (ih : ∀ (t : Tr n) (v0 v1 v2 v3 v4 : Value) (w : World), Rep w n [v0, v1, v2, v3, v4] t → Calls Tryz.prog 27 #[.agg #[v0, v1, v2, v3, v4]] w fun e w' => e = .returned (.bool (rgt n t)) ∧ Below w.heap.size w w') :
    Calls Tryz.prog 27 #[.agg #[.int .i64 9, .int .i64 0, .int .u64 0, .string s, .slice ad ks.length cap]] w fun e w' => e = .returned (.bool (ks.all (rgt n))) ∧ Below w.heap.size w w' := by
  have HI := Lib.hid ih
  have HK := Lib.hid hk
  clear ih hk
  unfold maxLen at hcap htx
  obtain ⟨-, -, hsz, hl2⟩ := ok9 ho
  have hnl := (nil_size s).2 hsz
  have hlt5 : (s.size : Int) ≤ 65535 := by omega
  have hln : ((ks.length : Int) != 2) = false := by simp; omega
  clear ho hsz hl2
  have d0 := D5.new w (.int .i64 9) (.int .i64 0) (.int .u64 0) (.string s) (.slice ad ks.length cap)
  go_enter Tryz.func27, Tryz.ntmps27
  go_wp2_with fail
  go_loopw [89] (fun si wr => ∃ (j : Nat), si = .int .i64 j ∧ j ≤ ks.length ∧ (ks.drop j).all (rgt n) = ks.all (rgt n) ∧ Below (w.heap.size + 1) (w.alloc (.cells #[.int .i64 9, .int .i64 0, .int .u64 0, .string s, .slice ad ks.length cap] 26)) wr) (fun si _ => ks.length - (intOf si).toNat)
  case atStart => exact ⟨0, rfl, Nat.zero_le _, rfl, Below.refl _ _⟩
  case round =>
    obtain ⟨j, rfl, hj, hinv, hb⟩ := hrel
    have HV := Lib.hid hinv
    clear hinv
    have dr : D5 wr w.heap.size (.int .i64 9) (.int .i64 0) (.int .u64 0) (.string s) (.slice ad ks.length cap) := (hb.block w.heap.size (Nat.lt_succ_self _)).trans d0
    have c4 := dr.c.2.2.2.2
    have bw : Below w.heap.size w wr := ((Below.refl _ w).alloc (Nat.le_refl _) _).trans (hb.mono (Nat.le_succ _))
    by_cases hlt : j < ks.length
    · have hne : ks ≠ [] := by intro e; rw [e] at hlt; exact absurd hlt (Nat.not_lt_zero _)
      rcases HK.out with hk | ⟨g, o, hk1, hk2⟩
      · exact absurd hk hne
      subst hk1
      obtain ⟨v0, v1, v2, v3, v4, e0, e1, e2, e3, e4, rk⟩ := hk2 j _ (List.getElem?_eq_getElem hlt)
      have hg : g < w.heap.size := World.block_lt_of_cell? w _ e0
      have x0 := (bw.cell (p := ⟨g, o + j * 5, none⟩) hg).trans e0
      have x1 := (bw.cell (p := ⟨g, o + j * 5 + 1, none⟩) hg).trans e1
      have x2 := (bw.cell (p := ⟨g, o + j * 5 + 2, none⟩) hg).trans e2
      have x3 := (bw.cell (p := ⟨g, o + j * 5 + 3, none⟩) hg).trans e3
      have x4 := (bw.cell (p := ⟨g, o + j * 5 + 4, none⟩) hg).trans e4
      have rk' := Rep.below bw n _ _ rk
      clear e0 e1 e2 e3 e4 rk hk2 HK
      go_wp2_with fail
      refine (HI.out ks[j] v0 v1 v2 v3 v4 wr rk').mono ?_
      rintro e w1 ⟨rfl, b1⟩
      have hv := HV.out
      rw [drop_at ks j hlt, List.all_cons] at hv
      have b2 : Below (w.heap.size + 1) (w.alloc (.cells #[.int .i64 9, .int .i64 0, .int .u64 0, .string s, .slice (some ⟨g, o, none⟩) ks.length cap] 26)) w1 := hb.trans (b1.mono (by have := hb.size; simp at this; omega))
      have bw1 : Below w.heap.size w w1 := ((Below.refl _ w).alloc (Nat.le_refl _) _).trans (b2.mono (Nat.le_succ _))
      cases hr : rgt n ks[j] with
      | true =>
        rw [hr, Bool.true_and] at hv
        have HW := Lib.hid hv
        clear hv HV x0 x1 x2 x3 x4 rk' b1 dr c4 hr
        go_wp2_with fail
        refine ⟨⟨j + 1, by go_num, by omega, HW.out, b2⟩, by simp [intOf]; omega⟩
      | false =>
        rw [hr, Bool.false_and] at hv
        have HW := Lib.hid hv
        clear hv HV x0 x1 x2 x3 x4 rk' b1 dr c4 hr
        go_wp2_with fail
        go_ret
        exact ⟨ret_b HW.out, bw1⟩
    · have hje : j = ks.length := by omega
      have hv := HV.out
      rw [hje, List.drop_length] at hv
      have HW := Lib.hid hv
      clear hv HV
      go_wp2_with fail
      go_ret
      exact ⟨ret_b HW.out, bw⟩

set_option maxRecDepth 100000 in
set_option maxHeartbeats 1000000 in
theorem rightRow11 (n : Nat) (ks : List (Tr n)) (i : Int) (s : ByteArray) (ad : Option Addr) (cap : Nat) (w : World) (htx : s.size ≤ maxLen) (hlen : ks.length ≤ cap) (hcap : cap ≤ maxLen)
    (hk : ks = [] ∨ ∃ g o, ad = some ⟨g, o, none⟩ ∧ ∀ (j : Nat) (t' : Tr n), ks[j]? = some t' → ∃ v0 v1 v2 v3 v4, w.cell? ⟨g, o + j * 5, none⟩ = some v0 ∧ w.cell? ⟨g, o + j * 5 + 1, none⟩ = some v1 ∧ w.cell? ⟨g, o + j * 5 + 2, none⟩ = some v2 ∧ w.cell? ⟨g, o + j * 5 + 3, none⟩ = some v3 ∧ w.cell? ⟨g, o + j * 5 + 4, none⟩ = some v4 ∧ Rep w n [v0, v1, v2, v3, v4] t')
    (ho : okB 11 i 0 s.size ks.length = true)
    (ih : ∀ (t : Tr n) (v0 v1 v2 v3 v4 : Value) (w : World), Rep w n [v0, v1, v2, v3, v4] t → Calls Tryz.prog 27 #[.agg #[v0, v1, v2, v3, v4]] w fun e w' => e = .returned (.bool (rgt n t)) ∧ Below w.heap.size w w') :
    Calls Tryz.prog 27 #[.agg #[.int .i64 11, .int .i64 i, .int .u64 0, .string s, .slice ad ks.length cap]] w fun e w' => e = .returned (.bool (ks.all (rgt n))) ∧ Below w.heap.size w w' := by
  have HI := Lib.hid ih
  have HK := Lib.hid hk
  clear ih hk
  unfold maxLen at hcap htx
  obtain ⟨hi, -, hsz, hl2⟩ := ok11 ho
  have hnl := (nil_size s).2 hsz
  have hlt5 : (s.size : Int) ≤ 65535 := by omega
  have hi1 : ¬ i < 1 := by omega
  have hln : ((ks.length : Int) != 1) = false := by simp; omega
  clear ho hsz hl2 hi
  have d0 := D5.new w (.int .i64 11) (.int .i64 i) (.int .u64 0) (.string s) (.slice ad ks.length cap)
  go_enter Tryz.func27, Tryz.ntmps27
  go_wp2_with fail
  go_loopw [89] (fun si wr => ∃ (j : Nat), si = .int .i64 j ∧ j ≤ ks.length ∧ (ks.drop j).all (rgt n) = ks.all (rgt n) ∧ Below (w.heap.size + 1) (w.alloc (.cells #[.int .i64 11, .int .i64 i, .int .u64 0, .string s, .slice ad ks.length cap] 26)) wr) (fun si _ => ks.length - (intOf si).toNat)
  case atStart => exact ⟨0, rfl, Nat.zero_le _, rfl, Below.refl _ _⟩
  case round =>
    obtain ⟨j, rfl, hj, hinv, hb⟩ := hrel
    have HV := Lib.hid hinv
    clear hinv
    have dr : D5 wr w.heap.size (.int .i64 11) (.int .i64 i) (.int .u64 0) (.string s) (.slice ad ks.length cap) := (hb.block w.heap.size (Nat.lt_succ_self _)).trans d0
    have c4 := dr.c.2.2.2.2
    have bw : Below w.heap.size w wr := ((Below.refl _ w).alloc (Nat.le_refl _) _).trans (hb.mono (Nat.le_succ _))
    by_cases hlt : j < ks.length
    · have hne : ks ≠ [] := by intro e; rw [e] at hlt; exact absurd hlt (Nat.not_lt_zero _)
      rcases HK.out with hk | ⟨g, o, hk1, hk2⟩
      · exact absurd hk hne
      subst hk1
      obtain ⟨v0, v1, v2, v3, v4, e0, e1, e2, e3, e4, rk⟩ := hk2 j _ (List.getElem?_eq_getElem hlt)
      have hg : g < w.heap.size := World.block_lt_of_cell? w _ e0
      have x0 := (bw.cell (p := ⟨g, o + j * 5, none⟩) hg).trans e0
      have x1 := (bw.cell (p := ⟨g, o + j * 5 + 1, none⟩) hg).trans e1
      have x2 := (bw.cell (p := ⟨g, o + j * 5 + 2, none⟩) hg).trans e2
      have x3 := (bw.cell (p := ⟨g, o + j * 5 + 3, none⟩) hg).trans e3
      have x4 := (bw.cell (p := ⟨g, o + j * 5 + 4, none⟩) hg).trans e4
      have rk' := Rep.below bw n _ _ rk
      clear e0 e1 e2 e3 e4 rk hk2 HK
      go_wp2_with fail
      refine (HI.out ks[j] v0 v1 v2 v3 v4 wr rk').mono ?_
      rintro e w1 ⟨rfl, b1⟩
      have hv := HV.out
      rw [drop_at ks j hlt, List.all_cons] at hv
      have b2 : Below (w.heap.size + 1) (w.alloc (.cells #[.int .i64 11, .int .i64 i, .int .u64 0, .string s, .slice (some ⟨g, o, none⟩) ks.length cap] 26)) w1 := hb.trans (b1.mono (by have := hb.size; simp at this; omega))
      have bw1 : Below w.heap.size w w1 := ((Below.refl _ w).alloc (Nat.le_refl _) _).trans (b2.mono (Nat.le_succ _))
      cases hr : rgt n ks[j] with
      | true =>
        rw [hr, Bool.true_and] at hv
        have HW := Lib.hid hv
        clear hv HV x0 x1 x2 x3 x4 rk' b1 dr c4 hr
        go_wp2_with fail
        refine ⟨⟨j + 1, by go_num, by omega, HW.out, b2⟩, by simp [intOf]; omega⟩
      | false =>
        rw [hr, Bool.false_and] at hv
        have HW := Lib.hid hv
        clear hv HV x0 x1 x2 x3 x4 rk' b1 dr c4 hr
        go_wp2_with fail
        go_ret
        exact ⟨ret_b HW.out, bw1⟩
    · have hje : j = ks.length := by omega
      have hv := HV.out
      rw [hje, List.drop_length] at hv
      have HW := Lib.hid hv
      clear hv HV
      go_wp2_with fail
      go_ret
      exact ⟨ret_b HW.out, bw⟩

/-- At the kinds without a list what is right has none. -/
theorem flat_len {k i u : Int} {z len : Nat} (h : okB k i u z len = true) (h8 : k ≠ 8) (h9 : k ≠ 9) (h11 : k ≠ 11) : len = 0 := by
  unfold okB at h
  repeat' split at h
  all_goals first | (have := of_decide_eq_true h; omega) | omega | (simp at h)

theorem right_any : ∀ (n : Nat) (t : Tr n) (v0 v1 v2 v3 v4 : Value) (w : World), Rep w n [v0, v1, v2, v3, v4] t →
    Calls Tryz.prog 27 #[.agg #[v0, v1, v2, v3, v4]] w fun e w' => e = .returned (.bool (rgt n t)) ∧ Below w.heap.size w w' := by
  intro n
  induction n with
  | zero => intro t; exact t.elim
  | succ n ih =>
    intro t v0 v1 v2 v3 v4 w h
    obtain ⟨ad, cap, e, htx, hlen, hcap, hk⟩ := h
    simp only [List.cons.injEq, and_true] at e
    obtain ⟨rfl, rfl, rfl, rfl, rfl⟩ := e
    have hmax : t.ks.length ≤ maxLen := Nat.le_trans hlen hcap
    have er : rgt (n + 1) t = (okB t.kd t.it t.ut t.tx.size t.ks.length && t.ks.all (rgt n)) := rfl
    have flat : t.kd ≠ 8 → t.kd ≠ 9 → t.kd ≠ 11 → rgt (n + 1) t = okB t.kd t.it t.ut t.tx.size t.ks.length := by
      intro h8 h9 h11
      rw [er]
      cases ho : okB t.kd t.it t.ut t.tx.size t.ks.length with
      | false => rfl
      | true =>
        have hl := flat_len ho h8 h9 h11
        have : t.ks = [] := List.length_eq_zero_iff.1 hl
        rw [this]; rfl
    generalize hkd : t.kd = k at *
    generalize t.it = i at *
    generalize t.ut = u at *
    generalize t.tx = s at *
    by_cases hno : k < 0 ∨ 13 < k
    · rw [flat (by omega) (by omega) (by omega)]; exact rightNo k i u s ad _ cap w hno htx hmax
    have hall : k = 0 ∨ k = 1 ∨ k = 2 ∨ k = 3 ∨ k = 4 ∨ k = 5 ∨ k = 6 ∨ k = 7 ∨ k = 10 ∨ k = 12 ∨ k = 13 ∨ k = 8 ∨ k = 9 ∨ k = 11 := by omega
    clear hkd
    rcases hall with rfl | rfl | rfl | rfl | rfl | rfl | rfl | rfl | rfl | rfl | rfl | rfl | rfl | rfl
    · rw [flat (by decide) (by decide) (by decide)]; exact right0 i u s ad _ cap w htx hmax
    · rw [flat (by decide) (by decide) (by decide)]; exact right1 i u s ad _ cap w htx hmax
    · rw [flat (by decide) (by decide) (by decide)]; exact right2 i u s ad _ cap w htx hmax
    · rw [flat (by decide) (by decide) (by decide)]; exact right3 i u s ad _ cap w htx hmax
    · rw [flat (by decide) (by decide) (by decide)]; exact right4 i u s ad _ cap w htx hmax
    · rw [flat (by decide) (by decide) (by decide)]; exact right5 i u s ad _ cap w htx hmax
    · rw [flat (by decide) (by decide) (by decide)]; exact right6 i u s ad _ cap w htx hmax
    · rw [flat (by decide) (by decide) (by decide)]; exact right7 i u s ad _ cap w htx hmax
    · rw [flat (by decide) (by decide) (by decide)]; exact right10 i u s ad _ cap w htx hmax
    · rw [flat (by decide) (by decide) (by decide)]; exact right12 i u s ad _ cap w htx hmax
    · rw [flat (by decide) (by decide) (by decide)]; exact right13 i u s ad _ cap w htx hmax
    · rw [er]
      cases ho : okB 8 i u s.size t.ks.length with
      | false => exact wrong8 i u s ad _ cap w htx hmax ho
      | true =>
        obtain ⟨rfl, rfl, -⟩ := ok8 ho
        exact rightRow8 n t.ks s ad cap w htx hlen hcap hk ho ih
    · rw [er]
      cases ho : okB 9 i u s.size t.ks.length with
      | false => exact wrong9 i u s ad _ cap w htx hmax ho
      | true =>
        obtain ⟨rfl, rfl, -⟩ := ok9 ho
        exact rightRow9 n t.ks s ad cap w htx hlen hcap hk ho ih
    · rw [er]
      cases ho : okB 11 i u s.size t.ks.length with
      | false => exact wrong11 i u s ad _ cap w htx hmax ho
      | true =>
        obtain ⟨-, rfl, -⟩ := ok11 ho
        exact rightRow11 n t.ks i s ad cap w htx hlen hcap hk ho ih
end Go.Proofs.YtkgbpildikjoiaaGreatDoor.Dt
