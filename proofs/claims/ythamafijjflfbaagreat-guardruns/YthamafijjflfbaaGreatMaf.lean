/- The document's look at each part of a value's tree, every kind; the condition: the tree in memory. -/
import Derived.Test.YthamafijjflfbaaGreatMae
import Derived.Laws.MakeOwn
import Derived.Laws.IdiomStrings
namespace Go.Proofs.YthamafijjflfbaaGreat.Dt
open Go.RowKit

theorem ok8 {i u : Int} {z len : Nat} (h : okB 8 i u z len = true) : i = 0 ∧ u = 0 ∧ z = 0 := by
  have e : okB 8 i u z len = decide (i = 0 ∧ u = 0 ∧ z = 0) := rfl
  rw [e] at h; exact of_decide_eq_true h
theorem ok9 {i u : Int} {z len : Nat} (h : okB 9 i u z len = true) : i = 0 ∧ u = 0 ∧ z = 0 ∧ len = 2 := by
  have e : okB 9 i u z len = decide (i = 0 ∧ u = 0 ∧ z = 0 ∧ len = 2) := rfl
  rw [e] at h; exact of_decide_eq_true h
theorem ok11 {i u : Int} {z len : Nat} (h : okB 11 i u z len = true) : 1 ≤ i ∧ u = 0 ∧ z = 0 ∧ len = 1 := by
  have e : okB 11 i u z len = decide (1 ≤ i ∧ u = 0 ∧ z = 0 ∧ len = 1) := rfl
  rw [e] at h; exact of_decide_eq_true h
set_option maxRecDepth 100000 in
set_option maxHeartbeats 1000000 in
theorem wrong8 (i u : Int) (s : ByteArray) (ad : Option Addr) (len cap : Nat) (w : World) (_hs : s.size ≤ maxLen) (_hl : len ≤ maxLen) (ho : okB 8 i u s.size len = false) :
    Calls Tryz.prog 34 #[.agg #[.int .i64 8, .int .i64 i, .int .u64 u, .string s, .slice ad len cap]] w fun e w' => e = .returned (.bool false) ∧ Below w.heap.size w w' := by
  have HO := Lib.hid ho
  clear ho
  unfold maxLen at _hs _hl
  go_enter Tryz.func34, Tryz.ntmps34
  go_wp2_with fail
  all_goals first | (go_ret; exact ⟨rfl, (Below.refl _ w).alloc (Nat.le_refl _) _⟩) | (exfalso; have ho := HO.out; have hz := nil_size s; generalize s.toList = L at *; generalize s.size = z at *; simp_all [okB]; done) | (exfalso; have ho := HO.out; have hz := nil_size s; generalize s.toList = L at *; generalize s.size = z at *; simp_all [okB]; omega)
set_option maxRecDepth 100000 in
set_option maxHeartbeats 1000000 in
theorem wrong9 (i u : Int) (s : ByteArray) (ad : Option Addr) (len cap : Nat) (w : World) (_hs : s.size ≤ maxLen) (_hl : len ≤ maxLen) (ho : okB 9 i u s.size len = false) :
    Calls Tryz.prog 34 #[.agg #[.int .i64 9, .int .i64 i, .int .u64 u, .string s, .slice ad len cap]] w fun e w' => e = .returned (.bool false) ∧ Below w.heap.size w w' := by
  have HO := Lib.hid ho
  clear ho
  unfold maxLen at _hs _hl
  go_enter Tryz.func34, Tryz.ntmps34
  go_wp2_with fail
  all_goals first | (go_ret; exact ⟨rfl, (Below.refl _ w).alloc (Nat.le_refl _) _⟩) | (exfalso; have ho := HO.out; have hz := nil_size s; generalize s.toList = L at *; generalize s.size = z at *; simp_all [okB]; done) | (exfalso; have ho := HO.out; have hz := nil_size s; generalize s.toList = L at *; generalize s.size = z at *; simp_all [okB]; omega)
set_option maxRecDepth 100000 in
set_option maxHeartbeats 1000000 in
theorem wrong11 (i u : Int) (s : ByteArray) (ad : Option Addr) (len cap : Nat) (w : World) (_hs : s.size ≤ maxLen) (_hl : len ≤ maxLen) (ho : okB 11 i u s.size len = false) :
    Calls Tryz.prog 34 #[.agg #[.int .i64 11, .int .i64 i, .int .u64 u, .string s, .slice ad len cap]] w fun e w' => e = .returned (.bool false) ∧ Below w.heap.size w w' := by
  have HO := Lib.hid ho
  clear ho
  unfold maxLen at _hs _hl
  go_enter Tryz.func34, Tryz.ntmps34
  go_wp2_with fail
  all_goals first | (go_ret; exact ⟨rfl, (Below.refl _ w).alloc (Nat.le_refl _) _⟩) | (exfalso; have ho := HO.out; have hz := nil_size s; generalize s.toList = L at *; generalize s.size = z at *; simp_all [okB]; done) | (exfalso; have ho := HO.out; have hz := nil_size s; generalize s.toList = L at *; generalize s.size = z at *; simp_all [okB]; omega)

set_option maxRecDepth 100000 in
set_option maxHeartbeats 1000000 in
theorem rightRow8 (n : Nat) (ks : List (Tr n)) (s : ByteArray) (ad : Option Addr) (cap : Nat) (w : World) (htx : s.size ≤ maxLen) (hlen : ks.length ≤ cap) (hcap : cap ≤ maxLen)
    (hk : ks = [] ∨ ∃ g o, ad = some ⟨g, o, none⟩ ∧ ∀ (j : Nat) (t' : Tr n), ks[j]? = some t' → ∃ v0 v1 v2 v3 v4, w.cell? ⟨g, o + j * 5, none⟩ = some v0 ∧ w.cell? ⟨g, o + j * 5 + 1, none⟩ = some v1 ∧ w.cell? ⟨g, o + j * 5 + 2, none⟩ = some v2 ∧ w.cell? ⟨g, o + j * 5 + 3, none⟩ = some v3 ∧ w.cell? ⟨g, o + j * 5 + 4, none⟩ = some v4 ∧ Rep w n [v0, v1, v2, v3, v4] t')
    (ho : okB 8 0 0 s.size ks.length = true)
    (ih : ∀ (t : Tr n) (v0 v1 v2 v3 v4 : Value) (w : World), Rep w n [v0, v1, v2, v3, v4] t → Calls Tryz.prog 34 #[.agg #[v0, v1, v2, v3, v4]] w fun e w' => e = .returned (.bool (rgt n t)) ∧ Below w.heap.size w w') :
    Calls Tryz.prog 34 #[.agg #[.int .i64 8, .int .i64 0, .int .u64 0, .string s, .slice ad ks.length cap]] w fun e w' => e = .returned (.bool (ks.all (rgt n))) ∧ Below w.heap.size w w' := by
  have HI := Lib.hid ih
  have HK := Lib.hid hk
  clear ih hk
  unfold maxLen at hcap htx
  obtain ⟨-, -, hsz⟩ := ok8 ho
  have hnl := (nil_size s).2 hsz
  have hlt5 : (s.size : Int) ≤ 65535 := by omega
  clear ho hsz
  have d0 := D5.new w (.int .i64 8) (.int .i64 0) (.int .u64 0) (.string s) (.slice ad ks.length cap)
  go_enter Tryz.func34, Tryz.ntmps34
  go_wp2_with fail
  go_loopw [89] (fun si wr => ∃ (j : Nat), si = .int .i64 j ∧ j ≤ ks.length ∧ (ks.drop j).all (rgt n) = ks.all (rgt n) ∧ Below (w.heap.size + 1) (w.alloc (.cells #[.int .i64 8, .int .i64 0, .int .u64 0, .string s, .slice ad ks.length cap] 25)) wr) (fun si _ => ks.length - (intOf si).toNat)
  case atStart => exact ⟨0, rfl, Nat.zero_le _, rfl, Below.refl _ _⟩
  case round =>
    obtain ⟨j, rfl, hj, hinv, hb⟩ := hrel
    have HV := Lib.hid hinv
    clear hinv
    have dr : D5 wr w.heap.size (.int .i64 8) (.int .i64 0) (.int .u64 0) (.string s) (.slice ad ks.length cap) := (hb.block w.heap.size (Nat.lt_succ_self _)).trans d0
    have c4 := dr.c.2.2.2.2
    have bw : Below w.heap.size w wr := ((Below.refl _ w).alloc (Nat.le_refl _) _).trans (hb.mono (Nat.le_succ _))
    by_cases hlt : j < ks.length
    · have hne : ks ≠ [] := by intro e; rw [e] at hlt; exact absurd hlt (Nat.not_lt_zero _)
      rcases HK.out with hk | ⟨g, o, hk1, hk2⟩
      · exact absurd hk hne
      subst hk1
      obtain ⟨v0, v1, v2, v3, v4, e0, e1, e2, e3, e4, rk⟩ := hk2 j _ (List.getElem?_eq_getElem hlt)
      have hg : g < w.heap.size := World.block_lt_of_cell? w _ e0
      have x0 := (bw.cell (p := ⟨g, o + j * 5, none⟩) hg).trans e0
      have x1 := (bw.cell (p := ⟨g, o + j * 5 + 1, none⟩) hg).trans e1
      have x2 := (bw.cell (p := ⟨g, o + j * 5 + 2, none⟩) hg).trans e2
      have x3 := (bw.cell (p := ⟨g, o + j * 5 + 3, none⟩) hg).trans e3
      have x4 := (bw.cell (p := ⟨g, o + j * 5 + 4, none⟩) hg).trans e4
      have rk' := Rep.below bw n _ _ rk
      clear e0 e1 e2 e3 e4 rk hk2 HK
      go_wp2_with fail
      refine (HI.out ks[j] v0 v1 v2 v3 v4 wr rk').mono ?_
      rintro e w1 ⟨rfl, b1⟩
      have hv := HV.out
      rw [drop_at ks j hlt, List.all_cons] at hv
      have b2 : Below (w.heap.size + 1) (w.alloc (.cells #[.int .i64 8, .int .i64 0, .int .u64 0, .string s, .slice (some ⟨g, o, none⟩) ks.length cap] 25)) w1 := hb.trans (b1.mono (by have := hb.size; simp at this; omega))
      have bw1 : Below w.heap.size w w1 := ((Below.refl _ w).alloc (Nat.le_refl _) _).trans (b2.mono (Nat.le_succ _))
      cases hr : rgt n ks[j] with
      | true =>
        rw [hr, Bool.true_and] at hv
        have HW := Lib.hid hv
        clear hv HV x0 x1 x2 x3 x4 rk' b1 dr c4 hr
        go_wp2_with fail
        refine ⟨⟨j + 1, by go_num, by omega, HW.out, b2⟩, by simp [intOf]; omega⟩
      | false =>
        rw [hr, Bool.false_and] at hv
        have HW := Lib.hid hv
        clear hv HV x0 x1 x2 x3 x4 rk' b1 dr c4 hr
        go_wp2_with fail
        go_ret
        exact ⟨ret_b HW.out, bw1⟩
    · have hje : j = ks.length := by omega
      have hv := HV.out
      rw [hje, List.drop_length] at hv
      have HW := Lib.hid hv
      clear hv HV
      go_wp2_with fail
      go_ret
      exact ⟨ret_b HW.out, bw⟩

set_option maxRecDepth 100000 in
set_option maxHeartbeats 1000000 in
theorem rightRow9 (n : Nat) (ks : List (Tr n)) (s : ByteArray) (ad : Option Addr) (cap : Nat) (w : World) (htx : s.size ≤ maxLen) (hlen : ks.length ≤ cap) (hcap : cap ≤ maxLen)
    (hk : ks = [] ∨ ∃ g o, ad = some ⟨g, o, none⟩ ∧ ∀ (j : Nat) (t' : Tr n), ks[j]? = some t' → ∃ v0 v1 v2 v3 v4, w.cell? ⟨g, o + j * 5, none⟩ = some v0 ∧ w.cell? ⟨g, o + j * 5 + 1, none⟩ = some v1 ∧ w.cell? ⟨g, o + j * 5 + 2, none⟩ = some v2 ∧ w.cell? ⟨g, o + j * 5 + 3, none⟩ = some v3 ∧ w.cell? ⟨g, o + j * 5 + 4, none⟩ = some v4 ∧ Rep w n [v0, v1, v2, v3, v4] t')
    (ho : okB 9 0 0 s.size ks.length = true)
    (ih : ∀ (t : Tr n) (v0 v1 v2 v3 v4 : Value) (w : World), Rep w n [v0, v1, v2, v3, v4] t → Calls Tryz.prog 34 #[.agg #[v0, v1, v2, v3, v4]] w fun e w' => e = .returned (.bool (rgt n t)) ∧ Below w.heap.size w w') :
    Calls Tryz.prog 34 #[.agg #[.int .i64 9, .int .i64 0, .int .u64 0, .string s, .slice ad ks.length cap]] w fun e w' => e = .returned (.bool (ks.all (rgt n))) ∧ Below w.heap.size w w' := by
  have HI := Lib.hid ih
  have HK := Lib.hid hk
  clear ih hk
  unfold maxLen at hcap htx
  obtain ⟨-, -, hsz, hl2⟩ := ok9 ho
  have hnl := (nil_size s).2 hsz
  have hlt5 : (s.size : Int) ≤ 65535 := by omega
  have hln : ((ks.length : Int) != 2) = false := by simp; omega
  clear ho hsz hl2
  have d0 := D5.new w (.int .i64 9) (.int .i64 0) (.int .u64 0) (.string s) (.slice ad ks.length cap)
  go_enter Tryz.func34, Tryz.ntmps34
  go_wp2_with fail
  go_loopw [89] (fun si wr => ∃ (j : Nat), si = .int .i64 j ∧ j ≤ ks.length ∧ (ks.drop j).all (rgt n) = ks.all (rgt n) ∧ Below (w.heap.size + 1) (w.alloc (.cells #[.int .i64 9, .int .i64 0, .int .u64 0, .string s, .slice ad ks.length cap] 25)) wr) (fun si _ => ks.length - (intOf si).toNat)
  case atStart => exact ⟨0, rfl, Nat.zero_le _, rfl, Below.refl _ _⟩
  case round =>
    obtain ⟨j, rfl, hj, hinv, hb⟩ := hrel
    have HV := Lib.hid hinv
    clear hinv
    have dr : D5 wr w.heap.size (.int .i64 9) (.int .i64 0) (.int .u64 0) (.string s) (.slice ad ks.length cap) := (hb.block w.heap.size (Nat.lt_succ_self _)).trans d0
    have c4 := dr.c.2.2.2.2
    have bw : Below w.heap.size w wr := ((Below.refl _ w).alloc (Nat.le_refl _) _).trans (hb.mono (Nat.le_succ _))
    by_cases hlt : j < ks.length
    · have hne : ks ≠ [] := by intro e; rw [e] at hlt; exact absurd hlt (Nat.not_lt_zero _)
      rcases HK.out with hk | ⟨g, o, hk1, hk2⟩
      · exact absurd hk hne
      subst hk1
      obtain ⟨v0, v1, v2, v3, v4, e0, e1, e2, e3, e4, rk⟩ := hk2 j _ (List.getElem?_eq_getElem hlt)
      have hg : g < w.heap.size := World.block_lt_of_cell? w _ e0
      have x0 := (bw.cell (p := ⟨g, o + j * 5, none⟩) hg).trans e0
      have x1 := (bw.cell (p := ⟨g, o + j * 5 + 1, none⟩) hg).trans e1
      have x2 := (bw.cell (p := ⟨g, o + j * 5 + 2, none⟩) hg).trans e2
      have x3 := (bw.cell (p := ⟨g, o + j * 5 + 3, none⟩) hg).trans e3
      have x4 := (bw.cell (p := ⟨g, o + j * 5 + 4, none⟩) hg).trans e4
      have rk' := Rep.below bw n _ _ rk
      clear e0 e1 e2 e3 e4 rk hk2 HK
      go_wp2_with fail
      refine (HI.out ks[j] v0 v1 v2 v3 v4 wr rk').mono ?_
      rintro e w1 ⟨rfl, b1⟩
      have hv := HV.out
      rw [drop_at ks j hlt, List.all_cons] at hv
      have b2 : Below (w.heap.size + 1) (w.alloc (.cells #[.int .i64 9, .int .i64 0, .int .u64 0, .string s, .slice (some ⟨g, o, none⟩) ks.length cap] 25)) w1 := hb.trans (b1.mono (by have := hb.size; simp at this; omega))
      have bw1 : Below w.heap.size w w1 := ((Below.refl _ w).alloc (Nat.le_refl _) _).trans (b2.mono (Nat.le_succ _))
      cases hr : rgt n ks[j] with
      | true =>
        rw [hr, Bool.true_and] at hv
        have HW := Lib.hid hv
        clear hv HV x0 x1 x2 x3 x4 rk' b1 dr c4 hr
        go_wp2_with fail
        refine ⟨⟨j + 1, by go_num, by omega, HW.out, b2⟩, by simp [intOf]; omega⟩
      | false =>
        rw [hr, Bool.false_and] at hv
        have HW := Lib.hid hv
        clear hv HV x0 x1 x2 x3 x4 rk' b1 dr c4 hr
        go_wp2_with fail
        go_ret
        exact ⟨ret_b HW.out, bw1⟩
    · have hje : j = ks.length := by omega
      have hv := HV.out
      rw [hje, List.drop_length] at hv
      have HW := Lib.hid hv
      clear hv HV
      go_wp2_with fail
      go_ret
      exact ⟨ret_b HW.out, bw⟩

set_option maxRecDepth 100000 in
set_option maxHeartbeats 1000000 in
theorem rightRow11 (n : Nat) (ks : List (Tr n)) (i : Int) (s : ByteArray) (ad : Option Addr) (cap : Nat) (w : World) (htx : s.size ≤ maxLen) (hlen : ks.length ≤ cap) (hcap : cap ≤ maxLen)
    (hk : ks = [] ∨ ∃ g o, ad = some ⟨g, o, none⟩ ∧ ∀ (j : Nat) (t' : Tr n), ks[j]? = some t' → ∃ v0 v1 v2 v3 v4, w.cell? ⟨g, o + j * 5, none⟩ = some v0 ∧ w.cell? ⟨g, o + j * 5 + 1, none⟩ = some v1 ∧ w.cell? ⟨g, o + j * 5 + 2, none⟩ = some v2 ∧ w.cell? ⟨g, o + j * 5 + 3, none⟩ = some v3 ∧ w.cell? ⟨g, o + j * 5 + 4, none⟩ = some v4 ∧ Rep w n [v0, v1, v2, v3, v4] t')
    (ho : okB 11 i 0 s.size ks.length = true)
    (ih : ∀ (t : Tr n) (v0 v1 v2 v3 v4 : Value) (w : World), Rep w n [v0, v1, v2, v3, v4] t → Calls Tryz.prog 34 #[.agg #[v0, v1, v2, v3, v4]] w fun e w' => e = .returned (.bool (rgt n t)) ∧ Below w.heap.size w w') :
    Calls Tryz.prog 34 #[.agg #[.int .i64 11, .int .i64 i, .int .u64 0, .string s, .slice ad ks.length cap]] w fun e w' => e = .returned (.bool (ks.all (rgt n))) ∧ Below w.heap.size w w' := by
  have HI := Lib.hid ih
  have HK := Lib.hid hk
  clear ih hk
  unfold maxLen at hcap htx
  obtain ⟨hi, -, hsz, hl2⟩ := ok11 ho
  have hnl := (nil_size s).2 hsz
  have hlt5 : (s.size : Int) ≤ 65535 := by omega
  have hi1 : ¬ i < 1 := by omega
  have hln : ((ks.length : Int) != 1) = false := by simp; omega
  clear ho hsz hl2 hi
  have d0 := D5.new w (.int .i64 11) (.int .i64 i) (.int .u64 0) (.string s) (.slice ad ks.length cap)
  go_enter Tryz.func34, Tryz.ntmps34
  go_wp2_with fail
  go_loopw [89] (fun si wr => ∃ (j : Nat), si = .int .i64 j ∧ j ≤ ks.length ∧ (ks.drop j).all (rgt n) = ks.all (rgt n) ∧ Below (w.heap.size + 1) (w.alloc (.cells #[.int .i64 11, .int .i64 i, .int .u64 0, .string s, .slice ad ks.length cap] 25)) wr) (fun si _ => ks.length - (intOf si).toNat)
  case atStart => exact ⟨0, rfl, Nat.zero_le _, rfl, Below.refl _ _⟩
  case round =>
    obtain ⟨j, rfl, hj, hinv, hb⟩ := hrel
    have HV := Lib.hid hinv
    clear hinv
    have dr : D5 wr w.heap.size (.int .i64 11) (.int .i64 i) (.int .u64 0) (.string s) (.slice ad ks.length cap) := (hb.block w.heap.size (Nat.lt_succ_self _)).trans d0
    have c4 := dr.c.2.2.2.2
    have bw : Below w.heap.size w wr := ((Below.refl _ w).alloc (Nat.le_refl _) _).trans (hb.mono (Nat.le_succ _))
    by_cases hlt : j < ks.length
    · have hne : ks ≠ [] := by intro e; rw [e] at hlt; exact absurd hlt (Nat.not_lt_zero _)
      rcases HK.out with hk | ⟨g, o, hk1, hk2⟩
      · exact absurd hk hne
      subst hk1
      obtain ⟨v0, v1, v2, v3, v4, e0, e1, e2, e3, e4, rk⟩ := hk2 j _ (List.getElem?_eq_getElem hlt)
      have hg : g < w.heap.size := World.block_lt_of_cell? w _ e0
      have x0 := (bw.cell (p := ⟨g, o + j * 5, none⟩) hg).trans e0
      have x1 := (bw.cell (p := ⟨g, o + j * 5 + 1, none⟩) hg).trans e1
      have x2 := (bw.cell (p := ⟨g, o + j * 5 + 2, none⟩) hg).trans e2
      have x3 := (bw.cell (p := ⟨g, o + j * 5 + 3, none⟩) hg).trans e3
      have x4 := (bw.cell (p := ⟨g, o + j * 5 + 4, none⟩) hg).trans e4
      have rk' := Rep.below bw n _ _ rk
      clear e0 e1 e2 e3 e4 rk hk2 HK
      go_wp2_with fail
      refine (HI.out ks[j] v0 v1 v2 v3 v4 wr rk').mono ?_
      rintro e w1 ⟨rfl, b1⟩
      have hv := HV.out
      rw [drop_at ks j hlt, List.all_cons] at hv
      have b2 : Below (w.heap.size + 1) (w.alloc (.cells #[.int .i64 11, .int .i64 i, .int .u64 0, .string s, .slice (some ⟨g, o, none⟩) ks.length cap] 25)) w1 := hb.trans (b1.mono (by have := hb.size; simp at this; omega))
      have bw1 : Below w.heap.size w w1 := ((Below.refl _ w).alloc (Nat.le_refl _) _).trans (b2.mono (Nat.le_succ _))
      cases hr : rgt n ks[j] with
      | true =>
        rw [hr, Bool.true_and] at hv
        have HW := Lib.hid hv
        clear hv HV x0 x1 x2 x3 x4 rk' b1 dr c4 hr
        go_wp2_with fail
        refine ⟨⟨j + 1, by go_num, by omega, HW.out, b2⟩, by simp [intOf]; omega⟩
      | false =>
        rw [hr, Bool.false_and] at hv
        have HW := Lib.hid hv
        clear hv HV x0 x1 x2 x3 x4 rk' b1 dr c4 hr
        go_wp2_with fail
        go_ret
        exact ⟨ret_b HW.out, bw1⟩
    · have hje : j = ks.length := by omega
      have hv := HV.out
      rw [hje, List.drop_length] at hv
      have HW := Lib.hid hv
      clear hv HV
      go_wp2_with fail
      go_ret
      exact ⟨ret_b HW.out, bw⟩

/-- At the kinds without a list what is right has none. -/
theorem flat_len {k i u : Int} {z len : Nat} (h : okB k i u z len = true) (h8 : k ≠ 8) (h9 : k ≠ 9) (h11 : k ≠ 11) : len = 0 := by
  unfold okB at h
  repeat' split at h
  all_goals first | (have := of_decide_eq_true h; omega) | omega | (simp at h)

theorem right_any : ∀ (n : Nat) (t : Tr n) (v0 v1 v2 v3 v4 : Value) (w : World), Rep w n [v0, v1, v2, v3, v4] t →
    Calls Tryz.prog 34 #[.agg #[v0, v1, v2, v3, v4]] w fun e w' => e = .returned (.bool (rgt n t)) ∧ Below w.heap.size w w' := by
  intro n
  induction n with
  | zero => intro t; exact t.elim
  | succ n ih =>
    intro t v0 v1 v2 v3 v4 w h
    obtain ⟨ad, cap, e, htx, hlen, hcap, hk⟩ := h
    simp only [List.cons.injEq, and_true] at e
    obtain ⟨rfl, rfl, rfl, rfl, rfl⟩ := e
    have hmax : t.ks.length ≤ maxLen := Nat.le_trans hlen hcap
    have er : rgt (n + 1) t = (okB t.kd t.it t.ut t.tx.size t.ks.length && t.ks.all (rgt n)) := rfl
    have flat : t.kd ≠ 8 → t.kd ≠ 9 → t.kd ≠ 11 → rgt (n + 1) t = okB t.kd t.it t.ut t.tx.size t.ks.length := by
      intro h8 h9 h11
      rw [er]
      cases ho : okB t.kd t.it t.ut t.tx.size t.ks.length with
      | false => rfl
      | true =>
        have hl := flat_len ho h8 h9 h11
        have : t.ks = [] := List.length_eq_zero_iff.1 hl
        rw [this]; rfl
    generalize hkd : t.kd = k at *
    generalize t.it = i at *
    generalize t.ut = u at *
    generalize t.tx = s at *
    by_cases hno : k < 0 ∨ 13 < k
    · rw [flat (by omega) (by omega) (by omega)]; exact rightNo k i u s ad _ cap w hno htx hmax
    have hall : k = 0 ∨ k = 1 ∨ k = 2 ∨ k = 3 ∨ k = 4 ∨ k = 5 ∨ k = 6 ∨ k = 7 ∨ k = 10 ∨ k = 12 ∨ k = 13 ∨ k = 8 ∨ k = 9 ∨ k = 11 := by omega
    clear hkd
    rcases hall with rfl | rfl | rfl | rfl | rfl | rfl | rfl | rfl | rfl | rfl | rfl | rfl | rfl | rfl
    · rw [flat (by decide) (by decide) (by decide)]; exact right0 i u s ad _ cap w htx hmax
    · rw [flat (by decide) (by decide) (by decide)]; exact right1 i u s ad _ cap w htx hmax
    · rw [flat (by decide) (by decide) (by decide)]; exact right2 i u s ad _ cap w htx hmax
    · rw [flat (by decide) (by decide) (by decide)]; exact right3 i u s ad _ cap w htx hmax
    · rw [flat (by decide) (by decide) (by decide)]; exact right4 i u s ad _ cap w htx hmax
    · rw [flat (by decide) (by decide) (by decide)]; exact right5 i u s ad _ cap w htx hmax
    · rw [flat (by decide) (by decide) (by decide)]; exact right6 i u s ad _ cap w htx hmax
    · rw [flat (by decide) (by decide) (by decide)]; exact right7 i u s ad _ cap w htx hmax
    · rw [flat (by decide) (by decide) (by decide)]; exact right10 i u s ad _ cap w htx hmax
    · rw [flat (by decide) (by decide) (by decide)]; exact right12 i u s ad _ cap w htx hmax
    · rw [flat (by decide) (by decide) (by decide)]; exact right13 i u s ad _ cap w htx hmax
    · rw [er]
      cases ho : okB 8 i u s.size t.ks.length with
      | false => exact wrong8 i u s ad _ cap w htx hmax ho
      | true =>
        obtain ⟨rfl, rfl, -⟩ := ok8 ho
        exact rightRow8 n t.ks s ad cap w htx hlen hcap hk ho ih
    · rw [er]
      cases ho : okB 9 i u s.size t.ks.length with
      | false => exact wrong9 i u s ad _ cap w htx hmax ho
      | true =>
        obtain ⟨rfl, rfl, -⟩ := ok9 ho
        exact rightRow9 n t.ks s ad cap w htx hlen hcap hk ho ih
    · rw [er]
      cases ho : okB 11 i u s.size t.ks.length with
      | false => exact wrong11 i u s ad _ cap w htx hmax ho
      | true =>
        obtain ⟨-, rfl, -⟩ := ok11 ho
        exact rightRow11 n t.ks i s ad cap w htx hlen hcap hk ho ih
end Go.Proofs.YthamafijjflfbaaGreat.Dt
/- What the document's Valid answers over a value's tree: what the plain walk says, in new memory alone; the condition: the tree in memory. -/
namespace Go.Proofs.YthamafijjflfbaaGreat.Dt
open Go.RowKit

theorem rep_shape {w : World} {n : Nat} {v0 v1 v2 v3 v4 : Value} {t : Tr n} (h : Rep w n [v0, v1, v2, v3, v4] t) : ∃ (k i u : Int) (s : ByteArray) (ad : Option Addr) (len cap : Nat), v0 = .int .i64 k ∧ v1 = .int .i64 i ∧ v2 = .int .u64 u ∧ v3 = .string s ∧ v4 = .slice ad len cap := by
  match n, t, h with
  | n + 1, t, h =>
    obtain ⟨ad, cap, e, -, -, -, -⟩ := h
    simp only [List.cons.injEq, and_true] at e
    exact ⟨_, _, _, _, _, _, _, e⟩

/-- What both Valid answer. -/
def vB (n : Nat) (t : Tr n) : Bool := (vw 16 n t 4096).1

set_option maxRecDepth 100000 in
set_option maxHeartbeats 1000000 in
theorem refValid (n : Nat) (t : Tr n) (v0 v1 v2 v3 v4 : Value) (w : World) (h : Rep w n [v0, v1, v2, v3, v4] t) :
    Calls Tryz.prog 17 #[.agg #[v0, v1, v2, v3, v4]] w fun e w' => e = .returned (.bool (vB n t)) ∧ Below w.heap.size w w' := by
  have S := say 16 n t 1 4096 (by decide) (by decide) (by decide)
  have bd := cnt_bd 16 n t 1 4096 (by decide) (by decide)
  obtain ⟨u0, u1, u2, u3, a4, n4, c4, rfl, rfl, rfl, rfl, rfl⟩ := rep_shape h
  have b0 : Below w.heap.size w (w.alloc (.cells #[.int .i64 u0, .int .i64 u1, .int .u64 u2, .string u3, .slice a4 n4 c4] 25)) := (Below.refl _ w).alloc (Nat.le_refl _) _
  have r0 := Rep.below b0 n _ _ h
  have d0 := D5.new w (.int .i64 u0) (.int .i64 u1) (.int .u64 u2) (.string u3) (.slice a4 n4 c4)
  have HR := Lib.hid (right_any n t)
  have hV : vB n t = (vw 16 n t 4096).1 := rfl
  generalize vw 16 n t 4096 = VV at S hV
  have HC := Lib.hid (count_any 16 n t _ _ _ _ _ 1 4096 _ r0 (by decide) (by decide) (by decide) (by decide))
  generalize cnt 16 n t 1 4096 = C at S bd HC
  obtain ⟨q1, q2, q3, q4⟩ := bd
  by_cases hC : C.1 = 4097
  · have hv : vB n t = false := by
      rw [hV]
      cases e : VV.1 with
      | false => rfl
      | true => exact absurd hC (S.down e).2.1
    rw [hv]
    have hn : ¬ C.1 ≤ 4096 := by omega
    have hnb : decide (C.1 ≤ 4096) = false := by simpa using hn
    clear hv hV S hC
    go_enter Tryz.func17, Tryz.ntmps17
    go_wp2_with fail
    refine HC.out.mono ?_
    rintro e w1 ⟨rfl, b1⟩
    go_wp2_with fail
    go_ret
    exact ⟨rfl, b0.trans (b1.mono b0.size)⟩
  · obtain ⟨f1, f2, f3, f4, f5⟩ := S.fit hC
    have hv : vB n t = rgt n t := by
      rw [hV]
      cases e : rgt n t with
      | true => exact S.up hC e
      | false =>
        cases e2 : VV.1 with
        | false => rfl
        | true => exact absurd ((S.down e2).1) (by rw [e]; simp)
    rw [hv]
    clear hv hV S hC f1
    go_enter Tryz.func17, Tryz.ntmps17
    go_wp2_with fail
    refine HC.out.mono ?_
    rintro e w1 ⟨rfl, b1⟩
    have d1 := d0.kept (b := w.heap.size + 1) (grown_below b1) (by omega)
    obtain ⟨k0, k1, k2, k3, k4⟩ := d1.c
    have r1 := Rep.below b1 n _ _ r0
    have B1 := b0.trans (b1.mono b0.size)
    clear r0 b1 b0 d0
    go_wp2_with fail
    refine (HR.out _ _ _ _ _ _ r1).mono ?_
    rintro e w2 ⟨rfl, b2⟩
    go_wp2_with fail
    go_ret
    exact ⟨rfl, B1.trans (b2.mono B1.size)⟩

end Go.Proofs.YthamafijjflfbaaGreat.Dt
/- What the texts on the package's values need: blocks of one cell and of a row, values without parts, a tree's parts counted; each theorem names its conditions. -/
namespace Go.Proofs.YthamafijjflfbaaGreat.Dt
open Go.RowKit
/-- A block holds one cell. -/
def C1 (w : World) (N : Nat) (t : TypeId) (v : Value) : Prop := w.heap[N]? = some (.cells #[v] t (0, 0))
theorem C1.lt {w : World} {N : Nat} {t : TypeId} {v : Value} (h : C1 w N t v) : N < w.heap.size := (Array.getElem?_eq_some_iff.1 h).1
theorem C1.below {w w' : World} {N : Nat} {t : TypeId} {v : Value} (h : C1 w N t v) (hb : Below w.heap.size w w') : C1 w' N t v := (hb.block N h.lt).trans h
theorem C1.kept {w w' : World} {N r : Nat} {t : TypeId} {v : Value} (h : C1 w N t v) (hg : w.grownBy w' (some r)) (hne : N ≠ r) : C1 w' N t v := (hg.block N h.lt (fun e => hne (Option.some.inj e))).trans h
theorem C1.c {w : World} {N : Nat} {t : TypeId} {v : Value} (h : C1 w N t v) : w.cell? ⟨N, 0, none⟩ = some v := by unfold C1 at h; simp [World.cell?, h]
theorem C1.f {w : World} {N o : Nat} {t : TypeId} {v : Value} (h : C1 w N t v) : w.frozen? ⟨N, o, none⟩ = false := by unfold C1 at h; simp [World.frozen?, h]
theorem C1.new (w : World) (t : TypeId) (v : Value) : C1 (w.alloc (.cells #[v] t)) w.heap.size t v := heap_alloc_new w _
theorem C1.set {w : World} {N : Nat} {t : TypeId} {v : Value} (h : C1 w N t v) (a : Addr) (x : Value) (hne : N ≠ a.block) : C1 (w.setCell a x) N t v := (Below.heap_setCell w a x N hne).trans h
/-- A block holds n values. -/
def Rb (w : World) (N n : Nat) : Prop := ∃ cs : Array Value, w.heap[N]? = some (.cells cs 20 (0, 0)) ∧ cs.size = n
theorem Rb.lt {w : World} {N n : Nat} (h : Rb w N n) : N < w.heap.size := by obtain ⟨cs, h, -⟩ := h; exact (Array.getElem?_eq_some_iff.1 h).1
theorem Rb.below {w w' : World} {N n : Nat} (h : Rb w N n) (hb : Below w.heap.size w w') : Rb w' N n := by
  have := h.lt; obtain ⟨cs, h1, h2⟩ := h; exact ⟨cs, (hb.block N this).trans h1, h2⟩
theorem Rb.kept {w w' : World} {N n r : Nat} (h : Rb w N n) (hg : w.grownBy w' (some r)) (hne : N ≠ r) : Rb w' N n := by
  have := h.lt; obtain ⟨cs, h1, h2⟩ := h; exact ⟨cs, (hg.block N this (fun e => hne (Option.some.inj e))).trans h1, h2⟩
theorem Rb.c {w : World} {N n j : Nat} (h : Rb w N n) (hj : j < n) : ∃ x, w.cell? ⟨N, j, none⟩ = some x := by
  obtain ⟨cs, h1, h2⟩ := h; exact ⟨cs[j]'(by omega), by simp [World.cell?, h1, h2, hj]⟩
theorem Rb.f {w : World} {N n o : Nat} (h : Rb w N n) : w.frozen? ⟨N, o, none⟩ = false := by
  obtain ⟨cs, h1, h2⟩ := h; simp [World.frozen?, h1]
theorem Rb.set {w : World} {N n j : Nat} (h : Rb w N n) (x : Value) : Rb (w.setCell ⟨N, j, none⟩ x) N n := by
  obtain ⟨cs, h1, h2⟩ := h
  exact ⟨cs.setIfInBounds j x, by simp [World.setCell, Array.getElem?_modify, h1], by simp [h2]⟩
theorem frombits (u : Int) (w : World) : (callFunc 49 #[.int .u64 u]).run Tryz.prog w = .ok (.value (.float .f64 u.toNat)) w := by kernel_rfl
set_option maxRecDepth 100000 in
set_option maxHeartbeats 1000000 in
theorem shLeaf0 (r : Option Nat) (i u : Int) (s : ByteArray) (ad : Option Addr) (len cap : Nat) (w : World) :
    Calls Tryz.prog 63 #[.agg #[.map r], .agg #[.int .i64 0, .int .i64 i, .int .u64 u, .string s, .slice ad len cap]] w fun e w' => e = .returned (.nilIface) ∧ Below w.heap.size w w' := by
  go_enter Tryz.func63, Tryz.ntmps63
  go_wp2
  go_ret
  exact ⟨rfl, ((Below.refl _ w).alloc (Nat.le_refl _) _).alloc (by simp) _⟩
set_option maxRecDepth 100000 in
set_option maxHeartbeats 1000000 in
theorem shLeaf1 (r : Option Nat) (i u : Int) (s : ByteArray) (ad : Option Addr) (len cap : Nat) (w : World) :
    Calls Tryz.prog 63 #[.agg #[.map r], .agg #[.int .i64 1, .int .i64 i, .int .u64 u, .string s, .slice ad len cap]] w fun e w' => e = .returned (.iface 113 (.int .i64 i)) ∧ Below w.heap.size w w' := by
  go_enter Tryz.func63, Tryz.ntmps63
  go_wp2
  go_ret
  exact ⟨rfl, ((Below.refl _ w).alloc (Nat.le_refl _) _).alloc (by simp) _⟩
set_option maxRecDepth 100000 in
set_option maxHeartbeats 1000000 in
theorem shLeaf2 (r : Option Nat) (i u : Int) (s : ByteArray) (ad : Option Addr) (len cap : Nat) (w : World) :
    Calls Tryz.prog 63 #[.agg #[.map r], .agg #[.int .i64 2, .int .i64 i, .int .u64 u, .string s, .slice ad len cap]] w fun e w' => e = .returned (.iface 128 (.int .i64 i)) ∧ Below w.heap.size w w' := by
  go_enter Tryz.func63, Tryz.ntmps63
  go_wp2
  go_ret
  exact ⟨rfl, ((Below.refl _ w).alloc (Nat.le_refl _) _).alloc (by simp) _⟩
set_option maxRecDepth 100000 in
set_option maxHeartbeats 1000000 in
theorem shLeaf3 (r : Option Nat) (i u : Int) (s : ByteArray) (ad : Option Addr) (len cap : Nat) (w : World) :
    Calls Tryz.prog 63 #[.agg #[.map r], .agg #[.int .i64 3, .int .i64 i, .int .u64 u, .string s, .slice ad len cap]] w fun e w' => e = .returned (.iface 129 (.float .f64 u.toNat)) ∧ Below w.heap.size w w' := by
  have hf := frombits u
  go_enter Tryz.func63, Tryz.ntmps63
  go_wp2
  go_ret
  exact ⟨rfl, ((Below.refl _ w).alloc (Nat.le_refl _) _).alloc (by simp) _⟩
set_option maxRecDepth 100000 in
set_option maxHeartbeats 1000000 in
theorem shLeaf4 (r : Option Nat) (i u : Int) (s : ByteArray) (ad : Option Addr) (len cap : Nat) (w : World) :
    Calls Tryz.prog 63 #[.agg #[.map r], .agg #[.int .i64 4, .int .i64 i, .int .u64 u, .string s, .slice ad len cap]] w fun e w' => e = .returned (.iface 131 (.string s)) ∧ Below w.heap.size w w' := by
  go_enter Tryz.func63, Tryz.ntmps63
  go_wp2
  go_ret
  exact ⟨rfl, ((Below.refl _ w).alloc (Nat.le_refl _) _).alloc (by simp) _⟩
set_option maxRecDepth 100000 in
set_option maxHeartbeats 1000000 in
theorem shLeaf5 (r : Option Nat) (i u : Int) (s : ByteArray) (ad : Option Addr) (len cap : Nat) (w : World) :
    Calls Tryz.prog 63 #[.agg #[.map r], .agg #[.int .i64 5, .int .i64 i, .int .u64 u, .string s, .slice ad len cap]] w fun e w' => e = .returned (.iface 132 (.string s)) ∧ Below w.heap.size w w' := by
  go_enter Tryz.func63, Tryz.ntmps63
  go_wp2
  go_ret
  exact ⟨rfl, ((Below.refl _ w).alloc (Nat.le_refl _) _).alloc (by simp) _⟩
set_option maxRecDepth 100000 in
set_option maxHeartbeats 1000000 in
theorem shLeaf6 (r : Option Nat) (i u : Int) (s : ByteArray) (ad : Option Addr) (len cap : Nat) (w : World) :
    Calls Tryz.prog 63 #[.agg #[.map r], .agg #[.int .i64 6, .int .i64 i, .int .u64 u, .string s, .slice ad len cap]] w fun e w' => e = .returned (.iface 110 (.bool (i != 0))) ∧ Below w.heap.size w w' := by
  go_enter Tryz.func63, Tryz.ntmps63
  go_wp2
  go_ret
  exact ⟨rfl, ((Below.refl _ w).alloc (Nat.le_refl _) _).alloc (by simp) _⟩
set_option maxRecDepth 100000 in
set_option maxHeartbeats 1000000 in
theorem shLeaf10 (r : Option Nat) (i u : Int) (s : ByteArray) (ad : Option Addr) (len cap : Nat) (w : World) :
    Calls Tryz.prog 63 #[.agg #[.map r], .agg #[.int .i64 10, .int .i64 i, .int .u64 u, .string s, .slice ad len cap]] w fun e w' => e = .returned (.iface 75 (.agg #[.int .i64 i, .string s])) ∧ Below w.heap.size w w' := by
  go_enter Tryz.func63, Tryz.ntmps63
  go_wp2
  go_ret
  exact ⟨rfl, ((Below.refl _ w).alloc (Nat.le_refl _) _).alloc (by simp) _⟩
set_option maxRecDepth 100000 in
set_option maxHeartbeats 1000000 in
theorem shLeaf12 (r : Option Nat) (i u : Int) (s : ByteArray) (ad : Option Addr) (len cap : Nat) (w : World) :
    Calls Tryz.prog 63 #[.agg #[.map r], .agg #[.int .i64 12, .int .i64 i, .int .u64 u, .string s, .slice ad len cap]] w fun e w' => e = .returned (.iface 141 (.pointer none)) ∧ Below w.heap.size w w' := by
  go_enter Tryz.func63, Tryz.ntmps63
  go_wp2
  go_ret
  exact ⟨rfl, ((Below.refl _ w).alloc (Nat.le_refl _) _).alloc (by simp) _⟩
set_option maxRecDepth 100000 in
set_option maxHeartbeats 1000000 in
theorem shLeaf13 (r : Option Nat) (i u : Int) (s : ByteArray) (ad : Option Addr) (len cap : Nat) (w : World) :
    Calls Tryz.prog 63 #[.agg #[.map r], .agg #[.int .i64 13, .int .i64 i, .int .u64 u, .string s, .slice ad len cap]] w fun e w' => e = .returned (.iface 143 (.agg #[])) ∧ Below w.heap.size w w' := by
  go_enter Tryz.func63, Tryz.ntmps63
  go_wp2
  go_ret
  exact ⟨rfl, ((Below.refl _ w).alloc (Nat.le_refl _) _).alloc (by simp) _⟩
/-- The tree of nil. -/
def nilT : (n : Nat) → Tr n → Prop
  | 0, _ => False
  | _ + 1, t => t.kd = 0
theorem ok_plain {k i u : Int} {sz len : Nat} (h : okB k i u sz len = true) : (k = 6 → i = 0 ∨ i = 1) ∧ (k = 9 → len = 2) ∧ (k ≠ 1 → k ≠ 2 → k ≠ 6 → k ≠ 10 → k ≠ 11 → i = 0) ∧ (k ≠ 4 → k ≠ 5 → k ≠ 7 → k ≠ 10 → sz = 0) ∧ 0 ≤ k ∧ k ≤ 13 := by
  unfold okB at h
  repeat' split at h
  all_goals (try simp only [decide_eq_true_eq] at h)
  all_goals (first | omega | cases h)
theorem list_two {T : Type} {l : List T} (h : l.length = 2) : ∃ a b, l = [a, b] := by
  match l, h with
  | [a, b], _ => exact ⟨a, b, rfl⟩
end Go.Proofs.YthamafijjflfbaaGreat.Dt
/- A value that the package makes of a tree without boxes by number, with the memory behind it; and the package's row and place of such; the conditions: the trees in memory and valid, and value's own contract for the parts. -/
namespace Go.Proofs.YthamafijjflfbaaGreat.Dt
open Go.RowKit
/-- A value that the package makes of a tree, each place with memory of its own, in blocks of which F tells. -/
def VR (F : Nat → Prop) (w : World) : (n : Nat) → Value → Tr n → Prop
  | 0, _, _ => False
  | n + 1, v, t =>
    (t.kd = 0 ∧ v = .nilIface) ∨ (t.kd = 1 ∧ v = .iface 113 (.int .i64 t.it)) ∨ (t.kd = 2 ∧ v = .iface 128 (.int .i64 t.it)) ∨ (t.kd = 3 ∧ v = .iface 129 (.float .f64 t.ut.toNat)) ∨
    (t.kd = 4 ∧ v = .iface 131 (.string t.tx)) ∨ (t.kd = 5 ∧ v = .iface 132 (.string t.tx)) ∨ (t.kd = 6 ∧ v = .iface 110 (.bool (t.it != 0))) ∨
    (t.kd = 7 ∧ ∃ g c cs fr, v = .iface 135 (.slice (some ⟨g, 0, none⟩) t.tx.size c) ∧ F g ∧ w.heap[g]? = some (.cells cs 5 fr) ∧ cs = bytesRow t.tx c) ∨
    (t.kd = 8 ∧ ∃ a c, v = .iface 137 (.slice a t.ks.length c) ∧ (t.ks = [] ∨ ∃ g, a = some ⟨g, 0, none⟩ ∧ F g ∧ ∀ (j : Nat) (t' : Tr n), t.ks[j]? = some t' → ∃ u, w.cell? ⟨g, j, none⟩ = some u ∧ VR F w n u t')) ∨
    (t.kd = 9 ∧ ∃ x y t0 t1, v = .iface 140 (.agg #[x, y]) ∧ t.ks = [t0, t1] ∧ VR F w n x t0 ∧ VR F w n y t1) ∨ (t.kd = 10 ∧ v = .iface 75 (.agg #[.int .i64 t.it, .string t.tx])) ∨
    (t.kd = 11 ∧ ∃ b u t0, v = .iface 141 (.pointer (some ⟨b, 0, none⟩)) ∧ F b ∧ t.ks = [t0] ∧ w.heap[b]? = some (.cells #[.int .i64 t.it, u] 177 (0, 0)) ∧ VR F w n u t0) ∨ (t.kd = 12 ∧ v = .iface 141 (.pointer none)) ∨ (t.kd = 13 ∧ v = .iface 143 (.agg #[]))
theorem VR.to {F F' : Nat → Prop} {w w' : World} (hF : ∀ g, F g → F' g ∧ w'.heap[g]? = w.heap[g]?) : ∀ (n : Nat) (v : Value) (t : Tr n), VR F w n v t → VR F' w' n v t
  | 0, _, _, h => h
  | n + 1, v, t, h => by
    simp only [VR] at h ⊢
    rcases h with q | q | q | q | q | q | q | ⟨k, g, c, cs, fr, e1, e2, e3, e4⟩ | ⟨k, a, c, e1, e2⟩ | ⟨k, x, y, t0, t1, e1, e2, e3, e4⟩ | q | ⟨k, b, u, t0, e1, e2, e3, e4, e5⟩ | q | q
    · exact .inl q
    · exact .inr (.inl q)
    · exact .inr (.inr (.inl q))
    · exact .inr (.inr (.inr (.inl q)))
    · exact .inr (.inr (.inr (.inr (.inl q))))
    · exact .inr (.inr (.inr (.inr (.inr (.inl q)))))
    · exact .inr (.inr (.inr (.inr (.inr (.inr (.inl q))))))
    · exact .inr (.inr (.inr (.inr (.inr (.inr (.inr (.inl ⟨k, g, c, cs, fr, e1, (hF g e2).1, (hF g e2).2.trans e3, e4⟩)))))))
    · refine .inr (.inr (.inr (.inr (.inr (.inr (.inr (.inr (.inl ⟨k, a, c, e1, ?_⟩))))))))
      rcases e2 with e2 | ⟨g, f1, f2, f3⟩
      · exact .inl e2
      · refine .inr ⟨g, f1, (hF g f2).1, fun j t' hj => ?_⟩
        obtain ⟨u, u1, u2⟩ := f3 j t' hj
        exact ⟨u, (cell_heap (hF g f2).2).trans u1, VR.to hF n _ _ u2⟩
    · exact .inr (.inr (.inr (.inr (.inr (.inr (.inr (.inr (.inr (.inl ⟨k, x, y, t0, t1, e1, e2, VR.to hF n _ _ e3, VR.to hF n _ _ e4⟩)))))))))
    · exact .inr (.inr (.inr (.inr (.inr (.inr (.inr (.inr (.inr (.inr (.inl q))))))))))
    · exact .inr (.inr (.inr (.inr (.inr (.inr (.inr (.inr (.inr (.inr (.inr (.inl ⟨k, b, u, t0, e1, (hF b e2).1, e3, (hF b e2).2.trans e4, VR.to hF n _ _ e5⟩)))))))))))
    · exact .inr (.inr (.inr (.inr (.inr (.inr (.inr (.inr (.inr (.inr (.inr (.inr (.inl q))))))))))))
    · exact .inr (.inr (.inr (.inr (.inr (.inr (.inr (.inr (.inr (.inr (.inr (.inr (.inr q))))))))))))
theorem vr_any {F : Nat → Prop} {w : World} {n : Nat} {v : Value} {t : Tr n} (h : VR F w n v t) : Sx v := by
  match n, t, h with
  | n + 1, t, h =>
    simp only [VR] at h
    rcases h with ⟨-, e⟩ | ⟨-, e⟩ | ⟨-, e⟩ | ⟨-, e⟩ | ⟨-, e⟩ | ⟨-, e⟩ | ⟨-, e⟩ | ⟨-, g, c, cs, fr, e, -⟩ | ⟨-, a, c, e, -⟩ | ⟨-, x, y, t0, t1, e, -⟩ | ⟨-, e⟩ | ⟨-, b, u, t0, e, -⟩ | ⟨-, e⟩ | ⟨-, e⟩
    · exact .inl e
    all_goals exact .inr ⟨_, _, e⟩
theorem VR.below {F : Nat → Prop} {w w' : World} (hF : ∀ g, F g → g < w.heap.size) (hb : Below w.heap.size w w') {n : Nat} {v : Value} {t : Tr n} (h : VR F w n v t) : VR F w' n v t := VR.to (fun g hg => ⟨hg, hb.block g (hF g hg)⟩) n v t h

/-- The row's block before its part j. -/
def Rw (w : World) (N n : Nat) (F : Nat → Prop) (m : Nat) (ks : List (Tr m)) (j : Nat) : Prop := Rb w N n ∧ ∀ (k : Nat) (t : Tr m), k < j → ks[k]? = some t → ∃ u, w.cell? ⟨N, k, none⟩ = some u ∧ VR F w m u t

set_option maxRecDepth 100000 in
set_option maxHeartbeats 2000000 in
theorem row_nb (W0 : World) (m : Nat) (ks : List (Tr m))
    (ih : ∀ (t : Tr m) (v0 v1 v2 v3 v4 : Value) (w : World), rgt m t = true → (pts m t).1 ≤ 4096 → Rep W0 m [v0, v1, v2, v3, v4] t → Below W0.heap.size W0 w →
      Calls Tryz.prog 63 #[.agg #[.map none], .agg #[v0, v1, v2, v3, v4]] w fun e w' => ∃ v, e = .returned v ∧ VR (fun g => w.heap.size ≤ g ∧ g < w'.heap.size) w' m v t ∧ Below w.heap.size w w')
    (ad : Option Addr) (cap : Nat) (w : World) (hb0 : Below W0.heap.size W0 w) (hn : ks.length ≤ 4096) (hrg : ks.all (rgt m) = true) (hps : ∀ t ∈ ks, (pts m t).1 ≤ 4096)
    (hk : (ks = [] ∨ ∃ g o, ad = some ⟨g, o, none⟩ ∧ ∀ (j : Nat) (t' : Tr m), ks[j]? = some t' → ∃ v0 v1 v2 v3 v4, W0.cell? ⟨g, o + j * 5, none⟩ = some v0 ∧ W0.cell? ⟨g, o + j * 5 + 1, none⟩ = some v1 ∧ W0.cell? ⟨g, o + j * 5 + 2, none⟩ = some v2 ∧ W0.cell? ⟨g, o + j * 5 + 3, none⟩ = some v3 ∧ W0.cell? ⟨g, o + j * 5 + 4, none⟩ = some v4 ∧ Rep W0 m [v0, v1, v2, v3, v4] t')) :
    Calls Tryz.prog 81 #[.agg #[.map none], .slice ad ks.length cap] w fun e w' => ∃ g c, e = .returned (.slice (some ⟨g, 0, none⟩) ks.length c) ∧ w.heap.size ≤ g ∧ g < w'.heap.size ∧ (∀ (j : Nat) (t : Tr m), ks[j]? = some t → ∃ u, w'.cell? ⟨g, j, none⟩ = some u ∧ VR (fun g => w.heap.size ≤ g ∧ g < w'.heap.size) w' m u t) ∧ Below w.heap.size w w' := by
  have hz20 : Tryz.prog.info? 20 = some Tryz.t20 := by kernel_rfl
  have hsz : Tryz.t20.size = 1 := by kernel_rfl
  have hby : Tryz.t20.bytes = 16 := by kernel_rfl
  have hze : Tryz.t20.zero = some .nilIface := by kernel_rfl
  have hmk : ∀ w : World, (Instr.makeSlice 137 (.int .i64 ks.length) (.int .i64 ks.length)).run Tryz.prog w = .ok (.slice (some ⟨w.heap.size, 0, none⟩) ks.length ks.length) (w.alloc (.cells (madeCells (Value.cells .nilIface) ks.length) 20)) := fun w => by
    have := run_makeSlice (P := Tryz.prog) w 137 20 Tryz.t20 .nilIface Tryz.underlying137 hz20 hze .i64 .i64 ks.length ks.length (by omega) (Int.le_refl _) (by rw [hsz]; simp; omega) (by rw [hby]; omega) (by omega)
    simpa [hsz] using this
  have hb0s := hb0.size
  have b1 := below1 w (.cells #[.map none] 107)
  have b2 : Below w.heap.size w ((w.alloc (.cells #[.map none] 107)).alloc (.cells (madeCells (Value.cells .nilIface) ks.length) 20)) := b1.alloc (by simp) _
  have c2 := (C1.new w 107 (.map none)).below (below1 _ (.cells (madeCells (Value.cells .nilIface) ks.length) 20))
  have r2 : Rb ((w.alloc (.cells #[.map none] 107)).alloc (.cells (madeCells (Value.cells .nilIface) ks.length) 20)) (w.heap.size + 1) ks.length := by
    refine ⟨_, ?_, size_madeCells (Value.cells .nilIface) ks.length⟩
    have := heap_alloc_new (w.alloc (.cells #[.map none] 107)) (.cells (madeCells (Value.cells .nilIface) ks.length) 20)
    rwa [World.size_alloc] at this
  have HI := Lib.hid ih
  have HK := Lib.hid hk
  have HR := Lib.hid hrg
  have HP := Lib.hid hps
  clear ih hk hrg hps hz20 hsz hby hze b1
  generalize madeCells (Value.cells .nilIface) ks.length = mc at *
  go_enter Tryz.func81, Tryz.ntmps81
  go_wp2_with fail
  go_loopw [13] (fun si wr => ∃ (j : Nat), si = .int .i64 j ∧ j ≤ ks.length ∧ C1 wr w.heap.size 107 (.map none) ∧ Rw wr (w.heap.size + 1) ks.length (fun g => w.heap.size + 2 ≤ g ∧ g < wr.heap.size) m ks j ∧ Below w.heap.size w wr) (fun si _ => ks.length - (intOf si).toNat)
  case atStart => exact ⟨0, rfl, Nat.zero_le _, c2, ⟨r2, fun k _ hk => absurd hk (Nat.not_lt_zero _)⟩, b2⟩
  case round =>
    obtain ⟨j, rfl, hj, c1, rw1, g1⟩ := hrel
    have o1 : Below W0.heap.size W0 wr := hb0.trans (g1.mono hb0.size)
    by_cases hlt : j < ks.length
    · have hne : ks ≠ [] := by intro e; rw [e] at hlt; exact absurd hlt (Nat.not_lt_zero _)
      rcases HK.out with hk | ⟨g, o, hk1, hk2⟩
      · exact absurd hk hne
      subst hk1
      obtain ⟨v0, v1, v2, v3, v4, e0, e1, e2, e3, e4, rk⟩ := hk2 j _ (List.getElem?_eq_getElem hlt)
      have hg : g < W0.heap.size := World.block_lt_of_cell? W0 _ e0
      have y0 := (o1.cell (p := ⟨g, o + j * 5, none⟩) hg).trans e0
      have y1 := (o1.cell (p := ⟨g, o + j * 5 + 1, none⟩) hg).trans e1
      have y2 := (o1.cell (p := ⟨g, o + j * 5 + 2, none⟩) hg).trans e2
      have y3 := (o1.cell (p := ⟨g, o + j * 5 + 3, none⟩) hg).trans e3
      have y4 := (o1.cell (p := ⟨g, o + j * 5 + 4, none⟩) hg).trans e4
      clear e0 e1 e2 e3 e4 hk2 HK
      obtain ⟨u0, u1, u2, u3, a4, n4, c4', rfl, rfl, rfl, rfl, rfl⟩ := rep_shape rk
      have cc := c1.c
      have zc := c1.lt
      have zr := rw1.1.lt
      go_wp2_with fail
      have ba := below1 wr (.cells #[.int .i64 u0, .int .i64 u1, .int .u64 u2, .string u3, .slice a4 n4 c4'] 25)
      have hrt : rgt m ks[j] = true := List.all_eq_true.1 HR.out _ (List.getElem_mem hlt)
      refine (HI.out ks[j] _ _ _ _ _ _ hrt (HP.out _ (List.getElem_mem hlt)) rk (o1.trans (ba.mono o1.size))).mono ?_
      rintro e w2 ⟨v, rfl, vr, b2'⟩
      have bw2 : Below wr.heap.size wr w2 := ba.trans (b2'.mono (by simp))
      have k2 := rw1.1.below bw2
      have q2 := c1.below bw2
      have g2 : Below w.heap.size w w2 := g1.trans (bw2.mono g1.size)
      obtain ⟨x, kc⟩ := k2.c hlt
      have kf := k2.f (o := j)
      have hs2 := bw2.size
      have step : Hid (∀ V : Value, V = v → Rw (w2.setCell ⟨w.heap.size + 1, j, none⟩ V) (w.heap.size + 1) ks.length (fun g => w.heap.size + 2 ≤ g ∧ g < (w2.setCell ⟨w.heap.size + 1, j, none⟩ V).heap.size) m ks (j + 1)) := fun V hV => by
        subst hV
        have sz : (w2.setCell ⟨w.heap.size + 1, j, none⟩ V).heap.size = w2.heap.size := by simp [World.setCell]
        refine ⟨k2.set _, fun k t hk ht => ?_⟩
        by_cases e : k = j
        · subst e
          rw [List.getElem?_eq_getElem hlt] at ht
          obtain rfl := Option.some.inj ht
          refine ⟨V, by simp [World.cell?_setCell_same, kc], VR.to (fun q hq => ⟨⟨by have h := hq.1; simp at h; omega, by rw [sz]; exact hq.2⟩, Below.heap_setCell _ _ _ q (by show q ≠ w.heap.size + 1; have h := hq.1; simp at h; omega)⟩) _ _ _ vr⟩
        · obtain ⟨u, h1, h2⟩ := rw1.2 k t (by omega) ht
          have hc : w2.cell? ⟨w.heap.size + 1, k, none⟩ = some u := (bw2.cell (p := ⟨w.heap.size + 1, k, none⟩) zr).trans h1
          have hne' : (⟨w.heap.size + 1, j, none⟩ : Addr) ≠ ⟨w.heap.size + 1, k, none⟩ := by simp only [ne_eq, Addr.mk.injEq]; exact fun h => e h.2.1.symm
          refine ⟨u, by rw [World.cell?_setCell_other]; exact hc; exact hne', VR.to (fun q hq => ⟨⟨hq.1, by rw [sz]; omega⟩, (Below.heap_setCell _ _ _ q (by show q ≠ w.heap.size + 1; omega)).trans (bw2.block q hq.2)⟩) _ _ _ h2⟩
      have sx := vr_any vr
      clear y0 y1 y2 y3 y4 rk ba b2' cc vr rw1 c1
      rcases sx with rfl | ⟨T, z, rfl⟩
      · go_wp2_with fail
        exact ⟨⟨j + 1, by go_num, by omega, q2.set _ _ (by show w.heap.size ≠ w.heap.size + 1; omega), step.out _ rfl, g2.setCell (by show w.heap.size ≤ w.heap.size + 1; omega) _⟩, by simp [intOf]; omega⟩
      · go_wp2_with fail
        exact ⟨⟨j + 1, by go_num, by omega, q2.set _ _ (by show w.heap.size ≠ w.heap.size + 1; omega), step.out _ rfl, g2.setCell (by show w.heap.size ≤ w.heap.size + 1; omega) _⟩, by simp [intOf]; omega⟩
    · have hje : j = ks.length := by omega
      subst hje
      have zr := rw1.1.lt
      go_wp2_with fail
      go_ret
      exact ⟨_, _, rfl, by omega, zr, fun k t hk => by
        obtain ⟨u, h1, h2⟩ := rw1.2 k t (List.getElem?_eq_some_iff.1 hk).1 hk
        exact ⟨u, h1, VR.to (fun q hq => ⟨⟨by omega, hq.2⟩, rfl⟩) _ _ _ h2⟩, g1⟩
end Go.Proofs.YthamafijjflfbaaGreat.Dt
