/- What the package's inner 'holds' answers at any right pattern: whether it holds of the value's kind; the conditions: the pattern's tree lies in memory and is right, the value is of a kind from 0 to 13. -/
import Derived.Test.YtkgbpildikjoiaaGreatDoorLeaf2
namespace Go.Proofs.YtkgbpildikjoiaaGreatDoor
open Go.RowKit

/-- What 'holds' is to answer of patterns of depth n. -/
def HoldsN (n : Nat) : Prop := ∀ (t : Wt n) (v0 v1 v2 u : Value) (k : Int) (w : World), RepW w n [v0, v1, v2] t → wgt n t = true → Kd k u → 0 ≤ k → k ≤ 13 →
    Calls Tryz.prog 74 #[.agg #[v0, v1, v2], u] w fun e w' => e = .returned (.bool (evk n t k)) ∧ Below w.heap.size w w'

/-- The place of the first that p says yes of. -/
def fst {T : Type} (p : T → Bool) : List T → Nat → Int
  | [], _ => -1
  | x :: l, j => if p x = true then j else fst p l (j + 1)
theorem fst_bd {T : Type} (p : T → Bool) : ∀ (l : List T) (j : Nat), -1 ≤ fst p l j ∧ (0 ≤ fst p l j ↔ l.any p = true) ∧ fst p l j ≤ j + l.length
  | [], j => by simp [fst]
  | x :: l, j => by
    have := fst_bd p l (j + 1)
    simp only [fst, List.any_cons, List.length_cons]
    by_cases h : p x = true
    · rw [if_pos h, h]; simp; omega
    · rw [if_neg h]
      have h' : p x = false := by simpa using h
      rw [h', Bool.false_or]
      exact ⟨this.1, this.2.1, by omega⟩
theorem fst_cons {T : Type} (p : T → Bool) (x : T) (l : List T) (j : Nat) : fst p (x :: l) j = if p x = true then (j : Int) else fst p l (j + 1) := rfl

set_option maxRecDepth 100000 in
set_option maxHeartbeats 1000000 in
theorem clos1 (n : Nat) (hn : HoldsN n) (t : Wt n) (v0 v1 v2 u : Value) (k : Int) (B : Nat) (w : World) (hr : RepW w n [v0, v1, v2] t) (hg : wgt n t = true) (hk : Kd k u) (k0 : 0 ≤ k) (k1 : k ≤ 13) (hu : w.cell? ⟨B, 0, none⟩ = some u) :
    Calls Tryz.prog 89 #[.agg #[v0, v1, v2], .pointer (some ⟨B, 0, none⟩)] w fun e w' => e = .returned (.bool (evk n t k)) ∧ Below w.heap.size w w' := by
  have hB : B < w.heap.size := World.block_lt_of_cell? w _ hu
  obtain ⟨o, m, ad, len, cap, rfl, rfl, rfl⟩ := repW_shape hr
  have H : Hid (∀ wx, Below w.heap.size w wx → Calls Tryz.prog 74 #[.agg #[.int .i64 o, .int .i64 m, .slice ad len cap], u] wx fun e w' => e = .returned (.bool (evk n t k)) ∧ Below w.heap.size w w') := fun wx hx => since (hn t _ _ _ u k wx (RepW.below hx n _ _ hr) hg hk k0 k1) hx
  have hc : ∀ ob : Obj, (w.alloc ob).cell? ⟨B, 0, none⟩ = some u := fun ob => (Below.cell (below1 w ob) (p := ⟨B, 0, none⟩) hB).trans hu
  have b1 := below1 w (.cells #[.int .i64 o, .int .i64 m, .slice ad len cap] 43)
  clear hn hr hg hk k0 k1 hu
  go_enter Tryz.func89, Tryz.ntmps89
  go_wp2_with fail
  refine (H.out _ b1).mono ?_
  rintro e w1 ⟨rfl, b2⟩
  go_wp2
  go_ret
  exact ⟨rfl, b2⟩

set_option maxRecDepth 100000 in
set_option maxHeartbeats 1000000 in
theorem index1 (n : Nat) (hn : HoldsN n) (ts : List (Wt n)) (ad : Option Addr) (cap : Nat) (u : Value) (k : Int) (B : Nat) (w : World) (hcap : ts.length ≤ cap) (hmax : cap ≤ maxLen)
    (hr : ts = [] ∨ ∃ g o, ad = some ⟨g, o, none⟩ ∧ ∀ (j : Nat) (t' : Wt n), ts[j]? = some t' → ∃ v0 v1 v2, w.cell? ⟨g, o + j * 3, none⟩ = some v0 ∧ w.cell? ⟨g, o + j * 3 + 1, none⟩ = some v1 ∧ w.cell? ⟨g, o + j * 3 + 2, none⟩ = some v2 ∧ RepW w n [v0, v1, v2] t')
    (hg : ∀ t ∈ ts, wgt n t = true) (hk : Kd k u) (k0 : 0 ≤ k) (k1 : k ≤ 13) (hu : w.cell? ⟨B, 0, none⟩ = some u) :
    Calls Tryz.prog 105 #[.slice ad ts.length cap, .func (.func 89) #[] #[.pointer (some ⟨B, 0, none⟩)]] w fun e w' => e = .returned (.int .i64 (fst (fun x => evk n x k) ts 0)) ∧ Below w.heap.size w w' := by
  have hB : B < w.heap.size := World.block_lt_of_cell? w _ hu
  unfold maxLen at hmax
  have HC : Hid (∀ (t : Wt n) (v0 v1 v2 : Value) (wx : World), t ∈ ts → RepW w n [v0, v1, v2] t → Below w.heap.size w wx → Calls Tryz.prog 89 #[.agg #[v0, v1, v2], .pointer (some ⟨B, 0, none⟩)] wx fun e w' => e = .returned (.bool (evk n t k)) ∧ Below w.heap.size w w') := fun t v0 v1 v2 wx ht hx hb => since (clos1 n hn t v0 v1 v2 u k B wx (RepW.below hb n _ _ hx) (hg t ht) hk k0 k1 ((Below.cell hb (p := ⟨B, 0, none⟩) hB).trans hu)) hb
  have HK := Lib.hid hr
  clear hn hg hk k0 k1 hu hr
  generalize hpp : (fun x : Wt n => evk n x k) = pp
  have HP := Lib.hid hpp
  clear hpp
  go_enter Tryz.func105, Tryz.ntmps105
  go_wp2_with fail
  go_loopw [8] (fun si wr => ∃ (j : Nat), si = .int .i64 j ∧ j ≤ ts.length ∧ fst pp (ts.drop j) j = fst pp ts 0 ∧ Below w.heap.size w wr) (fun si _ => ts.length - (intOf si).toNat)
  case atStart => exact ⟨0, rfl, Nat.zero_le _, rfl, Below.refl _ _⟩
  case round =>
    obtain ⟨j, rfl, hj, hinv, hb⟩ := hrel
    have HV := Lib.hid hinv
    clear hinv
    by_cases hlt : j < ts.length
    · have hne : ts ≠ [] := by intro e; rw [e] at hlt; exact absurd hlt (Nat.not_lt_zero _)
      rcases HK.out with hk | ⟨g, o, hk1, hk2⟩
      · exact absurd hk hne
      subst hk1
      obtain ⟨v0, v1, v2, e0, e1, e2, rk⟩ := hk2 j _ (List.getElem?_eq_getElem hlt)
      have hgl : g < w.heap.size := World.block_lt_of_cell? w _ e0
      have x0 := (hb.cell (p := ⟨g, o + j * 3, none⟩) hgl).trans e0
      have x1 := (hb.cell (p := ⟨g, o + j * 3 + 1, none⟩) hgl).trans e1
      have x2 := (hb.cell (p := ⟨g, o + j * 3 + 2, none⟩) hgl).trans e2
      clear e0 e1 e2 hk2 HK
      go_wp2_with fail
      refine (HC.out ts[j] v0 v1 v2 wr (List.getElem_mem hlt) rk hb).mono ?_
      rintro e w1 ⟨he, b1⟩
      have hv := HV.out
      rw [drop_atW ts j hlt, fst_cons] at hv
      clear x0 x1 x2 rk HV
      obtain ⟨bb, hbb⟩ : ∃ bb : Bool, (evk n ts[j] k) = bb := ⟨_, rfl⟩
      have hpb : pp ts[j] = bb := by rw [← HP.out]; exact hbb
      rw [hbb] at he
      clear hbb
      subst he
      cases bb with
      | true =>
        rw [if_pos hpb] at hv
        have HW := Lib.hid hv
        clear hv hpb
        go_wp2_with fail
        go_ret
        exact ⟨by rw [← HW.out]; rfl, b1⟩
      | false =>
        rw [if_neg (by rw [hpb]; decide)] at hv
        have HW := Lib.hid hv
        clear hv hpb
        go_wp2_with fail
        exact ⟨⟨j + 1, by go_num, by omega, HW.out, b1⟩, by simp [intOf]; omega⟩
    · have hje : j = ts.length := by omega
      have hv := HV.out
      rw [hje, List.drop_length] at hv
      have HW := Lib.hid hv
      clear hv HV
      go_wp2_with fail
      go_ret
      exact ⟨by rw [← HW.out]; rfl, hb⟩

set_option maxRecDepth 100000 in
set_option maxHeartbeats 1000000 in
theorem contains1 (n : Nat) (hn : HoldsN n) (ts : List (Wt n)) (ad : Option Addr) (cap : Nat) (u : Value) (k : Int) (B : Nat) (w : World) (hcap : ts.length ≤ cap) (hmax : cap ≤ maxLen)
    (hr : ts = [] ∨ ∃ g o, ad = some ⟨g, o, none⟩ ∧ ∀ (j : Nat) (t' : Wt n), ts[j]? = some t' → ∃ v0 v1 v2, w.cell? ⟨g, o + j * 3, none⟩ = some v0 ∧ w.cell? ⟨g, o + j * 3 + 1, none⟩ = some v1 ∧ w.cell? ⟨g, o + j * 3 + 2, none⟩ = some v2 ∧ RepW w n [v0, v1, v2] t')
    (hg : ∀ t ∈ ts, wgt n t = true) (hk : Kd k u) (k0 : 0 ≤ k) (k1 : k ≤ 13) (hu : w.cell? ⟨B, 0, none⟩ = some u) :
    Calls Tryz.prog 88 #[.slice ad ts.length cap, .func (.func 89) #[] #[.pointer (some ⟨B, 0, none⟩)]] w fun e w' => e = .returned (.bool (ts.any fun x => evk n x k)) ∧ Below w.heap.size w w' := by
  have H := Lib.hid (index1 n hn ts ad cap u k B w hcap hmax hr hg hk k0 k1 hu)
  clear hn hg hk k0 k1 hu hr hcap hmax
  generalize hpp : (fun x : Wt n => evk n x k) = pp at H
  obtain ⟨f1, f2, f3⟩ := fst_bd pp ts 0
  have ez : ts.any pp = decide (0 ≤ fst pp ts 0) := by
    by_cases h : ts.any pp = true
    · rw [h, decide_eq_true (f2.2 h)]
    · have h' : ts.any pp = false := by simpa using h
      rw [h', decide_eq_false (fun h2 => h (f2.1 h2))]
  rw [ez]
  clear hpp ez f1 f2 f3
  generalize fst pp ts 0 = z at H
  go_enter Tryz.func88, Tryz.ntmps88
  go_wp2_with fail
  refine H.out.mono ?_
  rintro e w1 ⟨rfl, b1⟩
  go_wp2
  all_goals go_ret
  all_goals exact ⟨ret_b (by simp), b1⟩

set_option maxRecDepth 100000 in
set_option maxHeartbeats 1000000 in
theorem clos2 (n : Nat) (hn : HoldsN n) (t : Wt n) (v0 v1 v2 u : Value) (k : Int) (B : Nat) (w : World) (hr : RepW w n [v0, v1, v2] t) (hg : wgt n t = true) (hk : Kd k u) (k0 : 0 ≤ k) (k1 : k ≤ 13) (hu : w.cell? ⟨B, 0, none⟩ = some u) :
    Calls Tryz.prog 90 #[.agg #[v0, v1, v2], .pointer (some ⟨B, 0, none⟩)] w fun e w' => e = .returned (.bool (!(evk n t k))) ∧ Below w.heap.size w w' := by
  have hB : B < w.heap.size := World.block_lt_of_cell? w _ hu
  obtain ⟨o, m, ad, len, cap, rfl, rfl, rfl⟩ := repW_shape hr
  have H : Hid (∀ wx, Below w.heap.size w wx → Calls Tryz.prog 74 #[.agg #[.int .i64 o, .int .i64 m, .slice ad len cap], u] wx fun e w' => e = .returned (.bool (evk n t k)) ∧ Below w.heap.size w w') := fun wx hx => since (hn t _ _ _ u k wx (RepW.below hx n _ _ hr) hg hk k0 k1) hx
  have hc : ∀ ob : Obj, (w.alloc ob).cell? ⟨B, 0, none⟩ = some u := fun ob => (Below.cell (below1 w ob) (p := ⟨B, 0, none⟩) hB).trans hu
  have b1 := below1 w (.cells #[.int .i64 o, .int .i64 m, .slice ad len cap] 43)
  clear hn hr hg hk k0 k1 hu
  go_enter Tryz.func90, Tryz.ntmps90
  go_wp2_with fail
  refine (H.out _ b1).mono ?_
  rintro e w1 ⟨rfl, b2⟩
  go_wp2
  go_ret
  exact ⟨rfl, b2⟩

set_option maxRecDepth 100000 in
set_option maxHeartbeats 1000000 in
theorem index2 (n : Nat) (hn : HoldsN n) (ts : List (Wt n)) (ad : Option Addr) (cap : Nat) (u : Value) (k : Int) (B : Nat) (w : World) (hcap : ts.length ≤ cap) (hmax : cap ≤ maxLen)
    (hr : ts = [] ∨ ∃ g o, ad = some ⟨g, o, none⟩ ∧ ∀ (j : Nat) (t' : Wt n), ts[j]? = some t' → ∃ v0 v1 v2, w.cell? ⟨g, o + j * 3, none⟩ = some v0 ∧ w.cell? ⟨g, o + j * 3 + 1, none⟩ = some v1 ∧ w.cell? ⟨g, o + j * 3 + 2, none⟩ = some v2 ∧ RepW w n [v0, v1, v2] t')
    (hg : ∀ t ∈ ts, wgt n t = true) (hk : Kd k u) (k0 : 0 ≤ k) (k1 : k ≤ 13) (hu : w.cell? ⟨B, 0, none⟩ = some u) :
    Calls Tryz.prog 105 #[.slice ad ts.length cap, .func (.func 90) #[] #[.pointer (some ⟨B, 0, none⟩)]] w fun e w' => e = .returned (.int .i64 (fst (fun x => !(evk n x k)) ts 0)) ∧ Below w.heap.size w w' := by
  have hB : B < w.heap.size := World.block_lt_of_cell? w _ hu
  unfold maxLen at hmax
  have HC : Hid (∀ (t : Wt n) (v0 v1 v2 : Value) (wx : World), t ∈ ts → RepW w n [v0, v1, v2] t → Below w.heap.size w wx → Calls Tryz.prog 90 #[.agg #[v0, v1, v2], .pointer (some ⟨B, 0, none⟩)] wx fun e w' => e = .returned (.bool (!(evk n t k))) ∧ Below w.heap.size w w') := fun t v0 v1 v2 wx ht hx hb => since (clos2 n hn t v0 v1 v2 u k B wx (RepW.below hb n _ _ hx) (hg t ht) hk k0 k1 ((Below.cell hb (p := ⟨B, 0, none⟩) hB).trans hu)) hb
  have HK := Lib.hid hr
  clear hn hg hk k0 k1 hu hr
  generalize hpp : (fun x : Wt n => !(evk n x k)) = pp
  have HP := Lib.hid hpp
  clear hpp
  go_enter Tryz.func105, Tryz.ntmps105
  go_wp2_with fail
  go_loopw [8] (fun si wr => ∃ (j : Nat), si = .int .i64 j ∧ j ≤ ts.length ∧ fst pp (ts.drop j) j = fst pp ts 0 ∧ Below w.heap.size w wr) (fun si _ => ts.length - (intOf si).toNat)
  case atStart => exact ⟨0, rfl, Nat.zero_le _, rfl, Below.refl _ _⟩
  case round =>
    obtain ⟨j, rfl, hj, hinv, hb⟩ := hrel
    have HV := Lib.hid hinv
    clear hinv
    by_cases hlt : j < ts.length
    · have hne : ts ≠ [] := by intro e; rw [e] at hlt; exact absurd hlt (Nat.not_lt_zero _)
      rcases HK.out with hk | ⟨g, o, hk1, hk2⟩
      · exact absurd hk hne
      subst hk1
      obtain ⟨v0, v1, v2, e0, e1, e2, rk⟩ := hk2 j _ (List.getElem?_eq_getElem hlt)
      have hgl : g < w.heap.size := World.block_lt_of_cell? w _ e0
      have x0 := (hb.cell (p := ⟨g, o + j * 3, none⟩) hgl).trans e0
      have x1 := (hb.cell (p := ⟨g, o + j * 3 + 1, none⟩) hgl).trans e1
      have x2 := (hb.cell (p := ⟨g, o + j * 3 + 2, none⟩) hgl).trans e2
      clear e0 e1 e2 hk2 HK
      go_wp2_with fail
      refine (HC.out ts[j] v0 v1 v2 wr (List.getElem_mem hlt) rk hb).mono ?_
      rintro e w1 ⟨he, b1⟩
      have hv := HV.out
      rw [drop_atW ts j hlt, fst_cons] at hv
      clear x0 x1 x2 rk HV
      obtain ⟨bb, hbb⟩ : ∃ bb : Bool, (!(evk n ts[j] k)) = bb := ⟨_, rfl⟩
      have hpb : pp ts[j] = bb := by rw [← HP.out]; exact hbb
      rw [hbb] at he
      clear hbb
      subst he
      cases bb with
      | true =>
        rw [if_pos hpb] at hv
        have HW := Lib.hid hv
        clear hv hpb
        go_wp2_with fail
        go_ret
        exact ⟨by rw [← HW.out]; rfl, b1⟩
      | false =>
        rw [if_neg (by rw [hpb]; decide)] at hv
        have HW := Lib.hid hv
        clear hv hpb
        go_wp2_with fail
        exact ⟨⟨j + 1, by go_num, by omega, HW.out, b1⟩, by simp [intOf]; omega⟩
    · have hje : j = ts.length := by omega
      have hv := HV.out
      rw [hje, List.drop_length] at hv
      have HW := Lib.hid hv
      clear hv HV
      go_wp2_with fail
      go_ret
      exact ⟨by rw [← HW.out]; rfl, hb⟩

set_option maxRecDepth 100000 in
set_option maxHeartbeats 1000000 in
theorem contains2 (n : Nat) (hn : HoldsN n) (ts : List (Wt n)) (ad : Option Addr) (cap : Nat) (u : Value) (k : Int) (B : Nat) (w : World) (hcap : ts.length ≤ cap) (hmax : cap ≤ maxLen)
    (hr : ts = [] ∨ ∃ g o, ad = some ⟨g, o, none⟩ ∧ ∀ (j : Nat) (t' : Wt n), ts[j]? = some t' → ∃ v0 v1 v2, w.cell? ⟨g, o + j * 3, none⟩ = some v0 ∧ w.cell? ⟨g, o + j * 3 + 1, none⟩ = some v1 ∧ w.cell? ⟨g, o + j * 3 + 2, none⟩ = some v2 ∧ RepW w n [v0, v1, v2] t')
    (hg : ∀ t ∈ ts, wgt n t = true) (hk : Kd k u) (k0 : 0 ≤ k) (k1 : k ≤ 13) (hu : w.cell? ⟨B, 0, none⟩ = some u) :
    Calls Tryz.prog 88 #[.slice ad ts.length cap, .func (.func 90) #[] #[.pointer (some ⟨B, 0, none⟩)]] w fun e w' => e = .returned (.bool (ts.any fun x => !(evk n x k))) ∧ Below w.heap.size w w' := by
  have H := Lib.hid (index2 n hn ts ad cap u k B w hcap hmax hr hg hk k0 k1 hu)
  clear hn hg hk k0 k1 hu hr hcap hmax
  generalize hpp : (fun x : Wt n => !(evk n x k)) = pp at H
  obtain ⟨f1, f2, f3⟩ := fst_bd pp ts 0
  have ez : ts.any pp = decide (0 ≤ fst pp ts 0) := by
    by_cases h : ts.any pp = true
    · rw [h, decide_eq_true (f2.2 h)]
    · have h' : ts.any pp = false := by simpa using h
      rw [h', decide_eq_false (fun h2 => h (f2.1 h2))]
  rw [ez]
  clear hpp ez f1 f2 f3
  generalize fst pp ts 0 = z at H
  go_enter Tryz.func88, Tryz.ntmps88
  go_wp2_with fail
  refine H.out.mono ?_
  rintro e w1 ⟨rfl, b1⟩
  go_wp2
  all_goals go_ret
  all_goals exact ⟨ret_b (by simp), b1⟩

set_option maxRecDepth 100000 in
set_option maxHeartbeats 1000000 in
theorem clos3 (n : Nat) (hn : HoldsN n) (t : Wt n) (v0 v1 v2 u : Value) (k : Int) (B : Nat) (w : World) (hr : RepW w n [v0, v1, v2] t) (hg : wgt n t = true) (hk : Kd k u) (k0 : 0 ≤ k) (k1 : k ≤ 13) (hu : w.cell? ⟨B, 0, none⟩ = some u) :
    Calls Tryz.prog 91 #[.agg #[v0, v1, v2], .pointer (some ⟨B, 0, none⟩)] w fun e w' => e = .returned (.bool (evk n t k)) ∧ Below w.heap.size w w' := by
  have hB : B < w.heap.size := World.block_lt_of_cell? w _ hu
  obtain ⟨o, m, ad, len, cap, rfl, rfl, rfl⟩ := repW_shape hr
  have H : Hid (∀ wx, Below w.heap.size w wx → Calls Tryz.prog 74 #[.agg #[.int .i64 o, .int .i64 m, .slice ad len cap], u] wx fun e w' => e = .returned (.bool (evk n t k)) ∧ Below w.heap.size w w') := fun wx hx => since (hn t _ _ _ u k wx (RepW.below hx n _ _ hr) hg hk k0 k1) hx
  have hc : ∀ ob : Obj, (w.alloc ob).cell? ⟨B, 0, none⟩ = some u := fun ob => (Below.cell (below1 w ob) (p := ⟨B, 0, none⟩) hB).trans hu
  have b1 := below1 w (.cells #[.int .i64 o, .int .i64 m, .slice ad len cap] 43)
  clear hn hr hg hk k0 k1 hu
  go_enter Tryz.func91, Tryz.ntmps91
  go_wp2_with fail
  refine (H.out _ b1).mono ?_
  rintro e w1 ⟨rfl, b2⟩
  go_wp2
  go_ret
  exact ⟨rfl, b2⟩

set_option maxRecDepth 100000 in
set_option maxHeartbeats 1000000 in
theorem index3 (n : Nat) (hn : HoldsN n) (ts : List (Wt n)) (ad : Option Addr) (cap : Nat) (u : Value) (k : Int) (B : Nat) (w : World) (hcap : ts.length ≤ cap) (hmax : cap ≤ maxLen)
    (hr : ts = [] ∨ ∃ g o, ad = some ⟨g, o, none⟩ ∧ ∀ (j : Nat) (t' : Wt n), ts[j]? = some t' → ∃ v0 v1 v2, w.cell? ⟨g, o + j * 3, none⟩ = some v0 ∧ w.cell? ⟨g, o + j * 3 + 1, none⟩ = some v1 ∧ w.cell? ⟨g, o + j * 3 + 2, none⟩ = some v2 ∧ RepW w n [v0, v1, v2] t')
    (hg : ∀ t ∈ ts, wgt n t = true) (hk : Kd k u) (k0 : 0 ≤ k) (k1 : k ≤ 13) (hu : w.cell? ⟨B, 0, none⟩ = some u) :
    Calls Tryz.prog 105 #[.slice ad ts.length cap, .func (.func 91) #[] #[.pointer (some ⟨B, 0, none⟩)]] w fun e w' => e = .returned (.int .i64 (fst (fun x => evk n x k) ts 0)) ∧ Below w.heap.size w w' := by
  have hB : B < w.heap.size := World.block_lt_of_cell? w _ hu
  unfold maxLen at hmax
  have HC : Hid (∀ (t : Wt n) (v0 v1 v2 : Value) (wx : World), t ∈ ts → RepW w n [v0, v1, v2] t → Below w.heap.size w wx → Calls Tryz.prog 91 #[.agg #[v0, v1, v2], .pointer (some ⟨B, 0, none⟩)] wx fun e w' => e = .returned (.bool (evk n t k)) ∧ Below w.heap.size w w') := fun t v0 v1 v2 wx ht hx hb => since (clos3 n hn t v0 v1 v2 u k B wx (RepW.below hb n _ _ hx) (hg t ht) hk k0 k1 ((Below.cell hb (p := ⟨B, 0, none⟩) hB).trans hu)) hb
  have HK := Lib.hid hr
  clear hn hg hk k0 k1 hu hr
  generalize hpp : (fun x : Wt n => evk n x k) = pp
  have HP := Lib.hid hpp
  clear hpp
  go_enter Tryz.func105, Tryz.ntmps105
  go_wp2_with fail
  go_loopw [8] (fun si wr => ∃ (j : Nat), si = .int .i64 j ∧ j ≤ ts.length ∧ fst pp (ts.drop j) j = fst pp ts 0 ∧ Below w.heap.size w wr) (fun si _ => ts.length - (intOf si).toNat)
  case atStart => exact ⟨0, rfl, Nat.zero_le _, rfl, Below.refl _ _⟩
  case round =>
    obtain ⟨j, rfl, hj, hinv, hb⟩ := hrel
    have HV := Lib.hid hinv
    clear hinv
    by_cases hlt : j < ts.length
    · have hne : ts ≠ [] := by intro e; rw [e] at hlt; exact absurd hlt (Nat.not_lt_zero _)
      rcases HK.out with hk | ⟨g, o, hk1, hk2⟩
      · exact absurd hk hne
      subst hk1
      obtain ⟨v0, v1, v2, e0, e1, e2, rk⟩ := hk2 j _ (List.getElem?_eq_getElem hlt)
      have hgl : g < w.heap.size := World.block_lt_of_cell? w _ e0
      have x0 := (hb.cell (p := ⟨g, o + j * 3, none⟩) hgl).trans e0
      have x1 := (hb.cell (p := ⟨g, o + j * 3 + 1, none⟩) hgl).trans e1
      have x2 := (hb.cell (p := ⟨g, o + j * 3 + 2, none⟩) hgl).trans e2
      clear e0 e1 e2 hk2 HK
      go_wp2_with fail
      refine (HC.out ts[j] v0 v1 v2 wr (List.getElem_mem hlt) rk hb).mono ?_
      rintro e w1 ⟨he, b1⟩
      have hv := HV.out
      rw [drop_atW ts j hlt, fst_cons] at hv
      clear x0 x1 x2 rk HV
      obtain ⟨bb, hbb⟩ : ∃ bb : Bool, (evk n ts[j] k) = bb := ⟨_, rfl⟩
      have hpb : pp ts[j] = bb := by rw [← HP.out]; exact hbb
      rw [hbb] at he
      clear hbb
      subst he
      cases bb with
      | true =>
        rw [if_pos hpb] at hv
        have HW := Lib.hid hv
        clear hv hpb
        go_wp2_with fail
        go_ret
        exact ⟨by rw [← HW.out]; rfl, b1⟩
      | false =>
        rw [if_neg (by rw [hpb]; decide)] at hv
        have HW := Lib.hid hv
        clear hv hpb
        go_wp2_with fail
        exact ⟨⟨j + 1, by go_num, by omega, HW.out, b1⟩, by simp [intOf]; omega⟩
    · have hje : j = ts.length := by omega
      have hv := HV.out
      rw [hje, List.drop_length] at hv
      have HW := Lib.hid hv
      clear hv HV
      go_wp2_with fail
      go_ret
      exact ⟨by rw [← HW.out]; rfl, hb⟩

set_option maxRecDepth 100000 in
set_option maxHeartbeats 1000000 in
theorem contains3 (n : Nat) (hn : HoldsN n) (ts : List (Wt n)) (ad : Option Addr) (cap : Nat) (u : Value) (k : Int) (B : Nat) (w : World) (hcap : ts.length ≤ cap) (hmax : cap ≤ maxLen)
    (hr : ts = [] ∨ ∃ g o, ad = some ⟨g, o, none⟩ ∧ ∀ (j : Nat) (t' : Wt n), ts[j]? = some t' → ∃ v0 v1 v2, w.cell? ⟨g, o + j * 3, none⟩ = some v0 ∧ w.cell? ⟨g, o + j * 3 + 1, none⟩ = some v1 ∧ w.cell? ⟨g, o + j * 3 + 2, none⟩ = some v2 ∧ RepW w n [v0, v1, v2] t')
    (hg : ∀ t ∈ ts, wgt n t = true) (hk : Kd k u) (k0 : 0 ≤ k) (k1 : k ≤ 13) (hu : w.cell? ⟨B, 0, none⟩ = some u) :
    Calls Tryz.prog 88 #[.slice ad ts.length cap, .func (.func 91) #[] #[.pointer (some ⟨B, 0, none⟩)]] w fun e w' => e = .returned (.bool (ts.any fun x => evk n x k)) ∧ Below w.heap.size w w' := by
  have H := Lib.hid (index3 n hn ts ad cap u k B w hcap hmax hr hg hk k0 k1 hu)
  clear hn hg hk k0 k1 hu hr hcap hmax
  generalize hpp : (fun x : Wt n => evk n x k) = pp at H
  obtain ⟨f1, f2, f3⟩ := fst_bd pp ts 0
  have ez : ts.any pp = decide (0 ≤ fst pp ts 0) := by
    by_cases h : ts.any pp = true
    · rw [h, decide_eq_true (f2.2 h)]
    · have h' : ts.any pp = false := by simpa using h
      rw [h', decide_eq_false (fun h2 => h (f2.1 h2))]
  rw [ez]
  clear hpp ez f1 f2 f3
  generalize fst pp ts 0 = z at H
  go_enter Tryz.func88, Tryz.ntmps88
  go_wp2_with fail
  refine H.out.mono ?_
  rintro e w1 ⟨rfl, b1⟩
  go_wp2
  all_goals go_ret
  all_goals exact ⟨ret_b (by simp), b1⟩

set_option maxRecDepth 100000 in
set_option maxHeartbeats 1000000 in
theorem holds4n (n : Nat) (hn : HoldsN n) (t : Wt (n + 1)) (m : Int) (ad : Option Addr) (cap : Nat) (k : Int) (w : World) (hcap : t.ks.length ≤ cap) (hmax : cap ≤ maxLen)
    (hr : t.ks = [] ∨ ∃ g o, ad = some ⟨g, o, none⟩ ∧ ∀ (j : Nat) (t' : Wt n), t.ks[j]? = some t' → ∃ v0 v1 v2, w.cell? ⟨g, o + j * 3, none⟩ = some v0 ∧ w.cell? ⟨g, o + j * 3 + 1, none⟩ = some v1 ∧ w.cell? ⟨g, o + j * 3 + 2, none⟩ = some v2 ∧ RepW w n [v0, v1, v2] t')
    (hg : ∀ t' ∈ t.ks, wgt n t' = true) (hk : Kd k .nilIface) (k0 : 0 ≤ k) (k1 : k ≤ 13) :
    Calls Tryz.prog 74 #[.agg #[.int .i64 4, .int .i64 m, .slice ad t.ks.length cap], .nilIface] w fun e w' => e = .returned (.bool (t.ks.any fun s => evk n s k)) ∧ Below w.heap.size w w' := by
  have hmf : ∀ (fn : Fn) (first cap : Array Value) (w : World), (Instr.makeFunc fn first cap).run Tryz.prog w = .ok (.func fn first cap) w := fun _ _ _ _ => rfl
  have h2 := Two.start w 4 m ad t.ks.length cap .nilIface
  have HC : Hid (Calls Tryz.prog 88 #[.slice ad t.ks.length cap, .func (.func 89) #[] #[.pointer (some ⟨w.heap.size + 1, 0, none⟩)]] ((w.alloc (.cells #[.int .i64 4, .int .i64 m, .slice ad t.ks.length cap] 43)).alloc (.cells #[.nilIface] 20)) fun e w' => e = .returned (.bool (t.ks.any fun s => evk n s k)) ∧ Below w.heap.size w w') :=
    since (contains1 n hn t.ks ad cap _ k (w.heap.size + 1) _ hcap hmax (by
      rcases hr with hr | ⟨g, o, h6, h7⟩
      · exact .inl hr
      · refine .inr ⟨g, o, h6, fun j t' hj => ?_⟩
        obtain ⟨v0, v1, v2, c0, c1, c2, r⟩ := h7 j t' hj
        have hgl : g < w.heap.size := World.block_lt_of_cell? w _ c0
        have hb := h2.below
        exact ⟨v0, v1, v2, (hb.cell (p := ⟨g, _, none⟩) hgl).trans c0, (hb.cell (p := ⟨g, _, none⟩) hgl).trans c1, (hb.cell (p := ⟨g, _, none⟩) hgl).trans c2, RepW.below hb n _ _ r⟩) hg hk k0 k1 h2.cu) h2.below
  have c2 := h2.c2
  clear hn hr hg hk k0 k1 hcap hmax h2
  generalize (t.ks.any fun s => evk n s k) = bb at HC
  go_enter Tryz.func74, Tryz.ntmps74
  go_wp2_with fail
  refine HC.out.mono ?_
  rintro e w1 ⟨rfl, b1⟩
  go_wp2
  go_ret
  exact ⟨rfl, b1⟩

set_option maxRecDepth 100000 in
set_option maxHeartbeats 1000000 in
theorem holds4v (n : Nat) (hn : HoldsN n) (t : Wt (n + 1)) (m : Int) (ad : Option Addr) (cap : Nat) (k : Int) (T : TypeId) (z : Value) (w : World) (hcap : t.ks.length ≤ cap) (hmax : cap ≤ maxLen)
    (hr : t.ks = [] ∨ ∃ g o, ad = some ⟨g, o, none⟩ ∧ ∀ (j : Nat) (t' : Wt n), t.ks[j]? = some t' → ∃ v0 v1 v2, w.cell? ⟨g, o + j * 3, none⟩ = some v0 ∧ w.cell? ⟨g, o + j * 3 + 1, none⟩ = some v1 ∧ w.cell? ⟨g, o + j * 3 + 2, none⟩ = some v2 ∧ RepW w n [v0, v1, v2] t')
    (hg : ∀ t' ∈ t.ks, wgt n t' = true) (hk : Kd k (.iface T z)) (k0 : 0 ≤ k) (k1 : k ≤ 13) :
    Calls Tryz.prog 74 #[.agg #[.int .i64 4, .int .i64 m, .slice ad t.ks.length cap], (.iface T z)] w fun e w' => e = .returned (.bool (t.ks.any fun s => evk n s k)) ∧ Below w.heap.size w w' := by
  have hmf : ∀ (fn : Fn) (first cap : Array Value) (w : World), (Instr.makeFunc fn first cap).run Tryz.prog w = .ok (.func fn first cap) w := fun _ _ _ _ => rfl
  have h2 := Two.start w 4 m ad t.ks.length cap (.iface T z)
  have HC : Hid (Calls Tryz.prog 88 #[.slice ad t.ks.length cap, .func (.func 89) #[] #[.pointer (some ⟨w.heap.size + 1, 0, none⟩)]] ((w.alloc (.cells #[.int .i64 4, .int .i64 m, .slice ad t.ks.length cap] 43)).alloc (.cells #[(.iface T z)] 20)) fun e w' => e = .returned (.bool (t.ks.any fun s => evk n s k)) ∧ Below w.heap.size w w') :=
    since (contains1 n hn t.ks ad cap _ k (w.heap.size + 1) _ hcap hmax (by
      rcases hr with hr | ⟨g, o, h6, h7⟩
      · exact .inl hr
      · refine .inr ⟨g, o, h6, fun j t' hj => ?_⟩
        obtain ⟨v0, v1, v2, c0, c1, c2, r⟩ := h7 j t' hj
        have hgl : g < w.heap.size := World.block_lt_of_cell? w _ c0
        have hb := h2.below
        exact ⟨v0, v1, v2, (hb.cell (p := ⟨g, _, none⟩) hgl).trans c0, (hb.cell (p := ⟨g, _, none⟩) hgl).trans c1, (hb.cell (p := ⟨g, _, none⟩) hgl).trans c2, RepW.below hb n _ _ r⟩) hg hk k0 k1 h2.cu) h2.below
  have c2 := h2.c2
  clear hn hr hg hk k0 k1 hcap hmax h2
  generalize (t.ks.any fun s => evk n s k) = bb at HC
  go_enter Tryz.func74, Tryz.ntmps74
  go_wp2_with fail
  refine HC.out.mono ?_
  rintro e w1 ⟨rfl, b1⟩
  go_wp2
  go_ret
  exact ⟨rfl, b1⟩

set_option maxRecDepth 100000 in
set_option maxHeartbeats 1000000 in
theorem holds5n (n : Nat) (hn : HoldsN n) (t : Wt (n + 1)) (m : Int) (ad : Option Addr) (cap : Nat) (k : Int) (w : World) (hcap : t.ks.length ≤ cap) (hmax : cap ≤ maxLen)
    (hr : t.ks = [] ∨ ∃ g o, ad = some ⟨g, o, none⟩ ∧ ∀ (j : Nat) (t' : Wt n), t.ks[j]? = some t' → ∃ v0 v1 v2, w.cell? ⟨g, o + j * 3, none⟩ = some v0 ∧ w.cell? ⟨g, o + j * 3 + 1, none⟩ = some v1 ∧ w.cell? ⟨g, o + j * 3 + 2, none⟩ = some v2 ∧ RepW w n [v0, v1, v2] t')
    (hg : ∀ t' ∈ t.ks, wgt n t' = true) (hk : Kd k .nilIface) (k0 : 0 ≤ k) (k1 : k ≤ 13) :
    Calls Tryz.prog 74 #[.agg #[.int .i64 5, .int .i64 m, .slice ad t.ks.length cap], .nilIface] w fun e w' => e = .returned (.bool (!(t.ks.any fun s => !(evk n s k)))) ∧ Below w.heap.size w w' := by
  have hmf : ∀ (fn : Fn) (first cap : Array Value) (w : World), (Instr.makeFunc fn first cap).run Tryz.prog w = .ok (.func fn first cap) w := fun _ _ _ _ => rfl
  have h2 := Two.start w 5 m ad t.ks.length cap .nilIface
  have HC : Hid (Calls Tryz.prog 88 #[.slice ad t.ks.length cap, .func (.func 90) #[] #[.pointer (some ⟨w.heap.size + 1, 0, none⟩)]] ((w.alloc (.cells #[.int .i64 5, .int .i64 m, .slice ad t.ks.length cap] 43)).alloc (.cells #[.nilIface] 20)) fun e w' => e = .returned (.bool (t.ks.any fun s => !(evk n s k))) ∧ Below w.heap.size w w') :=
    since (contains2 n hn t.ks ad cap _ k (w.heap.size + 1) _ hcap hmax (by
      rcases hr with hr | ⟨g, o, h6, h7⟩
      · exact .inl hr
      · refine .inr ⟨g, o, h6, fun j t' hj => ?_⟩
        obtain ⟨v0, v1, v2, c0, c1, c2, r⟩ := h7 j t' hj
        have hgl : g < w.heap.size := World.block_lt_of_cell? w _ c0
        have hb := h2.below
        exact ⟨v0, v1, v2, (hb.cell (p := ⟨g, _, none⟩) hgl).trans c0, (hb.cell (p := ⟨g, _, none⟩) hgl).trans c1, (hb.cell (p := ⟨g, _, none⟩) hgl).trans c2, RepW.below hb n _ _ r⟩) hg hk k0 k1 h2.cu) h2.below
  have c2 := h2.c2
  clear hn hr hg hk k0 k1 hcap hmax h2
  generalize (t.ks.any fun s => !(evk n s k)) = bb at HC
  go_enter Tryz.func74, Tryz.ntmps74
  go_wp2_with fail
  refine HC.out.mono ?_
  rintro e w1 ⟨rfl, b1⟩
  go_wp2
  go_ret
  exact ⟨rfl, b1⟩

set_option maxRecDepth 100000 in
set_option maxHeartbeats 1000000 in
theorem holds5v (n : Nat) (hn : HoldsN n) (t : Wt (n + 1)) (m : Int) (ad : Option Addr) (cap : Nat) (k : Int) (T : TypeId) (z : Value) (w : World) (hcap : t.ks.length ≤ cap) (hmax : cap ≤ maxLen)
    (hr : t.ks = [] ∨ ∃ g o, ad = some ⟨g, o, none⟩ ∧ ∀ (j : Nat) (t' : Wt n), t.ks[j]? = some t' → ∃ v0 v1 v2, w.cell? ⟨g, o + j * 3, none⟩ = some v0 ∧ w.cell? ⟨g, o + j * 3 + 1, none⟩ = some v1 ∧ w.cell? ⟨g, o + j * 3 + 2, none⟩ = some v2 ∧ RepW w n [v0, v1, v2] t')
    (hg : ∀ t' ∈ t.ks, wgt n t' = true) (hk : Kd k (.iface T z)) (k0 : 0 ≤ k) (k1 : k ≤ 13) :
    Calls Tryz.prog 74 #[.agg #[.int .i64 5, .int .i64 m, .slice ad t.ks.length cap], (.iface T z)] w fun e w' => e = .returned (.bool (!(t.ks.any fun s => !(evk n s k)))) ∧ Below w.heap.size w w' := by
  have hmf : ∀ (fn : Fn) (first cap : Array Value) (w : World), (Instr.makeFunc fn first cap).run Tryz.prog w = .ok (.func fn first cap) w := fun _ _ _ _ => rfl
  have h2 := Two.start w 5 m ad t.ks.length cap (.iface T z)
  have HC : Hid (Calls Tryz.prog 88 #[.slice ad t.ks.length cap, .func (.func 90) #[] #[.pointer (some ⟨w.heap.size + 1, 0, none⟩)]] ((w.alloc (.cells #[.int .i64 5, .int .i64 m, .slice ad t.ks.length cap] 43)).alloc (.cells #[(.iface T z)] 20)) fun e w' => e = .returned (.bool (t.ks.any fun s => !(evk n s k))) ∧ Below w.heap.size w w') :=
    since (contains2 n hn t.ks ad cap _ k (w.heap.size + 1) _ hcap hmax (by
      rcases hr with hr | ⟨g, o, h6, h7⟩
      · exact .inl hr
      · refine .inr ⟨g, o, h6, fun j t' hj => ?_⟩
        obtain ⟨v0, v1, v2, c0, c1, c2, r⟩ := h7 j t' hj
        have hgl : g < w.heap.size := World.block_lt_of_cell? w _ c0
        have hb := h2.below
        exact ⟨v0, v1, v2, (hb.cell (p := ⟨g, _, none⟩) hgl).trans c0, (hb.cell (p := ⟨g, _, none⟩) hgl).trans c1, (hb.cell (p := ⟨g, _, none⟩) hgl).trans c2, RepW.below hb n _ _ r⟩) hg hk k0 k1 h2.cu) h2.below
  have c2 := h2.c2
  clear hn hr hg hk k0 k1 hcap hmax h2
  generalize (t.ks.any fun s => !(evk n s k)) = bb at HC
  go_enter Tryz.func74, Tryz.ntmps74
  go_wp2_with fail
  refine HC.out.mono ?_
  rintro e w1 ⟨rfl, b1⟩
  go_wp2
  go_ret
  exact ⟨rfl, b1⟩

set_option maxRecDepth 100000 in
set_option maxHeartbeats 1000000 in
theorem holds6n (n : Nat) (hn : HoldsN n) (t : Wt (n + 1)) (m : Int) (ad : Option Addr) (cap : Nat) (k : Int) (w : World) (hcap : t.ks.length ≤ cap) (hmax : cap ≤ maxLen)
    (hr : t.ks = [] ∨ ∃ g o, ad = some ⟨g, o, none⟩ ∧ ∀ (j : Nat) (t' : Wt n), t.ks[j]? = some t' → ∃ v0 v1 v2, w.cell? ⟨g, o + j * 3, none⟩ = some v0 ∧ w.cell? ⟨g, o + j * 3 + 1, none⟩ = some v1 ∧ w.cell? ⟨g, o + j * 3 + 2, none⟩ = some v2 ∧ RepW w n [v0, v1, v2] t')
    (hg : ∀ t' ∈ t.ks, wgt n t' = true) (hk : Kd k .nilIface) (k0 : 0 ≤ k) (k1 : k ≤ 13) :
    Calls Tryz.prog 74 #[.agg #[.int .i64 6, .int .i64 m, .slice ad t.ks.length cap], .nilIface] w fun e w' => e = .returned (.bool (!(t.ks.any fun s => evk n s k))) ∧ Below w.heap.size w w' := by
  have hmf : ∀ (fn : Fn) (first cap : Array Value) (w : World), (Instr.makeFunc fn first cap).run Tryz.prog w = .ok (.func fn first cap) w := fun _ _ _ _ => rfl
  have h2 := Two.start w 6 m ad t.ks.length cap .nilIface
  have HC : Hid (Calls Tryz.prog 88 #[.slice ad t.ks.length cap, .func (.func 91) #[] #[.pointer (some ⟨w.heap.size + 1, 0, none⟩)]] ((w.alloc (.cells #[.int .i64 6, .int .i64 m, .slice ad t.ks.length cap] 43)).alloc (.cells #[.nilIface] 20)) fun e w' => e = .returned (.bool (t.ks.any fun s => evk n s k)) ∧ Below w.heap.size w w') :=
    since (contains3 n hn t.ks ad cap _ k (w.heap.size + 1) _ hcap hmax (by
      rcases hr with hr | ⟨g, o, h6, h7⟩
      · exact .inl hr
      · refine .inr ⟨g, o, h6, fun j t' hj => ?_⟩
        obtain ⟨v0, v1, v2, c0, c1, c2, r⟩ := h7 j t' hj
        have hgl : g < w.heap.size := World.block_lt_of_cell? w _ c0
        have hb := h2.below
        exact ⟨v0, v1, v2, (hb.cell (p := ⟨g, _, none⟩) hgl).trans c0, (hb.cell (p := ⟨g, _, none⟩) hgl).trans c1, (hb.cell (p := ⟨g, _, none⟩) hgl).trans c2, RepW.below hb n _ _ r⟩) hg hk k0 k1 h2.cu) h2.below
  have c2 := h2.c2
  clear hn hr hg hk k0 k1 hcap hmax h2
  generalize (t.ks.any fun s => evk n s k) = bb at HC
  go_enter Tryz.func74, Tryz.ntmps74
  go_wp2_with fail
  refine HC.out.mono ?_
  rintro e w1 ⟨rfl, b1⟩
  go_wp2
  go_ret
  exact ⟨rfl, b1⟩

set_option maxRecDepth 100000 in
set_option maxHeartbeats 1000000 in
theorem holds6v (n : Nat) (hn : HoldsN n) (t : Wt (n + 1)) (m : Int) (ad : Option Addr) (cap : Nat) (k : Int) (T : TypeId) (z : Value) (w : World) (hcap : t.ks.length ≤ cap) (hmax : cap ≤ maxLen)
    (hr : t.ks = [] ∨ ∃ g o, ad = some ⟨g, o, none⟩ ∧ ∀ (j : Nat) (t' : Wt n), t.ks[j]? = some t' → ∃ v0 v1 v2, w.cell? ⟨g, o + j * 3, none⟩ = some v0 ∧ w.cell? ⟨g, o + j * 3 + 1, none⟩ = some v1 ∧ w.cell? ⟨g, o + j * 3 + 2, none⟩ = some v2 ∧ RepW w n [v0, v1, v2] t')
    (hg : ∀ t' ∈ t.ks, wgt n t' = true) (hk : Kd k (.iface T z)) (k0 : 0 ≤ k) (k1 : k ≤ 13) :
    Calls Tryz.prog 74 #[.agg #[.int .i64 6, .int .i64 m, .slice ad t.ks.length cap], (.iface T z)] w fun e w' => e = .returned (.bool (!(t.ks.any fun s => evk n s k))) ∧ Below w.heap.size w w' := by
  have hmf : ∀ (fn : Fn) (first cap : Array Value) (w : World), (Instr.makeFunc fn first cap).run Tryz.prog w = .ok (.func fn first cap) w := fun _ _ _ _ => rfl
  have h2 := Two.start w 6 m ad t.ks.length cap (.iface T z)
  have HC : Hid (Calls Tryz.prog 88 #[.slice ad t.ks.length cap, .func (.func 91) #[] #[.pointer (some ⟨w.heap.size + 1, 0, none⟩)]] ((w.alloc (.cells #[.int .i64 6, .int .i64 m, .slice ad t.ks.length cap] 43)).alloc (.cells #[(.iface T z)] 20)) fun e w' => e = .returned (.bool (t.ks.any fun s => evk n s k)) ∧ Below w.heap.size w w') :=
    since (contains3 n hn t.ks ad cap _ k (w.heap.size + 1) _ hcap hmax (by
      rcases hr with hr | ⟨g, o, h6, h7⟩
      · exact .inl hr
      · refine .inr ⟨g, o, h6, fun j t' hj => ?_⟩
        obtain ⟨v0, v1, v2, c0, c1, c2, r⟩ := h7 j t' hj
        have hgl : g < w.heap.size := World.block_lt_of_cell? w _ c0
        have hb := h2.below
        exact ⟨v0, v1, v2, (hb.cell (p := ⟨g, _, none⟩) hgl).trans c0, (hb.cell (p := ⟨g, _, none⟩) hgl).trans c1, (hb.cell (p := ⟨g, _, none⟩) hgl).trans c2, RepW.below hb n _ _ r⟩) hg hk k0 k1 h2.cu) h2.below
  have c2 := h2.c2
  clear hn hr hg hk k0 k1 hcap hmax h2
  generalize (t.ks.any fun s => evk n s k) = bb at HC
  go_enter Tryz.func74, Tryz.ntmps74
  go_wp2_with fail
  refine HC.out.mono ?_
  rintro e w1 ⟨rfl, b1⟩
  go_wp2
  go_ret
  exact ⟨rfl, b1⟩

theorem all_not_any {T : Type} (p : T → Bool) : ∀ l : List T, (!(l.any fun s => !(p s))) = l.all p
  | [] => rfl
  | x :: l => by
    have := all_not_any p l
    simp only [List.any_cons, List.all_cons, ← this]
    cases p x <;> simp

theorem holds_any : ∀ n, HoldsN n
  | 0 => fun _ _ _ _ _ _ _ h => h.elim
  | n + 1 => by
    have hn := holds_any n
    intro t v0 v1 v2 u k w hr hg hk k0 k1
    obtain ⟨ad, cap, e, hcap, hmax, hr'⟩ := hr
    simp only [List.cons.injEq, and_true] at e
    obtain ⟨rfl, rfl, rfl⟩ := e
    simp only [wgt, Bool.and_eq_true, List.all_eq_true] at hg
    obtain ⟨ho, hgs⟩ := hg
    have hop := okW_op ho
    unfold Wt.ok at ho
    simp only [evk]
    rcases hop with e | e | e | e | e | e
    · simp only [e, if_true]; exact holds1 t.nm ad _ cap k u w hk k0 k1
    · simp only [e, if_true, show ¬ (2 : Int) = 1 by decide, if_false]
      rw [e] at ho
      have ho' := of_decide_eq_true (show decide (0 ≤ t.nm ∧ t.nm < 14 ∧ t.ks.length = 0) = true from ho)
      exact holds2 t.nm ho'.1 (by omega) ad _ cap k u w hk k0 k1
    · simp only [e, if_true, show ¬ (3 : Int) = 1 by decide, show ¬ (3 : Int) = 2 by decide, if_false]
      exact holds3 t.nm ad _ cap k u w hk
    · simp only [e, if_true, show ¬ (4 : Int) = 1 by decide, show ¬ (4 : Int) = 2 by decide, show ¬ (4 : Int) = 3 by decide, if_false]
      rcases hk.sx with rfl | ⟨T, z, rfl⟩
      · exact holds4n n hn t t.nm ad cap k w hcap hmax hr' hgs hk k0 k1
      · exact holds4v n hn t t.nm ad cap k T z w hcap hmax hr' hgs hk k0 k1
    · simp only [e, if_true, show ¬ (5 : Int) = 1 by decide, show ¬ (5 : Int) = 2 by decide, show ¬ (5 : Int) = 3 by decide, show ¬ (5 : Int) = 4 by decide, if_false]
      rw [← all_not_any]
      rcases hk.sx with rfl | ⟨T, z, rfl⟩
      · exact holds5n n hn t t.nm ad cap k w hcap hmax hr' hgs hk k0 k1
      · exact holds5v n hn t t.nm ad cap k T z w hcap hmax hr' hgs hk k0 k1
    · simp only [e, if_true, show ¬ (6 : Int) = 1 by decide, show ¬ (6 : Int) = 2 by decide, show ¬ (6 : Int) = 3 by decide, show ¬ (6 : Int) = 4 by decide, show ¬ (6 : Int) = 5 by decide, if_false]
      rcases hk.sx with rfl | ⟨T, z, rfl⟩
      · exact holds6n n hn t t.nm ad cap k w hcap hmax hr' hgs hk k0 k1
      · exact holds6v n hn t t.nm ad cap k T z w hcap hmax hr' hgs hk k0 k1
end Go.Proofs.YtkgbpildikjoiaaGreatDoor
