/- The document's Kinds of a right pattern: the kinds of which it holds, as bits; the conditions: the pattern's tree lies in memory and is right. -/
import Derived.Test.YtkgbpildikjoiaaGreatDoorFit
namespace Go.Proofs.YtkgbpildikjoiaaGreatDoor
open Go.RowKit

theorem km_lt (n : Nat) (t : Wt n) (h : wgt n t = true) : km n t < 16384 := by rw [km_kset n t h]; exact kset_lt _ 14

set_option maxRecDepth 100000 in
theorem typed_any (k : Int) (h0 : 0 ≤ k) (h1 : k ≤ 13) (w : World) : Calls Tryz.prog 50 #[.int .i64 k] w fun e w' => e = .returned (.int .u32 (((if k = 11 then 6144 else 2 ^ k.toNat : Nat)) : Int)) ∧ w' = w := by
  have : k = 0 ∨ k = 1 ∨ k = 2 ∨ k = 3 ∨ k = 4 ∨ k = 5 ∨ k = 6 ∨ k = 7 ∨ k = 8 ∨ k = 9 ∨ k = 10 ∨ k = 11 ∨ k = 12 ∨ k = 13 := by omega
  rcases this with rfl | rfl | rfl | rfl | rfl | rfl | rfl | rfl | rfl | rfl | rfl | rfl | rfl | rfl
  all_goals
    go_enter Tryz.func50, Tryz.ntmps50
    go_wp2
    go_ret
    exact ⟨rfl, rfl⟩

/-- What the document's Kinds is to answer of patterns of depth n. -/
def RkN (n : Nat) : Prop := ∀ (t : Wt n) (v0 v1 v2 : Value) (w : World), RepW w n [v0, v1, v2] t → wgt n t = true →
    Calls Tryz.prog 42 #[.agg #[v0, v1, v2]] w fun e w' => e = .returned (.int .u32 ((km n t : Nat) : Int)) ∧ Below w.heap.size w w'

set_option maxRecDepth 100000 in
set_option maxHeartbeats 1000000 in
theorem rk1 (m : Int) (ad : Option Addr) (len cap : Nat) (w : World) : Calls Tryz.prog 42 #[.agg #[.int .i64 1, .int .i64 m, .slice ad len cap]] w fun e w' => e = .returned (.int .u32 16382) ∧ Below w.heap.size w w' := by
  go_enter Tryz.func42, Tryz.ntmps42
  go_wp2
  go_ret
  exact ⟨rfl, below1 w _⟩

set_option maxRecDepth 100000 in
set_option maxHeartbeats 1000000 in
theorem rk2 (m : Int) (h0 : 0 ≤ m) (h1 : m ≤ 13) (ad : Option Addr) (len cap : Nat) (w : World) : Calls Tryz.prog 42 #[.agg #[.int .i64 2, .int .i64 m, .slice ad len cap]] w fun e w' => e = .returned (.int .u32 (((if m = 11 then 6144 else 2 ^ m.toNat : Nat)) : Int)) ∧ Below w.heap.size w w' := by
  have H := Lib.hid (typed_any m h0 h1)
  generalize (if m = 11 then 6144 else 2 ^ m.toNat : Nat) = X at H
  go_enter Tryz.func42, Tryz.ntmps42
  go_wp2_with fail
  refine (H.out _).mono ?_
  rintro e w1 ⟨rfl, rfl⟩
  go_wp2
  go_ret
  exact ⟨rfl, below1 w _⟩

set_option maxRecDepth 100000 in
set_option maxHeartbeats 2000000 in
theorem rk3 (m : Int) (ad : Option Addr) (len cap : Nat) (w : World) : Calls Tryz.prog 42 #[.agg #[.int .i64 3, .int .i64 m, .slice ad len cap]] w fun e w' => e = .returned (.int .u32 ((kset (fun k => impl k m) 14 : Nat) : Int)) ∧ Below w.heap.size w w' := by
  have HI : Hid (∀ (j : Nat) wx, One w (.int .i64 3) (.int .i64 m) (.slice ad len cap) wx → Calls Tryz.prog 51 #[.int .i64 j, .int .i64 m] wx fun e w' => e = .returned (.bool (impl j m)) ∧ One w (.int .i64 3) (.int .i64 m) (.slice ad len cap) w') := fun j wx hx => (refImpl_any j m wx).mono fun e w' ⟨a, b⟩ => ⟨a, hx.step b⟩
  have HS : Hid (∀ wx, One w (.int .i64 3) (.int .i64 m) (.slice ad len cap) wx → wx.cell? ⟨w.heap.size, 1, none⟩ = some (.int .i64 m)) := fun wx h => h.c.2.1
  have hb0 := One.start w (.int .i64 3) (.int .i64 m) (.slice ad len cap)
  generalize hp : (fun k => impl k m) = p
  have HP : Hid (∀ j : Nat, impl j m = p j) := fun j => by rw [← hp]
  clear hp
  go_enter Tryz.func42, Tryz.ntmps42
  go_wp2_with fail
  go_loopw [3, 4] (fun sk si wr => ∃ (j : Nat), sk = .int .u32 ((kset p j : Nat) : Int) ∧ si = .int .i64 j ∧ j ≤ 14 ∧ One w (.int .i64 3) (.int .i64 m) (.slice ad len cap) wr) (fun _ si _ => 14 - (intOf si).toNat)
  case atStart => exact ⟨0, rfl, rfl, by omega, hb0⟩
  case round =>
    obtain ⟨j, rfl, rfl, hj, hb⟩ := hrel
    by_cases hlt : j < 14
    · have i0 : (0 : Int) ≤ ↑j := by omega
      have i1 : (↑j : Int) ≤ 32 := by omega
      have i2 : (↑j : Int) < 14 := by omega
      have c1 := HS.out _ hb
      go_wp2_with fail
      refine (HI.out j _ hb).mono ?_
      rintro e w1 ⟨he, b1⟩
      obtain ⟨bb, hbb⟩ : ∃ bb : Bool, p j = bb := ⟨_, rfl⟩
      rw [HP.out, hbb] at he
      subst he
      cases bb
      all_goals go_wp2_with fail
      all_goals first
        | exact ⟨⟨j + 1, congrArg (Value.int .u32) (or_at p j hlt hbb), by go_num, by omega, b1⟩, by simp [intOf]; omega⟩
        | exact ⟨⟨j + 1, congrArg (fun x : Nat => Value.int .u32 (x : Int)) (kset_no p j hbb), by go_num, by omega, b1⟩, by simp [intOf]; omega⟩
    · obtain rfl : j = 14 := by omega
      have i2 : ¬ (((14 : Nat) : Int) < 14) := by omega
      go_wp2_with fail
      go_ret
      exact ⟨rfl, hb.below⟩

theorem fold_or_lt {T : Type} (f : T → Nat) : ∀ (l : List T) (a : Nat), a < 16384 → (∀ x ∈ l, f x < 16384) → l.foldl (fun s x => s ||| f x) a < 16384
  | [], _, h, _ => h
  | x :: l, a, h, hl => fold_or_lt f l (a ||| f x) (Nat.or_lt_two_pow (n := 14) h (hl x (by simp))) fun y hy => hl y (by simp [hy])
theorem fold_and_lt {T : Type} (f : T → Nat) : ∀ (l : List T) (a : Nat), a < 16384 → l.foldl (fun s x => s &&& f x) a < 16384
  | [], _, h => h
  | x :: l, a, h => fold_and_lt f l (a &&& f x) (Nat.lt_of_le_of_lt Nat.and_le_left h)
theorem take_fold {T A : Type} (g : A → T → A) (a : A) (l : List T) (j : Nat) (h : j < l.length) : (l.take (j + 1)).foldl g a = g ((l.take j).foldl g a) l[j] := by
  rw [List.take_succ_eq_append_getElem h, List.foldl_append]; rfl

set_option maxRecDepth 100000 in
set_option maxHeartbeats 2000000 in
theorem rk4 (n : Nat) (hn : RkN n) (ts : List (Wt n)) (m : Int) (ad : Option Addr) (cap : Nat) (w : World) (hcap : ts.length ≤ cap) (hmax : cap ≤ maxLen)
    (hr : ts = [] ∨ ∃ g o, ad = some ⟨g, o, none⟩ ∧ ∀ (j : Nat) (t' : Wt n), ts[j]? = some t' → ∃ v0 v1 v2, w.cell? ⟨g, o + j * 3, none⟩ = some v0 ∧ w.cell? ⟨g, o + j * 3 + 1, none⟩ = some v1 ∧ w.cell? ⟨g, o + j * 3 + 2, none⟩ = some v2 ∧ RepW w n [v0, v1, v2] t')
    (hg : ∀ t ∈ ts, wgt n t = true) :
    Calls Tryz.prog 42 #[.agg #[.int .i64 4, .int .i64 m, .slice ad ts.length cap]] w fun e w' => e = .returned (.int .u32 ((ts.foldl (fun s x => s ||| km n x) 0 : Nat) : Int)) ∧ Below w.heap.size w w' := by
  unfold maxLen at hmax
  have HC : Hid (∀ (t : Wt n) (v0 v1 v2 : Value) (wx : World), t ∈ ts → RepW w n [v0, v1, v2] t → One w (.int .i64 4) (.int .i64 m) (.slice ad ts.length cap) wx → Calls Tryz.prog 42 #[.agg #[v0, v1, v2]] wx fun e w' => e = .returned (.int .u32 ((km n t : Nat) : Int)) ∧ One w (.int .i64 4) (.int .i64 m) (.slice ad ts.length cap) w') := fun t v0 v1 v2 wx ht hx hb => (hn t v0 v1 v2 wx (RepW.below hb.below n _ _ hx) (hg t ht)).mono fun e w' ⟨a, b⟩ => ⟨a, hb.step b⟩
  have HS : Hid (∀ wx, One w (.int .i64 4) (.int .i64 m) (.slice ad ts.length cap) wx → wx.cell? ⟨w.heap.size, 2, none⟩ = some (.slice ad ts.length cap)) := fun wx h => h.c.2.2
  have HL : Hid (∀ t ∈ ts, km n t < 16384) := fun t ht => km_lt n t (hg t ht)
  have hb0 := One.start w (.int .i64 4) (.int .i64 m) (.slice ad ts.length cap)
  have HK := Lib.hid hr
  clear hn hg hr
  generalize km n = f at HC HL
  go_enter Tryz.func42, Tryz.ntmps42
  go_wp2_with fail
  go_loopw [5, 6] (fun sk si wr => ∃ (j : Nat), sk = .int .u32 (((ts.take j).foldl (fun s x => s ||| f x) 0 : Nat) : Int) ∧ si = .int .i64 j ∧ j ≤ ts.length ∧ One w (.int .i64 4) (.int .i64 m) (.slice ad ts.length cap) wr) (fun _ si _ => ts.length - (intOf si).toNat)
  case atStart => exact ⟨0, rfl, rfl, Nat.zero_le _, hb0⟩
  case round =>
    obtain ⟨j, rfl, rfl, hj, hb⟩ := hrel
    have k2 := HS.out _ hb
    by_cases hlt : j < ts.length
    · have hne : ts ≠ [] := by intro e; rw [e] at hlt; exact absurd hlt (Nat.not_lt_zero _)
      rcases HK.out with hk | ⟨g, o, hk1, hk2⟩
      · exact absurd hk hne
      subst hk1
      obtain ⟨v0, v1, v2, e0, e1, e2, rk⟩ := hk2 j _ (List.getElem?_eq_getElem hlt)
      have hgl : g < w.heap.size := World.block_lt_of_cell? w _ e0
      have x0 := (hb.below.cell (p := ⟨g, o + j * 3, none⟩) hgl).trans e0
      have x1 := (hb.below.cell (p := ⟨g, o + j * 3 + 1, none⟩) hgl).trans e1
      have x2 := (hb.below.cell (p := ⟨g, o + j * 3 + 2, none⟩) hgl).trans e2
      have hA := fold_or_lt f (ts.take j) 0 (by decide) fun x hx => HL.out x (List.mem_of_mem_take hx)
      have hB := HL.out ts[j] (List.getElem_mem hlt)
      have hbits := u32_or_nat _ _ (Nat.lt_trans hA (by decide)) (Nat.lt_trans hB (by decide))
      have HT := Lib.hid (take_fold (fun s x => s ||| f x) 0 ts j hlt)
      have HC' := Lib.hid (HC.out ts[j] v0 v1 v2 wr (List.getElem_mem hlt) rk hb)
      clear e0 e1 e2 hk2 HK HC HL hA hB rk
      generalize hSS : (ts.take j).foldl (fun s x => s ||| f x) 0 = SS at hbits HT
      generalize f ts[j] = XX at hbits HT HC'
      rw [hSS] at *
      go_wp2_with fail
      refine HC'.out.mono ?_
      rintro e w1 ⟨rfl, b1⟩
      go_wp2_with fail
      exact ⟨⟨j + 1, congrArg (fun x : Nat => Value.int .u32 (x : Int)) HT.out.symm, by go_num, by omega, b1⟩, by simp [intOf]; omega⟩
    · have hje : j = ts.length := by omega
      have ht : ts.take j = ts := by rw [hje, List.take_length]
      have HT := Lib.hid ht
      clear ht
      go_wp2_with fail
      go_ret
      exact ⟨by rw [← HT.out]; simp [hje], hb.below⟩
set_option maxRecDepth 100000 in
set_option maxHeartbeats 2000000 in
theorem rk5 (n : Nat) (hn : RkN n) (ts : List (Wt n)) (m : Int) (ad : Option Addr) (cap : Nat) (w : World) (hcap : ts.length ≤ cap) (hmax : cap ≤ maxLen)
    (hr : ts = [] ∨ ∃ g o, ad = some ⟨g, o, none⟩ ∧ ∀ (j : Nat) (t' : Wt n), ts[j]? = some t' → ∃ v0 v1 v2, w.cell? ⟨g, o + j * 3, none⟩ = some v0 ∧ w.cell? ⟨g, o + j * 3 + 1, none⟩ = some v1 ∧ w.cell? ⟨g, o + j * 3 + 2, none⟩ = some v2 ∧ RepW w n [v0, v1, v2] t')
    (hg : ∀ t ∈ ts, wgt n t = true) :
    Calls Tryz.prog 42 #[.agg #[.int .i64 5, .int .i64 m, .slice ad ts.length cap]] w fun e w' => e = .returned (.int .u32 ((ts.foldl (fun s x => s &&& km n x) 16383 : Nat) : Int)) ∧ Below w.heap.size w w' := by
  unfold maxLen at hmax
  have HC : Hid (∀ (t : Wt n) (v0 v1 v2 : Value) (wx : World), t ∈ ts → RepW w n [v0, v1, v2] t → One w (.int .i64 5) (.int .i64 m) (.slice ad ts.length cap) wx → Calls Tryz.prog 42 #[.agg #[v0, v1, v2]] wx fun e w' => e = .returned (.int .u32 ((km n t : Nat) : Int)) ∧ One w (.int .i64 5) (.int .i64 m) (.slice ad ts.length cap) w') := fun t v0 v1 v2 wx ht hx hb => (hn t v0 v1 v2 wx (RepW.below hb.below n _ _ hx) (hg t ht)).mono fun e w' ⟨a, b⟩ => ⟨a, hb.step b⟩
  have HS : Hid (∀ wx, One w (.int .i64 5) (.int .i64 m) (.slice ad ts.length cap) wx → wx.cell? ⟨w.heap.size, 2, none⟩ = some (.slice ad ts.length cap)) := fun wx h => h.c.2.2
  have HL : Hid (∀ t ∈ ts, km n t < 16384) := fun t ht => km_lt n t (hg t ht)
  have hb0 := One.start w (.int .i64 5) (.int .i64 m) (.slice ad ts.length cap)
  have HK := Lib.hid hr
  clear hn hg hr
  generalize km n = f at HC HL
  go_enter Tryz.func42, Tryz.ntmps42
  go_wp2_with fail
  go_loopw [7, 8] (fun sk si wr => ∃ (j : Nat), sk = .int .u32 (((ts.take j).foldl (fun s x => s &&& f x) 16383 : Nat) : Int) ∧ si = .int .i64 j ∧ j ≤ ts.length ∧ One w (.int .i64 5) (.int .i64 m) (.slice ad ts.length cap) wr) (fun _ si _ => ts.length - (intOf si).toNat)
  case atStart => exact ⟨0, rfl, rfl, Nat.zero_le _, hb0⟩
  case round =>
    obtain ⟨j, rfl, rfl, hj, hb⟩ := hrel
    have k2 := HS.out _ hb
    by_cases hlt : j < ts.length
    · have hne : ts ≠ [] := by intro e; rw [e] at hlt; exact absurd hlt (Nat.not_lt_zero _)
      rcases HK.out with hk | ⟨g, o, hk1, hk2⟩
      · exact absurd hk hne
      subst hk1
      obtain ⟨v0, v1, v2, e0, e1, e2, rk⟩ := hk2 j _ (List.getElem?_eq_getElem hlt)
      have hgl : g < w.heap.size := World.block_lt_of_cell? w _ e0
      have x0 := (hb.below.cell (p := ⟨g, o + j * 3, none⟩) hgl).trans e0
      have x1 := (hb.below.cell (p := ⟨g, o + j * 3 + 1, none⟩) hgl).trans e1
      have x2 := (hb.below.cell (p := ⟨g, o + j * 3 + 2, none⟩) hgl).trans e2
      have hA := fold_and_lt f (ts.take j) 16383 (by decide)
      have hB := HL.out ts[j] (List.getElem_mem hlt)
      have hbits := u32_and_nat _ _ (Nat.lt_trans hA (by decide)) (Nat.lt_trans hB (by decide))
      have HT := Lib.hid (take_fold (fun s x => s &&& f x) 16383 ts j hlt)
      have HC' := Lib.hid (HC.out ts[j] v0 v1 v2 wr (List.getElem_mem hlt) rk hb)
      clear e0 e1 e2 hk2 HK HC HL hA hB rk
      generalize hSS : (ts.take j).foldl (fun s x => s &&& f x) 16383 = SS at hbits HT
      generalize f ts[j] = XX at hbits HT HC'
      rw [hSS] at *
      go_wp2_with fail
      refine HC'.out.mono ?_
      rintro e w1 ⟨rfl, b1⟩
      go_wp2_with fail
      exact ⟨⟨j + 1, congrArg (fun x : Nat => Value.int .u32 (x : Int)) HT.out.symm, by go_num, by omega, b1⟩, by simp [intOf]; omega⟩
    · have hje : j = ts.length := by omega
      have ht : ts.take j = ts := by rw [hje, List.take_length]
      have HT := Lib.hid ht
      clear ht
      go_wp2_with fail
      go_ret
      exact ⟨by rw [← HT.out]; simp [hje], hb.below⟩
set_option maxRecDepth 100000 in
set_option maxHeartbeats 2000000 in
theorem rk6 (n : Nat) (hn : RkN n) (x : Wt n) (m : Int) (ad : Option Addr) (cap : Nat) (w : World)
    (hr : [x] = [] ∨ ∃ g o, ad = some ⟨g, o, none⟩ ∧ ∀ (j : Nat) (t' : Wt n), [x][j]? = some t' → ∃ v0 v1 v2, w.cell? ⟨g, o + j * 3, none⟩ = some v0 ∧ w.cell? ⟨g, o + j * 3 + 1, none⟩ = some v1 ∧ w.cell? ⟨g, o + j * 3 + 2, none⟩ = some v2 ∧ RepW w n [v0, v1, v2] t')
    (hg : wgt n x = true) :
    Calls Tryz.prog 42 #[.agg #[.int .i64 6, .int .i64 m, .slice ad 1 cap]] w fun e w' => e = .returned (.int .u32 ((16383 &&& (4294967295 - km n x) : Nat) : Int)) ∧ Below w.heap.size w w' := by
  rcases hr with hr | ⟨g, o, rfl, hr⟩
  · cases hr
  obtain ⟨v0, v1, v2, e0, e1, e2, rk⟩ := hr 0 x rfl
  have hgl : g < w.heap.size := World.block_lt_of_cell? w _ e0
  have hb0 := One.start w (.int .i64 6) (.int .i64 m) (.slice (some ⟨g, o, none⟩) 1 cap)
  have k2 := hb0.c.2.2
  have x0 := (hb0.below.cell (p := ⟨g, o, none⟩) hgl).trans (by simpa using e0)
  have x1 := (hb0.below.cell (p := ⟨g, o + 1, none⟩) hgl).trans (by simpa using e1)
  have x2 := (hb0.below.cell (p := ⟨g, o + 2, none⟩) hgl).trans (by simpa using e2)
  have HC := Lib.hid (hn x v0 v1 v2 _ (RepW.below hb0.below n _ _ rk) hg)
  have hbits := u32_andNot_nat 16383 (km n x) (by decide) (Nat.lt_trans (km_lt n x hg) (by decide))
  have hbits' : bits .andNot .u32 16383 ((km n x : Nat) : Int) = ((16383 &&& (4294967295 - km n x) : Nat) : Int) := hbits
  clear hn hg hr rk e0 e1 e2 hbits
  generalize 16383 &&& (4294967295 - km n x) = YY at hbits'
  generalize km n x = XX at HC hbits'
  go_enter Tryz.func42, Tryz.ntmps42
  go_wp2_with fail
  refine HC.out.mono ?_
  rintro e w1 ⟨rfl, b1⟩
  go_wp2_with fail
  go_ret
  exact ⟨rfl, hb0.below.trans (b1.mono hb0.below.size)⟩

theorem rk_any : ∀ n, RkN n := by
  intro n
  induction n with
  | zero => exact fun t => t.elim
  | succ n hn =>
    intro t v0 v1 v2 w hr hg
    simp only [wgt, Bool.and_eq_true, List.all_eq_true] at hg
    obtain ⟨ho, hk⟩ := hg
    obtain ⟨ad, cap, e, hcap, hmax, hkids⟩ := hr
    simp only [List.cons.injEq, and_true] at e
    obtain ⟨rfl, rfl, rfl⟩ := e
    unfold Wt.ok at ho
    have hop := okW_op ho
    simp only [km]
    generalize t.nm = m at ho ⊢
    generalize t.op = o at ho hop ⊢
    generalize t.ks = ts at ho hk hcap hkids ⊢
    rcases hop with rfl | rfl | rfl | rfl | rfl | rfl
    · simp only [if_true]
      exact rk1 m ad ts.length cap w
    · have ho' := of_decide_eq_true (show decide (0 ≤ m ∧ m < 14 ∧ ts.length = 0) = true from ho)
      simp only [if_true, if_false, show ¬ (2 : Int) = 1 by decide]
      exact rk2 m ho'.1 (by omega) ad ts.length cap w
    · simp only [if_true, if_false, show ¬ (3 : Int) = 1 by decide, show ¬ (3 : Int) = 2 by decide]
      exact rk3 m ad ts.length cap w
    · simp only [if_true, if_false, show ¬ (4 : Int) = 1 by decide, show ¬ (4 : Int) = 2 by decide, show ¬ (4 : Int) = 3 by decide]
      exact rk4 n hn ts m ad cap w hcap hmax hkids hk
    · simp only [if_true, if_false, show ¬ (5 : Int) = 1 by decide, show ¬ (5 : Int) = 2 by decide, show ¬ (5 : Int) = 3 by decide, show ¬ (5 : Int) = 4 by decide]
      exact rk5 n hn ts m ad cap w hcap hmax hkids hk
    · have ho' : ts.length = 1 := (of_decide_eq_true (show decide (m = 0 ∧ ts.length = 1) = true from ho)).2
      simp only [if_false, show ¬ (6 : Int) = 1 by decide, show ¬ (6 : Int) = 2 by decide, show ¬ (6 : Int) = 3 by decide, show ¬ (6 : Int) = 4 by decide, show ¬ (6 : Int) = 5 by decide]
      match ts, ho' with
      | [x], _ => exact rk6 n hn x m ad cap w hkids (hk x (by simp))

theorem refKinds_any (n : Nat) (t : Wt n) (v0 v1 v2 : Value) (w : World) (hr : RepW w n [v0, v1, v2] t) (hg : wgt n t = true) :
    Calls Tryz.prog 42 #[.agg #[v0, v1, v2]] w fun e w' => e = .returned (.int .u32 ((kset (evk n t) 14 : Nat) : Int)) ∧ Below w.heap.size w w' := by
  rw [← km_kset n t hg]
  exact rk_any n t v0 v1 v2 w hr hg
end Go.Proofs.YtkgbpildikjoiaaGreatDoor
