/- The document's Kinds of a right pattern: the kinds of which it holds, as bits; the conditions: the pattern's tree lies in memory and is right. -/
import Derived.Test.YtajagjcfmaggiaaGreatDoorKAaa
import Derived.Test.YtajagjcfmaggiaaGreatDoorKAai
import Derived.Test.YtajagjcfmaggiaaGreatDoorKAbb
import Derived.Laws.IdiomStrings
import Derived.Laws.MakeOwn
import Derived.Test.YtajagjcfmaggiaaGreatDoorKAaj
import Derived.Test.YtajagjcfmaggiaaGreatDoorKAba
import Derived.Test.YtajagjcfmaggiaaGreatDoorKAac
import Derived.Test.YtajagjcfmaggiaaGreatDoorKAab
namespace Go.Proofs.YtajagjcfmaggiaaGreatDoor
open Go.RowKit

theorem km_lt (n : Nat) (t : Wt n) (h : wgt n t = true) : km n t < 16384 := by rw [km_kset n t h]; exact kset_lt _ 14

set_option maxRecDepth 100000 in
theorem typed_any (k : Int) (h0 : 0 ≤ k) (h1 : k ≤ 13) (w : World) : Calls Tryz.prog 47 #[.int .i64 k] w fun e w' => e = .returned (.int .u32 (((if k = 11 then 6144 else 2 ^ k.toNat : Nat)) : Int)) ∧ w' = w := by
  have : k = 0 ∨ k = 1 ∨ k = 2 ∨ k = 3 ∨ k = 4 ∨ k = 5 ∨ k = 6 ∨ k = 7 ∨ k = 8 ∨ k = 9 ∨ k = 10 ∨ k = 11 ∨ k = 12 ∨ k = 13 := by omega
  rcases this with rfl | rfl | rfl | rfl | rfl | rfl | rfl | rfl | rfl | rfl | rfl | rfl | rfl | rfl
  all_goals
    go_enter Tryz.func47, Tryz.ntmps47
    go_wp2
    go_ret
    exact ⟨rfl, rfl⟩

/-- What the document's Kinds is to answer of patterns of depth n. -/
def RkN (n : Nat) : Prop := ∀ (t : Wt n) (v0 v1 v2 : Value) (w : World), RepW w n [v0, v1, v2] t → wgt n t = true →
    Calls Tryz.prog 33 #[.agg #[v0, v1, v2]] w fun e w' => e = .returned (.int .u32 ((km n t : Nat) : Int)) ∧ Below w.heap.size w w'

set_option maxRecDepth 100000 in
set_option maxHeartbeats 1000000 in
theorem rk1 (m : Int) (ad : Option Addr) (len cap : Nat) (w : World) : Calls Tryz.prog 33 #[.agg #[.int .i64 1, .int .i64 m, .slice ad len cap]] w fun e w' => e = .returned (.int .u32 16382) ∧ Below w.heap.size w w' := by
  go_enter Tryz.func33, Tryz.ntmps33
  go_wp2
  go_ret
  exact ⟨rfl, below1 w _⟩

set_option maxRecDepth 100000 in
set_option maxHeartbeats 1000000 in
theorem rk2 (m : Int) (h0 : 0 ≤ m) (h1 : m ≤ 13) (ad : Option Addr) (len cap : Nat) (w : World) : Calls Tryz.prog 33 #[.agg #[.int .i64 2, .int .i64 m, .slice ad len cap]] w fun e w' => e = .returned (.int .u32 (((if m = 11 then 6144 else 2 ^ m.toNat : Nat)) : Int)) ∧ Below w.heap.size w w' := by
  have H := Lib.hid (typed_any m h0 h1)
  generalize (if m = 11 then 6144 else 2 ^ m.toNat : Nat) = X at H
  go_enter Tryz.func33, Tryz.ntmps33
  go_wp2_with fail
  refine (H.out _).mono ?_
  rintro e w1 ⟨rfl, rfl⟩
  go_wp2
  go_ret
  exact ⟨rfl, below1 w _⟩

set_option maxRecDepth 100000 in
set_option maxHeartbeats 2000000 in
theorem rk3 (m : Int) (ad : Option Addr) (len cap : Nat) (w : World) : Calls Tryz.prog 33 #[.agg #[.int .i64 3, .int .i64 m, .slice ad len cap]] w fun e w' => e = .returned (.int .u32 ((kset (fun k => impl k m) 14 : Nat) : Int)) ∧ Below w.heap.size w w' := by
  have HI : Hid (∀ (j : Nat) wx, One w (.int .i64 3) (.int .i64 m) (.slice ad len cap) wx → Calls Tryz.prog 48 #[.int .i64 j, .int .i64 m] wx fun e w' => e = .returned (.bool (impl j m)) ∧ One w (.int .i64 3) (.int .i64 m) (.slice ad len cap) w') := fun j wx hx => (refImpl_any j m wx).mono fun e w' ⟨a, b⟩ => ⟨a, hx.step b⟩
  have HS : Hid (∀ wx, One w (.int .i64 3) (.int .i64 m) (.slice ad len cap) wx → wx.cell? ⟨w.heap.size, 1, none⟩ = some (.int .i64 m)) := fun wx h => h.c.2.1
  have hb0 := One.start w (.int .i64 3) (.int .i64 m) (.slice ad len cap)
  generalize hp : (fun k => impl k m) = p
  have HP : Hid (∀ j : Nat, impl j m = p j) := fun j => by rw [← hp]
  clear hp
  go_enter Tryz.func33, Tryz.ntmps33
  go_wp2_with fail
  go_loopw [3, 4] (fun sk si wr => ∃ (j : Nat), sk = .int .u32 ((kset p j : Nat) : Int) ∧ si = .int .i64 j ∧ j ≤ 14 ∧ One w (.int .i64 3) (.int .i64 m) (.slice ad len cap) wr) (fun _ si _ => 14 - (intOf si).toNat)
  case atStart => exact ⟨0, rfl, rfl, by omega, hb0⟩
  case round =>
    obtain ⟨j, rfl, rfl, hj, hb⟩ := hrel
    by_cases hlt : j < 14
    · have i0 : (0 : Int) ≤ ↑j := by omega
      have i1 : (↑j : Int) ≤ 32 := by omega
      have i2 : (↑j : Int) < 14 := by omega
      have c1 := HS.out _ hb
      go_wp2_with fail
      refine (HI.out j _ hb).mono ?_
      rintro e w1 ⟨he, b1⟩
      obtain ⟨bb, hbb⟩ : ∃ bb : Bool, p j = bb := ⟨_, rfl⟩
      rw [HP.out, hbb] at he
      subst he
      cases bb
      all_goals go_wp2_with fail
      all_goals first
        | exact ⟨⟨j + 1, congrArg (Value.int .u32) (or_at p j hlt hbb), by go_num, by omega, b1⟩, by simp [intOf]; omega⟩
        | exact ⟨⟨j + 1, congrArg (fun x : Nat => Value.int .u32 (x : Int)) (kset_no p j hbb), by go_num, by omega, b1⟩, by simp [intOf]; omega⟩
    · obtain rfl : j = 14 := by omega
      have i2 : ¬ (((14 : Nat) : Int) < 14) := by omega
      go_wp2_with fail
      go_ret
      exact ⟨rfl, hb.below⟩

theorem fold_or_lt {T : Type} (f : T → Nat) : ∀ (l : List T) (a : Nat), a < 16384 → (∀ x ∈ l, f x < 16384) → l.foldl (fun s x => s ||| f x) a < 16384
  | [], _, h, _ => h
  | x :: l, a, h, hl => fold_or_lt f l (a ||| f x) (Nat.or_lt_two_pow (n := 14) h (hl x (by simp))) fun y hy => hl y (by simp [hy])
theorem fold_and_lt {T : Type} (f : T → Nat) : ∀ (l : List T) (a : Nat), a < 16384 → l.foldl (fun s x => s &&& f x) a < 16384
  | [], _, h => h
  | x :: l, a, h => fold_and_lt f l (a &&& f x) (Nat.lt_of_le_of_lt Nat.and_le_left h)
theorem take_fold {T A : Type} (g : A → T → A) (a : A) (l : List T) (j : Nat) (h : j < l.length) : (l.take (j + 1)).foldl g a = g ((l.take j).foldl g a) l[j] := by
  rw [List.take_succ_eq_append_getElem h, List.foldl_append]; rfl

set_option maxRecDepth 100000 in
set_option maxHeartbeats 2000000 in
theorem rk4 (n : Nat) (hn : RkN n) (ts : List (Wt n)) (m : Int) (ad : Option Addr) (cap : Nat) (w : World) (hcap : ts.length ≤ cap) (hmax : cap ≤ maxLen)
    (hr : ts = [] ∨ ∃ g o, ad = some ⟨g, o, none⟩ ∧ ∀ (j : Nat) (t' : Wt n), ts[j]? = some t' → ∃ v0 v1 v2, w.cell? ⟨g, o + j * 3, none⟩ = some v0 ∧ w.cell? ⟨g, o + j * 3 + 1, none⟩ = some v1 ∧ w.cell? ⟨g, o + j * 3 + 2, none⟩ = some v2 ∧ RepW w n [v0, v1, v2] t')
    (hg : ∀ t ∈ ts, wgt n t = true) :
    Calls Tryz.prog 33 #[.agg #[.int .i64 4, .int .i64 m, .slice ad ts.length cap]] w fun e w' => e = .returned (.int .u32 ((ts.foldl (fun s x => s ||| km n x) 0 : Nat) : Int)) ∧ Below w.heap.size w w' := by
  unfold maxLen at hmax
  have HC : Hid (∀ (t : Wt n) (v0 v1 v2 : Value) (wx : World), t ∈ ts → RepW w n [v0, v1, v2] t → One w (.int .i64 4) (.int .i64 m) (.slice ad ts.length cap) wx → Calls Tryz.prog 33 #[.agg #[v0, v1, v2]] wx fun e w' => e = .returned (.int .u32 ((km n t : Nat) : Int)) ∧ One w (.int .i64 4) (.int .i64 m) (.slice ad ts.length cap) w') := fun t v0 v1 v2 wx ht hx hb => (hn t v0 v1 v2 wx (RepW.below hb.below n _ _ hx) (hg t ht)).mono fun e w' ⟨a, b⟩ => ⟨a, hb.step b⟩
  have HS : Hid (∀ wx, One w (.int .i64 4) (.int .i64 m) (.slice ad ts.length cap) wx → wx.cell? ⟨w.heap.size, 2, none⟩ = some (.slice ad ts.length cap)) := fun wx h => h.c.2.2
  have HL : Hid (∀ t ∈ ts, km n t < 16384) := fun t ht => km_lt n t (hg t ht)
  have hb0 := One.start w (.int .i64 4) (.int .i64 m) (.slice ad ts.length cap)
  have HK := Lib.hid hr
  clear hn hg hr
  generalize km n = f at HC HL
  go_enter Tryz.func33, Tryz.ntmps33
  go_wp2_with fail
  go_loopw [5, 6] (fun sk si wr => ∃ (j : Nat), sk = .int .u32 (((ts.take j).foldl (fun s x => s ||| f x) 0 : Nat) : Int) ∧ si = .int .i64 j ∧ j ≤ ts.length ∧ One w (.int .i64 4) (.int .i64 m) (.slice ad ts.length cap) wr) (fun _ si _ => ts.length - (intOf si).toNat)
  case atStart => exact ⟨0, rfl, rfl, Nat.zero_le _, hb0⟩
  case round =>
    obtain ⟨j, rfl, rfl, hj, hb⟩ := hrel
    have k2 := HS.out _ hb
    by_cases hlt : j < ts.length
    · have hne : ts ≠ [] := by intro e; rw [e] at hlt; exact absurd hlt (Nat.not_lt_zero _)
      rcases HK.out with hk | ⟨g, o, hk1, hk2⟩
      · exact absurd hk hne
      subst hk1
      obtain ⟨v0, v1, v2, e0, e1, e2, rk⟩ := hk2 j _ (List.getElem?_eq_getElem hlt)
      have hgl : g < w.heap.size := World.block_lt_of_cell? w _ e0
      have x0 := (hb.below.cell (p := ⟨g, o + j * 3, none⟩) hgl).trans e0
      have x1 := (hb.below.cell (p := ⟨g, o + j * 3 + 1, none⟩) hgl).trans e1
      have x2 := (hb.below.cell (p := ⟨g, o + j * 3 + 2, none⟩) hgl).trans e2
      have hA := fold_or_lt f (ts.take j) 0 (by decide) fun x hx => HL.out x (List.mem_of_mem_take hx)
      have hB := HL.out ts[j] (List.getElem_mem hlt)
      have hbits := u32_or_nat _ _ (Nat.lt_trans hA (by decide)) (Nat.lt_trans hB (by decide))
      have HT := Lib.hid (take_fold (fun s x => s ||| f x) 0 ts j hlt)
      have HC' := Lib.hid (HC.out ts[j] v0 v1 v2 wr (List.getElem_mem hlt) rk hb)
      clear e0 e1 e2 hk2 HK HC HL hA hB rk
      generalize hSS : (ts.take j).foldl (fun s x => s ||| f x) 0 = SS at hbits HT
      generalize f ts[j] = XX at hbits HT HC'
      rw [hSS] at *
      go_wp2_with fail
      refine HC'.out.mono ?_
      rintro e w1 ⟨rfl, b1⟩
      go_wp2_with fail
      exact ⟨⟨j + 1, congrArg (fun x : Nat => Value.int .u32 (x : Int)) HT.out.symm, by go_num, by omega, b1⟩, by simp [intOf]; omega⟩
    · have hje : j = ts.length := by omega
      have ht : ts.take j = ts := by rw [hje, List.take_length]
      have HT := Lib.hid ht
      clear ht
      go_wp2_with fail
      go_ret
      exact ⟨by rw [← HT.out]; simp [hje], hb.below⟩
set_option maxRecDepth 100000 in
set_option maxHeartbeats 2000000 in
theorem rk5 (n : Nat) (hn : RkN n) (ts : List (Wt n)) (m : Int) (ad : Option Addr) (cap : Nat) (w : World) (hcap : ts.length ≤ cap) (hmax : cap ≤ maxLen)
    (hr : ts = [] ∨ ∃ g o, ad = some ⟨g, o, none⟩ ∧ ∀ (j : Nat) (t' : Wt n), ts[j]? = some t' → ∃ v0 v1 v2, w.cell? ⟨g, o + j * 3, none⟩ = some v0 ∧ w.cell? ⟨g, o + j * 3 + 1, none⟩ = some v1 ∧ w.cell? ⟨g, o + j * 3 + 2, none⟩ = some v2 ∧ RepW w n [v0, v1, v2] t')
    (hg : ∀ t ∈ ts, wgt n t = true) :
    Calls Tryz.prog 33 #[.agg #[.int .i64 5, .int .i64 m, .slice ad ts.length cap]] w fun e w' => e = .returned (.int .u32 ((ts.foldl (fun s x => s &&& km n x) 16383 : Nat) : Int)) ∧ Below w.heap.size w w' := by
  unfold maxLen at hmax
  have HC : Hid (∀ (t : Wt n) (v0 v1 v2 : Value) (wx : World), t ∈ ts → RepW w n [v0, v1, v2] t → One w (.int .i64 5) (.int .i64 m) (.slice ad ts.length cap) wx → Calls Tryz.prog 33 #[.agg #[v0, v1, v2]] wx fun e w' => e = .returned (.int .u32 ((km n t : Nat) : Int)) ∧ One w (.int .i64 5) (.int .i64 m) (.slice ad ts.length cap) w') := fun t v0 v1 v2 wx ht hx hb => (hn t v0 v1 v2 wx (RepW.below hb.below n _ _ hx) (hg t ht)).mono fun e w' ⟨a, b⟩ => ⟨a, hb.step b⟩
  have HS : Hid (∀ wx, One w (.int .i64 5) (.int .i64 m) (.slice ad ts.length cap) wx → wx.cell? ⟨w.heap.size, 2, none⟩ = some (.slice ad ts.length cap)) := fun wx h => h.c.2.2
  have HL : Hid (∀ t ∈ ts, km n t < 16384) := fun t ht => km_lt n t (hg t ht)
  have hb0 := One.start w (.int .i64 5) (.int .i64 m) (.slice ad ts.length cap)
  have HK := Lib.hid hr
  clear hn hg hr
  generalize km n = f at HC HL
  go_enter Tryz.func33, Tryz.ntmps33
  go_wp2_with fail
  go_loopw [7, 8] (fun sk si wr => ∃ (j : Nat), sk = .int .u32 (((ts.take j).foldl (fun s x => s &&& f x) 16383 : Nat) : Int) ∧ si = .int .i64 j ∧ j ≤ ts.length ∧ One w (.int .i64 5) (.int .i64 m) (.slice ad ts.length cap) wr) (fun _ si _ => ts.length - (intOf si).toNat)
  case atStart => exact ⟨0, rfl, rfl, Nat.zero_le _, hb0⟩
  case round =>
    obtain ⟨j, rfl, rfl, hj, hb⟩ := hrel
    have k2 := HS.out _ hb
    by_cases hlt : j < ts.length
    · have hne : ts ≠ [] := by intro e; rw [e] at hlt; exact absurd hlt (Nat.not_lt_zero _)
      rcases HK.out with hk | ⟨g, o, hk1, hk2⟩
      · exact absurd hk hne
      subst hk1
      obtain ⟨v0, v1, v2, e0, e1, e2, rk⟩ := hk2 j _ (List.getElem?_eq_getElem hlt)
      have hgl : g < w.heap.size := World.block_lt_of_cell? w _ e0
      have x0 := (hb.below.cell (p := ⟨g, o + j * 3, none⟩) hgl).trans e0
      have x1 := (hb.below.cell (p := ⟨g, o + j * 3 + 1, none⟩) hgl).trans e1
      have x2 := (hb.below.cell (p := ⟨g, o + j * 3 + 2, none⟩) hgl).trans e2
      have hA := fold_and_lt f (ts.take j) 16383 (by decide)
      have hB := HL.out ts[j] (List.getElem_mem hlt)
      have hbits := u32_and_nat _ _ (Nat.lt_trans hA (by decide)) (Nat.lt_trans hB (by decide))
      have HT := Lib.hid (take_fold (fun s x => s &&& f x) 16383 ts j hlt)
      have HC' := Lib.hid (HC.out ts[j] v0 v1 v2 wr (List.getElem_mem hlt) rk hb)
      clear e0 e1 e2 hk2 HK HC HL hA hB rk
      generalize hSS : (ts.take j).foldl (fun s x => s &&& f x) 16383 = SS at hbits HT
      generalize f ts[j] = XX at hbits HT HC'
      rw [hSS] at *
      go_wp2_with fail
      refine HC'.out.mono ?_
      rintro e w1 ⟨rfl, b1⟩
      go_wp2_with fail
      exact ⟨⟨j + 1, congrArg (fun x : Nat => Value.int .u32 (x : Int)) HT.out.symm, by go_num, by omega, b1⟩, by simp [intOf]; omega⟩
    · have hje : j = ts.length := by omega
      have ht : ts.take j = ts := by rw [hje, List.take_length]
      have HT := Lib.hid ht
      clear ht
      go_wp2_with fail
      go_ret
      exact ⟨by rw [← HT.out]; simp [hje], hb.below⟩
set_option maxRecDepth 100000 in
set_option maxHeartbeats 2000000 in
theorem rk6 (n : Nat) (hn : RkN n) (x : Wt n) (m : Int) (ad : Option Addr) (cap : Nat) (w : World)
    (hr : [x] = [] ∨ ∃ g o, ad = some ⟨g, o, none⟩ ∧ ∀ (j : Nat) (t' : Wt n), [x][j]? = some t' → ∃ v0 v1 v2, w.cell? ⟨g, o + j * 3, none⟩ = some v0 ∧ w.cell? ⟨g, o + j * 3 + 1, none⟩ = some v1 ∧ w.cell? ⟨g, o + j * 3 + 2, none⟩ = some v2 ∧ RepW w n [v0, v1, v2] t')
    (hg : wgt n x = true) :
    Calls Tryz.prog 33 #[.agg #[.int .i64 6, .int .i64 m, .slice ad 1 cap]] w fun e w' => e = .returned (.int .u32 ((16383 &&& (4294967295 - km n x) : Nat) : Int)) ∧ Below w.heap.size w w' := by
  rcases hr with hr | ⟨g, o, rfl, hr⟩
  · cases hr
  obtain ⟨v0, v1, v2, e0, e1, e2, rk⟩ := hr 0 x rfl
  have hgl : g < w.heap.size := World.block_lt_of_cell? w _ e0
  have hb0 := One.start w (.int .i64 6) (.int .i64 m) (.slice (some ⟨g, o, none⟩) 1 cap)
  have k2 := hb0.c.2.2
  have x0 := (hb0.below.cell (p := ⟨g, o, none⟩) hgl).trans (by simpa using e0)
  have x1 := (hb0.below.cell (p := ⟨g, o + 1, none⟩) hgl).trans (by simpa using e1)
  have x2 := (hb0.below.cell (p := ⟨g, o + 2, none⟩) hgl).trans (by simpa using e2)
  have HC := Lib.hid (hn x v0 v1 v2 _ (RepW.below hb0.below n _ _ rk) hg)
  have hbits := u32_andNot_nat 16383 (km n x) (by decide) (Nat.lt_trans (km_lt n x hg) (by decide))
  have hbits' : bits .andNot .u32 16383 ((km n x : Nat) : Int) = ((16383 &&& (4294967295 - km n x) : Nat) : Int) := hbits
  clear hn hg hr rk e0 e1 e2 hbits
  generalize 16383 &&& (4294967295 - km n x) = YY at hbits'
  generalize km n x = XX at HC hbits'
  go_enter Tryz.func33, Tryz.ntmps33
  go_wp2_with fail
  refine HC.out.mono ?_
  rintro e w1 ⟨rfl, b1⟩
  go_wp2_with fail
  go_ret
  exact ⟨rfl, hb0.below.trans (b1.mono hb0.below.size)⟩

theorem rk_any : ∀ n, RkN n := by
  intro n
  induction n with
  | zero => exact fun t => t.elim
  | succ n hn =>
    intro t v0 v1 v2 w hr hg
    simp only [wgt, Bool.and_eq_true, List.all_eq_true] at hg
    obtain ⟨ho, hk⟩ := hg
    obtain ⟨ad, cap, e, hcap, hmax, hkids⟩ := hr
    simp only [List.cons.injEq, and_true] at e
    obtain ⟨rfl, rfl, rfl⟩ := e
    unfold Wt.ok at ho
    have hop := okW_op ho
    simp only [km]
    generalize t.nm = m at ho ⊢
    generalize t.op = o at ho hop ⊢
    generalize t.ks = ts at ho hk hcap hkids ⊢
    rcases hop with rfl | rfl | rfl | rfl | rfl | rfl
    · simp only [if_true]
      exact rk1 m ad ts.length cap w
    · have ho' := of_decide_eq_true (show decide (0 ≤ m ∧ m < 14 ∧ ts.length = 0) = true from ho)
      simp only [if_true, if_false, show ¬ (2 : Int) = 1 by decide]
      exact rk2 m ho'.1 (by omega) ad ts.length cap w
    · simp only [if_true, if_false, show ¬ (3 : Int) = 1 by decide, show ¬ (3 : Int) = 2 by decide]
      exact rk3 m ad ts.length cap w
    · simp only [if_true, if_false, show ¬ (4 : Int) = 1 by decide, show ¬ (4 : Int) = 2 by decide, show ¬ (4 : Int) = 3 by decide]
      exact rk4 n hn ts m ad cap w hcap hmax hkids hk
    · simp only [if_true, if_false, show ¬ (5 : Int) = 1 by decide, show ¬ (5 : Int) = 2 by decide, show ¬ (5 : Int) = 3 by decide, show ¬ (5 : Int) = 4 by decide]
      exact rk5 n hn ts m ad cap w hcap hmax hkids hk
    · have ho' : ts.length = 1 := (of_decide_eq_true (show decide (m = 0 ∧ ts.length = 1) = true from ho)).2
      simp only [if_false, show ¬ (6 : Int) = 1 by decide, show ¬ (6 : Int) = 2 by decide, show ¬ (6 : Int) = 3 by decide, show ¬ (6 : Int) = 4 by decide, show ¬ (6 : Int) = 5 by decide]
      match ts, ho' with
      | [x], _ => exact rk6 n hn x m ad cap w hkids (hk x (by simp))

theorem refKinds_any (n : Nat) (t : Wt n) (v0 v1 v2 : Value) (w : World) (hr : RepW w n [v0, v1, v2] t) (hg : wgt n t = true) :
    Calls Tryz.prog 33 #[.agg #[v0, v1, v2]] w fun e w' => e = .returned (.int .u32 ((kset (evk n t) 14 : Nat) : Int)) ∧ Below w.heap.size w w' := by
  rw [← km_kset n t hg]
  exact rk_any n t v0 v1 v2 w hr hg
end Go.Proofs.YtajagjcfmaggiaaGreatDoor
/- The document's Match at a right pattern: whether it holds of the value's kind; the conditions: the pattern's tree lies in memory and is right, the value's kind is one. -/
namespace Go.Proofs.YtajagjcfmaggiaaGreatDoor
open Go.RowKit

/-- A kind's bit. -/
theorem shr_bit (p : Int → Bool) (j : Nat) (hj : j < 14) : bits .and .u32 (((kset p 14 : Nat) : Int) / 2 ^ j) 1 = if p j = true then 1 else 0 := by
  have e : (((kset p 14 : Nat) : Int) / 2 ^ j) = ((kset p 14 / 2 ^ j : Nat) : Int) := by norm_cast
  have hl := kset_lt p 14
  have hl2 : kset p 14 / 2 ^ j ≤ kset p 14 := Nat.div_le_self _ _
  rw [e, show (1 : Int) = ((1 : Nat) : Int) from rfl, u32_and_nat _ _ (by omega) (by decide), Nat.and_one_is_mod, kset_shr p j hj]
  split <;> rfl

set_option maxRecDepth 100000 in
set_option maxHeartbeats 2000000 in
theorem matchR (n : Nat) (t : Wt n) (v0 v1 v2 : Value) (j : Nat) (i b : Int) (s : ByteArray) (ad : Option Addr) (len cap : Nat) (w : World) (hr : RepW w n [v0, v1, v2] t) (hg : wgt n t = true) (hj : j < 14) :
    Calls Tryz.prog 16 #[.agg #[v0, v1, v2], .agg #[.int .i64 j, .int .i64 i, .int .u64 b, .string s, .slice ad len cap]] w fun e w' => e = .returned (.bool (evk n t j)) ∧ Below w.heap.size w w' := by
  obtain ⟨o, m, wd, wl, wc, rfl, rfl, rfl⟩ := repW_shape hr
  have HK : Hid (∀ (wx : World), OneD w (.int .i64 o) (.int .i64 m) (.slice wd wl wc) j i b s ad len cap wx → Calls Tryz.prog 33 #[.agg #[.int .i64 o, .int .i64 m, .slice wd wl wc]] wx fun e w' => e = .returned (.int .u32 ((kset (evk n t) 14 : Nat) : Int)) ∧ OneD w (.int .i64 o) (.int .i64 m) (.slice wd wl wc) j i b s ad len cap w') := fun wx hx => (refKinds_any n t _ _ _ wx (RepW.below hx.below n _ _ hr) hg).mono fun e w' ⟨a, b⟩ => ⟨a, hx.step b⟩
  have HS : Hid (∀ wx, OneD w (.int .i64 o) (.int .i64 m) (.slice wd wl wc) j i b s ad len cap wx → wx.cell? ⟨w.heap.size, 0, none⟩ = some (.int .i64 o) ∧ wx.cell? ⟨w.heap.size, 1, none⟩ = some (.int .i64 m) ∧ wx.cell? ⟨w.heap.size, 2, none⟩ = some (.slice wd wl wc) ∧ wx.cell? ⟨w.heap.size + 1, 0, none⟩ = some (.int .i64 j)) := fun wx h => h.c
  have hb0 := OneD.start w (.int .i64 o) (.int .i64 m) (.slice wd wl wc) j i b s ad len cap
  have hbit := shr_bit (evk n t) j hj
  have j0 : (0 : Int) ≤ (j : Int) := by omega
  have j1 : (j : Int) ≤ 32 := by omega
  clear hr hg
  generalize evk n t j = p at hbit
  generalize kset (evk n t) 14 = X at HK hbit
  cases p
  all_goals
    simp only [if_true, Bool.false_eq_true, if_false] at hbit
    go_enter Tryz.func16, Tryz.ntmps16
    go_wp2_with fail
    go_region_held3 (fun w' => w'.cell? ⟨w.heap.size, 0, none⟩ = some (.int .i64 o) ∧ w'.cell? ⟨w.heap.size, 1, none⟩ = some (.int .i64 m) ∧ w'.cell? ⟨w.heap.size, 2, none⟩ = some (.slice wd wl wc) ∧ w'.cell? ⟨w.heap.size + 1, 0, none⟩ = some (.int .i64 j)) (exact HS.out _ (by first | assumption | exact OneD.drew (by assumption))) (first | (go_at_call 33; refine (HK.out _ (by first | assumption | exact OneD.drew (by assumption))).mono ?_; rintro e wa ⟨rfl, ba⟩))
    all_goals go_wp2
    all_goals go_ret
    all_goals exact ⟨rfl, OneD.below (by first | assumption | exact OneD.drew (by assumption))⟩
end Go.Proofs.YtajagjcfmaggiaaGreatDoor
/- The document's answer to each act over values' trees, told in the same form; the conditions: the trees in memory, valid. -/
namespace Go.Proofs.YtajagjcfmaggiaaGreatDoor
open Go.RowKit

theorem rcopy_rf (W0 : World) (m : Nat) (t : Dt.Tr m) (k i u : Int) (s : ByteArray) (a : Option Addr) (n c : Nat) (hps : (Dt.pts m t).1 ≤ 4096) (hrep : Dt.Rep W0 m [.int .i64 k, .int .i64 i, .int .u64 u, .string s, .slice a n c] t) (w : World) (hb : Below W0.heap.size W0 w) (H : Nat) (hH : H ≤ w.heap.size) :
    Calls Tryz.prog 9 #[.agg #[.int .i64 k, .int .i64 i, .int .u64 u, .string s, .slice a n c]] w fun e w' => ∃ k i u s a n c, e = .returned (.agg #[.int .i64 k, .int .i64 i, .int .u64 u, .string s, .slice a n c]) ∧ Dt.Rf (fun g => H ≤ g ∧ g < w'.heap.size) w' m [.int .i64 k, .int .i64 i, .int .u64 u, .string s, .slice a n c] t ∧ Below w.heap.size w w' :=
  (Dt.copy_any m t _ _ _ _ _ w (Dt.Rep.below hb _ _ _ hrep) hps).mono fun e w' ⟨k, i, u, s, a, n, c, he, rf, hb'⟩ => ⟨k, i, u, s, a, n, c, he, Dt.Rf.to (fun g hg => ⟨⟨by omega, hg.2⟩, rfl⟩) _ _ _ rf, hb'⟩

/-- A pattern of one part. -/
def leafW' (o n : Int) : Wt 1 := ((o, n, []) : Int × Int × List (Wt 0))
theorem leafW'_rep (w : World) (o n : Int) : RepW w 1 [.int .i64 o, .int .i64 n, .slice none 0 0] (leafW' o n) := ⟨none, 0, rfl, Nat.le_refl _, Nat.zero_le _, .inl rfl⟩
theorem match_kind (j : Nat) (hj : j < 14) (i u : Int) (s : ByteArray) (a : Option Addr) (n c : Nat) (num : Int) (h0 : 0 < num) (h1 : num < 14) (w : World) :
    Calls Tryz.prog 16 #[.agg #[.int .i64 2, .int .i64 num, .slice none 0 0], .agg #[.int .i64 (j : Int), .int .i64 i, .int .u64 u, .string s, .slice a n c]] w fun e w' => e = .returned (.bool (tkd num j)) ∧ Below w.heap.size w w' := by
  have := matchR 1 (leafW' 2 num) _ _ _ j i u s a n c w (leafW'_rep w 2 num) (by simp [wgt, leafW', Wt.ok, Wt.op, Wt.nm, Wt.ks, okW]; omega) hj
  have e : evk 1 (leafW' 2 num) j = tkd num j := by
    simp [evk, leafW', Wt.op, Wt.nm, tkd]
    omega
  rw [e] at this; exact this
theorem lackL_cases (k : Int) : ∀ l : List Int, (∀ m ∈ l, 0 ≤ m) → lackL k l = -1 ∨ 0 ≤ lackL k l
  | [], _ => .inl rfl
  | m :: l, h => by
    unfold lackL
    split
    · exact lackL_cases k l fun x hx => h x (List.mem_cons_of_mem _ hx)
    · exact .inr (h m (by simp))
theorem mths_pos (f : Int) : ∀ m ∈ mths f, 0 ≤ m := by
  unfold mths
  repeat' split
  all_goals simp
theorem mths_out (f : Int) (h : f < 0 ∨ 10 ≤ f) : mths f = [] := by
  unfold mths
  repeat rw [if_neg (by omega)]
theorem mths_in (f : Int) (h0 : 0 ≤ f) (h1 : f < 10) : 0 < (mths f).length := by
  unfold mths
  repeat' split
  all_goals first | (exfalso; omega) | simp

theorem Vl.kind {W0 : World} {m : Nat} {t : Dt.Tr (m + 1)} {k i u : Int} {s : ByteArray} {a : Option Addr} {n c : Nat} (h : Vl W0 m t k i u s a n c) : 0 ≤ k ∧ k ≤ 13 := by
  have h1 := h.rg
  simp only [Dt.rgt, Bool.and_eq_true] at h1
  have := kind_in (k := t.kd) h1.1
  rw [h.eq.1] at this
  exact this

theorem rface_any (k i u : Int) (s : ByteArray) (a : Option Addr) (n c : Nat) (f : Int) (hk : 0 ≤ k ∧ k ≤ 13) (hq : impl k f = false) (w : World) :
    Calls Tryz.prog 23 #[.agg #[.int .i64 k, .int .i64 i, .int .u64 u, .string s, .slice a n c], .int .i64 f] w fun e w' => e = .returned (.agg (rErr 110 0 2 (lackM k f))) ∧ Below w.heap.size w w' := by
  by_cases k0 : k = 0
  · have e : lackM k f = -1 := by unfold lackM; rw [if_pos k0]
    rw [e]
    exact rface_nil k i u s a n c f w k0
  have e : lackM k f = lacks k f := by unfold lackM; rw [if_neg k0]
  rw [e]
  have kk : (k == 0) = false := by simpa using k0
  have lk : lacks k f = lackL k (mths f) := by unfold lacks; rw [if_neg (by omega)]
  by_cases f0 : f < 0
  · have : lacks k f = -1 := by rw [lk, mths_out f (.inl f0)]; rfl
    rw [this]
    exact rface_lo k i u s a n c f w kk (by simpa using f0)
  by_cases f1 : 10 ≤ f
  · have : lacks k f = -1 := by rw [lk, mths_out f (.inr f1)]; rfl
    rw [this]
    exact rface_hi k i u s a n c f w kk (by simp; omega) (by simpa using f1)
  · have h1 : lacks k f ≠ -1 := fun h => by
      have h2 := mths_in f (by omega) (by omega)
      simp [impl, h] at hq
      have := hq (by omega) (by omega)
      rw [this] at h2
      simp at h2
    have h2 : 0 ≤ lacks k f := by
      rcases lackL_cases k (mths f) (mths_pos f) with h | h
      · exact absurd (lk.trans h) h1
      · rw [lk]; exact h
    exact rface_no k i u s a n c f w kk (by simp; omega) (by simp; omega) _ rfl (by simpa using h2)
theorem rface_ok (W0 : World) (m : Nat) (t : Dt.Tr (m + 1)) (k i u : Int) (s : ByteArray) (a : Option Addr) (n c : Nat) (h : Vl W0 m t k i u s a n c) (f : Int) (hq : impl k f = true) (w : World) (hb : Below W0.heap.size W0 w) (H : Nat) (hH : w.heap.size + 2 = H) :
    Calls Tryz.prog 23 #[.agg #[.int .i64 k, .int .i64 i, .int .u64 u, .string s, .slice a n c], .int .i64 f] w fun e w' => ∃ k i u s a n c, e = .returned (.agg (rcs 0 0 0 0 true k i u s a n c)) ∧ Dt.Rf (fun g => H ≤ g ∧ g < w'.heap.size) w' (m + 1) [.int .i64 k, .int .i64 i, .int .u64 u, .string s, .slice a n c] t ∧ Below w.heap.size w w' := by
  simp only [impl, Bool.and_eq_true, decide_eq_true_eq, beq_iff_eq] at hq
  obtain ⟨⟨⟨k0, k1⟩, l0⟩, l1⟩ := hq
  have f0 : ¬ (f < 0 ∨ 10 ≤ f) := fun hf => by rw [mths_out f hf] at l0; simp at l0
  exact rface_yes k i u s a n c f w H (by omega) _ (st_rf H (m + 1) t) (by simp; omega) (by simp; omega) (by simp; omega) l1 fun wy hy zy => rcopy_rf W0 (m + 1) t k i u s a n c h.ps h.rep wy (hb.trans (hy.mono hb.size)) _ (by omega)

end Go.Proofs.YtajagjcfmaggiaaGreatDoor
/- An act over two_acts values: the program's try and the document's answer are one; the conditions: the values valid, their bits within 64. -/
namespace Go.Proofs.YtajagjcfmaggiaaGreatDoor
open Go.RowKit

theorem impl3 (k : Int) (h : 0 ≤ k ∧ k ≤ 13) (h1 : k ≠ 11) (h2 : k ≠ 12) : impl k 3 = false := by
  have : k = 0 ∨ k = 1 ∨ k = 2 ∨ k = 3 ∨ k = 4 ∨ k = 5 ∨ k = 6 ∨ k = 7 ∨ k = 8 ∨ k = 9 ∨ k = 10 ∨ k = 13 := by omega
  rcases this with rfl | rfl | rfl | rfl | rfl | rfl | rfl | rfl | rfl | rfl | rfl | rfl <;> decide

set_option maxRecDepth 100000 in
set_option maxHeartbeats 1000000 in
theorem rsame_any (er pk pn : Int) (has : Bool) (k i u : Int) (s : ByteArray) (a : Option Addr) (n c : Nat) (k' i' u' : Int) (s' : ByteArray) (a' : Option Addr) (n' c' : Nat) (w : World)
    (hS : ∀ wx, Below w.heap.size w wx → Calls Tryz.prog 13 #[.agg #[.int .i64 k, .int .i64 i, .int .u64 u, .string s, .slice a n c], .agg #[.int .i64 k', .int .i64 i', .int .u64 u', .string s', .slice a' n' c']] wx fun e w' => e = .returned (.bool true) ∧ Below wx.heap.size wx w') :
    Calls Tryz.prog 11 #[.agg (rcs er 0 pk pn has k i u s a n c), .agg (rcs er 0 pk pn has k' i' u' s' a' n' c')] w fun e w' => e = .returned (.bool true) ∧ Below w.heap.size w w' := by
  have HS := Lib.hid hS
  clear hS
  have B0 := below2 w (.cells (rcs er 0 pk pn has k i u s a n c) 33) (.cells (rcs er 0 pk pn has k' i' u' s' a' n' c') 33)
  go_enter Tryz.func11, Tryz.ntmps11
  go_wp2_with fail
  refine (HS.out _ B0).mono ?_
  rintro e w1 ⟨rfl, b1⟩
  have B1 := B0.trans (b1.mono B0.size)
  go_wp2
  go_ret
  exact ⟨rfl, B1⟩

end Go.Proofs.YtajagjcfmaggiaaGreatDoor
/- The package's maps that lay something together: told, around, nothing, key, list, pair; the conditions: the value in memory, valid, the package's table as it is laid. -/
namespace Go.Proofs.YtajagjcfmaggiaaGreatDoor
open Go.RowKit

/-- The tree t lies in w behind the five cells cs, its parts in blocks of which F tells. -/
def Rz (F : Nat → Prop) (w : World) : (n : Nat) → List Value → Dt.Tr n → Prop
  | 0, _, _ => False
  | n + 1, cs, t => ∃ (ad : Option Addr) (cap : Nat), cs = [.int .i64 t.kd, .int .i64 t.it, .int .u64 t.ut, .string t.tx, .slice ad t.ks.length cap] ∧ t.tx.size ≤ maxLen ∧ t.ks.length ≤ cap ∧ cap ≤ maxLen ∧
      (t.ks = [] ∨ ∃ g o, ad = some ⟨g, o, none⟩ ∧ F g ∧ ∀ (j : Nat) (t' : Dt.Tr n), t.ks[j]? = some t' → ∃ v0 v1 v2 v3 v4, w.cell? ⟨g, o + j * 5, none⟩ = some v0 ∧ w.cell? ⟨g, o + j * 5 + 1, none⟩ = some v1 ∧ w.cell? ⟨g, o + j * 5 + 2, none⟩ = some v2 ∧ w.cell? ⟨g, o + j * 5 + 3, none⟩ = some v3 ∧ w.cell? ⟨g, o + j * 5 + 4, none⟩ = some v4 ∧ Rz F w n [v0, v1, v2, v3, v4] t')
theorem Rz.rep {F : Nat → Prop} {w : World} : ∀ (n : Nat) (cs : List Value) (t : Dt.Tr n), Rz F w n cs t → Dt.Rep w n cs t
  | 0, _, _, h => h
  | n + 1, cs, t, h => by
    obtain ⟨ad, cap, h1, h2, h3, h4, h5⟩ := h
    refine ⟨ad, cap, h1, h2, h3, h4, ?_⟩
    rcases h5 with h5 | ⟨g, o, h6, -, h7⟩
    · exact .inl h5
    · refine .inr ⟨g, o, h6, fun j t' hj => ?_⟩
      obtain ⟨v0, v1, v2, v3, v4, c0, c1, c2, c3, c4, r⟩ := h7 j t' hj
      exact ⟨v0, v1, v2, v3, v4, c0, c1, c2, c3, c4, Rz.rep n _ _ r⟩
theorem Rz.of_rep {w : World} : ∀ (n : Nat) (cs : List Value) (t : Dt.Tr n), Dt.Rep w n cs t → Rz (fun g => g < w.heap.size) w n cs t
  | 0, _, _, h => h
  | n + 1, cs, t, h => by
    obtain ⟨ad, cap, h1, h2, h3, h4, h5⟩ := h
    refine ⟨ad, cap, h1, h2, h3, h4, ?_⟩
    by_cases h0 : t.ks = []
    · exact .inl h0
    rcases h5 with h5 | ⟨g, o, h6, h7⟩
    · exact absurd h5 h0
    · have hp : 0 < t.ks.length := List.length_pos_iff.2 h0
      obtain ⟨_, _, _, _, _, c0, _⟩ := h7 0 _ (List.getElem?_eq_getElem hp)
      refine .inr ⟨g, o, h6, World.block_lt_of_cell? w _ c0, fun j t' hj => ?_⟩
      obtain ⟨v0, v1, v2, v3, v4, c0, c1, c2, c3, c4, r⟩ := h7 j t' hj
      exact ⟨v0, v1, v2, v3, v4, c0, c1, c2, c3, c4, Rz.of_rep n _ _ r⟩
theorem Rz.of_rf {F : Nat → Prop} {w : World} : ∀ (n : Nat) (cs : List Value) (t : Dt.Tr n), Dt.Rf F w n cs t → Rz F w n cs t
  | 0, _, _, h => h
  | n + 1, cs, t, h => by
    obtain ⟨ad, cap, h1, h2, h3, h4, h5⟩ := h
    refine ⟨ad, cap, h1, h2, h3, h4, ?_⟩
    rcases h5 with h5 | ⟨g, o, h6, hg, h7⟩
    · exact .inl h5
    · refine .inr ⟨g, o, h6, hg.1, fun j t' hj => ?_⟩
      obtain ⟨v0, v1, v2, v3, v4, c0, c1, c2, c3, c4, r⟩ := h7 j t' hj
      exact ⟨v0, v1, v2, v3, v4, c0, c1, c2, c3, c4, Rz.of_rf n _ _ r⟩
theorem Rz.to {F F' : Nat → Prop} {w w' : World} (hF : ∀ g, F g → F' g ∧ w'.heap[g]? = w.heap[g]?) : ∀ (n : Nat) (cs : List Value) (t : Dt.Tr n), Rz F w n cs t → Rz F' w' n cs t
  | 0, _, _, h => h
  | n + 1, cs, t, h => by
    obtain ⟨ad, cap, h1, h2, h3, h4, h5⟩ := h
    refine ⟨ad, cap, h1, h2, h3, h4, ?_⟩
    rcases h5 with h5 | ⟨g, o, h6, hg, h7⟩
    · exact .inl h5
    · obtain ⟨hg', hh⟩ := hF g hg
      refine .inr ⟨g, o, h6, hg', fun j t' hj => ?_⟩
      obtain ⟨v0, v1, v2, v3, v4, c0, c1, c2, c3, c4, r⟩ := h7 j t' hj
      exact ⟨v0, v1, v2, v3, v4, (Dt.cell_heap hh).trans c0, (Dt.cell_heap hh).trans c1, (Dt.cell_heap hh).trans c2, (Dt.cell_heap hh).trans c3, (Dt.cell_heap hh).trans c4, Rz.to hF n _ _ r⟩

/-- A result in memory, its body's parts where D tells, or new. -/
def GR (D : Nat → Prop) (r : Rs) (w : World) (e : Ending) (w' : World) : Prop := ∃ k i u s a n c, e = .returned (.agg (rcs r.er 0 r.pk r.pn r.has k i u s a n c)) ∧ Rz (fun g => D g ∨ (w.heap.size ≤ g ∧ g < w'.heap.size)) w' r.n [.int .i64 k, .int .i64 i, .int .u64 u, .string s, .slice a n c] r.t ∧ Below w.heap.size w w'
theorem gr_bad {D : Nat → Prop} {er pk pn : Int} {w : World} {e : Ending} {w' : World} (h : e = .returned (.agg (rErr er 0 pk pn)) ∧ Below w.heap.size w w') : GR D (bad er pk pn) w e w' := ⟨0, 0, 0, ⟨#[]⟩, none, 0, 0, h.1, ⟨none, 0, rfl, Nat.zero_le _, Nat.zero_le _, Nat.zero_le _, .inl rfl⟩, h.2⟩
/-- What a key's Name gives, from here on. -/
def NameOk (L : Lb) (w : World) : Prop := ∀ i, Dt.I64 i → ∀ w', Below w.heap.size w w' → Calls Tryz.prog 211 #[.int .i64 i] w' fun e w'' => e = .returned (.string (L.1 i)) ∧ Below w'.heap.size w' w''
theorem NameOk.below {L : Lb} {w w' : World} (h : NameOk L w) (hb : Below w.heap.size w w') : NameOk L w' := fun i hi w2 h2 => h i hi w2 (hb.trans (h2.mono hb.size))
theorem nameOk_key {w : World} (h : Dt.P10 w) : NameOk keyL w := fun i hi w' hb => Dt.nameKey i hi w' (h.below hb)
theorem rz_of_cells {F : Nat → Prop} {w' : World} {m : Nat} {t : Dt.Tr m} (k i u : Int) (s : ByteArray) (a : Option Addr) (n c : Nat) (hr : Rz F w' m [.int .i64 k, .int .i64 i, .int .u64 u, .string s, .slice a n c] t) {N : Nat} (hF : F N) (hN : Bk w' N #[.int .i64 k, .int .i64 i, .int .u64 u, .string s, .slice a n c] 25) : Rz F w' (m + 1) [.int .i64 8, .int .i64 0, .int .u64 0, .string ⟨#[]⟩, .slice (some ⟨N, 0, none⟩) 1 1] (lsT t) := by
  obtain ⟨c0, c1, c2, c3, c4⟩ := hN.c5
  refine ⟨some ⟨N, 0, none⟩, 1, rfl, Nat.zero_le _, Nat.le_refl _, by unfold maxLen; omega, .inr ⟨N, 0, rfl, hF, fun j t' hj => ?_⟩⟩
  cases j with
  | zero =>
    obtain rfl : t = t' := by simpa [lsT, nd, Dt.Tr.ks] using hj
    exact ⟨_, _, _, _, _, c0, c1, c2, c3, c4, hr⟩
  | succ j => simp [lsT, nd, Dt.Tr.ks] at hj
def CS10 (tp : ByteArray) (k i u : Int) (s : ByteArray) (a : Option Addr) (n c : Nat) : Array Value := #[.int .i64 4, .int .i64 0, .int .u64 0, .string tp, .slice none 0 0, .int .i64 k, .int .i64 i, .int .u64 u, .string s, .slice a n c]
theorem rz_of_pair {F : Nat → Prop} {w' : World} {m : Nat} {t : Dt.Tr (m + 1)} (tp : ByteArray) (htp : tp.size ≤ maxLen) (k i u : Int) (s : ByteArray) (a : Option Addr) (n c : Nat) (hr : Rz F w' (m + 1) [.int .i64 k, .int .i64 i, .int .u64 u, .string s, .slice a n c] t) {N : Nat} (hF : F N) (hN : Bk w' N (CS10 tp k i u s a n c) 25) : Rz F w' (m + 1 + 1) [.int .i64 9, .int .i64 0, .int .u64 0, .string ⟨#[]⟩, .slice (some ⟨N, 0, none⟩) 2 2] (prT tp t) := by
  obtain ⟨c0, c1, c2, c3, c4, c5, c6, c7, c8, c9⟩ := Bk.c10 hN
  refine ⟨some ⟨N, 0, none⟩, 2, rfl, Nat.zero_le _, Nat.le_refl _, by unfold maxLen; omega, .inr ⟨N, 0, rfl, hF, fun j t' hj => ?_⟩⟩
  match j, hj with
  | 0, hj =>
    obtain rfl : txT m tp = t' := by simpa [prT, nd, Dt.Tr.ks] using hj
    exact ⟨_, _, _, _, _, c0, c1, c2, c3, c4, none, 0, rfl, htp, Nat.le_refl _, Nat.zero_le _, .inl rfl⟩
  | 1, hj =>
    obtain rfl : t = t' := by simpa [prT, nd, Dt.Tr.ks] using hj
    exact ⟨_, _, _, _, _, c5, c6, c7, c8, c9, hr⟩
  | j + 2, hj => simp [prT, nd, Dt.Tr.ks] at hj

set_option maxRecDepth 100000 in
set_option maxHeartbeats 1000000 in
theorem told_ok (k i u : Int) (s : ByteArray) (a : Option Addr) (n c : Nat) (w : World) : Calls Tryz.prog 34 #[.agg #[.int .i64 k, .int .i64 i, .int .u64 u, .string s, .slice a n c], .int .i64 0] w fun e w' => e = .returned (.agg (rcs 0 0 0 0 true k i u s a n c)) ∧ Below w.heap.size w w' := by
  go_enter Tryz.func34, Tryz.ntmps34
  go_wp2
  exact bodyPost_ret (v := .agg (rcs 0 0 0 0 true k i u s a n c)) (by simp [results, Tryz.results34, go_sem]) rfl ⟨rfl, below2 w _ _⟩

set_option maxRecDepth 100000 in
set_option maxHeartbeats 1000000 in
theorem told_12 (k i u : Int) (s : ByteArray) (a : Option Addr) (n c : Nat) (w : World) : Calls Tryz.prog 34 #[.agg #[.int .i64 k, .int .i64 i, .int .u64 u, .string s, .slice a n c], .int .i64 12] w fun e w' => e = .returned (.agg (rErr 12 0 0 0)) ∧ Below w.heap.size w w' := by
  go_enter Tryz.func34, Tryz.ntmps34
  go_wp2
  exact bodyPost_ret (v := .agg (rErr 12 0 0 0)) (by simp [results, Tryz.results34, go_sem]) rfl ⟨rfl, below2 w _ _⟩

set_option maxRecDepth 100000 in
set_option maxHeartbeats 1000000 in
theorem told_14 (k i u : Int) (s : ByteArray) (a : Option Addr) (n c : Nat) (w : World) : Calls Tryz.prog 34 #[.agg #[.int .i64 k, .int .i64 i, .int .u64 u, .string s, .slice a n c], .int .i64 14] w fun e w' => e = .returned (.agg (rErr 14 0 0 0)) ∧ Below w.heap.size w w' := by
  go_enter Tryz.func34, Tryz.ntmps34
  go_wp2
  exact bodyPost_ret (v := .agg (rErr 14 0 0 0)) (by simp [results, Tryz.results34, go_sem]) rfl ⟨rfl, below2 w _ _⟩

set_option maxRecDepth 100000 in
set_option maxHeartbeats 1000000 in
theorem around_yes (k i u : Int) (s : ByteArray) (a : Option Addr) (n c : Nat) {m : Nat} (t : Dt.Tr m) (w : World) (hr : Dt.Rep w m [.int .i64 k, .int .i64 i, .int .u64 u, .string s, .slice a n c] t) (hT : Dt.Tab14 w) (hv : Dt.vB m t = true) : Calls Tryz.prog 81 #[.agg #[.int .i64 k, .int .i64 i, .int .u64 u, .string s, .slice a n c]] w fun e w' => e = .returned (.agg (rcs 0 0 0 0 true k i u s a n c)) ∧ Below w.heap.size w w' := by
  have B0 := below2 w (.cells #[.int .i64 k, .int .i64 i, .int .u64 u, .string s, .slice a n c] 25) (.cells (rErr 0 0 0 0) 33)
  have D0 : Bk ((w.alloc (.cells #[.int .i64 k, .int .i64 i, .int .u64 u, .string s, .slice a n c] 25)).alloc (.cells (rErr 0 0 0 0) 33)) w.heap.size #[.int .i64 k, .int .i64 i, .int .u64 u, .string s, .slice a n c] 25 := (Bk.new w _ _).alloc _
  have R0 := Bk.new2 w (.cells #[.int .i64 k, .int .i64 i, .int .u64 u, .string s, .slice a n c] 25) (rErr 0 0 0 0) 33
  go_enter Tryz.func81, Tryz.ntmps81
  have HV := Lib.hid (Dt.ownValid m t _ _ _ _ _ _ (Dt.Rep.below B0 _ _ _ hr) (hT.below B0))
  rw [hv] at HV
  clear hr hT hv
  go_wp2_with fail
  refine HV.out.mono ?_
  rintro e w1 ⟨rfl, b1⟩
  have D1 := D0.step b1
  have RX := R0.step b1
  have BX := B0.trans (b1.mono B0.size)
  clear b1 B0 R0 D0 HV
  obtain ⟨d0, d1, d2, d3, d4⟩ := D1.c5
  go_wp2_with fail
  clear D1 d0 d1 d2 d3 d4
  refine (told_ok k i u s a n c _).mono ?_
  rintro e w2 ⟨rfl, b2⟩
  have r2 := RX.step b2
  have B2 := BX.trans (b2.mono BX.size)
  obtain ⟨c0, c1, c2, c3, c4, c5, c6, c7, c8, c9⟩ := r2.c10
  have z2 := r2.f
  go_wp2_with fail
  obtain ⟨k1, k2, k3, k4⟩ := set10 r2 (.int .i64 0) (.int .i64 0) (.int .i64 0) (.int .i64 0) (.bool true) (.int .i64 k) (.int .i64 i) (.int .u64 u) (.string s) (.slice a n c) rfl
  have KF := B2.trans (k4.mono (by omega))
  obtain ⟨q0, q1, q2, q3, q4, q5, q6, q7, q8, q9⟩ := k1.c10
  refine bodyPost_ret (v := .agg (rcs 0 0 0 0 true k i u s a n c)) ?_ rfl ⟨rfl, KF⟩
  simp [results, Tryz.results81, go_sem, q0, q1, q2, q3, q4, q5, q6, q7, q8, q9]

set_option maxRecDepth 100000 in
set_option maxHeartbeats 1000000 in
theorem around_no (k i u : Int) (s : ByteArray) (a : Option Addr) (n c : Nat) {m : Nat} (t : Dt.Tr m) (w : World) (hr : Dt.Rep w m [.int .i64 k, .int .i64 i, .int .u64 u, .string s, .slice a n c] t) (hT : Dt.Tab14 w) (hv : Dt.vB m t = false) : Calls Tryz.prog 81 #[.agg #[.int .i64 k, .int .i64 i, .int .u64 u, .string s, .slice a n c]] w fun e w' => e = .returned (.agg (rcs 14 0 0 0 false 0 0 0 ⟨#[]⟩ none 0 0)) ∧ Below w.heap.size w w' := by
  have B0 := below2 w (.cells #[.int .i64 k, .int .i64 i, .int .u64 u, .string s, .slice a n c] 25) (.cells (rErr 0 0 0 0) 33)
  have D0 : Bk ((w.alloc (.cells #[.int .i64 k, .int .i64 i, .int .u64 u, .string s, .slice a n c] 25)).alloc (.cells (rErr 0 0 0 0) 33)) w.heap.size #[.int .i64 k, .int .i64 i, .int .u64 u, .string s, .slice a n c] 25 := (Bk.new w _ _).alloc _
  have R0 := Bk.new2 w (.cells #[.int .i64 k, .int .i64 i, .int .u64 u, .string s, .slice a n c] 25) (rErr 0 0 0 0) 33
  go_enter Tryz.func81, Tryz.ntmps81
  have HV := Lib.hid (Dt.ownValid m t _ _ _ _ _ _ (Dt.Rep.below B0 _ _ _ hr) (hT.below B0))
  rw [hv] at HV
  clear hr hT hv
  go_wp2_with fail
  refine HV.out.mono ?_
  rintro e w1 ⟨rfl, b1⟩
  have D1 := D0.step b1
  have RX := R0.step b1
  have BX := B0.trans (b1.mono B0.size)
  clear b1 B0 R0 D0 HV
  obtain ⟨d0, d1, d2, d3, d4⟩ := D1.c5
  go_wp2_with fail
  clear D1 d0 d1 d2 d3 d4
  refine (told_14 k i u s a n c _).mono ?_
  rintro e w2 ⟨rfl, b2⟩
  have r2 := RX.step b2
  have B2 := BX.trans (b2.mono BX.size)
  obtain ⟨c0, c1, c2, c3, c4, c5, c6, c7, c8, c9⟩ := r2.c10
  have z2 := r2.f
  go_wp2_with fail
  obtain ⟨k1, k2, k3, k4⟩ := set10 r2 (.int .i64 14) (.int .i64 0) (.int .i64 0) (.int .i64 0) (.bool false) (.int .i64 0) (.int .i64 0) (.int .u64 0) (.string ⟨#[]⟩) (.slice none 0 0) rfl
  have KF := B2.trans (k4.mono (by omega))
  obtain ⟨q0, q1, q2, q3, q4, q5, q6, q7, q8, q9⟩ := k1.c10
  refine bodyPost_ret (v := .agg (rcs 14 0 0 0 false 0 0 0 ⟨#[]⟩ none 0 0)) ?_ rfl ⟨rfl, KF⟩
  simp [results, Tryz.results81, go_sem, q0, q1, q2, q3, q4, q5, q6, q7, q8, q9]

set_option maxRecDepth 100000 in
set_option maxHeartbeats 1000000 in
theorem nothing_any (tp : ByteArray) (k i u : Int) (s : ByteArray) (a : Option Addr) (n c : Nat) (w : World) : Calls Tryz.prog 49 #[.string tp, .agg #[.int .i64 k, .int .i64 i, .int .u64 u, .string s, .slice a n c]] w fun e w' => e = .returned (.agg (rErr 12 0 0 0)) ∧ Below w.heap.size w w' := by
  have B0 := below2 w (.cells #[.int .i64 k, .int .i64 i, .int .u64 u, .string s, .slice a n c] 25) (.cells (rErr 0 0 0 0) 33)
  have D0 : Bk ((w.alloc (.cells #[.int .i64 k, .int .i64 i, .int .u64 u, .string s, .slice a n c] 25)).alloc (.cells (rErr 0 0 0 0) 33)) w.heap.size #[.int .i64 k, .int .i64 i, .int .u64 u, .string s, .slice a n c] 25 := (Bk.new w _ _).alloc _
  have R0 := Bk.new2 w (.cells #[.int .i64 k, .int .i64 i, .int .u64 u, .string s, .slice a n c] 25) (rErr 0 0 0 0) 33
  go_enter Tryz.func49, Tryz.ntmps49
  go_wp2_with fail
  refine (told_12 0 0 0 ⟨#[]⟩ none 0 0 _).mono ?_
  rintro e w2 ⟨rfl, b2⟩
  have r2 := R0.step b2
  have B2 := B0.trans (b2.mono B0.size)
  obtain ⟨c0, c1, c2, c3, c4, c5, c6, c7, c8, c9⟩ := r2.c10
  have z2 := r2.f
  go_wp2_with fail
  obtain ⟨k1, k2, k3, k4⟩ := set10 r2 (.int .i64 12) (.int .i64 0) (.int .i64 0) (.int .i64 0) (.bool false) (.int .i64 0) (.int .i64 0) (.int .u64 0) (.string ⟨#[]⟩) (.slice none 0 0) rfl
  have KF := B2.trans (k4.mono (by omega))
  obtain ⟨q0, q1, q2, q3, q4, q5, q6, q7, q8, q9⟩ := k1.c10
  refine bodyPost_ret (v := .agg (rcs 12 0 0 0 false 0 0 0 ⟨#[]⟩ none 0 0)) ?_ rfl ⟨rfl, KF⟩
  simp [results, Tryz.results49, go_sem, q0, q1, q2, q3, q4, q5, q6, q7, q8, q9]

set_option maxRecDepth 100000 in
set_option maxHeartbeats 1000000 in
theorem keyKind_any (k : Int) (w : World) : Calls Tryz.prog 83 #[.int .i64 k] w fun e w' => e = .returned (.int .i64 (kyK k)) ∧ w' = w := by
  by_cases h1 : k = 1
  · subst h1
    go_enter Tryz.func83, Tryz.ntmps83
    go_wp2
    go_ret
    exact ⟨rfl, rfl⟩
  by_cases h4 : k = 4
  · subst h4
    go_enter Tryz.func83, Tryz.ntmps83
    go_wp2
    go_ret
    exact ⟨rfl, rfl⟩
  · have e : kyK k = k := by simp [kyK, h1, h4]
    rw [e]
    have g1 : (k == 1) = false := by simpa using h1
    have g4 : (k == 4) = false := by simpa using h4
    go_enter Tryz.func83, Tryz.ntmps83
    go_wp2
    go_ret
    exact ⟨rfl, rfl⟩

end Go.Proofs.YtajagjcfmaggiaaGreatDoor
/- The package's maps key, list, pair; the conditions: the value in memory, valid, the package's table as it is laid. -/
namespace Go.Proofs.YtajagjcfmaggiaaGreatDoor
open Go.RowKit

theorem rz_below {D : Nat → Prop} {w w' : World} (hD : ∀ g, D g → g < w.heap.size) (hb : Below w.heap.size w w') {n : Nat} {cs : List Value} {t : Dt.Tr n} (h : Rz D w n cs t) : Rz (fun g => D g ∨ (w.heap.size ≤ g ∧ g < w'.heap.size)) w' n cs t := Rz.to (fun g hg => ⟨.inl hg, hb.block g (hD g hg)⟩) _ _ _ h
theorem rz_like {F : Nat → Prop} {w : World} {m : Nat} {t : Dt.Tr (m + 1)} {k i u : Int} {s : ByteArray} {a : Option Addr} {n c : Nat} (h : Rz F w (m + 1) [.int .i64 k, .int .i64 i, .int .u64 u, .string s, .slice a n c] t) (k' i' : Int) : Rz F w (m + 1) [.int .i64 k', .int .i64 i', .int .u64 u, .string s, .slice a n c] (nd k' i' t.ut t.tx t.ks) := by
  obtain ⟨ad, cap, e, h1, h2, h3, h4⟩ := h
  simp only [List.cons.injEq, Value.int.injEq, Value.string.injEq, Value.slice.injEq, true_and, and_true] at e
  obtain ⟨-, -, rfl, rfl, rfl, rfl, rfl⟩ := e
  exact ⟨a, c, rfl, h1, h2, h3, h4⟩
theorem rz_kd {F : Nat → Prop} {w : World} {m : Nat} {t : Dt.Tr (m + 1)} {k i u : Int} {s : ByteArray} {a : Option Addr} {n c : Nat} (h : Rz F w (m + 1) [.int .i64 k, .int .i64 i, .int .u64 u, .string s, .slice a n c] t) : k = t.kd ∧ i = t.it ∧ u = t.ut ∧ s = t.tx ∧ n = t.ks.length ∧ s.size ≤ maxLen ∧ c ≤ maxLen := by
  obtain ⟨ad, cap, e, h1, h2, h3, h4⟩ := h
  simp only [List.cons.injEq, Value.int.injEq, Value.string.injEq, Value.slice.injEq, true_and, and_true] at e
  obtain ⟨rfl, rfl, rfl, rfl, rfl, rfl, rfl⟩ := e
  exact ⟨rfl, rfl, rfl, rfl, rfl, h1, h3⟩

set_option maxRecDepth 100000 in
set_option maxHeartbeats 1000000 in
theorem key_any (tp : ByteArray) (k i u : Int) (s : ByteArray) (a : Option Addr) (n c : Nat) {m : Nat} (t : Dt.Tr (m + 1)) (w : World) (D : Nat → Prop) (hD : ∀ g, D g → g < w.heap.size) (hr : Rz D w (m + 1) [.int .i64 k, .int .i64 i, .int .u64 u, .string s, .slice a n c] t) : Calls Tryz.prog 65 #[.string tp, .agg #[.int .i64 k, .int .i64 i, .int .u64 u, .string s, .slice a n c]] w (GR D (good (kyT t)) w) := by
  have HK := Lib.hid (keyKind_any k)
  have HR := Lib.hid hr
  have HD := Lib.hid hD
  clear hr hD
  have B0 := below2 w (.cells #[.int .i64 (kyK k), .int .i64 i, .int .u64 u, .string s, .slice a n c] 25) (.cells (rErr 0 0 0 0) 33)
  have R0 := Bk.new2 w (.cells #[.int .i64 (kyK k), .int .i64 i, .int .u64 u, .string s, .slice a n c] 25) (rErr 0 0 0 0) 33
  go_enter Tryz.func65, Tryz.ntmps65
  go_wp2_with fail
  refine (HK.out _).mono ?_
  rintro e w1 ⟨rfl, hw⟩
  subst hw
  go_wp2_with fail
  refine (told_ok (kyK k) i u s a n c _).mono ?_
  rintro e w2 ⟨rfl, b2⟩
  have r2 := R0.step b2
  have B2 := B0.trans (b2.mono B0.size)
  obtain ⟨c0, c1, c2, c3, c4, c5, c6, c7, c8, c9⟩ := r2.c10
  have z2 := r2.f
  go_wp2_with fail
  obtain ⟨k1, k2, k3, k4⟩ := set10 r2 (.int .i64 0) (.int .i64 0) (.int .i64 0) (.int .i64 0) (.bool true) (.int .i64 (kyK k)) (.int .i64 i) (.int .u64 u) (.string s) (.slice a n c) rfl
  have KF := B2.trans (k4.mono (by omega))
  obtain ⟨q0, q1, q2, q3, q4, q5, q6, q7, q8, q9⟩ := k1.c10
  refine bodyPost_ret (v := .agg (rcs 0 0 0 0 true (kyK k) i u s a n c)) ?_ rfl ⟨kyK k, i, u, s, a, n, c, rfl, ?hz, KF⟩
  case hz =>
    have e := rz_kd HR.out
    have hk : kyT t = nd (kyK k) i t.ut t.tx t.ks := by unfold kyT; rw [← e.1, ← e.2.1]
    show Rz _ _ (m + 1) _ (kyT t)
    rw [hk]
    exact rz_like (rz_below HD.out KF HR.out) (kyK k) i
  simp [results, Tryz.results65, go_sem, q0, q1, q2, q3, q4, q5, q6, q7, q8, q9]

set_option maxRecDepth 100000 in
set_option maxHeartbeats 1000000 in
theorem list_yes (tp : ByteArray) (k i u : Int) (s : ByteArray) (a : Option Addr) (n c : Nat) {m : Nat} (t : Dt.Tr (m + 1)) (w : World) (D : Nat → Prop) (hD : ∀ g, D g → g < w.heap.size) (hr : Rz D w (m + 1) [.int .i64 k, .int .i64 i, .int .u64 u, .string s, .slice a n c] t) (hT : Dt.Tab14 w) (hv : Dt.vB _ (lsT t) = true) : Calls Tryz.prog 53 #[.string tp, .agg #[.int .i64 k, .int .i64 i, .int .u64 u, .string s, .slice a n c]] w (GR D (good (lsT t)) w) := by
  have HR := Lib.hid hr
  have HD := Lib.hid hD
  have B1 : Below w.heap.size w (((w.alloc (.cells #[.int .i64 k, .int .i64 i, .int .u64 u, .string s, .slice a n c] 25)).alloc (.cells (rErr 0 0 0 0) 33)).alloc (.cells #[.int .i64 k, .int .i64 i, .int .u64 u, .string s, .slice a n c] 25)) := (below2 w _ _).trans ((below1 _ _).mono (by simp; omega))
  have R1 : Bk (((w.alloc (.cells #[.int .i64 k, .int .i64 i, .int .u64 u, .string s, .slice a n c] 25)).alloc (.cells (rErr 0 0 0 0) 33)).alloc (.cells #[.int .i64 k, .int .i64 i, .int .u64 u, .string s, .slice a n c] 25)) (w.heap.size + 1) (rErr 0 0 0 0) 33 := (Bk.new2 w _ _ _).alloc _
  have N1 : Bk (((w.alloc (.cells #[.int .i64 k, .int .i64 i, .int .u64 u, .string s, .slice a n c] 25)).alloc (.cells (rErr 0 0 0 0) 33)).alloc (.cells #[.int .i64 k, .int .i64 i, .int .u64 u, .string s, .slice a n c] 25)) (w.heap.size + 1 + 1) #[.int .i64 k, .int .i64 i, .int .u64 u, .string s, .slice a n c] 25 := by
    have := Bk.new ((w.alloc (.cells #[.int .i64 k, .int .i64 i, .int .u64 u, .string s, .slice a n c] 25)).alloc (.cells (rErr 0 0 0 0) 33)) #[.int .i64 k, .int .i64 i, .int .u64 u, .string s, .slice a n c] 25
    rwa [World.size_alloc, World.size_alloc] at this
  have HA := Lib.hid (around_yes 8 0 0 ⟨#[]⟩ (some ⟨w.heap.size + 1 + 1, 0, none⟩) 1 1 (lsT t) _ (Rz.rep _ _ _ (rz_of_cells k i u s a n c (rz_below hD B1 hr) (.inr ⟨by omega, N1.lt⟩) N1)) (hT.below B1) hv)
  clear hr hD hT hv
  go_enter Tryz.func53, Tryz.ntmps53
  go_wp2_with fail
  refine HA.out.mono ?_
  rintro e w2 ⟨rfl, b2⟩
  have r2 := R1.step b2
  have B2 := B1.trans (b2.mono B1.size)
  obtain ⟨c0, c1, c2, c3, c4, c5, c6, c7, c8, c9⟩ := r2.c10
  have z2 := r2.f
  go_wp2_with fail
  obtain ⟨k1, k2, k3, k4⟩ := set10 r2 (.int .i64 0) (.int .i64 0) (.int .i64 0) (.int .i64 0) (.bool true) (.int .i64 8) (.int .i64 0) (.int .u64 0) (.string ⟨#[]⟩) (.slice (some ⟨w.heap.size + 1 + 1, 0, none⟩) 1 1) rfl
  have KF := B2.trans (k4.mono (by omega))
  obtain ⟨q0, q1, q2, q3, q4, q5, q6, q7, q8, q9⟩ := k1.c10
  refine bodyPost_ret (v := .agg (rcs 0 0 0 0 true 8 0 0 ⟨#[]⟩ (some ⟨w.heap.size + 1 + 1, 0, none⟩) 1 1)) ?_ rfl ⟨8, 0, 0, ⟨#[]⟩, some ⟨w.heap.size + 1 + 1, 0, none⟩, 1, 1, rfl, ?hz, KF⟩
  case hz =>
    have N2 : Bk _ (w.heap.size + 1 + 1) #[.int .i64 k, .int .i64 i, .int .u64 u, .string s, .slice a n c] 25 := (k3 (w.heap.size + 1 + 1) (by omega)).trans (N1.step b2)
    exact rz_of_cells k i u s a n c (rz_below HD.out KF HR.out) (.inr ⟨by omega, N2.lt⟩) N2
  simp [results, Tryz.results53, go_sem, q0, q1, q2, q3, q4, q5, q6, q7, q8, q9]

set_option maxRecDepth 100000 in
set_option maxHeartbeats 1000000 in
theorem list_no (tp : ByteArray) (k i u : Int) (s : ByteArray) (a : Option Addr) (n c : Nat) {m : Nat} (t : Dt.Tr (m + 1)) (w : World) (D : Nat → Prop) (hD : ∀ g, D g → g < w.heap.size) (hr : Rz D w (m + 1) [.int .i64 k, .int .i64 i, .int .u64 u, .string s, .slice a n c] t) (hT : Dt.Tab14 w) (hv : Dt.vB _ (lsT t) = false) : Calls Tryz.prog 53 #[.string tp, .agg #[.int .i64 k, .int .i64 i, .int .u64 u, .string s, .slice a n c]] w (GR D (bad 14 0 0) w) := by
  have HR := Lib.hid hr
  have HD := Lib.hid hD
  have B1 : Below w.heap.size w (((w.alloc (.cells #[.int .i64 k, .int .i64 i, .int .u64 u, .string s, .slice a n c] 25)).alloc (.cells (rErr 0 0 0 0) 33)).alloc (.cells #[.int .i64 k, .int .i64 i, .int .u64 u, .string s, .slice a n c] 25)) := (below2 w _ _).trans ((below1 _ _).mono (by simp; omega))
  have R1 : Bk (((w.alloc (.cells #[.int .i64 k, .int .i64 i, .int .u64 u, .string s, .slice a n c] 25)).alloc (.cells (rErr 0 0 0 0) 33)).alloc (.cells #[.int .i64 k, .int .i64 i, .int .u64 u, .string s, .slice a n c] 25)) (w.heap.size + 1) (rErr 0 0 0 0) 33 := (Bk.new2 w _ _ _).alloc _
  have N1 : Bk (((w.alloc (.cells #[.int .i64 k, .int .i64 i, .int .u64 u, .string s, .slice a n c] 25)).alloc (.cells (rErr 0 0 0 0) 33)).alloc (.cells #[.int .i64 k, .int .i64 i, .int .u64 u, .string s, .slice a n c] 25)) (w.heap.size + 1 + 1) #[.int .i64 k, .int .i64 i, .int .u64 u, .string s, .slice a n c] 25 := by
    have := Bk.new ((w.alloc (.cells #[.int .i64 k, .int .i64 i, .int .u64 u, .string s, .slice a n c] 25)).alloc (.cells (rErr 0 0 0 0) 33)) #[.int .i64 k, .int .i64 i, .int .u64 u, .string s, .slice a n c] 25
    rwa [World.size_alloc, World.size_alloc] at this
  have HA := Lib.hid (around_no 8 0 0 ⟨#[]⟩ (some ⟨w.heap.size + 1 + 1, 0, none⟩) 1 1 (lsT t) _ (Rz.rep _ _ _ (rz_of_cells k i u s a n c (rz_below hD B1 hr) (.inr ⟨by omega, N1.lt⟩) N1)) (hT.below B1) hv)
  clear hr hD hT hv
  go_enter Tryz.func53, Tryz.ntmps53
  go_wp2_with fail
  refine HA.out.mono ?_
  rintro e w2 ⟨rfl, b2⟩
  have r2 := R1.step b2
  have B2 := B1.trans (b2.mono B1.size)
  obtain ⟨c0, c1, c2, c3, c4, c5, c6, c7, c8, c9⟩ := r2.c10
  have z2 := r2.f
  go_wp2_with fail
  obtain ⟨k1, k2, k3, k4⟩ := set10 r2 (.int .i64 14) (.int .i64 0) (.int .i64 0) (.int .i64 0) (.bool false) (.int .i64 0) (.int .i64 0) (.int .u64 0) (.string ⟨#[]⟩) (.slice none 0 0) rfl
  have KF := B2.trans (k4.mono (by omega))
  obtain ⟨q0, q1, q2, q3, q4, q5, q6, q7, q8, q9⟩ := k1.c10
  refine bodyPost_ret (v := .agg (rcs 14 0 0 0 false 0 0 0 ⟨#[]⟩ none 0 0)) ?_ rfl (gr_bad ⟨rfl, KF⟩)
  simp [results, Tryz.results53, go_sem, q0, q1, q2, q3, q4, q5, q6, q7, q8, q9]

set_option maxRecDepth 100000 in
set_option maxHeartbeats 1000000 in
theorem pair_yes (tp : ByteArray) (htp : tp.size ≤ maxLen) (k i u : Int) (s : ByteArray) (a : Option Addr) (n c : Nat) {m : Nat} (t : Dt.Tr (m + 1)) (w : World) (D : Nat → Prop) (hD : ∀ g, D g → g < w.heap.size) (hr : Rz D w (m + 1) [.int .i64 k, .int .i64 i, .int .u64 u, .string s, .slice a n c] t) (hT : Dt.Tab14 w) (hv : Dt.vB _ (prT tp t) = true) : Calls Tryz.prog 63 #[.string tp, .agg #[.int .i64 k, .int .i64 i, .int .u64 u, .string s, .slice a n c]] w (GR D (good (prT tp t)) w) := by
  have HR := Lib.hid hr
  have HD := Lib.hid hD
  have B1 : Below w.heap.size w (((w.alloc (.cells #[.int .i64 k, .int .i64 i, .int .u64 u, .string s, .slice a n c] 25)).alloc (.cells (rErr 0 0 0 0) 33)).alloc (.cells (CS10 tp k i u s a n c) 25)) := (below2 w _ _).trans ((below1 _ _).mono (by simp; omega))
  have R1 : Bk (((w.alloc (.cells #[.int .i64 k, .int .i64 i, .int .u64 u, .string s, .slice a n c] 25)).alloc (.cells (rErr 0 0 0 0) 33)).alloc (.cells (CS10 tp k i u s a n c) 25)) (w.heap.size + 1) (rErr 0 0 0 0) 33 := (Bk.new2 w _ _ _).alloc _
  have N1 : Bk (((w.alloc (.cells #[.int .i64 k, .int .i64 i, .int .u64 u, .string s, .slice a n c] 25)).alloc (.cells (rErr 0 0 0 0) 33)).alloc (.cells (CS10 tp k i u s a n c) 25)) (w.heap.size + 1 + 1) (CS10 tp k i u s a n c) 25 := by
    have := Bk.new ((w.alloc (.cells #[.int .i64 k, .int .i64 i, .int .u64 u, .string s, .slice a n c] 25)).alloc (.cells (rErr 0 0 0 0) 33)) (CS10 tp k i u s a n c) 25
    rwa [World.size_alloc, World.size_alloc] at this
  have HA := Lib.hid (around_yes 9 0 0 ⟨#[]⟩ (some ⟨w.heap.size + 1 + 1, 0, none⟩) 2 2 (prT tp t) _ (Rz.rep _ _ _ (rz_of_pair tp htp k i u s a n c (rz_below hD B1 hr) (.inr ⟨by omega, N1.lt⟩) N1)) (hT.below B1) hv)
  clear hr hD hT hv
  go_enter Tryz.func63, Tryz.ntmps63
  go_wp2_with fail
  refine HA.out.mono ?_
  rintro e w2 ⟨rfl, b2⟩
  have r2 := R1.step b2
  have B2 := B1.trans (b2.mono B1.size)
  obtain ⟨c0, c1, c2, c3, c4, c5, c6, c7, c8, c9⟩ := r2.c10
  have z2 := r2.f
  go_wp2_with fail
  obtain ⟨k1, k2, k3, k4⟩ := set10 r2 (.int .i64 0) (.int .i64 0) (.int .i64 0) (.int .i64 0) (.bool true) (.int .i64 9) (.int .i64 0) (.int .u64 0) (.string ⟨#[]⟩) (.slice (some ⟨w.heap.size + 1 + 1, 0, none⟩) 2 2) rfl
  have KF := B2.trans (k4.mono (by omega))
  obtain ⟨q0, q1, q2, q3, q4, q5, q6, q7, q8, q9⟩ := k1.c10
  refine bodyPost_ret (v := .agg (rcs 0 0 0 0 true 9 0 0 ⟨#[]⟩ (some ⟨w.heap.size + 1 + 1, 0, none⟩) 2 2)) ?_ rfl ⟨9, 0, 0, ⟨#[]⟩, some ⟨w.heap.size + 1 + 1, 0, none⟩, 2, 2, rfl, ?hz, KF⟩
  case hz =>
    have N2 : Bk _ (w.heap.size + 1 + 1) (CS10 tp k i u s a n c) 25 := (k3 (w.heap.size + 1 + 1) (by omega)).trans (N1.step b2)
    exact rz_of_pair tp htp k i u s a n c (rz_below HD.out KF HR.out) (.inr ⟨by omega, N2.lt⟩) N2
  simp [results, Tryz.results63, go_sem, q0, q1, q2, q3, q4, q5, q6, q7, q8, q9]

set_option maxRecDepth 100000 in
set_option maxHeartbeats 1000000 in
theorem pair_no (tp : ByteArray) (htp : tp.size ≤ maxLen) (k i u : Int) (s : ByteArray) (a : Option Addr) (n c : Nat) {m : Nat} (t : Dt.Tr (m + 1)) (w : World) (D : Nat → Prop) (hD : ∀ g, D g → g < w.heap.size) (hr : Rz D w (m + 1) [.int .i64 k, .int .i64 i, .int .u64 u, .string s, .slice a n c] t) (hT : Dt.Tab14 w) (hv : Dt.vB _ (prT tp t) = false) : Calls Tryz.prog 63 #[.string tp, .agg #[.int .i64 k, .int .i64 i, .int .u64 u, .string s, .slice a n c]] w (GR D (bad 14 0 0) w) := by
  have HR := Lib.hid hr
  have HD := Lib.hid hD
  have B1 : Below w.heap.size w (((w.alloc (.cells #[.int .i64 k, .int .i64 i, .int .u64 u, .string s, .slice a n c] 25)).alloc (.cells (rErr 0 0 0 0) 33)).alloc (.cells (CS10 tp k i u s a n c) 25)) := (below2 w _ _).trans ((below1 _ _).mono (by simp; omega))
  have R1 : Bk (((w.alloc (.cells #[.int .i64 k, .int .i64 i, .int .u64 u, .string s, .slice a n c] 25)).alloc (.cells (rErr 0 0 0 0) 33)).alloc (.cells (CS10 tp k i u s a n c) 25)) (w.heap.size + 1) (rErr 0 0 0 0) 33 := (Bk.new2 w _ _ _).alloc _
  have N1 : Bk (((w.alloc (.cells #[.int .i64 k, .int .i64 i, .int .u64 u, .string s, .slice a n c] 25)).alloc (.cells (rErr 0 0 0 0) 33)).alloc (.cells (CS10 tp k i u s a n c) 25)) (w.heap.size + 1 + 1) (CS10 tp k i u s a n c) 25 := by
    have := Bk.new ((w.alloc (.cells #[.int .i64 k, .int .i64 i, .int .u64 u, .string s, .slice a n c] 25)).alloc (.cells (rErr 0 0 0 0) 33)) (CS10 tp k i u s a n c) 25
    rwa [World.size_alloc, World.size_alloc] at this
  have HA := Lib.hid (around_no 9 0 0 ⟨#[]⟩ (some ⟨w.heap.size + 1 + 1, 0, none⟩) 2 2 (prT tp t) _ (Rz.rep _ _ _ (rz_of_pair tp htp k i u s a n c (rz_below hD B1 hr) (.inr ⟨by omega, N1.lt⟩) N1)) (hT.below B1) hv)
  clear hr hD hT hv
  go_enter Tryz.func63, Tryz.ntmps63
  go_wp2_with fail
  refine HA.out.mono ?_
  rintro e w2 ⟨rfl, b2⟩
  have r2 := R1.step b2
  have B2 := B1.trans (b2.mono B1.size)
  obtain ⟨c0, c1, c2, c3, c4, c5, c6, c7, c8, c9⟩ := r2.c10
  have z2 := r2.f
  go_wp2_with fail
  obtain ⟨k1, k2, k3, k4⟩ := set10 r2 (.int .i64 14) (.int .i64 0) (.int .i64 0) (.int .i64 0) (.bool false) (.int .i64 0) (.int .i64 0) (.int .u64 0) (.string ⟨#[]⟩) (.slice none 0 0) rfl
  have KF := B2.trans (k4.mono (by omega))
  obtain ⟨q0, q1, q2, q3, q4, q5, q6, q7, q8, q9⟩ := k1.c10
  refine bodyPost_ret (v := .agg (rcs 14 0 0 0 false 0 0 0 ⟨#[]⟩ none 0 0)) ?_ rfl (gr_bad ⟨rfl, KF⟩)
  simp [results, Tryz.results63, go_sem, q0, q1, q2, q3, q4, q5, q6, q7, q8, q9]

end Go.Proofs.YtajagjcfmaggiaaGreatDoor
