/- The document's Kinds of a right pattern: the kinds of which it holds, as bits; the conditions: the pattern's tree lies in memory and is right. -/
import Derived.Test.YthamafijjflfbaaGreatJbj
import Derived.Test.YthamafijjflfbaaGreatJae
import Derived.Test.YthamafijjflfbaaGreatJbi
namespace Go.Proofs.YthamafijjflfbaaGreat
open Go.RowKit

theorem km_lt (n : Nat) (t : Wt n) (h : wgt n t = true) : km n t < 16384 := by rw [km_kset n t h]; exact kset_lt _ 14

set_option maxRecDepth 100000 in
theorem typed_any (k : Int) (h0 : 0 ≤ k) (h1 : k ≤ 13) (w : World) : Calls Tryz.prog 51 #[.int .i64 k] w fun e w' => e = .returned (.int .u32 (((if k = 11 then 6144 else 2 ^ k.toNat : Nat)) : Int)) ∧ w' = w := by
  have : k = 0 ∨ k = 1 ∨ k = 2 ∨ k = 3 ∨ k = 4 ∨ k = 5 ∨ k = 6 ∨ k = 7 ∨ k = 8 ∨ k = 9 ∨ k = 10 ∨ k = 11 ∨ k = 12 ∨ k = 13 := by omega
  rcases this with rfl | rfl | rfl | rfl | rfl | rfl | rfl | rfl | rfl | rfl | rfl | rfl | rfl | rfl
  all_goals
    go_enter Tryz.func51, Tryz.ntmps51
    go_wp2
    go_ret
    exact ⟨rfl, rfl⟩

/-- What the document's Kinds is to answer of patterns of depth n. -/
def RkN (n : Nat) : Prop := ∀ (t : Wt n) (v0 v1 v2 : Value) (w : World), RepW w n [v0, v1, v2] t → wgt n t = true →
    Calls Tryz.prog 35 #[.agg #[v0, v1, v2]] w fun e w' => e = .returned (.int .u32 ((km n t : Nat) : Int)) ∧ Below w.heap.size w w'

set_option maxRecDepth 100000 in
set_option maxHeartbeats 1000000 in
theorem rk1 (m : Int) (ad : Option Addr) (len cap : Nat) (w : World) : Calls Tryz.prog 35 #[.agg #[.int .i64 1, .int .i64 m, .slice ad len cap]] w fun e w' => e = .returned (.int .u32 16382) ∧ Below w.heap.size w w' := by
  go_enter Tryz.func35, Tryz.ntmps35
  go_wp2
  go_ret
  exact ⟨rfl, below1 w _⟩

set_option maxRecDepth 100000 in
set_option maxHeartbeats 1000000 in
theorem rk2 (m : Int) (h0 : 0 ≤ m) (h1 : m ≤ 13) (ad : Option Addr) (len cap : Nat) (w : World) : Calls Tryz.prog 35 #[.agg #[.int .i64 2, .int .i64 m, .slice ad len cap]] w fun e w' => e = .returned (.int .u32 (((if m = 11 then 6144 else 2 ^ m.toNat : Nat)) : Int)) ∧ Below w.heap.size w w' := by
  have H := Lib.hid (typed_any m h0 h1)
  generalize (if m = 11 then 6144 else 2 ^ m.toNat : Nat) = X at H
  go_enter Tryz.func35, Tryz.ntmps35
  go_wp2_with fail
  refine (H.out _).mono ?_
  rintro e w1 ⟨rfl, rfl⟩
  go_wp2
  go_ret
  exact ⟨rfl, below1 w _⟩

set_option maxRecDepth 100000 in
set_option maxHeartbeats 2000000 in
theorem rk3 (m : Int) (ad : Option Addr) (len cap : Nat) (w : World) : Calls Tryz.prog 35 #[.agg #[.int .i64 3, .int .i64 m, .slice ad len cap]] w fun e w' => e = .returned (.int .u32 ((kset (fun k => impl k m) 14 : Nat) : Int)) ∧ Below w.heap.size w w' := by
  have HI : Hid (∀ (j : Nat) wx, One w (.int .i64 3) (.int .i64 m) (.slice ad len cap) wx → Calls Tryz.prog 52 #[.int .i64 j, .int .i64 m] wx fun e w' => e = .returned (.bool (impl j m)) ∧ One w (.int .i64 3) (.int .i64 m) (.slice ad len cap) w') := fun j wx hx => (refImpl_any j m wx).mono fun e w' ⟨a, b⟩ => ⟨a, hx.step b⟩
  have HS : Hid (∀ wx, One w (.int .i64 3) (.int .i64 m) (.slice ad len cap) wx → wx.cell? ⟨w.heap.size, 1, none⟩ = some (.int .i64 m)) := fun wx h => h.c.2.1
  have hb0 := One.start w (.int .i64 3) (.int .i64 m) (.slice ad len cap)
  generalize hp : (fun k => impl k m) = p
  have HP : Hid (∀ j : Nat, impl j m = p j) := fun j => by rw [← hp]
  clear hp
  go_enter Tryz.func35, Tryz.ntmps35
  go_wp2_with fail
  go_loopw [3, 4] (fun sk si wr => ∃ (j : Nat), sk = .int .u32 ((kset p j : Nat) : Int) ∧ si = .int .i64 j ∧ j ≤ 14 ∧ One w (.int .i64 3) (.int .i64 m) (.slice ad len cap) wr) (fun _ si _ => 14 - (intOf si).toNat)
  case atStart => exact ⟨0, rfl, rfl, by omega, hb0⟩
  case round =>
    obtain ⟨j, rfl, rfl, hj, hb⟩ := hrel
    by_cases hlt : j < 14
    · have i0 : (0 : Int) ≤ ↑j := by omega
      have i1 : (↑j : Int) ≤ 32 := by omega
      have i2 : (↑j : Int) < 14 := by omega
      have c1 := HS.out _ hb
      go_wp2_with fail
      refine (HI.out j _ hb).mono ?_
      rintro e w1 ⟨he, b1⟩
      obtain ⟨bb, hbb⟩ : ∃ bb : Bool, p j = bb := ⟨_, rfl⟩
      rw [HP.out, hbb] at he
      subst he
      cases bb
      all_goals go_wp2_with fail
      all_goals first
        | exact ⟨⟨j + 1, congrArg (Value.int .u32) (or_at p j hlt hbb), by go_num, by omega, b1⟩, by simp [intOf]; omega⟩
        | exact ⟨⟨j + 1, congrArg (fun x : Nat => Value.int .u32 (x : Int)) (kset_no p j hbb), by go_num, by omega, b1⟩, by simp [intOf]; omega⟩
    · obtain rfl : j = 14 := by omega
      have i2 : ¬ (((14 : Nat) : Int) < 14) := by omega
      go_wp2_with fail
      go_ret
      exact ⟨rfl, hb.below⟩

theorem fold_or_lt {T : Type} (f : T → Nat) : ∀ (l : List T) (a : Nat), a < 16384 → (∀ x ∈ l, f x < 16384) → l.foldl (fun s x => s ||| f x) a < 16384
  | [], _, h, _ => h
  | x :: l, a, h, hl => fold_or_lt f l (a ||| f x) (Nat.or_lt_two_pow (n := 14) h (hl x (by simp))) fun y hy => hl y (by simp [hy])
theorem fold_and_lt {T : Type} (f : T → Nat) : ∀ (l : List T) (a : Nat), a < 16384 → l.foldl (fun s x => s &&& f x) a < 16384
  | [], _, h => h
  | x :: l, a, h => fold_and_lt f l (a &&& f x) (Nat.lt_of_le_of_lt Nat.and_le_left h)
theorem take_fold {T A : Type} (g : A → T → A) (a : A) (l : List T) (j : Nat) (h : j < l.length) : (l.take (j + 1)).foldl g a = g ((l.take j).foldl g a) l[j] := by
  rw [List.take_succ_eq_append_getElem h, List.foldl_append]; rfl

set_option maxRecDepth 100000 in
set_option maxHeartbeats 2000000 in
theorem rk4 (n : Nat) (hn : RkN n) (ts : List (Wt n)) (m : Int) (ad : Option Addr) (cap : Nat) (w : World) (hcap : ts.length ≤ cap) (hmax : cap ≤ maxLen)
    (hr : ts = [] ∨ ∃ g o, ad = some ⟨g, o, none⟩ ∧ ∀ (j : Nat) (t' : Wt n), ts[j]? = some t' → ∃ v0 v1 v2, w.cell? ⟨g, o + j * 3, none⟩ = some v0 ∧ w.cell? ⟨g, o + j * 3 + 1, none⟩ = some v1 ∧ w.cell? ⟨g, o + j * 3 + 2, none⟩ = some v2 ∧ RepW w n [v0, v1, v2] t')
    (hg : ∀ t ∈ ts, wgt n t = true) :
    Calls Tryz.prog 35 #[.agg #[.int .i64 4, .int .i64 m, .slice ad ts.length cap]] w fun e w' => e = .returned (.int .u32 ((ts.foldl (fun s x => s ||| km n x) 0 : Nat) : Int)) ∧ Below w.heap.size w w' := by
  unfold maxLen at hmax
  have HC : Hid (∀ (t : Wt n) (v0 v1 v2 : Value) (wx : World), t ∈ ts → RepW w n [v0, v1, v2] t → One w (.int .i64 4) (.int .i64 m) (.slice ad ts.length cap) wx → Calls Tryz.prog 35 #[.agg #[v0, v1, v2]] wx fun e w' => e = .returned (.int .u32 ((km n t : Nat) : Int)) ∧ One w (.int .i64 4) (.int .i64 m) (.slice ad ts.length cap) w') := fun t v0 v1 v2 wx ht hx hb => (hn t v0 v1 v2 wx (RepW.below hb.below n _ _ hx) (hg t ht)).mono fun e w' ⟨a, b⟩ => ⟨a, hb.step b⟩
  have HS : Hid (∀ wx, One w (.int .i64 4) (.int .i64 m) (.slice ad ts.length cap) wx → wx.cell? ⟨w.heap.size, 2, none⟩ = some (.slice ad ts.length cap)) := fun wx h => h.c.2.2
  have HL : Hid (∀ t ∈ ts, km n t < 16384) := fun t ht => km_lt n t (hg t ht)
  have hb0 := One.start w (.int .i64 4) (.int .i64 m) (.slice ad ts.length cap)
  have HK := Lib.hid hr
  clear hn hg hr
  generalize km n = f at HC HL
  go_enter Tryz.func35, Tryz.ntmps35
  go_wp2_with fail
  go_loopw [5, 6] (fun sk si wr => ∃ (j : Nat), sk = .int .u32 (((ts.take j).foldl (fun s x => s ||| f x) 0 : Nat) : Int) ∧ si = .int .i64 j ∧ j ≤ ts.length ∧ One w (.int .i64 4) (.int .i64 m) (.slice ad ts.length cap) wr) (fun _ si _ => ts.length - (intOf si).toNat)
  case atStart => exact ⟨0, rfl, rfl, Nat.zero_le _, hb0⟩
  case round =>
    obtain ⟨j, rfl, rfl, hj, hb⟩ := hrel
    have k2 := HS.out _ hb
    by_cases hlt : j < ts.length
    · have hne : ts ≠ [] := by intro e; rw [e] at hlt; exact absurd hlt (Nat.not_lt_zero _)
      rcases HK.out with hk | ⟨g, o, hk1, hk2⟩
      · exact absurd hk hne
      subst hk1
      obtain ⟨v0, v1, v2, e0, e1, e2, rk⟩ := hk2 j _ (List.getElem?_eq_getElem hlt)
      have hgl : g < w.heap.size := World.block_lt_of_cell? w _ e0
      have x0 := (hb.below.cell (p := ⟨g, o + j * 3, none⟩) hgl).trans e0
      have x1 := (hb.below.cell (p := ⟨g, o + j * 3 + 1, none⟩) hgl).trans e1
      have x2 := (hb.below.cell (p := ⟨g, o + j * 3 + 2, none⟩) hgl).trans e2
      have hA := fold_or_lt f (ts.take j) 0 (by decide) fun x hx => HL.out x (List.mem_of_mem_take hx)
      have hB := HL.out ts[j] (List.getElem_mem hlt)
      have hbits := u32_or_nat _ _ (Nat.lt_trans hA (by decide)) (Nat.lt_trans hB (by decide))
      have HT := Lib.hid (take_fold (fun s x => s ||| f x) 0 ts j hlt)
      have HC' := Lib.hid (HC.out ts[j] v0 v1 v2 wr (List.getElem_mem hlt) rk hb)
      clear e0 e1 e2 hk2 HK HC HL hA hB rk
      generalize hSS : (ts.take j).foldl (fun s x => s ||| f x) 0 = SS at hbits HT
      generalize f ts[j] = XX at hbits HT HC'
      rw [hSS] at *
      go_wp2_with fail
      refine HC'.out.mono ?_
      rintro e w1 ⟨rfl, b1⟩
      go_wp2_with fail
      exact ⟨⟨j + 1, congrArg (fun x : Nat => Value.int .u32 (x : Int)) HT.out.symm, by go_num, by omega, b1⟩, by simp [intOf]; omega⟩
    · have hje : j = ts.length := by omega
      have ht : ts.take j = ts := by rw [hje, List.take_length]
      have HT := Lib.hid ht
      clear ht
      go_wp2_with fail
      go_ret
      exact ⟨by rw [← HT.out]; simp [hje], hb.below⟩
set_option maxRecDepth 100000 in
set_option maxHeartbeats 2000000 in
theorem rk5 (n : Nat) (hn : RkN n) (ts : List (Wt n)) (m : Int) (ad : Option Addr) (cap : Nat) (w : World) (hcap : ts.length ≤ cap) (hmax : cap ≤ maxLen)
    (hr : ts = [] ∨ ∃ g o, ad = some ⟨g, o, none⟩ ∧ ∀ (j : Nat) (t' : Wt n), ts[j]? = some t' → ∃ v0 v1 v2, w.cell? ⟨g, o + j * 3, none⟩ = some v0 ∧ w.cell? ⟨g, o + j * 3 + 1, none⟩ = some v1 ∧ w.cell? ⟨g, o + j * 3 + 2, none⟩ = some v2 ∧ RepW w n [v0, v1, v2] t')
    (hg : ∀ t ∈ ts, wgt n t = true) :
    Calls Tryz.prog 35 #[.agg #[.int .i64 5, .int .i64 m, .slice ad ts.length cap]] w fun e w' => e = .returned (.int .u32 ((ts.foldl (fun s x => s &&& km n x) 16383 : Nat) : Int)) ∧ Below w.heap.size w w' := by
  unfold maxLen at hmax
  have HC : Hid (∀ (t : Wt n) (v0 v1 v2 : Value) (wx : World), t ∈ ts → RepW w n [v0, v1, v2] t → One w (.int .i64 5) (.int .i64 m) (.slice ad ts.length cap) wx → Calls Tryz.prog 35 #[.agg #[v0, v1, v2]] wx fun e w' => e = .returned (.int .u32 ((km n t : Nat) : Int)) ∧ One w (.int .i64 5) (.int .i64 m) (.slice ad ts.length cap) w') := fun t v0 v1 v2 wx ht hx hb => (hn t v0 v1 v2 wx (RepW.below hb.below n _ _ hx) (hg t ht)).mono fun e w' ⟨a, b⟩ => ⟨a, hb.step b⟩
  have HS : Hid (∀ wx, One w (.int .i64 5) (.int .i64 m) (.slice ad ts.length cap) wx → wx.cell? ⟨w.heap.size, 2, none⟩ = some (.slice ad ts.length cap)) := fun wx h => h.c.2.2
  have HL : Hid (∀ t ∈ ts, km n t < 16384) := fun t ht => km_lt n t (hg t ht)
  have hb0 := One.start w (.int .i64 5) (.int .i64 m) (.slice ad ts.length cap)
  have HK := Lib.hid hr
  clear hn hg hr
  generalize km n = f at HC HL
  go_enter Tryz.func35, Tryz.ntmps35
  go_wp2_with fail
  go_loopw [7, 8] (fun sk si wr => ∃ (j : Nat), sk = .int .u32 (((ts.take j).foldl (fun s x => s &&& f x) 16383 : Nat) : Int) ∧ si = .int .i64 j ∧ j ≤ ts.length ∧ One w (.int .i64 5) (.int .i64 m) (.slice ad ts.length cap) wr) (fun _ si _ => ts.length - (intOf si).toNat)
  case atStart => exact ⟨0, rfl, rfl, Nat.zero_le _, hb0⟩
  case round =>
    obtain ⟨j, rfl, rfl, hj, hb⟩ := hrel
    have k2 := HS.out _ hb
    by_cases hlt : j < ts.length
    · have hne : ts ≠ [] := by intro e; rw [e] at hlt; exact absurd hlt (Nat.not_lt_zero _)
      rcases HK.out with hk | ⟨g, o, hk1, hk2⟩
      · exact absurd hk hne
      subst hk1
      obtain ⟨v0, v1, v2, e0, e1, e2, rk⟩ := hk2 j _ (List.getElem?_eq_getElem hlt)
      have hgl : g < w.heap.size := World.block_lt_of_cell? w _ e0
      have x0 := (hb.below.cell (p := ⟨g, o + j * 3, none⟩) hgl).trans e0
      have x1 := (hb.below.cell (p := ⟨g, o + j * 3 + 1, none⟩) hgl).trans e1
      have x2 := (hb.below.cell (p := ⟨g, o + j * 3 + 2, none⟩) hgl).trans e2
      have hA := fold_and_lt f (ts.take j) 16383 (by decide)
      have hB := HL.out ts[j] (List.getElem_mem hlt)
      have hbits := u32_and_nat _ _ (Nat.lt_trans hA (by decide)) (Nat.lt_trans hB (by decide))
      have HT := Lib.hid (take_fold (fun s x => s &&& f x) 16383 ts j hlt)
      have HC' := Lib.hid (HC.out ts[j] v0 v1 v2 wr (List.getElem_mem hlt) rk hb)
      clear e0 e1 e2 hk2 HK HC HL hA hB rk
      generalize hSS : (ts.take j).foldl (fun s x => s &&& f x) 16383 = SS at hbits HT
      generalize f ts[j] = XX at hbits HT HC'
      rw [hSS] at *
      go_wp2_with fail
      refine HC'.out.mono ?_
      rintro e w1 ⟨rfl, b1⟩
      go_wp2_with fail
      exact ⟨⟨j + 1, congrArg (fun x : Nat => Value.int .u32 (x : Int)) HT.out.symm, by go_num, by omega, b1⟩, by simp [intOf]; omega⟩
    · have hje : j = ts.length := by omega
      have ht : ts.take j = ts := by rw [hje, List.take_length]
      have HT := Lib.hid ht
      clear ht
      go_wp2_with fail
      go_ret
      exact ⟨by rw [← HT.out]; simp [hje], hb.below⟩
set_option maxRecDepth 100000 in
set_option maxHeartbeats 2000000 in
theorem rk6 (n : Nat) (hn : RkN n) (x : Wt n) (m : Int) (ad : Option Addr) (cap : Nat) (w : World)
    (hr : [x] = [] ∨ ∃ g o, ad = some ⟨g, o, none⟩ ∧ ∀ (j : Nat) (t' : Wt n), [x][j]? = some t' → ∃ v0 v1 v2, w.cell? ⟨g, o + j * 3, none⟩ = some v0 ∧ w.cell? ⟨g, o + j * 3 + 1, none⟩ = some v1 ∧ w.cell? ⟨g, o + j * 3 + 2, none⟩ = some v2 ∧ RepW w n [v0, v1, v2] t')
    (hg : wgt n x = true) :
    Calls Tryz.prog 35 #[.agg #[.int .i64 6, .int .i64 m, .slice ad 1 cap]] w fun e w' => e = .returned (.int .u32 ((16383 &&& (4294967295 - km n x) : Nat) : Int)) ∧ Below w.heap.size w w' := by
  rcases hr with hr | ⟨g, o, rfl, hr⟩
  · cases hr
  obtain ⟨v0, v1, v2, e0, e1, e2, rk⟩ := hr 0 x rfl
  have hgl : g < w.heap.size := World.block_lt_of_cell? w _ e0
  have hb0 := One.start w (.int .i64 6) (.int .i64 m) (.slice (some ⟨g, o, none⟩) 1 cap)
  have k2 := hb0.c.2.2
  have x0 := (hb0.below.cell (p := ⟨g, o, none⟩) hgl).trans (by simpa using e0)
  have x1 := (hb0.below.cell (p := ⟨g, o + 1, none⟩) hgl).trans (by simpa using e1)
  have x2 := (hb0.below.cell (p := ⟨g, o + 2, none⟩) hgl).trans (by simpa using e2)
  have HC := Lib.hid (hn x v0 v1 v2 _ (RepW.below hb0.below n _ _ rk) hg)
  have hbits := u32_andNot_nat 16383 (km n x) (by decide) (Nat.lt_trans (km_lt n x hg) (by decide))
  have hbits' : bits .andNot .u32 16383 ((km n x : Nat) : Int) = ((16383 &&& (4294967295 - km n x) : Nat) : Int) := hbits
  clear hn hg hr rk e0 e1 e2 hbits
  generalize 16383 &&& (4294967295 - km n x) = YY at hbits'
  generalize km n x = XX at HC hbits'
  go_enter Tryz.func35, Tryz.ntmps35
  go_wp2_with fail
  refine HC.out.mono ?_
  rintro e w1 ⟨rfl, b1⟩
  go_wp2_with fail
  go_ret
  exact ⟨rfl, hb0.below.trans (b1.mono hb0.below.size)⟩

theorem rk_any : ∀ n, RkN n := by
  intro n
  induction n with
  | zero => exact fun t => t.elim
  | succ n hn =>
    intro t v0 v1 v2 w hr hg
    simp only [wgt, Bool.and_eq_true, List.all_eq_true] at hg
    obtain ⟨ho, hk⟩ := hg
    obtain ⟨ad, cap, e, hcap, hmax, hkids⟩ := hr
    simp only [List.cons.injEq, and_true] at e
    obtain ⟨rfl, rfl, rfl⟩ := e
    unfold Wt.ok at ho
    have hop := okW_op ho
    simp only [km]
    generalize t.nm = m at ho ⊢
    generalize t.op = o at ho hop ⊢
    generalize t.ks = ts at ho hk hcap hkids ⊢
    rcases hop with rfl | rfl | rfl | rfl | rfl | rfl
    · simp only [if_true]
      exact rk1 m ad ts.length cap w
    · have ho' := of_decide_eq_true (show decide (0 ≤ m ∧ m < 14 ∧ ts.length = 0) = true from ho)
      simp only [if_true, if_false, show ¬ (2 : Int) = 1 by decide]
      exact rk2 m ho'.1 (by omega) ad ts.length cap w
    · simp only [if_true, if_false, show ¬ (3 : Int) = 1 by decide, show ¬ (3 : Int) = 2 by decide]
      exact rk3 m ad ts.length cap w
    · simp only [if_true, if_false, show ¬ (4 : Int) = 1 by decide, show ¬ (4 : Int) = 2 by decide, show ¬ (4 : Int) = 3 by decide]
      exact rk4 n hn ts m ad cap w hcap hmax hkids hk
    · simp only [if_true, if_false, show ¬ (5 : Int) = 1 by decide, show ¬ (5 : Int) = 2 by decide, show ¬ (5 : Int) = 3 by decide, show ¬ (5 : Int) = 4 by decide]
      exact rk5 n hn ts m ad cap w hcap hmax hkids hk
    · have ho' : ts.length = 1 := (of_decide_eq_true (show decide (m = 0 ∧ ts.length = 1) = true from ho)).2
      simp only [if_false, show ¬ (6 : Int) = 1 by decide, show ¬ (6 : Int) = 2 by decide, show ¬ (6 : Int) = 3 by decide, show ¬ (6 : Int) = 4 by decide, show ¬ (6 : Int) = 5 by decide]
      match ts, ho' with
      | [x], _ => exact rk6 n hn x m ad cap w hkids (hk x (by simp))

theorem refKinds_any (n : Nat) (t : Wt n) (v0 v1 v2 : Value) (w : World) (hr : RepW w n [v0, v1, v2] t) (hg : wgt n t = true) :
    Calls Tryz.prog 35 #[.agg #[v0, v1, v2]] w fun e w' => e = .returned (.int .u32 ((kset (evk n t) 14 : Nat) : Int)) ∧ Below w.heap.size w w' := by
  rw [← km_kset n t hg]
  exact rk_any n t v0 v1 v2 w hr hg
end Go.Proofs.YthamafijjflfbaaGreat
/- The document's Match at a right pattern: whether it holds of the value's kind; the conditions: the pattern's tree lies in memory and is right, the value's kind is one. -/
namespace Go.Proofs.YthamafijjflfbaaGreat
open Go.RowKit

theorem OneD.c5 {w : World} {v0 v1 v2 : Value} {k i b : Int} {s : ByteArray} {ad : Option Addr} {len cap : Nat} {w' : World} (h : OneD w v0 v1 v2 k i b s ad len cap w') :
    (w'.cell? ⟨w.heap.size, 0, none⟩ = some v0 ∧ w'.cell? ⟨w.heap.size, 1, none⟩ = some v1 ∧ w'.cell? ⟨w.heap.size, 2, none⟩ = some v2) ∧ w'.cell? ⟨w.heap.size + 1, 0, none⟩ = some (.int .i64 k) ∧ w'.cell? ⟨w.heap.size + 1, 1, none⟩ = some (.int .i64 i) ∧ w'.cell? ⟨w.heap.size + 1, 2, none⟩ = some (.int .u64 b) ∧ w'.cell? ⟨w.heap.size + 1, 3, none⟩ = some (.string s) ∧ w'.cell? ⟨w.heap.size + 1, 4, none⟩ = some (.slice ad len cap) := by
  have e0 := heap_alloc_new w (.cells #[v0, v1, v2] 51)
  have e1 := heap_alloc_new (w.alloc (.cells #[v0, v1, v2] 51)) (.cells #[.int .i64 k, .int .i64 i, .int .u64 b, .string s, .slice ad len cap] 25)
  simp only [World.size_alloc] at e1
  have h0 : w'.heap[w.heap.size]? = some (.cells #[v0, v1, v2] 51 (0, 0)) := (Below.block h w.heap.size (by omega)).trans (((below1 _ _).block _ (by simp)).trans e0)
  have h1 : w'.heap[w.heap.size + 1]? = some (.cells #[.int .i64 k, .int .i64 i, .int .u64 b, .string s, .slice ad len cap] 25 (0, 0)) := (Below.block h (w.heap.size + 1) (by omega)).trans e1
  simp [World.cell?, h0, h1]

/-- A kind's bit. -/
theorem shr_bit (p : Int → Bool) (j : Nat) (hj : j < 14) : bits .and .u32 (((kset p 14 : Nat) : Int) / 2 ^ j) 1 = if p j = true then 1 else 0 := by
  have e : (((kset p 14 : Nat) : Int) / 2 ^ j) = ((kset p 14 / 2 ^ j : Nat) : Int) := by norm_cast
  have hl := kset_lt p 14
  have hl2 : kset p 14 / 2 ^ j ≤ kset p 14 := Nat.div_le_self _ _
  rw [e, show (1 : Int) = ((1 : Nat) : Int) from rfl, u32_and_nat _ _ (by omega) (by decide), Nat.and_one_is_mod, kset_shr p j hj]
  split <;> rfl

set_option maxRecDepth 100000 in
set_option maxHeartbeats 2000000 in
theorem matchR (n : Nat) (t : Wt n) (v0 v1 v2 : Value) (j : Nat) (i b : Int) (s : ByteArray) (ad : Option Addr) (len cap : Nat) (w : World) (hr : RepW w n [v0, v1, v2] t) (hg : wgt n t = true) (hj : j < 14) :
    Calls Tryz.prog 18 #[.agg #[v0, v1, v2], .agg #[.int .i64 j, .int .i64 i, .int .u64 b, .string s, .slice ad len cap]] w fun e w' => e = .returned (.bool (evk n t j)) ∧ Below w.heap.size w w' := by
  obtain ⟨o, m, wd, wl, wc, rfl, rfl, rfl⟩ := repW_shape hr
  have HK : Hid (∀ (wx : World), OneD w (.int .i64 o) (.int .i64 m) (.slice wd wl wc) j i b s ad len cap wx → Calls Tryz.prog 35 #[.agg #[.int .i64 o, .int .i64 m, .slice wd wl wc]] wx fun e w' => e = .returned (.int .u32 ((kset (evk n t) 14 : Nat) : Int)) ∧ OneD w (.int .i64 o) (.int .i64 m) (.slice wd wl wc) j i b s ad len cap w') := fun wx hx => (refKinds_any n t _ _ _ wx (RepW.below hx.below n _ _ hr) hg).mono fun e w' ⟨a, b⟩ => ⟨a, hx.step b⟩
  have HS : Hid (∀ wx, OneD w (.int .i64 o) (.int .i64 m) (.slice wd wl wc) j i b s ad len cap wx → wx.cell? ⟨w.heap.size, 0, none⟩ = some (.int .i64 o) ∧ wx.cell? ⟨w.heap.size, 1, none⟩ = some (.int .i64 m) ∧ wx.cell? ⟨w.heap.size, 2, none⟩ = some (.slice wd wl wc) ∧ wx.cell? ⟨w.heap.size + 1, 0, none⟩ = some (.int .i64 j)) := fun wx h => h.c
  have hb0 := OneD.start w (.int .i64 o) (.int .i64 m) (.slice wd wl wc) j i b s ad len cap
  have hbit := shr_bit (evk n t) j hj
  have j0 : (0 : Int) ≤ (j : Int) := by omega
  have j1 : (j : Int) ≤ 32 := by omega
  clear hr hg
  generalize evk n t j = p at hbit
  generalize kset (evk n t) 14 = X at HK hbit
  cases p
  all_goals
    simp only [if_true, Bool.false_eq_true, if_false] at hbit
    go_enter Tryz.func18, Tryz.ntmps18
    go_wp2_with fail
    go_region_held3 (fun w' => w'.cell? ⟨w.heap.size, 0, none⟩ = some (.int .i64 o) ∧ w'.cell? ⟨w.heap.size, 1, none⟩ = some (.int .i64 m) ∧ w'.cell? ⟨w.heap.size, 2, none⟩ = some (.slice wd wl wc) ∧ w'.cell? ⟨w.heap.size + 1, 0, none⟩ = some (.int .i64 j)) (exact HS.out _ (by first | assumption | exact OneD.drew (by assumption))) (first | (go_at_call 35; refine (HK.out _ (by first | assumption | exact OneD.drew (by assumption))).mono ?_; rintro e wa ⟨rfl, ba⟩))
    all_goals go_wp2
    all_goals go_ret
    all_goals exact ⟨rfl, OneD.below (by first | assumption | exact OneD.drew (by assumption))⟩
end Go.Proofs.YthamafijjflfbaaGreat
/- A valid value's kind is one of the fourteen; the conditions: its tree in memory, and valid. -/
namespace Go.Proofs.YthamafijjflfbaaGreat
open Go.RowKit

/-- A right value's kind is one. -/
theorem kind_in {k i u : Int} {z len : Nat} (h : Dt.okB k i u z len = true) : 0 ≤ k ∧ k ≤ 13 := by
  unfold Dt.okB at h
  by_cases hk : 0 ≤ k ∧ k ≤ 13
  · exact hk
  · rw [if_neg (by omega), if_neg (by omega), if_neg (by omega), if_neg (by omega), if_neg (by omega), if_neg (by omega), if_neg (by omega), if_neg (by omega), if_neg (by omega)] at h
    cases h
theorem valid_kind {w : World} {n : Nat} {d : Dt.Tr n} {k i u : Int} {s : ByteArray} {ad : Option Addr} {len cap : Nat} (h : Dt.Rep w n [.int .i64 k, .int .i64 i, .int .u64 u, .string s, .slice ad len cap] d) (hv : Dt.vB n d = true) : 0 ≤ k ∧ k ≤ 13 := by
  have S := Dt.say 16 n d 1 4096 (by decide) (by decide) (by decide)
  have hr := (S.down hv).1
  match n, d, h with
  | n + 1, d, h =>
    obtain ⟨ad', cap', e, -, -, -, -⟩ := h
    simp only [List.cons.injEq, and_true] at e
    obtain ⟨e0, e1, e2, e3, e4⟩ := e
    simp only [Dt.rgt, Bool.and_eq_true] at hr
    have := kind_in hr.1
    injection e0 with _ e0
    rw [e0]; exact this

end Go.Proofs.YthamafijjflfbaaGreat
/- The law GuardAsserts over a value's tree and any number: true, in new memory alone; the conditions: the tree in memory, its bits within 64. -/
namespace Go.Proofs.YthamafijjflfbaaGreat
open Go.RowKit

set_option maxRecDepth 100000 in
set_option maxHeartbeats 1000000 in
theorem ga_bad (k i b : Int) (s : ByteArray) (ad : Option Addr) (len cap : Nat) (n : Int) (w : World)
    (HV : ∀ wx, Below w.heap.size w wx → Calls Tryz.prog 17 #[.agg #[.int .i64 k, .int .i64 i, .int .u64 b, .string s, .slice ad len cap]] wx fun e w' => e = .returned (.bool false) ∧ Below wx.heap.size wx w') :
    Calls Tryz.prog 5 #[.agg #[.int .i64 k, .int .i64 i, .int .u64 b, .string s, .slice ad len cap], .int .i64 n] w fun e w' => e = .returned (.bool true) ∧ Below w.heap.size w w' := by
  have HVh := Lib.hid HV
  have HW := Lib.hid awake_any
  clear HV
  have B0 := below1 w (.cells #[.int .i64 k, .int .i64 i, .int .u64 b, .string s, .slice ad len cap] 25)
  go_enter Tryz.func5, Tryz.ntmps5
  go_wp2_with fail
  refine (HVh.out _ B0).mono ?_
  rintro e w1 ⟨rfl, bw1⟩
  have B1 := B0.trans (bw1.mono B0.size)
  go_wp2_with fail
  refine (HW.out _).mono ?_
  rintro e w2 ⟨rfl, bw2⟩
  have B2 := B1.trans (bw2.mono B1.size)
  go_wp2
  go_ret
  exact ⟨rfl, B2⟩

theorem valid_pts {n : Nat} {t : Dt.Tr n} (h : Dt.vB n t = true) : Dt.rgt n t = true ∧ (Dt.pts n t).1 ≤ 4096 := by
  have S := Dt.say 16 n t 1 4096 (by decide) (by decide) (by decide)
  obtain ⟨h1, h2, -⟩ := S.down h
  obtain ⟨h3, -, h4, -, -⟩ := S.fit h2
  refine ⟨h1, ?_⟩
  rw [h3]; exact h4

/-- A pattern of one part. -/
def leafW (o n : Int) : Wt 1 := ((o, n, []) : Int × Int × List (Wt 0))
theorem leafW_rep (w : World) (o n : Int) : RepW w 1 [.int .i64 o, .int .i64 n, .slice none 0 0] (leafW o n) := ⟨none, 0, rfl, Nat.le_refl _, Nat.zero_le _, .inl rfl⟩

theorem law_asserts (m : Nat) (t : Dt.Tr m) (v0 v1 v2 v3 v4 : Value) (n : Int) (w : World) (h : Dt.Rep w m [v0, v1, v2, v3, v4] t) (h6 : Dt.r64 m t) :
    Calls Tryz.prog 5 #[.agg #[v0, v1, v2, v3, v4], .int .i64 n] w fun e w' => e = .returned (.bool true) ∧ Below w.heap.size w w' := by
  obtain ⟨k, i, b, s, ad, len, cap, rfl, rfl, rfl, rfl, rfl⟩ := Dt.rep_shape h
  have HV : ∀ wx, Below w.heap.size w wx → Calls Tryz.prog 17 #[.agg #[.int .i64 k, .int .i64 i, .int .u64 b, .string s, .slice ad len cap]] wx fun e w' => e = .returned (.bool (Dt.vB m t)) ∧ Below wx.heap.size wx w' := fun wx hx => Dt.refValid m t _ _ _ _ _ wx (Dt.Rep.below hx m _ _ h)
  cases hv : Dt.vB m t with
  | false =>
    rw [hv] at HV
    exact ga_bad k i b s ad len cap n w HV
  | true =>
    rw [hv] at HV
    obtain ⟨hr, hp⟩ := valid_pts hv
    have hk := valid_kind h hv
    clear hv
    match m, t, h, h6, hr, hp with
    | m + 1, t, h, h6, hr, hp =>
      obtain ⟨j, rfl⟩ : ∃ j : Nat, k = (j : Int) := ⟨k.toNat, by omega⟩
      have hj : j < 14 := by omega
      have HK : 0 < n → n < 14 → ∀ wx, Below w.heap.size w wx → Calls Tryz.prog 18 #[.agg #[.int .i64 2, .int .i64 n, .slice none 0 0], .agg #[.int .i64 (j : Int), .int .i64 i, .int .u64 b, .string s, .slice ad len cap]] wx fun e w' => e = .returned (.bool (tkd n j)) ∧ Below wx.heap.size wx w' := fun a1 a2 wx _ => by
        have := matchR 1 (leafW 2 n) _ _ _ j i b s ad len cap wx (leafW_rep wx 2 n) (by simp [wgt, leafW, Wt.ok, Wt.op, Wt.nm, Wt.ks, okW]; omega) hj
        have e : evk 1 (leafW 2 n) j = tkd n j := by
          simp [evk, leafW, Wt.op, Wt.nm, tkd]
          omega
        rw [e] at this; exact this
      have HF : 0 ≤ n → n < 10 → ∀ wx, Below w.heap.size w wx → Calls Tryz.prog 18 #[.agg #[.int .i64 3, .int .i64 n, .slice none 0 0], .agg #[.int .i64 (j : Int), .int .i64 i, .int .u64 b, .string s, .slice ad len cap]] wx fun e w' => e = .returned (.bool (impl j n)) ∧ Below wx.heap.size wx w' := fun a1 a2 wx _ => by
        have := matchR 1 (leafW 3 n) _ _ _ j i b s ad len cap wx (leafW_rep wx 3 n) (by simp [wgt, leafW, Wt.ok, Wt.op, Wt.nm, Wt.ks, okW]; omega) hj
        have e : evk 1 (leafW 3 n) j = impl j n := by simp [evk, leafW, Wt.op, Wt.nm]
        rw [e] at this; exact this
      have HS : ∀ wx, Below w.heap.size w wx → Calls Tryz.prog 10 #[.agg (acs 10 j i b s ad len cap 0 0 0 ⟨#[]⟩ none 0 0 0)] wx fun e w' => ∃ es hs k' i' u' s' a' n' c', e = .returned (.agg (rcs es 0 0 0 hs k' i' u' s' a' n' c')) ∧ (es = 0 ∨ es = 12) ∧ Below wx.heap.size wx w' := fun wx hx => (trySize w m t hr hp j i b s ad len cap 0 0 0 ⟨#[]⟩ none 0 0 0 h wx hx).mono fun e w' ⟨he, hb⟩ => by
        split at he
        · exact ⟨0, true, _, _, _, _, _, _, _, he, .inl rfl, hb⟩
        · exact ⟨12, false, _, _, _, _, _, _, _, he, .inr rfl, hb⟩
      have HA1 : tkd n j = true → ∀ wx, Below w.heap.size w wx → Calls Tryz.prog 10 #[.agg (acs 2 j i b s ad len cap 0 0 0 ⟨#[]⟩ none 0 0 n)] wx fun e w' => ∃ k' i' u' s' a' n' c', e = .returned (.agg (rcs 0 0 0 0 true k' i' u' s' a' n' c')) ∧ Below wx.heap.size wx w' := fun hq wx hx => (tryAssert w m t hr hp h6 j i b s ad len cap 0 0 0 ⟨#[]⟩ none 0 0 n h wx hx hq).mono fun e w' ⟨k, i, u, s, a, n, c, he, _, hb⟩ => ⟨k, i, u, s, a, n, c, he, hb⟩
      have HA0 : tkd n j = false → ∀ wx, Below w.heap.size w wx → Calls Tryz.prog 10 #[.agg (acs 2 j i b s ad len cap 0 0 0 ⟨#[]⟩ none 0 0 n)] wx fun e w' => ∃ m', e = .returned (.agg (rErr 110 0 2 m')) ∧ Below wx.heap.size wx w' := fun hq wx hx => (tryAssert_no w m t hr hp j i b s ad len cap 0 0 0 ⟨#[]⟩ none 0 0 n h wx hx hq).mono fun e w' ⟨he, hb⟩ => ⟨_, he, hb⟩
      have HB1 : impl j n = true → ∀ wx, Below w.heap.size w wx → Calls Tryz.prog 10 #[.agg (acs 3 j i b s ad len cap 0 0 0 ⟨#[]⟩ none 0 0 n)] wx fun e w' => ∃ k' i' u' s' a' n' c', e = .returned (.agg (rcs 0 0 0 0 true k' i' u' s' a' n' c')) ∧ Below wx.heap.size wx w' := fun hq wx hx => (tryFace w m t hp j i b s ad len cap 0 0 0 ⟨#[]⟩ none 0 0 n h wx hx hq).mono fun e w' ⟨k, i, u, s, a, n, c, he, _, hb⟩ => ⟨k, i, u, s, a, n, c, he, hb⟩
      have HB0 : impl j n = false → ∀ wx, Below w.heap.size w wx → Calls Tryz.prog 10 #[.agg (acs 3 j i b s ad len cap 0 0 0 ⟨#[]⟩ none 0 0 n)] wx fun e w' => ∃ m', e = .returned (.agg (rErr 110 0 2 m')) ∧ Below wx.heap.size wx w' := fun hq wx _ => (tryFace_no j i b s ad len cap 0 0 0 ⟨#[]⟩ none 0 0 n wx hq).mono fun e w' ⟨he, hb⟩ => ⟨_, he, hb⟩
      have tno : n ≤ 0 ∨ 14 ≤ n → tkd n j = false := fun hn => by simp [tkd]; omega
      have fno : n < 0 ∨ 10 ≤ n → impl j n = false := fun hn => by
        have : mths n = [] := by
          unfold mths
          repeat rw [if_neg (by omega)]
        simp [impl, this]
      by_cases n0 : n < 0
      · exact ga_neg00 j i b s ad len cap n w (by simp; omega) (by simp; omega) HV (HA0 (tno (by omega))) (HB0 (fno (by omega))) HS
      by_cases n1 : n = 0
      · cases hf : impl j n with
        | false => exact ga_zero00 j i b s ad len cap n w (by simp; omega) (by simp; omega) (by simp; omega) HV (HA0 (tno (by omega))) (HB0 hf) (hf ▸ HF (by omega) (by omega)) HS
        | true => exact ga_zero01 j i b s ad len cap n w (by simp; omega) (by simp; omega) (by simp; omega) HV (HA0 (tno (by omega))) (HB1 hf) (hf ▸ HF (by omega) (by omega)) HS
      by_cases n2 : n < 10
      · cases hf : impl j n with
        | false =>
          cases hq : tkd n j with
          | false => exact ga_low00 j i b s ad len cap n w (by simp; omega) (by simp; omega) (by simp; omega) (by simp; omega) HV (HA0 hq) (HB0 hf) (hq ▸ HK (by omega) (by omega)) (hf ▸ HF (by omega) (by omega)) HS
          | true => exact ga_low10 j i b s ad len cap n w (by simp; omega) (by simp; omega) (by simp; omega) (by simp; omega) HV (HA1 hq) (HB0 hf) (hq ▸ HK (by omega) (by omega)) (hf ▸ HF (by omega) (by omega)) HS
        | true =>
          cases hq : tkd n j with
          | false => exact ga_low01 j i b s ad len cap n w (by simp; omega) (by simp; omega) (by simp; omega) (by simp; omega) HV (HA0 hq) (HB1 hf) (hq ▸ HK (by omega) (by omega)) (hf ▸ HF (by omega) (by omega)) HS
          | true => exact ga_low11 j i b s ad len cap n w (by simp; omega) (by simp; omega) (by simp; omega) (by simp; omega) HV (HA1 hq) (HB1 hf) (hq ▸ HK (by omega) (by omega)) (hf ▸ HF (by omega) (by omega)) HS
      by_cases n3 : n < 14
      · cases hq : tkd n j with
        | false => exact ga_mid00 j i b s ad len cap n w (by simp; omega) (by simp; omega) (by simp; omega) (by simp; omega) HV (HA0 hq) (HB0 (fno (by omega))) (hq ▸ HK (by omega) (by omega)) HS
        | true => exact ga_mid10 j i b s ad len cap n w (by simp; omega) (by simp; omega) (by simp; omega) (by simp; omega) HV (HA1 hq) (HB0 (fno (by omega))) (hq ▸ HK (by omega) (by omega)) HS
      · exact ga_high00 j i b s ad len cap n w (by simp; omega) (by simp; omega) (by simp; omega) (by simp; omega) HV (HA0 (tno (by omega))) (HB0 (fno (by omega))) HS
end Go.Proofs.YthamafijjflfbaaGreat
