/- The package's Holds, Covers and Meets at right patterns; the conditions: the patterns' trees lie in memory and are right, the value's kind is one. -/
import Derived.Test.YthamafijjflfbaaGreatMca
import Derived.Test.YthamafijjflfbaaGreatMaf
namespace Go.Proofs.YthamafijjflfbaaGreat
open Go.RowKit

theorem OneD.drew {w : World} {v0 v1 v2 : Value} {k i b : Int} {s : ByteArray} {ad : Option Addr} {len cap : Nat} {w' : World} (h : OneD w v0 v1 v2 k i b s ad len cap w') : OneD w v0 v1 v2 k i b s ad len cap w'.drew := Below.drew h
theorem OneD.below {w : World} {v0 v1 v2 : Value} {k i b : Int} {s : ByteArray} {ad : Option Addr} {len cap : Nat} {w' : World} (h : OneD w v0 v1 v2 k i b s ad len cap w') : Below w.heap.size w w' := (below2 w _ _).trans (Below.mono h (by omega))
theorem OneD.step {w : World} {v0 v1 v2 : Value} {k i b : Int} {s : ByteArray} {ad : Option Addr} {len cap : Nat} {w1 w2 : World} (h : OneD w v0 v1 v2 k i b s ad len cap w1) (hb : Below w1.heap.size w1 w2) : OneD w v0 v1 v2 k i b s ad len cap w2 := by
  have := Below.size h
  simp at this
  exact Below.trans h (hb.mono (by omega))
theorem OneD.start (w : World) (v0 v1 v2 : Value) (k i b : Int) (s : ByteArray) (ad : Option Addr) (len cap : Nat) : OneD w v0 v1 v2 k i b s ad len cap ((w.alloc (.cells #[v0, v1, v2] 51)).alloc (.cells #[.int .i64 k, .int .i64 i, .int .u64 b, .string s, .slice ad len cap] 25)) := Below.refl _ _
theorem OneD.c {w : World} {v0 v1 v2 : Value} {k i b : Int} {s : ByteArray} {ad : Option Addr} {len cap : Nat} {w' : World} (h : OneD w v0 v1 v2 k i b s ad len cap w') :
    w'.cell? ⟨w.heap.size, 0, none⟩ = some v0 ∧ w'.cell? ⟨w.heap.size, 1, none⟩ = some v1 ∧ w'.cell? ⟨w.heap.size, 2, none⟩ = some v2 ∧ w'.cell? ⟨w.heap.size + 1, 0, none⟩ = some (.int .i64 k) := by
  have e0 := heap_alloc_new w (.cells #[v0, v1, v2] 51)
  have e1 := heap_alloc_new (w.alloc (.cells #[v0, v1, v2] 51)) (.cells #[.int .i64 k, .int .i64 i, .int .u64 b, .string s, .slice ad len cap] 25)
  simp only [World.size_alloc] at e1
  have h0 : w'.heap[w.heap.size]? = some (.cells #[v0, v1, v2] 51 (0, 0)) := (Below.block h w.heap.size (by omega)).trans (((below1 _ _).block _ (by simp)).trans e0)
  have h1 : w'.heap[w.heap.size + 1]? = some (.cells #[.int .i64 k, .int .i64 i, .int .u64 b, .string s, .slice ad len cap] 25 (0, 0)) := (Below.block h (w.heap.size + 1) (by omega)).trans e1
  simp [World.cell?, h0, h1]

/-- The two blocks of Covers and Meets. -/
def Tw (w : World) (v0 v1 v2 x0 x1 x2 : Value) (w' : World) : Prop := Below (w.heap.size + 2) ((w.alloc (.cells #[v0, v1, v2] 51)).alloc (.cells #[x0, x1, x2] 51)) w'
theorem Tw.drew {w : World} {v0 v1 v2 x0 x1 x2 : Value} {w' : World} (h : Tw w v0 v1 v2 x0 x1 x2 w') : Tw w v0 v1 v2 x0 x1 x2 w'.drew := Below.drew h
theorem Tw.below {w : World} {v0 v1 v2 x0 x1 x2 : Value} {w' : World} (h : Tw w v0 v1 v2 x0 x1 x2 w') : Below w.heap.size w w' := (below2 w _ _).trans (Below.mono h (by omega))
theorem Tw.step {w : World} {v0 v1 v2 x0 x1 x2 : Value} {w1 w2 : World} (h : Tw w v0 v1 v2 x0 x1 x2 w1) (hb : Below w1.heap.size w1 w2) : Tw w v0 v1 v2 x0 x1 x2 w2 := by
  have := Below.size h
  simp at this
  exact Below.trans h (hb.mono (by omega))
theorem Tw.start (w : World) (v0 v1 v2 x0 x1 x2 : Value) : Tw w v0 v1 v2 x0 x1 x2 ((w.alloc (.cells #[v0, v1, v2] 51)).alloc (.cells #[x0, x1, x2] 51)) := Below.refl _ _
theorem Tw.c {w : World} {v0 v1 v2 x0 x1 x2 : Value} {w' : World} (h : Tw w v0 v1 v2 x0 x1 x2 w') :
    (w'.cell? ⟨w.heap.size, 0, none⟩ = some v0 ∧ w'.cell? ⟨w.heap.size, 1, none⟩ = some v1 ∧ w'.cell? ⟨w.heap.size, 2, none⟩ = some v2) ∧ w'.cell? ⟨w.heap.size + 1, 0, none⟩ = some x0 ∧ w'.cell? ⟨w.heap.size + 1, 1, none⟩ = some x1 ∧ w'.cell? ⟨w.heap.size + 1, 2, none⟩ = some x2 := by
  have e0 := heap_alloc_new w (.cells #[v0, v1, v2] 51)
  have e1 := heap_alloc_new (w.alloc (.cells #[v0, v1, v2] 51)) (.cells #[x0, x1, x2] 51)
  simp only [World.size_alloc] at e1
  have h0 : w'.heap[w.heap.size]? = some (.cells #[v0, v1, v2] 51 (0, 0)) := (Below.block h w.heap.size (by omega)).trans (((below1 _ _).block _ (by simp)).trans e0)
  have h1 : w'.heap[w.heap.size + 1]? = some (.cells #[x0, x1, x2] 51 (0, 0)) := (Below.block h (w.heap.size + 1) (by omega)).trans e1
  simp [World.cell?, h0, h1]

/-- The kinds that are in the second and not in the first. -/
def offN (p q : Int → Bool) : Nat := kset q 14 &&& (4294967295 - kset p 14)
def covB (p q : Int → Bool) : Bool := offN p q == 0
def bothN (p q : Int → Bool) : Nat := kset p 14 &&& kset q 14
def meeB (p q : Int → Bool) : Bool := bothN p q != 0
theorem off_bits (p q : Int → Bool) : bits .andNot .u32 ((kset q 14 : Nat) : Int) ((kset p 14 : Nat) : Int) = ((offN p q : Nat) : Int) :=
  u32_andNot_nat _ _ (Nat.lt_trans (kset_lt q 14) (by decide)) (Nat.lt_trans (kset_lt p 14) (by decide))
theorem both_bits (p q : Int → Bool) : bits .and .u32 ((kset p 14 : Nat) : Int) ((kset q 14 : Nat) : Int) = ((bothN p q : Nat) : Int) :=
  u32_and_nat _ _ (Nat.lt_trans (kset_lt p 14) (by decide)) (Nat.lt_trans (kset_lt q 14) (by decide))

theorem natz (Z : Nat) : ((Z : Int) == 0) = (Z == 0) := by rw [Bool.eq_iff_iff]; simp
theorem natn (Z : Nat) : ((Z : Int) != 0) = (Z != 0) := by rw [Bool.eq_iff_iff]; simp
end Go.Proofs.YthamafijjflfbaaGreat
/- The document's Kinds of a right pattern: the kinds of which it holds, as bits; the conditions: the pattern's tree lies in memory and is right. -/
namespace Go.Proofs.YthamafijjflfbaaGreat
open Go.RowKit

theorem km_lt (n : Nat) (t : Wt n) (h : wgt n t = true) : km n t < 16384 := by rw [km_kset n t h]; exact kset_lt _ 14

set_option maxRecDepth 100000 in
theorem typed_any (k : Int) (h0 : 0 ≤ k) (h1 : k ≤ 13) (w : World) : Calls Tryz.prog 51 #[.int .i64 k] w fun e w' => e = .returned (.int .u32 (((if k = 11 then 6144 else 2 ^ k.toNat : Nat)) : Int)) ∧ w' = w := by
  have : k = 0 ∨ k = 1 ∨ k = 2 ∨ k = 3 ∨ k = 4 ∨ k = 5 ∨ k = 6 ∨ k = 7 ∨ k = 8 ∨ k = 9 ∨ k = 10 ∨ k = 11 ∨ k = 12 ∨ k = 13 := by omega
  rcases this with rfl | rfl | rfl | rfl | rfl | rfl | rfl | rfl | rfl | rfl | rfl | rfl | rfl | rfl
  all_goals
    go_enter Tryz.func51, Tryz.ntmps51
    go_wp2
    go_ret
    exact ⟨rfl, rfl⟩

/-- What the document's Kinds is to answer of patterns of depth n. -/
def RkN (n : Nat) : Prop := ∀ (t : Wt n) (v0 v1 v2 : Value) (w : World), RepW w n [v0, v1, v2] t → wgt n t = true →
    Calls Tryz.prog 35 #[.agg #[v0, v1, v2]] w fun e w' => e = .returned (.int .u32 ((km n t : Nat) : Int)) ∧ Below w.heap.size w w'

set_option maxRecDepth 100000 in
set_option maxHeartbeats 1000000 in
theorem rk1 (m : Int) (ad : Option Addr) (len cap : Nat) (w : World) : Calls Tryz.prog 35 #[.agg #[.int .i64 1, .int .i64 m, .slice ad len cap]] w fun e w' => e = .returned (.int .u32 16382) ∧ Below w.heap.size w w' := by
  go_enter Tryz.func35, Tryz.ntmps35
  go_wp2
  go_ret
  exact ⟨rfl, below1 w _⟩

set_option maxRecDepth 100000 in
set_option maxHeartbeats 1000000 in
theorem rk2 (m : Int) (h0 : 0 ≤ m) (h1 : m ≤ 13) (ad : Option Addr) (len cap : Nat) (w : World) : Calls Tryz.prog 35 #[.agg #[.int .i64 2, .int .i64 m, .slice ad len cap]] w fun e w' => e = .returned (.int .u32 (((if m = 11 then 6144 else 2 ^ m.toNat : Nat)) : Int)) ∧ Below w.heap.size w w' := by
  have H := Lib.hid (typed_any m h0 h1)
  generalize (if m = 11 then 6144 else 2 ^ m.toNat : Nat) = X at H
  go_enter Tryz.func35, Tryz.ntmps35
  go_wp2_with fail
  refine (H.out _).mono ?_
  rintro e w1 ⟨rfl, rfl⟩
  go_wp2
  go_ret
  exact ⟨rfl, below1 w _⟩

set_option maxRecDepth 100000 in
set_option maxHeartbeats 2000000 in
theorem rk3 (m : Int) (ad : Option Addr) (len cap : Nat) (w : World) : Calls Tryz.prog 35 #[.agg #[.int .i64 3, .int .i64 m, .slice ad len cap]] w fun e w' => e = .returned (.int .u32 ((kset (fun k => impl k m) 14 : Nat) : Int)) ∧ Below w.heap.size w w' := by
  have HI : Hid (∀ (j : Nat) wx, One w (.int .i64 3) (.int .i64 m) (.slice ad len cap) wx → Calls Tryz.prog 52 #[.int .i64 j, .int .i64 m] wx fun e w' => e = .returned (.bool (impl j m)) ∧ One w (.int .i64 3) (.int .i64 m) (.slice ad len cap) w') := fun j wx hx => (refImpl_any j m wx).mono fun e w' ⟨a, b⟩ => ⟨a, hx.step b⟩
  have HS : Hid (∀ wx, One w (.int .i64 3) (.int .i64 m) (.slice ad len cap) wx → wx.cell? ⟨w.heap.size, 1, none⟩ = some (.int .i64 m)) := fun wx h => h.c.2.1
  have hb0 := One.start w (.int .i64 3) (.int .i64 m) (.slice ad len cap)
  generalize hp : (fun k => impl k m) = p
  have HP : Hid (∀ j : Nat, impl j m = p j) := fun j => by rw [← hp]
  clear hp
  go_enter Tryz.func35, Tryz.ntmps35
  go_wp2_with fail
  go_loopw [3, 4] (fun sk si wr => ∃ (j : Nat), sk = .int .u32 ((kset p j : Nat) : Int) ∧ si = .int .i64 j ∧ j ≤ 14 ∧ One w (.int .i64 3) (.int .i64 m) (.slice ad len cap) wr) (fun _ si _ => 14 - (intOf si).toNat)
  case atStart => exact ⟨0, rfl, rfl, by omega, hb0⟩
  case round =>
    obtain ⟨j, rfl, rfl, hj, hb⟩ := hrel
    by_cases hlt : j < 14
    · have i0 : (0 : Int) ≤ ↑j := by omega
      have i1 : (↑j : Int) ≤ 32 := by omega
      have i2 : (↑j : Int) < 14 := by omega
      have c1 := HS.out _ hb
      go_wp2_with fail
      refine (HI.out j _ hb).mono ?_
      rintro e w1 ⟨he, b1⟩
      obtain ⟨bb, hbb⟩ : ∃ bb : Bool, p j = bb := ⟨_, rfl⟩
      rw [HP.out, hbb] at he
      subst he
      cases bb
      all_goals go_wp2_with fail
      all_goals first
        | exact ⟨⟨j + 1, congrArg (Value.int .u32) (or_at p j hlt hbb), by go_num, by omega, b1⟩, by simp [intOf]; omega⟩
        | exact ⟨⟨j + 1, congrArg (fun x : Nat => Value.int .u32 (x : Int)) (kset_no p j hbb), by go_num, by omega, b1⟩, by simp [intOf]; omega⟩
    · obtain rfl : j = 14 := by omega
      have i2 : ¬ (((14 : Nat) : Int) < 14) := by omega
      go_wp2_with fail
      go_ret
      exact ⟨rfl, hb.below⟩

theorem fold_or_lt {T : Type} (f : T → Nat) : ∀ (l : List T) (a : Nat), a < 16384 → (∀ x ∈ l, f x < 16384) → l.foldl (fun s x => s ||| f x) a < 16384
  | [], _, h, _ => h
  | x :: l, a, h, hl => fold_or_lt f l (a ||| f x) (Nat.or_lt_two_pow (n := 14) h (hl x (by simp))) fun y hy => hl y (by simp [hy])
theorem fold_and_lt {T : Type} (f : T → Nat) : ∀ (l : List T) (a : Nat), a < 16384 → l.foldl (fun s x => s &&& f x) a < 16384
  | [], _, h => h
  | x :: l, a, h => fold_and_lt f l (a &&& f x) (Nat.lt_of_le_of_lt Nat.and_le_left h)
theorem take_fold {T A : Type} (g : A → T → A) (a : A) (l : List T) (j : Nat) (h : j < l.length) : (l.take (j + 1)).foldl g a = g ((l.take j).foldl g a) l[j] := by
  rw [List.take_succ_eq_append_getElem h, List.foldl_append]; rfl

set_option maxRecDepth 100000 in
set_option maxHeartbeats 2000000 in
theorem rk4 (n : Nat) (hn : RkN n) (ts : List (Wt n)) (m : Int) (ad : Option Addr) (cap : Nat) (w : World) (hcap : ts.length ≤ cap) (hmax : cap ≤ maxLen)
    (hr : ts = [] ∨ ∃ g o, ad = some ⟨g, o, none⟩ ∧ ∀ (j : Nat) (t' : Wt n), ts[j]? = some t' → ∃ v0 v1 v2, w.cell? ⟨g, o + j * 3, none⟩ = some v0 ∧ w.cell? ⟨g, o + j * 3 + 1, none⟩ = some v1 ∧ w.cell? ⟨g, o + j * 3 + 2, none⟩ = some v2 ∧ RepW w n [v0, v1, v2] t')
    (hg : ∀ t ∈ ts, wgt n t = true) :
    Calls Tryz.prog 35 #[.agg #[.int .i64 4, .int .i64 m, .slice ad ts.length cap]] w fun e w' => e = .returned (.int .u32 ((ts.foldl (fun s x => s ||| km n x) 0 : Nat) : Int)) ∧ Below w.heap.size w w' := by
  unfold maxLen at hmax
  have HC : Hid (∀ (t : Wt n) (v0 v1 v2 : Value) (wx : World), t ∈ ts → RepW w n [v0, v1, v2] t → One w (.int .i64 4) (.int .i64 m) (.slice ad ts.length cap) wx → Calls Tryz.prog 35 #[.agg #[v0, v1, v2]] wx fun e w' => e = .returned (.int .u32 ((km n t : Nat) : Int)) ∧ One w (.int .i64 4) (.int .i64 m) (.slice ad ts.length cap) w') := fun t v0 v1 v2 wx ht hx hb => (hn t v0 v1 v2 wx (RepW.below hb.below n _ _ hx) (hg t ht)).mono fun e w' ⟨a, b⟩ => ⟨a, hb.step b⟩
  have HS : Hid (∀ wx, One w (.int .i64 4) (.int .i64 m) (.slice ad ts.length cap) wx → wx.cell? ⟨w.heap.size, 2, none⟩ = some (.slice ad ts.length cap)) := fun wx h => h.c.2.2
  have HL : Hid (∀ t ∈ ts, km n t < 16384) := fun t ht => km_lt n t (hg t ht)
  have hb0 := One.start w (.int .i64 4) (.int .i64 m) (.slice ad ts.length cap)
  have HK := Lib.hid hr
  clear hn hg hr
  generalize km n = f at HC HL
  go_enter Tryz.func35, Tryz.ntmps35
  go_wp2_with fail
  go_loopw [5, 6] (fun sk si wr => ∃ (j : Nat), sk = .int .u32 (((ts.take j).foldl (fun s x => s ||| f x) 0 : Nat) : Int) ∧ si = .int .i64 j ∧ j ≤ ts.length ∧ One w (.int .i64 4) (.int .i64 m) (.slice ad ts.length cap) wr) (fun _ si _ => ts.length - (intOf si).toNat)
  case atStart => exact ⟨0, rfl, rfl, Nat.zero_le _, hb0⟩
  case round =>
    obtain ⟨j, rfl, rfl, hj, hb⟩ := hrel
    have k2 := HS.out _ hb
    by_cases hlt : j < ts.length
    · have hne : ts ≠ [] := by intro e; rw [e] at hlt; exact absurd hlt (Nat.not_lt_zero _)
      rcases HK.out with hk | ⟨g, o, hk1, hk2⟩
      · exact absurd hk hne
      subst hk1
      obtain ⟨v0, v1, v2, e0, e1, e2, rk⟩ := hk2 j _ (List.getElem?_eq_getElem hlt)
      have hgl : g < w.heap.size := World.block_lt_of_cell? w _ e0
      have x0 := (hb.below.cell (p := ⟨g, o + j * 3, none⟩) hgl).trans e0
      have x1 := (hb.below.cell (p := ⟨g, o + j * 3 + 1, none⟩) hgl).trans e1
      have x2 := (hb.below.cell (p := ⟨g, o + j * 3 + 2, none⟩) hgl).trans e2
      have hA := fold_or_lt f (ts.take j) 0 (by decide) fun x hx => HL.out x (List.mem_of_mem_take hx)
      have hB := HL.out ts[j] (List.getElem_mem hlt)
      have hbits := u32_or_nat _ _ (Nat.lt_trans hA (by decide)) (Nat.lt_trans hB (by decide))
      have HT := Lib.hid (take_fold (fun s x => s ||| f x) 0 ts j hlt)
      have HC' := Lib.hid (HC.out ts[j] v0 v1 v2 wr (List.getElem_mem hlt) rk hb)
      clear e0 e1 e2 hk2 HK HC HL hA hB rk
      generalize hSS : (ts.take j).foldl (fun s x => s ||| f x) 0 = SS at hbits HT
      generalize f ts[j] = XX at hbits HT HC'
      rw [hSS] at *
      go_wp2_with fail
      refine HC'.out.mono ?_
      rintro e w1 ⟨rfl, b1⟩
      go_wp2_with fail
      exact ⟨⟨j + 1, congrArg (fun x : Nat => Value.int .u32 (x : Int)) HT.out.symm, by go_num, by omega, b1⟩, by simp [intOf]; omega⟩
    · have hje : j = ts.length := by omega
      have ht : ts.take j = ts := by rw [hje, List.take_length]
      have HT := Lib.hid ht
      clear ht
      go_wp2_with fail
      go_ret
      exact ⟨by rw [← HT.out]; simp [hje], hb.below⟩
set_option maxRecDepth 100000 in
set_option maxHeartbeats 2000000 in
theorem rk5 (n : Nat) (hn : RkN n) (ts : List (Wt n)) (m : Int) (ad : Option Addr) (cap : Nat) (w : World) (hcap : ts.length ≤ cap) (hmax : cap ≤ maxLen)
    (hr : ts = [] ∨ ∃ g o, ad = some ⟨g, o, none⟩ ∧ ∀ (j : Nat) (t' : Wt n), ts[j]? = some t' → ∃ v0 v1 v2, w.cell? ⟨g, o + j * 3, none⟩ = some v0 ∧ w.cell? ⟨g, o + j * 3 + 1, none⟩ = some v1 ∧ w.cell? ⟨g, o + j * 3 + 2, none⟩ = some v2 ∧ RepW w n [v0, v1, v2] t')
    (hg : ∀ t ∈ ts, wgt n t = true) :
    Calls Tryz.prog 35 #[.agg #[.int .i64 5, .int .i64 m, .slice ad ts.length cap]] w fun e w' => e = .returned (.int .u32 ((ts.foldl (fun s x => s &&& km n x) 16383 : Nat) : Int)) ∧ Below w.heap.size w w' := by
  unfold maxLen at hmax
  have HC : Hid (∀ (t : Wt n) (v0 v1 v2 : Value) (wx : World), t ∈ ts → RepW w n [v0, v1, v2] t → One w (.int .i64 5) (.int .i64 m) (.slice ad ts.length cap) wx → Calls Tryz.prog 35 #[.agg #[v0, v1, v2]] wx fun e w' => e = .returned (.int .u32 ((km n t : Nat) : Int)) ∧ One w (.int .i64 5) (.int .i64 m) (.slice ad ts.length cap) w') := fun t v0 v1 v2 wx ht hx hb => (hn t v0 v1 v2 wx (RepW.below hb.below n _ _ hx) (hg t ht)).mono fun e w' ⟨a, b⟩ => ⟨a, hb.step b⟩
  have HS : Hid (∀ wx, One w (.int .i64 5) (.int .i64 m) (.slice ad ts.length cap) wx → wx.cell? ⟨w.heap.size, 2, none⟩ = some (.slice ad ts.length cap)) := fun wx h => h.c.2.2
  have HL : Hid (∀ t ∈ ts, km n t < 16384) := fun t ht => km_lt n t (hg t ht)
  have hb0 := One.start w (.int .i64 5) (.int .i64 m) (.slice ad ts.length cap)
  have HK := Lib.hid hr
  clear hn hg hr
  generalize km n = f at HC HL
  go_enter Tryz.func35, Tryz.ntmps35
  go_wp2_with fail
  go_loopw [7, 8] (fun sk si wr => ∃ (j : Nat), sk = .int .u32 (((ts.take j).foldl (fun s x => s &&& f x) 16383 : Nat) : Int) ∧ si = .int .i64 j ∧ j ≤ ts.length ∧ One w (.int .i64 5) (.int .i64 m) (.slice ad ts.length cap) wr) (fun _ si _ => ts.length - (intOf si).toNat)
  case atStart => exact ⟨0, rfl, rfl, Nat.zero_le _, hb0⟩
  case round =>
    obtain ⟨j, rfl, rfl, hj, hb⟩ := hrel
    have k2 := HS.out _ hb
    by_cases hlt : j < ts.length
    · have hne : ts ≠ [] := by intro e; rw [e] at hlt; exact absurd hlt (Nat.not_lt_zero _)
      rcases HK.out with hk | ⟨g, o, hk1, hk2⟩
      · exact absurd hk hne
      subst hk1
      obtain ⟨v0, v1, v2, e0, e1, e2, rk⟩ := hk2 j _ (List.getElem?_eq_getElem hlt)
      have hgl : g < w.heap.size := World.block_lt_of_cell? w _ e0
      have x0 := (hb.below.cell (p := ⟨g, o + j * 3, none⟩) hgl).trans e0
      have x1 := (hb.below.cell (p := ⟨g, o + j * 3 + 1, none⟩) hgl).trans e1
      have x2 := (hb.below.cell (p := ⟨g, o + j * 3 + 2, none⟩) hgl).trans e2
      have hA := fold_and_lt f (ts.take j) 16383 (by decide)
      have hB := HL.out ts[j] (List.getElem_mem hlt)
      have hbits := u32_and_nat _ _ (Nat.lt_trans hA (by decide)) (Nat.lt_trans hB (by decide))
      have HT := Lib.hid (take_fold (fun s x => s &&& f x) 16383 ts j hlt)
      have HC' := Lib.hid (HC.out ts[j] v0 v1 v2 wr (List.getElem_mem hlt) rk hb)
      clear e0 e1 e2 hk2 HK HC HL hA hB rk
      generalize hSS : (ts.take j).foldl (fun s x => s &&& f x) 16383 = SS at hbits HT
      generalize f ts[j] = XX at hbits HT HC'
      rw [hSS] at *
      go_wp2_with fail
      refine HC'.out.mono ?_
      rintro e w1 ⟨rfl, b1⟩
      go_wp2_with fail
      exact ⟨⟨j + 1, congrArg (fun x : Nat => Value.int .u32 (x : Int)) HT.out.symm, by go_num, by omega, b1⟩, by simp [intOf]; omega⟩
    · have hje : j = ts.length := by omega
      have ht : ts.take j = ts := by rw [hje, List.take_length]
      have HT := Lib.hid ht
      clear ht
      go_wp2_with fail
      go_ret
      exact ⟨by rw [← HT.out]; simp [hje], hb.below⟩
set_option maxRecDepth 100000 in
set_option maxHeartbeats 2000000 in
theorem rk6 (n : Nat) (hn : RkN n) (x : Wt n) (m : Int) (ad : Option Addr) (cap : Nat) (w : World)
    (hr : [x] = [] ∨ ∃ g o, ad = some ⟨g, o, none⟩ ∧ ∀ (j : Nat) (t' : Wt n), [x][j]? = some t' → ∃ v0 v1 v2, w.cell? ⟨g, o + j * 3, none⟩ = some v0 ∧ w.cell? ⟨g, o + j * 3 + 1, none⟩ = some v1 ∧ w.cell? ⟨g, o + j * 3 + 2, none⟩ = some v2 ∧ RepW w n [v0, v1, v2] t')
    (hg : wgt n x = true) :
    Calls Tryz.prog 35 #[.agg #[.int .i64 6, .int .i64 m, .slice ad 1 cap]] w fun e w' => e = .returned (.int .u32 ((16383 &&& (4294967295 - km n x) : Nat) : Int)) ∧ Below w.heap.size w w' := by
  rcases hr with hr | ⟨g, o, rfl, hr⟩
  · cases hr
  obtain ⟨v0, v1, v2, e0, e1, e2, rk⟩ := hr 0 x rfl
  have hgl : g < w.heap.size := World.block_lt_of_cell? w _ e0
  have hb0 := One.start w (.int .i64 6) (.int .i64 m) (.slice (some ⟨g, o, none⟩) 1 cap)
  have k2 := hb0.c.2.2
  have x0 := (hb0.below.cell (p := ⟨g, o, none⟩) hgl).trans (by simpa using e0)
  have x1 := (hb0.below.cell (p := ⟨g, o + 1, none⟩) hgl).trans (by simpa using e1)
  have x2 := (hb0.below.cell (p := ⟨g, o + 2, none⟩) hgl).trans (by simpa using e2)
  have HC := Lib.hid (hn x v0 v1 v2 _ (RepW.below hb0.below n _ _ rk) hg)
  have hbits := u32_andNot_nat 16383 (km n x) (by decide) (Nat.lt_trans (km_lt n x hg) (by decide))
  have hbits' : bits .andNot .u32 16383 ((km n x : Nat) : Int) = ((16383 &&& (4294967295 - km n x) : Nat) : Int) := hbits
  clear hn hg hr rk e0 e1 e2 hbits
  generalize 16383 &&& (4294967295 - km n x) = YY at hbits'
  generalize km n x = XX at HC hbits'
  go_enter Tryz.func35, Tryz.ntmps35
  go_wp2_with fail
  refine HC.out.mono ?_
  rintro e w1 ⟨rfl, b1⟩
  go_wp2_with fail
  go_ret
  exact ⟨rfl, hb0.below.trans (b1.mono hb0.below.size)⟩

theorem rk_any : ∀ n, RkN n := by
  intro n
  induction n with
  | zero => exact fun t => t.elim
  | succ n hn =>
    intro t v0 v1 v2 w hr hg
    simp only [wgt, Bool.and_eq_true, List.all_eq_true] at hg
    obtain ⟨ho, hk⟩ := hg
    obtain ⟨ad, cap, e, hcap, hmax, hkids⟩ := hr
    simp only [List.cons.injEq, and_true] at e
    obtain ⟨rfl, rfl, rfl⟩ := e
    unfold Wt.ok at ho
    have hop := okW_op ho
    simp only [km]
    generalize t.nm = m at ho ⊢
    generalize t.op = o at ho hop ⊢
    generalize t.ks = ts at ho hk hcap hkids ⊢
    rcases hop with rfl | rfl | rfl | rfl | rfl | rfl
    · simp only [if_true]
      exact rk1 m ad ts.length cap w
    · have ho' := of_decide_eq_true (show decide (0 ≤ m ∧ m < 14 ∧ ts.length = 0) = true from ho)
      simp only [if_true, if_false, show ¬ (2 : Int) = 1 by decide]
      exact rk2 m ho'.1 (by omega) ad ts.length cap w
    · simp only [if_true, if_false, show ¬ (3 : Int) = 1 by decide, show ¬ (3 : Int) = 2 by decide]
      exact rk3 m ad ts.length cap w
    · simp only [if_true, if_false, show ¬ (4 : Int) = 1 by decide, show ¬ (4 : Int) = 2 by decide, show ¬ (4 : Int) = 3 by decide]
      exact rk4 n hn ts m ad cap w hcap hmax hkids hk
    · simp only [if_true, if_false, show ¬ (5 : Int) = 1 by decide, show ¬ (5 : Int) = 2 by decide, show ¬ (5 : Int) = 3 by decide, show ¬ (5 : Int) = 4 by decide]
      exact rk5 n hn ts m ad cap w hcap hmax hkids hk
    · have ho' : ts.length = 1 := (of_decide_eq_true (show decide (m = 0 ∧ ts.length = 1) = true from ho)).2
      simp only [if_false, show ¬ (6 : Int) = 1 by decide, show ¬ (6 : Int) = 2 by decide, show ¬ (6 : Int) = 3 by decide, show ¬ (6 : Int) = 4 by decide, show ¬ (6 : Int) = 5 by decide]
      match ts, ho' with
      | [x], _ => exact rk6 n hn x m ad cap w hkids (hk x (by simp))

theorem refKinds_any (n : Nat) (t : Wt n) (v0 v1 v2 : Value) (w : World) (hr : RepW w n [v0, v1, v2] t) (hg : wgt n t = true) :
    Calls Tryz.prog 35 #[.agg #[v0, v1, v2]] w fun e w' => e = .returned (.int .u32 ((kset (evk n t) 14 : Nat) : Int)) ∧ Below w.heap.size w w' := by
  rw [← km_kset n t hg]
  exact rk_any n t v0 v1 v2 w hr hg
end Go.Proofs.YthamafijjflfbaaGreat
/- The document's Match at a right pattern: whether it holds of the value's kind; the conditions: the pattern's tree lies in memory and is right, the value's kind is one. -/
namespace Go.Proofs.YthamafijjflfbaaGreat
open Go.RowKit

theorem OneD.c5 {w : World} {v0 v1 v2 : Value} {k i b : Int} {s : ByteArray} {ad : Option Addr} {len cap : Nat} {w' : World} (h : OneD w v0 v1 v2 k i b s ad len cap w') :
    (w'.cell? ⟨w.heap.size, 0, none⟩ = some v0 ∧ w'.cell? ⟨w.heap.size, 1, none⟩ = some v1 ∧ w'.cell? ⟨w.heap.size, 2, none⟩ = some v2) ∧ w'.cell? ⟨w.heap.size + 1, 0, none⟩ = some (.int .i64 k) ∧ w'.cell? ⟨w.heap.size + 1, 1, none⟩ = some (.int .i64 i) ∧ w'.cell? ⟨w.heap.size + 1, 2, none⟩ = some (.int .u64 b) ∧ w'.cell? ⟨w.heap.size + 1, 3, none⟩ = some (.string s) ∧ w'.cell? ⟨w.heap.size + 1, 4, none⟩ = some (.slice ad len cap) := by
  have e0 := heap_alloc_new w (.cells #[v0, v1, v2] 51)
  have e1 := heap_alloc_new (w.alloc (.cells #[v0, v1, v2] 51)) (.cells #[.int .i64 k, .int .i64 i, .int .u64 b, .string s, .slice ad len cap] 25)
  simp only [World.size_alloc] at e1
  have h0 : w'.heap[w.heap.size]? = some (.cells #[v0, v1, v2] 51 (0, 0)) := (Below.block h w.heap.size (by omega)).trans (((below1 _ _).block _ (by simp)).trans e0)
  have h1 : w'.heap[w.heap.size + 1]? = some (.cells #[.int .i64 k, .int .i64 i, .int .u64 b, .string s, .slice ad len cap] 25 (0, 0)) := (Below.block h (w.heap.size + 1) (by omega)).trans e1
  simp [World.cell?, h0, h1]

/-- A kind's bit. -/
theorem shr_bit (p : Int → Bool) (j : Nat) (hj : j < 14) : bits .and .u32 (((kset p 14 : Nat) : Int) / 2 ^ j) 1 = if p j = true then 1 else 0 := by
  have e : (((kset p 14 : Nat) : Int) / 2 ^ j) = ((kset p 14 / 2 ^ j : Nat) : Int) := by norm_cast
  have hl := kset_lt p 14
  have hl2 : kset p 14 / 2 ^ j ≤ kset p 14 := Nat.div_le_self _ _
  rw [e, show (1 : Int) = ((1 : Nat) : Int) from rfl, u32_and_nat _ _ (by omega) (by decide), Nat.and_one_is_mod, kset_shr p j hj]
  split <;> rfl

set_option maxRecDepth 100000 in
set_option maxHeartbeats 2000000 in
theorem matchR (n : Nat) (t : Wt n) (v0 v1 v2 : Value) (j : Nat) (i b : Int) (s : ByteArray) (ad : Option Addr) (len cap : Nat) (w : World) (hr : RepW w n [v0, v1, v2] t) (hg : wgt n t = true) (hj : j < 14) :
    Calls Tryz.prog 18 #[.agg #[v0, v1, v2], .agg #[.int .i64 j, .int .i64 i, .int .u64 b, .string s, .slice ad len cap]] w fun e w' => e = .returned (.bool (evk n t j)) ∧ Below w.heap.size w w' := by
  obtain ⟨o, m, wd, wl, wc, rfl, rfl, rfl⟩ := repW_shape hr
  have HK : Hid (∀ (wx : World), OneD w (.int .i64 o) (.int .i64 m) (.slice wd wl wc) j i b s ad len cap wx → Calls Tryz.prog 35 #[.agg #[.int .i64 o, .int .i64 m, .slice wd wl wc]] wx fun e w' => e = .returned (.int .u32 ((kset (evk n t) 14 : Nat) : Int)) ∧ OneD w (.int .i64 o) (.int .i64 m) (.slice wd wl wc) j i b s ad len cap w') := fun wx hx => (refKinds_any n t _ _ _ wx (RepW.below hx.below n _ _ hr) hg).mono fun e w' ⟨a, b⟩ => ⟨a, hx.step b⟩
  have HS : Hid (∀ wx, OneD w (.int .i64 o) (.int .i64 m) (.slice wd wl wc) j i b s ad len cap wx → wx.cell? ⟨w.heap.size, 0, none⟩ = some (.int .i64 o) ∧ wx.cell? ⟨w.heap.size, 1, none⟩ = some (.int .i64 m) ∧ wx.cell? ⟨w.heap.size, 2, none⟩ = some (.slice wd wl wc) ∧ wx.cell? ⟨w.heap.size + 1, 0, none⟩ = some (.int .i64 j)) := fun wx h => h.c
  have hb0 := OneD.start w (.int .i64 o) (.int .i64 m) (.slice wd wl wc) j i b s ad len cap
  have hbit := shr_bit (evk n t) j hj
  have j0 : (0 : Int) ≤ (j : Int) := by omega
  have j1 : (j : Int) ≤ 32 := by omega
  clear hr hg
  generalize evk n t j = p at hbit
  generalize kset (evk n t) 14 = X at HK hbit
  cases p
  all_goals
    simp only [if_true, Bool.false_eq_true, if_false] at hbit
    go_enter Tryz.func18, Tryz.ntmps18
    go_wp2_with fail
    go_region_held3 (fun w' => w'.cell? ⟨w.heap.size, 0, none⟩ = some (.int .i64 o) ∧ w'.cell? ⟨w.heap.size, 1, none⟩ = some (.int .i64 m) ∧ w'.cell? ⟨w.heap.size, 2, none⟩ = some (.slice wd wl wc) ∧ w'.cell? ⟨w.heap.size + 1, 0, none⟩ = some (.int .i64 j)) (exact HS.out _ (by first | assumption | exact OneD.drew (by assumption))) (first | (go_at_call 35; refine (HK.out _ (by first | assumption | exact OneD.drew (by assumption))).mono ?_; rintro e wa ⟨rfl, ba⟩))
    all_goals go_wp2
    all_goals go_ret
    all_goals exact ⟨rfl, OneD.below (by first | assumption | exact OneD.drew (by assumption))⟩
end Go.Proofs.YthamafijjflfbaaGreat
/- A valid value's kind is one of the fourteen; the conditions: its tree in memory, and valid. -/
namespace Go.Proofs.YthamafijjflfbaaGreat
open Go.RowKit

/-- A right value's kind is one. -/
theorem kind_in {k i u : Int} {z len : Nat} (h : Dt.okB k i u z len = true) : 0 ≤ k ∧ k ≤ 13 := by
  unfold Dt.okB at h
  by_cases hk : 0 ≤ k ∧ k ≤ 13
  · exact hk
  · rw [if_neg (by omega), if_neg (by omega), if_neg (by omega), if_neg (by omega), if_neg (by omega), if_neg (by omega), if_neg (by omega), if_neg (by omega), if_neg (by omega)] at h
    cases h
theorem valid_kind {w : World} {n : Nat} {d : Dt.Tr n} {k i u : Int} {s : ByteArray} {ad : Option Addr} {len cap : Nat} (h : Dt.Rep w n [.int .i64 k, .int .i64 i, .int .u64 u, .string s, .slice ad len cap] d) (hv : Dt.vB n d = true) : 0 ≤ k ∧ k ≤ 13 := by
  have S := Dt.say 16 n d 1 4096 (by decide) (by decide) (by decide)
  have hr := (S.down hv).1
  match n, d, h with
  | n + 1, d, h =>
    obtain ⟨ad', cap', e, -, -, -, -⟩ := h
    simp only [List.cons.injEq, and_true] at e
    obtain ⟨e0, e1, e2, e3, e4⟩ := e
    simp only [Dt.rgt, Bool.and_eq_true] at hr
    have := kind_in hr.1
    injection e0 with _ e0
    rw [e0]; exact this

end Go.Proofs.YthamafijjflfbaaGreat
/- The document's answer to each act over values' trees, told in the same form; the conditions: the trees in memory, valid. -/
namespace Go.Proofs.YthamafijjflfbaaGreat
open Go.RowKit

theorem rcopy_rf (W0 : World) (m : Nat) (t : Dt.Tr m) (k i u : Int) (s : ByteArray) (a : Option Addr) (n c : Nat) (hps : (Dt.pts m t).1 ≤ 4096) (hrep : Dt.Rep W0 m [.int .i64 k, .int .i64 i, .int .u64 u, .string s, .slice a n c] t) (w : World) (hb : Below W0.heap.size W0 w) (H : Nat) (hH : H ≤ w.heap.size) :
    Calls Tryz.prog 9 #[.agg #[.int .i64 k, .int .i64 i, .int .u64 u, .string s, .slice a n c]] w fun e w' => ∃ k i u s a n c, e = .returned (.agg #[.int .i64 k, .int .i64 i, .int .u64 u, .string s, .slice a n c]) ∧ Dt.Rf (fun g => H ≤ g ∧ g < w'.heap.size) w' m [.int .i64 k, .int .i64 i, .int .u64 u, .string s, .slice a n c] t ∧ Below w.heap.size w w' :=
  (Dt.copy_any m t _ _ _ _ _ w (Dt.Rep.below hb _ _ _ hrep) hps).mono fun e w' ⟨k, i, u, s, a, n, c, he, rf, hb'⟩ => ⟨k, i, u, s, a, n, c, he, Dt.Rf.to (fun g hg => ⟨⟨by omega, hg.2⟩, rfl⟩) _ _ _ rf, hb'⟩

/-- A pattern of one part. -/
def leafW' (o n : Int) : Wt 1 := ((o, n, []) : Int × Int × List (Wt 0))
theorem leafW'_rep (w : World) (o n : Int) : RepW w 1 [.int .i64 o, .int .i64 n, .slice none 0 0] (leafW' o n) := ⟨none, 0, rfl, Nat.le_refl _, Nat.zero_le _, .inl rfl⟩
theorem match_kind (j : Nat) (hj : j < 14) (i u : Int) (s : ByteArray) (a : Option Addr) (n c : Nat) (num : Int) (h0 : 0 < num) (h1 : num < 14) (w : World) :
    Calls Tryz.prog 18 #[.agg #[.int .i64 2, .int .i64 num, .slice none 0 0], .agg #[.int .i64 (j : Int), .int .i64 i, .int .u64 u, .string s, .slice a n c]] w fun e w' => e = .returned (.bool (tkd num j)) ∧ Below w.heap.size w w' := by
  have := matchR 1 (leafW' 2 num) _ _ _ j i u s a n c w (leafW'_rep w 2 num) (by simp [wgt, leafW', Wt.ok, Wt.op, Wt.nm, Wt.ks, okW]; omega) hj
  have e : evk 1 (leafW' 2 num) j = tkd num j := by
    simp [evk, leafW', Wt.op, Wt.nm, tkd]
    omega
  rw [e] at this; exact this
theorem lackL_cases (k : Int) : ∀ l : List Int, (∀ m ∈ l, 0 ≤ m) → lackL k l = -1 ∨ 0 ≤ lackL k l
  | [], _ => .inl rfl
  | m :: l, h => by
    unfold lackL
    split
    · exact lackL_cases k l fun x hx => h x (List.mem_cons_of_mem _ hx)
    · exact .inr (h m (by simp))
theorem mths_pos (f : Int) : ∀ m ∈ mths f, 0 ≤ m := by
  unfold mths
  repeat' split
  all_goals simp
theorem mths_out (f : Int) (h : f < 0 ∨ 10 ≤ f) : mths f = [] := by
  unfold mths
  repeat rw [if_neg (by omega)]
theorem mths_in (f : Int) (h0 : 0 ≤ f) (h1 : f < 10) : 0 < (mths f).length := by
  unfold mths
  repeat' split
  all_goals first | (exfalso; omega) | simp

theorem Vl.kind {W0 : World} {m : Nat} {t : Dt.Tr (m + 1)} {k i u : Int} {s : ByteArray} {a : Option Addr} {n c : Nat} (h : Vl W0 m t k i u s a n c) : 0 ≤ k ∧ k ≤ 13 := by
  have h1 := h.rg
  simp only [Dt.rgt, Bool.and_eq_true] at h1
  have := kind_in (k := t.kd) h1.1
  rw [h.eq.1] at this
  exact this

theorem grGive (W0 : World) (m : Nat) (t : Dt.Tr (m + 1)) (ak ai au : Int) (az : ByteArray) (aa : Option Addr) (an ac : Nat) (bk bi bu : Int) (bs : ByteArray) (ba : Option Addr) (bn bc : Nat) (num : Int) (h : Vl W0 m t ak ai au az aa an ac) (w : World) (hb : Below W0.heap.size W0 w) :
    Calls Tryz.prog 12 #[.agg (acs 1 ak ai au az aa an ac bk bi bu bs ba bn bc num)] w (GP 0 0 0 true (m + 1) t w) :=
  (rt_give ak ai au az aa an ac bk bi bu bs ba bn bc num w (w.heap.size + 2) (Nat.le_refl _) _ (st_rf (w.heap.size + 2) (m + 1) t) fun wx hx zx => rcopy_rf W0 (m + 1) t ak ai au az aa an ac h.ps h.rep wx (hb.trans (hx.mono hb.size)) _ (by omega)).mono fun _ _ q => gp_rf (by omega) q
theorem grAssert (W0 : World) (m : Nat) (t : Dt.Tr (m + 1)) (ak ai au : Int) (az : ByteArray) (aa : Option Addr) (an ac : Nat) (bk bi bu : Int) (bs : ByteArray) (ba : Option Addr) (bn bc : Nat) (num : Int) (h : Vl W0 m t ak ai au az aa an ac) (hq : tkd num ak = true) (w : World) (hb : Below W0.heap.size W0 w) :
    Calls Tryz.prog 12 #[.agg (acs 2 ak ai au az aa an ac bk bi bu bs ba bn bc num)] w (GP 0 0 0 true (m + 1) t w) := by
  obtain ⟨q0, q1⟩ : 1 ≤ num ∧ num ≤ 13 := by simp [tkd] at hq; exact hq.1
  obtain ⟨k0, k1⟩ := h.kind
  obtain ⟨j, rfl⟩ : ∃ j : Nat, ak = (j : Int) := ⟨ak.toNat, by omega⟩
  refine (rt_kind j ai au az aa an ac bk bi bu bs ba bn bc num w 0 0 0 true (w.heap.size + 4) (by omega) _ (st_rf (w.heap.size + 4) (m + 1) t) fun wx hx zx => ?_).mono fun _ _ q => gp_rf (by omega) q
  refine rkind_yes j ai au az aa an ac num wx (w.heap.size + 4) (by omega) _ (st_rf (w.heap.size + 4) (m + 1) t) (by simp; omega) (by simp; omega) (fun wy hy => ?_) fun wy hy zy => ?_
  · have := match_kind j (by omega) ai au az aa an ac num (by omega) (by omega) wy
    rw [hq] at this; exact this
  · exact rcopy_rf W0 (m + 1) t j ai au az aa an ac h.ps h.rep wy ((hb.trans (hx.mono hb.size)).trans (hy.mono (by have := hb.size; omega))) _ (by omega)
theorem grAssert_no (W0 : World) (m : Nat) (t : Dt.Tr (m + 1)) (ak ai au : Int) (az : ByteArray) (aa : Option Addr) (an ac : Nat) (bk bi bu : Int) (bs : ByteArray) (ba : Option Addr) (bn bc : Nat) (num : Int) (h : Vl W0 m t ak ai au az aa an ac) (hq : tkd num ak = false) (w : World) :
    Calls Tryz.prog 12 #[.agg (acs 2 ak ai au az aa an ac bk bi bu bs ba bn bc num)] w (GP 110 2 ak false 1 (lfT 0 0) w) := by
  obtain ⟨k0, k1⟩ := h.kind
  obtain ⟨j, rfl⟩ : ∃ j : Nat, ak = (j : Int) := ⟨ak.toNat, by omega⟩
  have S : St (w.heap.size + 4) (fun k i u s a n c _ => k = 0 ∧ i = 0 ∧ u = 0 ∧ s = ⟨#[]⟩ ∧ a = none ∧ n = 0 ∧ c = 0) := fun _ _ _ _ _ _ _ _ _ h _ _ => h
  have K : ∀ wx, Calls Tryz.prog 23 #[.agg #[.int .i64 (j : Int), .int .i64 ai, .int .u64 au, .string az, .slice aa an ac], .int .i64 num] wx fun e w' => e = .returned (.agg (rErr 110 0 2 j)) ∧ Below wx.heap.size wx w' := fun wx => by
    by_cases n0 : num ≤ 0
    · exact rkind_lo j ai au az aa an ac num wx (by simpa using n0)
    by_cases n1 : 14 ≤ num
    · exact rkind_hi j ai au az aa an ac num wx (by simp; omega) (by simpa using n1)
    · refine rkind_no j ai au az aa an ac num wx (by simp; omega) (by simp; omega) fun wy hy => ?_
      have := match_kind j (by omega) ai au az aa an ac num (by omega) (by omega) wy
      rw [hq] at this; exact this
  refine (rt_kind j ai au az aa an ac bk bi bu bs ba bn bc num w 110 2 j false (w.heap.size + 4) (by omega) _ S fun wx hx zx => (K wx).mono fun e w' ⟨he, hb'⟩ => ⟨0, 0, 0, ⟨#[]⟩, none, 0, 0, he, ⟨rfl, rfl, rfl, rfl, rfl, rfl, rfl⟩, hb'⟩).mono fun e w' ⟨k, i, u, s, a, n, c, he, ⟨q1, q2, q3, q4, q5, q6, q7⟩, hb'⟩ => ?_
  subst q1 q2 q3 q4 q5 q6 q7
  exact gp_err ⟨he, hb'⟩

theorem rface_any (k i u : Int) (s : ByteArray) (a : Option Addr) (n c : Nat) (f : Int) (hk : 0 ≤ k ∧ k ≤ 13) (hq : impl k f = false) (w : World) :
    Calls Tryz.prog 24 #[.agg #[.int .i64 k, .int .i64 i, .int .u64 u, .string s, .slice a n c], .int .i64 f] w fun e w' => e = .returned (.agg (rErr 110 0 2 (lackM k f))) ∧ Below w.heap.size w w' := by
  by_cases k0 : k = 0
  · have e : lackM k f = -1 := by unfold lackM; rw [if_pos k0]
    rw [e]
    exact rface_nil k i u s a n c f w k0
  have e : lackM k f = lacks k f := by unfold lackM; rw [if_neg k0]
  rw [e]
  have kk : (k == 0) = false := by simpa using k0
  have lk : lacks k f = lackL k (mths f) := by unfold lacks; rw [if_neg (by omega)]
  by_cases f0 : f < 0
  · have : lacks k f = -1 := by rw [lk, mths_out f (.inl f0)]; rfl
    rw [this]
    exact rface_lo k i u s a n c f w kk (by simpa using f0)
  by_cases f1 : 10 ≤ f
  · have : lacks k f = -1 := by rw [lk, mths_out f (.inr f1)]; rfl
    rw [this]
    exact rface_hi k i u s a n c f w kk (by simp; omega) (by simpa using f1)
  · have h1 : lacks k f ≠ -1 := fun h => by
      have h2 := mths_in f (by omega) (by omega)
      simp [impl, h] at hq
      have := hq (by omega) (by omega)
      rw [this] at h2
      simp at h2
    have h2 : 0 ≤ lacks k f := by
      rcases lackL_cases k (mths f) (mths_pos f) with h | h
      · exact absurd (lk.trans h) h1
      · rw [lk]; exact h
    exact rface_no k i u s a n c f w kk (by simp; omega) (by simp; omega) _ rfl (by simpa using h2)
theorem rface_ok (W0 : World) (m : Nat) (t : Dt.Tr (m + 1)) (k i u : Int) (s : ByteArray) (a : Option Addr) (n c : Nat) (h : Vl W0 m t k i u s a n c) (f : Int) (hq : impl k f = true) (w : World) (hb : Below W0.heap.size W0 w) (H : Nat) (hH : w.heap.size + 2 = H) :
    Calls Tryz.prog 24 #[.agg #[.int .i64 k, .int .i64 i, .int .u64 u, .string s, .slice a n c], .int .i64 f] w fun e w' => ∃ k i u s a n c, e = .returned (.agg (rcs 0 0 0 0 true k i u s a n c)) ∧ Dt.Rf (fun g => H ≤ g ∧ g < w'.heap.size) w' (m + 1) [.int .i64 k, .int .i64 i, .int .u64 u, .string s, .slice a n c] t ∧ Below w.heap.size w w' := by
  simp only [impl, Bool.and_eq_true, decide_eq_true_eq, beq_iff_eq] at hq
  obtain ⟨⟨⟨k0, k1⟩, l0⟩, l1⟩ := hq
  have f0 : ¬ (f < 0 ∨ 10 ≤ f) := fun hf => by rw [mths_out f hf] at l0; simp at l0
  exact rface_yes k i u s a n c f w H (by omega) _ (st_rf H (m + 1) t) (by simp; omega) (by simp; omega) (by simp; omega) l1 fun wy hy zy => rcopy_rf W0 (m + 1) t k i u s a n c h.ps h.rep wy (hb.trans (hy.mono hb.size)) _ (by omega)

theorem grFace (W0 : World) (m : Nat) (t : Dt.Tr (m + 1)) (ak ai au : Int) (az : ByteArray) (aa : Option Addr) (an ac : Nat) (bk bi bu : Int) (bs : ByteArray) (ba : Option Addr) (bn bc : Nat) (num : Int) (h : Vl W0 m t ak ai au az aa an ac) (hq : impl ak num = true) (w : World) (hb : Below W0.heap.size W0 w) :
    Calls Tryz.prog 12 #[.agg (acs 3 ak ai au az aa an ac bk bi bu bs ba bn bc num)] w (GP 0 0 0 true (m + 1) t w) :=
  (rt_face ak ai au az aa an ac bk bi bu bs ba bn bc num w 0 0 0 true (w.heap.size + 4) (by omega) _ (st_rf (w.heap.size + 4) (m + 1) t) fun wx hx zx => rface_ok W0 m t ak ai au az aa an ac h num hq wx (hb.trans (hx.mono hb.size)) _ (by omega)).mono fun _ _ q => gp_rf (by omega) q
theorem on_err {er pk pn : Int} {w : World} {e : Ending} {w' : World} (h : e = .returned (.agg (rErr er 0 pk pn)) ∧ Below w.heap.size w w') : ∃ k i u s a n c, e = .returned (.agg (rcs er 0 pk pn false k i u s a n c)) ∧ (k = 0 ∧ i = 0 ∧ u = 0 ∧ s = ⟨#[]⟩ ∧ a = none ∧ n = 0 ∧ c = 0) ∧ Below w.heap.size w w' := ⟨0, 0, 0, ⟨#[]⟩, none, 0, 0, h.1, ⟨rfl, rfl, rfl, rfl, rfl, rfl, rfl⟩, h.2⟩
theorem gp_on {er pk pn : Int} {w : World} {e : Ending} {w' : World} (h : ∃ k i u s a n c, e = .returned (.agg (rcs er 0 pk pn false k i u s a n c)) ∧ (k = 0 ∧ i = 0 ∧ u = 0 ∧ s = ⟨#[]⟩ ∧ a = none ∧ n = 0 ∧ c = 0) ∧ Below w.heap.size w w') : GP er pk pn false 1 (lfT 0 0) w e w' := by
  obtain ⟨k, i, u, s, a, n, c, he, ⟨q1, q2, q3, q4, q5, q6, q7⟩, hb⟩ := h
  subst q1 q2 q3 q4 q5 q6 q7
  exact gp_err ⟨he, hb⟩
theorem st_z (H : Nat) : St H (fun k i u s a n c _ => k = 0 ∧ i = 0 ∧ u = 0 ∧ s = ⟨#[]⟩ ∧ a = none ∧ n = 0 ∧ c = 0) := fun _ _ _ _ _ _ _ _ _ h _ _ => h
theorem grFace_no (ak ai au : Int) (az : ByteArray) (aa : Option Addr) (an ac : Nat) (bk bi bu : Int) (bs : ByteArray) (ba : Option Addr) (bn bc : Nat) (num : Int) (hk : 0 ≤ ak ∧ ak ≤ 13) (hq : impl ak num = false) (w : World) :
    Calls Tryz.prog 12 #[.agg (acs 3 ak ai au az aa an ac bk bi bu bs ba bn bc num)] w (GP 110 2 (lackM ak num) false 1 (lfT 0 0) w) :=
  (rt_face ak ai au az aa an ac bk bi bu bs ba bn bc num w 110 2 (lackM ak num) false (w.heap.size + 4) (by omega) _ (st_z _) fun wx _ _ => (rface_any ak ai au az aa an ac num hk hq wx).mono fun _ _ q => on_err q).mono fun _ _ q => gp_on q

theorem grIndex (W0 : World) (m : Nat) (t : Dt.Tr (m + 1)) (ak ai au : Int) (az : ByteArray) (aa : Option Addr) (an ac : Nat) (bk bi bu : Int) (bs : ByteArray) (ba : Option Addr) (bn bc : Nat) (j : Nat) (h : Vl W0 m t ak ai au az aa an ac) (hk : ak = 8) (kid : Dt.Tr m) (hj : t.ks[j]? = some kid) (w : World) (hb : Below W0.heap.size W0 w) :
    Calls Tryz.prog 12 #[.agg (acs 4 ak ai au az aa an ac bk bi bu bs ba bn bc (j : Int))] w (GP 0 0 0 true m kid w) := by
  subst hk
  have kp := (h.kid (List.mem_of_getElem? hj)).2.1
  have hl := h.eq.2.2.2
  have hjl := (List.getElem?_eq_some_iff.1 hj).1
  obtain ⟨ad, cap, e1, -, -, -, e5⟩ := (h.below hb).rep
  rcases e5 with e5 | ⟨g, o, rfl, e7⟩
  · rw [e5] at hj; cases hj
  · obtain ⟨v0, v1, v2, v3, v4, c0, c1, c2, c3, c4, r⟩ := e7 j kid hj
    obtain ⟨u0, u1, u2, u3, a4, n4, c4', rfl, rfl, rfl, rfl, rfl⟩ := Dt.rep_shape r
    simp only [List.cons.injEq, Value.slice.injEq, and_true] at e1
    obtain ⟨-, -, -, -, rfl, rfl, rfl⟩ := e1
    exact (rt_index ai au az _ _ bk bi bu bs ba bn bc j g o u0 u1 u2 u3 a4 n4 c4' w (w.heap.size + 2) (Nat.le_refl _) _ (st_rf (w.heap.size + 2) m kid) hjl (World.block_lt_of_cell? w _ c0) c0 c1 c2 c3 c4 fun wx hx zx => rcopy_rf w m kid u0 u1 u2 u3 a4 n4 c4' kp r wx hx _ (by omega)).mono fun _ _ q => gp_rf (by omega) q
theorem grIndex_no (W0 : World) (m : Nat) (t : Dt.Tr (m + 1)) (ak ai au : Int) (az : ByteArray) (aa : Option Addr) (an ac : Nat) (bk bi bu : Int) (bs : ByteArray) (ba : Option Addr) (bn bc : Nat) (num : Int) (h : Vl W0 m t ak ai au az aa an ac) (hk : ak = 8) (hj : num < 0 ∨ (t.ks.length : Int) ≤ num) (w : World) :
    Calls Tryz.prog 12 #[.agg (acs 4 ak ai au az aa an ac bk bi bu bs ba bn bc num)] w (GP 110 4 num false 1 (lfT 0 0) w) := by
  rw [h.eq.2.2.2] at hj
  by_cases n0 : num < 0
  · exact (rt_index_lo ak ai au az aa an ac bk bi bu bs ba bn bc num w (by simpa using hk) (by simpa using n0)).mono fun _ _ q => gp_err q
  · exact (rt_index_hi ak ai au az aa an ac bk bi bu bs ba bn bc num w (by simpa using hk) (by simpa using n0) (by simp; omega)).mono fun _ _ q => gp_err q
theorem grIndex_bad (ak ai au : Int) (az : ByteArray) (aa : Option Addr) (an ac : Nat) (bk bi bu : Int) (bs : ByteArray) (ba : Option Addr) (bn bc : Nat) (num : Int) (hk : ak ≠ 8) (w : World) :
    Calls Tryz.prog 12 #[.agg (acs 4 ak ai au az aa an ac bk bi bu bs ba bn bc num)] w (GP 110 2 ak false 1 (lfT 0 0) w) := (rt_index_bad ak ai au az aa an ac bk bi bu bs ba bn bc num w (by simpa using hk)).mono fun _ _ q => gp_err q

theorem grOpen (W0 : World) (m : Nat) (t : Dt.Tr (m + 1)) (ak ai au : Int) (az : ByteArray) (aa : Option Addr) (an ac : Nat) (bk bi bu : Int) (bs : ByteArray) (ba : Option Addr) (bn bc : Nat) (num : Int) (h : Vl W0 m t ak ai au az aa an ac) (hk : ak = 11) (kid : Dt.Tr m) (hkid : t.ks = [kid]) (w : World) (hb : Below W0.heap.size W0 w) :
    Calls Tryz.prog 12 #[.agg (acs 5 ak ai au az aa an ac bk bi bu bs ba bn bc num)] w (GP 0 0 0 true m kid w) := by
  subst hk
  have kp := (h.kid (t' := kid) (by rw [hkid]; simp)).2.1
  have hl := h.eq.2.2.2
  refine (rt_open 11 ai au az aa an ac bk bi bu bs ba bn bc num w 0 0 0 true (w.heap.size + 6) (by omega) _ (st_rf (w.heap.size + 6) m kid) fun wx hx zx => ?_).mono fun _ _ q => gp_rf (by omega) q
  have hB : Below W0.heap.size W0 wx := hb.trans (hx.mono hb.size)
  refine ropen_yes 11 ai au az aa an ac wx (w.heap.size + 6) (by omega) _ (st_rf (w.heap.size + 6) m kid) (fun wy hy => ?_) fun wy hy zy => ?_
  · exact (rface_ok W0 m t 11 ai au az aa an ac h 3 rfl wy (hB.trans (hy.mono hB.size)) _ rfl).mono fun e w' ⟨k, i, u, s, a, n, c, he, _, hb'⟩ => ⟨k, i, u, s, a, n, c, he, hb'⟩
  · obtain ⟨ad, cap, e1, -, -, -, e5⟩ := (h.below (hB.trans (hy.mono hB.size))).rep
    rcases e5 with e5 | ⟨g, o, rfl, e7⟩
    · rw [hkid] at e5; cases e5
    · obtain ⟨v0, v1, v2, v3, v4, c0, c1, c2, c3, c4, r⟩ := e7 0 kid (by rw [hkid]; rfl)
      obtain ⟨u0, u1, u2, u3, a4, n4, c4', rfl, rfl, rfl, rfl, rfl⟩ := Dt.rep_shape r
      simp only [List.cons.injEq, Value.slice.injEq, and_true] at e1
      obtain ⟨-, -, -, -, rfl, rfl, rfl⟩ := e1
      simp only [Nat.zero_mul, Nat.add_zero] at c0 c1 c2 c3 c4
      exact (r1open_box ai au az g o _ _ (by rw [hkid]; simp) u0 u1 u2 u3 a4 n4 c4' wy (wy.heap.size + 2) (Nat.le_refl _) _ (st_rf (wy.heap.size + 2) m kid) (World.block_lt_of_cell? wy _ c0) c0 c1 c2 c3 c4 fun wz hz zz => rcopy_rf wy m kid u0 u1 u2 u3 a4 n4 c4' kp r wz hz _ (by omega)).mono fun e w' ⟨k, i, u, s, a, n, c, he, rf, hb'⟩ => ⟨k, i, u, s, a, n, c, he, Dt.Rf.to (fun g hg => ⟨⟨by have := hg.1; omega, hg.2⟩, rfl⟩) _ _ _ rf, hb'⟩
theorem grOpen_nil (W0 : World) (m : Nat) (t : Dt.Tr (m + 1)) (ak ai au : Int) (az : ByteArray) (aa : Option Addr) (an ac : Nat) (bk bi bu : Int) (bs : ByteArray) (ba : Option Addr) (bn bc : Nat) (num : Int) (h : Vl W0 m t ak ai au az aa an ac) (hk : ak = 12) (w : World) (hb : Below W0.heap.size W0 w) :
    Calls Tryz.prog 12 #[.agg (acs 5 ak ai au az aa an ac bk bi bu bs ba bn bc num)] w (GP 110 3 0 false 1 (lfT 0 0) w) := by
  subst hk
  refine (rt_open 12 ai au az aa an ac bk bi bu bs ba bn bc num w 110 3 0 false (w.heap.size + 6) (by omega) _ (st_z _) fun wx hx zx => ?_).mono fun _ _ q => gp_on q
  have hB : Below W0.heap.size W0 wx := hb.trans (hx.mono hb.size)
  refine (ropen_nil 12 ai au az aa an ac wx (fun wy hy => ?_) fun wy hy => r1open_nil ai au az aa an ac wy).mono fun _ _ q => on_err q
  exact (rface_ok W0 m t 12 ai au az aa an ac h 3 rfl wy (hB.trans (hy.mono hB.size)) _ rfl).mono fun e w' ⟨k, i, u, s, a, n, c, he, _, hb'⟩ => ⟨k, i, u, s, a, n, c, he, hb'⟩
theorem grOpen_no (ak ai au : Int) (az : ByteArray) (aa : Option Addr) (an ac : Nat) (bk bi bu : Int) (bs : ByteArray) (ba : Option Addr) (bn bc : Nat) (num : Int) (hk : 0 ≤ ak ∧ ak ≤ 13) (hq : impl ak 3 = false) (w : World) :
    Calls Tryz.prog 12 #[.agg (acs 5 ak ai au az aa an ac bk bi bu bs ba bn bc num)] w (GP 110 2 (lackM ak 3) false 1 (lfT 0 0) w) :=
  (rt_open ak ai au az aa an ac bk bi bu bs ba bn bc num w 110 2 (lackM ak 3) false (w.heap.size + 6) (by omega) _ (st_z _) fun wx _ _ => (ropen_no ak ai au az aa an ac (lackM ak 3) wx fun wy _ => rface_any ak ai au az aa an ac 3 hk hq wy).mono fun _ _ q => on_err q).mono fun _ _ q => gp_on q

theorem gp_leaf {k i : Int} {w : World} {e : Ending} {w' : World} (h : e = .returned (.agg (rcs 0 0 0 0 true k i 0 ⟨#[]⟩ none 0 0)) ∧ Below w.heap.size w w') : GP 0 0 0 true 1 (lfT k i) w e w' := ⟨k, i, 0, ⟨#[]⟩, none, 0, 0, h.1, lf_rf _ w' k i, h.2⟩
theorem grCompare (W0 : World) (n m : Nat) (a : Dt.Tr n) (b : Dt.Tr m) (ra : Dt.rgt n a = true) (rb : Dt.rgt m b = true) (ak ai au : Int) (az : ByteArray) (aa : Option Addr) (an ac : Nat) (bk bi bu : Int) (bs : ByteArray) (ba : Option Addr) (bn bc : Nat) (num : Int) (hA : Dt.Rep W0 n [.int .i64 ak, .int .i64 ai, .int .u64 au, .string az, .slice aa an ac] a) (hB : Dt.Rep W0 m [.int .i64 bk, .int .i64 bi, .int .u64 bu, .string bs, .slice ba bn bc] b) (res : Bool) (hE : Dt.eqT n m a b = (res, 0)) (w : World) (hb : Below W0.heap.size W0 w) :
    Calls Tryz.prog 12 #[.agg (acs 6 ak ai au az aa an ac bk bi bu bs ba bn bc num)] w (GP 0 0 0 true 1 (lfT 6 (Dt.bI res)) w) := by
  have Q : ∀ wx, Below w.heap.size w wx → _ := fun wx hx => Dt.requal_any n m a b _ _ _ _ _ _ _ _ _ _ wx ra rb (Dt.Rep.below (hb.trans (hx.mono hb.size)) _ _ _ hA) (Dt.Rep.below (hb.trans (hx.mono hb.size)) _ _ _ hB)
  simp only [hE] at Q
  cases res with
  | true => exact (rt_compare_t ak ai au az aa an ac bk bi bu bs ba bn bc num w Q).mono fun _ _ q => gp_leaf q
  | false => exact (rt_compare_f ak ai au az aa an ac bk bi bu bs ba bn bc num w Q).mono fun _ _ q => gp_leaf q
theorem grCompare_no (W0 : World) (n m : Nat) (a : Dt.Tr n) (b : Dt.Tr m) (ra : Dt.rgt n a = true) (rb : Dt.rgt m b = true) (ak ai au : Int) (az : ByteArray) (aa : Option Addr) (an ac : Nat) (bk bi bu : Int) (bs : ByteArray) (ba : Option Addr) (bn bc : Nat) (num : Int) (hA : Dt.Rep W0 n [.int .i64 ak, .int .i64 ai, .int .u64 au, .string az, .slice aa an ac] a) (hB : Dt.Rep W0 m [.int .i64 bk, .int .i64 bi, .int .u64 bu, .string bs, .slice ba bn bc] b) (res : Bool) (code : Int) (hc : code ≠ 0) (hE : Dt.eqT n m a b = (res, code)) (w : World) (hb : Below W0.heap.size W0 w) :
    Calls Tryz.prog 12 #[.agg (acs 6 ak ai au az aa an ac bk bi bu bs ba bn bc num)] w (GP 110 5 0 false 1 (lfT 0 0) w) := by
  have Q : ∀ wx, Below w.heap.size w wx → _ := fun wx hx => Dt.requal_any n m a b _ _ _ _ _ _ _ _ _ _ wx ra rb (Dt.Rep.below (hb.trans (hx.mono hb.size)) _ _ _ hA) (Dt.Rep.below (hb.trans (hx.mono hb.size)) _ _ _ hB)
  simp only [hE] at Q
  exact (rt_compare_no ak ai au az aa an ac bk bi bu bs ba bn bc num w res code (by simpa using hc) Q).mono fun _ _ q => gp_err q
theorem grDivide (ak ai au : Int) (az : ByteArray) (aa : Option Addr) (an ac : Nat) (bk bi bu : Int) (bs : ByteArray) (ba : Option Addr) (bn bc : Nat) (num : Int) (hk : ak = 1) (hk' : bk = 1) (hy : bi ≠ 0) (w : World) :
    Calls Tryz.prog 12 #[.agg (acs 7 ak ai au az aa an ac bk bi bu bs ba bn bc num)] w (GP 0 0 0 true 1 (lfT 1 (quoI ai bi)) w) := (rt_divide ak ai au az aa an ac bk bi bu bs ba bn bc num w (by simpa using hk) (by simpa using hk') hy).mono fun _ _ q => gp_leaf q
theorem grDivide_zero (ak ai au : Int) (az : ByteArray) (aa : Option Addr) (an ac : Nat) (bk bi bu : Int) (bs : ByteArray) (ba : Option Addr) (bn bc : Nat) (num : Int) (hk : ak = 1) (hk' : bk = 1) (hy : bi = 0) (w : World) :
    Calls Tryz.prog 12 #[.agg (acs 7 ak ai au az aa an ac bk bi bu bs ba bn bc num)] w (GP 110 6 0 false 1 (lfT 0 0) w) := (rt_divide_zero ak ai au az aa an ac bk bi bu bs ba bn bc num w (by simpa using hk) (by simpa using hk') (by simpa using hy)).mono fun _ _ q => gp_err q
theorem grDivide_a (ak ai au : Int) (az : ByteArray) (aa : Option Addr) (an ac : Nat) (bk bi bu : Int) (bs : ByteArray) (ba : Option Addr) (bn bc : Nat) (num : Int) (hk : ak ≠ 1) (w : World) :
    Calls Tryz.prog 12 #[.agg (acs 7 ak ai au az aa an ac bk bi bu bs ba bn bc num)] w (GP 110 2 ak false 1 (lfT 0 0) w) := (rt_divide_a ak ai au az aa an ac bk bi bu bs ba bn bc num w (by simpa using hk)).mono fun _ _ q => gp_err q
theorem grDivide_b (ak ai au : Int) (az : ByteArray) (aa : Option Addr) (an ac : Nat) (bk bi bu : Int) (bs : ByteArray) (ba : Option Addr) (bn bc : Nat) (num : Int) (hk : ak = 1) (hk' : bk ≠ 1) (w : World) :
    Calls Tryz.prog 12 #[.agg (acs 7 ak ai au az aa an ac bk bi bu bs ba bn bc num)] w (GP 110 2 bk false 1 (lfT 0 0) w) := (rt_divide_b ak ai au az aa an ac bk bi bu bs ba bn bc num w (by simpa using hk) (by simpa using hk')).mono fun _ _ q => gp_err q
theorem grOwn (ak ai au : Int) (az : ByteArray) (aa : Option Addr) (an ac : Nat) (bk bi bu : Int) (bs : ByteArray) (ba : Option Addr) (bn bc : Nat) (num : Int) (w : World) : Calls Tryz.prog 12 #[.agg (acs 8 ak ai au az aa an ac bk bi bu bs ba bn bc num)] w (GP 110 1 num false 1 (lfT 0 0) w) := (rt_own ak ai au az aa an ac bk bi bu bs ba bn bc num w).mono fun _ _ q => gp_err q
theorem grError (ak ai au : Int) (az : ByteArray) (aa : Option Addr) (an ac : Nat) (bk bi bu : Int) (bs : ByteArray) (ba : Option Addr) (bn bc : Nat) (num : Int) (w : World) : Calls Tryz.prog 12 #[.agg (acs 9 ak ai au az aa an ac bk bi bu bs ba bn bc num)] w (GP 110 7 num false 1 (lfT 0 0) w) := (rt_error ak ai au az aa an ac bk bi bu bs ba bn bc num w).mono fun _ _ q => gp_err q
theorem grSize (W0 : World) (m : Nat) (t : Dt.Tr (m + 1)) (ak ai au : Int) (az : ByteArray) (aa : Option Addr) (an ac : Nat) (bk bi bu : Int) (bs : ByteArray) (ba : Option Addr) (bn bc : Nat) (num : Int) (h : Vl W0 m t ak ai au az aa an ac) (h0 : (Dt.lenP t.kd t.tx.size t.ks.length).2 = 0) (w : World) :
    Calls Tryz.prog 12 #[.agg (acs 10 ak ai au az aa an ac bk bi bu bs ba bn bc num)] w (GP 0 0 0 true 1 (lfT 1 (Dt.lenP t.kd t.tx.size t.ks.length).1) w) := by
  obtain ⟨e1, e2, e3, e4⟩ := h.eq
  rw [e1, e3, e4] at h0 ⊢
  exact (rt_size ak ai au az aa an ac bk bi bu bs ba bn bc num w _ _ h0 fun wx _ => Dt.refLen ak ai au az aa an ac wx).mono fun _ _ q => gp_leaf q
theorem grSize_no (W0 : World) (m : Nat) (t : Dt.Tr (m + 1)) (ak ai au : Int) (az : ByteArray) (aa : Option Addr) (an ac : Nat) (bk bi bu : Int) (bs : ByteArray) (ba : Option Addr) (bn bc : Nat) (num : Int) (h : Vl W0 m t ak ai au az aa an ac) (h0 : (Dt.lenP t.kd t.tx.size t.ks.length).2 ≠ 0) (w : World) :
    Calls Tryz.prog 12 #[.agg (acs 10 ak ai au az aa an ac bk bi bu bs ba bn bc num)] w (GP 12 0 0 false 1 (lfT 0 0) w) := by
  obtain ⟨e1, e2, e3, e4⟩ := h.eq
  rw [e1, e3, e4] at h0
  exact (rt_size_no ak ai au az aa an ac bk bi bu bs ba bn bc num w _ _ (by simpa using h0) fun wx _ => Dt.refLen ak ai au az aa an ac wx).mono fun _ _ q => gp_err q
theorem grOther (op : Int) (ak ai au : Int) (az : ByteArray) (aa : Option Addr) (an ac : Nat) (bk bi bu : Int) (bs : ByteArray) (ba : Option Addr) (bn bc : Nat) (num : Int) (hop : op < 1 ∨ 10 < op) (w : World) :
    Calls Tryz.prog 12 #[.agg (acs op ak ai au az aa an ac bk bi bu bs ba bn bc num)] w (GP 12 0 0 false 1 (lfT 0 0) w) :=
  (rt_other op ak ai au az aa an ac bk bi bu bs ba bn bc num w (by simp; omega) (by simp; omega) (by simp; omega) (by simp; omega) (by simp; omega) (by simp; omega) (by simp; omega) (by simp; omega) (by simp; omega) (by simp; omega)).mono fun _ _ q => gp_err q
end Go.Proofs.YthamafijjflfbaaGreat
