/- A place's line, in the package and by the document's own answer; what is asked: the bytes lie in memory. -/
import Derived.Test.YteohpiamfpnofaaDoorSm
namespace Go.Proofs.YteohpiamfpnofaaDoor
open Go.RowKit Go.Maps

/-- The last byte 10 ahead of a place. -/
def lastI : Nat → Bs → Int
  | 0, _ => -1
  | n + 1, l => if l[n]? = some 10 then (n : Int) else lastI n l
theorem lastI_le : ∀ (n : Nat) (l : Bs), -1 ≤ lastI n l ∧ lastI n l < n
  | 0, _ => by simp [lastI]
  | n + 1, l => by
    unfold lastI
    split
    · omega
    · have := lastI_le n l; omega

set_option maxRecDepth 100000 in
set_option maxHeartbeats 2000000 in
theorem lastIndex_any (a : Option Addr) (k c : Nat) (l : Bs) (w : World) (hk : k ≤ l.length) (hS : l = [] ∨ ∃ b o, a = some ⟨b, o, none⟩ ∧ Byt w b o l) (hm : l.length ≤ 140737488355328) :
    Calls Tryd.prog 71 #[.slice a k c, .int .u8 10] w fun e w' => e = .returned (.int .i64 (lastI k l)) ∧ w' = w := by
  obtain ⟨Z, hZ⟩ : ∃ Z, lastI k l = Z := ⟨_, rfl⟩
  rw [hZ]
  have HZ := Lib.hid hZ
  have HS := Lib.hid hS
  clear hZ hS
  have hk2 : k ≤ 140737488355328 := by omega
  go_enter Tryd.func71, Tryd.ntmps71
  go_wp2
  go_loopg [5] k (fun gk s5 wx => ∃ j : Nat, j ≤ k ∧ gk = j ∧ s5 = .int .i64 ((j : Int) - 1) ∧ Z = lastI j l ∧ wx = w)
  case atStart => exact ⟨k, Nat.le_refl _, rfl, by first | rfl | simp, HZ.out.symm, rfl⟩
  case round =>
    obtain ⟨j, hjk, rfl, rfl, hq, rfl⟩ := hrel
    have HQ := Lib.hid hq
    clear hq
    cases gk with
    | zero =>
      go_wp2
      go_ret
      exact ⟨ret_i (by rw [HQ.out]; rfl), rfl⟩
    | succ i =>
      have hi : i < l.length := by omega
      rcases HS.out with h0 | ⟨b, o, rfl, hl⟩
      · rw [h0] at hi; simp at hi
      · have c1 := hl i hi
        have HX : Hid (l[i]? = some l[i]) := List.getElem?_eq_getElem hi
        generalize l[i] = x at c1 HX
        have i1 : ((i + 1 : Nat) : Int) - 1 = (i : Int) := by omega
        have i2 : (0 : Int) ≤ (i : Int) := by omega
        have i3 : (i : Int) < (k : Int) := by omega
        rw [i1]
        by_cases hx : x.toNat = 10
        · have q1 : ((x.toNat : Int) == 10) = true := by simp [hx]
          have HX2 : Hid (x = 10) := UInt8.toNat_inj.1 hx
          clear hl hx
          go_wp2
          go_ret
          exact ⟨ret_i (by rw [HQ.out, lastI, HX.out, HX2.out, if_pos rfl]), rfl⟩
        · have q1 : ((x.toNat : Int) == 10) = false := by simp; omega
          have HX2 : Hid (x ≠ 10) := fun h => hx (by rw [h]; rfl)
          clear hl hx
          go_wp2
          go_roundg i
          case measure => omega
          case rel => exact ⟨i, by omega, rfl, by first | rfl | simp, by rw [HQ.out, lastI, HX.out, if_neg (fun h => HX2.out (Option.some.inj h))], rfl⟩

theorem lastI_wrap (a : Option Addr) (k c : Nat) (l : Bs) (w : World) (hk : k ≤ l.length) (hS : l = [] ∨ ∃ b o, a = some ⟨b, o, none⟩ ∧ Byt w b o l) (hm : l.length ≤ 140737488355328) :
    Calls Tryd.prog 47 #[.slice a k c, .int .u8 10] w fun e w' => e = .returned (.int .i64 (lastI k l)) ∧ w' = w := by
  have K := Lib.hid (lastIndex_any a k c l w hk hS hm)
  go_enter Tryd.func47, Tryd.ntmps47
  go_wp2_with fail
  refine K.out.mono ?_
  rintro e w2 ⟨rfl, rfl⟩
  go_wp2_with fail
  go_ret
  exact ⟨rfl, rfl⟩

/-- The place within the text. -/
def clamp (p : Int) (n : Nat) : Nat := (min (max p 0) (n : Int)).toNat
theorem clamp_le (p : Int) (n : Nat) : clamp p n ≤ n := by unfold clamp; omega
theorem clamp_eq (p : Int) (n : Nat) : min (max p 0) (n : Int) = (clamp p n : Int) := by unfold clamp; omega

theorem count_any (a : Option Addr) (k c d : Nat) (l : Bs) (w : World) (hk : k ≤ l.length) (hS : l = [] ∨ ∃ b o, a = some ⟨b, o, none⟩ ∧ Byt w b o l) (hc : a = none → k = 0 ∧ c = 0) (b2 : Nat) (h2 : w.cell? ⟨b2, 0, none⟩ = some (.int .u8 10)) :
    Calls Tryd.prog 46 #[.slice a k c, .slice (some ⟨b2, 0, none⟩) 1 d] w fun e w' => e = .returned (.int .i64 ((l.take k).count 10 : Nat)) ∧ w' = w := by
  cases a with
  | none =>
    obtain ⟨rfl, rfl⟩ := hc rfl
    exact (Tryd.bytes_Count_one_nil b2 0 d 10 w h2).mono fun e w' ⟨h3, h4⟩ => ⟨by rw [h3]; simp, h4⟩
  | some a =>
    have hl : (nums (l.take k)).length = k := by rw [nums_len]; simp; omega
    have := Tryd.bytes_Count_one_at a k c b2 0 d (nums (l.take k)) 10 w hl (fun i hi => by
      rcases hS with rfl | ⟨b, o, h5, h6⟩
      · simp at hk; omega
      · cases h5
        rw [WideShapes.add_plain, nums_get _ _ (by simp; omega)]
        exact h6.take k i (by simp; omega)) h2
    rw [nums_bytes] at this
    exact this.mono fun e w' ⟨h3, h4⟩ => ⟨h3, h4⟩

set_option maxRecDepth 100000 in
set_option maxHeartbeats 2000000 in
theorem line_any (a : Option Addr) (l : Bs) (c : Nat) (p : Int) (w : World) (hS : Src w a l c) (hn : a = none → c = 0) (hm : l.length ≤ 140737488351232) :
    Calls Tryd.prog 27 #[.slice a l.length c, .int .i64 p] w fun e w' => e = .returned (.tuple #[.int .i64 ((1 + (l.take (clamp p l.length)).count 10 : Nat) : Int), .int .i64 ((clamp p l.length : Int) - lastI (clamp p l.length) l)]) ∧ Below w.heap.size w w' := by
  have hk := clamp_le p l.length
  have hmx := clamp_eq p l.length
  generalize clamp p l.length = k at hk hmx
  have hll := lastI_le k l
  have hcc := hS.1
  have HB := Lib.hid (below1 w (.cells #[.int .u8 10] 5))
  have hS2 := (hS.below HB.out (Nat.le_refl _)).2
  have hc10 : (w.alloc (.cells #[.int .u8 10] 5)).cell? ⟨w.heap.size, 0, none⟩ = some (.int .u8 10) := by rw [cell_new]; rfl
  have KA := Lib.hid (count_any a k c 1 l (w.alloc (.cells #[.int .u8 10] 5)) hk hS2 (fun h => ⟨by have := hn h; omega, hn h⟩) w.heap.size hc10)
  have KB := Lib.hid (lastI_wrap a k c l (w.alloc (.cells #[.int .u8 10] 5)) hk hS2 (by omega))
  have hcnt : (l.take k).count 10 ≤ k := Nat.le_trans List.count_le_length (by simp; omega)
  generalize (l.take k).count 10 = N at KA hcnt
  generalize lastI k l = Z at KB hll
  generalize l.length = n at hmx hk hcc hm
  have k0 : (0 : Int) ≤ (k : Int) := by omega
  have k1 : (k : Int) ≤ (c : Int) := by omega
  have z1 : -1 ≤ Z := hll.1
  have z2 : Z < (k : Int) := hll.2
  clear hS hS2 hc10 hll hn
  go_enter Tryd.func27, Tryd.ntmps27
  go_wp2_with fail
  refine KA.out.mono ?_
  rintro e w2 ⟨rfl, h2⟩
  have h2' := h2.symm
  subst h2'
  go_wp2_with fail
  refine KB.out.mono ?_
  rintro e w3 ⟨rfl, h3⟩
  have h3' := h3.symm
  subst h3'
  go_wp2_with fail
  go_ret2
  refine ⟨ret_2 ?_ ?_, HB.out⟩
  · omega
  · first | rfl | (simp only [wrap64]; omega)

theorem count_take (l : Bs) (i : Nat) (x : UInt8) (h : l[i]? = some x) : (l.take (i + 1)).count 10 = (l.take i).count 10 + if x = 10 then 1 else 0 := by
  rw [List.take_add_one, h, Option.toList_some, List.count_append]
  congr 1
  by_cases hx : x = 10
  · subst hx; rfl
  · rw [if_neg hx]; simp [hx]

set_option maxRecDepth 100000 in
set_option maxHeartbeats 2000000 in
theorem rline_any (a : Option Addr) (l : Bs) (c : Nat) (p : Int) (w : World) (hS : Src w a l c) (hm : l.length ≤ 140737488351232) :
    Calls Tryd.prog 28 #[.slice a l.length c, .int .i64 p] w fun e w' => e = .returned (.tuple #[.int .i64 ((1 + (l.take (clamp p l.length)).count 10 : Nat) : Int), .int .i64 ((clamp p l.length : Int) - lastI (clamp p l.length) l)]) ∧ w' = w := by
  have hk := clamp_le p l.length
  have hmx := clamp_eq p l.length
  generalize clamp p l.length = k at hk hmx
  have HS := Lib.hid hS.2
  obtain ⟨N, hN⟩ : ∃ N : Nat, 1 + (l.take k).count 10 = N := ⟨_, rfl⟩
  obtain ⟨Z, hZ⟩ : ∃ Z : Int, (k : Int) - lastI k l = Z := ⟨_, rfl⟩
  rw [hN, hZ]
  have HN := Lib.hid hN
  have HZ := Lib.hid hZ
  obtain ⟨n, hn⟩ : ∃ n, l.length = n := ⟨_, rfl⟩
  have HL := Lib.hid hn
  rw [hn] at hmx hk hm ⊢
  clear hS hN hZ hn
  go_enter Tryd.func28, Tryd.ntmps28
  go_wp2
  go_loopg [6, 7, 8] k (fun gk s6 s7 s8 wx => ∃ j : Nat, j ≤ k ∧ gk = k - j ∧ s8 = .int .i64 j ∧ s6 = .int .i64 ((1 + (l.take j).count 10 : Nat) : Int) ∧ s7 = .int .i64 ((j : Int) - lastI j l) ∧ wx = w)
  case atStart => exact ⟨0, Nat.zero_le _, rfl, rfl, rfl, rfl, rfl⟩
  case round =>
    obtain ⟨j, hjk, rfl, rfl, rfl, rfl, rfl⟩ := hrel
    have hcnt : (l.take j).count 10 ≤ j := Nat.le_trans List.count_le_length (by simp; omega)
    have hll := lastI_le j l
    by_cases hj : j = k
    · subst hj
      rw [HN.out, HZ.out]
      clear hcnt hll
      go_wp2
      go_ret2
      exact ⟨rfl, rfl⟩
    · have hi : j < l.length := by have := HL.out; omega
      rcases HS.out with h0 | ⟨b, o, rfl, hl⟩
      · rw [h0] at hi; simp at hi
      · have c1 := hl j hi
        have HX : Hid (l[j]? = some l[j]) := List.getElem?_eq_getElem hi
        generalize l[j] = x at c1 HX
        have i2 : (0 : Int) ≤ (j : Int) := by omega
        have i3 : (j : Int) < (k : Int) := by omega
        have i4 : (j : Int) < (n : Int) := by omega
        obtain ⟨M, hM⟩ : ∃ M : Nat, 1 + (l.take j).count 10 = M := ⟨_, rfl⟩
        obtain ⟨Y, hY⟩ : ∃ Y : Int, (j : Int) - lastI j l = Y := ⟨_, rfl⟩
        have hM2 : M ≤ j + 1 := by omega
        have hY2 : 1 ≤ Y ∧ Y ≤ (j : Int) + 1 := by omega
        rw [hM, hY]
        have HM := Lib.hid hM
        have HY := Lib.hid hY
        clear hM hY hcnt hll hl
        by_cases hx : x.toNat = 10
        · have q1 : ((x.toNat : Int) == 10) = true := by simp [hx]
          have HX2 : Hid (x = 10) := UInt8.toNat_inj.1 hx
          clear hx
          go_wp2
          go_roundg (k - (j + 1))
          case measure => omega
          case rel =>
            refine ⟨j + 1, by omega, rfl, by first | rfl | simp, ?_, ?_, rfl⟩
            · rw [count_take l j x HX.out, if_pos HX2.out]
              have := HM.out
              congr 1; omega
            · rw [lastI, HX.out, HX2.out, if_pos rfl]
              congr 1; omega
        · have q1 : ((x.toNat : Int) == 10) = false := by simp; omega
          have HX2 : Hid (x ≠ 10) := fun h => hx (by rw [h]; rfl)
          clear hx
          go_wp2
          go_roundg (k - (j + 1))
          case measure => omega
          case rel =>
            refine ⟨j + 1, by omega, rfl, by first | rfl | simp, ?_, ?_, rfl⟩
            · rw [count_take l j x HX.out, if_neg HX2.out]
              have := HM.out
              congr 1; omega
            · rw [lastI, HX.out, if_neg (fun h => HX2.out (Option.some.inj h))]
              have := HY.out
              congr 1; omega
end Go.Proofs.YteohpiamfpnofaaDoor
