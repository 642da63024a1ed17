/- Rows of numbers that one call grows, and how many tokens are given in so many ticks; no condition but those that each theorem names. -/
import Derived.Test.YtbaalkkhbcclnaaLawMo
import Derived.Maps.AppendAt
namespace Go.Proofs.Ytbaalkkhbcclnaa
open Go.RowKit

theorem row_keep {w w' : World} {base : Nat} {e : TypeId} {s : Nat} {v : Value} {n : Nat} {xs : List Value} (h : w.ownsRow base e s v n xs) (hk : ∀ g, base ≤ g → g < w.heap.size → w'.heap[g]? = w.heap[g]?) : w'.ownsRow base e s v n xs := by
  refine ⟨h.1, ?_⟩
  rcases h.2 with hn | ⟨g, cap, cur, hv, hb, hg, rest⟩
  · exact .inl hn
  · exact .inr ⟨g, cap, cur, hv, hb, (hk g hb (Array.getElem?_eq_some_iff.1 hg).1).trans hg, rest⟩
theorem row_cell {w : World} {base : Nat} {e : TypeId} {v : Value} {xs : List Int} (h : w.ownsRow base e 1 v xs.length (xs.map (Value.int .i64))) (hp : 0 < xs.length) :
    ∃ g cap, v = .slice (some ⟨g, 0, none⟩) xs.length cap ∧ base ≤ g ∧ g < w.heap.size ∧ ∀ j, j < xs.length → w.cell? ⟨g, j, none⟩ = some (.int .i64 (xs.getD j 0)) := by
  rcases h.2 with ⟨_, hn⟩ | ⟨g, cap, cur, hv, hb, hg, hnc, hm, hcs, htk⟩
  · omega
  · refine ⟨g, cap, hv, hb, (Array.getElem?_eq_some_iff.1 hg).1, fun j hj => ?_⟩
    have h1 : (cur.toList.take (xs.length * 1))[j]? = (xs.map (Value.int .i64))[j]? := by rw [htk]
    rw [List.getElem?_take, if_pos (by omega), List.getElem?_map, List.getElem?_eq_getElem hj] at h1
    simp only [Option.map_some, Array.getElem?_toList] at h1
    simp [World.cell?, hg, h1, List.getD_eq_getElem?_getD, List.getElem?_eq_getElem hj]

/-- How many parts have gone since each token. -/
structure Bd (at' : List Int) (L l a b : Int) : Prop where
  ft : Ft L l a b l
  rng : ∀ k, k < at'.length → 0 ≤ at'.getD k 0 ∧ at'.getD k 0 ≤ l
  since : ∀ k, k < at'.length → L + ((at'.length : Int) - k) * b ≤ a * b + a * (l - at'.getD k 0)
  pair : ∀ i k, k ≤ i → i < at'.length → at'.getD k 0 ≤ at'.getD i 0 ∧ ((i : Int) - k + 1) * b ≤ a * b + a * (at'.getD i 0 - at'.getD k 0)
theorem Bd.nil {L l a b : Int} (h : Ft L l a b l) : Bd [] L l a b := ⟨h, fun k hk => absurd hk (by simp), fun k hk => absurd hk (by simp), fun i k _ hk => absurd hk (by simp)⟩
theorem Bd.lvle {L l a b n : Int} (hn : l ≤ n) : lv L l a b n ≤ L + a * (n - l) := by
  unfold lv; rw [show max l n - l = n - l by omega]; omega
theorem Bd.no {at' : List Int} {L l a b n : Int} (h : Bd at' L l a b) (hn : l ≤ n) (h2 : n ≤ 1099511627776) : Bd at' (lv L l a b n) n a b := by
  have h0 := h.ft.l1
  have f := (h.ft.at (m := n) (by omega) h2)
  have h3 := f.lv0
  refine ⟨⟨f.a1, f.a2, f.b1, f.b2, h3.1, h3.2, by omega, h2, by omega, h2⟩, fun k hk => ?_, fun k hk => ?_, h.pair⟩
  · have := h.rng k hk; omega
  · have h4 := h.since k hk
    have h5 := Bd.lvle (L := L) (a := a) (b := b) hn
    have h6 : a * (n - at'.getD k 0) = a * (n - l) + a * (l - at'.getD k 0) := by rw [← Int.mul_add]; congr 1; omega
    omega
theorem getD_old (l : List Int) (x : Int) (k : Nat) (h : k < l.length) : (l ++ [x]).getD k 0 = l.getD k 0 := by
  simp [List.getD_eq_getElem?_getD, List.getElem?_append_left h]
theorem getD_new (l : List Int) (x : Int) : (l ++ [x]).getD l.length 0 = x := by
  simp [List.getD_eq_getElem?_getD]
theorem Bd.yes {at' : List Int} {L l a b n : Int} (h : Bd at' L l a b) (hn : l ≤ n) (h2 : n ≤ 1099511627776) (hb : ¬ lv L l a b n < b) : Bd (at' ++ [n]) (lv L l a b n - b) n a b := by
  have g := h.no hn h2
  have h0 := h.ft.l1
  have h3 := g.ft.L2
  have h4 := g.ft.b1
  have hl : ((at' ++ [n]).length : Int) = at'.length + 1 := by simp
  refine ⟨⟨g.ft.a1, g.ft.a2, g.ft.b1, g.ft.b2, by omega, by omega, by omega, h2, by omega, h2⟩, fun k hk => ?_, fun k hk => ?_, fun i k hki hi => ?_⟩
  · by_cases hk' : k < at'.length
    · rw [getD_old _ _ _ hk']; exact g.rng k hk'
    · have : k = at'.length := by simp at hk; omega
      rw [this, getD_new]; omega
  · rw [hl]
    by_cases hk' : k < at'.length
    · rw [getD_old _ _ _ hk']
      have := g.since k hk'
      rw [show (at'.length : Int) + 1 - k = (at'.length - k) + 1 by omega, Int.add_mul]
      omega
    · have : k = at'.length := by simp at hk; omega
      rw [this, getD_new, Int.sub_self, Int.mul_zero, show (at'.length : Int) + 1 - at'.length = 1 by omega]
      omega
  · by_cases hi' : i < at'.length
    · rw [getD_old _ _ _ hi', getD_old _ _ _ (by omega)]; exact h.pair i k hki hi'
    · have : i = at'.length := by simp at hi; omega
      rw [this, getD_new]
      by_cases hk' : k < at'.length
      · rw [getD_old _ _ _ hk']
        have h5 := g.rng k hk'
        have h6 := g.since k hk'
        rw [Int.add_mul]
        exact ⟨h5.2, by omega⟩
      · have hk2 : k = at'.length := by omega
        rw [hk2, getD_new, Int.sub_self, Int.sub_self, Int.mul_zero]
        have h7 : 1 * b ≤ a * b := Int.mul_le_mul_of_nonneg_right g.ft.a1 (by omega)
        exact ⟨by omega, by omega⟩
/-- No more than that. -/
theorem Bd.end {at' : List Int} {L l a b : Int} (h : Bd at' L l a b) (i k : Nat) (hk : k ≤ i) (hi : i < at'.length) : ¬ a + ((at'.getD i 0 - at'.getD k 0) * a) / b < (i : Int) - k + 1 := by
  have h1 := (h.pair i k hk hi).2
  have h2 := h.ft.b1
  have h3 : ((i : Int) - k + 1 - a) ≤ ((at'.getD i 0 - at'.getD k 0) * a) / b := (Int.le_ediv_iff_mul_le (by omega)).2 (by rw [Int.sub_mul, Int.mul_comm (at'.getD i 0 - at'.getD k 0) a]; omega)
  omega
end Go.Proofs.Ytbaalkkhbcclnaa
