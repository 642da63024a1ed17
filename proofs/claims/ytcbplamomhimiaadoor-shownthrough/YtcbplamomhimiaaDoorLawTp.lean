/- A wrapper that lets all through, put right around a level: what is shown, who answers, what is reached; plain; no condition but those that each theorem names. -/
import Derived.Test.YtcbplamomhimiaaDoorLawMc
import Derived.Test.YtcbplamomhimiaaDoorLawE
namespace Go.Proofs.YtcbplamomhimiaaDoor
open Go.RowKit

/-- The chain with one wrapper more, right around level k. -/
def ins (qs : List Wq) (k : Nat) (t : Wq) : List Wq := qs.take k ++ t :: qs.drop k
theorem ins_len (qs : List Wq) (k : Nat) (t : Wq) (h : k ≤ qs.length) : (ins qs k t).length = qs.length + 1 := by unfold ins; simp; omega
theorem ins_lo (qs : List Wq) (k : Nat) (t : Wq) (h : k ≤ qs.length) (j : Nat) (hj : j < k) (h2 : j < (ins qs k t).length) : (ins qs k t)[j] = qs[j] := by
  have e : (qs.take k ++ t :: qs.drop k)[j]'h2 = qs[j] := (List.getElem_append_left (by simp; omega)).trans (by simp)
  exact e
theorem ins_at (qs : List Wq) (k : Nat) (t : Wq) (h : k ≤ qs.length) (h2 : k < (ins qs k t).length) : (ins qs k t)[k] = t := by
  have e : (qs.take k ++ t :: qs.drop k)[k]'h2 = t := (List.getElem_append_right (by simp; omega)).trans (by simp [Nat.min_eq_left h])
  exact e
theorem ins_hi (qs : List Wq) (k : Nat) (t : Wq) (h : k ≤ qs.length) (j : Nat) (hj : k ≤ j) (hj2 : j < qs.length) (h2 : j + 1 < (ins qs k t).length) : (ins qs k t)[j + 1] = qs[j] := by
  have e : (qs.take k ++ t :: qs.drop k)[j + 1]'h2 = qs[j] := by
    refine (List.getElem_append_right (by simp; omega)).trans ?_
    have e1 : j + 1 - (qs.take k).length = (j - k) + 1 := by simp; omega
    have e2 : (t :: qs.drop k)[j + 1 - (qs.take k).length]? = some qs[j] := by
      rw [e1, List.getElem?_cons_succ, List.getElem?_drop, show k + (j - k) = j by omega, List.getElem?_eq_getElem hj2]
    exact (List.getElem?_eq_some_iff.1 e2).2
  exact e
theorem ins_rv (qs : List Wq) (k : Nat) (t : Wq) (h : k ≤ qs.length) (j : Nat) (hj : j ≤ k) : rv (ins qs k t) j = rv qs j := by
  unfold rv ins
  rw [List.take_append_of_le_length (by simp; omega), List.take_take, Nat.min_eq_left hj]
theorem ins_rvk (qs : List Wq) (k : Nat) (t : Wq) (h : k ≤ qs.length) : rv (ins qs k t) (k + 1) = t.x :: rv qs k := by
  have hl := ins_len qs k t h
  rw [rv_succ _ k (by omega), ins_at qs k t h, ins_rv qs k t h k (Nat.le_refl _)]
theorem ins_rvs (qs : List Wq) (k : Nat) (t : Wq) (h : k ≤ qs.length) (j : Nat) (hj : k ≤ j) (hj2 : j < qs.length) : rv (ins qs k t) (j + 1 + 1) = qs[j].x :: rv (ins qs k t) (j + 1) := by
  have hl := ins_len qs k t h
  rw [rv_succ _ (j + 1) (by omega), ins_hi qs k t h j hj hj2]
/-- Is the level a wrapper that is open? -/
def opk (qs : List Wq) (k : Nat) : Bool := match rv qs k with | [] => false | x :: _ => x.on
def tq (o : Bool) : Wq := ⟨⟨1, 0, o⟩, 0, 0, 0, 0, none, 0, 0⟩

theorem bit1024 (i : Nat) : (1024 : Nat).testBit i = decide (i = 10) := by
  have e : (1024 : Nat) = 2 ^ 10 := rfl
  rw [e, Nat.testBit_two_pow]
  by_cases h : i = 10
  · subst h; rfl
  · rw [decide_eq_false h, decide_eq_false (fun e => h e.symm)]
theorem open_back (s : Nat) (o : Bool) (hs : s < 4294967296) (h : s.testBit 10 = o) : kp ⟨1, 0, o⟩ s ||| giv ⟨1, 0, o⟩ = s := by
  have e : kp ⟨1, 0, o⟩ s = andN s 1024 := by simp [kp]
  refine Nat.eq_of_testBit_eq fun i => ?_
  rw [e, Nat.testBit_or, bit_andN _ _ hs, bit1024]
  by_cases hi : i = 10
  · subst hi
    rw [h]
    cases o
    · have : giv ⟨1, 0, false⟩ = 0 := by simp [giv, own]
      rw [this]; simp
    · have : giv ⟨1, 0, true⟩ = 1024 := by simp [giv, own]
      rw [this]; decide
  · rw [decide_eq_false hi]
    have hg : (giv ⟨1, 0, o⟩).testBit i = false := by
      cases o
      · have : giv ⟨1, 0, false⟩ = 0 := by simp [giv, own]
        rw [this]; simp
      · have : giv ⟨1, 0, true⟩ = 1024 := by simp [giv, own]
        rw [this, bit1024, decide_eq_false hi]
    rw [hg]; simp
theorem sh_opk {c : Nat} (hc : c < 1024) (qs : List Wq) (hq : ∀ q ∈ qs, okr q.x) (k : Nat) : (sh c (rv qs k)).testBit 10 = opk qs k := by
  have hcp : ∀ x ∈ rv qs k, x.cp < 1024 := fun x hx => by obtain ⟨q, hq', rfl⟩ := rv_mem qs k x hx; exact (hq q hq').2.2
  unfold opk
  cases hr : rv qs k with
  | nil => exact lt_bit (n := 10) hc (Nat.le_refl _)
  | cons x r => rw [hr] at hcp; exact sh_open hc hcp
theorem ins_sh {c : Nat} (hc : c < 1024) (qs : List Wq) (hq : ∀ q ∈ qs, okr q.x) (k : Nat) (hk : k ≤ qs.length) : ∀ d, k + d ≤ qs.length → sh c (rv (ins qs k (tq (opk qs k))) (k + d + 1)) = sh c (rv qs (k + d))
  | 0, _ => by
    have hcp : ∀ x ∈ rv qs k, x.cp < 1024 := fun x hx => by obtain ⟨q, hq', rfl⟩ := rv_mem qs k x hx; exact (hq q hq').2.2
    show sh c (rv (ins qs k (tq (opk qs k))) (k + 1)) = sh c (rv qs k)
    rw [ins_rvk qs k _ hk]
    exact open_back _ _ (by have := sh_lt (c := c) (by omega) hcp; omega) (sh_opk hc qs hq k)
  | d + 1, h => by
    have ih := ins_sh hc qs hq k hk d (by omega)
    rw [show k + (d + 1) + 1 = (k + d) + 1 + 1 by omega, ins_rvs qs k _ hk (k + d) (by omega) (by omega), show k + (d + 1) = (k + d) + 1 by omega, rv_succ qs (k + d) (by omega)]
    show kp _ (sh c (rv (ins qs k _) (k + d + 1))) ||| _ = kp _ (sh c (rv qs (k + d))) ||| _
    rw [ih]

/-- A level's number, where one was put in above k. -/
def mv (k : Nat) (a : Nat) : Nat := if k < a then a + 1 else a
def mvI (k : Nat) (a : Int) : Int := if (k : Int) < a then a + 1 else a
theorem mv_mvI (k a : Nat) : ((mv k a : Nat) : Int) = mvI k (a : Nat) := by
  unfold mv mvI
  by_cases h : k < a
  · rw [if_pos h, if_pos (by omega)]; omega
  · rw [if_neg h, if_neg (by omega)]
theorem an_le (qs : List Wq) (κ : Int) : ∀ j, j ≤ qs.length → an (rv qs j) κ ≤ j
  | 0, _ => Nat.le_refl _
  | j + 1, h => by
    have := an_le qs κ j (by omega)
    rw [rv_succ qs j (by omega)]
    show (if _ then (rv qs j).length + 1 else an (rv qs j) κ) ≤ j + 1
    rw [rv_len qs j (by omega)]
    split
    · exact Nat.le_refl _
    · exact Nat.le_succ_of_le this
theorem ins_an (qs : List Wq) (k : Nat) (o : Bool) (hk : k ≤ qs.length) (κ : Nat) (hκ : κ < 10) : ∀ d, k + d ≤ qs.length → an (rv (ins qs k (tq o)) (k + d + 1)) κ = mv k (an (rv qs (k + d)) κ)
  | 0, _ => by
    have hle := an_le qs κ k hk
    show an (rv (ins qs k (tq o)) (k + 1)) κ = mv k (an (rv qs k) κ)
    rw [ins_rvk qs k _ hk]
    have hg : hs (giv (tq o).x) κ = false := by
      rw [hs_nat _ κ (by omega)]
      cases o
      · have : giv (tq false).x = 0 := by simp [giv, own, tq]
        rw [this]; simp
      · have : giv (tq true).x = 1024 := by simp [giv, own, tq]
        rw [this, bit1024, decide_eq_false (by omega)]
    show (if hs (giv (tq o).x) κ = true then _ else an (rv qs k) κ) = _
    rw [hg, if_neg (by simp)]
    unfold mv; rw [if_neg (by omega)]
  | d + 1, h => by
    have ih := ins_an qs k o hk κ hκ d (by omega)
    have hl := ins_len qs k (tq o) hk
    rw [show k + (d + 1) + 1 = (k + d) + 1 + 1 by omega, ins_rvs qs k _ hk (k + d) (by omega) (by omega), show k + (d + 1) = (k + d) + 1 by omega, rv_succ qs (k + d) (by omega)]
    show (if hs (giv _) κ = true then (rv (ins qs k _) (k + d + 1)).length + 1 else an (rv (ins qs k _) (k + d + 1)) κ) = mv k (if hs (giv _) κ = true then (rv qs (k + d)).length + 1 else an (rv qs (k + d)) κ)
    rw [rv_len _ _ (by omega), rv_len _ _ (by omega), ih]
    split
    · unfold mv; rw [if_pos (by omega)]
    · rfl
theorem ins_who {c : Nat} (hc : c < 1024) (qs : List Wq) (hq : ∀ q ∈ qs, okr q.x) (k : Nat) (hk : k ≤ qs.length) (κ : Nat) (hκ : κ < 10) (d : Nat) (hd : k + d ≤ qs.length) : who c (rv (ins qs k (tq (opk qs k))) (k + d + 1)) κ = mvI k (who c (rv qs (k + d)) κ) := by
  unfold who
  rw [ins_sh hc qs hq k hk d hd, ins_an qs k _ hk κ hκ d hd]
  split
  · exact mv_mvI _ _
  · unfold mvI; rw [if_neg (by omega)]
theorem who_le (c : Nat) (qs : List Wq) (κ : Int) (j : Nat) (h : j ≤ qs.length) : who c (rv qs j) κ ≤ j := by
  have := an_le qs κ j h
  unfold who; split <;> omega
theorem rch_le (c : Nat) (qs : List Wq) (κ : Int) : ∀ j, j ≤ qs.length → rch c (rv qs j) κ ≤ j
  | 0, h => who_le c qs κ 0 h
  | j + 1, h => by
    have h1 := who_le c qs κ (j + 1) h
    have h2 := rch_le c qs κ j (by omega)
    rw [rv_succ qs j (by omega)] at h1 ⊢
    unfold rch
    split
    · exact h1
    · split <;> omega
theorem mvI_pos (k : Nat) (a : Int) : 0 ≤ mvI k a ↔ 0 ≤ a := by unfold mvI; split <;> omega
theorem ins_rch {c : Nat} (hc : c < 1024) (qs : List Wq) (hq : ∀ q ∈ qs, okr q.x) (k : Nat) (hk : k ≤ qs.length) (κ : Nat) (hκ : κ < 10) : ∀ d, k + d ≤ qs.length → rch c (rv (ins qs k (tq (opk qs k))) (k + d + 1)) κ = mvI k (rch c (rv qs (k + d)) κ)
  | 0, _ => by
    have hw : who c (rv (ins qs k (tq (opk qs k))) (k + 1)) κ = mvI k (who c (rv qs k) κ) := ins_who hc qs hq k hk κ hκ 0 hk
    have hle := rch_le c qs κ k hk
    have hwl := who_le c qs κ k hk
    show rch c (rv (ins qs k (tq (opk qs k))) (k + 1)) κ = mvI k (rch c (rv qs k) κ)
    rw [ins_rvk qs k _ hk] at hw ⊢
    have em : mvI k (rch c (rv qs k) κ) = rch c (rv qs k) κ := by unfold mvI; rw [if_neg (by omega)]
    rw [em]
    have ew : mvI k (who c (rv qs k) κ) = who c (rv qs k) κ := by unfold mvI; rw [if_neg (by omega)]
    rw [ew] at hw
    show (if 0 ≤ who c ((tq (opk qs k)).x :: rv qs k) κ then who c ((tq (opk qs k)).x :: rv qs k) κ else if (tq (opk qs k)).x.on = true then rch c (rv qs k) κ else -1) = _
    rw [hw]
    by_cases h0 : 0 ≤ who c (rv qs k) κ
    · rw [if_pos h0, rch_who h0]
    · rw [if_neg h0]
      show (if opk qs k = true then rch c (rv qs k) κ else -1) = _
      unfold opk
      cases hr : rv qs k with
      | nil =>
        rw [if_neg (by simp)]
        rw [hr] at h0
        exact (who_neg h0).symm
      | cons x r =>
        show (if x.on = true then rch c (x :: r) κ else -1) = _
        by_cases hx : x.on = true
        · rw [if_pos hx]
        · rw [if_neg hx]; unfold rch; rw [hr] at h0; rw [if_neg h0, if_neg hx]
  | d + 1, h => by
    have ih := ins_rch hc qs hq k hk κ hκ d (by omega)
    have hw := ins_who hc qs hq k hk κ hκ (d + 1) h
    rw [show k + (d + 1) + 1 = (k + d) + 1 + 1 by omega, ins_rvs qs k _ hk (k + d) (by omega) (by omega), show k + (d + 1) = (k + d) + 1 by omega, rv_succ qs (k + d) (by omega)] at hw ⊢
    show (if 0 ≤ who c (_ :: _) κ then who c (_ :: _) κ else if _ then rch c (rv (ins qs k _) (k + d + 1)) κ else -1) = mvI k (if 0 ≤ who c (_ :: _) κ then who c (_ :: _) κ else if _ then rch c (rv qs (k + d)) κ else -1)
    rw [hw, ih]
    by_cases h0 : 0 ≤ who c (qs[k + d].x :: rv qs (k + d)) κ
    · rw [if_pos ((mvI_pos k _).2 h0), if_pos h0]
    · rw [if_neg (fun h => h0 ((mvI_pos k _).1 h)), if_neg h0]
      split
      · rfl
      · unfold mvI; rw [if_neg (by omega)]
end Go.Proofs.YtcbplamomhimiaaDoor
