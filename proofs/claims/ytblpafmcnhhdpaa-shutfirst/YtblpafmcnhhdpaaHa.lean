/- Heaps of numbers, in plain words: the least one comes first; no condition but those that each theorem names. -/
import Derived.Test.YtblpafmcnhhdpaaUe
namespace Go.Proofs.Ytblpafmcnhhdpaa
open Go.RowKit

/-- c hangs on p. -/
def Ch (p c : Nat) : Prop := c = 2 * p + 1 ∨ c = 2 * p + 2
/-- None is less than the one that it hangs on. -/
def Hp (n : Nat) (f : Nat → Nat) : Prop := ∀ p c, Ch p c → c < n → f p ≤ f c
/-- So it is but under i. -/
def Sk (n : Nat) (f : Nat → Nat) (i : Nat) : Prop := (∀ p c, p ≠ i → Ch p c → c < n → f p ≤ f c) ∧ ∀ p c, Ch p i → Ch i c → c < n → f p ≤ f c
/-- So it is but above j. -/
def Su (n : Nat) (f : Nat → Nat) (j : Nat) : Prop := (∀ p c, c ≠ j → Ch p c → c < n → f p ≤ f c) ∧ ∀ p c, Ch p j → Ch j c → c < n → f p ≤ f c
def sp (f : Nat → Nat) (i j : Nat) : Nat → Nat := fun q => if q = i then f j else if q = j then f i else f q
/-- The least under i. -/
def Fm (n : Nat) (f : Nat → Nat) (i c : Nat) : Prop := Ch i c ∧ c < n ∧ ∀ d, Ch i d → d < n → f c ≤ f d
theorem sp_l (f : Nat → Nat) (i j : Nat) : sp f i j i = f j := by simp [sp]
theorem sp_r (f : Nat → Nat) (i j : Nat) (h : i ≠ j) : sp f i j j = f i := by unfold sp; rw [if_neg (fun e => h e.symm), if_pos rfl]
theorem sp_o (f : Nat → Nat) (i j q : Nat) (h : q ≠ i) (h' : q ≠ j) : sp f i j q = f q := by unfold sp; rw [if_neg h, if_neg h']
theorem Sk.step {n : Nat} {f : Nat → Nat} {i c : Nat} (h : Sk n f i) (hc : Fm n f i c) (ha : f c < f i) : Sk n (sp f i c) c := by
  obtain ⟨h1, h2⟩ := h
  obtain ⟨c1, c2, c3⟩ := hc
  have hic : i < c := by unfold Ch at c1; omega
  refine ⟨fun p d hne hd hn => ?_, fun p d hpc hd hn => ?_⟩
  · by_cases e : p = i
    · subst e
      rw [sp_l]
      by_cases e2 : d = c
      · subst e2; rw [sp_r _ _ _ (by omega)]; omega
      · rw [sp_o _ _ _ _ (by unfold Ch at hd; omega) e2]
        exact c3 d hd hn
    · rw [sp_o _ _ _ p e hne]
      by_cases e2 : d = i
      · subst e2
        rw [sp_l]
        exact h2 p c hd c1 c2
      · rw [sp_o _ _ _ d e2 (by unfold Ch at hd c1; omega)]
        exact h1 p d e hd hn
  · have e : p = i := by unfold Ch at hpc c1; omega
    subst e
    rw [sp_l, sp_o _ _ _ d (by unfold Ch at hd; omega) (by unfold Ch at hd; omega)]
    exact h1 c d (by omega) hd hn
theorem Sk.done {n : Nat} {f : Nat → Nat} {i c : Nat} (h : Sk n f i) (hc : Fm n f i c) (ha : ¬ f c < f i) : Hp n f := fun p d hd hn => by
  by_cases e : p = i
  · subst e
    have := hc.2.2 d hd hn
    omega
  · exact h.1 p d e hd hn
theorem Sk.none {n : Nat} {f : Nat → Nat} {i : Nat} (h : Sk n f i) (hn : n ≤ 2 * i + 1) : Hp n f := fun p d hd hd2 => by
  by_cases e : p = i
  · subst e
    unfold Ch at hd
    omega
  · exact h.1 p d e hd hd2
theorem Su.step {n : Nat} {f : Nat → Nat} {i j : Nat} (h : Su n f j) (hij : Ch i j) (hj : j < n) (ha : f j < f i) : Su n (sp f i j) i := by
  obtain ⟨h1, h2⟩ := h
  have hlt : i < j := by unfold Ch at hij; omega
  refine ⟨fun p c hne hc hn => ?_, fun p c hp hc hn => ?_⟩
  · by_cases e : c = j
    · subst e
      have e2 : p = i := by unfold Ch at hc hij; omega
      subst e2
      rw [sp_l, sp_r _ _ _ (by omega)]
      omega
    · rw [sp_o _ _ _ c hne e]
      by_cases e2 : p = i
      · subst e2
        rw [sp_l]
        have := h1 p c e hc hn
        omega
      · by_cases e3 : p = j
        · subst e3
          rw [sp_r _ _ _ (by omega)]
          exact h2 i c hij hc hn
        · rw [sp_o _ _ _ p e2 e3]
          exact h1 p c e hc hn
  · have a1 : p ≠ i := by unfold Ch at hp; omega
    have a2 : p ≠ j := by unfold Ch at hp; omega
    rw [sp_o _ _ _ p a1 a2]
    have h3 := h1 p i (by omega) hp (by omega)
    by_cases e : c = j
    · subst e
      rw [sp_r _ _ _ (by omega)]
      exact h3
    · rw [sp_o _ _ _ c (by unfold Ch at hc; omega) e]
      have := h1 i c e hc hn
      omega
theorem Su.done {n : Nat} {f : Nat → Nat} {i j : Nat} (h : Su n f j) (hij : Ch i j) (ha : ¬ f j < f i) : Hp n f := fun p c hc hn => by
  by_cases e : c = j
  · subst e
    have e2 : p = i := by unfold Ch at hc hij; omega
    subst e2
    omega
  · exact h.1 p c e hc hn
theorem Su.top {n : Nat} {f : Nat → Nat} (h : Su n f 0) : Hp n f := fun p c hc hn => h.1 p c (by unfold Ch at hc; omega) hc hn
theorem Hp.first {n : Nat} {f : Nat → Nat} (h : Hp n f) : ∀ q, q < n → f 0 ≤ f q := by
  intro q
  induction q using Nat.strongRecOn with
  | ind q ih =>
    intro hq
    by_cases h0 : q = 0
    · subst h0; exact Nat.le_refl _
    · have h1 := ih ((q - 1) / 2) (by omega) (by omega)
      have h2 := h ((q - 1) / 2) q (by unfold Ch; omega) hq
      omega
theorem Hp.congr {n : Nat} {f g : Nat → Nat} (h : Hp n f) (e : ∀ q, q < n → f q = g q) : Hp n g := fun p c hc hn => by
  rw [← e p (by unfold Ch at hc; omega), ← e c hn]
  exact h p c hc hn
/-- What stands at a place. -/
def gt (F : List Nat) (q : Nat) : Nat := (F[q]?).getD 0
def swl (F : List Nat) (i j : Nat) : List Nat := (F.set i (gt F j)).set j (gt F i)
theorem gt_is {F : List Nat} {q : Nat} (h : q < F.length) : F[q]? = some (gt F q) := by unfold gt; rw [List.getElem?_eq_getElem h]; rfl
theorem swl_len (F : List Nat) (i j : Nat) : (swl F i j).length = F.length := by simp [swl]
theorem swl_gt {F : List Nat} {i j : Nat} (hi : i < F.length) (hj : j < F.length) (q : Nat) : gt (swl F i j) q = sp (gt F) i j q := by
  unfold swl sp
  by_cases e : q = i
  · subst e
    rw [if_pos rfl]
    by_cases e2 : q = j
    · subst e2; unfold gt; simp [hi]
    · conv => lhs; unfold gt
      rw [List.getElem?_set_ne (fun e => e2 e.symm), List.getElem?_set_self hi]
      rfl
  · rw [if_neg e]
    by_cases e2 : q = j
    · subst e2
      rw [if_pos rfl]
      conv => lhs; unfold gt
      rw [List.getElem?_set_self (by simpa using hj)]
      rfl
    · rw [if_neg e2]
      conv => lhs; unfold gt
      rw [List.getElem?_set_ne (fun e => e2 e.symm), List.getElem?_set_ne (fun e3 => e e3.symm)]
      rfl
theorem swl_perm {F : List Nat} {i j : Nat} (hi : i < F.length) (hj : j < F.length) : (swl F i j).Perm F := by
  have := @List.set_set_perm _ F i j hi hj
  unfold swl gt
  rw [List.getElem?_eq_getElem hi, List.getElem?_eq_getElem hj]
  exact this
theorem Sk.congr {n : Nat} {f g : Nat → Nat} {i : Nat} (h : Sk n f i) (e : ∀ q, f q = g q) : Sk n g i := by
  have : f = g := funext e
  exact this ▸ h
theorem Su.congr {n : Nat} {f g : Nat → Nat} {i : Nat} (h : Su n f i) (e : ∀ q, f q = g q) : Su n g i := by
  have : f = g := funext e
  exact this ▸ h
/-- The last one put to the front: a heap but under the front. -/
theorem Hp.pop {F : List Nat} {m : Nat} (h : Hp F.length (gt F)) (hm : F.length = m + 1) : Sk m (gt (swl F 0 m)) 0 := by
  refine ⟨fun p c hp hc hn => ?_, fun p c hp _ _ => by unfold Ch at hp; omega⟩
  rw [swl_gt (by omega) (by omega), swl_gt (by omega) (by omega), sp_o _ _ _ p hp (by unfold Ch at hc; omega), sp_o _ _ _ c (by unfold Ch at hc; omega) (by omega)]
  exact h p c hc (by omega)
theorem gt_app (F : List Nat) (k q : Nat) (h : q < F.length) : gt (F ++ [k]) q = gt F q := by unfold gt; rw [List.getElem?_append_left h]
theorem Hp.push {F : List Nat} (h : Hp F.length (gt F)) (k : Nat) : Su (F.length + 1) (gt (F ++ [k])) F.length := by
  refine ⟨fun p c hne hc hn => ?_, fun p c _ hc hn => by unfold Ch at hc; omega⟩
  rw [gt_app _ _ _ (by unfold Ch at hc; omega), gt_app _ _ _ (by omega)]
  exact h p c hc (by omega)
theorem gt_take (F : List Nat) (m q : Nat) (h : q < m) : gt (F.take m) q = gt F q := by unfold gt; rw [List.getElem?_take, if_pos h]
/-- Rising rows are heaps. -/
theorem hp_rising {F : List Nat} (h : F.Pairwise (· ≤ ·)) : Hp F.length (gt F) := fun p c hc hn => by
  have hp : p < F.length := by unfold Ch at hc; omega
  unfold gt
  rw [List.getElem?_eq_getElem hp, List.getElem?_eq_getElem hn]
  exact List.pairwise_iff_getElem.1 h p c hp hn (by unfold Ch at hc; omega)
theorem take_last {F : List Nat} {m : Nat} (hm : F.length = m + 1) : F = F.take m ++ [gt F m] := by
  have h := gt_is (F := F) (q := m) (by omega)
  conv => lhs; rw [← List.take_length (l := F), hm, List.take_add_one, h]
  rfl
end Go.Proofs.Ytblpafmcnhhdpaa
