/- Who waits for whom, in plain words; rows of numbers told by a function; no condition but those that each theorem names. -/
import Derived.Test.YtblpafmcnhhdpaaHe
namespace Go.Proofs.Ytblpafmcnhhdpaa
open Go.RowKit

/-- A row of numbers in a block of its own. -/
def Bn (w : World) (G n : Nat) (f : Nat → Int) : Prop := Bk w G ((List.range n).map fun j => Value.int .i64 (f j)).toArray 3
theorem Bn.c {w : World} {G n : Nat} {f : Nat → Int} (h : Bn w G n f) (j : Nat) (hj : j < n) : w.cell? ⟨G, j, none⟩ = some (.int .i64 (f j)) := by
  rw [Bk.c h]
  simp [hj]
theorem Bn.below {w w' : World} {G n : Nat} {f : Nat → Int} (h : Bn w G n f) (hb : Below w.heap.size w w') : Bn w' G n f := Bk.below h hb
theorem Bn.set {w : World} {G n : Nat} {f f' : Nat → Int} (h : Bn w G n f) (i : Nat) (v : Int) (hf : ∀ j, j < n → f' j = if j = i then v else f j) : Bn (w.setCell ⟨G, i, none⟩ (.int .i64 v)) G n f' := by
  have h1 := Bk.set h i (.int .i64 v)
  have e : ((List.range n).map fun j => Value.int .i64 (f j)).toArray.setIfInBounds i (.int .i64 v) = ((List.range n).map fun j => Value.int .i64 (f' j)).toArray := by
    apply Array.ext_getElem?
    intro j
    simp only [List.setIfInBounds_toArray, List.getElem?_toArray, List.getElem?_set, List.length_map, List.length_range, List.getElem?_map]
    by_cases hj : j < n
    · rw [List.getElem?_range hj]
      by_cases hi : i = j
      · subst hi; simp [hj, hf i hj]
      · have hij : ¬ j = i := fun e => hi e.symm
        simp [hi, hf j hj, hij]
    · rw [List.getElem?_eq_none (by simpa using hj)]
      simp
      intro e
      omega
  unfold Bn
  rw [← e]
  exact h1
theorem bn_made {w' : World} {B n G : Nat} (h : w'.ownsRow B 3 1 (.slice (some ⟨G, 0, none⟩) n n) n (madeCells #[Value.int .i64 0] (n * 1)).toList) : Bn w' G n fun _ => 0 := by
  obtain ⟨hl, ⟨e, -⟩ | ⟨g, cap, cur, e, hb, hh, hc, hm, hs, ht⟩⟩ := h
  · simp at e
  · simp only [Value.slice.injEq, Option.some.injEq, Addr.mk.injEq] at e
    obtain ⟨⟨rfl, -⟩, -, rfl⟩ := e
    unfold Bn Bk
    rw [hh]
    have e2 : cur = ((List.range n).map fun _ => Value.int .i64 0).toArray := by
      have e3 : cur.toList = (madeCells #[Value.int .i64 0] (n * 1)).toList := by rw [← ht, List.take_of_length_le (by simp; omega)]
      have e4 : (madeCells #[Value.int .i64 0] (n * 1)).toList = (List.range n).map fun _ => Value.int .i64 0 := by
        apply List.ext_getElem?
        intro j
        rw [Nat.mul_one]
        by_cases hj : j < n
        · simp [madeCells, hj, Nat.mod_one]
        · simp [madeCells, hj]
      rw [← e4, ← e3]
    rw [e2]

theorem nd_len : ∀ (n : Nat) (l : List Nat), l.Nodup → (∀ i ∈ l, i < n) → l.length ≤ n
  | 0, l, _, h => by
    cases l with
    | nil => simp
    | cons x r => exact absurd (h x (by simp)) (by omega)
  | n + 1, l, hn, h => by
    by_cases hm : n ∈ l
    · have := nd_len n (l.erase n) (hn.erase n) (fun i hi => by
        have h1 := h i (List.mem_of_mem_erase hi)
        have h2 : i ≠ n := fun e => by
          subst e
          exact hn.not_mem_erase hi
        omega)
      rw [List.length_erase_of_mem hm] at this
      omega
    · have := nd_len n l hn (fun i hi => by
        have h1 := h i hi
        have h2 : i ≠ n := fun e => hm (e ▸ hi)
        omega)
      omega
/-- The list of i. -/
def gl (A : List (List Int)) (i : Nat) : List Int := (A[i]?).getD []
/-- How many i waits for that are not closed yet. -/
def cn (A : List (List Int)) (f : Nat → Bool) (x : Nat) : Nat := (gl A x).countP fun k => vd A.length x k && !f k.toNat
/-- How often x waits for k, by the first of its list. -/
def wc (n x k : Nat) (l : List Int) : Nat := l.countP fun z => vd n x z && decide (z.toNat = k)
/-- Who waits for k, of the first i things. -/
def bf (A : List (List Int)) (i k : Nat) : List Nat := (List.range i).flatMap fun x => List.replicate (wc A.length x k (gl A x)) x
def bp (A : List (List Int)) (i q k : Nat) : List Nat := bf A i k ++ List.replicate (wc A.length i k ((gl A i).take q)) i
theorem bp_zero (A : List (List Int)) (i k : Nat) : bp A i 0 k = bf A i k := by simp [bp, wc]
theorem bp_full (A : List (List Int)) (i k : Nat) : bp A i (gl A i).length k = bf A (i + 1) k := by
  unfold bp bf
  rw [List.take_length, List.range_succ, List.flatMap_append]
  simp
theorem bp_next {A : List (List Int)} {i q : Nat} {z : Int} (h : (gl A i)[q]? = some z) (k : Nat) : bp A i (q + 1) k = if vd A.length i z = true ∧ z.toNat = k then bp A i q k ++ [i] else bp A i q k := by
  unfold bp wc
  rw [List.take_add_one, h, List.countP_append]
  by_cases hc : vd A.length i z = true ∧ z.toNat = k
  · rw [if_pos hc]
    simp only [Option.toList, List.countP_cons, List.countP_nil, hc.1, hc.2, decide_true, Bool.and_self, if_true, Nat.zero_add]
    rw [List.replicate_succ', List.append_assoc]
  · rw [if_neg hc]
    have : (vd A.length i z && decide (z.toNat = k)) = false := by
      cases h1 : vd A.length i z
      · rfl
      · simp only [h1, true_and] at hc
        simp [hc]
    simp [this]
theorem bf_count (A : List (List Int)) (x k : Nat) : ∀ i, (bf A i k).count x = if x < i then wc A.length x k (gl A x) else 0
  | 0 => by simp [bf]
  | i + 1 => by
    have ih := bf_count A x k i
    unfold bf at ih ⊢
    rw [List.range_succ, List.flatMap_append, List.count_append, ih]
    simp only [List.flatMap_cons, List.flatMap_nil, List.append_nil, List.count_replicate]
    by_cases e : x = i
    · subst e; simp
    · have e2 : ¬ i = x := fun h => e h.symm
      by_cases h1 : x < i
      · have a1 : x < i + 1 := by omega
        simp [h1, a1, e2]
      · have a1 : ¬ x < i + 1 := by omega
        simp [h1, a1]
        omega
theorem bf_lt {A : List (List Int)} {i k y : Nat} (h : y ∈ bf A i k) : y < i := by
  unfold bf at h
  rw [List.mem_flatMap] at h
  obtain ⟨x, hx, hy⟩ := h
  have := (List.mem_replicate.1 hy).2
  have := List.mem_range.1 hx
  omega
theorem countP_split {p q r : Int → Bool} (h : ∀ z, p z = (q z || r z)) (h2 : ∀ z, ¬ (q z = true ∧ r z = true)) : ∀ l : List Int, l.countP p = l.countP q + l.countP r
  | [] => rfl
  | x :: l => by
    have ih := countP_split h h2 l
    rw [List.countP_cons, List.countP_cons, List.countP_cons, h x]
    have := h2 x
    cases hq : q x <;> cases hr : r x <;> simp_all <;> omega
/-- Closing i takes off just those who wait for it. -/
theorem cn_split {A : List (List Int)} {acc : List Nat} {i : Nat} (hi : i ∉ acc) (x : Nat) : cn A (mf acc) x = wc A.length x i (gl A x) + cn A (mf (acc ++ [i])) x := by
  unfold cn wc
  refine countP_split (fun z => ?_) (fun z => ?_) _
  · simp only [mf, List.mem_append, List.mem_singleton]
    cases vd A.length x z <;> by_cases h1 : z.toNat = i <;> by_cases h2 : z.toNat ∈ acc <;> simp_all
  · simp only [mf, List.mem_append, List.mem_singleton]
    rintro ⟨h1, h2⟩
    simp_all
theorem wts_iff (A : List (List Int)) (f : Nat → Bool) (x : Nat) : wts A f x = false ↔ cn A f x = 0 := by
  unfold wts cn gl
  rw [List.countP_eq_zero, List.any_eq_false]
theorem fre_iff (A : List (List Int)) (acc : List Nat) (x : Nat) : fre A (mf acc) x = true ↔ x ∉ acc ∧ cn A (mf acc) x = 0 := by
  unfold fre
  rw [Bool.and_eq_true, ← wts_iff]
  simp [mf]
/-- What the way to the order keeps of those that wait for nobody. -/
structure Pl (A : List (List Int)) (acc F : List Nat) (ah : Nat → Nat) : Prop where
  mem : ∀ x, x ∈ F ↔ x < A.length ∧ ah x = 0 ∧ x ∉ acc
  nd : F.Nodup
  hp : Hp F.length (gt F)
  z : ∀ x ∈ acc, ah x = 0
theorem Pl.len {A : List (List Int)} {acc F : List Nat} {ah : Nat → Nat} (h : Pl A acc F ah) : F.length ≤ A.length := nd_len _ _ h.nd fun i hi => ((h.mem i).1 hi).1
theorem Pl.lst {A : List (List Int)} {acc F : List Nat} (h : Pl A acc F (cn A (mf acc))) {i : Nat} (hi : i ∈ F) (hl : ∀ x ∈ F, i ≤ x) : lst A (mf acc) = some i := by
  obtain ⟨h1, h2, h3⟩ := (h.mem i).1 hi
  refine lst_some h1 ((fre_iff _ _ _).2 ⟨h3, h2⟩) fun j hj => ?_
  cases hf : fre A (mf acc) j with
  | false => rfl
  | true =>
    obtain ⟨q1, q2⟩ := (fre_iff _ _ _).1 hf
    have := hl j ((h.mem j).2 ⟨by omega, q2, q1⟩)
    omega
theorem Pl.none {A : List (List Int)} {acc : List Nat} (h : Pl A acc [] (cn A (mf acc))) : Ytblpafmcnhhdpaa.lst A (mf acc) = none := lst_none fun j hj => by
  cases hf : fre A (mf acc) j with
  | false => rfl
  | true =>
    obtain ⟨q1, q2⟩ := (fre_iff _ _ _).1 hf
    exact absurd ((h.mem j).2 ⟨hj, q2, q1⟩) (by simp)
/-- The least one is taken out. -/
theorem Pl.pop {A : List (List Int)} {acc F F2 : List Nat} {ah : Nat → Nat} (h : Pl A acc F ah) {i : Nat} (hp : (i :: F2).Perm F) (h2 : Hp F2.length (gt F2)) : Pl A (acc ++ [i]) F2 ah := by
  have hn : (i :: F2).Nodup := hp.nodup_iff.2 h.nd
  rw [List.nodup_cons] at hn
  have hi := (h.mem i).1 (hp.mem_iff.1 (by simp))
  refine ⟨fun x => ?_, hn.2, h2, fun x hx => ?_⟩
  · have hx := hp.mem_iff (a := x)
    rw [h.mem x, List.mem_cons] at hx
    rw [List.mem_append, List.mem_singleton]
    constructor
    · intro hm
      obtain ⟨a1, a2, a3⟩ := hx.1 (.inr hm)
      refine ⟨a1, a2, fun e => ?_⟩
      rcases e with e | e
      · exact a3 e
      · exact hn.1 (e ▸ hm)
    · rintro ⟨a1, a2, a3⟩
      rcases hx.2 ⟨a1, a2, fun e => a3 (.inl e)⟩ with e | e
      · exact absurd (.inr e) a3
      · exact e
  · rcases List.mem_append.1 hx with hx | hx
    · exact h.z x hx
    · rw [List.mem_singleton.1 hx]; exact hi.2.1
/-- One that waits, waits for one fewer. -/
theorem Pl.less {A : List (List Int)} {acc F : List Nat} {ah ah' : Nat → Nat} (h : Pl A acc F ah) {k : Nat} (h1 : ah k ≠ 0) (h2 : ah' k ≠ 0) (h3 : ∀ x, x ≠ k → ah' x = ah x) : Pl A acc F ah' := by
  refine ⟨fun x => ?_, h.nd, h.hp, fun x hx => ?_⟩
  · rw [h.mem x]
    by_cases e : x = k
    · subst e; simp [h1, h2]
    · rw [h3 x e]
  · have := h.z x hx
    rw [h3 x (fun e => h1 (e ▸ this))]
    exact this
/-- One that waited for a last one waits for nobody. -/
theorem Pl.free {A : List (List Int)} {acc F F2 : List Nat} {ah ah' : Nat → Nat} (h : Pl A acc F ah) {k : Nat} (hk : k < A.length) (h1 : ah k ≠ 0) (h2 : ah' k = 0) (h3 : ∀ x, x ≠ k → ah' x = ah x) (hp : F2.Perm (k :: F)) (hh : Hp F2.length (gt F2)) : Pl A acc F2 ah' := by
  have hka : k ∉ acc := fun e => h1 (h.z k e)
  have hkF : k ∉ F := fun e => h1 ((h.mem k).1 e).2.1
  refine ⟨fun x => ?_, hp.nodup_iff.2 (List.nodup_cons.2 ⟨hkF, h.nd⟩), hh, fun x hx => ?_⟩
  · rw [hp.mem_iff, List.mem_cons, h.mem x]
    by_cases e : x = k
    · subst e; simp [hk, h2, hka]
    · rw [h3 x e]; simp [e]
  · have := h.z x hx
    rw [h3 x (fun e => h1 (e ▸ this))]
    exact this
/-- How many each waits for, while those of a list have theirs taken off. -/
def ta (A : List (List Int)) (acc : List Nat) (i p : Nat) (x : Nat) : Nat := cn A (mf acc) x - ((bf A A.length i).take p).count x
theorem ta_zero (A : List (List Int)) (acc : List Nat) (i : Nat) : ta A acc i 0 = cn A (mf acc) := by funext x; simp [ta]
theorem ta_full {A : List (List Int)} {acc : List Nat} {i : Nat} (hi : i ∉ acc) {x : Nat} (hx : x < A.length) : ta A acc i (bf A A.length i).length x = cn A (mf (acc ++ [i])) x := by
  unfold ta
  rw [List.take_length, bf_count, if_pos hx, cn_split hi x]
  omega
theorem ta_next {A : List (List Int)} {acc : List Nat} {i p k : Nat} (hi : i ∉ acc) (hk : (bf A A.length i)[p]? = some k) : k < A.length ∧ ta A acc i p k = ta A acc i (p + 1) k + 1 ∧ ∀ x, x ≠ k → ta A acc i (p + 1) x = ta A acc i p x := by
  have hm := bf_lt (List.mem_of_getElem? hk)
  have e : ∀ x, ((bf A A.length i).take (p + 1)).count x = ((bf A A.length i).take p).count x + if k = x then 1 else 0 := fun x => by
    rw [List.take_add_one, hk, List.count_append]
    simp [List.count_cons]
  have hle : ((bf A A.length i).take (p + 1)).count k ≤ (bf A A.length i).count k := by
    conv => rhs; rw [← List.take_append_drop (p + 1) (bf A A.length i)]
    rw [List.count_append]
    omega
  rw [bf_count, if_pos hm] at hle
  have h1 := cn_split hi (A := A) k
  refine ⟨hm, ?_, fun x hx => ?_⟩
  · unfold ta
    have := e k
    rw [if_pos rfl] at this
    omega
  · unfold ta
    have := e x
    rw [if_neg (fun e => hx e.symm)] at this
    omega
theorem cn_nil (A : List (List Int)) (x : Nat) : cn A (mf []) x = (gl A x).countP (vd A.length x) := by
  unfold cn
  congr 1
  funext k
  simp [mf]
/-- How many each waits for, by the first i lists and the beginning of the next. -/
def ap (A : List (List Int)) (i q x : Nat) : Nat := if x < i then (gl A x).countP (vd A.length x) else if x = i then ((gl A i).take q).countP (vd A.length i) else 0
theorem ap_full (A : List (List Int)) (i x : Nat) : ap A i (gl A i).length x = ap A (i + 1) 0 x := by
  unfold ap
  rw [List.take_length]
  by_cases h1 : x < i
  · rw [if_pos h1, if_pos (by omega)]
  · by_cases h2 : x = i
    · subst h2; rw [if_neg h1, if_pos rfl, if_pos (by omega)]
    · rw [if_neg h1, if_neg h2, if_neg (by omega)]; simp
theorem ap_next {A : List (List Int)} {i q : Nat} {z : Int} (h : (gl A i)[q]? = some z) (x : Nat) : ap A i (q + 1) x = if x = i ∧ vd A.length i z = true then ap A i q i + 1 else ap A i q x := by
  unfold ap
  by_cases h1 : x < i
  · rw [if_pos h1, if_neg (by omega)]; simp [h1]
  · by_cases h2 : x = i
    · subst h2
      simp only [h1, if_false, true_and, if_true]
      rw [List.take_add_one, h, List.countP_append]
      cases hv : vd A.length x z <;> simp [hv]
    · simp [h1, h2]
theorem ap_end (A : List (List Int)) {x : Nat} (hx : x < A.length) : ap A A.length 0 x = cn A (mf []) x := by
  rw [cn_nil]
  unfold ap
  rw [if_pos hx]
/-- Those that wait for nobody at the start. -/
def fz (A : List (List Int)) (j : Nat) : List Nat := (List.range j).filter fun x => decide (cn A (mf []) x = 0)
theorem fz_next (A : List (List Int)) (j : Nat) : fz A (j + 1) = if cn A (mf []) j = 0 then fz A j ++ [j] else fz A j := by
  unfold fz
  rw [List.range_succ, List.filter_append]
  by_cases h : cn A (mf []) j = 0 <;> simp [h]
theorem fz_pl (A : List (List Int)) : Pl A [] (fz A A.length) (cn A (mf [])) := by
  refine ⟨fun x => ?_, List.Pairwise.filter _ List.nodup_range, ?_, fun x hx => by simp at hx⟩
  · unfold fz
    simp [List.mem_filter]
  · refine hp_rising ?_
    unfold fz
    refine List.Pairwise.filter _ ?_
    rw [List.pairwise_iff_getElem]
    intro i j hi hj hlt
    rw [List.getElem_range, List.getElem_range]
    omega
/-- At the end: who is left waits. -/
theorem Pl.left {A : List (List Int)} {acc : List Nat} (h : Pl A acc [] (cn A (mf acc))) {x : Nat} (hx : x < A.length) : (cn A (mf acc) x = 0) ↔ x ∈ acc := by
  constructor
  · intro h0
    apply Classical.byContradiction
    intro hn
    exact absurd ((h.mem x).2 ⟨hx, h0, hn⟩) (by simp)
  · exact h.z x
end Go.Proofs.Ytblpafmcnhhdpaa
