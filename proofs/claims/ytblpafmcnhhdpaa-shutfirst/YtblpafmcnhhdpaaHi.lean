/- The waits while they are made: numbers, rows that grow side by side; conditions: the lists in memory. -/
import Derived.Test.YtblpafmcnhhdpaaHh
namespace Go.Proofs.Ytblpafmcnhhdpaa
open Go.RowKit

theorem bf_len {A : List (List Int)} (hG : ∀ i, (gl A i).length ≤ 400) (k : Nat) : ∀ i, (bf A i k).length ≤ i * 400
  | 0 => by simp [bf]
  | i + 1 => by
    have ih := bf_len hG k i
    unfold bf at ih ⊢
    rw [List.range_succ, List.flatMap_append, List.length_append]
    have h1 : wc A.length i k (gl A i) ≤ (gl A i).length := List.countP_le_length
    have := hG i
    simp only [List.flatMap_cons, List.flatMap_nil, List.append_nil, List.length_replicate]
    omega
theorem bp_len {A : List (List Int)} (hG : ∀ i, (gl A i).length ≤ 400) (i q k : Nat) : (bp A i q k).length ≤ i * 400 + 400 := by
  unfold bp
  have h1 := bf_len hG k i
  have h2 : wc A.length i k ((gl A i).take q) ≤ ((gl A i).take q).length := List.countP_le_length
  have := hG i
  rw [List.length_append, List.length_replicate]
  rw [List.length_take] at h2
  omega
theorem ap_len {A : List (List Int)} (hG : ∀ i, (gl A i).length ≤ 400) (i q x : Nat) : ap A i q x ≤ 400 := by
  unfold ap
  split
  · exact Nat.le_trans List.countP_le_length (hG x)
  · split
    · refine Nat.le_trans List.countP_le_length ?_
      have := hG i
      rw [List.length_take]
      omega
    · omega
/-- The blocks of the waits. -/
structure Wk (w : World) (X Wb ga gb : Nat) : Prop where
  la : ga < X
  lb : gb < X
  lw : Wb < X
  d1 : ga ≠ Wb
  d2 : gb ≠ Wb
  d3 : gb ≠ ga
  ma : w.heap.size ≤ ga
  mb : w.heap.size ≤ gb
  mw : w.heap.size ≤ Wb
structure Wo (n : Nat) (w : World) (X Wb ga gb : Nat) (ah : Nat → Nat) (R : Nat → List Nat) (vf : Nat → Value) (wx : World) : Prop where
  b : Below w.heap.size w wx
  bk : Bk wx Wb #[sn ga n, sn gb n, .slice none 0 0] 43
  a : Bn wx ga n fun x => (ah x : Int)
  r : Bk wx gb ((List.range n).map vf).toArray 25
  o : ∀ k, k < n → wx.ownsRow X 3 1 (vf k) (R k).length (nv (R k))
  d : ∀ k k' g, k < n → k' < n → k ≠ k' → (vf k).ownBlock = some g → (vf k').ownBlock ≠ some g
  sz : X ≤ wx.heap.size
theorem Wo.below {n : Nat} {w : World} {X Wb ga gb : Nat} {ah : Nat → Nat} {R : Nat → List Nat} {vf : Nat → Value} {wx wy : World} (h : Wo n w X Wb ga gb ah R vf wx) (hb : Below wx.heap.size wx wy) : Wo n w X Wb ga gb ah R vf wy :=
  ⟨h.b.trans (hb.mono h.b.size), h.bk.below hb, Bn.below h.a hb, h.r.below hb, fun k hk => own_below (h.o k hk) hb, h.d, Nat.le_trans h.sz hb.size⟩
theorem Wo.like {n : Nat} {w : World} {X Wb ga gb : Nat} {ah ah' : Nat → Nat} {R R' : Nat → List Nat} {vf : Nat → Value} {wx : World} (h : Wo n w X Wb ga gb ah R vf wx) (e1 : ∀ x, x < n → ah x = ah' x) (e2 : ∀ x, x < n → R x = R' x) : Wo n w X Wb ga gb ah' R' vf wx := by
  refine ⟨h.b, h.bk, ?_, h.r, fun k hk => e2 k hk ▸ h.o k hk, h.d, h.sz⟩
  have : ((List.range n).map fun j => Value.int .i64 ((ah' j : Nat) : Int)) = (List.range n).map fun j => Value.int .i64 ((ah j : Nat) : Int) := List.map_congr_left fun j hj => by rw [e1 j (List.mem_range.1 hj)]
  unfold Bn
  rw [this]
  exact h.a
theorem Wo.inc {n : Nat} {w : World} {X Wb ga gb : Nat} {ah ah' : Nat → Nat} {R : Nat → List Nat} {vf : Nat → Value} {wx : World} (hk : Wk w X Wb ga gb) (h : Wo n w X Wb ga gb ah R vf wx) (i : Nat) (e : ∀ x, x ≠ i → ah' x = ah x) : Wo n w X Wb ga gb ah' R vf (wx.setCell ⟨ga, i, none⟩ (.int .i64 (ah' i : Nat))) := by
  refine ⟨h.b.setCell (p := ⟨ga, i, none⟩) hk.ma _, h.bk.other _ _ (fun e => hk.d1 e.symm), h.a.set i _ (fun j _ => ?_), h.r.other _ _ hk.d3, fun k hkn => ownsRow_setCell_below (h.o k hkn) hk.la _, h.d, by simpa using h.sz⟩
  by_cases hj : j = i
  · subst hj; rw [if_pos rfl]
  · rw [if_neg hj, e j hj]
theorem Wo.app {n : Nat} {w : World} {X Wb ga gb : Nat} {ah : Nat → Nat} {R R' : Nat → List Nat} {vf : Nat → Value} {wx w7 : World} (hk : Wk w X Wb ga gb) (h : Wo n w X Wb ga gb ah R vf wx) {k i g2 c2 : Nat} {o : Obj} (hkn : k < n)
    (own : w7.ownsRow X 3 1 (.slice (some ⟨g2, 0, none⟩) ((R k).length + 1) c2) ((R k).length + 1) (nv (R k) ++ [.int .i64 (i : Int)])) (gr : (wx.alloc o).grownBy w7 (vf k).ownBlock) (at7 : (vf k).ownBlock = some g2 ∨ g2 = (wx.alloc o).heap.size)
    (e1 : R' k = R k ++ [i]) (e2 : ∀ x, x ≠ k → R' x = R x) :
    Bk w7 gb ((List.range n).map vf).toArray 25 ∧ Bk w7 Wb #[sn ga n, sn gb n, .slice none 0 0] 43 ∧
    ∃ vf', Wo n w X Wb ga gb ah R' vf' (w7.setCell ⟨gb, k, none⟩ (.slice (some ⟨g2, 0, none⟩) ((R k).length + 1) c2)) := by
  have b1 := below1 wx o
  have hne : ∀ N, N < X → (vf k).ownBlock ≠ some N := fun N hN => own_ne (h.o k hkn) hN
  have r7 := (h.r.below b1).grown gr (hne gb hk.lb)
  have k7 := (h.bk.below b1).grown gr (hne Wb hk.lw)
  have a7 : Bn w7 ga n fun x => (ah x : Int) := (Bk.below h.a b1).grown gr (hne ga hk.la)
  refine ⟨r7, k7, fun x => if x = k then .slice (some ⟨g2, 0, none⟩) ((R k).length + 1) c2 else vf x, ?_⟩
  have hs7 : wx.heap.size + 1 ≤ w7.heap.size := by have := gr.size; simpa using this
  refine ⟨?_, k7.other _ _ (fun e => hk.d2 e.symm), Bk.other a7 _ _ (fun e => hk.d3 e.symm), ?_, fun x hx => ?_, fun x y g hx hy hxy hg => ?_, by have := h.sz; simp only [World.setCell, Array.size_modify]; omega⟩
  · refine Below.setCell (p := ⟨gb, k, none⟩) ?_ hk.mb _
    refine ⟨gr.os.trans h.b.os, gr.tape.trans h.b.tape, gr.output.trans h.b.output, by have := h.b.size; omega, fun j hj => ?_⟩
    have hjX : j < X := by have := hk.la; have := hk.ma; omega
    rw [gr.block j (by have := h.b.size; have := b1.size; omega) (fun e => hne j hjX e.symm), b1.block j (by have := h.b.size; omega), h.b.block j hj]
  · have h1 := r7.set k (.slice (some ⟨g2, 0, none⟩) ((R k).length + 1) c2)
    have e : ((List.range n).map vf).toArray.setIfInBounds k (.slice (some ⟨g2, 0, none⟩) ((R k).length + 1) c2) = ((List.range n).map fun x => if x = k then .slice (some ⟨g2, 0, none⟩) ((R k).length + 1) c2 else vf x).toArray := by
      apply Array.ext_getElem?
      intro j
      simp only [List.setIfInBounds_toArray, List.getElem?_toArray, List.getElem?_set, List.length_map, List.length_range, List.getElem?_map]
      by_cases hj : j < n
      · rw [List.getElem?_range hj]
        by_cases hi : k = j
        · subst hi; simp [hj]
        · have hij : ¬ j = k := fun e => hi e.symm
          simp [hi, hij]
      · rw [List.getElem?_eq_none (by simpa using hj)]
        simp
        intro e
        omega
    rw [← e]
    exact h1
  · by_cases hxk : x = k
    · subst hxk
      rw [if_pos rfl, e1, List.length_append, nv_app]
      exact ownsRow_setCell_below own hk.lb _
    · rw [if_neg hxk, e2 x hxk]
      refine ownsRow_setCell_below (World.ownsRow.kept (own_below (h.o x hx) b1) gr ?_) hk.lb _
      cases hv : (vf x).ownBlock with
      | none => exact .inl rfl
      | some g =>
        right
        intro e
        exact h.d x k g hx hkn hxk hv e.symm
  · have hnew : ∀ z, z < n → z ≠ k → (vf z).ownBlock ≠ some g2 := fun z hz hzk e => by
      rcases at7 with e7 | e7
      · exact h.d z k g2 hz hkn hzk e e7
      · have := (World.ownsRow.lt (h.o z hz) g2 e).2
        simp at e7
        omega
    by_cases hxk : x = k
    · subst hxk
      simp only [if_true] at hg
      have hyk : ¬ y = x := fun e => hxy e.symm
      simp only [hyk, if_false]
      obtain rfl : g2 = g := by simpa [Value.ownBlock] using hg
      exact hnew y hy hyk
    · simp only [hxk, if_false] at hg
      by_cases hyk : y = k
      · subst hyk
        simp only [if_true]
        intro e
        obtain rfl : g2 = g := by simpa [Value.ownBlock] using e
        exact hnew x hx hxk hg
      · simp only [hyk, if_false]
        exact h.d x y g hx hy hxy hg
/-- All rows are made. -/
theorem Wo.done {A : List (List Int)} {w : World} {X Wb ga gb : Nat} {ah : Nat → Nat} {vf : Nat → Value} {wx : World} (hk : Wk w X Wb ga gb) (h : Wo A.length w X Wb ga gb ah (bf A A.length) vf wx) : Wc A wx w.heap.size wx.heap.size Wb ga gb := by
  have hs := h.sz
  have h1 := hk.la
  have h2 := hk.lb
  have h3 := hk.lw
  refine ⟨by omega, by omega, by omega, hk.d1, hk.d2, hk.d3, Nat.le_refl _, hk.mb, hk.mw, hk.ma, fun k hkn => ?_⟩
  have hc := h.r.c k
  rw [List.getElem?_toArray, List.getElem?_map, List.getElem?_range hkn] at hc
  simp only [Option.map_some] at hc
  have ho := h.o k hkn
  cases hb : bf A A.length k with
  | nil =>
    rw [hb] at ho
    obtain ⟨ad, cap, e⟩ := row_form ho
    exact ⟨ad, cap, by rw [hc, e], .inl rfl⟩
  | cons x r =>
    rw [hb] at ho
    obtain ⟨g, c, e, hg1, hg2, hg3⟩ := own_at ho (by simp)
    exact ⟨_, c, by rw [hc, e], .inr ⟨g, rfl, by have := hk.ma; omega, hg2, by omega, by omega, fun j i hj => hg3 wx rfl j _ (by simp only [List.getElem?_map, hj]; rfl)⟩⟩
/-- Those that wait for nobody, while they are put together. -/
structure Wz (A : List (List Int)) (w1 : World) (Wb ga gb : Nat) (j : Nat) (sv : Value) (wx : World) : Prop where
  h : Hs wx Wb w1.heap.size Wb (sn ga A.length) (sn gb A.length) (fz A j) sv
  f : Fx w1.heap.size Wb Wb w1 wx
end Go.Proofs.Ytblpafmcnhhdpaa
