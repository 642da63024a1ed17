/- The waits of the package in memory; its close, left, some; conditions: the lists in memory, not too many. -/
import Derived.Test.YtblpafmcnhhdpaaHf
namespace Go.Proofs.Ytblpafmcnhhdpaa
open Go.RowKit

theorem cn_out {A : List (List Int)} {f : Nat → Bool} {x : Nat} (h : ¬ x < A.length) : cn A f x = 0 := by
  unfold cn gl
  rw [List.getElem?_eq_none (by omega)]
  rfl
theorem ta_all {A : List (List Int)} {acc : List Nat} {i : Nat} (hi : i ∉ acc) : ta A acc i (bf A A.length i).length = cn A (mf (acc ++ [i])) := by
  funext x
  by_cases hx : x < A.length
  · exact ta_full hi hx
  · unfold ta
    rw [cn_out hx, cn_out hx]
    omega
/-- What stays of the waits while things are closed. -/
structure Wc (A : List (List Int)) (w1 : World) (L X Wb ga gb : Nat) : Prop where
  la : ga < X
  lb : gb < X
  lw : Wb < X
  d1 : ga ≠ Wb
  d2 : gb ≠ Wb
  d3 : gb ≠ ga
  xs : X ≤ w1.heap.size
  mb : L ≤ gb
  mw : L ≤ Wb
  ma : L ≤ ga
  rows : ∀ k, k < A.length → ∃ ad cap, w1.cell? ⟨gb, k, none⟩ = some (.slice ad (bf A A.length k).length cap) ∧ (bf A A.length k = [] ∨ ∃ g, ad = some ⟨g, 0, none⟩ ∧ L ≤ g ∧ g < X ∧ g ≠ Wb ∧ g ≠ ga ∧ ∀ (j : Nat) i, (bf A A.length k)[j]? = some i → w1.cell? ⟨g, j, none⟩ = some (.int .i64 (i : Nat)))
/-- But two blocks, those below X are as they were. -/
structure Gx (L X Wb ga : Nat) (w w' : World) : Prop where
  os : w'.os = w.os
  tape : w'.tape = w.tape
  output : w'.output = w.output
  size : w.heap.size ≤ w'.heap.size
  block : ∀ k, L ≤ k → k < X → k ≠ Wb → k ≠ ga → w'.heap[k]? = w.heap[k]?
theorem Gx.refl (L X Wb ga : Nat) (w : World) : Gx L X Wb ga w w := ⟨rfl, rfl, rfl, Nat.le_refl _, fun _ _ _ _ _ => rfl⟩
theorem Gx.trans {L L' X Wb ga : Nat} {a b c : World} (h : Gx L X Wb ga a b) (k : Gx L' X Wb ga b c) (hL : L' ≤ L) : Gx L X Wb ga a c := ⟨k.os.trans h.os, k.tape.trans h.tape, k.output.trans h.output, Nat.le_trans h.size k.size, fun i hm hi hn hn2 => (k.block i (by omega) hi hn hn2).trans (h.block i hm hi hn hn2)⟩
theorem Gx.fx {L X G Wb ga : Nat} {a b c : World} (h : Gx L X Wb ga a b) (k : Fx X G Wb b c) : Gx L X Wb ga a c := ⟨k.os.trans h.os, k.tape.trans h.tape, k.output.trans h.output, Nat.le_trans h.size k.size, fun i hm hi hn hn2 => (k.block i (.inl hi) hn).trans (h.block i hm hi hn hn2)⟩
theorem Gx.set {L X Wb ga : Nat} {a b : World} (h : Gx L X Wb ga a b) (o : Nat) (v : Value) : Gx L X Wb ga a (b.setCell ⟨ga, o, none⟩ v) := ⟨h.os, h.tape, h.output, by simpa using h.size, fun i hm hi hn hn2 => (Below.heap_setCell _ _ _ i (by show i ≠ ga; exact hn2)).trans (h.block i hm hi hn hn2)⟩
theorem cell_heap {w w' : World} {a : Addr} (h : w'.heap[a.block]? = w.heap[a.block]?) : w'.cell? a = w.cell? a := by
  simp only [World.cell?, h]
abbrev sn (g n : Nat) : Value := .slice (some ⟨g, 0, none⟩) n n
structure Wt (A : List (List Int)) (w1 : World) (L X G Wb ga gb : Nat) (F : List Nat) (ah : Nat → Nat) (sv : Value) (wx : World) : Prop where
  h : Hs wx Wb X G (sn ga A.length) (sn gb A.length) F sv
  a : Bn wx ga A.length fun x => (ah x : Int)
  g : Gx L X Wb ga w1 wx
theorem Wt.row {A : List (List Int)} {w1 : World} {L X G Wb ga gb : Nat} {F : List Nat} {ah : Nat → Nat} {sv : Value} {wx : World} (h : Wt A w1 L X G Wb ga gb F ah sv wx) (hc : Wc A w1 L X Wb ga gb) {k : Nat} (hk : k < A.length) : ∃ ad cap, wx.cell? ⟨gb, k, none⟩ = some (.slice ad (bf A A.length k).length cap) ∧ ∀ wy, Gx L X Wb ga w1 wy → ∀ (j i : Nat), (bf A A.length k)[j]? = some i → ∃ g, ad = some ⟨g, 0, none⟩ ∧ wy.cell? ⟨g, j, none⟩ = some (.int .i64 (i : Nat)) := by
  obtain ⟨ad, cap, h1, h2⟩ := hc.rows k hk
  refine ⟨ad, cap, (cell_heap (h.g.block gb hc.mb hc.lb hc.d2 hc.d3)).trans h1, fun wy hy j i hj => ?_⟩
  rcases h2 with h2 | ⟨g, e, a0, a1, a2, a3, h2⟩
  · rw [h2] at hj; simp at hj
  · exact ⟨g, e, (cell_heap (hy.block g a0 a1 a2 a3)).trans (h2 j i hj)⟩
theorem Wt.fx {A : List (List Int)} {w1 : World} {L X G Wb ga gb : Nat} {F F' : List Nat} {ah : Nat → Nat} {sv sv' : Value} {wx wy : World} (h : Wt A w1 L X G Wb ga gb F ah sv wx) (hc : Wc A w1 L X Wb ga gb) (hs : Hs wy Wb X G (sn ga A.length) (sn gb A.length) F' sv') (hf : Fx X G Wb wx wy) : Wt A w1 L X G Wb ga gb F' ah sv' wy := ⟨hs, (hf.block ga (.inl hc.la) hc.d1).trans h.a, h.g.fx hf⟩
theorem Wt.set {A : List (List Int)} {w1 : World} {L X G Wb ga gb : Nat} {F : List Nat} {ah ah' : Nat → Nat} {sv : Value} {wx : World} (h : Wt A w1 L X G Wb ga gb F ah sv wx) (hc : Wc A w1 L X Wb ga gb) (k : Nat) (e : ∀ x, x ≠ k → ah' x = ah x) : Wt A w1 L X G Wb ga gb F ah' sv (wx.setCell ⟨ga, k, none⟩ (.int .i64 (ah' k : Nat))) := by
  refine ⟨⟨h.h.bk.other _ _ (fun e => hc.d1 e.symm), ownsRow_setCell_below h.h.row hc.la _, h.h.lt, h.h.ng, by simpa using h.h.gs⟩, h.a.set k _ (fun j _ => ?_), h.g.set k _⟩
  by_cases hj : j = k
  · subst hj; rw [if_pos rfl]
  · rw [if_neg hj, e j hj]

set_option maxRecDepth 100000 in
set_option maxHeartbeats 2000000 in
theorem some_any {A : List (List Int)} {w1 : World} {L X G Wb ga gb : Nat} {F : List Nat} {ah : Nat → Nat} {sv : Value} {w : World} (h : Wt A w1 L X G Wb ga gb F ah sv w) : Calls Try.prog 13 #[.pointer (some ⟨Wb, 0, none⟩)] w fun e w' => e = .returned (.bool (decide (0 < F.length))) ∧ w' = w := by
  obtain ⟨ad, c, rfl⟩ := row_form h.h.row
  have c2 := h.h.c
  clear h
  go_enter Try.func13, Try.ntmps13
  go_wp2_with (go_at_call 18; refine (len_any _ _ _ _).mono ?_; rintro e w1 ⟨rfl, rfl⟩)
  go_ret
  exact ⟨by simp, rfl⟩

set_option maxRecDepth 100000 in
set_option maxHeartbeats 2000000 in
theorem left_any {A : List (List Int)} {w1 : World} {L X G Wb ga gb : Nat} {F : List Nat} {ah : Nat → Nat} {sv : Value} {w : World} (h : Wt A w1 L X G Wb ga gb F ah sv w) (hA : A.length ≤ 400) : Calls Try.prog 15 #[.pointer (some ⟨Wb, 0, none⟩)] w fun e w' => ∃ sv, e = .returned sv ∧ w'.ownsRow w.heap.size 3 1 sv ((List.range A.length).filter fun x => decide (0 < ah x)).length (nv ((List.range A.length).filter fun x => decide (0 < ah x))) ∧ Below w.heap.size w w' := by
  obtain ⟨i0, hi0, hz0, hz1, hz2⟩ := infoInt_parts
  have hz3 : (Value.int .i64 0).cells.size = 1 := rfl
  have c0 := h.h.bk.c 0
  simp only [List.getElem?_toArray, List.getElem?_cons_zero] at c0
  have HA := Lib.hid h.a
  clear h
  go_enter Try.func15, Try.ntmps15
  go_wp2
  go_loopg [3, 4, 5, 11] A.length (fun g s3 s4 s5 s11 wx => ∃ (j : Nat), j + g = A.length ∧ s11 = .int .i64 j ∧ wx.ownsRow w.heap.size 3 1 s3 ((List.range j).filter fun x => decide (0 < ah x)).length (nv ((List.range j).filter fun x => decide (0 < ah x))) ∧ Below w.heap.size w wx)
  case atStart => exact ⟨0, by omega, rfl, World.ownsRow_nil _ _ _ _, Below.refl _ _⟩
  case round =>
    obtain ⟨j, hjg, rfl, hown, hb⟩ := hrel
    have HB := Lib.hid hb
    cases gk with
    | zero =>
      obtain rfl : j = A.length := by omega
      go_wp2
      go_ret
      exact ⟨_, rfl, hown, HB.out⟩
    | succ g =>
      have hj : j < A.length := by omega
      have hj' : (j : Int) < (A.length : Int) := by omega
      have b1 := Bn.below HA.out (w' := wr) (HB.out.mono (Nat.le_refl _))
      have cj := b1.c j hj
      have hlen : ((List.range j).filter fun x => decide (0 < ah x)).length ≤ j := by
        have := List.length_filter_le (fun x => decide (0 < ah x)) (List.range j)
        simpa using this
      have e1 : ((List.range (j + 1)).filter fun x => decide (0 < ah x)) = ((List.range j).filter fun x => decide (0 < ah x)) ++ if 0 < ah j then [j] else [] := by
        rw [List.range_succ, List.filter_append]
        by_cases h0 : 0 < ah j <;> simp [h0]
      have hsz := HB.out.size
      clear b1 hb
      generalize hL : ((List.range j).filter fun x => decide (0 < ah x)) = L at *
      obtain ⟨sa, sc, rfl⟩ := row_form hown
      by_cases h0 : 0 < ah j
      · have h0' : (0 : Int) < (ah j : Int) := by omega
        rw [if_pos h0] at e1
        have HE := Lib.hid e1
        have HO := Lib.hid hown
        clear e1 h0 hL hown
        go_wp2_with (at_builtin; refine wpList_append_own _ rfl _ _ 25 rfl w.heap.size 3 i0 (.int .i64 0) 1 8 Try.underlying25 hi0 hz0 hz1 hz2 rfl (by decide) _ _ _ rfl (HO.out.alloc _) ⟨wr.heap.size, 0, none⟩ 1 1 [.int .i64 (j : Int)] rfl rfl (cell_one_new _ _ _) (by intro u hu; simp at hu; subst hu; rfl) (by unfold maxLen; omega) (by omega) (by simp; omega) ?_; intro v1 w7 hown7 hgrow7 hnil7)
        go_roundg g
        case measure => omega
        case rel =>
          refine ⟨j + 1, by omega, by simp, ?_, below_grown (HB.out.trans ((below1 _ _).mono hsz)) hgrow7 (HO.out.alloc _) (Nat.le_refl _)⟩
          rw [HE.out, List.length_append]
          simpa using hown7
      · have h0' : ¬ (0 : Int) < (ah j : Int) := by omega
        rw [if_neg h0, List.append_nil] at e1
        have HE := Lib.hid e1
        have HO := Lib.hid hown
        clear e1 h0 hL hown
        go_wp2
        go_roundg g
        case measure => omega
        case rel => exact ⟨j + 1, by omega, by simp, by rw [HE.out]; exact HO.out, HB.out⟩
end Go.Proofs.Ytblpafmcnhhdpaa
