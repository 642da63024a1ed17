/- Answers that are kept; no condition but those that each theorem names. -/
import Derived.Test.YtnlplnlclnbdiaaGreatDoorMd
import Derived.Test.YtnlplnlclnbdiaaGreatDoorKt
import Derived.Test.YtnlplnlclnbdiaaGreatDoorNm
namespace Go.Proofs.YtnlplnlclnbdiaaGreatDoor
open Go.RowKit Tp Go.Maps Go.Shelf

theorem infoSl : (Tryz.prog.info? 42).map (fun i => (i.zero, i.size, i.bytes)) = some (some (.slice none 0 0), 1, 24) := by kernel_rfl

/-- What a name is answered, of such subscriptions. -/
def Heard (A : List (Bs × Int)) (nm : ByteArray) (l : List Int) : Prop := Rise l ∧ ∀ i, i ∈ l ↔ (isName (tl nm) = true ∧ hears (Sof A) (tl nm) i = true)
theorem Heard.eq {A A' : List (Bs × Int)} {nm : ByteArray} {l l' : List Int} (h : Heard A nm l) (h' : Heard A' nm l') (e : isName (tl nm) = true → ∀ i, hears (Sof A) (tl nm) i = true ↔ hears (Sof A') (tl nm) i = true) : l = l' :=
  h.1.ext h'.1 fun i => by
    rw [h.2 i, h'.2 i]
    constructor
    · rintro ⟨a, b⟩; exact ⟨a, (e a i).1 b⟩
    · rintro ⟨a, b⟩; exact ⟨a, (e a i).2 b⟩

/-- Rows of numbers that were answered, kept in a row of their own, new since wb. -/
structure Was (wb W : World) (wv : Value) (vs : List Value) (ls : List (List Int)) : Prop where
  row : W.ownsRow wb.heap.size 42 1 wv vs.length vs
  len : vs.length = ls.length
  ints : ∀ (j : Nat) (v : Value) (l : List Int), vs[j]? = some v → ls[j]? = some l → IntRow W v l
  apart : ∀ (j : Nat) (v : Value) (g : Nat), vs[j]? = some v → v.ownBlock = some g → wb.heap.size ≤ g ∧ g < W.heap.size ∧ wv.ownBlock ≠ some g

theorem Was.start (wb W : World) : Was wb W (.slice none 0 0) [] [] := ⟨World.ownsRow_nil _ _ _ _, rfl, by simp, by simp⟩
theorem Was.below {wb W W' : World} {wv : Value} {vs : List Value} {ls : List (List Int)} (h : Was wb W wv vs ls) (hB : Below W.heap.size W W') : Was wb W' wv vs ls := by
  refine ⟨?_, h.len, fun j v l h1 h2 => (h.ints j v l h1 h2).below hB, fun j v g h1 h2 => ?_⟩
  · obtain ⟨h1, h2⟩ := h.row
    refine ⟨h1, ?_⟩
    rcases h2 with h2 | ⟨g, c, cur, rfl, h3, h4, h5⟩
    · exact .inl h2
    · exact .inr ⟨g, c, cur, rfl, h3, (hB.block g (Array.getElem?_eq_some_iff.1 h4).1).trans h4, h5⟩
  · obtain ⟨a, b, c⟩ := h.apart j v g h1 h2; exact ⟨a, Nat.lt_of_lt_of_le b hB.size, c⟩
/-- One row more. -/
theorem Was.more {wb W W' : World} {wv wv' v : Value} {vs : List Value} {ls : List (List Int)} {l : List Int} (h : Was wb W wv vs ls) (hv : IntRow W v l) (hvb : ∀ g, v.ownBlock = some g → wb.heap.size ≤ g ∧ g < W.heap.size ∧ wv.ownBlock ≠ some g)
    (ho : W'.ownsRow wb.heap.size 42 1 wv' (vs.length + 1) (vs ++ [v])) (hB : But (fun k => wv.ownBlock = some k) W W') (hat : wv'.ownBlock = wv.ownBlock ∨ ∀ g, wv'.ownBlock = some g → W.heap.size ≤ g) : Was wb W' wv' (vs ++ [v]) (ls ++ [l]) := by
  have hap : ∀ g, wb.heap.size ≤ g ∧ g < W.heap.size ∧ wv.ownBlock ≠ some g → wb.heap.size ≤ g ∧ g < W'.heap.size ∧ wv'.ownBlock ≠ some g := fun g ⟨a, b, c⟩ => by
    refine ⟨a, Nat.lt_of_lt_of_le b hB.size, fun e => ?_⟩
    rcases hat with h1 | h1
    · exact c (h1 ▸ e)
    · have := h1 g e; omega
  have split : ∀ (j : Nat) (u : Value), (vs ++ [v])[j]? = some u → (j < vs.length ∧ vs[j]? = some u) ∨ (j = vs.length ∧ u = v) := fun j u hj => by
    by_cases hlt : j < vs.length
    · rw [List.getElem?_append_left hlt] at hj; exact .inl ⟨hlt, hj⟩
    · rw [List.getElem?_append_right (by omega)] at hj
      have : j - vs.length = 0 := by have := (List.getElem?_eq_some_iff.1 hj).1; simp at this; omega
      rw [this] at hj; simp at hj; exact .inr ⟨by omega, hj.symm⟩
  refine ⟨by simpa using ho, by simp [h.len], fun j u l' h1 h2 => ?_, fun j u g h1 h2 => ?_⟩
  · rcases split j u h1 with ⟨a, b⟩ | ⟨a, rfl⟩
    · rw [List.getElem?_append_left (by rw [← h.len]; exact a)] at h2
      exact (h.ints j u l' b h2).but hB (fun g e c => (h.apart j u g b e).2.2 c)
    · rw [a, List.getElem?_append_right (by rw [h.len]; exact Nat.le_refl _), h.len] at h2
      simp at h2; subst h2
      exact hv.but hB (fun g e c => (hvb g e).2.2 c)
  · rcases split j u h1 with ⟨a, b⟩ | ⟨a, rfl⟩
    · exact hap g (h.apart j u g b h2)
    · exact hap g (hvb g h2)

theorem Was.but {wb W W' : World} {wv : Value} {vs : List Value} {ls : List (List Int)} (h : Was wb W wv vs ls) {C : Nat → Prop} (hB : But C W W') (hC : ∀ k, wb.heap.size ≤ k → ¬ C k) : Was wb W' wv vs ls := by
  refine ⟨?_, h.len, fun j v l h1 h2 => (h.ints j v l h1 h2).but hB (fun g e => hC g (h.apart j v g h1 e).1), fun j v g h1 h2 => ?_⟩
  · obtain ⟨h1, h2⟩ := h.row
    refine ⟨h1, ?_⟩
    rcases h2 with h2 | ⟨g, c, cur, rfl, h3, h4, h5⟩
    · exact .inl h2
    · exact .inr ⟨g, c, cur, rfl, h3, hB.at h4 (hC g h3), h5⟩
  · obtain ⟨a, b, c⟩ := h.apart j v g h1 h2; exact ⟨a, Nat.lt_of_lt_of_le b hB.size, c⟩
theorem Was.lt {wb W : World} {wv : Value} {vs : List Value} {ls : List (List Int)} (h : Was wb W wv vs ls) : ∀ g, wv.ownBlock = some g → g < W.heap.size := fun g e => by
  obtain ⟨h1, ⟨rfl, _⟩ | ⟨g', c, cur, rfl, h3, h4, h5⟩⟩ := h.row
  · cases e
  · cases e; exact (Array.getElem?_eq_some_iff.1 h4).1
theorem Was.cell {wb W : World} {wv : Value} {vs : List Value} {ls : List (List Int)} (h : Was wb W wv vs ls) : ∃ a c, wv = .slice a vs.length c ∧ ∀ (j : Nat) v, vs[j]? = some v → ∃ g, a = some ⟨g, 0, none⟩ ∧ W.cell? ⟨g, j, none⟩ = some v := by
  obtain ⟨h1, ⟨rfl, h0⟩ | ⟨g, c, cur, rfl, h3, h4, h5, h6, h7, h8⟩⟩ := h.row
  · refine ⟨none, 0, by rw [h0], fun j v hj => ?_⟩
    have := (List.getElem?_eq_some_iff.1 hj).1
    omega
  · refine ⟨_, c, rfl, fun j v hj => ⟨g, rfl, ?_⟩⟩
    rw [cell_at h4 j]
    have hjl := (List.getElem?_eq_some_iff.1 hj).1
    have : (cur.toList.take (vs.length * 1))[j]? = vs[j]? := by rw [h8]
    rw [List.getElem?_take_of_lt (by omega), hj] at this
    simpa using this
end Go.Proofs.YtnlplnlclnbdiaaGreatDoor
