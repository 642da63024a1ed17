/- The document's list: Filters; no condition but those that each theorem names. -/
import Derived.Test.YtcnglhlljmfanaaGreatDoorMa
import Derived.Test.YtcnglhlljmfanaaGreatDoorNb
namespace Go.Proofs.YtcnglhlljmfanaaGreatDoor
open Go.RowKit Tp Go.Maps Go.Shelf

section
variable {w : World} {lb B : Nat} {v : Value} {A : List (Bs × Int)}

theorem list_cells (h : ListAt w lb B v A) : ∃ a c, v = .slice a A.length c ∧ ∀ W, Below w.heap.size w W → W.cell? ⟨lb, 0, none⟩ = some v ∧ ∀ (j : Nat) (hj : j < A.length), ∃ g, a = some ⟨g, 0, none⟩ ∧ W.cell? ⟨g, j * 2, none⟩ = some (.string (bs A[j].1)) ∧ W.cell? ⟨g, j * 2 + 1, none⟩ = some (.int .i64 A[j].2) := by
  obtain ⟨a, c, rfl⟩ := row_slice h.2.1
  refine ⟨a, c, rfl, fun W hW => ?_⟩
  have h' := h.below hW
  refine ⟨by rw [cell_at h'.1 0]; rfl, fun j hj => ?_⟩
  obtain ⟨hA1, hA2⟩ := cellsL_get A j A[j] (by simp [hj])
  obtain ⟨g, cp, cur, e0, _, hg, _, _, hcs, htk⟩ := h'.2.1.2.resolve_left (fun h0 => by omega)
  simp only [Value.slice.injEq, true_and] at e0
  obtain ⟨rfl, rfl⟩ := e0
  refine ⟨g, rfl, ?_, ?_⟩
  · rw [cell_at hg, ← hA1, ← htk, List.getElem?_take_of_lt (by omega)]; simp
  · rw [cell_at hg, ← hA2, ← htk, List.getElem?_take_of_lt (by omega)]; simp
theorem trise_len {l : List Bs} (hr : TRise l) (h : ∀ f ∈ l, ∃ i, (f, i) ∈ A) : l.length ≤ A.length := by
  have := nodup_le l (A.map Prod.fst) (List.Pairwise.imp (S := fun a b => a ≠ b) (fun {a b} h e => blt_irr a (by rw [← e] at h; exact h)) hr) (fun i hi => by obtain ⟨f, hf⟩ := h i hi; exact List.mem_map.2 ⟨_, hf, rfl⟩)
  rwa [List.length_map] at this
theorem irise_len {l : List Int} (hr : Rise l) (h : ∀ i ∈ l, ∃ f, (f, i) ∈ A) : l.length ≤ A.length := by
  have := nodup_le l (A.map Prod.snd) (hr.imp fun {a b} h => by omega) (fun i hi => by obtain ⟨f, hf⟩ := h i hi; exact List.mem_map.2 ⟨_, hf, rfl⟩)
  rwa [List.length_map] at this
theorem mem_take1 {α : Type} (l : List α) (j : Nat) (hj : j < l.length) (x : α) : x ∈ l.take (j + 1) ↔ x ∈ l.take j ∨ x = l[j] := by rw [List.take_succ_eq_append_getElem hj, List.mem_append, List.mem_singleton]

set_option maxRecDepth 100000 in
set_option maxHeartbeats 4000000 in
theorem lfilters_any (h : ListAt w lb B v A) (hA : A.length ≤ 4398046511104) :
    Calls Tryz.prog 19 #[.pointer (some ⟨lb, 0, none⟩)] w fun e w' => ∃ a c l, e = .returned (.slice a l.length c) ∧ TRise l ∧ (∀ f, f ∈ l ↔ ∃ i, (f, i) ∈ A) ∧ l.length ≤ A.length ∧ TextsAt w' w.heap.size (.slice a l.length c) l ∧ Below w.heap.size w w' := by
  obtain ⟨av, cv, rfl, hcl⟩ := list_cells h
  have CL := Lib.hid hcl
  have c0 := (hcl w (Below.refl _ _)).1
  have KW := Lib.hid rword_any
  clear h hcl
  go_enter Tryz.func19, Tryz.ntmps19
  go_wp2
  go_loopg [3, 4] A.length (fun gk s3 s4 wx => ∃ (j : Nat) (a : Option Addr) (c : Nat) (l : List Bs), j + gk = A.length ∧ s4 = .int .i64 j ∧ s3 = .slice a l.length c ∧ Below w.heap.size w wx ∧ TRise l ∧ TextsAt wx w.heap.size (.slice a l.length c) l ∧ ∀ f, f ∈ l ↔ ∃ i, (f, i) ∈ A.take j)
  case atStart => exact ⟨0, none, 0, [], by omega, rfl, rfl, Below.refl _ _, List.Pairwise.nil, World.ownsRow_nil _ _ _ _, by simp⟩
  case round =>
    obtain ⟨j, a, c, l, hjg, rfl, rfl, hB, hr, ht, hm⟩ := hrel
    have hl : l.length ≤ A.length := trise_len hr (fun f hf => by obtain ⟨i, hi⟩ := (hm f).1 hf; exact ⟨i, List.mem_of_mem_take hi⟩)
    obtain ⟨c1, hcj⟩ := CL.out wr hB
    cases gk with
    | zero =>
      obtain rfl : j = A.length := by omega
      rw [List.take_length] at hm
      have HT := Lib.hid ht
      clear ht hcj
      go_wp2
      go_ret
      exact ⟨a, c, l, rfl, hr, hm, hl, HT.out, hB⟩
    | succ gq =>
      have hj : j < A.length := by omega
      have hj' : ((j : Nat) : Int) < (A.length : Int) := by omega
      obtain ⟨g, rfl, k1, k2⟩ := hcj j hj
      have KWj := Lib.hid (KW.out wr w.heap.size hB.size _ l A[j].1 ht hr (by omega))
      have HM := Lib.hid hm
      clear hcj ht hm
      go_wp2_with (first
        | (go_at_call 42; refine KWj.out.mono ?_; rintro e w3 ⟨a3, c3, l3, rfl, p1, p2, p3, p4, p5⟩))
      have P4 := Lib.hid p4
      clear p4
      go_roundg gq
      case measure => omega
      case rel =>
        refine ⟨j + 1, a3, c3, l3, by omega, by first | rfl | rw [wrap64_nat (by omega)] | simp, rfl, hB.trans (p5.mono hB.size), p1, P4.out, fun f => ?_⟩
        rw [p2 f, HM.out f]
        constructor
        · rintro (⟨i, hi⟩ | rfl)
          · exact ⟨i, (mem_take1 A j hj _).2 (.inl hi)⟩
          · exact ⟨A[j].2, (mem_take1 A j hj _).2 (.inr rfl)⟩
        · rintro ⟨i, hi⟩
          rcases (mem_take1 A j hj _).1 hi with h | h
          · exact .inl ⟨i, h⟩
          · exact .inr (by rw [← h])
end
end Go.Proofs.YtcnglhlljmfanaaGreatDoor
