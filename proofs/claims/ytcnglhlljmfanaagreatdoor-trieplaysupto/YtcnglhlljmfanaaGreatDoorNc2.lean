/- The document's list: Under, Match; no condition but those that each theorem names. -/
import Derived.Test.YtcnglhlljmfanaaGreatDoorNc
import Derived.Test.YtcnglhlljmfanaaGreatDoorRm
namespace Go.Proofs.YtcnglhlljmfanaaGreatDoor
open Go.RowKit Tp Go.Maps Go.Shelf

section
variable {w : World} {lb B : Nat} {v : Value} {A : List (Bs × Int)}

set_option maxRecDepth 100000 in
set_option maxHeartbeats 4000000 in
theorem lunder_any (h : ListAt w lb B v A) (f : Bs) (hA : A.length ≤ 4398046511104) :
    Calls Tryz.prog 16 #[.pointer (some ⟨lb, 0, none⟩), .string (bs f)] w fun e w' => ∃ a c l, e = .returned (.slice a l.length c) ∧ Rise l ∧ (∀ i, i ∈ l ↔ (f, i) ∈ A) ∧ l.length ≤ A.length ∧ IntsAt w' w.heap.size (.slice a l.length c) l ∧ Below w.heap.size w w' := by
  obtain ⟨av, cv, rfl, hcl⟩ := list_cells h
  have CL := Lib.hid hcl
  have c0 := (hcl w (Below.refl _ _)).1
  have KW := Lib.hid rput_any
  clear h hcl
  go_enter Tryz.func16, Tryz.ntmps16
  go_wp2
  go_loopg [5, 6] A.length (fun gk s3 s4 wx => ∃ (j : Nat) (a : Option Addr) (c : Nat) (l : List Int), j + gk = A.length ∧ s4 = .int .i64 j ∧ s3 = .slice a l.length c ∧ Below w.heap.size w wx ∧ Rise l ∧ IntsAt wx w.heap.size (.slice a l.length c) l ∧ ∀ i, i ∈ l ↔ (f, i) ∈ A.take j)
  case atStart => exact ⟨0, none, 0, [], by omega, rfl, rfl, Below.refl _ _, List.Pairwise.nil, World.ownsRow_nil _ _ _ _, by simp⟩
  case round =>
    obtain ⟨j, a, c, l, hjg, rfl, rfl, hB, hr, ht, hm⟩ := hrel
    have hl : l.length ≤ A.length := irise_len hr (fun i hi => ⟨f, List.mem_of_mem_take ((hm i).1 hi)⟩)
    obtain ⟨c1, hcj⟩ := CL.out wr hB
    cases gk with
    | zero =>
      obtain rfl : j = A.length := by omega
      rw [List.take_length] at hm
      have HT := Lib.hid ht
      clear ht hcj
      go_wp2
      go_ret
      exact ⟨a, c, l, rfl, hr, hm, hl, HT.out, hB⟩
    | succ gq =>
      have hj : j < A.length := by omega
      have hj' : ((j : Nat) : Int) < (A.length : Int) := by omega
      obtain ⟨g, rfl, k1, k2⟩ := hcj j hj
      have KWj := Lib.hid (KW.out wr w.heap.size hB.size _ l A[j].2 ht hr (by omega))
      have HM := Lib.hid hm
      have HT := Lib.hid ht
      clear hcj ht hm
      by_cases hf : A[j].1 = f
      · have b1 : ((bs A[j].1).toList == (bs f).toList) = true := by rw [beqq]; exact decide_eq_true hf
        have HF := Lib.hid hf
        clear hf
        go_wp2_with (first
          | (go_at_call 36; refine KWj.out.mono ?_; rintro e w3 ⟨a3, c3, l3, rfl, p1, p2, p3, p4, p5⟩))
        have P4 := Lib.hid p4
        clear p4
        go_roundg gq
        case measure => omega
        case rel =>
          refine ⟨j + 1, a3, c3, l3, by omega, by first | rfl | rw [wrap64_nat (by omega)] | simp, rfl, hB.trans (p5.mono hB.size), p1, P4.out, fun i => ?_⟩
          rw [p2 i, HM.out i, mem_take1 A j hj]
          constructor
          · rintro (h | rfl)
            · exact .inl h
            · exact .inr (by rw [← HF.out])
          · rintro (h | h)
            · exact .inl h
            · exact .inr (by rw [← h])
      · have b1 : ((bs A[j].1).toList == (bs f).toList) = false := by rw [beqq]; exact decide_eq_false hf
        go_wp2
        go_roundg gq
        case measure => omega
        case rel =>
          refine ⟨j + 1, a, c, l, by omega, by first | rfl | rw [wrap64_nat (by omega)] | simp, rfl, hB, hr, HT.out, fun i => ?_⟩
          rw [HM.out i, mem_take1 A j hj]
          constructor
          · exact .inl
          · rintro (h | h)
            · exact h
            · exact absurd (by rw [← h]) hf

set_option maxRecDepth 100000 in
set_option maxHeartbeats 4000000 in
theorem lmatch_any (h : ListAt w lb B v A) (nm : ByteArray) (hn : nm.size ≤ 9223372036854775807) (hs : ∀ e ∈ A, e.1.length ≤ 65535) (hT : Tabs w) (hA : A.length ≤ 4398046511104) :
    Calls Tryz.prog 14 #[.pointer (some ⟨lb, 0, none⟩), .string nm] w fun e w' => ∃ a c l, e = .returned (.slice a l.length c) ∧ Rise l ∧ (∀ i, i ∈ l ↔ ∃ f, (f, i) ∈ A ∧ matchesR f (tl nm) = true) ∧ l.length ≤ A.length ∧ IntsAt w' w.heap.size (.slice a l.length c) l ∧ Below w.heap.size w w' := by
  obtain ⟨av, cv, rfl, hcl⟩ := list_cells h
  have CL := Lib.hid hcl
  have c0 := (hcl w (Below.refl _ _)).1
  have KW := Lib.hid rput_any
  have KX : Hid (∀ W (j : Nat) (hj : j < A.length), Below w.heap.size w W → Calls Tryz.prog 35 #[.string (bs A[j].1), .string nm] W fun e w' => e = .returned (.bool (matchesR A[j].1 (tl nm))) ∧ Below W.heap.size W w') := fun W j hj hW => by
    have h1 := hs A[j] (List.getElem_mem hj)
    have := rmatch_any (bs A[j].1) nm W (by rw [← tl_size, tl_bs]; omega) hn (hT.from (Nat.le_refl _) hW)
    rw [tl_bs] at this; exact this
  clear h hcl
  go_enter Tryz.func14, Tryz.ntmps14
  go_wp2
  go_loopg [5, 6] A.length (fun gk s3 s4 wx => ∃ (j : Nat) (a : Option Addr) (c : Nat) (l : List Int), j + gk = A.length ∧ s4 = .int .i64 j ∧ s3 = .slice a l.length c ∧ Below w.heap.size w wx ∧ Rise l ∧ IntsAt wx w.heap.size (.slice a l.length c) l ∧ ∀ i, i ∈ l ↔ ∃ f, (f, i) ∈ A.take j ∧ matchesR f (tl nm) = true)
  case atStart => exact ⟨0, none, 0, [], by omega, rfl, rfl, Below.refl _ _, List.Pairwise.nil, World.ownsRow_nil _ _ _ _, by simp⟩
  case round =>
    obtain ⟨j, a, c, l, hjg, rfl, rfl, hB, hr, ht, hm⟩ := hrel
    have hl : l.length ≤ A.length := irise_len hr (fun i hi => by obtain ⟨f, h, _⟩ := (hm i).1 hi; exact ⟨f, List.mem_of_mem_take h⟩)
    obtain ⟨c1, hcj⟩ := CL.out wr hB
    cases gk with
    | zero =>
      obtain rfl : j = A.length := by omega
      rw [List.take_length] at hm
      have HT := Lib.hid ht
      clear ht hcj
      go_wp2
      go_ret
      exact ⟨a, c, l, rfl, hr, hm, hl, HT.out, hB⟩
    | succ gq =>
      have hj : j < A.length := by omega
      have hj' : ((j : Nat) : Int) < (A.length : Int) := by omega
      obtain ⟨g, rfl, k1, k2⟩ := hcj j hj
      have HM := Lib.hid hm
      have HT := Lib.hid ht
      have KXj := Lib.hid (KX.out wr j hj hB)
      have XC : Hid (∀ W, Below w.heap.size w W → W.cell? ⟨lb, 0, none⟩ = some (.slice (some ⟨g, 0, none⟩) A.length cv) ∧ W.cell? ⟨g, j * 2 + 1, none⟩ = some (.int .i64 A[j].2)) := fun W hW => by
        obtain ⟨q1, q2⟩ := CL.out W hW
        obtain ⟨g', e, _, q3⟩ := q2 j hj
        cases e; exact ⟨q1, q3⟩
      clear hcj ht hm
      cases hmt : matchesR A[j].1 (tl nm) with
      | true =>
        rw [hmt] at KXj
        go_wp2_with (first
          | (go_at_call 35; refine KXj.out.mono ?_; rintro e w2 ⟨rfl, h2⟩; have h2' := hB.trans (h2.mono hB.size); obtain ⟨d1, d2⟩ := XC.out w2 h2'; have KWj := Lib.hid (KW.out w2 w.heap.size h2'.size _ l A[j].2 (row_below HT.out h2) hr (by omega)))
          | (go_at_call 36; refine KWj.out.mono ?_; rintro e w3 ⟨a3, c3, l3, rfl, p1, p2, p3, p4, p5⟩))
        have P4 := Lib.hid p4
        clear p4
        go_roundg gq
        case measure => omega
        case rel =>
          refine ⟨j + 1, a3, c3, l3, by omega, by first | rfl | rw [wrap64_nat (by omega)] | simp, rfl, h2'.trans (p5.mono h2'.size), p1, P4.out, fun i => ?_⟩
          rw [p2 i, HM.out i]
          constructor
          · rintro (⟨f, h, h'⟩ | rfl)
            · exact ⟨f, (mem_take1 A j hj _).2 (.inl h), h'⟩
            · exact ⟨A[j].1, (mem_take1 A j hj _).2 (.inr rfl), hmt⟩
          · rintro ⟨f, h, h'⟩
            rcases (mem_take1 A j hj _).1 h with h | h
            · exact .inl ⟨f, h, h'⟩
            · exact .inr (by rw [← h])
      | false =>
        rw [hmt] at KXj
        go_wp2_with (first
          | (go_at_call 35; refine KXj.out.mono ?_; rintro e w2 ⟨rfl, h2⟩; have h2' := hB.trans (h2.mono hB.size)))
        go_roundg gq
        case measure => omega
        case rel =>
          refine ⟨j + 1, a, c, l, by omega, by first | rfl | rw [wrap64_nat (by omega)] | simp, rfl, h2', hr, row_below HT.out h2, fun i => ?_⟩
          rw [HM.out i]
          constructor
          · rintro ⟨f, h, h'⟩; exact ⟨f, (mem_take1 A j hj _).2 (.inl h), h'⟩
          · rintro ⟨f, h, h'⟩
            rcases (mem_take1 A j hj _).1 h with h | h
            · exact ⟨f, h, h'⟩
            · rw [show f = A[j].1 by rw [← h], hmt] at h'; cases h'
end
end Go.Proofs.YtcnglhlljmfanaaGreatDoor
