/- How a script's row and a row of names read; no condition but those that each theorem names. -/
import Derived.Test.YtcnglhlljmfanaaGreatDoorRd1
import Derived.Test.YtcnglhlljmfanaaGreatDoorMd
import Derived.Deep.Strs
namespace Go.Proofs.YtcnglhlljmfanaaGreatDoor
open Go.ChangeShapes Go.WideShapes Go.ChangeAt Go.WideMaps Go.WideElems Go.RowKit Tp Go.Deep

section
variable {H : Type} {enc : TypeId × Value → H} {W : World} {sp : Nat → Bool}

theorem acts_of_trod {fuel : Nat} {v : Value} {d : DataW H} {ps : List MemPlace} (h : DataW.trod enc Tryz.prog W 0 sp true fuel 22 [v] = some (d, ps)) :
    ∃ X, ActRow W v X ∧ ActOk X ∧ (X = [] ∨ ∃ es sp, d = .slice es sp ∧ es.length = X.length) := by
  rcases open_slice Tryz.underlying22 h with ⟨hc, _⟩ | ⟨a, len, cap, m, n, D, Pl, hc, _, hl, _, hmm, hx, hall⟩
  · simp only [List.cons.injEq, and_true] at hc
    exact ⟨[], .inl ⟨⟨_, _, hc⟩, rfl⟩, ⟨by simp, by simp⟩, .inl rfl⟩
  · simp only [List.cons.injEq, and_true] at hc
    subst hc
    have hlm : len ≤ m := by rw [hmm]; split <;> omega
    cases len with
    | zero => exact ⟨[], .inl ⟨⟨_, _, rfl⟩, rfl⟩, ⟨by simp, by simp⟩, .inl rfl⟩
    | succ l =>
      have each : ∀ i, i < l + 1 → ∃ x : Ac, (W.cell? (a.add (i * 3)) = some (.int .i64 x.1) ∧ W.cell? ((a.add (i * 3)).add 1) = some (.string x.2.1) ∧ W.cell? ((a.add (i * 3)).add 2) = some (.int .i64 x.2.2)) ∧ x.2.1.size ≤ maxLen ∧ (Lit.int .i64 x.2.2).wf = true := fun i hi => by
        obtain ⟨cs', h1, h2⟩ := hall i (by omega)
        rw [tcAct] at h1
        obtain ⟨_, hlen, hcell⟩ := World.cells?_some h1
        match cs', hlen, h2, hcell with
        | [c0, c1, c2], _, h2, hcell =>
          obtain ⟨k, s, j, rfl, rfl, rfl, hs, hj⟩ := act_of_trod _ _ _ _ _ h2
          exact ⟨(k, s, j), ⟨by simpa [Addr.add] using hcell 0 (by omega), hcell 1 (by omega), hcell 2 (by omega)⟩, hs, hj⟩
      obtain ⟨F, hF⟩ := choose_lt each
      obtain ⟨g, o, spot⟩ := a
      have hspot : spot = none := by simpa [Addr.add] using World.cell?_spot (hF 0 (by omega)).1.1
      subst hspot
      have hg : g < W.heap.size := by
        have := (hF 0 (by omega)).1.1
        unfold World.cell? at this
        by_cases hgl : g < W.heap.size
        · exact hgl
        · simp [Addr.add, Array.getElem?_eq_none (Nat.le_of_not_lt hgl)] at this
      have hget : ∀ (j : Nat) (x : Ac), ((List.range (l + 1)).map F)[j]? = some x → j < l + 1 ∧ x = F j := fun j x hj => by
        have hjl := (List.getElem?_eq_some_iff.1 hj).1
        simp at hjl
        rw [List.getElem?_map, List.getElem?_range hjl] at hj
        simp at hj; exact ⟨hjl, hj.symm⟩
      have hmem : ∀ x, x ∈ (List.range (l + 1)).map F → ∃ j, j < l + 1 ∧ x = F j := fun x hm => by
        obtain ⟨j, hj, rfl⟩ := List.mem_map.1 hm; exact ⟨j, List.mem_range.1 hj, rfl⟩
      refine ⟨(List.range (l + 1)).map F, .inr ⟨g, o, cap, by simp, hg, fun j x hj => ?_⟩, ⟨fun x hm => ?_, fun x hm => ?_⟩, .inr ⟨_, _, (Prod.mk.inj hx).1, by simp⟩⟩
      · obtain ⟨hjl, rfl⟩ := hget j x hj
        have := (hF j hjl).1
        simpa only [add_plain] using this
      · obtain ⟨j, hj, rfl⟩ := hmem x hm
        have := (hF j hj).2.1
        unfold maxLen at this; omega
      · obtain ⟨j, hj, rfl⟩ := hmem x hm
        exact (hF j hj).2.2

theorem names_of_trod {fuel : Nat} {v : Value} {d : DataW H} {ps : List MemPlace} (h : DataW.trod enc Tryz.prog W 0 sp true fuel 47 [v] = some (d, ps)) :
    ∃ X, NamesAt W v X ∧ (∀ x ∈ X, x.size ≤ 9223372036854775807) ∧ (X = [] ∨ ∃ es sp, d = .slice es sp ∧ es.length = X.length) := by
  rcases open_strs Tryz.underlying47 Tryz.underlying9 tcStr h with ⟨hc, _⟩ | ⟨a, len, cap, m, F, hc, _, hl, _, hmm, hx, hall⟩
  · simp only [List.cons.injEq, and_true] at hc
    exact ⟨[], .inl ⟨⟨_, _, hc⟩, rfl⟩, by simp, .inl rfl⟩
  · simp only [List.cons.injEq, and_true] at hc
    subst hc
    have hlm : len ≤ m := by rw [hmm]; split <;> omega
    cases len with
    | zero => exact ⟨[], .inl ⟨⟨_, _, rfl⟩, rfl⟩, by simp, .inl rfl⟩
    | succ l =>
      obtain ⟨g, o, spot⟩ := a
      have hspot : spot = none := by simpa [Addr.add] using World.cell?_spot (hall 0 (by omega)).1
      subst hspot
      have hg : g < W.heap.size := by
        have := (hall 0 (by omega)).1
        unfold World.cell? at this
        by_cases hgl : g < W.heap.size
        · exact hgl
        · simp [Addr.add, Array.getElem?_eq_none (Nat.le_of_not_lt hgl)] at this
      refine ⟨(List.range (l + 1)).map F, .inr ⟨g, o, cap, by simp, hg, fun j x hj => ?_⟩, fun x hm => ?_, .inr ⟨_, _, (Prod.mk.inj hx).1, by simp⟩⟩
      · have hjl := (List.getElem?_eq_some_iff.1 hj).1
        simp at hjl
        rw [List.getElem?_map, List.getElem?_range hjl] at hj
        simp at hj; subst hj
        simpa only [add_plain] using (hall j (by omega)).1
      · obtain ⟨j, hj, rfl⟩ := List.mem_map.1 hm
        have := (hall j (by have := List.mem_range.1 hj; omega)).2
        unfold maxLen at this; omega
end
end Go.Proofs.YtcnglhlljmfanaaGreatDoor
