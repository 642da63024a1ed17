/- The small calls on one node: put, take, extend, prune, down; no condition but those that each theorem names. -/
import Derived.Test.YtcnglhlljmfanaaGreatDoorKc
namespace Go.Proofs.YtcnglhlljmfanaaGreatDoor
open Go.RowKit Tp Go.Maps

theorem cell_at {w : World} {g : Nat} {cs : Array Value} {t : TypeId} {fr : Nat × Nat} (h : w.heap[g]? = some (.cells cs t fr)) (i : Nat) : w.cell? ⟨g, i, none⟩ = cs[i]? := by simp [World.cell?, h]
theorem frozen_at {w : World} {g : Nat} {cs : Array Value} {t : TypeId} (h : w.heap[g]? = some (.cells cs t (0, 0))) (i : Nat) : w.frozen? ⟨g, i, none⟩ = false := by simp [World.frozen?, h]
theorem block_set {w : World} {g i : Nat} {cs : Array Value} {t : TypeId} {fr : Nat × Nat} (h : w.heap[g]? = some (.cells cs t fr)) (v : Value) : (w.setCell ⟨g, i, none⟩ v).heap[g]? = some (.cells (cs.setIfInBounds i v) t fr) := by
  obtain ⟨hlt, hk⟩ := Array.getElem?_eq_some_iff.1 h
  show (w.heap.modify g _)[g]? = _
  rw [Array.getElem?_eq_getElem (by rw [Array.size_modify]; exact hlt), Array.getElem_modify_self, hk]
  rfl
theorem But.set {C : Nat → Prop} (w : World) (a : Addr) (v : Value) (h : C a.block) : But C w (w.setCell a v) :=
  ⟨rfl, rfl, rfl, by simp [World.setCell], fun k _ hn => RowKit.Below.heap_setCell _ _ _ _ (fun e => hn (e ▸ h))⟩

/-- A number more at one path. -/
def add (S : Pth → Int → Bool) (p : Pth) (i : Int) : Pth → Int → Bool := fun q j => decide (q = p ∧ j = i) || S q j
/-- A number less. -/
def sub (S : Pth → Int → Bool) (p : Pth) (i : Int) : Pth → Int → Bool := fun q j => !decide (q = p ∧ j = i) && S q j

theorem add_there {S : Pth → Int → Bool} {p : Pth} {i : Int} (h : S p i = true) : add S p i = S := by
  funext q j
  by_cases e : q = p ∧ j = i
  · obtain ⟨rfl, rfl⟩ := e; simp [add, h]
  · simp [add, e]
theorem add_other {S : Pth → Int → Bool} {p q : Pth} {i : Int} (h : q ≠ p) : add S p i q = S q := by funext j; simp [add, h]
theorem sub_other {S : Pth → Int → Bool} {p q : Pth} {i : Int} (h : q ≠ p) : sub S p i q = S q := by funext j; simp [sub, h]
theorem sub_none {S : Pth → Int → Bool} {p : Pth} {i : Int} (h : S p i = false) : sub S p i = S := by
  funext q j
  by_cases e : q = p ∧ j = i
  · obtain ⟨rfl, rfl⟩ := e; simp [sub, h]
  · simp [sub, e]

theorem key_i64 (i : Int) : WideAt.IsKeyLit (.int .i64 i) := trivial
theorem lit_ne {i j : Int} (h : j ≠ i) : (Lit.int .i64 j) ≠ .int .i64 i := fun e => h (by cases e; rfl)

section
variable {w : World} {nd : Pth → Option Nd} {own : Nat → Option (Pth × Nat)} {S : Pth → Int → Bool} {K : Nat} {p : Pth} {n : Nd}

set_option maxRecDepth 100000 in
set_option maxHeartbeats 2000000 in
theorem put_any (g : G w nd own S K) (hp : nd p = some n) (hK : K < maxLen) (i : Int) (hi : (Lit.int .i64 i).wf = true) :
    Calls Tryz.prog 25 #[.pointer (some ⟨n.a, 0, none⟩), .int .i64 i] w fun e w' => e = .returned (.bool (!S p i)) ∧ ∃ nd' own', G w' nd' own' (add S p i) (K + 1) ∧ Sme nd nd' ∧ Gro w own own' ∧ But (Bl own) w w' := by
  obtain ⟨a, x, y⟩ := n
  have hb : w.heap[a]? = some (.cells #[.map x, .map y] 39 (0, 0)) := g.cell p _ hp
  have hc0 := cell_at hb 0
  have hc1 := cell_at hb 1
  have hf0 := frozen_at hb 0
  simp at hc0 hc1
  have hs : SetAt w x (S p) K := g.num p _ hp
  have hlk := hs.look i hi
  have hkey : keyOf Tryz.prog 3 (.int .i64 i) = some (.int .i64 i) := Maps.keyOf_int_mk Tryz.underlying3 hi
  have hlt := (Array.getElem?_eq_some_iff.1 hb).1
  have hbA := (Below.heap_alloc w (.cells #[] 68) a hlt).trans hb
  have hcA := cell_at hbA 0
  have hfA := frozen_at hbA 0
  simp at hcA
  have qN : ∀ (w : World) (r : Option Nat), (binOp .eql 36 (.map r) (.map none)).run Tryz.prog w = .ok (.bool r.isNone) w := fun w r => run_eql_map_nil w _ _ _ r Tryz.underlying36
  have hBa : Bl own a := by show own a ≠ none; rw [g.oa p ⟨a, x, y⟩ hp]; simp
  cases hS : S p i with
  | true =>
    rw [hS] at hlk
    go_enter Tryz.func25, Tryz.ntmps25
    go_wp2
    go_ret
    exact ⟨rfl, nd, own, by rw [add_there hS]; exact (g.below (below1 w _)).mono (Nat.le_succ K), Sme.refl _, Gro.refl _ _, But.alloc _ _⟩
  | false =>
    rw [hS] at hlk
    cases x with
    | some b =>
      obtain ⟨m, D, ho, hm, hD⟩ := hs
      have hBb : Bl own b := by show own b ≠ none; rw [g.ox p _ b hp rfl]; simp
      go_enter Tryz.func25, Tryz.ntmps25
      go_wp2_with (first
        | (at_mapUpdate; refine wpList_mapUpdate_own _ rfl _ _ _ 36 rfl 3 68 intK Tryz.underlying36 unitElem b m D rfl (ho.alloc _) (by omega) _ _ _ rfl rfl hkey (.agg []) [] unitElem_mk ?_; intro w1 ho1 hg1)
        | go_in)
      go_ret
      have hB1 : But (fun k => k = b) w w1 := (But.alloc w _).trans (But.grown (C := fun k => k = b) hg1 (fun k e _ => by cases e; rfl)) (fun _ _ h => h)
      obtain ⟨nd', own', r1, r2, r3⟩ := g.num1 hp hB1 (fun k e => .inr (by rw [e])) (some b) (.inl rfl)
        (hB1.at hb (own_nj (g.oa p _ hp) (g.ox p _ b hp rfl) (by decide))) (K' := K + 1) (by omega)
        (S' := add S p i) ⟨m + 1, _, ho1, by omega, fun j => by
          by_cases e : j = i
          · subst e; rw [has_put_same ho.isMap (key_i64 _)]; simp [add]
          · rw [has_put_other (lit_ne e), hD j]; simp [add, e]⟩ (fun q hq => add_other hq)
      exact ⟨rfl, nd', own', r1, r2, r3, hB1.mono (fun k _ e => e ▸ hBb)⟩
    | none =>
      obtain ⟨W1, hW1⟩ : ∃ W1, (w.alloc (.cells #[] 68)).alloc (.map #[] 0) = W1 := ⟨_, rfl⟩
      have hb1 : W1.heap[a]? = some (.cells #[.map none, .map y] 39 (0, 0)) := by rw [← hW1]; exact (Below.heap_alloc _ _ a (by simp; omega)).trans hbA
      have hz1 : W1.heap.size = w.heap.size + 2 := by rw [← hW1]; simp
      have hm1 : W1.ownsMap (H := Value) Tryz.prog 3 unitElem (w.heap.size + 1) 0 (.map []) := by
        have := World.ownsMap_made (H := Value) (w.alloc (.cells #[] 68)) Tryz.prog 3 unitElem
        rw [hW1] at this; simpa using this
      have hbW : But (fun _ => False) w W1 := by rw [← hW1]; exact (But.alloc w _).trans (But.alloc _ _) (fun _ _ h => h)
      have hc1 := cell_at hb1 0
      have hf1 := frozen_at hb1 0
      simp at hc1
      have hb2 := block_set (i := 0) hb1 (.map (some (w.heap.size + 1)))
      simp at hb2
      have hc2 := cell_at hb2 0
      simp at hc2
      have hm2 := hm1.setCell (a := ⟨a, 0, none⟩) (by show w.heap.size + 1 ≠ a; omega) (.map (some (w.heap.size + 1)))
      have hmk : (Instr.makeMap 36 none).run Tryz.prog (w.alloc (.cells #[] 68)) = .ok (.map (some (w.heap.size + 1))) W1 := by
        rw [← hW1]
        have := run_makeMap (P := Tryz.prog) 36 (w.alloc (.cells #[] 68))
        simpa using this
      go_enter Tryz.func25, Tryz.ntmps25
      go_wp2_with (first
        | (at_mapUpdate; refine wpList_mapUpdate_own _ rfl _ _ _ 36 rfl 3 68 intK Tryz.underlying36 unitElem _ 0 _ rfl hm2 (by omega) _ _ _ rfl rfl hkey (.agg []) [] unitElem_mk ?_; intro w1 ho1 hg1)
        | go_in)
      go_ret
      have hB1 : But (fun k => k = a) w w1 := ((hbW.mono (fun _ _ h => h.elim)).trans (But.set (C := fun k => k = a) W1 ⟨a, 0, none⟩ _ rfl) (fun _ _ h => h)).trans (But.grown (C := fun k => k = w.heap.size + 1) hg1 (fun k e _ => by cases e; rfl)) (fun k hk e => by omega)
      obtain ⟨nd', own', r1, r2, r3⟩ := g.num1 hp hB1 (fun k e => .inl e) (some (w.heap.size + 1)) (.inr ⟨rfl, _, rfl, by omega, ho1.lt⟩)
        ((hg1.block a (by simp [World.setCell]; omega) (fun e => by cases e; omega)).trans hb2) (K' := K + 1) (by omega)
        (S' := add S p i) ⟨0 + 1, _, ho1, by omega, fun j => by
          by_cases e : j = i
          · subst e; rw [has_put_same isMap_empty (key_i64 _)]; simp [add]
          · rw [has_put_other (lit_ne e)]; simp [add, e, Maps.has, hs j]⟩ (fun q hq => add_other hq)
      exact ⟨rfl, nd', own', r1, r2, r3, hB1.mono (fun k _ e => e ▸ hBa)⟩

set_option maxRecDepth 100000 in
set_option maxHeartbeats 2000000 in
theorem take_any (g : G w nd own S K) (hp : nd p = some n) (i : Int) (hi : (Lit.int .i64 i).wf = true) :
    Calls Tryz.prog 52 #[.pointer (some ⟨n.a, 0, none⟩), .int .i64 i] w fun e w' => e = .returned (.bool (S p i)) ∧ ∃ nd' own', G w' nd' own' (sub S p i) K ∧ Sme nd nd' ∧ Gro w own own' ∧ But (Bl own) w w' := by
  obtain ⟨a, x, y⟩ := n
  have hb : w.heap[a]? = some (.cells #[.map x, .map y] 39 (0, 0)) := g.cell p _ hp
  have hc0 := cell_at hb 0
  have hf0 := frozen_at hb 0
  simp at hc0
  have hs : SetAt w x (S p) K := g.num p _ hp
  have hlk := hs.look i hi
  have hkey : keyOf Tryz.prog 3 (.int .i64 i) = some (.int .i64 i) := Maps.keyOf_int_mk Tryz.underlying3 hi
  have hlt := (Array.getElem?_eq_some_iff.1 hb).1
  have hbA := (Below.heap_alloc w (.cells #[] 68) a hlt).trans hb
  have hcA := cell_at hbA 0
  have hfA := frozen_at hbA 0
  simp at hcA
  cases x with
  | none =>
    have hS : S p i = false := hs i
    have hdr : ∀ ty, (Builtin.delete_ #[36, 3] ty #[.map none, .int .i64 i]).run Tryz.prog (w.alloc (.cells #[] 68)) = .ok (.tuple #[]) (w.alloc (.cells #[] 68)) := fun ty => drop_nil intK Tryz.underlying36 hkey ty
    have hdr0 : ∀ ty, (Builtin.delete_ #[36, 3] ty #[.map none, .int .i64 i]).run Tryz.prog w = .ok (.tuple #[]) w := fun ty => drop_nil intK Tryz.underlying36 hkey ty
    go_enter Tryz.func52, Tryz.ntmps52
    go_wp2
    go_ret
    refine ⟨by rw [hS]; rfl, nd, own, ?_, Sme.refl _, Gro.refl _ _, ?_⟩
    · rw [sub_none hS]; first | exact g.below (below1 w _) | exact g
    · first | exact But.alloc _ _ | exact But.refl _ _
  | some b =>
    obtain ⟨m, D, ho, hm, hD⟩ := hs
    have hBb : Bl own b := by show own b ≠ none; rw [g.ox p _ b hp rfl]; simp
    go_enter Tryz.func52, Tryz.ntmps52
    go_wp2_with (first
      | (at_delete; refine wpList_delete_own _ rfl _ _ 36 3 rfl 68 intK Tryz.underlying36 unitElem b m D rfl (by first | exact ho.alloc _ | exact ho) _ _ rfl hkey ?_; intro w1 ho1 ht1)
      | go_in)
    go_ret
    have hg1 := ht1.grown
    have hB1 : But (fun k => k = b) w w1 := by
      first
        | exact (But.alloc w _).trans (But.grown (C := fun k => k = b) hg1 (fun k e _ => by cases e; rfl)) (fun _ _ h => h)
        | exact But.grown (C := fun k => k = b) hg1 (fun k e _ => by cases e; rfl)
    obtain ⟨nd', own', r1, r2, r3⟩ := g.num1 hp hB1 (fun k e => .inr (by rw [e])) (some b) (.inl rfl)
      (hB1.at hb (own_nj (g.oa p _ hp) (g.ox p _ b hp rfl) (by decide))) (K' := K) (Nat.le_refl _)
      (S' := sub S p i) ⟨m, _, ho1, hm, fun j => by
        by_cases e : j = i
        · subst e; rw [has_del_same]; simp [sub]
        · rw [has_del_other (lit_ne e), hD j]; simp [sub, e]⟩ (fun q hq => sub_other hq)
    exact ⟨rfl, nd', own', r1, r2, r3, hB1.mono (fun k _ e => e ▸ hBb)⟩
end
end Go.Proofs.YtcnglhlljmfanaaGreatDoor
