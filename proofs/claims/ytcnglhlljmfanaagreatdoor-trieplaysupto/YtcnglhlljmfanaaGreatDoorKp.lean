/- The walk over all nodes below one: each, with whatever visitor that keeps its word; a path's row of levels grows and is given back; no condition but those that each theorem names. -/
import Derived.Test.YtcnglhlljmfanaaGreatDoorKo
import Derived.Maps.AppendAt
namespace Go.Proofs.YtcnglhlljmfanaaGreatDoor
open Go.RowKit Tp Go.Maps Go.Shelf

/-- A path's levels in a row of texts, new since B. -/
def PathAt (W : World) (B : Nat) (v : Value) (q : Pth) : Prop := W.ownsRow B 9 1 v q.length (q.map fun x => Value.string (bs x))

theorem PathAt.but {W W' : World} {B : Nat} {v : Value} {q : Pth} (h : PathAt W B v q) {C : Nat → Prop} (hB : But C W W') (hC : ∀ g, v.ownBlock = some g → ¬ C g) : PathAt W' B v q := by
  obtain ⟨h1, h2 | ⟨g, cap, cur, rfl, h3, h4, h5⟩⟩ := h
  · exact ⟨h1, .inl h2⟩
  · exact ⟨h1, .inr ⟨g, cap, cur, rfl, h3, hB.at h4 (hC g rfl), h5⟩⟩
theorem PathAt.lt {W : World} {B : Nat} {v : Value} {q : Pth} (h : PathAt W B v q) : ∀ g, v.ownBlock = some g → B ≤ g ∧ g < W.heap.size := by
  obtain ⟨_, ⟨rfl, _⟩ | ⟨g, cap, cur, rfl, h3, h4, _⟩⟩ := h
  · intro g e; cases e
  · intro g' e; cases e; exact ⟨h3, (Array.getElem?_eq_some_iff.1 h4).1⟩
/-- The shorter path, in the same row. -/
theorem PathAt.back {W : World} {B g cap : Nat} {q : Pth} {x : Bs} (h : PathAt W B (.slice (some ⟨g, 0, none⟩) (q.length + 1) cap) (q ++ [x])) : PathAt W B (.slice (some ⟨g, 0, none⟩) q.length cap) q := by
  obtain ⟨h1, ⟨h2, _⟩ | ⟨g', cap', cur, e, h3, h4, h5, h6, h7, h8⟩⟩ := h
  · cases h2
  · simp only [Value.slice.injEq, Option.some.injEq, Addr.mk.injEq, and_true] at e
    obtain ⟨rfl, _, rfl⟩ := e
    simp only [List.length_append, List.length_cons, List.length_nil, Nat.zero_add, List.map_append, List.map_cons, List.map_nil, Nat.mul_one] at h5 h7 h8
    refine ⟨by simp, .inr ⟨g, cap, cur, rfl, h3, h4, by omega, h6, by omega, ?_⟩⟩
    have := congrArg (List.take q.length) h8
    rw [List.take_take, List.take_left' (by simp)] at this
    simpa [Nat.min_eq_left] using this

theorem app1 {W : World} {B : Nat} {v : Value} {q : Pth} (h : PathAt W B v q) (x : ByteArray) (hq : q.length ≤ 65536) (hB : B ≤ W.heap.size) :
    ∃ v' w', (∀ ty, (Builtin.append_ #[47, 47] ty #[v, .slice (some ⟨W.heap.size, 0, none⟩) 1 1]).run Tryz.prog (W.alloc (.cells #[.string x] 9)) = .ok v' w') ∧ PathAt w' B v' (q ++ [tl x]) ∧ But (fun k => v.ownBlock = some k) W w' ∧
      ((∃ g, v'.ownBlock = some g ∧ W.heap.size ≤ g ∧ PathAt w' B v q) ∨ ∃ g cap, v = .slice (some ⟨g, 0, none⟩) q.length cap ∧ v' = .slice (some ⟨g, 0, none⟩) (q.length + 1) cap) := by
  obtain ⟨i0, hi, hz0, hz1, hz2⟩ := info_parts infoStr
  have h1 : ∀ u ∈ [Value.string x], u.oneCell' = true := by simp [Value.oneCell']
  have hA : (W.alloc (.cells #[.string x] 9)).ownsRow B 9 1 v q.length (q.map fun x => Value.string (bs x)) := h.but (But.alloc (C := fun _ => False) W _) (fun _ _ h => h)
  obtain ⟨v', w', hr, h2, h3, _, h5⟩ := run_append_own_at (P := Tryz.prog) (W.alloc (.cells #[.string x] 9)) B 47 0 9 i0 (.string ⟨#[]⟩) 1 16 Tryz.underlying47 hi hz0 hz1 hz2 rfl (by decide) v q.length _ hA ⟨W.heap.size, 0, none⟩ 1 1 [.string x] rfl (cell_one_new _ _ _) h1 (by unfold maxLen; omega) (by omega) (by simp; omega)
  refine ⟨v', w', fun ty => hr, ?_, (But.alloc W _).trans (But.grown (C := fun k => v.ownBlock = some k) h3 (fun k e _ => e)) (fun _ _ h => h), ?_⟩
  · have e : ((q ++ [tl x]).map fun x => Value.string (bs x)) = (q.map fun x => Value.string (bs x)) ++ [.string x] := by simp [bs_tl]
    show w'.ownsRow B 9 1 v' (q ++ [tl x]).length _
    rw [e, List.length_append]; exact h2
  · rcases hA.2 with ⟨rfl, hq0⟩ | ⟨g, cap, cur, rfl, hbg, hg, hnc, hcm, hcs, htake⟩
    · left
      rcases h5 with h5 | h5
      · rcases h2.2 with ⟨_, h6⟩ | ⟨g', c', cur', rfl, _⟩
        · omega
        · cases h5
      · exact ⟨_, h5, by simp, h.1, .inl ⟨rfl, hq0⟩⟩
    · by_cases hroom : q.length + 1 ≤ cap
      · right
        have := run_append_room (P := Tryz.prog) (W.alloc (.cells #[.string x] 9)) 47 0 9 i0 Tryz.underlying47 hi g q.length cap cur hg ⟨W.heap.size, 0, none⟩ 1 1 [.string x] (by rw [hz1]; rfl) (cell_one_new _ _ _) h1 hroom (by rw [hz1]; simp; omega)
        rw [hr] at this
        cases this
        exact ⟨g, cap, rfl, rfl⟩
      · left
        have := run_append_grow (P := Tryz.prog) (W.alloc (.cells #[.string x] 9)) 47 0 9 i0 (.string ⟨#[]⟩) Tryz.underlying47 hi hz0 ⟨g, 0, none⟩ q.length cap _ (by rw [hz1]; exact hA.1) (hA.cells (g := g) rfl) ⟨W.heap.size, 0, none⟩ 1 1 [.string x] (by rw [hz1]; rfl) (cell_one_new _ _ _) (by omega) (by omega) (growslice_fits (by omega) (by rw [hz2]; omega))
        rw [hr] at this
        cases this
        exact ⟨_, rfl, by simp, hA.1, .inr ⟨g, cap, cur, rfl, hbg, (Below.heap_alloc _ _ g (Array.getElem?_eq_some_iff.1 hg).1).trans hg, hnc, hcm, hcs, htake⟩⟩

/-- An append whose run is known, at the operation. -/
theorem wpList_append_run {P : Program} {w : World} {ops : Array Oper} {rest : List Oper} {o : Oper} {a : Act} {Q : Exit → Act → World → Prop} (hgd : o.guard = none) (s x : Operand) (t : TypeId)
    (ho : o.op = .call { callee := .builtin .append, args := #[s, x], argTypes := #[t, t] }) (v u : Value) (hs : a.eval s = v) (hx : a.eval x = u) {v' : Value} {w' : World} (hr : ∀ ty, (Builtin.append_ #[t, t] ty #[v, u]).run P w = .ok v' w')
    (h : wpList P ops Q rest (a.put o.dst v') w') : wpList P ops Q (o :: rest) a w := by
  refine wpList_plain hgd fun K hK => ?_
  have hr' := hr o.type
  unfold Oper.wp execOp
  simp only [ho, resolve, invoke, builtin, Sem.run_bind, Sem.run_pure, Result.andThen_ok, List.map_toArray, List.map_cons, List.map_nil, hs, hx, hr']
  exact hK _ _ h

theorem ranges_but {W W' : World} {k : TypeId} {R : Value → Option (DataW Value × List MemPlace)} {b r n : Nat} {D : DataW Value} {left : Lit → Bool} {cnt : Nat} (h : W.ranges Tryz.prog k R b r n D left cnt) {C : Nat → Prop} (hB : But C W W') (hb : ¬ C b) (hr : ¬ C r) : W'.ranges Tryz.prog k R b r n D left cnt := by
  obtain ⟨es, clock, since, seen, c0, h1, F, hs, hD, h2, rest⟩ := h
  exact ⟨es, clock, since, seen, c0, hB.at h1 hb, F, hs, hD, hB.at h2 hr, rest⟩

/-- A visitor that keeps its word: 'J V pre W': it has seen 'pre', and writes in the blocks V alone. -/
structure Vis (F : Nat) (cap : Array Value) (nd : Pth → Option Nd) (own : Nat → Option (Pth × Nat)) (S : Pth → Int → Bool) (K : Nat) (J : (Nat → Prop) → List Pth → World → Prop) : Prop where
  ent : ∀ args w, (callFunc F args).run Tryz.prog w = .ok (.enter F args) w
  stays : ∀ V pre W W' C, J V pre W → But C W W' → (∀ k, C k → ¬ V k) → J V pre W'
  lt : ∀ V pre W, J V pre W → ∀ k, V k → k < W.heap.size
  call : ∀ V pre W q m v B, J V pre W → G W nd own S K → nd q = some m → q ≠ [] → q ∉ pre → PathAt W B v q → (∀ k, V k → own k = none ∧ v.ownBlock ≠ some k) →
    Calls Tryz.prog F (#[v, .pointer (some ⟨m.a, 0, none⟩)] ++ cap) W fun e W' => e = .returned (.tuple #[]) ∧ ∃ V', J V' (pre ++ [q]) W' ∧ But V W W' ∧ ∀ k, V' k → V k ∨ W.heap.size ≤ k

/-- Strictly below. -/
def Dn (p q : Pth) : Prop := ∃ l r, q = p ++ l :: r
end Go.Proofs.YtcnglhlljmfanaaGreatDoor
