/- extend and grow: the nodes on the way to a path are made where they are not there; no condition but those that each theorem names. -/
import Derived.Test.YtcnglhlljmfanaaGreatDoorKf
import Derived.Test.YtcnglhlljmfanaaGreatDoorShelf
namespace Go.Proofs.YtcnglhlljmfanaaGreatDoor
open Go.RowKit Tp Go.Maps Go.Shelf

section
variable {w : World} {nd : Pth → Option Nd} {own : Nat → Option (Pth × Nat)} {S : Pth → Int → Bool} {K : Nat} {p : Pth} {n : Nd}

theorem clone_any (l : ByteArray) (w : World) (hl : l.size ≤ 65535) :
    Calls Tryz.prog 73 #[.string l] w fun e w' => e = .returned (.string l) ∧ Below w.heap.size w w' := by
  go_enter Tryz.func73, Tryz.ntmps73
  go_wp2_with (go_at_call 98; refine (Tryz.stringslite_Clone l _ (by omega)).mono ?_; rintro e w1 ⟨rfl, hb1⟩)
  go_ret
  exact ⟨rfl, hb1⟩

/-- The copy of a level, and the store behind it. -/
theorem clone_store (Z : World) (a b m c : Nat) (D : DataW Value) (l : ByteArray) (hl : l.size ≤ 65535) (hcell : Z.cell? ⟨a, 1, none⟩ = some (.map (some b))) (hab : a ≠ b) (halt : a < Z.heap.size) (ho : Z.ownsMap (H := Value) Tryz.prog 9 heldElem b m D) (hm : m < maxLen) (w' : World) (h : Below Z.heap.size Z w') :
    Calls Tryz.prog 73 #[.string l] w' fun e w'' => e = .returned (.string l) ∧ Below Z.heap.size Z w'' ∧
      ∃ w3, (Instr.mapUpdate 37 (.map (some b)) (.string l) (.pointer (some ⟨c, 0, none⟩))).run Tryz.prog w'' = .ok () w3 ∧ w3.ownsMap (H := Value) Tryz.prog 9 heldElem b (m + 1) (D.put (.string (tl l)) (.held (.pointer (some ⟨c, 0, none⟩)))) ∧ w''.grownBy w3 (some b) ∧ w3.cell? ⟨a, 1, none⟩ = some (.map (some b)) := by
  have hkey : keyOf Tryz.prog 9 (.string l) = some (.string (tl l)) := by rw [tl_data]; exact WideMaps.keyOf_string_mk Tryz.underlying9 (by unfold maxLen; omega)
  refine (clone_any l w' hl).mono fun e w2 ⟨he, hb2⟩ => ?_
  have h2 := h.trans (hb2.mono h.size)
  obtain ⟨w3, q1, q2, q3⟩ := ((But.of_below (C := fun _ => False) h2).map ho (fun h => h)).update strK Tryz.underlying37 hm hkey (val := .pointer (some ⟨c, 0, none⟩)) rfl
  refine ⟨he, h2, w3, q1, q2, q3, ?_⟩
  unfold World.cell? at hcell ⊢
  rw [q3.block a (Nat.lt_of_lt_of_le halt h2.size) (fun e => hab (by cases e; rfl)), h2.block a halt]
  exact hcell
theorem cell_below {Z w' : World} {a i : Nat} {v : Value} (hc : Z.cell? ⟨a, i, none⟩ = some v) (h : Below Z.heap.size Z w') (halt : a < Z.heap.size) : w'.cell? ⟨a, i, none⟩ = some v := by
  unfold World.cell? at hc ⊢
  rw [h.block a halt]; exact hc

set_option maxRecDepth 100000 in
set_option maxHeartbeats 4000000 in
theorem extend_any (g : G w nd own S K) (hp : nd p = some n) (hK : K < maxLen) (l : ByteArray) (hl : l.size ≤ 65535) :
    Calls Tryz.prog 49 #[.pointer (some ⟨n.a, 0, none⟩), .string l] w fun e w' => ∃ nd' own' m, e = .returned (.pointer (some ⟨m.a, 0, none⟩)) ∧ nd' (p ++ [tl l]) = some m ∧ G w' nd' own' S (K + 1) ∧
      (∀ q, (q ≠ p ++ [tl l] ∨ nd q ≠ none) → (nd' q).map Nd.a = (nd q).map Nd.a) ∧ Gro w own own' ∧ But (Bl own) w w' := by
  obtain ⟨a, x, y⟩ := n
  have hb : w.heap[a]? = some (.cells #[.map x, .map y] 39 (0, 0)) := g.cell p _ hp
  have hc1 := cell_at hb 1
  have hf1 := frozen_at hb 1
  simp at hc1
  have hlt := (Array.getElem?_eq_some_iff.1 hb).1
  have hk : KidsAt w y (fun l => (nd (p ++ [l])).map Nd.a) K := g.bel p _ hp
  have hlk := hk.look l (by unfold maxLen; omega)
  have hBa : Bl own a := by show own a ≠ none; rw [g.oa p ⟨a, x, y⟩ hp]; simp
  have hkey : keyOf Tryz.prog 9 (.string l) = some (.string (tl l)) := by rw [tl_data]; exact WideMaps.keyOf_string_mk Tryz.underlying9 (by unfold maxLen; omega)
  have qN : ∀ (w : World) (r : Option Nat), (binOp .eql 37 (.map r) (.map none)).run Tryz.prog w = .ok (.bool r.isNone) w := fun w r => run_eql_map_nil w _ _ _ r Tryz.underlying37
  cases hm : nd (p ++ [tl l]) with
  | some m =>
    rw [hm] at hlk
    simp only [Option.map_some, pt] at hlk
    go_enter Tryz.func49, Tryz.ntmps49
    go_wp2
    go_ret
    exact ⟨nd, own, m, rfl, hm, g.mono (by omega), fun _ _ => rfl, Gro.refl _ _, But.refl _ _⟩
  | none =>
    rw [hm] at hlk
    simp only [Option.map_none, pt] at hlk
    cases y with
    | some b =>
      obtain ⟨m, D, ho, hmK, hD⟩ := hk
      have hB0 := below1 w (.cells #[.map none, .map none] 39)
      have KG : Hid (∀ w', Below (w.alloc (.cells #[.map none, .map none] 39)).heap.size (w.alloc (.cells #[.map none, .map none] 39)) w' → w'.cell? ⟨a, 1, none⟩ = some (.map (some b))) := fun w' h => cell_below (cell_below hc1 hB0 hlt) h (by simp; omega)
      have KD : Hid _ := Lib.hid (Below.drew (Below.refl (w.alloc (.cells #[.map none, .map none] 39)).heap.size (w.alloc (.cells #[.map none, .map none] 39))))
      have KA := Lib.hid (clone_store (w.alloc (.cells #[.map none, .map none] 39)) a b m w.heap.size D l hl (cell_below hc1 hB0 hlt) (own_nj (g.oa p _ hp) (g.oy p _ b hp rfl) (by decide)) (by simp; omega) (ho.alloc _) (by omega))
      go_enter Tryz.func49, Tryz.ntmps49
      go_wp2_with fail
      go_region_held3 (fun w' => w'.cell? ⟨a, 1, none⟩ = some (.map (some b))) (first | with_reducible assumption | (with_reducible refine KG.out _ ?_ <;> with_reducible assumption) | with_reducible exact KG.out _ KD.out | trivial) (
        (go_at_call 73; refine (KA.out _ (by first | with_reducible assumption | exact KD.out)).mono ?_; rintro e w2 ⟨rfl, b2, w3, hrun, ho3, hg3, c3⟩))
      all_goals go_wp2
      all_goals go_ret
      have hB1 : But (fun k => k = b) w w3 := (((But.alloc w _).trans (But.of_below (C := fun _ => False) b2) (fun _ _ h => h.elim))).trans (But.grown (C := fun k => k = b) hg3 (fun k e _ => by cases e; rfl)) (fun _ _ h => h)
      have hnb : w.heap.size ≠ b := by have := ho.lt; omega
      have hnew : w3.heap[w.heap.size]? = some (.cells #[.map none, .map none] 39 (0, 0)) :=
        (hg3.block _ (by have := b2.size; simp at this; omega) (fun e => hnb (by cases e; rfl))).trans ((b2.block _ (by simp)).trans (heap_alloc_new _ _))
      have hBb : Bl own b := by show own b ≠ none; rw [g.oy p _ b hp rfl]; simp
      obtain ⟨nd', own', r1, r2, r3, r4⟩ := g.link hp hB1 (fun k e => .inr (by rw [e])) b (tl l) w.heap.size (.inl rfl) (Nat.le_refl _) hnb hm (hB1.at hb (own_nj (g.oa p _ hp) (g.oy p _ b hp rfl) (by decide))) hnew (K' := K + 1) (by omega) ⟨_, _, ho3, by omega, fun k => by
        show Maps.has _ _ = (if k = tl l then some w.heap.size else (nd (p ++ [k])).map Nd.a).isSome ∧ _ = DataW.held (pt (if k = tl l then some w.heap.size else (nd (p ++ [k])).map Nd.a))
        by_cases e : k = tl l
        · subst e; rw [has_put_same ho.isMap (strK.key hkey), atKey_put_same ho.isMap (strK.key hkey), if_pos rfl]; exact ⟨rfl, rfl⟩
        · have e' : (Lit.string k) ≠ .string (tl l) := fun h => e (by cases h; rfl)
          rw [has_put_other e', atKey_put_other e', if_neg e]; exact hD k⟩
      exact ⟨nd', own', ⟨w.heap.size, none, none⟩, rfl, r3, r1, fun q h => r2 q (fun e => by rcases h with h | h; exact h e; rw [e] at h; exact h hm), r4, hB1.mono (fun k _ e => e ▸ hBb)⟩
    | none =>
      obtain ⟨W1, hW1⟩ : ∃ W1, w.alloc (.map #[] 0) = W1 := ⟨_, rfl⟩
      have hz1 : W1.heap.size = w.heap.size + 1 := by rw [← hW1]; simp
      have hmk : (Instr.makeMap 37 none).run Tryz.prog w = .ok (.map (some w.heap.size)) W1 := by rw [← hW1]; exact run_makeMap _ _
      have hb1 : W1.heap[a]? = some (.cells #[.map x, .map none] 39 (0, 0)) := by rw [← hW1]; exact (Below.heap_alloc _ _ a hlt).trans hb
      have hd1 := cell_at hb1 1
      have hf1' := frozen_at hb1 1
      simp at hd1
      have ho1 : W1.ownsMap (H := Value) Tryz.prog 9 heldElem w.heap.size 0 (.map []) := by rw [← hW1]; exact World.ownsMap_made w Tryz.prog 9 heldElem
      obtain ⟨W2, hW2⟩ : ∃ W2, W1.setCell ⟨a, 1, none⟩ (.map (some w.heap.size)) = W2 := ⟨_, rfl⟩
      have hz2 : W2.heap.size = w.heap.size + 1 := by rw [← hW2, ← hz1]; simp [World.setCell]
      have hb2 : W2.heap[a]? = some (.cells #[.map x, .map (some w.heap.size)] 39 (0, 0)) := by
        have := block_set (i := 1) hb1 (.map (some w.heap.size)); rw [hW2] at this; simpa using this
      have hd2 := cell_at hb2 1
      simp at hd2
      have ho2 : W2.ownsMap (H := Value) Tryz.prog 9 heldElem w.heap.size 0 (.map []) := by rw [← hW2]; exact ho1.setCell (by show w.heap.size ≠ a; omega) _
      have hBw : But (fun k => k = a) w W2 := by
        rw [← hW2]
        refine But.trans ?_ (But.set (C := fun k => k = a) W1 ⟨a, 1, none⟩ _ rfl) (fun _ _ h => h)
        rw [← hW1]; exact But.alloc _ _
      have hB0 := below1 W2 (.cells #[.map none, .map none] 39)
      have KG : Hid (∀ w', Below (W2.alloc (.cells #[.map none, .map none] 39)).heap.size (W2.alloc (.cells #[.map none, .map none] 39)) w' → w'.cell? ⟨a, 1, none⟩ = some (.map (some w.heap.size))) := fun w' h => cell_below (cell_below hd2 hB0 (by omega)) h (by simp; omega)
      have KD : Hid _ := Lib.hid (Below.drew (Below.refl (W2.alloc (.cells #[.map none, .map none] 39)).heap.size (W2.alloc (.cells #[.map none, .map none] 39))))
      have KA := Lib.hid (clone_store (W2.alloc (.cells #[.map none, .map none] 39)) a w.heap.size 0 (w.heap.size + 1) (.map []) l hl (cell_below hd2 hB0 (by omega)) (by omega) (by simp; omega) (ho2.alloc _) (by unfold maxLen; omega))
      go_enter Tryz.func49, Tryz.ntmps49
      go_wp2_with (first | rw [hW2] | fail)
      go_region_held3 (fun w' => w'.cell? ⟨a, 1, none⟩ = some (.map (some w.heap.size))) (first | with_reducible assumption | (with_reducible refine KG.out _ ?_ <;> with_reducible assumption) | with_reducible exact KG.out _ KD.out | trivial) (
        (go_at_call 73; refine (KA.out _ (by first | with_reducible assumption | exact KD.out)).mono ?_; rintro e w2 ⟨rfl, b2, w3, hrun, ho3, hg3, c3⟩))
      all_goals go_wp2
      all_goals go_ret
      have hB1 : But (fun k => k = a) w w3 := ((hBw.trans (But.alloc (C := fun _ => False) W2 _) (fun _ _ h => h.elim)).trans (But.of_below (C := fun _ => False) b2) (fun _ _ h => h.elim)).trans (But.grown (C := fun k => k = w.heap.size) hg3 (fun k e _ => by cases e; rfl)) (fun k hk e => by omega)
      have hnew : w3.heap[w.heap.size + 1]? = some (.cells #[.map none, .map none] 39 (0, 0)) :=
        (hg3.block _ (by have := b2.size; simp at this; omega) (fun e => by have := Option.some.inj e; omega)).trans ((b2.block _ (by simp; omega)).trans (by rw [← hz2]; exact heap_alloc_new _ _))
      have hca : w3.heap[a]? = some (.cells #[.map x, .map (some w.heap.size)] 39 (0, 0)) :=
        (hg3.block _ (by have := b2.size; simp at this; omega) (fun e => by have := Option.some.inj e; omega)).trans ((b2.block _ (by simp; omega)).trans ((Below.heap_alloc _ _ a (by omega)).trans hb2))
      obtain ⟨nd', own', r1, r2, r3, r4⟩ := g.link hp hB1 (fun k e => .inl e) w.heap.size (tl l) (w.heap.size + 1) (.inr ⟨rfl, Nat.le_refl _, by have := ho3.lt; omega⟩) (by omega) (by omega) hm hca hnew (K' := K + 1) (by omega) ⟨_, _, ho3, by omega, fun k => by
        show Maps.has _ _ = (if k = tl l then some (w.heap.size + 1) else (nd (p ++ [k])).map Nd.a).isSome ∧ _ = DataW.held (pt (if k = tl l then some (w.heap.size + 1) else (nd (p ++ [k])).map Nd.a))
        by_cases e : k = tl l
        · subst e; rw [has_put_same isMap_empty (strK.key hkey), atKey_put_same isMap_empty (strK.key hkey), if_pos rfl]; exact ⟨rfl, rfl⟩
        · have e' : (Lit.string k) ≠ .string (tl l) := fun h => e (by cases h; rfl)
          rw [has_put_other e', atKey_put_other e', if_neg e]; have := hk k; simp only at this; rw [this]; simp [Maps.has, DataW.atKey, pt]⟩
      exact ⟨nd', own', ⟨w.heap.size + 1, none, none⟩, rfl, r3, r1, fun q h => r2 q (fun e => by rcases h with h | h; exact h e; rw [e] at h; exact h hm), r4, hB1.mono (fun k _ e => e ▸ hBa)⟩
end
end Go.Proofs.YtcnglhlljmfanaaGreatDoor
