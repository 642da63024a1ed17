/- Filters of a trie that stands for a list of subscriptions; no condition but those that each theorem names. -/
import Derived.Test.YtcnglhlljmfanaaGreatDoorKr
import Derived.Deep.RegionLaw
import Derived.Deep.AppendLies
namespace Go.Proofs.YtcnglhlljmfanaaGreatDoor
open Go.RowKit Tp Go.Maps Go.Shelf Go.Sort

/-- The filters of the paths seen that have numbers. -/
def filA (A : List (Bs × Int)) (pre : List Pth) : List Bs := (pre.filter fun q => decide (0 < cntA A q)).map glue

/-- What gathers the filters, between two nodes. -/
def FJ (A : List (Bs × Int)) (B fb : Nat) (V : Nat → Prop) (pre : List Pth) (W : World) : Prop :=
  ∃ v, V = (fun k => k = fb ∨ v.ownBlock = some k) ∧ W.heap[fb]? = some (.cells #[v] 47 (0, 0)) ∧ W.ownsRow B 9 1 v (filA A pre).length ((filA A pre).map fun x => Value.string (bs x)) ∧ v.ownBlock ≠ some fb ∧ pre.Nodup ∧ B ≤ W.heap.size ∧ B ≤ fb

section
variable {w : World} {t B : Nat} {A : List (Bs × Int)} {nd : Pth → Option Nd} {own : Nat → Option (Pth × Nat)} {n : Nd} {K : Nat}

theorem cntA_pos {q : Pth} (h : 0 < cntA A q) : ∃ e ∈ A, lvs e.1 = q := by
  unfold cntA at h
  obtain ⟨e, he⟩ := List.exists_mem_of_length_pos h
  have := List.mem_filter.1 he
  exact ⟨e, this.1, by simpa using this.2⟩
theorem filA_len {pre : List Pth} (hn : pre.Nodup) : (filA A pre).length ≤ A.length := by
  unfold filA
  rw [List.length_map]
  have h1 := (sum_le A pre hn).1
  refine Nat.le_trans ?_ h1
  clear h1 hn
  unfold sumA
  induction pre with
  | nil => simp
  | cons q pre ih =>
    simp only [List.filter_cons, List.map_cons, List.sum_cons]
    split
    · rename_i h; simp only [decide_eq_true_eq] at h; simp; omega
    · omega

set_option maxRecDepth 100000 in
set_option maxHeartbeats 4000000 in
theorem filVis (h : TrieAt w t B A nd own n K) (B' fb : Nat) (hA : A.length ≤ 4398046511104) : Vis 39 #[.pointer (some ⟨fb, 0, none⟩)] nd own (Sof A) K (FJ A B' fb) where
  ent := enters_of Tryz.func39 (by kernel_rfl) rfl
  stays V pre W W' C hJ hB hC := by
    obtain ⟨v, rfl, h1, h2, h3, h4, h5, h6⟩ := hJ
    refine ⟨v, rfl, hB.at h1 (fun c => hC fb c (.inl rfl)), ?_, h3, h4, Nat.le_trans h5 hB.size, h6⟩
    obtain ⟨q1, q2⟩ := h2
    refine ⟨q1, ?_⟩
    rcases q2 with q2 | ⟨g, c, cur, rfl, q3, q4, q5⟩
    · exact .inl q2
    · exact .inr ⟨g, c, cur, rfl, q3, hB.at q4 (fun c => hC g c (.inr rfl)), q5⟩
  lt V pre W hJ k hk := by
    obtain ⟨v, rfl, h1, h2, h3, h4, h5, h6⟩ := hJ
    rcases hk with rfl | hk
    · exact (Array.getElem?_eq_some_iff.1 h1).1
    · obtain ⟨_, ⟨rfl, _⟩ | ⟨g, c, cur, rfl, q3, q4, q5⟩⟩ := h2
      · cases hk
      · cases hk; exact (Array.getElem?_eq_some_iff.1 q4).1
  call V pre W q m v B1 hJ g hm hq hqp hv hV := by
    obtain ⟨lv, rfl, h1, h2, h3, h4, h5, h6⟩ := hJ
    have hnd : (pre ++ [q]).Nodup := by rw [List.nodup_append]; exact ⟨h4, by simp, fun a ha b hb => by rw [List.mem_singleton] at hb; subst hb; exact fun e => hqp (e ▸ ha)⟩
    obtain ⟨a, x, y⟩ := m
    have hb : W.heap[a]? = some (.cells #[.map x, .map y] 39 (0, 0)) := g.cell q _ hm
    have hd0 := cell_at hb 0
    simp at hd0
    obtain ⟨l, l1, l2, l3, l4, l5⟩ := (show SetAt W x (Sof A q) K from g.num q _ hm).keys
    have hl := cnt_keys h.subs l1 l2
    rw [hl] at l4
    obtain ⟨gp, cp, cur, rfl, hBg, hgp, hgc, _, hcs, htk⟩ := hv.2.resolve_left (fun h0 => hq (List.eq_nil_of_length_eq_zero h0.2))
    simp only [List.append_toArray, List.cons_append, List.nil_append]
    by_cases hpos : 0 < cntA A q
    · have hp' : (0 : Int) < ((cntA A q : Nat) : Int) := by omega
      have efil : filA A (pre ++ [q]) = filA A pre ++ [glue q] := by simp [filA, hpos]
      obtain ⟨e, heA, hle⟩ := cntA_pos hpos
      have hglue : glue q = e.1 := by rw [← hle, glue_lvs]
      have hgl : (glue q).length ≤ 65535 := by
        have := h.subs.fil e heA
        simp only [isFilter, okText, Bool.and_eq_true, decide_eq_true_eq] at this
        rw [hglue]; exact this.1.1.1.2
      have hfl := filA_len (A := A) hnd
      rw [efil, List.length_append] at hfl
      have hrow : ∀ (j : Nat) x, (q.map bs)[j]? = some x → W.cell? ⟨gp, 0 + j, none⟩ = some (.string x) := fun j x hj => by
        rw [List.getElem?_map] at hj
        obtain ⟨y', hy', rfl⟩ := Option.map_eq_some_iff.1 hj
        have hjl := (List.getElem?_eq_some_iff.1 hy').1
        rw [Nat.zero_add, cell_at hgp j]
        have : (cur.toList.take (q.length * 1))[j]? = (q.map fun x => Value.string (bs x))[j]? := by rw [htk]
        rw [List.getElem?_take_of_lt (by omega), List.getElem?_map, hy'] at this
        simpa using this
      have hjoin : Lib.join ((q.map bs).map (·.data.toList)) [47] = glue q := by
        rw [List.map_map]
        have : ((fun x : ByteArray => x.data.toList) ∘ bs) = id := funext fun x => by show (bs x).data.toList = x; rw [← tl_data, tl_bs]
        rw [this, List.map_id, glue_join]
      have hqlen : q.length ≤ 65536 := h.dep q (by rw [hm]; simp)
      obtain ⟨i0, hi0, hz0, hz1, hz2⟩ := info_parts infoStr
      have hfl' := (Array.getElem?_eq_some_iff.1 h1).1
      have dc : W.drew.cell? ⟨fb, 0, none⟩ = some lv := by rw [show W.drew.cell? ⟨fb, 0, none⟩ = W.cell? ⟨fb, 0, none⟩ from rfl, cell_at h1 0]; rfl
      have KJ : Hid (Calls Tryz.prog 40 #[.slice (some ⟨gp, 0, none⟩) q.length cp, .string ⟨#[47]⟩] W.drew fun e w' => e = .returned (.string (bs (glue q))) ∧ Below W.heap.size W w' ∧ w'.cell? ⟨fb, 0, none⟩ = some lv ∧ (∀ ob, (w'.alloc ob).cell? ⟨fb, 0, none⟩ = some lv) ∧ (∀ ob, (w'.alloc ob).ownsRow B' 9 1 lv (filA A pre).length ((filA A pre).map fun x => Value.string (bs x)))) := by
        have hj := Tryz.strings_Join gp 0 cp (q.map bs) ⟨#[47]⟩ W.drew hrow (Array.getElem?_eq_some_iff.1 hgp).1 (by simp; omega) (by simpa using hgc) (by rw [show (ByteArray.mk #[47]).data.toList = [47] from rfl, hjoin]; omega)
        rw [show (ByteArray.mk #[47]).data.toList = [47] from rfl, hjoin, List.length_map] at hj
        refine hj.mono fun e w' ⟨he, hb'⟩ => ?_
        have hb2 : Below W.heap.size W w' := (Below.drew (Below.refl _ _)).trans hb'
        have hb3 : ∀ ob, Below W.heap.size W (w'.alloc ob) := fun ob => hb2.alloc hb2.size ob
        have hc0 : W.cell? ⟨fb, 0, none⟩ = some lv := dc
        refine ⟨he, hb2, cell_below hc0 hb2 hfl', fun ob => cell_below hc0 (hb3 ob) hfl', fun ob => ?_⟩
        obtain ⟨q1, q2⟩ := h2
        refine ⟨q1, ?_⟩
        rcases q2 with q2 | ⟨g', c', cur', rfl, q3, q4, q5⟩
        · exact .inl q2
        · exact .inr ⟨g', c', cur', rfl, q3, ((hb3 ob).block g' (Array.getElem?_eq_some_iff.1 q4).1).trans q4, q5⟩
      have FN : Hid (∀ (w2 w4 : World) (lv' : Value), Below W.heap.size W w2 → w4.ownsRow B' 9 1 lv' ((filA A pre).length + 1) (((filA A pre).map fun x => Value.string (bs x)) ++ [.string (bs (glue q))]) → (w2.alloc (.cells #[.string (bs (glue q))] 9)).grownBy w4 lv.ownBlock → (lv'.ownBlock = lv.ownBlock ∨ lv'.ownBlock = some (w2.alloc (.cells #[.string (bs (glue q))] 9)).heap.size) →
          w4.cell? ⟨fb, 0, none⟩ = some lv ∧ w4.frozen? ⟨fb, 0, none⟩ = false ∧ ∃ V', FJ A B' fb V' (pre ++ [q]) (w4.setCell ⟨fb, 0, none⟩ lv') ∧ But (fun k => k = fb ∨ lv.ownBlock = some k) W (w4.setCell ⟨fb, 0, none⟩ lv') ∧ ∀ k, V' k → (k = fb ∨ lv.ownBlock = some k) ∨ W.heap.size ≤ k) := fun w2 w4 lv' hb2 ho4 hg4 ha4 => by
        have hz := hb2.size
        have hB4 : But (fun k => lv.ownBlock = some k) W w4 := ((But.of_below hb2).trans (But.alloc (C := fun _ => False) w2 _) (fun _ _ h => h.elim)).trans (But.grown (C := fun k => lv.ownBlock = some k) hg4 (fun k e _ => e)) (fun _ _ h => h)
        have hb4 := hB4.at h1 (fun e => h3 e)
        have hne : lv'.ownBlock ≠ some fb := fun e => by
          rcases ha4 with h7 | h7
          · exact h3 (h7 ▸ e)
          · rw [h7] at e; have := Option.some.inj e; simp at this; omega
        refine ⟨by rw [cell_at hb4 0]; rfl, frozen_at hb4 0, _, ⟨lv', rfl, by have := block_set (i := 0) hb4 lv'; simpa using this, ?_, hne, hnd, by have := hB4.size; simp [World.setCell]; omega, h6⟩, (hB4.mono (fun k _ e => .inr e)).trans (But.set (C := fun k => k = fb) w4 ⟨fb, 0, none⟩ _ rfl) (fun k _ e => .inl e), fun k hk => ?_⟩
        · rw [efil, List.length_append, List.map_append]
          obtain ⟨q1, q2⟩ := ho4
          refine ⟨q1, ?_⟩
          rcases q2 with q2 | ⟨g', c', cur', rfl, q3, q4, q5⟩
          · exact .inl q2
          · refine .inr ⟨g', c', cur', rfl, q3, ?_, q5⟩
            rw [RowKit.Below.heap_setCell _ _ _ _ (fun e => hne (by show some g' = some fb; rw [show g' = fb from e]))]; exact q4
        · rcases hk with hk | hk
          · exact .inl (.inl hk)
          · rcases ha4 with h7 | h7
            · exact .inl (.inr (h7 ▸ hk))
            · rw [h7] at hk; have := Option.some.inj hk; simp at this; exact .inr (by omega)
      have hone : ∀ u ∈ [Value.string (bs (glue q))], u.oneCell' = true := by simp [Value.oneCell']
      clear hrow hjoin efil hb htk hgp hglue hle heA
      go_enter Tryz.func39, Tryz.ntmps39
      go_wp2_with fail
      go_region_law (first
        | (refine step_append_lies _ rfl _ _ 47 rfl B' 9 i0 (.string ⟨#[]⟩) 1 16 Tryz.underlying47 hi0 hz0 hz1 hz2 rfl (by decide) lv _ _ rfl (o2 _) ⟨w2.heap.size, 0, none⟩ 1 1 [.string (bs (glue q))] rfl rfl (cell_one_new _ _ _) hone (by omega) (by unfold maxLen; omega) (by omega) (by have := hb2.size; simp; omega) _ rfl ?_; intro g4 d4 w4 ho4 hg4 ha4 hl4; obtain ⟨f4, f5, f6⟩ := FN.out _ _ _ hb2 ho4 hg4 (ha4.elim (fun h => .inl h.symm) (fun h => .inr (by rw [h]; rfl))))
        | (go_simp; go_at_call 40; refine KJ.out.mono ?_; rintro e w2 ⟨rfl, hb2, c2, c3, o2⟩))
      all_goals (go_end0; exact ⟨rfl, f6⟩)
    · have hp' : ((cntA A q : Nat) : Int) = 0 := by omega
      have efil : filA A (pre ++ [q]) = filA A pre := by simp [filA, hpos]
      rw [hp'] at l4
      go_enter Tryz.func39, Tryz.ntmps39
      go_wp2
      go_end0
      exact ⟨rfl, _, ⟨lv, rfl, h1, by rw [efil]; exact h2, h3, hnd, h5, h6⟩, But.refl _ _, fun k hk => .inl hk⟩
end
end Go.Proofs.YtcnglhlljmfanaaGreatDoor
