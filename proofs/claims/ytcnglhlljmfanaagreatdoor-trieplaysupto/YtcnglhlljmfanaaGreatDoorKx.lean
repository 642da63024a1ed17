/- Under of a trie that stands for a list of subscriptions; no condition but those that each theorem names. -/
import Derived.Test.YtcnglhlljmfanaaGreatDoorKr
namespace Go.Proofs.YtcnglhlljmfanaaGreatDoor
open Go.RowKit Tp Go.Maps Go.Shelf Go.Sort
section
variable {w : World} {t B : Nat} {A : List (Bs × Int)} {nd : Pth → Option Nd} {own : Nat → Option (Pth × Nat)} {n : Nd} {K : Nat}

theorem nd_none (g : G w nd own (Sof A) K) : ∀ (r q : Pth), nd q = none → nd (q ++ r) = none
  | [], q, h => by simpa using h
  | x :: r, q, h => by
    have h1 : nd (q ++ [x]) = none := by
      cases h' : nd (q ++ [x]) with
      | none => rfl
      | some m => exact absurd h (g.up _ x (by rw [h']; simp))
    have := nd_none g r (q ++ [x]) h1
    rwa [List.append_assoc] at this

set_option maxRecDepth 100000 in
set_option maxHeartbeats 4000000 in
theorem under_yes (h : TrieAt w t B A nd own n K) (f : ByteArray) (hf : f.size ≤ 9223372036854775807) (hT : Tabs w) (hF : isFilter (tl f) = true) (hK : K * 8 ≤ 140737488355328) :
    Calls Tryz.prog 15 #[.pointer (some ⟨t, 0, none⟩), .string f] w fun e w' => ∃ a c l, e = .returned (.slice a l.length c) ∧ Rise l ∧ (∀ i, i ∈ l ↔ Sof A (lvs (tl f)) i = true) ∧ IntsAt w' w.heap.size (.slice a l.length c) l ∧ Below w.heap.size w w' := by
  have KS : Hid (Calls Tryz.prog 23 #[.pointer (some ⟨t, 0, none⟩), .string f] w fun e w' => Below w.heap.size w w' ∧ ∃ b o c, e = .returned (.tuple #[.agg #[.pointer (some ⟨n.a, 0, none⟩), .slice (some ⟨b, o, none⟩) (lvs (tl f)).length c], .bool true]) ∧ LeftAt w' (.slice (some ⟨b, o, none⟩) (lvs (tl f)).length c) (lvs (tl f)) ∧ w.heap.size ≤ b) :=
    (startOf_any h f hf hT).mono fun e w' ⟨h1, h2⟩ => ⟨h1, (h2.resolve_left (fun h => by rw [hF] at h; cases h.1)).2⟩
  obtain ⟨hLs, hLl⟩ := lvs_short hF
  generalize lvs (tl f) = L at *
  go_enter Tryz.func15, Tryz.ntmps15
  go_wp2_with (first
    | (go_at_call 23; refine KS.out.mono ?_; rintro e w1 ⟨hb1, b, o, c, rfl, hl1, hbb⟩))
  have hbl : b < w1.heap.size := by obtain ⟨_, _, _, e, _, _, h3⟩ := hl1; simp only [Value.slice.injEq, Option.some.injEq, Addr.mk.injEq, and_true] at e; obtain ⟨⟨rfl, _⟩, _⟩ := e; exact h3
  have hz1 := hb1.size
  generalize hpb : w1.heap.size = pb at hbl hz1 ⊢
  go_loopg [6] L.length (fun gk s6 wx => Below w.heap.size w wx ∧ ((s6 = .bool false ∧ ∀ i, Sof A L i = false) ∨ ∃ (j : Nat) (m : Nd) (o' c' : Nat), s6 = .bool true ∧ j + gk = L.length ∧ nd (L.take j) = some m ∧
    wx.heap[pb]? = some (.cells #[.pointer (some ⟨m.a, 0, none⟩), .slice (some ⟨b, o', none⟩) (L.drop j).length c'] 51 (0, 0)) ∧ LeftAt wx (.slice (some ⟨b, o', none⟩) (L.drop j).length c') (L.drop j)))
  case atStart =>
    refine ⟨hb1.alloc hb1.size _, .inr ⟨0, n, o, c, rfl, by omega, by simpa using h.root, ?_, by simpa using hl1.below (below1 _ _)⟩⟩
    have := heap_alloc_new w1 (.cells #[.pointer (some ⟨n.a, 0, none⟩), .slice (some ⟨b, o, none⟩) L.length c] 51)
    rw [hpb] at this; simpa using this
  case round =>
    obtain ⟨hB, ⟨rfl, hno⟩ | ⟨j, m, o', c', rfl, hjg, hm, hcp, hla⟩⟩ := hrel
    · go_wp2
      go_ret
      exact ⟨none, 0, [], rfl, List.Pairwise.nil, fun i => by simp [hno i], World.ownsRow_nil _ _ _ _, hB⟩
    · have hgx := (h.g.below (hB.mono (Nat.le_refl _)))
      have y0 : wr.cell? ⟨pb, 0, none⟩ = some (.pointer (some ⟨m.a, 0, none⟩)) := by rw [cell_at hcp 0]; rfl
      have y1 : wr.cell? ⟨pb, 1, none⟩ = some (.slice (some ⟨b, o', none⟩) (L.drop j).length c') := by rw [cell_at hcp 1]; rfl
      have hpl := (Array.getElem?_eq_some_iff.1 hcp).1
      cases gk with
      | zero =>
        obtain rfl : j = L.length := by omega
        rw [List.take_length] at hm
        rw [List.drop_length] at y1
        simp only [List.length_nil] at y1
        obtain ⟨a, x, y⟩ := m
        have hcm : wr.cell? ⟨a, 0, none⟩ = some (.map x) := by rw [cell_at (hgx.cell _ _ hm) 0]; rfl
        have KQ : Hid (Calls Tryz.prog 33 #[.func (.func 60) #[] #[.pointer (some ⟨wr.heap.size, 0, none⟩)]] (wr.alloc (.cells #[.map x] 36)) fun e w' => ∃ a c l, e = .returned (.slice a l.length c) ∧ Rise l ∧ (∀ i, i ∈ l ↔ Sof A L i = true) ∧ IntsAt w' w.heap.size (.slice a l.length c) l ∧ Below w.heap.size w w') :=
          (sorted_any wr.heap.size x (Sof A L) K _ ((hgx.num _ _ hm).but (But.alloc (C := fun _ => False) wr _) (fun _ _ h => h)) hK (by simp) (by rw [cell_at (heap_alloc_new _ _) 0]; rfl)).mono fun e w' ⟨v, l, h1, h2, h3, h4, h5, h6⟩ => by
            have hBa := hB.alloc hB.size (.cells #[.map x] 36)
            have h5' : IntsAt w' w.heap.size v l := by
              obtain ⟨q1, q2 | ⟨g', c', cur, rfl, q3, q4⟩⟩ := h5
              · exact ⟨q1, .inl q2⟩
              · exact ⟨q1, .inr ⟨g', c', cur, rfl, by have := hBa.size; omega, q4⟩⟩
            obtain ⟨a, c, rfl⟩ : ∃ a c, v = .slice a l.length c := by
              obtain ⟨_, ⟨rfl, q2⟩ | ⟨g', c', cur, rfl, _⟩⟩ := h5
              · exact ⟨none, 0, by rw [q2]⟩
              · exact ⟨_, _, rfl⟩
            exact ⟨a, c, l, h1, h2, h3, h5', hBa.trans (h6.mono hBa.size)⟩
        go_wp2_with (first
          | (go_at_call 34; refine (keys_any _ _).mono ?_; rintro e w7 ⟨rfl, rfl⟩)
          | (go_at_call 33; refine KQ.out.mono ?_; rintro e w8 ⟨a8, c8, l8, rfl, r1, r2, r4, r5⟩))
        go_ret
        exact ⟨_, _, _, rfl, r1, r2, r4, r5⟩
      | succ gq =>
        have hj : j < L.length := by omega
        obtain ⟨x, r, hxr⟩ : ∃ x r, L.drop j = x :: r := ⟨_, _, List.drop_eq_getElem_cons hj⟩
        have hx : x = L[j] := by rw [List.drop_eq_getElem_cons hj] at hxr; exact (List.cons.inj hxr).1.symm
        have hr : r = L.drop (j + 1) := by rw [List.drop_eq_getElem_cons hj] at hxr; exact (List.cons.inj hxr).2.symm
        rw [hxr] at y1 hla hcp
        simp only [List.length_cons] at y1 hla hcp
        have hsz : (bs x).size ≤ 65535 := by rw [← tl_size, tl_bs, hx]; exact hLs _ (List.getElem_mem hj)
        obtain ⟨b', o1, c1, e1, hrow, hlc, hbl'⟩ := id hla
        simp only [List.length_cons, Value.slice.injEq, Option.some.injEq, Addr.mk.injEq, and_true, true_and] at e1
        obtain ⟨⟨rfl, rfl⟩, rfl⟩ := e1
        have y2 : wr.cell? ⟨b, o', none⟩ = some (.string (bs x)) := by simpa using hrow 0 (bs x) (by simp)
        have hpos : (0 : Int) < ((r.length : Nat) : Int) + 1 := by omega
        have htk : L.take (j + 1) = L.take j ++ [x] := by rw [hx, List.take_succ_eq_append_getElem hj]
        have FIN : Hid (∀ (W : World) (x0 x1 : Value), Below wr.heap.size wr W → W.cell? ⟨pb, 0, none⟩ = some (.pointer (some ⟨m.a, 0, none⟩)) ∧ W.cell? ⟨pb, 1, none⟩ = some (.slice (some ⟨b, o', none⟩) (r.length + 1) c') ∧ W.frozen? ⟨pb, 0, none⟩ = false ∧ W.frozen? ⟨pb, 1, none⟩ = false) := fun W x0 x1 hW => by
          have hc := (hW.block pb hpl).trans hcp
          exact ⟨by rw [cell_at hc 0]; rfl, by rw [cell_at hc 1]; rfl, frozen_at hc 0, frozen_at hc 1⟩
        have FS : Hid (∀ (W : World) (x0 x1 : Value), Below wr.heap.size wr W → Below w.heap.size w ((W.setCell ⟨pb, 0, none⟩ x0).setCell ⟨pb, 1, none⟩ x1) ∧ ((W.setCell ⟨pb, 0, none⟩ x0).setCell ⟨pb, 1, none⟩ x1).heap[pb]? = some (.cells #[x0, x1] 51 (0, 0)) ∧
            ∀ o2 n2 c2 L2, n2 = L2.length → LeftAt W (.slice (some ⟨b, o2, none⟩) n2 c2) L2 → LeftAt ((W.setCell ⟨pb, 0, none⟩ x0).setCell ⟨pb, 1, none⟩ x1) (.slice (some ⟨b, o2, none⟩) n2 c2) L2) := fun W x0 x1 hW => by
          have hc := (hW.block pb hpl).trans hcp
          have hBt : But (fun k => k = pb) W ((W.setCell ⟨pb, 0, none⟩ x0).setCell ⟨pb, 1, none⟩ x1) := (But.set (C := fun k => k = pb) W ⟨pb, 0, none⟩ _ rfl).trans (But.set (C := fun k => k = pb) _ ⟨pb, 1, none⟩ _ rfl) (fun _ _ h => h)
          have hBW := hB.trans (hW.mono hB.size)
          refine ⟨⟨hBt.os.trans hBW.os, hBt.tape.trans hBW.tape, hBt.output.trans hBW.output, Nat.le_trans hBW.size hBt.size, fun k hk => (hBt.block k (by have := hBW.size; omega) (by omega)).trans (hBW.block k hk)⟩, ?_, fun o2 n2 c2 L2 e hl => hl.but hBt (fun b2 o3 c3 e2 => ?_)⟩
          · have := block_set (i := 1) (block_set (i := 0) hc x0) x1; simpa using this
          · simp only [Value.slice.injEq, Option.some.injEq, Addr.mk.injEq, and_true] at e2
            obtain ⟨⟨rfl, _⟩, _⟩ := e2
            omega
        cases hnx : nd (L.take j ++ [x]) with
        | none =>
          have KD : Hid (Calls Tryz.prog 37 #[.agg #[.pointer (some ⟨m.a, 0, none⟩), .slice (some ⟨b, o', none⟩) (r.length + 1) c'], .string (bs x)] wr.drew fun e w' => e = .returned (.tuple #[.agg #[.pointer none, .slice none 0 0], .bool false]) ∧ Below wr.heap.size wr w') :=
            (down_any (hgx.below (Below.drew (Below.refl _ _))) hm (bs x) (by unfold maxLen; omega) b o' c' x r (hla.below (Below.drew (Below.refl _ _)))).mono fun e w' ⟨h1, h2⟩ => by
              rw [tl_bs, hnx] at h2
              rcases h2 with ⟨_, h2⟩ | ⟨m', h2, _⟩
              · exact ⟨h2, (Below.drew (Below.refl _ _)).trans h1⟩
              · cases h2
          have HN : Hid (∀ i, Sof A L i = false) := fun i => by
            have e : L = L.take j ++ [x] ++ r := by rw [List.append_assoc]; show L = L.take j ++ (x :: r); rw [← hxr, List.take_append_drop]
            rw [e]; exact h.g.non _ _ (nd_none h.g r _ hnx)
          have HB := Lib.hid hB
          clear h hgx hcp hla hrow hxr hx hr htk hB hnx hm hLs hF hT hf KS hl1 hb1 hbl hpb hlc hbl' hbb hLl hK
          go_wp2_with fail
          go_region_with (first
            | (go_at_call 37; refine KD.out.mono ?_; rintro e w3 ⟨rfl, h3⟩; obtain ⟨d0, d1, d2, d3⟩ := FIN.out w3 default default h3))
          all_goals go_wp2
          all_goals go_roundg gq
          all_goals first
            | exact Nat.lt_succ_self _
            | exact ⟨(FS.out w3 _ _ h3).1, .inl ⟨rfl, HN.out⟩⟩
        | some m2 =>
          have KD : Hid (Calls Tryz.prog 37 #[.agg #[.pointer (some ⟨m.a, 0, none⟩), .slice (some ⟨b, o', none⟩) (r.length + 1) c'], .string (bs x)] wr.drew fun e w' => ∃ o2 c2, e = .returned (.tuple #[.agg #[.pointer (some ⟨m2.a, 0, none⟩), .slice (some ⟨b, o2, none⟩) r.length c2], .bool true]) ∧ Below wr.heap.size wr w' ∧ LeftAt w' (.slice (some ⟨b, o2, none⟩) r.length c2) r) :=
            (down_any (hgx.below (Below.drew (Below.refl _ _))) hm (bs x) (by unfold maxLen; omega) b o' c' x r (hla.below (Below.drew (Below.refl _ _)))).mono fun e w' ⟨h1, h2⟩ => by
              rw [tl_bs, hnx] at h2
              rcases h2 with ⟨h2, _⟩ | ⟨m', h2, h3, h4⟩
              · cases h2
              · cases h2; exact ⟨_, _, h3, (Below.drew (Below.refl _ _)).trans h1, h4⟩
          have HM : Hid (nd (L.take (j + 1)) = some m2 ∧ r = L.drop (j + 1)) := ⟨by rw [htk]; exact hnx, hr⟩
          clear h hgx hcp hla hrow hxr hx hr htk hB hnx hm hLs hF hT hf KS hl1 hb1 hbl hpb hlc hbl' hbb hLl hK
          go_wp2_with fail
          go_region_with (first
            | (go_at_call 37; refine KD.out.mono ?_; rintro e w3 ⟨o2, c2, rfl, h3, h4⟩; obtain ⟨d0, d1, d2, d3⟩ := FIN.out w3 default default h3))
          all_goals go_wp2
          all_goals go_roundg gq
          all_goals first
            | exact Nat.lt_succ_self _
            | (obtain ⟨f1, f2, f3⟩ := FS.out w3 (.pointer (some ⟨m2.a, 0, none⟩)) (.slice (some ⟨b, o2, none⟩) r.length c2) h3
               obtain ⟨k1, k2⟩ := HM.out
               refine ⟨f1, .inr ⟨j + 1, m2, o2, c2, rfl, by omega, k1, ?_, ?_⟩⟩
               · rw [← k2]; exact f2
               · rw [← k2]; exact f3 _ _ _ _ rfl h4)
end
end Go.Proofs.YtcnglhlljmfanaaGreatDoor
