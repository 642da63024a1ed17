/- remove: a number goes from the end of a path, and the nodes that have become bare with it; no condition but those that each theorem names. -/
import Derived.Test.YtcnglhlljmfanaaGreatDoorKh
namespace Go.Proofs.YtcnglhlljmfanaaGreatDoor
open Go.RowKit Tp Go.Maps Go.Shelf

/-- Each node strictly below a path has a number or a node below it. -/
def Tid (nd : Pth → Option Nd) (S : Pth → Int → Bool) (p : Pth) : Prop := ∀ l r, nd (p ++ l :: r) ≠ none → ¬ Bare nd S (p ++ l :: r)

theorem G.gone {w : World} {nd : Pth → Option Nd} {own : Nat → Option (Pth × Nat)} {S : Pth → Int → Bool} {K : Nat} (g : G w nd own S K) : ∀ (L p : Pth), nd p = none → nd (p ++ L) = none
  | [], p, h => by simpa using h
  | x :: L, p, h => by
    have h1 : nd (p ++ [x]) = none := by
      cases h2 : nd (p ++ [x]) with
      | none => rfl
      | some m => exact absurd h (g.up p x (by rw [h2]; simp))
    have := G.gone g L (p ++ [x]) h1
    simpa using this

/-- What a removal leaves. -/
structure Rem (nd nd' : Pth → Option Nd) (S' : Pth → Int → Bool) (p : Pth) : Prop where
  kept : ∀ q, nd' q ≠ none → (nd' q).map Nd.a = (nd q).map Nd.a
  out : ∀ q, (¬ ∃ l r, q = p ++ l :: r) → (nd' q).map Nd.a = (nd q).map Nd.a
  tid : Tid nd' S' p

theorem Bare.congr {nd nd' : Pth → Option Nd} {S S' : Pth → Int → Bool} {q : Pth} (hS : S' q = S q) (hn : ∀ l, (nd' (q ++ [l])).map Nd.a = (nd (q ++ [l])).map Nd.a) (h : Bare nd' S' q) : Bare nd S q :=
  ⟨fun i => by rw [← hS]; exact h.1 i, fun l => by rw [← map_none (f := Nd.a), ← hn l, h.2 l]; rfl⟩

theorem rem_base {nd nd' : Pth → Option Nd} {S : Pth → Int → Bool} {p : Pth} {i : Int} (hs : Sme nd nd') (ht : Tid nd S p) : Rem nd nd' (sub S p i) p where
  kept q _ := hs q
  out q _ := hs q
  tid l r h hb := by
    refine ht l r (fun h0 => h (by rw [← map_none (f := Nd.a), hs, h0]; rfl)) (Bare.congr (sub_other (fun e => ?_)) (fun l => hs _) hb)
    have := congrArg List.length e; simp at this

theorem rem_none {nd : Pth → Option Nd} {S : Pth → Int → Bool} {p : Pth} (ht : Tid nd S p) : Rem nd nd S p := ⟨fun _ _ => rfl, fun _ _ => rfl, ht⟩

theorem rem_step {nd nd1 nd2 : Pth → Option Nd} {S : Pth → Int → Bool} {p L : Pth} {x : Bs} {i : Int} (ht : Tid nd S p) (h1 : Rem nd nd1 (sub S (p ++ x :: L) i) (p ++ [x]))
    (h2 : ∀ q, q ≠ p ++ [x] → nd2 q = nd1 q) (hb : Bare nd1 (sub S (p ++ x :: L) i) (p ++ [x]) → nd2 (p ++ [x]) = none) (hnb : ¬ Bare nd1 (sub S (p ++ x :: L) i) (p ++ [x]) → nd2 (p ++ [x]) = nd1 (p ++ [x])) :
    Rem nd nd2 (sub S (p ++ x :: L) i) p where
  kept q hq := by
    by_cases e : q = p ++ [x]
    · subst e
      by_cases hB : Bare nd1 (sub S (p ++ x :: L) i) (p ++ [x])
      · exact absurd (hb hB) hq
      · rw [hnb hB] at hq ⊢; exact h1.kept _ hq
    · rw [h2 q e] at hq ⊢; exact h1.kept q hq
  out q hq := by
    have e : q ≠ p ++ [x] := fun e => hq ⟨x, [], e⟩
    rw [h2 q e]
    refine h1.out q (fun ⟨l, r, h⟩ => hq ⟨x, l :: r, by rw [h]; simp⟩)
  tid l r hq hB := by
    have hc : ∀ k, p ++ l :: r ++ [k] ≠ p ++ [x] := fun k e => by have := congrArg List.length e; simp at this
    have hB1 : Bare nd1 (sub S (p ++ x :: L) i) (p ++ l :: r) := ⟨hB.1, fun k => by rw [← h2 _ (hc k)]; exact hB.2 k⟩
    by_cases e : p ++ l :: r = p ++ [x]
    · rw [e] at hq hB1
      exact hq (hb hB1)
    · rw [h2 _ e] at hq
      by_cases el : l = x
      · subst el
        cases r with
        | nil => exact e rfl
        | cons k r =>
          have := h1.tid k r
          simp only [List.append_assoc, List.cons_append, List.nil_append] at this
          exact this hq hB1
      · have hout : ∀ s, ¬ ∃ l' r', p ++ l :: s = p ++ [x] ++ l' :: r' := fun s ⟨l', r', h⟩ => by
          simp at h; exact el h.1
        refine ht l r (fun h0 => hq (by rw [← map_none (f := Nd.a), h1.out _ (hout r), h0]; rfl)) (Bare.congr (sub_other (fun h => ?_)) (fun k => ?_) hB1)
        · simp at h; exact el h.1
        · have := h1.out (p ++ l :: (r ++ [k])) (hout _)
          simpa using this

set_option maxRecDepth 100000 in
set_option maxHeartbeats 4000000 in
theorem remove_any (i : Int) (hi : (Lit.int .i64 i).wf = true) (S : Pth → Int → Bool) (K : Nat) : ∀ (L p : Pth) (w : World) (nd : Pth → Option Nd) (own : Nat → Option (Pth × Nat)) (n : Nd) (v : Value), G w nd own S K → nd p = some n → LeftAt w v L →
    (∀ b o c, v = .slice (some ⟨b, o, none⟩) L.length c → ¬ Bl own b) → (∀ x ∈ L, x.length ≤ 65535) → Tid nd S p →
    Calls Tryz.prog 28 #[.agg #[.pointer (some ⟨n.a, 0, none⟩), v], .int .i64 i] w fun e w' => e = .returned (.bool (S (p ++ L) i)) ∧ ∃ nd' own', G w' nd' own' (sub S (p ++ L) i) K ∧ Rem nd nd' (sub S (p ++ L) i) p ∧ Gro w own own' ∧ But (Bl own) w w'
  | [], p, w, nd, own, n, v, g, hp, hv, hvo, hL, ht => by
    obtain ⟨b, o, c, rfl, hr, hcl, hbl⟩ := hv
    have g1 := g.below (below1 w (.cells #[.pointer (some ⟨n.a, 0, none⟩), .slice (some ⟨b, o, none⟩) 0 c] 51))
    go_enter_defers Tryz.func28, Tryz.ntmps28
    go_wp2_with (first
      | (go_at_call 52; refine (take_any g1 hp i hi).mono ?_; rintro e w1 ⟨rfl, nd1, own1, g2, hs, hgo, hB⟩))
    refine ⟨.bool (S p i), by simp [results, Tryz.f28, go_sem], by rw [List.append_nil], nd1, own1, by rw [List.append_nil]; exact g2, by rw [List.append_nil]; exact rem_base hs ht, fun k hk => ?_, (But.alloc w _).trans hB (fun _ _ h => h)⟩
    rcases hgo k hk with h | h
    · exact .inl h
    · exact .inr (by simp at h; omega)
  | x :: L, p, w, nd, own, n, v, g, hp, hv, hvo, hL, ht => by
    have ih := remove_any i hi S K L (p ++ [x])
    obtain ⟨b, o, c, rfl, hr, hcl, hbl⟩ := hv
    have hB0 := below1 w (.cells #[.pointer (some ⟨n.a, 0, none⟩), .slice (some ⟨b, o, none⟩) (L.length + 1) c] 51)
    have g1 := g.below hB0
    have hv1 : LeftAt _ (.slice (some ⟨b, o, none⟩) (L.length + 1) c) (x :: L) := LeftAt.below ⟨b, o, c, rfl, hr, hcl, hbl⟩ hB0
    have hc0 : w.cell? ⟨b, o, none⟩ = some (.string (bs x)) := by have := hr 0 (bs x) (by simp); simpa using this
    have hc1 : ∀ t, (w.alloc (.cells #[.pointer (some ⟨n.a, 0, none⟩), .slice (some ⟨b, o, none⟩) (L.length + 1) c] t)).cell? ⟨b, o, none⟩ = some (.string (bs x)) := fun t => cell_below hc0 (below1 w _) hbl
    have hsx : (bs x).size ≤ 65535 := by rw [← tl_size, tl_bs]; exact hL x (by simp)
    have h0 : (((L.length : Nat) : Int) + 1 == 0) = false := by rw [beq_eq_false_iff_ne]; omega
    have h0' : (0 : Int) < ((L.length : Nat) : Int) + 1 := by omega
    have hc1 : ∀ t, (w.alloc (.cells #[.pointer (some ⟨n.a, 0, none⟩), .slice (some ⟨b, o, none⟩) (L.length + 1) c] t)).cell? ⟨b, o, none⟩ = some (.string (bs x)) := fun t => cell_below hc0 (below1 w _) hbl
    cases hm : nd (p ++ [x]) with
    | none =>
      have hSf : S (p ++ x :: L) i = false := g.non _ i (by have := g.gone L (p ++ [x]) hm; simpa using this)
      have KA : Hid (∀ w', Below w.heap.size w w' → Calls Tryz.prog 37 #[.agg #[.pointer (some ⟨n.a, 0, none⟩), .slice (some ⟨b, o, none⟩) (L.length + 1) c], .string (bs x)] w' fun e w'' => e = .returned (.tuple #[.agg #[.pointer none, .slice none 0 0], .bool false]) ∧ Below w'.heap.size w' w'') := fun w' h =>
        (down_any (g.below h) hp (bs x) (by unfold maxLen; omega) b o c x L (LeftAt.below ⟨b, o, c, rfl, hr, hcl, hbl⟩ h)).mono fun e w'' ⟨h1, h2⟩ => by
          rw [tl_bs, hm] at h2
          rcases h2 with ⟨_, h3⟩ | ⟨m', h2, _, _⟩
          · exact ⟨h3, h1⟩
          · cases h2
      have KD := Lib.hid (Below.drew hB0)
      have KE := Lib.hid (Below.drew (hB0.alloc hB0.size (.cells #[.pointer none, .slice none 0 0] 51)))
      have KG : Hid (∀ w', Below (w.alloc (.cells #[.pointer (some ⟨n.a, 0, none⟩), .slice (some ⟨b, o, none⟩) (L.length + 1) c] 51)).heap.size (w.alloc (.cells #[.pointer (some ⟨n.a, 0, none⟩), .slice (some ⟨b, o, none⟩) (L.length + 1) c] 51)) w' → w'.cell? ⟨w.heap.size, 0, none⟩ = some (.pointer (some ⟨n.a, 0, none⟩)) ∧ w'.cell? ⟨w.heap.size, 1, none⟩ = some (.slice (some ⟨b, o, none⟩) (L.length + 1) c) ∧ w'.cell? ⟨b, o, none⟩ = some (.string (bs x))) := fun w' h => by
        have hn := heap_alloc_new w (.cells #[.pointer (some ⟨n.a, 0, none⟩), .slice (some ⟨b, o, none⟩) (L.length + 1) c] 51)
        exact ⟨cell_below (by rw [cell_at hn 0]; rfl) h (by simp), cell_below (by rw [cell_at hn 1]; rfl) h (by simp), cell_below (hc1 _) h (by simp; omega)⟩
      have KR : Hid (Below (w.alloc (.cells #[.pointer (some ⟨n.a, 0, none⟩), .slice (some ⟨b, o, none⟩) (L.length + 1) c] 51)).heap.size (w.alloc (.cells #[.pointer (some ⟨n.a, 0, none⟩), .slice (some ⟨b, o, none⟩) (L.length + 1) c] 51)) (w.alloc (.cells #[.pointer (some ⟨n.a, 0, none⟩), .slice (some ⟨b, o, none⟩) (L.length + 1) c] 51)).drew) := Below.drew (Below.refl _ _)
      have KS : Hid (Below (w.alloc (.cells #[.pointer (some ⟨n.a, 0, none⟩), .slice (some ⟨b, o, none⟩) (L.length + 1) c] 51)).heap.size (w.alloc (.cells #[.pointer (some ⟨n.a, 0, none⟩), .slice (some ⟨b, o, none⟩) (L.length + 1) c] 51)) ((w.alloc (.cells #[.pointer (some ⟨n.a, 0, none⟩), .slice (some ⟨b, o, none⟩) (L.length + 1) c] 51)).alloc (.cells #[.pointer none, .slice none 0 0] 51)).drew) := Below.drew (below1 _ _)
      have KT : Hid (∀ w2, Below ((w.alloc (.cells #[.pointer (some ⟨n.a, 0, none⟩), .slice (some ⟨b, o, none⟩) (L.length + 1) c] 51)).alloc (.cells #[.pointer none, .slice none 0 0] 51)).drew.heap.size ((w.alloc (.cells #[.pointer (some ⟨n.a, 0, none⟩), .slice (some ⟨b, o, none⟩) (L.length + 1) c] 51)).alloc (.cells #[.pointer none, .slice none 0 0] 51)).drew w2 → w2.cell? ⟨w.heap.size + 1, 0, none⟩ = some (.pointer none) ∧ w2.cell? ⟨w.heap.size + 1, 1, none⟩ = some (.slice none 0 0) ∧ ∀ j, w2.frozen? ⟨w.heap.size + 1, j, none⟩ = false) := fun w2 h => by
        have hn : ((w.alloc (.cells #[.pointer (some ⟨n.a, 0, none⟩), .slice (some ⟨b, o, none⟩) (L.length + 1) c] 51)).alloc (.cells #[.pointer none, .slice none 0 0] 51)).drew.heap[w.heap.size + 1]? = some (.cells #[.pointer none, .slice none 0 0] 51) := by
          have := heap_alloc_new (w.alloc (.cells #[.pointer (some ⟨n.a, 0, none⟩), .slice (some ⟨b, o, none⟩) (L.length + 1) c] 51)) (.cells #[.pointer none, .slice none 0 0] 51)
          rw [World.size_alloc] at this; exact this
        have hn2 := (h.block (w.heap.size + 1) (by show w.heap.size + 1 < _; simp)).trans hn
        exact ⟨by rw [cell_at hn2 0]; rfl, by rw [cell_at hn2 1]; rfl, fun j => frozen_at hn2 j⟩
      have hne1 : ¬ b = w.heap.size + 1 := by omega
      have hne2 : ¬ w.heap.size + 1 = b := by omega
      go_enter_defers Tryz.func28, Tryz.ntmps28
      go_wp2_with fail
      go_region_held3 (fun w' => w'.cell? ⟨w.heap.size, 0, none⟩ = some (.pointer (some ⟨n.a, 0, none⟩)) ∧ w'.cell? ⟨w.heap.size, 1, none⟩ = some (.slice (some ⟨b, o, none⟩) (L.length + 1) c) ∧ w'.cell? ⟨b, o, none⟩ = some (.string (bs x))) (first | with_reducible assumption | with_reducible exact ⟨z0, z1, z2⟩ | (with_reducible refine KG.out _ ?_; with_reducible assumption) | with_reducible exact KG.out _ KR.out | with_reducible exact KG.out _ KS.out | go_keep) (first
        | (go_at_call 37; refine (KA.out _ KD.out).mono ?_; rintro e w2 ⟨rfl, b2⟩; obtain ⟨z0, z1, z2⟩ := KG.out w2 (KR.out.trans b2))
        | (go_at_call 37; refine (KA.out _ KE.out).mono ?_; rintro e w2 ⟨rfl, b2⟩; obtain ⟨z0, z1, z2⟩ := KG.out w2 (KS.out.trans (b2.mono KS.out.size)); obtain ⟨y0, y1, y2⟩ := KT.out w2 b2))
      all_goals clear z0 z1 z2
      · obtain ⟨W5, hW5⟩ : ∃ W5, w2.alloc (.cells #[.pointer none, .slice none 0 0] 51) = W5 := ⟨_, rfl⟩
        have hB5 : Below w.heap.size w W5 := by rw [← hW5]; exact (KD.out.trans (b2.mono KD.out.size)).alloc (KD.out.trans (b2.mono KD.out.size)).size _
        first | rw [hW5] | skip
        go_wp2
        refine ⟨.bool false, by simp [results, Tryz.f28, go_sem], by rw [hSf], nd, own, by rw [sub_none hSf]; first | exact g.below hB5 | (rw [hW5]; exact g.below hB5), by rw [sub_none hSf]; exact rem_none ht, Gro.refl _ _, by first | exact But.of_below hB5 | (rw [hW5]; exact But.of_below hB5)⟩
      · obtain ⟨W5, hW5⟩ : ∃ W5, (w2.setCell ⟨w.heap.size + 1, 0, none⟩ (.pointer none)).setCell ⟨w.heap.size + 1, 1, none⟩ (.slice none 0 0) = W5 := ⟨_, rfl⟩
        have hB5 : Below w.heap.size w W5 := by rw [← hW5]; exact (((KE.out.trans (b2.mono KE.out.size)).setCell (by simp) _).setCell (by simp) _)
        first | rw [hW5] | skip
        go_wp2
        refine ⟨.bool false, by simp [results, Tryz.f28, go_sem], by rw [hSf], nd, own, by rw [sub_none hSf]; first | exact g.below hB5 | (rw [hW5]; exact g.below hB5), by rw [sub_none hSf]; exact rem_none ht, Gro.refl _ _, by first | exact But.of_below hB5 | (rw [hW5]; exact But.of_below hB5)⟩
    | some m =>
      have KA : Hid (∀ w', Below w.heap.size w w' → Calls Tryz.prog 37 #[.agg #[.pointer (some ⟨n.a, 0, none⟩), .slice (some ⟨b, o, none⟩) (L.length + 1) c], .string (bs x)] w' fun e w'' => e = .returned (.tuple #[.agg #[.pointer (some ⟨m.a, 0, none⟩), .slice (some ⟨b, if c = 1 then o else o + 1, none⟩) L.length (c - 1)], .bool true]) ∧ Below w'.heap.size w' w'') := fun w' h =>
        (down_any (g.below h) hp (bs x) (by unfold maxLen; omega) b o c x L (LeftAt.below ⟨b, o, c, rfl, hr, hcl, hbl⟩ h)).mono fun e w'' ⟨h1, h2⟩ => by
          rw [tl_bs, hm] at h2
          rcases h2 with ⟨h2, _⟩ | ⟨m', h2, h3, _⟩
          · cases h2
          · cases h2; exact ⟨h3, h1⟩
      have KI : Hid (∀ w', Below w.heap.size w w' → Calls Tryz.prog 28 #[.agg #[.pointer (some ⟨m.a, 0, none⟩), .slice (some ⟨b, if c = 1 then o else o + 1, none⟩) L.length (c - 1)], .int .i64 i] w' fun e w'' => e = .returned (.bool (S (p ++ x :: L) i)) ∧ ∃ nd' own', G w'' nd' own' (sub S (p ++ x :: L) i) K ∧ Rem nd nd' (sub S (p ++ x :: L) i) (p ++ [x]) ∧ Gro w' own own' ∧ But (Bl own) w' w'') := fun w' h => by
        obtain ⟨o', ho', hr'⟩ := step_row (by simpa using hr) (c := c) (by simpa using hcl)
        obtain rfl : (if c = 1 then o else o + 1) = o' := by
          by_cases h : c = 1
          · simp only [h, if_true, Option.some.injEq, Addr.mk.injEq, and_true, true_and] at ho' ⊢; exact ho'
          · simp only [h, if_false, Option.some.injEq, Addr.mk.injEq, and_true, true_and] at ho' ⊢; exact ho'
        have := ih w' nd own m (.slice (some ⟨b, if c = 1 then o else o + 1, none⟩) L.length (c - 1)) (g.below h) hm (LeftAt.below ⟨b, _, c - 1, rfl, hr', by simp at hcl; omega, hbl⟩ h) (fun b1 o1 c1 e => by cases e; exact hvo b o c rfl) (fun y hy => hL y (by simp [hy]))
          (fun l r h1 => by have := ht x (l :: r); simp only [List.append_assoc, List.cons_append, List.nil_append] at h1 ⊢; exact this h1)
        simpa only [List.append_assoc, List.cons_append, List.nil_append] using this
      generalize (if c = 1 then o else o + 1) = o' at KA KI
      have KD := Lib.hid (Below.drew hB0)
      have KE := Lib.hid (Below.drew (hB0.alloc hB0.size (.cells #[.pointer none, .slice none 0 0] 51)))
      have KG : Hid (∀ w', Below (w.alloc (.cells #[.pointer (some ⟨n.a, 0, none⟩), .slice (some ⟨b, o, none⟩) (L.length + 1) c] 51)).heap.size (w.alloc (.cells #[.pointer (some ⟨n.a, 0, none⟩), .slice (some ⟨b, o, none⟩) (L.length + 1) c] 51)) w' → w'.cell? ⟨w.heap.size, 0, none⟩ = some (.pointer (some ⟨n.a, 0, none⟩)) ∧ w'.cell? ⟨w.heap.size, 1, none⟩ = some (.slice (some ⟨b, o, none⟩) (L.length + 1) c) ∧ w'.cell? ⟨b, o, none⟩ = some (.string (bs x))) := fun w' h => by
        have hn := heap_alloc_new w (.cells #[.pointer (some ⟨n.a, 0, none⟩), .slice (some ⟨b, o, none⟩) (L.length + 1) c] 51)
        exact ⟨cell_below (by rw [cell_at hn 0]; rfl) h (by simp), cell_below (by rw [cell_at hn 1]; rfl) h (by simp), cell_below (hc1 _) h (by simp; omega)⟩
      have KR : Hid (Below (w.alloc (.cells #[.pointer (some ⟨n.a, 0, none⟩), .slice (some ⟨b, o, none⟩) (L.length + 1) c] 51)).heap.size (w.alloc (.cells #[.pointer (some ⟨n.a, 0, none⟩), .slice (some ⟨b, o, none⟩) (L.length + 1) c] 51)) (w.alloc (.cells #[.pointer (some ⟨n.a, 0, none⟩), .slice (some ⟨b, o, none⟩) (L.length + 1) c] 51)).drew) := Below.drew (Below.refl _ _)
      have KS : Hid (Below (w.alloc (.cells #[.pointer (some ⟨n.a, 0, none⟩), .slice (some ⟨b, o, none⟩) (L.length + 1) c] 51)).heap.size (w.alloc (.cells #[.pointer (some ⟨n.a, 0, none⟩), .slice (some ⟨b, o, none⟩) (L.length + 1) c] 51)) ((w.alloc (.cells #[.pointer (some ⟨n.a, 0, none⟩), .slice (some ⟨b, o, none⟩) (L.length + 1) c] 51)).alloc (.cells #[.pointer none, .slice none 0 0] 51)).drew) := Below.drew (below1 _ _)
      have KT : Hid (∀ w2, Below ((w.alloc (.cells #[.pointer (some ⟨n.a, 0, none⟩), .slice (some ⟨b, o, none⟩) (L.length + 1) c] 51)).alloc (.cells #[.pointer none, .slice none 0 0] 51)).drew.heap.size ((w.alloc (.cells #[.pointer (some ⟨n.a, 0, none⟩), .slice (some ⟨b, o, none⟩) (L.length + 1) c] 51)).alloc (.cells #[.pointer none, .slice none 0 0] 51)).drew w2 → w2.cell? ⟨w.heap.size + 1, 0, none⟩ = some (.pointer none) ∧ w2.cell? ⟨w.heap.size + 1, 1, none⟩ = some (.slice none 0 0) ∧ ∀ j, w2.frozen? ⟨w.heap.size + 1, j, none⟩ = false) := fun w2 h => by
        have hn : ((w.alloc (.cells #[.pointer (some ⟨n.a, 0, none⟩), .slice (some ⟨b, o, none⟩) (L.length + 1) c] 51)).alloc (.cells #[.pointer none, .slice none 0 0] 51)).drew.heap[w.heap.size + 1]? = some (.cells #[.pointer none, .slice none 0 0] 51) := by
          have := heap_alloc_new (w.alloc (.cells #[.pointer (some ⟨n.a, 0, none⟩), .slice (some ⟨b, o, none⟩) (L.length + 1) c] 51)) (.cells #[.pointer none, .slice none 0 0] 51)
          rw [World.size_alloc] at this; exact this
        have hn2 := (h.block (w.heap.size + 1) (by show w.heap.size + 1 < _; simp)).trans hn
        exact ⟨by rw [cell_at hn2 0]; rfl, by rw [cell_at hn2 1]; rfl, fun j => frozen_at hn2 j⟩
      have hne1 : ¬ b = w.heap.size + 1 := by omega
      have hne2 : ¬ w.heap.size + 1 = b := by omega
      go_enter_defers Tryz.func28, Tryz.ntmps28
      go_wp2_with fail
      go_region_held3 (fun w' => w'.cell? ⟨w.heap.size, 0, none⟩ = some (.pointer (some ⟨n.a, 0, none⟩)) ∧ w'.cell? ⟨w.heap.size, 1, none⟩ = some (.slice (some ⟨b, o, none⟩) (L.length + 1) c) ∧ w'.cell? ⟨b, o, none⟩ = some (.string (bs x))) (first | with_reducible assumption | with_reducible exact ⟨z0, z1, z2⟩ | (with_reducible refine KG.out _ ?_; with_reducible assumption) | with_reducible exact KG.out _ KR.out | with_reducible exact KG.out _ KS.out | go_keep) (first
        | (go_at_call 37; refine (KA.out _ KD.out).mono ?_; rintro e w2 ⟨rfl, b2⟩; obtain ⟨z0, z1, z2⟩ := KG.out w2 (KR.out.trans b2))
        | (go_at_call 37; refine (KA.out _ KE.out).mono ?_; rintro e w2 ⟨rfl, b2⟩; obtain ⟨z0, z1, z2⟩ := KG.out w2 (KS.out.trans (b2.mono KS.out.size)); obtain ⟨y0, y1, y2⟩ := KT.out w2 b2))
      all_goals rename_i hHeld
      · obtain ⟨W5, hW5⟩ : ∃ W5, w2.alloc (.cells #[.pointer (some ⟨m.a, 0, none⟩), .slice (some ⟨b, o', none⟩) L.length (c - 1)] 51) = W5 := ⟨_, rfl⟩
        have hB5 : Below w.heap.size w W5 := by rw [← hW5]; exact (KD.out.trans (b2.mono KD.out.size)).alloc (KD.out.trans (b2.mono KD.out.size)).size _
        have z5 := hHeld
        rw [hW5] at z5 ⊢
        obtain ⟨z50, z51, z52⟩ := z5
        have e0 : W5.cell? ⟨w2.heap.size, 0, none⟩ = some (.pointer (some ⟨m.a, 0, none⟩)) := by rw [← hW5]; rw [cell_at (heap_alloc_new _ _) 0]; rfl
        have e1 : W5.cell? ⟨w2.heap.size, 1, none⟩ = some (.slice (some ⟨b, o', none⟩) L.length (c - 1)) := by rw [← hW5]; rw [cell_at (heap_alloc_new _ _) 1]; rfl
        clear z0 z1 z2 hW5 b2
        go_wp2_with fail
        go_region_held3 (fun w' => w'.cell? ⟨w.heap.size, 0, none⟩ = some (.pointer (some ⟨n.a, 0, none⟩)) ∧ w'.cell? ⟨w.heap.size, 1, none⟩ = some (.slice (some ⟨b, o, none⟩) (L.length + 1) c) ∧ w'.cell? ⟨b, o, none⟩ = some (.string (bs x))) (first | with_reducible assumption | exact ⟨z50, z51, z52⟩) (fail)
        go_wp2_with (first
          | (go_at_call 28; refine (KI.out _ (by first | exact hB5 | exact Below.drew hB5)).mono ?_; rintro e w6 ⟨rfl, nd6, own6, g6, hr6, hgo6, hb6⟩))
        have hx1 : ¬ ∃ l r, p = p ++ [x] ++ l :: r := fun ⟨l, r, h⟩ => by have := congrArg List.length h; simp at this
        have hx2 : ¬ ∃ l r, p ++ [x] = p ++ [x] ++ l :: r := fun ⟨l, r, h⟩ => by have := congrArg List.length h; simp at this
        have hp6 := hr6.out p hx1
        have hc6 := hr6.out (p ++ [x]) hx2
        rw [hp] at hp6
        rw [hm] at hc6
        obtain ⟨n6, hn6⟩ : ∃ n6, nd6 p = some n6 := by cases h : nd6 p with | none => rw [h] at hp6; cases hp6 | some n6 => exact ⟨n6, rfl⟩
        have ha6 : n6.a = n.a := by rw [hn6] at hp6; simpa using hp6
        refine leaves_cons (f := 53) (args := #[.pointer (some ⟨n.a, 0, none⟩), .string (bs x)]) (by simp) (by simp [go_sem]) ?_
        rw [← ha6]
        refine (prune_any g6 hn6 (bs x) (by unfold maxLen; omega) (by rw [tl_bs]; intro h; rw [h] at hc6; cases hc6) .returning).mono ?_
        rintro e u' w7 ⟨rfl, rfl, nd7, g7, q1, q2, q3, hb7⟩
        rw [tl_bs] at q1 q2 q3
        have hsz := hB5.size
        simp [Leaves, settle, results, Tryz.f28, go_sem]
        exact ⟨nd7, own6, g7, rem_step ht hr6 q1 q2 q3, fun k hk => (hgo6 k hk).imp id (fun h => Nat.le_trans hsz h), ((But.of_below (C := Bl own) (Below.drew hB5)).trans hb6 (fun _ _ h => h)).trans hb7 (fun k hk h => (hgo6 k h).resolve_right (fun h => by have : W5.heap.size ≤ k := h; omega))⟩
      · obtain ⟨W5, hW5⟩ : ∃ W5, (w2.setCell ⟨w.heap.size + 1, 0, none⟩ (.pointer (some ⟨m.a, 0, none⟩))).setCell ⟨w.heap.size + 1, 1, none⟩ (.slice (some ⟨b, o', none⟩) L.length (c - 1)) = W5 := ⟨_, rfl⟩
        have hB5 : Below w.heap.size w W5 := by rw [← hW5]; exact (((KE.out.trans (b2.mono KE.out.size)).setCell (by simp) _).setCell (by simp) _)
        have z5 := hHeld
        rw [hW5] at z5 ⊢
        obtain ⟨z50, z51, z52⟩ := z5
        have e0 : W5.cell? ⟨w.heap.size + 1, 0, none⟩ = some (.pointer (some ⟨m.a, 0, none⟩)) := by rw [← hW5]; simp [World.cell?_setCell_same, World.cell?_setCell_other, y0]
        have e1 : W5.cell? ⟨w.heap.size + 1, 1, none⟩ = some (.slice (some ⟨b, o', none⟩) L.length (c - 1)) := by rw [← hW5]; simp [World.cell?_setCell_same, World.cell?_setCell_other, y1]
        clear z0 z1 z2 hW5 b2
        go_wp2_with fail
        go_region_held3 (fun w' => w'.cell? ⟨w.heap.size, 0, none⟩ = some (.pointer (some ⟨n.a, 0, none⟩)) ∧ w'.cell? ⟨w.heap.size, 1, none⟩ = some (.slice (some ⟨b, o, none⟩) (L.length + 1) c) ∧ w'.cell? ⟨b, o, none⟩ = some (.string (bs x))) (first | with_reducible assumption | exact ⟨z50, z51, z52⟩) (fail)
        go_wp2_with (first
          | (go_at_call 28; refine (KI.out _ (by first | exact hB5 | exact Below.drew hB5)).mono ?_; rintro e w6 ⟨rfl, nd6, own6, g6, hr6, hgo6, hb6⟩))
        have hx1 : ¬ ∃ l r, p = p ++ [x] ++ l :: r := fun ⟨l, r, h⟩ => by have := congrArg List.length h; simp at this
        have hx2 : ¬ ∃ l r, p ++ [x] = p ++ [x] ++ l :: r := fun ⟨l, r, h⟩ => by have := congrArg List.length h; simp at this
        have hp6 := hr6.out p hx1
        have hc6 := hr6.out (p ++ [x]) hx2
        rw [hp] at hp6
        rw [hm] at hc6
        obtain ⟨n6, hn6⟩ : ∃ n6, nd6 p = some n6 := by cases h : nd6 p with | none => rw [h] at hp6; cases hp6 | some n6 => exact ⟨n6, rfl⟩
        have ha6 : n6.a = n.a := by rw [hn6] at hp6; simpa using hp6
        refine leaves_cons (f := 53) (args := #[.pointer (some ⟨n.a, 0, none⟩), .string (bs x)]) (by simp) (by simp [go_sem]) ?_
        rw [← ha6]
        refine (prune_any g6 hn6 (bs x) (by unfold maxLen; omega) (by rw [tl_bs]; intro h; rw [h] at hc6; cases hc6) .returning).mono ?_
        rintro e u' w7 ⟨rfl, rfl, nd7, g7, q1, q2, q3, hb7⟩
        rw [tl_bs] at q1 q2 q3
        have hsz := hB5.size
        simp [Leaves, settle, results, Tryz.f28, go_sem]
        exact ⟨nd7, own6, g7, rem_step ht hr6 q1 q2 q3, fun k hk => (hgo6 k hk).imp id (fun h => Nat.le_trans hsz h), ((But.of_below (C := Bl own) (Below.drew hB5)).trans hb6 (fun _ _ h => h)).trans hb7 (fun k hk h => (hgo6 k h).resolve_right (fun h => by have : W5.heap.size ≤ k := h; omega))⟩
end Go.Proofs.YtcnglhlljmfanaaGreatDoor
