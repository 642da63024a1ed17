/- The search of a name, further: through and run, by recursion over the levels that are left; no condition but those that each theorem names. -/
import Derived.Test.YtcnglhlljmfanaaGreatDoorKj
namespace Go.Proofs.YtcnglhlljmfanaaGreatDoor
open Go.RowKit Tp Go.Maps Go.Shelf

/-- What run answers with these levels left. -/
def RunSpec (S : Pth → Int → Bool) (K : Nat) (U : List Int) (L : Pth) : Prop :=
  ∀ (p : Pth) (w : World) (nd : Pth → Option Nd) (own : Nat → Option (Pth × Nat)) (n : Nd) (b o c fb : Nat) (s1 : Int → Bool), G w nd own S K → nd p = some n → LeftAt w (.slice (some ⟨b, o, none⟩) L.length c) L → b ≠ fb → own fb = none →
    SetAt w (some fb) s1 U.length → (∀ i, s1 i = true → i ∈ U) →
    Calls Tryz.prog 32 #[.agg #[.pointer (some ⟨n.a, 0, none⟩), .slice (some ⟨b, o, none⟩) L.length c, .map (some fb)]] w fun e w' =>
      e = .returned (.tuple #[]) ∧ SetAt w' (some fb) (fun i => s1 i || fnd S L p i) U.length ∧ But (fun k => k = fb) w w'

set_option maxRecDepth 100000 in
set_option maxHeartbeats 4000000 in
theorem through_any {S : Pth → Int → Bool} {K : Nat} {U : List Int} {L : Pth} (hR : RunSpec S K U L) (x : Bs) (l : ByteArray) (hl : l.size ≤ 65535)
    (p : Pth) (w : World) (nd : Pth → Option Nd) (own : Nat → Option (Pth × Nat)) (n : Nd) (b o c fb : Nat) (s1 : Int → Bool) (g : G w nd own S K) (hp : nd p = some n) (hv : LeftAt w (.slice (some ⟨b, o, none⟩) (L.length + 1) c) (x :: L)) (hbf : b ≠ fb) (hfo : own fb = none)
    (hs : SetAt w (some fb) s1 U.length) (hU1 : ∀ i, s1 i = true → i ∈ U) :
    Calls Tryz.prog 31 #[.agg #[.pointer (some ⟨n.a, 0, none⟩), .slice (some ⟨b, o, none⟩) (L.length + 1) c, .map (some fb)], .string l] w fun e w' =>
      e = .returned (.tuple #[]) ∧ SetAt w' (some fb) (fun i => s1 i || fnd S L (p ++ [tl l]) i) U.length ∧ But (fun k => k = fb) w w' := by
  have hB0 := below1 w (.cells #[.pointer (some ⟨n.a, 0, none⟩), .slice (some ⟨b, o, none⟩) (L.length + 1) c, .map (some fb)] 61)
  have hdn := down_any (g.below hB0) hp l (by unfold maxLen; omega) b o c x L (hv.below hB0)
  cases hm : nd (p ++ [tl l]) with
  | none =>
    replace hdn : Calls Tryz.prog 37 #[.agg #[.pointer (some ⟨n.a, 0, none⟩), .slice (some ⟨b, o, none⟩) (L.length + 1) c], .string l] (w.alloc (.cells #[.pointer (some ⟨n.a, 0, none⟩), .slice (some ⟨b, o, none⟩) (L.length + 1) c, .map (some fb)] 61)) fun e w1 => e = .returned (.tuple #[.agg #[.pointer none, .slice none 0 0], .bool false]) ∧ Below w.heap.size w w1 := hdn.mono fun e w1 ⟨h1, h2⟩ => by
      rw [hm] at h2
      rcases h2 with ⟨_, h2⟩ | ⟨m, h2, _⟩
      · exact ⟨h2, hB0.trans (h1.mono hB0.size)⟩
      · cases h2
    go_enter Tryz.func31, Tryz.ntmps31
    go_wp2_with (first
      | (go_at_call 37; refine hdn.mono ?_; rintro e w1 ⟨rfl, hb1⟩))
    go_end0
    have e : (fun i => s1 i || fnd S L (p ++ [tl l]) i) = s1 := funext fun i => by rw [g.fnd_none hm]; simp
    rw [e]
    have hB : Below w.heap.size w (w1.alloc (.cells #[.pointer none, .slice none 0 0] 51)) := hb1.alloc hb1.size _
    exact ⟨rfl, hs.but (But.of_below (C := fun _ => False) hB) (fun _ _ h => h), But.of_below hB⟩
  | some m =>
    have KR : Hid (∀ w', Below w.heap.size w w' → LeftAt w' (.slice (some ⟨b, if c = 1 then o else o + 1, none⟩) L.length (c - 1)) L → Calls Tryz.prog 32 #[.agg #[.pointer (some ⟨m.a, 0, none⟩), .slice (some ⟨b, if c = 1 then o else o + 1, none⟩) L.length (c - 1), .map (some fb)]] w' fun e w'' =>
      e = .returned (.tuple #[]) ∧ SetAt w'' (some fb) (fun i => s1 i || fnd S L (p ++ [tl l]) i) U.length ∧ But (fun k => k = fb) w' w'') := fun w' h hl' =>
        hR (p ++ [tl l]) w' nd own m b _ (c - 1) fb s1 (g.below h) hm hl' hbf hfo (hs.but (But.of_below (C := fun _ => False) h) (fun _ _ h => h)) hU1
    have hfl : fb < w.heap.size := by obtain ⟨_, _, h, _⟩ := hs; exact h.lt
    replace hdn : Calls Tryz.prog 37 #[.agg #[.pointer (some ⟨n.a, 0, none⟩), .slice (some ⟨b, o, none⟩) (L.length + 1) c], .string l] (w.alloc (.cells #[.pointer (some ⟨n.a, 0, none⟩), .slice (some ⟨b, o, none⟩) (L.length + 1) c, .map (some fb)] 61)) fun e w1 => e = .returned (.tuple #[.agg #[.pointer (some ⟨m.a, 0, none⟩), .slice (some ⟨b, if c = 1 then o else o + 1, none⟩) L.length (c - 1)], .bool true]) ∧ Below w.heap.size w w1 ∧ LeftAt w1 (.slice (some ⟨b, if c = 1 then o else o + 1, none⟩) L.length (c - 1)) L ∧ ∀ ob, (w1.alloc ob).cell? ⟨w.heap.size, 2, none⟩ = some (.map (some fb)) := hdn.mono fun e w1 ⟨h1, h2⟩ => by
      rw [hm] at h2
      rcases h2 with ⟨h2, _⟩ | ⟨m', h2, h3, h4⟩
      · cases h2
      · cases h2; exact ⟨h3, hB0.trans (h1.mono hB0.size), h4, fun ob => cell_below (by rw [cell_at (heap_alloc_new _ _) 2]; rfl) (h1.alloc h1.size ob) (by simp)⟩
    generalize (if c = 1 then o else o + 1) = o' at KR hdn
    go_enter Tryz.func31, Tryz.ntmps31
    go_wp2_with (first
      | (go_at_call 37; refine hdn.mono ?_; rintro e w1 ⟨rfl, hb1, hv1, hc1⟩)
      | (go_at_call 32; refine (KR.out _ (hb1.alloc hb1.size _) (hv1.below (below1 _ _))).mono ?_; rintro e w2 ⟨rfl, hs2, hB2⟩))
    go_end0
    exact ⟨rfl, hs2, (But.of_below (hb1.alloc hb1.size _)).trans hB2 (fun _ _ h => h)⟩

set_option maxRecDepth 100000 in
set_option maxHeartbeats 4000000 in
theorem run_any (S : Pth → Int → Bool) (K : Nat) (U : List Int) (hU : ∀ q i, S q i = true → i ∈ U) (hK : U.length + K < maxLen) : ∀ (L : Pth), (∀ y ∈ L, y.length ≤ 65535) → RunSpec S K U L
  | [], _ => by
    intro p w nd own n b o c fb s1 g hp hv hbf hfo hs hU1
    have hB0 := below1 w (.cells #[.pointer (some ⟨n.a, 0, none⟩), .slice (some ⟨b, o, none⟩) 0 c, .map (some fb)] 61)
    have hfl : fb < w.heap.size := by obtain ⟨_, _, h, _⟩ := hs; exact h.lt
    have hfC : ∀ k, k = fb → own k = none := fun k e => e ▸ hfo
    have hnew := heap_alloc_new w (.cells #[.pointer (some ⟨n.a, 0, none⟩), .slice (some ⟨b, o, none⟩) 0 c, .map (some fb)] 61)
    have KC : Hid (∀ W, But (fun k => k = fb) (w.alloc (.cells #[.pointer (some ⟨n.a, 0, none⟩), .slice (some ⟨b, o, none⟩) 0 c, .map (some fb)] 61)) W → But (fun k => k = fb) w W) := fun W h => (But.of_below hB0).trans h (fun _ _ h => h)
    have KF : Hid (∀ W, But (fun k => k = fb) (w.alloc (.cells #[.pointer (some ⟨n.a, 0, none⟩), .slice (some ⟨b, o, none⟩) 0 c, .map (some fb)] 61)) W → W.cell? ⟨w.heap.size, 0, none⟩ = some (.pointer (some ⟨n.a, 0, none⟩)) ∧ W.cell? ⟨w.heap.size, 1, none⟩ = some (.slice (some ⟨b, o, none⟩) 0 c) ∧ W.cell? ⟨w.heap.size, 2, none⟩ = some (.map (some fb))) := fun W h => by
      have := h.at hnew (by omega)
      exact ⟨by rw [cell_at this 0]; rfl, by rw [cell_at this 1]; rfl, by rw [cell_at this 2]; rfl⟩
    have KL : Hid (∀ W, But (fun k => k = fb) (w.alloc (.cells #[.pointer (some ⟨n.a, 0, none⟩), .slice (some ⟨b, o, none⟩) 0 c, .map (some fb)] 61)) W → W.cell? ⟨n.a, 1, none⟩ = some (.map n.y) ∧ (Instr.lookup 37 (.map n.y) (.string ⟨#[35]⟩) false).run Tryz.prog W = .ok (pt ((nd (p ++ [ha])).map Nd.a)) W) := fun W h => by
      have gW := g.but (KC.out W h) hfC
      refine ⟨by rw [cell_at (gW.cell p _ hp) 1]; rfl, ?_⟩
      have := (gW.bel p _ hp).look ⟨#[35]⟩ (by unfold maxLen; decide)
      rw [tl_data] at this
      exact this
    have KG : Hid (∀ W (s : Int → Bool) (q : Pth), But (fun k => k = fb) (w.alloc (.cells #[.pointer (some ⟨n.a, 0, none⟩), .slice (some ⟨b, o, none⟩) 0 c, .map (some fb)] 61)) W → SetAt W (some fb) s U.length → (∀ i, s i = true → i ∈ U) → Calls Tryz.prog 57 #[.agg #[.pointer (some ⟨n.a, 0, none⟩), .slice (some ⟨b, o, none⟩) 0 c, .map (some fb)], pt ((nd q).map Nd.a)] W fun e w' =>
        e = .returned (.tuple #[]) ∧ SetAt w' (some fb) (fun i => s i || S q i) U.length ∧ But (fun k => k = fb) (w.alloc (.cells #[.pointer (some ⟨n.a, 0, none⟩), .slice (some ⟨b, o, none⟩) 0 c, .map (some fb)] 61)) w') := fun W s q h hs' hU' =>
      (gather_any (g.but (KC.out W h) hfC) q _ _ fb ⟨_, rfl⟩ ⟨_, _, _, rfl⟩ hfo s U hs' hU' hU hK).mono fun e w' ⟨h1, h2, h3⟩ => ⟨h1, h2, h.trans h3 (fun _ _ h => h)⟩
    have KZ : Hid (But (fun k => k = fb) (w.alloc (.cells #[.pointer (some ⟨n.a, 0, none⟩), .slice (some ⟨b, o, none⟩) 0 c, .map (some fb)] 61)) (w.alloc (.cells #[.pointer (some ⟨n.a, 0, none⟩), .slice (some ⟨b, o, none⟩) 0 c, .map (some fb)] 61)).drew) := But.of_below (Below.drew (Below.refl _ _))
    have HS : Hid (SetAt (w.alloc (.cells #[.pointer (some ⟨n.a, 0, none⟩), .slice (some ⟨b, o, none⟩) 0 c, .map (some fb)] 61)).drew (some fb) s1 U.length) := hs.but (But.of_below (C := fun _ => False) (Below.drew hB0)) (fun _ _ h => h)
    obtain ⟨z0, z1, z2⟩ := KF.out _ KZ.out
    obtain ⟨z3, hlk⟩ := KL.out _ KZ.out
    clear hnew hfC
    go_enter Tryz.func32, Tryz.ntmps32
    go_wp2_with fail
    go_region_held3 (fun W => (W.cell? ⟨w.heap.size, 0, none⟩ = some (.pointer (some ⟨n.a, 0, none⟩)) ∧ W.cell? ⟨w.heap.size, 1, none⟩ = some (.slice (some ⟨b, o, none⟩) 0 c) ∧ W.cell? ⟨w.heap.size, 2, none⟩ = some (.map (some fb))) ∧ W.cell? ⟨n.a, 1, none⟩ = some (.map n.y)) (first | with_reducible assumption | exact ⟨⟨z0, z1, z2⟩, z3⟩ | (with_reducible exact ⟨KF.out _ hB1, (KL.out _ hB1).1⟩)) (
      (go_at_call 57; refine (KG.out _ s1 (p ++ [ha]) KZ.out HS.out hU1).mono ?_; rintro e w1 ⟨rfl, hs1, hB1⟩))
    obtain ⟨y0, y1, y2⟩ := KF.out _ hB1
    clear z0 z1 z2 z3 hlk
    have HU1 : Hid (∀ i, (s1 i || S (p ++ [ha]) i) = true → i ∈ U) := fun i h => by rw [Bool.or_eq_true] at h; exact h.elim (hU1 i) (hU _ i)
    have hg := Lib.hid (KG.out _ (fun i => s1 i || S (p ++ [ha]) i) p hB1 hs1 HU1.out)
    rw [hp] at hg
    simp only [Option.map_some, pt] at hg
    clear hs1
    go_wp2_with (first
      | (go_at_call 57; refine hg.out.mono ?_; rintro e w2 ⟨rfl, hs2, hB2⟩))
    refine ⟨rfl, _, results_none rfl _ _ _, rfl, ?_, KC.out _ hB2⟩
    have e : (fun i => s1 i || fnd S [] p i) = fun i => s1 i || S (p ++ [ha]) i || S p i := funext fun i => by simp [fnd, Bool.or_assoc]
    rw [e]
    exact hs2
  | y :: L, hL => by
    have ih := run_any S K U hU hK L (fun z hz => hL z (by simp [hz]))
    intro p w nd own n b o c fb s1 g hp hv hbf hfo hs hU1
    have hsy : (bs y).size ≤ 65535 := by rw [← tl_size, tl_bs]; exact hL y (by simp)
    have hB0 := below1 w (.cells #[.pointer (some ⟨n.a, 0, none⟩), .slice (some ⟨b, o, none⟩) (L.length + 1) c, .map (some fb)] 61)
    have h0 : (((L.length : Nat) : Int) + 1 == 0) = false := by rw [beq_eq_false_iff_ne]; omega
    have h0' : (0 : Int) < ((L.length : Nat) : Int) + 1 := by omega
    have hfl : fb < w.heap.size := by obtain ⟨_, _, h, _⟩ := hs; exact h.lt
    have hfC : ∀ k, k = fb → own k = none := fun k e => e ▸ hfo
    have hnew := heap_alloc_new w (.cells #[.pointer (some ⟨n.a, 0, none⟩), .slice (some ⟨b, o, none⟩) (L.length + 1) c, .map (some fb)] 61)
    have KC : Hid (∀ W, But (fun k => k = fb) (w.alloc (.cells #[.pointer (some ⟨n.a, 0, none⟩), .slice (some ⟨b, o, none⟩) (L.length + 1) c, .map (some fb)] 61)) W → But (fun k => k = fb) w W) := fun W h => (But.of_below hB0).trans h (fun _ _ h => h)
    have KF : Hid (∀ W, But (fun k => k = fb) (w.alloc (.cells #[.pointer (some ⟨n.a, 0, none⟩), .slice (some ⟨b, o, none⟩) (L.length + 1) c, .map (some fb)] 61)) W → W.cell? ⟨w.heap.size, 0, none⟩ = some (.pointer (some ⟨n.a, 0, none⟩)) ∧ W.cell? ⟨w.heap.size, 1, none⟩ = some (.slice (some ⟨b, o, none⟩) (L.length + 1) c) ∧ W.cell? ⟨w.heap.size, 2, none⟩ = some (.map (some fb))) := fun W h => by
      have := h.at hnew (by omega)
      exact ⟨by rw [cell_at this 0]; rfl, by rw [cell_at this 1]; rfl, by rw [cell_at this 2]; rfl⟩
    have KY : Hid (∀ W, But (fun k => k = fb) (w.alloc (.cells #[.pointer (some ⟨n.a, 0, none⟩), .slice (some ⟨b, o, none⟩) (L.length + 1) c, .map (some fb)] 61)) W → W.cell? ⟨b, o, none⟩ = some (.string (bs y))) := fun W h => by
      obtain ⟨b1, o1, c1, e1, hr, hcl, hbl⟩ := hv.but (KC.out W h) (fun b1 o1 c1 e => by cases e; exact hbf)
      simp only [List.length_cons, Value.slice.injEq, Option.some.injEq, Addr.mk.injEq, and_true] at e1
      obtain ⟨⟨rfl, rfl⟩, _, rfl⟩ := e1
      have := hr 0 (bs y) (by simp); simpa using this
    have KL : Hid (∀ W, But (fun k => k = fb) (w.alloc (.cells #[.pointer (some ⟨n.a, 0, none⟩), .slice (some ⟨b, o, none⟩) (L.length + 1) c, .map (some fb)] 61)) W → W.cell? ⟨n.a, 1, none⟩ = some (.map n.y) ∧ (Instr.lookup 37 (.map n.y) (.string ⟨#[35]⟩) false).run Tryz.prog W = .ok (pt ((nd (p ++ [ha])).map Nd.a)) W) := fun W h => by
      have gW := g.but (KC.out W h) hfC
      refine ⟨by rw [cell_at (gW.cell p _ hp) 1]; rfl, ?_⟩
      have := (gW.bel p _ hp).look ⟨#[35]⟩ (by unfold maxLen; decide)
      rw [tl_data] at this
      exact this
    have KG : Hid (∀ W (s : Int → Bool) (q : Pth), But (fun k => k = fb) (w.alloc (.cells #[.pointer (some ⟨n.a, 0, none⟩), .slice (some ⟨b, o, none⟩) (L.length + 1) c, .map (some fb)] 61)) W → SetAt W (some fb) s U.length → (∀ i, s i = true → i ∈ U) → Calls Tryz.prog 57 #[.agg #[.pointer (some ⟨n.a, 0, none⟩), .slice (some ⟨b, o, none⟩) (L.length + 1) c, .map (some fb)], pt ((nd q).map Nd.a)] W fun e w' =>
        e = .returned (.tuple #[]) ∧ SetAt w' (some fb) (fun i => s i || S q i) U.length ∧ But (fun k => k = fb) (w.alloc (.cells #[.pointer (some ⟨n.a, 0, none⟩), .slice (some ⟨b, o, none⟩) (L.length + 1) c, .map (some fb)] 61)) w') := fun W s q h hs' hU' =>
      (gather_any (g.but (KC.out W h) hfC) q _ _ fb ⟨_, rfl⟩ ⟨_, _, _, rfl⟩ hfo s U hs' hU' hU hK).mono fun e w' ⟨h1, h2, h3⟩ => ⟨h1, h2, h.trans h3 (fun _ _ h => h)⟩
    have KT : Hid (∀ W (s : Int → Bool) (l : ByteArray), l.size ≤ 65535 → But (fun k => k = fb) (w.alloc (.cells #[.pointer (some ⟨n.a, 0, none⟩), .slice (some ⟨b, o, none⟩) (L.length + 1) c, .map (some fb)] 61)) W → SetAt W (some fb) s U.length → (∀ i, s i = true → i ∈ U) → Calls Tryz.prog 31 #[.agg #[.pointer (some ⟨n.a, 0, none⟩), .slice (some ⟨b, o, none⟩) (L.length + 1) c, .map (some fb)], .string l] W fun e w' =>
        e = .returned (.tuple #[]) ∧ SetAt w' (some fb) (fun i => s i || fnd S L (p ++ [tl l]) i) U.length ∧ But (fun k => k = fb) (w.alloc (.cells #[.pointer (some ⟨n.a, 0, none⟩), .slice (some ⟨b, o, none⟩) (L.length + 1) c, .map (some fb)] 61)) w') := fun W s l hl h hs' hU' =>
      (through_any ih y l hl p W nd own n b o c fb s (g.but (KC.out W h) hfC) hp (hv.but (KC.out W h) (fun b1 o1 c1 e => by cases e; exact hbf)) hbf hfo hs' hU').mono fun e w' ⟨h1, h2, h3⟩ => ⟨h1, h2, h.trans h3 (fun _ _ h => h)⟩
    have hUf : Hid (∀ i (q : Pth) L', fnd S L' q i = true → i ∈ U) := fun i q L' h => by obtain ⟨s, _, h2⟩ := (fnd_iff S i L' q).1 h; exact hU _ i h2
    have KZ : Hid (But (fun k => k = fb) (w.alloc (.cells #[.pointer (some ⟨n.a, 0, none⟩), .slice (some ⟨b, o, none⟩) (L.length + 1) c, .map (some fb)] 61)) (w.alloc (.cells #[.pointer (some ⟨n.a, 0, none⟩), .slice (some ⟨b, o, none⟩) (L.length + 1) c, .map (some fb)] 61)).drew) := But.of_below (Below.drew (Below.refl _ _))
    have HS : Hid (SetAt (w.alloc (.cells #[.pointer (some ⟨n.a, 0, none⟩), .slice (some ⟨b, o, none⟩) (L.length + 1) c, .map (some fb)] 61)).drew (some fb) s1 U.length) := hs.but (But.of_below (C := fun _ => False) (Below.drew hB0)) (fun _ _ h => h)
    obtain ⟨z0, z1, z2⟩ := KF.out _ KZ.out
    obtain ⟨z3, hlk⟩ := KL.out _ KZ.out
    clear hnew hfC
    go_enter Tryz.func32, Tryz.ntmps32
    go_wp2_with fail
    go_region_held3 (fun W => (W.cell? ⟨w.heap.size, 0, none⟩ = some (.pointer (some ⟨n.a, 0, none⟩)) ∧ W.cell? ⟨w.heap.size, 1, none⟩ = some (.slice (some ⟨b, o, none⟩) (L.length + 1) c) ∧ W.cell? ⟨w.heap.size, 2, none⟩ = some (.map (some fb))) ∧ W.cell? ⟨n.a, 1, none⟩ = some (.map n.y)) (first | with_reducible assumption | exact ⟨⟨z0, z1, z2⟩, z3⟩ | (with_reducible exact ⟨KF.out _ hB1, (KL.out _ hB1).1⟩)) (
      (go_at_call 57; refine (KG.out _ s1 (p ++ [ha]) KZ.out HS.out hU1).mono ?_; rintro e w1 ⟨rfl, hs1, hB1⟩))
    obtain ⟨y0, y1, y2⟩ := KF.out _ hB1
    have y3 := KY.out _ hB1
    clear z0 z1 z2 z3 hlk
    go_wp2_with fail
    have HB1 : Hid (But (fun k => k = fb) (w.alloc (.cells #[.pointer (some ⟨n.a, 0, none⟩), .slice (some ⟨b, o, none⟩) (L.length + 1) c, .map (some fb)] 61)) w1.drew) := hB1.trans (But.of_below (C := fun _ => False) (Below.drew (Below.refl _ _))) (fun _ _ h => h.elim)
    have HS1 : Hid (SetAt w1.drew (some fb) (fun i => s1 i || S (p ++ [ha]) i) U.length) := hs1.but (But.of_below (C := fun _ => False) (Below.drew (Below.refl _ _))) (fun _ _ h => h)
    have HU1 : Hid (∀ i, (s1 i || S (p ++ [ha]) i) = true → i ∈ U) := fun i h => by rw [Bool.or_eq_true] at h; exact h.elim (hU1 i) (hU _ i)
    clear hs1
    go_region_held3 (fun W => (W.cell? ⟨w.heap.size, 0, none⟩ = some (.pointer (some ⟨n.a, 0, none⟩)) ∧ W.cell? ⟨w.heap.size, 1, none⟩ = some (.slice (some ⟨b, o, none⟩) (L.length + 1) c) ∧ W.cell? ⟨w.heap.size, 2, none⟩ = some (.map (some fb))) ∧ W.cell? ⟨b, o, none⟩ = some (.string (bs y))) (first | with_reducible assumption | exact ⟨⟨y0, y1, y2⟩, y3⟩ | (with_reducible exact ⟨KF.out _ hB2, KY.out _ hB2⟩)) (
      (go_at_call 31; refine (KT.out _ (fun i => s1 i || S (p ++ [ha]) i) (bs y) hsy HB1.out HS1.out HU1.out).mono ?_; rintro e w2 ⟨rfl, hs2, hB2⟩))
    rw [tl_bs] at hs2
    have HS2 := Lib.hid hs2
    have HU2 : Hid (∀ i, (s1 i || S (p ++ [ha]) i || fnd S L (p ++ [y]) i) = true → i ∈ U) := fun i h => by rw [Bool.or_eq_true] at h; exact h.elim (HU1.out i) (hUf.out i _ _)
    clear hs2 y0 y1 y2 y3
    obtain ⟨y0, y1, y2⟩ := KF.out _ hB2
    go_wp2_with (first
      | (go_at_call 31; refine (KT.out _ (fun i => s1 i || S (p ++ [ha]) i || fnd S L (p ++ [y]) i) ⟨#[43]⟩ (by decide) hB2 HS2.out HU2.out).mono ?_; rintro e w3 ⟨rfl, hs3, hB3⟩))
    go_end0
    refine ⟨rfl, ?_, KC.out _ hB3⟩
    have e : (fun i => s1 i || fnd S (y :: L) p i) = fun i => s1 i || S (p ++ [ha]) i || fnd S L (p ++ [y]) i || fnd S L (p ++ [pl]) i := funext fun i => by simp [fnd, Bool.or_assoc]
    rw [e]
    rw [tl_data] at hs3
    exact hs3
end Go.Proofs.YtcnglhlljmfanaaGreatDoor
