/- The walk over all nodes below one: each, by recursion over the depth that is left; no condition but those that each theorem names. -/
import Derived.Test.YtcnglhlljmfanaaGreatDoorKp
namespace Go.Proofs.YtcnglhlljmfanaaGreatDoor
open Go.RowKit Tp Go.Maps Go.Shelf

theorem dn_split {p q : Pth} {l : Bs} (h : Dn (p ++ [l]) q) : Dn p q := by
  obtain ⟨l', r, rfl⟩ := h; exact ⟨l, l' :: r, by simp⟩

set_option maxRecDepth 100000 in
set_option maxHeartbeats 4000000 in
theorem each_any {F : Nat} {cap : Array Value} {nd : Pth → Option Nd} {own : Nat → Option (Pth × Nat)} {S : Pth → Int → Bool} {K : Nat} {J : (Nat → Prop) → List Pth → World → Prop} (vis : Vis F cap nd own S K J) (hdep : ∀ q, nd q ≠ none → q.length ≤ 65536) :
    ∀ (d : Nat) (p : Pth) (n : Nd) (W : World) (V : Nat → Prop) (pre : List Pth) (v : Value) (B : Nat), 65536 ≤ p.length + d → G W nd own S K → nd p = some n → J V pre W → PathAt W B v p → B ≤ W.heap.size →
      (∀ k, V k → own k = none ∧ v.ownBlock ≠ some k) → (∀ g, v.ownBlock = some g → own g = none) → (∀ q ∈ pre, ¬ Dn p q) →
      Calls Tryz.prog 64 #[.pointer (some ⟨n.a, 0, none⟩), v, .func (.func F) #[] cap] W fun e W' => e = .returned (.tuple #[]) ∧ ∃ V' ps, J V' (pre ++ ps) W' ∧ ps.Nodup ∧ (∀ q, q ∈ ps ↔ Dn p q ∧ nd q ≠ none) ∧
        But (fun k => V k ∨ v.ownBlock = some k) W W' ∧ (∀ k, V' k → V k ∨ W.heap.size ≤ k) ∧ PathAt W' B v p := by
  intro d
  induction d using Nat.strongRecOn with
  | ind d ih =>
    intro p n W V pre v B hd g hp hJ hv hBW hV hvo hpre
    obtain ⟨a, x, y⟩ := n
    have hb : W.heap[a]? = some (.cells #[.map x, .map y] 39 (0, 0)) := g.cell p _ hp
    have hc1 := cell_at hb 1
    simp at hc1
    have hk : KidsAt W y (fun l => (nd (p ++ [l])).map Nd.a) K := g.bel p _ hp
    cases y with
    | none =>
      have hrg := run_range_nilMap (P := Tryz.prog) W 37 _ _ Tryz.underlying37
      have hnx : ∀ ty, (Instr.next (.pointer (some ⟨W.heap.size, 0, none⟩)) false ty).run Tryz.prog (W.alloc (.mapIter none 0 #[] 0)) = _ := fun ty => run_next_nilMap _ ty 0 0 #[]
      go_enter Tryz.func64, Tryz.ntmps64
      go_wp2
      refine wp_loop_rounds 1 ?_
      rw [rounds_succ]
      go_wp2
      go_end0
      refine ⟨rfl, V, [], by rw [List.append_nil]; exact vis.stays _ _ _ _ (fun _ => False) hJ (But.alloc W _) (fun _ h => h.elim), List.nodup_nil, fun q => ⟨fun h => absurd h (by simp), fun ⟨⟨l, r, e⟩, h2⟩ => ?_⟩, But.alloc _ _, fun k hk => .inl hk, hv.but (But.alloc (C := fun _ => False) W _) (fun _ _ h => h)⟩
      have h1 : nd (p ++ [l]) = none := by have := hk l; simpa using this
      have := g.gone r _ h1
      rw [e] at h2
      simp only [List.append_assoc, List.cons_append, List.nil_append] at this
      exact absurd this h2
    | some b =>
      obtain ⟨n', D, ho, hn', hD⟩ := hk
      have hbl := ho.lt
      have hob := g.oy p _ b hp rfl
      go_enter Tryz.func64, Tryz.ntmps64
      go_wp2_with (first
        | (at_range; refine wpList_range_own _ rfl _ 37 rfl 9 35 strK Tryz.underlying37 heldElem b n' _ rfl ho ?_; intro w0 hrg0 hg0 hs0)
        | go_in)
      go_loopw [14] (fun _ wr => ∃ (left : Lit → Bool) (cnt : Nat) (V' : Nat → Prop) (ps : List Pth), wr.ranges Tryz.prog 9 heldElem b W.heap.size n' D left cnt ∧ J V' (pre ++ ps) wr ∧ ps.Nodup ∧ (∀ q, q ∈ ps ↔ ∃ l r, q = p ++ l :: r ∧ nd q ≠ none ∧ left (.string l) = false) ∧
          But (fun k => V k ∨ v.ownBlock = some k) W wr ∧ (∀ k, V' k → (V k ∨ W.heap.size ≤ k) ∧ k ≠ W.heap.size) ∧ PathAt wr B v p) (fun _ wr => wr.rangeLeft b W.heap.size)
      case atStart =>
        have hB0 : But (fun _ => False) W w0 := But.grown hg0 (fun k e => by cases e)
        refine ⟨_, _, V, [], hrg0, by rw [List.append_nil]; exact vis.stays _ _ _ _ _ hJ hB0 (fun _ h => h.elim), List.nodup_nil, fun q => ⟨fun h => absurd h (by simp), fun ⟨l, r, e, h2, h3⟩ => ?_⟩, hB0.mono (fun _ _ h => h.elim), fun k hk => ⟨.inl hk, by have := vis.lt _ _ _ hJ k hk; omega⟩, hv.but hB0 (fun _ _ h => h)⟩
        have h1 : nd (p ++ [l]) = none := by
          have := (hD l).1
          rw [h3] at this
          cases h4 : nd (p ++ [l]) with
          | none => rfl
          | some m => rw [h4] at this; cases this
        have := g.gone r _ h1
        rw [e] at h2
        simp only [List.append_assoc, List.cons_append, List.nil_append] at this
        exact absurd this h2
      case round =>
        obtain ⟨left, cnt, V', ps, hrg, hJ', hnd', hps, hB', hV', hv'⟩ := hrel
        go_wp2_with (first
          | (at_next; refine wpList_next_ranges _ rfl _ rfl 9 strK heldElem Value.string (fun v : Value => v) (fun key kl hk => by obtain ⟨x, hx, _⟩ := Maps.keyOf_str Tryz.underlying9 hk; exact ⟨_, hx⟩) (fun v y hv => ⟨v, rfl⟩) b W.heap.size n' _ _ _ rfl hrg ?_ ?_)
          | go_in)
        · intro hc0 hl0
          go_wp2
          go_end0
          refine ⟨rfl, V', ps, hJ', hnd', fun q => ?_, hB', fun k hk => (hV' k hk).1, hv'⟩
          rw [hps q]
          exact ⟨fun ⟨l, r, e, h2, _⟩ => ⟨⟨l, r, e⟩, h2⟩, fun ⟨⟨l, r, e⟩, h2⟩ => ⟨l, r, e, h2, hl0 _⟩⟩
        · intro x c kl yd yp w1 cnt1 hkey hlx hyv hat hrg1 hlt hg1 hs1 hen
          obtain ⟨x', ex, rfl, _⟩ := Maps.keyOf_str Tryz.underlying9 hkey
          obtain rfl : x' = tl x := by have := Value.string.inj ex; rw [tl_data, this]
          simp only [heldElem, Option.some.injEq, Prod.mk.injEq] at hyv
          obtain ⟨rfl, _⟩ := hyv
          have hhas : Maps.has D (.string (tl x)) = true := has_true_of_atKey hat
          have hcm := hat (.held (.pointer none))
          rw [(hD (tl x)).2] at hcm
          rw [(hD (tl x)).1] at hhas
          obtain ⟨m, hm⟩ : ∃ m, nd (p ++ [tl x]) = some m := by
            cases h : nd (p ++ [tl x]) with
            | none => rw [h] at hhas; cases hhas
            | some m => exact ⟨m, rfl⟩
          rw [hm] at hcm
          simp only [Option.map_some, pt, DataW.held.injEq] at hcm
          subst hcm
          have hpl : p.length + 1 ≤ 65536 := by have := hdep _ (show nd (p ++ [tl x]) ≠ none by rw [hm]; simp); simpa using this
          have hz := hB'.size
          have hrl := hrg1.lt
          -- behind the step
          have hBr : But (fun k => k = W.heap.size) wr w1 := But.grown hg1 (fun k e _ => by cases e; rfl)
          have hvn : ∀ g', v.ownBlock = some g' → g' ≠ W.heap.size := fun g' e => by have := (hv.lt g' e).2; omega
          have hv1 : PathAt w1 B v p := hv'.but hBr hvn
          have hJ1 := vis.stays _ _ _ _ _ hJ' hBr (fun k e hk => (hV' k hk).2 e)
          have hB1 : But (fun k => V k ∨ v.ownBlock = some k) W w1 := hB'.trans hBr (fun k hk e => by omega)
          obtain ⟨v2, w2, hrun, hv2, hB2, hat2⟩ := app1 hv1 x (by omega) (by omega)
          have hz2 := hB2.size
          have hB12 : But (fun k => V k ∨ v.ownBlock = some k) W w2 := hB1.trans hB2 (fun k _ e => .inr e)
          have hCo : ∀ k, (V k ∨ v.ownBlock = some k) → own k = none := fun k h => h.elim (fun h => (hV k h).1) (fun h => hvo k h)
          have g2 := g.but hB12 hCo
          have hJ2 := vis.stays _ _ _ _ _ hJ1 hB2 (fun k e hk => by
            rcases (hV' k hk).1 with h | h
            · exact (hV k h).2 e
            · have := (hv.lt k e).2; omega)
          have hv2o : ∀ g', v2.ownBlock = some g' → (v.ownBlock = some g' ∨ w1.heap.size ≤ g') := fun g' e => by
            rcases hat2 with ⟨g1, e1, h1, _⟩ | ⟨g1, c1, e1, e2⟩
            · rw [e1] at e; cases e; exact .inr h1
            · rw [e2] at e; left; rw [e1]; exact e
          have hfresh : ∀ k, W.heap.size ≤ k → own k = none := fun k hk => by
            cases ho' : own k with
            | none => rfl
            | some z => exact absurd (g.lt k (by rw [ho']; simp)) (by omega)
          have hVo' : ∀ k, V' k → own k = none ∧ v2.ownBlock ≠ some k := fun k hk => by
            refine ⟨?_, fun e => ?_⟩
            · rcases (hV' k hk).1 with h | h
              · exact (hV k h).1
              · exact hfresh k h
            · rcases hv2o k e with h | h
              · rcases (hV' k hk).1 with h' | h'
                · exact (hV k h').2 h
                · have := (hv.lt k h).2; omega
              · have := vis.lt _ _ _ hJ1 k hk; omega
          have hqn : p ++ [tl x] ∉ pre ++ ps := fun h => by
            rcases List.mem_append.1 h with h | h
            · exact hpre _ h ⟨tl x, [], rfl⟩
            · obtain ⟨l, r, e, _, h3⟩ := (hps _).1 h
              have : tl x = l := by simp at e; exact e.1
              rw [← this, hlx] at h3; cases h3
          have cV := Lib.hid (vis.call V' (pre ++ ps) w2 (p ++ [tl x]) m v2 B hJ2 g2 hm (by simp) hqn (by simpa using hv2) hVo')
          have KE : Hid (∀ (w3 : World) (V3 : Nat → Prop), J V3 (pre ++ ps ++ [p ++ [tl x]]) w3 → But V' w2 w3 → (∀ k, V3 k → V' k ∨ w2.heap.size ≤ k) → Calls Tryz.prog 64 #[.pointer (some ⟨m.a, 0, none⟩), v2, .func (.func F) #[] cap] w3 fun e W' => e = .returned (.tuple #[]) ∧ ∃ V4 ps4, J V4 (pre ++ ps ++ [p ++ [tl x]] ++ ps4) W' ∧ ps4.Nodup ∧ (∀ q, q ∈ ps4 ↔ Dn (p ++ [tl x]) q ∧ nd q ≠ none) ∧
              But (fun k => V3 k ∨ v2.ownBlock = some k) w3 W' ∧ (∀ k, V4 k → V3 k ∨ w3.heap.size ≤ k) ∧ PathAt W' B v2 (p ++ [tl x])) := fun w3 V3 hJ3 hB3 hV3 => by
            have hz3 := hB3.size
            refine ih (d - 1) (by omega) (p ++ [tl x]) m w3 V3 _ v2 B (by simp; omega) (g2.but hB3 (fun k h => (hVo' k h).1)) hm hJ3 (hv2.but hB3 (fun g' e h => (hVo' g' h).2 e)) (by omega) (fun k h => ?_) (fun g' e => ?_) (fun q hq hdn => ?_)
            · rcases hV3 k h with h' | h'
              · exact hVo' k h'
              · exact ⟨hfresh k (by omega), fun e => by have := (hv2.lt k e).2; omega⟩
            · rcases hv2o g' e with h | h
              · exact hvo g' h
              · exact hfresh g' (by omega)
            · rcases List.mem_append.1 hq with hq | hq
              · rcases List.mem_append.1 hq with hq | hq
                · exact hpre q hq (dn_split hdn)
                · obtain ⟨l, r, e, _, h3⟩ := (hps _).1 hq
                  obtain ⟨l', r', e'⟩ := hdn
                  have : l = tl x := by rw [e] at e'; simp at e'; exact e'.1
                  rw [this, hlx] at h3; cases h3
              · rw [List.mem_singleton] at hq
                obtain ⟨l', r', e'⟩ := hdn
                rw [hq] at e'
                have := congrArg List.length e'; simp at this
          have hent := vis.ent
          have HZ := Lib.hid (show w1.heap.size = wr.heap.size from hs1)
          clear hJ hJ' hJ1 hJ2 ih hat hD hs0 hs1 ex hhas hz hz2
          have HR := Lib.hid hrun
          clear hrun
          go_wp2_with (first
            | (at_builtin; refine wpList_append_run rfl _ _ 47 rfl v (.slice (some ⟨w1.heap.size, 0, none⟩) 1 1) rfl rfl HR.out ?_)
            | (go_at_call 64; refine (KE.out w3 V3 hJ3 hB3 hV3).mono ?_; rintro e w4 ⟨rfl, V4, ps4, hJ4, hn4, hps4, hB4, hV4, hv4⟩)
            | (refine cV.out.mono ?_; rintro e w3 ⟨rfl, V3, hJ3, hB3, hV3⟩))
          have hz := hB'.size
          have hz1 : w1.heap.size = wr.heap.size := HZ.out
          have hz2 := hB2.size
          have hz3 := hB3.size
          have hbV : ∀ k, V' k → own k = none := fun k hk => (hVo' k hk).1
          have hb3 : ∀ k, V3 k → own k = none := fun k hk => (hV3 k hk).elim (hbV k) (fun h => hfresh k (by omega))
          have hb2' : ∀ g', v2.ownBlock = some g' → own g' = none := fun g' e => (hv2o g' e).elim (hvo g') (fun h => hfresh g' (by omega))
          have noB : own b ≠ none := by rw [hob]; simp
          have r2 := ranges_but hrg1 hB2 (fun e => noB (hvo b e)) (fun e => hvn _ e rfl)
          have r3 := ranges_but r2 hB3 (fun e => noB (hbV b e)) (fun e => (hV' _ e).2 rfl)
          have nr3 : ∀ k, V3 k → k ≠ W.heap.size := fun k hk e => (hV3 k hk).elim (fun h => (hV' k h).2 e) (fun h => by omega)
          have nr2 : ∀ g', v2.ownBlock = some g' → g' ≠ W.heap.size := fun g' e e' => (hv2o g' e).elim (fun h => hvn g' h e') (fun h => by omega)
          have r4 := ranges_but r3 hB4 (fun e => e.elim (fun h => noB (hb3 b h)) (fun h => noB (hb2' b h))) (fun e => e.elim (fun h => nr3 _ h rfl) (fun h => nr2 _ h rfl))
          have low : ∀ k, k < W.heap.size → V' k → V k := fun k hk h => (hV' k h).1.resolve_right (by omega)
          have low3 : ∀ k, k < W.heap.size → V3 k → V k := fun k hk h => (hV3 k h).elim (low k hk) (fun h => by omega)
          have low2 : ∀ k, k < W.heap.size → v2.ownBlock = some k → v.ownBlock = some k := fun k hk h => (hv2o k h).resolve_right (by omega)
          refine ⟨⟨_, cnt1, V4, ps ++ [p ++ [tl x]] ++ ps4, r4, by simpa only [List.append_assoc] using hJ4, ?_, fun q => ?_, (hB12.trans hB3 (fun k hk h => .inl (low k hk h))).trans hB4 (fun k hk h => h.elim (fun h => .inl (low3 k hk h)) (fun h => .inr (low2 k hk h))), fun k hk => ?_, ?_⟩, by rw [r4.left_eq, hrg.left_eq]; exact hlt⟩
          · rw [List.nodup_append, List.nodup_append]
            refine ⟨⟨hnd', by simp, fun a ha b hb => by rw [List.mem_singleton] at hb; subst hb; exact fun e => hqn (List.mem_append.2 (.inr (e ▸ ha)))⟩, hn4, fun a ha b hb e => ?_⟩
            subst e
            obtain ⟨⟨l', r', e'⟩, _⟩ := (hps4 a).1 hb
            rcases List.mem_append.1 ha with ha | ha
            · obtain ⟨l, r, e, _, h3⟩ := (hps _).1 ha
              have : l = tl x := by rw [e] at e'; simp at e'; exact e'.1
              rw [this, hlx] at h3; cases h3
            · rw [List.mem_singleton] at ha
              rw [ha] at e'
              have := congrArg List.length e'; simp at this
          · have hsk : ∀ l, (Lit.string l).sameKey (.string (tl x)) = decide (l = tl x) := fun l => by
              by_cases h : l = tl x
              · subst h; simp [Lit.sameKey]
              · simp [Lit.sameKey, h]
            rw [List.mem_append, List.mem_append, List.mem_singleton, hps q, hps4 q]
            constructor
            · rintro ((⟨l, r, e, h2, h3⟩ | e) | ⟨⟨l, r, e⟩, h2⟩)
              · exact ⟨l, r, e, h2, by rw [h3]; rfl⟩
              · exact ⟨tl x, [], e, by rw [e, hm]; simp, by rw [hsk]; simp⟩
              · exact ⟨tl x, l :: r, by rw [e]; simp, h2, by rw [hsk]; simp⟩
            · rintro ⟨l, r, e, h2, h3⟩
              rw [hsk] at h3
              by_cases hl : l = tl x
              · subst hl
                cases r with
                | nil => exact .inl (.inr e)
                | cons l' r' => exact .inr ⟨⟨l', r', by rw [e]; simp⟩, h2⟩
              · simp only [hl, decide_false, Bool.not_false, Bool.and_true] at h3
                exact .inl (.inl ⟨l, r, e, h2, h3⟩)
          · refine ⟨?_, fun e => ?_⟩
            · rcases hV4 k hk with h | h
              · rcases hV3 k h with h | h
                · exact (hV' k h).1
                · exact .inr (by omega)
              · exact .inr (by omega)
            · rcases hV4 k hk with h | h
              · exact nr3 k h e
              · omega
          · rcases hat2 with ⟨g1, e1, h1, hp2⟩ | ⟨g1, c1, e1, e2⟩
            · have nv : ∀ g', v.ownBlock = some g' → ¬ V' g' := fun g' e h => by
                rcases (hV' g' h).1 with h' | h'
                · exact (hV g' h').2 e
                · have := (hv.lt g' e).2; omega
              refine (hp2.but hB3 nv).but hB4 (fun g' e h => ?_)
              have hg' := (hv.lt g' e).2
              rcases h with h | h
              · exact (hV3 g' h).elim (nv g' e) (fun h => by omega)
              · rw [e1] at h; cases h; omega
            · rw [e2] at hv4
              have := hv4
              rw [e1]
              exact PathAt.back (by simpa using this)
end Go.Proofs.YtcnglhlljmfanaaGreatDoor
