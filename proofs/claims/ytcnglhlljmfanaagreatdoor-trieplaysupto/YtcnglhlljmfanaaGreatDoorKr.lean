/- Nodes and Len of a trie that stands for a list of subscriptions; no condition but those that each theorem names. -/
import Derived.Test.YtcnglhlljmfanaaGreatDoorKq
namespace Go.Proofs.YtcnglhlljmfanaaGreatDoor
open Go.RowKit Tp Go.Maps Go.Shelf

section
variable {w : World} {t B : Nat} {A : List (Bs × Int)} {nd : Pth → Option Nd} {own : Nat → Option (Pth × Nat)} {n : Nd} {K : Nat}

set_option maxRecDepth 100000 in
set_option maxHeartbeats 2000000 in
theorem eachT_any (h : TrieAt w t B A nd own n K) {F : Nat} {cap : Array Value} {J : (Nat → Prop) → List Pth → World → Prop} (vis : Vis F cap nd own (Sof A) K J) (V : Nat → Prop) (hJ : J V [] w) (hV : ∀ k, V k → own k = none) :
    Calls Tryz.prog 38 #[.pointer (some ⟨t, 0, none⟩), .func (.func F) #[] cap] w fun e W' => e = .returned (.tuple #[]) ∧ ∃ V' ps, J V' ps W' ∧ ps.Nodup ∧ (∀ q, q ∈ ps ↔ q ≠ [] ∧ ∃ e ∈ A, q <+: lvs e.1) ∧
      But V w W' ∧ (∀ k, V' k → V k ∨ w.heap.size ≤ k) := by
  have hc0 : w.cell? ⟨t, 0, none⟩ = some (.pointer (some ⟨n.a, 0, none⟩)) := by rw [cell_at h.cell 0]; rfl
  have hE := Lib.hid (each_any vis h.dep 65536 [] n w V [] (.slice none 0 0) w.heap.size (by simp) h.g h.root hJ (World.ownsRow_nil _ _ _ _) (Nat.le_refl _) (fun k hk => ⟨hV k hk, by simp [Value.ownBlock]⟩) (fun g e => by cases e) (by simp))
  go_enter Tryz.func38, Tryz.ntmps38
  go_wp2_with (first
    | (go_at_call 64; refine hE.out.mono ?_; rintro e w4 ⟨rfl, V4, ps4, hJ4, hn4, hps4, hB4, hV4, hv4⟩))
  go_end0
  refine ⟨rfl, V4, ps4, by simpa using hJ4, hn4, fun q => ?_, hB4.mono (fun k _ e => e.elim id (fun h => by cases h)), hV4⟩
  rw [hps4 q]
  constructor
  · rintro ⟨⟨l, r, e⟩, h2⟩
    have hne : q ≠ [] := by rw [e]; simp
    exact ⟨hne, (h.node_iff q hne).1 h2⟩
  · rintro ⟨hne, h2⟩
    refine ⟨?_, (h.node_iff q hne).2 h2⟩
    cases q with
    | nil => exact absurd rfl hne
    | cons l r => exact ⟨l, r, rfl⟩

/-- The nodes' number is bounded. -/
theorem nodes_le {ps : List Pth} (hn : ps.Nodup) (hp : ∀ q ∈ ps, q ≠ [] ∧ ∃ e ∈ A, q <+: lvs e.1) (hA : ∀ e ∈ A, (lvs e.1).length ≤ 65536) : ps.length ≤ A.length * 65537 := by
  have h1 := nodup_le ps (A.flatMap fun e => (List.range 65537).map fun k => (lvs e.1).take k) hn (fun q hq => by
    obtain ⟨_, e, he, hpre⟩ := hp q hq
    rw [List.mem_flatMap]
    refine ⟨e, he, List.mem_map.2 ⟨q.length, List.mem_range.2 ?_, (List.prefix_iff_eq_take.1 hpre).symm⟩⟩
    have := hpre.length_le
    have := hA e he
    omega)
  have h2 : (A.flatMap fun e => (List.range 65537).map fun k => (lvs e.1).take k).length = A.length * 65537 := by
    clear h1 hp hA hn
    cases A with
    | nil => rfl
    | cons a A =>
      have e : ∀ A : List (Bs × Int), (A.flatMap fun e => (List.range 65537).map fun k => (lvs e.1).take k).length = A.length * 65537 := fun A => by
        induction A with
        | nil => rfl
        | cons a A ih => rw [List.flatMap_cons, List.length_append, ih, List.length_map, List.length_range, List.length_cons]; omega
      exact e _
  omega

/-- What counts the nodes, between two of them. -/
def NJ (nd : Pth → Option Nd) (sb : Nat) (V : Nat → Prop) (pre : List Pth) (W : World) : Prop :=
  V = (fun k => k = sb) ∧ W.heap[sb]? = some (.cells #[.int .i64 (pre.length : Int)] 3 (0, 0)) ∧ pre.Nodup ∧ ∀ q ∈ pre, q ≠ [] ∧ nd q ≠ none

set_option maxRecDepth 100000 in
set_option maxHeartbeats 2000000 in
theorem nodesVis (h : TrieAt w t B A nd own n K) (sb : Nat) (hA : A.length ≤ 4398046511104) : Vis 44 #[.pointer (some ⟨sb, 0, none⟩)] nd own (Sof A) K (NJ nd sb) where
  ent := enters_of Tryz.func44 (by kernel_rfl) rfl
  stays V pre W W' C hJ hB hC := by
    obtain ⟨rfl, h1, h2⟩ := hJ
    exact ⟨rfl, hB.at h1 (fun c => hC sb c rfl), h2⟩
  lt V pre W hJ k hk := by
    obtain ⟨rfl, h1, h2⟩ := hJ
    subst hk; exact (Array.getElem?_eq_some_iff.1 h1).1
  call V pre W q m v B' hJ g hm hq hqp hv hV := by
    obtain ⟨rfl, h1, h2, h3⟩ := hJ
    have hc := cell_at h1 0
    have hf := frozen_at h1 0
    simp at hc
    have hlen : pre.length ≤ A.length * 65537 := nodes_le h2 (fun q hq => ⟨(h3 q hq).1, (h.node_iff q (h3 q hq).1).1 (h3 q hq).2⟩) (fun e he => (lvs_short (h.subs.fil e he)).2)
    have hsv : ∃ a k c, v = .slice a k c := by
      rcases hv.2 with ⟨rfl, _⟩ | ⟨g', c', cur, rfl, _⟩
      · exact ⟨_, _, _, rfl⟩
      · exact ⟨_, _, _, rfl⟩
    obtain ⟨a1, k1, c1, rfl⟩ := hsv
    simp only [List.append_toArray, List.cons_append, List.nil_append]
    go_enter Tryz.func44, Tryz.ntmps44
    go_wp2
    go_end0
    have hb := block_set (i := 0) h1 (.int .i64 ((pre.length : Int) + 1))
    simp at hb
    refine ⟨rfl, fun k => k = sb, ⟨rfl, by rw [hb]; simp, ?_, fun q' hq' => ?_⟩, But.set W ⟨sb, 0, none⟩ _ rfl, fun k hk => .inl hk⟩
    · rw [List.nodup_append]; exact ⟨h2, by simp, fun a ha b hb => by rw [List.mem_singleton] at hb; subst hb; exact fun e => hqp (e ▸ ha)⟩
    · rcases List.mem_append.1 hq' with h4 | h4
      · exact h3 q' h4
      · rw [List.mem_singleton] at h4; subst h4; exact ⟨hq, by rw [hm]; simp⟩

set_option maxRecDepth 100000 in
set_option maxHeartbeats 2000000 in
theorem nodes_any (h : TrieAt w t B A nd own n K) (hA : A.length ≤ 4398046511104) :
    Calls Tryz.prog 21 #[.pointer (some ⟨t, 0, none⟩)] w fun e W' => ∃ ps : List Pth, e = .returned (.int .i64 (ps.length : Int)) ∧ ps.Nodup ∧ (∀ q, q ∈ ps ↔ q ≠ [] ∧ ∃ e ∈ A, q <+: lvs e.1) ∧ Below w.heap.size w W' := by
  have hB0 := below1 w (.cells #[.int .i64 0] 3)
  have h1 := h.below hB0
  have hnew := heap_alloc_new w (.cells #[.int .i64 0] 3)
  have hsb : own w.heap.size = none := by
    cases ho : own w.heap.size with
    | none => rfl
    | some z => exact absurd (h.g.lt _ (by rw [ho]; simp)) (by omega)
  have hE := Lib.hid (eachT_any h1 (nodesVis h1 w.heap.size hA) (fun k => k = w.heap.size) ⟨rfl, by simpa using hnew, List.nodup_nil, by simp⟩ (fun k hk => hk ▸ hsb))
  have hmf : ∀ (fn : Fn) (first cap : Array Value) (w : World), (Instr.makeFunc fn first cap).run Tryz.prog w = .ok (.func fn first cap) w := fun _ _ _ _ => rfl
  go_enter Tryz.func21, Tryz.ntmps21
  go_wp2_with (first
    | (go_at_call 38; refine hE.out.mono ?_; rintro e w2 ⟨rfl, V2, ps, ⟨rfl, hc2, _, _⟩, hn2, hps2, hB2, hV2⟩; have hd2 := cell_at hc2 0; simp at hd2))
  go_ret
  refine ⟨ps, rfl, hn2, hps2, ?_⟩
  have hB : But (fun k => k = w.heap.size) w w2 := (But.of_below hB0).trans hB2 (fun _ _ h => h)
  exact ⟨hB.os, hB.tape, hB.output, hB.size, fun k hk => hB.block k hk (by omega)⟩

/-- How many subscriptions stand under a path. -/
def cntA (A : List (Bs × Int)) (q : Pth) : Nat := (A.filter fun e => decide (lvs e.1 = q)).length
def sumA (A : List (Bs × Int)) (ps : List Pth) : Nat := (ps.map (cntA A)).sum
theorem cnt_keys (hA : Subs A) {q : Pth} {l : List Int} (hn : l.Nodup) (hl : ∀ i, i ∈ l ↔ Sof A q i = true) : l.length = cntA A q := by
  have h1 : ((A.filter fun e => decide (lvs e.1 = q)).map Prod.snd).Nodup := by
    refine List.pairwise_map.2 ((hA.nd.sublist List.filter_sublist).imp_of_mem fun {a b} ha hb hne e => hne ?_)
    have h3 := (List.mem_filter.1 ha).2
    have h4 := (List.mem_filter.1 hb).2
    simp only [decide_eq_true_eq] at h3 h4
    exact Prod.ext (lvs_inj (h3.trans h4.symm)) e
  have := nodup_eq l _ hn h1 (fun i => by
    rw [hl i, Sof_iff, List.mem_map]
    constructor
    · rintro ⟨f, h1, h2⟩; exact ⟨(f, i), List.mem_filter.2 ⟨h1, by simpa using h2⟩, rfl⟩
    · rintro ⟨⟨f, j⟩, h1, rfl⟩; obtain ⟨h2, h3⟩ := List.mem_filter.1 h1; exact ⟨f, h2, by simpa using h3⟩)
  rw [this, List.length_map]; rfl
theorem sum_le : ∀ (A : List (Bs × Int)) (ps : List Pth), ps.Nodup → sumA A ps ≤ A.length ∧ ((∀ e ∈ A, lvs e.1 ∈ ps) → sumA A ps = A.length)
  | [], ps, _ => by
    have : ∀ ps, sumA [] ps = 0 := fun ps => by unfold sumA; induction ps with | nil => rfl | cons q ps ih => rw [List.map_cons, List.sum_cons, ih]; rfl
    simp [this]
  | e :: A, ps, hn => by
    have ih := sum_le A ps hn
    have h1 : sumA (e :: A) ps = sumA A ps + (if lvs e.1 ∈ ps then 1 else 0) := by
      clear ih
      unfold sumA
      induction ps with
      | nil => rfl
      | cons q ps ih =>
        rw [List.nodup_cons] at hn
        have ih := ih hn.2
        simp only [List.map_cons, List.sum_cons]
        rw [ih]
        have hc : cntA (e :: A) q = cntA A q + (if lvs e.1 = q then 1 else 0) := by
          unfold cntA
          by_cases h : lvs e.1 = q <;> simp [h]
        rw [hc]
        by_cases h : lvs e.1 = q
        · have : lvs e.1 ∉ ps := by rw [h]; exact hn.1
          simp [h, hn.1]; omega
        · simp [h]
          by_cases h2 : lvs e.1 ∈ ps <;> simp [h2] <;> omega
    rw [h1]
    constructor
    · split <;> simp <;> omega
    · intro h2
      rw [if_pos (h2 e (by simp)), ih.2 (fun e' he' => h2 e' (by simp [he']))]; simp

/-- What adds the numbers up, between two nodes. -/
def LJ (A : List (Bs × Int)) (sb : Nat) (V : Nat → Prop) (pre : List Pth) (W : World) : Prop :=
  V = (fun k => k = sb) ∧ W.heap[sb]? = some (.cells #[.int .i64 (sumA A pre : Int)] 3 (0, 0)) ∧ pre.Nodup

set_option maxRecDepth 100000 in
set_option maxHeartbeats 2000000 in
theorem lenVis (h : TrieAt w t B A nd own n K) (sb : Nat) (hA : A.length ≤ 4398046511104) : Vis 43 #[.pointer (some ⟨sb, 0, none⟩)] nd own (Sof A) K (LJ A sb) where
  ent := enters_of Tryz.func43 (by kernel_rfl) rfl
  stays V pre W W' C hJ hB hC := by
    obtain ⟨rfl, h1, h2⟩ := hJ
    exact ⟨rfl, hB.at h1 (fun c => hC sb c rfl), h2⟩
  lt V pre W hJ k hk := by
    obtain ⟨rfl, h1, h2⟩ := hJ
    subst hk; exact (Array.getElem?_eq_some_iff.1 h1).1
  call V pre W q m v B' hJ g hm hq hqp hv hV := by
    obtain ⟨rfl, h1, h2⟩ := hJ
    have hc := cell_at h1 0
    have hf := frozen_at h1 0
    simp at hc
    have hnd : (pre ++ [q]).Nodup := by rw [List.nodup_append]; exact ⟨h2, by simp, fun a ha b hb => by rw [List.mem_singleton] at hb; subst hb; exact fun e => hqp (e ▸ ha)⟩
    have hle := (sum_le A (pre ++ [q]) hnd).1
    have hsum : sumA A (pre ++ [q]) = sumA A pre + cntA A q := by simp [sumA]
    obtain ⟨a, x, y⟩ := m
    have hb : W.heap[a]? = some (.cells #[.map x, .map y] 39 (0, 0)) := g.cell q _ hm
    have hd0 := cell_at hb 0
    simp at hd0
    obtain ⟨l, l1, l2, l3, l4, l5⟩ := (show SetAt W x (Sof A q) K from g.num q _ hm).keys
    have hl := cnt_keys h.subs l1 l2
    rw [hl] at l4
    have hsv : ∃ a k c, v = .slice a k c := by
      rcases hv.2 with ⟨rfl, _⟩ | ⟨g', c', cur, rfl, _⟩
      · exact ⟨_, _, _, rfl⟩
      · exact ⟨_, _, _, rfl⟩
    obtain ⟨a1, k1, c1, rfl⟩ := hsv
    rw [hsum] at hle
    have hw1 : IntKind.i64.wrap ((sumA A pre : Int) + (cntA A q : Int)) = (sumA A pre : Int) + (cntA A q : Int) := by rw [IntWalk.i64_left]; exact IntWalk.wrap64_in _ (by omega)
    simp only [List.append_toArray, List.cons_append, List.nil_append]
    have dc : W.drew.cell? ⟨sb, 0, none⟩ = some (.int .i64 (sumA A pre : Int)) := hc
    have df : W.drew.frozen? ⟨sb, 0, none⟩ = false := hf
    have dd : W.drew.cell? ⟨a, 0, none⟩ = some (.map x) := hd0
    have d4 : ∀ ty, (Builtin.len_ #[36] ty #[.map x]).run Tryz.prog W.drew = .ok (.int .i64 (cntA A q)) W.drew := fun ty => by
      obtain ⟨l', m1, m2, m3, m4, m5⟩ := ((show SetAt W x (Sof A q) K from g.num q _ hm).but (But.of_below (C := fun _ => False) (Below.drew (Below.refl _ W))) (fun _ _ h => h)).keys
      rw [m4 ty, cnt_keys h.subs m1 m2]
    have hasb : ¬ a = sb := fun e => by have := (hV sb rfl).1; rw [← e, g.oa q ⟨a, x, y⟩ hm] at this; cases this
    have FN : Hid (∃ V', LJ A sb V' (pre ++ [q]) (W.setCell ⟨sb, 0, none⟩ (.int .i64 ((sumA A pre : Int) + (cntA A q : Int)))).drew ∧ But (fun k => k = sb) W (W.setCell ⟨sb, 0, none⟩ (.int .i64 ((sumA A pre : Int) + (cntA A q : Int)))).drew ∧ ∀ k, V' k → k = sb ∨ W.heap.size ≤ k) := by
      have hbs := block_set (i := 0) (w := W) h1 (.int .i64 ((sumA A pre : Int) + (cntA A q : Int)))
      refine ⟨fun k => k = sb, ⟨rfl, ?_, hnd⟩, (But.set (C := fun k => k = sb) W ⟨sb, 0, none⟩ _ rfl).trans (But.of_below (C := fun _ => False) (Below.drew (Below.refl _ _))) (fun _ _ h => h.elim), fun k hk => .inl hk⟩
      refine Eq.trans (show _ = (W.setCell ⟨sb, 0, none⟩ (.int .i64 ((sumA A pre : Int) + (cntA A q : Int)))).heap[sb]? from rfl) (hbs.trans ?_)
      simp [hsum]
    clear hc hf hd0 l4 hb
    go_enter Tryz.func43, Tryz.ntmps43
    go_wp2_with fail
    go_region_with (first | fail)
    all_goals (try go_wp2)
    all_goals (go_end0; exact ⟨rfl, FN.out⟩)

set_option maxRecDepth 100000 in
set_option maxHeartbeats 2000000 in
theorem len_any (h : TrieAt w t B A nd own n K) (hA : A.length ≤ 4398046511104) :
    Calls Tryz.prog 20 #[.pointer (some ⟨t, 0, none⟩)] w fun e W' => e = .returned (.int .i64 (A.length : Int)) ∧ Below w.heap.size w W' := by
  have hB0 := below1 w (.cells #[.int .i64 0] 3)
  have h1 := h.below hB0
  have hnew := heap_alloc_new w (.cells #[.int .i64 0] 3)
  have hsb : own w.heap.size = none := by
    cases ho : own w.heap.size with
    | none => rfl
    | some z => exact absurd (h.g.lt _ (by rw [ho]; simp)) (by omega)
  have hE := Lib.hid (eachT_any h1 (lenVis h1 w.heap.size hA) (fun k => k = w.heap.size) ⟨rfl, by simpa [sumA] using hnew, List.nodup_nil⟩ (fun k hk => hk ▸ hsb))
  have hmf : ∀ (fn : Fn) (first cap : Array Value) (w : World), (Instr.makeFunc fn first cap).run Tryz.prog w = .ok (.func fn first cap) w := fun _ _ _ _ => rfl
  go_enter Tryz.func20, Tryz.ntmps20
  go_wp2_with (first
    | (go_at_call 38; refine hE.out.mono ?_; rintro e w2 ⟨rfl, V2, ps, ⟨rfl, hc2, _⟩, hn2, hps2, hB2, hV2⟩; have hd2 := cell_at hc2 0; simp at hd2))
  go_ret
  have hB : But (fun k => k = w.heap.size) w w2 := (But.of_below hB0).trans hB2 (fun _ _ h => h)
  have e : sumA A ps = A.length := (sum_le A ps hn2).2 (fun e he => (hps2 _).2 ⟨lvs_ne _, e, he, List.prefix_refl _⟩)
  exact ⟨by simp [e], hB.os, hB.tape, hB.output, hB.size, fun k hk => hB.block k hk (by omega)⟩
end
end Go.Proofs.YtcnglhlljmfanaaGreatDoor
