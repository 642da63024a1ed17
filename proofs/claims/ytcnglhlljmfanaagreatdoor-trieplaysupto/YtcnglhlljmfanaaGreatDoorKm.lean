/- Add and Remove of a trie that stands for a list of subscriptions; what is asked of the world: the two tables of unicode/utf8 as their text lays them. -/
import Derived.Test.YtcnglhlljmfanaaGreatDoorKl
namespace Go.Proofs.YtcnglhlljmfanaaGreatDoor
open Go.RowKit Tp Go.Maps Go.Shelf

/-- A subscription more, if it is right and not there. -/
def addA (A : List (Bs × Int)) (f : Bs) (i : Int) : List (Bs × Int) := if isFilter f = true ∧ (f, i) ∉ A then A ++ [(f, i)] else A
/-- A subscription less. -/
def remA (A : List (Bs × Int)) (f : Bs) (i : Int) : List (Bs × Int) := A.erase (f, i)

theorem Subs.add {A : List (Bs × Int)} (h : Subs A) {f : Bs} {i : Int} (hi : (Lit.int .i64 i).wf = true) : Subs (addA A f i) := by
  unfold addA
  split
  · rename_i hc
    refine ⟨fun e he => ?_, fun e he => ?_, ?_⟩
    · rcases List.mem_append.1 he with h1 | h1
      · exact h.fil e h1
      · rw [List.mem_singleton] at h1; rw [h1]; exact hc.1
    · rcases List.mem_append.1 he with h1 | h1
      · exact h.wf e h1
      · rw [List.mem_singleton] at h1; rw [h1]; exact hi
    · rw [List.nodup_append]
      exact ⟨h.nd, by simp, fun a ha b hb => by rw [List.mem_singleton] at hb; subst hb; exact fun e => hc.2 (e ▸ ha)⟩
  · exact h
theorem Subs.rem {A : List (Bs × Int)} (h : Subs A) {f : Bs} {i : Int} : Subs (remA A f i) :=
  ⟨fun e he => h.fil e (List.mem_of_mem_erase he), fun e he => h.wf e (List.mem_of_mem_erase he), h.nd.erase _⟩
theorem mem_remA {A : List (Bs × Int)} (h : Subs A) {f : Bs} {i : Int} (e : Bs × Int) : e ∈ remA A f i ↔ e ∈ A ∧ e ≠ (f, i) := by
  unfold remA; rw [h.nd.mem_erase_iff]; exact ⟨fun ⟨a, b⟩ => ⟨b, a⟩, fun ⟨a, b⟩ => ⟨b, a⟩⟩
theorem Sof_addA {A : List (Bs × Int)} {f : Bs} {i : Int} (hf : isFilter f = true) : Sof (addA A f i) = add (Sof A) (lvs f) i := by
  unfold addA
  by_cases h : (f, i) ∈ A
  · rw [if_neg (fun hc => hc.2 h), add_there (Sof_lvs.2 h)]
  · rw [if_pos ⟨hf, h⟩, Sof_add]

theorem lvs_short {f : Bs} (hf : isFilter f = true) : (∀ x ∈ lvs f, x.length ≤ 65535) ∧ (lvs f).length ≤ 65536 := by
  have hl : f.length ≤ 65535 := by simp only [isFilter, okText, Bool.and_eq_true, decide_eq_true_eq] at hf; exact hf.1.1.1.2
  have h1 := glue_len (lvs f) (lvs_ne f)
  rw [glue_lvs] at h1
  have hlen : (lvs f).length = f.count 47 + 1 := lvs_len f
  have hc : f.count 47 ≤ f.length := List.count_le_length
  refine ⟨fun x hx => ?_, by omega⟩
  have : x.length ≤ Lib.lens (lvs f) := by
    clear h1 hlen hc hl hf
    generalize lvs f = xs at hx
    induction xs with
    | nil => cases hx
    | cons y ys ih =>
      rcases List.mem_cons.1 hx with rfl | h
      · simp [Lib.lens]
      · have := ih h; simp [Lib.lens] at this ⊢; omega
  omega

section
variable {w : World} {t B : Nat} {A : List (Bs × Int)} {nd : Pth → Option Nd} {own : Nat → Option (Pth × Nat)} {n : Nd} {K : Nat}

theorem tid_grown {nd' : Pth → Option Nd} {S : Pth → Int → Bool} {p : Pth} {i : Int} {w' : World} {own' : Nat → Option (Pth × Nat)} {K' : Nat} (g' : G w' nd' own' (add S p i) K') (ht : Tid nd S []) (hgr : ∀ q, nd q ≠ none → nd' q ≠ none)
    (hne : ∀ q, nd q = none → nd' q ≠ none → ∃ k, 0 < k ∧ k ≤ p.length ∧ q = p.take k) (hp : nd' p ≠ none) : Tid nd' (add S p i) [] := by
  intro l r hq hB
  simp only [List.nil_append] at hq hB
  by_cases h0 : nd (l :: r) = none
  · obtain ⟨k, h1, h2, h3⟩ := hne _ h0 hq
    by_cases hk : k = p.length
    · rw [hk, List.take_length] at h3
      have := hB.1 i
      rw [h3] at this
      simp [add] at this
    · have hk' : k < p.length := by omega
      have h4 := hB.2 p[k]
      rw [h3] at h4
      have h5 : p.take k ++ [p[k]] = p.take (k + 1) := List.take_append_getElem hk'
      rw [h5] at h4
      have := g'.gone (p.drop (k + 1)) _ h4
      rw [List.take_append_drop] at this
      exact hp this
  · refine ht l r (by simpa using h0) ⟨fun j => ?_, fun k => ?_⟩
    · have := hB.1 j
      simp only [add, Bool.or_eq_false_iff] at this
      simpa using this.2
    · cases h6 : nd ([] ++ l :: r ++ [k]) with
      | none => rfl
      | some m => exact absurd (hB.2 k) (hgr _ (by simp at h6; rw [show l :: r ++ [k] = l :: (r ++ [k]) from rfl, h6]; simp))

theorem startOf_no (h : TrieAt w t B A nd own n K) (f : ByteArray) (hf : f.size ≤ 9223372036854775807) (hT : Tabs w) (hF : isFilter (tl f) = false) :
    Calls Tryz.prog 23 #[.pointer (some ⟨t, 0, none⟩), .string f] w fun e w' => e = .returned (.tuple #[.agg #[.pointer none, .slice none 0 0], .bool false]) ∧ Below w.heap.size w w' :=
  (startOf_any h f hf hT).mono fun e w1 ⟨h1, h2⟩ => by
    rw [hF] at h2
    rcases h2 with ⟨_, h2⟩ | ⟨h2, _⟩
    · exact ⟨h2, h1⟩
    · cases h2
theorem startOf_yes (h : TrieAt w t B A nd own n K) (f : ByteArray) (hf : f.size ≤ 9223372036854775807) (hT : Tabs w) (hF : isFilter (tl f) = true) :
    Calls Tryz.prog 23 #[.pointer (some ⟨t, 0, none⟩), .string f] w fun e w' => ∃ b o c, e = .returned (.tuple #[.agg #[.pointer (some ⟨n.a, 0, none⟩), .slice (some ⟨b, o, none⟩) (lvs (tl f)).length c], .bool true]) ∧
      LeftAt w' (.slice (some ⟨b, o, none⟩) (lvs (tl f)).length c) (lvs (tl f)) ∧ w.heap.size ≤ b ∧ Below w.heap.size w w' :=
  (startOf_any h f hf hT).mono fun e w1 ⟨h1, h2⟩ => by
    rw [hF] at h2
    rcases h2 with ⟨h2, _⟩ | ⟨_, b, o, c, h3, h4, h5⟩
    · cases h2
    · exact ⟨b, o, c, h3, h4, h5, h1⟩

/-- Behind other blocks of the tree being written. -/
theorem TrieAt.turn (h : TrieAt w t B A nd own n K) {w' : World} {A' : List (Bs × Int)} {nd' : Pth → Option Nd} {own' : Nat → Option (Pth × Nat)} {K' : Nat} (g' : G w' nd' own' (Sof A') K') (hr : (nd' []).map Nd.a = (nd []).map Nd.a) (ht : Tid nd' (Sof A') []) (hgo : Gro w own own') (hB : But (Bl own) w w') (hs : Subs A') (hBw : B ≤ w.heap.size) (hdp : ∀ q, nd' q ≠ none → q.length ≤ 65536) :
    ∃ n', TrieAt w' t B A' nd' own' n' K' := by
  rw [h.root] at hr
  obtain ⟨n', hn'⟩ : ∃ n', nd' [] = some n' := by cases h1 : nd' [] with | none => rw [h1] at hr; cases hr | some n' => exact ⟨n', rfl⟩
  have ha : n'.a = n.a := by rw [hn'] at hr; simpa using hr
  have htl := (Array.getElem?_eq_some_iff.1 h.cell).1
  refine ⟨n', ⟨by rw [ha]; exact hB.at h.cell (fun c => c h.ot), hn', g', ht, ?_, fun k hk => ?_, h.bt, hs, hdp⟩⟩
  · cases ho : own' t with
    | none => rfl
    | some z =>
      rcases hgo t (by show own' t ≠ none; rw [ho]; simp) with h1 | h1
      · exact absurd h.ot h1
      · omega
  · rcases hgo k hk with h1 | h1
    · exact h.bas k h1
    · omega

set_option maxRecDepth 100000 in
set_option maxHeartbeats 2000000 in
theorem add_any (h : TrieAt w t B A nd own n K) (hBw : B ≤ w.heap.size) (f : ByteArray) (hf : f.size ≤ 9223372036854775807) (hT : Tabs w) (i : Int) (hi : (Lit.int .i64 i).wf = true) (hK : K + 65537 < maxLen) :
    Calls Tryz.prog 8 #[.pointer (some ⟨t, 0, none⟩), .string f, .int .i64 i] w fun e w' => e = .returned (.bool (isFilter (tl f) && !Sof A (lvs (tl f)) i)) ∧
      (∃ nd' own' n', TrieAt w' t B (addA A (tl f) i) nd' own' n' (K + 65537) ∧ Gro w own own') ∧ But (Bl own) w w' := by
  cases hF : isFilter (tl f) with
  | false =>
    have hst := startOf_no h f hf hT hF
    go_enter Tryz.func8, Tryz.ntmps8
    go_wp2_with (first
      | (go_at_call 23; refine hst.mono ?_; rintro e w1 ⟨rfl, hb1⟩))
    go_ret
    have hB : Below w.heap.size w (w1.alloc (.cells #[.pointer none, .slice none 0 0] 51)) := hb1.alloc hb1.size _
    have e : addA A (tl f) i = A := if_neg (fun hc => by rw [hF] at hc; exact absurd hc.1 (by simp))
    rw [e]
    have h1 := h.below hB
    exact ⟨rfl, ⟨nd, own, n, { h1 with g := h1.g.mono (by omega) }, Gro.refl _ _⟩, But.of_below hB⟩
  | true =>
    have hst := Lib.hid (startOf_yes h f hf hT hF)
    obtain ⟨hs1, hs2⟩ := lvs_short hF
    have KG : Hid (∀ W b o c, Below w.heap.size w W → LeftAt W (.slice (some ⟨b, o, none⟩) (lvs (tl f)).length c) (lvs (tl f)) → w.heap.size ≤ b → Calls Tryz.prog 24 #[.agg #[.pointer (some ⟨n.a, 0, none⟩), .slice (some ⟨b, o, none⟩) (lvs (tl f)).length c]] W fun e w' => ∃ nd' own' m, e = .returned (.pointer (some ⟨m.a, 0, none⟩)) ∧ nd' (lvs (tl f)) = some m ∧ G w' nd' own' (Sof A) (K + (lvs (tl f)).length) ∧
      Grown nd nd' [] (lvs (tl f)) (lvs (tl f)).length ∧ Gro W own own' ∧ But (Bl own) W w') := fun W b o c hb hl hbw => by
        have := grow_any (h.g.below hb) h.root (lvs (tl f)) (by omega) hs1 _ hl (fun b1 o1 c1 e hk => by cases e; have := h.g.lt b hk; omega)
        simpa only [List.nil_append] using this
    go_enter Tryz.func8, Tryz.ntmps8
    go_wp2_with (first
      | (go_at_call 23; refine hst.out.mono ?_; rintro e w1 ⟨b, o, c, rfl, hla, hbw, hb1⟩)
      | (go_at_call 24; refine (KG.out _ b o c (hb1.alloc hb1.size _) (hla.below (below1 _ _)) hbw).mono ?_; rintro e w2 ⟨nd2, own2, m2, rfl, hm2, g2, hgr2, hgo2, hB2⟩)
      | (go_at_call 25; refine (put_any g2 hm2 (by omega) i hi).mono ?_; rintro e w3 ⟨rfl, nd3, own3, g3, hs3, hgo3, hB3⟩))
    go_ret
    have hB1 : Below w.heap.size w (w1.alloc (.cells #[.pointer (some ⟨n.a, 0, none⟩), .slice (some ⟨b, o, none⟩) (lvs (tl f)).length c] 51)) := hb1.alloc hb1.size _
    have hgo : Gro w own own3 := Gro.trans (w' := w1.alloc (.cells #[.pointer (some ⟨n.a, 0, none⟩), .slice (some ⟨b, o, none⟩) (lvs (tl f)).length c] 51)) (Gro.refl _ _) (hgo2.trans hgo3 hB2.size) hB1.size
    have hBB : But (Bl own) w w3 := ((But.of_below (C := Bl own) hB1).trans hB2 (fun _ _ h => h)).trans hB3 (fun k hk h1 => (hgo2 k h1).resolve_right (fun h2 => by have := hB1.size; have : (w1.alloc (.cells #[.pointer (some ⟨n.a, 0, none⟩), .slice (some ⟨b, o, none⟩) (lvs (tl f)).length c] 51)).heap.size ≤ k := h2; omega))
    have hnn : ∀ q, nd q ≠ none → nd3 q ≠ none := fun q hq h3 => hq (by rw [← map_none (f := Nd.a), ← hgr2.1 q hq, ← hs3 q, h3]; rfl)
    have hp3 : nd3 (lvs (tl f)) ≠ none := fun h3 => by have := hs3 (lvs (tl f)); rw [h3, hm2] at this; cases this
    have ht3 := tid_grown (p := lvs (tl f)) (i := i) g3 h.tid hnn (fun q hq h3 => by
      have h2 : nd2 q ≠ none := fun h2 => h3 (by rw [← map_none (f := Nd.a), hs3 q, h2]; rfl)
      obtain ⟨k, k1, k2, k3, k4⟩ := hgr2.2 q hq h2
      exact ⟨k, k2, k3, by simpa using k4⟩) hp3
    rw [← Sof_addA hF] at g3 ht3
    obtain ⟨n', hn'⟩ := h.turn (g3.mono (K' := K + 65537) (by omega)) (by rw [hs3 [], hgr2.1 [] (by rw [h.root]; simp)]) ht3 hgo hBB (h.subs.add hi) hBw (fun q hq => by
      by_cases h0 : nd q = none
      · have h2 : nd2 q ≠ none := fun h2 => hq (by rw [← map_none (f := Nd.a), hs3 q, h2]; rfl)
        obtain ⟨k, k1, k2, k3, k4⟩ := hgr2.2 q h0 h2
        rw [k4]; simp; omega
      · exact h.dep q h0)
    exact ⟨rfl, ⟨nd3, own3, n', hn', hgo⟩, hBB⟩

set_option maxRecDepth 100000 in
set_option maxHeartbeats 2000000 in
theorem rem_any (h : TrieAt w t B A nd own n K) (hBw : B ≤ w.heap.size) (f : ByteArray) (hf : f.size ≤ 9223372036854775807) (hT : Tabs w) (i : Int) (hi : (Lit.int .i64 i).wf = true) :
    Calls Tryz.prog 10 #[.pointer (some ⟨t, 0, none⟩), .string f, .int .i64 i] w fun e w' => e = .returned (.bool (Sof A (lvs (tl f)) i)) ∧
      (∃ nd' own' n', TrieAt w' t B (remA A (tl f) i) nd' own' n' K ∧ Gro w own own') ∧ But (Bl own) w w' := by
  have hno : isFilter (tl f) = false → (tl f, i) ∉ A := fun hF hm => by have := h.subs.fil _ hm; rw [hF] at this; cases this
  cases hF : isFilter (tl f) with
  | false =>
    have hst := startOf_no h f hf hT hF
    go_enter Tryz.func10, Tryz.ntmps10
    go_wp2_with (first
      | (go_at_call 23; refine hst.mono ?_; rintro e w1 ⟨rfl, hb1⟩))
    go_ret
    have hB : Below w.heap.size w (w1.alloc (.cells #[.pointer none, .slice none 0 0] 51)) := hb1.alloc hb1.size _
    have e : remA A (tl f) i = A := List.erase_of_not_mem (hno hF)
    have e2 : Sof A (lvs (tl f)) i = false := by
      cases h1 : Sof A (lvs (tl f)) i with
      | false => rfl
      | true => exact absurd (Sof_lvs.1 h1) (hno hF)
    rw [e, e2]
    exact ⟨rfl, ⟨nd, own, n, h.below hB, Gro.refl _ _⟩, But.of_below hB⟩
  | true =>
    have hst := Lib.hid (startOf_yes h f hf hT hF)
    obtain ⟨hs1, hs2⟩ := lvs_short hF
    have KG : Hid (∀ W b o c, Below w.heap.size w W → LeftAt W (.slice (some ⟨b, o, none⟩) (lvs (tl f)).length c) (lvs (tl f)) → w.heap.size ≤ b → Calls Tryz.prog 28 #[.agg #[.pointer (some ⟨n.a, 0, none⟩), .slice (some ⟨b, o, none⟩) (lvs (tl f)).length c], .int .i64 i] W fun e w' => e = .returned (.bool (Sof A (lvs (tl f)) i)) ∧ ∃ nd' own', G w' nd' own' (sub (Sof A) (lvs (tl f)) i) K ∧ Rem nd nd' (sub (Sof A) (lvs (tl f)) i) [] ∧ Gro W own own' ∧ But (Bl own) W w') := fun W b o c hb hl hbw => by
        have := remove_any i hi (Sof A) K (lvs (tl f)) [] W nd own n _ (h.g.below hb) h.root hl (fun b1 o1 c1 e hk => by cases e; have := h.g.lt b hk; omega) hs1 h.tid
        simpa only [List.nil_append] using this
    go_enter Tryz.func10, Tryz.ntmps10
    go_wp2_with (first
      | (go_at_call 23; refine hst.out.mono ?_; rintro e w1 ⟨b, o, c, rfl, hla, hbw, hb1⟩)
      | (go_at_call 28; refine (KG.out _ b o c (hb1.alloc hb1.size _) (hla.below (below1 _ _)) hbw).mono ?_; rintro e w2 ⟨rfl, nd2, own2, g2, hr2, hgo2, hB2⟩))
    go_ret
    have hB1 : Below w.heap.size w (w1.alloc (.cells #[.pointer (some ⟨n.a, 0, none⟩), .slice (some ⟨b, o, none⟩) (lvs (tl f)).length c] 51)) := hb1.alloc hb1.size _
    have hgo : Gro w own own2 := Gro.trans (w' := w1.alloc (.cells #[.pointer (some ⟨n.a, 0, none⟩), .slice (some ⟨b, o, none⟩) (lvs (tl f)).length c] 51)) (Gro.refl _ _) hgo2 hB1.size
    have hBB : But (Bl own) w w2 := (But.of_below (C := Bl own) hB1).trans hB2 (fun _ _ h => h)
    have ht2 := hr2.tid
    rw [← Sof_sub (mem_remA h.subs)] at g2 ht2
    obtain ⟨n', hn'⟩ := h.turn g2 (hr2.out [] (fun ⟨l, r, e⟩ => by cases e)) ht2 hgo hBB h.subs.rem hBw (fun q hq => h.dep q (fun h0 => hq (by rw [← map_none (f := Nd.a), hr2.kept q hq, h0]; rfl)))
    exact ⟨rfl, ⟨nd2, own2, n', hn', hgo⟩, hBB⟩

/-- Below each node there is a subscription. -/
theorem TrieAt.hasSub (h : TrieAt w t B A nd own n K) : ∀ (d : Nat) (q : Pth), q.length + d = 65537 → q ≠ [] → nd q ≠ none → ∃ r i, Sof A (q ++ r) i = true
  | 0, q, hd, _, hq => absurd (h.dep q hq) (by omega)
  | d + 1, q, hd, hne, hq => by
    obtain ⟨l, r, rfl⟩ : ∃ l r, q = l :: r := by cases q with | nil => exact absurd rfl hne | cons l r => exact ⟨l, r, rfl⟩
    have ht := h.tid l r (by simpa using hq)
    simp only [List.nil_append] at ht
    by_cases hS : ∃ i, Sof A (l :: r) i = true
    · obtain ⟨i, hi⟩ := hS; exact ⟨[], i, by simpa using hi⟩
    · obtain ⟨l', hl'⟩ : ∃ l', nd (l :: r ++ [l']) ≠ none := Classical.byContradiction fun hc => ht ⟨fun i => by
          cases hi : Sof A (l :: r) i with
          | false => rfl
          | true => exact absurd ⟨i, hi⟩ hS, fun l' => by
          cases hl : nd (l :: r ++ [l']) with
          | none => rfl
          | some m => exact absurd ⟨l', by rw [hl]; simp⟩ hc⟩
      obtain ⟨r', i, h3⟩ := TrieAt.hasSub h d (l :: r ++ [l']) (by simp at hd ⊢; omega) (by simp) hl'
      exact ⟨l' :: r', i, by simpa using h3⟩
/-- The tree's nodes but the root: the beginnings of the filters. -/
theorem TrieAt.node_iff (h : TrieAt w t B A nd own n K) (q : Pth) (hne : q ≠ []) : nd q ≠ none ↔ ∃ e ∈ A, q <+: lvs e.1 := by
  constructor
  · intro hq
    obtain ⟨r, i, h1⟩ := h.hasSub (65537 - q.length) q (by have := h.dep q hq; omega) hne hq
    obtain ⟨f, h2, h3⟩ := Sof_iff.1 h1
    exact ⟨(f, i), h2, r, h3.symm⟩
  · rintro ⟨⟨f, i⟩, h1, r, h2⟩ hq
    have := h.g.non _ i (h.g.gone r q hq)
    simp only at h2
    rw [h2, Sof_lvs.2 h1] at this
    cases this
end
end Go.Proofs.YtcnglhlljmfanaaGreatDoor
