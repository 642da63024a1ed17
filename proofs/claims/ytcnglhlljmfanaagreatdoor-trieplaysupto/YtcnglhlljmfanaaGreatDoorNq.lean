/- act, the calls that ask: Match, Under, all that asks for no text, and none; what is asked of the world: the two tables of unicode/utf8 as their text lays them. -/
import Derived.Test.YtcnglhlljmfanaaGreatDoorNp
namespace Go.Proofs.YtcnglhlljmfanaaGreatDoor
open Go.RowKit Tp Go.Maps Go.Shelf

section
variable {w0 W : World} {t lb : Nat} {A : List (Bs × Int)} {K : Nat}

theorem TL.has {L : List (Bs × Int)} (h : TL w0 W t lb A L K) : Has w0 W t A K := by obtain ⟨q1, nd, own, n, v, q2, _⟩ := h; exact ⟨q1, nd, own, n, q2⟩
theorem subs_len {e : Bs × Int} (h : Subs A) (he : e ∈ A) : e.1.length ≤ 65535 := by
  have hfil := h.fil e he
  simp only [isFilter, okText, Bool.and_eq_true, decide_eq_true_eq] at hfil; exact hfil.1.1.1.2
theorem match_eq (hS : Subs A) {n : Bs} {l l' : List Int} (h1 : Rise l) (h2 : ∀ i, i ∈ l ↔ (isName n = true ∧ hears (Sof A) n i = true)) (h3 : Rise l') (h4 : ∀ i, i ∈ l' ↔ ∃ f, (f, i) ∈ A ∧ matchesR f n = true) : l = l' :=
  h1.ext h3 fun i => by
    rw [h2 i, h4 i]
    constructor
    · rintro ⟨a, b⟩; exact (hears_iff hS a i).1 b
    · rintro ⟨f, h5, h6⟩
      have hn : isName n = true := by unfold matchesR at h6; simp only [Bool.and_eq_true] at h6; exact h6.1.1.2
      exact ⟨hn, (hears_iff hS hn i).2 ⟨f, h5, h6⟩⟩

set_option maxRecDepth 100000 in
set_option maxHeartbeats 4000000 in
theorem act_match (h : TL w0 W t lb A A K) (hT : Tabs w0) (s : ByteArray) (i : Int) (sz : s.size ≤ 9223372036854775807) (hK : A.length + K < maxLen) (hA : A.length ≤ 1048576) :
    Calls Tryz.prog 5 #[.pointer (some ⟨t, 0, none⟩), .pointer (some ⟨lb, 0, none⟩), .agg #[.int .i64 3, .string s, .int .i64 i]] W fun e w' => e = .returned (.bool true) ∧ TL w0 w' t lb A A K := by
  have hS := h.subs
  have ha : ActAt (W.alloc (.cells #[.int .i64 3, .string s, .int .i64 i] 31)) W.heap.size (3, s, i) := heap_alloc_new W _
  have H1 := h.below (below1 W (.cells #[.int .i64 3, .string s, .int .i64 i] 31))
  generalize hW1 : W.alloc (.cells #[.int .i64 3, .string s, .int .i64 i] 31) = W1 at ha H1
  have XC : Hid (∀ W', Below W1.heap.size W1 W' → W'.cell? ⟨W.heap.size, 0, none⟩ = some (.int .i64 3) ∧ W'.cell? ⟨W.heap.size, 1, none⟩ = some (.string s)) := fun W' hB => ⟨(ha.below hB).c.1, (ha.below hB).c.2.1⟩
  have KM : Hid (∀ W', Below W1.heap.size W1 W' → Calls Tryz.prog 12 #[.pointer (some ⟨t, 0, none⟩), .string s] W' fun e w' => ∃ a c l, e = .returned (.slice a l.length c) ∧ (Rise l ∧ ∀ i, i ∈ l ↔ (isName (tl s) = true ∧ hears (Sof A) (tl s) i = true)) ∧ l.length ≤ A.length ∧ IntsAt w' W1.heap.size (.slice a l.length c) l ∧ Below W1.heap.size W1 w') := fun W' hB =>
    (has_match (H1.has.below hB) hT s sz hK (by omega)).mono fun e w' ⟨v, l, q1, q2, q3, q4, q5, q6⟩ => by
      obtain ⟨a, c, rfl⟩ : ∃ a c, v = .slice a l.length c := by
        obtain ⟨_, ⟨rfl, q⟩ | ⟨g, c, cur, rfl, _⟩⟩ := q5
        · exact ⟨none, 0, by rw [q]⟩
        · exact ⟨_, _, rfl⟩
      exact ⟨a, c, l, q1, ⟨q2, q3⟩, q4, row_lower q5 hB.size, hB.trans (q6.mono hB.size)⟩
  have KL : Hid (∀ W', Below W1.heap.size W1 W' → Calls Tryz.prog 14 #[.pointer (some ⟨lb, 0, none⟩), .string s] W' fun e w' => ∃ a c l, e = .returned (.slice a l.length c) ∧ (Rise l ∧ ∀ i, i ∈ l ↔ ∃ f, (f, i) ∈ A ∧ matchesR f (tl s) = true) ∧ IntRow w' (.slice a l.length c) l ∧ Below W'.heap.size W' w' ∧ Below W1.heap.size W1 w') := fun W' hB => by
    obtain ⟨_, nd, own, n, v, h2, h3, _⟩ := id H1
    exact (lmatch_any (h3.below hB) s sz (fun e he => subs_len hS he) (hT.from (Nat.le_refl _) ((H1.below hB).1)) (by omega)).mono fun e w' ⟨a, c, l, q1, q2, q3, q4, q5, q6⟩ => ⟨a, c, l, q1, ⟨q2, q3⟩, IntsAt.row q5, q6, hB.trans (q6.mono hB.size)⟩
  have KSm := Lib.hid same_any
  have HE : Hid (∀ l l' : List Int, (Rise l ∧ ∀ i, i ∈ l ↔ (isName (tl s) = true ∧ hears (Sof A) (tl s) i = true)) → (Rise l' ∧ ∀ i, i ∈ l' ↔ ∃ f, (f, i) ∈ A ∧ matchesR f (tl s) = true) → l = l') := fun l l' a b => match_eq hS a.1 a.2 b.1 b.2
  obtain ⟨x0, x1⟩ := XC.out _ (Below.refl _ _)
  have HT1 : Hid (TL w0 W1 t lb A A K) := H1
  have hb1 := Below.refl W1.heap.size W1
  clear h H1 ha
  go_enter Tryz.func5, Tryz.ntmps5
  go_wp2_with (first
    | (go_at_call 12; refine (KM.out _ hb1).mono ?_; rintro e w2 ⟨a2, c2, l2, rfl, e2, n2, t2, h2⟩; obtain ⟨y0, y1⟩ := XC.out _ h2; have T2 := Lib.hid t2; clear t2)
    | (go_at_call 14; refine (KL.out _ h2).mono ?_; rintro e w3 ⟨a3, c3, l3, rfl, e3, t3, h3, h3'⟩; have E := Lib.hid (HE.out _ _ e2 e3); clear e2 e3; have T3 := Lib.hid t3; clear t3)
    | (go_at_call 13; refine (KSm.out _ _ l2 l3 _ ((IntsAt.row T2.out).below h3) T3.out (by omega)).mono ?_; rintro e w4 ⟨rfl, q4⟩; rw [decide_eq_true E.out]; have h4 := h3'.trans (q4.mono h3'.size); have h24 := h3.trans (q4.mono h3.size)))
  have R4 : Hid (l2.length = 0 ∨ ∃ g cur, a2 = some ⟨g, 0, none⟩ ∧ W1.heap.size ≤ g ∧ w4.heap[g]? = some (.cells cur 3 (0, 0)) ∧ l2.length ≤ cur.size) := by
    obtain ⟨_, ⟨_, q⟩ | ⟨g, c, cur, q1, q2, q3, q4, q5, q6, q7⟩⟩ := T2.out
    · exact .inl q
    · simp only [Value.slice.injEq, true_and] at q1
      obtain ⟨rfl, rfl⟩ := q1
      exact .inr ⟨g, cur, rfl, q2, (h24.block g (Array.getElem?_eq_some_iff.1 q3).1).trans q3, by omega⟩
  clear T2 T3 E
  go_loopg [9] l2.length (fun gk s9 wx => ∃ j : Nat, j + gk = l2.length ∧ s9 = .int .i64 j ∧ Below W1.heap.size W1 wx ∧ (l2.length = 0 ∨ ∃ g cur, a2 = some ⟨g, 0, none⟩ ∧ W1.heap.size ≤ g ∧ wx.heap[g]? = some (.cells cur 3 (0, 0)) ∧ l2.length ≤ cur.size))
  case atStart => exact ⟨0, by omega, rfl, h4, R4.out⟩
  case round =>
    obtain ⟨j, hjg, rfl, hB, hR⟩ := hrel
    cases gk with
    | zero =>
      obtain rfl : j = l2.length := by omega
      clear hR
      go_wp2
      go_ret
      exact ⟨rfl, HT1.out.below hB⟩
    | succ gq =>
      have hj : j < l2.length := by omega
      have hj' : ((j : Nat) : Int) < (l2.length : Int) := by omega
      obtain ⟨g, cur, rfl, r1, r2, r3⟩ := hR.resolve_left (by omega)
      have y : wr.cell? ⟨g, j, none⟩ = some (cur[j]'(by omega)) := by rw [cell_at r2 j]; exact Array.getElem?_eq_getElem (by omega)
      have yf := frozen_at r2 j
      have R2 := Lib.hid r2
      generalize cur[j]'(by omega) = u at y
      clear r2 R4
      go_wp2
      go_roundg gq
      case measure => omega
      case rel =>
        refine ⟨j + 1, by omega, by first | rfl | rw [wrap64_nat (by omega)] | simp, hB.setCell (p := ⟨g, j, none⟩) r1 _, .inr ⟨g, _, rfl, r1, block_set (i := j) R2.out _, ?_⟩⟩
        rw [Array.size_setIfInBounds]; exact r3

set_option maxRecDepth 100000 in
set_option maxHeartbeats 4000000 in
theorem act_under (h : TL w0 W t lb A A K) (hT : Tabs w0) (s : ByteArray) (i : Int) (sz : s.size ≤ 9223372036854775807) (hK8 : K * 8 ≤ 140737488355328) (hA : A.length ≤ 1048576) :
    Calls Tryz.prog 5 #[.pointer (some ⟨t, 0, none⟩), .pointer (some ⟨lb, 0, none⟩), .agg #[.int .i64 4, .string s, .int .i64 i]] W fun e w' => e = .returned (.bool true) ∧ TL w0 w' t lb A A K := by
  have hS := h.subs
  have ha : ActAt (W.alloc (.cells #[.int .i64 4, .string s, .int .i64 i] 31)) W.heap.size (4, s, i) := heap_alloc_new W _
  have H1 := h.below (below1 W (.cells #[.int .i64 4, .string s, .int .i64 i] 31))
  generalize hW1 : W.alloc (.cells #[.int .i64 4, .string s, .int .i64 i] 31) = W1 at ha H1
  have XC : Hid (∀ W', Below W1.heap.size W1 W' → W'.cell? ⟨W.heap.size, 0, none⟩ = some (.int .i64 4) ∧ W'.cell? ⟨W.heap.size, 1, none⟩ = some (.string s)) := fun W' hB => ⟨(ha.below hB).c.1, (ha.below hB).c.2.1⟩
  have KM : Hid (∀ W', Below W1.heap.size W1 W' → Calls Tryz.prog 15 #[.pointer (some ⟨t, 0, none⟩), .string s] W' fun e w' => ∃ a c l, e = .returned (.slice a l.length c) ∧ (Rise l ∧ ∀ i, i ∈ l ↔ (tl s, i) ∈ A) ∧ l.length ≤ A.length ∧ IntRow w' (.slice a l.length c) l ∧ Below W1.heap.size W1 w') := fun W' hB => by
    obtain ⟨qb, nd, own, n, v, h2, h3, _⟩ := H1.below hB
    have hTw := hT.from (Nat.le_refl _) qb
    cases hF : isFilter (tl s) with
    | true =>
      exact (under_yes h2 s sz hTw hF hK8).mono fun e w' ⟨a, c, l, q1, q2, q3, q4, q5⟩ => ⟨a, c, l, q1, ⟨q2, fun i => by rw [q3 i, Sof_lvs]⟩, irise_len q2 (fun i hi => ⟨tl s, Sof_lvs.1 ((q3 i).1 hi)⟩), IntsAt.row q4, hB.trans (q5.mono hB.size)⟩
    | false =>
      exact (under_no h2 s sz hTw hF).mono fun e w' ⟨q1, q2⟩ => ⟨none, 0, [], q1, ⟨List.Pairwise.nil, fun i => ⟨(fun h => by cases h), (fun h => by have := hS.fil _ h; rw [hF] at this; cases this)⟩⟩, Nat.zero_le _, .inl ⟨rfl, rfl⟩, hB.trans (q2.mono hB.size)⟩
  have KL : Hid (∀ W', Below W1.heap.size W1 W' → Calls Tryz.prog 16 #[.pointer (some ⟨lb, 0, none⟩), .string s] W' fun e w' => ∃ a c l, e = .returned (.slice a l.length c) ∧ (Rise l ∧ ∀ i, i ∈ l ↔ (tl s, i) ∈ A) ∧ IntRow w' (.slice a l.length c) l ∧ Below W'.heap.size W' w' ∧ Below W1.heap.size W1 w') := fun W' hB => by
    obtain ⟨_, nd, own, n, v, h2, h3, _⟩ := id H1
    have := lunder_any (h3.below hB) (tl s) (by omega)
    rw [bs_tl] at this
    exact this.mono fun e w' ⟨a, c, l, q1, q2, q3, q4, q5, q6⟩ => ⟨a, c, l, q1, ⟨q2, q3⟩, IntsAt.row q5, q6, hB.trans (q6.mono hB.size)⟩
  have KSm := Lib.hid same_any
  have HE : Hid (∀ l l' : List Int, (Rise l ∧ ∀ i, i ∈ l ↔ (tl s, i) ∈ A) → (Rise l' ∧ ∀ i, i ∈ l' ↔ (tl s, i) ∈ A) → l = l') := fun l l' a b => a.1.ext b.1 fun i => by rw [a.2 i, b.2 i]
  obtain ⟨x0, x1⟩ := XC.out _ (Below.refl _ _)
  have KM1 := Lib.hid (KM.out _ (Below.drew (Below.refl W1.heap.size W1)))
  have HT1 : Hid (TL w0 W1 t lb A A K) := H1
  clear h H1 ha KM
  go_enter Tryz.func5, Tryz.ntmps5
  go_wp2_with fail
  go_region_held3 (fun W' => W'.cell? ⟨W.heap.size, 1, none⟩ = some (.string s)) (first | with_reducible assumption | exact x1) (first
    | (go_at_call 15; refine KM1.out.mono ?_; rintro e w2 ⟨a2, c2, l2, rfl, e2, n2, t2, h2⟩; obtain ⟨y0, y1⟩ := XC.out _ h2; have T2 := Lib.hid t2; clear t2)
    | (go_at_call 16; refine (KL.out _ h2).mono ?_; rintro e w3 ⟨a3, c3, l3, rfl, e3, t3, h3, h3'⟩; have E := Lib.hid (HE.out _ _ e2 e3); clear e2 e3; have T3 := Lib.hid t3; clear t3; have z1 := (XC.out _ h3').2)
    | (go_at_call 13; refine (KSm.out _ _ l2 l3 _ (T2.out.below h3) T3.out (by omega)).mono ?_; rintro e w4 ⟨rfl, q4⟩; rw [decide_eq_true E.out]; have h4 := h3'.trans (q4.mono h3'.size); have z2 := (XC.out _ h4).2))
  go_wp2
  go_ret
  exact ⟨rfl, HT1.out.below h4⟩

set_option maxRecDepth 100000 in
set_option maxHeartbeats 4000000 in
theorem act_all (h : TL w0 W t lb A A K) (s : ByteArray) (i : Int) (hA : A.length ≤ 1048576) :
    Calls Tryz.prog 5 #[.pointer (some ⟨t, 0, none⟩), .pointer (some ⟨lb, 0, none⟩), .agg #[.int .i64 5, .string s, .int .i64 i]] W fun e w' => e = .returned (.bool true) ∧ TL w0 w' t lb A A K := by
  have ha : ActAt (W.alloc (.cells #[.int .i64 5, .string s, .int .i64 i] 31)) W.heap.size (5, s, i) := heap_alloc_new W _
  have x0 := ha.c.1
  have H1 := h.below (below1 W (.cells #[.int .i64 5, .string s, .int .i64 i] 31))
  have KW := Lib.hid (whole_any H1 (Same.refl A) hA)
  have HT1 := Lib.hid H1
  clear h H1 ha
  go_enter Tryz.func5, Tryz.ntmps5
  go_wp2_with (first
    | (go_at_call 6; refine KW.out.mono ?_; rintro e w2 ⟨rfl, h2⟩))
  go_ret
  exact ⟨rfl, HT1.out.below h2⟩

set_option maxRecDepth 100000 in
set_option maxHeartbeats 4000000 in
theorem act_none (h : TL w0 W t lb A A K) (k : Int) (s : ByteArray) (i : Int) (k1 : k ≠ 1) (k2 : k ≠ 2) (k3 : k ≠ 3) (k4 : k ≠ 4) (k5 : k ≠ 5) :
    Calls Tryz.prog 5 #[.pointer (some ⟨t, 0, none⟩), .pointer (some ⟨lb, 0, none⟩), .agg #[.int .i64 k, .string s, .int .i64 i]] W fun e w' => e = .returned (.bool true) ∧ TL w0 w' t lb A A K := by
  have ha : ActAt (W.alloc (.cells #[.int .i64 k, .string s, .int .i64 i] 31)) W.heap.size (k, s, i) := heap_alloc_new W _
  have x0 := ha.c.1
  have HT1 := Lib.hid (h.below (below1 W (.cells #[.int .i64 k, .string s, .int .i64 i] 31)))
  clear h ha
  have e1 : (k == 1) = false := by simpa using k1
  have e2 : (k == 2) = false := by simpa using k2
  have e3 : (k == 3) = false := by simpa using k3
  have e4 : (k == 4) = false := by simpa using k4
  have e5 : (k == 5) = false := by simpa using k5
  clear k1 k2 k3 k4 k5
  go_enter Tryz.func5, Tryz.ntmps5
  go_wp2
  go_ret
  exact ⟨rfl, HT1.out⟩

theorem act_any (h : TL w0 W t lb A A K) (hT : Tabs w0) (x : Ac) (sz : x.2.1.size ≤ 9223372036854775807) (wf : (Lit.int .i64 x.2.2).wf = true) (hK8 : (K + 65537) * 8 ≤ 140737488355328) (hA : A.length ≤ 1048576) :
    Calls Tryz.prog 5 #[.pointer (some ⟨t, 0, none⟩), .pointer (some ⟨lb, 0, none⟩), .agg #[.int .i64 x.1, .string x.2.1, .int .i64 x.2.2]] W fun e w' => e = .returned (.bool true) ∧ TL w0 w' t lb (stepA A x) (stepA A x) (K + 65537) := by
  obtain ⟨k, s, i⟩ := x
  unfold stepA
  simp only at sz wf ⊢
  have up : ∀ {e : Ending} {w' : World} {B : List (Bs × Int)} {v : Ending}, (e = v ∧ TL w0 w' t lb B B K) → (e = v ∧ TL w0 w' t lb B B (K + 65537)) := fun ⟨q1, q2⟩ => ⟨q1, q2.mono (by omega)⟩
  by_cases h1 : k = 1
  · subst h1; rw [if_pos rfl]; exact act_add h hT s i sz wf (by unfold maxLen; omega) hA
  · rw [if_neg h1]
    by_cases h2 : k = 2
    · subst h2; rw [if_pos rfl]; exact (act_rem h hT s i sz wf hA).mono fun e w' q => up q
    · rw [if_neg h2]
      by_cases h3 : k = 3
      · subst h3; exact (act_match h hT s i sz (by unfold maxLen; omega) hA).mono fun e w' q => up q
      · by_cases h4 : k = 4
        · subst h4; exact (act_under h hT s i sz (by omega) hA).mono fun e w' q => up q
        · by_cases h5 : k = 5
          · subst h5; exact (act_all h s i hA).mono fun e w' q => up q
          · exact (act_none h k s i h1 h2 h3 h4 h5).mono fun e w' q => up q
end
end Go.Proofs.YtcnglhlljmfanaaGreatDoor
