/- The laws' own check (awake): the chapter's first example; what is asked of the world: the two tables of unicode/utf8 as their text lays them. -/
import Derived.Test.YtcnglhlljmfanaaGreatDoorKr
namespace Go.Proofs.YtcnglhlljmfanaaGreatDoor
open Go.RowKit Tp Go.Maps Go.Shelf

/-- A row of numbers in memory. -/
def IntRow (W : World) (v : Value) (l : List Int) : Prop := (v = .slice none 0 0 ∧ l = []) ∨ ∃ g o c, v = .slice (some ⟨g, o, none⟩) l.length c ∧ g < W.heap.size ∧ ∀ j x, l[j]? = some x → W.cell? ⟨g, o + j, none⟩ = some (.int .i64 x)
theorem IntRow.but {W W' : World} {v : Value} {l : List Int} (h : IntRow W v l) {C : Nat → Prop} (hB : But C W W') (hC : ∀ g, v.ownBlock = some g → ¬ C g) : IntRow W' v l := by
  rcases h with h | ⟨g, o, c, rfl, h1, h2⟩
  · exact .inl h
  · refine .inr ⟨g, o, c, rfl, Nat.lt_of_lt_of_le h1 hB.size, fun j x hj => ?_⟩
    have := h2 j x hj
    unfold World.cell? at this ⊢
    rw [hB.block g h1 (hC g rfl)]; exact this
theorem IntRow.below {W W' : World} {v : Value} {l : List Int} (h : IntRow W v l) (hB : Below W.heap.size W W') : IntRow W' v l := h.but (But.of_below (C := fun _ => False) hB) (fun _ _ h => h)
theorem IntsAt.row {W : World} {B : Nat} {v : Value} {l : List Int} (h : IntsAt W B v l) : IntRow W v l := by
  obtain ⟨h1, ⟨rfl, h2⟩ | ⟨g, c, cur, rfl, h3, h4, h5, h6, h7, h8⟩⟩ := h
  · exact .inl ⟨rfl, List.eq_nil_of_length_eq_zero h2⟩
  · refine .inr ⟨g, 0, c, rfl, (Array.getElem?_eq_some_iff.1 h4).1, fun j x hj => ?_⟩
    rw [Nat.zero_add, cell_at h4 j]
    have hjl : j < l.length := (List.getElem?_eq_some_iff.1 hj).1
    have : (cur.toList.take (l.length * 1))[j]? = (l.map (Value.int .i64))[j]? := by rw [h8]
    rw [List.getElem?_take_of_lt (by omega), List.getElem?_map, hj] at this
    simpa using this

set_option maxRecDepth 100000 in
set_option maxHeartbeats 2000000 in
theorem same_any (v1 v2 : Value) (l1 l2 : List Int) (w : World) (h1 : IntRow w v1 l1) (h2 : IntRow w v2 l2) (hl : l1.length < 4611686018427387904) :
    Calls Tryz.prog 13 #[v1, v2] w fun e w' => e = .returned (.bool (decide (l1 = l2))) ∧ Below w.heap.size w w' := by
  have s1 : ∃ a c, v1 = .slice a l1.length c := by rcases h1 with ⟨rfl, rfl⟩ | ⟨g, o, c, rfl, _⟩ <;> exact ⟨_, _, rfl⟩
  have s2 : ∃ a c, v2 = .slice a l2.length c := by rcases h2 with ⟨rfl, rfl⟩ | ⟨g, o, c, rfl, _⟩ <;> exact ⟨_, _, rfl⟩
  obtain ⟨a1, c1, rfl⟩ := s1
  obtain ⟨a2, c2, rfl⟩ := s2
  by_cases hle : l1.length = l2.length
  · have e0 : (((l1.length : Nat) : Int) != (l2.length : Int)) = false := by simp [hle]
    go_enter Tryz.func13, Tryz.ntmps13
    go_wp2
    go_loopg [5] l1.length (fun gk s5 wx => ∃ j : Nat, j + gk = l1.length ∧ s5 = .int .i64 j ∧ l1.take j = l2.take j ∧ Below w.heap.size w wx)
    case atStart => exact ⟨0, by omega, rfl, rfl, Below.refl _ _⟩
    case round =>
      obtain ⟨j, hjg, rfl, htk, hB⟩ := hrel
      have k1 := h1.below hB
      have k2 := h2.below hB
      cases gk with
      | zero =>
        obtain rfl : j = l1.length := by omega
        go_wp2
        go_ret
        refine ⟨?_, hB⟩
        have e : l1 = l2 := by rw [List.take_length, hle, List.take_length] at htk; exact htk
        rw [decide_eq_true e]; rfl
      | succ gq =>
        have hj : j < l1.length := by omega
        have hj2 : j < l2.length := by omega
        obtain ⟨g1, o1, d1, e1, hg1, f1⟩ := k1.resolve_left (fun h => by rw [h.2] at hj; simp at hj)
        obtain ⟨g2, o2, d2, e2, hg2, f2⟩ := k2.resolve_left (fun h => by rw [h.2] at hj2; simp at hj2)
        simp only [Value.slice.injEq, true_and] at e1 e2
        obtain ⟨rfl, rfl⟩ := e1
        obtain ⟨rfl, rfl⟩ := e2
        have q1 := f1 j l1[j] (by simp [hj])
        have q2 := f2 j l2[j] (by simp [hj2])
        have i1 : ((j : Nat) : Int) < (l1.length : Int) := by omega
        have i2 : ((j : Nat) : Int) < (l2.length : Int) := by omega
        have i3 : j < l1.length := hj
        clear h1 h2 k1 k2 f1 f2
        by_cases hx : l1[j] = l2[j]
        · have ex : (l1[j] != l2[j]) = false := by simp [hx]
          go_wp2_with fail
          go_quiet (fail)
          go_wp2
          go_roundg gq
          case measure => omega
          case rel =>
            refine ⟨j + 1, by omega, by first | rfl | rw [wrap64_nat (by omega)] | simp, ?_, below_drewN hB nq⟩
            rw [List.take_succ_eq_append_getElem hj, List.take_succ_eq_append_getElem hj2, htk, hx]
        · have ex : (l1[j] != l2[j]) = true := by simp [hx]
          go_wp2_with fail
          go_quiet (fail)
          go_wp2
          go_ret
          refine ⟨?_, below_drewN hB nq⟩
          have e : ¬ l1 = l2 := fun e => hx (by subst e; rfl)
          rw [decide_eq_false e]; rfl
  · have e0 : (((l1.length : Nat) : Int) != (l2.length : Int)) = true := by simp; omega
    go_enter Tryz.func13, Tryz.ntmps13
    go_wp2
    go_ret
    exact ⟨by rw [decide_eq_false (fun e => hle (by rw [e]))]; rfl, Below.refl _ _⟩

/-- The trie has such subscriptions, its blocks and itself new since B; what has come of the world since is new. -/
def Has (w0 w : World) (t : Nat) (A : List (Bs × Int)) (K : Nat) : Prop := Below w0.heap.size w0 w ∧ ∃ nd own n, TrieAt w t w0.heap.size A nd own n K

abbrev E1 : List (Bs × Int) := [([97, 47, 43], 1)]
abbrev E2 : List (Bs × Int) := [([97, 47, 43], 1), ([97, 47, 35], 2)]
abbrev E3 : List (Bs × Int) := [([97, 47, 43], 1), ([97, 47, 35], 2), ([97, 47, 98], 1)]
abbrev E4 : List (Bs × Int) := [([97, 47, 43], 1), ([97, 47, 35], 2), ([97, 47, 98], 1), ([43], 3)]

theorem has_add {w W : World} {t : Nat} {A : List (Bs × Int)} {K : Nat} (h : Has w W t A K) (hT : Tabs w) (f : ByteArray) (i : Int) (hf : f.size ≤ 9223372036854775807) (hi : (Lit.int .i64 i).wf = true) (hK : K + 65537 < maxLen) :
    Calls Tryz.prog 8 #[.pointer (some ⟨t, 0, none⟩), .string f, .int .i64 i] W fun e w' => e = .returned (.bool (isFilter (tl f) && !Sof A (lvs (tl f)) i)) ∧ Has w w' t (addA A (tl f) i) (K + 65537) := by
  obtain ⟨hB, nd, own, n, h⟩ := h
  refine (add_any h hB.size f hf (hT.from (Nat.le_refl _) hB) i hi hK).mono fun e w' ⟨h1, ⟨nd', own', n', h2, h3⟩, h4⟩ => ?_
  refine ⟨h1, ⟨h4.os.trans hB.os, h4.tape.trans hB.tape, h4.output.trans hB.output, Nat.le_trans hB.size h4.size, fun k hk => ?_⟩, nd', own', n', h2⟩
  exact (h4.block k (by have := hB.size; omega) (fun c => by have := h.bas k c; omega)).trans (hB.block k hk)

theorem hears_E4a : ∀ i, hears (Sof E4) [97, 47, 98] i = true ↔ i ∈ ([1, 2] : List Int) := fun i => by
  rw [hears_iff ⟨by decide +kernel, by decide +kernel, by decide +kernel⟩ (by decide +kernel)]
  have m1 : matchesR [97, 47, 43] [97, 47, 98] = true := by decide +kernel
  have m2 : matchesR [97, 47, 35] [97, 47, 98] = true := by decide +kernel
  have m3 : matchesR [97, 47, 98] [97, 47, 98] = true := by decide +kernel
  have m4 : matchesR [43] [97, 47, 98] = false := by decide +kernel
  simp only [E4, List.mem_cons, Prod.mk.injEq, List.not_mem_nil, or_false]
  constructor
  · rintro ⟨f, (⟨rfl, rfl⟩ | ⟨rfl, rfl⟩ | ⟨rfl, rfl⟩ | ⟨rfl, rfl⟩), h⟩
    · exact .inl rfl
    · exact .inr rfl
    · exact .inl rfl
    · rw [m4] at h; cases h
  · rintro (rfl | rfl)
    · exact ⟨_, .inl ⟨rfl, rfl⟩, m1⟩
    · exact ⟨_, .inr (.inl ⟨rfl, rfl⟩), m2⟩
theorem hears_E4b : ∀ i, hears (Sof E4) [97] i = true ↔ i ∈ ([2, 3] : List Int) := fun i => by
  rw [hears_iff ⟨by decide +kernel, by decide +kernel, by decide +kernel⟩ (by decide +kernel)]
  have m1 : matchesR [97, 47, 43] [97] = false := by decide +kernel
  have m2 : matchesR [97, 47, 35] [97] = true := by decide +kernel
  have m3 : matchesR [97, 47, 98] [97] = false := by decide +kernel
  have m4 : matchesR [43] [97] = true := by decide +kernel
  simp only [E4, List.mem_cons, Prod.mk.injEq, List.not_mem_nil, or_false]
  constructor
  · rintro ⟨f, (⟨rfl, rfl⟩ | ⟨rfl, rfl⟩ | ⟨rfl, rfl⟩ | ⟨rfl, rfl⟩), h⟩
    · rw [m1] at h; cases h
    · exact .inl rfl
    · rw [m3] at h; cases h
    · exact .inr rfl
  · rintro (rfl | rfl)
    · exact ⟨_, .inr (.inl ⟨rfl, rfl⟩), m2⟩
    · exact ⟨_, .inr (.inr (.inr ⟨rfl, rfl⟩)), m4⟩
theorem nodes_E4 {ps : List Pth} (hn : ps.Nodup) (h : ∀ q, q ∈ ps ↔ q ≠ [] ∧ ∃ e ∈ E4, q <+: lvs e.1) : ps.length = 5 := by
  have e1 : lvs [97, 47, 43] = [[97], [43]] := by decide +kernel
  have e2 : lvs [97, 47, 35] = [[97], [35]] := by decide +kernel
  have e3 : lvs [97, 47, 98] = [[97], [98]] := by decide +kernel
  have e4 : lvs [43] = [[43]] := by decide +kernel
  have h5 : ∀ q, q ∈ ps ↔ q ∈ ([[[97]], [[97], [43]], [[97], [35]], [[97], [98]], [[43]]] : List Pth) := fun q => by
    rw [h q]
    simp only [E4, List.mem_cons, List.not_mem_nil, or_false, exists_eq_or_imp, exists_eq_left, e1, e2, e3, e4]
    cases q with
    | nil => simp
    | cons a q =>
      cases q with
      | nil => simp [List.cons_prefix_cons]
      | cons b q =>
        cases q with
        | nil => simp [List.cons_prefix_cons, List.prefix_nil]
        | cons c q => simp [List.cons_prefix_cons, List.prefix_nil]
  rw [nodup_eq ps _ hn (by decide +kernel) h5]; rfl

theorem Has.below {w0 w w' : World} {t : Nat} {A : List (Bs × Int)} {K : Nat} (h : Has w0 w t A K) (hB : Below w.heap.size w w') : Has w0 w' t A K := by
  obtain ⟨h1, nd, own, n, h2⟩ := h
  exact ⟨h1.trans (hB.mono h1.size), nd, own, n, h2.below hB⟩
theorem intlit2 (W : World) (a b : Int) : IntRow (W.alloc (.cells #[.int .i64 a, .int .i64 b] 3)) (.slice (some ⟨W.heap.size, 0, none⟩) 2 2) [a, b] := by
  refine .inr ⟨W.heap.size, 0, 2, rfl, by simp, fun j x hj => ?_⟩
  rw [cell_at (heap_alloc_new _ _)]
  match j, hj with
  | 0, hj => simp at hj; subst hj; rfl
  | 1, hj => simp at hj; subst hj; rfl
theorem has_match {w W : World} {t : Nat} {A : List (Bs × Int)} {K : Nat} (h : Has w W t A K) (hT : Tabs w) (nm : ByteArray) (hf : nm.size ≤ 9223372036854775807) (hK : A.length + K < maxLen) (hA : A.length * 8 ≤ 140737488355328) :
    Calls Tryz.prog 12 #[.pointer (some ⟨t, 0, none⟩), .string nm] W fun e w' => ∃ v l, e = .returned v ∧ Rise l ∧ (∀ i, i ∈ l ↔ (isName (tl nm) = true ∧ hears (Sof A) (tl nm) i = true)) ∧ l.length ≤ A.length ∧ IntsAt w' W.heap.size v l ∧ Below W.heap.size W w' := by
  obtain ⟨hB, nd, own, n, h⟩ := h
  have hT' := hT.from (Nat.le_refl _) hB
  cases hN : isName (tl nm) with
  | false => exact (match_no nm hf hT' _ ⟨_, rfl⟩ hN).mono fun e w' ⟨h1, h2⟩ => ⟨_, [], h1, List.Pairwise.nil, by simp, Nat.zero_le _, World.ownsRow_nil _ _ _ _, h2⟩
  | true => exact (match_yes h nm hf hT' hN hK hA).mono fun e w' ⟨v, l, h1, h2, h3, h4, h5, h6⟩ => ⟨v, l, h1, h2, fun i => by rw [h3 i]; simp, h4, h5, h6⟩

set_option maxRecDepth 100000 in
set_option maxHeartbeats 4000000 in
theorem awake_any (w : World) (hT : Tabs w) :
    Calls Tryz.prog 7 #[] w fun e w' => e = .returned (.bool true) ∧ Below w.heap.size w w' := by
  have KNew : Hid (Calls Tryz.prog 4 #[] w fun e w' => ∃ t, e = .returned (.pointer (some ⟨t, 0, none⟩)) ∧ Has w w' t [] 0) := (new_any w).mono fun e w' ⟨t, nd, own, n, h1, h2, h3⟩ => ⟨t, h1, h3, nd, own, n, h2⟩
  have c1 : Hid (∀ W t, Has w W t [] 0 → Calls Tryz.prog 8 #[.pointer (some ⟨t, 0, none⟩), .string ⟨#[97, 47, 43]⟩, .int .i64 1] W fun e w' => e = .returned (.bool true) ∧ Has w w' t E1 (0 + 65537)) := fun W t h => by
    have := has_add h hT ⟨#[97, 47, 43]⟩ 1 (by decide) (by decide) (by unfold maxLen; omega)
    rw [tl_data] at this; exact this
  have c2 : Hid (∀ W t, Has w W t E1 (0 + 65537) → Calls Tryz.prog 8 #[.pointer (some ⟨t, 0, none⟩), .string ⟨#[97, 47, 35]⟩, .int .i64 2] W fun e w' => e = .returned (.bool true) ∧ Has w w' t E2 (0 + 65537 + 65537)) := fun W t h => by
    have := has_add h hT ⟨#[97, 47, 35]⟩ 2 (by decide) (by decide) (by unfold maxLen; omega)
    rw [tl_data] at this; exact this
  have c3 : Hid (∀ W t, Has w W t E2 (0 + 65537 + 65537) → Calls Tryz.prog 8 #[.pointer (some ⟨t, 0, none⟩), .string ⟨#[97, 47, 98]⟩, .int .i64 1] W fun e w' => e = .returned (.bool true) ∧ Has w w' t E3 (0 + 65537 + 65537 + 65537)) := fun W t h => by
    have := has_add h hT ⟨#[97, 47, 98]⟩ 1 (by decide) (by decide) (by unfold maxLen; omega)
    rw [tl_data] at this; exact this
  have c4 : Hid (∀ W t, Has w W t E3 (0 + 65537 + 65537 + 65537) → Calls Tryz.prog 8 #[.pointer (some ⟨t, 0, none⟩), .string ⟨#[43]⟩, .int .i64 3] W fun e w' => e = .returned (.bool true) ∧ Has w w' t E4 (0 + 65537 + 65537 + 65537 + 65537)) := fun W t h => by
    have := has_add h hT ⟨#[43]⟩ 3 (by decide) (by decide) (by unfold maxLen; omega)
    rw [tl_data] at this; exact this
  have c5 : Hid (∀ W t, Has w W t E4 (0 + 65537 + 65537 + 65537 + 65537) → Calls Tryz.prog 12 #[.pointer (some ⟨t, 0, none⟩), .string ⟨#[97, 47, 98]⟩] W fun e w' => ∃ v, e = .returned v ∧ IntRow w' v [1, 2] ∧ Has w w' t E4 (0 + 65537 + 65537 + 65537 + 65537)) := fun W t h =>
    (has_match h hT ⟨#[97, 47, 98]⟩ (by decide) (by unfold maxLen; decide) (by decide)).mono fun e w' ⟨v, l, h1, h2, h3, h4, h5, h6⟩ => by
      refine ⟨v, h1, ?_, h.below h6⟩
      have e : l = [1, 2] := Rise.ext h2 (by unfold Rise; decide) (fun i => by
        rw [h3 i, ← hears_E4a i]
        have e0 : tl ⟨#[97, 47, 98]⟩ = [97, 47, 98] := by rw [tl_data]
        rw [e0, show isName [97, 47, 98] = true by decide +kernel]; simp)
      rw [← e]; exact h5.row
  have c6 : Hid (∀ W t, Has w W t E4 (0 + 65537 + 65537 + 65537 + 65537) → Calls Tryz.prog 12 #[.pointer (some ⟨t, 0, none⟩), .string ⟨#[97]⟩] W fun e w' => ∃ v, e = .returned v ∧ IntRow w' v [2, 3] ∧ Has w w' t E4 (0 + 65537 + 65537 + 65537 + 65537)) := fun W t h =>
    (has_match h hT ⟨#[97]⟩ (by decide) (by unfold maxLen; decide) (by decide)).mono fun e w' ⟨v, l, h1, h2, h3, h4, h5, h6⟩ => by
      refine ⟨v, h1, ?_, h.below h6⟩
      have e : l = [2, 3] := Rise.ext h2 (by unfold Rise; decide) (fun i => by
        rw [h3 i, ← hears_E4b i]
        have e0 : tl ⟨#[97]⟩ = [97] := by rw [tl_data]
        rw [e0, show isName [97] = true by decide +kernel]; simp)
      rw [← e]; exact h5.row
  have c7 : Hid (∀ W t, Has w W t E4 (0 + 65537 + 65537 + 65537 + 65537) → Calls Tryz.prog 21 #[.pointer (some ⟨t, 0, none⟩)] W fun e w' => e = .returned (.int .i64 5) ∧ Has w w' t E4 (0 + 65537 + 65537 + 65537 + 65537)) := fun W t h => by
    obtain ⟨hB, nd, own, n, h1⟩ := h
    refine (nodes_any h1 (by decide)).mono fun e w' ⟨ps, h2, h3, h4, h5⟩ => ⟨?_, Has.below ⟨hB, nd, own, n, h1⟩ h5⟩
    rw [h2, nodes_E4 h3 h4]; rfl
  have c8 : Hid (∀ W t, Has w W t E4 (0 + 65537 + 65537 + 65537 + 65537) → Calls Tryz.prog 20 #[.pointer (some ⟨t, 0, none⟩)] W fun e w' => e = .returned (.int .i64 4) ∧ Has w w' t E4 (0 + 65537 + 65537 + 65537 + 65537)) := fun W t h => by
    obtain ⟨hB, nd, own, n, h1⟩ := h
    exact (len_any h1 (by decide)).mono fun e w' ⟨h2, h5⟩ => ⟨h2, Has.below ⟨hB, nd, own, n, h1⟩ h5⟩
  have c9 : Hid (∀ W t, Has w W t E4 (0 + 65537 + 65537 + 65537 + 65537) → Calls Tryz.prog 8 #[.pointer (some ⟨t, 0, none⟩), .string ⟨#[97, 43]⟩, .int .i64 1] W fun e w' => e = .returned (.bool false) ∧ Below w.heap.size w w') := fun W t h => by
    have := has_add h hT ⟨#[97, 43]⟩ 1 (by decide) (by decide) (by unfold maxLen; omega)
    rw [tl_data] at this
    exact this.mono fun e w' ⟨h1, h2⟩ => ⟨h1, h2.1⟩
  have KSm := Lib.hid same_any
  go_enter Tryz.func7, Tryz.ntmps7
  go_wp2_with (first
    | (go_at_call 4; refine KNew.out.mono ?_; rintro e w1 ⟨t, rfl, h1⟩)
    | (go_at_call 8; refine (c1.out _ t h1).mono ?_; rintro e w2 ⟨rfl, h2⟩; clear c1 h1)
    | (go_at_call 8; refine (c2.out _ t h2).mono ?_; rintro e w3 ⟨rfl, h3⟩; clear c2 h2)
    | (go_at_call 8; refine (c3.out _ t h3).mono ?_; rintro e w4 ⟨rfl, h4⟩; clear c3 h3)
    | (go_at_call 8; refine (c4.out _ t h4).mono ?_; rintro e w5 ⟨rfl, h5⟩; clear c4 h4)
    | (go_at_call 12; refine (c5.out _ t h5).mono ?_; rintro e w6 ⟨v6, rfl, r6, h6⟩; clear c5 h5)
    | (go_at_call 13; refine (KSm.out v6 _ [1, 2] [1, 2] _ (r6.below (below1 _ _)) (intlit2 _ 1 2) (by decide)).mono ?_; rintro e w7 ⟨rfl, b7⟩; have h7 := (h6.below (below1 _ _)).below b7; clear r6 h6)
    | (go_at_call 12; refine (c6.out _ t h7).mono ?_; rintro e w8 ⟨v8, rfl, r8, h8⟩; clear c6 h7)
    | (go_at_call 13; refine (KSm.out v8 _ [2, 3] [2, 3] _ (r8.below (below1 _ _)) (intlit2 _ 2 3) (by decide)).mono ?_; rintro e w9 ⟨rfl, b9⟩; have h9 := (h8.below (below1 _ _)).below b9; clear r8 h8)
    | (go_at_call 21; refine (c7.out _ t h9).mono ?_; rintro e w10 ⟨rfl, h10⟩; clear c7 h9)
    | (go_at_call 20; refine (c8.out _ t h10).mono ?_; rintro e w11 ⟨rfl, h11⟩; clear c8 h10)
    | (go_at_call 8; refine (c9.out _ t h11).mono ?_; rintro e w12 ⟨rfl, h12⟩; clear c9 h11))
  go_ret
  exact ⟨rfl, h12⟩
end Go.Proofs.YtcnglhlljmfanaaGreatDoor
