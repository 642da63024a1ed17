/- The laws' sameTexts, and the document's common; no condition but those that each theorem names. -/
import Derived.Test.YtcnglhlljmfanaaGreatDoorNc
import Derived.BigQuiet
namespace Go.Proofs.YtcnglhlljmfanaaGreatDoor
open Go.RowKit Tp Go.Maps Go.Shelf

/-- A row of texts in memory. -/
def TextRow (W : World) (v : Value) (l : List Bs) : Prop := (v = .slice none 0 0 ∧ l = []) ∨ ∃ g o c, v = .slice (some ⟨g, o, none⟩) l.length c ∧ g < W.heap.size ∧ ∀ (j : Nat) x, l[j]? = some x → W.cell? ⟨g, o + j, none⟩ = some (.string (bs x))
theorem TextRow.but {W W' : World} {v : Value} {l : List Bs} (h : TextRow W v l) {C : Nat → Prop} (hB : But C W W') (hC : ∀ g, v.ownBlock = some g → ¬ C g) : TextRow W' v l := by
  rcases h with h | ⟨g, o, c, rfl, h1, h2⟩
  · exact .inl h
  · refine .inr ⟨g, o, c, rfl, Nat.lt_of_lt_of_le h1 hB.size, fun j x hj => ?_⟩
    have := h2 j x hj
    unfold World.cell? at this ⊢
    rw [hB.block g h1 (hC g rfl)]; exact this
theorem TextRow.below {W W' : World} {v : Value} {l : List Bs} (h : TextRow W v l) (hB : Below W.heap.size W W') : TextRow W' v l := h.but (But.of_below (C := fun _ => False) hB) (fun _ _ h => h)
theorem TextsAt.row {W : World} {B : Nat} {v : Value} {l : List Bs} (h : TextsAt W B v l) : TextRow W v l := by
  obtain ⟨h1, ⟨rfl, h2⟩ | ⟨g, c, cur, rfl, h3, h4, h5, h6, h7, h8⟩⟩ := h
  · exact .inl ⟨rfl, List.eq_nil_of_length_eq_zero h2⟩
  · refine .inr ⟨g, 0, c, rfl, (Array.getElem?_eq_some_iff.1 h4).1, fun j x hj => ?_⟩
    rw [Nat.zero_add, cell_at h4 j]
    have hjl : j < l.length := (List.getElem?_eq_some_iff.1 hj).1
    have : (cur.toList.take (l.length * 1))[j]? = (l.map fun x => Value.string (bs x))[j]? := by rw [h8]
    rw [List.getElem?_take_of_lt (by omega), List.getElem?_map, hj] at this
    simpa using this

set_option maxRecDepth 100000 in
set_option maxHeartbeats 2000000 in
theorem sameT_any (v1 v2 : Value) (l1 l2 : List Bs) (w : World) (h1 : TextRow w v1 l1) (h2 : TextRow w v2 l2) (hl : l1.length < 4611686018427387904) :
    Calls Tryz.prog 17 #[v1, v2] w fun e w' => e = .returned (.bool (decide (l1 = l2))) ∧ Below w.heap.size w w' := by
  have s1 : ∃ a c, v1 = .slice a l1.length c := by rcases h1 with ⟨rfl, rfl⟩ | ⟨g, o, c, rfl, _⟩ <;> exact ⟨_, _, rfl⟩
  have s2 : ∃ a c, v2 = .slice a l2.length c := by rcases h2 with ⟨rfl, rfl⟩ | ⟨g, o, c, rfl, _⟩ <;> exact ⟨_, _, rfl⟩
  obtain ⟨a1, c1, rfl⟩ := s1
  obtain ⟨a2, c2, rfl⟩ := s2
  by_cases hle : l1.length = l2.length
  · have e0 : (((l1.length : Nat) : Int) != (l2.length : Int)) = false := by simp [hle]
    go_enter Tryz.func17, Tryz.ntmps17
    go_wp2
    go_loopg [5] l1.length (fun gk s5 wx => ∃ j : Nat, j + gk = l1.length ∧ s5 = .int .i64 j ∧ l1.take j = l2.take j ∧ Below w.heap.size w wx)
    case atStart => exact ⟨0, by omega, rfl, rfl, Below.refl _ _⟩
    case round =>
      obtain ⟨j, hjg, rfl, htk, hB⟩ := hrel
      have k1 := h1.below hB
      have k2 := h2.below hB
      cases gk with
      | zero =>
        obtain rfl : j = l1.length := by omega
        go_wp2
        go_ret
        refine ⟨?_, hB⟩
        have e : l1 = l2 := by rw [List.take_length, hle, List.take_length] at htk; exact htk
        rw [decide_eq_true e]; rfl
      | succ gq =>
        have hj : j < l1.length := by omega
        have hj2 : j < l2.length := by omega
        obtain ⟨g1, o1, d1, e1, hg1, f1⟩ := k1.resolve_left (fun h => by rw [h.2] at hj; simp at hj)
        obtain ⟨g2, o2, d2, e2, hg2, f2⟩ := k2.resolve_left (fun h => by rw [h.2] at hj2; simp at hj2)
        simp only [Value.slice.injEq, true_and] at e1 e2
        obtain ⟨rfl, rfl⟩ := e1
        obtain ⟨rfl, rfl⟩ := e2
        have q1 := f1 j l1[j] (by simp [hj])
        have q2 := f2 j l2[j] (by simp [hj2])
        have i1 : ((j : Nat) : Int) < (l1.length : Int) := by omega
        have i2 : ((j : Nat) : Int) < (l2.length : Int) := by omega
        have i3 : j < l1.length := hj
        have HTK := Lib.hid htk
        clear h1 h2 k1 k2 f1 f2 htk
        by_cases hx : l1[j] = l2[j]
        · have ex : ((bs l1[j]).toList == (bs l2[j]).toList) = true := by rw [beqq]; exact decide_eq_true hx
          have HX := Lib.hid hx
          clear hx
          go_wp2_with fail
          go_quiet (fail)
          go_wp2
          go_roundg gq
          case measure => omega
          case rel =>
            refine ⟨j + 1, by omega, by first | rfl | rw [wrap64_nat (by omega)] | simp, ?_, below_drewN hB nq⟩
            rw [List.take_succ_eq_append_getElem hj, List.take_succ_eq_append_getElem hj2, HTK.out, HX.out]
        · have ex : ((bs l1[j]).toList == (bs l2[j]).toList) = false := by rw [beqq]; exact decide_eq_false hx
          go_wp2_with fail
          go_quiet (fail)
          go_wp2
          go_ret
          refine ⟨?_, below_drewN hB nq⟩
          have e : ¬ l1 = l2 := fun e => hx (by subst e; rfl)
          rw [decide_eq_false e]; rfl
  · have e0 : (((l1.length : Nat) : Int) != (l2.length : Int)) = true := by simp; omega
    go_enter Tryz.func17, Tryz.ntmps17
    go_wp2
    go_ret
    exact ⟨by rw [decide_eq_false (fun e => hle (by rw [e]))]; rfl, Below.refl _ _⟩

/-- How many texts two rows have in common at the beginning. -/
def com : List Bs → List Bs → Nat
  | a :: l, b :: m => if a = b then com l m + 1 else 0
  | _, _ => 0
theorem com_spec : ∀ l m : List Bs, com l m ≤ l.length ∧ com l m ≤ m.length ∧ (∀ j, j < com l m → l[j]? = m[j]?) ∧ (com l m < l.length → com l m < m.length → l[com l m]? ≠ m[com l m]?)
  | [], m => by simp [com]
  | a :: l, [] => by simp [com]
  | a :: l, b :: m => by
    obtain ⟨h1, h2, h3, h4⟩ := com_spec l m
    by_cases hab : a = b
    · subst hab
      simp only [com, if_true, List.length_cons]
      refine ⟨by omega, by omega, fun j hj => ?_, fun h5 h6 => ?_⟩
      · cases j with
        | zero => rfl
        | succ j => simpa using h3 j (by omega)
      · simpa using h4 (by omega) (by omega)
    · simp only [com, if_neg hab]
      refine ⟨by simp, by simp, fun j hj => absurd hj (Nat.not_lt_zero _), fun _ _ => by simpa using hab⟩

set_option maxRecDepth 100000 in
set_option maxHeartbeats 4000000 in
theorem common_any (v1 v2 : Value) (l1 l2 : List Bs) (w : World) (h1 : TextRow w v1 l1) (h2 : TextRow w v2 l2) (hl : l1.length < 4611686018427387904) :
    Calls Tryz.prog 46 #[v1, v2] w fun e w' => e = .returned (.int .i64 (com l1 l2 : Nat)) ∧ Below w.heap.size w w' := by
  have s1 : ∃ a c, v1 = .slice a l1.length c := by rcases h1 with ⟨rfl, rfl⟩ | ⟨g, o, c, rfl, _⟩ <;> exact ⟨_, _, rfl⟩
  have s2 : ∃ a c, v2 = .slice a l2.length c := by rcases h2 with ⟨rfl, rfl⟩ | ⟨g, o, c, rfl, _⟩ <;> exact ⟨_, _, rfl⟩
  obtain ⟨a1, c1, rfl⟩ := s1
  obtain ⟨a2, c2, rfl⟩ := s2
  obtain ⟨m1, m2, m3, m4⟩ := com_spec l1 l2
  generalize com l1 l2 = k at m1 m2 m3 m4 ⊢
  go_enter Tryz.func46, Tryz.ntmps46
  go_wp2
  go_loopg [5] k (fun gk s5 wx => ∃ j : Nat, j + gk = k ∧ s5 = .int .i64 j ∧ Below w.heap.size w wx)
  case atStart => exact ⟨0, by omega, rfl, Below.refl _ _⟩
  case round =>
    obtain ⟨j, hjg, rfl, hB⟩ := hrel
    have k1 := h1.below hB
    have k2 := h2.below hB
    cases gk with
    | zero =>
      obtain rfl : k = j := by omega
      by_cases hk1 : k < l1.length
      · by_cases hk2 : k < l2.length
        · have hj := hk1
          have hj2 := hk2
          have hne : l1[k] ≠ l2[k] := fun e => m4 hk1 hk2 (by rw [List.getElem?_eq_getElem hk1, List.getElem?_eq_getElem hk2, e])
          obtain ⟨g1, o1, d1, e1, hg1, f1⟩ := k1.resolve_left (fun h => by rw [h.2] at hj; simp at hj)
          obtain ⟨g2, o2, d2, e2, hg2, f2⟩ := k2.resolve_left (fun h => by rw [h.2] at hj2; simp at hj2)
          simp only [Value.slice.injEq, true_and] at e1 e2
          obtain ⟨rfl, rfl⟩ := e1
          obtain ⟨rfl, rfl⟩ := e2
          have q1 := f1 k l1[k] (by simp [hj])
          have q2 := f2 k l2[k] (by simp [hj2])
          have i1 : ((k : Nat) : Int) < (l1.length : Int) := by omega
          have i2 : ((k : Nat) : Int) < (l2.length : Int) := by omega
          have i3 : k < l1.length := hj
          have i4 : k < l2.length := hj2
          have ex : ((bs l1[k]).toList == (bs l2[k]).toList) = false := by rw [beqq]; exact decide_eq_false hne
          clear m1 m2 m3 m4 k1 k2 h1 h2 f1 f2 hk1 hk2
          go_wp2_with fail
          go_quiet (fail)
          go_wp2
          go_ret
          exact ⟨rfl, below_drewN hB nq⟩
        · have i1 : ((k : Nat) : Int) < (l1.length : Int) := by omega
          have i2 : decide (k < l2.length) = false := decide_eq_false (by omega)
          clear m1 m2 m3 m4 k1 k2 h1 h2 hk1 hk2
          go_wp2_with fail
          go_quiet (fail)
          go_wp2
          go_ret
          exact ⟨rfl, below_drewN hB nq⟩
      · have i1 : decide (k < l1.length) = false := decide_eq_false (by omega)
        clear m1 m2 m3 m4 k1 k2 h1 h2 hk1
        go_wp2_with fail
        go_quiet (fail)
        go_wp2
        go_ret
        exact ⟨rfl, below_drewN hB nq⟩
    | succ gq =>
      have hj : j < l1.length := by omega
      have hj2 : j < l2.length := by omega
      have heq : l1[j] = l2[j] := by have := m3 j (by omega); rw [List.getElem?_eq_getElem hj, List.getElem?_eq_getElem hj2] at this; exact Option.some.inj this
      obtain ⟨g1, o1, d1, e1, hg1, f1⟩ := k1.resolve_left (fun h => by rw [h.2] at hj; simp at hj)
      obtain ⟨g2, o2, d2, e2, hg2, f2⟩ := k2.resolve_left (fun h => by rw [h.2] at hj2; simp at hj2)
      simp only [Value.slice.injEq, true_and] at e1 e2
      obtain ⟨rfl, rfl⟩ := e1
      obtain ⟨rfl, rfl⟩ := e2
      have q1 := f1 j l1[j] (by simp [hj])
      have q2 := f2 j l2[j] (by simp [hj2])
      have i1 : ((j : Nat) : Int) < (l1.length : Int) := by omega
      have i2 : ((j : Nat) : Int) < (l2.length : Int) := by omega
      have i3 : j < l1.length := hj
      have i4 : j < l2.length := hj2
      have ex : ((bs l1[j]).toList == (bs l2[j]).toList) = true := by rw [beqq]; exact decide_eq_true heq
      have M1 := Lib.hid m1
      clear m1 m2 m3 m4 k1 k2 h1 h2 f1 f2 heq
      go_wp2_with fail
      go_quiet (fail)
      go_wp2
      go_roundg gq
      case measure => omega
      case rel => exact ⟨j + 1, by omega, by first | rfl | rw [wrap64_nat (by omega)] | simp, below_drewN hB nq⟩

theorem com_pre : ∀ (q l m : List Bs), q <+: l → q <+: m → q.length ≤ com l m
  | [], _, _, _, _ => Nat.zero_le _
  | a :: q, [], _, h, _ => by simp at h
  | a :: q, _ :: _, [], _, h => by simp at h
  | a :: q, b :: l, c :: m, h1, h2 => by
    rw [List.cons_prefix_cons] at h1 h2
    obtain ⟨rfl, h1⟩ := h1
    obtain ⟨rfl, h2⟩ := h2
    have := com_pre q l m h1 h2
    simp only [com, if_true, List.length_cons]; omega
theorem com_take : ∀ (l m : List Bs), l.take (com l m) <+: m
  | [], m => by simp [com]
  | a :: l, [] => by simp [com]
  | a :: l, b :: m => by
    by_cases h : a = b
    · subst h; simp only [com, if_true, List.take_succ_cons]; rw [List.cons_prefix_cons]; exact ⟨rfl, com_take l m⟩
    · simp [com, h]

/-- The most that a row has in common with any of these. -/
def had (l : List Bs) (ms : List (List Bs)) : Nat := ms.foldl (fun h m => max h (com l m)) 0
theorem had_snoc (l : List Bs) (ms : List (List Bs)) (m : List Bs) : had l (ms ++ [m]) = max (had l ms) (com l m) := by unfold had; rw [List.foldl_append]; rfl
theorem had_spec (l : List Bs) (ms : List (List Bs)) : (∀ m ∈ ms, com l m ≤ had l ms) ∧ (had l ms = 0 ∨ ∃ m ∈ ms, had l ms = com l m) ∧ had l ms ≤ l.length := by
  have key : ∀ (ms : List (List Bs)) (h : Nat), h ≤ l.length → h ≤ ms.foldl (fun h m => max h (com l m)) h ∧ (∀ m ∈ ms, com l m ≤ ms.foldl (fun h m => max h (com l m)) h) ∧ (ms.foldl (fun h m => max h (com l m)) h = h ∨ ∃ m ∈ ms, ms.foldl (fun h m => max h (com l m)) h = com l m) ∧ ms.foldl (fun h m => max h (com l m)) h ≤ l.length := by
    intro ms
    induction ms with
    | nil => intro h hh; simp [hh]
    | cons m ms ih =>
      intro h hh
      have hc := (com_spec l m).1
      obtain ⟨h1, h2, h3, h4⟩ := ih (max h (com l m)) (by omega)
      simp only [List.foldl_cons]
      refine ⟨by omega, fun x hx => ?_, ?_, h4⟩
      · rcases List.mem_cons.1 hx with rfl | hx
        · omega
        · exact h2 x hx
      · rcases h3 with h3 | ⟨x, hx, h3⟩
        · by_cases hm : com l m ≤ h
          · left; omega
          · right; exact ⟨m, by simp, by omega⟩
        · right; exact ⟨x, by simp [hx], h3⟩
  obtain ⟨_, h2, h3, h4⟩ := key ms 0 (Nat.zero_le _)
  exact ⟨h2, h3, h4⟩

/-- The levels of these rows, each once. -/
def Lvl (ms : List (List Bs)) (ps : List Pth) : Prop := ps.Nodup ∧ ∀ q, q ∈ ps ↔ q ≠ [] ∧ ∃ m ∈ ms, q <+: m
theorem Lvl.nil : Lvl [] [] := ⟨List.nodup_nil, by simp⟩
theorem Lvl.snoc {ms : List (List Bs)} {ps : List Pth} (h : Lvl ms ps) (l : List Bs) : ∃ ps', Lvl (ms ++ [l]) ps' ∧ ps'.length = ps.length + (l.length - had l ms) := by
  obtain ⟨s1, s2, s3⟩ := had_spec l ms
  generalize had l ms = H at s1 s2 s3 ⊢
  refine ⟨ps ++ (List.range (l.length - H)).map (fun m => l.take (H + m + 1)), ⟨?_, fun q => ?_⟩, by simp⟩
  · rw [List.nodup_append]
    refine ⟨h.1, ?_, fun a ha b hb e => ?_⟩
    · have : ∀ n, n ≤ l.length - H → ((List.range n).map (fun m => l.take (H + m + 1))).Nodup := by
        intro n
        induction n with
        | zero => simp
        | succ n ih =>
          intro hn
          rw [List.range_succ, List.map_append, List.nodup_append]
          refine ⟨ih (by omega), by simp, fun a ha b hb e => ?_⟩
          obtain ⟨i, hi, rfl⟩ := List.mem_map.1 ha
          simp only [List.map_cons, List.map_nil, List.mem_singleton] at hb
          subst hb
          have := congrArg List.length e
          rw [List.length_take, List.length_take] at this
          have := List.mem_range.1 hi
          omega
      exact this _ (Nat.le_refl _)
    · obtain ⟨i, hi, rfl⟩ := List.mem_map.1 hb
      have hi := List.mem_range.1 hi
      subst e
      obtain ⟨_, m, hm, hp⟩ := (h.2 _).1 ha
      have h1 := com_pre _ l m (List.take_prefix _ _) hp
      have h2 := s1 m hm
      rw [List.length_take] at h1
      omega
  · rw [List.mem_append, h.2 q]
    constructor
    · rintro (⟨h1, m, h2, h3⟩ | h1)
      · exact ⟨h1, m, by simp [h2], h3⟩
      · obtain ⟨i, hi, rfl⟩ := List.mem_map.1 h1
        have hi := List.mem_range.1 hi
        refine ⟨fun e => ?_, l, by simp, List.take_prefix _ _⟩
        have := congrArg List.length e
        rw [List.length_take, List.length_nil] at this; omega
    · rintro ⟨h1, m, h2, h3⟩
      rcases List.mem_append.1 h2 with h2 | h2
      · exact .inl ⟨h1, m, h2, h3⟩
      · rw [List.mem_singleton] at h2; subst h2
        have hq : q = m.take q.length := List.prefix_iff_eq_take.1 h3
        have hql := h3.length_le
        have hq0 : 0 < q.length := List.length_pos_iff.2 h1
        by_cases hle : q.length ≤ H
        · rcases s2 with s2 | ⟨x, hx, s2⟩
          · omega
          · refine .inl ⟨h1, x, hx, ?_⟩
            have h4 := com_take m x
            rw [← s2] at h4
            have h5 : q <+: m.take H := by rw [hq]; exact List.take_prefix_take_left hle
            exact h5.trans h4
        · refine .inr (List.mem_map.2 ⟨q.length - H - 1, List.mem_range.2 (by omega), ?_⟩)
          rw [show H + (q.length - H - 1) + 1 = q.length by omega]; exact hq.symm
end Go.Proofs.YtcnglhlljmfanaaGreatDoor
