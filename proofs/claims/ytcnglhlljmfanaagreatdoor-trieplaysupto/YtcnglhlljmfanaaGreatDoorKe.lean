/- The small calls on one node, further: how many numbers and nodes it has; prune, down; no condition but those that each theorem names. -/
import Derived.Test.YtcnglhlljmfanaaGreatDoorKd
import Derived.Lib.SlKeysI
import Derived.Defers
namespace Go.Proofs.YtcnglhlljmfanaaGreatDoor
open Go.RowKit Tp Go.Maps

theorem SetAt.keys {w : World} {x : Option Nat} {s : Int → Bool} {K : Nat} (h : SetAt w x s K) :
    ∃ l : List Int, l.Nodup ∧ (∀ i, i ∈ l ↔ s i = true) ∧ l.length ≤ K ∧ (∀ ty, (Builtin.len_ #[36] ty #[.map x]).run Tryz.prog w = .ok (.int .i64 l.length) w) ∧ (∀ i ∈ l, (Lit.int .i64 i).wf = true) := by
  cases x with
  | none => exact ⟨[], List.nodup_nil, fun i => by simp [h i], Nat.zero_le _, fun ty => len_nil Tryz.underlying36 ty, by simp⟩
  | some b =>
    obtain ⟨n, D, ho, hn, hD⟩ := h
    obtain ⟨es, rfl, hpw, _⟩ := ho.entries intK
    obtain ⟨es', e', hko⟩ := ho.keysOf
    cases e'
    have hk : ∀ q ∈ es, ∃ i, q.1 = .int .i64 i ∧ (Lit.int .i64 i).wf = true := fun q hq => by
      obtain ⟨v, hv⟩ := hko q hq
      obtain ⟨i, _, h2, h3⟩ := Maps.keyOf_i64 Tryz.underlying3 hv
      exact ⟨i, h2, h3⟩
    refine ⟨intKeys (.map es), ?_, fun i => ?_, ?_, fun ty => ?_, ?_⟩
    · show (es.map fun p => intOf p.1).Nodup
      refine List.pairwise_map.2 (hpw.imp_of_mem fun {p q} hp' hq' hne e => hne ?_)
      obtain ⟨a, ha, _⟩ := hk p hp'
      obtain ⟨b, hb, _⟩ := hk q hq'
      rw [ha, hb] at e ⊢
      exact congrArg _ e
    · rw [← hD i, has_eq, List.any_eq_true]
      show i ∈ (es.map fun p => intOf p.1) ↔ _
      rw [List.mem_map]
      constructor
      · rintro ⟨q, hq, rfl⟩
        obtain ⟨a, ha, _⟩ := hk q hq
        exact ⟨q, hq, by rw [ha]; simp [Lit.sameKey, intOf]⟩
      · rintro ⟨q, hq, hs⟩
        obtain ⟨a, ha, _⟩ := hk q hq
        rw [ha] at hs
        exact ⟨q, hq, by rw [ha]; simpa [Lit.sameKey, intOf] using hs⟩
    · have := ho.size_le; simp [intKeys, Maps.size] at this ⊢; omega
    · have := ho.len Tryz.underlying36 ty
      rw [this]; simp [intKeys, Maps.size]
    · intro i hi
      obtain ⟨q, hq, rfl⟩ := List.mem_map.1 hi
      obtain ⟨a, ha, hw⟩ := hk q hq
      rw [ha]; exact hw

theorem KidsAt.keys {w : World} {y : Option Nat} {f : Bs → Option Nat} {K : Nat} (h : KidsAt w y f K) :
    ∃ c : Nat, (c = 0 ↔ ∀ l, f l = none) ∧ (∀ ty, (Builtin.len_ #[37] ty #[.map y]).run Tryz.prog w = .ok (.int .i64 c) w) := by
  cases y with
  | none => exact ⟨0, ⟨fun _ => h, fun _ => rfl⟩, fun ty => len_nil Tryz.underlying37 ty⟩
  | some b =>
    obtain ⟨n, D, ho, hn, hD⟩ := h
    obtain ⟨es, rfl, hpw, _⟩ := ho.entries strK
    obtain ⟨es', e', hko⟩ := ho.keysOf
    cases e'
    refine ⟨es.length, ⟨fun h l => ?_, fun h => ?_⟩, fun ty => ?_⟩
    · have := (hD l).1
      rw [List.eq_nil_of_length_eq_zero h] at this
      cases hf : f l with
      | none => rfl
      | some a => rw [hf] at this; simp [Maps.has] at this
    · cases es with
      | nil => rfl
      | cons q es =>
        obtain ⟨v, hv⟩ := hko q (by simp)
        obtain ⟨x, _, h2, _⟩ := Maps.keyOf_str Tryz.underlying9 hv
        have := (hD x).1
        rw [h x, has_eq, List.any_cons, h2] at this
        simp [Lit.sameKey] at this
    · exact ho.len Tryz.underlying37 ty

section
variable {w : World} {nd : Pth → Option Nd} {own : Nat → Option (Pth × Nat)} {S : Pth → Int → Bool} {K : Nat} {p : Pth} {n : Nd}

/-- Neither numbers nor nodes below. -/
def Bare (nd : Pth → Option Nd) (S : Pth → Int → Bool) (q : Pth) : Prop := (∀ i, S q i = false) ∧ ∀ l, nd (q ++ [l]) = none

set_option maxRecDepth 100000 in
set_option maxHeartbeats 2000000 in
theorem prune_any (g : G w nd own S K) (hp : nd p = some n) (l : ByteArray) (hl : l.size ≤ maxLen) (hc : nd (p ++ [tl l]) ≠ none) (u : FrameMode) :
    CallsD Tryz.prog 53 #[.pointer (some ⟨n.a, 0, none⟩), .string l] u w fun e u' w' => u' = u ∧ e = .returned (.tuple #[]) ∧ ∃ nd', G w' nd' own S K ∧ (∀ q, q ≠ p ++ [tl l] → nd' q = nd q) ∧
      (Bare nd S (p ++ [tl l]) → nd' (p ++ [tl l]) = none) ∧ (¬ Bare nd S (p ++ [tl l]) → nd' (p ++ [tl l]) = nd (p ++ [tl l])) ∧ But (Bl own) w w' := by
  obtain ⟨a, x, y⟩ := n
  have hb : w.heap[a]? = some (.cells #[.map x, .map y] 39 (0, 0)) := g.cell p _ hp
  have hc1 := cell_at hb 1
  simp at hc1
  obtain ⟨m, hm⟩ : ∃ m, nd (p ++ [tl l]) = some m := Option.ne_none_iff_exists'.1 hc
  have hk : KidsAt w y (fun l => (nd (p ++ [l])).map Nd.a) K := g.bel p _ hp
  have hlk := hk.look l hl
  rw [hm] at hlk
  obtain ⟨a', x', y'⟩ := m
  simp only [Option.map_some, pt] at hlk
  have hb' : w.heap[a']? = some (.cells #[.map x', .map y'] 39 (0, 0)) := g.cell _ _ hm
  have hd0 := cell_at hb' 0
  have hd1 := cell_at hb' 1
  simp at hd0 hd1
  obtain ⟨ids, hn1, hn2, hn3, hn4, hn5⟩ := (show SetAt w x' (S (p ++ [tl l])) K from g.num _ _ hm).keys
  obtain ⟨c, hc2, hc3⟩ := (show KidsAt w y' (fun k => (nd (p ++ [tl l] ++ [k])).map Nd.a) K from g.bel _ _ hm).keys
  have hkey : keyOf Tryz.prog 9 (.string l) = some (.string (tl l)) := by rw [tl_data]; exact WideMaps.keyOf_string_mk Tryz.underlying9 hl
  cases y with
  | none => exact absurd (hk (tl l)) (by show ¬ (nd (p ++ [tl l])).map Nd.a = none; rw [hm]; simp)
  | some b =>
    have hBb : Bl own b := by show own b ≠ none; rw [g.oy p _ b hp rfl]; simp
    by_cases h0 : ids.length = 0
    · by_cases h1 : c = 0
      · obtain ⟨n', D, ho, hn', hD⟩ := hk
        rw [h0] at hn4
        rw [h1] at hc3
        go_enter_d Tryz.func53, Tryz.ntmps53
        go_wp2_with (first
          | (at_delete; refine wpList_delete_own _ rfl _ _ 37 9 rfl 35 strK Tryz.underlying37 heldElem b n' D rfl ho _ _ rfl hkey ?_; intro w1 ho1 ht1)
          | go_in)
        go_end0
        have hS : ∀ i, S (p ++ [tl l]) i = false := fun i => by
          cases h : S (p ++ [tl l]) i with
          | false => rfl
          | true => have := (hn2 i).2 h; rw [List.eq_nil_of_length_eq_zero h0] at this; simp at this
        have hlf : ∀ k, nd (p ++ [tl l] ++ [k]) = none := fun k => by have := hc2.1 h1 k; simpa using this
        have hB1 : But (fun k => k = b) w w1 := But.grown ht1.grown (fun k e _ => by cases e; rfl)
        obtain ⟨nd', r1, r2, r3⟩ := g.cut hp hB1 (fun k e => by rw [e]) b (tl l) rfl hS hlf ⟨n', _, ho1, hn', fun k => by
          show Maps.has _ _ = (if k = tl l then none else (nd (p ++ [k])).map Nd.a).isSome ∧ _ = DataW.held (pt (if k = tl l then none else (nd (p ++ [k])).map Nd.a))
          by_cases e : k = tl l
          · subst e; rw [has_del_same, atKey_del_same, if_pos rfl]; exact ⟨rfl, rfl⟩
          · have e' : (Lit.string k) ≠ .string (tl l) := fun h => e (by cases h; rfl)
            rw [has_del_other e', atKey_del_other e', if_neg e]; exact hD k⟩
        exact ⟨rfl, nd', r1, r2, fun _ => r3, fun h => absurd ⟨hS, hlf⟩ h, hB1.mono (fun k _ e => e ▸ hBb)⟩
      · have h1' : (((c : Nat) : Int) == 0) = false := by rw [beq_eq_false_iff_ne]; omega
        rw [h0] at hn4
        go_enter_d Tryz.func53, Tryz.ntmps53
        go_wp2
        go_end0
        exact ⟨rfl, nd, g, fun _ _ => rfl, fun h => absurd (hc2.2 (fun k => by rw [h.2 k]; rfl)) h1, fun _ => rfl, But.refl _ _⟩
    · have h0' : (((ids.length : Nat) : Int) == 0) = false := by rw [beq_eq_false_iff_ne]; omega
      go_enter_d Tryz.func53, Tryz.ntmps53
      go_wp2
      go_end0
      exact ⟨rfl, nd, g, fun _ _ => rfl, fun h => absurd (by cases ids with | nil => rfl | cons i r => have := (hn2 i).1 (by simp); rw [h.1 i] at this; cases this) h0, fun _ => rfl, But.refl _ _⟩

/-- The levels that are left to go, in a row of texts. -/
def LeftAt (w : World) (v : Value) (L : Pth) : Prop := ∃ b o c, v = .slice (some ⟨b, o, none⟩) L.length c ∧ Row w b o (L.map bs) ∧ L.length ≤ c ∧ b < w.heap.size
theorem LeftAt.but {C : Nat → Prop} {w w' : World} {v : Value} {L : Pth} (h : LeftAt w v L) (hB : But C w w') (hC : ∀ b o c, v = .slice (some ⟨b, o, none⟩) L.length c → ¬ C b) : LeftAt w' v L := by
  obtain ⟨b, o, c, e, hr, hc, hb⟩ := h
  refine ⟨b, o, c, e, fun j x hj => ?_, hc, Nat.lt_of_lt_of_le hb hB.size⟩
  have := hr j x hj
  unfold World.cell? at this ⊢
  rw [hB.block b hb (hC b o c e)]
  exact this
theorem LeftAt.below {w w' : World} {v : Value} {L : Pth} (h : LeftAt w v L) (hB : Below w.heap.size w w') : LeftAt w' v L := h.but (But.of_below (C := fun _ => False) hB) (fun _ _ _ _ h => h)

set_option maxRecDepth 100000 in
set_option maxHeartbeats 2000000 in
theorem down_any (g : G w nd own S K) (hp : nd p = some n) (l : ByteArray) (hl : l.size ≤ maxLen) (b o c : Nat) (x : Bs) (L : Pth) (hv : LeftAt w (.slice (some ⟨b, o, none⟩) (L.length + 1) c) (x :: L)) :
    Calls Tryz.prog 37 #[.agg #[.pointer (some ⟨n.a, 0, none⟩), .slice (some ⟨b, o, none⟩) (L.length + 1) c], .string l] w fun e w' => Below w.heap.size w w' ∧
      ((nd (p ++ [tl l]) = none ∧ e = .returned (.tuple #[.agg #[.pointer none, .slice none 0 0], .bool false])) ∨
       ∃ m, nd (p ++ [tl l]) = some m ∧ e = .returned (.tuple #[.agg #[.pointer (some ⟨m.a, 0, none⟩), .slice (some ⟨b, if c = 1 then o else o + 1, none⟩) L.length (c - 1)], .bool true]) ∧ LeftAt w' (.slice (some ⟨b, if c = 1 then o else o + 1, none⟩) L.length (c - 1)) L) := by
  obtain ⟨a, x', y⟩ := n
  obtain ⟨b', o0, c', e, hr, hcl, hbl⟩ := hv
  simp only [List.length_cons, Value.slice.injEq, Option.some.injEq, Addr.mk.injEq, and_true] at e
  obtain ⟨⟨rfl, rfl⟩, _, rfl⟩ := e
  obtain ⟨o', ho', hr'⟩ := step_row (by simpa using hr) (c := c) (by simpa using hcl)
  obtain rfl : (if c = 1 then o else o + 1) = o' := by
    by_cases h : c = 1
    · simp only [h, if_true, Option.some.injEq, Addr.mk.injEq, and_true, true_and] at ho' ⊢; exact ho'
    · simp only [h, if_false, Option.some.injEq, Addr.mk.injEq, and_true, true_and] at ho' ⊢; exact ho'
  generalize (if c = 1 then o else o + 1) = o' at hr' ho' ⊢
  have hB2 : Below w.heap.size w ((w.alloc (.cells #[.pointer (some ⟨a, 0, none⟩), .slice (some ⟨b, o, none⟩) (L.length + 1) c] 51)).alloc (.cells #[.pointer none, .slice none 0 0] 51)) :=
    (below1 w _).alloc (by simp) _
  have g2 := g.below hB2
  have hb : _ = some (Obj.cells #[.map x', .map y] 39 (0, 0)) := g2.cell p _ hp
  have hc1 := cell_at hb 1
  simp at hc1
  have hk : KidsAt _ y (fun l => (nd (p ++ [l])).map Nd.a) K := g2.bel p _ hp
  have hlk := hk.look l hl
  cases hm : nd (p ++ [tl l]) with
  | none =>
    rw [hm] at hlk
    simp only [Option.map_none, pt] at hlk
    go_enter Tryz.func37, Tryz.ntmps37
    go_wp2
    refine bodyPost_ret (v := .tuple #[.agg #[.pointer none, .slice none 0 0], .bool false]) ?_ rfl (by first | exact ⟨hB2, rfl⟩ | exact ⟨hB2, .inl ⟨rfl, rfl⟩⟩)
    simp [results, Tryz.f37, go_sem]
  | some m =>
    rw [hm] at hlk
    simp only [Option.map_some, pt] at hlk
    go_enter Tryz.func37, Tryz.ntmps37
    go_wp2
    refine bodyPost_ret (v := .tuple #[.agg #[.pointer (some ⟨m.a, 0, none⟩), .slice (some ⟨b, o', none⟩) L.length (c - 1)], .bool true]) ?_ rfl ?_
    · simp [results, Tryz.f37, go_sem]
    · refine ⟨(below1 w _).alloc (by simp) _, rfl, LeftAt.below ⟨b, o', c - 1, rfl, hr', by simp at hcl; omega, hbl⟩ ((below1 w _).alloc (by simp) _)⟩
end
end Go.Proofs.YtcnglhlljmfanaaGreatDoor
