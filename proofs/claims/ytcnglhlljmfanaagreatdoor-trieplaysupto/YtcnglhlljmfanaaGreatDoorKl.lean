/- A trie in memory that stands for a list of subscriptions; New, startOf; what is asked of the world: the two tables of unicode/utf8 as their text lays them. -/
import Derived.Test.YtcnglhlljmfanaaGreatDoorKk
import Derived.Test.YtcnglhlljmfanaaGreatDoorTf
import Derived.Test.YtcnglhlljmfanaaGreatDoorTl
namespace Go.Proofs.YtcnglhlljmfanaaGreatDoor
open Go.RowKit Tp Go.Maps Go.Shelf

/-- The numbers under each path, of a list of filters with numbers. -/
def Sof (A : List (Bs × Int)) : Pth → Int → Bool := fun q i => A.any fun e => decide (lvs e.1 = q ∧ e.2 = i)
theorem Sof_iff {A : List (Bs × Int)} {q : Pth} {i : Int} : Sof A q i = true ↔ ∃ f, (f, i) ∈ A ∧ lvs f = q := by
  simp only [Sof, List.any_eq_true, decide_eq_true_eq]
  constructor
  · rintro ⟨⟨f, j⟩, h1, h2, h3⟩; simp only at h2 h3; subst h3; exact ⟨f, h1, h2⟩
  · rintro ⟨f, h1, h2⟩; exact ⟨(f, i), h1, h2, rfl⟩
theorem Sof_lvs {A : List (Bs × Int)} {f : Bs} {i : Int} : Sof A (lvs f) i = true ↔ (f, i) ∈ A := by
  rw [Sof_iff]
  constructor
  · rintro ⟨f', h1, h2⟩; rw [← lvs_inj h2]; exact h1
  · intro h; exact ⟨f, h, rfl⟩
theorem Sof_add {A : List (Bs × Int)} {f : Bs} {i : Int} : Sof (A ++ [(f, i)]) = add (Sof A) (lvs f) i := by
  funext q j
  rw [Bool.eq_iff_iff, Sof_iff]
  simp only [add, Bool.or_eq_true, decide_eq_true_eq, Sof_iff, List.mem_append, List.mem_singleton, Prod.mk.injEq]
  constructor
  · rintro ⟨f', h1 | ⟨rfl, rfl⟩, rfl⟩
    · exact .inr ⟨f', h1, rfl⟩
    · exact .inl ⟨rfl, rfl⟩
  · rintro (⟨rfl, rfl⟩ | ⟨f', h1, h2⟩)
    · exact ⟨f, .inr ⟨rfl, rfl⟩, rfl⟩
    · exact ⟨f', .inl h1, h2⟩
theorem Sof_sub {A A' : List (Bs × Int)} {f : Bs} {i : Int} (h : ∀ e, e ∈ A' ↔ e ∈ A ∧ e ≠ (f, i)) : Sof A' = sub (Sof A) (lvs f) i := by
  funext q j
  rw [Bool.eq_iff_iff, Sof_iff]
  simp only [sub, Bool.and_eq_true, Bool.not_eq_true', decide_eq_false_iff_not, Sof_iff, h]
  constructor
  · rintro ⟨f', ⟨h1, h2⟩, rfl⟩
    refine ⟨fun ⟨e1, e2⟩ => h2 ?_, f', h1, rfl⟩
    rw [lvs_inj e1, e2]
  · rintro ⟨h1, f', h2, rfl⟩
    exact ⟨f', ⟨h2, fun e => h1 (by cases e; exact ⟨rfl, rfl⟩)⟩, rfl⟩

/-- Right subscriptions, none twice. -/
structure Subs (A : List (Bs × Int)) : Prop where
  fil : ∀ e ∈ A, isFilter e.1 = true
  wf : ∀ e ∈ A, (Lit.int .i64 e.2).wf = true
  nd : A.Nodup

/-- The trie at block t stands for A; its blocks are new since B. -/
structure TrieAt (w : World) (t B : Nat) (A : List (Bs × Int)) (nd : Pth → Option Nd) (own : Nat → Option (Pth × Nat)) (n : Nd) (K : Nat) : Prop where
  cell : w.heap[t]? = some (.cells #[.pointer (some ⟨n.a, 0, none⟩)] 41 (0, 0))
  root : nd [] = some n
  g : G w nd own (Sof A) K
  tid : Tid nd (Sof A) []
  ot : own t = none
  bas : ∀ k, Bl own k → B ≤ k
  bt : B ≤ t
  subs : Subs A
  dep : ∀ q, nd q ≠ none → q.length ≤ 65536

theorem TrieAt.but {w w' : World} {t B : Nat} {A : List (Bs × Int)} {nd : Pth → Option Nd} {own : Nat → Option (Pth × Nat)} {n : Nd} {K : Nat} (h : TrieAt w t B A nd own n K) {C : Nat → Prop} (hB : But C w w') (hC : ∀ k, C k → own k = none ∧ k ≠ t) : TrieAt w' t B A nd own n K :=
  { h with cell := hB.at h.cell (fun c => (hC t c).2 rfl), g := h.g.but hB (fun k c => (hC k c).1) }
theorem TrieAt.below {w w' : World} {t B : Nat} {A : List (Bs × Int)} {nd : Pth → Option Nd} {own : Nat → Option (Pth × Nat)} {n : Nd} {K : Nat} (h : TrieAt w t B A nd own n K) (hB : Below w.heap.size w w') : TrieAt w' t B A nd own n K :=
  h.but (But.of_below (C := fun _ => False) hB) (fun _ c => c.elim)

set_option maxRecDepth 100000 in
set_option maxHeartbeats 2000000 in
theorem new_any (w : World) :
    Calls Tryz.prog 4 #[] w fun e w' => ∃ t nd own n, e = .returned (.pointer (some ⟨t, 0, none⟩)) ∧ TrieAt w' t w.heap.size [] nd own n 0 ∧ Below w.heap.size w w' := by
  go_enter Tryz.func4, Tryz.ntmps4
  go_wp2
  go_ret
  have hB : Below w.heap.size w ((w.alloc (.cells #[.map none, .map none] 39)).alloc (.cells #[.pointer (some ⟨w.heap.size, 0, none⟩)] 41)) := (below1 w _).alloc (by simp) _
  have h1 := heap_alloc_new (w.alloc (.cells #[.map none, .map none] 39)) (.cells #[.pointer (some ⟨w.heap.size, 0, none⟩)] 41)
  have h0 := (Below.heap_alloc (w.alloc (.cells #[.map none, .map none] 39)) (.cells #[.pointer (some ⟨w.heap.size, 0, none⟩)] 41) w.heap.size (by simp)).trans (heap_alloc_new w _)
  rw [World.size_alloc] at h1
  refine ⟨w.heap.size + 1, fun q => if q = [] then some ⟨w.heap.size, none, none⟩ else none, fun k => if k = w.heap.size then some ([], 0) else none, ⟨w.heap.size, none, none⟩, rfl, ?_, hB⟩
  have hnil : ∀ (q : Pth) (m : Nd), (if q = [] then some (⟨w.heap.size, none, none⟩ : Nd) else none) = some m → q = [] ∧ m = ⟨w.heap.size, none, none⟩ := fun q m h => by
    by_cases e : q = []
    · rw [if_pos e] at h; exact ⟨e, (Option.some.inj h).symm⟩
    · rw [if_neg e] at h; cases h
  constructor
  · exact h1
  · rfl
  · constructor
    · intro q m hq; obtain ⟨rfl, rfl⟩ := hnil q m hq; exact h0
    · intro q m hq; obtain ⟨rfl, rfl⟩ := hnil q m hq; exact if_pos rfl
    · intro q m b hq hb; obtain ⟨rfl, rfl⟩ := hnil q m hq; cases hb
    · intro q m b hq hb; obtain ⟨rfl, rfl⟩ := hnil q m hq; cases hb
    · intro q m hq; obtain ⟨rfl, rfl⟩ := hnil q m hq; exact fun i => rfl
    · intro q m hq; obtain ⟨rfl, rfl⟩ := hnil q m hq; exact fun l => rfl
    · intro b hb
      by_cases e : b = w.heap.size
      · subst e; simp; omega
      · simp only [if_neg e] at hb; exact absurd rfl hb
    · intro q l h; exact absurd (if_neg (by simp)) h
    · intro q i _; rfl
  · intro l r h; exact absurd (if_neg (by simp)) h
  · exact if_neg (by omega)
  · intro k hk
    by_cases e : k = w.heap.size
    · omega
    · simp only [Bl, if_neg e] at hk; exact absurd rfl hk
  · omega
  · exact ⟨by simp, by simp, List.nodup_nil⟩
  · intro q hq
    by_cases e : q = []
    · rw [e]; simp
    · exact absurd (if_neg e) hq

set_option maxRecDepth 100000 in
set_option maxHeartbeats 2000000 in
theorem startOf_any {w : World} {t B : Nat} {A : List (Bs × Int)} {nd : Pth → Option Nd} {own : Nat → Option (Pth × Nat)} {n : Nd} {K : Nat} (h : TrieAt w t B A nd own n K) (f : ByteArray) (hf : f.size ≤ 9223372036854775807) (hT : Tabs w) :
    Calls Tryz.prog 23 #[.pointer (some ⟨t, 0, none⟩), .string f] w fun e w' => Below w.heap.size w w' ∧
      ((isFilter (tl f) = false ∧ e = .returned (.tuple #[.agg #[.pointer none, .slice none 0 0], .bool false])) ∨
       (isFilter (tl f) = true ∧ ∃ b o c, e = .returned (.tuple #[.agg #[.pointer (some ⟨n.a, 0, none⟩), .slice (some ⟨b, o, none⟩) (lvs (tl f)).length c], .bool true]) ∧ LeftAt w' (.slice (some ⟨b, o, none⟩) (lvs (tl f)).length c) (lvs (tl f)) ∧ w.heap.size ≤ b)) := by
  have hlt := (Array.getElem?_eq_some_iff.1 h.cell).1
  have hB0 := below1 w (.cells #[.pointer none, .slice none 0 0] 51)
  have hc0 : w.cell? ⟨t, 0, none⟩ = some (.pointer (some ⟨n.a, 0, none⟩)) := by rw [cell_at h.cell 0]; rfl
  have hc : ∀ ob, (w.alloc ob).cell? ⟨t, 0, none⟩ = some (.pointer (some ⟨n.a, 0, none⟩)) := fun ob => cell_below hc0 (below1 w ob) hlt
  have hn := heap_alloc_new w (.cells #[.pointer none, .slice none 0 0] 51)
  have KF := Lib.hid (filter_any f _ hf (hT.below hB0))
  cases hF : isFilter (tl f) with
  | false =>
    rw [hF] at KF
    go_enter Tryz.func23, Tryz.ntmps23
    go_wp2_with (first
      | (go_at_call 47; refine KF.out.mono ?_; rintro e w1 ⟨rfl, hb1⟩; have hc1 := cell_below (hc _) hb1 (by simp; omega); have hn1 := (hb1.block w.heap.size (by simp)).trans hn; have d0 := cell_at hn1 0; have d1 := cell_at hn1 1; have d2 := frozen_at hn1; simp at d0 d1))
    refine bodyPost_ret (v := .tuple #[.agg #[.pointer none, .slice none 0 0], .bool false]) ?_ rfl ⟨((hB0.trans (hb1.mono (by simp))).setCell (Nat.le_refl _) _).setCell (Nat.le_refl _) _, .inl ⟨trivial, rfl⟩⟩
    simp [results, Tryz.f23, go_sem, World.cell?_setCell_same, World.cell?_setCell_other, d0, d1]
  | true =>
    rw [hF] at KF
    go_enter Tryz.func23, Tryz.ntmps23
    go_wp2_with (first
      | (go_at_call 47; refine KF.out.mono ?_; rintro e w1 ⟨rfl, hb1⟩; have hc1 := cell_below (hc _) hb1 (by simp; omega); have hn1 := (hb1.block w.heap.size (by simp)).trans hn; have d0 := cell_at hn1 0; have d1 := cell_at hn1 1; have d2 := frozen_at hn1; simp at d0 d1))
    have hB1 := hB0.trans (hb1.mono (by simp))
    have hne : lvs (tl f) ≠ [] := lvs_ne _
    have hfs : f.size ≤ 65535 := okText_size (by simp only [isFilter, Bool.and_eq_true] at hF; exact hF.1)
    have KL : Hid (Calls Tryz.prog 48 #[.string f] w1.drew fun e w'' => ∃ b o c, e = .returned (.slice (some ⟨b, o, none⟩) (lvs (tl f)).length c) ∧ LeftAt w'' (.slice (some ⟨b, o, none⟩) (lvs (tl f)).length c) (lvs (tl f)) ∧ w.heap.size < b ∧ Below w.heap.size w w'' ∧ w''.cell? ⟨t, 0, none⟩ = some (.pointer (some ⟨n.a, 0, none⟩)) ∧ w''.cell? ⟨w.heap.size, 0, none⟩ = some (.pointer none) ∧ w''.cell? ⟨w.heap.size, 1, none⟩ = some (.slice none 0 0) ∧ ∀ j, w''.frozen? ⟨w.heap.size, j, none⟩ = false) :=
      (levels_any f w1.drew (by omega)).mono fun e w2 ⟨v, he, ho, hb2⟩ => by
        have hz : w.heap.size + 1 ≤ w1.heap.size := by have := hb1.size; simpa using this
        have hb2' : Below w1.heap.size w1 w2 := (Below.drew (Below.refl _ _)).trans hb2
        obtain ⟨b, c, rfl, h4, h3, h2, h1⟩ := owns_row (xs := (lvs (tl f)).map bs) (by rw [List.length_map]; exact ho) (by simpa using hne)
        have hn2 := (hb2'.block w.heap.size (by omega)).trans hn1
        refine ⟨b, 0, c, by rw [he, List.length_map], ⟨b, 0, c, rfl, h1, by simpa using h2, h3⟩, by have : w1.heap.size ≤ b := h4; omega, hB1.trans (hb2'.mono hB1.size), cell_below hc1 hb2' (by omega), by rw [cell_at hn2 0]; rfl, by rw [cell_at hn2 1]; rfl, frozen_at hn2⟩
    have htne : ¬ t = w.heap.size := by omega
    have htne' : ¬ w.heap.size = t := by omega
    go_region_held3 (fun W => W.cell? ⟨t, 0, none⟩ = some (.pointer (some ⟨n.a, 0, none⟩))) (first | with_reducible assumption | exact hc1 | go_keep) (
      (go_at_call 48; refine KL.out.mono ?_; rintro e w2 ⟨b, o, c, rfl, hla, hbw, hb2, c2, e0, e1, e2⟩))
    all_goals go_wp2
    refine bodyPost_ret (v := .tuple #[.agg #[.pointer (some ⟨n.a, 0, none⟩), .slice (some ⟨b, o, none⟩) (lvs (tl f)).length c], .bool true]) ?_ rfl ⟨(hb2.setCell (Nat.le_refl _) _).setCell (Nat.le_refl _) _, .inr ⟨trivial, b, o, c, rfl, ?_, by omega⟩⟩
    · simp [results, Tryz.f23, go_sem, World.cell?_setCell_same, World.cell?_setCell_other, e0, e1]
    · refine hla.but ((But.set (C := fun k => k = w.heap.size) w2 ⟨w.heap.size, 0, none⟩ _ rfl).trans (But.set (C := fun k => k = w.heap.size) _ ⟨w.heap.size, 1, none⟩ _ rfl) (fun _ _ h => h)) (fun b1 o1 c1 e => by cases e; omega)
end Go.Proofs.YtcnglhlljmfanaaGreatDoor
