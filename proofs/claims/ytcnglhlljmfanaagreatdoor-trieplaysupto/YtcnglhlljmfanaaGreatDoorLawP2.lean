/- The law TriePlays at every script within the sizes named; before it, act: one call of a script, done to a trie and a list that stand for the same subscriptions; what is asked of the world: the two tables of unicode/utf8 as their text lays them. -/
import Derived.Test.YtcnglhlljmfanaaGreatDoorNg
import Derived.Test.YtcnglhlljmfanaaGreatDoorNc2
import Derived.Test.YtcnglhlljmfanaaGreatDoorKx
import Derived.Test.YtcnglhlljmfanaaGreatDoorKt
namespace Go.Proofs.YtcnglhlljmfanaaGreatDoor
open Go.RowKit Tp Go.Maps Go.Shelf

set_option maxRecDepth 100000 in
set_option maxHeartbeats 2000000 in
theorem under_no {w : World} {t B : Nat} {A : List (Bs × Int)} {nd : Pth → Option Nd} {own : Nat → Option (Pth × Nat)} {n : Nd} {K : Nat} (h : TrieAt w t B A nd own n K) (f : ByteArray) (hf : f.size ≤ 9223372036854775807) (hT : Tabs w) (hF : isFilter (tl f) = false) :
    Calls Tryz.prog 15 #[.pointer (some ⟨t, 0, none⟩), .string f] w fun e w' => e = .returned (.slice none 0 0) ∧ Below w.heap.size w w' := by
  have KS : Hid (Calls Tryz.prog 23 #[.pointer (some ⟨t, 0, none⟩), .string f] w fun e w' => e = .returned (.tuple #[.agg #[.pointer none, .slice none 0 0], .bool false]) ∧ Below w.heap.size w w') :=
    (startOf_any h f hf hT).mono fun e w' ⟨h1, h2⟩ => ⟨(h2.resolve_right (fun h => by rw [hF] at h; cases h.1)).2, h1⟩
  clear h
  go_enter Tryz.func15, Tryz.ntmps15
  go_wp2_with (first
    | (go_at_call 23; refine KS.out.mono ?_; rintro e w1 ⟨rfl, hb1⟩))
  refine wp_loop_rounds 1 ?_
  rw [rounds_succ]
  go_wp2
  go_ret
  exact ⟨rfl, hb1.alloc hb1.size _⟩

/-- An act's three cells. -/
def ActAt (W : World) (b : Nat) (x : Ac) : Prop := W.heap[b]? = some (.cells #[.int .i64 x.1, .string x.2.1, .int .i64 x.2.2] 31 (0, 0))
theorem ActAt.below {W W' : World} {b : Nat} {x : Ac} (h : ActAt W b x) (hB : Below W.heap.size W W') : ActAt W' b x := (hB.block b (Array.getElem?_eq_some_iff.1 h).1).trans h
theorem ActAt.c {W : World} {b : Nat} {x : Ac} (h : ActAt W b x) : W.cell? ⟨b, 0, none⟩ = some (.int .i64 x.1) ∧ W.cell? ⟨b, 1, none⟩ = some (.string x.2.1) ∧ W.cell? ⟨b, 2, none⟩ = some (.int .i64 x.2.2) := by
  refine ⟨?_, ?_, ?_⟩
  · rw [cell_at h 0]; rfl
  · rw [cell_at h 1]; rfl
  · rw [cell_at h 2]; rfl

/-- A trie and a list side by side, and a block that is neither's. -/
def TF (w0 W : World) (t lb : Nat) (A L : List (Bs × Int)) (K b : Nat) : Prop :=
  Below w0.heap.size w0 W ∧ ∃ nd own n v, TrieAt W t w0.heap.size A nd own n K ∧ ListAt W lb w0.heap.size v L ∧ own lb = none ∧ lb ≠ t ∧ (∀ g, v.ownBlock = some g → own g = none ∧ g ≠ t) ∧ own b = none ∧ b ≠ t ∧ b ≠ lb ∧ v.ownBlock ≠ some b ∧ b < W.heap.size
theorem TF.tl {w0 W : World} {t lb : Nat} {A L : List (Bs × Int)} {K b : Nat} (h : TF w0 W t lb A L K b) : TL w0 W t lb A L K := by
  obtain ⟨h1, nd, own, n, v, h2, h3, h4, h5, h6, _⟩ := h
  exact ⟨h1, nd, own, n, v, h2, h3, h4, h5, h6⟩
theorem TL.tf {w0 W : World} {t lb : Nat} {A L : List (Bs × Int)} {K : Nat} (h : TL w0 W t lb A L K) (o : Obj) : TF w0 (W.alloc o) t lb A L K W.heap.size := by
  obtain ⟨h1, nd, own, n, v, h2, h3, h4, h5, h6⟩ := h
  have htl := (Array.getElem?_eq_some_iff.1 h2.cell).1
  have hlt := h3.lt
  refine ⟨h1.alloc h1.size _, nd, own, n, v, h2.below (below1 _ _), h3.below (below1 _ _), h4, h5, h6, ?_, by omega, by have := hlt.1; omega, fun e => by have := (hlt.2 _ e).2; omega, by simp⟩
  cases ho : own W.heap.size with
  | none => rfl
  | some z => exact absurd (h2.g.lt _ (by rw [ho]; simp)) (by omega)
theorem TF.below {w0 W W' : World} {t lb : Nat} {A L : List (Bs × Int)} {K b : Nat} (h : TF w0 W t lb A L K b) (hB : Below W.heap.size W W') : TF w0 W' t lb A L K b := by
  obtain ⟨h1, nd, own, n, v, h2, h3, h4, h5, h6, h7, h8, h9, h10, h11⟩ := h
  exact ⟨h1.trans (hB.mono h1.size), nd, own, n, v, h2.below hB, h3.below hB, h4, h5, h6, h7, h8, h9, h10, Nat.lt_of_lt_of_le h11 hB.size⟩

section
variable {w0 W : World} {t lb : Nat} {A L : List (Bs × Int)} {K b : Nat}
theorem tf_t {W' : World} {nd : Pth → Option Nd} {own : Nat → Option (Pth × Nat)} {n : Nd} {v : Value} (h1 : Below w0.heap.size w0 W) (h2 : TrieAt W t w0.heap.size A nd own n K) (h3 : ListAt W lb w0.heap.size v L) (h4 : own lb = none) (h5 : lb ≠ t) (h6 : ∀ g, v.ownBlock = some g → own g = none ∧ g ≠ t) (h7 : own b = none) (h8 : b ≠ t) (h9 : b ≠ lb) (h10 : v.ownBlock ≠ some b) (h11 : b < W.heap.size)
    {A' : List (Bs × Int)} {K' : Nat} {nd' : Pth → Option Nd} {own' : Nat → Option (Pth × Nat)} {n' : Nd} (q1 : TrieAt W' t w0.heap.size A' nd' own' n' K') (q2 : Gro W own own') (q3 : But (Bl own) W W') : TF w0 W' t lb A' L K' b ∧ W'.heap[b]? = W.heap[b]? := by
  have hlt := h3.lt
  have ho : ∀ k, k < W.heap.size → own k = none → own' k = none := fun k hk e => by
    cases h : own' k with
    | none => rfl
    | some z => exact (q2 k (by show own' k ≠ none; rw [h]; simp)).elim (fun h => absurd e h) (fun h => by omega)
  refine ⟨⟨⟨q3.os.trans h1.os, q3.tape.trans h1.tape, q3.output.trans h1.output, Nat.le_trans h1.size q3.size, fun k hk => ?_⟩, nd', own', n', v, q1, h3.but q3 (fun c => c h4) (fun g e c => c (h6 g e).1), ho lb hlt.1 h4, h5, fun g e => ⟨ho g (hlt.2 g e).2 (h6 g e).1, (h6 g e).2⟩, ho b h11 h7, h8, h9, h10, Nat.lt_of_lt_of_le h11 q3.size⟩, q3.block b h11 (fun c => c h7)⟩
  exact (q3.block k (by have := h1.size; omega) (fun c => by have := h2.bas k c; omega)).trans (h1.block k hk)
theorem tf_l {W' : World} {nd : Pth → Option Nd} {own : Nat → Option (Pth × Nat)} {n : Nd} {v v' : Value} (h1 : Below w0.heap.size w0 W) (h2 : TrieAt W t w0.heap.size A nd own n K) (h3 : ListAt W lb w0.heap.size v L) (h4 : own lb = none) (h5 : lb ≠ t) (h6 : ∀ g, v.ownBlock = some g → own g = none ∧ g ≠ t) (h7 : own b = none) (h8 : b ≠ t) (h9 : b ≠ lb) (h10 : v.ownBlock ≠ some b) (h11 : b < W.heap.size)
    {L' : List (Bs × Int)} (q1 : ListAt W' lb w0.heap.size v' L') (q2 : But (fun k => k = lb ∨ v.ownBlock = some k) W W') (q3 : ∀ g, v'.ownBlock = some g → v.ownBlock = some g ∨ W.heap.size ≤ g) : TF w0 W' t lb A L' K b ∧ W'.heap[b]? = W.heap[b]? := by
  have htl := (Array.getElem?_eq_some_iff.1 h2.cell).1
  refine ⟨⟨⟨q2.os.trans h1.os, q2.tape.trans h1.tape, q2.output.trans h1.output, Nat.le_trans h1.size q2.size, fun k hk => ?_⟩, nd, own, n, v', h2.but q2 (fun k c => c.elim (fun e => by rw [e]; exact ⟨h4, h5⟩) (fun e => h6 k e)), q1, h4, h5, fun g e => ?_, h7, h8, h9, fun e => ?_, Nat.lt_of_lt_of_le h11 q2.size⟩, q2.block b h11 (fun c => c.elim h9 h10)⟩
  · refine (q2.block k (by have := h1.size; omega) (fun c => c.elim (fun e => ?_) (fun e => ?_))).trans (h1.block k hk)
    · have := h3.2.2.2; omega
    · have := (h3.lt.2 k e).1; omega
  · rcases q3 g e with q | q
    · exact h6 g q
    · refine ⟨?_, by omega⟩
      cases ho : own g with
      | none => rfl
      | some z => exact absurd (h2.g.lt g (by rw [ho]; simp)) (by omega)
  · rcases q3 b e with q | q
    · exact h10 q
    · omega
theorem tf_tadd (h : TF w0 W t lb A L K b) (hT : Tabs w0) (f : ByteArray) (hf : f.size ≤ 9223372036854775807) (i : Int) (hi : (Lit.int .i64 i).wf = true) (hK : K + 65537 < maxLen) :
    Calls Tryz.prog 8 #[.pointer (some ⟨t, 0, none⟩), .string f, .int .i64 i] W fun e w' => e = .returned (.bool (isFilter (tl f) && !Sof A (lvs (tl f)) i)) ∧ TF w0 w' t lb (addA A (tl f) i) L (K + 65537) b ∧ w'.heap[b]? = W.heap[b]? := by
  obtain ⟨h1, nd, own, n, v, h2, h3, h4, h5, h6, h7, h8, h9, h10, h11⟩ := h
  exact (add_any h2 h1.size f hf (hT.from (Nat.le_refl _) h1) i hi hK).mono fun e w' ⟨q0, ⟨nd', own', n', q1, q2⟩, q3⟩ => ⟨q0, tf_t h1 h2 h3 h4 h5 h6 h7 h8 h9 h10 h11 q1 q2 q3⟩
theorem tf_trem (h : TF w0 W t lb A L K b) (hT : Tabs w0) (f : ByteArray) (hf : f.size ≤ 9223372036854775807) (i : Int) (hi : (Lit.int .i64 i).wf = true) :
    Calls Tryz.prog 10 #[.pointer (some ⟨t, 0, none⟩), .string f, .int .i64 i] W fun e w' => e = .returned (.bool (Sof A (lvs (tl f)) i)) ∧ TF w0 w' t lb (remA A (tl f) i) L K b ∧ w'.heap[b]? = W.heap[b]? := by
  obtain ⟨h1, nd, own, n, v, h2, h3, h4, h5, h6, h7, h8, h9, h10, h11⟩ := h
  exact (rem_any h2 h1.size f hf (hT.from (Nat.le_refl _) h1) i hi).mono fun e w' ⟨q0, ⟨nd', own', n', q1, q2⟩, q3⟩ => ⟨q0, tf_t h1 h2 h3 h4 h5 h6 h7 h8 h9 h10 h11 q1 q2 q3⟩
theorem tf_ladd (h : TF w0 W t lb A L K b) (hT : Tabs w0) (f : ByteArray) (hf : f.size ≤ 9223372036854775807) (i : Int) (hL : L.length < 4398046511104) :
    Calls Tryz.prog 9 #[.pointer (some ⟨lb, 0, none⟩), .string f, .int .i64 i] W fun e w' => e = .returned (.bool (isFilter (tl f) && !Sof L (lvs (tl f)) i)) ∧ TF w0 w' t lb A (addA L (tl f) i) K b ∧ w'.heap[b]? = W.heap[b]? := by
  obtain ⟨h1, nd, own, n, v, h2, h3, h4, h5, h6, h7, h8, h9, h10, h11⟩ := h
  exact (ladd_any h3 h1.size f hf (hT.from (Nat.le_refl _) h1) i hL).mono fun e w' ⟨q0, v', q1, q2, q3⟩ => ⟨q0, tf_l h1 h2 h3 h4 h5 h6 h7 h8 h9 h10 h11 q1 q2 q3⟩
theorem tf_lrem (h : TF w0 W t lb A L K b) (f : ByteArray) (i : Int) (hL : L.length ≤ 4398046511104) :
    Calls Tryz.prog 11 #[.pointer (some ⟨lb, 0, none⟩), .string f, .int .i64 i] W fun e w' => e = .returned (.bool (Sof L (lvs (tl f)) i)) ∧ TF w0 w' t lb A (remA L (tl f) i) K b ∧ w'.heap[b]? = W.heap[b]? := by
  obtain ⟨h1, nd, own, n, v, h2, h3, h4, h5, h6, h7, h8, h9, h10, h11⟩ := h
  exact (lrem_any h3 h1.size f i hL).mono fun e w' ⟨q0, v', q1, q2, q3⟩ => ⟨q0, tf_l h1 h2 h3 h4 h5 h6 h7 h8 h9 h10 h11 q1 q2 q3⟩
end

section
variable {w0 W : World} {t lb : Nat} {A : List (Bs × Int)} {K : Nat}
set_option maxRecDepth 100000 in
set_option maxHeartbeats 4000000 in
theorem act_add (h : TL w0 W t lb A A K) (hT : Tabs w0) (s : ByteArray) (i : Int) (sz : s.size ≤ 9223372036854775807) (wf : (Lit.int .i64 i).wf = true) (hK : K + 65537 < maxLen) (hA : A.length ≤ 1048576) :
    Calls Tryz.prog 5 #[.pointer (some ⟨t, 0, none⟩), .pointer (some ⟨lb, 0, none⟩), .agg #[.int .i64 1, .string s, .int .i64 i]] W fun e w' => e = .returned (.bool true) ∧ TL w0 w' t lb (addA A (tl s) i) (addA A (tl s) i) (K + 65537) := by
  have H1 := Lib.hid (h.tf (.cells #[.int .i64 1, .string s, .int .i64 i] 31))
  have ha : ActAt (W.alloc (.cells #[.int .i64 1, .string s, .int .i64 i] 31)) W.heap.size (1, s, i) := heap_alloc_new W _
  obtain ⟨x0, x1, x2⟩ := ha.c
  have HA := Lib.hid ha
  have KT : Hid (Calls Tryz.prog 8 #[.pointer (some ⟨t, 0, none⟩), .string s, .int .i64 i] (W.alloc (.cells #[.int .i64 1, .string s, .int .i64 i] 31)).drew fun e w' => e = .returned (.bool (isFilter (tl s) && !Sof A (lvs (tl s)) i)) ∧ TF w0 w' t lb (addA A (tl s) i) A (K + 65537) W.heap.size ∧ ActAt w' W.heap.size (1, s, i)) :=
    (tf_tadd (H1.out.below (Below.drew (Below.refl _ _))) hT s sz i wf hK).mono fun e w' ⟨q1, q2, q3⟩ => ⟨q1, q2, q3.trans ha⟩
  have KL : Hid (∀ W', TF w0 W' t lb (addA A (tl s) i) A (K + 65537) W.heap.size → ActAt W' W.heap.size (1, s, i) → Calls Tryz.prog 9 #[.pointer (some ⟨lb, 0, none⟩), .string s, .int .i64 i] W' fun e w' => e = .returned (.bool (isFilter (tl s) && !Sof A (lvs (tl s)) i)) ∧ TF w0 w' t lb (addA A (tl s) i) (addA A (tl s) i) (K + 65537) W.heap.size ∧ ActAt w' W.heap.size (1, s, i)) :=
    fun W' h1 h2 => (tf_ladd h1 hT s sz i (by omega)).mono fun e w' ⟨q1, q2, q3⟩ => ⟨q1, q2, q3.trans h2⟩
  generalize (isFilter (tl s) && !Sof A (lvs (tl s)) i) = bb at KT KL
  clear h ha
  go_enter Tryz.func5, Tryz.ntmps5
  go_wp2
  go_region_held3 (fun W' => W'.cell? ⟨W.heap.size, 1, none⟩ = some (.string s) ∧ W'.cell? ⟨W.heap.size, 2, none⟩ = some (.int .i64 i)) (first | with_reducible assumption | with_reducible exact ⟨z1, z2⟩ | with_reducible exact ⟨y1, y2⟩ | exact ⟨x1, x2⟩) (first
    | (go_at_call 8; refine KT.out.mono ?_; rintro e w2 ⟨rfl, h2, a2⟩; obtain ⟨_, y1, y2⟩ := a2.c)
    | (go_at_call 9; refine (KL.out _ h2 a2).mono ?_; rintro e w3 ⟨rfl, h3, a3⟩; obtain ⟨_, z1, z2⟩ := a3.c))
  go_wp2
  go_ret
  refine ⟨?_, h3.tl⟩
  first | rfl | (show Ending.returned (.bool _) = _; simp)
set_option maxRecDepth 100000 in
set_option maxHeartbeats 4000000 in
theorem act_rem (h : TL w0 W t lb A A K) (hT : Tabs w0) (s : ByteArray) (i : Int) (sz : s.size ≤ 9223372036854775807) (wf : (Lit.int .i64 i).wf = true) (hA : A.length ≤ 1048576) :
    Calls Tryz.prog 5 #[.pointer (some ⟨t, 0, none⟩), .pointer (some ⟨lb, 0, none⟩), .agg #[.int .i64 2, .string s, .int .i64 i]] W fun e w' => e = .returned (.bool true) ∧ TL w0 w' t lb (remA A (tl s) i) (remA A (tl s) i) K := by
  have H1 := Lib.hid (h.tf (.cells #[.int .i64 2, .string s, .int .i64 i] 31))
  have ha : ActAt (W.alloc (.cells #[.int .i64 2, .string s, .int .i64 i] 31)) W.heap.size (2, s, i) := heap_alloc_new W _
  obtain ⟨x0, x1, x2⟩ := ha.c
  have HA := Lib.hid ha
  have KT : Hid (Calls Tryz.prog 10 #[.pointer (some ⟨t, 0, none⟩), .string s, .int .i64 i] (W.alloc (.cells #[.int .i64 2, .string s, .int .i64 i] 31)).drew fun e w' => e = .returned (.bool (Sof A (lvs (tl s)) i)) ∧ TF w0 w' t lb (remA A (tl s) i) A K W.heap.size ∧ ActAt w' W.heap.size (2, s, i)) :=
    (tf_trem (H1.out.below (Below.drew (Below.refl _ _))) hT s sz i wf).mono fun e w' ⟨q1, q2, q3⟩ => ⟨q1, q2, q3.trans ha⟩
  have KL : Hid (∀ W', TF w0 W' t lb (remA A (tl s) i) A K W.heap.size → ActAt W' W.heap.size (2, s, i) → Calls Tryz.prog 11 #[.pointer (some ⟨lb, 0, none⟩), .string s, .int .i64 i] W' fun e w' => e = .returned (.bool (Sof A (lvs (tl s)) i)) ∧ TF w0 w' t lb (remA A (tl s) i) (remA A (tl s) i) K W.heap.size ∧ ActAt w' W.heap.size (2, s, i)) :=
    fun W' h1 h2 => (tf_lrem h1 s i (by omega)).mono fun e w' ⟨q1, q2, q3⟩ => ⟨q1, q2, q3.trans h2⟩
  generalize Sof A (lvs (tl s)) i = bb at KT KL
  clear h ha
  go_enter Tryz.func5, Tryz.ntmps5
  go_wp2
  go_region_held3 (fun W' => W'.cell? ⟨W.heap.size, 1, none⟩ = some (.string s) ∧ W'.cell? ⟨W.heap.size, 2, none⟩ = some (.int .i64 i)) (first | with_reducible assumption | with_reducible exact ⟨z1, z2⟩ | with_reducible exact ⟨y1, y2⟩ | exact ⟨x1, x2⟩) (first
    | (go_at_call 10; refine KT.out.mono ?_; rintro e w2 ⟨rfl, h2, a2⟩; obtain ⟨_, y1, y2⟩ := a2.c)
    | (go_at_call 11; refine (KL.out _ h2 a2).mono ?_; rintro e w3 ⟨rfl, h3, a3⟩; obtain ⟨_, z1, z2⟩ := a3.c))
  go_wp2
  go_ret
  refine ⟨?_, h3.tl⟩
  first | rfl | (show Ending.returned (.bool _) = _; simp)
end

section
variable {w0 W : World} {t lb : Nat} {A : List (Bs × Int)} {K : Nat}

theorem TL.has {L : List (Bs × Int)} (h : TL w0 W t lb A L K) : Has w0 W t A K := by obtain ⟨q1, nd, own, n, v, q2, _⟩ := h; exact ⟨q1, nd, own, n, q2⟩
theorem subs_len {e : Bs × Int} (h : Subs A) (he : e ∈ A) : e.1.length ≤ 65535 := by
  have hfil := h.fil e he
  simp only [isFilter, okText, Bool.and_eq_true, decide_eq_true_eq] at hfil; exact hfil.1.1.1.2
theorem match_eq (hS : Subs A) {n : Bs} {l l' : List Int} (h1 : Rise l) (h2 : ∀ i, i ∈ l ↔ (isName n = true ∧ hears (Sof A) n i = true)) (h3 : Rise l') (h4 : ∀ i, i ∈ l' ↔ ∃ f, (f, i) ∈ A ∧ matchesR f n = true) : l = l' :=
  h1.ext h3 fun i => by
    rw [h2 i, h4 i]
    constructor
    · rintro ⟨a, b⟩; exact (hears_iff hS a i).1 b
    · rintro ⟨f, h5, h6⟩
      have hn : isName n = true := by unfold matchesR at h6; simp only [Bool.and_eq_true] at h6; exact h6.1.1.2
      exact ⟨hn, (hears_iff hS hn i).2 ⟨f, h5, h6⟩⟩

set_option maxRecDepth 100000 in
set_option maxHeartbeats 4000000 in
theorem act_match (h : TL w0 W t lb A A K) (hT : Tabs w0) (s : ByteArray) (i : Int) (sz : s.size ≤ 9223372036854775807) (hK : A.length + K < maxLen) (hA : A.length ≤ 1048576) :
    Calls Tryz.prog 5 #[.pointer (some ⟨t, 0, none⟩), .pointer (some ⟨lb, 0, none⟩), .agg #[.int .i64 3, .string s, .int .i64 i]] W fun e w' => e = .returned (.bool true) ∧ TL w0 w' t lb A A K := by
  have hS := h.subs
  have ha : ActAt (W.alloc (.cells #[.int .i64 3, .string s, .int .i64 i] 31)) W.heap.size (3, s, i) := heap_alloc_new W _
  have H1 := h.below (below1 W (.cells #[.int .i64 3, .string s, .int .i64 i] 31))
  generalize hW1 : W.alloc (.cells #[.int .i64 3, .string s, .int .i64 i] 31) = W1 at ha H1
  have XC : Hid (∀ W', Below W1.heap.size W1 W' → W'.cell? ⟨W.heap.size, 0, none⟩ = some (.int .i64 3) ∧ W'.cell? ⟨W.heap.size, 1, none⟩ = some (.string s)) := fun W' hB => ⟨(ha.below hB).c.1, (ha.below hB).c.2.1⟩
  have KM : Hid (∀ W', Below W1.heap.size W1 W' → Calls Tryz.prog 12 #[.pointer (some ⟨t, 0, none⟩), .string s] W' fun e w' => ∃ a c l, e = .returned (.slice a l.length c) ∧ (Rise l ∧ ∀ i, i ∈ l ↔ (isName (tl s) = true ∧ hears (Sof A) (tl s) i = true)) ∧ l.length ≤ A.length ∧ IntsAt w' W1.heap.size (.slice a l.length c) l ∧ Below W1.heap.size W1 w') := fun W' hB =>
    (has_match (H1.has.below hB) hT s sz hK (by omega)).mono fun e w' ⟨v, l, q1, q2, q3, q4, q5, q6⟩ => by
      obtain ⟨a, c, rfl⟩ : ∃ a c, v = .slice a l.length c := by
        obtain ⟨_, ⟨rfl, q⟩ | ⟨g, c, cur, rfl, _⟩⟩ := q5
        · exact ⟨none, 0, by rw [q]⟩
        · exact ⟨_, _, rfl⟩
      exact ⟨a, c, l, q1, ⟨q2, q3⟩, q4, row_lower q5 hB.size, hB.trans (q6.mono hB.size)⟩
  have KL : Hid (∀ W', Below W1.heap.size W1 W' → Calls Tryz.prog 14 #[.pointer (some ⟨lb, 0, none⟩), .string s] W' fun e w' => ∃ a c l, e = .returned (.slice a l.length c) ∧ (Rise l ∧ ∀ i, i ∈ l ↔ ∃ f, (f, i) ∈ A ∧ matchesR f (tl s) = true) ∧ IntRow w' (.slice a l.length c) l ∧ Below W'.heap.size W' w' ∧ Below W1.heap.size W1 w') := fun W' hB => by
    obtain ⟨_, nd, own, n, v, h2, h3, _⟩ := id H1
    exact (lmatch_any (h3.below hB) s sz (fun e he => subs_len hS he) (hT.from (Nat.le_refl _) ((H1.below hB).1)) (by omega)).mono fun e w' ⟨a, c, l, q1, q2, q3, q4, q5, q6⟩ => ⟨a, c, l, q1, ⟨q2, q3⟩, IntsAt.row q5, q6, hB.trans (q6.mono hB.size)⟩
  have KSm := Lib.hid same_any
  have HE : Hid (∀ l l' : List Int, (Rise l ∧ ∀ i, i ∈ l ↔ (isName (tl s) = true ∧ hears (Sof A) (tl s) i = true)) → (Rise l' ∧ ∀ i, i ∈ l' ↔ ∃ f, (f, i) ∈ A ∧ matchesR f (tl s) = true) → l = l') := fun l l' a b => match_eq hS a.1 a.2 b.1 b.2
  obtain ⟨x0, x1⟩ := XC.out _ (Below.refl _ _)
  have HT1 : Hid (TL w0 W1 t lb A A K) := H1
  have hb1 := Below.refl W1.heap.size W1
  clear h H1 ha
  go_enter Tryz.func5, Tryz.ntmps5
  go_wp2_with (first
    | (go_at_call 12; refine (KM.out _ hb1).mono ?_; rintro e w2 ⟨a2, c2, l2, rfl, e2, n2, t2, h2⟩; obtain ⟨y0, y1⟩ := XC.out _ h2; have T2 := Lib.hid t2; clear t2)
    | (go_at_call 14; refine (KL.out _ h2).mono ?_; rintro e w3 ⟨a3, c3, l3, rfl, e3, t3, h3, h3'⟩; have E := Lib.hid (HE.out _ _ e2 e3); clear e2 e3; have T3 := Lib.hid t3; clear t3)
    | (go_at_call 13; refine (KSm.out _ _ l2 l3 _ ((IntsAt.row T2.out).below h3) T3.out (by omega)).mono ?_; rintro e w4 ⟨rfl, q4⟩; rw [decide_eq_true E.out]; have h4 := h3'.trans (q4.mono h3'.size); have h24 := h3.trans (q4.mono h3.size)))
  have R4 : Hid (l2.length = 0 ∨ ∃ g cur, a2 = some ⟨g, 0, none⟩ ∧ W1.heap.size ≤ g ∧ w4.heap[g]? = some (.cells cur 3 (0, 0)) ∧ l2.length ≤ cur.size) := by
    obtain ⟨_, ⟨_, q⟩ | ⟨g, c, cur, q1, q2, q3, q4, q5, q6, q7⟩⟩ := T2.out
    · exact .inl q
    · simp only [Value.slice.injEq, true_and] at q1
      obtain ⟨rfl, rfl⟩ := q1
      exact .inr ⟨g, cur, rfl, q2, (h24.block g (Array.getElem?_eq_some_iff.1 q3).1).trans q3, by omega⟩
  clear T2 T3 E
  go_loopg [9] l2.length (fun gk s9 wx => ∃ j : Nat, j + gk = l2.length ∧ s9 = .int .i64 j ∧ Below W1.heap.size W1 wx ∧ (l2.length = 0 ∨ ∃ g cur, a2 = some ⟨g, 0, none⟩ ∧ W1.heap.size ≤ g ∧ wx.heap[g]? = some (.cells cur 3 (0, 0)) ∧ l2.length ≤ cur.size))
  case atStart => exact ⟨0, by omega, rfl, h4, R4.out⟩
  case round =>
    obtain ⟨j, hjg, rfl, hB, hR⟩ := hrel
    cases gk with
    | zero =>
      obtain rfl : j = l2.length := by omega
      clear hR
      go_wp2
      go_ret
      exact ⟨rfl, HT1.out.below hB⟩
    | succ gq =>
      have hj : j < l2.length := by omega
      have hj' : ((j : Nat) : Int) < (l2.length : Int) := by omega
      obtain ⟨g, cur, rfl, r1, r2, r3⟩ := hR.resolve_left (by omega)
      have y : wr.cell? ⟨g, j, none⟩ = some (cur[j]'(by omega)) := by rw [cell_at r2 j]; exact Array.getElem?_eq_getElem (by omega)
      have yf := frozen_at r2 j
      have R2 := Lib.hid r2
      generalize cur[j]'(by omega) = u at y
      clear r2 R4
      go_wp2
      go_roundg gq
      case measure => omega
      case rel =>
        refine ⟨j + 1, by omega, by first | rfl | rw [wrap64_nat (by omega)] | simp, hB.setCell (p := ⟨g, j, none⟩) r1 _, .inr ⟨g, _, rfl, r1, block_set (i := j) R2.out _, ?_⟩⟩
        rw [Array.size_setIfInBounds]; exact r3

set_option maxRecDepth 100000 in
set_option maxHeartbeats 4000000 in
theorem act_under (h : TL w0 W t lb A A K) (hT : Tabs w0) (s : ByteArray) (i : Int) (sz : s.size ≤ 9223372036854775807) (hK8 : K * 8 ≤ 140737488355328) (hA : A.length ≤ 1048576) :
    Calls Tryz.prog 5 #[.pointer (some ⟨t, 0, none⟩), .pointer (some ⟨lb, 0, none⟩), .agg #[.int .i64 4, .string s, .int .i64 i]] W fun e w' => e = .returned (.bool true) ∧ TL w0 w' t lb A A K := by
  have hS := h.subs
  have ha : ActAt (W.alloc (.cells #[.int .i64 4, .string s, .int .i64 i] 31)) W.heap.size (4, s, i) := heap_alloc_new W _
  have H1 := h.below (below1 W (.cells #[.int .i64 4, .string s, .int .i64 i] 31))
  generalize hW1 : W.alloc (.cells #[.int .i64 4, .string s, .int .i64 i] 31) = W1 at ha H1
  have XC : Hid (∀ W', Below W1.heap.size W1 W' → W'.cell? ⟨W.heap.size, 0, none⟩ = some (.int .i64 4) ∧ W'.cell? ⟨W.heap.size, 1, none⟩ = some (.string s)) := fun W' hB => ⟨(ha.below hB).c.1, (ha.below hB).c.2.1⟩
  have KM : Hid (∀ W', Below W1.heap.size W1 W' → Calls Tryz.prog 15 #[.pointer (some ⟨t, 0, none⟩), .string s] W' fun e w' => ∃ a c l, e = .returned (.slice a l.length c) ∧ (Rise l ∧ ∀ i, i ∈ l ↔ (tl s, i) ∈ A) ∧ l.length ≤ A.length ∧ IntRow w' (.slice a l.length c) l ∧ Below W1.heap.size W1 w') := fun W' hB => by
    obtain ⟨qb, nd, own, n, v, h2, h3, _⟩ := H1.below hB
    have hTw := hT.from (Nat.le_refl _) qb
    cases hF : isFilter (tl s) with
    | true =>
      exact (under_yes h2 s sz hTw hF hK8).mono fun e w' ⟨a, c, l, q1, q2, q3, q4, q5⟩ => ⟨a, c, l, q1, ⟨q2, fun i => by rw [q3 i, Sof_lvs]⟩, irise_len q2 (fun i hi => ⟨tl s, Sof_lvs.1 ((q3 i).1 hi)⟩), IntsAt.row q4, hB.trans (q5.mono hB.size)⟩
    | false =>
      exact (under_no h2 s sz hTw hF).mono fun e w' ⟨q1, q2⟩ => ⟨none, 0, [], q1, ⟨List.Pairwise.nil, fun i => ⟨(fun h => by cases h), (fun h => by have := hS.fil _ h; rw [hF] at this; cases this)⟩⟩, Nat.zero_le _, .inl ⟨rfl, rfl⟩, hB.trans (q2.mono hB.size)⟩
  have KL : Hid (∀ W', Below W1.heap.size W1 W' → Calls Tryz.prog 16 #[.pointer (some ⟨lb, 0, none⟩), .string s] W' fun e w' => ∃ a c l, e = .returned (.slice a l.length c) ∧ (Rise l ∧ ∀ i, i ∈ l ↔ (tl s, i) ∈ A) ∧ IntRow w' (.slice a l.length c) l ∧ Below W'.heap.size W' w' ∧ Below W1.heap.size W1 w') := fun W' hB => by
    obtain ⟨_, nd, own, n, v, h2, h3, _⟩ := id H1
    have := lunder_any (h3.below hB) (tl s) (by omega)
    rw [bs_tl] at this
    exact this.mono fun e w' ⟨a, c, l, q1, q2, q3, q4, q5, q6⟩ => ⟨a, c, l, q1, ⟨q2, q3⟩, IntsAt.row q5, q6, hB.trans (q6.mono hB.size)⟩
  have KSm := Lib.hid same_any
  have HE : Hid (∀ l l' : List Int, (Rise l ∧ ∀ i, i ∈ l ↔ (tl s, i) ∈ A) → (Rise l' ∧ ∀ i, i ∈ l' ↔ (tl s, i) ∈ A) → l = l') := fun l l' a b => a.1.ext b.1 fun i => by rw [a.2 i, b.2 i]
  obtain ⟨x0, x1⟩ := XC.out _ (Below.refl _ _)
  have KM1 := Lib.hid (KM.out _ (Below.drew (Below.refl W1.heap.size W1)))
  have HT1 : Hid (TL w0 W1 t lb A A K) := H1
  clear h H1 ha KM
  go_enter Tryz.func5, Tryz.ntmps5
  go_wp2_with fail
  go_region_held3 (fun W' => W'.cell? ⟨W.heap.size, 1, none⟩ = some (.string s)) (first | with_reducible assumption | exact x1) (first
    | (go_at_call 15; refine KM1.out.mono ?_; rintro e w2 ⟨a2, c2, l2, rfl, e2, n2, t2, h2⟩; obtain ⟨y0, y1⟩ := XC.out _ h2; have T2 := Lib.hid t2; clear t2)
    | (go_at_call 16; refine (KL.out _ h2).mono ?_; rintro e w3 ⟨a3, c3, l3, rfl, e3, t3, h3, h3'⟩; have E := Lib.hid (HE.out _ _ e2 e3); clear e2 e3; have T3 := Lib.hid t3; clear t3; have z1 := (XC.out _ h3').2)
    | (go_at_call 13; refine (KSm.out _ _ l2 l3 _ (T2.out.below h3) T3.out (by omega)).mono ?_; rintro e w4 ⟨rfl, q4⟩; rw [decide_eq_true E.out]; have h4 := h3'.trans (q4.mono h3'.size); have z2 := (XC.out _ h4).2))
  go_wp2
  go_ret
  exact ⟨rfl, HT1.out.below h4⟩

set_option maxRecDepth 100000 in
set_option maxHeartbeats 4000000 in
theorem act_all (h : TL w0 W t lb A A K) (s : ByteArray) (i : Int) (hA : A.length ≤ 1048576) :
    Calls Tryz.prog 5 #[.pointer (some ⟨t, 0, none⟩), .pointer (some ⟨lb, 0, none⟩), .agg #[.int .i64 5, .string s, .int .i64 i]] W fun e w' => e = .returned (.bool true) ∧ TL w0 w' t lb A A K := by
  have ha : ActAt (W.alloc (.cells #[.int .i64 5, .string s, .int .i64 i] 31)) W.heap.size (5, s, i) := heap_alloc_new W _
  have x0 := ha.c.1
  have H1 := h.below (below1 W (.cells #[.int .i64 5, .string s, .int .i64 i] 31))
  have KW := Lib.hid (whole_any H1 (Same.refl A) hA)
  have HT1 := Lib.hid H1
  clear h H1 ha
  go_enter Tryz.func5, Tryz.ntmps5
  go_wp2_with (first
    | (go_at_call 6; refine KW.out.mono ?_; rintro e w2 ⟨rfl, h2⟩))
  go_ret
  exact ⟨rfl, HT1.out.below h2⟩

set_option maxRecDepth 100000 in
set_option maxHeartbeats 4000000 in
theorem act_none (h : TL w0 W t lb A A K) (k : Int) (s : ByteArray) (i : Int) (k1 : k ≠ 1) (k2 : k ≠ 2) (k3 : k ≠ 3) (k4 : k ≠ 4) (k5 : k ≠ 5) :
    Calls Tryz.prog 5 #[.pointer (some ⟨t, 0, none⟩), .pointer (some ⟨lb, 0, none⟩), .agg #[.int .i64 k, .string s, .int .i64 i]] W fun e w' => e = .returned (.bool true) ∧ TL w0 w' t lb A A K := by
  have ha : ActAt (W.alloc (.cells #[.int .i64 k, .string s, .int .i64 i] 31)) W.heap.size (k, s, i) := heap_alloc_new W _
  have x0 := ha.c.1
  have HT1 := Lib.hid (h.below (below1 W (.cells #[.int .i64 k, .string s, .int .i64 i] 31)))
  clear h ha
  have e1 : (k == 1) = false := by simpa using k1
  have e2 : (k == 2) = false := by simpa using k2
  have e3 : (k == 3) = false := by simpa using k3
  have e4 : (k == 4) = false := by simpa using k4
  have e5 : (k == 5) = false := by simpa using k5
  clear k1 k2 k3 k4 k5
  go_enter Tryz.func5, Tryz.ntmps5
  go_wp2
  go_ret
  exact ⟨rfl, HT1.out⟩

theorem act_any (h : TL w0 W t lb A A K) (hT : Tabs w0) (x : Ac) (sz : x.2.1.size ≤ 9223372036854775807) (wf : (Lit.int .i64 x.2.2).wf = true) (hK8 : (K + 65537) * 8 ≤ 140737488355328) (hA : A.length ≤ 1048576) :
    Calls Tryz.prog 5 #[.pointer (some ⟨t, 0, none⟩), .pointer (some ⟨lb, 0, none⟩), .agg #[.int .i64 x.1, .string x.2.1, .int .i64 x.2.2]] W fun e w' => e = .returned (.bool true) ∧ TL w0 w' t lb (stepA A x) (stepA A x) (K + 65537) := by
  obtain ⟨k, s, i⟩ := x
  unfold stepA
  simp only at sz wf ⊢
  have up : ∀ {e : Ending} {w' : World} {B : List (Bs × Int)} {v : Ending}, (e = v ∧ TL w0 w' t lb B B K) → (e = v ∧ TL w0 w' t lb B B (K + 65537)) := fun ⟨q1, q2⟩ => ⟨q1, q2.mono (by omega)⟩
  by_cases h1 : k = 1
  · subst h1; rw [if_pos rfl]; exact act_add h hT s i sz wf (by unfold maxLen; omega) hA
  · rw [if_neg h1]
    by_cases h2 : k = 2
    · subst h2; rw [if_pos rfl]; exact (act_rem h hT s i sz wf hA).mono fun e w' q => up q
    · rw [if_neg h2]
      by_cases h3 : k = 3
      · subst h3; exact (act_match h hT s i sz (by unfold maxLen; omega) hA).mono fun e w' q => up q
      · by_cases h4 : k = 4
        · subst h4; exact (act_under h hT s i sz (by omega) hA).mono fun e w' q => up q
        · by_cases h5 : k = 5
          · subst h5; exact (act_all h s i hA).mono fun e w' q => up q
          · exact (act_none h k s i h1 h2 h3 h4 h5).mono fun e w' q => up q
end

set_option maxRecDepth 100000 in
set_option maxHeartbeats 4000000 in
theorem law_plays (w : World) (v : Value) (X : List Ac) (hX : ActRow w v X) (hok : ActOk X) (hlX : X.length ≤ 1048576) (hT : Tabs w) :
    Calls Tryz.prog 3 #[v] w fun e w' => e = .returned (.bool true) ∧ Below w.heap.size w w' := by
  have KN : Hid (Calls Tryz.prog 4 #[] w fun e w' => ∃ t, e = .returned (.pointer (some ⟨t, 0, none⟩)) ∧ TL w (w'.alloc (.cells #[.slice none 0 0] 28)) t w'.heap.size [] [] 0) := (new_any w).mono fun e w' ⟨t, nd, own, n, h1, h2, h3⟩ => by
    have htl := (Array.getElem?_eq_some_iff.1 h2.cell).1
    refine ⟨t, h1, h3.alloc h3.size _, nd, own, n, .slice none 0 0, h2.below (below1 _ _), ⟨heap_alloc_new _ _, World.ownsRow_nil _ _ _ _, by simp [Value.ownBlock], h3.size⟩, ?_, by omega, fun g e => by cases e⟩
    cases ho : own w'.heap.size with
    | none => rfl
    | some z => exact absurd (h2.g.lt _ (by rw [ho]; simp)) (by omega)
  have hsv : ∃ a c, v = .slice a X.length c := by rcases hX with ⟨⟨_, _, rfl⟩, rfl⟩ | ⟨g, o, c, rfl, _⟩ <;> exact ⟨_, _, rfl⟩
  obtain ⟨a, c, rfl⟩ := hsv
  have KA : Hid (∀ W, Below w.heap.size w W → Calls Tryz.prog 7 #[] W fun e w' => e = .returned (.bool true) ∧ Below W.heap.size W w') := fun W h => awake_any W (hT.from (Nat.le_refl _) h)
  go_enter Tryz.func3, Tryz.ntmps3
  go_wp2_with (first
    | (go_at_call 4; refine KN.out.mono ?_; rintro e w1 ⟨t, rfl, h1⟩))
  generalize hlb : w1.heap.size = lb at h1 ⊢
  clear hlb
  go_loopg [5] X.length (fun gk s5 wx => ∃ j : Nat, j + gk = X.length ∧ s5 = .int .i64 j ∧ TL w wx t lb (runA (X.take j)) (runA (X.take j)) (j * 65537))
  case atStart => exact ⟨0, by omega, rfl, by simpa [runA] using h1⟩
  case round =>
    obtain ⟨j, hjg, rfl, hTL⟩ := hrel
    have hl : (runA (X.take j)).length ≤ j := by have := runA_len (X.take j); rw [List.length_take] at this; omega
    cases gk with
    | zero =>
      obtain rfl : j = X.length := by omega
      have KW := Lib.hid (whole_any hTL (Same.refl _) (by omega))
      have hb := hTL.1
      clear hTL
      go_wp2_with (first
        | (go_at_call 6; refine KW.out.mono ?_; rintro e w2 ⟨rfl, h2⟩; have h2' := hb.trans (h2.mono hb.size))
        | (go_at_call 7; refine (KA.out _ h2').mono ?_; rintro e w3 ⟨rfl, h3⟩))
      go_ret
      exact ⟨rfl, h2'.trans (h3.mono h2'.size)⟩
    | succ gq =>
      have hj : j < X.length := by omega
      have hj' : ((j : Nat) : Int) < (X.length : Int) := by omega
      have hmem : X[j] ∈ X := List.getElem_mem hj
      have HR := Lib.hid (runA_take X j hj)
      obtain ⟨g, o, c', e0, hgl, hcx⟩ := hX.resolve_left (fun h0 => by rw [h0.2] at hj; simp at hj)
      simp only [Value.slice.injEq, true_and] at e0
      obtain ⟨rfl, rfl⟩ := e0
      have hcj := hcx j X[j] (List.getElem?_eq_getElem hj)
      have hBw := hTL.1
      obtain ⟨x0, x1, x2⟩ : wr.cell? ⟨g, o + j * 3, none⟩ = some (.int .i64 X[j].1) ∧ wr.cell? ⟨g, o + j * 3 + 1, none⟩ = some (.string X[j].2.1) ∧ wr.cell? ⟨g, o + j * 3 + 2, none⟩ = some (.int .i64 X[j].2.2) := by
        unfold World.cell? at hcj ⊢
        rw [hBw.block g hgl]; exact hcj
      have KC := Lib.hid (act_any hTL hT X[j] (hok.sz _ hmem) (hok.wf _ hmem) (by omega) (by omega))
      clear hTL hcx hcj
      go_wp2_with (first
        | (go_at_call 5; refine KC.out.mono ?_; rintro e w2 ⟨rfl, h2⟩; have H2 := Lib.hid h2; clear h2))
      go_roundg gq
      case measure => omega
      case rel =>
        refine ⟨j + 1, by omega, by first | rfl | rw [wrap64_nat (by omega)] | simp, ?_⟩
        rw [HR.out, show (j + 1) * 65537 = j * 65537 + 65537 by omega]
        exact H2.out
end Go.Proofs.YtcnglhlljmfanaaGreatDoor
