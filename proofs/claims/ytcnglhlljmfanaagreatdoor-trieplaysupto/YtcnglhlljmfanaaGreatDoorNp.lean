/- act: one call of a script, done to a trie and a list that stand for the same subscriptions; what is asked of the world: the two tables of unicode/utf8 as their text lays them. -/
import Derived.Test.YtcnglhlljmfanaaGreatDoorNg
import Derived.Test.YtcnglhlljmfanaaGreatDoorNc2
import Derived.Test.YtcnglhlljmfanaaGreatDoorKx
import Derived.Test.YtcnglhlljmfanaaGreatDoorKt
namespace Go.Proofs.YtcnglhlljmfanaaGreatDoor
open Go.RowKit Tp Go.Maps Go.Shelf

set_option maxRecDepth 100000 in
set_option maxHeartbeats 2000000 in
theorem under_no {w : World} {t B : Nat} {A : List (Bs × Int)} {nd : Pth → Option Nd} {own : Nat → Option (Pth × Nat)} {n : Nd} {K : Nat} (h : TrieAt w t B A nd own n K) (f : ByteArray) (hf : f.size ≤ 9223372036854775807) (hT : Tabs w) (hF : isFilter (tl f) = false) :
    Calls Tryz.prog 15 #[.pointer (some ⟨t, 0, none⟩), .string f] w fun e w' => e = .returned (.slice none 0 0) ∧ Below w.heap.size w w' := by
  have KS : Hid (Calls Tryz.prog 23 #[.pointer (some ⟨t, 0, none⟩), .string f] w fun e w' => e = .returned (.tuple #[.agg #[.pointer none, .slice none 0 0], .bool false]) ∧ Below w.heap.size w w') :=
    (startOf_any h f hf hT).mono fun e w' ⟨h1, h2⟩ => ⟨(h2.resolve_right (fun h => by rw [hF] at h; cases h.1)).2, h1⟩
  clear h
  go_enter Tryz.func15, Tryz.ntmps15
  go_wp2_with (first
    | (go_at_call 23; refine KS.out.mono ?_; rintro e w1 ⟨rfl, hb1⟩))
  refine wp_loop_rounds 1 ?_
  rw [rounds_succ]
  go_wp2
  go_ret
  exact ⟨rfl, hb1.alloc hb1.size _⟩

/-- An act's three cells. -/
def ActAt (W : World) (b : Nat) (x : Ac) : Prop := W.heap[b]? = some (.cells #[.int .i64 x.1, .string x.2.1, .int .i64 x.2.2] 31 (0, 0))
theorem ActAt.below {W W' : World} {b : Nat} {x : Ac} (h : ActAt W b x) (hB : Below W.heap.size W W') : ActAt W' b x := (hB.block b (Array.getElem?_eq_some_iff.1 h).1).trans h
theorem ActAt.c {W : World} {b : Nat} {x : Ac} (h : ActAt W b x) : W.cell? ⟨b, 0, none⟩ = some (.int .i64 x.1) ∧ W.cell? ⟨b, 1, none⟩ = some (.string x.2.1) ∧ W.cell? ⟨b, 2, none⟩ = some (.int .i64 x.2.2) := by
  refine ⟨?_, ?_, ?_⟩
  · rw [cell_at h 0]; rfl
  · rw [cell_at h 1]; rfl
  · rw [cell_at h 2]; rfl

/-- A trie and a list side by side, and a block that is neither's. -/
def TF (w0 W : World) (t lb : Nat) (A L : List (Bs × Int)) (K b : Nat) : Prop :=
  Below w0.heap.size w0 W ∧ ∃ nd own n v, TrieAt W t w0.heap.size A nd own n K ∧ ListAt W lb w0.heap.size v L ∧ own lb = none ∧ lb ≠ t ∧ (∀ g, v.ownBlock = some g → own g = none ∧ g ≠ t) ∧ own b = none ∧ b ≠ t ∧ b ≠ lb ∧ v.ownBlock ≠ some b ∧ b < W.heap.size
theorem TF.tl {w0 W : World} {t lb : Nat} {A L : List (Bs × Int)} {K b : Nat} (h : TF w0 W t lb A L K b) : TL w0 W t lb A L K := by
  obtain ⟨h1, nd, own, n, v, h2, h3, h4, h5, h6, _⟩ := h
  exact ⟨h1, nd, own, n, v, h2, h3, h4, h5, h6⟩
theorem TL.tf {w0 W : World} {t lb : Nat} {A L : List (Bs × Int)} {K : Nat} (h : TL w0 W t lb A L K) (o : Obj) : TF w0 (W.alloc o) t lb A L K W.heap.size := by
  obtain ⟨h1, nd, own, n, v, h2, h3, h4, h5, h6⟩ := h
  have htl := (Array.getElem?_eq_some_iff.1 h2.cell).1
  have hlt := h3.lt
  refine ⟨h1.alloc h1.size _, nd, own, n, v, h2.below (below1 _ _), h3.below (below1 _ _), h4, h5, h6, ?_, by omega, by have := hlt.1; omega, fun e => by have := (hlt.2 _ e).2; omega, by simp⟩
  cases ho : own W.heap.size with
  | none => rfl
  | some z => exact absurd (h2.g.lt _ (by rw [ho]; simp)) (by omega)
theorem TF.below {w0 W W' : World} {t lb : Nat} {A L : List (Bs × Int)} {K b : Nat} (h : TF w0 W t lb A L K b) (hB : Below W.heap.size W W') : TF w0 W' t lb A L K b := by
  obtain ⟨h1, nd, own, n, v, h2, h3, h4, h5, h6, h7, h8, h9, h10, h11⟩ := h
  exact ⟨h1.trans (hB.mono h1.size), nd, own, n, v, h2.below hB, h3.below hB, h4, h5, h6, h7, h8, h9, h10, Nat.lt_of_lt_of_le h11 hB.size⟩

section
variable {w0 W : World} {t lb : Nat} {A L : List (Bs × Int)} {K b : Nat}
theorem tf_t {W' : World} {nd : Pth → Option Nd} {own : Nat → Option (Pth × Nat)} {n : Nd} {v : Value} (h1 : Below w0.heap.size w0 W) (h2 : TrieAt W t w0.heap.size A nd own n K) (h3 : ListAt W lb w0.heap.size v L) (h4 : own lb = none) (h5 : lb ≠ t) (h6 : ∀ g, v.ownBlock = some g → own g = none ∧ g ≠ t) (h7 : own b = none) (h8 : b ≠ t) (h9 : b ≠ lb) (h10 : v.ownBlock ≠ some b) (h11 : b < W.heap.size)
    {A' : List (Bs × Int)} {K' : Nat} {nd' : Pth → Option Nd} {own' : Nat → Option (Pth × Nat)} {n' : Nd} (q1 : TrieAt W' t w0.heap.size A' nd' own' n' K') (q2 : Gro W own own') (q3 : But (Bl own) W W') : TF w0 W' t lb A' L K' b ∧ W'.heap[b]? = W.heap[b]? := by
  have hlt := h3.lt
  have ho : ∀ k, k < W.heap.size → own k = none → own' k = none := fun k hk e => by
    cases h : own' k with
    | none => rfl
    | some z => exact (q2 k (by show own' k ≠ none; rw [h]; simp)).elim (fun h => absurd e h) (fun h => by omega)
  refine ⟨⟨⟨q3.os.trans h1.os, q3.tape.trans h1.tape, q3.output.trans h1.output, Nat.le_trans h1.size q3.size, fun k hk => ?_⟩, nd', own', n', v, q1, h3.but q3 (fun c => c h4) (fun g e c => c (h6 g e).1), ho lb hlt.1 h4, h5, fun g e => ⟨ho g (hlt.2 g e).2 (h6 g e).1, (h6 g e).2⟩, ho b h11 h7, h8, h9, h10, Nat.lt_of_lt_of_le h11 q3.size⟩, q3.block b h11 (fun c => c h7)⟩
  exact (q3.block k (by have := h1.size; omega) (fun c => by have := h2.bas k c; omega)).trans (h1.block k hk)
theorem tf_l {W' : World} {nd : Pth → Option Nd} {own : Nat → Option (Pth × Nat)} {n : Nd} {v v' : Value} (h1 : Below w0.heap.size w0 W) (h2 : TrieAt W t w0.heap.size A nd own n K) (h3 : ListAt W lb w0.heap.size v L) (h4 : own lb = none) (h5 : lb ≠ t) (h6 : ∀ g, v.ownBlock = some g → own g = none ∧ g ≠ t) (h7 : own b = none) (h8 : b ≠ t) (h9 : b ≠ lb) (h10 : v.ownBlock ≠ some b) (h11 : b < W.heap.size)
    {L' : List (Bs × Int)} (q1 : ListAt W' lb w0.heap.size v' L') (q2 : But (fun k => k = lb ∨ v.ownBlock = some k) W W') (q3 : ∀ g, v'.ownBlock = some g → v.ownBlock = some g ∨ W.heap.size ≤ g) : TF w0 W' t lb A L' K b ∧ W'.heap[b]? = W.heap[b]? := by
  have htl := (Array.getElem?_eq_some_iff.1 h2.cell).1
  refine ⟨⟨⟨q2.os.trans h1.os, q2.tape.trans h1.tape, q2.output.trans h1.output, Nat.le_trans h1.size q2.size, fun k hk => ?_⟩, nd, own, n, v', h2.but q2 (fun k c => c.elim (fun e => by rw [e]; exact ⟨h4, h5⟩) (fun e => h6 k e)), q1, h4, h5, fun g e => ?_, h7, h8, h9, fun e => ?_, Nat.lt_of_lt_of_le h11 q2.size⟩, q2.block b h11 (fun c => c.elim h9 h10)⟩
  · refine (q2.block k (by have := h1.size; omega) (fun c => c.elim (fun e => ?_) (fun e => ?_))).trans (h1.block k hk)
    · have := h3.2.2.2; omega
    · have := (h3.lt.2 k e).1; omega
  · rcases q3 g e with q | q
    · exact h6 g q
    · refine ⟨?_, by omega⟩
      cases ho : own g with
      | none => rfl
      | some z => exact absurd (h2.g.lt g (by rw [ho]; simp)) (by omega)
  · rcases q3 b e with q | q
    · exact h10 q
    · omega
theorem tf_tadd (h : TF w0 W t lb A L K b) (hT : Tabs w0) (f : ByteArray) (hf : f.size ≤ 9223372036854775807) (i : Int) (hi : (Lit.int .i64 i).wf = true) (hK : K + 65537 < maxLen) :
    Calls Tryz.prog 8 #[.pointer (some ⟨t, 0, none⟩), .string f, .int .i64 i] W fun e w' => e = .returned (.bool (isFilter (tl f) && !Sof A (lvs (tl f)) i)) ∧ TF w0 w' t lb (addA A (tl f) i) L (K + 65537) b ∧ w'.heap[b]? = W.heap[b]? := by
  obtain ⟨h1, nd, own, n, v, h2, h3, h4, h5, h6, h7, h8, h9, h10, h11⟩ := h
  exact (add_any h2 h1.size f hf (hT.from (Nat.le_refl _) h1) i hi hK).mono fun e w' ⟨q0, ⟨nd', own', n', q1, q2⟩, q3⟩ => ⟨q0, tf_t h1 h2 h3 h4 h5 h6 h7 h8 h9 h10 h11 q1 q2 q3⟩
theorem tf_trem (h : TF w0 W t lb A L K b) (hT : Tabs w0) (f : ByteArray) (hf : f.size ≤ 9223372036854775807) (i : Int) (hi : (Lit.int .i64 i).wf = true) :
    Calls Tryz.prog 10 #[.pointer (some ⟨t, 0, none⟩), .string f, .int .i64 i] W fun e w' => e = .returned (.bool (Sof A (lvs (tl f)) i)) ∧ TF w0 w' t lb (remA A (tl f) i) L K b ∧ w'.heap[b]? = W.heap[b]? := by
  obtain ⟨h1, nd, own, n, v, h2, h3, h4, h5, h6, h7, h8, h9, h10, h11⟩ := h
  exact (rem_any h2 h1.size f hf (hT.from (Nat.le_refl _) h1) i hi).mono fun e w' ⟨q0, ⟨nd', own', n', q1, q2⟩, q3⟩ => ⟨q0, tf_t h1 h2 h3 h4 h5 h6 h7 h8 h9 h10 h11 q1 q2 q3⟩
theorem tf_ladd (h : TF w0 W t lb A L K b) (hT : Tabs w0) (f : ByteArray) (hf : f.size ≤ 9223372036854775807) (i : Int) (hL : L.length < 4398046511104) :
    Calls Tryz.prog 9 #[.pointer (some ⟨lb, 0, none⟩), .string f, .int .i64 i] W fun e w' => e = .returned (.bool (isFilter (tl f) && !Sof L (lvs (tl f)) i)) ∧ TF w0 w' t lb A (addA L (tl f) i) K b ∧ w'.heap[b]? = W.heap[b]? := by
  obtain ⟨h1, nd, own, n, v, h2, h3, h4, h5, h6, h7, h8, h9, h10, h11⟩ := h
  exact (ladd_any h3 h1.size f hf (hT.from (Nat.le_refl _) h1) i hL).mono fun e w' ⟨q0, v', q1, q2, q3⟩ => ⟨q0, tf_l h1 h2 h3 h4 h5 h6 h7 h8 h9 h10 h11 q1 q2 q3⟩
theorem tf_lrem (h : TF w0 W t lb A L K b) (f : ByteArray) (i : Int) (hL : L.length ≤ 4398046511104) :
    Calls Tryz.prog 11 #[.pointer (some ⟨lb, 0, none⟩), .string f, .int .i64 i] W fun e w' => e = .returned (.bool (Sof L (lvs (tl f)) i)) ∧ TF w0 w' t lb A (remA L (tl f) i) K b ∧ w'.heap[b]? = W.heap[b]? := by
  obtain ⟨h1, nd, own, n, v, h2, h3, h4, h5, h6, h7, h8, h9, h10, h11⟩ := h
  exact (lrem_any h3 h1.size f i hL).mono fun e w' ⟨q0, v', q1, q2, q3⟩ => ⟨q0, tf_l h1 h2 h3 h4 h5 h6 h7 h8 h9 h10 h11 q1 q2 q3⟩
end

section
variable {w0 W : World} {t lb : Nat} {A : List (Bs × Int)} {K : Nat}
set_option maxRecDepth 100000 in
set_option maxHeartbeats 4000000 in
theorem act_add (h : TL w0 W t lb A A K) (hT : Tabs w0) (s : ByteArray) (i : Int) (sz : s.size ≤ 9223372036854775807) (wf : (Lit.int .i64 i).wf = true) (hK : K + 65537 < maxLen) (hA : A.length ≤ 1048576) :
    Calls Tryz.prog 5 #[.pointer (some ⟨t, 0, none⟩), .pointer (some ⟨lb, 0, none⟩), .agg #[.int .i64 1, .string s, .int .i64 i]] W fun e w' => e = .returned (.bool true) ∧ TL w0 w' t lb (addA A (tl s) i) (addA A (tl s) i) (K + 65537) := by
  have H1 := Lib.hid (h.tf (.cells #[.int .i64 1, .string s, .int .i64 i] 31))
  have ha : ActAt (W.alloc (.cells #[.int .i64 1, .string s, .int .i64 i] 31)) W.heap.size (1, s, i) := heap_alloc_new W _
  obtain ⟨x0, x1, x2⟩ := ha.c
  have HA := Lib.hid ha
  have KT : Hid (Calls Tryz.prog 8 #[.pointer (some ⟨t, 0, none⟩), .string s, .int .i64 i] (W.alloc (.cells #[.int .i64 1, .string s, .int .i64 i] 31)).drew fun e w' => e = .returned (.bool (isFilter (tl s) && !Sof A (lvs (tl s)) i)) ∧ TF w0 w' t lb (addA A (tl s) i) A (K + 65537) W.heap.size ∧ ActAt w' W.heap.size (1, s, i)) :=
    (tf_tadd (H1.out.below (Below.drew (Below.refl _ _))) hT s sz i wf hK).mono fun e w' ⟨q1, q2, q3⟩ => ⟨q1, q2, q3.trans ha⟩
  have KL : Hid (∀ W', TF w0 W' t lb (addA A (tl s) i) A (K + 65537) W.heap.size → ActAt W' W.heap.size (1, s, i) → Calls Tryz.prog 9 #[.pointer (some ⟨lb, 0, none⟩), .string s, .int .i64 i] W' fun e w' => e = .returned (.bool (isFilter (tl s) && !Sof A (lvs (tl s)) i)) ∧ TF w0 w' t lb (addA A (tl s) i) (addA A (tl s) i) (K + 65537) W.heap.size ∧ ActAt w' W.heap.size (1, s, i)) :=
    fun W' h1 h2 => (tf_ladd h1 hT s sz i (by omega)).mono fun e w' ⟨q1, q2, q3⟩ => ⟨q1, q2, q3.trans h2⟩
  generalize (isFilter (tl s) && !Sof A (lvs (tl s)) i) = bb at KT KL
  clear h ha
  go_enter Tryz.func5, Tryz.ntmps5
  go_wp2
  go_region_held3 (fun W' => W'.cell? ⟨W.heap.size, 1, none⟩ = some (.string s) ∧ W'.cell? ⟨W.heap.size, 2, none⟩ = some (.int .i64 i)) (first | with_reducible assumption | with_reducible exact ⟨z1, z2⟩ | with_reducible exact ⟨y1, y2⟩ | exact ⟨x1, x2⟩) (first
    | (go_at_call 8; refine KT.out.mono ?_; rintro e w2 ⟨rfl, h2, a2⟩; obtain ⟨_, y1, y2⟩ := a2.c)
    | (go_at_call 9; refine (KL.out _ h2 a2).mono ?_; rintro e w3 ⟨rfl, h3, a3⟩; obtain ⟨_, z1, z2⟩ := a3.c))
  go_wp2
  go_ret
  refine ⟨?_, h3.tl⟩
  first | rfl | (show Ending.returned (.bool _) = _; simp)
set_option maxRecDepth 100000 in
set_option maxHeartbeats 4000000 in
theorem act_rem (h : TL w0 W t lb A A K) (hT : Tabs w0) (s : ByteArray) (i : Int) (sz : s.size ≤ 9223372036854775807) (wf : (Lit.int .i64 i).wf = true) (hA : A.length ≤ 1048576) :
    Calls Tryz.prog 5 #[.pointer (some ⟨t, 0, none⟩), .pointer (some ⟨lb, 0, none⟩), .agg #[.int .i64 2, .string s, .int .i64 i]] W fun e w' => e = .returned (.bool true) ∧ TL w0 w' t lb (remA A (tl s) i) (remA A (tl s) i) K := by
  have H1 := Lib.hid (h.tf (.cells #[.int .i64 2, .string s, .int .i64 i] 31))
  have ha : ActAt (W.alloc (.cells #[.int .i64 2, .string s, .int .i64 i] 31)) W.heap.size (2, s, i) := heap_alloc_new W _
  obtain ⟨x0, x1, x2⟩ := ha.c
  have HA := Lib.hid ha
  have KT : Hid (Calls Tryz.prog 10 #[.pointer (some ⟨t, 0, none⟩), .string s, .int .i64 i] (W.alloc (.cells #[.int .i64 2, .string s, .int .i64 i] 31)).drew fun e w' => e = .returned (.bool (Sof A (lvs (tl s)) i)) ∧ TF w0 w' t lb (remA A (tl s) i) A K W.heap.size ∧ ActAt w' W.heap.size (2, s, i)) :=
    (tf_trem (H1.out.below (Below.drew (Below.refl _ _))) hT s sz i wf).mono fun e w' ⟨q1, q2, q3⟩ => ⟨q1, q2, q3.trans ha⟩
  have KL : Hid (∀ W', TF w0 W' t lb (remA A (tl s) i) A K W.heap.size → ActAt W' W.heap.size (2, s, i) → Calls Tryz.prog 11 #[.pointer (some ⟨lb, 0, none⟩), .string s, .int .i64 i] W' fun e w' => e = .returned (.bool (Sof A (lvs (tl s)) i)) ∧ TF w0 w' t lb (remA A (tl s) i) (remA A (tl s) i) K W.heap.size ∧ ActAt w' W.heap.size (2, s, i)) :=
    fun W' h1 h2 => (tf_lrem h1 s i (by omega)).mono fun e w' ⟨q1, q2, q3⟩ => ⟨q1, q2, q3.trans h2⟩
  generalize Sof A (lvs (tl s)) i = bb at KT KL
  clear h ha
  go_enter Tryz.func5, Tryz.ntmps5
  go_wp2
  go_region_held3 (fun W' => W'.cell? ⟨W.heap.size, 1, none⟩ = some (.string s) ∧ W'.cell? ⟨W.heap.size, 2, none⟩ = some (.int .i64 i)) (first | with_reducible assumption | with_reducible exact ⟨z1, z2⟩ | with_reducible exact ⟨y1, y2⟩ | exact ⟨x1, x2⟩) (first
    | (go_at_call 10; refine KT.out.mono ?_; rintro e w2 ⟨rfl, h2, a2⟩; obtain ⟨_, y1, y2⟩ := a2.c)
    | (go_at_call 11; refine (KL.out _ h2 a2).mono ?_; rintro e w3 ⟨rfl, h3, a3⟩; obtain ⟨_, z1, z2⟩ := a3.c))
  go_wp2
  go_ret
  refine ⟨?_, h3.tl⟩
  first | rfl | (show Ending.returned (.bool _) = _; simp)
end
end Go.Proofs.YtcnglhlljmfanaaGreatDoor
