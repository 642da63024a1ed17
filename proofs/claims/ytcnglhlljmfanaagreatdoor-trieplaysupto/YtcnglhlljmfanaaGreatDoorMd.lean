/- A trie and a list side by side, and a script's calls that add and take away, done to both; what is asked of the world: the two tables of unicode/utf8 as their text lays them. -/
import Derived.Test.YtcnglhlljmfanaaGreatDoorMc
namespace Go.Proofs.YtcnglhlljmfanaaGreatDoor
open Go.RowKit Tp Go.Maps Go.Shelf

/-- The trie at t stands for A, the list at lb for L, both new since w0. -/
def TL (w0 W : World) (t lb : Nat) (A L : List (Bs × Int)) (K : Nat) : Prop :=
  Below w0.heap.size w0 W ∧ ∃ nd own n v, TrieAt W t w0.heap.size A nd own n K ∧ ListAt W lb w0.heap.size v L ∧ own lb = none ∧ lb ≠ t ∧ ∀ g, v.ownBlock = some g → own g = none ∧ g ≠ t

theorem TL.below {w0 W W' : World} {t lb : Nat} {A L : List (Bs × Int)} {K : Nat} (h : TL w0 W t lb A L K) (hB : Below W.heap.size W W') : TL w0 W' t lb A L K := by
  obtain ⟨h1, nd, own, n, v, h2, h3, h4⟩ := h
  exact ⟨h1.trans (hB.mono h1.size), nd, own, n, v, h2.below hB, h3.below hB, h4⟩
theorem TL.mono {w0 W : World} {t lb : Nat} {A L : List (Bs × Int)} {K K' : Nat} (h : TL w0 W t lb A L K) (hK : K ≤ K') : TL w0 W t lb A L K' := by
  obtain ⟨h1, nd, own, n, v, h2, h3⟩ := h
  exact ⟨h1, nd, own, n, v, { h2 with g := h2.g.mono hK }, h3⟩
theorem TL.subs {w0 W : World} {t lb : Nat} {A L : List (Bs × Int)} {K : Nat} (h : TL w0 W t lb A L K) : Subs A := by
  obtain ⟨h1, nd, own, n, v, h2, h3⟩ := h
  exact h2.subs

section
variable {w0 W : World} {t lb : Nat} {A L : List (Bs × Int)} {K : Nat}

theorem tl_t {W' : World} {nd : Pth → Option Nd} {own : Nat → Option (Pth × Nat)} {n : Nd} {v : Value} (h1 : Below w0.heap.size w0 W) (h2 : TrieAt W t w0.heap.size A nd own n K) (h3 : ListAt W lb w0.heap.size v L) (h4 : own lb = none) (h5 : lb ≠ t) (h6 : ∀ g, v.ownBlock = some g → own g = none ∧ g ≠ t)
    {A' : List (Bs × Int)} {K' : Nat} {nd' : Pth → Option Nd} {own' : Nat → Option (Pth × Nat)} {n' : Nd} (q1 : TrieAt W' t w0.heap.size A' nd' own' n' K') (q2 : Gro W own own') (q3 : But (Bl own) W W') : TL w0 W' t lb A' L K' := by
  have hlt := h3.lt
  have ho : ∀ k, k < W.heap.size → own k = none → own' k = none := fun k hk e => by
    cases h : own' k with
    | none => rfl
    | some z => exact (q2 k (by show own' k ≠ none; rw [h]; simp)).elim (fun h => absurd e h) (fun h => by omega)
  refine ⟨⟨q3.os.trans h1.os, q3.tape.trans h1.tape, q3.output.trans h1.output, Nat.le_trans h1.size q3.size, fun k hk => ?_⟩, nd', own', n', v, q1, h3.but q3 (fun c => c h4) (fun g e c => c (h6 g e).1), ho lb hlt.1 h4, h5, fun g e => ⟨ho g (hlt.2 g e).2 (h6 g e).1, (h6 g e).2⟩⟩
  exact (q3.block k (by have := h1.size; omega) (fun c => by have := h2.bas k c; omega)).trans (h1.block k hk)

theorem tl_tadd (h : TL w0 W t lb A L K) (hT : Tabs w0) (f : ByteArray) (hf : f.size ≤ 9223372036854775807) (i : Int) (hi : (Lit.int .i64 i).wf = true) (hK : K + 65537 < maxLen) :
    Calls Tryz.prog 8 #[.pointer (some ⟨t, 0, none⟩), .string f, .int .i64 i] W fun e w' => e = .returned (.bool (isFilter (tl f) && !Sof A (lvs (tl f)) i)) ∧ TL w0 w' t lb (addA A (tl f) i) L (K + 65537) := by
  obtain ⟨h1, nd, own, n, v, h2, h3, h4, h5, h6⟩ := h
  exact (add_any h2 h1.size f hf (hT.from (Nat.le_refl _) h1) i hi hK).mono fun e w' ⟨q0, ⟨nd', own', n', q1, q2⟩, q3⟩ => ⟨q0, tl_t h1 h2 h3 h4 h5 h6 q1 q2 q3⟩
theorem tl_trem (h : TL w0 W t lb A L K) (hT : Tabs w0) (f : ByteArray) (hf : f.size ≤ 9223372036854775807) (i : Int) (hi : (Lit.int .i64 i).wf = true) :
    Calls Tryz.prog 10 #[.pointer (some ⟨t, 0, none⟩), .string f, .int .i64 i] W fun e w' => e = .returned (.bool (Sof A (lvs (tl f)) i)) ∧ TL w0 w' t lb (remA A (tl f) i) L K := by
  obtain ⟨h1, nd, own, n, v, h2, h3, h4, h5, h6⟩ := h
  exact (rem_any h2 h1.size f hf (hT.from (Nat.le_refl _) h1) i hi).mono fun e w' ⟨q0, ⟨nd', own', n', q1, q2⟩, q3⟩ => ⟨q0, tl_t h1 h2 h3 h4 h5 h6 q1 q2 q3⟩

theorem tl_l {W' : World} {nd : Pth → Option Nd} {own : Nat → Option (Pth × Nat)} {n : Nd} {v v' : Value} (h1 : Below w0.heap.size w0 W) (h2 : TrieAt W t w0.heap.size A nd own n K) (h3 : ListAt W lb w0.heap.size v L) (h4 : own lb = none) (h5 : lb ≠ t) (h6 : ∀ g, v.ownBlock = some g → own g = none ∧ g ≠ t)
    {L' : List (Bs × Int)} (q1 : ListAt W' lb w0.heap.size v' L') (q2 : But (fun k => k = lb ∨ v.ownBlock = some k) W W') (q3 : ∀ g, v'.ownBlock = some g → v.ownBlock = some g ∨ W.heap.size ≤ g) : TL w0 W' t lb A L' K := by
  have htl := (Array.getElem?_eq_some_iff.1 h2.cell).1
  refine ⟨⟨q2.os.trans h1.os, q2.tape.trans h1.tape, q2.output.trans h1.output, Nat.le_trans h1.size q2.size, fun k hk => ?_⟩, nd, own, n, v', h2.but q2 (fun k c => c.elim (fun e => by rw [e]; exact ⟨h4, h5⟩) (fun e => h6 k e)), q1, h4, h5, fun g e => ?_⟩
  · refine (q2.block k (by have := h1.size; omega) (fun c => c.elim (fun e => ?_) (fun e => ?_))).trans (h1.block k hk)
    · have := h3.2.2.2; omega
    · have := (h3.lt.2 k e).1; omega
  · rcases q3 g e with q | q
    · exact h6 g q
    · refine ⟨?_, by omega⟩
      cases ho : own g with
      | none => rfl
      | some z => exact absurd (h2.g.lt g (by rw [ho]; simp)) (by omega)
theorem tl_ladd (h : TL w0 W t lb A L K) (hT : Tabs w0) (f : ByteArray) (hf : f.size ≤ 9223372036854775807) (i : Int) (hL : L.length < 4398046511104) :
    Calls Tryz.prog 9 #[.pointer (some ⟨lb, 0, none⟩), .string f, .int .i64 i] W fun e w' => e = .returned (.bool (isFilter (tl f) && !Sof L (lvs (tl f)) i)) ∧ TL w0 w' t lb A (addA L (tl f) i) K := by
  obtain ⟨h1, nd, own, n, v, h2, h3, h4, h5, h6⟩ := h
  exact (ladd_any h3 h1.size f hf (hT.from (Nat.le_refl _) h1) i hL).mono fun e w' ⟨q0, v', q1, q2, q3⟩ => ⟨q0, tl_l h1 h2 h3 h4 h5 h6 q1 q2 q3⟩
theorem tl_lrem (h : TL w0 W t lb A L K) (f : ByteArray) (i : Int) (hL : L.length ≤ 4398046511104) :
    Calls Tryz.prog 11 #[.pointer (some ⟨lb, 0, none⟩), .string f, .int .i64 i] W fun e w' => e = .returned (.bool (Sof L (lvs (tl f)) i)) ∧ TL w0 w' t lb A (remA L (tl f) i) K := by
  obtain ⟨h1, nd, own, n, v, h2, h3, h4, h5, h6⟩ := h
  exact (lrem_any h3 h1.size f i hL).mono fun e w' ⟨q0, v', q1, q2, q3⟩ => ⟨q0, tl_l h1 h2 h3 h4 h5 h6 q1 q2 q3⟩
end

/-- A script in memory: kinds, texts, numbers. -/
abbrev Ac := Int × ByteArray × Int
def ActRow (W : World) (v : Value) (X : List Ac) : Prop := ((∃ a c, v = .slice a 0 c) ∧ X = []) ∨ ∃ g o c, v = .slice (some ⟨g, o, none⟩) X.length c ∧ g < W.heap.size ∧ ∀ (j : Nat) (x : Ac), X[j]? = some x → W.cell? ⟨g, o + j * 3, none⟩ = some (.int .i64 x.1) ∧ W.cell? ⟨g, o + j * 3 + 1, none⟩ = some (.string x.2.1) ∧ W.cell? ⟨g, o + j * 3 + 2, none⟩ = some (.int .i64 x.2.2)
theorem ActRow.from {n : Nat} {W W' : World} {v : Value} {X : List Ac} (h : ActRow W v X) (hn : W.heap.size ≤ n) (hB : Below n W W') : ActRow W' v X := by
  rcases h with h | ⟨g, o, c, h0, h1, h2⟩
  · exact .inl h
  · refine .inr ⟨g, o, c, h0, Nat.lt_of_lt_of_le h1 hB.size, fun j x hj => ?_⟩
    have := h2 j x hj
    unfold World.cell? at this ⊢
    rw [hB.block g (by omega)]; exact this
structure ActOk (X : List Ac) : Prop where
  sz : ∀ x ∈ X, x.2.1.size ≤ 9223372036854775807
  wf : ∀ x ∈ X, (Lit.int .i64 x.2.2).wf = true

/-- What a script leaves. -/
def stepA (A : List (Bs × Int)) (x : Ac) : List (Bs × Int) := if x.1 = 1 then addA A (tl x.2.1) x.2.2 else if x.1 = 2 then remA A (tl x.2.1) x.2.2 else A
def runA (X : List Ac) : List (Bs × Int) := X.foldl stepA []
theorem step_len (A : List (Bs × Int)) (x : Ac) : (stepA A x).length ≤ A.length + 1 := by
  unfold stepA
  split
  · unfold addA; split <;> simp
  · split
    · have := List.length_erase_le (a := (tl x.2.1, x.2.2)) (l := A); unfold remA; omega
    · omega
theorem foldA_len : ∀ (X : List Ac) (A : List (Bs × Int)), (X.foldl stepA A).length ≤ A.length + X.length
  | [], A => by simp
  | x :: X, A => by have := foldA_len X (stepA A x); have := step_len A x; simp only [List.foldl_cons, List.length_cons]; omega
theorem runA_len (X : List Ac) : (runA X).length ≤ X.length := by have := foldA_len X []; unfold runA; simpa using this
theorem runA_take (X : List Ac) (j : Nat) (hj : j < X.length) : runA (X.take (j + 1)) = stepA (runA (X.take j)) X[j] := by
  unfold runA; rw [List.take_succ_eq_append_getElem hj, List.foldl_append]; rfl


/-- A row of names in memory. -/
def NamesAt (W : World) (v : Value) (Ns : List ByteArray) : Prop := ((∃ a c, v = .slice a 0 c) ∧ Ns = []) ∨ ∃ g o c, v = .slice (some ⟨g, o, none⟩) Ns.length c ∧ g < W.heap.size ∧ Row W g o Ns
theorem NamesAt.from {n : Nat} {W W' : World} {v : Value} {Ns : List ByteArray} (h : NamesAt W v Ns) (hn : W.heap.size ≤ n) (hB : Below n W W') : NamesAt W' v Ns := by
  rcases h with h | ⟨g, o, c, h0, h1, h2⟩
  · exact .inl h
  · exact .inr ⟨g, o, c, h0, Nat.lt_of_lt_of_le h1 hB.size, h2.below hB (by omega)⟩
end Go.Proofs.YtcnglhlljmfanaaGreatDoor
