/- Two rows of messages that grow side by side; no condition. -/
import Derived.Test.YtdgjhclncjoonaaRt
import Derived.Test.YtdgjhclncjoonaaBg
namespace Go.Proofs.Ytdgjhclncjoonaa
open Go.RowKit

/-- Which messages are late, and which are not. -/
def isL (now : Int) (x : Ms) : Bool := !(x.un == 0) && decide (x.un < now)
def lts (now : Int) (l : List Ms) : List Ms := l.filter (isL now)
def sts (now : Int) (l : List Ms) : List Ms := l.filter (fun x => !isL now x)
theorem lts_yes {now : Int} {l : List Ms} {j : Nat} {x : Ms} (hx : l[j]? = some x) (h : isL now x = true) : lts now (l.take (j + 1)) = lts now (l.take j) ++ [x] := by
  rw [List.take_add_one, hx]; simp [lts, h]
theorem lts_no {now : Int} {l : List Ms} {j : Nat} {x : Ms} (hx : l[j]? = some x) (h : isL now x = false) : lts now (l.take (j + 1)) = lts now (l.take j) := by
  rw [List.take_add_one, hx]; simp [lts, h]
theorem sts_yes {now : Int} {l : List Ms} {j : Nat} {x : Ms} (hx : l[j]? = some x) (h : isL now x = true) : sts now (l.take (j + 1)) = sts now (l.take j) := by
  rw [List.take_add_one, hx]; simp [sts, h]
theorem sts_no {now : Int} {l : List Ms} {j : Nat} {x : Ms} (hx : l[j]? = some x) (h : isL now x = false) : sts now (l.take (j + 1)) = sts now (l.take j) ++ [x] := by
  rw [List.take_add_one, hx]; simp [sts, h]
theorem lts_len (now : Int) (l : List Ms) (j : Nat) : (lts now (l.take j)).length ≤ l.length := Nat.le_trans (List.length_filter_le _ _) (by simp; omega)
theorem sts_len (now : Int) (l : List Ms) (j : Nat) : (sts now (l.take j)).length ≤ l.length := Nat.le_trans (List.length_filter_le _ _) (by simp; omega)

/-- Blocks from B on that are neither row's own. -/
def Fw (B : Nat) (s1 s2 : Value) (w : World) (g : Nat) : Prop := B ≤ g ∧ g < w.heap.size ∧ some g ≠ s1.ownBlock ∧ some g ≠ s2.ownBlock
/-- Two rows that grow. -/
structure Tw (B : Nat) (l1 l2 : List Ms) (s1 s2 : Value) (x1 x2 : List Value) (w : World) : Prop where
  p : Mp B (Fw B s1 s2 w) l1 s1 x1 w
  q : Mp B (Fw B s1 s2 w) l2 s2 x2 w
  ne : ∀ g, s1.ownBlock = some g → s2.ownBlock = some g → False
theorem Tw.swap {B : Nat} {l1 l2 : List Ms} {s1 s2 : Value} {x1 x2 : List Value} {w : World} (h : Tw B l1 l2 s1 s2 x1 x2 w) : Tw B l2 l1 s2 s1 x2 x1 w :=
  ⟨h.q.to (Nat.le_refl _) (fun _ _ => rfl) (fun _ hg => ⟨⟨hg.1, hg.2.1, hg.2.2.2, hg.2.2.1⟩, rfl⟩), h.p.to (Nat.le_refl _) (fun _ _ => rfl) (fun _ hg => ⟨⟨hg.1, hg.2.1, hg.2.2.2, hg.2.2.1⟩, rfl⟩), fun g a b => h.ne g b a⟩
theorem Tw.nil (B : Nat) (w : World) (h : B ≤ w.heap.size) : Tw B [] [] (.slice none 0 0) (.slice none 0 0) [] [] w :=
  ⟨Mp.nil _ _ _ h, Mp.nil _ _ _ h, fun g a _ => by cases a⟩
theorem Tw.step {B : Nat} {l1 l2 : List Ms} {s1 s2 : Value} {x1 x2 : List Value} {w w' : World} (h : Tw B l1 l2 s1 s2 x1 x2 w) (hb : Below w.heap.size w w') : Tw B l1 l2 s1 s2 x1 x2 w' :=
  ⟨(h.p.below hb (fun _ hg => hg.2.1)).to (Nat.le_refl _) (fun _ _ => rfl) (fun _ hg => ⟨⟨hg.1, Nat.lt_of_lt_of_le hg.2.1 hb.size, hg.2.2⟩, rfl⟩),
   (h.q.below hb (fun _ hg => hg.2.1)).to (Nat.le_refl _) (fun _ _ => rfl) (fun _ hg => ⟨⟨hg.1, Nat.lt_of_lt_of_le hg.2.1 hb.size, hg.2.2⟩, rfl⟩), h.ne⟩
theorem Tw.other {B : Nat} {l1 l2 : List Ms} {s1 s2 : Value} {x1 x2 : List Value} {w w' : World} (h : Tw B l1 l2 s1 s2 x1 x2 w) (hs : w'.heap.size = w.heap.size) (ho : ∀ g, B ≤ g → w'.heap[g]? = w.heap[g]?) : Tw B l1 l2 s1 s2 x1 x2 w' :=
  ⟨h.p.to (by omega) (fun g hg => ho g (h.p.own_lt g hg).1) (fun g hg => ⟨⟨hg.1, by have := hg.2.1; omega, hg.2.2⟩, ho g hg.1⟩),
   h.q.to (by omega) (fun g hg => ho g (h.q.own_lt g hg).1) (fun g hg => ⟨⟨hg.1, by have := hg.2.1; omega, hg.2.2⟩, ho g hg.1⟩), h.ne⟩
/-- One message more in the first row. -/
theorem tw_step {B : Nat} {l1 l2 : List Ms} {s1 s2 : Value} {x1 x2 : List Value} {v9 v1 : World} (h : Tw B l1 l2 s1 s2 x1 x2 v9) (x : Ms) (d' : Bo) (r1 : Rz (fun g => v9.heap.size ≤ g ∧ g < v1.heap.size) v1 x.n d'.vs x.t) (b1 : Below v9.heap.size v9 v1) (V : World) (hV : V = v1.alloc (.cells (x.cs d') 30)) :
    Mp B (Fw B s1 s2 V) l1 s1 x1 V ∧ Mz (Fw B s1 s2 V) V (some ⟨v1.heap.size, 0, none⟩) [x] ∧ (∀ g, Fw B s1 s2 V g → g < V.heap.size ∧ some g ≠ s1.ownBlock) ∧
    ∀ sl' xs' v3, Mp B (Fw B s1 s2 V) (l1 ++ [x]) sl' xs' v3 → V.grownBy v3 s1.ownBlock → (sl'.ownBlock = s1.ownBlock ∨ sl'.ownBlock = some V.heap.size) →
      Tw B (l1 ++ [x]) l2 sl' s2 xs' x2 v3 ∧ (∀ g, g < v9.heap.size → some g ≠ s1.ownBlock → v3.heap[g]? = v9.heap[g]?) ∧ Below B v9 v3 := by
  subst hV
  have hs1 := b1.size
  have ba := below1 v1 (.cells (x.cs d') 30)
  have sz : (v1.alloc (.cells (x.cs d') 30)).heap.size = v1.heap.size + 1 := by simp
  have hBs : B ≤ v9.heap.size := h.p.s
  have own1 := h.p.own_lt
  have own2 := h.q.own_lt
  have n1 : ∀ g, v9.heap.size ≤ g → some g ≠ s1.ownBlock := fun g hg e => by have := (own1 g e.symm).2; omega
  have n2 : ∀ g, v9.heap.size ≤ g → some g ≠ s2.ownBlock := fun g hg e => by have := (own2 g e.symm).2; omega
  generalize hV : v1.alloc (.cells (x.cs d') 30) = V at *
  have bV : Bk V v1.heap.size (x.cs d') 30 := by rw [← hV]; exact Bk.new v1 _ _
  refine ⟨((h.p.below b1 (fun g hg => hg.2.1)).below ba (fun g hg => by have := hg.2.1; omega)).to (Nat.le_refl _) (fun _ _ => rfl) (fun g hg => ⟨⟨hg.1, by have := hg.2.1; omega, hg.2.2⟩, rfl⟩), ?_, fun g hg => ⟨hg.2.1, hg.2.2.1⟩, ?_⟩
  · exact mz_one bV ⟨by omega, by omega, n1 _ (by omega), n2 _ (by omega)⟩ (Rz.to (fun g hg => ⟨⟨by omega, by omega, n1 _ (by omega), n2 _ (by omega)⟩, ba.block g hg.2⟩) _ _ _ r1)
  · intro sl' xs' v3 m3 g3 a3
    have hs3 := g3.size
    have oth : ∀ g, g < v9.heap.size → some g ≠ s1.ownBlock → v3.heap[g]? = v9.heap[g]? := fun g hg hne => ((g3.block g (by omega) hne).trans (ba.block g (by omega))).trans (b1.block g hg)
    have nS : ∀ g, g < V.heap.size → some g ≠ s1.ownBlock → some g ≠ sl'.ownBlock := fun g hg hne e => by
      rcases a3 with a3 | a3
      · rw [a3] at e; exact hne e
      · rw [a3] at e; have := Option.some.inj e; omega
    refine ⟨⟨m3.to (Nat.le_refl _) (fun _ _ => rfl) (fun g hg => ⟨⟨hg.1, by have := hg.2.1; omega, nS g hg.2.1 hg.2.2.1, hg.2.2.2⟩, rfl⟩), h.q.to (by omega) (fun g hg => oth g (own2 g hg).2 (fun e => h.ne g e.symm hg)) (fun g hg => ⟨⟨hg.1, by have := hg.2.1; omega, nS g (by have := hg.2.1; omega) hg.2.2.1, hg.2.2.2⟩, oth g hg.2.1 hg.2.2.1⟩), fun g e1 e2 => ?_⟩, oth, ?_⟩
    · rcases a3 with a3 | a3
      · rw [a3] at e1; exact h.ne g e1 e2
      · rw [a3] at e1; have := Option.some.inj e1; have := (own2 g e2).2; omega
    · exact ⟨g3.os.trans (ba.os.trans b1.os), g3.tape.trans (ba.tape.trans b1.tape), g3.output.trans (ba.output.trans b1.output), by omega, fun g hg => oth g (by omega) (fun e => by have := (own1 g e.symm).1; omega)⟩
/-- Two rows that grow, the first one in a box. -/
structure Ow (B O : Nat) (l l2 : List Ms) (a : Option Addr) (c : Nat) (s2 : Value) (r dr : Int) (xs x2 : List Value) (w : World) : Prop where
  q : Bk w O #[.slice a l.length c, .int .i64 r, .int .i64 dr] 24
  t : Tw B l l2 (.slice a l.length c) s2 xs x2 w
theorem Ow.step {B O : Nat} {l l2 : List Ms} {a : Option Addr} {c : Nat} {s2 : Value} {r dr : Int} {xs x2 : List Value} {w w' : World} (h : Ow B O l l2 a c s2 r dr xs x2 w) (hb : Below w.heap.size w w') : Ow B O l l2 a c s2 r dr xs x2 w' := ⟨h.q.step hb, h.t.step hb⟩
/-- One message more in the row in the box. -/
theorem ow_step {B O : Nat} {l l2 : List Ms} {a : Option Addr} {c : Nat} {s2 : Value} {r dr : Int} {xs x2 : List Value} {v9 v1 : World} (h : Ow B O l l2 a c s2 r dr xs x2 v9) (hO : O < B) (x : Ms) (d' : Bo) (r1 : Rz (fun g => v9.heap.size ≤ g ∧ g < v1.heap.size) v1 x.n d'.vs x.t) (b1 : Below v9.heap.size v9 v1) :
    Mp B (Fw B (.slice a l.length c) s2 (v1.alloc (.cells #[.int .i64 x.id, .string x.tp, .int .i64 d'.k, .int .i64 d'.i, .int .u64 d'.u, .string d'.s, .slice d'.a d'.l d'.c, .int .i64 x.ti, .int .i64 x.un, .string x.rp, .int .i64 x.co, .int .i64 x.pr, .int .i64 x.ho] 30))) l (.slice a l.length c) xs (v1.alloc (.cells #[.int .i64 x.id, .string x.tp, .int .i64 d'.k, .int .i64 d'.i, .int .u64 d'.u, .string d'.s, .slice d'.a d'.l d'.c, .int .i64 x.ti, .int .i64 x.un, .string x.rp, .int .i64 x.co, .int .i64 x.pr, .int .i64 x.ho] 30)) ∧ Mz (Fw B (.slice a l.length c) s2 (v1.alloc (.cells #[.int .i64 x.id, .string x.tp, .int .i64 d'.k, .int .i64 d'.i, .int .u64 d'.u, .string d'.s, .slice d'.a d'.l d'.c, .int .i64 x.ti, .int .i64 x.un, .string x.rp, .int .i64 x.co, .int .i64 x.pr, .int .i64 x.ho] 30))) (v1.alloc (.cells #[.int .i64 x.id, .string x.tp, .int .i64 d'.k, .int .i64 d'.i, .int .u64 d'.u, .string d'.s, .slice d'.a d'.l d'.c, .int .i64 x.ti, .int .i64 x.un, .string x.rp, .int .i64 x.co, .int .i64 x.pr, .int .i64 x.ho] 30)) (some ⟨v1.heap.size, 0, none⟩) [x] ∧ (∀ g, Fw B (.slice a l.length c) s2 (v1.alloc (.cells #[.int .i64 x.id, .string x.tp, .int .i64 d'.k, .int .i64 d'.i, .int .u64 d'.u, .string d'.s, .slice d'.a d'.l d'.c, .int .i64 x.ti, .int .i64 x.un, .string x.rp, .int .i64 x.co, .int .i64 x.pr, .int .i64 x.ho] 30)) g → g < (v1.alloc (.cells #[.int .i64 x.id, .string x.tp, .int .i64 d'.k, .int .i64 d'.i, .int .u64 d'.u, .string d'.s, .slice d'.a d'.l d'.c, .int .i64 x.ti, .int .i64 x.un, .string x.rp, .int .i64 x.co, .int .i64 x.pr, .int .i64 x.ho] 30)).heap.size ∧ some g ≠ (Value.slice a l.length c).ownBlock) ∧
    ∀ sl' xs' v3, Mp B (Fw B (.slice a l.length c) s2 (v1.alloc (.cells #[.int .i64 x.id, .string x.tp, .int .i64 d'.k, .int .i64 d'.i, .int .u64 d'.u, .string d'.s, .slice d'.a d'.l d'.c, .int .i64 x.ti, .int .i64 x.un, .string x.rp, .int .i64 x.co, .int .i64 x.pr, .int .i64 x.ho] 30))) (l ++ [x]) sl' xs' v3 → (v1.alloc (.cells #[.int .i64 x.id, .string x.tp, .int .i64 d'.k, .int .i64 d'.i, .int .u64 d'.u, .string d'.s, .slice d'.a d'.l d'.c, .int .i64 x.ti, .int .i64 x.un, .string x.rp, .int .i64 x.co, .int .i64 x.pr, .int .i64 x.ho] 30)).grownBy v3 (Value.slice a l.length c).ownBlock → (sl'.ownBlock = (Value.slice a l.length c).ownBlock ∨ sl'.ownBlock = some (v1.alloc (.cells #[.int .i64 x.id, .string x.tp, .int .i64 d'.k, .int .i64 d'.i, .int .u64 d'.u, .string d'.s, .slice d'.a d'.l d'.c, .int .i64 x.ti, .int .i64 x.un, .string x.rp, .int .i64 x.co, .int .i64 x.pr, .int .i64 x.ho] 30)).heap.size) →
      (∀ g, g < v9.heap.size → some g ≠ (Value.slice a l.length c).ownBlock → v3.heap[g]? = v9.heap[g]?) ∧ (∃ a3 c3, sl' = .slice a3 (l ++ [x]).length c3) ∧ ∀ a3 c3, sl' = .slice a3 (l ++ [x]).length c3 → ∀ W4, W4 = v3.setCell ⟨O, 0, none⟩ (.slice a3 (l ++ [x]).length c3) → Ow B O (l ++ [x]) l2 a3 c3 s2 r dr xs' x2 W4 ∧ Kb B O v9 W4 := by
  obtain ⟨m1, m2, m3, m4⟩ := tw_step h.t x d' r1 b1 _ rfl
  refine ⟨m1, m2, m3, fun sl' xs' v3 p3 g3 a3 => ?_⟩
  obtain ⟨t3, oth, b3⟩ := m4 sl' xs' v3 p3 g3 a3
  obtain ⟨a4, c4, e4, -⟩ := p3.mz (F' := fun _ => True) (fun _ _ => trivial) (fun _ _ => trivial)
  refine ⟨oth, ⟨a4, c4, e4⟩, fun a5 c5 e5 W4 hW => ?_⟩
  subst e5
  have hBs : B ≤ v9.heap.size := h.t.p.s
  have hOo : some O ≠ (Value.slice a l.length c).ownBlock := fun e => by have := (h.t.p.own_lt O e.symm).1; omega
  have OB3 : Bk v3 O #[.slice a l.length c, .int .i64 r, .int .i64 dr] 24 := (oth O (by omega) hOo).trans h.q
  have hWs : W4.heap.size = v3.heap.size := by rw [hW]; simp
  have hWo : ∀ g, g ≠ O → W4.heap[g]? = v3.heap[g]? := fun g hg => by rw [hW]; exact Below.heap_setCell _ _ _ _ hg
  refine ⟨⟨by rw [hW]; exact OB3.set 0 _, t3.other hWs (fun g hg => hWo g (by omega))⟩, ?_⟩
  have hs := b3.size
  refine ⟨?_, ?_, ?_, by omega, fun k hk hne => (hWo k hne).trans (b3.block k hk)⟩
  · rw [hW]; exact b3.os
  · rw [hW]; exact b3.tape
  · rw [hW]; exact b3.output
end Go.Proofs.Ytdgjhclncjoonaa
