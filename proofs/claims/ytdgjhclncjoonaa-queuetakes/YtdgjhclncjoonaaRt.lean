/- The document's copies of inboxes; the conditions: the messages in memory, of a size that can be. -/
import Derived.Test.YtdgjhclncjoonaaRs
namespace Go.Proofs.Ytdgjhclncjoonaa
open Go.RowKit

/-- Between two worlds nothing below B was written but block O. -/
structure Kb (B O : Nat) (w w' : World) : Prop where
  os : w'.os = w.os
  tape : w'.tape = w.tape
  output : w'.output = w.output
  size : w.heap.size ≤ w'.heap.size
  block : ∀ k, k < B → k ≠ O → w'.heap[k]? = w.heap[k]?
theorem Kb.refl (B O : Nat) (w : World) : Kb B O w w := ⟨rfl, rfl, rfl, Nat.le_refl _, fun _ _ _ => rfl⟩
theorem Kb.trans {B O : Nat} {a b c : World} (h : Kb B O a b) (k : Kb B O b c) : Kb B O a c :=
  ⟨k.os.trans h.os, k.tape.trans h.tape, k.output.trans h.output, Nat.le_trans h.size k.size, fun i hi hn => (k.block i hi hn).trans (h.block i hi hn)⟩
theorem Kb.of {B O : Nat} {w w' : World} (h : Below B w w') : Kb B O w w' := ⟨h.os, h.tape, h.output, h.size, fun k hk _ => h.block k hk⟩
theorem Kb.below {B O L : Nat} {a b c : World} (h : Below L a b) (k : Kb B O b c) (hB : L ≤ B) (hO : L ≤ O) : Below L a c :=
  ⟨k.os.trans h.os, k.tape.trans h.tape, k.output.trans h.output, Nat.le_trans h.size k.size, fun i hi => (k.block i (by omega) (by omega)).trans (h.block i hi)⟩
/-- What a row that grows in a box is. -/
structure Ou (B O : Nat) (l : List Ms) (a : Option Addr) (c : Nat) (r dr : Int) (xs : List Value) (w : World) : Prop where
  q : Bk w O #[.slice a l.length c, .int .i64 r, .int .i64 dr] 24
  m : Mp B (fun g => B ≤ g ∧ g < w.heap.size ∧ some g ≠ (Value.slice a l.length c).ownBlock) l (.slice a l.length c) xs w
theorem Ou.step {B O : Nat} {l : List Ms} {a : Option Addr} {c : Nat} {r dr : Int} {xs : List Value} {w w' : World} (h : Ou B O l a c r dr xs w) (hb : Below w.heap.size w w') : Ou B O l a c r dr xs w' :=
  ⟨h.q.step hb, (h.m.below hb (fun _ hg => hg.2.1)).to (Nat.le_refl _) (fun _ _ => rfl) (fun _ hg => ⟨⟨hg.1, Nat.lt_of_lt_of_le hg.2.1 hb.size, hg.2.2⟩, rfl⟩)⟩
/-- One message more in the row. -/
theorem ou_step {B O : Nat} {l : List Ms} {a : Option Addr} {c : Nat} {r dr : Int} {xs : List Value} {v9 v1 : World} (h : Ou B O l a c r dr xs v9) (hO : O < B) (x : Ms) (d' : Bo) (r1 : Rz (fun g => v9.heap.size ≤ g ∧ g < v1.heap.size) v1 x.n d'.vs x.t) (b1 : Below v9.heap.size v9 v1) :
    Mp B (fun g => B ≤ g ∧ g < (v1.alloc (.cells #[.int .i64 x.id, .string x.tp, .int .i64 d'.k, .int .i64 d'.i, .int .u64 d'.u, .string d'.s, .slice d'.a d'.l d'.c, .int .i64 x.ti, .int .i64 x.un, .string x.rp, .int .i64 x.co, .int .i64 x.pr, .int .i64 x.ho] 30)).heap.size ∧ some g ≠ (Value.slice a l.length c).ownBlock) l (.slice a l.length c) xs (v1.alloc (.cells #[.int .i64 x.id, .string x.tp, .int .i64 d'.k, .int .i64 d'.i, .int .u64 d'.u, .string d'.s, .slice d'.a d'.l d'.c, .int .i64 x.ti, .int .i64 x.un, .string x.rp, .int .i64 x.co, .int .i64 x.pr, .int .i64 x.ho] 30)) ∧ Mz (fun g => B ≤ g ∧ g < (v1.alloc (.cells #[.int .i64 x.id, .string x.tp, .int .i64 d'.k, .int .i64 d'.i, .int .u64 d'.u, .string d'.s, .slice d'.a d'.l d'.c, .int .i64 x.ti, .int .i64 x.un, .string x.rp, .int .i64 x.co, .int .i64 x.pr, .int .i64 x.ho] 30)).heap.size ∧ some g ≠ (Value.slice a l.length c).ownBlock) (v1.alloc (.cells #[.int .i64 x.id, .string x.tp, .int .i64 d'.k, .int .i64 d'.i, .int .u64 d'.u, .string d'.s, .slice d'.a d'.l d'.c, .int .i64 x.ti, .int .i64 x.un, .string x.rp, .int .i64 x.co, .int .i64 x.pr, .int .i64 x.ho] 30)) (some ⟨v1.heap.size, 0, none⟩) [x] ∧ (∀ g, (B ≤ g ∧ g < (v1.alloc (.cells #[.int .i64 x.id, .string x.tp, .int .i64 d'.k, .int .i64 d'.i, .int .u64 d'.u, .string d'.s, .slice d'.a d'.l d'.c, .int .i64 x.ti, .int .i64 x.un, .string x.rp, .int .i64 x.co, .int .i64 x.pr, .int .i64 x.ho] 30)).heap.size ∧ some g ≠ (Value.slice a l.length c).ownBlock) → g < (v1.alloc (.cells #[.int .i64 x.id, .string x.tp, .int .i64 d'.k, .int .i64 d'.i, .int .u64 d'.u, .string d'.s, .slice d'.a d'.l d'.c, .int .i64 x.ti, .int .i64 x.un, .string x.rp, .int .i64 x.co, .int .i64 x.pr, .int .i64 x.ho] 30)).heap.size ∧ some g ≠ (Value.slice a l.length c).ownBlock) ∧
    ∀ sl' xs' v3, Mp B (fun g => B ≤ g ∧ g < (v1.alloc (.cells #[.int .i64 x.id, .string x.tp, .int .i64 d'.k, .int .i64 d'.i, .int .u64 d'.u, .string d'.s, .slice d'.a d'.l d'.c, .int .i64 x.ti, .int .i64 x.un, .string x.rp, .int .i64 x.co, .int .i64 x.pr, .int .i64 x.ho] 30)).heap.size ∧ some g ≠ (Value.slice a l.length c).ownBlock) (l ++ [x]) sl' xs' v3 → (v1.alloc (.cells #[.int .i64 x.id, .string x.tp, .int .i64 d'.k, .int .i64 d'.i, .int .u64 d'.u, .string d'.s, .slice d'.a d'.l d'.c, .int .i64 x.ti, .int .i64 x.un, .string x.rp, .int .i64 x.co, .int .i64 x.pr, .int .i64 x.ho] 30)).grownBy v3 (Value.slice a l.length c).ownBlock → (sl'.ownBlock = (Value.slice a l.length c).ownBlock ∨ sl'.ownBlock = some (v1.alloc (.cells #[.int .i64 x.id, .string x.tp, .int .i64 d'.k, .int .i64 d'.i, .int .u64 d'.u, .string d'.s, .slice d'.a d'.l d'.c, .int .i64 x.ti, .int .i64 x.un, .string x.rp, .int .i64 x.co, .int .i64 x.pr, .int .i64 x.ho] 30)).heap.size) →
      (∀ g, g < v9.heap.size → some g ≠ (Value.slice a l.length c).ownBlock → v3.heap[g]? = v9.heap[g]?) ∧ (∃ a3 c3, sl' = .slice a3 (l ++ [x]).length c3) ∧ ∀ a3 c3, sl' = .slice a3 (l ++ [x]).length c3 → ∀ W4, W4 = v3.setCell ⟨O, 0, none⟩ (.slice a3 (l ++ [x]).length c3) → Ou B O (l ++ [x]) a3 c3 r dr xs' W4 ∧ Kb B O v9 W4 := by
  have hs1 := b1.size
  have ba := below1 v1 (.cells #[.int .i64 x.id, .string x.tp, .int .i64 d'.k, .int .i64 d'.i, .int .u64 d'.u, .string d'.s, .slice d'.a d'.l d'.c, .int .i64 x.ti, .int .i64 x.un, .string x.rp, .int .i64 x.co, .int .i64 x.pr, .int .i64 x.ho] 30)
  have sz : (v1.alloc (.cells #[.int .i64 x.id, .string x.tp, .int .i64 d'.k, .int .i64 d'.i, .int .u64 d'.u, .string d'.s, .slice d'.a d'.l d'.c, .int .i64 x.ti, .int .i64 x.un, .string x.rp, .int .i64 x.co, .int .i64 x.pr, .int .i64 x.ho] 30)).heap.size = v1.heap.size + 1 := by simp
  have hBs : B ≤ v9.heap.size := h.m.s
  have own : ∀ g, (Value.slice a l.length c).ownBlock = some g → B ≤ g ∧ g < v9.heap.size := fun g hg => h.m.own_lt g hg
  refine ⟨((h.m.below b1 (fun g hg => hg.2.1)).below ba (fun g hg => by have := hg.2.1; omega)).to (Nat.le_refl _) (fun _ _ => rfl) (fun g hg => ⟨⟨hg.1, by have := hg.2.1; omega, hg.2.2⟩, rfl⟩), ?_, fun g hg => ⟨hg.2.1, hg.2.2⟩, ?_⟩
  · exact mz_one (Bk.new v1 _ _) ⟨by omega, by omega, fun e => by have := (own _ e.symm).2; omega⟩ (Rz.to (fun g hg => ⟨⟨by omega, by omega, fun e => by have := (own _ e.symm).2; omega⟩, ba.block g hg.2⟩) _ _ _ r1)
  · intro sl' xs' v3 m3 g3 a3
    have hs3 := g3.size
    have oth : ∀ g, g < v9.heap.size → some g ≠ (Value.slice a l.length c).ownBlock → v3.heap[g]? = v9.heap[g]? := fun g hg hne => ((g3.block g (by omega) hne).trans (ba.block g (by omega))).trans (b1.block g hg)
    obtain ⟨a4, c4, e4, -⟩ := m3.mz (F' := fun _ => True) (fun _ _ => trivial) (fun _ _ => trivial)
    refine ⟨oth, ⟨a4, c4, e4⟩, fun a5 c5 e5 W4 hW => ?_⟩
    subst e5
    have hOo : some O ≠ (Value.slice a l.length c).ownBlock := fun e => by have := (own O e.symm).1; omega
    have OB3 : Bk v3 O #[.slice a l.length c, .int .i64 r, .int .i64 dr] 24 := (oth O (by omega) hOo).trans h.q
    have hWs : W4.heap.size = v3.heap.size := by rw [hW]; simp
    have nown : ∀ g, (Value.slice a5 (l ++ [x]).length c5).ownBlock = some g → B ≤ g := fun g hg => (m3.own_lt g hg).1
    refine ⟨⟨by rw [hW]; exact OB3.set 0 _, m3.to (by omega) (fun g hg => by rw [hW]; exact Below.heap_setCell _ _ _ _ (by have := nown g hg; show g ≠ O; omega)) (fun g hg => ⟨⟨hg.1, by have := hg.2.1; omega, ?_⟩, by rw [hW]; exact Below.heap_setCell _ _ _ _ (by show g ≠ O; omega)⟩)⟩, ?_⟩
    · rcases a3 with e | e
      · rw [e]; exact hg.2.2
      · rw [e]; intro e'; have := Option.some.inj e'; have := hg.2.1; omega
    · refine ⟨?_, ?_, ?_, by omega, fun k hk hne => ?_⟩
      · rw [hW]; exact g3.os.trans (ba.os.trans b1.os)
      · rw [hW]; exact g3.tape.trans (ba.tape.trans b1.tape)
      · rw [hW]; exact g3.output.trans (ba.output.trans b1.output)
      · rw [hW, Below.heap_setCell _ _ _ _ hne]
        exact oth k (by omega) (fun e => by have := (own k e.symm).1; omega)
end Go.Proofs.Ytdgjhclncjoonaa
