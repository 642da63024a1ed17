/- All that was put off is done; a row of results that grows; no condition but those that each theorem names. -/
import Derived.Test.YthamafijjflfbaaGreatNza
import Derived.Test.YthamafijjflfbaaGreatMcc
namespace Go.Proofs.YthamafijjflfbaaGreat
open Go.RowKit

/-- What run defers at a place. -/
def mkD (rb : Nat) (p : Nat × Int) : Deferred := { target := .fn (.func 50) #[.pointer (some ⟨rb, 0, none⟩), .pointer (some ⟨p.1, 0, none⟩)], args := #[] }

/-- What is left once all is done. -/
structure Pz (w : World) (b L : Nat) (sl pl : Value) (n : Nat) (zs : List Value) (w' : World) : Prop where
  row : ∃ pl', Bk w' b #[sl, pl'] 64 ∧ w'.ownsRow L 3 1 pl' n zs ∧ (pl'.ownBlock = pl.ownBlock ∨ ∀ g, pl'.ownBlock = some g → w.heap.size ≤ g)
  size : w.heap.size ≤ w'.heap.size
  block : ∀ g, g < w.heap.size → g ≠ b → some g ≠ pl.ownBlock → w'.heap[g]? = w.heap[g]?
  low : Below b w w'

theorem leaves_run (fn : Func) (tmps : Array Value) (R : Ending → World → Prop) (rb b L : Nat) (sl : Value) (u : FrameMode) (hu : u ≠ .run) (hset : settle u = u) (h1 : b < rb) (h3 : rb < L) : ∀ (D : List (Nat × Int)) (w : World) (pl : Value) (n : Nat) (ys : List Value),
    Bk w rb #[.pointer (some ⟨b, 0, none⟩)] 81 → (∀ p ∈ D, Bk w p.1 #[.int .i64 p.2] 3 ∧ b < p.1 ∧ p.1 < L) → Bk w b #[sl, pl] 64 → w.ownsRow L 3 1 pl n ys → L ≤ w.heap.size → n + D.length ≤ 1048576 →
    (∀ w', Pz w b L sl pl (n + D.length) (ys ++ D.map fun p => .int .i64 p.2) w' → Leaves Tryz.prog fn tmps R [] u w') → Leaves Tryz.prog fn tmps R (D.map (mkD rb)) u w := by
  intro D
  induction D with
  | nil =>
    intro w pl n ys _ _ hB hO _ _ h
    exact h w ⟨⟨pl, hB, by simpa using hO, .inl rfl⟩, Nat.le_refl _, fun _ _ _ _ => rfl, Below.refl _ _⟩
  | cons p D ih =>
    intro w pl n ys hR hD hB hO hL hn h
    obtain ⟨hI, hp1, hp2⟩ := hD p (by simp)
    simp only [List.length_cons] at hn
    refine leaves_cons (f := 50) (args := #[.pointer (some ⟨rb, 0, none⟩), .pointer (some ⟨p.1, 0, none⟩)]) hu (by simp [go_sem]) ?_
    refine (run1_any rb p.1 b L sl pl n ys p.2 u w hR hI hB hO hL h1 hp1 h3 hp2 (by omega)).mono ?_
    rintro e u' w1 ⟨rfl, rfl, q⟩
    show Leaves Tryz.prog fn tmps R (D.map (mkD rb)) (settle u') w1
    rw [hset]
    obtain ⟨⟨pl1, B1, O1, X1⟩, s1, k1, l1⟩ := q
    have own : ∀ g, g < L → some g ≠ pl.ownBlock := fun g hg e => by have := (owns_lt hO g e.symm).1; omega
    refine ih w1 pl1 (n + 1) _ ((k1 rb (by omega) (by omega) (own rb h3)).trans hR) (fun p' hp' => ?_) B1 O1 (by omega) (by omega) fun w' z => ?_
    · obtain ⟨a1, a2, a3⟩ := hD p' (by simp [hp'])
      exact ⟨(k1 p'.1 (by omega) (by omega) (own _ a3)).trans a1, a2, a3⟩
    · obtain ⟨⟨pl2, B2, O2, X2⟩, s2, k2, l2⟩ := z
      refine h w' ⟨⟨pl2, B2, ?_, ?_⟩, by omega, fun g g1 g2 g3 => ?_, l1.trans (l2.mono (Nat.le_refl b))⟩
      · have e1 : n + (p :: D).length = n + 1 + D.length := by simp; omega
        rw [e1]
        simpa using O2
      · rcases X2 with X2 | X2
        · rcases X1 with X1 | X1
          · exact .inl (X2.trans X1)
          · exact .inr fun g hg => X1 g (X2 ▸ hg)
        · exact .inr fun g hg => by have := X2 g hg; omega
      · refine (k2 g (by omega) g2 fun e => ?_).trans (k1 g g1 g2 g3)
        rcases X1 with X1 | X1
        · exact g3 (e.trans X1)
        · have := X1 g e.symm; omega

/-- A result, as it is told. -/
structure Rv where
  er : Int
  pk : Int
  pn : Int
  has : Bool
  m : Nat
  tr : Dt.Tr m

/-- The row of results before place j; all lies behind block b. -/
structure Rs (b : Nat) (Res : Nat → Rv) (j : Nat) (sl : Value) (xs : List Value) (w : World) : Prop where
  o : w.ownsRow (b + 1) 35 10 sl j xs
  k : ∀ q, q < j → ∃ g0 g1 g2 g3 g4 g5 g6, (∀ i, i < 10 → xs[q * 10 + i]? = (rcs (Res q).er 0 (Res q).pk (Res q).pn (Res q).has g0 g1 g2 g3 g4 g5 g6)[i]?) ∧ Dt.Rf (fun g => b < g ∧ g < w.heap.size ∧ some g ≠ sl.ownBlock) w (Res q).m [.int .i64 g0, .int .i64 g1, .int .u64 g2, .string g3, .slice g4 g5 g6] (Res q).tr
theorem Rs.nil (b : Nat) (Res : Nat → Rv) (w : World) : Rs b Res 0 (.slice none 0 0) [] w := ⟨World.ownsRow_nil _ _ _ _, fun _ hq => absurd hq (Nat.not_lt_zero _)⟩
theorem Rs.keep {b : Nat} {Res : Nat → Rv} {j : Nat} {sl : Value} {xs : List Value} {w w' : World} (h : Rs b Res j sl xs w) (hs : w.heap.size ≤ w'.heap.size) (hb : ∀ g, b < g → g < w.heap.size → w'.heap[g]? = w.heap[g]?) : Rs b Res j sl xs w' := by
  refine ⟨owns_to h.o fun g hg => hb g (owns_lt h.o g hg).1 (owns_lt h.o g hg).2, fun q hq => ?_⟩
  obtain ⟨g0, g1, g2, g3, g4, g5, g6, a, r⟩ := h.k q hq
  exact ⟨g0, g1, g2, g3, g4, g5, g6, a, Dt.Rf.to (fun g hg => ⟨⟨hg.1, Nat.lt_of_lt_of_le hg.2.1 hs, hg.2.2⟩, hb g hg.1 hg.2.1⟩) _ _ _ r⟩
theorem Rs.step' {b : Nat} {Res : Nat → Rv} {j : Nat} {sl : Value} {xs : List Value} {w w' : World} (h : Rs b Res j sl xs w) (hb : Below w.heap.size w w') : Rs b Res j sl xs w' := h.keep hb.size fun g _ hg => hb.block g hg
/-- One result more: it came from w to w1 (new memory), w2 is the append's start, w3 its end. -/
theorem Rs.more {b : Nat} {Res : Nat → Rv} {j : Nat} {sl : Value} {xs : List Value} {w w1 w2 w3 : World} (h : Rs b Res j sl xs w) (hbw : b < w.heap.size) (b1 : Below w.heap.size w w1) (b2 : Below w1.heap.size w1 w2)
    (g0 g1 g2 : Int) (g3 : ByteArray) (g4 : Option Addr) (g5 g6 : Nat) (rf : Dt.Rf (fun g => w.heap.size ≤ g ∧ g < w1.heap.size) w1 (Res j).m [.int .i64 g0, .int .i64 g1, .int .u64 g2, .string g3, .slice g4 g5 g6] (Res j).tr)
    (g cap : Nat) (own : w3.ownsRow (b + 1) 35 10 (.slice (some ⟨g, 0, none⟩) (j + 1) cap) (j + 1) (xs ++ (rcs (Res j).er 0 (Res j).pk (Res j).pn (Res j).has g0 g1 g2 g3 g4 g5 g6).toList)) (gr : w2.grownBy w3 sl.ownBlock) (at' : sl.ownBlock = some g ∨ g = w2.heap.size) :
    Rs b Res (j + 1) (.slice (some ⟨g, 0, none⟩) (j + 1) cap) (xs ++ (rcs (Res j).er 0 (Res j).pk (Res j).pn (Res j).has g0 g1 g2 g3 g4 g5 g6).toList) w3 := by
  have h2 := (h.step' b1).step' b2
  have hs1 := b1.size
  have hs2 := b2.size
  have hs3 := gr.size
  have new : ∀ q, q < w2.heap.size → some q ≠ sl.ownBlock → some q ≠ (Value.slice (some ⟨g, 0, none⟩) (j + 1) cap).ownBlock := fun q h1 h2 e => by
    have : q = g := Option.some.inj e
    subst this
    rcases at' with e1 | e1
    · exact h2 e1.symm
    · omega
  have xl : xs.length = j * 10 := h.o.1
  refine ⟨own, fun q hq => ?_⟩
  by_cases hlt : q < j
  · obtain ⟨y0, y1, y2, y3, y4, y5, y6, a, r⟩ := h2.k q hlt
    refine ⟨y0, y1, y2, y3, y4, y5, y6, fun i hi => ?_, Dt.Rf.to (fun k hk => ⟨⟨hk.1, by omega, new k hk.2.1 hk.2.2⟩, gr.block k hk.2.1 hk.2.2⟩) _ _ _ r⟩
    rw [List.getElem?_append_left (by omega)]
    exact a i hi
  · have hqj : q = j := by omega
    subst hqj
    have fresh : ∀ k, w.heap.size ≤ k → some k ≠ sl.ownBlock := fun k hk e => by have := (owns_lt h.o k e.symm).2; omega
    refine ⟨g0, g1, g2, g3, g4, g5, g6, fun i hi => ?_, Dt.Rf.to (fun k hk => ⟨⟨by omega, by omega, new k (by omega) (fresh k hk.1)⟩, (gr.block k (by omega) (fresh k hk.1)).trans (b2.block k hk.2)⟩) _ _ _ rf⟩
    rw [List.getElem?_append_right (by omega), xl, Nat.add_sub_cancel_left, Array.getElem?_toList]
end Go.Proofs.YthamafijjflfbaaGreat
