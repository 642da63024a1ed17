/- Blocks of one's own in a region that draws its order: what is allowed where; no condition but those that each theorem names. -/
import Derived.Test.YtdgjhclncjoonaaBc
namespace Go.Proofs.Ytdgjhclncjoonaa
open Go.RowKit

/-- Blocks made since W0, the row's own and one more apart. -/
def Fa (W0 : World) (X : Option Nat) (sl : Value) (wx : World) (g : Nat) : Prop := W0.heap.size ≤ g ∧ g < wx.heap.size ∧ some g ≠ sl.ownBlock ∧ some g ≠ X
theorem Fa.to {W0 : World} {X : Option Nat} {sl : Value} {wx wy : World} (hb : Below wx.heap.size wx wy) : ∀ g, Fa W0 X sl wx g → Fa W0 X sl wy g ∧ wy.heap[g]? = wx.heap[g]? := fun g h => ⟨⟨h.1, Nat.lt_of_lt_of_le h.2.1 hb.size, h.2.2⟩, hb.block g h.2.1⟩
theorem Fa.al {W0 : World} {sl : Value} {wx : World} (o : Obj) : ∀ g, Fa W0 none sl wx g → Fa W0 (some wx.heap.size) sl (wx.alloc o) g ∧ (wx.alloc o).heap[g]? = wx.heap[g]? := fun g h => ⟨⟨h.1, by have := h.2.1; simp; omega, h.2.2.1, fun e => by have := Option.some.inj e; have := h.2.1; omega⟩, (below1 wx o).block g h.2.1⟩
theorem Mp.mono {L L' : Nat} {F : Nat → Prop} {l : List Ms} {sl : Value} {xs : List Value} {w : World} (h : Mp L F l sl xs w) (hL : L' ≤ L) : Mp L' F l sl xs w := by
  refine ⟨Nat.le_trans hL h.s, ⟨h.o.1, ?_⟩, h.k⟩
  rcases h.o.2 with o | ⟨g, cap, cur, e1, e2, e3⟩
  · exact .inl o
  · exact .inr ⟨g, cap, cur, e1, by omega, e3⟩
/-- A row of one's own. -/
structure Ra (W0 : World) (X : Option Nat) (l : List Ms) (sl : Value) (xs : List Value) (wx : World) : Prop where
  m : Mp W0.heap.size (Fa W0 X sl wx) l sl xs wx
  x : ∀ g, sl.ownBlock = some g → some g ≠ X
theorem Ra.below {W0 : World} {X : Option Nat} {l : List Ms} {sl : Value} {xs : List Value} {wx wy : World} (h : Ra W0 X l sl xs wx) (hb : Below wx.heap.size wx wy) : Ra W0 X l sl xs wy :=
  ⟨h.m.to hb.size (fun g hg => hb.block g (h.m.own_lt g hg).2) (Fa.to hb), h.x⟩
theorem Ra.al {W0 : World} {l : List Ms} {sl : Value} {xs : List Value} {wx : World} (h : Ra W0 none l sl xs wx) (o : Obj) : Ra W0 (some wx.heap.size) l sl xs (wx.alloc o) :=
  ⟨h.m.to (by simp) (fun g hg => (below1 wx o).block g (h.m.own_lt g hg).2) (Fa.al o), fun g hg e => by have := (h.m.own_lt g hg).2; have := Option.some.inj e; omega⟩
/-- A body of one's own. -/
def Rb (W0 : World) (X : Option Nat) (sl : Value) (x : Ms) (d : Bo) (wx : World) : Prop := Rz (Fa W0 X sl wx) wx x.n d.vs x.t
theorem Rb.below {W0 : World} {X : Option Nat} {sl : Value} {x : Ms} {d : Bo} {wx wy : World} (h : Rb W0 X sl x d wx) (hb : Below wx.heap.size wx wy) : Rb W0 X sl x d wy := Rz.to (Fa.to hb) _ _ _ h
theorem Rb.al {W0 : World} {sl : Value} {x : Ms} {d : Bo} {wx : World} (h : Rb W0 none sl x d wx) (o : Obj) : Rb W0 (some wx.heap.size) sl x d (wx.alloc o) := Rz.to (Fa.al o) _ _ _ h
/-- A message of one's own in a block. -/
def Rc (W0 : World) (X : Option Nat) (sl : Value) (x : Ms) (d : Bo) (Y : Nat) (wx : World) : Prop := Bk wx Y (x.cs d) 30 ∧ Fa W0 X sl wx Y
theorem Rc.below {W0 : World} {X : Option Nat} {sl : Value} {x : Ms} {d : Bo} {Y : Nat} {wx wy : World} (h : Rc W0 X sl x d Y wx) (hb : Below wx.heap.size wx wy) : Rc W0 X sl x d Y wy := ⟨h.1.step hb, (Fa.to hb Y h.2).1⟩
theorem Rc.al {W0 : World} {sl : Value} {x : Ms} {d : Bo} {Y : Nat} {wx : World} (h : Rc W0 none sl x d Y wx) (o : Obj) : Rc W0 (some wx.heap.size) sl x d Y (wx.alloc o) := ⟨h.1.alloc o, (Fa.al o Y h.2).1⟩
theorem Ra.of {W0 : World} {X : Option Nat} {l : List Ms} {sl : Value} {xs : List Value} {wx wy : World} (h : Mp wx.heap.size (fun g => wx.heap.size ≤ g ∧ g < wy.heap.size ∧ some g ≠ sl.ownBlock) l sl xs wy) (h0 : W0.heap.size ≤ wx.heap.size) (hX : ∀ g, some g = X → g < wx.heap.size) : Ra W0 X l sl xs wy :=
  ⟨(h.mono h0).to (Nat.le_refl _) (fun _ _ => rfl) (fun g hg => ⟨⟨by omega, hg.2.1, hg.2.2, fun e => by have := hX g e; omega⟩, rfl⟩), fun g hg e => by have := (h.own_lt g hg).1; have := hX g e; omega⟩
theorem Rb.of {W0 : World} {X : Option Nat} {l : List Ms} {sl : Value} {xs : List Value} {x : Ms} {d : Bo} {wx wy : World} (h : Rz (fun g => wx.heap.size ≤ g ∧ g < wy.heap.size) wy x.n d.vs x.t) (h1 : Ra W0 X l sl xs wx) (hX : ∀ g, some g = X → g < wx.heap.size) : Rb W0 X sl x d wy :=
  Rz.to (fun g hg => ⟨⟨by have := h1.m.s; omega, hg.2, fun e => by have := (h1.m.own_lt g e.symm).2; omega, fun e => by have := hX g e; omega⟩, rfl⟩) _ _ _ h
theorem Rc.of {W0 : World} {X : Option Nat} {l : List Ms} {sl : Value} {xs : List Value} {x : Ms} {d : Bo} {wx : World} (h1 : Ra W0 X l sl xs wx) (hX : ∀ g, some g = X → g < wx.heap.size) : Rc W0 X sl x d wx.heap.size (wx.alloc (.cells (x.cs d) 30)) :=
  ⟨Bk.new wx _ _, h1.m.s, by simp, fun e => by have := (h1.m.own_lt _ e.symm).2; omega, fun e => by have := hX _ e; omega⟩

/-- An append of a row of messages, as one operation. -/
theorem wp_mapp {o : Oper} {a : Act} {K : Act → World → Prop} {Q : Exit → Act → World → Prop} {w : World} (s x : Operand)
    (ho : o.op = .call { callee := .builtin .append, args := #[s, x], argTypes := #[22, 22] })
    (L : Nat) (F : Nat → Prop) (l : List Ms) (sl : Value) (xs : List Value) (hs : a.eval s = sl) (hp : Mp L F l sl xs w)
    (b of c2 : Nat) (m : List Ms) (hx : a.eval x = .slice (some ⟨b, of, none⟩) m.length c2) (hm : Mz F w (some ⟨b, of, none⟩) m) (h0 : m ≠ []) (hlen : l.length + m.length ≤ 1000000) (hF : ∀ g, F g → g < w.heap.size ∧ some g ≠ sl.ownBlock)
    (h : ∀ sl' xs' w', Mp L F (l ++ m) sl' xs' w' → w.grownBy w' sl.ownBlock → (sl'.ownBlock = sl.ownBlock ∨ sl'.ownBlock = some w.heap.size) → K (a.put o.dst sl') w') : Oper.wp Try.prog o a w K Q := by
  obtain ⟨i0, hi0, hz0, hz1, hz2⟩ := infoM_parts
  rcases hm with hm | ⟨b', of', e, hb, hm⟩
  · exact absurd hm h0
  cases e
  obtain ⟨news, n1, n2, n3, n4⟩ := Mz.news hm
  have hpos : 0 < m.length := List.length_pos_iff.2 h0
  refine wp_append_lies _ s x 22 ho L 30 i0 _ 13 144 Try.underlying22 hi0 hz0 hz1 hz2 rfl (by decide) sl l.length xs hs hp.o ⟨b, of, none⟩ m.length c2 news hx n1 n2 n3 hpos (by unfold maxLen; omega) (by omega) hp.s _ rfl ?_
  intro g cap w' own gr at' lt'
  exact h _ (xs ++ news) w' (hp.step n4 own gr (fun g hg => ⟨hg, hF g hg⟩)) gr (at'.elim (fun e => .inl e.symm) (fun e => .inr (by rw [e]; rfl)))
theorem wp_ra {o : Oper} {a : Act} {K : Act → World → Prop} {Q : Exit → Act → World → Prop} {w W0 : World} (s x : Operand)
    (ho : o.op = .call { callee := .builtin .append, args := #[s, x], argTypes := #[22, 22] })
    (X : Option Nat) (hX : ∀ g, some g = X → g < w.heap.size) (l : List Ms) (sl : Value) (xs : List Value) (hs : a.eval s = sl) (hp : Ra W0 X l sl xs w)
    (Y : Nat) (y : Ms) (d : Bo) (hx : a.eval x = .slice (some ⟨Y, 0, none⟩) 1 1) (hc : Rc W0 X sl y d Y w) (hr : Rb W0 X sl y d w) (hlen : l.length + 1 ≤ 1000000)
    (h : ∀ ad c xs' w', Ra W0 X (l ++ [y]) (.slice ad (l.length + 1) c) xs' w' → w.grownBy w' sl.ownBlock → K (a.put o.dst (.slice ad (l.length + 1) c)) w') : Oper.wp Try.prog o a w K Q := by
  refine wp_mapp s x ho W0.heap.size (Fa W0 X sl w) l sl xs hs hp.m Y 0 1 [y] hx (mz_one hc.1 hc.2 hr) (by simp) (by simpa using hlen) (fun g hg => ⟨hg.2.1, hg.2.2.1⟩) ?_
  intro sl' xs' w' m' gr at'
  have hr' : Ra W0 X (l ++ [y]) sl' xs' w' := by
    refine ⟨m'.to (Nat.le_refl _) (fun _ _ => rfl) (fun g hg => ⟨⟨hg.1, Nat.lt_of_lt_of_le hg.2.1 gr.size, ?_, hg.2.2.2⟩, rfl⟩), fun g hg e => ?_⟩
    · rcases at' with e | e
      · rw [e]; exact hg.2.2.1
      · rw [e]; intro e; have := Option.some.inj e; have := hg.2.1; omega
    · rcases at' with e' | e'
      · exact hp.x g (e' ▸ hg) e
      · have := Option.some.inj (e'.symm.trans hg); have := hX g e; omega
  obtain ⟨ad, c, rfl, -⟩ := m'.mz (F' := fun _ => True) (fun _ _ => trivial) (fun _ _ => trivial)
  have e : (l ++ [y]).length = l.length + 1 := by simp
  rw [e] at hr' ⊢
  exact h ad c xs' w' hr' gr
end Go.Proofs.Ytdgjhclncjoonaa
