/- A script in memory; where the law BufferWhole stands before a turn: what was put, what has gone on, what is held; no condition but those that each theorem names. -/
import Derived.Test.YtikkedemhcdboaaDoorMRd
import Derived.Test.YtikkedemhcdboaaDoorBf
namespace Go.Proofs.YtikkedemhcdboaaDoor
open Go.ChangeShapes Go.WideShapes Go.ChangeAt Go.WideMaps Go.WideElems Go.RowKit

/-- A turn. -/
structure Tn where
  k : Int
  m : Ms
  n : Int
/-- A turn's cells stand at a place. -/
def T15 (w : World) (b o : Nat) (y : Tn) (d : Bo) : Prop := w.cell? ⟨b, o, none⟩ = some (.int .i64 y.k) ∧ C13 w b (o + 1) y.m d ∧ w.cell? ⟨b, o + 14, none⟩ = some (.int .i64 y.n)
theorem T15.heap {w w' : World} {b o : Nat} {y : Tn} {d : Bo} (h : T15 w b o y d) (hh : w'.heap[b]? = w.heap[b]?) : T15 w' b o y d := ⟨(Dt.cell_heap hh).trans h.1, h.2.1.heap hh, (Dt.cell_heap hh).trans h.2.2⟩
/-- A script in memory. -/
def Tw (w : World) (ad : Option Addr) (l : List Tn) : Prop := l = [] ∨ ∃ b o, ad = some ⟨b, o, none⟩ ∧ b < w.heap.size ∧ ∀ j y, l[j]? = some y → ∃ d : Bo, T15 w b (o + j * 15) y d ∧ Dt.Rep w y.m.n d.vs y.m.t

theorem tncells : Tryd.prog.cellsOf 48 = 15 := by kernel_rfl
set_option maxRecDepth 100000 in
theorem turn_of_trod {H : Type} {enc : TypeId × Value → H} {w : World} {base : Nat} {sp : Nat → Bool} {held : Bool} (fuel : Nat) (cs : List Value) (y : DataW H × List MemPlace)
    (h : DataW.trod enc Tryd.prog w base sp held fuel 48 cs = some y) :
    ∃ (z : Tn) (d : Bo), cs = [Value.int .i64 z.k] ++ ((z.m.cs d).toList ++ [.int .i64 z.n]) ∧ Dt.Rep w z.m.n d.vs z.m.t ∧ Tx z.m := by
  obtain ⟨xs, n, hn, ex, hlen, hxl, hf⟩ := DataW.trod_struct Tryd.underlying48 h
  rw [tncells] at hlen
  match cs, hlen with
  | [k0, c0, c1, c2, c3, c4, c5, c6, c7, c8, c9, c10, c11, c12, n0], _ =>
  match xs, hxl with
  | [y0, y1, y2], _ =>
    have h0 : DataW.trod enc Tryd.prog w base sp held n 3 (([k0, c0, c1, c2, c3, c4, c5, c6, c7, c8, c9, c10, c11, c12, n0].drop 0).take (Tryd.prog.cellsOf 3)) = some y0 := hf 0 _ rfl
    have h1 : DataW.trod enc Tryd.prog w base sp held n 30 (([k0, c0, c1, c2, c3, c4, c5, c6, c7, c8, c9, c10, c11, c12, n0].drop 1).take (Tryd.prog.cellsOf 30)) = some y1 := hf 1 _ rfl
    have h2 : DataW.trod enc Tryd.prog w base sp held n 2 (([k0, c0, c1, c2, c3, c4, c5, c6, c7, c8, c9, c10, c11, c12, n0].drop 14).take (Tryd.prog.cellsOf 2)) = some y2 := hf 2 _ rfl
    rw [Dt.tcellsN3] at h0
    rw [mcells] at h1
    rw [Dt.tcellsN2] at h2
    obtain ⟨k, e0, -, -⟩ := DataW.trod_int Tryd.underlying3 h0
    obtain ⟨x, d, e1, R, tx⟩ := msg_of_trod n _ _ h1
    obtain ⟨m, e2, -, -⟩ := DataW.trod_int Tryd.underlying2 h2
    simp at e0 e2
    subst e0 e2
    simp only [List.drop_succ_cons, List.drop_zero, List.take_succ_cons, List.take_zero, List.cons.injEq, and_true] at e1
    obtain ⟨rfl, rfl, rfl, rfl, rfl, rfl, rfl, rfl, rfl, rfl, rfl, rfl, rfl⟩ := e1
    exact ⟨⟨k, x, m⟩, d, rfl, R, tx⟩

theorem turnl_of_trod {H : Type} {enc : TypeId × Value → H} {w : World} {base : Nat} {sp : Nat → Bool} {held : Bool} (fuel : Nat) (cs : List Value) (y : DataW H × List MemPlace)
    (h : DataW.trod enc Tryd.prog w base sp held fuel 46 cs = some y) :
    ∃ (ad : Option Addr) (l : List Tn) (cap : Nat), cs = [.slice ad l.length cap] ∧ l.length ≤ cap ∧ cap ≤ maxLen ∧ Tw w ad l ∧ ∀ z ∈ l, Tx z.m := by
  rcases DataW.trod_slice Tryd.underlying46 h with ⟨e4, -⟩ | ⟨a, len, cap, elems, rest, m, hm, e4, -, -, hlc, hcm, hel, hat, -, -⟩
  · exact ⟨none, [], 0, e4, Nat.le_refl _, by unfold maxLen; omega, .inl rfl, fun r hr => by cases hr⟩
  · rw [tncells] at hat
    have kid : ∀ j, j < len → ∃ z : Tn, (∃ d : Bo, (∀ q, q < 15 → w.cell? ((a.add (j * 15)).add q) = ([Value.int .i64 z.k] ++ ((z.m.cs d).toList ++ [.int .i64 z.n]))[q]?) ∧ Dt.Rep w z.m.n d.vs z.m.t) ∧ Tx z.m := by
      intro j hj
      have hx := hat j hj
      rw [List.getElem?_eq_getElem (by omega)] at hx
      obtain ⟨cs', hc, ht⟩ := Option.bind_eq_some_iff.1 hx
      obtain ⟨-, hcl, hcc⟩ := World.cells?_some hc
      obtain ⟨z, d, e, R, tx⟩ := turn_of_trod _ _ _ ht
      subst e
      exact ⟨z, ⟨d, fun q hq => hcc q hq, R⟩, tx⟩
    obtain ⟨l, hzl, hzp⟩ := Dt.list_of _ len kid
    subst hzl
    refine ⟨some a, l, cap, e4, hlc, hcm, ?_, fun z hz => ?_⟩
    · cases hzs : l with
      | nil => exact .inl rfl
      | cons r0 rs =>
        right
        obtain ⟨b, off, spot⟩ := a
        obtain ⟨d0, h00, -⟩ := (hzp 0 r0 (by rw [hzs]; rfl)).1
        have h00' := h00 0 (by decide)
        have hspot : spot = none := by
          have := World.cell?_spot (h00'.trans rfl)
          simpa [Addr.add] using this
        subst hspot
        refine ⟨b, off, rfl, World.block_lt_of_cell? w _ (h00'.trans rfl), fun j z hj => ?_⟩
        obtain ⟨d, hp, R⟩ := (hzp j z (by rw [hzs]; exact hj)).1
        simp only [add13] at hp
        refine ⟨d, ⟨hp 0 (by decide), C13.of fun q hq => ?_, hp 14 (by decide)⟩, R⟩
        have := hp (q + 1) (by omega)
        rw [show off + j * 15 + 1 + q = off + j * 15 + (q + 1) by omega, this]
        rw [List.getElem?_append_right (by simp), List.getElem?_append_left (by simpa using hq)]
        simp
    · obtain ⟨j, hj, e⟩ := List.mem_iff_getElem.1 hz
      exact (hzp j z (by rw [List.getElem?_eq_getElem hj, e])).2

/-- Blocks that are neither row's own nor the state's. -/
def Fw (Bs : Nat) (slP slO : Value) (wr : World) (g : Nat) : Prop := g < wr.heap.size ∧ some g ≠ slP.ownBlock ∧ some g ≠ slO.ownBlock ∧ g ≠ Bs
/-- Where the law stands. -/
structure Wv (w : World) (Bs : Nat) (P O S : List Ms) (slP slO : Value) (xsP xsO : List Value) (aS : Option Addr) (cS : Nat) (since : Int) (wr : World) : Prop where
  b : Below w.heap.size w wr
  bs : w.heap.size ≤ Bs
  p : Mp (Bs + 1) (Fw Bs slP slO wr) P slP xsP wr
  o : Mp (Bs + 1) (Fw Bs slP slO wr) O slO xsO wr
  s : Bk wr Bs #[.slice aS S.length cS, .int .i64 since] 24
  r : Mz (Fw Bs slP slO wr) wr aS S
  d : ∀ g, slP.ownBlock = some g → slO.ownBlock ≠ some g
theorem Wv.step {w : World} {Bs : Nat} {P O S : List Ms} {slP slO : Value} {xsP xsO : List Value} {aS : Option Addr} {cS : Nat} {since : Int} {wr wx : World} (h : Wv w Bs P O S slP slO xsP xsO aS cS since wr) (hb : Below wr.heap.size wr wx) : Wv w Bs P O S slP slO xsP xsO aS cS since wx := by
  have hF : ∀ g, Fw Bs slP slO wr g → Fw Bs slP slO wx g ∧ wx.heap[g]? = wr.heap[g]? := fun g hg => ⟨⟨Nat.lt_of_lt_of_le hg.1 hb.size, hg.2⟩, hb.block g hg.1⟩
  exact ⟨h.b.trans (hb.mono h.b.size), h.bs, h.p.to hb.size (fun g hg => hb.block g (h.p.own_lt g hg).2) hF, h.o.to hb.size (fun g hg => hb.block g (h.o.own_lt g hg).2) hF, h.s.step hb, h.r.to hF, h.d⟩
/-- The state is written anew. -/
theorem Wv.hold {w : World} {Bs : Nat} {P O S : List Ms} {slP slO : Value} {xsP xsO : List Value} {aS : Option Addr} {cS : Nat} {since : Int} {wr wx : World} (h : Wv w Bs P O S slP slO xsP xsO aS cS since wr) (hb : Below wr.heap.size wr wx) {l1 : List Ms} {a1 : Option Addr} (c1 : Nat) (s1 : Int) (m1 : Mz (fun g => wr.heap.size ≤ g ∧ g < wx.heap.size) wx a1 l1) :
    Wv w Bs P O l1 slP slO xsP xsO a1 c1 s1 ((wx.setCell ⟨Bs, 0, none⟩ (.slice a1 l1.length c1)).setCell ⟨Bs, 1, none⟩ (.int .i64 s1)) := by
  have h2 := h.step hb
  have hBs := h.s.lt
  have sz : ((wx.setCell ⟨Bs, 0, none⟩ (.slice a1 l1.length c1)).setCell ⟨Bs, 1, none⟩ (.int .i64 s1)).heap.size = wx.heap.size := by simp
  have oth : ∀ g, g ≠ Bs → ((wx.setCell ⟨Bs, 0, none⟩ (.slice a1 l1.length c1)).setCell ⟨Bs, 1, none⟩ (.int .i64 s1)).heap[g]? = wx.heap[g]? := fun g hg => by rw [Below.heap_setCell _ _ _ g hg, Below.heap_setCell _ _ _ g hg]
  have hF : ∀ g, Fw Bs slP slO wx g → Fw Bs slP slO ((wx.setCell ⟨Bs, 0, none⟩ (.slice a1 l1.length c1)).setCell ⟨Bs, 1, none⟩ (.int .i64 s1)) g ∧ ((wx.setCell ⟨Bs, 0, none⟩ (.slice a1 l1.length c1)).setCell ⟨Bs, 1, none⟩ (.int .i64 s1)).heap[g]? = wx.heap[g]? := fun g hg => ⟨⟨by rw [sz]; exact hg.1, hg.2⟩, oth g hg.2.2.2⟩
  refine ⟨(h2.b.setCell h.bs _).setCell h.bs _, h.bs, h2.p.to (by rw [sz]; exact Nat.le_refl _) (fun g hg => oth g (by have := (h2.p.own_lt g hg).1; omega)) hF, h2.o.to (by rw [sz]; exact Nat.le_refl _) (fun g hg => oth g (by have := (h2.o.own_lt g hg).1; omega)) hF, (h2.s.set 0 _).set 1 _, m1.to fun g hg => ⟨⟨by rw [sz]; exact hg.2, fun e => ?_, fun e => ?_, by omega⟩, oth g (by omega)⟩, h.d⟩
  · have := (h.p.own_lt g e.symm).2; omega
  · have := (h.o.own_lt g e.symm).2; omega
/-- What was put grows. -/
theorem Wv.put {w : World} {Bs : Nat} {P O S : List Ms} {slP slO : Value} {xsP xsO : List Value} {aS : Option Addr} {cS : Nat} {since : Int} {wr wx : World} (h : Wv w Bs P O S slP slO xsP xsO aS cS since wr) {Q : List Ms} {sl' : Value} {xs' : List Value} (m : Mp (Bs + 1) (Fw Bs slP slO wr) Q sl' xs' wx) (gr : wr.grownBy wx slP.ownBlock) (at' : sl'.ownBlock = slP.ownBlock ∨ sl'.ownBlock = some wr.heap.size) :
    Wv w Bs Q O S sl' slO xs' xsO aS cS since wx := by
  have hs := gr.size
  have ne : ∀ g, g < wr.heap.size → some g ≠ slP.ownBlock → some g ≠ sl'.ownBlock := fun g h1 h2 => by
    rcases at' with e | e
    · rw [e]; exact h2
    · rw [e]; intro e; have := Option.some.inj e; omega
  have hF : ∀ g, Fw Bs slP slO wr g → Fw Bs sl' slO wx g ∧ wx.heap[g]? = wr.heap[g]? := fun g hg => ⟨⟨by have := hg.1; omega, ne g hg.1 hg.2.1, hg.2.2⟩, gr.block g hg.1 hg.2.1⟩
  have lo : ∀ k, slP.ownBlock = some k → w.heap.size ≤ k := fun k hk => by have := (h.p.own_lt k hk).1; have := h.bs; omega
  refine ⟨h.b.grown gr h.b.size lo, h.bs, m.to (Nat.le_refl _) (fun _ _ => rfl) (fun g hg => ⟨(hF g hg).1, rfl⟩), h.o.to hs (fun g hg => gr.block g (h.o.own_lt g hg).2 (fun e => h.d g e.symm hg)) hF, (gr.block Bs h.s.lt (fun e => by have := (h.p.own_lt Bs e.symm).1; omega)).trans h.s, h.r.to hF, fun g hg e => ?_⟩
  rcases at' with e' | e'
  · exact h.d g (e' ▸ hg) e
  · have := Option.some.inj (e'.symm.trans hg); have := (h.o.own_lt g e).2; omega
/-- What has gone on grows. -/
theorem Wv.out {w : World} {Bs : Nat} {P O S : List Ms} {slP slO : Value} {xsP xsO : List Value} {aS : Option Addr} {cS : Nat} {since : Int} {wr wx : World} (h : Wv w Bs P O S slP slO xsP xsO aS cS since wr) {Q : List Ms} {sl' : Value} {xs' : List Value} (m : Mp (Bs + 1) (Fw Bs slP slO wr) Q sl' xs' wx) (gr : wr.grownBy wx slO.ownBlock) (at' : sl'.ownBlock = slO.ownBlock ∨ sl'.ownBlock = some wr.heap.size) :
    Wv w Bs P Q S slP sl' xsP xs' aS cS since wx := by
  have hs := gr.size
  have ne : ∀ g, g < wr.heap.size → some g ≠ slO.ownBlock → some g ≠ sl'.ownBlock := fun g h1 h2 => by
    rcases at' with e | e
    · rw [e]; exact h2
    · rw [e]; intro e; have := Option.some.inj e; omega
  have hF : ∀ g, Fw Bs slP slO wr g → Fw Bs slP sl' wx g ∧ wx.heap[g]? = wr.heap[g]? := fun g hg => ⟨⟨by have := hg.1; omega, hg.2.1, ne g hg.1 hg.2.2.1, hg.2.2.2⟩, gr.block g hg.1 hg.2.2.1⟩
  have lo : ∀ k, slO.ownBlock = some k → w.heap.size ≤ k := fun k hk => by have := (h.o.own_lt k hk).1; have := h.bs; omega
  refine ⟨h.b.grown gr h.b.size lo, h.bs, h.p.to hs (fun g hg => gr.block g (h.p.own_lt g hg).2 (fun e => h.d g hg e.symm)) hF, m.to (Nat.le_refl _) (fun _ _ => rfl) (fun g hg => ⟨(hF g hg).1, rfl⟩), (gr.block Bs h.s.lt (fun e => by have := (h.o.own_lt Bs e.symm).1; omega)).trans h.s, h.r.to hF, fun g hg e => ?_⟩
  rcases at' with e' | e'
  · exact h.d g hg (e' ▸ e)
  · have := Option.some.inj (e'.symm.trans e); have := (h.p.own_lt g hg).2; omega
theorem Wv.new (w w1 : World) (hb : Below w.heap.size w w1) : Wv w w1.heap.size [] [] [] (.slice none 0 0) (.slice none 0 0) [] [] none 0 0 (w1.alloc (.cells #[.slice none 0 0, .int .i64 0] 24)) :=
  ⟨hb.trans ((below1 w1 _).mono hb.size), hb.size, Mp.nil _ _ _ (by simp), Mp.nil _ _ _ (by simp), Bk.new w1 _ _, .inl rfl, fun g hg => by cases hg⟩
/-- A row in new memory, as a row that may be appended. -/
theorem Wv.fresh {w : World} {Bs : Nat} {P O S : List Ms} {slP slO : Value} {xsP xsO : List Value} {aS : Option Addr} {cS : Nat} {since : Int} {wr wx wy : World} (h : Wv w Bs P O S slP slO xsP xsO aS cS since wr) {l : List Ms} {a : Option Addr} (hs : wy.heap.size = wx.heap.size) (hb : ∀ g, g ≠ Bs → wy.heap[g]? = wx.heap[g]?) (m : Mz (fun g => wr.heap.size ≤ g ∧ g < wx.heap.size) wx a l) : Mz (Fw Bs slP slO wy) wy a l :=
  m.to fun g hg => ⟨⟨by omega, fun e => by have := (h.p.own_lt g e.symm).2; omega, fun e => by have := (h.o.own_lt g e.symm).2; omega, by have := h.s.lt; omega⟩, hb g (by have := h.s.lt; omega)⟩
/-- A state is written anew, and a row beside it goes on. -/
theorem Wv.turn {w : World} {Bs : Nat} {P O S : List Ms} {slP slO : Value} {xsP xsO : List Value} {aS : Option Addr} {cS : Nat} {since : Int} {wr wx : World} (h : Wv w Bs P O S slP slO xsP xsO aS cS since wr) (hb : Below wr.heap.size wr wx) {l1 l2 : List Ms} {a1 a2 : Option Addr} (c1 : Nat) (s1 : Int) (m1 : Mf (fun g => wr.heap.size ≤ g ∧ g < wx.heap.size) wx a1 l1) (m2 : Mf (fun g => wr.heap.size ≤ g ∧ g < wx.heap.size) wx a2 l2) :
    ∀ W, W = (wx.setCell ⟨Bs, 0, none⟩ (.slice a1 l1.length c1)).setCell ⟨Bs, 1, none⟩ (.int .i64 s1) → Wv w Bs P O l1 slP slO xsP xsO a1 c1 s1 W ∧ Mz (Fw Bs slP slO W) W a2 l2 := fun W hW => by
  subst hW
  exact ⟨h.hold hb c1 s1 m1.mz, h.fresh (by simp) (fun g hg => by rw [Below.heap_setCell _ _ _ g hg, Below.heap_setCell _ _ _ g hg]) m2.mz⟩
end Go.Proofs.YtikkedemhcdboaaDoor
