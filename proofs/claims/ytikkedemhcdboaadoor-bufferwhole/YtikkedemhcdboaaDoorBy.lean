/- Where the laws stand behind their regions that draw their order; the two spoilings one behind the other; no condition but those that each theorem names. -/
import Derived.Test.YtikkedemhcdboaaDoorBi
import Derived.Test.YtikkedemhcdboaaDoorBj
import Derived.Test.YtikkedemhcdboaaDoorBl
import Derived.Test.YtikkedemhcdboaaDoorBv
import Derived.Test.YtikkedemhcdboaaDoorBx
namespace Go.Proofs.YtikkedemhcdboaaDoor
open Go.RowKit

/-- The law's own state is made. -/
structure Pe (W0 : World) (l : List Ms) (since : Int) (X : Nat) (a0 : Option Addr) (c0 : Nat) (wc : World) : Prop where
  b : Below W0.heap.size W0 wc
  o : Bk wc X #[.slice a0 l.length c0, .int .i64 since] 24
  x : W0.heap.size ≤ X
  r : Mz (fun g => W0.heap.size ≤ g ∧ g < wc.heap.size ∧ g ≠ X) wc a0 l
theorem Pe.step {W0 : World} {l : List Ms} {since : Int} {X : Nat} {a0 : Option Addr} {c0 : Nat} {wc wd : World} (h : Pe W0 l since X a0 c0 wc) (hb : Below wc.heap.size wc wd) : Pe W0 l since X a0 c0 wd :=
  ⟨h.b.trans (hb.mono h.b.size), h.o.step hb, h.x, h.r.to fun g hg => ⟨⟨hg.1, Nat.lt_of_lt_of_le hg.2.1 hb.size, hg.2.2⟩, hb.block g hg.2.1⟩⟩
theorem Pe.mk' {W0 : World} {l : List Ms} {since : Int} {X : Nat} {a0 : Option Addr} {c0 : Nat} {wc : World} (lo hi : Nat) (h1 : W0.heap.size ≤ lo) (h2 : hi ≤ wc.heap.size) (hX : X < lo ∨ hi ≤ X) (hx : W0.heap.size ≤ X) (b : Below W0.heap.size W0 wc) (o : Bk wc X #[.slice none 0 0, .int .i64 0] 24) (r : Mz (fun g => lo ≤ g ∧ g < hi) wc a0 l) :
    Pe W0 l since X a0 c0 ((wc.setCell ⟨X, 0, none⟩ (.slice a0 l.length c0)).setCell ⟨X, 1, none⟩ (.int .i64 since)) := by
  refine ⟨(b.setCell hx _).setCell hx _, ((o.set 0 _).set 1 _), hx, r.to fun g hg => ⟨⟨by omega, by simp; omega, by omega⟩, ?_⟩⟩
  rw [Below.heap_setCell _ _ _ g (by show g ≠ X; omega), Below.heap_setCell _ _ _ g (by show g ≠ X; omega)]
/-- What the program gave is kept. -/
structure Pf (W1 : World) (l1 : List Ms) (s1 : Int) (l2 : List Ms) (Y L H : Nat) (a1 : Option Addr) (c1 : Nat) (a2 : Option Addr) (wc : World) : Prop where
  b : Below W1.heap.size W1 wc
  y : Bk wc Y #[.slice a1 l1.length c1, .int .i64 s1] 24
  yl : W1.heap.size ≤ Y
  lo : W1.heap.size ≤ L
  hi : H ≤ wc.heap.size
  yo : Y < L ∨ H ≤ Y
  m1 : Mf (fun g => L ≤ g ∧ g < H) wc a1 l1
  m2 : Mf (fun g => L ≤ g ∧ g < H) wc a2 l2
theorem Pf.step {W1 : World} {l1 : List Ms} {s1 : Int} {l2 : List Ms} {Y L H : Nat} {a1 : Option Addr} {c1 : Nat} {a2 : Option Addr} {wc wd : World} (h : Pf W1 l1 s1 l2 Y L H a1 c1 a2 wc) (hb : Below wc.heap.size wc wd) : Pf W1 l1 s1 l2 Y L H a1 c1 a2 wd :=
  ⟨h.b.trans (hb.mono h.b.size), h.y.step hb, h.yl, h.lo, Nat.le_trans h.hi hb.size, h.yo, h.m1.to fun g hg => ⟨hg, hb.block g (Nat.lt_of_lt_of_le hg.2 h.hi)⟩, h.m2.to fun g hg => ⟨hg, hb.block g (Nat.lt_of_lt_of_le hg.2 h.hi)⟩⟩
theorem Pf.mk' {W1 : World} {l1 : List Ms} {s1 : Int} {l2 : List Ms} {Y L H : Nat} {a1 : Option Addr} {c1 : Nat} {a2 : Option Addr} {wc : World} (b : Below W1.heap.size W1 wc) (y : Bk wc Y #[.slice none 0 0, .int .i64 0] 24) (yl : W1.heap.size ≤ Y) (lo : W1.heap.size ≤ L) (hi : H ≤ wc.heap.size) (yo : Y < L ∨ H ≤ Y) (m1 : Mf (fun g => L ≤ g ∧ g < H) wc a1 l1) (m2 : Mf (fun g => L ≤ g ∧ g < H) wc a2 l2) :
    Pf W1 l1 s1 l2 Y L H a1 c1 a2 ((wc.setCell ⟨Y, 0, none⟩ (.slice a1 l1.length c1)).setCell ⟨Y, 1, none⟩ (.int .i64 s1)) := by
  have hh : ∀ g, (L ≤ g ∧ g < H) → (L ≤ g ∧ g < H) ∧ ((wc.setCell ⟨Y, 0, none⟩ (.slice a1 l1.length c1)).setCell ⟨Y, 1, none⟩ (.int .i64 s1)).heap[g]? = wc.heap[g]? := fun g hg => ⟨hg, by rw [Below.heap_setCell _ _ _ g (by show g ≠ Y; omega), Below.heap_setCell _ _ _ g (by show g ≠ Y; omega)]⟩
  exact ⟨(b.setCell yl _).setCell yl _, (y.set 0 _).set 1 _, yl, lo, by simpa using hi, yo, m1.to hh, m2.to hh⟩

theorem Bw.trans {L H : Nat} {w w' w'' : World} (h : Bw L H w w') (h' : Bw L H w' w'') : Bw L H w w'' := ⟨h'.size.trans h.size, fun q hq => (h'.block q hq).trans (h.block q hq), h.b.trans h'.b⟩
theorem Bw.wide {L : Nat} {w w' : World} (h : Bw L L w w') (M H : Nat) (h1 : M ≤ L) : Bw M H w w' := ⟨h.size, fun q hq => h.block q (by omega), h.b.mono h1⟩
theorem Bw.bk {L H : Nat} {w w' : World} (h : Bw L H w w') {N : Nat} {cs : Array Value} {T : TypeId} (k : Bk w N cs T) (hN : N < L ∨ H ≤ N) : Bk w' N cs T := (h.block N hN).trans k
/-- The first of two spoilings leaves the other row, if one of them is empty. -/
theorem spoil_first {L H : Nat} {l1 l2 : List Ms} (hn : l1 = [] ∨ l2 = []) (a1 a2 : Option Addr) (c : Nat) (w : World) (hl : l1.length ≤ 1000000) (m1 : Mf (fun g => L ≤ g ∧ g < H) w a1 l1) (m2 : Mf (fun g => L ≤ g ∧ g < H) w a2 l2) :
    Calls Tryd.prog 15 #[.slice a1 l1.length c] w fun e w' => (∃ v, e = .returned v) ∧ Bw L H w w' ∧ Mf (fun g => L ≤ g ∧ g < H) w' a2 l2 := by
  rcases hn with rfl | rfl
  · refine (spoil_none a1 c L L w).mono fun e w' ⟨he, hb⟩ => ⟨he, hb.wide L H (Nat.le_refl _), m2.to fun g hg => ⟨hg, hb.block g (by omega)⟩⟩
  · exact (spoil_any L H l1 a1 c w hl m1).mono fun e w' ⟨he, hb⟩ => ⟨he, hb, .inl rfl⟩
end Go.Proofs.YtikkedemhcdboaaDoor
