/- The fates in memory, what marks them, and the law's state; the conditions: what lies in memory. -/
import Derived.Test.YtdgjhclncjoonaaQn
namespace Go.Proofs.Ytdgjhclncjoonaa
open Go.RowKit

/-- The fates stand in block A. -/
def Fq (w : World) (A n : Nat) (ft : Nat → Int) : Prop := ∃ cur : Array Value, Bk w A cur 3 ∧ cur.size = n ∧ ∀ i, i < n → cur[i]? = some (.int .i64 (ft i))
theorem Fq.lt {w : World} {A n : Nat} {ft : Nat → Int} (h : Fq w A n ft) : A < w.heap.size := by obtain ⟨c, h, -⟩ := h; exact h.lt
theorem Fq.heap {w w' : World} {A n : Nat} {ft : Nat → Int} (h : Fq w A n ft) (hh : w'.heap[A]? = w.heap[A]?) : Fq w' A n ft := by
  obtain ⟨c, h1, h2⟩ := h
  exact ⟨c, hh.trans h1, h2⟩
theorem Fq.c {w : World} {A n : Nat} {ft : Nat → Int} (h : Fq w A n ft) (i : Nat) (hi : i < n) : w.cell? ⟨A, i, none⟩ = some (.int .i64 (ft i)) := by
  obtain ⟨c, h1, h2, h3⟩ := h
  rw [h1.c]
  exact h3 i hi
theorem Fq.f {w : World} {A n : Nat} {ft : Nat → Int} (h : Fq w A n ft) (o : Nat) : w.frozen? ⟨A, o, none⟩ = false := by
  obtain ⟨c, h1, h2, h3⟩ := h
  exact h1.f o
theorem Fq.inc {w : World} {A n : Nat} {ft : Nat → Int} (h : Fq w A n ft) (i : Nat) (hi : i < n) : Fq (w.setCell ⟨A, i, none⟩ (.int .i64 (ft i + 1))) A n (inc ft i) := by
  obtain ⟨c, h1, h2, h3⟩ := h
  refine ⟨_, h1.set i _, by simpa using h2, fun q hq => ?_⟩
  unfold Ytdgjhclncjoonaa.inc
  rw [Array.getElem?_setIfInBounds]
  by_cases e : i = q
  · subst e
    rw [if_pos rfl, if_pos (by omega), if_pos rfl]
  · rw [if_neg e, if_neg (Ne.symm e)]
    exact h3 q hq
abbrev mk (FB : Nat) : Value := .func (.func 18) #[] #[.pointer (some ⟨FB, 0, none⟩)]
set_option maxHeartbeats 1000000 in
theorem mark_no (x : Ms) (d : Bo) (FB : Nat) (w : World) : Calls Try.prog 18 #[.agg (x.cs d), .bool false, .pointer (some ⟨FB, 0, none⟩)] w fun e w' => e = .returned (.bool true) ∧ Below w.heap.size w w' := by
  go_enter Try.func18, Try.ntmps18
  go_wp2
  go_ret
  exact ⟨rfl, below1 w _⟩
set_option maxRecDepth 100000 in
set_option maxHeartbeats 2000000 in
theorem mark_yes (x : Ms) (d : Bo) (FB A n i : Nat) (ft : Nat → Int) (w : World) (hf : Bk w FB #[.slice (some ⟨A, 0, none⟩) n n] 49) (hq : Fq w A n ft) (hx : x.id = (i : Int) + 1) (hi : i < n) (hn : n ≤ 1000) (h0 : ft i = 0) :
    Calls Try.prog 18 #[.agg (x.cs d), .bool true, .pointer (some ⟨FB, 0, none⟩)] w fun e w' => e = .returned (.bool true) ∧ Fq w' A n (inc ft i) ∧ Ke A w w' := by
  obtain ⟨xi, xt, xn, xb, xa, xu, xr, xc, xp, xh⟩ := x
  obtain rfl : xi = (i : Int) + 1 := hx
  obtain ⟨x, ex⟩ : ∃ x : Ms, x = ⟨(i : Int) + 1, xt, xn, xb, xa, xu, xr, xc, xp, xh⟩ := ⟨_, rfl⟩
  have ba := below1 w (.cells (x.cs d) 30)
  have f1 := hf.alloc (.cells (x.cs d) 30)
  have q1 : Fq (w.alloc (.cells (x.cs d) 30)) A n ft := hq.heap (ba.block A hq.lt)
  have F0 : (w.alloc (.cells (x.cs d) 30)).cell? ⟨FB, 0, none⟩ = some (.slice (some ⟨A, 0, none⟩) n n) := f1.c 0
  have c0 := q1.c i hi
  have cf := q1.f i
  have NX : Hid (Fq ((w.alloc (.cells (x.cs d) 30)).setCell ⟨A, i, none⟩ (.int .i64 1)) A n (inc ft i) ∧ Ke A w ((w.alloc (.cells (x.cs d) 30)).setCell ⟨A, i, none⟩ (.int .i64 1))) := by
    have := q1.inc i hi
    rw [h0] at this
    exact ⟨this, (Ke.of ba).set _ _⟩
  rw [h0] at c0
  have i0 : (0 : Int) ≤ (i : Int) := by omega
  have i1 : (i : Int) < (n : Int) := by omega
  subst ex
  have k2 : ((i : Int) + 1 - 1) = (i : Int) := by omega
  have l1 : decide ((i : Int) + 1 < 1) = false := decide_eq_false (by omega)
  have l2 : decide ((n : Int) < (i : Int) + 1) = false := decide_eq_false (by omega)
  clear hf hq f1 q1 ba h0
  go_enter Try.func18, Try.ntmps18
  go_wp2_with fail
  go_ret
  exact ⟨rfl, NX.out⟩

/-- The law's state. -/
structure Lo (w : World) (n : Nat) (l : List Ms) (a : Option Addr) (c : Nat) (r dr : Int) (ft : Nat → Int) (lm : List (Int × Int)) (wr : World) : Prop where
  b : Below w.heap.size w wr
  z : w.heap.size + 4 ≤ wr.heap.size
  q : Bk wr w.heap.size #[.slice a l.length c, .int .i64 r, .int .i64 dr] 24
  m : Mz (fun g => w.heap.size + 4 ≤ g ∧ g < wr.heap.size) wr a l
  f : Bk wr (w.heap.size + 1 + 1) #[.slice (some ⟨w.heap.size + 1, 0, none⟩) n n] 49
  t : Fq wr (w.heap.size + 1) n ft
  p : Lm wr (w.heap.size + 1 + 1 + 1) lm
theorem mz_step {B : Nat} {wr w' : World} {a : Option Addr} {l : List Ms} (h : Mz (fun g => B ≤ g ∧ g < wr.heap.size) wr a l) (hb : Below wr.heap.size wr w') : Mz (fun g => B ≤ g ∧ g < w'.heap.size) w' a l :=
  Mz.to h fun g hg => ⟨⟨hg.1, Nat.lt_of_lt_of_le hg.2 hb.size⟩, hb.block g hg.2⟩
theorem mz_ke {B A : Nat} {wr w' : World} {a : Option Addr} {l : List Ms} (h : Mz (fun g => B ≤ g ∧ g < wr.heap.size) wr a l) (hb : Ke A wr w') (hA : A < B) : Mz (fun g => B ≤ g ∧ g < w'.heap.size) w' a l :=
  Mz.to h fun g hg => ⟨⟨hg.1, Nat.lt_of_lt_of_le hg.2 hb.size⟩, hb.block g hg.2 (by omega)⟩
section
variable {w : World} {n : Nat} {l : List Ms} {a : Option Addr} {c : Nat} {r dr : Int} {ft : Nat → Int} {lm : List (Int × Int)} {wr w' : World}
theorem Lo.step (h : Lo w n l a c r dr ft lm wr) (hb : Below wr.heap.size wr w') : Lo w n l a c r dr ft lm w' := by
  have hz := h.z
  exact ⟨h.b.trans (hb.mono (by omega)), Nat.le_trans hz hb.size, h.q.step hb, mz_step h.m hb, h.f.step hb, h.t.heap (hb.block _ h.t.lt), h.p.heap (hb.block _ (by omega))⟩
theorem Lo.fate (h : Lo w n l a c r dr ft lm wr) (hk : Ke (w.heap.size + 1) wr w') {ft' : Nat → Int} (hf : Fq w' (w.heap.size + 1) n ft') : Lo w n l a c r dr ft' lm w' := by
  have hz := h.z
  exact ⟨Ke.below h.b hk (by omega) (by omega), Nat.le_trans hz hk.size, (hk.block _ (by omega) (by omega)).trans h.q, mz_ke h.m hk (by omega), (hk.block _ (by omega) (by omega)).trans h.f, hf, h.p.heap (hk.block _ (by omega) (by omega))⟩
theorem Lo.map (h : Lo w n l a c r dr ft lm wr) (hk : Ke (w.heap.size + 1 + 1 + 1) wr w') {lm' : List (Int × Int)} (hp : Lm w' (w.heap.size + 1 + 1 + 1) lm') : Lo w n l a c r dr ft lm' w' := by
  have hz := h.z
  exact ⟨Ke.below h.b hk (by omega) (by omega), Nat.le_trans hz hk.size, (hk.block _ (by omega) (by omega)).trans h.q, mz_ke h.m hk (by omega), (hk.block _ (by omega) (by omega)).trans h.f, h.t.heap (hk.block _ (by omega) (by omega)), hp⟩
/-- Another inbox is kept. -/
theorem Lo.box (h : Lo w n l a c r dr ft lm wr) {l2 : List Ms} {a2 : Option Addr} {c2 : Nat} {r2 d2 : Int} (hm : Mz (fun g => w.heap.size + 4 ≤ g ∧ g < wr.heap.size) wr a2 l2) : Lo w n l2 a2 c2 r2 d2 ft lm (((wr.setCell ⟨w.heap.size, 0, none⟩ (.slice a2 l2.length c2)).setCell ⟨w.heap.size, 1, none⟩ (.int .i64 r2)).setCell ⟨w.heap.size, 2, none⟩ (.int .i64 d2)) := by
  have hz := h.z
  have oth : ∀ g, g ≠ w.heap.size → (((wr.setCell ⟨w.heap.size, 0, none⟩ (.slice a2 l2.length c2)).setCell ⟨w.heap.size, 1, none⟩ (.int .i64 r2)).setCell ⟨w.heap.size, 2, none⟩ (.int .i64 d2)).heap[g]? = wr.heap[g]? := fun g hg => set3_heap _ _ _ hg _ _ _
  have hs : (((wr.setCell ⟨w.heap.size, 0, none⟩ (.slice a2 l2.length c2)).setCell ⟨w.heap.size, 1, none⟩ (.int .i64 r2)).setCell ⟨w.heap.size, 2, none⟩ (.int .i64 d2)).heap.size = wr.heap.size := by simp only [World.size_setCell]
  exact ⟨below_set3 h.b (Nat.le_refl _) _ _ _, by omega, Bk.full3 h.q _ _ _, Mz.to hm fun g hg => ⟨⟨hg.1, by omega⟩, oth g (by omega)⟩, (oth _ (by omega)).trans h.f, h.t.heap (oth _ (by omega)), h.p.heap (oth _ (by omega))⟩
end
end Go.Proofs.Ytdgjhclncjoonaa
