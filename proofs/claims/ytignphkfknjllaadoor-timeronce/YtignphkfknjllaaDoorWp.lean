/- A whole wheel, and what holds while time comes to a slot; no condition but those that each theorem names. -/
import Derived.Test.YtignphkfknjllaaDoorWn
import Derived.Test.YtignphkfknjllaaDoorWo
import Derived.Test.YtignphkfknjllaaDoorWk
namespace Go.Proofs.YtignphkfknjllaaDoor
open Go.RowKit
variable {zf : Bool}

/-- The least number that is so. -/
theorem exists_least (P : Nat → Prop) : ∀ n, P n → ∃ n, P n ∧ ∀ m, P m → n ≤ m := by
  intro n
  induction n using Nat.strongRecOn with
  | ind n ih =>
    intro h
    by_cases c : ∃ m, m < n ∧ P m
    · obtain ⟨m, h1, h2⟩ := c
      exact ih m h1 h2
    · refine ⟨n, h, fun m hm => ?_⟩
      rcases Nat.lt_or_ge m n with d | d
      · exact absurd ⟨m, d, hm⟩ c
      · exact d
open Classical in
noncomputable def least (P : Nat → Prop) : Nat := if h : ∃ n, P n ∧ ∀ m, P m → n ≤ m then Classical.choose h else 0
theorem least_is {P : Nat → Prop} {n : Nat} (h : P n) : P (least P) ∧ ∀ m, P m → least P ≤ m := by
  have h1 := exists_least P n h
  unfold least
  rw [dif_pos h1]
  exact Classical.choose_spec h1

/-- The blocks of a wheel with these timers. -/
def OwL (b m : Nat) (LL : List Tm) (B : Nat) : Prop := B = b ∨ B = m ∨ ∃ t ∈ LL, t.b = B
def im (LL : List Tm) : List (Int × Nat) := LL.map fun t => (t.i, t.b)
theorem im_fst (LL : List Tm) : (im LL).map (·.1) = LL.map Tm.i := by simp [im]
theorem im_filter (LL : List Tm) (i : Int) : (im LL).filter (fun x => x.1 != i) = im (LL.filter fun t => t.i != i) := by
  unfold im; rw [List.filter_map]; rfl
theorem Jd.mem {T' k0 : Nat} {LL r : List Tm} {q : Nat → List Tm} {us : Nat → Nat} {LC : List Tm} (j : Jd T' k0 LL r q us LC) {k : Nat} {t : Tm} (hk : k < 448) (h : t ∈ q k) : t ∈ LL := by
  by_cases c : k = k0
  · subst c; rw [j.qr] at h; exact j.rl t h
  · have h1 := j.fi k t.a hk c
    have h2 : t ∈ fl t.a (q k) := mem_fl.2 ⟨h, rfl⟩
    by_cases e : plc T' t.a = k ∧ T' < t.a
    · rw [if_pos e, if_pos e] at h1
      have : t ∈ fl t.a LL := by rw [← h1]; simp [h2]
      exact (mem_fl.1 this).1
    · rw [if_neg e, if_neg e] at h1
      simp at h1
      rw [h1] at h2; simp at h2
theorem Jd.later {T' k0 : Nat} {LL r : List Tm} {q : Nat → List Tm} {us : Nat → Nat} {LC : List Tm} (j : Jd T' k0 LL r q us LC) {k : Nat} {t : Tm} (hk : k < 448) (hk0 : k ≠ k0) (h : t ∈ q k) : T' < t.a := by
  have h1 := j.fi k t.a hk hk0
  have h2 : t ∈ fl t.a (q k) := mem_fl.2 ⟨h, rfl⟩
  by_cases e : plc T' t.a = k ∧ T' < t.a
  · exact e.2
  · rw [if_neg e, if_neg e] at h1
    simp at h1
    rw [h1] at h2; simp at h2
theorem Jd.own {b m T' k0 : Nat} {LL r : List Tm} {q : Nat → List Tm} {us : Nat → Nat} {LC : List Tm} (j : Jd T' k0 LL r q us LC) {B : Nat} (h : Own b q B) : OwL b m LL B := by
  rcases h with rfl | ⟨k, t, hk, ht, rfl⟩
  · exact .inl rfl
  · exact .inr (.inr ⟨t, j.mem hk ht, rfl⟩)
theorem Gd.own {b m T : Nat} {LL : List Tm} {q : Nat → List Tm} {us : Nat → Nat} (g : Gd T q us LL) {B : Nat} (h : Own b q B) : OwL b m LL B := by
  rcases h with rfl | ⟨k, t, hk, ht, rfl⟩
  · exact .inl rfl
  · exact .inr (.inr ⟨t, (g.mem hk ht).1, rfl⟩)
/-- A whole wheel. -/
structure Ws (zf : Bool) (w : World) (b m T : Nat) (LL : List Tm) (q : Nat → List Tm) (mx : Nat → Bool) (ls : Nat → Int) (us : Nat → Nat) : Prop where
  wl : Wl w b m T q mx ls us
  gd : Gd T q us LL
  ma : ∀ k, k < 448 → Mk (q k) (mx k) (ls k)
  st : zf = true → ∀ k, k < 448 → St (q k) (mx k) (ls k)
  mp : Mp w m (im LL)
def Wh (zf : Bool) (w : World) (b m T : Nat) (LL : List Tm) : Prop := ∃ q mx ls us, Ws zf w b m T LL q mx ls us
theorem Ws.lt {w : World} {b m T : Nat} {LL : List Tm} {q : Nat → List Tm} {mx : Nat → Bool} {ls : Nat → Int} {us : Nat → Nat} (h : Ws zf w b m T LL q mx ls us) {B : Nat} (hB : OwL b m LL B) : B < w.heap.size := by
  rcases hB with rfl | rfl | ⟨t, ht, rfl⟩
  · exact h.wl.lt (.inl rfl)
  · exact h.mp.lt
  · exact h.wl.lt (.inr ⟨plc T t.a, t, plc_lt h.gd.t (h.gd.lo t ht).2, h.gd.inn ht, rfl⟩)
theorem Ws.but {C : Nat → Prop} {w w' : World} {b m T : Nat} {LL : List Tm} {q : Nat → List Tm} {mx : Nat → Bool} {ls : Nat → Int} {us : Nat → Nat} (h : Ws zf w b m T LL q mx ls us) (hB : But C w w') (hC : ∀ B, C B → ¬ OwL b m LL B) : Ws zf w' b m T LL q mx ls us :=
  ⟨h.wl.but hB (fun B c o => hC B c (h.gd.own o)), h.gd, h.ma, h.st, h.mp.blk (hB.block m h.mp.lt (fun c => hC m c (.inr (.inl rfl))))⟩
theorem Wh.but {C : Nat → Prop} {w w' : World} {b m T : Nat} {LL : List Tm} (h : Wh zf w b m T LL) (hB : But C w w') (hC : ∀ B, C B → ¬ OwL b m LL B) : Wh zf w' b m T LL := by
  obtain ⟨q, mx, ls, us, h⟩ := h
  exact ⟨q, mx, ls, us, h.but hB hC⟩
theorem Wh.lt {w : World} {b m T : Nat} {LL : List Tm} (h : Wh zf w b m T LL) {B : Nat} (hB : OwL b m LL B) : B < w.heap.size := by
  obtain ⟨q, mx, ls, us, h⟩ := h
  exact h.lt hB
theorem Wh.below {w w' : World} {b m T : Nat} {LL : List Tm} (h : Wh zf w b m T LL) (hB : Below w.heap.size w w') : Wh zf w' b m T LL := h.but (But.of_below (C := fun _ => False) hB) (fun _ c => c.elim)

/-- While time comes to a slot: d has gone, r is still there. -/
structure Cd (zf : Bool) (w0 : World) (b m T' k0 L : Nat) (LL F0 d r : List Tm) (sl : Value) (q : Nat → List Tm) (mx : Nat → Bool) (ls : Nat → Int) (us : Nat → Nat) (LC : List Tm) (wr : World) : Prop where
  wl : Wl wr b m T' q mx ls us
  jd : Jd T' k0 LL r q us LC
  ma : ∀ k, k < 448 → Mk (q k) (mx k) (ls k)
  st : zf = true → ∀ k, k < 448 → k ≠ k0 → St (q k) (mx k) (ls k)
  mp : Mp wr m (im LC)
  fr : FR wr L (F0 ++ fl T' d) sl
  bt : But (fun B => OwL b m LL B ∨ L ≤ B) w0 wr
def Cr (zf : Bool) (w0 : World) (b m T' k0 L : Nat) (LL F0 l0 : List Tm) (sl : Value) (wr : World) (n : Nat) : Prop := ∃ d r q mx ls us LC, l0 = d ++ r ∧ r.length = n ∧ Cd zf w0 b m T' k0 L LL F0 d r sl q mx ls us LC wr

/-- A word with one bit less. -/
def clr (U S : Nat) : Nat := (BitVec.ofNat 64 U &&& ~~~ BitVec.ofNat 64 (2 ^ S)).toNat
theorem clr_lt (U S : Nat) : clr U S < 18446744073709551616 := BitVec.isLt _
theorem clr_bit {U S : Nat} (s : Nat) (hs : s < 64) : (clr U S).testBit s = (U.testBit s && decide (S ≠ s)) := by
  unfold clr
  rw [BitVec.testBit_toNat, BitVec.getLsbD_and, BitVec.getLsbD_not, BitVec.getLsbD_ofNat, BitVec.getLsbD_ofNat, Nat.testBit_two_pow]
  simp [hs]
theorem clr_bits {U S : Nat} : bits .andNot .u64 (U : Int) ((2 ^ S : Nat) : Int) = ((clr U S : Nat) : Int) := by
  have h1 : BitVec.ofInt 64 (U : Int) = BitVec.ofNat 64 U := BitVec.ofInt_natCast _ _
  have h2 : BitVec.ofInt 64 ((2 ^ S : Nat) : Int) = BitVec.ofNat 64 (2 ^ S) := BitVec.ofInt_natCast _ _
  show IntKind.u64.wrap ((BitVec.ofInt 64 (U : Int) &&& ~~~ BitVec.ofInt 64 ((2 ^ S : Nat) : Int)).toNat : Int) = _
  rw [h1, h2, IntKind.wrap_u64]
  have := clr_lt U S
  unfold clr at *
  omega
end Go.Proofs.YtignphkfknjllaaDoor
