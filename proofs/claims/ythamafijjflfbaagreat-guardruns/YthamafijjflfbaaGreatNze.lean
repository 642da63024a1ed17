/- guard.Run by the acts' contracts; the conditions: those contracts, and how far it goes. -/
import Derived.Test.YthamafijjflfbaaGreatNzd
namespace Go.Proofs.YthamafijjflfbaaGreat
open Go.RowKit

/-- So many results come: all, or up to the first panic. -/
def Kp (ln : Nat) (pan : Nat → Bool) (k : Nat) : Prop := (k = ln ∧ ∀ q, q < ln → pan q = false) ∨ ∃ j, j < ln ∧ k = j + 1 ∧ pan j = true ∧ ∀ q, q < j → pan q = false
/-- The first that panics is one. -/
theorem first_one {pan : Nat → Bool} {i j : Nat} (hi : pan i = true) (hj : pan j = true) (ni : ∀ q, q < i → pan q = false) (nj : ∀ q, q < j → pan q = false) : i = j := by
  rcases Nat.lt_trichotomy i j with h | h | h
  · have := nj i h; rw [hi] at this; cases this
  · exact h
  · have := ni j h; rw [hj] at this; cases this

/-- What Run comes to. -/
def Rx (Res : Nat → Rv) (k : Nat) (w : World) (e : Ending) (w' : World) : Prop := ∃ B sl pl xs, e = .returned (.tuple #[sl, pl]) ∧ w.heap.size ≤ B + 1 ∧ Rs B Res k sl xs w' ∧ w'.ownsRow (B + 1) 3 1 pl k ((dnI k).map fun q => .int .i64 q) ∧ Below w.heap.size w w'

set_option maxRecDepth 100000 in
set_option maxHeartbeats 2000000 in
theorem Run_all (lg lo : Nat) (la : Option Addr) (ln lc : Nat) (Ac : Nat → Av) (Res : Nat → Rv) (pan : Nat → Bool) (T : Nat → TypeId) (z : Nat → Value) (w : World)
    (hl : ln ≤ 65536) (hla : ln = 0 ∨ la = some ⟨lg, lo, none⟩) (hlg : 0 < ln → lg < w.heap.size) (hlz : lg ≤ w.heap.size)
    (hA : ∀ j, j < ln → Ax w lg (lo + j * 12) (Ac j))
    (hD : ∀ j, j < ln → ∀ wx, Below w.heap.size w wx → w.heap.size + 4 ≤ wx.heap.size → Calls Tryz.prog 21 #[.agg (Ac j).cs] wx (Dn (pan j) (T j) (z j) (Res j) wx))
    (np : ∀ q, q < ln → pan q = false) :
    Calls Tryz.prog 15 #[.slice la ln lc] w (Rx Res ln w) := by
  have hmf : ∀ (fn : Fn) (first cap : Array Value) (w : World), (Instr.makeFunc fn first cap).run Tryz.prog w = .ok (.func fn first cap) w := fun _ _ _ _ => rfl
  have B0 := below2 w (.cells #[.slice la ln lc] 39) (.cells #[.slice none 0 0, .slice none 0 0] 64)
  have L0 := (Bk.new w #[.slice la ln lc] 39).alloc (.cells #[.slice none 0 0, .slice none 0 0] 64)
  have R0 := Bk.new2 w (.cells #[.slice la ln lc] 39) #[.slice none 0 0, .slice none 0 0] 64
  have s0 : ((w.alloc (.cells #[.slice la ln lc] 39)).alloc (.cells #[.slice none 0 0, .slice none 0 0] 64)).heap.size = w.heap.size + 2 := by simp
  have HC : Hid (Calls Tryz.prog 19 #[.func (.func 32) #[] #[.pointer (some ⟨w.heap.size + 1, 0, none⟩), .pointer (some ⟨w.heap.size, 0, none⟩)]] ((w.alloc (.cells #[.slice la ln lc] 39)).alloc (.cells #[.slice none 0 0, .slice none 0 0] 64)) fun e w' => e = .returned (.agg (rErr 0 0 0 0)) ∧ Rq (w.heap.size + 3) (w.heap.size + 1) Res ln ln w' ∧ Fr (w.heap.size + 1) (w.heap.size + 2) ((w.alloc (.cells #[.slice la ln lc] 39)).alloc (.cells #[.slice none 0 0, .slice none 0 0] 64)) w') := by
    generalize (w.alloc (.cells #[.slice la ln lc] 39)).alloc (.cells #[.slice none 0 0, .slice none 0 0] 64) = wc at *
    refine caught_ret 32 _ wc 0 0 0 0 false 0 0 0 ⟨#[]⟩ none 0 0 (w.heap.size + 1) (w.heap.size + 2) (by omega) (by omega) (Rq (w.heap.size + 3) (w.heap.size + 1) Res ln ln) (fun w' w'' h1 h2 h3 => h1.keep h2 fun g g1 g2 => h3 g g1 (by omega)) (fun _ => by kernel_rfl) fun wx hx zx => ?_
    have hb : Below w.heap.size w wx := B0.trans (hx.mono (by omega))
    refine (Run1_any (w.heap.size + 1) w.heap.size lg lo la ln lc Ac Res pan T z wx hl hla (by omega) (by omega) (R0.step hx) (L0.step hx) (fun j hj => (hA j hj).below hb (hlg (by omega))) fun j hj wy hy hz => hD j hj wy (hb.trans (hy.mono (by omega))) (by omega)).mono ?_
    rintro e w' (⟨rfl, -, rq, fr⟩ | ⟨j, hj, -, hp, -⟩)
    · rw [show wx.heap.size = w.heap.size + 3 by omega] at rq
      exact ⟨rfl, rq, fr⟩
    · rw [np j hj] at hp; cases hp
  clear hD hA
  go_enter Tryz.func15, Tryz.ntmps15
  go_wp2_with fail
  refine HC.out.mono ?_
  rintro e w1 ⟨rfl, rq, fr⟩
  have hs1 := fr.size
  obtain ⟨sl, pl, xs, C1, rs, ow, -⟩ := rq
  have e1 := below1 w1 (.cells (rErr 0 0 0 0) 35)
  have Z2 := Bk.new w1 (rErr 0 0 0 0) 35
  obtain ⟨c0, c1⟩ := (C1.step e1).c2
  have lC := C1.lt
  have Z2c := Z2.c 0
  have RS := Lib.hid (rs.step' e1)
  have OW := Lib.hid (owns_to ow fun g hg => e1.block g (owns_lt ow g hg).2)
  have FF := Lib.hid ((B0.trans (fr.b.mono (by omega))).trans (e1.mono (by have := B0.size; omega)))
  clear HC rs ow fr e1 C1 L0 R0 B0 Z2
  go_wp2_with fail
  change Code.wp _ _ _ _ (w1.alloc (.cells (rErr 0 0 0 0) 35))
  generalize w1.alloc (.cells (rErr 0 0 0 0) 35) = w2 at *
  clear Z2c
  go_quiet (fail)
  go_wp2_with fail
  have hq : Below w2.heap.size w2 (w2.drewN nq) := ⟨rfl, rfl, rfl, Nat.le_refl _, fun _ _ => rfl⟩
  go_ret2
  exact ⟨w.heap.size + 3, sl, pl, xs, rfl, by omega, RS.out.step' hq, owns_to OW.out fun g hg => hq.block g (owns_lt OW.out g hg).2, FF.out.trans (hq.mono FF.out.size)⟩
set_option maxRecDepth 100000 in
set_option maxHeartbeats 2000000 in
theorem Run_pan (lg lo : Nat) (la : Option Addr) (ln lc : Nat) (Ac : Nat → Av) (Res : Nat → Rv) (pan : Nat → Bool) (T : Nat → TypeId) (z : Nat → Value) (w : World)
    (hl : ln ≤ 65536) (hla : ln = 0 ∨ la = some ⟨lg, lo, none⟩) (hlg : lg < w.heap.size)
    (hA : ∀ j, j < ln → Ax w lg (lo + j * 12) (Ac j))
    (hD : ∀ j, j < ln → ∀ wx, Below w.heap.size w wx → w.heap.size + 4 ≤ wx.heap.size → Calls Tryz.prog 21 #[.agg (Ac j).cs] wx (Dn (pan j) (T j) (z j) (Res j) wx))
    (j : Nat) (hj : j < ln) (hp : pan j = true) (np : ∀ q, q < j → pan q = false) (pk pn : Int) (hR : Res j = ⟨110, pk, pn, false, 1, lfT 0 0⟩)
    (hT : ∀ wx, Calls Tryz.prog 37 #[.iface (T j) (z j)] wx fun e w' => e = .returned (.agg #[.int .i64 pk, .int .i64 pn]) ∧ Below wx.heap.size wx w') :
    Calls Tryz.prog 15 #[.slice la ln lc] w (Rx Res (j + 1) w) := by
  have hmf : ∀ (fn : Fn) (first cap : Array Value) (w : World), (Instr.makeFunc fn first cap).run Tryz.prog w = .ok (.func fn first cap) w := fun _ _ _ _ => rfl
  have B0 := below2 w (.cells #[.slice la ln lc] 39) (.cells #[.slice none 0 0, .slice none 0 0] 64)
  have L0 := (Bk.new w #[.slice la ln lc] 39).alloc (.cells #[.slice none 0 0, .slice none 0 0] 64)
  have R0 := Bk.new2 w (.cells #[.slice la ln lc] 39) #[.slice none 0 0, .slice none 0 0] 64
  have s0 : ((w.alloc (.cells #[.slice la ln lc] 39)).alloc (.cells #[.slice none 0 0, .slice none 0 0] 64)).heap.size = w.heap.size + 2 := by simp
  have HC : Hid (Calls Tryz.prog 19 #[.func (.func 32) #[] #[.pointer (some ⟨w.heap.size + 1, 0, none⟩), .pointer (some ⟨w.heap.size, 0, none⟩)]] ((w.alloc (.cells #[.slice la ln lc] 39)).alloc (.cells #[.slice none 0 0, .slice none 0 0] 64)) fun e w' => e = .returned (.agg (rErr 110 0 pk pn)) ∧ Rq (w.heap.size + 3) (w.heap.size + 1) Res j (j + 1) w' ∧ Fr (w.heap.size + 1) (w.heap.size + 2) ((w.alloc (.cells #[.slice la ln lc] 39)).alloc (.cells #[.slice none 0 0, .slice none 0 0] 64)) w') := by
    generalize (w.alloc (.cells #[.slice la ln lc] 39)).alloc (.cells #[.slice none 0 0, .slice none 0 0] 64) = wc at *
    refine caught_panE 32 _ wc (T j) (z j) pk pn (w.heap.size + 1) (w.heap.size + 2) (by omega) (by omega) (Rq (w.heap.size + 3) (w.heap.size + 1) Res j (j + 1)) (fun w' w'' h1 h2 h3 => h1.keep h2 fun g g1 g2 => h3 g g1 (by omega)) hT (fun _ => by kernel_rfl) fun wx hx zx => ?_
    have hb : Below w.heap.size w wx := B0.trans (hx.mono (by omega))
    refine (Run1_any (w.heap.size + 1) w.heap.size lg lo la ln lc Ac Res pan T z wx hl hla (by omega) (by omega) (R0.step hx) (L0.step hx) (fun j hj => (hA j hj).below hb hlg) fun j hj wy hy hz => hD j hj wy (hb.trans (hy.mono (by omega))) (by omega)).mono ?_
    rintro e w' (⟨rfl, n1, -⟩ | ⟨i, hi, ni, hpi, he, rq, fr⟩)
    · rw [n1 j hj] at hp; cases hp
    · obtain rfl := first_one hpi hp ni np
      rw [show wx.heap.size = w.heap.size + 3 by omega] at rq
      exact ⟨he, rq, fr⟩
  clear hD hA
  go_enter Tryz.func15, Tryz.ntmps15
  go_wp2_with fail
  refine HC.out.mono ?_
  rintro e w1 ⟨rfl, rq, fr⟩
  have hs1 := fr.size
  obtain ⟨sl, pl, xs, C1, rs, ow, hne⟩ := rq
  have e1 := below1 w1 (.cells (rErr 110 0 pk pn) 35)
  have Z2 := Bk.new w1 (rErr 110 0 pk pn) 35
  have C2 := C1.step e1
  obtain ⟨c0, c1⟩ := C2.c2
  have lC := C1.lt
  obtain ⟨d0, d1, d2, d3, d4, d5, d6, d7, d8, d9⟩ := Z2.c10
  have RS := Lib.hid (rs.step' e1)
  have OW := Lib.hid (owns_to ow fun g hg => e1.block g (owns_lt ow g hg).2)
  have FF := Lib.hid ((B0.trans (fr.b.mono (by omega))).trans (e1.mono (by have := B0.size; omega)))
  clear HC rs ow fr C1 L0 R0 B0
  have e3 := below1 (w1.alloc (.cells (rErr 110 0 pk pn) 35)) (.cells (rErr 110 0 pk pn) 35)
  have RS3 := Lib.hid (RS.out.step' e3)
  have OW3 := Lib.hid (owns_to OW.out fun g hg => e3.block g (owns_lt OW.out g hg).2)
  have FF3 := Lib.hid (FF.out.trans (e3.mono FF.out.size))
  have C3 := Lib.hid (C2.step e3)
  have HN : Hid _ := World.news_of_block (heap_alloc_new (w1.alloc (.cells (rErr 110 0 pk pn) 35)) (.cells (rErr 110 0 pk pn) 35))
  have sN : (w1.alloc (.cells (rErr 110 0 pk pn) 35)).heap.size = w1.heap.size + 1 := by simp
  rw [sN] at HN
  have s3 : ((w1.alloc (.cells (rErr 110 0 pk pn) 35)).alloc (.cells (rErr 110 0 pk pn) 35)).heap.size = w1.heap.size + 2 := by simp
  obtain ⟨i0, hi, hz0, hz1, hz2⟩ := infoRes_p
  clear e1 e3 RS OW FF C2 Z2
  go_wp2_with (at_builtin; refine wpList_append_lies _ rfl _ _ 42 rfl (w.heap.size + 3 + 1) 35 i0 (.agg (rErr 0 0 0 0)) 10 104 Tryz.underlying42 hi hz0 hz1 hz2 rfl (by decide) sl j xs rfl RS3.out.o ⟨w1.heap.size + 1, 0, none⟩ 1 1 (rErr 110 0 pk pn).toList rfl rfl HN.out (by intro u hu; simp at hu; rcases hu with rfl | rfl | rfl | rfl | rfl | rfl | rfl | rfl | rfl | rfl <;> rfl) (by decide) (by unfold maxLen; omega) (by omega) (Nat.le_of_lt_succ (by show w.heap.size + 3 + 1 < _ + 1; simp; omega)) _ rfl ?_; intro g4 c4 w4 own4 gr4 at4 lt4; have C4 : Bk w4 (w.heap.size + 1) #[sl, pl] 64 := (gr4.block _ C3.out.lt (fun e => by have := (owns_lt RS3.out.o _ e.symm).1; omega)).trans C3.out; have cb4 := C4.c2; have fb4 := C4.f; have OWN4 := Lib.hid own4; have GR4 := Lib.hid gr4; clear own4 gr4)
  have C5 : Bk (w4.setCell ⟨w.heap.size + 1, 0, none⟩ (.slice (some ⟨g4, 0, none⟩) (j + 1) c4)) (w.heap.size + 1) #[.slice (some ⟨g4, 0, none⟩) (j + 1) c4, pl] 64 := C4.set 0 _
  have rf : Dt.Rf (fun g => ((w1.alloc (.cells (rErr 110 0 pk pn) 35)).alloc (.cells (rErr 110 0 pk pn) 35)).heap.size ≤ g ∧ g < ((w1.alloc (.cells (rErr 110 0 pk pn) 35)).alloc (.cells (rErr 110 0 pk pn) 35)).heap.size) ((w1.alloc (.cells (rErr 110 0 pk pn) 35)).alloc (.cells (rErr 110 0 pk pn) 35)) (Res j).m [.int .i64 0, .int .i64 0, .int .u64 0, .string ⟨#[]⟩, .slice none 0 0] (Res j).tr := by rw [hR]; exact lf_rf _ _ 0 0
  have ow4 : w4.ownsRow (w.heap.size + 3 + 1) 35 10 (.slice (some ⟨g4, 0, none⟩) (j + 1) c4) (j + 1) (xs ++ (rcs (Res j).er 0 (Res j).pk (Res j).pn (Res j).has 0 0 0 ⟨#[]⟩ none 0 0).toList) := by rw [hR]; exact OWN4.out
  have RS4 := Rs.more RS3.out (by omega) (Below.refl _ _) (Below.refl _ _) 0 0 0 ⟨#[]⟩ none 0 0 rf g4 c4 ow4 GR4.out (by rcases at4 with h | h; exact .inl h; exact .inr h)
  have RS5 := Lib.hid (RS4.keep (w' := w4.setCell ⟨w.heap.size + 1, 0, none⟩ (.slice (some ⟨g4, 0, none⟩) (j + 1) c4)) (by simp) fun q q1 _ => Below.heap_setCell _ _ _ _ (by show q ≠ w.heap.size + 1; omega))
  have OW5 : Hid ((w4.setCell ⟨w.heap.size + 1, 0, none⟩ (.slice (some ⟨g4, 0, none⟩) (j + 1) c4)).ownsRow (w.heap.size + 3 + 1) 3 1 pl (j + 1) ((dnI (j + 1)).map fun q => .int .i64 q)) := owns_to OW3.out fun g hg => (Below.heap_setCell _ _ _ _ (by show g ≠ w.heap.size + 1; have := (owns_lt OW3.out g hg).1; omega)).trans (GR4.out.block g (owns_lt OW3.out g hg).2 fun e => hne g hg e.symm)
  have FF5 : Hid (Below w.heap.size w (w4.setCell ⟨w.heap.size + 1, 0, none⟩ (.slice (some ⟨g4, 0, none⟩) (j + 1) c4))) := (FF3.out.grown GR4.out FF3.out.size (fun k hk => by have := (owns_lt RS3.out.o k hk).1; omega)).setCell (by show w.heap.size ≤ w.heap.size + 1; omega) _
  obtain ⟨f0, f1⟩ := C5.c2
  clear c0 c1 d0 d1 d2 d3 d4 d5 d6 d7 d8 d9 rf ow4 RS4 C4 cb4 fb4 OWN4 GR4 at4 RS3 OW3 FF3 C3 HN
  generalize w4.setCell ⟨w.heap.size + 1, 0, none⟩ (.slice (some ⟨g4, 0, none⟩) (j + 1) c4) = w5 at *
  go_quiet (fail)
  go_wp2_with fail
  have hq : Below w5.heap.size w5 (w5.drewN nq) := ⟨rfl, rfl, rfl, Nat.le_refl _, fun _ _ => rfl⟩
  go_ret2
  exact ⟨w.heap.size + 3, _, pl, _, rfl, by omega, RS5.out.step' hq, owns_to OW5.out fun g hg => hq.block g (owns_lt OW5.out g hg).2, FF5.out.trans (hq.mono FF5.out.size)⟩
end Go.Proofs.YthamafijjflfbaaGreat
