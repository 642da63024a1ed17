/- One timer on the way: it goes to a lower slot, or it fires; no condition but those that each theorem names. -/
import Derived.Test.YtignphkfknjllaaDoorWp
namespace Go.Proofs.YtignphkfknjllaaDoor
open Go.RowKit
variable {zf : Bool}

section
variable {w0 : World} {b m T' k0 L : Nat} {LL F0 d r : List Tm} {u : Tm} {sl : Value} {q : Nat → List Tm} {mx : Nat → Bool} {ls : Nat → Int} {us : Nat → Nat} {LC : List Tm} {wr : World}
theorem Cd.hu (C : Cd zf w0 b m T' k0 L LL F0 d (u :: r) sl q mx ls us LC wr) : u ∈ q k0 := by rw [C.jd.qr]; simp
/-- The one that leaves, in memory. -/
theorem Cd.cells (C : Cd zf w0 b m T' k0 L LL F0 d (u :: r) sl q mx ls us LC wr) : mem wr u.b 0 = some (pt none) ∧ mem wr u.b 1 = some (pt (r.head?.map Tm.b)) ∧ mem wr u.b 2 = some (.int .i64 u.a) ∧ mem wr u.b 3 = some (.int .i64 u.i) ∧ (∃ cs, Bk wr u.b cs 71) := by
  have e : q k0 = [] ++ u :: r := C.jd.qr
  have tc := C.wl.wm.ls.tc k0 u C.jd.kb C.hu
  exact ⟨C.wl.wm.ls.ta k0 [] u r C.jd.kb e, C.wl.wm.ls.tb k0 [] u r C.jd.kb e, tc.1, tc.2, C.wl.wm.tb k0 u C.jd.kb C.hu⟩
theorem Cd.fresh (C : Cd zf w0 b m T' k0 L LL F0 d (u :: r) sl q mx ls us LC wr) : ∀ k t', k < 448 → t' ∈ up q k0 r k → t'.b ≠ u.b := fun k t' hk ht e => by
  have e0 : q k0 = [] ++ u :: r := C.jd.qr
  by_cases c : k = k0
  · subst c
    rw [up_same] at ht
    obtain ⟨p1, r1, rfl⟩ := List.append_of_mem ht
    have e1 : q k = (u :: p1) ++ t' :: r1 := by rw [e0]; simp
    have := (C.wl.wm.ls.ds k _ _ _ k _ _ _ hk hk e1 e0 e).2.1
    simp at this
  · rw [up_other _ _ c] at ht
    obtain ⟨p1, r1, e1⟩ := List.append_of_mem ht
    exact c (C.wl.wm.ls.ds k _ _ _ k0 _ _ _ hk C.jd.kb e1 e0 e).1
theorem Cd.frb (C : Cd zf w0 b m T' k0 L LL F0 d (u :: r) sl q mx ls us LC wr) (hLb : ∀ B, OwL b m LL B → B < L) {w' : World} {D : Nat → Prop} (hB : But D wr w') (hD : ∀ B, D B → OwL b m LL B) : FR w' L (F0 ++ fl T' d) sl := by
  refine C.fr.blk fun g hg => ?_
  obtain ⟨g1, g2, _⟩ := C.fr.own hg
  exact hB.block g g2 (fun c => by have := hLb g (hD g c); omega)
theorem Cd.wll (C : Cd zf w0 b m T' k0 L LL F0 d (u :: r) sl q mx ls us LC wr) {w1 : World} (z : Le wr b k0 q [] u r (ls k0) w1) : Wl w1 b m T' (up q k0 r) mx (at' ls k0 (if (u.a : Int) = ls k0 then 0 else ls k0)) us := C.wl.leave C.jd.kb z
theorem Cd.mpb (C : Cd zf w0 b m T' k0 L LL F0 d (u :: r) sl q mx ls us LC wr) {w1 : World} (z : Le wr b k0 q [] u r (ls k0) w1) : Mp w1 m (im LC) := by
  refine C.mp.blk (z.kp.but.block m C.mp.lt ?_)
  rintro (c | ⟨k, t, hk, ht, c⟩)
  · exact C.mp.ne C.wl.wm.bb c.symm
  · exact C.mp.ne (C.wl.wm.tb k t hk ht) c
theorem Cd.down (C : Cd zf w0 b m T' k0 L LL F0 d (u :: r) sl q mx ls us LC wr) (hLb : ∀ B, OwL b m LL B → B < L) (hlt : T' < u.a) {w1 w2 : World} (z : Le wr b k0 q [] u r (ls k0) w1)
    (hw : Wl w2 b m T' (up (up q k0 r) (plc T' u.a) (up q k0 r (plc T' u.a) ++ [u])) (at' mx (plc T' u.a) (putm (up q k0 r (plc T' u.a)) u (mx (plc T' u.a)) (at' ls k0 (if (u.a : Int) = ls k0 then 0 else ls k0) (plc T' u.a))).1) (at' (at' ls k0 (if (u.a : Int) = ls k0 then 0 else ls k0)) (plc T' u.a) (putm (up q k0 r (plc T' u.a)) u (mx (plc T' u.a)) (at' ls k0 (if (u.a : Int) = ls k0 then 0 else ls k0) (plc T' u.a))).2) (at' us (lev T' u.a) (us (lev T' u.a) ||| 2 ^ slo T' u.a)))
    (hB : But (fun B => Own b (up q k0 r) B ∨ B = u.b) w1 w2) :
    Cd zf w0 b m T' k0 L LL F0 (d ++ [u]) r sl (up (up q k0 r) (plc T' u.a) (up q k0 r (plc T' u.a) ++ [u])) (at' mx (plc T' u.a) (putm (up q k0 r (plc T' u.a)) u (mx (plc T' u.a)) (at' ls k0 (if (u.a : Int) = ls k0 then 0 else ls k0) (plc T' u.a))).1) (at' (at' ls k0 (if (u.a : Int) = ls k0 then 0 else ls k0)) (plc T' u.a) (putm (up q k0 r (plc T' u.a)) u (mx (plc T' u.a)) (at' ls k0 (if (u.a : Int) = ls k0 then 0 else ls k0) (plc T' u.a))).2) (at' us (lev T' u.a) (us (lev T' u.a) ||| 2 ^ slo T' u.a)) LC w2 := by
  obtain ⟨j1, j2⟩ := C.jd.down hlt
  have hul := C.jd.rl u (by simp)
  have W1 := C.wll z
  have ho1 : ∀ B, Own b (up q k0 r) B ∨ B = u.b → OwL b m LL B := by
    rintro B ((c | ⟨k, t, hk, ht, c⟩) | c)
    · exact .inl c
    · refine .inr (.inr ⟨t, ?_, c⟩)
      by_cases ck : k = k0
      · subst ck; rw [up_same] at ht; exact C.jd.rl t (by simp [ht])
      · rw [up_other _ _ ck] at ht; exact C.jd.mem hk ht
    · exact .inr (.inr ⟨u, hul, c.symm⟩)
  have hb2 : But (OwL b m LL) wr w2 := (z.kp.but.mono (fun k _ c => C.jd.own c)).trans hB (fun k _ c => ho1 k c)
  refine ⟨hw, j2, fun k hk => ?_, fun hz k hk hk0 => ?_, ?_, ?_, C.bt.trans hb2 (fun k _ c => .inl c)⟩
  · have hmk0 : Mk (up q k0 r k0) (mx k0) (at' ls k0 (if (u.a : Int) = ls k0 then 0 else ls k0) k0) := by
      rw [up_same, at_same]
      have := C.ma k0 C.jd.kb
      rw [C.jd.qr] at this
      exact Mk.leave (p := []) this
    have base : ∀ k, k < 448 → Mk (up q k0 r k) (mx k) (at' ls k0 (if (u.a : Int) = ls k0 then 0 else ls k0) k) := fun k hk => by
      by_cases ck : k = k0
      · subst ck; exact hmk0
      · rw [up_other _ _ ck, at_other _ _ ck]; exact C.ma k hk
    by_cases ck : k = plc T' u.a
    · subst ck
      rw [up_same, at_same, at_same]
      exact (base _ hk).put u
    · rw [up_other _ _ ck, at_other _ _ ck, at_other _ _ ck]; exact base k hk
  · have e1 : up q k0 r k = q k := up_other _ _ hk0
    have e2 : at' ls k0 (if (u.a : Int) = ls k0 then 0 else ls k0) k = ls k := at_other _ _ hk0
    by_cases ck : k = plc T' u.a
    · subst ck
      rw [up_same, at_same, at_same, e1, e2]
      exact (C.st hz _ hk hk0).put (C.ma _ hk) u (fun x hx => by have := C.jd.later hk hk0 hx; omega) (by omega)
    · rw [up_other _ _ ck, at_other _ _ ck, at_other _ _ ck, e1, e2]; exact C.st hz k hk hk0
  · refine (C.mpb z).blk (hB.block m (C.mpb z).lt ?_)
    rintro ((c | ⟨k, t, hk, ht, c⟩) | c)
    · exact (C.mpb z).ne W1.wm.bb c.symm
    · exact (C.mpb z).ne (W1.wm.tb k t hk ht) c
    · exact C.mp.ne C.cells.2.2.2.2 c.symm
  · have := C.frb hLb hb2 (fun _ c => c)
    rw [fl_app, fl_cons_other [] (by omega)]
    simpa [fl] using this
theorem Cd.fire (C : Cd zf w0 b m T' k0 L LL F0 d (u :: r) sl q mx ls us LC wr) (hLb : ∀ B, OwL b m LL B → B < L) (hu : u.a = T') {w1 w2 w3 w4 : World} (z : Le wr b k0 q [] u r (ls k0) w1) (l1 : Like w1 w2)
    (hm : Mp w3 m ((im LC).filter fun x => x.1 != u.i)) (g3 : w2.grownBy w3 (some m)) {sl' : Value} (hf : FR w4 L (F0 ++ fl T' d ++ [u]) sl') (g4 : But (fun B => L ≤ B) w3 w4) :
    Cd zf w0 b m T' k0 L LL F0 (d ++ [u]) r sl' (up q k0 r) mx (at' ls k0 (if (u.a : Int) = ls k0 then 0 else ls k0)) us (LC.filter fun t => t.i != u.i) w4 := by
  have W1 := (C.wll z).like l1
  have hom : ∀ {B}, Own b (up q k0 r) B → OwL b m LL B := by
    rintro B (c | ⟨k, t, hk, ht, c⟩)
    · exact .inl c
    · refine .inr (.inr ⟨t, ?_, c⟩)
      by_cases ck : k = k0
      · subst ck; rw [up_same] at ht; exact C.jd.rl t (by simp [ht])
      · rw [up_other _ _ ck] at ht; exact C.jd.mem hk ht
  have hmn : ∀ {B}, Own b (up q k0 r) B → B ≠ m := by
    rintro B (c | ⟨k, t, hk, ht, c⟩)
    · rw [c]; exact (C.mpb z).ne (C.wll z).wm.bb
    · rw [← c]; exact (C.mpb z).ne ((C.wll z).wm.tb k t hk ht)
  have b3 : But (fun B => B = m) w2 w3 := But.grown g3 (fun k e _ => by cases e; rfl)
  have W3 := W1.but b3 (fun B c o => hmn o c)
  have W4 := W3.but g4 (fun B c o => by have := hLb B (hom o); omega)
  refine ⟨W4, C.jd.fire hu, fun k hk => ?_, fun hz k hk hk0 => by rw [up_other _ _ hk0, at_other _ _ hk0]; exact C.st hz k hk hk0, ?_, ?_, ?_⟩
  · by_cases ck : k = k0
    · subst ck
      rw [up_same, at_same]
      have := C.ma k hk
      rw [C.jd.qr] at this
      exact Mk.leave (p := []) this
    · rw [up_other _ _ ck, at_other _ _ ck]; exact C.ma k hk
  · rw [im_filter] at hm
    exact hm.blk (g4.block m hm.lt (fun c => by have := hLb m (.inr (.inl rfl)); omega))
  · rw [fl_app, fl_cons_same [] hu, ← List.append_assoc]
    simpa [fl] using hf
  · refine ((((C.bt.trans z.kp.but (fun k _ c => .inl (C.jd.own c))).like l1).trans b3 (fun k _ c => .inl (.inr (.inl c)))).trans g4 (fun k _ c => .inr c))
end
end Go.Proofs.YtignphkfknjllaaDoor
