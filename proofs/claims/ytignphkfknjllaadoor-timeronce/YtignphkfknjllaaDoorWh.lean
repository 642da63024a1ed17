/- Slots in memory: a timer put, a timer that leaves; the conditions: the slots and the timers in memory. -/
import Derived.Test.YtignphkfknjllaaDoorWg
namespace Go.Proofs.YtignphkfknjllaaDoor
open Go.RowKit

/-- Memory, cell by cell. -/
def mem (w : World) : Nat → Nat → Option Value := fun B o => w.cell? ⟨B, o, none⟩
def upd (M : Nat → Nat → Option Value) (B o : Nat) (v : Value) : Nat → Nat → Option Value := fun B' o' => if B' = B ∧ o' = o then some v else M B' o'
theorem mem_set {w : World} {B o : Nat} {x : Value} (v : Value) (h : mem w B o = some x) : mem (w.setCell ⟨B, o, none⟩ v) = upd (mem w) B o v := by
  funext B' o'
  unfold mem upd
  by_cases c : B' = B ∧ o' = o
  · obtain ⟨rfl, rfl⟩ := c
    rw [if_pos ⟨rfl, rfl⟩]
    exact World.cell?_setCell_same _ _ _ h
  · rw [if_neg c]
    refine World.cell?_setCell_other _ _ _ _ (fun e => c ?_)
    cases e
    exact ⟨rfl, rfl⟩
theorem mem_like {a b : World} (h : Like a b) : mem b = mem a := by funext B o; exact h.cell _
theorem upd_same (M : Nat → Nat → Option Value) (B o : Nat) (v : Value) : upd M B o v B o = some v := by simp [upd]
theorem upd_other (M : Nat → Nat → Option Value) {B o B' o' : Nat} (v : Value) (h : ¬ (B' = B ∧ o' = o)) : upd M B o v B' o' = M B' o' := by simp [upd, h]

/-- What has turned, with no block more or less, and each block of its own type. -/
structure Kp (C : Nat → Prop) (w w' : World) : Prop where
  but : But C w w'
  size : w'.heap.size = w.heap.size
  bk : ∀ N T, (∃ cs, Bk w N cs T) → ∃ cs, Bk w' N cs T
theorem Kp.refl (C : Nat → Prop) (w : World) : Kp C w w := ⟨But.refl _ _, rfl, fun _ _ h => h⟩
theorem Kp.set {C : Nat → Prop} {w w' : World} (h : Kp C w w') (B o : Nat) (v : Value) (hB : C B) : Kp C w (w'.setCell ⟨B, o, none⟩ v) := by
  refine ⟨h.but.trans (But.set w' ⟨B, o, none⟩ v hB) (fun _ _ h => h), by simp [h.size], fun N T hN => ?_⟩
  obtain ⟨cs, hc⟩ := h.bk N T hN
  by_cases c : N = B
  · subst c; exact ⟨_, hc.set o v⟩
  · exact ⟨cs, hc.other _ _ c⟩
theorem Kp.like {C : Nat → Prop} {w W w' : World} (h : Kp C w W) (l : Like W w') : Kp C w w' := by
  refine ⟨⟨l.2.1.trans h.but.os, l.2.2.1.trans h.but.tape, l.2.2.2.trans h.but.output, by rw [l.1]; exact h.but.size, fun k hk hn => by rw [l.1]; exact h.but.block k hk hn⟩, by rw [l.1]; exact h.size, fun N T hN => ?_⟩
  obtain ⟨cs, hc⟩ := h.bk N T hN
  exact ⟨cs, by unfold Bk at hc ⊢; rw [l.1]; exact hc⟩
theorem Kp.mono {C C' : Nat → Prop} {w w' : World} (h : Kp C w w') (hC : ∀ k, C k → C' k) : Kp C' w w' := ⟨h.but.mono (fun k _ => hC k), h.size, h.bk⟩
theorem Kp.trans {C C' : Nat → Prop} {w w' w'' : World} (h : Kp C w w') (h' : Kp C' w' w'') (hC : ∀ k, C' k → C k) : Kp C w w'' :=
  ⟨h.but.trans h'.but (fun k _ => hC k), h'.size.trans h.size, fun N T hN => h'.bk N T (h.bk N T hN)⟩

/-- The blocks of a wheel and of its timers. -/
def Own (b : Nat) (q : Nat → List Tm) (B : Nat) : Prop := B = b ∨ ∃ k t, k < 448 ∧ t ∈ q k ∧ t.b = B
/-- The slots of a wheel in memory. -/
structure Wm (w : World) (b : Nat) (q : Nat → List Tm) : Prop where
  ls : Ls (mem w) b q
  bb : ∃ cs, Bk w b cs 58
  tb : ∀ k t, k < 448 → t ∈ q k → ∃ cs, Bk w t.b cs 71
theorem bk_f {w : World} {N : Nat} {T : TypeId} (h : ∃ cs, Bk w N cs T) (o : Nat) : w.frozen? ⟨N, o, none⟩ = false := by
  obtain ⟨cs, h⟩ := h
  exact h.f o
theorem bk_ne {w : World} {N N' : Nat} {T T' : TypeId} (h : ∃ cs, Bk w N cs T) (h' : ∃ cs, Bk w N' cs T') (hT : T ≠ T') : N ≠ N' := by
  rintro rfl
  obtain ⟨cs, h⟩ := h
  obtain ⟨cs', h'⟩ := h'
  unfold Bk at h h'
  rw [h] at h'
  simp at h'
  exact hT h'.2
/-- What becomes of a slot's marks with a timer more. -/
def putm (l : List Tm) (t : Tm) (m : Bool) (ls : Int) : Bool × Int :=
  match l.head?, l.getLast? with
  | some f, some u => if m then (true, min ls t.a) else if t.a < u.a then (true, min (f.a : Int) t.a) else (false, ls)
  | _, _ => (false, ls)

/-- What a timer put leaves. -/
structure Pu (w : World) (b k : Nat) (q : Nat → List Tm) (t : Tm) (m : Bool) (ls : Int) (w' : World) : Prop where
  wm : Wm w' b (up q k (q k ++ [t]))
  c2 : mem w' b (2 + 4 * k + 2) = some (.bool (putm (q k) t m ls).1)
  c3 : mem w' b (2 + 4 * k + 3) = some (.int .i64 (putm (q k) t m ls).2)
  ot : ∀ o, (o < 2 + 4 * k ∨ 2 + 4 * k + 4 ≤ o) → mem w' b o = mem w b o
  kp : Kp (fun B => Own b q B ∨ B = t.b) w w'

theorem put_tail {w : World} {b k : Nat} {q : Nat → List Tm} (h : Wm w b q) (hk : k < 448) (t u : Tm) (m' : Bool) (ls' : Int) (x0 x1 : Value)
    (ht : ∃ cs, Bk w t.b cs 71) (t0 : mem w t.b 0 = some x0) (t1 : mem w t.b 1 = some x1) (t2 : mem w t.b 2 = some (.int .i64 t.a)) (t3 : mem w t.b 3 = some (.int .i64 t.i)) (hn : ∀ k t', k < 448 → t' ∈ q k → t'.b ≠ t.b) (hq : (q k).getLast? = some u)
    {W0 w' : World} (kp0 : Kp (fun B => Own b q B ∨ B = t.b) w W0) (hM : ∀ B o, ¬ (B = b ∧ (o = 2 + 4 * k + 2 ∨ o = 2 + 4 * k + 3)) → mem W0 B o = mem w B o) (e2 : mem W0 b (2 + 4 * k + 2) = some (.bool m')) (e3 : mem W0 b (2 + 4 * k + 3) = some (.int .i64 ls'))
    (L : Like ((((W0.setCell ⟨t.b, 0, none⟩ (.pointer (some ⟨u.b, 0, none⟩))).setCell ⟨t.b, 1, none⟩ (.pointer none)).setCell ⟨u.b, 1, none⟩ (.pointer (some ⟨t.b, 0, none⟩))).setCell ⟨b, 2 + 4 * k, none⟩ (.pointer (some ⟨t.b, 0, none⟩))) w') :
    Wm w' b (up q k (q k ++ [t])) ∧ mem w' b (2 + 4 * k + 2) = some (.bool m') ∧ mem w' b (2 + 4 * k + 3) = some (.int .i64 ls') ∧ (∀ o, (o < 2 + 4 * k ∨ 2 + 4 * k + 4 ≤ o) → mem w' b o = mem w b o) ∧ Kp (fun B => Own b q B ∨ B = t.b) w w' := by
  have hbt : b ≠ t.b := bk_ne h.bb ht (by decide)
  have hah := h.ls.ah k hk
  rw [hq] at hah
  simp [pt] at hah
  obtain ⟨p, hp⟩ := List.getLast?_eq_some_iff.1 hq
  have hum : u ∈ q k := by rw [hp]; simp
  have hub : u.b ≠ b := h.ls.ne k u hk hum
  have hut : u.b ≠ t.b := hn k u hk hum
  have hu1 := h.ls.tb k p u [] hk hp
  have M1 := mem_set (w := W0) (B := t.b) (o := 0) (x := x0) (.pointer (some ⟨u.b, 0, none⟩)) (by rw [hM _ _ (by omega)]; exact t0)
  have M2 := mem_set (w := W0.setCell ⟨t.b, 0, none⟩ (.pointer (some ⟨u.b, 0, none⟩))) (B := t.b) (o := 1) (x := x1) (.pointer none) (by rw [M1, upd_other _ _ (by omega), hM _ _ (by omega)]; exact t1)
  have M3 := mem_set (w := (W0.setCell ⟨t.b, 0, none⟩ (.pointer (some ⟨u.b, 0, none⟩))).setCell ⟨t.b, 1, none⟩ (.pointer none)) (B := u.b) (o := 1) (.pointer (some ⟨t.b, 0, none⟩)) (by rw [M2, M1, upd_other _ _ (by omega), upd_other _ _ (by omega), hM _ _ (by omega)]; exact hu1)
  have M4 := mem_set (w := ((W0.setCell ⟨t.b, 0, none⟩ (.pointer (some ⟨u.b, 0, none⟩))).setCell ⟨t.b, 1, none⟩ (.pointer none)).setCell ⟨u.b, 1, none⟩ (.pointer (some ⟨t.b, 0, none⟩))) (B := b) (o := 2 + 4 * k) (.pointer (some ⟨t.b, 0, none⟩)) (by rw [M3, M2, M1, upd_other _ _ (by omega), upd_other _ _ (by omega), upd_other _ _ (by omega), hM _ _ (by omega)]; exact hah)
  rw [M3, M2, M1] at M4
  have hOu : Own b q u.b := .inr ⟨k, u, hk, hum, rfl⟩
  have kp := ((((kp0.set t.b 0 (.pointer (some ⟨u.b, 0, none⟩)) (.inr rfl)).set t.b 1 (.pointer none) (.inr rfl)).set u.b 1 (.pointer (some ⟨t.b, 0, none⟩)) (.inl hOu)).set b (2 + 4 * k) (.pointer (some ⟨t.b, 0, none⟩)) (.inl (.inl rfl))).like L
  have M5 := (mem_like L).trans M4
  clear M1 M2 M3 M4 L
  refine ⟨⟨?_, kp.bk _ _ h.bb, fun j v hj hv => ?_⟩, ?_, ?_, fun o ho => ?_, kp⟩
  · refine h.ls.put hk t (Ne.symm hbt) hn ?_ ?_ ?_ ?_ ?_ (fun e => ?_) (fun v hv => ?_) (fun B o hB h1 h2 h3 h4 => ?_)
    · rw [M5, hq, upd_other _ _ (by omega), upd_other _ _ (by omega), upd_other _ _ (by omega), upd_same]; rfl
    · rw [M5, upd_other _ _ (by omega), upd_other _ _ (by omega), upd_same]; rfl
    · rw [M5, upd_other _ _ (by omega), upd_other _ _ (by omega), upd_other _ _ (by omega), upd_other _ _ (by omega), hM _ _ (by omega), t2]
    · rw [M5, upd_other _ _ (by omega), upd_other _ _ (by omega), upd_other _ _ (by omega), upd_other _ _ (by omega), hM _ _ (by omega), t3]
    · rw [M5, upd_same]; rfl
    · rw [e] at hum; simp at hum
    · rw [hq] at hv
      cases hv
      rw [M5, upd_other _ _ (by omega), upd_same]; rfl
    · rw [M5, upd_other _ _ h2, upd_other _ _ (h4 u hq), upd_other _ _ (fun e => hB e.1), upd_other _ _ (fun e => hB e.1), hM _ _ (fun e => by have := h1 e.1; omega)]
  · by_cases c : j = k
    · subst c
      rw [up_same] at hv
      rcases List.mem_append.1 hv with hv | hv
      · exact kp.bk _ _ (h.tb j v hj hv)
      · simp at hv; subst hv; exact kp.bk _ _ ht
    · rw [up_other _ _ c] at hv
      exact kp.bk _ _ (h.tb j v hj hv)
  · rw [M5, upd_other _ _ (by omega), upd_other _ _ (by omega), upd_other _ _ (by omega), upd_other _ _ (by omega), e2]
  · rw [M5, upd_other _ _ (by omega), upd_other _ _ (by omega), upd_other _ _ (by omega), upd_other _ _ (by omega), e3]
  · rw [M5, upd_other _ _ (by omega), upd_other _ _ (by omega), upd_other _ _ (by omega), upd_other _ _ (by omega), hM _ _ (by omega)]

theorem slotput_any {w : World} {b k : Nat} {q : Nat → List Tm} (h : Wm w b q) (hk : k < 448) (t : Tm) (m : Bool) (ls : Int) (x0 x1 : Value)
    (ht : ∃ cs, Bk w t.b cs 71) (t0 : mem w t.b 0 = some x0) (t1 : mem w t.b 1 = some x1) (t2 : mem w t.b 2 = some (.int .i64 t.a)) (t3 : mem w t.b 3 = some (.int .i64 t.i)) (hn : ∀ k t', k < 448 → t' ∈ q k → t'.b ≠ t.b)
    (c2 : mem w b (2 + 4 * k + 2) = some (.bool m)) (c3 : mem w b (2 + 4 * k + 3) = some (.int .i64 ls)) :
    Calls Tryd.prog 43 #[.pointer (some ⟨b, 2 + 4 * k, none⟩), .pointer (some ⟨t.b, 0, none⟩)] w fun e w' => e = .returned (.tuple #[]) ∧ Pu w b k q t m ls w' := by
  have hbt : b ≠ t.b := bk_ne h.bb ht (by decide)
  have hah := h.ls.ah k hk
  have hbe := h.ls.be k hk
  have tbs : ∀ {W w' : World}, Kp (fun B => Own b q B ∨ B = t.b) w w' → ∀ j u, j < 448 → u ∈ up q k (q k ++ [t]) j → ∃ cs, Bk w' u.b cs 71 := fun {W w'} kp j u hj hu => by
    by_cases c : j = k
    · subst c
      rw [up_same] at hu
      rcases List.mem_append.1 hu with hu | hu
      · exact kp.bk _ _ (h.tb j u hj hu)
      · simp at hu; subst hu; exact kp.bk _ _ ht
    · rw [up_other _ _ c] at hu
      exact kp.bk _ _ (h.tb j u hj hu)
  cases hq : (q k).getLast? with
  | none =>
    have hqe : q k = [] := List.getLast?_eq_none_iff.1 hq
    rw [hqe] at hah hbe
    simp [pt] at hah hbe
    refine (put_none b (2 + 4 * k) t.b x0 x1 m w hbt hah hbe c2 t0 t1 (bk_f h.bb) (bk_f ht)).mono ?_
    rintro e w' ⟨rfl, rfl⟩
    have M1 := mem_set (.bool false) c2
    have M2 := mem_set (w := w.setCell ⟨b, 2 + 4 * k + 2, none⟩ (.bool false)) (B := t.b) (o := 0) (x := x0) (.pointer none) (by rw [M1, upd_other _ _ (by omega)]; exact t0)
    have M3 := mem_set (w := (w.setCell ⟨b, 2 + 4 * k + 2, none⟩ (.bool false)).setCell ⟨t.b, 0, none⟩ (.pointer none)) (B := t.b) (o := 1) (x := x1) (.pointer none) (by rw [M2, M1, upd_other _ _ (by omega), upd_other _ _ (by omega)]; exact t1)
    have M4 := mem_set (w := ((w.setCell ⟨b, 2 + 4 * k + 2, none⟩ (.bool false)).setCell ⟨t.b, 0, none⟩ (.pointer none)).setCell ⟨t.b, 1, none⟩ (.pointer none)) (B := b) (o := 2 + 4 * k + 1) (x := .pointer none) (.pointer (some ⟨t.b, 0, none⟩)) (by rw [M3, M2, M1, upd_other _ _ (by omega), upd_other _ _ (by omega), upd_other _ _ (by omega)]; exact hbe)
    have M5 := mem_set (w := (((w.setCell ⟨b, 2 + 4 * k + 2, none⟩ (.bool false)).setCell ⟨t.b, 0, none⟩ (.pointer none)).setCell ⟨t.b, 1, none⟩ (.pointer none)).setCell ⟨b, 2 + 4 * k + 1, none⟩ (.pointer (some ⟨t.b, 0, none⟩))) (B := b) (o := 2 + 4 * k) (x := .pointer none) (.pointer (some ⟨t.b, 0, none⟩)) (by rw [M4, M3, M2, M1, upd_other _ _ (by omega), upd_other _ _ (by omega), upd_other _ _ (by omega), upd_other _ _ (by omega)]; exact hah)
    rw [M4, M3, M2, M1] at M5
    have kp : Kp (fun B => Own b q B ∨ B = t.b) w (((((w.setCell ⟨b, 2 + 4 * k + 2, none⟩ (.bool false)).setCell ⟨t.b, 0, none⟩ (.pointer none)).setCell ⟨t.b, 1, none⟩ (.pointer none)).setCell ⟨b, 2 + 4 * k + 1, none⟩ (.pointer (some ⟨t.b, 0, none⟩))).setCell ⟨b, 2 + 4 * k, none⟩ (.pointer (some ⟨t.b, 0, none⟩))) :=
      (((((Kp.refl _ w).set _ _ _ (.inl (.inl rfl))).set _ _ _ (.inr rfl)).set _ _ _ (.inr rfl)).set _ _ _ (.inl (.inl rfl))).set _ _ _ (.inl (.inl rfl))
    generalize (((((w.setCell ⟨b, 2 + 4 * k + 2, none⟩ (.bool false)).setCell ⟨t.b, 0, none⟩ (.pointer none)).setCell ⟨t.b, 1, none⟩ (.pointer none)).setCell ⟨b, 2 + 4 * k + 1, none⟩ (.pointer (some ⟨t.b, 0, none⟩))).setCell ⟨b, 2 + 4 * k, none⟩ (.pointer (some ⟨t.b, 0, none⟩))) = w' at M5 kp ⊢
    clear M1 M2 M3 M4
    refine ⟨rfl, ⟨?_, kp.bk _ _ h.bb, tbs (W := w) kp⟩, ?_, ?_, fun o ho => ?_, kp⟩
    · refine h.ls.put hk t (Ne.symm hbt) hn ?_ ?_ ?_ ?_ ?_ (fun _ => ?_) (fun u hu => by rw [hq] at hu; cases hu) (fun B o hB h1 h2 h3 h4 => ?_)
      all_goals rw [M5]
      · rw [hqe]; simp [upd, hbt.symm, pt]
      · simp [upd, hbt.symm, pt]
      · simp [upd, hbt.symm, t2]
      · simp [upd, hbt.symm, t3]
      · simp [upd, pt]
      · simp [upd, pt]
      · rw [upd_other _ _ h2, upd_other _ _ (fun e => h3 ⟨hqe, e⟩), upd_other _ _ (fun e => hB e.1), upd_other _ _ (fun e => hB e.1), upd_other _ _ (fun e => by have := h1 e.1; omega)]
    · rw [M5, hqe]; simp [upd, putm, hbt]
    · rw [M5, hqe]
      rw [upd_other _ _ (by omega), upd_other _ _ (by omega), upd_other _ _ (by omega), upd_other _ _ (by omega), upd_other _ _ (by omega), c3]; simp [putm]
    · rw [M5, upd_other _ _ (by omega), upd_other _ _ (by omega), upd_other _ _ (by omega), upd_other _ _ (by omega), upd_other _ _ (by omega)]
  | some u =>
    obtain ⟨p, hp⟩ := List.getLast?_eq_some_iff.1 hq
    have hum : u ∈ q k := by rw [hp]; simp
    have hub : u.b ≠ b := h.ls.ne k u hk hum
    have hut : u.b ≠ t.b := hn k u hk hum
    have hu1 := h.ls.tb k p u [] hk hp
    have hu2 := (h.ls.tc k u hk hum).1
    have hU := h.tb k u hk hum
    rw [hq] at hah
    simp [pt] at hah
    obtain ⟨f, hf⟩ : ∃ f, (q k).head? = some f := by
      cases hh : q k with
      | nil => rw [hh] at hum; simp at hum
      | cons x y => exact ⟨x, rfl⟩
    have hfm : f ∈ q k := List.mem_of_head? hf
    have hf2 := (h.ls.tc k f hk hfm).1
    have hfb := h.ls.ne k f hk hfm
    rw [hf] at hbe
    simp [pt] at hbe
    cases m with
    | true =>
      refine (put_mixed b (2 + 4 * k) t.b t.a u.b f.b ls x0 x1 _ w hbt hut hub hah hbe c2 c3 t0 t1 t2 hu1 (bk_f h.bb) (bk_f ht) (bk_f hU)).mono ?_
      rintro e w' ⟨rfl, n, hw⟩
      have M1 := mem_set (.int .i64 (min ls t.a)) c3
      obtain ⟨r1, r2, r3, r4, r5⟩ := put_tail h hk t u true (min ls t.a) x0 x1 ht t0 t1 t2 t3 hn hq ((Kp.refl _ w).set b (2 + 4 * k + 3) (.int .i64 (min ls t.a)) (.inl (.inl rfl)))
        (fun B o hne => by rw [M1, upd_other _ _ (fun e => hne ⟨e.1, .inr e.2⟩)]) (by rw [M1, upd_other _ _ (by omega), c2]) (by rw [M1, upd_same]) (Like.of hw)
      exact ⟨rfl, r1, by rw [r2]; simp [putm, hf, hq], by rw [r3]; simp [putm, hf, hq], r4, r5⟩
    | false =>
      by_cases hlt : t.a < u.a
      · refine (put_mixes b (2 + 4 * k) t.b t.a u.b f.b u.a f.a ls x0 x1 _ w hlt hfb hbt hut hub hah hbe c2 c3 t0 t1 t2 hu1 hu2 hf2 (bk_f h.bb) (bk_f ht) (bk_f hU)).mono ?_
        rintro e w' ⟨rfl, n, hw⟩
        have M0 := mem_set (.bool true) c2
        have M1 := mem_set (w := w.setCell ⟨b, 2 + 4 * k + 2, none⟩ (.bool true)) (B := b) (o := 2 + 4 * k + 3) (.int .i64 (min (f.a : Int) t.a)) (by rw [M0, upd_other _ _ (by omega), c3])
        rw [M0] at M1
        obtain ⟨r1, r2, r3, r4, r5⟩ := put_tail h hk t u true (min (f.a : Int) t.a) x0 x1 ht t0 t1 t2 t3 hn hq (((Kp.refl _ w).set b (2 + 4 * k + 2) (.bool true) (.inl (.inl rfl))).set b (2 + 4 * k + 3) (.int .i64 (min (f.a : Int) t.a)) (.inl (.inl rfl)))
          (fun B o hne => by rw [M1, upd_other _ _ (fun e => hne ⟨e.1, .inr e.2⟩), upd_other _ _ (fun e => hne ⟨e.1, .inl e.2⟩)]) (by rw [M1, upd_other _ _ (by omega), upd_same]) (by rw [M1, upd_same]) (Like.of hw)
        exact ⟨rfl, r1, by rw [r2]; simp [putm, hf, hq, hlt], by rw [r3]; simp [putm, hf, hq, hlt], r4, r5⟩
      · refine (put_stays b (2 + 4 * k) t.b t.a u.b f.b u.a f.a ls x0 x1 _ w (by omega) hbt hut hub hah hbe c2 c3 t0 t1 t2 hu1 hu2 hf2 (bk_f h.bb) (bk_f ht) (bk_f hU)).mono ?_
        rintro e w' ⟨rfl, n, hw⟩
        obtain ⟨r1, r2, r3, r4, r5⟩ := put_tail h hk t u false ls x0 x1 ht t0 t1 t2 t3 hn hq (Kp.refl _ w) (fun B o hne => rfl) c2 c3 (Like.of hw)
        exact ⟨rfl, r1, by rw [r2]; simp [putm, hf, hq, hlt], by rw [r3]; simp [putm, hf, hq, hlt], r4, r5⟩
end Go.Proofs.YtignphkfknjllaaDoor
