/- Which timers wait in which slots, and what becomes of it when time comes to a slot; plain lists, no condition but those that each theorem names. -/
import Derived.Test.YtignphkfknjllaaDoorWe
import Derived.Test.YtignphkfknjllaaDoorTp
import Derived.Test.YtignphkfknjllaaDoorWc
namespace Go.Proofs.YtignphkfknjllaaDoor

/-- The timers of one tick. -/
def fl (a : Nat) (l : List Tm) : List Tm := l.filter fun t => t.a == a
theorem fl_app (a : Nat) (l r : List Tm) : fl a (l ++ r) = fl a l ++ fl a r := List.filter_append _ _
theorem fl_cons_same {a : Nat} {t : Tm} (l : List Tm) (h : t.a = a) : fl a (t :: l) = t :: fl a l := by simp [fl, h]
theorem fl_cons_other {a : Nat} {t : Tm} (l : List Tm) (h : t.a ≠ a) : fl a (t :: l) = fl a l := by simp [fl, h]
theorem mem_fl {a : Nat} {l : List Tm} {t : Tm} : t ∈ fl a l ↔ t ∈ l ∧ t.a = a := by simp [fl]
theorem fl_nil_of {a : Nat} {l : List Tm} (h : ∀ t ∈ l, t.a ≠ a) : fl a l = [] := by
  rw [fl, List.filter_eq_nil_iff]; intro t ht; simpa using h t ht

/-- The slots at a time hold just the timers that wait, those of one tick in their order. -/
structure Gd (T : Nat) (q : Nat → List Tm) (us : Nat → Nat) (LL : List Tm) : Prop where
  t : T ≤ 1099511627776
  fi : ∀ k a, k < 448 → fl a (q k) = if plc T a = k then fl a LL else []
  lo : ∀ t ∈ LL, T < t.a ∧ t.a ≤ 1099511627776
  ul : ∀ l, l < 7 → us l < 18446744073709551616
  ub : ∀ l s, l < 7 → s < 64 → (us l).testBit s = decide (q (l * 64 + s) ≠ [])
  nd : (LL.map Tm.i).Nodup
theorem Gd.mem {T : Nat} {q : Nat → List Tm} {us : Nat → Nat} {LL : List Tm} (g : Gd T q us LL) {k : Nat} {t : Tm} (hk : k < 448) (h : t ∈ q k) : t ∈ LL ∧ plc T t.a = k := by
  have h1 : t ∈ fl t.a (q k) := mem_fl.2 ⟨h, rfl⟩
  rw [g.fi k t.a hk] at h1
  by_cases c : plc T t.a = k
  · rw [if_pos c] at h1; exact ⟨(mem_fl.1 h1).1, c⟩
  · rw [if_neg c] at h1; simp at h1
theorem Gd.inn {T : Nat} {q : Nat → List Tm} {us : Nat → Nat} {LL : List Tm} (g : Gd T q us LL) {t : Tm} (h : t ∈ LL) : t ∈ q (plc T t.a) := by
  have h1 : t ∈ fl t.a LL := mem_fl.2 ⟨h, rfl⟩
  have h2 := g.fi (plc T t.a) t.a (plc_lt g.t (g.lo t h).2)
  rw [if_pos rfl] at h2
  rw [← h2] at h1
  exact (mem_fl.1 h1).1
theorem nd_inj {LL : List Tm} (h : (LL.map Tm.i).Nodup) {t u : Tm} (ht : t ∈ LL) (hu : u ∈ LL) (e : t.i = u.i) : t = u := by
  induction LL with
  | nil => simp at ht
  | cons x l ih =>
    rw [List.map_cons, List.nodup_cons] at h
    rcases List.mem_cons.1 ht with e1 | h1 <;> rcases List.mem_cons.1 hu with e2 | h2
    · rw [e1, e2]
    · exact absurd (List.mem_map.2 ⟨u, h2, by rw [← e, e1]⟩) h.1
    · exact absurd (List.mem_map.2 ⟨t, h1, by rw [e, e2]⟩) h.1
    · exact ih h.2 h1 h2

/-- A timer more. -/
theorem Gd.add {T : Nat} {q : Nat → List Tm} {us : Nat → Nat} {LL : List Tm} (g : Gd T q us LL) (t : Tm) (h1 : T < t.a) (h2 : t.a ≤ 1099511627776) (hi : t.i ∉ LL.map Tm.i) :
    Gd T (up q (plc T t.a) (q (plc T t.a) ++ [t])) (fun j => if j = lev T t.a then us (lev T t.a) ||| 2 ^ slo T t.a else us j) (LL ++ [t]) := by
  have hl := lev_lt7 g.t h2
  have hs := slo_lt T t.a
  refine ⟨g.t, fun k a hk => ?_, fun u hu => ?_, fun l hl' => ?_, fun l s hl' hs' => ?_, ?_⟩
  · rw [fl_app]
    by_cases c : k = plc T t.a
    · subst c
      rw [up_same, fl_app, g.fi _ a hk]
      by_cases ca : t.a = a
      · subst ca; simp
      · rw [fl_cons_other [] ca]; simp [fl]
    · rw [up_other _ _ c, g.fi _ a hk]
      by_cases ca : t.a = a
      · subst ca; rw [if_neg (Ne.symm c), if_neg (Ne.symm c)]
      · rw [fl_cons_other [] ca]; simp [fl]
  · rcases List.mem_append.1 hu with hu | hu
    · exact g.lo u hu
    · simp at hu; subst hu; exact ⟨h1, h2⟩
  · by_cases c : l = lev T t.a
    · simp only [c, if_true]
      exact Nat.or_lt_two_pow (n := 64) (g.ul _ hl) (Nat.pow_lt_pow_right (by decide) hs)
    · simp only [c, if_false]; exact g.ul l hl'
  · by_cases c : l = lev T t.a
    · subst c
      simp only [if_true]
      rw [Nat.testBit_or, g.ub _ s hl hs', Nat.testBit_two_pow]
      by_cases cs : slo T t.a = s
      · subst cs
        have : lev T t.a * 64 + slo T t.a = plc T t.a := rfl
        rw [this, up_same]; simp
      · rw [up_other _ _ (by unfold plc; omega)]; simp [cs]
    · simp only [c, if_false]
      rw [up_other _ _ (by unfold plc; omega)]
      exact g.ub l s hl' hs'
  · rw [List.map_append]
    refine List.nodup_append.2 ⟨g.nd, by simp, fun x hx y hy e => ?_⟩
    simp at hy
    subst hy
    exact hi (e ▸ hx)

/-- While time comes to the first tick of a slot: r is what is still in it. -/
structure Jd (T' k0 : Nat) (LL r : List Tm) (q : Nat → List Tm) (us : Nat → Nat) (LC : List Tm) : Prop where
  t : T' ≤ 1099511627776
  kb : k0 < 448
  qr : q k0 = r
  fi : ∀ k a, k < 448 → k ≠ k0 → fl a (q k) ++ (if plc T' a = k ∧ T' < a then fl a r else []) = if plc T' a = k ∧ T' < a then fl a LL else []
  lc : LC = LL.filter fun t => t.a != T' || r.any fun u => u.i == t.i
  rl : ∀ t ∈ r, t ∈ LL
  rn : (r.map Tm.i).Nodup
  lo : ∀ t ∈ LL, T' ≤ t.a ∧ t.a ≤ 1099511627776
  lk : ∀ t ∈ LL, T' < t.a → plc T' t.a ≠ k0
  ul : ∀ l, l < 7 → us l < 18446744073709551616
  ub : ∀ l s, l < 7 → s < 64 → (us l).testBit s = (decide (q (l * 64 + s) ≠ []) && decide (l * 64 + s ≠ k0))
  nd : (LL.map Tm.i).Nodup
theorem first_place {T : Nat} {q : Nat → List Tm} {us : Nat → Nat} {LL : List Tm} (g : Gd T q us LL) {k0 : Nat} (hk : k0 < 448) (hne : q k0 ≠ []) (hf : ∀ k, k < k0 → q k = []) :
    ∃ b ∈ LL, plc T b.a = k0 ∧ lev T b.a = k0 / 64 ∧ slo T b.a = k0 % 64 ∧ ∀ t ∈ LL, k0 ≤ plc T t.a := by
  obtain ⟨b, hb⟩ := List.exists_mem_of_ne_nil _ hne
  obtain ⟨h1, h2⟩ := g.mem hk hb
  refine ⟨b, h1, h2, by rw [← h2, plc_div], by rw [← h2, plc_mod], fun t ht => ?_⟩
  have := g.inn ht
  rcases Nat.lt_or_ge (plc T t.a) k0 with c | c
  · rw [hf _ c] at this; simp at this
  · exact c
/-- What is known of the ticks then. -/
theorem first_ticks {T : Nat} {q : Nat → List Tm} {us : Nat → Nat} {LL : List Tm} (g : Gd T q us LL) {k0 : Nat} (hk : k0 < 448) (hne : q k0 ≠ []) (hf : ∀ k, k < k0 → q k = []) :
    T < beg T (k0 / 64) (k0 % 64) ∧ beg T (k0 / 64) (k0 % 64) ≤ 1099511627776 ∧
    (∀ t ∈ LL, plc T t.a = k0 → beg T (k0 / 64) (k0 % 64) ≤ t.a ∧ (beg T (k0 / 64) (k0 % 64) < t.a → plc (beg T (k0 / 64) (k0 % 64)) t.a ≠ k0)) ∧
    (∀ t ∈ LL, plc T t.a ≠ k0 → beg T (k0 / 64) (k0 % 64) < t.a ∧ plc (beg T (k0 / 64) (k0 % 64)) t.a = plc T t.a) ∧
    (∀ U, T ≤ U → U < beg T (k0 / 64) (k0 % 64) → ∀ t ∈ LL, U < t.a ∧ plc U t.a = plc T t.a) := by
  obtain ⟨b, hb, h2, e1, e2, h3⟩ := first_place g hk hne hf
  rw [← e1, ← e2]
  obtain ⟨l1, l2⟩ := g.lo b hb
  have hbe := beg_le T b.a
  have K1 : ∀ t ∈ LL, beg T (lev T b.a) (slo T b.a) ≤ t.a := fun t ht => by
    by_cases c : plc T t.a = k0
    · obtain ⟨d1, d2⟩ := beg_plc (c.trans h2.symm)
      rw [← d1, ← d2]; exact beg_le T t.a
    · have h4 := h3 t ht
      have := beg_lt (n := T) (a := b.a) (b := t.a) (g.lo t ht).1 (by omega)
      have := beg_le T t.a
      omega
  refine ⟨beg_gt l1, by omega, fun t ht c => ⟨K1 t ht, fun hlt => ?_⟩, fun t ht c => ⟨?_, ?_⟩, fun U hU1 hU2 t ht => ⟨?_, ?_⟩⟩
  · have := (goes_other (n := T) (a := t.a) (b := b.a) (c.trans h2.symm) (by omega)).1
    omega
  · have h4 := h3 t ht
    have := beg_lt (n := T) (a := b.a) (b := t.a) (g.lo t ht).1 (by omega)
    have := beg_le T t.a
    omega
  · have h4 := h3 t ht
    refine plc_of_lev (stay_down ?_ (by omega))
    have d1 := plc_div T t.a
    have d2 := plc_div T b.a
    omega
  · have := K1 t ht; omega
  · exact plc_of_lev (stay_still hU1 hU2 (by have := h3 t ht; omega))

theorem Jd.start {T : Nat} {q : Nat → List Tm} {us : Nat → Nat} {LL : List Tm} (g : Gd T q us LL) {k0 : Nat} (hk : k0 < 448) (hne : q k0 ≠ []) (hf : ∀ k, k < k0 → q k = []) (us' : Nat → Nat) (hu : ∀ l, l < 7 → us' l < 18446744073709551616) (hb : ∀ l s, l < 7 → s < 64 → (us' l).testBit s = ((us l).testBit s && decide (l * 64 + s ≠ k0))) (hnq : ((q k0).map Tm.i).Nodup) :
    Jd (beg T (k0 / 64) (k0 % 64)) k0 LL (q k0) q us' LL := by
  obtain ⟨f1, f2, f3, f4, _⟩ := first_ticks g hk hne hf
  generalize beg T (k0 / 64) (k0 % 64) = T' at *
  have all : ∀ t ∈ LL, T' ≤ t.a := fun t ht => by
    by_cases c : plc T t.a = k0
    · exact (f3 t ht c).1
    · exact Nat.le_of_lt (f4 t ht c).1
  refine ⟨f2, hk, rfl, fun k a hk' hkn => ?_, ?_, fun t ht => (g.mem hk ht).1, hnq, fun t ht => ⟨all t ht, (g.lo t ht).2⟩, fun t ht hlt => ?_, hu, fun l s hl hs => ?_, g.nd⟩
  · rw [g.fi k a hk', g.fi k0 a hk]
    by_cases he : fl a LL = []
    · rw [he]; simp
    · obtain ⟨t, ht⟩ := List.exists_mem_of_ne_nil _ he
      obtain ⟨h1, rfl⟩ := mem_fl.1 ht
      by_cases c : plc T t.a = k0
      · rw [if_neg (by omega), if_pos c]; simp
      · obtain ⟨d1, d2⟩ := f4 t h1 c
        rw [if_neg c, d2]
        by_cases c2 : plc T t.a = k
        · rw [if_pos c2, if_pos ⟨c2, d1⟩, if_pos ⟨c2, d1⟩]; simp
        · rw [if_neg c2, if_neg (fun e => c2 e.1), if_neg (fun e => c2 e.1)]; simp
  · symm
    rw [List.filter_eq_self]
    intro t ht
    by_cases c : t.a = T'
    · have c2 : plc T t.a = k0 := by
        by_cases c2 : plc T t.a = k0
        · exact c2
        · have := (f4 t ht c2).1; omega
      have := g.inn ht
      rw [c2] at this
      have h5 : ((q k0).any fun u => u.i == t.i) = true := List.any_eq_true.2 ⟨t, this, by simp⟩
      rw [h5]; simp
    · simp [c]
  · by_cases c : plc T t.a = k0
    · exact (f3 t ht c).2 hlt
    · rw [(f4 t ht c).2]; exact c
  · rw [hb l s hl hs, g.ub l s hl hs]

theorem any_cons_ne {u t : Tm} {r : List Tm} (h : u.i ≠ t.i) : ((u :: r).any fun x => x.i == t.i) = r.any fun x => x.i == t.i := by simp [h]
/-- The next one fires. -/
theorem Jd.fire {T' k0 : Nat} {LL r : List Tm} {u : Tm} {q : Nat → List Tm} {us : Nat → Nat} {LC : List Tm} (j : Jd T' k0 LL (u :: r) q us LC) (hu : u.a = T') : Jd T' k0 LL r (up q k0 r) us (LC.filter fun t => t.i != u.i) := by
  have hul := j.rl u (by simp)
  have hnr := j.rn
  rw [List.map_cons, List.nodup_cons] at hnr
  refine ⟨j.t, j.kb, up_same _ _ _, fun k a hk hkn => ?_, ?_, fun t ht => j.rl t (by simp [ht]), hnr.2, j.lo, j.lk, j.ul, fun l s hl hs => ?_, j.nd⟩
  · rw [up_other _ _ hkn]
    have := j.fi k a hk hkn
    by_cases c : plc T' a = k ∧ T' < a
    · rw [if_pos c, if_pos c] at this ⊢
      rw [fl_cons_other r (by omega)] at this
      exact this
    · rw [if_neg c, if_neg c] at this ⊢; exact this
  · rw [j.lc, List.filter_filter]
    apply List.filter_congr
    intro t ht
    by_cases c : t.i = u.i
    · obtain rfl := nd_inj j.nd ht hul c
      have h0 : (r.any fun x => x.i == t.i) = false := by
        rw [List.any_eq_false]
        intro x hx e
        exact hnr.1 (List.mem_map.2 ⟨x, hx, by simpa using e⟩)
      simp [h0, hu]
    · rw [any_cons_ne (Ne.symm c)]; simp [c]
  · rw [j.ub l s hl hs]
    by_cases c : l * 64 + s = k0
    · simp [c]
    · rw [up_other _ _ c]
/-- The next one goes to a lower slot. -/
theorem Jd.down {T' k0 : Nat} {LL r : List Tm} {u : Tm} {q : Nat → List Tm} {us : Nat → Nat} {LC : List Tm} (j : Jd T' k0 LL (u :: r) q us LC) (hu : T' < u.a) :
    plc T' u.a ≠ k0 ∧ Jd T' k0 LL r (up (up q k0 r) (plc T' u.a) (up q k0 r (plc T' u.a) ++ [u])) (fun x => if x = lev T' u.a then us (lev T' u.a) ||| 2 ^ slo T' u.a else us x) LC := by
  have hul := j.rl u (by simp)
  have hk1 := j.lk u hul hu
  have ha := (j.lo u hul).2
  have hlt := lev_lt7 j.t ha
  have hst := slo_lt T' u.a
  have hnr := j.rn
  rw [List.map_cons, List.nodup_cons] at hnr
  refine ⟨hk1, j.t, j.kb, ?_, fun k a hk hkn => ?_, ?_, fun t ht => j.rl t (by simp [ht]), hnr.2, j.lo, j.lk, fun l hl => ?_, fun l s hl hs => ?_, j.nd⟩
  · rw [up_other _ _ (Ne.symm hk1), up_same]
  · have := j.fi k a hk hkn
    rw [up_other q r hk1]
    by_cases ck : k = plc T' u.a
    · subst ck
      rw [up_same, fl_app]
      by_cases ca : u.a = a
      · subst ca
        rw [if_pos ⟨rfl, hu⟩, if_pos ⟨rfl, hu⟩] at this ⊢
        rw [fl_cons_same r rfl] at this
        rw [fl_cons_same [] rfl, ← this]; simp [fl]
      · rw [fl_cons_other [] ca]
        rw [fl_cons_other r ca] at this
        simpa [fl] using this
    · rw [up_other _ _ ck, up_other _ _ hkn]
      by_cases ca : u.a = a
      · subst ca
        rw [if_neg (fun e => ck e.1.symm), if_neg (fun e => ck e.1.symm)] at this ⊢; exact this
      · rw [fl_cons_other r ca] at this; exact this
  · rw [j.lc]
    apply List.filter_congr
    intro t ht
    by_cases c : t.i = u.i
    · obtain rfl := nd_inj j.nd ht hul c
      have : (t.a != T') = true := by simp; omega
      simp [this]
    · rw [any_cons_ne (Ne.symm c)]
  · by_cases c : l = lev T' u.a
    · simp only [c, if_true]
      exact Nat.or_lt_two_pow (n := 64) (j.ul _ hlt) (Nat.pow_lt_pow_right (by decide) hst)
    · simp only [c, if_false]; exact j.ul l hl
  · have hob := j.ub l s hl hs
    by_cases c : l = lev T' u.a
    · subst c
      simp only [if_true]
      rw [Nat.testBit_or, hob, Nat.testBit_two_pow]
      by_cases cs : slo T' u.a = s
      · subst cs
        have e : lev T' u.a * 64 + slo T' u.a = plc T' u.a := rfl
        rw [e, up_same]; simp [hk1]
      · rw [up_other _ _ (by unfold plc; omega)]
        by_cases ck : lev T' u.a * 64 + s = k0
        · simp [cs, ck]
        · rw [up_other _ _ ck]; simp [cs]
    · simp only [c, if_false]
      rw [hob, up_other _ _ (by unfold plc; omega)]
      by_cases ck : l * 64 + s = k0
      · simp [ck]
      · rw [up_other _ _ ck]
/-- All have gone. -/
theorem Jd.done {T' k0 : Nat} {LL : List Tm} {q : Nat → List Tm} {us : Nat → Nat} {LC : List Tm} (j : Jd T' k0 LL [] q us LC) : LC = LL.filter (fun t => t.a != T') ∧ Gd T' q us LC := by
  have hc : LC = LL.filter (fun t => t.a != T') := by rw [j.lc]; simp
  refine ⟨hc, j.t, fun k a hk => ?_, fun t ht => ?_, j.ul, fun l s hl hs => ?_, ?_⟩
  · have hf : fl a LC = if a = T' then [] else fl a LL := by
      rw [hc]
      unfold fl
      rw [List.filter_filter]
      by_cases c : a = T'
      · rw [if_pos c, List.filter_eq_nil_iff]
        intro t _; simp; omega
      · rw [if_neg c]
        apply List.filter_congr
        intro t _
        by_cases e : t.a = a
        · simp [e, c]
        · simp [e]
    have hlow : a < T' → fl a LL = [] := fun h => fl_nil_of fun t ht => by have := (j.lo t ht).1; omega
    by_cases ck : k = k0
    · subst ck
      rw [j.qr]
      by_cases c : plc T' a = k
      · rw [if_pos c, hf]
        by_cases e : a = T'
        · rw [if_pos e]; rfl
        · rw [if_neg e]
          symm
          refine fl_nil_of fun t ht ea => ?_
          have h1 := (j.lo t ht).1
          exact j.lk t ht (by omega) (by rw [ea]; exact c)
      · rw [if_neg c]; rfl
    · have := j.fi k a hk ck
      simp only [fl, List.filter_nil, ite_self, List.append_nil] at this
      show List.filter _ _ = _
      rw [this, hf]
      show (if plc T' a = k ∧ T' < a then fl a LL else []) = _
      by_cases c : plc T' a = k
      · rw [if_pos c]
        rcases Nat.lt_trichotomy a T' with d | d | d
        · rw [if_neg (by omega), if_neg (by omega), hlow d]
        · rw [if_neg (by omega), if_pos d]
        · rw [if_pos ⟨c, d⟩, if_neg (by omega)]
      · rw [if_neg c, if_neg (fun e => c e.1)]
  · rw [hc, List.mem_filter] at ht
    have := j.lo t ht.1
    have h2 := ht.2
    simp at h2
    omega
  · rw [j.ub l s hl hs]
    by_cases ck : l * 64 + s = k0
    · rw [ck, j.qr]; simp
    · simp [ck]
  · rw [hc]
    exact (List.filter_sublist.map Tm.i).nodup j.nd
/-- Time goes on to where no slot begins. -/
theorem Gd.go {T : Nat} {q : Nat → List Tm} {us : Nat → Nat} {LL : List Tm} (g : Gd T q us LL) {U : Nat} (hU : U ≤ 1099511627776) (h : ∀ t ∈ LL, U < t.a ∧ plc U t.a = plc T t.a) : Gd U q us LL := by
  refine ⟨hU, fun k a hk => ?_, fun t ht => ⟨(h t ht).1, (g.lo t ht).2⟩, g.ul, g.ub, g.nd⟩
  rw [g.fi k a hk]
  by_cases he : fl a LL = []
  · rw [he]; simp
  · obtain ⟨t, ht⟩ := List.exists_mem_of_ne_nil _ he
    obtain ⟨h1, rfl⟩ := mem_fl.1 ht
    rw [(h t h1).2]
end Go.Proofs.YtignphkfknjllaaDoor
