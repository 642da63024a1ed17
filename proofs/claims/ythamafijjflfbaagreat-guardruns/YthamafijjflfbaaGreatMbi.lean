/- Each act over values' trees, tried: what the document's table has, told as one form: the numbers of a result, and the tree of its body; the conditions: the trees in memory, valid, their bits within 64. -/
import Derived.Test.YthamafijjflfbaaGreatMbd
import Derived.Test.YthamafijjflfbaaGreatMbe
import Derived.Test.YthamafijjflfbaaGreatMbg
import Derived.Test.YthamafijjflfbaaGreatMbh
import Derived.Test.YthamafijjflfbaaGreatMbf
import Derived.Test.YthamafijjflfbaaGreatMae
namespace Go.Proofs.YthamafijjflfbaaGreat
open Go.RowKit

/-- A result: its numbers, and its body's tree in memory. -/
def GP (er pk pn : Int) (has : Bool) (m : Nat) (tr : Dt.Tr m) (w : World) (e : Ending) (w' : World) : Prop :=
  ∃ k i u s a n c, e = .returned (.agg (rcs er 0 pk pn has k i u s a n c)) ∧ Dt.Rf (fun g => w.heap.size ≤ g ∧ g < w'.heap.size) w' m [.int .i64 k, .int .i64 i, .int .u64 u, .string s, .slice a n c] tr ∧ Below w.heap.size w w'

/-- A value without parts. -/
def lfT (k i : Int) : Dt.Tr 1 := ((k, i, 0, ⟨#[]⟩, []) : Int × Int × Int × ByteArray × List (Dt.Tr 0))
theorem lf_rep (w : World) (k i : Int) : Dt.Rep w 1 [.int .i64 k, .int .i64 i, .int .u64 0, .string ⟨#[]⟩, .slice none 0 0] (lfT k i) := ⟨none, 0, rfl, Nat.zero_le _, Nat.zero_le _, Nat.zero_le _, .inl rfl⟩
theorem lf_rf (F : Nat → Prop) (w : World) (k i : Int) : Dt.Rf F w 1 [.int .i64 k, .int .i64 i, .int .u64 0, .string ⟨#[]⟩, .slice none 0 0] (lfT k i) := ⟨none, 0, rfl, Nat.zero_le _, Nat.zero_le _, Nat.zero_le _, .inl rfl⟩
theorem gp_err {er pk pn : Int} {w : World} {e : Ending} {w' : World} (h : e = .returned (.agg (rErr er 0 pk pn)) ∧ Below w.heap.size w w') : GP er pk pn false 1 (lfT 0 0) w e w' := ⟨0, 0, 0, ⟨#[]⟩, none, 0, 0, h.1, lf_rf _ w' 0 0, h.2⟩
theorem gp_rf {H : Nat} {m : Nat} {tr : Dt.Tr m} {w : World} {e : Ending} {w' : World} (hH : w.heap.size ≤ H) (h : ∃ k i u s a n c, e = .returned (.agg (rcs 0 0 0 0 true k i u s a n c)) ∧ Dt.Rf (fun g => H ≤ g ∧ g < w'.heap.size) w' m [.int .i64 k, .int .i64 i, .int .u64 u, .string s, .slice a n c] tr ∧ Below w.heap.size w w') : GP 0 0 0 true m tr w e w' := by
  obtain ⟨k, i, u, s, a, n, c, he, rf, hb⟩ := h
  exact ⟨k, i, u, s, a, n, c, he, Dt.Rf.to (fun g hg => ⟨⟨by omega, hg.2⟩, rfl⟩) _ _ _ rf, hb⟩

/-- A value in memory, valid. -/
structure Vl (W0 : World) (m : Nat) (t : Dt.Tr (m + 1)) (k i u : Int) (s : ByteArray) (a : Option Addr) (n c : Nat) : Prop where
  rg : Dt.rgt (m + 1) t = true
  ps : (Dt.pts (m + 1) t).1 ≤ 4096
  r6 : Dt.r64 (m + 1) t
  rep : Dt.Rep W0 (m + 1) [.int .i64 k, .int .i64 i, .int .u64 u, .string s, .slice a n c] t
theorem Vl.eq {W0 : World} {m : Nat} {t : Dt.Tr (m + 1)} {k i u : Int} {s : ByteArray} {a : Option Addr} {n c : Nat} (h : Vl W0 m t k i u s a n c) : t.kd = k ∧ t.it = i ∧ t.tx = s ∧ t.ks.length = n := by
  obtain ⟨a', c', e, -⟩ := h.rep
  simp only [List.cons.injEq, Value.int.injEq, Value.string.injEq, Value.slice.injEq, true_and, and_true] at e
  exact ⟨e.1.symm, e.2.1.symm, e.2.2.2.1.symm, e.2.2.2.2.2.1.symm⟩
theorem Vl.below {W0 w : World} {m : Nat} {t : Dt.Tr (m + 1)} {k i u : Int} {s : ByteArray} {a : Option Addr} {n c : Nat} (h : Vl W0 m t k i u s a n c) (hb : Below W0.heap.size W0 w) : Vl w m t k i u s a n c := ⟨h.rg, h.ps, h.r6, Dt.Rep.below hb _ _ _ h.rep⟩
theorem Vl.kid {W0 : World} {m : Nat} {t : Dt.Tr (m + 1)} {k i u : Int} {s : ByteArray} {a : Option Addr} {n c : Nat} (h : Vl W0 m t k i u s a n c) {t' : Dt.Tr m} (ht : t' ∈ t.ks) : Dt.rgt m t' = true ∧ (Dt.pts m t').1 ≤ 4096 ∧ Dt.r64 m t' := by
  have h1 := h.rg
  simp only [Dt.rgt, Bool.and_eq_true, List.all_eq_true] at h1
  exact ⟨h1.2 t' ht, (Dt.pts_kids h.ps).2 t' ht, h.r6.2 t' ht⟩

theorem gpGive (W0 : World) (m : Nat) (t : Dt.Tr (m + 1)) (ak ai au : Int) (az : ByteArray) (aa : Option Addr) (an ac : Nat) (bk bi bu : Int) (bs : ByteArray) (ba : Option Addr) (bn bc : Nat) (num : Int) (h : Vl W0 m t ak ai au az aa an ac) (w : World) (hb : Below W0.heap.size W0 w) :
    Calls Tryz.prog 10 #[.agg (acs 1 ak ai au az aa an ac bk bi bu bs ba bn bc num)] w (GP 0 0 0 true (m + 1) t w) := (tryGive W0 m t h.ps ak ai au az aa an ac bk bi bu bs ba bn bc num h.rep w hb).mono fun _ _ q => gp_rf (by omega) q
theorem gpAssert (W0 : World) (m : Nat) (t : Dt.Tr (m + 1)) (ak ai au : Int) (az : ByteArray) (aa : Option Addr) (an ac : Nat) (bk bi bu : Int) (bs : ByteArray) (ba : Option Addr) (bn bc : Nat) (num : Int) (h : Vl W0 m t ak ai au az aa an ac) (hq : tkd num ak = true) (w : World) (hb : Below W0.heap.size W0 w) :
    Calls Tryz.prog 10 #[.agg (acs 2 ak ai au az aa an ac bk bi bu bs ba bn bc num)] w (GP 0 0 0 true (m + 1) t w) := (tryAssert W0 m t h.rg h.ps h.r6 ak ai au az aa an ac bk bi bu bs ba bn bc num h.rep w hb hq).mono fun _ _ q => gp_rf (by omega) q
theorem gpAssert_no (W0 : World) (m : Nat) (t : Dt.Tr (m + 1)) (ak ai au : Int) (az : ByteArray) (aa : Option Addr) (an ac : Nat) (bk bi bu : Int) (bs : ByteArray) (ba : Option Addr) (bn bc : Nat) (num : Int) (h : Vl W0 m t ak ai au az aa an ac) (hq : tkd num ak = false) (w : World) (hb : Below W0.heap.size W0 w) :
    Calls Tryz.prog 10 #[.agg (acs 2 ak ai au az aa an ac bk bi bu bs ba bn bc num)] w (GP 110 2 ak false 1 (lfT 0 0) w) := (tryAssert_no W0 m t h.rg h.ps ak ai au az aa an ac bk bi bu bs ba bn bc num h.rep w hb hq).mono fun _ _ q => gp_err q
theorem gpFace (W0 : World) (m : Nat) (t : Dt.Tr (m + 1)) (ak ai au : Int) (az : ByteArray) (aa : Option Addr) (an ac : Nat) (bk bi bu : Int) (bs : ByteArray) (ba : Option Addr) (bn bc : Nat) (num : Int) (h : Vl W0 m t ak ai au az aa an ac) (hq : impl ak num = true) (w : World) (hb : Below W0.heap.size W0 w) :
    Calls Tryz.prog 10 #[.agg (acs 3 ak ai au az aa an ac bk bi bu bs ba bn bc num)] w (GP 0 0 0 true (m + 1) t w) := (tryFace W0 m t h.ps ak ai au az aa an ac bk bi bu bs ba bn bc num h.rep w hb hq).mono fun _ _ q => gp_rf (by omega) q
theorem gpFace_no (ak ai au : Int) (az : ByteArray) (aa : Option Addr) (an ac : Nat) (bk bi bu : Int) (bs : ByteArray) (ba : Option Addr) (bn bc : Nat) (num : Int) (hq : impl ak num = false) (w : World) :
    Calls Tryz.prog 10 #[.agg (acs 3 ak ai au az aa an ac bk bi bu bs ba bn bc num)] w (GP 110 2 (lackM ak num) false 1 (lfT 0 0) w) := (tryFace_no ak ai au az aa an ac bk bi bu bs ba bn bc num w hq).mono fun _ _ q => gp_err q
theorem gpOwn (ak ai au : Int) (az : ByteArray) (aa : Option Addr) (an ac : Nat) (bk bi bu : Int) (bs : ByteArray) (ba : Option Addr) (bn bc : Nat) (num : Int) (w : World) : Calls Tryz.prog 10 #[.agg (acs 8 ak ai au az aa an ac bk bi bu bs ba bn bc num)] w (GP 110 1 num false 1 (lfT 0 0) w) := (tryOwn ak ai au az aa an ac bk bi bu bs ba bn bc num w).mono fun _ _ q => gp_err q
theorem gpError (ak ai au : Int) (az : ByteArray) (aa : Option Addr) (an ac : Nat) (bk bi bu : Int) (bs : ByteArray) (ba : Option Addr) (bn bc : Nat) (num : Int) (w : World) : Calls Tryz.prog 10 #[.agg (acs 9 ak ai au az aa an ac bk bi bu bs ba bn bc num)] w (GP 110 7 num false 1 (lfT 0 0) w) := (tryError ak ai au az aa an ac bk bi bu bs ba bn bc num w).mono fun _ _ q => gp_err q
theorem gpSize (W0 : World) (m : Nat) (t : Dt.Tr (m + 1)) (ak ai au : Int) (az : ByteArray) (aa : Option Addr) (an ac : Nat) (bk bi bu : Int) (bs : ByteArray) (ba : Option Addr) (bn bc : Nat) (num : Int) (h : Vl W0 m t ak ai au az aa an ac) (h0 : (Dt.lenP t.kd t.tx.size t.ks.length).2 = 0) (w : World) (hb : Below W0.heap.size W0 w) :
    Calls Tryz.prog 10 #[.agg (acs 10 ak ai au az aa an ac bk bi bu bs ba bn bc num)] w (GP 0 0 0 true 1 (lfT 1 (Dt.lenP t.kd t.tx.size t.ks.length).1) w) := (trySize W0 m t h.rg h.ps ak ai au az aa an ac bk bi bu bs ba bn bc num h.rep w hb).mono fun e w' ⟨he, hb'⟩ => by
  rw [if_pos h0] at he
  exact ⟨1, _, 0, ⟨#[]⟩, none, 0, 0, he, lf_rf _ w' 1 _, hb'⟩
theorem gpSize_no (W0 : World) (m : Nat) (t : Dt.Tr (m + 1)) (ak ai au : Int) (az : ByteArray) (aa : Option Addr) (an ac : Nat) (bk bi bu : Int) (bs : ByteArray) (ba : Option Addr) (bn bc : Nat) (num : Int) (h : Vl W0 m t ak ai au az aa an ac) (h0 : (Dt.lenP t.kd t.tx.size t.ks.length).2 ≠ 0) (w : World) (hb : Below W0.heap.size W0 w) :
    Calls Tryz.prog 10 #[.agg (acs 10 ak ai au az aa an ac bk bi bu bs ba bn bc num)] w (GP 12 0 0 false 1 (lfT 0 0) w) := (trySize W0 m t h.rg h.ps ak ai au az aa an ac bk bi bu bs ba bn bc num h.rep w hb).mono fun e w' ⟨he, hb'⟩ => by
  rw [if_neg h0] at he
  exact gp_err ⟨he, hb'⟩
theorem gpOther (op : Int) (ak ai au : Int) (az : ByteArray) (aa : Option Addr) (an ac : Nat) (bk bi bu : Int) (bs : ByteArray) (ba : Option Addr) (bn bc : Nat) (num : Int) (hop : op < 1 ∨ 10 < op) (w : World) :
    Calls Tryz.prog 10 #[.agg (acs op ak ai au az aa an ac bk bi bu bs ba bn bc num)] w (GP 12 0 0 false 1 (lfT 0 0) w) := by
  have S : St (w.heap.size + 6) (fun k i u s a n c _ => k = 0 ∧ i = 0 ∧ u = 0 ∧ s = ⟨#[]⟩ ∧ a = none ∧ n = 0 ∧ c = 0) := fun _ _ _ _ _ _ _ _ _ h _ _ => h
  refine (try_ret op ak ai au az aa an ac bk bi bu bs ba bn bc num w 12 0 0 0 false _ (st_four S (by omega)) fun wx hx zx => (done_other op ak ai au az aa an ac bk bi bu bs ba bn bc num wx (by simp; omega) (by simp; omega) (by simp; omega) (by simp; omega) (by simp; omega) (by simp; omega) (by simp; omega) (by simp; omega) (by simp; omega) (by simp; omega)).mono fun e w' ⟨he, hb'⟩ => ⟨0, 0, 0, ⟨#[]⟩, none, 0, 0, he, ⟨rfl, rfl, rfl, rfl, rfl, rfl, rfl⟩, hb'⟩).mono fun e w' ⟨k, i, u, s, a, n, c, he, ⟨q1, q2, q3, q4, q5, q6, q7⟩, hb'⟩ => ?_
  subst q1 q2 q3 q4 q5 q6 q7
  exact gp_err ⟨he, hb'⟩

/-- An assertion to a kind that holds: the value again, in new memory. -/
theorem must_rf (W0 : World) (m : Nat) (t : Dt.Tr (m + 1)) (k i u : Int) (s : ByteArray) (a : Option Addr) (n c : Nat) (h : Vl W0 m t k i u s a n c) (kind : Int) (hq : tkd kind k = true) (w : World) (hb : Below W0.heap.size W0 w) (H : Nat) (hH : w.heap.size + 2 = H) :
    Calls Tryz.prog 40 #[.agg #[.int .i64 k, .int .i64 i, .int .u64 u, .string s, .slice a n c], .int .i64 kind] w fun e w' => ∃ k i u s a n c, e = .returned (.agg #[.int .i64 k, .int .i64 i, .int .u64 u, .string s, .slice a n c]) ∧ Dt.Rf (fun g => H ≤ g ∧ g < w'.heap.size) w' (m + 1) [.int .i64 k, .int .i64 i, .int .u64 u, .string s, .slice a n c] t ∧ Below w.heap.size w w' := by
  refine pmust_yes k i u s a n c kind w H (by omega) _ (st_rf H (m + 1) t) fun wz hz zz => ?_
  have hB : Below W0.heap.size W0 wz := hb.trans (hz.mono hb.size)
  refine (must_yes (m + 1) t h.rg h.r6 h.ps k i u s a n c kind wz hq fun wq hq' => of_val W0 m t k i u s a n c wq h.rg h.ps h.rep (hB.trans (hq'.mono hB.size))).mono fun e w' ⟨v0, v1, v2, v3, v4, he, rf, hb'⟩ => ?_
  obtain ⟨u0, u1, u2, u3, a4, n4, c4', rfl, rfl, rfl, rfl, rfl⟩ := Dt.rep_shape (Dt.Rf.rep _ _ _ rf)
  exact ⟨u0, u1, u2, u3, a4, n4, c4', he, Dt.Rf.to (fun g hg => ⟨⟨by omega, hg.2⟩, rfl⟩) _ _ _ rf, hb'⟩
theorem must_no (W0 : World) (m : Nat) (t : Dt.Tr (m + 1)) (k i u : Int) (s : ByteArray) (a : Option Addr) (n c : Nat) (h : Vl W0 m t k i u s a n c) (kind : Int) (hq : tkd kind k = false) (w : World) (hb : Below W0.heap.size W0 w) :
    Calls Tryz.prog 40 #[.agg #[.int .i64 k, .int .i64 i, .int .u64 u, .string s, .slice a n c], .int .i64 kind] w fun e w' => Pn 84 (.int .i64 k) e ∧ Below w.heap.size w w' := by
  refine pmust_no k i u s a n c kind w fun wz hz => ?_
  have hB : Below W0.heap.size W0 wz := hb.trans (hz.mono hb.size)
  obtain ⟨F, hm, hM⟩ := type_musts kind
  exact must_fail k i u s a n c kind (qty kind) F wz rfl hm (fun u w hu => (hM k u w hu).2 hq) fun wq hq' => (of_val W0 m t k i u s a n c wq h.rg h.ps h.rep (hB.trans (hq'.mono hB.size))).mono fun e w' ⟨u, a, c, _, d⟩ => ⟨u, a, c, d⟩

theorem gpIndex (W0 : World) (m : Nat) (t : Dt.Tr (m + 1)) (ak ai au : Int) (az : ByteArray) (aa : Option Addr) (an ac : Nat) (bk bi bu : Int) (bs : ByteArray) (ba : Option Addr) (bn bc : Nat) (j : Nat) (h : Vl W0 m t ak ai au az aa an ac) (hk : ak = 8) (kid : Dt.Tr m) (hj : t.ks[j]? = some kid) (w : World) (hb : Below W0.heap.size W0 w) :
    Calls Tryz.prog 10 #[.agg (acs 4 ak ai au az aa an ac bk bi bu bs ba bn bc (j : Int))] w (GP 0 0 0 true m kid w) := by
  have S := st_rf (w.heap.size + 11) m kid
  refine (try_ret 4 ak ai au az aa an ac bk bi bu bs ba bn bc (j : Int) w 0 0 0 0 true _ (st_four S (by omega)) fun wx hx zx => ?_).mono fun _ _ q => gp_rf (by omega) q
  refine done_index ak ai au az aa an ac bk bi bu bs ba bn bc (j : Int) wx (w.heap.size + 11) (by omega) _ S fun wy hy zy => ?_
  refine place_yes ak ai au az aa an ac j wy (w.heap.size + 11) (by omega) _ S fun wz hz zz => ?_
  have hB : Below W0.heap.size W0 wz := ((hb.trans (hx.mono hb.size)).trans (hy.mono (by have := hb.size; omega))).trans (hz.mono (by have := hb.size; omega))
  refine (must_rf W0 m t ak ai au az aa an ac h 8 (by subst hk; rfl) wz hB (w.heap.size + 11) (by omega)).mono fun e w' ⟨k, i, u, s, a, n, c, he, rf, hb'⟩ => ?_
  obtain ⟨ad, cap, e1, -, -, -, e5⟩ := rf
  rcases e5 with e5 | ⟨g, o, rfl, hg, e7⟩
  · rw [e5] at hj; cases hj
  · obtain ⟨v0, v1, v2, v3, v4, c0, c1, c2, c3, c4, r⟩ := e7 j kid hj
    obtain ⟨u0, u1, u2, u3, a4, n4, c4', rfl, rfl, rfl, rfl, rfl⟩ := Dt.rep_shape (Dt.Rf.rep _ _ _ r)
    simp only [List.cons.injEq, Value.slice.injEq, and_true] at e1
    obtain ⟨-, -, -, -, rfl, rfl, rfl⟩ := e1
    exact ⟨k, i, u, s, g, o, _, _, u0, u1, u2, u3, a4, n4, c4', he, ⟨hg.1.2, (List.getElem?_eq_some_iff.1 hj).1, c0, c1, c2, c3, c4⟩, r, hb'⟩
theorem gpIndex_no (W0 : World) (m : Nat) (t : Dt.Tr (m + 1)) (ak ai au : Int) (az : ByteArray) (aa : Option Addr) (an ac : Nat) (bk bi bu : Int) (bs : ByteArray) (ba : Option Addr) (bn bc : Nat) (num : Int) (h : Vl W0 m t ak ai au az aa an ac) (hk : ak = 8) (hj : num < 0 ∨ (t.ks.length : Int) ≤ num) (w : World) (hb : Below W0.heap.size W0 w) :
    Calls Tryz.prog 10 #[.agg (acs 4 ak ai au az aa an ac bk bi bu bs ba bn bc num)] w (GP 110 4 num false 1 (lfT 0 0) w) := by
  refine (try_pan 4 ak ai au az aa an ac bk bi bu bs ba bn bc num w 87 (.int .i64 num) 4 num (ptold_index num) fun wx hx zx => ?_).mono fun _ _ q => gp_err q
  refine done_index_no ak ai au az aa an ac bk bi bu bs ba bn bc num _ _ wx fun wy hy => ?_
  refine place_no ak ai au az aa an ac num wy fun wz hz => ?_
  have hB : Below W0.heap.size W0 wz := ((hb.trans (hx.mono hb.size)).trans (hy.mono (by have := hb.size; omega))).trans (hz.mono (by have := hb.size; have := hy.size; omega))
  refine (must_rf W0 m t ak ai au az aa an ac h 8 (by subst hk; rfl) wz hB _ rfl).mono fun e w' ⟨k, i, u, s, a, n, c, he, rf, hb'⟩ => ?_
  obtain ⟨ad, cap, e1, -, -, -, e5⟩ := rf
  simp only [List.cons.injEq, Value.slice.injEq, and_true] at e1
  obtain ⟨-, -, -, -, rfl, rfl, rfl⟩ := e1
  exact ⟨k, i, u, s, _, _, _, he, hj, hb'⟩
theorem gpIndex_bad (W0 : World) (m : Nat) (t : Dt.Tr (m + 1)) (ak ai au : Int) (az : ByteArray) (aa : Option Addr) (an ac : Nat) (bk bi bu : Int) (bs : ByteArray) (ba : Option Addr) (bn bc : Nat) (num : Int) (h : Vl W0 m t ak ai au az aa an ac) (hk : ak ≠ 8) (w : World) (hb : Below W0.heap.size W0 w) :
    Calls Tryz.prog 10 #[.agg (acs 4 ak ai au az aa an ac bk bi bu bs ba bn bc num)] w (GP 110 2 ak false 1 (lfT 0 0) w) := by
  refine (try_pan 4 ak ai au az aa an ac bk bi bu bs ba bn bc num w 84 (.int .i64 ak) 2 ak (ptold_assert ak) fun wx hx zx => ?_).mono fun _ _ q => gp_err q
  refine done_index_no ak ai au az aa an ac bk bi bu bs ba bn bc num _ _ wx fun wy hy => ?_
  refine place_bad ak ai au az aa an ac num wy fun wz hz => ?_
  have hB : Below W0.heap.size W0 wz := ((hb.trans (hx.mono hb.size)).trans (hy.mono (by have := hb.size; omega))).trans (hz.mono (by have := hb.size; have := hy.size; omega))
  exact must_no W0 m t ak ai au az aa an ac h 8 (by simp [tkd]; omega) wz hB

theorem vr_11 {F : Nat → Prop} {w : World} {m : Nat} {v : Value} {t : Dt.Tr (m + 1)} (h : Dt.VR F w (m + 1) v t) (hk : t.kd = 11) : ∃ b u t0, v = .iface 141 (.pointer (some ⟨b, 0, none⟩)) ∧ w.heap[b]? = some (.cells #[.int .i64 t.it, u] 177 (0, 0)) ∧ t.ks = [t0] ∧ Dt.VR F w m u t0 := by
  simp only [Dt.VR] at h
  rcases h with q | q | q | q | q | q | q | ⟨k, q⟩ | ⟨k, q⟩ | ⟨k, q⟩ | q | ⟨k, b, u, t0, e1, e2, e3, e4, e5⟩ | q | q
  all_goals first | (exfalso; omega) | skip
  exact ⟨b, u, t0, e1, e4, e3, e5⟩
theorem vr_12 {F : Nat → Prop} {w : World} {m : Nat} {v : Value} {t : Dt.Tr (m + 1)} (h : Dt.VR F w (m + 1) v t) (hk : t.kd = 12) : v = .iface 141 (.pointer none) := by
  rcases Dt.vr_cases h with ⟨q, rfl⟩ | ⟨q, rfl⟩ | ⟨q, rfl⟩ | ⟨q, rfl⟩ | ⟨q, rfl⟩ | ⟨q, rfl⟩ | ⟨q, rfl⟩ | ⟨q, a, c, rfl⟩ | ⟨q, a, c, rfl⟩ | ⟨q, x, y, rfl, hx, hy⟩ | ⟨q, rfl⟩ | ⟨q, b, u, rfl, hh, hu⟩ | ⟨q, rfl⟩ | ⟨q, rfl⟩
  all_goals first | (exfalso; omega) | rfl

theorem gpOpen (W0 : World) (m : Nat) (t : Dt.Tr (m + 1)) (ak ai au : Int) (az : ByteArray) (aa : Option Addr) (an ac : Nat) (bk bi bu : Int) (bs : ByteArray) (ba : Option Addr) (bn bc : Nat) (num : Int) (h : Vl W0 m t ak ai au az aa an ac) (hk : ak = 11) (kid : Dt.Tr m) (hkid : t.ks = [kid]) (w : World) (hb : Below W0.heap.size W0 w) :
    Calls Tryz.prog 10 #[.agg (acs 5 ak ai au az aa an ac bk bi bu bs ba bn bc num)] w (GP 0 0 0 true m kid w) := by
  have S := st_rf (w.heap.size + 8) m kid
  obtain ⟨kr, kp, k6⟩ := h.kid (t' := kid) (by rw [hkid]; simp)
  refine (try_ret 5 ak ai au az aa an ac bk bi bu bs ba bn bc num w 0 0 0 0 true _ (st_four S (by omega)) fun wx hx zx => ?_).mono fun _ _ q => gp_rf (by omega) q
  refine done_open ak ai au az aa an ac bk bi bu bs ba bn bc num wx (w.heap.size + 8) (by omega) _ S fun wy hy zy => ?_
  refine popen_yes ak ai au az aa an ac wy (w.heap.size + 8) (by omega) _ S (fun wz hz => ?_) fun wz hz zz => ?_
  · exact pface_yes ak ai au az aa an ac 3 wz fun wq _ => mustFace_yes ak ai au az aa an ac 3 wq (by subst hk; rfl)
  · have hB : Below W0.heap.size W0 wz := ((hb.trans (hx.mono hb.size)).trans (hy.mono (by have := hb.size; omega))).trans (hz.mono (by have := hb.size; omega))
    refine (of_val W0 m t ak ai au az aa an ac wz h.rg h.ps h.rep hB).mono fun e w' ⟨v, he, _, vr, hb'⟩ => ?_
    obtain ⟨b, u, t0, rfl, e4, e2, e5⟩ := vr_11 vr.out (h.eq.1.trans hk)
    rw [hkid] at e2
    obtain rfl : kid = t0 := by simpa using e2
    refine ⟨b, t.it, u, he, ⟨e4, Dt.vr_any e5, fun wq hq => ?_⟩, hb'⟩
    refine (Dt.plain_any _ w' m kid u wq kr k6 kp e5 hq).mono fun e w'' ⟨v0, v1, v2, v3, v4, he, rf, hb''⟩ => ?_
    obtain ⟨u0, u1, u2, u3, a4, n4, c4', rfl, rfl, rfl, rfl, rfl⟩ := Dt.rep_shape (Dt.Rf.rep _ _ _ rf)
    exact ⟨u0, u1, u2, u3, a4, n4, c4', he, Dt.Rf.to (fun g hg => ⟨⟨by have := hq.size; have := hb'.size; omega, hg.2⟩, rfl⟩) _ _ _ rf, hb''⟩
theorem gpOpen_nil (W0 : World) (m : Nat) (t : Dt.Tr (m + 1)) (ak ai au : Int) (az : ByteArray) (aa : Option Addr) (an ac : Nat) (bk bi bu : Int) (bs : ByteArray) (ba : Option Addr) (bn bc : Nat) (num : Int) (h : Vl W0 m t ak ai au az aa an ac) (hk : ak = 12) (w : World) (hb : Below W0.heap.size W0 w) :
    Calls Tryz.prog 10 #[.agg (acs 5 ak ai au az aa an ac bk bi bu bs ba bn bc num)] w (GP 110 3 0 false 1 (lfT 0 0) w) := by
  refine (try_pan 5 ak ai au az aa an ac bk bi bu bs ba bn bc num w 86 (.agg #[]) 3 0 (ptold_nil) fun wx hx zx => ?_).mono fun _ _ q => gp_err q
  refine done_open_no ak ai au az aa an ac bk bi bu bs ba bn bc num _ _ wx fun wy hy => ?_
  refine popen_nil ak ai au az aa an ac wy (fun wz hz => ?_) fun wz hz => ?_
  · exact pface_yes ak ai au az aa an ac 3 wz fun wq _ => mustFace_yes ak ai au az aa an ac 3 wq (by subst hk; rfl)
  · have hB : Below W0.heap.size W0 wz := ((hb.trans (hx.mono hb.size)).trans (hy.mono (by have := hb.size; omega))).trans (hz.mono (by have := hb.size; have := hy.size; omega))
    refine (of_val W0 m t ak ai au az aa an ac wz h.rg h.ps h.rep hB).mono fun e w' ⟨v, he, _, vr, hb'⟩ => ?_
    obtain rfl := vr_12 vr.out (h.eq.1.trans hk)
    exact ⟨he, hb'⟩
theorem gpOpen_no (ak ai au : Int) (az : ByteArray) (aa : Option Addr) (an ac : Nat) (bk bi bu : Int) (bs : ByteArray) (ba : Option Addr) (bn bc : Nat) (num : Int) (hq : impl ak 3 = false) (w : World) :
    Calls Tryz.prog 10 #[.agg (acs 5 ak ai au az aa an ac bk bi bu bs ba bn bc num)] w (GP 110 2 (lackM ak 3) false 1 (lfT 0 0) w) := by
  refine (try_pan 5 ak ai au az aa an ac bk bi bu bs ba bn bc num w 84 (.int .i64 (lackM ak 3)) 2 (lackM ak 3) (ptold_assert (lackM ak 3)) fun wx hx zx => ?_).mono fun _ _ q => gp_err q
  refine done_open_no ak ai au az aa an ac bk bi bu bs ba bn bc num _ _ wx fun wy hy => ?_
  exact popen_no ak ai au (lackM ak 3) az aa an ac wy fun wz hz => pface_no ak ai au az aa an ac 3 (lackM ak 3) wz fun wq _ => mustFace_no ak ai au az aa an ac 3 wq hq

theorem gpCompare (W0 : World) (n m : Nat) (a : Dt.Tr n) (b : Dt.Tr m) (hn : n ≤ 16) (ra : Dt.rgt n a = true) (rb : Dt.rgt m b = true) (pa : (Dt.pts n a).1 ≤ 4096) (pb : (Dt.pts m b).1 ≤ 4096) (ak ai au : Int) (az : ByteArray) (aa : Option Addr) (an ac : Nat) (bk bi bu : Int) (bs : ByteArray) (ba : Option Addr) (bn bc : Nat) (num : Int) (hA : Dt.Rep W0 n [.int .i64 ak, .int .i64 ai, .int .u64 au, .string az, .slice aa an ac] a) (hB : Dt.Rep W0 m [.int .i64 bk, .int .i64 bi, .int .u64 bu, .string bs, .slice ba bn bc] b) (res : Bool) (hE : Dt.eqT n m a b = (res, 0)) (w : World) (hb : Below W0.heap.size W0 w) :
    Calls Tryz.prog 10 #[.agg (acs 6 ak ai au az aa an ac bk bi bu bs ba bn bc num)] w (GP 0 0 0 true 1 (lfT 6 (Dt.bI res)) w) := by
  have S : St (w.heap.size + 6) (fun k i u s a n c _ => k = 6 ∧ i = Dt.bI res ∧ u = 0 ∧ s = ⟨#[]⟩ ∧ a = none ∧ n = 0 ∧ c = 0) := fun _ _ _ _ _ _ _ _ _ h _ _ => h
  refine (try_ret 6 ak ai au az aa an ac bk bi bu bs ba bn bc num w 0 0 0 0 true _ (st_four S (by omega)) fun wx hx zx => done_compare ak ai au az aa an ac bk bi bu bs ba bn bc num wx (w.heap.size + 6) (by omega) _ S fun wy hy zy => ?_).mono fun e w' ⟨k, i, u, s, a, n, c, he, ⟨q1, q2, q3, q4, q5, q6, q7⟩, hb'⟩ => ?_
  · have hW : Below W0.heap.size W0 wy := (hb.trans (hx.mono hb.size)).trans (hy.mono (by have := hb.size; omega))
    refine (Dt.compared_any n m a b ak ai au az aa an ac bk bi bu bs ba bn bc res 0 hE wy hn ra rb pa pb (Dt.Rep.below hW _ _ _ hA) (Dt.Rep.below hW _ _ _ hB)).mono fun e w' ⟨he, hb'⟩ => ?_
    rcases he with ⟨-, he⟩ | ⟨h, -⟩
    · exact ⟨6, _, 0, ⟨#[]⟩, none, 0, 0, he, ⟨rfl, rfl, rfl, rfl, rfl, rfl, rfl⟩, hb'⟩
    · exact absurd rfl h
  · subst q1 q2 q3 q4 q5 q6 q7
    exact ⟨6, _, 0, ⟨#[]⟩, none, 0, 0, he, lf_rf _ w' 6 _, hb'⟩
theorem gpCompare_no (W0 : World) (n m : Nat) (a : Dt.Tr n) (b : Dt.Tr m) (hn : n ≤ 16) (ra : Dt.rgt n a = true) (rb : Dt.rgt m b = true) (pa : (Dt.pts n a).1 ≤ 4096) (pb : (Dt.pts m b).1 ≤ 4096) (ak ai au : Int) (az : ByteArray) (aa : Option Addr) (an ac : Nat) (bk bi bu : Int) (bs : ByteArray) (ba : Option Addr) (bn bc : Nat) (num : Int) (hA : Dt.Rep W0 n [.int .i64 ak, .int .i64 ai, .int .u64 au, .string az, .slice aa an ac] a) (hB : Dt.Rep W0 m [.int .i64 bk, .int .i64 bi, .int .u64 bu, .string bs, .slice ba bn bc] b) (res : Bool) (code : Int) (hc : code ≠ 0) (hE : Dt.eqT n m a b = (res, code)) (w : World) (hb : Below W0.heap.size W0 w) :
    Calls Tryz.prog 10 #[.agg (acs 6 ak ai au az aa an ac bk bi bu bs ba bn bc num)] w (GP 110 5 0 false 1 (lfT 0 0) w) := by
  refine (try_pan 6 ak ai au az aa an ac bk bi bu bs ba bn bc num w 88 (.agg #[]) 5 0 (ptold_compare) fun wx hx zx => ?_).mono fun _ _ q => gp_err q
  refine done_compare_no ak ai au az aa an ac bk bi bu bs ba bn bc num _ _ wx fun wy hy => ?_
  have hW : Below W0.heap.size W0 wy := (hb.trans (hx.mono hb.size)).trans (hy.mono (by have := hb.size; omega))
  refine (Dt.compared_any n m a b ak ai au az aa an ac bk bi bu bs ba bn bc res code hE wy hn ra rb pa pb (Dt.Rep.below hW _ _ _ hA) (Dt.Rep.below hW _ _ _ hB)).mono fun e w' ⟨he, hb'⟩ => ?_
  rcases he with ⟨h, -⟩ | ⟨-, h⟩
  · exact absurd h hc
  · exact ⟨h, hb'⟩

/-- An assertion to a whole number that holds: its number. -/
theorem must_int (W0 : World) (m : Nat) (t : Dt.Tr (m + 1)) (k i u : Int) (s : ByteArray) (a : Option Addr) (n c : Nat) (h : Vl W0 m t k i u s a n c) (hk : k = 1) (w : World) (hb : Below W0.heap.size W0 w) :
    Calls Tryz.prog 40 #[.agg #[.int .i64 k, .int .i64 i, .int .u64 u, .string s, .slice a n c], .int .i64 1] w fun e w' => ∃ k u s a n c, e = .returned (.agg #[.int .i64 k, .int .i64 i, .int .u64 u, .string s, .slice a n c]) ∧ Below w.heap.size w w' := by
  refine (must_rf W0 m t k i u s a n c h 1 (by subst hk; rfl) w hb _ rfl).mono fun e w' ⟨k', i', u', s', a', n', c', he, rf, hb'⟩ => ?_
  obtain ⟨ad, cap, e1, -⟩ := rf
  simp only [List.cons.injEq, Value.int.injEq, true_and, and_true] at e1
  have := h.eq.2.1
  obtain ⟨-, e2, -⟩ := e1
  rw [e2, this] at he
  exact ⟨_, _, _, _, _, _, he, hb'⟩
theorem gpDivide (W0 : World) (m m' : Nat) (t : Dt.Tr (m + 1)) (t' : Dt.Tr (m' + 1)) (ak ai au : Int) (az : ByteArray) (aa : Option Addr) (an ac : Nat) (bk bi bu : Int) (bs : ByteArray) (ba : Option Addr) (bn bc : Nat) (num : Int) (h : Vl W0 m t ak ai au az aa an ac) (h' : Vl W0 m' t' bk bi bu bs ba bn bc) (hk : ak = 1) (hk' : bk = 1) (hy : bi ≠ 0) (w : World) (hb : Below W0.heap.size W0 w) :
    Calls Tryz.prog 10 #[.agg (acs 7 ak ai au az aa an ac bk bi bu bs ba bn bc num)] w (GP 0 0 0 true 1 (lfT 1 (quoI ai bi)) w) := by
  have S : St (w.heap.size + 6) (fun k i u s a n c _ => k = 1 ∧ i = quoI ai bi ∧ u = 0 ∧ s = ⟨#[]⟩ ∧ a = none ∧ n = 0 ∧ c = 0) := fun _ _ _ _ _ _ _ _ _ h _ _ => h
  refine (try_ret 7 ak ai au az aa an ac bk bi bu bs ba bn bc num w 0 0 0 0 true _ (st_four S (by omega)) fun wx hx zx => done_divide ak ai au az aa an ac bk bi bu bs ba bn bc num wx (w.heap.size + 6) (by omega) _ S fun wy hy' zy => ?_).mono fun e w' ⟨k, i, u, s, a, n, c, he, ⟨q1, q2, q3, q4, q5, q6, q7⟩, hb'⟩ => ?_
  · have hW : Below W0.heap.size W0 wy := (hb.trans (hx.mono hb.size)).trans (hy'.mono (by have := hb.size; omega))
    exact (divided_yes ak ai au az aa an ac bk bi bu bs ba bn bc ai bi hy wy (fun wz hz => must_int W0 m t ak ai au az aa an ac h hk wz (hW.trans (hz.mono hW.size))) (fun wz hz => must_int W0 m' t' bk bi bu bs ba bn bc h' hk' wz (hW.trans (hz.mono hW.size)))).mono fun e w' ⟨he, hb'⟩ => ⟨1, _, 0, ⟨#[]⟩, none, 0, 0, he, ⟨rfl, rfl, rfl, rfl, rfl, rfl, rfl⟩, hb'⟩
  · subst q1 q2 q3 q4 q5 q6 q7
    exact ⟨1, _, 0, ⟨#[]⟩, none, 0, 0, he, lf_rf _ w' 1 _, hb'⟩
theorem gpDivide_zero (W0 : World) (m m' : Nat) (t : Dt.Tr (m + 1)) (t' : Dt.Tr (m' + 1)) (ak ai au : Int) (az : ByteArray) (aa : Option Addr) (an ac : Nat) (bk bi bu : Int) (bs : ByteArray) (ba : Option Addr) (bn bc : Nat) (num : Int) (h : Vl W0 m t ak ai au az aa an ac) (h' : Vl W0 m' t' bk bi bu bs ba bn bc) (hk : ak = 1) (hk' : bk = 1) (hy : bi = 0) (w : World) (hb : Below W0.heap.size W0 w) :
    Calls Tryz.prog 10 #[.agg (acs 7 ak ai au az aa an ac bk bi bu bs ba bn bc num)] w (GP 110 6 0 false 1 (lfT 0 0) w) := by
  refine (try_pan 7 ak ai au az aa an ac bk bi bu bs ba bn bc num w 89 (.agg #[]) 6 0 (ptold_divide) fun wx hx zx => ?_).mono fun _ _ q => gp_err q
  refine done_divide_no ak ai au az aa an ac bk bi bu bs ba bn bc num _ _ wx fun wy hy' => ?_
  have hW : Below W0.heap.size W0 wy := (hb.trans (hx.mono hb.size)).trans (hy'.mono (by have := hb.size; omega))
  exact divided_zero ak ai au az aa an ac bk bi bu bs ba bn bc ai wy (fun wz hz => must_int W0 m t ak ai au az aa an ac h hk wz (hW.trans (hz.mono hW.size))) (fun wz hz => hy ▸ must_int W0 m' t' bk bi bu bs ba bn bc h' hk' wz (hW.trans (hz.mono hW.size)))
theorem gpDivide_a (W0 : World) (m : Nat) (t : Dt.Tr (m + 1)) (ak ai au : Int) (az : ByteArray) (aa : Option Addr) (an ac : Nat) (bk bi bu : Int) (bs : ByteArray) (ba : Option Addr) (bn bc : Nat) (num : Int) (h : Vl W0 m t ak ai au az aa an ac) (hk : ak ≠ 1) (w : World) (hb : Below W0.heap.size W0 w) :
    Calls Tryz.prog 10 #[.agg (acs 7 ak ai au az aa an ac bk bi bu bs ba bn bc num)] w (GP 110 2 ak false 1 (lfT 0 0) w) := by
  refine (try_pan 7 ak ai au az aa an ac bk bi bu bs ba bn bc num w 84 (.int .i64 ak) 2 ak (ptold_assert ak) fun wx hx zx => ?_).mono fun _ _ q => gp_err q
  refine done_divide_no ak ai au az aa an ac bk bi bu bs ba bn bc num _ _ wx fun wy hy' => ?_
  have hW : Below W0.heap.size W0 wy := (hb.trans (hx.mono hb.size)).trans (hy'.mono (by have := hb.size; omega))
  exact divided_a ak ai au az aa an ac bk bi bu bs ba bn bc wy (fun wz hz => must_no W0 m t ak ai au az aa an ac h 1 (by simp [tkd]; omega) wz (hW.trans (hz.mono hW.size)))
theorem gpDivide_b (W0 : World) (m m' : Nat) (t : Dt.Tr (m + 1)) (t' : Dt.Tr (m' + 1)) (ak ai au : Int) (az : ByteArray) (aa : Option Addr) (an ac : Nat) (bk bi bu : Int) (bs : ByteArray) (ba : Option Addr) (bn bc : Nat) (num : Int) (h : Vl W0 m t ak ai au az aa an ac) (h' : Vl W0 m' t' bk bi bu bs ba bn bc) (hk : ak = 1) (hk' : bk ≠ 1) (w : World) (hb : Below W0.heap.size W0 w) :
    Calls Tryz.prog 10 #[.agg (acs 7 ak ai au az aa an ac bk bi bu bs ba bn bc num)] w (GP 110 2 bk false 1 (lfT 0 0) w) := by
  refine (try_pan 7 ak ai au az aa an ac bk bi bu bs ba bn bc num w 84 (.int .i64 bk) 2 bk (ptold_assert bk) fun wx hx zx => ?_).mono fun _ _ q => gp_err q
  refine done_divide_no ak ai au az aa an ac bk bi bu bs ba bn bc num _ _ wx fun wy hy' => ?_
  have hW : Below W0.heap.size W0 wy := (hb.trans (hx.mono hb.size)).trans (hy'.mono (by have := hb.size; omega))
  exact divided_b ak ai au az aa an ac bk bi bu bs ba bn bc ai wy (fun wz hz => must_int W0 m t ak ai au az aa an ac h hk wz (hW.trans (hz.mono hW.size))) (fun wz hz => must_no W0 m' t' bk bi bu bs ba bn bc h' 1 (by simp [tkd]; omega) wz (hW.trans (hz.mono hW.size)))
end Go.Proofs.YthamafijjflfbaaGreat
/- A tree of no more depth than k is a tree of the type for k, with the same answers of the document's functions, and the same place in memory; and a tree whose blocks are known. No program. -/
namespace Go.Proofs.YthamafijjflfbaaGreat.Dt
open Go.RowKit
theorem ptsL_map {T : Type} (c : T → Int × Int) : ∀ (ks : List T) (p d : Int), ptsL c ks p d = ptsL id (ks.map c) p d
  | [], _, _ => rfl
  | t :: ts, p, d => by simp only [ptsL, List.map_cons, id]; exact ptsL_map c ts _ _
theorem ptsL_snd {T : Type} (c : T → Int × Int) : ∀ (ks : List T) (p d : Int), d + 1 ≤ (ptsL c ks p d).2 ∧ ∀ t ∈ ks, (c t).2 + 1 ≤ (ptsL c ks p d).2
  | [], p, d => ⟨Int.le_refl _, fun t ht => by cases ht⟩
  | t :: ts, p, d => by
    have I := ptsL_snd c ts (p + (c t).1) (max d (c t).2)
    simp only [ptsL]
    refine ⟨?_, fun t' ht => ?_⟩
    · have := I.1; omega
    · rcases List.mem_cons.1 ht with rfl | ht
      · have := I.1; omega
      · exact I.2 t' ht
theorem list_at {T : Type} (P : Nat → T → Prop) : ∀ (len : Nat), (∀ i, i < len → ∃ t, P i t) → ∃ l : List T, l.length = len ∧ ∀ i t, l[i]? = some t → P i t := by
  intro len
  induction len with
  | zero => intro _; exact ⟨[], rfl, fun i t h => by simp at h⟩
  | succ len ih =>
    intro h
    obtain ⟨l, hl, hp⟩ := ih (fun i hi => h i (by omega))
    obtain ⟨t, ht⟩ := h len (by omega)
    refine ⟨l ++ [t], by simp [hl], fun i t' hi => ?_⟩
    by_cases hlt : i < l.length
    · rw [List.getElem?_append_left hlt] at hi; exact hp i t' hi
    · rw [List.getElem?_append_right (by omega)] at hi
      have h0 : i - l.length = 0 := by
        by_cases h1 : i - l.length = 0
        · exact h1
        · rw [List.getElem?_eq_none (by simp; omega)] at hi; cases hi
      rw [h0] at hi
      simp at hi
      have : i = len := by omega
      subst this; subst hi; exact ht
theorem map_at {T U V : Type} (f : T → V) (g : U → V) (xs : List T) (ys : List U) (hl : ys.length = xs.length) (h : ∀ (i : Nat) (y : U) (x : T), ys[i]? = some y → xs[i]? = some x → g y = f x) : ys.map g = xs.map f := by
  apply List.ext_getElem
  · simp [hl]
  · intro i h1 h2
    simp only [List.getElem_map]
    exact h i _ _ (List.getElem?_eq_getElem (by simpa using h1)) (List.getElem?_eq_getElem (by simpa using h2))

theorem shrink : ∀ (k n : Nat) (t : Tr n), (pts n t).2 ≤ k → ∃ t' : Tr k, rgt k t' = rgt n t ∧ pts k t' = pts n t ∧ ∀ w cs, Rep w n cs t → Rep w k cs t' := by
  intro k
  induction k with
  | zero =>
    intro n t h
    match n, t, h with
    | 0, t, _ => exact t.elim
    | n + 1, t, h =>
      simp only [pts] at h
      have := (ptsL_snd (pts n) t.ks 1 0).1
      omega
  | succ k ih =>
    intro n t h
    match n, t, h with
    | 0, t, _ => exact t.elim
    | n + 1, t, h =>
      simp only [pts] at h
      have hd := (ptsL_snd (pts n) t.ks 1 0).2
      obtain ⟨ks, hl, hp⟩ := list_at (fun i (t' : Tr k) => ∀ x, t.ks[i]? = some x → rgt k t' = rgt n x ∧ pts k t' = pts n x ∧ ∀ w cs, Rep w n cs x → Rep w k cs t') t.ks.length (fun i hi => by
        obtain ⟨t', h'⟩ := ih n t.ks[i] (by have := hd _ (List.getElem_mem hi); omega)
        refine ⟨t', fun x hx => ?_⟩
        rw [List.getElem?_eq_getElem hi] at hx
        rw [← Option.some.inj hx]; exact h')
      refine ⟨((t.kd, t.it, t.ut, t.tx, ks) : Int × Int × Int × ByteArray × List (Tr k)), ?_, ?_, ?_⟩
      · have e1 : ks.map (rgt k) = t.ks.map (rgt n) := map_at _ _ _ _ hl fun i y x hy hx => (hp i y hy x hx).1
        have e2 : ks.all (rgt k) = t.ks.all (rgt n) := by
          have : (ks.map (rgt k)).all id = (t.ks.map (rgt n)).all id := by rw [e1]
          simpa [List.all_map] using this
        show (okB t.kd t.it t.ut t.tx.size ks.length && ks.all (rgt k)) = (okB t.kd t.it t.ut t.tx.size t.ks.length && t.ks.all (rgt n))
        rw [hl, e2]
      · have e1 : ks.map (pts k) = t.ks.map (pts n) := map_at _ _ _ _ hl fun i y x hy hx => (hp i y hy x hx).2.1
        show ptsL (pts k) ks 1 0 = ptsL (pts n) t.ks 1 0
        rw [ptsL_map, e1, ← ptsL_map]
      · intro w cs hr
        obtain ⟨ad, cap, h1, h2, h3, h4, h5⟩ := hr
        refine ⟨ad, cap, ?_, h2, ?_, h4, ?_⟩
        · show cs = [.int .i64 t.kd, .int .i64 t.it, .int .u64 t.ut, .string t.tx, .slice ad ks.length cap]
          rw [hl]; exact h1
        · show ks.length ≤ cap
          omega
        · rcases h5 with h5 | ⟨g, o, h6, h7⟩
          · left
            show ks = []
            rw [h5] at hl
            exact List.length_eq_zero_iff.1 hl
          · right
            refine ⟨g, o, h6, fun j t' hj => ?_⟩
            have hj' : ks[j]? = some t' := hj
            have hlt : j < t.ks.length := by have := (List.getElem?_eq_some_iff.1 hj').1; omega
            obtain ⟨v0, v1, v2, v3, v4, c0, c1, c2, c3, c4, r⟩ := h7 j _ (List.getElem?_eq_getElem hlt)
            exact ⟨v0, v1, v2, v3, v4, c0, c1, c2, c3, c4, (hp j t' hj' _ (List.getElem?_eq_getElem hlt)).2.2 w _ r⟩

end Go.Proofs.YthamafijjflfbaaGreat.Dt
