/- What an act comes to where nothing is caught; the conditions: as those of the acts that are tried. -/
import Derived.Test.YthamafijjflfbaaGreatNzf
namespace Go.Proofs.YthamafijjflfbaaGreat
open Go.RowKit

theorem dn_ret (op ak ai au : Int) (az : ByteArray) (aa : Option Addr) (an ac : Nat) (bk bi bu : Int) (bs : ByteArray) (ba : Option Addr) (bn bc : Nat) (num : Int) (w : World) (er co pk pn : Int) (has : Bool) (P : BodyP) (_ : ∀ k i u s a n c w' w'', P k i u s a n c w' → w'.heap.size ≤ w''.heap.size → (∀ g, g < w'.heap.size → g ≠ w.heap.size + 1 → g ≠ w.heap.size + 2 → g ≠ w.heap.size + 3 → w''.heap[g]? = w'.heap[g]?) → P k i u s a n c w'') {wx : World}
    (hD : Calls Tryz.prog 21 #[.agg (acs op ak ai au az aa an ac bk bi bu bs ba bn bc num)] wx fun e w' => ∃ k i u s a n c, e = .returned (.agg (rcs er co pk pn has k i u s a n c)) ∧ P k i u s a n c w' ∧ Below wx.heap.size wx w') :
    Calls Tryz.prog 21 #[.agg (acs op ak ai au az aa an ac bk bi bu bs ba bn bc num)] wx fun e w' => ∃ k i u s a n c, e = .returned (.agg (rcs er co pk pn has k i u s a n c)) ∧ P k i u s a n c w' ∧ Below wx.heap.size wx w' := hD

theorem dtryGive (W0 : World) (m : Nat) (t : Dt.Tr (m + 1)) (hps : (Dt.pts (m + 1) t).1 ≤ 4096) (ak ai au : Int) (az : ByteArray) (aa : Option Addr) (an ac : Nat) (bk bi bu : Int) (bs : ByteArray) (ba : Option Addr) (bn bc : Nat) (num : Int) (hrep : Dt.Rep W0 (m + 1) [.int .i64 ak, .int .i64 ai, .int .u64 au, .string az, .slice aa an ac] t) (w : World) (hb : Below W0.heap.size W0 w) :
    ∀ wx, Below w.heap.size w wx → wx.heap.size = w.heap.size + 4 → Calls Tryz.prog 21 #[.agg (acs 1 ak ai au az aa an ac bk bi bu bs ba bn bc num)] wx fun e w' => ∃ k i u s a n c, e = .returned (.agg (rcs 0 0 0 0 true k i u s a n c)) ∧ Dt.Rf (fun g => w.heap.size + 6 ≤ g ∧ g < w'.heap.size) w' (m + 1) [.int .i64 k, .int .i64 i, .int .u64 u, .string s, .slice a n c] t ∧ Below wx.heap.size wx w' := by
  intro wx hx zx
  have S := st_rf (w.heap.size + 6) (m + 1) t
  refine dn_ret 1 ak ai au az aa an ac bk bi bu bs ba bn bc num w 0 0 0 0 true _ (st_four S (by omega)) <| ?_
  refine done_give ak ai au az aa an ac bk bi bu bs ba bn bc num wx (w.heap.size + 6) (by omega) _ S fun wy hy zy => ?_
  exact copy_rf W0 m t hps ak ai au az aa an ac hrep wy ((hb.trans (hx.mono hb.size)).trans (hy.mono (by have := hb.size; omega))) _ (by omega)
theorem dtryAssert (W0 : World) (m : Nat) (t : Dt.Tr (m + 1)) (hrg : Dt.rgt (m + 1) t = true) (hps : (Dt.pts (m + 1) t).1 ≤ 4096) (h6 : Dt.r64 (m + 1) t) (ak ai au : Int) (az : ByteArray) (aa : Option Addr) (an ac : Nat) (bk bi bu : Int) (bs : ByteArray) (ba : Option Addr) (bn bc : Nat) (num : Int) (hrep : Dt.Rep W0 (m + 1) [.int .i64 ak, .int .i64 ai, .int .u64 au, .string az, .slice aa an ac] t) (w : World) (hb : Below W0.heap.size W0 w) (hq : tkd num ak = true) :
    ∀ wx, Below w.heap.size w wx → wx.heap.size = w.heap.size + 4 → Calls Tryz.prog 21 #[.agg (acs 2 ak ai au az aa an ac bk bi bu bs ba bn bc num)] wx fun e w' => ∃ k i u s a n c, e = .returned (.agg (rcs 0 0 0 0 true k i u s a n c)) ∧ Dt.Rf (fun g => w.heap.size + 8 ≤ g ∧ g < w'.heap.size) w' (m + 1) [.int .i64 k, .int .i64 i, .int .u64 u, .string s, .slice a n c] t ∧ Below wx.heap.size wx w' := by
  intro wx hx zx
  have S := st_rf (w.heap.size + 8) (m + 1) t
  refine dn_ret 2 ak ai au az aa an ac bk bi bu bs ba bn bc num w 0 0 0 0 true _ (st_four S (by omega)) <| ?_
  refine done_assert ak ai au az aa an ac bk bi bu bs ba bn bc num wx (w.heap.size + 8) (by omega) _ S fun wy hy zy => ?_
  refine pmust_yes ak ai au az aa an ac num wy (w.heap.size + 8) (by omega) _ S fun wz hz zz => ?_
  have hB : Below W0.heap.size W0 wz := ((hb.trans (hx.mono hb.size)).trans (hy.mono (by have := hb.size; omega))).trans (hz.mono (by have := hb.size; omega))
  refine (must_yes (m + 1) t hrg h6 hps ak ai au az aa an ac num wz hq fun wq hq' => of_val W0 m t ak ai au az aa an ac wq hrg hps hrep (hB.trans (hq'.mono hB.size))).mono fun e w' ⟨v0, v1, v2, v3, v4, he, rf, hb'⟩ => ?_
  obtain ⟨u0, u1, u2, u3, a4, n4, c4', rfl, rfl, rfl, rfl, rfl⟩ := Dt.rep_shape (Dt.Rf.rep _ _ _ rf)
  exact ⟨u0, u1, u2, u3, a4, n4, c4', he, Dt.Rf.to (fun g hg => ⟨⟨by omega, hg.2⟩, rfl⟩) _ _ _ rf, hb'⟩
theorem dtryAssert_no (W0 : World) (m : Nat) (t : Dt.Tr (m + 1)) (hrg : Dt.rgt (m + 1) t = true) (hps : (Dt.pts (m + 1) t).1 ≤ 4096) (ak ai au : Int) (az : ByteArray) (aa : Option Addr) (an ac : Nat) (bk bi bu : Int) (bs : ByteArray) (ba : Option Addr) (bn bc : Nat) (num : Int) (hrep : Dt.Rep W0 (m + 1) [.int .i64 ak, .int .i64 ai, .int .u64 au, .string az, .slice aa an ac] t) (w : World) (hb : Below W0.heap.size W0 w) (hq : tkd num ak = false) :
    ∀ wx, Below w.heap.size w wx → wx.heap.size = w.heap.size + 4 → Calls Tryz.prog 21 #[.agg (acs 2 ak ai au az aa an ac bk bi bu bs ba bn bc num)] wx fun e w' => Pn 84 (.int .i64 ak) e ∧ Below wx.heap.size wx w' := by
  intro wx hx zx
  refine done_assert_no ak ai au az aa an ac bk bi bu bs ba bn bc num wx fun wy hy => ?_
  refine pmust_no ak ai au az aa an ac num wy fun wz hz => ?_
  have hB : Below W0.heap.size W0 wz := ((hb.trans (hx.mono hb.size)).trans (hy.mono (by have := hb.size; omega))).trans (hz.mono (by have := hb.size; have := hy.size; omega))
  obtain ⟨F, hm, hM⟩ := type_musts num
  exact must_fail ak ai au az aa an ac num (qty num) F wz rfl hm (fun u w hu => (hM ak u w hu).2 hq) fun wq hq' => (of_val W0 m t ak ai au az aa an ac wq hrg hps hrep (hB.trans (hq'.mono hB.size))).mono fun e w' ⟨u, a, c, _, d⟩ => ⟨u, a, c, d⟩
theorem dtryFace (W0 : World) (m : Nat) (t : Dt.Tr (m + 1)) (hps : (Dt.pts (m + 1) t).1 ≤ 4096) (ak ai au : Int) (az : ByteArray) (aa : Option Addr) (an ac : Nat) (bk bi bu : Int) (bs : ByteArray) (ba : Option Addr) (bn bc : Nat) (num : Int) (hrep : Dt.Rep W0 (m + 1) [.int .i64 ak, .int .i64 ai, .int .u64 au, .string az, .slice aa an ac] t) (w : World) (hb : Below W0.heap.size W0 w) (hq : impl ak num = true) :
    ∀ wx, Below w.heap.size w wx → wx.heap.size = w.heap.size + 4 → Calls Tryz.prog 21 #[.agg (acs 3 ak ai au az aa an ac bk bi bu bs ba bn bc num)] wx fun e w' => ∃ k i u s a n c, e = .returned (.agg (rcs 0 0 0 0 true k i u s a n c)) ∧ Dt.Rf (fun g => w.heap.size + 6 ≤ g ∧ g < w'.heap.size) w' (m + 1) [.int .i64 k, .int .i64 i, .int .u64 u, .string s, .slice a n c] t ∧ Below wx.heap.size wx w' := by
  intro wx hx zx
  have S := st_rf (w.heap.size + 6) (m + 1) t
  refine dn_ret 3 ak ai au az aa an ac bk bi bu bs ba bn bc num w 0 0 0 0 true _ (st_four S (by omega)) <| ?_
  refine done_face ak ai au az aa an ac bk bi bu bs ba bn bc num wx (w.heap.size + 6) (by omega) _ S (fun wy hy zy => ?_) fun wy hy zy => ?_
  · exact pface_yes ak ai au az aa an ac num wy fun wz hz => mustFace_yes ak ai au az aa an ac num wz hq
  · exact copy_rf W0 m t hps ak ai au az aa an ac hrep wy ((hb.trans (hx.mono hb.size)).trans (hy.mono (by have := hb.size; omega))) _ (by omega)
theorem dtryFace_no (ak ai au : Int) (az : ByteArray) (aa : Option Addr) (an ac : Nat) (bk bi bu : Int) (bs : ByteArray) (ba : Option Addr) (bn bc : Nat) (num : Int) (w : World) (hq : impl ak num = false) :
    ∀ wx, Below w.heap.size w wx → wx.heap.size = w.heap.size + 4 → Calls Tryz.prog 21 #[.agg (acs 3 ak ai au az aa an ac bk bi bu bs ba bn bc num)] wx fun e w' => Pn 84 (.int .i64 (lackM ak num)) e ∧ Below wx.heap.size wx w' := by
  intro wx hx zx
  refine done_face_no ak ai au az aa an ac bk bi bu bs ba bn bc num (lackM ak num) wx fun wy hy => ?_
  exact pface_no ak ai au az aa an ac num (lackM ak num) wy fun wz hz => mustFace_no ak ai au az aa an ac num wz hq
theorem dtryOwn (ak ai au : Int) (az : ByteArray) (aa : Option Addr) (an ac : Nat) (bk bi bu : Int) (bs : ByteArray) (ba : Option Addr) (bn bc : Nat) (num : Int) (w : World) :
    ∀ wx, Below w.heap.size w wx → wx.heap.size = w.heap.size + 4 → Calls Tryz.prog 21 #[.agg (acs 8 ak ai au az aa an ac bk bi bu bs ba bn bc num)] wx fun e w' => Pn 73 (.int .i64 num) e ∧ Below wx.heap.size wx w' := fun wx _ _ => done_own ak ai au az aa an ac bk bi bu bs ba bn bc num wx
theorem dtryError (ak ai au : Int) (az : ByteArray) (aa : Option Addr) (an ac : Nat) (bk bi bu : Int) (bs : ByteArray) (ba : Option Addr) (bn bc : Nat) (num : Int) (w : World) :
    ∀ wx, Below w.heap.size w wx → wx.heap.size = w.heap.size + 4 → Calls Tryz.prog 21 #[.agg (acs 9 ak ai au az aa an ac bk bi bu bs ba bn bc num)] wx fun e w' => Pn 75 (.agg #[.int .i64 num, .string ⟨#[]⟩]) e ∧ Below wx.heap.size wx w' := fun wx _ _ => done_error ak ai au az aa an ac bk bi bu bs ba bn bc num wx
theorem dtrySize (W0 : World) (m : Nat) (t : Dt.Tr (m + 1)) (hrg : Dt.rgt (m + 1) t = true) (hps : (Dt.pts (m + 1) t).1 ≤ 4096) (ak ai au : Int) (az : ByteArray) (aa : Option Addr) (an ac : Nat) (bk bi bu : Int) (bs : ByteArray) (ba : Option Addr) (bn bc : Nat) (num : Int) (hrep : Dt.Rep W0 (m + 1) [.int .i64 ak, .int .i64 ai, .int .u64 au, .string az, .slice aa an ac] t) (w : World) (hb : Below W0.heap.size W0 w) :
    ∀ wx, Below w.heap.size w wx → wx.heap.size = w.heap.size + 4 → Calls Tryz.prog 21 #[.agg (acs 10 ak ai au az aa an ac bk bi bu bs ba bn bc num)] wx fun e w' => e = .returned (.agg (if (Dt.lenP t.kd t.tx.size t.ks.length).2 = 0 then rcs 0 0 0 0 true 1 (Dt.lenP t.kd t.tx.size t.ks.length).1 0 ⟨#[]⟩ none 0 0 else rErr 12 0 0 0)) ∧ Below wx.heap.size wx w' := by
  intro wx hx zx
  have hB : ∀ wx wy wz : World, Below w.heap.size w wx → Below wx.heap.size wx wy → Below wy.heap.size wy wz → Below W0.heap.size W0 wz := fun wx wy wz hx hy hz => ((hb.trans (hx.mono hb.size)).trans (hy.mono (by have := hb.size; have := hx.size; omega))).trans (hz.mono (by have := hb.size; have := hx.size; have := hy.size; omega))
  by_cases h0 : (Dt.lenP t.kd t.tx.size t.ks.length).2 = 0
  · simp only [if_pos h0]
    obtain ⟨r, hr⟩ : ∃ r, (Dt.lenP t.kd t.tx.size t.ks.length).1 = r := ⟨_, rfl⟩
    rw [hr]
    have S : St (w.heap.size + 6) (fun k i u s a n c _ => k = 1 ∧ i = r ∧ u = 0 ∧ s = ⟨#[]⟩ ∧ a = none ∧ n = 0 ∧ c = 0) := fun _ _ _ _ _ _ _ _ _ h _ _ => h
    refine (dn_ret 10 ak ai au az aa an ac bk bi bu bs ba bn bc num w 0 0 0 0 true _ (st_four S (by omega)) <| done_size ak ai au az aa an ac bk bi bu bs ba bn bc num wx 0 true (w.heap.size + 6) (by omega) _ S fun wy hy zy => (size_yes ak ai au r az aa an ac wy fun wz hz => (of_val W0 m t ak ai au az aa an ac wz hrg hps hrep (hB wx wy wz hx hy hz)).mono fun e w' ⟨v, he, _, vr, hb'⟩ => ⟨v, he, hr ▸ szd_of vr.out h0, hb'⟩).mono fun e w' ⟨he, hb'⟩ => ⟨1, r, 0, ⟨#[]⟩, none, 0, 0, he, ⟨rfl, rfl, rfl, rfl, rfl, rfl, rfl⟩, hb'⟩).mono fun e w' ⟨k, i, u, s, a, n, c, he, ⟨q1, q2, q3, q4, q5, q6, q7⟩, hb'⟩ => ?_
    subst q1 q2 q3 q4 q5 q6 q7
    exact ⟨he, hb'⟩
  · simp only [if_neg h0]
    have S : St (w.heap.size + 6) (fun k i u s a n c _ => k = 0 ∧ i = 0 ∧ u = 0 ∧ s = ⟨#[]⟩ ∧ a = none ∧ n = 0 ∧ c = 0) := fun _ _ _ _ _ _ _ _ _ h _ _ => h
    refine (dn_ret 10 ak ai au az aa an ac bk bi bu bs ba bn bc num w 12 0 0 0 false _ (st_four S (by omega)) <| done_size ak ai au az aa an ac bk bi bu bs ba bn bc num wx 12 false (w.heap.size + 6) (by omega) _ S fun wy hy zy => (size_no ak ai au az aa an ac wy fun wz hz => (of_val W0 m t ak ai au az aa an ac wz hrg hps hrep (hB wx wy wz hx hy hz)).mono fun e w' ⟨v, he, _, vr, hb'⟩ => ⟨v, he, (nosz_of vr.out h0).1, (nosz_of vr.out h0).2, hb'⟩).mono fun e w' ⟨he, hb'⟩ => ⟨0, 0, 0, ⟨#[]⟩, none, 0, 0, he, ⟨rfl, rfl, rfl, rfl, rfl, rfl, rfl⟩, hb'⟩).mono fun e w' ⟨k, i, u, s, a, n, c, he, ⟨q1, q2, q3, q4, q5, q6, q7⟩, hb'⟩ => ?_
    subst q1 q2 q3 q4 q5 q6 q7
    exact ⟨he, hb'⟩
theorem gdGive (W0 : World) (m : Nat) (t : Dt.Tr (m + 1)) (ak ai au : Int) (az : ByteArray) (aa : Option Addr) (an ac : Nat) (bk bi bu : Int) (bs : ByteArray) (ba : Option Addr) (bn bc : Nat) (num : Int) (h : Vl W0 m t ak ai au az aa an ac) (w : World) (hb : Below W0.heap.size W0 w) :
    ∀ wx, Below w.heap.size w wx → wx.heap.size = w.heap.size + 4 → Calls Tryz.prog 21 #[.agg (acs 1 ak ai au az aa an ac bk bi bu bs ba bn bc num)] wx (GP 0 0 0 true (m + 1) t wx) := fun wx hx zx => (dtryGive W0 m t h.ps ak ai au az aa an ac bk bi bu bs ba bn bc num h.rep w hb wx hx zx).mono fun _ _ q => gp_rf (by omega) q
theorem gdAssert (W0 : World) (m : Nat) (t : Dt.Tr (m + 1)) (ak ai au : Int) (az : ByteArray) (aa : Option Addr) (an ac : Nat) (bk bi bu : Int) (bs : ByteArray) (ba : Option Addr) (bn bc : Nat) (num : Int) (h : Vl W0 m t ak ai au az aa an ac) (hq : tkd num ak = true) (w : World) (hb : Below W0.heap.size W0 w) :
    ∀ wx, Below w.heap.size w wx → wx.heap.size = w.heap.size + 4 → Calls Tryz.prog 21 #[.agg (acs 2 ak ai au az aa an ac bk bi bu bs ba bn bc num)] wx (GP 0 0 0 true (m + 1) t wx) := fun wx hx zx => (dtryAssert W0 m t h.rg h.ps h.r6 ak ai au az aa an ac bk bi bu bs ba bn bc num h.rep w hb hq wx hx zx).mono fun _ _ q => gp_rf (by omega) q
theorem gdAssert_no (W0 : World) (m : Nat) (t : Dt.Tr (m + 1)) (ak ai au : Int) (az : ByteArray) (aa : Option Addr) (an ac : Nat) (bk bi bu : Int) (bs : ByteArray) (ba : Option Addr) (bn bc : Nat) (num : Int) (h : Vl W0 m t ak ai au az aa an ac) (hq : tkd num ak = false) (w : World) (hb : Below W0.heap.size W0 w) :
    ∀ wx, Below w.heap.size w wx → wx.heap.size = w.heap.size + 4 → Calls Tryz.prog 21 #[.agg (acs 2 ak ai au az aa an ac bk bi bu bs ba bn bc num)] wx fun e w' => Pn 84 (.int .i64 ak) e ∧ Below wx.heap.size wx w' := fun wx hx zx => dtryAssert_no W0 m t h.rg h.ps ak ai au az aa an ac bk bi bu bs ba bn bc num h.rep w hb hq wx hx zx
theorem gdFace (W0 : World) (m : Nat) (t : Dt.Tr (m + 1)) (ak ai au : Int) (az : ByteArray) (aa : Option Addr) (an ac : Nat) (bk bi bu : Int) (bs : ByteArray) (ba : Option Addr) (bn bc : Nat) (num : Int) (h : Vl W0 m t ak ai au az aa an ac) (hq : impl ak num = true) (w : World) (hb : Below W0.heap.size W0 w) :
    ∀ wx, Below w.heap.size w wx → wx.heap.size = w.heap.size + 4 → Calls Tryz.prog 21 #[.agg (acs 3 ak ai au az aa an ac bk bi bu bs ba bn bc num)] wx (GP 0 0 0 true (m + 1) t wx) := fun wx hx zx => (dtryFace W0 m t h.ps ak ai au az aa an ac bk bi bu bs ba bn bc num h.rep w hb hq wx hx zx).mono fun _ _ q => gp_rf (by omega) q
theorem gdFace_no (ak ai au : Int) (az : ByteArray) (aa : Option Addr) (an ac : Nat) (bk bi bu : Int) (bs : ByteArray) (ba : Option Addr) (bn bc : Nat) (num : Int) (hq : impl ak num = false) (w : World) :
    ∀ wx, Below w.heap.size w wx → wx.heap.size = w.heap.size + 4 → Calls Tryz.prog 21 #[.agg (acs 3 ak ai au az aa an ac bk bi bu bs ba bn bc num)] wx fun e w' => Pn 84 (.int .i64 (lackM ak num)) e ∧ Below wx.heap.size wx w' := fun wx hx zx => dtryFace_no ak ai au az aa an ac bk bi bu bs ba bn bc num w hq wx hx zx
theorem gdOwn (ak ai au : Int) (az : ByteArray) (aa : Option Addr) (an ac : Nat) (bk bi bu : Int) (bs : ByteArray) (ba : Option Addr) (bn bc : Nat) (num : Int) (w : World) : ∀ wx, Below w.heap.size w wx → wx.heap.size = w.heap.size + 4 → Calls Tryz.prog 21 #[.agg (acs 8 ak ai au az aa an ac bk bi bu bs ba bn bc num)] wx fun e w' => Pn 73 (.int .i64 num) e ∧ Below wx.heap.size wx w' := fun wx hx zx => dtryOwn ak ai au az aa an ac bk bi bu bs ba bn bc num w wx hx zx
theorem gdError (ak ai au : Int) (az : ByteArray) (aa : Option Addr) (an ac : Nat) (bk bi bu : Int) (bs : ByteArray) (ba : Option Addr) (bn bc : Nat) (num : Int) (w : World) : ∀ wx, Below w.heap.size w wx → wx.heap.size = w.heap.size + 4 → Calls Tryz.prog 21 #[.agg (acs 9 ak ai au az aa an ac bk bi bu bs ba bn bc num)] wx fun e w' => Pn 75 (.agg #[.int .i64 num, .string ⟨#[]⟩]) e ∧ Below wx.heap.size wx w' := fun wx hx zx => dtryError ak ai au az aa an ac bk bi bu bs ba bn bc num w wx hx zx
theorem gdSize (W0 : World) (m : Nat) (t : Dt.Tr (m + 1)) (ak ai au : Int) (az : ByteArray) (aa : Option Addr) (an ac : Nat) (bk bi bu : Int) (bs : ByteArray) (ba : Option Addr) (bn bc : Nat) (num : Int) (h : Vl W0 m t ak ai au az aa an ac) (h0 : (Dt.lenP t.kd t.tx.size t.ks.length).2 = 0) (w : World) (hb : Below W0.heap.size W0 w) :
    ∀ wx, Below w.heap.size w wx → wx.heap.size = w.heap.size + 4 → Calls Tryz.prog 21 #[.agg (acs 10 ak ai au az aa an ac bk bi bu bs ba bn bc num)] wx (GP 0 0 0 true 1 (lfT 1 (Dt.lenP t.kd t.tx.size t.ks.length).1) wx) := fun wx hx zx => (dtrySize W0 m t h.rg h.ps ak ai au az aa an ac bk bi bu bs ba bn bc num h.rep w hb wx hx zx).mono fun e w' ⟨he, hb'⟩ => by
  rw [if_pos h0] at he
  exact ⟨1, _, 0, ⟨#[]⟩, none, 0, 0, he, lf_rf _ w' 1 _, hb'⟩
theorem gdSize_no (W0 : World) (m : Nat) (t : Dt.Tr (m + 1)) (ak ai au : Int) (az : ByteArray) (aa : Option Addr) (an ac : Nat) (bk bi bu : Int) (bs : ByteArray) (ba : Option Addr) (bn bc : Nat) (num : Int) (h : Vl W0 m t ak ai au az aa an ac) (h0 : (Dt.lenP t.kd t.tx.size t.ks.length).2 ≠ 0) (w : World) (hb : Below W0.heap.size W0 w) :
    ∀ wx, Below w.heap.size w wx → wx.heap.size = w.heap.size + 4 → Calls Tryz.prog 21 #[.agg (acs 10 ak ai au az aa an ac bk bi bu bs ba bn bc num)] wx (GP 12 0 0 false 1 (lfT 0 0) wx) := fun wx hx zx => (dtrySize W0 m t h.rg h.ps ak ai au az aa an ac bk bi bu bs ba bn bc num h.rep w hb wx hx zx).mono fun e w' ⟨he, hb'⟩ => by
  rw [if_neg h0] at he
  exact gp_err ⟨he, hb'⟩
theorem gdOther (op : Int) (ak ai au : Int) (az : ByteArray) (aa : Option Addr) (an ac : Nat) (bk bi bu : Int) (bs : ByteArray) (ba : Option Addr) (bn bc : Nat) (num : Int) (hop : op < 1 ∨ 10 < op) (w : World) :
    ∀ wx, Below w.heap.size w wx → wx.heap.size = w.heap.size + 4 → Calls Tryz.prog 21 #[.agg (acs op ak ai au az aa an ac bk bi bu bs ba bn bc num)] wx (GP 12 0 0 false 1 (lfT 0 0) wx) := by
  intro wx hx zx
  have S : St (w.heap.size + 6) (fun k i u s a n c _ => k = 0 ∧ i = 0 ∧ u = 0 ∧ s = ⟨#[]⟩ ∧ a = none ∧ n = 0 ∧ c = 0) := fun _ _ _ _ _ _ _ _ _ h _ _ => h
  refine (dn_ret op ak ai au az aa an ac bk bi bu bs ba bn bc num w 12 0 0 0 false _ (st_four S (by omega)) <| (done_other op ak ai au az aa an ac bk bi bu bs ba bn bc num wx (by simp; omega) (by simp; omega) (by simp; omega) (by simp; omega) (by simp; omega) (by simp; omega) (by simp; omega) (by simp; omega) (by simp; omega) (by simp; omega)).mono fun e w' ⟨he, hb'⟩ => ⟨0, 0, 0, ⟨#[]⟩, none, 0, 0, he, ⟨rfl, rfl, rfl, rfl, rfl, rfl, rfl⟩, hb'⟩).mono fun e w' ⟨k, i, u, s, a, n, c, he, ⟨q1, q2, q3, q4, q5, q6, q7⟩, hb'⟩ => ?_
  subst q1 q2 q3 q4 q5 q6 q7
  exact gp_err ⟨he, hb'⟩
theorem gdIndex (W0 : World) (m : Nat) (t : Dt.Tr (m + 1)) (ak ai au : Int) (az : ByteArray) (aa : Option Addr) (an ac : Nat) (bk bi bu : Int) (bs : ByteArray) (ba : Option Addr) (bn bc : Nat) (j : Nat) (h : Vl W0 m t ak ai au az aa an ac) (hk : ak = 8) (kid : Dt.Tr m) (hj : t.ks[j]? = some kid) (w : World) (hb : Below W0.heap.size W0 w) :
    ∀ wx, Below w.heap.size w wx → wx.heap.size = w.heap.size + 4 → Calls Tryz.prog 21 #[.agg (acs 4 ak ai au az aa an ac bk bi bu bs ba bn bc (j : Int))] wx (GP 0 0 0 true m kid wx) := by
  intro wx hx zx
  have S := st_rf (w.heap.size + 11) m kid
  refine (dn_ret 4 ak ai au az aa an ac bk bi bu bs ba bn bc (j : Int) w 0 0 0 0 true _ (st_four S (by omega)) <| ?_).mono fun _ _ q => gp_rf (by omega) q
  refine done_index ak ai au az aa an ac bk bi bu bs ba bn bc (j : Int) wx (w.heap.size + 11) (by omega) _ S fun wy hy zy => ?_
  refine place_yes ak ai au az aa an ac j wy (w.heap.size + 11) (by omega) _ S fun wz hz zz => ?_
  have hB : Below W0.heap.size W0 wz := ((hb.trans (hx.mono hb.size)).trans (hy.mono (by have := hb.size; omega))).trans (hz.mono (by have := hb.size; omega))
  refine (must_rf W0 m t ak ai au az aa an ac h 8 (by subst hk; rfl) wz hB (w.heap.size + 11) (by omega)).mono fun e w' ⟨k, i, u, s, a, n, c, he, rf, hb'⟩ => ?_
  obtain ⟨ad, cap, e1, -, -, -, e5⟩ := rf
  rcases e5 with e5 | ⟨g, o, rfl, hg, e7⟩
  · rw [e5] at hj; cases hj
  · obtain ⟨v0, v1, v2, v3, v4, c0, c1, c2, c3, c4, r⟩ := e7 j kid hj
    obtain ⟨u0, u1, u2, u3, a4, n4, c4', rfl, rfl, rfl, rfl, rfl⟩ := Dt.rep_shape (Dt.Rf.rep _ _ _ r)
    simp only [List.cons.injEq, Value.slice.injEq, and_true] at e1
    obtain ⟨-, -, -, -, rfl, rfl, rfl⟩ := e1
    exact ⟨k, i, u, s, g, o, _, _, u0, u1, u2, u3, a4, n4, c4', he, ⟨hg.1.2, (List.getElem?_eq_some_iff.1 hj).1, c0, c1, c2, c3, c4⟩, r, hb'⟩
theorem gdIndex_no (W0 : World) (m : Nat) (t : Dt.Tr (m + 1)) (ak ai au : Int) (az : ByteArray) (aa : Option Addr) (an ac : Nat) (bk bi bu : Int) (bs : ByteArray) (ba : Option Addr) (bn bc : Nat) (num : Int) (h : Vl W0 m t ak ai au az aa an ac) (hk : ak = 8) (hj : num < 0 ∨ (t.ks.length : Int) ≤ num) (w : World) (hb : Below W0.heap.size W0 w) :
    ∀ wx, Below w.heap.size w wx → wx.heap.size = w.heap.size + 4 → Calls Tryz.prog 21 #[.agg (acs 4 ak ai au az aa an ac bk bi bu bs ba bn bc num)] wx fun e w' => Pn 87 (.int .i64 num) e ∧ Below wx.heap.size wx w' := by
  intro wx hx zx
  refine done_index_no ak ai au az aa an ac bk bi bu bs ba bn bc num _ _ wx fun wy hy => ?_
  refine place_no ak ai au az aa an ac num wy fun wz hz => ?_
  have hB : Below W0.heap.size W0 wz := ((hb.trans (hx.mono hb.size)).trans (hy.mono (by have := hb.size; omega))).trans (hz.mono (by have := hb.size; have := hy.size; omega))
  refine (must_rf W0 m t ak ai au az aa an ac h 8 (by subst hk; rfl) wz hB _ rfl).mono fun e w' ⟨k, i, u, s, a, n, c, he, rf, hb'⟩ => ?_
  obtain ⟨ad, cap, e1, -, -, -, e5⟩ := rf
  simp only [List.cons.injEq, Value.slice.injEq, and_true] at e1
  obtain ⟨-, -, -, -, rfl, rfl, rfl⟩ := e1
  exact ⟨k, i, u, s, _, _, _, he, hj, hb'⟩
theorem gdIndex_bad (W0 : World) (m : Nat) (t : Dt.Tr (m + 1)) (ak ai au : Int) (az : ByteArray) (aa : Option Addr) (an ac : Nat) (bk bi bu : Int) (bs : ByteArray) (ba : Option Addr) (bn bc : Nat) (num : Int) (h : Vl W0 m t ak ai au az aa an ac) (hk : ak ≠ 8) (w : World) (hb : Below W0.heap.size W0 w) :
    ∀ wx, Below w.heap.size w wx → wx.heap.size = w.heap.size + 4 → Calls Tryz.prog 21 #[.agg (acs 4 ak ai au az aa an ac bk bi bu bs ba bn bc num)] wx fun e w' => Pn 84 (.int .i64 ak) e ∧ Below wx.heap.size wx w' := by
  intro wx hx zx
  refine done_index_no ak ai au az aa an ac bk bi bu bs ba bn bc num _ _ wx fun wy hy => ?_
  refine place_bad ak ai au az aa an ac num wy fun wz hz => ?_
  have hB : Below W0.heap.size W0 wz := ((hb.trans (hx.mono hb.size)).trans (hy.mono (by have := hb.size; omega))).trans (hz.mono (by have := hb.size; have := hy.size; omega))
  exact must_no W0 m t ak ai au az aa an ac h 8 (by simp [tkd]; omega) wz hB
theorem gdOpen (W0 : World) (m : Nat) (t : Dt.Tr (m + 1)) (ak ai au : Int) (az : ByteArray) (aa : Option Addr) (an ac : Nat) (bk bi bu : Int) (bs : ByteArray) (ba : Option Addr) (bn bc : Nat) (num : Int) (h : Vl W0 m t ak ai au az aa an ac) (hk : ak = 11) (kid : Dt.Tr m) (hkid : t.ks = [kid]) (w : World) (hb : Below W0.heap.size W0 w) :
    ∀ wx, Below w.heap.size w wx → wx.heap.size = w.heap.size + 4 → Calls Tryz.prog 21 #[.agg (acs 5 ak ai au az aa an ac bk bi bu bs ba bn bc num)] wx (GP 0 0 0 true m kid wx) := by
  intro wx hx zx
  have S := st_rf (w.heap.size + 8) m kid
  obtain ⟨kr, kp, k6⟩ := h.kid (t' := kid) (by rw [hkid]; simp)
  refine (dn_ret 5 ak ai au az aa an ac bk bi bu bs ba bn bc num w 0 0 0 0 true _ (st_four S (by omega)) <| ?_).mono fun _ _ q => gp_rf (by omega) q
  refine done_open ak ai au az aa an ac bk bi bu bs ba bn bc num wx (w.heap.size + 8) (by omega) _ S fun wy hy zy => ?_
  refine popen_yes ak ai au az aa an ac wy (w.heap.size + 8) (by omega) _ S (fun wz hz => ?_) fun wz hz zz => ?_
  · exact pface_yes ak ai au az aa an ac 3 wz fun wq _ => mustFace_yes ak ai au az aa an ac 3 wq (by subst hk; rfl)
  · have hB : Below W0.heap.size W0 wz := ((hb.trans (hx.mono hb.size)).trans (hy.mono (by have := hb.size; omega))).trans (hz.mono (by have := hb.size; omega))
    refine (of_val W0 m t ak ai au az aa an ac wz h.rg h.ps h.rep hB).mono fun e w' ⟨v, he, _, vr, hb'⟩ => ?_
    obtain ⟨b, u, t0, rfl, e4, e2, e5⟩ := vr_11 vr.out (h.eq.1.trans hk)
    rw [hkid] at e2
    obtain rfl : kid = t0 := by simpa using e2
    refine ⟨b, t.it, u, he, ⟨e4, Dt.vr_any e5, fun wq hq => ?_⟩, hb'⟩
    refine (Dt.plain_any _ w' m kid u wq kr k6 kp e5 hq).mono fun e w'' ⟨v0, v1, v2, v3, v4, he, rf, hb''⟩ => ?_
    obtain ⟨u0, u1, u2, u3, a4, n4, c4', rfl, rfl, rfl, rfl, rfl⟩ := Dt.rep_shape (Dt.Rf.rep _ _ _ rf)
    exact ⟨u0, u1, u2, u3, a4, n4, c4', he, Dt.Rf.to (fun g hg => ⟨⟨by have := hq.size; have := hb'.size; omega, hg.2⟩, rfl⟩) _ _ _ rf, hb''⟩
theorem gdOpen_nil (W0 : World) (m : Nat) (t : Dt.Tr (m + 1)) (ak ai au : Int) (az : ByteArray) (aa : Option Addr) (an ac : Nat) (bk bi bu : Int) (bs : ByteArray) (ba : Option Addr) (bn bc : Nat) (num : Int) (h : Vl W0 m t ak ai au az aa an ac) (hk : ak = 12) (w : World) (hb : Below W0.heap.size W0 w) :
    ∀ wx, Below w.heap.size w wx → wx.heap.size = w.heap.size + 4 → Calls Tryz.prog 21 #[.agg (acs 5 ak ai au az aa an ac bk bi bu bs ba bn bc num)] wx fun e w' => Pn 86 (.agg #[]) e ∧ Below wx.heap.size wx w' := by
  intro wx hx zx
  refine done_open_no ak ai au az aa an ac bk bi bu bs ba bn bc num _ _ wx fun wy hy => ?_
  refine popen_nil ak ai au az aa an ac wy (fun wz hz => ?_) fun wz hz => ?_
  · exact pface_yes ak ai au az aa an ac 3 wz fun wq _ => mustFace_yes ak ai au az aa an ac 3 wq (by subst hk; rfl)
  · have hB : Below W0.heap.size W0 wz := ((hb.trans (hx.mono hb.size)).trans (hy.mono (by have := hb.size; omega))).trans (hz.mono (by have := hb.size; have := hy.size; omega))
    refine (of_val W0 m t ak ai au az aa an ac wz h.rg h.ps h.rep hB).mono fun e w' ⟨v, he, _, vr, hb'⟩ => ?_
    obtain rfl := vr_12 vr.out (h.eq.1.trans hk)
    exact ⟨he, hb'⟩
theorem gdOpen_no (ak ai au : Int) (az : ByteArray) (aa : Option Addr) (an ac : Nat) (bk bi bu : Int) (bs : ByteArray) (ba : Option Addr) (bn bc : Nat) (num : Int) (hq : impl ak 3 = false) (w : World) :
    ∀ wx, Below w.heap.size w wx → wx.heap.size = w.heap.size + 4 → Calls Tryz.prog 21 #[.agg (acs 5 ak ai au az aa an ac bk bi bu bs ba bn bc num)] wx fun e w' => Pn 84 (.int .i64 (lackM ak 3)) e ∧ Below wx.heap.size wx w' := by
  intro wx hx zx
  refine done_open_no ak ai au az aa an ac bk bi bu bs ba bn bc num _ _ wx fun wy hy => ?_
  exact popen_no ak ai au (lackM ak 3) az aa an ac wy fun wz hz => pface_no ak ai au az aa an ac 3 (lackM ak 3) wz fun wq _ => mustFace_no ak ai au az aa an ac 3 wq hq
theorem gdCompare (W0 : World) (n m : Nat) (a : Dt.Tr n) (b : Dt.Tr m) (hn : n ≤ 16) (ra : Dt.rgt n a = true) (rb : Dt.rgt m b = true) (pa : (Dt.pts n a).1 ≤ 4096) (pb : (Dt.pts m b).1 ≤ 4096) (ak ai au : Int) (az : ByteArray) (aa : Option Addr) (an ac : Nat) (bk bi bu : Int) (bs : ByteArray) (ba : Option Addr) (bn bc : Nat) (num : Int) (hA : Dt.Rep W0 n [.int .i64 ak, .int .i64 ai, .int .u64 au, .string az, .slice aa an ac] a) (hB : Dt.Rep W0 m [.int .i64 bk, .int .i64 bi, .int .u64 bu, .string bs, .slice ba bn bc] b) (res : Bool) (hE : Dt.eqT n m a b = (res, 0)) (w : World) (hb : Below W0.heap.size W0 w) :
    ∀ wx, Below w.heap.size w wx → wx.heap.size = w.heap.size + 4 → Calls Tryz.prog 21 #[.agg (acs 6 ak ai au az aa an ac bk bi bu bs ba bn bc num)] wx (GP 0 0 0 true 1 (lfT 6 (Dt.bI res)) wx) := by
  intro wx hx zx
  have S : St (w.heap.size + 6) (fun k i u s a n c _ => k = 6 ∧ i = Dt.bI res ∧ u = 0 ∧ s = ⟨#[]⟩ ∧ a = none ∧ n = 0 ∧ c = 0) := fun _ _ _ _ _ _ _ _ _ h _ _ => h
  refine (dn_ret 6 ak ai au az aa an ac bk bi bu bs ba bn bc num w 0 0 0 0 true _ (st_four S (by omega)) <| done_compare ak ai au az aa an ac bk bi bu bs ba bn bc num wx (w.heap.size + 6) (by omega) _ S fun wy hy zy => ?_).mono fun e w' ⟨k, i, u, s, a, n, c, he, ⟨q1, q2, q3, q4, q5, q6, q7⟩, hb'⟩ => ?_
  · have hW : Below W0.heap.size W0 wy := (hb.trans (hx.mono hb.size)).trans (hy.mono (by have := hb.size; omega))
    refine (Dt.compared_any n m a b ak ai au az aa an ac bk bi bu bs ba bn bc res 0 hE wy hn ra rb pa pb (Dt.Rep.below hW _ _ _ hA) (Dt.Rep.below hW _ _ _ hB)).mono fun e w' ⟨he, hb'⟩ => ?_
    rcases he with ⟨-, he⟩ | ⟨h, -⟩
    · exact ⟨6, _, 0, ⟨#[]⟩, none, 0, 0, he, ⟨rfl, rfl, rfl, rfl, rfl, rfl, rfl⟩, hb'⟩
    · exact absurd rfl h
  · subst q1 q2 q3 q4 q5 q6 q7
    exact ⟨6, _, 0, ⟨#[]⟩, none, 0, 0, he, lf_rf _ w' 6 _, hb'⟩
theorem gdCompare_no (W0 : World) (n m : Nat) (a : Dt.Tr n) (b : Dt.Tr m) (hn : n ≤ 16) (ra : Dt.rgt n a = true) (rb : Dt.rgt m b = true) (pa : (Dt.pts n a).1 ≤ 4096) (pb : (Dt.pts m b).1 ≤ 4096) (ak ai au : Int) (az : ByteArray) (aa : Option Addr) (an ac : Nat) (bk bi bu : Int) (bs : ByteArray) (ba : Option Addr) (bn bc : Nat) (num : Int) (hA : Dt.Rep W0 n [.int .i64 ak, .int .i64 ai, .int .u64 au, .string az, .slice aa an ac] a) (hB : Dt.Rep W0 m [.int .i64 bk, .int .i64 bi, .int .u64 bu, .string bs, .slice ba bn bc] b) (res : Bool) (code : Int) (hc : code ≠ 0) (hE : Dt.eqT n m a b = (res, code)) (w : World) (hb : Below W0.heap.size W0 w) :
    ∀ wx, Below w.heap.size w wx → wx.heap.size = w.heap.size + 4 → Calls Tryz.prog 21 #[.agg (acs 6 ak ai au az aa an ac bk bi bu bs ba bn bc num)] wx fun e w' => Pn 88 (.agg #[]) e ∧ Below wx.heap.size wx w' := by
  intro wx hx zx
  refine done_compare_no ak ai au az aa an ac bk bi bu bs ba bn bc num _ _ wx fun wy hy => ?_
  have hW : Below W0.heap.size W0 wy := (hb.trans (hx.mono hb.size)).trans (hy.mono (by have := hb.size; omega))
  refine (Dt.compared_any n m a b ak ai au az aa an ac bk bi bu bs ba bn bc res code hE wy hn ra rb pa pb (Dt.Rep.below hW _ _ _ hA) (Dt.Rep.below hW _ _ _ hB)).mono fun e w' ⟨he, hb'⟩ => ?_
  rcases he with ⟨h, -⟩ | ⟨-, h⟩
  · exact absurd h hc
  · exact ⟨h, hb'⟩
theorem gdDivide (W0 : World) (m m' : Nat) (t : Dt.Tr (m + 1)) (t' : Dt.Tr (m' + 1)) (ak ai au : Int) (az : ByteArray) (aa : Option Addr) (an ac : Nat) (bk bi bu : Int) (bs : ByteArray) (ba : Option Addr) (bn bc : Nat) (num : Int) (h : Vl W0 m t ak ai au az aa an ac) (h' : Vl W0 m' t' bk bi bu bs ba bn bc) (hk : ak = 1) (hk' : bk = 1) (hy : bi ≠ 0) (w : World) (hb : Below W0.heap.size W0 w) :
    ∀ wx, Below w.heap.size w wx → wx.heap.size = w.heap.size + 4 → Calls Tryz.prog 21 #[.agg (acs 7 ak ai au az aa an ac bk bi bu bs ba bn bc num)] wx (GP 0 0 0 true 1 (lfT 1 (quoI ai bi)) wx) := by
  intro wx hx zx
  have S : St (w.heap.size + 6) (fun k i u s a n c _ => k = 1 ∧ i = quoI ai bi ∧ u = 0 ∧ s = ⟨#[]⟩ ∧ a = none ∧ n = 0 ∧ c = 0) := fun _ _ _ _ _ _ _ _ _ h _ _ => h
  refine (dn_ret 7 ak ai au az aa an ac bk bi bu bs ba bn bc num w 0 0 0 0 true _ (st_four S (by omega)) <| done_divide ak ai au az aa an ac bk bi bu bs ba bn bc num wx (w.heap.size + 6) (by omega) _ S fun wy hy' zy => ?_).mono fun e w' ⟨k, i, u, s, a, n, c, he, ⟨q1, q2, q3, q4, q5, q6, q7⟩, hb'⟩ => ?_
  · have hW : Below W0.heap.size W0 wy := (hb.trans (hx.mono hb.size)).trans (hy'.mono (by have := hb.size; omega))
    exact (divided_yes ak ai au az aa an ac bk bi bu bs ba bn bc ai bi hy wy (fun wz hz => must_int W0 m t ak ai au az aa an ac h hk wz (hW.trans (hz.mono hW.size))) (fun wz hz => must_int W0 m' t' bk bi bu bs ba bn bc h' hk' wz (hW.trans (hz.mono hW.size)))).mono fun e w' ⟨he, hb'⟩ => ⟨1, _, 0, ⟨#[]⟩, none, 0, 0, he, ⟨rfl, rfl, rfl, rfl, rfl, rfl, rfl⟩, hb'⟩
  · subst q1 q2 q3 q4 q5 q6 q7
    exact ⟨1, _, 0, ⟨#[]⟩, none, 0, 0, he, lf_rf _ w' 1 _, hb'⟩
theorem gdDivide_zero (W0 : World) (m m' : Nat) (t : Dt.Tr (m + 1)) (t' : Dt.Tr (m' + 1)) (ak ai au : Int) (az : ByteArray) (aa : Option Addr) (an ac : Nat) (bk bi bu : Int) (bs : ByteArray) (ba : Option Addr) (bn bc : Nat) (num : Int) (h : Vl W0 m t ak ai au az aa an ac) (h' : Vl W0 m' t' bk bi bu bs ba bn bc) (hk : ak = 1) (hk' : bk = 1) (hy : bi = 0) (w : World) (hb : Below W0.heap.size W0 w) :
    ∀ wx, Below w.heap.size w wx → wx.heap.size = w.heap.size + 4 → Calls Tryz.prog 21 #[.agg (acs 7 ak ai au az aa an ac bk bi bu bs ba bn bc num)] wx fun e w' => Pn 89 (.agg #[]) e ∧ Below wx.heap.size wx w' := by
  intro wx hx zx
  refine done_divide_no ak ai au az aa an ac bk bi bu bs ba bn bc num _ _ wx fun wy hy' => ?_
  have hW : Below W0.heap.size W0 wy := (hb.trans (hx.mono hb.size)).trans (hy'.mono (by have := hb.size; omega))
  exact divided_zero ak ai au az aa an ac bk bi bu bs ba bn bc ai wy (fun wz hz => must_int W0 m t ak ai au az aa an ac h hk wz (hW.trans (hz.mono hW.size))) (fun wz hz => hy ▸ must_int W0 m' t' bk bi bu bs ba bn bc h' hk' wz (hW.trans (hz.mono hW.size)))
theorem gdDivide_a (W0 : World) (m : Nat) (t : Dt.Tr (m + 1)) (ak ai au : Int) (az : ByteArray) (aa : Option Addr) (an ac : Nat) (bk bi bu : Int) (bs : ByteArray) (ba : Option Addr) (bn bc : Nat) (num : Int) (h : Vl W0 m t ak ai au az aa an ac) (hk : ak ≠ 1) (w : World) (hb : Below W0.heap.size W0 w) :
    ∀ wx, Below w.heap.size w wx → wx.heap.size = w.heap.size + 4 → Calls Tryz.prog 21 #[.agg (acs 7 ak ai au az aa an ac bk bi bu bs ba bn bc num)] wx fun e w' => Pn 84 (.int .i64 ak) e ∧ Below wx.heap.size wx w' := by
  intro wx hx zx
  refine done_divide_no ak ai au az aa an ac bk bi bu bs ba bn bc num _ _ wx fun wy hy' => ?_
  have hW : Below W0.heap.size W0 wy := (hb.trans (hx.mono hb.size)).trans (hy'.mono (by have := hb.size; omega))
  exact divided_a ak ai au az aa an ac bk bi bu bs ba bn bc wy (fun wz hz => must_no W0 m t ak ai au az aa an ac h 1 (by simp [tkd]; omega) wz (hW.trans (hz.mono hW.size)))
theorem gdDivide_b (W0 : World) (m m' : Nat) (t : Dt.Tr (m + 1)) (t' : Dt.Tr (m' + 1)) (ak ai au : Int) (az : ByteArray) (aa : Option Addr) (an ac : Nat) (bk bi bu : Int) (bs : ByteArray) (ba : Option Addr) (bn bc : Nat) (num : Int) (h : Vl W0 m t ak ai au az aa an ac) (h' : Vl W0 m' t' bk bi bu bs ba bn bc) (hk : ak = 1) (hk' : bk ≠ 1) (w : World) (hb : Below W0.heap.size W0 w) :
    ∀ wx, Below w.heap.size w wx → wx.heap.size = w.heap.size + 4 → Calls Tryz.prog 21 #[.agg (acs 7 ak ai au az aa an ac bk bi bu bs ba bn bc num)] wx fun e w' => Pn 84 (.int .i64 bk) e ∧ Below wx.heap.size wx w' := by
  intro wx hx zx
  refine done_divide_no ak ai au az aa an ac bk bi bu bs ba bn bc num _ _ wx fun wy hy' => ?_
  have hW : Below W0.heap.size W0 wy := (hb.trans (hx.mono hb.size)).trans (hy'.mono (by have := hb.size; omega))
  exact divided_b ak ai au az aa an ac bk bi bu bs ba bn bc ai wy (fun wz hz => must_int W0 m t ak ai au az aa an ac h hk wz (hW.trans (hz.mono hW.size))) (fun wz hz => must_no W0 m' t' bk bi bu bs ba bn bc h' 1 (by simp [tkd]; omega) wz (hW.trans (hz.mono hW.size)))
end Go.Proofs.YthamafijjflfbaaGreat
