/- Acts over a value's tree, tried: given, asserted to a kind or to an interface, asked for its size, and the acts that panic of themselves; the conditions: the tree in memory, valid, its bits within 64. -/
import Derived.Test.YthamafijjflfbaaGreatJah
import Derived.Test.YthamafijjflfbaaGreatJbf
import Derived.Test.YthamafijjflfbaaGreatJbh
import Derived.Test.YthamafijjflfbaaGreatJae
namespace Go.Proofs.YthamafijjflfbaaGreat
open Go.RowKit

theorem st_rf (H m : Nat) (t : Dt.Tr m) : St H (fun k i u s a n c w' => Dt.Rf (fun g => H ≤ g ∧ g < w'.heap.size) w' m [.int .i64 k, .int .i64 i, .int .u64 u, .string s, .slice a n c] t) := fun _ _ _ _ _ _ _ _ _ h h1 h2 =>
  Dt.Rf.to (fun g hg => ⟨⟨hg.1, Nat.lt_of_lt_of_le hg.2 h1⟩, h2 g hg.1 hg.2⟩) _ _ _ h
theorem st_four {H N : Nat} {P : BodyP} (h : St H P) (hN : N + 4 ≤ H) : ∀ k i u s a n c w' w'', P k i u s a n c w' → w'.heap.size ≤ w''.heap.size → (∀ g, g < w'.heap.size → g ≠ N + 1 → g ≠ N + 2 → g ≠ N + 3 → w''.heap[g]? = w'.heap[g]?) → P k i u s a n c w'' :=
  fun _ _ _ _ _ _ _ _ _ h1 h2 h3 => h _ _ _ _ _ _ _ _ _ h1 h2 fun g g1 g2 => h3 g g2 (by omega) (by omega) (by omega)

theorem copy_rf (W0 : World) (m : Nat) (t : Dt.Tr (m + 1)) (hps : (Dt.pts (m + 1) t).1 ≤ 4096) (k i u : Int) (s : ByteArray) (a : Option Addr) (n c : Nat) (hrep : Dt.Rep W0 (m + 1) [.int .i64 k, .int .i64 i, .int .u64 u, .string s, .slice a n c] t) (w : World) (hb : Below W0.heap.size W0 w) (H : Nat) (hH : H ≤ w.heap.size) :
    Calls Tryz.prog 39 #[.agg #[.int .i64 k, .int .i64 i, .int .u64 u, .string s, .slice a n c]] w fun e w' => ∃ k i u s a n c, e = .returned (.agg #[.int .i64 k, .int .i64 i, .int .u64 u, .string s, .slice a n c]) ∧ Dt.Rf (fun g => H ≤ g ∧ g < w'.heap.size) w' (m + 1) [.int .i64 k, .int .i64 i, .int .u64 u, .string s, .slice a n c] t ∧ Below w.heap.size w w' :=
  (Dt.vcopy (m + 1) t _ _ _ _ _ w (Dt.Rep.below hb _ _ _ hrep) hps).mono fun e w' ⟨k, i, u, s, a, n, c, he, rf, hb'⟩ => ⟨k, i, u, s, a, n, c, he, Dt.Rf.to (fun g hg => ⟨⟨by omega, hg.2⟩, rfl⟩) _ _ _ rf, hb'⟩

theorem tryGive (W0 : World) (m : Nat) (t : Dt.Tr (m + 1)) (hps : (Dt.pts (m + 1) t).1 ≤ 4096) (ak ai au : Int) (az : ByteArray) (aa : Option Addr) (an ac : Nat) (bk bi bu : Int) (bs : ByteArray) (ba : Option Addr) (bn bc : Nat) (num : Int) (hrep : Dt.Rep W0 (m + 1) [.int .i64 ak, .int .i64 ai, .int .u64 au, .string az, .slice aa an ac] t) (w : World) (hb : Below W0.heap.size W0 w) :
    Calls Tryz.prog 10 #[.agg (acs 1 ak ai au az aa an ac bk bi bu bs ba bn bc num)] w fun e w' => ∃ k i u s a n c, e = .returned (.agg (rcs 0 0 0 0 true k i u s a n c)) ∧ Dt.Rf (fun g => w.heap.size + 6 ≤ g ∧ g < w'.heap.size) w' (m + 1) [.int .i64 k, .int .i64 i, .int .u64 u, .string s, .slice a n c] t ∧ Below w.heap.size w w' := by
  have S := st_rf (w.heap.size + 6) (m + 1) t
  refine try_ret 1 ak ai au az aa an ac bk bi bu bs ba bn bc num w 0 0 0 0 true _ (st_four S (by omega)) fun wx hx zx => ?_
  refine done_give ak ai au az aa an ac bk bi bu bs ba bn bc num wx (w.heap.size + 6) (by omega) _ S fun wy hy zy => ?_
  exact copy_rf W0 m t hps ak ai au az aa an ac hrep wy ((hb.trans (hx.mono hb.size)).trans (hy.mono (by have := hb.size; omega))) _ (by omega)

theorem tryAssert (W0 : World) (m : Nat) (t : Dt.Tr (m + 1)) (hrg : Dt.rgt (m + 1) t = true) (hps : (Dt.pts (m + 1) t).1 ≤ 4096) (h6 : Dt.r64 (m + 1) t) (ak ai au : Int) (az : ByteArray) (aa : Option Addr) (an ac : Nat) (bk bi bu : Int) (bs : ByteArray) (ba : Option Addr) (bn bc : Nat) (num : Int) (hrep : Dt.Rep W0 (m + 1) [.int .i64 ak, .int .i64 ai, .int .u64 au, .string az, .slice aa an ac] t) (w : World) (hb : Below W0.heap.size W0 w) (hq : tkd num ak = true) :
    Calls Tryz.prog 10 #[.agg (acs 2 ak ai au az aa an ac bk bi bu bs ba bn bc num)] w fun e w' => ∃ k i u s a n c, e = .returned (.agg (rcs 0 0 0 0 true k i u s a n c)) ∧ Dt.Rf (fun g => w.heap.size + 8 ≤ g ∧ g < w'.heap.size) w' (m + 1) [.int .i64 k, .int .i64 i, .int .u64 u, .string s, .slice a n c] t ∧ Below w.heap.size w w' := by
  have S := st_rf (w.heap.size + 8) (m + 1) t
  refine try_ret 2 ak ai au az aa an ac bk bi bu bs ba bn bc num w 0 0 0 0 true _ (st_four S (by omega)) fun wx hx zx => ?_
  refine done_assert ak ai au az aa an ac bk bi bu bs ba bn bc num wx (w.heap.size + 8) (by omega) _ S fun wy hy zy => ?_
  refine pmust_yes ak ai au az aa an ac num wy (w.heap.size + 8) (by omega) _ S fun wz hz zz => ?_
  have hB : Below W0.heap.size W0 wz := ((hb.trans (hx.mono hb.size)).trans (hy.mono (by have := hb.size; omega))).trans (hz.mono (by have := hb.size; omega))
  refine (must_yes (m + 1) t hrg h6 hps ak ai au az aa an ac num wz hq fun wq hq' => of_val W0 m t ak ai au az aa an ac wq hrg hps hrep (hB.trans (hq'.mono hB.size))).mono fun e w' ⟨v0, v1, v2, v3, v4, he, rf, hb'⟩ => ?_
  obtain ⟨u0, u1, u2, u3, a4, n4, c4', rfl, rfl, rfl, rfl, rfl⟩ := Dt.rep_shape (Dt.Rf.rep _ _ _ rf)
  exact ⟨u0, u1, u2, u3, a4, n4, c4', he, Dt.Rf.to (fun g hg => ⟨⟨by omega, hg.2⟩, rfl⟩) _ _ _ rf, hb'⟩

theorem tryAssert_no (W0 : World) (m : Nat) (t : Dt.Tr (m + 1)) (hrg : Dt.rgt (m + 1) t = true) (hps : (Dt.pts (m + 1) t).1 ≤ 4096) (ak ai au : Int) (az : ByteArray) (aa : Option Addr) (an ac : Nat) (bk bi bu : Int) (bs : ByteArray) (ba : Option Addr) (bn bc : Nat) (num : Int) (hrep : Dt.Rep W0 (m + 1) [.int .i64 ak, .int .i64 ai, .int .u64 au, .string az, .slice aa an ac] t) (w : World) (hb : Below W0.heap.size W0 w) (hq : tkd num ak = false) :
    Calls Tryz.prog 10 #[.agg (acs 2 ak ai au az aa an ac bk bi bu bs ba bn bc num)] w fun e w' => e = .returned (.agg (rErr 110 0 2 ak)) ∧ Below w.heap.size w w' := by
  refine try_pan 2 ak ai au az aa an ac bk bi bu bs ba bn bc num w 84 (.int .i64 ak) 2 ak (ptold_assert ak) fun wx hx zx => ?_
  refine done_assert_no ak ai au az aa an ac bk bi bu bs ba bn bc num wx fun wy hy => ?_
  refine pmust_no ak ai au az aa an ac num wy fun wz hz => ?_
  have hB : Below W0.heap.size W0 wz := ((hb.trans (hx.mono hb.size)).trans (hy.mono (by have := hb.size; omega))).trans (hz.mono (by have := hb.size; have := hy.size; omega))
  obtain ⟨F, hm, hM⟩ := type_musts num
  exact must_fail ak ai au az aa an ac num (qty num) F wz rfl hm (fun u w hu => (hM ak u w hu).2 hq) fun wq hq' => (of_val W0 m t ak ai au az aa an ac wq hrg hps hrep (hB.trans (hq'.mono hB.size))).mono fun e w' ⟨u, a, c, _, d⟩ => ⟨u, a, c, d⟩

theorem tryFace (W0 : World) (m : Nat) (t : Dt.Tr (m + 1)) (hps : (Dt.pts (m + 1) t).1 ≤ 4096) (ak ai au : Int) (az : ByteArray) (aa : Option Addr) (an ac : Nat) (bk bi bu : Int) (bs : ByteArray) (ba : Option Addr) (bn bc : Nat) (num : Int) (hrep : Dt.Rep W0 (m + 1) [.int .i64 ak, .int .i64 ai, .int .u64 au, .string az, .slice aa an ac] t) (w : World) (hb : Below W0.heap.size W0 w) (hq : impl ak num = true) :
    Calls Tryz.prog 10 #[.agg (acs 3 ak ai au az aa an ac bk bi bu bs ba bn bc num)] w fun e w' => ∃ k i u s a n c, e = .returned (.agg (rcs 0 0 0 0 true k i u s a n c)) ∧ Dt.Rf (fun g => w.heap.size + 6 ≤ g ∧ g < w'.heap.size) w' (m + 1) [.int .i64 k, .int .i64 i, .int .u64 u, .string s, .slice a n c] t ∧ Below w.heap.size w w' := by
  have S := st_rf (w.heap.size + 6) (m + 1) t
  refine try_ret 3 ak ai au az aa an ac bk bi bu bs ba bn bc num w 0 0 0 0 true _ (st_four S (by omega)) fun wx hx zx => ?_
  refine done_face ak ai au az aa an ac bk bi bu bs ba bn bc num wx (w.heap.size + 6) (by omega) _ S (fun wy hy zy => ?_) fun wy hy zy => ?_
  · exact pface_yes ak ai au az aa an ac num wy fun wz hz => mustFace_yes ak ai au az aa an ac num wz hq
  · exact copy_rf W0 m t hps ak ai au az aa an ac hrep wy ((hb.trans (hx.mono hb.size)).trans (hy.mono (by have := hb.size; omega))) _ (by omega)

theorem tryFace_no (ak ai au : Int) (az : ByteArray) (aa : Option Addr) (an ac : Nat) (bk bi bu : Int) (bs : ByteArray) (ba : Option Addr) (bn bc : Nat) (num : Int) (w : World) (hq : impl ak num = false) :
    Calls Tryz.prog 10 #[.agg (acs 3 ak ai au az aa an ac bk bi bu bs ba bn bc num)] w fun e w' => e = .returned (.agg (rErr 110 0 2 (lackM ak num))) ∧ Below w.heap.size w w' := by
  refine try_pan 3 ak ai au az aa an ac bk bi bu bs ba bn bc num w 84 (.int .i64 (lackM ak num)) 2 (lackM ak num) (ptold_assert (lackM ak num)) fun wx hx zx => ?_
  refine done_face_no ak ai au az aa an ac bk bi bu bs ba bn bc num (lackM ak num) wx fun wy hy => ?_
  exact pface_no ak ai au az aa an ac num (lackM ak num) wy fun wz hz => mustFace_no ak ai au az aa an ac num wz hq

theorem tryOwn (ak ai au : Int) (az : ByteArray) (aa : Option Addr) (an ac : Nat) (bk bi bu : Int) (bs : ByteArray) (ba : Option Addr) (bn bc : Nat) (num : Int) (w : World) :
    Calls Tryz.prog 10 #[.agg (acs 8 ak ai au az aa an ac bk bi bu bs ba bn bc num)] w fun e w' => e = .returned (.agg (rErr 110 0 1 num)) ∧ Below w.heap.size w w' :=
  try_pan 8 ak ai au az aa an ac bk bi bu bs ba bn bc num w 73 (.int .i64 num) 1 num (ptold_own num) fun wx _ _ => done_own ak ai au az aa an ac bk bi bu bs ba bn bc num wx
theorem tryError (ak ai au : Int) (az : ByteArray) (aa : Option Addr) (an ac : Nat) (bk bi bu : Int) (bs : ByteArray) (ba : Option Addr) (bn bc : Nat) (num : Int) (w : World) :
    Calls Tryz.prog 10 #[.agg (acs 9 ak ai au az aa an ac bk bi bu bs ba bn bc num)] w fun e w' => e = .returned (.agg (rErr 110 0 7 num)) ∧ Below w.heap.size w w' :=
  try_pan 9 ak ai au az aa an ac bk bi bu bs ba bn bc num w 75 (.agg #[.int .i64 num, .string ⟨#[]⟩]) 7 num (ptold_error num _) fun wx _ _ => done_error ak ai au az aa an ac bk bi bu bs ba bn bc num wx

set_option maxRecDepth 100000 in
/-- What stands for a tree tells its size, where its kind has one. -/
theorem szd_of {F : Nat → Prop} {w : World} {m : Nat} {v : Value} {t : Dt.Tr (m + 1)} (h : Dt.VR F w (m + 1) v t) (h0 : (Dt.lenP t.kd t.tx.size t.ks.length).2 = 0) : Szd v (Dt.lenP t.kd t.tx.size t.ks.length).1 := by
  rcases Dt.vr_cases h with ⟨q, rfl⟩ | ⟨q, rfl⟩ | ⟨q, rfl⟩ | ⟨q, rfl⟩ | ⟨q, rfl⟩ | ⟨q, rfl⟩ | ⟨q, rfl⟩ | ⟨q, a, c, rfl⟩ | ⟨q, a, c, rfl⟩ | ⟨q, x, y, rfl, hx, hy⟩ | ⟨q, rfl⟩ | ⟨q, b, u, rfl, hh, hu⟩ | ⟨q, rfl⟩ | ⟨q, rfl⟩
  all_goals (simp [q, Dt.lenP] at h0 <;> simp [q, Dt.lenP])
  · exact ⟨_, _, 112, rfl, fun _ => by kernel_rfl, fun _ _ => by kernel_rfl, fun w => run_typeAssert_hasB Tryz.underlying115 (by kernel_rfl) _ _ w, fun w => (Dt.sizeText _ w).mono fun e w' ⟨h1, h2⟩ => ⟨h1, h2 ▸ Below.refl _ _⟩⟩
  · exact ⟨_, _, 114, rfl, fun _ => by kernel_rfl, fun _ _ => by kernel_rfl, fun w => run_typeAssert_hasB Tryz.underlying115 (by kernel_rfl) _ _ w, fun w => (Dt.sizeName _ w).mono fun e w' ⟨h1, h2⟩ => ⟨h1, h2 ▸ Below.refl _ _⟩⟩
  · exact ⟨_, _, 115, rfl, fun _ => by kernel_rfl, fun _ _ => by kernel_rfl, fun w => run_typeAssert_hasB Tryz.underlying115 (by kernel_rfl) _ _ w, fun w => (Dt.sizeOct _ _ _ w).mono fun e w' ⟨h1, h2⟩ => ⟨h1, h2 ▸ Below.refl _ _⟩⟩
  · exact ⟨_, _, 116, rfl, fun _ => by kernel_rfl, fun _ _ => by kernel_rfl, fun w => run_typeAssert_hasB Tryz.underlying115 (by kernel_rfl) _ _ w, fun w => (Dt.sizeRow _ _ _ w).mono fun e w' ⟨h1, h2⟩ => ⟨h1, h2 ▸ Below.refl _ _⟩⟩
  · exact ⟨_, _, 117, rfl, fun _ => by kernel_rfl, fun _ _ => by kernel_rfl, fun w => run_typeAssert_hasB Tryz.underlying115 (by kernel_rfl) _ _ w, fun w => Dt.sizePair _ _ hx hy w⟩
  · exact ⟨_, _, 120, rfl, fun _ => by kernel_rfl, fun _ _ => by kernel_rfl, fun w => run_typeAssert_hasB Tryz.underlying115 (by kernel_rfl) _ _ w, fun w => (Dt.sizeBox _ w).mono fun e w' ⟨h1, h2⟩ => ⟨h1, h2 ▸ Below.refl _ _⟩⟩
  · exact ⟨_, _, 120, rfl, fun _ => by kernel_rfl, fun _ _ => by kernel_rfl, fun w => run_typeAssert_hasB Tryz.underlying115 (by kernel_rfl) _ _ w, fun w => (Dt.sizeNob w).mono fun e w' ⟨h1, h2⟩ => ⟨h1, h2 ▸ Below.refl _ _⟩⟩
set_option maxRecDepth 100000 in
theorem nosz_of {F : Nat → Prop} {w : World} {m : Nat} {v : Value} {t : Dt.Tr (m + 1)} (h : Dt.VR F w (m + 1) v t) (h0 : (Dt.lenP t.kd t.tx.size t.ks.length).2 ≠ 0) : Sx v ∧ ∀ w : World, (Instr.typeAssert v 20 115 true).run Tryz.prog w = .ok (.tuple #[.nilIface, .bool false]) w := by
  rcases Dt.vr_cases h with ⟨q, rfl⟩ | ⟨q, rfl⟩ | ⟨q, rfl⟩ | ⟨q, rfl⟩ | ⟨q, rfl⟩ | ⟨q, rfl⟩ | ⟨q, rfl⟩ | ⟨q, a, c, rfl⟩ | ⟨q, a, c, rfl⟩ | ⟨q, x, y, rfl, hx, hy⟩ | ⟨q, rfl⟩ | ⟨q, b, u, rfl, hh, hu⟩ | ⟨q, rfl⟩ | ⟨q, rfl⟩
  all_goals first | (exfalso; simp [q, Dt.lenP] at h0; done) | exact ⟨.inl rfl, fun w => assert_nil Tryz.underlying115 (by kernel_rfl)⟩ | exact ⟨.inr ⟨_, _, rfl⟩, fun w => run_typeAssert_lacksB Tryz.underlying115 (by kernel_rfl) (by kernel_rfl) _ _ w⟩

theorem trySize (W0 : World) (m : Nat) (t : Dt.Tr (m + 1)) (hrg : Dt.rgt (m + 1) t = true) (hps : (Dt.pts (m + 1) t).1 ≤ 4096) (ak ai au : Int) (az : ByteArray) (aa : Option Addr) (an ac : Nat) (bk bi bu : Int) (bs : ByteArray) (ba : Option Addr) (bn bc : Nat) (num : Int) (hrep : Dt.Rep W0 (m + 1) [.int .i64 ak, .int .i64 ai, .int .u64 au, .string az, .slice aa an ac] t) (w : World) (hb : Below W0.heap.size W0 w) :
    Calls Tryz.prog 10 #[.agg (acs 10 ak ai au az aa an ac bk bi bu bs ba bn bc num)] w fun e w' => e = .returned (.agg (if (Dt.lenP t.kd t.tx.size t.ks.length).2 = 0 then rcs 0 0 0 0 true 1 (Dt.lenP t.kd t.tx.size t.ks.length).1 0 ⟨#[]⟩ none 0 0 else rErr 12 0 0 0)) ∧ Below w.heap.size w w' := by
  have hB : ∀ wx wy wz : World, Below w.heap.size w wx → Below wx.heap.size wx wy → Below wy.heap.size wy wz → Below W0.heap.size W0 wz := fun wx wy wz hx hy hz => ((hb.trans (hx.mono hb.size)).trans (hy.mono (by have := hb.size; have := hx.size; omega))).trans (hz.mono (by have := hb.size; have := hx.size; have := hy.size; omega))
  by_cases h0 : (Dt.lenP t.kd t.tx.size t.ks.length).2 = 0
  · simp only [if_pos h0]
    obtain ⟨r, hr⟩ : ∃ r, (Dt.lenP t.kd t.tx.size t.ks.length).1 = r := ⟨_, rfl⟩
    rw [hr]
    have S : St (w.heap.size + 6) (fun k i u s a n c _ => k = 1 ∧ i = r ∧ u = 0 ∧ s = ⟨#[]⟩ ∧ a = none ∧ n = 0 ∧ c = 0) := fun _ _ _ _ _ _ _ _ _ h _ _ => h
    refine (try_ret 10 ak ai au az aa an ac bk bi bu bs ba bn bc num w 0 0 0 0 true _ (st_four S (by omega)) fun wx hx zx => done_size ak ai au az aa an ac bk bi bu bs ba bn bc num wx 0 true (w.heap.size + 6) (by omega) _ S fun wy hy zy => (size_yes ak ai au r az aa an ac wy fun wz hz => (of_val W0 m t ak ai au az aa an ac wz hrg hps hrep (hB wx wy wz hx hy hz)).mono fun e w' ⟨v, he, _, vr, hb'⟩ => ⟨v, he, hr ▸ szd_of vr.out h0, hb'⟩).mono fun e w' ⟨he, hb'⟩ => ⟨1, r, 0, ⟨#[]⟩, none, 0, 0, he, ⟨rfl, rfl, rfl, rfl, rfl, rfl, rfl⟩, hb'⟩).mono fun e w' ⟨k, i, u, s, a, n, c, he, ⟨q1, q2, q3, q4, q5, q6, q7⟩, hb'⟩ => ?_
    subst q1 q2 q3 q4 q5 q6 q7
    exact ⟨he, hb'⟩
  · simp only [if_neg h0]
    have S : St (w.heap.size + 6) (fun k i u s a n c _ => k = 0 ∧ i = 0 ∧ u = 0 ∧ s = ⟨#[]⟩ ∧ a = none ∧ n = 0 ∧ c = 0) := fun _ _ _ _ _ _ _ _ _ h _ _ => h
    refine (try_ret 10 ak ai au az aa an ac bk bi bu bs ba bn bc num w 12 0 0 0 false _ (st_four S (by omega)) fun wx hx zx => done_size ak ai au az aa an ac bk bi bu bs ba bn bc num wx 12 false (w.heap.size + 6) (by omega) _ S fun wy hy zy => (size_no ak ai au az aa an ac wy fun wz hz => (of_val W0 m t ak ai au az aa an ac wz hrg hps hrep (hB wx wy wz hx hy hz)).mono fun e w' ⟨v, he, _, vr, hb'⟩ => ⟨v, he, (nosz_of vr.out h0).1, (nosz_of vr.out h0).2, hb'⟩).mono fun e w' ⟨he, hb'⟩ => ⟨0, 0, 0, ⟨#[]⟩, none, 0, 0, he, ⟨rfl, rfl, rfl, rfl, rfl, rfl, rfl⟩, hb'⟩).mono fun e w' ⟨k, i, u, s, a, n, c, he, ⟨q1, q2, q3, q4, q5, q6, q7⟩, hb'⟩ => ?_
    subst q1 q2 q3 q4 q5 q6 q7
    exact ⟨he, hb'⟩
end Go.Proofs.YthamafijjflfbaaGreat
/- What must be told, of two acts; no condition. -/
namespace Go.Proofs.YthamafijjflfbaaGreat
open Go.RowKit

/-- A value of kind 1. -/
def fiveT : Dt.Tr 1 := ((1, 5, 0, ⟨#[]⟩, []) : Int × Int × Int × ByteArray × List (Dt.Tr 0))
theorem five_rep (w : World) : Dt.Rep w 1 [.int .i64 1, .int .i64 5, .int .u64 0, .string ⟨#[]⟩, .slice none 0 0] fiveT := ⟨none, 0, rfl, Nat.zero_le _, Nat.zero_le _, Nat.zero_le _, .inl rfl⟩
theorem try_five (w : World) : Calls Tryz.prog 10 #[.agg (acs 1 1 5 0 ⟨#[]⟩ none 0 0 0 0 0 ⟨#[]⟩ none 0 0 0)] w fun e w' => ∃ k u s a n c, e = .returned (.agg (rcs 0 0 0 0 true k 5 u s a n c)) ∧ Below w.heap.size w w' := by
  refine (tryGive w 0 fiveT (by decide) 1 5 0 ⟨#[]⟩ none 0 0 0 0 0 ⟨#[]⟩ none 0 0 0 (five_rep w) w (Below.refl _ _)).mono fun e w' ⟨k, i, u, s, a, n, c, he, rf, hb⟩ => ?_
  obtain ⟨_, _, q, -⟩ := rf
  simp only [List.cons.injEq, Value.int.injEq, true_and, and_true] at q
  obtain ⟨-, rfl, -⟩ := q
  exact ⟨k, u, s, a, n, c, he, hb⟩

set_option maxRecDepth 100000 in
set_option maxHeartbeats 1000000 in
theorem awake_any (w : World) : Calls Tryz.prog 8 #[] w fun e w' => e = .returned (.bool true) ∧ Below w.heap.size w w' := by
  have T1 : Hid (∀ w, Calls Tryz.prog 10 #[.agg (acs 8 0 0 0 ⟨#[]⟩ none 0 0 0 0 0 ⟨#[]⟩ none 0 0 7)] w fun e w' => e = .returned (.agg (rErr 110 0 1 7)) ∧ Below w.heap.size w w') := fun w => tryOwn 0 0 0 ⟨#[]⟩ none 0 0 0 0 0 ⟨#[]⟩ none 0 0 7 w
  have T2 := Lib.hid try_five
  go_enter Tryz.func8, Tryz.ntmps8
  go_wp2_with fail
  refine (T1.out _).mono ?_
  rintro e w1 ⟨rfl, b1⟩
  have R1 := Bk.new w1 (rErr 110 0 1 7) 35
  have a1 := below1 w1 (.cells (rErr 110 0 1 7) 35)
  have B1 := b1.trans (a1.mono b1.size)
  clear b1 a1
  go_wp2_with fail
  refine (T2.out _).mono ?_
  rintro e w2 ⟨k, u, s, a, n, c, rfl, b2⟩
  have B2 := B1.trans (b2.mono B1.size)
  have R2 := (R1.step b2).alloc (.cells (rcs 0 0 0 0 true k 5 u s a n c) 35)
  have Q2 := Bk.new w2 (rcs 0 0 0 0 true k 5 u s a n c) 35
  have a2 := below1 w2 (.cells (rcs 0 0 0 0 true k 5 u s a n c) 35)
  have B3 := B2.trans (a2.mono B2.size)
  clear b2 R1 B1 B2 a2
  obtain ⟨c0, c1, c2, c3, c4, c5, c6, c7, c8, c9⟩ := R2.c10
  obtain ⟨d0, d1, d2, d3, d4, d5, d6, d7, d8, d9⟩ := Q2.c10
  go_wp2
  go_ret
  exact ⟨rfl, B3⟩
end Go.Proofs.YthamafijjflfbaaGreat
/- The law GuardAsserts by its contracts: an act that asserts holds just where the pattern does, and one that asks for a size never panics; the conditions: the contracts. -/
namespace Go.Proofs.YthamafijjflfbaaGreat
open Go.RowKit

set_option maxRecDepth 100000 in
set_option maxHeartbeats 4000000 in
theorem ga_neg00 (k i b : Int) (s : ByteArray) (ad : Option Addr) (len cap : Nat) (n : Int) (w : World) (g0 : decide (0 < n) = false) (g2 : decide (0 ≤ n) = false)
    (HV : ∀ wx, Below w.heap.size w wx → Calls Tryz.prog 17 #[.agg #[.int .i64 k, .int .i64 i, .int .u64 b, .string s, .slice ad len cap]] wx fun e w' => e = .returned (.bool true) ∧ Below wx.heap.size wx w')
    (HA : ∀ wx, Below w.heap.size w wx → Calls Tryz.prog 10 #[.agg (acs 2 k i b s ad len cap 0 0 0 ⟨#[]⟩ none 0 0 n)] wx fun e w' => ∃ m', e = .returned (.agg (rErr 110 0 2 m')) ∧ Below wx.heap.size wx w')
    (HB : ∀ wx, Below w.heap.size w wx → Calls Tryz.prog 10 #[.agg (acs 3 k i b s ad len cap 0 0 0 ⟨#[]⟩ none 0 0 n)] wx fun e w' => ∃ m', e = .returned (.agg (rErr 110 0 2 m')) ∧ Below wx.heap.size wx w')
    (HS : ∀ wx, Below w.heap.size w wx → Calls Tryz.prog 10 #[.agg (acs 10 k i b s ad len cap 0 0 0 ⟨#[]⟩ none 0 0 0)] wx fun e w' => ∃ es hs k' i' u' s' a' n' c', e = .returned (.agg (rcs es 0 0 0 hs k' i' u' s' a' n' c')) ∧ (es = 0 ∨ es = 12) ∧ Below wx.heap.size wx w') :
    Calls Tryz.prog 5 #[.agg #[.int .i64 k, .int .i64 i, .int .u64 b, .string s, .slice ad len cap], .int .i64 n] w fun e w' => e = .returned (.bool true) ∧ Below w.heap.size w w' := by
  have HWh : Hid (∀ wx, Below w.heap.size w wx → Calls Tryz.prog 8 #[] wx fun e w' => e = .returned (.bool true) ∧ Below wx.heap.size wx w') := fun wx _ => awake_any wx
  have HVh := Lib.hid HV
  have HAh := Lib.hid HA
  have HBh := Lib.hid HB
  have HSh := Lib.hid HS
  clear HV HA HB HS
  have B0 := below1 w (.cells #[.int .i64 k, .int .i64 i, .int .u64 b, .string s, .slice ad len cap] 25)
  have D0 := Bk.new w #[.int .i64 k, .int .i64 i, .int .u64 b, .string s, .slice ad len cap] 25
  go_enter Tryz.func5, Tryz.ntmps5
  go_wp2_with fail
  refine (HVh.out _ B0).mono ?_
  rintro e w1 ⟨rfl, bw1⟩
  have B1 := B0.trans (bw1.mono B0.size)
  have D1 := D0.step bw1
  clear bw1 B0 D0
  obtain ⟨c0, c1, c2, c3, c4⟩ := D1.c5
  go_wp2_with fail
  refine (HAh.out _ B1).mono ?_
  rintro e w2 ⟨x1, rfl, bw2⟩
  have B2 := B1.trans (bw2.mono B1.size)
  have D2 := D1.step bw2
  have A2 := Bk.new w2 (rErr 110 0 2 x1) 35
  have e2 := below1 w2 (.cells (rErr 110 0 2 x1) 35)
  have B3 := B2.trans (e2.mono B2.size)
  have D3 := D2.step e2
  clear bw2 B1 D1 D2 e2 B2 c0 c1 c2 c3 c4
  obtain ⟨c0, c1, c2, c3, c4⟩ := D3.c5
  go_wp2_with fail
  refine (HBh.out _ B3).mono ?_
  rintro e w3 ⟨y1, rfl, bw3⟩
  have B4 := B3.trans (bw3.mono B3.size)
  have D4 := D3.step bw3
  have A4 := A2.step bw3
  have F4 := Bk.new w3 (rErr 110 0 2 y1) 35
  have e4 := below1 w3 (.cells (rErr 110 0 2 y1) 35)
  have B5 := B4.trans (e4.mono B4.size)
  have D5 := D4.step e4
  have A5 := A4.step e4
  clear bw3 B3 D3 D4 A2 A4 e4 B4 c0 c1 c2 c3 c4
  obtain ⟨c0, c1, c2, c3, c4⟩ := D5.c5
  obtain ⟨a0, a1, a2, a3, a4, -, -, -, -, -⟩ := A5.c10
  obtain ⟨f0, f1, f2, f3, f4, -, -, -, -, -⟩ := F4.c10
  go_wp2_with fail
  refine (HSh.out _ B5).mono ?_
  rintro e w6 ⟨es, hs, k', i', u', s', a', n', c', rfl, hes, bq⟩
  have B8 := B5.trans (bq.mono B5.size)
  have S8 := Bk.new w6 (rcs es 0 0 0 hs k' i' u' s' a' n' c') 35
  have e8 := below1 w6 (.cells (rcs es 0 0 0 hs k' i' u' s' a' n' c') 35)
  have B9 := B8.trans (e8.mono B8.size)
  rcases hes with rfl | rfl
  all_goals
    clear bq B5 D5 A5 F4 c0 c1 c2 c3 c4 a0 a1 a2 a3 a4 f0 f1 f2 f3 f4 e8 B8
    obtain ⟨a0, a1, a2, a3, a4, -, -, -, -, -⟩ := S8.c10
    go_wp2_with fail
    refine (HWh.out _ B9).mono ?_
    rintro e w7 ⟨rfl, bq⟩
    have B10 := B9.trans (bq.mono B9.size)
    go_wp2
    go_ret
    exact ⟨rfl, B10⟩

set_option maxRecDepth 100000 in
set_option maxHeartbeats 4000000 in
theorem ga_zero00 (k i b : Int) (s : ByteArray) (ad : Option Addr) (len cap : Nat) (n : Int) (w : World) (g0 : decide (0 < n) = false) (g2 : decide (0 ≤ n) = true) (g3 : decide (n < 10) = true)
    (HV : ∀ wx, Below w.heap.size w wx → Calls Tryz.prog 17 #[.agg #[.int .i64 k, .int .i64 i, .int .u64 b, .string s, .slice ad len cap]] wx fun e w' => e = .returned (.bool true) ∧ Below wx.heap.size wx w')
    (HA : ∀ wx, Below w.heap.size w wx → Calls Tryz.prog 10 #[.agg (acs 2 k i b s ad len cap 0 0 0 ⟨#[]⟩ none 0 0 n)] wx fun e w' => ∃ m', e = .returned (.agg (rErr 110 0 2 m')) ∧ Below wx.heap.size wx w')
    (HB : ∀ wx, Below w.heap.size w wx → Calls Tryz.prog 10 #[.agg (acs 3 k i b s ad len cap 0 0 0 ⟨#[]⟩ none 0 0 n)] wx fun e w' => ∃ m', e = .returned (.agg (rErr 110 0 2 m')) ∧ Below wx.heap.size wx w')
    (HF : ∀ wx, Below w.heap.size w wx → Calls Tryz.prog 18 #[.agg #[.int .i64 3, .int .i64 n, .slice none 0 0], .agg #[.int .i64 k, .int .i64 i, .int .u64 b, .string s, .slice ad len cap]] wx fun e w' => e = .returned (.bool false) ∧ Below wx.heap.size wx w')
    (HS : ∀ wx, Below w.heap.size w wx → Calls Tryz.prog 10 #[.agg (acs 10 k i b s ad len cap 0 0 0 ⟨#[]⟩ none 0 0 0)] wx fun e w' => ∃ es hs k' i' u' s' a' n' c', e = .returned (.agg (rcs es 0 0 0 hs k' i' u' s' a' n' c')) ∧ (es = 0 ∨ es = 12) ∧ Below wx.heap.size wx w') :
    Calls Tryz.prog 5 #[.agg #[.int .i64 k, .int .i64 i, .int .u64 b, .string s, .slice ad len cap], .int .i64 n] w fun e w' => e = .returned (.bool true) ∧ Below w.heap.size w w' := by
  have HWh : Hid (∀ wx, Below w.heap.size w wx → Calls Tryz.prog 8 #[] wx fun e w' => e = .returned (.bool true) ∧ Below wx.heap.size wx w') := fun wx _ => awake_any wx
  have HVh := Lib.hid HV
  have HAh := Lib.hid HA
  have HBh := Lib.hid HB
  have HFh := Lib.hid HF
  have HSh := Lib.hid HS
  clear HV HA HB HF HS
  have B0 := below1 w (.cells #[.int .i64 k, .int .i64 i, .int .u64 b, .string s, .slice ad len cap] 25)
  have D0 := Bk.new w #[.int .i64 k, .int .i64 i, .int .u64 b, .string s, .slice ad len cap] 25
  go_enter Tryz.func5, Tryz.ntmps5
  go_wp2_with fail
  refine (HVh.out _ B0).mono ?_
  rintro e w1 ⟨rfl, bw1⟩
  have B1 := B0.trans (bw1.mono B0.size)
  have D1 := D0.step bw1
  clear bw1 B0 D0
  obtain ⟨c0, c1, c2, c3, c4⟩ := D1.c5
  go_wp2_with fail
  refine (HAh.out _ B1).mono ?_
  rintro e w2 ⟨x1, rfl, bw2⟩
  have B2 := B1.trans (bw2.mono B1.size)
  have D2 := D1.step bw2
  have A2 := Bk.new w2 (rErr 110 0 2 x1) 35
  have e2 := below1 w2 (.cells (rErr 110 0 2 x1) 35)
  have B3 := B2.trans (e2.mono B2.size)
  have D3 := D2.step e2
  clear bw2 B1 D1 D2 e2 B2 c0 c1 c2 c3 c4
  obtain ⟨c0, c1, c2, c3, c4⟩ := D3.c5
  go_wp2_with fail
  refine (HBh.out _ B3).mono ?_
  rintro e w3 ⟨y1, rfl, bw3⟩
  have B4 := B3.trans (bw3.mono B3.size)
  have D4 := D3.step bw3
  have A4 := A2.step bw3
  have F4 := Bk.new w3 (rErr 110 0 2 y1) 35
  have e4 := below1 w3 (.cells (rErr 110 0 2 y1) 35)
  have B5 := B4.trans (e4.mono B4.size)
  have D5 := D4.step e4
  have A5 := A4.step e4
  clear bw3 B3 D3 D4 A2 A4 e4 B4 c0 c1 c2 c3 c4
  obtain ⟨c0, c1, c2, c3, c4⟩ := D5.c5
  go_wp2_with fail
  refine (HFh.out _ B5).mono ?_
  rintro e w5 ⟨rfl, bq⟩
  have B7 := B5.trans (bq.mono B5.size)
  have D7 := D5.step bq
  have A7 := A5.step bq
  have F7 := F4.step bq
  clear bq B5 D5 A5 F4 c0 c1 c2 c3 c4
  obtain ⟨c0, c1, c2, c3, c4⟩ := D7.c5
  obtain ⟨a0, a1, a2, a3, a4, -, -, -, -, -⟩ := A7.c10
  obtain ⟨f0, f1, f2, f3, f4, -, -, -, -, -⟩ := F7.c10
  go_wp2_with fail
  refine (HSh.out _ B7).mono ?_
  rintro e w6 ⟨es, hs, k', i', u', s', a', n', c', rfl, hes, bq⟩
  have B8 := B7.trans (bq.mono B7.size)
  have S8 := Bk.new w6 (rcs es 0 0 0 hs k' i' u' s' a' n' c') 35
  have e8 := below1 w6 (.cells (rcs es 0 0 0 hs k' i' u' s' a' n' c') 35)
  have B9 := B8.trans (e8.mono B8.size)
  rcases hes with rfl | rfl
  all_goals
    clear bq B7 D7 A7 F7 c0 c1 c2 c3 c4 a0 a1 a2 a3 a4 f0 f1 f2 f3 f4 e8 B8
    obtain ⟨a0, a1, a2, a3, a4, -, -, -, -, -⟩ := S8.c10
    go_wp2_with fail
    refine (HWh.out _ B9).mono ?_
    rintro e w7 ⟨rfl, bq⟩
    have B10 := B9.trans (bq.mono B9.size)
    go_wp2
    go_ret
    exact ⟨rfl, B10⟩

set_option maxRecDepth 100000 in
set_option maxHeartbeats 4000000 in
theorem ga_zero01 (k i b : Int) (s : ByteArray) (ad : Option Addr) (len cap : Nat) (n : Int) (w : World) (g0 : decide (0 < n) = false) (g2 : decide (0 ≤ n) = true) (g3 : decide (n < 10) = true)
    (HV : ∀ wx, Below w.heap.size w wx → Calls Tryz.prog 17 #[.agg #[.int .i64 k, .int .i64 i, .int .u64 b, .string s, .slice ad len cap]] wx fun e w' => e = .returned (.bool true) ∧ Below wx.heap.size wx w')
    (HA : ∀ wx, Below w.heap.size w wx → Calls Tryz.prog 10 #[.agg (acs 2 k i b s ad len cap 0 0 0 ⟨#[]⟩ none 0 0 n)] wx fun e w' => ∃ m', e = .returned (.agg (rErr 110 0 2 m')) ∧ Below wx.heap.size wx w')
    (HB : ∀ wx, Below w.heap.size w wx → Calls Tryz.prog 10 #[.agg (acs 3 k i b s ad len cap 0 0 0 ⟨#[]⟩ none 0 0 n)] wx fun e w' => ∃ k' i' u' s' a' n' c', e = .returned (.agg (rcs 0 0 0 0 true k' i' u' s' a' n' c')) ∧ Below wx.heap.size wx w')
    (HF : ∀ wx, Below w.heap.size w wx → Calls Tryz.prog 18 #[.agg #[.int .i64 3, .int .i64 n, .slice none 0 0], .agg #[.int .i64 k, .int .i64 i, .int .u64 b, .string s, .slice ad len cap]] wx fun e w' => e = .returned (.bool true) ∧ Below wx.heap.size wx w')
    (HS : ∀ wx, Below w.heap.size w wx → Calls Tryz.prog 10 #[.agg (acs 10 k i b s ad len cap 0 0 0 ⟨#[]⟩ none 0 0 0)] wx fun e w' => ∃ es hs k' i' u' s' a' n' c', e = .returned (.agg (rcs es 0 0 0 hs k' i' u' s' a' n' c')) ∧ (es = 0 ∨ es = 12) ∧ Below wx.heap.size wx w') :
    Calls Tryz.prog 5 #[.agg #[.int .i64 k, .int .i64 i, .int .u64 b, .string s, .slice ad len cap], .int .i64 n] w fun e w' => e = .returned (.bool true) ∧ Below w.heap.size w w' := by
  have HWh : Hid (∀ wx, Below w.heap.size w wx → Calls Tryz.prog 8 #[] wx fun e w' => e = .returned (.bool true) ∧ Below wx.heap.size wx w') := fun wx _ => awake_any wx
  have HVh := Lib.hid HV
  have HAh := Lib.hid HA
  have HBh := Lib.hid HB
  have HFh := Lib.hid HF
  have HSh := Lib.hid HS
  clear HV HA HB HF HS
  have B0 := below1 w (.cells #[.int .i64 k, .int .i64 i, .int .u64 b, .string s, .slice ad len cap] 25)
  have D0 := Bk.new w #[.int .i64 k, .int .i64 i, .int .u64 b, .string s, .slice ad len cap] 25
  go_enter Tryz.func5, Tryz.ntmps5
  go_wp2_with fail
  refine (HVh.out _ B0).mono ?_
  rintro e w1 ⟨rfl, bw1⟩
  have B1 := B0.trans (bw1.mono B0.size)
  have D1 := D0.step bw1
  clear bw1 B0 D0
  obtain ⟨c0, c1, c2, c3, c4⟩ := D1.c5
  go_wp2_with fail
  refine (HAh.out _ B1).mono ?_
  rintro e w2 ⟨x1, rfl, bw2⟩
  have B2 := B1.trans (bw2.mono B1.size)
  have D2 := D1.step bw2
  have A2 := Bk.new w2 (rErr 110 0 2 x1) 35
  have e2 := below1 w2 (.cells (rErr 110 0 2 x1) 35)
  have B3 := B2.trans (e2.mono B2.size)
  have D3 := D2.step e2
  clear bw2 B1 D1 D2 e2 B2 c0 c1 c2 c3 c4
  obtain ⟨c0, c1, c2, c3, c4⟩ := D3.c5
  go_wp2_with fail
  refine (HBh.out _ B3).mono ?_
  rintro e w3 ⟨y1, y2, y3, y4, y5, y6, y7, rfl, bw3⟩
  have B4 := B3.trans (bw3.mono B3.size)
  have D4 := D3.step bw3
  have A4 := A2.step bw3
  have F4 := Bk.new w3 (rcs 0 0 0 0 true y1 y2 y3 y4 y5 y6 y7) 35
  have e4 := below1 w3 (.cells (rcs 0 0 0 0 true y1 y2 y3 y4 y5 y6 y7) 35)
  have B5 := B4.trans (e4.mono B4.size)
  have D5 := D4.step e4
  have A5 := A4.step e4
  clear bw3 B3 D3 D4 A2 A4 e4 B4 c0 c1 c2 c3 c4
  obtain ⟨c0, c1, c2, c3, c4⟩ := D5.c5
  go_wp2_with fail
  refine (HFh.out _ B5).mono ?_
  rintro e w5 ⟨rfl, bq⟩
  have B7 := B5.trans (bq.mono B5.size)
  have D7 := D5.step bq
  have A7 := A5.step bq
  have F7 := F4.step bq
  clear bq B5 D5 A5 F4 c0 c1 c2 c3 c4
  obtain ⟨c0, c1, c2, c3, c4⟩ := D7.c5
  obtain ⟨a0, a1, a2, a3, a4, -, -, -, -, -⟩ := A7.c10
  obtain ⟨f0, f1, f2, f3, f4, -, -, -, -, -⟩ := F7.c10
  go_wp2_with fail
  refine (HSh.out _ B7).mono ?_
  rintro e w6 ⟨es, hs, k', i', u', s', a', n', c', rfl, hes, bq⟩
  have B8 := B7.trans (bq.mono B7.size)
  have S8 := Bk.new w6 (rcs es 0 0 0 hs k' i' u' s' a' n' c') 35
  have e8 := below1 w6 (.cells (rcs es 0 0 0 hs k' i' u' s' a' n' c') 35)
  have B9 := B8.trans (e8.mono B8.size)
  rcases hes with rfl | rfl
  all_goals
    clear bq B7 D7 A7 F7 c0 c1 c2 c3 c4 a0 a1 a2 a3 a4 f0 f1 f2 f3 f4 e8 B8
    obtain ⟨a0, a1, a2, a3, a4, -, -, -, -, -⟩ := S8.c10
    go_wp2_with fail
    refine (HWh.out _ B9).mono ?_
    rintro e w7 ⟨rfl, bq⟩
    have B10 := B9.trans (bq.mono B9.size)
    go_wp2
    go_ret
    exact ⟨rfl, B10⟩

set_option maxRecDepth 100000 in
set_option maxHeartbeats 4000000 in
theorem ga_low00 (k i b : Int) (s : ByteArray) (ad : Option Addr) (len cap : Nat) (n : Int) (w : World) (g0 : decide (0 < n) = true) (g1 : decide (n < 14) = true) (g2 : decide (0 ≤ n) = true) (g3 : decide (n < 10) = true)
    (HV : ∀ wx, Below w.heap.size w wx → Calls Tryz.prog 17 #[.agg #[.int .i64 k, .int .i64 i, .int .u64 b, .string s, .slice ad len cap]] wx fun e w' => e = .returned (.bool true) ∧ Below wx.heap.size wx w')
    (HA : ∀ wx, Below w.heap.size w wx → Calls Tryz.prog 10 #[.agg (acs 2 k i b s ad len cap 0 0 0 ⟨#[]⟩ none 0 0 n)] wx fun e w' => ∃ m', e = .returned (.agg (rErr 110 0 2 m')) ∧ Below wx.heap.size wx w')
    (HB : ∀ wx, Below w.heap.size w wx → Calls Tryz.prog 10 #[.agg (acs 3 k i b s ad len cap 0 0 0 ⟨#[]⟩ none 0 0 n)] wx fun e w' => ∃ m', e = .returned (.agg (rErr 110 0 2 m')) ∧ Below wx.heap.size wx w')
    (HK : ∀ wx, Below w.heap.size w wx → Calls Tryz.prog 18 #[.agg #[.int .i64 2, .int .i64 n, .slice none 0 0], .agg #[.int .i64 k, .int .i64 i, .int .u64 b, .string s, .slice ad len cap]] wx fun e w' => e = .returned (.bool false) ∧ Below wx.heap.size wx w')
    (HF : ∀ wx, Below w.heap.size w wx → Calls Tryz.prog 18 #[.agg #[.int .i64 3, .int .i64 n, .slice none 0 0], .agg #[.int .i64 k, .int .i64 i, .int .u64 b, .string s, .slice ad len cap]] wx fun e w' => e = .returned (.bool false) ∧ Below wx.heap.size wx w')
    (HS : ∀ wx, Below w.heap.size w wx → Calls Tryz.prog 10 #[.agg (acs 10 k i b s ad len cap 0 0 0 ⟨#[]⟩ none 0 0 0)] wx fun e w' => ∃ es hs k' i' u' s' a' n' c', e = .returned (.agg (rcs es 0 0 0 hs k' i' u' s' a' n' c')) ∧ (es = 0 ∨ es = 12) ∧ Below wx.heap.size wx w') :
    Calls Tryz.prog 5 #[.agg #[.int .i64 k, .int .i64 i, .int .u64 b, .string s, .slice ad len cap], .int .i64 n] w fun e w' => e = .returned (.bool true) ∧ Below w.heap.size w w' := by
  have HWh : Hid (∀ wx, Below w.heap.size w wx → Calls Tryz.prog 8 #[] wx fun e w' => e = .returned (.bool true) ∧ Below wx.heap.size wx w') := fun wx _ => awake_any wx
  have HVh := Lib.hid HV
  have HAh := Lib.hid HA
  have HBh := Lib.hid HB
  have HKh := Lib.hid HK
  have HFh := Lib.hid HF
  have HSh := Lib.hid HS
  clear HV HA HB HK HF HS
  have B0 := below1 w (.cells #[.int .i64 k, .int .i64 i, .int .u64 b, .string s, .slice ad len cap] 25)
  have D0 := Bk.new w #[.int .i64 k, .int .i64 i, .int .u64 b, .string s, .slice ad len cap] 25
  go_enter Tryz.func5, Tryz.ntmps5
  go_wp2_with fail
  refine (HVh.out _ B0).mono ?_
  rintro e w1 ⟨rfl, bw1⟩
  have B1 := B0.trans (bw1.mono B0.size)
  have D1 := D0.step bw1
  clear bw1 B0 D0
  obtain ⟨c0, c1, c2, c3, c4⟩ := D1.c5
  go_wp2_with fail
  refine (HAh.out _ B1).mono ?_
  rintro e w2 ⟨x1, rfl, bw2⟩
  have B2 := B1.trans (bw2.mono B1.size)
  have D2 := D1.step bw2
  have A2 := Bk.new w2 (rErr 110 0 2 x1) 35
  have e2 := below1 w2 (.cells (rErr 110 0 2 x1) 35)
  have B3 := B2.trans (e2.mono B2.size)
  have D3 := D2.step e2
  clear bw2 B1 D1 D2 e2 B2 c0 c1 c2 c3 c4
  obtain ⟨c0, c1, c2, c3, c4⟩ := D3.c5
  go_wp2_with fail
  refine (HBh.out _ B3).mono ?_
  rintro e w3 ⟨y1, rfl, bw3⟩
  have B4 := B3.trans (bw3.mono B3.size)
  have D4 := D3.step bw3
  have A4 := A2.step bw3
  have F4 := Bk.new w3 (rErr 110 0 2 y1) 35
  have e4 := below1 w3 (.cells (rErr 110 0 2 y1) 35)
  have B5 := B4.trans (e4.mono B4.size)
  have D5 := D4.step e4
  have A5 := A4.step e4
  clear bw3 B3 D3 D4 A2 A4 e4 B4 c0 c1 c2 c3 c4
  obtain ⟨c0, c1, c2, c3, c4⟩ := D5.c5
  go_wp2_with fail
  refine (HKh.out _ B5).mono ?_
  rintro e w4 ⟨rfl, bq⟩
  have B6 := B5.trans (bq.mono B5.size)
  have D6 := D5.step bq
  have A6 := A5.step bq
  have F6 := F4.step bq
  clear bq B5 D5 A5 F4 c0 c1 c2 c3 c4
  obtain ⟨c0, c1, c2, c3, c4⟩ := D6.c5
  go_wp2_with fail
  refine (HFh.out _ B6).mono ?_
  rintro e w5 ⟨rfl, bq⟩
  have B7 := B6.trans (bq.mono B6.size)
  have D7 := D6.step bq
  have A7 := A6.step bq
  have F7 := F6.step bq
  clear bq B6 D6 A6 F6 c0 c1 c2 c3 c4
  obtain ⟨c0, c1, c2, c3, c4⟩ := D7.c5
  obtain ⟨a0, a1, a2, a3, a4, -, -, -, -, -⟩ := A7.c10
  obtain ⟨f0, f1, f2, f3, f4, -, -, -, -, -⟩ := F7.c10
  go_wp2_with fail
  refine (HSh.out _ B7).mono ?_
  rintro e w6 ⟨es, hs, k', i', u', s', a', n', c', rfl, hes, bq⟩
  have B8 := B7.trans (bq.mono B7.size)
  have S8 := Bk.new w6 (rcs es 0 0 0 hs k' i' u' s' a' n' c') 35
  have e8 := below1 w6 (.cells (rcs es 0 0 0 hs k' i' u' s' a' n' c') 35)
  have B9 := B8.trans (e8.mono B8.size)
  rcases hes with rfl | rfl
  all_goals
    clear bq B7 D7 A7 F7 c0 c1 c2 c3 c4 a0 a1 a2 a3 a4 f0 f1 f2 f3 f4 e8 B8
    obtain ⟨a0, a1, a2, a3, a4, -, -, -, -, -⟩ := S8.c10
    go_wp2_with fail
    refine (HWh.out _ B9).mono ?_
    rintro e w7 ⟨rfl, bq⟩
    have B10 := B9.trans (bq.mono B9.size)
    go_wp2
    go_ret
    exact ⟨rfl, B10⟩
end Go.Proofs.YthamafijjflfbaaGreat
