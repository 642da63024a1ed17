/- Acts over a value's tree, tried: given, asserted to a kind or to an interface, asked for its size, and the acts that panic of themselves; the conditions: the tree in memory, valid, its bits within 64. -/
import Derived.Test.YtajagjcfmaggiaaGreatDoorKCbc
import Derived.Test.YtajagjcfmaggiaaGreatDoorKCce
import Derived.Test.YtajagjcfmaggiaaGreatDoorKCch
import Derived.Test.YtajagjcfmaggiaaGreatDoorKCci
import Derived.Laws.StructEq
import Derived.LaidEql
import Derived.Deep.RegionHeld3
import Derived.Test.YtajagjcfmaggiaaGreatDoorKCah
import Derived.Test.YtajagjcfmaggiaaGreatDoorKCag
import Derived.MapKept
import Derived.Defers
import Derived.Recover
import Derived.Test.YtajagjcfmaggiaaGreatDoorKCbg
namespace Go.Proofs.YtajagjcfmaggiaaGreatDoor
open Go.RowKit

theorem st_rf (H m : Nat) (t : Dt.Tr m) : St H (fun k i u s a n c w' => Dt.Rf (fun g => H ≤ g ∧ g < w'.heap.size) w' m [.int .i64 k, .int .i64 i, .int .u64 u, .string s, .slice a n c] t) := fun _ _ _ _ _ _ _ _ _ h h1 h2 =>
  Dt.Rf.to (fun g hg => ⟨⟨hg.1, Nat.lt_of_lt_of_le hg.2 h1⟩, h2 g hg.1 hg.2⟩) _ _ _ h
theorem st_four {H N : Nat} {P : BodyP} (h : St H P) (hN : N + 4 ≤ H) : ∀ k i u s a n c w' w'', P k i u s a n c w' → w'.heap.size ≤ w''.heap.size → (∀ g, g < w'.heap.size → g ≠ N + 1 → g ≠ N + 2 → g ≠ N + 3 → w''.heap[g]? = w'.heap[g]?) → P k i u s a n c w'' :=
  fun _ _ _ _ _ _ _ _ _ h1 h2 h3 => h _ _ _ _ _ _ _ _ _ h1 h2 fun g g1 g2 => h3 g g2 (by omega) (by omega) (by omega)

theorem copy_rf (W0 : World) (m : Nat) (t : Dt.Tr (m + 1)) (hps : (Dt.pts (m + 1) t).1 ≤ 4096) (k i u : Int) (s : ByteArray) (a : Option Addr) (n c : Nat) (hrep : Dt.Rep W0 (m + 1) [.int .i64 k, .int .i64 i, .int .u64 u, .string s, .slice a n c] t) (w : World) (hb : Below W0.heap.size W0 w) (H : Nat) (hH : H ≤ w.heap.size) :
    Calls Tryz.prog 36 #[.agg #[.int .i64 k, .int .i64 i, .int .u64 u, .string s, .slice a n c]] w fun e w' => ∃ k i u s a n c, e = .returned (.agg #[.int .i64 k, .int .i64 i, .int .u64 u, .string s, .slice a n c]) ∧ Dt.Rf (fun g => H ≤ g ∧ g < w'.heap.size) w' (m + 1) [.int .i64 k, .int .i64 i, .int .u64 u, .string s, .slice a n c] t ∧ Below w.heap.size w w' :=
  (Dt.vcopy (m + 1) t _ _ _ _ _ w (Dt.Rep.below hb _ _ _ hrep) hps).mono fun e w' ⟨k, i, u, s, a, n, c, he, rf, hb'⟩ => ⟨k, i, u, s, a, n, c, he, Dt.Rf.to (fun g hg => ⟨⟨by omega, hg.2⟩, rfl⟩) _ _ _ rf, hb'⟩

theorem tryAssert (W0 : World) (m : Nat) (t : Dt.Tr (m + 1)) (hrg : Dt.rgt (m + 1) t = true) (hps : (Dt.pts (m + 1) t).1 ≤ 4096) (h6 : Dt.r64 (m + 1) t) (ak ai au : Int) (az : ByteArray) (aa : Option Addr) (an ac : Nat) (bk bi bu : Int) (bs : ByteArray) (ba : Option Addr) (bn bc : Nat) (num : Int) (hrep : Dt.Rep W0 (m + 1) [.int .i64 ak, .int .i64 ai, .int .u64 au, .string az, .slice aa an ac] t) (w : World) (hb : Below W0.heap.size W0 w) (hq : tkd num ak = true) :
    Calls Tryz.prog 77 #[.agg (acs 2 ak ai au az aa an ac bk bi bu bs ba bn bc num)] w fun e w' => ∃ k i u s a n c, e = .returned (.agg (rcs 0 0 0 0 true k i u s a n c)) ∧ Dt.Rf (fun g => w.heap.size + 8 ≤ g ∧ g < w'.heap.size) w' (m + 1) [.int .i64 k, .int .i64 i, .int .u64 u, .string s, .slice a n c] t ∧ Below w.heap.size w w' := by
  have S := st_rf (w.heap.size + 8) (m + 1) t
  refine try_ret 2 ak ai au az aa an ac bk bi bu bs ba bn bc num w 0 0 0 0 true _ (st_four S (by omega)) fun wx hx zx => ?_
  refine done_assert ak ai au az aa an ac bk bi bu bs ba bn bc num wx (w.heap.size + 8) (by omega) _ S fun wy hy zy => ?_
  refine pmust_yes ak ai au az aa an ac num wy (w.heap.size + 8) (by omega) _ S fun wz hz zz => ?_
  have hB : Below W0.heap.size W0 wz := ((hb.trans (hx.mono hb.size)).trans (hy.mono (by have := hb.size; omega))).trans (hz.mono (by have := hb.size; omega))
  refine (must_yes (m + 1) t hrg h6 hps ak ai au az aa an ac num wz hq fun wq hq' => of_val W0 m t ak ai au az aa an ac wq hrg hps hrep (hB.trans (hq'.mono hB.size))).mono fun e w' ⟨v0, v1, v2, v3, v4, he, rf, hb'⟩ => ?_
  obtain ⟨u0, u1, u2, u3, a4, n4, c4', rfl, rfl, rfl, rfl, rfl⟩ := Dt.rep_shape (Dt.Rf.rep _ _ _ rf)
  exact ⟨u0, u1, u2, u3, a4, n4, c4', he, Dt.Rf.to (fun g hg => ⟨⟨by omega, hg.2⟩, rfl⟩) _ _ _ rf, hb'⟩

theorem tryAssert_no (W0 : World) (m : Nat) (t : Dt.Tr (m + 1)) (hrg : Dt.rgt (m + 1) t = true) (hps : (Dt.pts (m + 1) t).1 ≤ 4096) (ak ai au : Int) (az : ByteArray) (aa : Option Addr) (an ac : Nat) (bk bi bu : Int) (bs : ByteArray) (ba : Option Addr) (bn bc : Nat) (num : Int) (hrep : Dt.Rep W0 (m + 1) [.int .i64 ak, .int .i64 ai, .int .u64 au, .string az, .slice aa an ac] t) (w : World) (hb : Below W0.heap.size W0 w) (hq : tkd num ak = false) :
    Calls Tryz.prog 77 #[.agg (acs 2 ak ai au az aa an ac bk bi bu bs ba bn bc num)] w fun e w' => e = .returned (.agg (rErr 110 0 2 ak)) ∧ Below w.heap.size w w' := by
  refine try_pan 2 ak ai au az aa an ac bk bi bu bs ba bn bc num w 182 (.int .i64 ak) 2 ak (ptold_assert ak) fun wx hx zx => ?_
  refine done_assert_no ak ai au az aa an ac bk bi bu bs ba bn bc num wx fun wy hy => ?_
  refine pmust_no ak ai au az aa an ac num wy fun wz hz => ?_
  have hB : Below W0.heap.size W0 wz := ((hb.trans (hx.mono hb.size)).trans (hy.mono (by have := hb.size; omega))).trans (hz.mono (by have := hb.size; have := hy.size; omega))
  obtain ⟨F, hm, hM⟩ := type_musts num
  exact must_fail ak ai au az aa an ac num (qty num) F wz rfl hm (fun u w hu => (hM ak u w hu).2 hq) fun wq hq' => (of_val W0 m t ak ai au az aa an ac wq hrg hps hrep (hB.trans (hq'.mono hB.size))).mono fun e w' ⟨u, a, c, _, d⟩ => ⟨u, a, c, d⟩

theorem tryFace (W0 : World) (m : Nat) (t : Dt.Tr (m + 1)) (hps : (Dt.pts (m + 1) t).1 ≤ 4096) (ak ai au : Int) (az : ByteArray) (aa : Option Addr) (an ac : Nat) (bk bi bu : Int) (bs : ByteArray) (ba : Option Addr) (bn bc : Nat) (num : Int) (hrep : Dt.Rep W0 (m + 1) [.int .i64 ak, .int .i64 ai, .int .u64 au, .string az, .slice aa an ac] t) (w : World) (hb : Below W0.heap.size W0 w) (hq : impl ak num = true) :
    Calls Tryz.prog 77 #[.agg (acs 3 ak ai au az aa an ac bk bi bu bs ba bn bc num)] w fun e w' => ∃ k i u s a n c, e = .returned (.agg (rcs 0 0 0 0 true k i u s a n c)) ∧ Dt.Rf (fun g => w.heap.size + 6 ≤ g ∧ g < w'.heap.size) w' (m + 1) [.int .i64 k, .int .i64 i, .int .u64 u, .string s, .slice a n c] t ∧ Below w.heap.size w w' := by
  have S := st_rf (w.heap.size + 6) (m + 1) t
  refine try_ret 3 ak ai au az aa an ac bk bi bu bs ba bn bc num w 0 0 0 0 true _ (st_four S (by omega)) fun wx hx zx => ?_
  refine done_face ak ai au az aa an ac bk bi bu bs ba bn bc num wx (w.heap.size + 6) (by omega) _ S (fun wy hy zy => ?_) fun wy hy zy => ?_
  · exact pface_yes ak ai au az aa an ac num wy fun wz hz => mustFace_yes ak ai au az aa an ac num wz hq
  · exact copy_rf W0 m t hps ak ai au az aa an ac hrep wy ((hb.trans (hx.mono hb.size)).trans (hy.mono (by have := hb.size; omega))) _ (by omega)

theorem tryFace_no (ak ai au : Int) (az : ByteArray) (aa : Option Addr) (an ac : Nat) (bk bi bu : Int) (bs : ByteArray) (ba : Option Addr) (bn bc : Nat) (num : Int) (w : World) (hq : impl ak num = false) :
    Calls Tryz.prog 77 #[.agg (acs 3 ak ai au az aa an ac bk bi bu bs ba bn bc num)] w fun e w' => e = .returned (.agg (rErr 110 0 2 (lackM ak num))) ∧ Below w.heap.size w w' := by
  refine try_pan 3 ak ai au az aa an ac bk bi bu bs ba bn bc num w 182 (.int .i64 (lackM ak num)) 2 (lackM ak num) (ptold_assert (lackM ak num)) fun wx hx zx => ?_
  refine done_face_no ak ai au az aa an ac bk bi bu bs ba bn bc num (lackM ak num) wx fun wy hy => ?_
  exact pface_no ak ai au az aa an ac num (lackM ak num) wy fun wz hz => mustFace_no ak ai au az aa an ac num wz hq

set_option maxRecDepth 100000 in
/-- What stands for a tree tells its size, where its kind has one. -/
theorem szd_of {F : Nat → Prop} {w : World} {m : Nat} {v : Value} {t : Dt.Tr (m + 1)} (h : Dt.VR F w (m + 1) v t) (h0 : (Dt.lenP t.kd t.tx.size t.ks.length).2 = 0) : Szd v (Dt.lenP t.kd t.tx.size t.ks.length).1 := by
  rcases Dt.vr_cases h with ⟨q, rfl⟩ | ⟨q, rfl⟩ | ⟨q, rfl⟩ | ⟨q, rfl⟩ | ⟨q, rfl⟩ | ⟨q, rfl⟩ | ⟨q, rfl⟩ | ⟨q, a, c, rfl⟩ | ⟨q, a, c, rfl⟩ | ⟨q, x, y, rfl, hx, hy⟩ | ⟨q, rfl⟩ | ⟨q, b, u, rfl, hh, hu⟩ | ⟨q, rfl⟩ | ⟨q, rfl⟩
  all_goals (simp [q, Dt.lenP] at h0 <;> simp [q, Dt.lenP])
  · exact ⟨_, _, 160, rfl, fun _ => by kernel_rfl, fun _ _ => by kernel_rfl, fun w => run_typeAssert_hasB Tryz.underlying204 (by kernel_rfl) _ _ w, fun w => (Dt.sizeText _ w).mono fun e w' ⟨h1, h2⟩ => ⟨h1, h2 ▸ Below.refl _ _⟩⟩
  · exact ⟨_, _, 216, rfl, fun _ => by kernel_rfl, fun _ _ => by kernel_rfl, fun w => run_typeAssert_hasB Tryz.underlying204 (by kernel_rfl) _ _ w, fun w => (Dt.sizeName _ w).mono fun e w' ⟨h1, h2⟩ => ⟨h1, h2 ▸ Below.refl _ _⟩⟩
  · exact ⟨_, _, 217, rfl, fun _ => by kernel_rfl, fun _ _ => by kernel_rfl, fun w => run_typeAssert_hasB Tryz.underlying204 (by kernel_rfl) _ _ w, fun w => (Dt.sizeOct _ _ _ w).mono fun e w' ⟨h1, h2⟩ => ⟨h1, h2 ▸ Below.refl _ _⟩⟩
  · exact ⟨_, _, 218, rfl, fun _ => by kernel_rfl, fun _ _ => by kernel_rfl, fun w => run_typeAssert_hasB Tryz.underlying204 (by kernel_rfl) _ _ w, fun w => (Dt.sizeRow _ _ _ w).mono fun e w' ⟨h1, h2⟩ => ⟨h1, h2 ▸ Below.refl _ _⟩⟩
  · exact ⟨_, _, 219, rfl, fun _ => by kernel_rfl, fun _ _ => by kernel_rfl, fun w => run_typeAssert_hasB Tryz.underlying204 (by kernel_rfl) _ _ w, fun w => Dt.sizePair _ _ hx hy w⟩
  · exact ⟨_, _, 224, rfl, fun _ => by kernel_rfl, fun _ _ => by kernel_rfl, fun w => run_typeAssert_hasB Tryz.underlying204 (by kernel_rfl) _ _ w, fun w => (Dt.sizeBox _ w).mono fun e w' ⟨h1, h2⟩ => ⟨h1, h2 ▸ Below.refl _ _⟩⟩
  · exact ⟨_, _, 224, rfl, fun _ => by kernel_rfl, fun _ _ => by kernel_rfl, fun w => run_typeAssert_hasB Tryz.underlying204 (by kernel_rfl) _ _ w, fun w => (Dt.sizeNob w).mono fun e w' ⟨h1, h2⟩ => ⟨h1, h2 ▸ Below.refl _ _⟩⟩
set_option maxRecDepth 100000 in
theorem nosz_of {F : Nat → Prop} {w : World} {m : Nat} {v : Value} {t : Dt.Tr (m + 1)} (h : Dt.VR F w (m + 1) v t) (h0 : (Dt.lenP t.kd t.tx.size t.ks.length).2 ≠ 0) : Sx v ∧ ∀ w : World, (Instr.typeAssert v 20 204 true).run Tryz.prog w = .ok (.tuple #[.nilIface, .bool false]) w := by
  rcases Dt.vr_cases h with ⟨q, rfl⟩ | ⟨q, rfl⟩ | ⟨q, rfl⟩ | ⟨q, rfl⟩ | ⟨q, rfl⟩ | ⟨q, rfl⟩ | ⟨q, rfl⟩ | ⟨q, a, c, rfl⟩ | ⟨q, a, c, rfl⟩ | ⟨q, x, y, rfl, hx, hy⟩ | ⟨q, rfl⟩ | ⟨q, b, u, rfl, hh, hu⟩ | ⟨q, rfl⟩ | ⟨q, rfl⟩
  all_goals first | (exfalso; simp [q, Dt.lenP] at h0; done) | exact ⟨.inl rfl, fun w => assert_nil Tryz.underlying204 (by kernel_rfl)⟩ | exact ⟨.inr ⟨_, _, rfl⟩, fun w => run_typeAssert_lacksB Tryz.underlying204 (by kernel_rfl) (by kernel_rfl) _ _ w⟩

theorem trySize (W0 : World) (m : Nat) (t : Dt.Tr (m + 1)) (hrg : Dt.rgt (m + 1) t = true) (hps : (Dt.pts (m + 1) t).1 ≤ 4096) (ak ai au : Int) (az : ByteArray) (aa : Option Addr) (an ac : Nat) (bk bi bu : Int) (bs : ByteArray) (ba : Option Addr) (bn bc : Nat) (num : Int) (hrep : Dt.Rep W0 (m + 1) [.int .i64 ak, .int .i64 ai, .int .u64 au, .string az, .slice aa an ac] t) (w : World) (hb : Below W0.heap.size W0 w) :
    Calls Tryz.prog 77 #[.agg (acs 10 ak ai au az aa an ac bk bi bu bs ba bn bc num)] w fun e w' => e = .returned (.agg (if (Dt.lenP t.kd t.tx.size t.ks.length).2 = 0 then rcs 0 0 0 0 true 1 (Dt.lenP t.kd t.tx.size t.ks.length).1 0 ⟨#[]⟩ none 0 0 else rErr 12 0 0 0)) ∧ Below w.heap.size w w' := by
  have hB : ∀ wx wy wz : World, Below w.heap.size w wx → Below wx.heap.size wx wy → Below wy.heap.size wy wz → Below W0.heap.size W0 wz := fun wx wy wz hx hy hz => ((hb.trans (hx.mono hb.size)).trans (hy.mono (by have := hb.size; have := hx.size; omega))).trans (hz.mono (by have := hb.size; have := hx.size; have := hy.size; omega))
  by_cases h0 : (Dt.lenP t.kd t.tx.size t.ks.length).2 = 0
  · simp only [if_pos h0]
    obtain ⟨r, hr⟩ : ∃ r, (Dt.lenP t.kd t.tx.size t.ks.length).1 = r := ⟨_, rfl⟩
    rw [hr]
    have S : St (w.heap.size + 6) (fun k i u s a n c _ => k = 1 ∧ i = r ∧ u = 0 ∧ s = ⟨#[]⟩ ∧ a = none ∧ n = 0 ∧ c = 0) := fun _ _ _ _ _ _ _ _ _ h _ _ => h
    refine (try_ret 10 ak ai au az aa an ac bk bi bu bs ba bn bc num w 0 0 0 0 true _ (st_four S (by omega)) fun wx hx zx => done_size ak ai au az aa an ac bk bi bu bs ba bn bc num wx 0 true (w.heap.size + 6) (by omega) _ S fun wy hy zy => (size_yes ak ai au r az aa an ac wy fun wz hz => (of_val W0 m t ak ai au az aa an ac wz hrg hps hrep (hB wx wy wz hx hy hz)).mono fun e w' ⟨v, he, _, vr, hb'⟩ => ⟨v, he, hr ▸ szd_of vr.out h0, hb'⟩).mono fun e w' ⟨he, hb'⟩ => ⟨1, r, 0, ⟨#[]⟩, none, 0, 0, he, ⟨rfl, rfl, rfl, rfl, rfl, rfl, rfl⟩, hb'⟩).mono fun e w' ⟨k, i, u, s, a, n, c, he, ⟨q1, q2, q3, q4, q5, q6, q7⟩, hb'⟩ => ?_
    subst q1 q2 q3 q4 q5 q6 q7
    exact ⟨he, hb'⟩
  · simp only [if_neg h0]
    have S : St (w.heap.size + 6) (fun k i u s a n c _ => k = 0 ∧ i = 0 ∧ u = 0 ∧ s = ⟨#[]⟩ ∧ a = none ∧ n = 0 ∧ c = 0) := fun _ _ _ _ _ _ _ _ _ h _ _ => h
    refine (try_ret 10 ak ai au az aa an ac bk bi bu bs ba bn bc num w 12 0 0 0 false _ (st_four S (by omega)) fun wx hx zx => done_size ak ai au az aa an ac bk bi bu bs ba bn bc num wx 12 false (w.heap.size + 6) (by omega) _ S fun wy hy zy => (size_no ak ai au az aa an ac wy fun wz hz => (of_val W0 m t ak ai au az aa an ac wz hrg hps hrep (hB wx wy wz hx hy hz)).mono fun e w' ⟨v, he, _, vr, hb'⟩ => ⟨v, he, (nosz_of vr.out h0).1, (nosz_of vr.out h0).2, hb'⟩).mono fun e w' ⟨he, hb'⟩ => ⟨0, 0, 0, ⟨#[]⟩, none, 0, 0, he, ⟨rfl, rfl, rfl, rfl, rfl, rfl, rfl⟩, hb'⟩).mono fun e w' ⟨k, i, u, s, a, n, c, he, ⟨q1, q2, q3, q4, q5, q6, q7⟩, hb'⟩ => ?_
    subst q1 q2 q3 q4 q5 q6 q7
    exact ⟨he, hb'⟩
end Go.Proofs.YtajagjcfmaggiaaGreatDoor
/- The == of two values that the package makes of trees, with boxes by number: what the document says, or the panic of a type that is not comparable; the conditions: the trees valid, the boxes alive and apart. -/
namespace Go.Proofs.YtajagjcfmaggiaaGreatDoor.Dt
open Go.RowKit
theorem q1 (d : Nat) (i j : Int) (w : World) : (Op.equalIn (d + 2) 20 (.iface 140 (.int .i64 i)) (.iface 140 (.int .i64 j))).run Tryz.prog w = .ok (i == j) w := by kernel_rfl
theorem q2 (d : Nat) (i j : Int) (w : World) : (Op.equalIn (d + 2) 20 (.iface 141 (.int .i64 i)) (.iface 141 (.int .i64 j))).run Tryz.prog w = .ok (i == j) w := by kernel_rfl
theorem q3 (d : Nat) (i j : Nat) (w : World) : (Op.equalIn (d + 2) 20 (.iface 142 (.float .f64 i)) (.iface 142 (.float .f64 j))).run Tryz.prog w = .ok (FloatKind.f64.format.order i j == some .eq) w := by kernel_rfl
theorem q4 (d : Nat) (i j : ByteArray) (w : World) : (Op.equalIn (d + 2) 20 (.iface 101 (.string i)) (.iface 101 (.string j))).run Tryz.prog w = .ok (i == j) w := by kernel_rfl
theorem q5 (d : Nat) (i j : ByteArray) (w : World) : (Op.equalIn (d + 2) 20 (.iface 143 (.string i)) (.iface 143 (.string j))).run Tryz.prog w = .ok (i == j) w := by kernel_rfl
theorem q6 (d : Nat) (i j : Bool) (w : World) : (Op.equalIn (d + 2) 20 (.iface 144 (.bool i)) (.iface 144 (.bool j))).run Tryz.prog w = .ok (i == j) w := by kernel_rfl
theorem q7 (d : Nat) (x y : Value) (w : World) : ∃ pv, (Op.equalIn (d + 2) 20 (.iface 147 x) (.iface 147 y)).run Tryz.prog w = .halt (.panic (.iface 10 pv)) w :=
  ⟨strVal ("comparing uncomparable type " ++ "value.Octets"), by kernel_rfl⟩
end Go.Proofs.YtajagjcfmaggiaaGreatDoor.Dt
/- The map of boxes that the package makes: a look-up, a store, and what its pointer answers; the conditions: the map and its boxes in memory. -/
namespace Go.Proofs.YtajagjcfmaggiaaGreatDoor.Dt
open Go.RowKit

theorem below1 (w : World) (o : Obj) : Below w.heap.size w (w.alloc o) := (Below.refl _ w).alloc (Nat.le_refl _) _
end Go.Proofs.YtajagjcfmaggiaaGreatDoor.Dt
/- The package's Open of a pointer: the plain data of what lies in the box, in new memory; the conditions: the tree in memory, valid, its bits within 64. -/
namespace Go.Proofs.YtajagjcfmaggiaaGreatDoor.Dt
open Go.RowKit
theorem boxOpen (b : Nat) (i : Int) (u : Value) (w : World) (h : w.heap[b]? = some (.cells #[.int .i64 i, u] 176 (0, 0))) (hu : Sx u) : Calls Tryz.prog 223 #[.pointer (some ⟨b, 0, none⟩)] w fun e w' => e = .returned u ∧ Below w.heap.size w w' := by
  have c1 : w.cell? ⟨b, 1, none⟩ = some u := by simp [World.cell?, h]
  rcases hu with rfl | ⟨T, z, rfl⟩
  all_goals
    go_enter Tryz.func223, Tryz.ntmps223
    go_wp2
    go_ret
    exact ⟨rfl, Below.refl _ _⟩
end Go.Proofs.YtajagjcfmaggiaaGreatDoor.Dt
