/- The value that the package makes of a valid tree has the tree's kind; and the package's value.Of; the conditions: the tree in memory and valid. -/
import Derived.Test.YtokiaolgdkikiaaGreatDSam
import Derived.Test.YtokiaolgdkikiaaGreatTmu
import Derived.Test.YtokiaolgdkikiaaGreatMu1
namespace Go.Proofs.YtokiaolgdkikiaaGreat
open Go.RowKit
theorem Dt.T2.f {w : World} {a0 a1 a2 a3 a4 b0 b1 b2 b3 b4 : Value} {w' : World} (h : Dt.T2 w a0 a1 a2 a3 a4 b0 b1 b2 b3 b4 w') (o : Nat) : w'.frozen? ⟨w.heap.size + 1, o, none⟩ = false := by
  have e1 := heap_alloc_new (w.alloc (.cells #[a0, a1, a2, a3, a4] 30)) (.cells #[b0, b1, b2, b3, b4] 30)
  simp only [World.size_alloc] at e1
  have h1 : w'.heap[w.heap.size + 1]? = some (.cells #[b0, b1, b2, b3, b4] 30 (0, 0)) := (Below.block h (w.heap.size + 1) (by omega)).trans e1
  simp [World.frozen?, h1]
theorem Dt.T2.size2 {w : World} {a0 a1 a2 a3 a4 b0 b1 b2 b3 b4 : Value} {w' : World} (h : Dt.T2 w a0 a1 a2 a3 a4 b0 b1 b2 b3 b4 w') : w.heap.size + 2 ≤ w'.heap.size := by
  have := Below.size h
  simp at this
  omega
theorem vr_kind {F : Nat → Prop} {w : World} {n : Nat} {v : Value} {t : Dt.Tr (n + 1)} (h : Dt.VR F w (n + 1) v t) : Kd t.kd v := by
  simp only [Dt.VR] at h
  rcases h with ⟨k, rfl⟩ | ⟨k, rfl⟩ | ⟨k, rfl⟩ | ⟨k, rfl⟩ | ⟨k, rfl⟩ | ⟨k, rfl⟩ | ⟨k, rfl⟩ | ⟨k, g, c, cs, fr, rfl, -⟩ | ⟨k, a, c, rfl, -⟩ | ⟨k, x, y, t0, t1, rfl, -, e3, e4⟩ | ⟨k, rfl⟩ | ⟨k, b, u, t0, rfl, -⟩ | ⟨k, rfl⟩ | ⟨k, rfl⟩
  all_goals rw [k]
  · exact .inl ⟨by omega, rfl⟩
  · exact Kd.plain 1 _ (by decide) (by decide)
  · exact Kd.plain 2 _ (by decide) (by decide)
  · exact Kd.plain 3 _ (by decide) (by decide)
  · exact Kd.plain 4 _ (by decide) (by decide)
  · exact Kd.plain 5 _ (by decide) (by decide)
  · exact Kd.plain 6 _ (by decide) (by decide)
  · exact Kd.plain 7 _ (by decide) (by decide)
  · exact Kd.plain 8 _ (by decide) (by decide)
  · exact Kd.pair x y (Dt.vr_any e3) (Dt.vr_any e4)
  · exact Kd.fail _ _
  · exact Kd.ptr _
  · exact Kd.nilp
  · exact Kd.unit

set_option maxRecDepth 100000 in
set_option maxHeartbeats 1000000 in
theorem of_val (W0 : World) (m : Nat) (t : Dt.Tr (m + 1)) (k i b : Int) (s : ByteArray) (ad : Option Addr) (len cap : Nat) (w : World) (hrg : Dt.rgt (m + 1) t = true) (hps : (Dt.pts (m + 1) t).1 ≤ 4096) (hrep : Dt.Rep W0 (m + 1) [.int .i64 k, .int .i64 i, .int .u64 b, .string s, .slice ad len cap] t) (hb : Below W0.heap.size W0 w) :
    Calls Tryz.prog 48 #[.agg #[.int .i64 k, .int .i64 i, .int .u64 b, .string s, .slice ad len cap]] w fun e w' => ∃ u, e = .returned u ∧ Kd k u ∧ Hid (Dt.VR (fun g => w.heap.size ≤ g ∧ g < w'.heap.size) w' (m + 1) u t) ∧ Below w.heap.size w w' := by
  have hk : t.kd = k := by
    obtain ⟨ad, cap, e, -⟩ := hrep
    simp only [List.cons.injEq, and_true, Value.int.injEq] at e
    exact e.1.2.symm
  have HO : Hid (Calls Tryz.prog 63 #[.agg #[.map none], .agg #[.int .i64 k, .int .i64 i, .int .u64 b, .string s, .slice ad len cap]] (w.alloc (.cells #[.int .i64 k, .int .i64 i, .int .u64 b, .string s, .slice ad len cap] 30)) fun e w' => ∃ u, e = .returned u ∧ Kd k u ∧ Hid (Dt.VR (fun g => w.heap.size ≤ g ∧ g < w'.heap.size) w' (m + 1) u t) ∧ Below w.heap.size w w') := by
    have b1 := below1 w (.cells #[.int .i64 k, .int .i64 i, .int .u64 b, .string s, .slice ad len cap] 30)
    refine (Dt.value_nb W0 (m + 1) t _ _ _ _ _ _ hrg hps hrep (hb.trans (b1.mono hb.size))).mono fun e w' ⟨u, he, vr, hb'⟩ => ⟨u, he, hk ▸ vr_kind vr, Dt.VR.to (fun q hq => ⟨⟨by have h := hq.1; simp at h; omega, hq.2⟩, rfl⟩) _ _ _ vr, b1.trans (hb'.mono (by simp))⟩
  clear hk hrg hps hrep hb
  go_enter Tryz.func48, Tryz.ntmps48
  go_wp2_with fail
  refine HO.out.mono ?_
  rintro e w1 ⟨u, rfl, hx, vr, b1⟩
  go_wp2
  go_ret
  exact ⟨u, rfl, hx, vr, b1⟩
end Go.Proofs.YtokiaolgdkikiaaGreat
