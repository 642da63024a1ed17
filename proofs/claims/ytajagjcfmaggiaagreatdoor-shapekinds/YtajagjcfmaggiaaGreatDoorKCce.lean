/- The package's Must of a value that has not the type: no value, what it was, and the error; the conditions: what the value's maker gives, and that the question's assertion panics of it. -/
import Derived.Test.YtajagjcfmaggiaaGreatDoorKCbj
import Derived.Test.YtajagjcfmaggiaaGreatDoorKCca
import Derived.Test.YtajagjcfmaggiaaGreatDoorKCbg
import Derived.Test.YtajagjcfmaggiaaGreatDoorKCcd
import Derived.Deep.AppendLies
import Derived.Test.YtajagjcfmaggiaaGreatDoorKCcc
namespace Go.Proofs.YtajagjcfmaggiaaGreatDoor
open Go.RowKit

/-- A value's block, and two blocks behind it. -/
def Thr (w : World) (k i b : Int) (s : ByteArray) (ad : Option Addr) (len cap : Nat) (w' : World) : Prop :=
  Below (w.heap.size + 3) (((w.alloc (.cells #[.int .i64 k, .int .i64 i, .int .u64 b, .string s, .slice ad len cap] 25)).alloc (.cells #[.int .i64 0, .int .i64 0, .int .u64 0, .string ⟨#[]⟩, .slice none 0 0] 25)).alloc (.cells #[.int .i64 0, .int .i64 0] 188)) w'
theorem Thr.drew {w : World} {k i b : Int} {s : ByteArray} {ad : Option Addr} {len cap : Nat} {w' : World} (h : Thr w k i b s ad len cap w') : Thr w k i b s ad len cap w'.drew := Below.drew h
theorem Thr.below {w : World} {k i b : Int} {s : ByteArray} {ad : Option Addr} {len cap : Nat} {w' : World} (h : Thr w k i b s ad len cap w') : Below w.heap.size w w' :=
  ((((Below.refl _ w).alloc (Nat.le_refl _) _).alloc (by simp) _).alloc (by simp; omega) _).trans (Below.mono h (by omega))
theorem Thr.step {w : World} {k i b : Int} {s : ByteArray} {ad : Option Addr} {len cap : Nat} {w1 w2 : World} (h : Thr w k i b s ad len cap w1) (hb : Below w1.heap.size w1 w2) : Thr w k i b s ad len cap w2 := by
  have := Below.size h
  simp at this
  exact Below.trans h (hb.mono (by omega))
theorem Thr.start (w : World) (k i b : Int) (s : ByteArray) (ad : Option Addr) (len cap : Nat) : Thr w k i b s ad len cap (((w.alloc (.cells #[.int .i64 k, .int .i64 i, .int .u64 b, .string s, .slice ad len cap] 25)).alloc (.cells #[.int .i64 0, .int .i64 0, .int .u64 0, .string ⟨#[]⟩, .slice none 0 0] 25)).alloc (.cells #[.int .i64 0, .int .i64 0] 188)) := Below.refl _ _
theorem Thr.blk {w : World} {k i b : Int} {s : ByteArray} {ad : Option Addr} {len cap : Nat} {w' : World} (h : Thr w k i b s ad len cap w') :
    w'.heap[w.heap.size]? = some (.cells #[.int .i64 k, .int .i64 i, .int .u64 b, .string s, .slice ad len cap] 25 (0, 0)) ∧ w'.heap[w.heap.size + 1]? = some (.cells #[.int .i64 0, .int .i64 0, .int .u64 0, .string ⟨#[]⟩, .slice none 0 0] 25 (0, 0)) ∧ w'.heap[w.heap.size + 2]? = some (.cells #[.int .i64 0, .int .i64 0] 188 (0, 0)) := by
  have e0 := heap_alloc_new w (.cells #[.int .i64 k, .int .i64 i, .int .u64 b, .string s, .slice ad len cap] 25)
  have e1 := heap_alloc_new (w.alloc (.cells #[.int .i64 k, .int .i64 i, .int .u64 b, .string s, .slice ad len cap] 25)) (.cells #[.int .i64 0, .int .i64 0, .int .u64 0, .string ⟨#[]⟩, .slice none 0 0] 25)
  have e2 := heap_alloc_new ((w.alloc (.cells #[.int .i64 k, .int .i64 i, .int .u64 b, .string s, .slice ad len cap] 25)).alloc (.cells #[.int .i64 0, .int .i64 0, .int .u64 0, .string ⟨#[]⟩, .slice none 0 0] 25)) (.cells #[.int .i64 0, .int .i64 0] 188)
  simp only [World.size_alloc] at e1 e2
  refine ⟨?_, ?_, ?_⟩
  · rw [Below.block h w.heap.size (by omega)]
    exact ((below1 _ _).block _ (by simp; omega)).trans (((below1 _ _).block _ (by simp)).trans e0)
  · rw [Below.block h (w.heap.size + 1) (by omega)]
    exact ((below1 _ _).block _ (by simp)).trans e1
  · rw [Below.block h (w.heap.size + 2) (by omega)]
    exact e2
theorem Thr.c {w : World} {k i b : Int} {s : ByteArray} {ad : Option Addr} {len cap : Nat} {w' : World} (h : Thr w k i b s ad len cap w') :
    w'.cell? ⟨w.heap.size, 0, none⟩ = some (.int .i64 k) ∧ w'.cell? ⟨w.heap.size, 1, none⟩ = some (.int .i64 i) ∧ w'.cell? ⟨w.heap.size, 2, none⟩ = some (.int .u64 b) ∧ w'.cell? ⟨w.heap.size, 3, none⟩ = some (.string s) ∧ w'.cell? ⟨w.heap.size, 4, none⟩ = some (.slice ad len cap) := by
  have h0 := h.blk.1
  simp [World.cell?, h0]
theorem Thr.d {w : World} {k i b : Int} {s : ByteArray} {ad : Option Addr} {len cap : Nat} {w' : World} (h : Thr w k i b s ad len cap w') :
    w'.cell? ⟨w.heap.size + 1, 0, none⟩ = some (.int .i64 0) ∧ w'.cell? ⟨w.heap.size + 1, 1, none⟩ = some (.int .i64 0) ∧ w'.cell? ⟨w.heap.size + 1, 2, none⟩ = some (.int .u64 0) ∧ w'.cell? ⟨w.heap.size + 1, 3, none⟩ = some (.string ⟨#[]⟩) ∧ w'.cell? ⟨w.heap.size + 1, 4, none⟩ = some (.slice none 0 0)
    ∧ w'.cell? ⟨w.heap.size + 2, 0, none⟩ = some (.int .i64 0) ∧ w'.cell? ⟨w.heap.size + 2, 1, none⟩ = some (.int .i64 0) ∧ (∀ o, w'.frozen? ⟨w.heap.size + 1, o, none⟩ = false) ∧ (∀ o, w'.frozen? ⟨w.heap.size + 2, o, none⟩ = false) := by
  obtain ⟨-, h1, h2⟩ := h.blk
  simp [World.cell?, World.frozen?, h1, h2]

set_option maxRecDepth 100000 in
set_option maxHeartbeats 2000000 in
theorem must_fail (k i b : Int) (s : ByteArray) (ad : Option Addr) (len cap : Nat) (kind : Int) (Q F : Nat) (w : World) (hq : qty kind = Q) (hm : MethM Q F) (hF : ∀ u w, Kd k u → Calls Tryz.prog F #[.agg #[], u] w fun e w' => Pan w w' e)
    (hO : ∀ wx, Below w.heap.size w wx → Calls Tryz.prog 76 #[.agg #[.int .i64 k, .int .i64 i, .int .u64 b, .string s, .slice ad len cap]] wx fun e w' => ∃ u, e = .returned u ∧ Kd k u ∧ Below wx.heap.size wx w') :
    Calls Tryz.prog 117 #[.agg #[.int .i64 k, .int .i64 i, .int .u64 b, .string s, .slice ad len cap], .int .i64 kind] w fun e w' => e = .returned (.tuple #[.agg #[.int .i64 0, .int .i64 0, .int .u64 0, .string ⟨#[]⟩, .slice none 0 0], .agg #[.int .i64 k, .int .i64 (-1)], .int .i64 20]) ∧ Below w.heap.size w w' := by
  have HT : Hid (∀ wx, Thr w k i b s ad len cap wx → Calls Tryz.prog 70 #[.int .i64 kind] wx fun e w' => e = .returned (.iface Q (.agg #[])) ∧ Thr w k i b s ad len cap w') := fun wx hx => by have := (typeOf_any kind wx).mono (R' := fun e w' => e = .returned (.iface (qty kind) (.agg #[])) ∧ Thr w k i b s ad len cap w') fun e w' ⟨a, b⟩ => ⟨a, b ▸ hx⟩; rw [hq] at this; exact this
  have HO : Hid (∀ wx, Thr w k i b s ad len cap wx → Calls Tryz.prog 76 #[.agg #[.int .i64 k, .int .i64 i, .int .u64 b, .string s, .slice ad len cap]] wx fun e w' => ∃ u, e = .returned u ∧ Kd k u ∧ Thr w k i b s ad len cap w') := fun wx hx => (hO wx hx.below).mono fun e w' ⟨u, a, c, d⟩ => ⟨u, a, c, hx.step d⟩
  have HC : Hid (∀ u wx, Kd k u → Thr w k i b s ad len cap wx → Calls Tryz.prog 131 #[.iface Q (.agg #[]), u] wx fun e w' => e = .returned (.tuple #[.nilIface, .int .i64 20]) ∧ Thr w k i b s ad len cap w') := fun u wx hu hx => (caught_no Q F u wx hm fun w => hF u w hu).mono fun e w' ⟨a, d⟩ => ⟨a, hx.step d⟩
  have HS : Hid (∀ wx, Thr w k i b s ad len cap wx → wx.cell? ⟨w.heap.size, 0, none⟩ = some (.int .i64 k) ∧ wx.cell? ⟨w.heap.size, 1, none⟩ = some (.int .i64 i) ∧ wx.cell? ⟨w.heap.size, 2, none⟩ = some (.int .u64 b) ∧ wx.cell? ⟨w.heap.size, 3, none⟩ = some (.string s) ∧ wx.cell? ⟨w.heap.size, 4, none⟩ = some (.slice ad len cap)) := fun wx h => h.c
  have hb0 := Thr.start w k i b s ad len cap
  clear hq hm hF hO
  go_enter Tryz.func117, Tryz.ntmps117
  go_wp2_with fail
  go_region_held3 (fun w' => w'.cell? ⟨w.heap.size, 0, none⟩ = some (.int .i64 k) ∧ w'.cell? ⟨w.heap.size, 1, none⟩ = some (.int .i64 i) ∧ w'.cell? ⟨w.heap.size, 2, none⟩ = some (.int .u64 b) ∧ w'.cell? ⟨w.heap.size, 3, none⟩ = some (.string s) ∧ w'.cell? ⟨w.heap.size, 4, none⟩ = some (.slice ad len cap)) (exact HS.out _ (by first | assumption | exact Thr.drew (by assumption))) (first | (go_at_call 70; refine (HT.out _ (by first | assumption | exact Thr.drew (by assumption))).mono ?_; rintro e wa ⟨rfl, ba⟩) | (go_at_call 76; refine (HO.out _ (by first | assumption | exact Thr.drew (by assumption))).mono ?_; rintro e wo ⟨ua, rfl, hu, bo⟩) | (go_at_call 131; refine (HC.out _ _ (by assumption) (by first | assumption | exact Thr.drew (by assumption))).mono ?_; rintro e wc ⟨rfl, bc⟩))
  have hc := bc.c.1
  obtain ⟨d0, d1, d2, d3, d4, m0, m1, f1, f2⟩ := bc.d
  have m0' : wc.cell? ⟨w.heap.size + 1 + 1, 0, none⟩ = some (.int .i64 0) := m0
  have m1' : wc.cell? ⟨w.heap.size + 1 + 1, 1, none⟩ = some (.int .i64 0) := m1
  have f2' : ∀ o, wc.frozen? ⟨w.heap.size + 1 + 1, o, none⟩ = false := f2
  have B := bc.below
  clear HT HO HC HS hb0 m0 m1 f2 ba bo hu
  go_wp2
  go_region
  all_goals go_wp2
  all_goals refine bodyPost_ret (v := .tuple #[.agg #[.int .i64 0, .int .i64 0, .int .u64 0, .string ⟨#[]⟩, .slice none 0 0], .agg #[.int .i64 k, .int .i64 (-1)], .int .i64 20]) (by simp [results, Tryz.results117, go_sem, World.cell?_setCell_same, World.cell?_setCell_other, d0, d1, d2, d3, d4, m0', m1']) rfl ⟨rfl, ?_⟩
  all_goals exact (((((((B.setCell (by show w.heap.size ≤ w.heap.size + 1; omega) _).setCell (by show w.heap.size ≤ w.heap.size + 1; omega) _).setCell (by show w.heap.size ≤ w.heap.size + 1; omega) _).setCell (by show w.heap.size ≤ w.heap.size + 1; omega) _).setCell (by show w.heap.size ≤ w.heap.size + 1; omega) _).setCell (by show w.heap.size ≤ w.heap.size + 1 + 1; omega) _).setCell (by show w.heap.size ≤ w.heap.size + 1 + 1; omega) _).drew

end Go.Proofs.YtajagjcfmaggiaaGreatDoor
/- The value that the package makes of a valid tree has the tree's kind; and the package's value.Of; the conditions: the tree in memory and valid. -/
namespace Go.Proofs.YtajagjcfmaggiaaGreatDoor
open Go.RowKit
theorem Dt.T2.f {w : World} {a0 a1 a2 a3 a4 b0 b1 b2 b3 b4 : Value} {w' : World} (h : Dt.T2 w a0 a1 a2 a3 a4 b0 b1 b2 b3 b4 w') (o : Nat) : w'.frozen? ⟨w.heap.size + 1, o, none⟩ = false := by
  have e1 := heap_alloc_new (w.alloc (.cells #[a0, a1, a2, a3, a4] 25)) (.cells #[b0, b1, b2, b3, b4] 25)
  simp only [World.size_alloc] at e1
  have h1 : w'.heap[w.heap.size + 1]? = some (.cells #[b0, b1, b2, b3, b4] 25 (0, 0)) := (Below.block h (w.heap.size + 1) (by omega)).trans e1
  simp [World.frozen?, h1]
theorem vr_kind {F : Nat → Prop} {w : World} {n : Nat} {v : Value} {t : Dt.Tr (n + 1)} (h : Dt.VR F w (n + 1) v t) : Kd t.kd v := by
  simp only [Dt.VR] at h
  rcases h with ⟨k, rfl⟩ | ⟨k, rfl⟩ | ⟨k, rfl⟩ | ⟨k, rfl⟩ | ⟨k, rfl⟩ | ⟨k, rfl⟩ | ⟨k, rfl⟩ | ⟨k, g, c, cs, fr, rfl, -⟩ | ⟨k, a, c, rfl, -⟩ | ⟨k, x, y, t0, t1, rfl, -, e3, e4⟩ | ⟨k, rfl⟩ | ⟨k, b, u, t0, rfl, -⟩ | ⟨k, rfl⟩ | ⟨k, rfl⟩
  all_goals rw [k]
  · exact .inl ⟨by omega, rfl⟩
  · exact Kd.plain 1 _ (by decide) (by decide)
  · exact Kd.plain 2 _ (by decide) (by decide)
  · exact Kd.plain 3 _ (by decide) (by decide)
  · exact Kd.plain 4 _ (by decide) (by decide)
  · exact Kd.plain 5 _ (by decide) (by decide)
  · exact Kd.plain 6 _ (by decide) (by decide)
  · exact Kd.plain 7 _ (by decide) (by decide)
  · exact Kd.plain 8 _ (by decide) (by decide)
  · exact Kd.pair x y (Dt.vr_any e3) (Dt.vr_any e4)
  · exact Kd.fail _ _
  · exact Kd.ptr _
  · exact Kd.nilp
  · exact Kd.unit

set_option maxRecDepth 100000 in
set_option maxHeartbeats 1000000 in
theorem of_val (W0 : World) (m : Nat) (t : Dt.Tr (m + 1)) (k i b : Int) (s : ByteArray) (ad : Option Addr) (len cap : Nat) (w : World) (hrg : Dt.rgt (m + 1) t = true) (hps : (Dt.pts (m + 1) t).1 ≤ 4096) (hrep : Dt.Rep W0 (m + 1) [.int .i64 k, .int .i64 i, .int .u64 b, .string s, .slice ad len cap] t) (hb : Below W0.heap.size W0 w) :
    Calls Tryz.prog 76 #[.agg #[.int .i64 k, .int .i64 i, .int .u64 b, .string s, .slice ad len cap]] w fun e w' => ∃ u, e = .returned u ∧ Kd k u ∧ Hid (Dt.VR (fun g => w.heap.size ≤ g ∧ g < w'.heap.size) w' (m + 1) u t) ∧ Below w.heap.size w w' := by
  have hk : t.kd = k := by
    obtain ⟨ad, cap, e, -⟩ := hrep
    simp only [List.cons.injEq, and_true, Value.int.injEq] at e
    exact e.1.2.symm
  have HO : Hid (Calls Tryz.prog 86 #[.agg #[.map none], .agg #[.int .i64 k, .int .i64 i, .int .u64 b, .string s, .slice ad len cap]] (w.alloc (.cells #[.int .i64 k, .int .i64 i, .int .u64 b, .string s, .slice ad len cap] 25)) fun e w' => ∃ u, e = .returned u ∧ Kd k u ∧ Hid (Dt.VR (fun g => w.heap.size ≤ g ∧ g < w'.heap.size) w' (m + 1) u t) ∧ Below w.heap.size w w') := by
    have b1 := below1 w (.cells #[.int .i64 k, .int .i64 i, .int .u64 b, .string s, .slice ad len cap] 25)
    refine (Dt.value_nb W0 (m + 1) t _ _ _ _ _ _ hrg hps hrep (hb.trans (b1.mono hb.size))).mono fun e w' ⟨u, he, vr, hb'⟩ => ⟨u, he, hk ▸ vr_kind vr, Dt.VR.to (fun q hq => ⟨⟨by have h := hq.1; simp at h; omega, hq.2⟩, rfl⟩) _ _ _ vr, b1.trans (hb'.mono (by simp))⟩
  clear hk hrg hps hrep hb
  go_enter Tryz.func76, Tryz.ntmps76
  go_wp2_with fail
  refine HO.out.mono ?_
  rintro e w1 ⟨u, rfl, hx, vr, b1⟩
  go_wp2
  go_ret
  exact ⟨u, rfl, hx, vr, b1⟩
end Go.Proofs.YtajagjcfmaggiaaGreatDoor
/- The package's Must of a value that has the type: the value's plain data; the conditions: what the value's maker gives. -/
namespace Go.Proofs.YtajagjcfmaggiaaGreatDoor
open Go.RowKit
theorem Thr.size3 {w : World} {k i b : Int} {s : ByteArray} {ad : Option Addr} {len cap : Nat} {w' : World} (h : Thr w k i b s ad len cap w') : w.heap.size + 3 ≤ w'.heap.size := by
  have := Below.size h
  simp at this
  omega
set_option maxRecDepth 100000 in
set_option maxHeartbeats 4000000 in
theorem must_yes (m : Nat) (t : Dt.Tr m) (hrg : Dt.rgt m t = true) (h64 : Dt.r64 m t) (hps : (Dt.pts m t).1 ≤ 4096) (k i b : Int) (s : ByteArray) (ad : Option Addr) (len cap : Nat) (kind : Int) (w : World) (hq : tkd kind k = true)
    (hO : ∀ wx, Below w.heap.size w wx → Calls Tryz.prog 76 #[.agg #[.int .i64 k, .int .i64 i, .int .u64 b, .string s, .slice ad len cap]] wx fun e w' => ∃ u, e = .returned u ∧ Kd k u ∧ Hid (Dt.VR (fun g => wx.heap.size ≤ g ∧ g < w'.heap.size) w' m u t) ∧ Below wx.heap.size wx w') :
    Calls Tryz.prog 117 #[.agg #[.int .i64 k, .int .i64 i, .int .u64 b, .string s, .slice ad len cap], .int .i64 kind] w fun e w' => ∃ v0 v1 v2 v3 v4, e = .returned (.tuple #[.agg #[v0, v1, v2, v3, v4], .agg #[.int .i64 0, .int .i64 0], .int .i64 0]) ∧ Dt.Rf (fun g => w.heap.size ≤ g ∧ g < w'.heap.size) w' m [v0, v1, v2, v3, v4] t ∧ Below w.heap.size w w' := by
  obtain ⟨F, hm, hM⟩ := type_musts kind
  have HT : Hid (∀ wx, Thr w k i b s ad len cap wx → Calls Tryz.prog 70 #[.int .i64 kind] wx fun e w' => e = .returned (.iface (qty kind) (.agg #[])) ∧ Thr w k i b s ad len cap w') := fun wx hx => (typeOf_any kind wx).mono fun e w' ⟨a, b⟩ => ⟨a, b ▸ hx⟩
  have HO : Hid (∀ wx, Thr w k i b s ad len cap wx → Calls Tryz.prog 76 #[.agg #[.int .i64 k, .int .i64 i, .int .u64 b, .string s, .slice ad len cap]] wx fun e w' => ∃ u, e = .returned u ∧ Sx u ∧ Kd k u ∧ Hid (∃ F0 W0, Dt.VR F0 W0 m u t ∧ Below W0.heap.size W0 w') ∧ Thr w k i b s ad len cap w') := fun wx hx => (hO wx hx.below).mono fun e w' ⟨u, a, c, vr, d⟩ => ⟨u, a, by
      rcases c with ⟨-, e⟩ | ⟨-, -, v, e, -⟩
      · exact .inl e
      · exact .inr ⟨_, _, e⟩, c, ⟨_, w', vr.out, Below.refl _ _⟩, hx.step d⟩
  have HC : Hid (∀ u wx, Kd k u → Hid (∃ F0 W0, Dt.VR F0 W0 m u t ∧ Below W0.heap.size W0 wx) → Thr w k i b s ad len cap wx → Calls Tryz.prog 131 #[.iface (qty kind) (.agg #[]), u] wx fun e w' => e = .returned (.tuple #[u, .int .i64 0]) ∧ Hid (∃ F0 W0, Dt.VR F0 W0 m u t ∧ Below W0.heap.size W0 w') ∧ Thr w k i b s ad len cap w') := fun u wx hu hv hx => (caught_yes (qty kind) F u wx hm fun w => (hM k u w hu).1 hq).mono fun e w' ⟨a, d⟩ => ⟨a, by
      obtain ⟨F0, W0, v1, v2⟩ := hv.out
      exact ⟨F0, W0, v1, v2.trans (d.mono v2.size)⟩, hx.step d⟩
  have HS : Hid (∀ wx, Thr w k i b s ad len cap wx → wx.cell? ⟨w.heap.size, 0, none⟩ = some (.int .i64 k) ∧ wx.cell? ⟨w.heap.size, 1, none⟩ = some (.int .i64 i) ∧ wx.cell? ⟨w.heap.size, 2, none⟩ = some (.int .u64 b) ∧ wx.cell? ⟨w.heap.size, 3, none⟩ = some (.string s) ∧ wx.cell? ⟨w.heap.size, 4, none⟩ = some (.slice ad len cap)) := fun wx h => h.c
  have HP : Hid (∀ (v : Value) (w : World), Hid (∃ F0 W0, Dt.VR F0 W0 m v t ∧ Below W0.heap.size W0 w) → Calls Tryz.prog 82 #[v] w fun e w' => ∃ (u0 u1 u2 : Int) (u3 : ByteArray) (a4 : Option Addr) (n4 c4 : Nat), e = .returned (.agg #[.int .i64 u0, .int .i64 u1, .int .u64 u2, .string u3, .slice a4 n4 c4]) ∧ Hid (Dt.Rf (fun g => w.heap.size ≤ g ∧ g < w'.heap.size) w' m [.int .i64 u0, .int .i64 u1, .int .u64 u2, .string u3, .slice a4 n4 c4] t) ∧ Below w.heap.size w w') := fun v w hv => by
    obtain ⟨F0, W0, h1, h2⟩ := hv.out
    refine (Dt.plain_any F0 W0 m t v w hrg h64 hps h1 h2).mono fun e w' ⟨v0, v1, v2, v3, v4, he, rf, hb'⟩ => ?_
    obtain ⟨u0, u1, u2, u3, a4, n4, c4', rfl, rfl, rfl, rfl, rfl⟩ := Dt.rep_shape (Dt.Rf.rep _ _ _ rf)
    exact ⟨u0, u1, u2, u3, a4, n4, c4', he, rf, hb'⟩
  have hb0 := Thr.start w k i b s ad len cap
  clear hm hM hO hq hrg h64 hps
  generalize qty kind = Q at HT HC
  go_enter Tryz.func117, Tryz.ntmps117
  go_wp2_with fail
  go_region_held3 (fun w' => w'.cell? ⟨w.heap.size, 0, none⟩ = some (.int .i64 k) ∧ w'.cell? ⟨w.heap.size, 1, none⟩ = some (.int .i64 i) ∧ w'.cell? ⟨w.heap.size, 2, none⟩ = some (.int .u64 b) ∧ w'.cell? ⟨w.heap.size, 3, none⟩ = some (.string s) ∧ w'.cell? ⟨w.heap.size, 4, none⟩ = some (.slice ad len cap)) (exact HS.out _ (by first | assumption | exact Thr.drew (by assumption))) (first | (go_at_call 70; refine (HT.out _ (by first | assumption | exact Thr.drew (by assumption))).mono ?_; rintro e wa ⟨rfl, ba⟩) | (go_at_call 76; refine (HO.out _ (by first | assumption | exact Thr.drew (by assumption))).mono ?_; rintro e wo ⟨ua, rfl, sx, hu, hv, bo⟩) | (go_at_call 131; refine (HC.out _ _ (by assumption) (by assumption) (by first | assumption | exact Thr.drew (by assumption))).mono ?_; rintro e wc ⟨rfl, hv, bc⟩))
  have B := bc.below
  clear HT HO HC HS hb0 ba bo hu
  rcases sx with rfl | ⟨T, z, rfl⟩
  all_goals
    go_wp2_with fail
    refine (HP.out _ _ hv).mono ?_
    rintro e w4 ⟨u0, u1, u2, u3, a4, n4, c4, rfl, rf, b4⟩
    have h4 := bc.step b4
    obtain ⟨d0, d1, d2, d3, d4, m0, m1, f1, f2⟩ := h4.d
    have m0' : w4.cell? ⟨w.heap.size + 1 + 1, 0, none⟩ = some (.int .i64 0) := m0
    have m1' : w4.cell? ⟨w.heap.size + 1 + 1, 1, none⟩ = some (.int .i64 0) := m1
    have f2' : ∀ o, w4.frozen? ⟨w.heap.size + 1 + 1, o, none⟩ = false := f2
    have B := h4.below
    have z3 := bc.size3
    clear m0 m1 f2
    go_wp2
    refine bodyPost_ret (v := .tuple #[.agg #[.int .i64 u0, .int .i64 u1, .int .u64 u2, .string u3, .slice a4 n4 c4], .agg #[.int .i64 0, .int .i64 0], .int .i64 0]) (by simp [results, Tryz.results117, go_sem, World.cell?_setCell_same, World.cell?_setCell_other, d0, d1, d2, d3, d4, m0', m1']) rfl ⟨_, _, _, _, _, rfl, ?_, ?_⟩
    · refine Dt.Rf.to (fun q hq => ⟨⟨by have := hq.1; omega, by simp [World.setCell]; exact hq.2⟩, ?_⟩) _ _ _ rf.out
      have hne : q ≠ w.heap.size + 1 := by have := hq.1; omega
      have hne' : q ≠ w.heap.size + 1 + 1 := by have := hq.1; omega
      rw [Below.heap_setCell _ _ _ q hne', Below.heap_setCell _ _ _ q hne', Below.heap_setCell _ _ _ q hne, Below.heap_setCell _ _ _ q hne, Below.heap_setCell _ _ _ q hne, Below.heap_setCell _ _ _ q hne, Below.heap_setCell _ _ _ q hne]
    · exact ((((((B.setCell (by show w.heap.size ≤ w.heap.size + 1; omega) _).setCell (by show w.heap.size ≤ w.heap.size + 1; omega) _).setCell (by show w.heap.size ≤ w.heap.size + 1; omega) _).setCell (by show w.heap.size ≤ w.heap.size + 1; omega) _).setCell (by show w.heap.size ≤ w.heap.size + 1; omega) _).setCell (by show w.heap.size ≤ w.heap.size + 1 + 1; omega) _).setCell (by show w.heap.size ≤ w.heap.size + 1 + 1; omega) _
end Go.Proofs.YtajagjcfmaggiaaGreatDoor
/- The interfaces' methods, by the package and by the document: the same rows; which kinds lack one, and which have all; no condition. -/
namespace Go.Proofs.YtajagjcfmaggiaaGreatDoor
open Go.RowKit

/-- The row of numbers l lies behind v. -/
def IR (w : World) (v : Value) (l : List Int) : Prop := ∃ (ad : Option Addr) (cap : Nat), v = .slice ad l.length cap ∧ l.length ≤ cap ∧ cap ≤ maxLen ∧
  (l = [] ∨ ∃ g, ad = some ⟨g, 0, none⟩ ∧ ∀ (j : Nat) (x : Int), l[j]? = some x → w.cell? ⟨g, j, none⟩ = some (.int .i64 x))
theorem IR.below {w w' : World} {v : Value} {l : List Int} (h : IR w v l) (hb : Below w.heap.size w w') : IR w' v l := by
  obtain ⟨ad, cap, h1, h2, h3, h4⟩ := h
  refine ⟨ad, cap, h1, h2, h3, ?_⟩
  rcases h4 with h4 | ⟨g, h5, h6⟩
  · exact .inl h4
  · refine .inr ⟨g, h5, fun j x hj => ?_⟩
    have c := h6 j x hj
    exact (hb.cell (p := ⟨g, _, none⟩) (World.block_lt_of_cell? w _ c)).trans c
theorem ret_true {b : Bool} (h : b = true) : Ending.returned (.bool true) = .returned (.bool b) := by rw [h]

set_option maxHeartbeats 1000000 in
theorem refHas_any (k m : Int) (w : World) :
    Calls Tryz.prog 40 #[.int .i64 k, .int .i64 m] w fun e w' => e = .returned (.bool (refHas k m)) ∧ w' = w := by
  by_cases h0 : m = 0
  · subst h0
    show Calls Tryz.prog 40 _ w fun e w' => e = .returned (.bool (k == 4 || k == 5 || k == 7 || k == 8 || k == 9 || k == 11 || k == 12)) ∧ w' = w
    go_enter Tryz.func40, Tryz.ntmps40
    go_wp2
    all_goals (go_ret; first | exact ⟨rfl, rfl⟩ | exact ⟨ret_true (by simp_all), rfl⟩)
  by_cases h1 : m = 1
  · subst h1
    show Calls Tryz.prog 40 _ w fun e w' => e = .returned (.bool (k == 5 || k == 2 || k == 10)) ∧ w' = w
    clear h0
    go_enter Tryz.func40, Tryz.ntmps40
    go_wp2
    all_goals (go_ret; first | exact ⟨rfl, rfl⟩ | exact ⟨ret_true (by simp_all), rfl⟩)
  by_cases h2 : m = 2
  · subst h2
    show Calls Tryz.prog 40 _ w fun e w' => e = .returned (.bool (k == 10 || k == 11 || k == 12)) ∧ w' = w
    clear h0 h1
    go_enter Tryz.func40, Tryz.ntmps40
    go_wp2
    all_goals (go_ret; first | exact ⟨rfl, rfl⟩ | exact ⟨ret_true (by simp_all), rfl⟩)
  by_cases h3 : m = 3
  · subst h3
    show Calls Tryz.prog 40 _ w fun e w' => e = .returned (.bool (k == 11 || k == 12)) ∧ w' = w
    clear h0 h1 h2
    go_enter Tryz.func40, Tryz.ntmps40
    go_wp2
    all_goals (go_ret; first | exact ⟨rfl, rfl⟩ | exact ⟨ret_true (by simp_all), rfl⟩)
  by_cases h4 : m = 4
  · subst h4
    show Calls Tryz.prog 40 _ w fun e w' => e = .returned (.bool (k == 1 || k == 2 || k == 3 || k == 4 || k == 5)) ∧ w' = w
    clear h0 h1 h2 h3
    go_enter Tryz.func40, Tryz.ntmps40
    go_wp2
    all_goals (go_ret; first | exact ⟨rfl, rfl⟩ | exact ⟨ret_true (by simp_all), rfl⟩)
  by_cases h5 : m = 5
  · subst h5
    show Calls Tryz.prog 40 _ w fun e w' => e = .returned (.bool (k == 1 || k == 3)) ∧ w' = w
    clear h0 h1 h2 h3 h4
    go_enter Tryz.func40, Tryz.ntmps40
    go_wp2
    all_goals (go_ret; first | exact ⟨rfl, rfl⟩ | exact ⟨ret_true (by simp_all), rfl⟩)
  have hf : refHas k m = false := by unfold refHas; simp [h0, h1, h2, h3, h4, h5]
  rw [hf]; clear hf
  have g0 : (m == 0) = false := by simpa using h0
  have g1 : (m == 1) = false := by simpa using h1
  have g2 : (m == 2) = false := by simpa using h2
  have g3 : (m == 3) = false := by simpa using h3
  have g4 : (m == 4) = false := by simpa using h4
  have g5 : (m == 5) = false := by simpa using h5
  clear h0 h1 h2 h3 h4 h5
  go_enter Tryz.func40, Tryz.ntmps40
  go_wp2
  go_ret
  exact ⟨rfl, rfl⟩

theorem mths_no (f : Int) (h : f < 0 ∨ 9 < f) : mths f = [] := by
  unfold mths
  rw [if_neg (show ¬ f = 0 by omega)]
  rw [if_neg (show ¬ f = 1 by omega)]
  rw [if_neg (show ¬ f = 2 by omega)]
  rw [if_neg (show ¬ f = 3 by omega)]
  rw [if_neg (show ¬ f = 4 by omega)]
  rw [if_neg (show ¬ f = 5 by omega)]
  rw [if_neg (show ¬ f = 6 by omega)]
  rw [if_neg (show ¬ f = 7 by omega)]
  rw [if_neg (show ¬ f = 8 by omega)]
  rw [if_neg (show ¬ f = 9 by omega)]
theorem mths_bd (f : Int) : (mths f).length ≤ 3 ∧ ∀ m ∈ mths f, 0 ≤ m ∧ m ≤ 5 := by
  by_cases h : f < 0 ∨ 9 < f
  · rw [mths_no f h]; simp
  have hk : f = 0 ∨ f = 1 ∨ f = 2 ∨ f = 3 ∨ f = 4 ∨ f = 5 ∨ f = 6 ∨ f = 7 ∨ f = 8 ∨ f = 9 := by omega
  rcases hk with rfl | rfl | rfl | rfl | rfl | rfl | rfl | rfl | rfl | rfl <;> decide
theorem lackL_cons (k m : Int) (l : List Int) : lackL k (m :: l) = if refHas k m = true then lackL k l else m := rfl

end Go.Proofs.YtajagjcfmaggiaaGreatDoor
