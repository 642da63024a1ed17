/- The package's Must of a value that has not the type: no value, what it was, and the error; the conditions: what the value's maker gives, and that the question's assertion panics of it. -/
import Derived.Test.YthamafijjflfbaaGreatMac
import Derived.Test.YthamafijjflfbaaGreatMaj
import Derived.Test.YthamafijjflfbaaGreatMbb
import Derived.Test.YthamafijjflfbaaGreatMad
namespace Go.Proofs.YthamafijjflfbaaGreat
open Go.RowKit

/-- A value's block, and two blocks behind it. -/
def Thr (w : World) (k i b : Int) (s : ByteArray) (ad : Option Addr) (len cap : Nat) (w' : World) : Prop :=
  Below (w.heap.size + 3) (((w.alloc (.cells #[.int .i64 k, .int .i64 i, .int .u64 b, .string s, .slice ad len cap] 25)).alloc (.cells #[.int .i64 0, .int .i64 0, .int .u64 0, .string ⟨#[]⟩, .slice none 0 0] 25)).alloc (.cells #[.int .i64 0, .int .i64 0] 92)) w'
theorem Thr.drew {w : World} {k i b : Int} {s : ByteArray} {ad : Option Addr} {len cap : Nat} {w' : World} (h : Thr w k i b s ad len cap w') : Thr w k i b s ad len cap w'.drew := Below.drew h
theorem Thr.below {w : World} {k i b : Int} {s : ByteArray} {ad : Option Addr} {len cap : Nat} {w' : World} (h : Thr w k i b s ad len cap w') : Below w.heap.size w w' :=
  ((((Below.refl _ w).alloc (Nat.le_refl _) _).alloc (by simp) _).alloc (by simp; omega) _).trans (Below.mono h (by omega))
theorem Thr.step {w : World} {k i b : Int} {s : ByteArray} {ad : Option Addr} {len cap : Nat} {w1 w2 : World} (h : Thr w k i b s ad len cap w1) (hb : Below w1.heap.size w1 w2) : Thr w k i b s ad len cap w2 := by
  have := Below.size h
  simp at this
  exact Below.trans h (hb.mono (by omega))
theorem Thr.start (w : World) (k i b : Int) (s : ByteArray) (ad : Option Addr) (len cap : Nat) : Thr w k i b s ad len cap (((w.alloc (.cells #[.int .i64 k, .int .i64 i, .int .u64 b, .string s, .slice ad len cap] 25)).alloc (.cells #[.int .i64 0, .int .i64 0, .int .u64 0, .string ⟨#[]⟩, .slice none 0 0] 25)).alloc (.cells #[.int .i64 0, .int .i64 0] 92)) := Below.refl _ _
theorem Thr.blk {w : World} {k i b : Int} {s : ByteArray} {ad : Option Addr} {len cap : Nat} {w' : World} (h : Thr w k i b s ad len cap w') :
    w'.heap[w.heap.size]? = some (.cells #[.int .i64 k, .int .i64 i, .int .u64 b, .string s, .slice ad len cap] 25 (0, 0)) ∧ w'.heap[w.heap.size + 1]? = some (.cells #[.int .i64 0, .int .i64 0, .int .u64 0, .string ⟨#[]⟩, .slice none 0 0] 25 (0, 0)) ∧ w'.heap[w.heap.size + 2]? = some (.cells #[.int .i64 0, .int .i64 0] 92 (0, 0)) := by
  have e0 := heap_alloc_new w (.cells #[.int .i64 k, .int .i64 i, .int .u64 b, .string s, .slice ad len cap] 25)
  have e1 := heap_alloc_new (w.alloc (.cells #[.int .i64 k, .int .i64 i, .int .u64 b, .string s, .slice ad len cap] 25)) (.cells #[.int .i64 0, .int .i64 0, .int .u64 0, .string ⟨#[]⟩, .slice none 0 0] 25)
  have e2 := heap_alloc_new ((w.alloc (.cells #[.int .i64 k, .int .i64 i, .int .u64 b, .string s, .slice ad len cap] 25)).alloc (.cells #[.int .i64 0, .int .i64 0, .int .u64 0, .string ⟨#[]⟩, .slice none 0 0] 25)) (.cells #[.int .i64 0, .int .i64 0] 92)
  simp only [World.size_alloc] at e1 e2
  refine ⟨?_, ?_, ?_⟩
  · rw [Below.block h w.heap.size (by omega)]
    exact ((below1 _ _).block _ (by simp; omega)).trans (((below1 _ _).block _ (by simp)).trans e0)
  · rw [Below.block h (w.heap.size + 1) (by omega)]
    exact ((below1 _ _).block _ (by simp)).trans e1
  · rw [Below.block h (w.heap.size + 2) (by omega)]
    exact e2
theorem Thr.c {w : World} {k i b : Int} {s : ByteArray} {ad : Option Addr} {len cap : Nat} {w' : World} (h : Thr w k i b s ad len cap w') :
    w'.cell? ⟨w.heap.size, 0, none⟩ = some (.int .i64 k) ∧ w'.cell? ⟨w.heap.size, 1, none⟩ = some (.int .i64 i) ∧ w'.cell? ⟨w.heap.size, 2, none⟩ = some (.int .u64 b) ∧ w'.cell? ⟨w.heap.size, 3, none⟩ = some (.string s) ∧ w'.cell? ⟨w.heap.size, 4, none⟩ = some (.slice ad len cap) := by
  have h0 := h.blk.1
  simp [World.cell?, h0]
theorem Thr.d {w : World} {k i b : Int} {s : ByteArray} {ad : Option Addr} {len cap : Nat} {w' : World} (h : Thr w k i b s ad len cap w') :
    w'.cell? ⟨w.heap.size + 1, 0, none⟩ = some (.int .i64 0) ∧ w'.cell? ⟨w.heap.size + 1, 1, none⟩ = some (.int .i64 0) ∧ w'.cell? ⟨w.heap.size + 1, 2, none⟩ = some (.int .u64 0) ∧ w'.cell? ⟨w.heap.size + 1, 3, none⟩ = some (.string ⟨#[]⟩) ∧ w'.cell? ⟨w.heap.size + 1, 4, none⟩ = some (.slice none 0 0)
    ∧ w'.cell? ⟨w.heap.size + 2, 0, none⟩ = some (.int .i64 0) ∧ w'.cell? ⟨w.heap.size + 2, 1, none⟩ = some (.int .i64 0) ∧ (∀ o, w'.frozen? ⟨w.heap.size + 1, o, none⟩ = false) ∧ (∀ o, w'.frozen? ⟨w.heap.size + 2, o, none⟩ = false) := by
  obtain ⟨-, h1, h2⟩ := h.blk
  simp [World.cell?, World.frozen?, h1, h2]

set_option maxRecDepth 100000 in
set_option maxHeartbeats 2000000 in
theorem must_fail (k i b : Int) (s : ByteArray) (ad : Option Addr) (len cap : Nat) (kind : Int) (Q F : Nat) (w : World) (hq : qty kind = Q) (hm : MethM Q F) (hF : ∀ u w, Kd k u → Calls Tryz.prog F #[.agg #[], u] w fun e w' => Pan w w' e)
    (hO : ∀ wx, Below w.heap.size w wx → Calls Tryz.prog 58 #[.agg #[.int .i64 k, .int .i64 i, .int .u64 b, .string s, .slice ad len cap]] wx fun e w' => ∃ u, e = .returned u ∧ Kd k u ∧ Below wx.heap.size wx w') :
    Calls Tryz.prog 54 #[.agg #[.int .i64 k, .int .i64 i, .int .u64 b, .string s, .slice ad len cap], .int .i64 kind] w fun e w' => e = .returned (.tuple #[.agg #[.int .i64 0, .int .i64 0, .int .u64 0, .string ⟨#[]⟩, .slice none 0 0], .agg #[.int .i64 k, .int .i64 (-1)], .int .i64 20]) ∧ Below w.heap.size w w' := by
  have HT : Hid (∀ wx, Thr w k i b s ad len cap wx → Calls Tryz.prog 71 #[.int .i64 kind] wx fun e w' => e = .returned (.iface Q (.agg #[])) ∧ Thr w k i b s ad len cap w') := fun wx hx => by have := (typeOf_any kind wx).mono (R' := fun e w' => e = .returned (.iface (qty kind) (.agg #[])) ∧ Thr w k i b s ad len cap w') fun e w' ⟨a, b⟩ => ⟨a, b ▸ hx⟩; rw [hq] at this; exact this
  have HO : Hid (∀ wx, Thr w k i b s ad len cap wx → Calls Tryz.prog 58 #[.agg #[.int .i64 k, .int .i64 i, .int .u64 b, .string s, .slice ad len cap]] wx fun e w' => ∃ u, e = .returned u ∧ Kd k u ∧ Thr w k i b s ad len cap w') := fun wx hx => (hO wx hx.below).mono fun e w' ⟨u, a, c, d⟩ => ⟨u, a, c, hx.step d⟩
  have HC : Hid (∀ u wx, Kd k u → Thr w k i b s ad len cap wx → Calls Tryz.prog 70 #[.iface Q (.agg #[]), u] wx fun e w' => e = .returned (.tuple #[.nilIface, .int .i64 20]) ∧ Thr w k i b s ad len cap w') := fun u wx hu hx => (caught_no Q F u wx hm fun w => hF u w hu).mono fun e w' ⟨a, d⟩ => ⟨a, hx.step d⟩
  have HS : Hid (∀ wx, Thr w k i b s ad len cap wx → wx.cell? ⟨w.heap.size, 0, none⟩ = some (.int .i64 k) ∧ wx.cell? ⟨w.heap.size, 1, none⟩ = some (.int .i64 i) ∧ wx.cell? ⟨w.heap.size, 2, none⟩ = some (.int .u64 b) ∧ wx.cell? ⟨w.heap.size, 3, none⟩ = some (.string s) ∧ wx.cell? ⟨w.heap.size, 4, none⟩ = some (.slice ad len cap)) := fun wx h => h.c
  have hb0 := Thr.start w k i b s ad len cap
  clear hq hm hF hO
  go_enter Tryz.func54, Tryz.ntmps54
  go_wp2_with fail
  go_region_held3 (fun w' => w'.cell? ⟨w.heap.size, 0, none⟩ = some (.int .i64 k) ∧ w'.cell? ⟨w.heap.size, 1, none⟩ = some (.int .i64 i) ∧ w'.cell? ⟨w.heap.size, 2, none⟩ = some (.int .u64 b) ∧ w'.cell? ⟨w.heap.size, 3, none⟩ = some (.string s) ∧ w'.cell? ⟨w.heap.size, 4, none⟩ = some (.slice ad len cap)) (exact HS.out _ (by first | assumption | exact Thr.drew (by assumption))) (first | (go_at_call 71; refine (HT.out _ (by first | assumption | exact Thr.drew (by assumption))).mono ?_; rintro e wa ⟨rfl, ba⟩) | (go_at_call 58; refine (HO.out _ (by first | assumption | exact Thr.drew (by assumption))).mono ?_; rintro e wo ⟨ua, rfl, hu, bo⟩) | (go_at_call 70; refine (HC.out _ _ (by assumption) (by first | assumption | exact Thr.drew (by assumption))).mono ?_; rintro e wc ⟨rfl, bc⟩))
  have hc := bc.c.1
  obtain ⟨d0, d1, d2, d3, d4, m0, m1, f1, f2⟩ := bc.d
  have m0' : wc.cell? ⟨w.heap.size + 1 + 1, 0, none⟩ = some (.int .i64 0) := m0
  have m1' : wc.cell? ⟨w.heap.size + 1 + 1, 1, none⟩ = some (.int .i64 0) := m1
  have f2' : ∀ o, wc.frozen? ⟨w.heap.size + 1 + 1, o, none⟩ = false := f2
  have B := bc.below
  clear HT HO HC HS hb0 m0 m1 f2 ba bo hu
  go_wp2
  go_region
  all_goals go_wp2
  all_goals refine bodyPost_ret (v := .tuple #[.agg #[.int .i64 0, .int .i64 0, .int .u64 0, .string ⟨#[]⟩, .slice none 0 0], .agg #[.int .i64 k, .int .i64 (-1)], .int .i64 20]) (by simp [results, Tryz.results54, go_sem, World.cell?_setCell_same, World.cell?_setCell_other, d0, d1, d2, d3, d4, m0', m1']) rfl ⟨rfl, ?_⟩
  all_goals exact (((((((B.setCell (by show w.heap.size ≤ w.heap.size + 1; omega) _).setCell (by show w.heap.size ≤ w.heap.size + 1; omega) _).setCell (by show w.heap.size ≤ w.heap.size + 1; omega) _).setCell (by show w.heap.size ≤ w.heap.size + 1; omega) _).setCell (by show w.heap.size ≤ w.heap.size + 1; omega) _).setCell (by show w.heap.size ≤ w.heap.size + 1 + 1; omega) _).setCell (by show w.heap.size ≤ w.heap.size + 1 + 1; omega) _).drew

set_option maxRecDepth 100000 in
set_option maxHeartbeats 1000000 in
theorem of_int (i : Int) (w : World) : Calls Tryz.prog 58 #[.agg #[.int .i64 1, .int .i64 i, .int .u64 0, .string ⟨#[]⟩, .slice none 0 0]] w fun e w' => ∃ u, e = .returned u ∧ Kd 1 u ∧ Below w.heap.size w w' := by
  have HO : Hid (∀ w, Calls Tryz.prog 63 #[.agg #[.map none], .agg #[.int .i64 1, .int .i64 i, .int .u64 0, .string ⟨#[]⟩, .slice none 0 0]] w fun e w' => e = .returned (.iface 113 (.int .i64 i)) ∧ Below w.heap.size w w') := by
    intro w
    go_enter Tryz.func63, Tryz.ntmps63
    go_wp2
    go_ret
    exact ⟨rfl, below2 w _ _⟩
  go_enter Tryz.func58, Tryz.ntmps58
  go_wp2_with fail
  refine (HO.out _).mono ?_
  rintro e w1 ⟨rfl, b1⟩
  go_wp2
  go_ret
  exact ⟨_, rfl, Kd.plain 1 _ (by decide) (by decide), (below1 w _).trans (b1.mono (by simp))⟩

/-- A number is no text. -/
theorem must_five (w : World) : Calls Tryz.prog 54 #[.agg #[.int .i64 1, .int .i64 5, .int .u64 0, .string ⟨#[]⟩, .slice none 0 0], .int .i64 4] w fun e w' => e = .returned (.tuple #[.agg #[.int .i64 0, .int .i64 0, .int .u64 0, .string ⟨#[]⟩, .slice none 0 0], .agg #[.int .i64 1, .int .i64 (-1)], .int .i64 20]) ∧ Below w.heap.size w w' := by
  refine must_fail 1 5 0 ⟨#[]⟩ none 0 0 4 154 128 w rfl ⟨fun _ => by kernel_rfl, fun _ _ => by kernel_rfl⟩ (fun u w hu => ?_) (fun wx _ => of_int 5 wx)
  rcases hu.cases with ⟨h0, rfl⟩ | ⟨-, v, rfl⟩ | ⟨h, -⟩ | ⟨h, -⟩ | ⟨h, -⟩ | ⟨h, -⟩ | ⟨h, -⟩ | ⟨h, -⟩ | ⟨h, -⟩ | ⟨h, -⟩ | ⟨h, -⟩ | ⟨h, -⟩ | ⟨h, -⟩ | ⟨h, -⟩
  · omega
  · obtain ⟨o, ho⟩ := must_ty (t := 113) (x := 20) (v := v) Tryz.underlying131 (fun m h => by cases h) (by decide)
    exact mustText_no _ w o ho
  all_goals exact absurd h (by decide)
end Go.Proofs.YthamafijjflfbaaGreat
/- The value that the package makes of a valid tree has the tree's kind; and the package's value.Of; the conditions: the tree in memory and valid. -/
namespace Go.Proofs.YthamafijjflfbaaGreat
open Go.RowKit
theorem Dt.T2.f {w : World} {a0 a1 a2 a3 a4 b0 b1 b2 b3 b4 : Value} {w' : World} (h : Dt.T2 w a0 a1 a2 a3 a4 b0 b1 b2 b3 b4 w') (o : Nat) : w'.frozen? ⟨w.heap.size + 1, o, none⟩ = false := by
  have e1 := heap_alloc_new (w.alloc (.cells #[a0, a1, a2, a3, a4] 25)) (.cells #[b0, b1, b2, b3, b4] 25)
  simp only [World.size_alloc] at e1
  have h1 : w'.heap[w.heap.size + 1]? = some (.cells #[b0, b1, b2, b3, b4] 25 (0, 0)) := (Below.block h (w.heap.size + 1) (by omega)).trans e1
  simp [World.frozen?, h1]
theorem Dt.T2.size2 {w : World} {a0 a1 a2 a3 a4 b0 b1 b2 b3 b4 : Value} {w' : World} (h : Dt.T2 w a0 a1 a2 a3 a4 b0 b1 b2 b3 b4 w') : w.heap.size + 2 ≤ w'.heap.size := by
  have := Below.size h
  simp at this
  omega
theorem vr_kind {F : Nat → Prop} {w : World} {n : Nat} {v : Value} {t : Dt.Tr (n + 1)} (h : Dt.VR F w (n + 1) v t) : Kd t.kd v := by
  simp only [Dt.VR] at h
  rcases h with ⟨k, rfl⟩ | ⟨k, rfl⟩ | ⟨k, rfl⟩ | ⟨k, rfl⟩ | ⟨k, rfl⟩ | ⟨k, rfl⟩ | ⟨k, rfl⟩ | ⟨k, g, c, cs, fr, rfl, -⟩ | ⟨k, a, c, rfl, -⟩ | ⟨k, x, y, t0, t1, rfl, -, e3, e4⟩ | ⟨k, rfl⟩ | ⟨k, b, u, t0, rfl, -⟩ | ⟨k, rfl⟩ | ⟨k, rfl⟩
  all_goals rw [k]
  · exact .inl ⟨by omega, rfl⟩
  · exact Kd.plain 1 _ (by decide) (by decide)
  · exact Kd.plain 2 _ (by decide) (by decide)
  · exact Kd.plain 3 _ (by decide) (by decide)
  · exact Kd.plain 4 _ (by decide) (by decide)
  · exact Kd.plain 5 _ (by decide) (by decide)
  · exact Kd.plain 6 _ (by decide) (by decide)
  · exact Kd.plain 7 _ (by decide) (by decide)
  · exact Kd.plain 8 _ (by decide) (by decide)
  · exact Kd.pair x y (Dt.vr_any e3) (Dt.vr_any e4)
  · exact Kd.fail _ _
  · exact Kd.ptr _
  · exact Kd.nilp
  · exact Kd.unit

set_option maxRecDepth 100000 in
set_option maxHeartbeats 1000000 in
theorem of_val (W0 : World) (m : Nat) (t : Dt.Tr (m + 1)) (k i b : Int) (s : ByteArray) (ad : Option Addr) (len cap : Nat) (w : World) (hrg : Dt.rgt (m + 1) t = true) (hps : (Dt.pts (m + 1) t).1 ≤ 4096) (hrep : Dt.Rep W0 (m + 1) [.int .i64 k, .int .i64 i, .int .u64 b, .string s, .slice ad len cap] t) (hb : Below W0.heap.size W0 w) :
    Calls Tryz.prog 58 #[.agg #[.int .i64 k, .int .i64 i, .int .u64 b, .string s, .slice ad len cap]] w fun e w' => ∃ u, e = .returned u ∧ Kd k u ∧ Hid (Dt.VR (fun g => w.heap.size ≤ g ∧ g < w'.heap.size) w' (m + 1) u t) ∧ Below w.heap.size w w' := by
  have hk : t.kd = k := by
    obtain ⟨ad, cap, e, -⟩ := hrep
    simp only [List.cons.injEq, and_true, Value.int.injEq] at e
    exact e.1.2.symm
  have HO : Hid (Calls Tryz.prog 63 #[.agg #[.map none], .agg #[.int .i64 k, .int .i64 i, .int .u64 b, .string s, .slice ad len cap]] (w.alloc (.cells #[.int .i64 k, .int .i64 i, .int .u64 b, .string s, .slice ad len cap] 25)) fun e w' => ∃ u, e = .returned u ∧ Kd k u ∧ Hid (Dt.VR (fun g => w.heap.size ≤ g ∧ g < w'.heap.size) w' (m + 1) u t) ∧ Below w.heap.size w w') := by
    have b1 := below1 w (.cells #[.int .i64 k, .int .i64 i, .int .u64 b, .string s, .slice ad len cap] 25)
    refine (Dt.value_nb W0 (m + 1) t _ _ _ _ _ _ hrg hps hrep (hb.trans (b1.mono hb.size))).mono fun e w' ⟨u, he, vr, hb'⟩ => ⟨u, he, hk ▸ vr_kind vr, Dt.VR.to (fun q hq => ⟨⟨by have h := hq.1; simp at h; omega, hq.2⟩, rfl⟩) _ _ _ vr, b1.trans (hb'.mono (by simp))⟩
  clear hk hrg hps hrep hb
  go_enter Tryz.func58, Tryz.ntmps58
  go_wp2_with fail
  refine HO.out.mono ?_
  rintro e w1 ⟨u, rfl, hx, vr, b1⟩
  go_wp2
  go_ret
  exact ⟨u, rfl, hx, vr, b1⟩
end Go.Proofs.YthamafijjflfbaaGreat
/- The package's Must of a value that has the type: the value's plain data; the conditions: what the value's maker gives. -/
namespace Go.Proofs.YthamafijjflfbaaGreat
open Go.RowKit
theorem Thr.size3 {w : World} {k i b : Int} {s : ByteArray} {ad : Option Addr} {len cap : Nat} {w' : World} (h : Thr w k i b s ad len cap w') : w.heap.size + 3 ≤ w'.heap.size := by
  have := Below.size h
  simp at this
  omega
set_option maxRecDepth 100000 in
set_option maxHeartbeats 4000000 in
theorem must_yes (m : Nat) (t : Dt.Tr m) (hrg : Dt.rgt m t = true) (h64 : Dt.r64 m t) (hps : (Dt.pts m t).1 ≤ 4096) (k i b : Int) (s : ByteArray) (ad : Option Addr) (len cap : Nat) (kind : Int) (w : World) (hq : tkd kind k = true)
    (hO : ∀ wx, Below w.heap.size w wx → Calls Tryz.prog 58 #[.agg #[.int .i64 k, .int .i64 i, .int .u64 b, .string s, .slice ad len cap]] wx fun e w' => ∃ u, e = .returned u ∧ Kd k u ∧ Hid (Dt.VR (fun g => wx.heap.size ≤ g ∧ g < w'.heap.size) w' m u t) ∧ Below wx.heap.size wx w') :
    Calls Tryz.prog 54 #[.agg #[.int .i64 k, .int .i64 i, .int .u64 b, .string s, .slice ad len cap], .int .i64 kind] w fun e w' => ∃ v0 v1 v2 v3 v4, e = .returned (.tuple #[.agg #[v0, v1, v2, v3, v4], .agg #[.int .i64 0, .int .i64 0], .int .i64 0]) ∧ Dt.Rf (fun g => w.heap.size ≤ g ∧ g < w'.heap.size) w' m [v0, v1, v2, v3, v4] t ∧ Below w.heap.size w w' := by
  obtain ⟨F, hm, hM⟩ := type_musts kind
  have HT : Hid (∀ wx, Thr w k i b s ad len cap wx → Calls Tryz.prog 71 #[.int .i64 kind] wx fun e w' => e = .returned (.iface (qty kind) (.agg #[])) ∧ Thr w k i b s ad len cap w') := fun wx hx => (typeOf_any kind wx).mono fun e w' ⟨a, b⟩ => ⟨a, b ▸ hx⟩
  have HO : Hid (∀ wx, Thr w k i b s ad len cap wx → Calls Tryz.prog 58 #[.agg #[.int .i64 k, .int .i64 i, .int .u64 b, .string s, .slice ad len cap]] wx fun e w' => ∃ u, e = .returned u ∧ Sx u ∧ Kd k u ∧ Hid (∃ F0 W0, Dt.VR F0 W0 m u t ∧ Below W0.heap.size W0 w') ∧ Thr w k i b s ad len cap w') := fun wx hx => (hO wx hx.below).mono fun e w' ⟨u, a, c, vr, d⟩ => ⟨u, a, by
      rcases c with ⟨-, e⟩ | ⟨-, -, v, e, -⟩
      · exact .inl e
      · exact .inr ⟨_, _, e⟩, c, ⟨_, w', vr.out, Below.refl _ _⟩, hx.step d⟩
  have HC : Hid (∀ u wx, Kd k u → Hid (∃ F0 W0, Dt.VR F0 W0 m u t ∧ Below W0.heap.size W0 wx) → Thr w k i b s ad len cap wx → Calls Tryz.prog 70 #[.iface (qty kind) (.agg #[]), u] wx fun e w' => e = .returned (.tuple #[u, .int .i64 0]) ∧ Hid (∃ F0 W0, Dt.VR F0 W0 m u t ∧ Below W0.heap.size W0 w') ∧ Thr w k i b s ad len cap w') := fun u wx hu hv hx => (caught_yes (qty kind) F u wx hm fun w => (hM k u w hu).1 hq).mono fun e w' ⟨a, d⟩ => ⟨a, by
      obtain ⟨F0, W0, v1, v2⟩ := hv.out
      exact ⟨F0, W0, v1, v2.trans (d.mono v2.size)⟩, hx.step d⟩
  have HS : Hid (∀ wx, Thr w k i b s ad len cap wx → wx.cell? ⟨w.heap.size, 0, none⟩ = some (.int .i64 k) ∧ wx.cell? ⟨w.heap.size, 1, none⟩ = some (.int .i64 i) ∧ wx.cell? ⟨w.heap.size, 2, none⟩ = some (.int .u64 b) ∧ wx.cell? ⟨w.heap.size, 3, none⟩ = some (.string s) ∧ wx.cell? ⟨w.heap.size, 4, none⟩ = some (.slice ad len cap)) := fun wx h => h.c
  have HP : Hid (∀ (v : Value) (w : World), Hid (∃ F0 W0, Dt.VR F0 W0 m v t ∧ Below W0.heap.size W0 w) → Calls Tryz.prog 59 #[v] w fun e w' => ∃ (u0 u1 u2 : Int) (u3 : ByteArray) (a4 : Option Addr) (n4 c4 : Nat), e = .returned (.agg #[.int .i64 u0, .int .i64 u1, .int .u64 u2, .string u3, .slice a4 n4 c4]) ∧ Hid (Dt.Rf (fun g => w.heap.size ≤ g ∧ g < w'.heap.size) w' m [.int .i64 u0, .int .i64 u1, .int .u64 u2, .string u3, .slice a4 n4 c4] t) ∧ Below w.heap.size w w') := fun v w hv => by
    obtain ⟨F0, W0, h1, h2⟩ := hv.out
    refine (Dt.plain_any F0 W0 m t v w hrg h64 hps h1 h2).mono fun e w' ⟨v0, v1, v2, v3, v4, he, rf, hb'⟩ => ?_
    obtain ⟨u0, u1, u2, u3, a4, n4, c4', rfl, rfl, rfl, rfl, rfl⟩ := Dt.rep_shape (Dt.Rf.rep _ _ _ rf)
    exact ⟨u0, u1, u2, u3, a4, n4, c4', he, rf, hb'⟩
  have hb0 := Thr.start w k i b s ad len cap
  clear hm hM hO hq hrg h64 hps
  generalize qty kind = Q at HT HC
  go_enter Tryz.func54, Tryz.ntmps54
  go_wp2_with fail
  go_region_held3 (fun w' => w'.cell? ⟨w.heap.size, 0, none⟩ = some (.int .i64 k) ∧ w'.cell? ⟨w.heap.size, 1, none⟩ = some (.int .i64 i) ∧ w'.cell? ⟨w.heap.size, 2, none⟩ = some (.int .u64 b) ∧ w'.cell? ⟨w.heap.size, 3, none⟩ = some (.string s) ∧ w'.cell? ⟨w.heap.size, 4, none⟩ = some (.slice ad len cap)) (exact HS.out _ (by first | assumption | exact Thr.drew (by assumption))) (first | (go_at_call 71; refine (HT.out _ (by first | assumption | exact Thr.drew (by assumption))).mono ?_; rintro e wa ⟨rfl, ba⟩) | (go_at_call 58; refine (HO.out _ (by first | assumption | exact Thr.drew (by assumption))).mono ?_; rintro e wo ⟨ua, rfl, sx, hu, hv, bo⟩) | (go_at_call 70; refine (HC.out _ _ (by assumption) (by assumption) (by first | assumption | exact Thr.drew (by assumption))).mono ?_; rintro e wc ⟨rfl, hv, bc⟩))
  have B := bc.below
  clear HT HO HC HS hb0 ba bo hu
  rcases sx with rfl | ⟨T, z, rfl⟩
  all_goals
    go_wp2_with fail
    refine (HP.out _ _ hv).mono ?_
    rintro e w4 ⟨u0, u1, u2, u3, a4, n4, c4, rfl, rf, b4⟩
    have h4 := bc.step b4
    obtain ⟨d0, d1, d2, d3, d4, m0, m1, f1, f2⟩ := h4.d
    have m0' : w4.cell? ⟨w.heap.size + 1 + 1, 0, none⟩ = some (.int .i64 0) := m0
    have m1' : w4.cell? ⟨w.heap.size + 1 + 1, 1, none⟩ = some (.int .i64 0) := m1
    have f2' : ∀ o, w4.frozen? ⟨w.heap.size + 1 + 1, o, none⟩ = false := f2
    have B := h4.below
    have z3 := bc.size3
    clear m0 m1 f2
    go_wp2
    refine bodyPost_ret (v := .tuple #[.agg #[.int .i64 u0, .int .i64 u1, .int .u64 u2, .string u3, .slice a4 n4 c4], .agg #[.int .i64 0, .int .i64 0], .int .i64 0]) (by simp [results, Tryz.results54, go_sem, World.cell?_setCell_same, World.cell?_setCell_other, d0, d1, d2, d3, d4, m0', m1']) rfl ⟨_, _, _, _, _, rfl, ?_, ?_⟩
    · refine Dt.Rf.to (fun q hq => ⟨⟨by have := hq.1; omega, by simp [World.setCell]; exact hq.2⟩, ?_⟩) _ _ _ rf.out
      have hne : q ≠ w.heap.size + 1 := by have := hq.1; omega
      have hne' : q ≠ w.heap.size + 1 + 1 := by have := hq.1; omega
      rw [Below.heap_setCell _ _ _ q hne', Below.heap_setCell _ _ _ q hne', Below.heap_setCell _ _ _ q hne, Below.heap_setCell _ _ _ q hne, Below.heap_setCell _ _ _ q hne, Below.heap_setCell _ _ _ q hne, Below.heap_setCell _ _ _ q hne]
    · exact ((((((B.setCell (by show w.heap.size ≤ w.heap.size + 1; omega) _).setCell (by show w.heap.size ≤ w.heap.size + 1; omega) _).setCell (by show w.heap.size ≤ w.heap.size + 1; omega) _).setCell (by show w.heap.size ≤ w.heap.size + 1; omega) _).setCell (by show w.heap.size ≤ w.heap.size + 1; omega) _).setCell (by show w.heap.size ≤ w.heap.size + 1 + 1; omega) _).setCell (by show w.heap.size ≤ w.heap.size + 1 + 1; omega) _
end Go.Proofs.YthamafijjflfbaaGreat
/- The package's Has at any two numbers: the document's answer; no condition. -/
namespace Go.Proofs.YthamafijjflfbaaGreat
open Go.RowKit

theorem faceA0 {k : Int} {u : Value} (hk : Kd k u) : ∃ x, ∀ w, (Instr.typeAssert u 20 115 true).run Tryz.prog w = .ok (.tuple #[x, .bool (refHas k 0)]) w := by
  rcases hk.cases with ⟨h0, rfl⟩ | ⟨rfl, a, rfl⟩ | ⟨rfl, a, rfl⟩ | ⟨rfl, a, rfl⟩ | ⟨rfl, a, rfl⟩ | ⟨rfl, a, rfl⟩ | ⟨rfl, a, rfl⟩ | ⟨rfl, a, rfl⟩ | ⟨rfl, a, rfl⟩ | ⟨rfl, a, b, rfl, ha, hb⟩ | ⟨rfl, c, a, rfl⟩ | ⟨rfl, a, rfl⟩ | ⟨rfl, rfl⟩ | ⟨rfl, rfl⟩
  · have : refHas k 0 = false := by unfold refHas; simp; omega
    rw [this]; exact ⟨.nilIface, fun w => assert_nil Tryz.underlying115 (by kernel_rfl)⟩
  · exact ⟨.nilIface, fun w => run_typeAssert_lacksB Tryz.underlying115 (by kernel_rfl) (by kernel_rfl) _ _ w⟩
  · exact ⟨.nilIface, fun w => run_typeAssert_lacksB Tryz.underlying115 (by kernel_rfl) (by kernel_rfl) _ _ w⟩
  · exact ⟨.nilIface, fun w => run_typeAssert_lacksB Tryz.underlying115 (by kernel_rfl) (by kernel_rfl) _ _ w⟩
  · exact ⟨_, fun w => run_typeAssert_hasB Tryz.underlying115 (by kernel_rfl) _ _ w⟩
  · exact ⟨_, fun w => run_typeAssert_hasB Tryz.underlying115 (by kernel_rfl) _ _ w⟩
  · exact ⟨.nilIface, fun w => run_typeAssert_lacksB Tryz.underlying115 (by kernel_rfl) (by kernel_rfl) _ _ w⟩
  · exact ⟨_, fun w => run_typeAssert_hasB Tryz.underlying115 (by kernel_rfl) _ _ w⟩
  · exact ⟨_, fun w => run_typeAssert_hasB Tryz.underlying115 (by kernel_rfl) _ _ w⟩
  · exact ⟨_, fun w => run_typeAssert_hasB Tryz.underlying115 (by kernel_rfl) _ _ w⟩
  · exact ⟨.nilIface, fun w => run_typeAssert_lacksB Tryz.underlying115 (by kernel_rfl) (by kernel_rfl) _ _ w⟩
  · exact ⟨_, fun w => run_typeAssert_hasB Tryz.underlying115 (by kernel_rfl) _ _ w⟩
  · exact ⟨_, fun w => run_typeAssert_hasB Tryz.underlying115 (by kernel_rfl) _ _ w⟩
  · exact ⟨.nilIface, fun w => run_typeAssert_lacksB Tryz.underlying115 (by kernel_rfl) (by kernel_rfl) _ _ w⟩
theorem faceA1 {k : Int} {u : Value} (hk : Kd k u) : ∃ x, ∀ w, (Instr.typeAssert u 20 180 true).run Tryz.prog w = .ok (.tuple #[x, .bool (refHas k 1)]) w := by
  rcases hk.cases with ⟨h0, rfl⟩ | ⟨rfl, a, rfl⟩ | ⟨rfl, a, rfl⟩ | ⟨rfl, a, rfl⟩ | ⟨rfl, a, rfl⟩ | ⟨rfl, a, rfl⟩ | ⟨rfl, a, rfl⟩ | ⟨rfl, a, rfl⟩ | ⟨rfl, a, rfl⟩ | ⟨rfl, a, b, rfl, ha, hb⟩ | ⟨rfl, c, a, rfl⟩ | ⟨rfl, a, rfl⟩ | ⟨rfl, rfl⟩ | ⟨rfl, rfl⟩
  · have : refHas k 1 = false := by unfold refHas; simp; omega
    rw [this]; exact ⟨.nilIface, fun w => assert_nil Tryz.underlying180 (by kernel_rfl)⟩
  · exact ⟨.nilIface, fun w => run_typeAssert_lacksB Tryz.underlying180 (by kernel_rfl) (by kernel_rfl) _ _ w⟩
  · exact ⟨_, fun w => run_typeAssert_hasB Tryz.underlying180 (by kernel_rfl) _ _ w⟩
  · exact ⟨.nilIface, fun w => run_typeAssert_lacksB Tryz.underlying180 (by kernel_rfl) (by kernel_rfl) _ _ w⟩
  · exact ⟨.nilIface, fun w => run_typeAssert_lacksB Tryz.underlying180 (by kernel_rfl) (by kernel_rfl) _ _ w⟩
  · exact ⟨_, fun w => run_typeAssert_hasB Tryz.underlying180 (by kernel_rfl) _ _ w⟩
  · exact ⟨.nilIface, fun w => run_typeAssert_lacksB Tryz.underlying180 (by kernel_rfl) (by kernel_rfl) _ _ w⟩
  · exact ⟨.nilIface, fun w => run_typeAssert_lacksB Tryz.underlying180 (by kernel_rfl) (by kernel_rfl) _ _ w⟩
  · exact ⟨.nilIface, fun w => run_typeAssert_lacksB Tryz.underlying180 (by kernel_rfl) (by kernel_rfl) _ _ w⟩
  · exact ⟨.nilIface, fun w => run_typeAssert_lacksB Tryz.underlying180 (by kernel_rfl) (by kernel_rfl) _ _ w⟩
  · exact ⟨_, fun w => run_typeAssert_hasB Tryz.underlying180 (by kernel_rfl) _ _ w⟩
  · exact ⟨.nilIface, fun w => run_typeAssert_lacksB Tryz.underlying180 (by kernel_rfl) (by kernel_rfl) _ _ w⟩
  · exact ⟨.nilIface, fun w => run_typeAssert_lacksB Tryz.underlying180 (by kernel_rfl) (by kernel_rfl) _ _ w⟩
  · exact ⟨.nilIface, fun w => run_typeAssert_lacksB Tryz.underlying180 (by kernel_rfl) (by kernel_rfl) _ _ w⟩
theorem faceA2 {k : Int} {u : Value} (hk : Kd k u) : ∃ x, ∀ w, (Instr.typeAssert u 20 183 true).run Tryz.prog w = .ok (.tuple #[x, .bool (refHas k 2)]) w := by
  rcases hk.cases with ⟨h0, rfl⟩ | ⟨rfl, a, rfl⟩ | ⟨rfl, a, rfl⟩ | ⟨rfl, a, rfl⟩ | ⟨rfl, a, rfl⟩ | ⟨rfl, a, rfl⟩ | ⟨rfl, a, rfl⟩ | ⟨rfl, a, rfl⟩ | ⟨rfl, a, rfl⟩ | ⟨rfl, a, b, rfl, ha, hb⟩ | ⟨rfl, c, a, rfl⟩ | ⟨rfl, a, rfl⟩ | ⟨rfl, rfl⟩ | ⟨rfl, rfl⟩
  · have : refHas k 2 = false := by unfold refHas; simp; omega
    rw [this]; exact ⟨.nilIface, fun w => assert_nil Tryz.underlying183 (by kernel_rfl)⟩
  · exact ⟨.nilIface, fun w => run_typeAssert_lacksB Tryz.underlying183 (by kernel_rfl) (by kernel_rfl) _ _ w⟩
  · exact ⟨.nilIface, fun w => run_typeAssert_lacksB Tryz.underlying183 (by kernel_rfl) (by kernel_rfl) _ _ w⟩
  · exact ⟨.nilIface, fun w => run_typeAssert_lacksB Tryz.underlying183 (by kernel_rfl) (by kernel_rfl) _ _ w⟩
  · exact ⟨.nilIface, fun w => run_typeAssert_lacksB Tryz.underlying183 (by kernel_rfl) (by kernel_rfl) _ _ w⟩
  · exact ⟨.nilIface, fun w => run_typeAssert_lacksB Tryz.underlying183 (by kernel_rfl) (by kernel_rfl) _ _ w⟩
  · exact ⟨.nilIface, fun w => run_typeAssert_lacksB Tryz.underlying183 (by kernel_rfl) (by kernel_rfl) _ _ w⟩
  · exact ⟨.nilIface, fun w => run_typeAssert_lacksB Tryz.underlying183 (by kernel_rfl) (by kernel_rfl) _ _ w⟩
  · exact ⟨.nilIface, fun w => run_typeAssert_lacksB Tryz.underlying183 (by kernel_rfl) (by kernel_rfl) _ _ w⟩
  · exact ⟨.nilIface, fun w => run_typeAssert_lacksB Tryz.underlying183 (by kernel_rfl) (by kernel_rfl) _ _ w⟩
  · exact ⟨_, fun w => run_typeAssert_hasB Tryz.underlying183 (by kernel_rfl) _ _ w⟩
  · exact ⟨_, fun w => run_typeAssert_hasB Tryz.underlying183 (by kernel_rfl) _ _ w⟩
  · exact ⟨_, fun w => run_typeAssert_hasB Tryz.underlying183 (by kernel_rfl) _ _ w⟩
  · exact ⟨.nilIface, fun w => run_typeAssert_lacksB Tryz.underlying183 (by kernel_rfl) (by kernel_rfl) _ _ w⟩
theorem faceA3 {k : Int} {u : Value} (hk : Kd k u) : ∃ x, ∀ w, (Instr.typeAssert u 20 100 true).run Tryz.prog w = .ok (.tuple #[x, .bool (refHas k 3)]) w := by
  rcases hk.cases with ⟨h0, rfl⟩ | ⟨rfl, a, rfl⟩ | ⟨rfl, a, rfl⟩ | ⟨rfl, a, rfl⟩ | ⟨rfl, a, rfl⟩ | ⟨rfl, a, rfl⟩ | ⟨rfl, a, rfl⟩ | ⟨rfl, a, rfl⟩ | ⟨rfl, a, rfl⟩ | ⟨rfl, a, b, rfl, ha, hb⟩ | ⟨rfl, c, a, rfl⟩ | ⟨rfl, a, rfl⟩ | ⟨rfl, rfl⟩ | ⟨rfl, rfl⟩
  · have : refHas k 3 = false := by unfold refHas; simp; omega
    rw [this]; exact ⟨.nilIface, fun w => assert_nil Tryz.underlying100 (by kernel_rfl)⟩
  · exact ⟨.nilIface, fun w => run_typeAssert_lacksB Tryz.underlying100 (by kernel_rfl) (by kernel_rfl) _ _ w⟩
  · exact ⟨.nilIface, fun w => run_typeAssert_lacksB Tryz.underlying100 (by kernel_rfl) (by kernel_rfl) _ _ w⟩
  · exact ⟨.nilIface, fun w => run_typeAssert_lacksB Tryz.underlying100 (by kernel_rfl) (by kernel_rfl) _ _ w⟩
  · exact ⟨.nilIface, fun w => run_typeAssert_lacksB Tryz.underlying100 (by kernel_rfl) (by kernel_rfl) _ _ w⟩
  · exact ⟨.nilIface, fun w => run_typeAssert_lacksB Tryz.underlying100 (by kernel_rfl) (by kernel_rfl) _ _ w⟩
  · exact ⟨.nilIface, fun w => run_typeAssert_lacksB Tryz.underlying100 (by kernel_rfl) (by kernel_rfl) _ _ w⟩
  · exact ⟨.nilIface, fun w => run_typeAssert_lacksB Tryz.underlying100 (by kernel_rfl) (by kernel_rfl) _ _ w⟩
  · exact ⟨.nilIface, fun w => run_typeAssert_lacksB Tryz.underlying100 (by kernel_rfl) (by kernel_rfl) _ _ w⟩
  · exact ⟨.nilIface, fun w => run_typeAssert_lacksB Tryz.underlying100 (by kernel_rfl) (by kernel_rfl) _ _ w⟩
  · exact ⟨.nilIface, fun w => run_typeAssert_lacksB Tryz.underlying100 (by kernel_rfl) (by kernel_rfl) _ _ w⟩
  · exact ⟨_, fun w => run_typeAssert_hasB Tryz.underlying100 (by kernel_rfl) _ _ w⟩
  · exact ⟨_, fun w => run_typeAssert_hasB Tryz.underlying100 (by kernel_rfl) _ _ w⟩
  · exact ⟨.nilIface, fun w => run_typeAssert_lacksB Tryz.underlying100 (by kernel_rfl) (by kernel_rfl) _ _ w⟩
theorem faceA4 {k : Int} {u : Value} (hk : Kd k u) : ∃ x, ∀ w, (Instr.typeAssert u 20 187 true).run Tryz.prog w = .ok (.tuple #[x, .bool (refHas k 4)]) w := by
  rcases hk.cases with ⟨h0, rfl⟩ | ⟨rfl, a, rfl⟩ | ⟨rfl, a, rfl⟩ | ⟨rfl, a, rfl⟩ | ⟨rfl, a, rfl⟩ | ⟨rfl, a, rfl⟩ | ⟨rfl, a, rfl⟩ | ⟨rfl, a, rfl⟩ | ⟨rfl, a, rfl⟩ | ⟨rfl, a, b, rfl, ha, hb⟩ | ⟨rfl, c, a, rfl⟩ | ⟨rfl, a, rfl⟩ | ⟨rfl, rfl⟩ | ⟨rfl, rfl⟩
  · have : refHas k 4 = false := by unfold refHas; simp; omega
    rw [this]; exact ⟨.nilIface, fun w => assert_nil Tryz.underlying187 (by kernel_rfl)⟩
  · exact ⟨_, fun w => run_typeAssert_hasB Tryz.underlying187 (by kernel_rfl) _ _ w⟩
  · exact ⟨_, fun w => run_typeAssert_hasB Tryz.underlying187 (by kernel_rfl) _ _ w⟩
  · exact ⟨_, fun w => run_typeAssert_hasB Tryz.underlying187 (by kernel_rfl) _ _ w⟩
  · exact ⟨_, fun w => run_typeAssert_hasB Tryz.underlying187 (by kernel_rfl) _ _ w⟩
  · exact ⟨_, fun w => run_typeAssert_hasB Tryz.underlying187 (by kernel_rfl) _ _ w⟩
  · exact ⟨.nilIface, fun w => run_typeAssert_lacksB Tryz.underlying187 (by kernel_rfl) (by kernel_rfl) _ _ w⟩
  · exact ⟨.nilIface, fun w => run_typeAssert_lacksB Tryz.underlying187 (by kernel_rfl) (by kernel_rfl) _ _ w⟩
  · exact ⟨.nilIface, fun w => run_typeAssert_lacksB Tryz.underlying187 (by kernel_rfl) (by kernel_rfl) _ _ w⟩
  · exact ⟨.nilIface, fun w => run_typeAssert_lacksB Tryz.underlying187 (by kernel_rfl) (by kernel_rfl) _ _ w⟩
  · exact ⟨.nilIface, fun w => run_typeAssert_lacksB Tryz.underlying187 (by kernel_rfl) (by kernel_rfl) _ _ w⟩
  · exact ⟨.nilIface, fun w => run_typeAssert_lacksB Tryz.underlying187 (by kernel_rfl) (by kernel_rfl) _ _ w⟩
  · exact ⟨.nilIface, fun w => run_typeAssert_lacksB Tryz.underlying187 (by kernel_rfl) (by kernel_rfl) _ _ w⟩
  · exact ⟨.nilIface, fun w => run_typeAssert_lacksB Tryz.underlying187 (by kernel_rfl) (by kernel_rfl) _ _ w⟩
theorem faceA5 {k : Int} {u : Value} (hk : Kd k u) : ∃ x, ∀ w, (Instr.typeAssert u 20 190 true).run Tryz.prog w = .ok (.tuple #[x, .bool (refHas k 5)]) w := by
  rcases hk.cases with ⟨h0, rfl⟩ | ⟨rfl, a, rfl⟩ | ⟨rfl, a, rfl⟩ | ⟨rfl, a, rfl⟩ | ⟨rfl, a, rfl⟩ | ⟨rfl, a, rfl⟩ | ⟨rfl, a, rfl⟩ | ⟨rfl, a, rfl⟩ | ⟨rfl, a, rfl⟩ | ⟨rfl, a, b, rfl, ha, hb⟩ | ⟨rfl, c, a, rfl⟩ | ⟨rfl, a, rfl⟩ | ⟨rfl, rfl⟩ | ⟨rfl, rfl⟩
  · have : refHas k 5 = false := by unfold refHas; simp; omega
    rw [this]; exact ⟨.nilIface, fun w => assert_nil Tryz.underlying190 (by kernel_rfl)⟩
  · exact ⟨_, fun w => run_typeAssert_hasB Tryz.underlying190 (by kernel_rfl) _ _ w⟩
  · exact ⟨.nilIface, fun w => run_typeAssert_lacksB Tryz.underlying190 (by kernel_rfl) (by kernel_rfl) _ _ w⟩
  · exact ⟨_, fun w => run_typeAssert_hasB Tryz.underlying190 (by kernel_rfl) _ _ w⟩
  · exact ⟨.nilIface, fun w => run_typeAssert_lacksB Tryz.underlying190 (by kernel_rfl) (by kernel_rfl) _ _ w⟩
  · exact ⟨.nilIface, fun w => run_typeAssert_lacksB Tryz.underlying190 (by kernel_rfl) (by kernel_rfl) _ _ w⟩
  · exact ⟨.nilIface, fun w => run_typeAssert_lacksB Tryz.underlying190 (by kernel_rfl) (by kernel_rfl) _ _ w⟩
  · exact ⟨.nilIface, fun w => run_typeAssert_lacksB Tryz.underlying190 (by kernel_rfl) (by kernel_rfl) _ _ w⟩
  · exact ⟨.nilIface, fun w => run_typeAssert_lacksB Tryz.underlying190 (by kernel_rfl) (by kernel_rfl) _ _ w⟩
  · exact ⟨.nilIface, fun w => run_typeAssert_lacksB Tryz.underlying190 (by kernel_rfl) (by kernel_rfl) _ _ w⟩
  · exact ⟨.nilIface, fun w => run_typeAssert_lacksB Tryz.underlying190 (by kernel_rfl) (by kernel_rfl) _ _ w⟩
  · exact ⟨.nilIface, fun w => run_typeAssert_lacksB Tryz.underlying190 (by kernel_rfl) (by kernel_rfl) _ _ w⟩
  · exact ⟨.nilIface, fun w => run_typeAssert_lacksB Tryz.underlying190 (by kernel_rfl) (by kernel_rfl) _ _ w⟩
  · exact ⟨.nilIface, fun w => run_typeAssert_lacksB Tryz.underlying190 (by kernel_rfl) (by kernel_rfl) _ _ w⟩

set_option maxHeartbeats 400000 in
theorem answers_any (k m : Int) (u : Value) (hk : Kd k u) (w : World) :
    Calls Tryz.prog 90 #[u, .int .i64 m] w fun e w' => e = .returned (.bool (refHas k m)) ∧ w' = w := by
  obtain ⟨x0, f0⟩ := faceA0 hk
  obtain ⟨x1, f1⟩ := faceA1 hk
  obtain ⟨x2, f2⟩ := faceA2 hk
  obtain ⟨x3, f3⟩ := faceA3 hk
  obtain ⟨x4, f4⟩ := faceA4 hk
  obtain ⟨x5, f5⟩ := faceA5 hk
  clear hk
  by_cases c0 : m = 0
  · subst c0
    generalize refHas k 0 = bb at f0
    go_enter Tryz.func90, Tryz.ntmps90
    go_wp2
    go_ret; exact ⟨rfl, rfl⟩
  by_cases c1 : m = 1
  · subst c1
    clear c0
    generalize refHas k 1 = bb at f1
    go_enter Tryz.func90, Tryz.ntmps90
    go_wp2
    go_ret; exact ⟨rfl, rfl⟩
  by_cases c2 : m = 2
  · subst c2
    clear c0 c1
    generalize refHas k 2 = bb at f2
    go_enter Tryz.func90, Tryz.ntmps90
    go_wp2
    go_ret; exact ⟨rfl, rfl⟩
  by_cases c3 : m = 3
  · subst c3
    clear c0 c1 c2
    generalize refHas k 3 = bb at f3
    go_enter Tryz.func90, Tryz.ntmps90
    go_wp2
    go_ret; exact ⟨rfl, rfl⟩
  by_cases c4 : m = 4
  · subst c4
    clear c0 c1 c2 c3
    generalize refHas k 4 = bb at f4
    go_enter Tryz.func90, Tryz.ntmps90
    go_wp2
    go_ret; exact ⟨rfl, rfl⟩
  by_cases c5 : m = 5
  · subst c5
    clear c0 c1 c2 c3 c4
    generalize refHas k 5 = bb at f5
    go_enter Tryz.func90, Tryz.ntmps90
    go_wp2
    go_ret; exact ⟨rfl, rfl⟩
  have hf : refHas k m = false := by unfold refHas; simp [c0, c1, c2, c3, c4, c5]
  rw [hf]; clear hf
  have g0 : (m == 0) = false := by simpa using c0
  have g1 : (m == 1) = false := by simpa using c1
  have g2 : (m == 2) = false := by simpa using c2
  have g3 : (m == 3) = false := by simpa using c3
  have g4 : (m == 4) = false := by simpa using c4
  have g5 : (m == 5) = false := by simpa using c5
  clear c0 c1 c2 c3 c4 c5 f0 f1 f2 f3 f4 f5
  go_enter Tryz.func90, Tryz.ntmps90
  go_wp2
  go_ret
  exact ⟨rfl, rfl⟩

set_option maxRecDepth 100000 in
set_option maxHeartbeats 1000000 in
theorem has_any (k m : Int) (w : World) : Calls Tryz.prog 89 #[.int .i64 k, .int .i64 m] w fun e w' => e = .returned (.bool (refHas k m)) ∧ Below w.heap.size w w' := by
  have HK := Lib.hid (ofKind_any k)
  have HA : Hid (∀ u w, Kd k u → Calls Tryz.prog 90 #[u, .int .i64 m] w fun e w' => e = .returned (.bool (refHas k m)) ∧ w' = w) := fun u w hu => answers_any k m u hu w
  generalize refHas k m = bb at HA
  go_enter Tryz.func89, Tryz.ntmps89
  go_wp2_with fail
  refine (HK.out _).mono ?_
  rintro e w1 ⟨u, rfl, hx, b1⟩
  go_wp2_with fail
  refine (HA.out u _ hx).mono ?_
  rintro e w2 ⟨rfl, rfl⟩
  go_wp2
  go_ret
  exact ⟨rfl, b1⟩

theorem isKind_any (k : Int) (w : World) : Calls Tryz.prog 87 #[.int .i64 k] w fun e w' => e = .returned (.bool (decide (0 ≤ k ∧ k < 14))) ∧ w' = w := by
  by_cases h0 : 0 ≤ k
  · by_cases h1 : k < 14
    · rw [decide_eq_true ⟨h0, h1⟩]
      go_enter Tryz.func87, Tryz.ntmps87
      go_wp2
      go_ret
      exact ⟨rfl, rfl⟩
    · rw [decide_eq_false (by omega)]
      go_enter Tryz.func87, Tryz.ntmps87
      go_wp2
      go_ret
      exact ⟨rfl, rfl⟩
  · rw [decide_eq_false (by omega)]
    go_enter Tryz.func87, Tryz.ntmps87
    go_wp2
    go_ret
    exact ⟨rfl, rfl⟩

theorem infoInt : (Tryz.prog.info? 3).map (fun i => (i.zero, i.size, i.bytes)) = some (some (.int .i64 0), 1, 8) := by kernel_rfl
theorem infoInt_parts : ∃ i0, Tryz.prog.info? 3 = some i0 ∧ i0.zero = some (.int .i64 0) ∧ i0.size = 1 ∧ i0.bytes = 8 := by
  have h := infoInt
  cases hi : Tryz.prog.info? 3 with
  | none => rw [hi] at h; cases h
  | some i =>
    rw [hi] at h
    simp only [Option.map_some, Option.some.injEq, Prod.mk.injEq] at h
    exact ⟨i, rfl, h.1, h.2.1, h.2.2⟩
/-- The numbers below j whose bit is set. -/
def mset (M : Nat) (j : Nat) : List Int := ((List.range j).filter fun i => M / 2 ^ i % 2 == 1).map Int.ofNat
theorem mset_yes (M j : Nat) (h : M / 2 ^ j % 2 = 1) : (mset M (j + 1)).map (Value.int .i64) = (mset M j).map (Value.int .i64) ++ [.int .i64 (j : Int)] := by
  simp [mset, List.range_succ, List.filter_append, h]
theorem mset_no (M j : Nat) (h : M / 2 ^ j % 2 ≠ 1) : mset M (j + 1) = mset M j := by
  simp [mset, List.range_succ, List.filter_append, h]
theorem mset_len (M j : Nat) : (mset M j).length ≤ j := by
  unfold mset
  rw [List.length_map]
  exact Nat.le_trans (List.length_filter_le _ _) (by simp)
theorem mset_len_yes (M j : Nat) (h : M / 2 ^ j % 2 = 1) : (mset M (j + 1)).length = (mset M j).length + 1 := by
  have := congrArg List.length (mset_yes M j h)
  simpa using this
theorem and1 (M j : Nat) (hM : M < 256) : bits .and .u8 ((M : Int) / 2 ^ j) 1 = ((M / 2 ^ j % 2 : Nat) : Int) := by
  have e : ((M : Int) / 2 ^ j) = ((M / 2 ^ j : Nat) : Int) := by norm_cast
  have hl : M / 2 ^ j ≤ M := Nat.div_le_self _ _
  rw [e, show (1 : Int) = ((1 : Nat) : Int) from rfl, u8_and_nat _ _ (by omega) (by decide), Nat.and_one_is_mod]
/-- The bits of an interface's methods. -/
theorem mbits_mset (f : Int) : ∃ M : Nat, mbits f = M ∧ M < 256 ∧ mset M 6 = mths f := by
  by_cases h : f < 0 ∨ 9 < f
  · refine ⟨0, ?_, by decide, ?_⟩
    · unfold mbits
      rw [if_neg (show ¬ f = 0 by omega)]
      rw [if_neg (show ¬ f = 1 by omega)]
      rw [if_neg (show ¬ f = 2 by omega)]
      rw [if_neg (show ¬ f = 3 by omega)]
      rw [if_neg (show ¬ f = 4 by omega)]
      rw [if_neg (show ¬ f = 5 by omega)]
      rw [if_neg (show ¬ f = 6 by omega)]
      rw [if_neg (show ¬ f = 7 by omega)]
      rw [if_neg (show ¬ f = 8 by omega)]
      rw [if_neg (show ¬ f = 9 by omega)]
      rfl
    · rw [mths_no f h]; decide
  have hk : f = 0 ∨ f = 1 ∨ f = 2 ∨ f = 3 ∨ f = 4 ∨ f = 5 ∨ f = 6 ∨ f = 7 ∨ f = 8 ∨ f = 9 := by omega
  rcases hk with rfl | rfl | rfl | rfl | rfl | rfl | rfl | rfl | rfl | rfl
  · exact ⟨1, by decide, by decide, by decide⟩
  · exact ⟨2, by decide, by decide, by decide⟩
  · exact ⟨4, by decide, by decide, by decide⟩
  · exact ⟨8, by decide, by decide, by decide⟩
  · exact ⟨16, by decide, by decide, by decide⟩
  · exact ⟨32, by decide, by decide, by decide⟩
  · exact ⟨3, by decide, by decide, by decide⟩
  · exact ⟨17, by decide, by decide, by decide⟩
  · exact ⟨48, by decide, by decide, by decide⟩
  · exact ⟨19, by decide, by decide, by decide⟩
end Go.Proofs.YthamafijjflfbaaGreat
/- The package's Methods and Missing at any two numbers: the document's; no condition. -/
namespace Go.Proofs.YthamafijjflfbaaGreat
open Go.RowKit

theorem own_below {w w' : World} {base : Nat} {e : TypeId} {size : Nat} {v : Value} {n : Nat} {xs : List Value} (h : w.ownsRow base e size v n xs) (hb : Below w.heap.size w w') : w'.ownsRow base e size v n xs := by
  obtain ⟨o1, o2⟩ := h
  refine ⟨o1, ?_⟩
  rcases o2 with o2 | ⟨g, cap, cur, e1, e2, e3, e4⟩
  · exact .inl o2
  · exact .inr ⟨g, cap, cur, e1, e2, (hb.block g (Array.getElem?_eq_some_iff.1 e3).1).trans e3, e4⟩
theorem ir_own {w : World} {base : Nat} {v : Value} {l : List Int} (h : w.ownsRow base 3 1 v l.length (l.map (Value.int .i64))) : IR w v l := by
  obtain ⟨-, h | ⟨g, cap, cur, hv, -, hg, hc, hm, hs, ht⟩⟩ := h
  · obtain ⟨rfl, h0⟩ := h
    have : l = [] := List.eq_nil_of_length_eq_zero h0
    subst this
    exact ⟨none, 0, rfl, Nat.le_refl _, by unfold maxLen; omega, .inl rfl⟩
  · refine ⟨some ⟨g, 0, none⟩, cap, hv, hc, hm, .inr ⟨g, rfl, fun j x hj => ?_⟩⟩
    have hl : j < l.length := (List.getElem?_eq_some_iff.1 hj).1
    have h1 : (cur.toList.take (l.length * 1))[j]? = some (.int .i64 x) := by rw [ht, List.getElem?_map, hj]; rfl
    rw [List.getElem?_take_of_lt (by omega)] at h1
    have h2 : cur[j]? = some (.int .i64 x) := by rw [← Array.getElem?_toList]; exact h1
    simp [World.cell?, hg, h2]

set_option maxRecDepth 100000 in
set_option maxHeartbeats 2000000 in
theorem methods_any (f : Int) (w : World) : Calls Tryz.prog 88 #[.int .i64 f] w fun e w' => ∃ v, e = .returned v ∧ IR w' v (mths f) ∧ Below w.heap.size w w' := by
  obtain ⟨i0, hi, hz0, hz1, hz2⟩ := infoInt_parts
  obtain ⟨M, hM, hlt256, hms⟩ := mbits_mset f
  have HI := Lib.hid (interfaceOf_any f)
  rw [hM] at HI
  rw [← hms]
  have hfd : ∀ (Q : TypeId) (m : Int) (w : World), (Instr.field 125 (.agg #[.iface Q (.agg #[]), .int .u8 m]) 1).run Tryz.prog w = .ok (.int .u8 m) w := fun _ _ _ => by kernel_rfl
  clear hM hms
  generalize qfc f = Q at HI
  go_enter Tryz.func88, Tryz.ntmps88
  go_wp2_with fail
  refine (HI.out _).mono ?_
  rintro e w1 ⟨rfl, b1⟩
  go_wp2_with fail
  go_loopw [3, 9] (fun sl si wr => ∃ (j : Nat) (a' : Option Addr) (l' c' : Nat), sl = .slice a' l' c' ∧ si = .int .i64 j ∧ j ≤ 6 ∧ wr.ownsRow w.heap.size 3 1 (.slice a' l' c') (mset M j).length ((mset M j).map (Value.int .i64)) ∧ Below w.heap.size w wr) (fun _ si _ => 6 - (intOf si).toNat)
  case atStart => exact ⟨0, none, 0, 0, rfl, rfl, Nat.zero_le _, World.ownsRow_nil _ _ _ _, b1⟩
  case round =>
    obtain ⟨j, a', l', c', rfl, rfl, hj, ow, bw⟩ := hrel
    by_cases hlt : j < 6
    · have j0 : (0 : Int) ≤ (j : Int) := by omega
      have j1 : (j : Int) ≤ 8 := by omega
      have j2 : (j : Int) < 6 := by omega
      have ha := and1 M j hlt256
      have hln := mset_len M j
      by_cases hb : M / 2 ^ j % 2 = 1
      · rw [hb] at ha
        have HO := Lib.hid ow
        go_wp2_with (at_builtin; refine wpList_append_lies _ rfl _ _ 43 rfl w.heap.size 3 i0 (.int .i64 0) 1 8 Tryz.underlying43 hi hz0 hz1 hz2 rfl (by decide) (.slice a' l' c') (mset M j).length ((mset M j).map (Value.int .i64)) rfl (ow.alloc _) ⟨wr.heap.size, 0, none⟩ 1 1 [.int .i64 j] rfl rfl ?hnews ?h1 (by decide) ?h63 ?hby ?hbase _ rfl ?next)
        case hnews => intro a b hab; exact World.news_of_block (heap_alloc_new wr _) a b (by simpa using hab)
        case h1 => intro a ha; simp at ha; subst ha; rfl
        case h63 => unfold maxLen; omega
        case hby => omega
        case hbase => have := bw.size; simp; omega
        intro g' cap2 w4 own4 gr4 at4 lt4
        have B4 : Below w.heap.size w w4 := (bw.alloc bw.size _).grown gr4 (by have := bw.size; simp; omega) (fun k hk => by
          rcases HO.out.2 with ⟨e0, -⟩ | ⟨g2, c2, cu, e1, e2, -⟩
          · rw [e0] at hk; cases hk
          · rw [e1] at hk; have := Option.some.inj hk; simp at this; omega)
        have O4 : w4.ownsRow w.heap.size 3 1 (.slice (some ⟨g', 0, none⟩) ((mset M j).length + 1) cap2) (mset M (j + 1)).length ((mset M (j + 1)).map (Value.int .i64)) := by rw [mset_yes M j hb, mset_len_yes M j hb]; exact own4
        clear own4 gr4 at4 ow HO ha
        go_wp2_with fail
        exact ⟨⟨j + 1, _, _, _, rfl, by go_num, by omega, O4, B4⟩, by simp [intOf]; omega⟩
      · have hb' : M / 2 ^ j % 2 = 0 := by omega
        rw [hb'] at ha
        rw [← mset_no M j hb] at ow
        go_wp2_with fail
        exact ⟨⟨j + 1, _, _, _, rfl, by go_num, by omega, ow, bw⟩, by simp [intOf]; omega⟩
    · obtain rfl : j = 6 := by omega
      have j2 : ¬ (((6 : Nat) : Int) < 6) := by omega
      go_wp2_with fail
      go_ret
      exact ⟨_, rfl, ir_own ow, bw⟩

set_option maxRecDepth 100000 in
set_option maxHeartbeats 1000000 in
theorem missing_any (k f : Int) (w : World) : Calls Tryz.prog 74 #[.int .i64 k, .int .i64 f] w fun e w' => e = .returned (.int .i64 (lacks k f)) ∧ Below w.heap.size w w' := by
  have HK := Lib.hid (isKind_any k)
  by_cases h : 0 ≤ k ∧ k < 14
  · rw [decide_eq_true h] at HK
    have e : lacks k f = lackL k (mths f) := by unfold lacks; rw [if_neg (by omega)]
    rw [e]; clear e h
    have H := Lib.hid (methods_any f)
    have hbd := (mths_bd f).1
    generalize mths f = l at H hbd
    have HR : Hid (∀ m wx, Below w.heap.size w wx → Calls Tryz.prog 89 #[.int .i64 k, .int .i64 m] wx fun e w' => e = .returned (.bool (refHas k m)) ∧ Below w.heap.size w w' ∧ Below wx.heap.size wx w') := fun m wx hx => (has_any k m wx).mono fun e w' ⟨a, b⟩ => ⟨a, hx.trans (b.mono hx.size), b⟩
    go_enter Tryz.func74, Tryz.ntmps74
    go_wp2_with fail
    refine (HK.out _).mono ?_
    rintro e w0 ⟨rfl, hw0⟩
    have hw1 := hw0.symm
    clear hw0
    subst hw1
    go_wp2_with fail
    refine (H.out _).mono ?_
    rintro e w1 ⟨v, rfl, ir, b1⟩
    have IRH := Lib.hid ir
    obtain ⟨ad, cap, rfl, hc, hm, -⟩ := ir
    clear H
    unfold maxLen at hm
    go_wp2_with fail
    go_loopw [13] (fun si wr => ∃ (j : Nat), si = .int .i64 j ∧ j ≤ l.length ∧ lackL k (l.drop j) = lackL k l ∧ Below w.heap.size w wr ∧ Below w1.heap.size w1 wr) (fun si _ => l.length - (intOf si).toNat)
    case atStart => exact ⟨0, rfl, Nat.zero_le _, rfl, b1, Below.refl _ _⟩
    case round =>
      obtain ⟨j, rfl, hj, hinv, hb, hb1⟩ := hrel
      have HV := Lib.hid hinv
      clear hinv
      by_cases hlt : j < l.length
      · have hne : l ≠ [] := by intro e; rw [e] at hlt; exact absurd hlt (Nat.not_lt_zero _)
        obtain ⟨ad', cap', e1, -, -, hr⟩ := IRH.out.below hb1
        rcases hr with hk | ⟨g, hk1, hk2⟩
        · exact absurd hk hne
        subst hk1
        simp only [Value.slice.injEq] at e1
        obtain ⟨rfl, -, rfl⟩ := e1
        have x0 := hk2 j _ (List.getElem?_eq_getElem hlt)
        have hv := HV.out
        rw [drop_atW l j hlt, lackL_cons] at hv
        clear HV hk2
        generalize l[j] = m at hv x0
        go_wp2_with fail
        refine (HR.out m _ hb).mono ?_
        rintro e w2 ⟨he, b2, b3⟩
        cases hbb : refHas k m with
        | true =>
          rw [hbb] at he
          rw [if_pos hbb] at hv
          have HW := Lib.hid hv
          clear hv hbb
          subst he
          go_wp2_with fail
          exact ⟨⟨j + 1, by go_num, by omega, HW.out, b2, hb1.trans (b3.mono hb1.size)⟩, by simp [intOf]; omega⟩
        | false =>
          rw [hbb] at he
          rw [if_neg (by rw [hbb]; decide)] at hv
          have HW := Lib.hid hv
          clear hv hbb
          subst he
          go_wp2_with fail
          go_ret
          exact ⟨by rw [← HW.out]; rfl, b2⟩
      · have hje : j = l.length := by omega
        have hv := HV.out
        rw [hje, List.drop_length] at hv
        have HW := Lib.hid hv
        clear hv HV
        go_wp2_with fail
        go_ret
        exact ⟨by rw [← HW.out]; rfl, hb⟩
  · rw [decide_eq_false h] at HK
    have e : lacks k f = -1 := by unfold lacks; rw [if_pos (by omega)]
    rw [e]; clear e h
    go_enter Tryz.func74, Tryz.ntmps74
    go_wp2_with fail
    refine (HK.out _).mono ?_
    rintro e w0 ⟨rfl, hw0⟩
    have hw1 := hw0.symm
    clear hw0
    subst hw1
    go_wp2
    go_ret
    exact ⟨rfl, Below.refl _ _⟩
end Go.Proofs.YthamafijjflfbaaGreat
