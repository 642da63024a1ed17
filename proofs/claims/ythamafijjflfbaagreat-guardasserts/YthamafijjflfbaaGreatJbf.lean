/- The package's Must of a value that has not the type: no value, what it was, and the error; the conditions: what the value's maker gives, and that the question's assertion panics of it. -/
import Derived.Test.YthamafijjflfbaaGreatJbb
import Derived.Test.YthamafijjflfbaaGreatJba
import Derived.Test.YthamafijjflfbaaGreatTmu
import Derived.Test.YthamafijjflfbaaGreatImp
namespace Go.Proofs.YthamafijjflfbaaGreat
open Go.RowKit

/-- A value's block, and two blocks behind it. -/
def Thr (w : World) (k i b : Int) (s : ByteArray) (ad : Option Addr) (len cap : Nat) (w' : World) : Prop :=
  Below (w.heap.size + 3) (((w.alloc (.cells #[.int .i64 k, .int .i64 i, .int .u64 b, .string s, .slice ad len cap] 25)).alloc (.cells #[.int .i64 0, .int .i64 0, .int .u64 0, .string ⟨#[]⟩, .slice none 0 0] 25)).alloc (.cells #[.int .i64 0, .int .i64 0] 92)) w'
theorem Thr.drew {w : World} {k i b : Int} {s : ByteArray} {ad : Option Addr} {len cap : Nat} {w' : World} (h : Thr w k i b s ad len cap w') : Thr w k i b s ad len cap w'.drew := Below.drew h
theorem Thr.below {w : World} {k i b : Int} {s : ByteArray} {ad : Option Addr} {len cap : Nat} {w' : World} (h : Thr w k i b s ad len cap w') : Below w.heap.size w w' :=
  ((((Below.refl _ w).alloc (Nat.le_refl _) _).alloc (by simp) _).alloc (by simp; omega) _).trans (Below.mono h (by omega))
theorem Thr.step {w : World} {k i b : Int} {s : ByteArray} {ad : Option Addr} {len cap : Nat} {w1 w2 : World} (h : Thr w k i b s ad len cap w1) (hb : Below w1.heap.size w1 w2) : Thr w k i b s ad len cap w2 := by
  have := Below.size h
  simp at this
  exact Below.trans h (hb.mono (by omega))
theorem Thr.start (w : World) (k i b : Int) (s : ByteArray) (ad : Option Addr) (len cap : Nat) : Thr w k i b s ad len cap (((w.alloc (.cells #[.int .i64 k, .int .i64 i, .int .u64 b, .string s, .slice ad len cap] 25)).alloc (.cells #[.int .i64 0, .int .i64 0, .int .u64 0, .string ⟨#[]⟩, .slice none 0 0] 25)).alloc (.cells #[.int .i64 0, .int .i64 0] 92)) := Below.refl _ _
theorem Thr.blk {w : World} {k i b : Int} {s : ByteArray} {ad : Option Addr} {len cap : Nat} {w' : World} (h : Thr w k i b s ad len cap w') :
    w'.heap[w.heap.size]? = some (.cells #[.int .i64 k, .int .i64 i, .int .u64 b, .string s, .slice ad len cap] 25 (0, 0)) ∧ w'.heap[w.heap.size + 1]? = some (.cells #[.int .i64 0, .int .i64 0, .int .u64 0, .string ⟨#[]⟩, .slice none 0 0] 25 (0, 0)) ∧ w'.heap[w.heap.size + 2]? = some (.cells #[.int .i64 0, .int .i64 0] 92 (0, 0)) := by
  have e0 := heap_alloc_new w (.cells #[.int .i64 k, .int .i64 i, .int .u64 b, .string s, .slice ad len cap] 25)
  have e1 := heap_alloc_new (w.alloc (.cells #[.int .i64 k, .int .i64 i, .int .u64 b, .string s, .slice ad len cap] 25)) (.cells #[.int .i64 0, .int .i64 0, .int .u64 0, .string ⟨#[]⟩, .slice none 0 0] 25)
  have e2 := heap_alloc_new ((w.alloc (.cells #[.int .i64 k, .int .i64 i, .int .u64 b, .string s, .slice ad len cap] 25)).alloc (.cells #[.int .i64 0, .int .i64 0, .int .u64 0, .string ⟨#[]⟩, .slice none 0 0] 25)) (.cells #[.int .i64 0, .int .i64 0] 92)
  simp only [World.size_alloc] at e1 e2
  refine ⟨?_, ?_, ?_⟩
  · rw [Below.block h w.heap.size (by omega)]
    exact ((below1 _ _).block _ (by simp; omega)).trans (((below1 _ _).block _ (by simp)).trans e0)
  · rw [Below.block h (w.heap.size + 1) (by omega)]
    exact ((below1 _ _).block _ (by simp)).trans e1
  · rw [Below.block h (w.heap.size + 2) (by omega)]
    exact e2
theorem Thr.c {w : World} {k i b : Int} {s : ByteArray} {ad : Option Addr} {len cap : Nat} {w' : World} (h : Thr w k i b s ad len cap w') :
    w'.cell? ⟨w.heap.size, 0, none⟩ = some (.int .i64 k) ∧ w'.cell? ⟨w.heap.size, 1, none⟩ = some (.int .i64 i) ∧ w'.cell? ⟨w.heap.size, 2, none⟩ = some (.int .u64 b) ∧ w'.cell? ⟨w.heap.size, 3, none⟩ = some (.string s) ∧ w'.cell? ⟨w.heap.size, 4, none⟩ = some (.slice ad len cap) := by
  have h0 := h.blk.1
  simp [World.cell?, h0]
theorem Thr.d {w : World} {k i b : Int} {s : ByteArray} {ad : Option Addr} {len cap : Nat} {w' : World} (h : Thr w k i b s ad len cap w') :
    w'.cell? ⟨w.heap.size + 1, 0, none⟩ = some (.int .i64 0) ∧ w'.cell? ⟨w.heap.size + 1, 1, none⟩ = some (.int .i64 0) ∧ w'.cell? ⟨w.heap.size + 1, 2, none⟩ = some (.int .u64 0) ∧ w'.cell? ⟨w.heap.size + 1, 3, none⟩ = some (.string ⟨#[]⟩) ∧ w'.cell? ⟨w.heap.size + 1, 4, none⟩ = some (.slice none 0 0)
    ∧ w'.cell? ⟨w.heap.size + 2, 0, none⟩ = some (.int .i64 0) ∧ w'.cell? ⟨w.heap.size + 2, 1, none⟩ = some (.int .i64 0) ∧ (∀ o, w'.frozen? ⟨w.heap.size + 1, o, none⟩ = false) ∧ (∀ o, w'.frozen? ⟨w.heap.size + 2, o, none⟩ = false) := by
  obtain ⟨-, h1, h2⟩ := h.blk
  simp [World.cell?, World.frozen?, h1, h2]

set_option maxRecDepth 100000 in
set_option maxHeartbeats 2000000 in
theorem must_fail (k i b : Int) (s : ByteArray) (ad : Option Addr) (len cap : Nat) (kind : Int) (Q F : Nat) (w : World) (hq : qty kind = Q) (hm : MethM Q F) (hF : ∀ u w, Kd k u → Calls Tryz.prog F #[.agg #[], u] w fun e w' => Pan w w' e)
    (hO : ∀ wx, Below w.heap.size w wx → Calls Tryz.prog 58 #[.agg #[.int .i64 k, .int .i64 i, .int .u64 b, .string s, .slice ad len cap]] wx fun e w' => ∃ u, e = .returned u ∧ Kd k u ∧ Below wx.heap.size wx w') :
    Calls Tryz.prog 54 #[.agg #[.int .i64 k, .int .i64 i, .int .u64 b, .string s, .slice ad len cap], .int .i64 kind] w fun e w' => e = .returned (.tuple #[.agg #[.int .i64 0, .int .i64 0, .int .u64 0, .string ⟨#[]⟩, .slice none 0 0], .agg #[.int .i64 k, .int .i64 (-1)], .int .i64 20]) ∧ Below w.heap.size w w' := by
  have HT : Hid (∀ wx, Thr w k i b s ad len cap wx → Calls Tryz.prog 71 #[.int .i64 kind] wx fun e w' => e = .returned (.iface Q (.agg #[])) ∧ Thr w k i b s ad len cap w') := fun wx hx => by have := (typeOf_any kind wx).mono (R' := fun e w' => e = .returned (.iface (qty kind) (.agg #[])) ∧ Thr w k i b s ad len cap w') fun e w' ⟨a, b⟩ => ⟨a, b ▸ hx⟩; rw [hq] at this; exact this
  have HO : Hid (∀ wx, Thr w k i b s ad len cap wx → Calls Tryz.prog 58 #[.agg #[.int .i64 k, .int .i64 i, .int .u64 b, .string s, .slice ad len cap]] wx fun e w' => ∃ u, e = .returned u ∧ Kd k u ∧ Thr w k i b s ad len cap w') := fun wx hx => (hO wx hx.below).mono fun e w' ⟨u, a, c, d⟩ => ⟨u, a, c, hx.step d⟩
  have HC : Hid (∀ u wx, Kd k u → Thr w k i b s ad len cap wx → Calls Tryz.prog 70 #[.iface Q (.agg #[]), u] wx fun e w' => e = .returned (.tuple #[.nilIface, .int .i64 20]) ∧ Thr w k i b s ad len cap w') := fun u wx hu hx => (caught_no Q F u wx hm fun w => hF u w hu).mono fun e w' ⟨a, d⟩ => ⟨a, hx.step d⟩
  have HS : Hid (∀ wx, Thr w k i b s ad len cap wx → wx.cell? ⟨w.heap.size, 0, none⟩ = some (.int .i64 k) ∧ wx.cell? ⟨w.heap.size, 1, none⟩ = some (.int .i64 i) ∧ wx.cell? ⟨w.heap.size, 2, none⟩ = some (.int .u64 b) ∧ wx.cell? ⟨w.heap.size, 3, none⟩ = some (.string s) ∧ wx.cell? ⟨w.heap.size, 4, none⟩ = some (.slice ad len cap)) := fun wx h => h.c
  have hb0 := Thr.start w k i b s ad len cap
  clear hq hm hF hO
  go_enter Tryz.func54, Tryz.ntmps54
  go_wp2_with fail
  go_region_held3 (fun w' => w'.cell? ⟨w.heap.size, 0, none⟩ = some (.int .i64 k) ∧ w'.cell? ⟨w.heap.size, 1, none⟩ = some (.int .i64 i) ∧ w'.cell? ⟨w.heap.size, 2, none⟩ = some (.int .u64 b) ∧ w'.cell? ⟨w.heap.size, 3, none⟩ = some (.string s) ∧ w'.cell? ⟨w.heap.size, 4, none⟩ = some (.slice ad len cap)) (exact HS.out _ (by first | assumption | exact Thr.drew (by assumption))) (first | (go_at_call 71; refine (HT.out _ (by first | assumption | exact Thr.drew (by assumption))).mono ?_; rintro e wa ⟨rfl, ba⟩) | (go_at_call 58; refine (HO.out _ (by first | assumption | exact Thr.drew (by assumption))).mono ?_; rintro e wo ⟨ua, rfl, hu, bo⟩) | (go_at_call 70; refine (HC.out _ _ (by assumption) (by first | assumption | exact Thr.drew (by assumption))).mono ?_; rintro e wc ⟨rfl, bc⟩))
  have hc := bc.c.1
  obtain ⟨d0, d1, d2, d3, d4, m0, m1, f1, f2⟩ := bc.d
  have m0' : wc.cell? ⟨w.heap.size + 1 + 1, 0, none⟩ = some (.int .i64 0) := m0
  have m1' : wc.cell? ⟨w.heap.size + 1 + 1, 1, none⟩ = some (.int .i64 0) := m1
  have f2' : ∀ o, wc.frozen? ⟨w.heap.size + 1 + 1, o, none⟩ = false := f2
  have B := bc.below
  clear HT HO HC HS hb0 m0 m1 f2 ba bo hu
  go_wp2
  go_region
  all_goals go_wp2
  all_goals refine bodyPost_ret (v := .tuple #[.agg #[.int .i64 0, .int .i64 0, .int .u64 0, .string ⟨#[]⟩, .slice none 0 0], .agg #[.int .i64 k, .int .i64 (-1)], .int .i64 20]) (by simp [results, Tryz.results54, go_sem, World.cell?_setCell_same, World.cell?_setCell_other, d0, d1, d2, d3, d4, m0', m1']) rfl ⟨rfl, ?_⟩
  all_goals exact (((((((B.setCell (by show w.heap.size ≤ w.heap.size + 1; omega) _).setCell (by show w.heap.size ≤ w.heap.size + 1; omega) _).setCell (by show w.heap.size ≤ w.heap.size + 1; omega) _).setCell (by show w.heap.size ≤ w.heap.size + 1; omega) _).setCell (by show w.heap.size ≤ w.heap.size + 1; omega) _).setCell (by show w.heap.size ≤ w.heap.size + 1 + 1; omega) _).setCell (by show w.heap.size ≤ w.heap.size + 1 + 1; omega) _).drew

set_option maxRecDepth 100000 in
set_option maxHeartbeats 1000000 in
theorem of_int (i : Int) (w : World) : Calls Tryz.prog 58 #[.agg #[.int .i64 1, .int .i64 i, .int .u64 0, .string ⟨#[]⟩, .slice none 0 0]] w fun e w' => ∃ u, e = .returned u ∧ Kd 1 u ∧ Below w.heap.size w w' := by
  have HO : Hid (∀ w, Calls Tryz.prog 63 #[.agg #[.map none], .agg #[.int .i64 1, .int .i64 i, .int .u64 0, .string ⟨#[]⟩, .slice none 0 0]] w fun e w' => e = .returned (.iface 113 (.int .i64 i)) ∧ Below w.heap.size w w') := by
    intro w
    go_enter Tryz.func63, Tryz.ntmps63
    go_wp2
    go_ret
    exact ⟨rfl, below2 w _ _⟩
  go_enter Tryz.func58, Tryz.ntmps58
  go_wp2_with fail
  refine (HO.out _).mono ?_
  rintro e w1 ⟨rfl, b1⟩
  go_wp2
  go_ret
  exact ⟨_, rfl, Kd.plain 1 _ (by decide) (by decide), (below1 w _).trans (b1.mono (by simp))⟩

/-- A number is no text. -/
theorem must_five (w : World) : Calls Tryz.prog 54 #[.agg #[.int .i64 1, .int .i64 5, .int .u64 0, .string ⟨#[]⟩, .slice none 0 0], .int .i64 4] w fun e w' => e = .returned (.tuple #[.agg #[.int .i64 0, .int .i64 0, .int .u64 0, .string ⟨#[]⟩, .slice none 0 0], .agg #[.int .i64 1, .int .i64 (-1)], .int .i64 20]) ∧ Below w.heap.size w w' := by
  refine must_fail 1 5 0 ⟨#[]⟩ none 0 0 4 154 128 w rfl ⟨fun _ => by kernel_rfl, fun _ _ => by kernel_rfl⟩ (fun u w hu => ?_) (fun wx _ => of_int 5 wx)
  rcases hu.cases with ⟨h0, rfl⟩ | ⟨-, v, rfl⟩ | ⟨h, -⟩ | ⟨h, -⟩ | ⟨h, -⟩ | ⟨h, -⟩ | ⟨h, -⟩ | ⟨h, -⟩ | ⟨h, -⟩ | ⟨h, -⟩ | ⟨h, -⟩ | ⟨h, -⟩ | ⟨h, -⟩ | ⟨h, -⟩
  · omega
  · obtain ⟨o, ho⟩ := must_ty (t := 113) (x := 20) (v := v) Tryz.underlying131 (fun m h => by cases h) (by decide)
    exact mustText_no _ w o ho
  all_goals exact absurd h (by decide)
end Go.Proofs.YthamafijjflfbaaGreat
/- The value that the package makes of a valid tree has the tree's kind; and the package's value.Of; the conditions: the tree in memory and valid. -/
namespace Go.Proofs.YthamafijjflfbaaGreat
open Go.RowKit
theorem Dt.T2.f {w : World} {a0 a1 a2 a3 a4 b0 b1 b2 b3 b4 : Value} {w' : World} (h : Dt.T2 w a0 a1 a2 a3 a4 b0 b1 b2 b3 b4 w') (o : Nat) : w'.frozen? ⟨w.heap.size + 1, o, none⟩ = false := by
  have e1 := heap_alloc_new (w.alloc (.cells #[a0, a1, a2, a3, a4] 25)) (.cells #[b0, b1, b2, b3, b4] 25)
  simp only [World.size_alloc] at e1
  have h1 : w'.heap[w.heap.size + 1]? = some (.cells #[b0, b1, b2, b3, b4] 25 (0, 0)) := (Below.block h (w.heap.size + 1) (by omega)).trans e1
  simp [World.frozen?, h1]
theorem Dt.T2.size2 {w : World} {a0 a1 a2 a3 a4 b0 b1 b2 b3 b4 : Value} {w' : World} (h : Dt.T2 w a0 a1 a2 a3 a4 b0 b1 b2 b3 b4 w') : w.heap.size + 2 ≤ w'.heap.size := by
  have := Below.size h
  simp at this
  omega
theorem vr_kind {F : Nat → Prop} {w : World} {n : Nat} {v : Value} {t : Dt.Tr (n + 1)} (h : Dt.VR F w (n + 1) v t) : Kd t.kd v := by
  simp only [Dt.VR] at h
  rcases h with ⟨k, rfl⟩ | ⟨k, rfl⟩ | ⟨k, rfl⟩ | ⟨k, rfl⟩ | ⟨k, rfl⟩ | ⟨k, rfl⟩ | ⟨k, rfl⟩ | ⟨k, g, c, cs, fr, rfl, -⟩ | ⟨k, a, c, rfl, -⟩ | ⟨k, x, y, t0, t1, rfl, -, e3, e4⟩ | ⟨k, rfl⟩ | ⟨k, b, u, t0, rfl, -⟩ | ⟨k, rfl⟩ | ⟨k, rfl⟩
  all_goals rw [k]
  · exact .inl ⟨by omega, rfl⟩
  · exact Kd.plain 1 _ (by decide) (by decide)
  · exact Kd.plain 2 _ (by decide) (by decide)
  · exact Kd.plain 3 _ (by decide) (by decide)
  · exact Kd.plain 4 _ (by decide) (by decide)
  · exact Kd.plain 5 _ (by decide) (by decide)
  · exact Kd.plain 6 _ (by decide) (by decide)
  · exact Kd.plain 7 _ (by decide) (by decide)
  · exact Kd.plain 8 _ (by decide) (by decide)
  · exact Kd.pair x y (Dt.vr_any e3) (Dt.vr_any e4)
  · exact Kd.fail _ _
  · exact Kd.ptr _
  · exact Kd.nilp
  · exact Kd.unit

set_option maxRecDepth 100000 in
set_option maxHeartbeats 1000000 in
theorem of_val (W0 : World) (m : Nat) (t : Dt.Tr (m + 1)) (k i b : Int) (s : ByteArray) (ad : Option Addr) (len cap : Nat) (w : World) (hrg : Dt.rgt (m + 1) t = true) (hps : (Dt.pts (m + 1) t).1 ≤ 4096) (hrep : Dt.Rep W0 (m + 1) [.int .i64 k, .int .i64 i, .int .u64 b, .string s, .slice ad len cap] t) (hb : Below W0.heap.size W0 w) :
    Calls Tryz.prog 58 #[.agg #[.int .i64 k, .int .i64 i, .int .u64 b, .string s, .slice ad len cap]] w fun e w' => ∃ u, e = .returned u ∧ Kd k u ∧ Hid (Dt.VR (fun g => w.heap.size ≤ g ∧ g < w'.heap.size) w' (m + 1) u t) ∧ Below w.heap.size w w' := by
  have hk : t.kd = k := by
    obtain ⟨ad, cap, e, -⟩ := hrep
    simp only [List.cons.injEq, and_true, Value.int.injEq] at e
    exact e.1.2.symm
  have HO : Hid (Calls Tryz.prog 63 #[.agg #[.map none], .agg #[.int .i64 k, .int .i64 i, .int .u64 b, .string s, .slice ad len cap]] (w.alloc (.cells #[.int .i64 k, .int .i64 i, .int .u64 b, .string s, .slice ad len cap] 25)) fun e w' => ∃ u, e = .returned u ∧ Kd k u ∧ Hid (Dt.VR (fun g => w.heap.size ≤ g ∧ g < w'.heap.size) w' (m + 1) u t) ∧ Below w.heap.size w w') := by
    have b1 := below1 w (.cells #[.int .i64 k, .int .i64 i, .int .u64 b, .string s, .slice ad len cap] 25)
    refine (Dt.value_nb W0 (m + 1) t _ _ _ _ _ _ hrg hps hrep (hb.trans (b1.mono hb.size))).mono fun e w' ⟨u, he, vr, hb'⟩ => ⟨u, he, hk ▸ vr_kind vr, Dt.VR.to (fun q hq => ⟨⟨by have h := hq.1; simp at h; omega, hq.2⟩, rfl⟩) _ _ _ vr, b1.trans (hb'.mono (by simp))⟩
  clear hk hrg hps hrep hb
  go_enter Tryz.func58, Tryz.ntmps58
  go_wp2_with fail
  refine HO.out.mono ?_
  rintro e w1 ⟨u, rfl, hx, vr, b1⟩
  go_wp2
  go_ret
  exact ⟨u, rfl, hx, vr, b1⟩
end Go.Proofs.YthamafijjflfbaaGreat
/- The package's Must of a value that has the type: the value's plain data; the conditions: what the value's maker gives. -/
namespace Go.Proofs.YthamafijjflfbaaGreat
open Go.RowKit
theorem Thr.size3 {w : World} {k i b : Int} {s : ByteArray} {ad : Option Addr} {len cap : Nat} {w' : World} (h : Thr w k i b s ad len cap w') : w.heap.size + 3 ≤ w'.heap.size := by
  have := Below.size h
  simp at this
  omega
set_option maxRecDepth 100000 in
set_option maxHeartbeats 4000000 in
theorem must_yes (m : Nat) (t : Dt.Tr m) (hrg : Dt.rgt m t = true) (h64 : Dt.r64 m t) (hps : (Dt.pts m t).1 ≤ 4096) (k i b : Int) (s : ByteArray) (ad : Option Addr) (len cap : Nat) (kind : Int) (w : World) (hq : tkd kind k = true)
    (hO : ∀ wx, Below w.heap.size w wx → Calls Tryz.prog 58 #[.agg #[.int .i64 k, .int .i64 i, .int .u64 b, .string s, .slice ad len cap]] wx fun e w' => ∃ u, e = .returned u ∧ Kd k u ∧ Hid (Dt.VR (fun g => wx.heap.size ≤ g ∧ g < w'.heap.size) w' m u t) ∧ Below wx.heap.size wx w') :
    Calls Tryz.prog 54 #[.agg #[.int .i64 k, .int .i64 i, .int .u64 b, .string s, .slice ad len cap], .int .i64 kind] w fun e w' => ∃ v0 v1 v2 v3 v4, e = .returned (.tuple #[.agg #[v0, v1, v2, v3, v4], .agg #[.int .i64 0, .int .i64 0], .int .i64 0]) ∧ Dt.Rf (fun g => w.heap.size ≤ g ∧ g < w'.heap.size) w' m [v0, v1, v2, v3, v4] t ∧ Below w.heap.size w w' := by
  obtain ⟨F, hm, hM⟩ := type_musts kind
  have HT : Hid (∀ wx, Thr w k i b s ad len cap wx → Calls Tryz.prog 71 #[.int .i64 kind] wx fun e w' => e = .returned (.iface (qty kind) (.agg #[])) ∧ Thr w k i b s ad len cap w') := fun wx hx => (typeOf_any kind wx).mono fun e w' ⟨a, b⟩ => ⟨a, b ▸ hx⟩
  have HO : Hid (∀ wx, Thr w k i b s ad len cap wx → Calls Tryz.prog 58 #[.agg #[.int .i64 k, .int .i64 i, .int .u64 b, .string s, .slice ad len cap]] wx fun e w' => ∃ u, e = .returned u ∧ Sx u ∧ Kd k u ∧ Hid (∃ F0 W0, Dt.VR F0 W0 m u t ∧ Below W0.heap.size W0 w') ∧ Thr w k i b s ad len cap w') := fun wx hx => (hO wx hx.below).mono fun e w' ⟨u, a, c, vr, d⟩ => ⟨u, a, by
      rcases c with ⟨-, e⟩ | ⟨-, -, v, e, -⟩
      · exact .inl e
      · exact .inr ⟨_, _, e⟩, c, ⟨_, w', vr.out, Below.refl _ _⟩, hx.step d⟩
  have HC : Hid (∀ u wx, Kd k u → Hid (∃ F0 W0, Dt.VR F0 W0 m u t ∧ Below W0.heap.size W0 wx) → Thr w k i b s ad len cap wx → Calls Tryz.prog 70 #[.iface (qty kind) (.agg #[]), u] wx fun e w' => e = .returned (.tuple #[u, .int .i64 0]) ∧ Hid (∃ F0 W0, Dt.VR F0 W0 m u t ∧ Below W0.heap.size W0 w') ∧ Thr w k i b s ad len cap w') := fun u wx hu hv hx => (caught_yes (qty kind) F u wx hm fun w => (hM k u w hu).1 hq).mono fun e w' ⟨a, d⟩ => ⟨a, by
      obtain ⟨F0, W0, v1, v2⟩ := hv.out
      exact ⟨F0, W0, v1, v2.trans (d.mono v2.size)⟩, hx.step d⟩
  have HS : Hid (∀ wx, Thr w k i b s ad len cap wx → wx.cell? ⟨w.heap.size, 0, none⟩ = some (.int .i64 k) ∧ wx.cell? ⟨w.heap.size, 1, none⟩ = some (.int .i64 i) ∧ wx.cell? ⟨w.heap.size, 2, none⟩ = some (.int .u64 b) ∧ wx.cell? ⟨w.heap.size, 3, none⟩ = some (.string s) ∧ wx.cell? ⟨w.heap.size, 4, none⟩ = some (.slice ad len cap)) := fun wx h => h.c
  have HP : Hid (∀ (v : Value) (w : World), Hid (∃ F0 W0, Dt.VR F0 W0 m v t ∧ Below W0.heap.size W0 w) → Calls Tryz.prog 59 #[v] w fun e w' => ∃ (u0 u1 u2 : Int) (u3 : ByteArray) (a4 : Option Addr) (n4 c4 : Nat), e = .returned (.agg #[.int .i64 u0, .int .i64 u1, .int .u64 u2, .string u3, .slice a4 n4 c4]) ∧ Hid (Dt.Rf (fun g => w.heap.size ≤ g ∧ g < w'.heap.size) w' m [.int .i64 u0, .int .i64 u1, .int .u64 u2, .string u3, .slice a4 n4 c4] t) ∧ Below w.heap.size w w') := fun v w hv => by
    obtain ⟨F0, W0, h1, h2⟩ := hv.out
    refine (Dt.plain_any F0 W0 m t v w hrg h64 hps h1 h2).mono fun e w' ⟨v0, v1, v2, v3, v4, he, rf, hb'⟩ => ?_
    obtain ⟨u0, u1, u2, u3, a4, n4, c4', rfl, rfl, rfl, rfl, rfl⟩ := Dt.rep_shape (Dt.Rf.rep _ _ _ rf)
    exact ⟨u0, u1, u2, u3, a4, n4, c4', he, rf, hb'⟩
  have hb0 := Thr.start w k i b s ad len cap
  clear hm hM hO hq hrg h64 hps
  generalize qty kind = Q at HT HC
  go_enter Tryz.func54, Tryz.ntmps54
  go_wp2_with fail
  go_region_held3 (fun w' => w'.cell? ⟨w.heap.size, 0, none⟩ = some (.int .i64 k) ∧ w'.cell? ⟨w.heap.size, 1, none⟩ = some (.int .i64 i) ∧ w'.cell? ⟨w.heap.size, 2, none⟩ = some (.int .u64 b) ∧ w'.cell? ⟨w.heap.size, 3, none⟩ = some (.string s) ∧ w'.cell? ⟨w.heap.size, 4, none⟩ = some (.slice ad len cap)) (exact HS.out _ (by first | assumption | exact Thr.drew (by assumption))) (first | (go_at_call 71; refine (HT.out _ (by first | assumption | exact Thr.drew (by assumption))).mono ?_; rintro e wa ⟨rfl, ba⟩) | (go_at_call 58; refine (HO.out _ (by first | assumption | exact Thr.drew (by assumption))).mono ?_; rintro e wo ⟨ua, rfl, sx, hu, hv, bo⟩) | (go_at_call 70; refine (HC.out _ _ (by assumption) (by assumption) (by first | assumption | exact Thr.drew (by assumption))).mono ?_; rintro e wc ⟨rfl, hv, bc⟩))
  have B := bc.below
  clear HT HO HC HS hb0 ba bo hu
  rcases sx with rfl | ⟨T, z, rfl⟩
  all_goals
    go_wp2_with fail
    refine (HP.out _ _ hv).mono ?_
    rintro e w4 ⟨u0, u1, u2, u3, a4, n4, c4, rfl, rf, b4⟩
    have h4 := bc.step b4
    obtain ⟨d0, d1, d2, d3, d4, m0, m1, f1, f2⟩ := h4.d
    have m0' : w4.cell? ⟨w.heap.size + 1 + 1, 0, none⟩ = some (.int .i64 0) := m0
    have m1' : w4.cell? ⟨w.heap.size + 1 + 1, 1, none⟩ = some (.int .i64 0) := m1
    have f2' : ∀ o, w4.frozen? ⟨w.heap.size + 1 + 1, o, none⟩ = false := f2
    have B := h4.below
    have z3 := bc.size3
    clear m0 m1 f2
    go_wp2
    refine bodyPost_ret (v := .tuple #[.agg #[.int .i64 u0, .int .i64 u1, .int .u64 u2, .string u3, .slice a4 n4 c4], .agg #[.int .i64 0, .int .i64 0], .int .i64 0]) (by simp [results, Tryz.results54, go_sem, World.cell?_setCell_same, World.cell?_setCell_other, d0, d1, d2, d3, d4, m0', m1']) rfl ⟨_, _, _, _, _, rfl, ?_, ?_⟩
    · refine Dt.Rf.to (fun q hq => ⟨⟨by have := hq.1; omega, by simp [World.setCell]; exact hq.2⟩, ?_⟩) _ _ _ rf.out
      have hne : q ≠ w.heap.size + 1 := by have := hq.1; omega
      have hne' : q ≠ w.heap.size + 1 + 1 := by have := hq.1; omega
      rw [Below.heap_setCell _ _ _ q hne', Below.heap_setCell _ _ _ q hne', Below.heap_setCell _ _ _ q hne, Below.heap_setCell _ _ _ q hne, Below.heap_setCell _ _ _ q hne, Below.heap_setCell _ _ _ q hne, Below.heap_setCell _ _ _ q hne]
    · exact ((((((B.setCell (by show w.heap.size ≤ w.heap.size + 1; omega) _).setCell (by show w.heap.size ≤ w.heap.size + 1; omega) _).setCell (by show w.heap.size ≤ w.heap.size + 1; omega) _).setCell (by show w.heap.size ≤ w.heap.size + 1; omega) _).setCell (by show w.heap.size ≤ w.heap.size + 1; omega) _).setCell (by show w.heap.size ≤ w.heap.size + 1 + 1; omega) _).setCell (by show w.heap.size ≤ w.heap.size + 1 + 1; omega) _
end Go.Proofs.YthamafijjflfbaaGreat
/- A pattern's tree as it lies in memory, and what of it stays when new memory is made; each theorem names its conditions. -/
namespace Go.Proofs.YthamafijjflfbaaGreat
open Go.RowKit

/-- The pattern t lies in w behind the three cells cs. -/
def RepW (w : World) : (n : Nat) → List Value → Wt n → Prop
  | 0, _, _ => False
  | n + 1, cs, t => ∃ (ad : Option Addr) (cap : Nat), cs = [.int .i64 t.op, .int .i64 t.nm, .slice ad t.ks.length cap] ∧ t.ks.length ≤ cap ∧ cap ≤ maxLen ∧
      (t.ks = [] ∨ ∃ g o, ad = some ⟨g, o, none⟩ ∧ ∀ (j : Nat) (t' : Wt n), t.ks[j]? = some t' → ∃ v0 v1 v2, w.cell? ⟨g, o + j * 3, none⟩ = some v0 ∧ w.cell? ⟨g, o + j * 3 + 1, none⟩ = some v1 ∧ w.cell? ⟨g, o + j * 3 + 2, none⟩ = some v2 ∧ RepW w n [v0, v1, v2] t')

theorem RepW.below {w w' : World} (hb : Below w.heap.size w w') : ∀ (n : Nat) (cs : List Value) (t : Wt n), RepW w n cs t → RepW w' n cs t
  | 0, _, _, h => h
  | n + 1, cs, t, h => by
    obtain ⟨ad, cap, h1, h3, h4, h5⟩ := h
    refine ⟨ad, cap, h1, h3, h4, ?_⟩
    rcases h5 with h5 | ⟨g, o, h6, h7⟩
    · exact .inl h5
    · refine .inr ⟨g, o, h6, fun j t' hj => ?_⟩
      obtain ⟨v0, v1, v2, c0, c1, c2, r⟩ := h7 j t' hj
      have hg : g < w.heap.size := World.block_lt_of_cell? w _ c0
      exact ⟨v0, v1, v2, (hb.cell (p := ⟨g, _, none⟩) hg).trans c0, (hb.cell (p := ⟨g, _, none⟩) hg).trans c1, (hb.cell (p := ⟨g, _, none⟩) hg).trans c2, RepW.below hb n _ _ r⟩

/-- A pattern in a block of its own. -/
def P3 (w : World) (N : Nat) (v0 v1 v2 : Value) : Prop := w.heap[N]? = some (.cells #[v0, v1, v2] 51 (0, 0))
theorem P3.c {w : World} {N : Nat} {v0 v1 v2 : Value} (h : P3 w N v0 v1 v2) : w.cell? ⟨N, 0, none⟩ = some v0 ∧ w.cell? ⟨N, 1, none⟩ = some v1 ∧ w.cell? ⟨N, 2, none⟩ = some v2 := by
  unfold P3 at h; simp [World.cell?, h]
theorem P3.new (w : World) (v0 v1 v2 : Value) : P3 (w.alloc (.cells #[v0, v1, v2] 51)) w.heap.size v0 v1 v2 := by
  unfold P3; exact heap_alloc_new w _
theorem P3.lt {w : World} {N : Nat} {v0 v1 v2 : Value} (h : P3 w N v0 v1 v2) : N < w.heap.size := by
  unfold P3 at h; exact (Array.getElem?_eq_some_iff.1 h).1
theorem P3.below {w w' : World} {N : Nat} {v0 v1 v2 : Value} (h : P3 w N v0 v1 v2) (hb : Below w.heap.size w w') : P3 w' N v0 v1 v2 := by
  have := h.lt
  unfold P3 at h ⊢
  exact (hb.block N this).trans h
theorem repW_shape {w : World} {n : Nat} {v0 v1 v2 : Value} {t : Wt n} (h : RepW w n [v0, v1, v2] t) : ∃ (o m : Int) (ad : Option Addr) (len cap : Nat), v0 = .int .i64 o ∧ v1 = .int .i64 m ∧ v2 = .slice ad len cap := by
  match n, t, h with
  | n + 1, t, h =>
    obtain ⟨ad, cap, e, -, -, -⟩ := h
    simp only [List.cons.injEq, and_true] at e
    exact ⟨_, _, _, _, _, e⟩
end Go.Proofs.YthamafijjflfbaaGreat
/- What the package's inner 'holds' answers at a pattern without parts; the conditions: the pattern is right, the value is of a kind from 0 to 13. -/
namespace Go.Proofs.YthamafijjflfbaaGreat
open Go.RowKit

theorem Kd.sx {k : Int} {u : Value} (h : Kd k u) : Sx u := by
  rcases h with ⟨_, h⟩ | ⟨_, _, v, h, _⟩
  · exact .inl h
  · exact .inr ⟨_, _, h⟩
theorem Kd.nil_iff {k : Int} {u : Value} (h : Kd k u) (h0 : 0 ≤ k) (h1 : k ≤ 13) : (k = 0 ∧ u = .nilIface) ∨ (k ≠ 0 ∧ ∃ T z, u = .iface T z) := by
  rcases h with ⟨h2, h⟩ | ⟨h2, _, v, h, _⟩
  · exact .inl ⟨by omega, h⟩
  · exact .inr ⟨by omega, _, _, h⟩

theorem cell_of {w : World} {N T : Nat} {v : Value} (h : w.heap[N]? = some (.cells #[v] T (0, 0))) : w.cell? ⟨N, 0, none⟩ = some v := by simp [World.cell?, h]
/-- The two blocks that 'holds' begins with. -/
def Two (w : World) (o m : Int) (ad : Option Addr) (len cap : Nat) (u : Value) (w' : World) : Prop :=
  Below (w.heap.size + 2) ((w.alloc (.cells #[.int .i64 o, .int .i64 m, .slice ad len cap] 51)).alloc (.cells #[u] 20)) w'
theorem Two.drew {w : World} {o m : Int} {ad : Option Addr} {len cap : Nat} {u : Value} {w' : World} (h : Two w o m ad len cap u w') : Two w o m ad len cap u w'.drew := Below.drew h
theorem Two.c1 {w : World} {o m : Int} {ad : Option Addr} {len cap : Nat} {u : Value} {w' : World} (h : Two w o m ad len cap u w') : w'.cell? ⟨w.heap.size, 1, none⟩ = some (.int .i64 m) := by
  have := (((P3.new w (.int .i64 o) (.int .i64 m) (.slice ad len cap)).below (below1 _ (.cells #[u] 20)))).c.2.1
  rw [← this]; exact Below.cell h (p := ⟨w.heap.size, 1, none⟩) (by show w.heap.size < w.heap.size + 2; omega)
theorem Two.c2 {w : World} {o m : Int} {ad : Option Addr} {len cap : Nat} {u : Value} {w' : World} (h : Two w o m ad len cap u w') : w'.cell? ⟨w.heap.size, 2, none⟩ = some (.slice ad len cap) := by
  have := (((P3.new w (.int .i64 o) (.int .i64 m) (.slice ad len cap)).below (below1 _ (.cells #[u] 20)))).c.2.2
  rw [← this]; exact Below.cell h (p := ⟨w.heap.size, 2, none⟩) (by show w.heap.size < w.heap.size + 2; omega)
theorem Two.cu {w : World} {o m : Int} {ad : Option Addr} {len cap : Nat} {u : Value} {w' : World} (h : Two w o m ad len cap u w') : w'.cell? ⟨w.heap.size + 1, 0, none⟩ = some u := by
  have : ((w.alloc (.cells #[.int .i64 o, .int .i64 m, .slice ad len cap] 51)).alloc (.cells #[u] 20)).cell? ⟨w.heap.size + 1, 0, none⟩ = some u := by
    have := heap_alloc_new (w.alloc (.cells #[.int .i64 o, .int .i64 m, .slice ad len cap] 51)) (.cells #[u] 20)
    rw [World.size_alloc] at this
    exact cell_of this
  rw [← this]; exact Below.cell h (p := ⟨w.heap.size + 1, 0, none⟩) (by show w.heap.size + 1 < w.heap.size + 2; omega)
theorem Two.below {w : World} {o m : Int} {ad : Option Addr} {len cap : Nat} {u : Value} {w' : World} (h : Two w o m ad len cap u w') : Below w.heap.size w w' := (below2 w _ _).trans (Below.mono h (by omega))
theorem Two.step {w : World} {o m : Int} {ad : Option Addr} {len cap : Nat} {u : Value} {w1 w2 : World} (h : Two w o m ad len cap u w1) (hb : Below w1.heap.size w1 w2) : Two w o m ad len cap u w2 := by
  have := Below.size h
  simp at this
  exact Below.trans h (hb.mono (by omega))
theorem Two.start (w : World) (o m : Int) (ad : Option Addr) (len cap : Nat) (u : Value) : Two w o m ad len cap u ((w.alloc (.cells #[.int .i64 o, .int .i64 m, .slice ad len cap] 51)).alloc (.cells #[u] 20)) := Below.refl _ _

end Go.Proofs.YthamafijjflfbaaGreat
/- What the package's inner 'holds' answers at the pattern of one kind; the conditions: a kind, a value of a kind. -/
namespace Go.Proofs.YthamafijjflfbaaGreat
open Go.RowKit

theorem below_dn {B : Nat} {a w : World} (h : Below B a w) (n : Nat) : Below B a (w.drewN n) := ⟨h.os, h.tape, h.output, h.size, h.block⟩

end Go.Proofs.YthamafijjflfbaaGreat
/- What the package's inner 'holds' answers at any right pattern: whether it holds of the value's kind; the conditions: the pattern's tree lies in memory and is right, the value is of a kind from 0 to 13. -/
namespace Go.Proofs.YthamafijjflfbaaGreat
open Go.RowKit

/-- The place of the first that p says yes of. -/
def fst {T : Type} (p : T → Bool) : List T → Nat → Int
  | [], _ => -1
  | x :: l, j => if p x = true then j else fst p l (j + 1)
theorem fst_bd {T : Type} (p : T → Bool) : ∀ (l : List T) (j : Nat), -1 ≤ fst p l j ∧ (0 ≤ fst p l j ↔ l.any p = true) ∧ fst p l j ≤ j + l.length
  | [], j => by simp [fst]
  | x :: l, j => by
    have := fst_bd p l (j + 1)
    simp only [fst, List.any_cons, List.length_cons]
    by_cases h : p x = true
    · rw [if_pos h, h]; simp; omega
    · rw [if_neg h]
      have h' : p x = false := by simpa using h
      rw [h', Bool.false_or]
      exact ⟨this.1, this.2.1, by omega⟩
theorem fst_cons {T : Type} (p : T → Bool) (x : T) (l : List T) (j : Nat) : fst p (x :: l) j = if p x = true then (j : Int) else fst p l (j + 1) := rfl

theorem all_not_any {T : Type} (p : T → Bool) : ∀ l : List T, (!(l.any fun s => !(p s))) = l.all p
  | [] => rfl
  | x :: l => by
    have := all_not_any p l
    simp only [List.any_cons, List.all_cons, ← this]
    cases p x <;> simp

end Go.Proofs.YthamafijjflfbaaGreat
/- The package's Kinds, Holds, Covers and Meets at right patterns: the kinds of which the pattern holds, as bits, and what follows of them; the conditions: the patterns' trees lie in memory and are right. -/
namespace Go.Proofs.YthamafijjflfbaaGreat
open Go.RowKit

theorem bit_at (j : Nat) (h : j < 14) : (2 : Int) ^ j % 4294967296 = ((2 ^ j : Nat) : Int) := by
  have : j = 0 ∨ j = 1 ∨ j = 2 ∨ j = 3 ∨ j = 4 ∨ j = 5 ∨ j = 6 ∨ j = 7 ∨ j = 8 ∨ j = 9 ∨ j = 10 ∨ j = 11 ∨ j = 12 ∨ j = 13 := by omega
  rcases this with rfl | rfl | rfl | rfl | rfl | rfl | rfl | rfl | rfl | rfl | rfl | rfl | rfl | rfl <;> decide
theorem or_at (p : Int → Bool) (j : Nat) (h : j < 14) (hp : p j = true) : bits .or .u32 ((kset p j : Nat) : Int) ((2 : Int) ^ j % 4294967296) = ((kset p (j + 1) : Nat) : Int) := by
  have h1 := kset_lt p j
  have h2 : (2 : Nat) ^ j ≤ 2 ^ 13 := Nat.pow_le_pow_right (by decide) (by omega)
  rw [bit_at j h, u32_or_nat _ _ (by omega) (by omega)]
  simp only [kset, if_pos hp]

theorem kset_no (p : Int → Bool) (j : Nat) (hp : p j = false) : kset p j = kset p (j + 1) := by simp only [kset, hp]; rfl
/-- The pattern's own block, whatever is done behind it. -/
def One (w : World) (v0 v1 v2 : Value) (w' : World) : Prop := Below (w.heap.size + 1) (w.alloc (.cells #[v0, v1, v2] 51)) w'
theorem One.drew {w : World} {v0 v1 v2 : Value} {w' : World} (h : One w v0 v1 v2 w') : One w v0 v1 v2 w'.drew := Below.drew h
theorem One.below {w : World} {v0 v1 v2 : Value} {w' : World} (h : One w v0 v1 v2 w') : Below w.heap.size w w' := (below1 w _).trans (Below.mono h (by omega))
theorem One.step {w : World} {v0 v1 v2 : Value} {w1 w2 : World} (h : One w v0 v1 v2 w1) (hb : Below w1.heap.size w1 w2) : One w v0 v1 v2 w2 := by
  have := Below.size h
  simp at this
  exact Below.trans h (hb.mono (by omega))
theorem One.c {w : World} {v0 v1 v2 : Value} {w' : World} (h : One w v0 v1 v2 w') : w'.cell? ⟨w.heap.size, 0, none⟩ = some v0 ∧ w'.cell? ⟨w.heap.size, 1, none⟩ = some v1 ∧ w'.cell? ⟨w.heap.size, 2, none⟩ = some v2 := by
  obtain ⟨h0, h1, h2⟩ := (P3.new w v0 v1 v2).c
  refine ⟨?_, ?_, ?_⟩
  · rw [← h0]; exact Below.cell h (p := ⟨w.heap.size, 0, none⟩) (by show w.heap.size < w.heap.size + 1; omega)
  · rw [← h1]; exact Below.cell h (p := ⟨w.heap.size, 1, none⟩) (by show w.heap.size < w.heap.size + 1; omega)
  · rw [← h2]; exact Below.cell h (p := ⟨w.heap.size, 2, none⟩) (by show w.heap.size < w.heap.size + 1; omega)
theorem One.start (w : World) (v0 v1 v2 : Value) : One w v0 v1 v2 (w.alloc (.cells #[v0, v1, v2] 51)) := Below.refl _ _

/-- What the two blocks of Holds keep. -/
def OneD (w : World) (v0 v1 v2 : Value) (k i b : Int) (s : ByteArray) (ad : Option Addr) (len cap : Nat) (w' : World) : Prop :=
  Below (w.heap.size + 2) ((w.alloc (.cells #[v0, v1, v2] 51)).alloc (.cells #[.int .i64 k, .int .i64 i, .int .u64 b, .string s, .slice ad len cap] 25)) w'
end Go.Proofs.YthamafijjflfbaaGreat
