/- The package's Must of a value that has the type: the value's plain data; the conditions: what the value's maker gives. -/
import Derived.Test.YtokiaolgdkikiaaGreatAsA
namespace Go.Proofs.YtokiaolgdkikiaaGreat
open Go.RowKit
theorem Thr.size3 {w : World} {k i b : Int} {s : ByteArray} {ad : Option Addr} {len cap : Nat} {w' : World} (h : Thr w k i b s ad len cap w') : w.heap.size + 3 ≤ w'.heap.size := by
  have := Below.size h
  simp at this
  omega
set_option maxRecDepth 100000 in
set_option maxHeartbeats 4000000 in
theorem must_yes (m : Nat) (t : Dt.Tr m) (hrg : Dt.rgt m t = true) (h64 : Dt.r64 m t) (hps : (Dt.pts m t).1 ≤ 4096) (k i b : Int) (s : ByteArray) (ad : Option Addr) (len cap : Nat) (kind : Int) (w : World) (hq : tkd kind k = true)
    (hO : ∀ wx, Below w.heap.size w wx → Calls Tryz.prog 48 #[.agg #[.int .i64 k, .int .i64 i, .int .u64 b, .string s, .slice ad len cap]] wx fun e w' => ∃ u, e = .returned u ∧ Kd k u ∧ Hid (Dt.VR (fun g => wx.heap.size ≤ g ∧ g < w'.heap.size) w' m u t) ∧ Below wx.heap.size wx w') :
    Calls Tryz.prog 31 #[.agg #[.int .i64 k, .int .i64 i, .int .u64 b, .string s, .slice ad len cap], .int .i64 kind] w fun e w' => ∃ v0 v1 v2 v3 v4, e = .returned (.tuple #[.agg #[v0, v1, v2, v3, v4], .agg #[.int .i64 0, .int .i64 0], .int .i64 0]) ∧ Dt.Rf (fun g => w.heap.size ≤ g ∧ g < w'.heap.size) w' m [v0, v1, v2, v3, v4] t ∧ Below w.heap.size w w' := by
  obtain ⟨F, hm, hM⟩ := type_musts kind
  have HT : Hid (∀ wx, Thr w k i b s ad len cap wx → Calls Tryz.prog 49 #[.int .i64 kind] wx fun e w' => e = .returned (.iface (qty kind) (.agg #[])) ∧ Thr w k i b s ad len cap w') := fun wx hx => (typeOf_any kind wx).mono fun e w' ⟨a, b⟩ => ⟨a, b ▸ hx⟩
  have HO : Hid (∀ wx, Thr w k i b s ad len cap wx → Calls Tryz.prog 48 #[.agg #[.int .i64 k, .int .i64 i, .int .u64 b, .string s, .slice ad len cap]] wx fun e w' => ∃ u, e = .returned u ∧ Sx u ∧ Kd k u ∧ Hid (∃ F0 W0, Dt.VR F0 W0 m u t ∧ Below W0.heap.size W0 w') ∧ Thr w k i b s ad len cap w') := fun wx hx => (hO wx hx.below).mono fun e w' ⟨u, a, c, vr, d⟩ => ⟨u, a, by
      rcases c with ⟨-, e⟩ | ⟨-, -, v, e, -⟩
      · exact .inl e
      · exact .inr ⟨_, _, e⟩, c, ⟨_, w', vr.out, Below.refl _ _⟩, hx.step d⟩
  have HC : Hid (∀ u wx, Kd k u → Hid (∃ F0 W0, Dt.VR F0 W0 m u t ∧ Below W0.heap.size W0 wx) → Thr w k i b s ad len cap wx → Calls Tryz.prog 51 #[.iface (qty kind) (.agg #[]), u] wx fun e w' => e = .returned (.tuple #[u, .int .i64 0]) ∧ Hid (∃ F0 W0, Dt.VR F0 W0 m u t ∧ Below W0.heap.size W0 w') ∧ Thr w k i b s ad len cap w') := fun u wx hu hv hx => (caught_yes (qty kind) F u wx hm fun w => (hM k u w hu).1 hq).mono fun e w' ⟨a, d⟩ => ⟨a, by
      obtain ⟨F0, W0, v1, v2⟩ := hv.out
      exact ⟨F0, W0, v1, v2.trans (d.mono v2.size)⟩, hx.step d⟩
  have HS : Hid (∀ wx, Thr w k i b s ad len cap wx → wx.cell? ⟨w.heap.size, 0, none⟩ = some (.int .i64 k) ∧ wx.cell? ⟨w.heap.size, 1, none⟩ = some (.int .i64 i) ∧ wx.cell? ⟨w.heap.size, 2, none⟩ = some (.int .u64 b) ∧ wx.cell? ⟨w.heap.size, 3, none⟩ = some (.string s) ∧ wx.cell? ⟨w.heap.size, 4, none⟩ = some (.slice ad len cap)) := fun wx h => h.c
  have HP : Hid (∀ (v : Value) (w : World), Hid (∃ F0 W0, Dt.VR F0 W0 m v t ∧ Below W0.heap.size W0 w) → Calls Tryz.prog 50 #[v] w fun e w' => ∃ (u0 u1 u2 : Int) (u3 : ByteArray) (a4 : Option Addr) (n4 c4 : Nat), e = .returned (.agg #[.int .i64 u0, .int .i64 u1, .int .u64 u2, .string u3, .slice a4 n4 c4]) ∧ Hid (Dt.Rf (fun g => w.heap.size ≤ g ∧ g < w'.heap.size) w' m [.int .i64 u0, .int .i64 u1, .int .u64 u2, .string u3, .slice a4 n4 c4] t) ∧ Below w.heap.size w w') := fun v w hv => by
    obtain ⟨F0, W0, h1, h2⟩ := hv.out
    refine (Dt.plain_any F0 W0 m t v w hrg h64 hps h1 h2).mono fun e w' ⟨v0, v1, v2, v3, v4, he, rf, hb'⟩ => ?_
    obtain ⟨u0, u1, u2, u3, a4, n4, c4', rfl, rfl, rfl, rfl, rfl⟩ := Dt.rep_shape (Dt.Rf.rep _ _ _ rf)
    exact ⟨u0, u1, u2, u3, a4, n4, c4', he, rf, hb'⟩
  have hb0 := Thr.start w k i b s ad len cap
  clear hm hM hO hq hrg h64 hps
  generalize qty kind = Q at HT HC
  go_enter Tryz.func31, Tryz.ntmps31
  go_wp2_with fail
  go_region_held3 (fun w' => w'.cell? ⟨w.heap.size, 0, none⟩ = some (.int .i64 k) ∧ w'.cell? ⟨w.heap.size, 1, none⟩ = some (.int .i64 i) ∧ w'.cell? ⟨w.heap.size, 2, none⟩ = some (.int .u64 b) ∧ w'.cell? ⟨w.heap.size, 3, none⟩ = some (.string s) ∧ w'.cell? ⟨w.heap.size, 4, none⟩ = some (.slice ad len cap)) (exact HS.out _ (by first | assumption | exact Thr.drew (by assumption))) (first | (go_at_call 49; refine (HT.out _ (by first | assumption | exact Thr.drew (by assumption))).mono ?_; rintro e wa ⟨rfl, ba⟩) | (go_at_call 48; refine (HO.out _ (by first | assumption | exact Thr.drew (by assumption))).mono ?_; rintro e wo ⟨ua, rfl, sx, hu, hv, bo⟩) | (go_at_call 51; refine (HC.out _ _ (by assumption) (by assumption) (by first | assumption | exact Thr.drew (by assumption))).mono ?_; rintro e wc ⟨rfl, hv, bc⟩))
  have B := bc.below
  clear HT HO HC HS hb0 ba bo hu
  rcases sx with rfl | ⟨T, z, rfl⟩
  all_goals
    go_wp2_with fail
    refine (HP.out _ _ hv).mono ?_
    rintro e w4 ⟨u0, u1, u2, u3, a4, n4, c4, rfl, rf, b4⟩
    have h4 := bc.step b4
    obtain ⟨d0, d1, d2, d3, d4, m0, m1, f1, f2⟩ := h4.d
    have m0' : w4.cell? ⟨w.heap.size + 1 + 1, 0, none⟩ = some (.int .i64 0) := m0
    have m1' : w4.cell? ⟨w.heap.size + 1 + 1, 1, none⟩ = some (.int .i64 0) := m1
    have f2' : ∀ o, w4.frozen? ⟨w.heap.size + 1 + 1, o, none⟩ = false := f2
    have B := h4.below
    have z3 := bc.size3
    clear m0 m1 f2
    go_wp2
    refine bodyPost_ret (v := .tuple #[.agg #[.int .i64 u0, .int .i64 u1, .int .u64 u2, .string u3, .slice a4 n4 c4], .agg #[.int .i64 0, .int .i64 0], .int .i64 0]) (by simp [results, Tryz.results31, go_sem, World.cell?_setCell_same, World.cell?_setCell_other, d0, d1, d2, d3, d4, m0', m1']) rfl ⟨_, _, _, _, _, rfl, ?_, ?_⟩
    · refine Dt.Rf.to (fun q hq => ⟨⟨by have := hq.1; omega, by simp [World.setCell]; exact hq.2⟩, ?_⟩) _ _ _ rf.out
      have hne : q ≠ w.heap.size + 1 := by have := hq.1; omega
      have hne' : q ≠ w.heap.size + 1 + 1 := by have := hq.1; omega
      rw [Below.heap_setCell _ _ _ q hne', Below.heap_setCell _ _ _ q hne', Below.heap_setCell _ _ _ q hne, Below.heap_setCell _ _ _ q hne, Below.heap_setCell _ _ _ q hne, Below.heap_setCell _ _ _ q hne, Below.heap_setCell _ _ _ q hne]
    · exact ((((((B.setCell (by show w.heap.size ≤ w.heap.size + 1; omega) _).setCell (by show w.heap.size ≤ w.heap.size + 1; omega) _).setCell (by show w.heap.size ≤ w.heap.size + 1; omega) _).setCell (by show w.heap.size ≤ w.heap.size + 1; omega) _).setCell (by show w.heap.size ≤ w.heap.size + 1; omega) _).setCell (by show w.heap.size ≤ w.heap.size + 1 + 1; omega) _).setCell (by show w.heap.size ≤ w.heap.size + 1 + 1; omega) _
end Go.Proofs.YtokiaolgdkikiaaGreat
