/- The package's To: the two-valued assertion to a kind's type; the conditions: what the value's maker gives. -/
import Derived.Test.YtokiaolgdkikiaaGreatAsA
namespace Go.Proofs.YtokiaolgdkikiaaGreat
open Go.RowKit
set_option maxRecDepth 100000 in
set_option maxHeartbeats 2000000 in
theorem to_no (k i b : Int) (s : ByteArray) (ad : Option Addr) (len cap : Nat) (kind : Int) (w : World) (hq : tkd kind k = false)
    (hO : ∀ wx, Below w.heap.size w wx → Calls Tryz.prog 48 #[.agg #[.int .i64 k, .int .i64 i, .int .u64 b, .string s, .slice ad len cap]] wx fun e w' => ∃ u, e = .returned u ∧ Kd k u ∧ Below wx.heap.size wx w') :
    Calls Tryz.prog 30 #[.agg #[.int .i64 k, .int .i64 i, .int .u64 b, .string s, .slice ad len cap], .int .i64 kind] w fun e w' => e = .returned (.tuple #[.agg #[.int .i64 0, .int .i64 0, .int .u64 0, .string ⟨#[]⟩, .slice none 0 0], .bool false]) ∧ Below w.heap.size w w' := by
  obtain ⟨F, ⟨hmm, hcf⟩, hA⟩ := type_asks kind
  have hb0 := Dt.T2.start w (.int .i64 k) (.int .i64 i) (.int .u64 b) (.string s) (.slice ad len cap) (.int .i64 0) (.int .i64 0) (.int .u64 0) (.string ⟨#[]⟩) (.slice none 0 0)
  have HO := Lib.hid hO
  have HI := Lib.hid (typeOf_any kind)
  have HA : Hid (∀ u w, Kd k u → Calls Tryz.prog F #[.agg #[], u] w fun e w' => e = .returned (.bool false) ∧ Below w.heap.size w w') := fun u w hu => by have := hA k u w hu; rw [hq] at this; exact this
  clear hA hq hO
  generalize qty kind = Q at hmm HI
  go_enter Tryz.func30, Tryz.ntmps30
  go_wp2_with fail
  refine (HO.out _ hb0.below).mono ?_
  rintro e w1 ⟨u, rfl, hu, bb⟩
  have h1 := hb0.step bb
  go_wp2_with fail
  refine (HI.out _).mono ?_
  rintro e w2 ⟨rfl, rfl⟩
  have sx : Sx u := by
    rcases hu with ⟨-, e⟩ | ⟨-, -, v, e, -⟩
    · exact .inl e
    · exact .inr ⟨_, _, e⟩
  rcases sx with rfl | ⟨T, z, rfl⟩
  all_goals
    go_wp2_with fail
    refine (HA.out _ _ hu).mono ?_
    rintro e w3 ⟨rfl, b3⟩
    have h3 := h1.step b3
    obtain ⟨-, d0, d1, d2, d3, d4⟩ := h3.c
    have fz : ∀ o, w3.frozen? ⟨w.heap.size + 1, o, none⟩ = false := h3.f
    have B := h3.below
    go_wp2
    refine bodyPost_ret (v := .tuple #[.agg #[.int .i64 0, .int .i64 0, .int .u64 0, .string ⟨#[]⟩, .slice none 0 0], .bool false]) (by simp [results, Tryz.results30, go_sem, World.cell?_setCell_same, World.cell?_setCell_other, d0, d1, d2, d3, d4]) rfl ⟨rfl, ?_⟩
    exact ((((B.setCell (by show w.heap.size ≤ w.heap.size + 1; omega) _).setCell (by show w.heap.size ≤ w.heap.size + 1; omega) _).setCell (by show w.heap.size ≤ w.heap.size + 1; omega) _).setCell (by show w.heap.size ≤ w.heap.size + 1; omega) _).setCell (by show w.heap.size ≤ w.heap.size + 1; omega) _

set_option maxRecDepth 100000 in
set_option maxHeartbeats 2000000 in
theorem to_yes (m : Nat) (t : Dt.Tr m) (hrg : Dt.rgt m t = true) (h64 : Dt.r64 m t) (hps : (Dt.pts m t).1 ≤ 4096) (k i b : Int) (s : ByteArray) (ad : Option Addr) (len cap : Nat) (kind : Int) (w : World) (hq : tkd kind k = true)
    (hO : ∀ wx, Below w.heap.size w wx → Calls Tryz.prog 48 #[.agg #[.int .i64 k, .int .i64 i, .int .u64 b, .string s, .slice ad len cap]] wx fun e w' => ∃ u, e = .returned u ∧ Kd k u ∧ Hid (Dt.VR (fun g => wx.heap.size ≤ g ∧ g < w'.heap.size) w' m u t) ∧ Below wx.heap.size wx w') :
    Calls Tryz.prog 30 #[.agg #[.int .i64 k, .int .i64 i, .int .u64 b, .string s, .slice ad len cap], .int .i64 kind] w fun e w' => ∃ v0 v1 v2 v3 v4, e = .returned (.tuple #[.agg #[v0, v1, v2, v3, v4], .bool true]) ∧ Dt.Rf (fun g => w.heap.size ≤ g ∧ g < w'.heap.size) w' m [v0, v1, v2, v3, v4] t ∧ Below w.heap.size w w' := by
  obtain ⟨F, ⟨hmm, hcf⟩, hA⟩ := type_asks kind
  have hb0 := Dt.T2.start w (.int .i64 k) (.int .i64 i) (.int .u64 b) (.string s) (.slice ad len cap) (.int .i64 0) (.int .i64 0) (.int .u64 0) (.string ⟨#[]⟩) (.slice none 0 0)
  have HO := Lib.hid hO
  have HI := Lib.hid (typeOf_any kind)
  have HA : Hid (∀ u w, Kd k u → Calls Tryz.prog F #[.agg #[], u] w fun e w' => e = .returned (.bool true) ∧ Below w.heap.size w w') := fun u w hu => by have := hA k u w hu; rw [hq] at this; exact this
  have HP : Hid (∀ (F0 : Nat → Prop) (W0 : World) (v : Value) (w : World), Hid (Dt.VR F0 W0 m v t) → Below W0.heap.size W0 w → Calls Tryz.prog 50 #[v] w fun e w' => ∃ (u0 u1 u2 : Int) (u3 : ByteArray) (a4 : Option Addr) (n4 c4 : Nat), e = .returned (.agg #[.int .i64 u0, .int .i64 u1, .int .u64 u2, .string u3, .slice a4 n4 c4]) ∧ Hid (Dt.Rf (fun g => w.heap.size ≤ g ∧ g < w'.heap.size) w' m [.int .i64 u0, .int .i64 u1, .int .u64 u2, .string u3, .slice a4 n4 c4] t) ∧ Below w.heap.size w w') := fun F0 W0 v w hv hb => (Dt.plain_any F0 W0 m t v w hrg h64 hps hv.out hb).mono fun e w' ⟨v0, v1, v2, v3, v4, he, rf, hb'⟩ => by
    obtain ⟨u0, u1, u2, u3, a4, n4, c4', rfl, rfl, rfl, rfl, rfl⟩ := Dt.rep_shape (Dt.Rf.rep _ _ _ rf)
    exact ⟨u0, u1, u2, u3, a4, n4, c4', he, rf, hb'⟩
  clear hA hq hO hrg h64 hps
  generalize qty kind = Q at hmm HI
  go_enter Tryz.func30, Tryz.ntmps30
  go_wp2_with fail
  refine (HO.out _ hb0.below).mono ?_
  rintro e w1 ⟨u, rfl, hu, vr, bb⟩
  have h1 := hb0.step bb
  go_wp2_with fail
  refine (HI.out _).mono ?_
  rintro e w2 ⟨rfl, rfl⟩
  have sx : Sx u := by
    rcases hu with ⟨-, e⟩ | ⟨-, -, v, e, -⟩
    · exact .inl e
    · exact .inr ⟨_, _, e⟩
  rcases sx with rfl | ⟨T, z, rfl⟩
  all_goals
    go_wp2_with fail
    refine (HA.out _ _ hu).mono ?_
    rintro e w3 ⟨rfl, b3⟩
    have h3 := h1.step b3
    go_wp2_with fail
    refine (HP.out _ _ _ _ vr b3).mono ?_
    rintro e w4 ⟨u0, u1, u2, u3, a4, n4, c4, rfl, rf, b4⟩
    have h4 := h3.step b4
    obtain ⟨-, d0, d1, d2, d3, d4⟩ := h4.c
    have fz : ∀ o, w4.frozen? ⟨w.heap.size + 1, o, none⟩ = false := h4.f
    have B := h4.below
    have z3 := h3.size2
    go_wp2
    refine bodyPost_ret (v := .tuple #[.agg #[.int .i64 u0, .int .i64 u1, .int .u64 u2, .string u3, .slice a4 n4 c4], .bool true]) (by simp [results, Tryz.results30, go_sem, World.cell?_setCell_same, World.cell?_setCell_other, d0, d1, d2, d3, d4]) rfl ⟨_, _, _, _, _, rfl, ?_, ?_⟩
    · refine Dt.Rf.to (fun q hq => ⟨⟨by have := hq.1; omega, by simp [World.setCell]; exact hq.2⟩, ?_⟩) _ _ _ rf.out
      have hne : q ≠ w.heap.size + 1 := by have := hq.1; omega
      rw [Below.heap_setCell _ _ _ q hne, Below.heap_setCell _ _ _ q hne, Below.heap_setCell _ _ _ q hne, Below.heap_setCell _ _ _ q hne, Below.heap_setCell _ _ _ q hne]
    · exact ((((B.setCell (by show w.heap.size ≤ w.heap.size + 1; omega) _).setCell (by show w.heap.size ≤ w.heap.size + 1; omega) _).setCell (by show w.heap.size ≤ w.heap.size + 1; omega) _).setCell (by show w.heap.size ≤ w.heap.size + 1; omega) _).setCell (by show w.heap.size ≤ w.heap.size + 1; omega) _
end Go.Proofs.YtokiaolgdkikiaaGreat
