/- The package's place and pointer without boxes by number; the conditions: the trees in memory and valid, and value's own contract for the parts. -/
import Derived.Test.YtajagjcfmaggiaaGreatDoorKCah
namespace Go.Proofs.YtajagjcfmaggiaaGreatDoor.Dt
open Go.RowKit
set_option maxRecDepth 100000 in
set_option maxHeartbeats 2000000 in
theorem place_nb (W0 : World) (m : Nat) (ks : List (Tr m))
    (ih : ∀ (t : Tr m) (v0 v1 v2 v3 v4 : Value) (w : World), rgt m t = true → (pts m t).1 ≤ 4096 → Rep W0 m [v0, v1, v2, v3, v4] t → Below W0.heap.size W0 w →
      Calls Tryz.prog 86 #[.agg #[.map none], .agg #[v0, v1, v2, v3, v4]] w fun e w' => ∃ v, e = .returned v ∧ VR (fun g => w.heap.size ≤ g ∧ g < w'.heap.size) w' m v t ∧ Below w.heap.size w w')
    (ad : Option Addr) (cap : Nat) (w : World) (hb0 : Below W0.heap.size W0 w) (hrg : ks.all (rgt m) = true) (hps : ∀ t ∈ ks, (pts m t).1 ≤ 4096)
    (hk : (ks = [] ∨ ∃ g o, ad = some ⟨g, o, none⟩ ∧ ∀ (j : Nat) (t' : Tr m), ks[j]? = some t' → ∃ v0 v1 v2 v3 v4, W0.cell? ⟨g, o + j * 5, none⟩ = some v0 ∧ W0.cell? ⟨g, o + j * 5 + 1, none⟩ = some v1 ∧ W0.cell? ⟨g, o + j * 5 + 2, none⟩ = some v2 ∧ W0.cell? ⟨g, o + j * 5 + 3, none⟩ = some v3 ∧ W0.cell? ⟨g, o + j * 5 + 4, none⟩ = some v4 ∧ Rep W0 m [v0, v1, v2, v3, v4] t'))
    (j : Nat) (hlt : j < ks.length) :
    Calls Tryz.prog 99 #[.agg #[.map none], .slice ad ks.length cap, .int .i64 j] w fun e w' => ∃ v, e = .returned v ∧ VR (fun g => w.heap.size ≤ g ∧ g < w'.heap.size) w' m v ks[j] ∧ Below w.heap.size w w' := by
  have hne : ks ≠ [] := by intro e; rw [e] at hlt; exact absurd hlt (Nat.not_lt_zero _)
  rcases hk with hk | ⟨g, o, hk1, hk2⟩
  · exact absurd hk hne
  subst hk1
  obtain ⟨v0, v1, v2, v3, v4, e0, e1, e2, e3, e4, rk⟩ := hk2 j _ (List.getElem?_eq_getElem hlt)
  have b1 := below1 w (.cells #[.map none] 132)
  have o1 : Below W0.heap.size W0 (w.alloc (.cells #[.map none] 132)) := hb0.trans (b1.mono hb0.size)
  have hg : g < W0.heap.size := World.block_lt_of_cell? W0 _ e0
  clear hk2
  obtain ⟨u0, u1, u2, u3, a4, n4, c4', rfl, rfl, rfl, rfl, rfl⟩ := rep_shape rk
  have hrt : rgt m ks[j] = true := List.all_eq_true.1 hrg _ (List.getElem_mem hlt)
  have hb0s := hb0.size
  have HS : Hid (∀ w' : World, Below (w.heap.size + 1) (w.alloc (.cells #[.map none] 132)) w' → w'.cell? ⟨w.heap.size, 0, none⟩ = some (.map none) ∧ w'.cell? ⟨g, o + j * 5, none⟩ = some (.int .i64 u0) ∧ w'.cell? ⟨g, o + j * 5 + 1, none⟩ = some (.int .i64 u1) ∧ w'.cell? ⟨g, o + j * 5 + 2, none⟩ = some (.int .u64 u2) ∧ w'.cell? ⟨g, o + j * 5 + 3, none⟩ = some (.string u3) ∧ w'.cell? ⟨g, o + j * 5 + 4, none⟩ = some (.slice a4 n4 c4')) := fun w' h => by
    have hw : Below W0.heap.size W0 w' := o1.trans (h.mono (by omega))
    have hc : C1 w' w.heap.size 132 (.map none) := (h.block w.heap.size (by omega)).trans (C1.new w 132 (.map none))
    exact ⟨hc.c, (hw.cell (p := ⟨g, o + j * 5, none⟩) hg).trans e0, (hw.cell (p := ⟨g, o + j * 5 + 1, none⟩) hg).trans e1, (hw.cell (p := ⟨g, o + j * 5 + 2, none⟩) hg).trans e2, (hw.cell (p := ⟨g, o + j * 5 + 3, none⟩) hg).trans e3, (hw.cell (p := ⟨g, o + j * 5 + 4, none⟩) hg).trans e4⟩
  have HI : Hid (Calls Tryz.prog 86 #[.agg #[.map none], .agg #[.int .i64 u0, .int .i64 u1, .int .u64 u2, .string u3, .slice a4 n4 c4']] (w.alloc (.cells #[.map none] 132)).drew fun e w' => ∃ v, e = .returned v ∧ Hid (VR (fun g => w.heap.size ≤ g ∧ g < w'.heap.size) w' m v ks[j]) ∧ Below (w.heap.size + 1) (w.alloc (.cells #[.map none] 132)) w' ∧ Hid (Below w.heap.size w w')) :=
    (ih ks[j] _ _ _ _ _ _ hrt (hps _ (List.getElem_mem hlt)) rk o1.drew).mono fun e w' ⟨v, he, vr, hb⟩ => by
      have hb' : Below (w.heap.size + 1) (w.alloc (.cells #[.map none] 132)) w' := (Below.drew (Below.refl _ _)).trans (hb.mono (by show w.heap.size + 1 ≤ (w.alloc _).heap.size; simp))
      exact ⟨v, he, VR.to (fun q hq => ⟨⟨by have h : (w.alloc (.cells #[.map none] 132)).heap.size ≤ q := hq.1; simp at h; omega, hq.2⟩, rfl⟩) _ _ _ vr, hb', b1.trans (hb'.mono (by omega))⟩
  clear e0 e1 e2 e3 e4
  have hje : ¬ ((ks.length : Int) ≤ (j : Int)) := by omega
  clear ih rk hrg hps hrt
  obtain ⟨y5, y0, y1, y2, y3, y4⟩ := HS.out _ (Below.refl _ _)
  go_enter Tryz.func99, Tryz.ntmps99
  go_wp2_with fail
  go_region_held3 (fun w' => w'.cell? ⟨w.heap.size, 0, none⟩ = some (.map none) ∧ w'.cell? ⟨g, o + j * 5, none⟩ = some (.int .i64 u0) ∧ w'.cell? ⟨g, o + j * 5 + 1, none⟩ = some (.int .i64 u1) ∧ w'.cell? ⟨g, o + j * 5 + 2, none⟩ = some (.int .u64 u2) ∧ w'.cell? ⟨g, o + j * 5 + 3, none⟩ = some (.string u3) ∧ w'.cell? ⟨g, o + j * 5 + 4, none⟩ = some (.slice a4 n4 c4')) (first | (refine HS.out _ ?_; with_reducible assumption) | exact HS.out _ (Below.drew (Below.refl _ _))) ((go_at_call 86; refine HI.out.mono ?_; rintro e w2 ⟨v, rfl, vr, b2, bw⟩))
  all_goals go_wp2_with fail
  all_goals go_ret
  all_goals exact ⟨_, rfl, vr.out, bw.out⟩

theorem vr_kd {F : Nat → Prop} {w : World} {n : Nat} {v : Value} {t : Tr (n + 1)} (h : VR F w (n + 1) v t) : (t.kd = 0 ∧ v = .nilIface) ∨ (t.kd ≠ 0 ∧ ∃ T z, v = .iface T z) := by
  simp only [VR] at h
  rcases h with ⟨k, e⟩ | ⟨k, e⟩ | ⟨k, e⟩ | ⟨k, e⟩ | ⟨k, e⟩ | ⟨k, e⟩ | ⟨k, e⟩ | ⟨k, g, c, cs, fr, e, -⟩ | ⟨k, a, c, e, -⟩ | ⟨k, x, y, t0, t1, e, -⟩ | ⟨k, e⟩ | ⟨k, b, u, t0, e, -⟩ | ⟨k, e⟩ | ⟨k, e⟩
  · exact .inl ⟨k, e⟩
  all_goals exact .inr ⟨by omega, _, _, e⟩
theorem vr_nil {F : Nat → Prop} {w : World} {n : Nat} {v : Value} {t : Tr n} (h : VR F w n v t) (k : nilT n t) : v = .nilIface := by
  match n, t, h, k with
  | n + 1, t, h, k =>
    rcases vr_kd h with ⟨-, e⟩ | ⟨h1, -⟩
    · exact e
    · exact absurd k h1
theorem vr_val {F : Nat → Prop} {w : World} {n : Nat} {v : Value} {t : Tr n} (h : VR F w n v t) (k : ¬ nilT n t) : ∃ T z, v = .iface T z := by
  match n, t, h, k with
  | n + 1, t, h, k =>
    rcases vr_kd h with ⟨e, -⟩ | ⟨-, e⟩
    · exact absurd e k
    · exact e

set_option maxRecDepth 100000 in
set_option maxHeartbeats 2000000 in
theorem pointer_nb (W0 : World) (m : Nat) (ks : List (Tr m))
    (ih : ∀ (t : Tr m) (v0 v1 v2 v3 v4 : Value) (w : World), rgt m t = true → (pts m t).1 ≤ 4096 → Rep W0 m [v0, v1, v2, v3, v4] t → Below W0.heap.size W0 w →
      Calls Tryz.prog 86 #[.agg #[.map none], .agg #[v0, v1, v2, v3, v4]] w fun e w' => ∃ v, e = .returned v ∧ VR (fun g => w.heap.size ≤ g ∧ g < w'.heap.size) w' m v t ∧ Below w.heap.size w w')
    (k i u : Int) (s : ByteArray) (ad : Option Addr) (cap : Nat) (w : World) (hb0 : Below W0.heap.size W0 w) (hrg : ks.all (rgt m) = true) (hps : ∀ t ∈ ks, (pts m t).1 ≤ 4096)
    (hk : (ks = [] ∨ ∃ g o, ad = some ⟨g, o, none⟩ ∧ ∀ (j : Nat) (t' : Tr m), ks[j]? = some t' → ∃ v0 v1 v2 v3 v4, W0.cell? ⟨g, o + j * 5, none⟩ = some v0 ∧ W0.cell? ⟨g, o + j * 5 + 1, none⟩ = some v1 ∧ W0.cell? ⟨g, o + j * 5 + 2, none⟩ = some v2 ∧ W0.cell? ⟨g, o + j * 5 + 3, none⟩ = some v3 ∧ W0.cell? ⟨g, o + j * 5 + 4, none⟩ = some v4 ∧ Rep W0 m [v0, v1, v2, v3, v4] t')) (h1 : 0 < ks.length) :
    Calls Tryz.prog 100 #[.agg #[.map none], .agg #[.int .i64 k, .int .i64 i, .int .u64 u, .string s, .slice ad ks.length cap]] w fun e w' => ∃ b v, e = .returned (.pointer (some ⟨b, 0, none⟩)) ∧ w.heap.size ≤ b ∧ b < w'.heap.size ∧ w'.heap[b]? = some (.cells #[.int .i64 i, v] 176 (0, 0)) ∧ VR (fun g => w.heap.size ≤ g ∧ g < w'.heap.size) w' m v (ks[0]'h1) ∧ Below w.heap.size w w' := by
  have hen : ∀ w, (binOp .eql 130 (.map none) (.map none)).run Tryz.prog w = .ok (.bool true) w := fun _ => by kernel_rfl
  have hbA : Below w.heap.size w ((w.alloc (.cells #[.map none] 132)).alloc (.cells #[.int .i64 k, .int .i64 i, .int .u64 u, .string s, .slice ad ks.length cap] 25)) := ((Below.refl _ w).alloc (Nat.le_refl _) _).alloc (by simp) _
  have h01 : Hid (0 < ks.length) := h1
  have hsz : ((w.alloc (.cells #[.map none] 132)).alloc (.cells #[.int .i64 k, .int .i64 i, .int .u64 u, .string s, .slice ad ks.length cap] 25)).heap.size = w.heap.size + 2 := by simp
  have KP : Hid (Calls Tryz.prog 99 #[.agg #[.map none], .slice ad ks.length cap, .int .i64 0] ((w.alloc (.cells #[.map none] 132)).alloc (.cells #[.int .i64 k, .int .i64 i, .int .u64 u, .string s, .slice ad ks.length cap] 25)).drew fun e w' => ∃ v, e = .returned v ∧ Hid (VR (fun g => ((w.alloc (.cells #[.map none] 132)).alloc (.cells #[.int .i64 k, .int .i64 i, .int .u64 u, .string s, .slice ad ks.length cap] 25)).heap.size ≤ g ∧ g < w'.heap.size) w' m v (ks[0]'h01.out)) ∧ Below ((w.alloc (.cells #[.map none] 132)).alloc (.cells #[.int .i64 k, .int .i64 i, .int .u64 u, .string s, .slice ad ks.length cap] 25)).heap.size ((w.alloc (.cells #[.map none] 132)).alloc (.cells #[.int .i64 k, .int .i64 i, .int .u64 u, .string s, .slice ad ks.length cap] 25)) w') :=
    (place_nb W0 m ks ih ad cap ((w.alloc (.cells #[.map none] 132)).alloc (.cells #[.int .i64 k, .int .i64 i, .int .u64 u, .string s, .slice ad ks.length cap] 25)).drew (hb0.trans (hbA.drew.mono hb0.size)) hrg hps hk 0 h01.out).mono fun e w' ⟨v, he, vr, hb⟩ => ⟨v, he, vr, (Below.drew (Below.refl _ _)).trans hb⟩
  have dm : C1 ((w.alloc (.cells #[.map none] 132)).alloc (.cells #[.int .i64 k, .int .i64 i, .int .u64 u, .string s, .slice ad ks.length cap] 25)) w.heap.size 132 (.map none) := (C1.new w 132 _).below (below1 _ _)
  have dd : D5 ((w.alloc (.cells #[.map none] 132)).alloc (.cells #[.int .i64 k, .int .i64 i, .int .u64 u, .string s, .slice ad ks.length cap] 25)) (w.heap.size + 1) (.int .i64 k) (.int .i64 i) (.int .u64 u) (.string s) (.slice ad ks.length cap) := by
    have := D5.new (w.alloc (.cells #[.map none] 132)) (.int .i64 k) (.int .i64 i) (.int .u64 u) (.string s) (.slice ad ks.length cap)
    rwa [World.size_alloc] at this
  have KS : Hid (∀ w' : World, Below ((w.alloc (.cells #[.map none] 132)).alloc (.cells #[.int .i64 k, .int .i64 i, .int .u64 u, .string s, .slice ad ks.length cap] 25)).heap.size ((w.alloc (.cells #[.map none] 132)).alloc (.cells #[.int .i64 k, .int .i64 i, .int .u64 u, .string s, .slice ad ks.length cap] 25)) w' → w'.cell? ⟨w.heap.size, 0, none⟩ = some (.map none) ∧ w'.cell? ⟨w.heap.size + 1, 1, none⟩ = some (.int .i64 i) ∧ w'.cell? ⟨w.heap.size + 1, 4, none⟩ = some (.slice ad ks.length cap)) := fun w' h => ⟨(dm.below h).c, (dd.below h).c.2.1, (dd.below h).c.2.2.2.2⟩
  have FN : Hid (∀ (v : Value) (w2 : World), Hid (VR (fun g => ((w.alloc (.cells #[.map none] 132)).alloc (.cells #[.int .i64 k, .int .i64 i, .int .u64 u, .string s, .slice ad ks.length cap] 25)).heap.size ≤ g ∧ g < w2.heap.size) w2 m v (ks[0]'h01.out)) → Below ((w.alloc (.cells #[.map none] 132)).alloc (.cells #[.int .i64 k, .int .i64 i, .int .u64 u, .string s, .slice ad ks.length cap] 25)).heap.size ((w.alloc (.cells #[.map none] 132)).alloc (.cells #[.int .i64 k, .int .i64 i, .int .u64 u, .string s, .slice ad ks.length cap] 25)) w2 → ∃ b v', Ending.returned (.pointer (some ⟨w2.heap.size, 0, none⟩)) = .returned (.pointer (some ⟨b, 0, none⟩)) ∧ w.heap.size ≤ b ∧ b < (w2.alloc (.cells #[.int .i64 i, v] 176)).heap.size ∧ (w2.alloc (.cells #[.int .i64 i, v] 176)).heap[b]? = some (.cells #[.int .i64 i, v'] 176 (0, 0)) ∧ VR (fun g => w.heap.size ≤ g ∧ g < (w2.alloc (.cells #[.int .i64 i, v] 176)).heap.size) (w2.alloc (.cells #[.int .i64 i, v] 176)) m v' (ks[0]'h01.out) ∧ Below w.heap.size w (w2.alloc (.cells #[.int .i64 i, v] 176))) := fun v w2 vr b2 => by
    have hs := b2.size
    rw [hsz] at hs
    have B2 : Below w.heap.size w w2 := hbA.trans (b2.mono (by omega))
    refine ⟨w2.heap.size, v, rfl, by omega, by simp, heap_alloc_new _ _, VR.to (fun q hq => ⟨⟨by have h := hq.1; omega, by simp; have h := hq.2; omega⟩, (below1 w2 _).block q hq.2⟩) _ _ _ vr.out, B2.trans ((below1 w2 _).mono B2.size)⟩
  clear ih hk hrg hps dm dd hbA hb0 hsz
  by_cases hA : nilT m (ks[0]'h01.out)
  · have KA : Hid (Calls Tryz.prog 99 #[.agg #[.map none], .slice ad ks.length cap, .int .i64 0] ((w.alloc (.cells #[.map none] 132)).alloc (.cells #[.int .i64 k, .int .i64 i, .int .u64 u, .string s, .slice ad ks.length cap] 25)).drew fun e w' => e = .returned Value.nilIface ∧ Hid (VR (fun g => ((w.alloc (.cells #[.map none] 132)).alloc (.cells #[.int .i64 k, .int .i64 i, .int .u64 u, .string s, .slice ad ks.length cap] 25)).heap.size ≤ g ∧ g < w'.heap.size) w' m Value.nilIface (ks[0]'h01.out)) ∧ Below ((w.alloc (.cells #[.map none] 132)).alloc (.cells #[.int .i64 k, .int .i64 i, .int .u64 u, .string s, .slice ad ks.length cap] 25)).heap.size ((w.alloc (.cells #[.map none] 132)).alloc (.cells #[.int .i64 k, .int .i64 i, .int .u64 u, .string s, .slice ad ks.length cap] 25)) w') := KP.out.mono fun e w' ⟨v, he, vr, hb⟩ => by obtain rfl := vr_nil vr.out hA; exact ⟨he, vr, hb⟩
    clear KP hA
    go_enter Tryz.func100, Tryz.ntmps100
    go_wp2_with fail
    go_region_held3 (fun w' => w'.cell? ⟨w.heap.size, 0, none⟩ = some (.map none) ∧ w'.cell? ⟨w.heap.size + 1, 1, none⟩ = some (.int .i64 i) ∧ w'.cell? ⟨w.heap.size + 1, 4, none⟩ = some (.slice ad ks.length cap)) (first | (refine KS.out _ ?_; with_reducible assumption) | exact KS.out _ (Below.drew (Below.refl _ _)) | (refine KS.out _ (Below.alloc ?_ ?_ _); with_reducible assumption; exact Below.size (by with_reducible assumption))) ((go_at_call 99; refine KA.out.mono ?_; rintro e w2 ⟨rfl, vr, b2⟩))
    all_goals go_wp2_with fail
    all_goals go_ret
    all_goals exact FN.out _ w2 vr b2
  · have KA : Hid (Calls Tryz.prog 99 #[.agg #[.map none], .slice ad ks.length cap, .int .i64 0] ((w.alloc (.cells #[.map none] 132)).alloc (.cells #[.int .i64 k, .int .i64 i, .int .u64 u, .string s, .slice ad ks.length cap] 25)).drew fun e w' => ∃ T z, e = .returned (Value.iface T z) ∧ Hid (VR (fun g => ((w.alloc (.cells #[.map none] 132)).alloc (.cells #[.int .i64 k, .int .i64 i, .int .u64 u, .string s, .slice ad ks.length cap] 25)).heap.size ≤ g ∧ g < w'.heap.size) w' m (Value.iface T z) (ks[0]'h01.out)) ∧ Below ((w.alloc (.cells #[.map none] 132)).alloc (.cells #[.int .i64 k, .int .i64 i, .int .u64 u, .string s, .slice ad ks.length cap] 25)).heap.size ((w.alloc (.cells #[.map none] 132)).alloc (.cells #[.int .i64 k, .int .i64 i, .int .u64 u, .string s, .slice ad ks.length cap] 25)) w') := KP.out.mono fun e w' ⟨v, he, vr, hb⟩ => by obtain ⟨T, z, rfl⟩ := vr_val vr.out hA; exact ⟨T, z, he, vr, hb⟩
    clear KP hA
    go_enter Tryz.func100, Tryz.ntmps100
    go_wp2_with fail
    go_region_held3 (fun w' => w'.cell? ⟨w.heap.size, 0, none⟩ = some (.map none) ∧ w'.cell? ⟨w.heap.size + 1, 1, none⟩ = some (.int .i64 i) ∧ w'.cell? ⟨w.heap.size + 1, 4, none⟩ = some (.slice ad ks.length cap)) (first | (refine KS.out _ ?_; with_reducible assumption) | exact KS.out _ (Below.drew (Below.refl _ _)) | (refine KS.out _ (Below.alloc ?_ ?_ _); with_reducible assumption; exact Below.size (by with_reducible assumption))) ((go_at_call 99; refine KA.out.mono ?_; rintro e w2 ⟨T, z, rfl, vr, b2⟩))
    all_goals go_wp2_with fail
    all_goals go_ret
    all_goals exact FN.out _ w2 vr b2
end Go.Proofs.YtajagjcfmaggiaaGreatDoor.Dt
