/- The package's value of a valid value's tree, without boxes by number: each place with memory of its own; the conditions: the tree in memory and valid, of 4096 parts at most. -/
import Derived.Test.YtajagjcfmaggiaaGreatDoorKCai
namespace Go.Proofs.YtajagjcfmaggiaaGreatDoor.Dt
open Go.RowKit
set_option maxRecDepth 100000 in
set_option maxHeartbeats 1000000 in
theorem nbLeaf7 (i u : Int) (s : ByteArray) (ad : Option Addr) (len cap : Nat) (w : World) :
    Calls Tryz.prog 86 #[.agg #[.map none], .agg #[.int .i64 7, .int .i64 i, .int .u64 u, .string s, .slice ad len cap]] w fun e w' => ∃ g c cs fr, e = .returned (.iface 147 (.slice (some ⟨g, 0, none⟩) s.size c)) ∧ (w.heap.size ≤ g ∧ g < w'.heap.size) ∧ w'.heap[g]? = some (.cells cs 5 fr) ∧ cs = bytesRow s c ∧ Below w.heap.size w w' := by
  have hcv : ∀ w : World, (convert 9 147 (.string s)).run Tryz.prog w = _ := fun w => run_bytes_of_string (P := Tryz.prog) w 9 147 5 s Tryz.underlying9 Tryz.underlying147 Tryz.underlying5
  go_enter Tryz.func86, Tryz.ntmps86
  go_wp2
  go_ret
  have hN := heap_alloc_new ((w.alloc (.cells #[.map none] 132)).alloc (.cells #[.int .i64 7, .int .i64 i, .int .u64 u, .string s, .slice ad len cap] 25)) (.cells (bytesRow s (grownCap ((w.alloc (.cells #[.map none] 132)).alloc (.cells #[.int .i64 7, .int .i64 i, .int .u64 u, .string s, .slice ad len cap] 25)) s.size 0 5)) 5 ((bytesRow s (grownCap ((w.alloc (.cells #[.map none] 132)).alloc (.cells #[.int .i64 7, .int .i64 i, .int .u64 u, .string s, .slice ad len cap] 25)) s.size 0 5)).size, (bytesRow s (grownCap ((w.alloc (.cells #[.map none] 132)).alloc (.cells #[.int .i64 7, .int .i64 i, .int .u64 u, .string s, .slice ad len cap] 25)) s.size 0 5)).size + 1))
  rw [World.size_alloc, World.size_alloc] at hN
  refine ⟨w.heap.size + 1 + 1, _, bytesRow s (grownCap ((w.alloc (.cells #[.map none] 132)).alloc (.cells #[.int .i64 7, .int .i64 i, .int .u64 u, .string s, .slice ad len cap] 25)) s.size 0 5), ((bytesRow s (grownCap ((w.alloc (.cells #[.map none] 132)).alloc (.cells #[.int .i64 7, .int .i64 i, .int .u64 u, .string s, .slice ad len cap] 25)) s.size 0 5)).size, (bytesRow s (grownCap ((w.alloc (.cells #[.map none] 132)).alloc (.cells #[.int .i64 7, .int .i64 i, .int .u64 u, .string s, .slice ad len cap] 25)) s.size 0 5)).size + 1), rfl, ⟨by omega, ?_⟩, hN, rfl, ?_⟩
  · exact (Array.getElem?_eq_some_iff.1 hN).1
  · exact (((Below.refl _ w).alloc (Nat.le_refl _) _).alloc (by simp) _).drew.alloc (by simp [World.drew]; omega) _

theorem VR.mk7 {F : Nat → Prop} {w : World} {n : Nat} {t : Tr (n + 1)} (k : t.kd = 7) (g c : Nat) (cs : Array Value) (fr : Nat × Nat) (hF : F g) (hh : w.heap[g]? = some (.cells cs 5 fr)) (hc : cs = bytesRow t.tx c) : VR F w (n + 1) (.iface 147 (.slice (some ⟨g, 0, none⟩) t.tx.size c)) t := by
  simp only [VR]
  exact .inr (.inr (.inr (.inr (.inr (.inr (.inr (.inl ⟨k, g, c, cs, fr, rfl, hF, hh, hc⟩)))))))
theorem VR.mk8 {F : Nat → Prop} {w : World} {n : Nat} {t : Tr (n + 1)} (k : t.kd = 8) (g c : Nat) (hF : F g) (h : ∀ (j : Nat) (t' : Tr n), t.ks[j]? = some t' → ∃ u, w.cell? ⟨g, j, none⟩ = some u ∧ VR F w n u t') : VR F w (n + 1) (.iface 149 (.slice (some ⟨g, 0, none⟩) t.ks.length c)) t := by
  simp only [VR]
  exact .inr (.inr (.inr (.inr (.inr (.inr (.inr (.inr (.inl ⟨k, some ⟨g, 0, none⟩, c, rfl, .inr ⟨g, rfl, hF, h⟩⟩))))))))
theorem VR.mk11 {F : Nat → Prop} {w : World} {n : Nat} {t : Tr (n + 1)} (k : t.kd = 11) (b : Nat) (u : Value) (t0 : Tr n) (hF : F b) (e : t.ks = [t0]) (hh : w.heap[b]? = some (.cells #[.int .i64 t.it, u] 176 (0, 0))) (h : VR F w n u t0) : VR F w (n + 1) (.iface 155 (.pointer (some ⟨b, 0, none⟩))) t := by
  simp only [VR]
  exact .inr (.inr (.inr (.inr (.inr (.inr (.inr (.inr (.inr (.inr (.inr (.inl ⟨k, b, u, t0, rfl, hF, e, hh, h⟩)))))))))))

set_option maxRecDepth 100000 in
set_option maxHeartbeats 2000000 in
theorem value_nb (W0 : World) : ∀ (m : Nat) (t : Tr m) (v0 v1 v2 v3 v4 : Value) (w : World), rgt m t = true → (pts m t).1 ≤ 4096 → Rep W0 m [v0, v1, v2, v3, v4] t → Below W0.heap.size W0 w →
      Calls Tryz.prog 86 #[.agg #[.map none], .agg #[v0, v1, v2, v3, v4]] w fun e w' => ∃ v, e = .returned v ∧ VR (fun g => w.heap.size ≤ g ∧ g < w'.heap.size) w' m v t ∧ Below w.heap.size w w' := by
  intro m
  induction m with
  | zero => intro t; exact t.elim
  | succ n ih =>
    intro t v0 v1 v2 v3 v4 w hrg hps hrep hb0
    obtain ⟨ad, cap, e, htx, hlen, hcap, hk⟩ := hrep
    simp only [List.cons.injEq, and_true] at e
    obtain ⟨rfl, rfl, rfl, rfl, rfl⟩ := e
    obtain ⟨hp1, hp2⟩ := pts_kids hps
    simp only [rgt, Bool.and_eq_true] at hrg
    obtain ⟨hok, hall⟩ := hrg
    have okp := ok_plain hok
    have fin : ∀ (v : Value) (e : Ending) (w' : World), VR (fun g => w.heap.size ≤ g ∧ g < w'.heap.size) w' (n + 1) v t → e = .returned v ∧ Below w.heap.size w w' → ∃ v, e = .returned v ∧ VR (fun g => w.heap.size ≤ g ∧ g < w'.heap.size) w' (n + 1) v t ∧ Below w.heap.size w w' := fun v e w' hv hw => ⟨v, hw.1, hv, hw.2⟩
    obtain h | h | h | h | h | h | h | h | h | h | h | h | h | h : t.kd = 0 ∨ t.kd = 1 ∨ t.kd = 2 ∨ t.kd = 3 ∨ t.kd = 4 ∨ t.kd = 5 ∨ t.kd = 6 ∨ t.kd = 7 ∨ t.kd = 8 ∨ t.kd = 9 ∨ t.kd = 10 ∨ t.kd = 11 ∨ t.kd = 12 ∨ t.kd = 13 := by omega
    · rw [h]
      exact (shLeaf0 none t.it t.ut t.tx ad t.ks.length cap w).mono fun e w' hw => fin _ e w' (by simp [VR, h]) hw
    · rw [h]
      exact (shLeaf1 none t.it t.ut t.tx ad t.ks.length cap w).mono fun e w' hw => fin _ e w' (by simp [VR, h]) hw
    · rw [h]
      exact (shLeaf2 none t.it t.ut t.tx ad t.ks.length cap w).mono fun e w' hw => fin _ e w' (by simp [VR, h]) hw
    · rw [h]
      exact (shLeaf3 none t.it t.ut t.tx ad t.ks.length cap w).mono fun e w' hw => fin _ e w' (by simp [VR, h]) hw
    · rw [h]
      exact (shLeaf4 none t.it t.ut t.tx ad t.ks.length cap w).mono fun e w' hw => fin _ e w' (by simp [VR, h]) hw
    · rw [h]
      exact (shLeaf5 none t.it t.ut t.tx ad t.ks.length cap w).mono fun e w' hw => fin _ e w' (by simp [VR, h]) hw
    · rw [h]
      exact (shLeaf6 none t.it t.ut t.tx ad t.ks.length cap w).mono fun e w' hw => fin _ e w' (by simp [VR, h]) hw
    · rw [h]
      refine (nbLeaf7 t.it t.ut t.tx ad t.ks.length cap w).mono fun e w' ⟨g, c, cs, fr, he, hg, hh, hc, hb⟩ => fin _ e w' ?_ ⟨he, hb⟩
      exact VR.mk7 h g c cs fr hg hh hc
    · rw [h]
      have b2 : Below w.heap.size w ((w.alloc (.cells #[.map none] 132)).alloc (.cells #[.int .i64 8, .int .i64 t.it, .int .u64 t.ut, .string t.tx, .slice ad t.ks.length cap] 25)) := ((Below.refl _ w).alloc (Nat.le_refl _) _).alloc (by simp) _
      have hsz : ((w.alloc (.cells #[.map none] 132)).alloc (.cells #[.int .i64 8, .int .i64 t.it, .int .u64 t.ut, .string t.tx, .slice ad t.ks.length cap] 25)).heap.size = w.heap.size + 2 := by simp
      have HC := Lib.hid (row_nb W0 n t.ks ih ad cap ((w.alloc (.cells #[.map none] 132)).alloc (.cells #[.int .i64 8, .int .i64 t.it, .int .u64 t.ut, .string t.tx, .slice ad t.ks.length cap] 25)) (hb0.trans (b2.mono hb0.size)) hp1 hall hp2 hk)
      have HF : Hid (∀ (g c : Nat) (w' : World), ((w.alloc (.cells #[.map none] 132)).alloc (.cells #[.int .i64 8, .int .i64 t.it, .int .u64 t.ut, .string t.tx, .slice ad t.ks.length cap] 25)).heap.size ≤ g → g < w'.heap.size → (∀ (j : Nat) (t' : Tr n), t.ks[j]? = some t' → ∃ u, w'.cell? ⟨g, j, none⟩ = some u ∧ VR (fun g => ((w.alloc (.cells #[.map none] 132)).alloc (.cells #[.int .i64 8, .int .i64 t.it, .int .u64 t.ut, .string t.tx, .slice ad t.ks.length cap] 25)).heap.size ≤ g ∧ g < w'.heap.size) w' n u t') → Below ((w.alloc (.cells #[.map none] 132)).alloc (.cells #[.int .i64 8, .int .i64 t.it, .int .u64 t.ut, .string t.tx, .slice ad t.ks.length cap] 25)).heap.size ((w.alloc (.cells #[.map none] 132)).alloc (.cells #[.int .i64 8, .int .i64 t.it, .int .u64 t.ut, .string t.tx, .slice ad t.ks.length cap] 25)) w' → ∃ v, Ending.returned (.iface 149 (.slice (some ⟨g, 0, none⟩) t.ks.length c)) = .returned v ∧ VR (fun g => w.heap.size ≤ g ∧ g < w'.heap.size) w' (n + 1) v t ∧ Below w.heap.size w w') := fun g c w' h1 h2 h3 h4 => by
        refine ⟨_, rfl, ?_, b2.trans (h4.mono (by omega))⟩
        refine VR.mk8 h g c ⟨by omega, h2⟩ fun j t' hj => ?_
        obtain ⟨x, x1, x2⟩ := h3 j t' hj
        exact ⟨x, x1, VR.to (fun q hq => ⟨⟨by have h := hq.1; omega, hq.2⟩, rfl⟩) _ _ _ x2⟩
      clear ih hk hall hp2 fin okp hok hps h hsz
      go_enter Tryz.func86, Tryz.ntmps86
      go_wp2_with fail
      refine HC.out.mono ?_
      rintro e w2 ⟨g, c, rfl, h1, h2, h3, h4⟩
      have HX := Lib.hid (HF.out g c w2 h1 h2 h3 h4)
      clear h1 h2 h3 h4
      go_wp2
      go_ret
      exact HX.out
    · rw [h]
      have b2 : Below w.heap.size w ((w.alloc (.cells #[.map none] 132)).alloc (.cells #[.int .i64 9, .int .i64 t.it, .int .u64 t.ut, .string t.tx, .slice ad t.ks.length cap] 25)) := ((Below.refl _ w).alloc (Nat.le_refl _) _).alloc (by simp) _
      have hsz : ((w.alloc (.cells #[.map none] 132)).alloc (.cells #[.int .i64 9, .int .i64 t.it, .int .u64 t.ut, .string t.tx, .slice ad t.ks.length cap] 25)).heap.size = w.heap.size + 2 := by simp
      have h2 : t.ks.length = 2 := okp.2.1 h
      have HN := Lib.hid (And.intro h h2)
      have h01 : Hid (0 < t.ks.length ∧ 1 < t.ks.length) := ⟨by omega, by omega⟩
      have KP : Hid (∀ (j : Int) (q : Nat) (_ : j = q) (hq : q < t.ks.length) (wx : World), Below ((w.alloc (.cells #[.map none] 132)).alloc (.cells #[.int .i64 9, .int .i64 t.it, .int .u64 t.ut, .string t.tx, .slice ad t.ks.length cap] 25)).heap.size ((w.alloc (.cells #[.map none] 132)).alloc (.cells #[.int .i64 9, .int .i64 t.it, .int .u64 t.ut, .string t.tx, .slice ad t.ks.length cap] 25)) wx → Calls Tryz.prog 99 #[.agg #[.map none], .slice ad t.ks.length cap, .int .i64 j] wx fun e w' => ∃ v, e = .returned v ∧ Hid (VR (fun g => ((w.alloc (.cells #[.map none] 132)).alloc (.cells #[.int .i64 9, .int .i64 t.it, .int .u64 t.ut, .string t.tx, .slice ad t.ks.length cap] 25)).heap.size ≤ g ∧ g < w'.heap.size) w' n v t.ks[q]) ∧ Hid (Below wx.heap.size wx w') ∧ Below ((w.alloc (.cells #[.map none] 132)).alloc (.cells #[.int .i64 9, .int .i64 t.it, .int .u64 t.ut, .string t.tx, .slice ad t.ks.length cap] 25)).heap.size ((w.alloc (.cells #[.map none] 132)).alloc (.cells #[.int .i64 9, .int .i64 t.it, .int .u64 t.ut, .string t.tx, .slice ad t.ks.length cap] 25)) w') := fun j q e hq wx kx => by
        subst e
        have kw : Below W0.heap.size W0 wx := (hb0.trans (b2.mono hb0.size)).trans (kx.mono (by have := hb0.size; omega))
        exact (place_nb W0 n t.ks ih ad cap wx kw hall hp2 hk q hq).mono fun e w' ⟨v, he, vr, hb⟩ => ⟨v, he, VR.to (fun x hx => ⟨⟨Nat.le_trans kx.size hx.1, hx.2⟩, rfl⟩) _ _ _ vr, hb, kx.trans (hb.mono kx.size)⟩
      have dm : C1 ((w.alloc (.cells #[.map none] 132)).alloc (.cells #[.int .i64 9, .int .i64 t.it, .int .u64 t.ut, .string t.tx, .slice ad t.ks.length cap] 25)) w.heap.size 132 (.map none) := (C1.new w 132 _).below (below1 _ _)
      have dd : D5 ((w.alloc (.cells #[.map none] 132)).alloc (.cells #[.int .i64 9, .int .i64 t.it, .int .u64 t.ut, .string t.tx, .slice ad t.ks.length cap] 25)) (w.heap.size + 1) (.int .i64 9) (.int .i64 t.it) (.int .u64 t.ut) (.string t.tx) (.slice ad t.ks.length cap) := by
        have := D5.new (w.alloc (.cells #[.map none] 132)) (.int .i64 9) (.int .i64 t.it) (.int .u64 t.ut) (.string t.tx) (.slice ad t.ks.length cap)
        rwa [World.size_alloc] at this
      have KS : Hid (∀ w' : World, Below ((w.alloc (.cells #[.map none] 132)).alloc (.cells #[.int .i64 9, .int .i64 t.it, .int .u64 t.ut, .string t.tx, .slice ad t.ks.length cap] 25)).heap.size ((w.alloc (.cells #[.map none] 132)).alloc (.cells #[.int .i64 9, .int .i64 t.it, .int .u64 t.ut, .string t.tx, .slice ad t.ks.length cap] 25)) w' → w'.cell? ⟨w.heap.size, 0, none⟩ = some (.map none) ∧ w'.cell? ⟨w.heap.size + 1, 4, none⟩ = some (.slice ad t.ks.length cap)) := fun w' h => ⟨(dm.below h).c, (dd.below h).c.2.2.2.2⟩
      have HF : Hid (∀ (va vb : Value) (wa wb : World), Hid (VR (fun g => ((w.alloc (.cells #[.map none] 132)).alloc (.cells #[.int .i64 9, .int .i64 t.it, .int .u64 t.ut, .string t.tx, .slice ad t.ks.length cap] 25)).heap.size ≤ g ∧ g < wa.heap.size) wa n va (t.ks[0]'h01.out.1)) → Hid (Below wa.heap.size wa wb) → Hid (VR (fun g => ((w.alloc (.cells #[.map none] 132)).alloc (.cells #[.int .i64 9, .int .i64 t.it, .int .u64 t.ut, .string t.tx, .slice ad t.ks.length cap] 25)).heap.size ≤ g ∧ g < wb.heap.size) wb n vb (t.ks[1]'h01.out.2)) → Below ((w.alloc (.cells #[.map none] 132)).alloc (.cells #[.int .i64 9, .int .i64 t.it, .int .u64 t.ut, .string t.tx, .slice ad t.ks.length cap] 25)).heap.size ((w.alloc (.cells #[.map none] 132)).alloc (.cells #[.int .i64 9, .int .i64 t.it, .int .u64 t.ut, .string t.tx, .slice ad t.ks.length cap] 25)) wb → ∃ v, Ending.returned (.iface 152 (.agg #[va, vb])) = .returned v ∧ VR (fun g => w.heap.size ≤ g ∧ g < wb.heap.size) wb (n + 1) v t ∧ Below w.heap.size w wb) := fun va vb wa wb v1 xb v2 kb => by
        obtain ⟨hkd, hl2⟩ := HN.out
        obtain ⟨t0, t1, e2⟩ := list_two hl2
        refine ⟨_, rfl, ?_, b2.trans (kb.mono (by omega))⟩
        have e0 : t.ks[0] = t0 := by simp [e2]
        have e1 : t.ks[1] = t1 := by simp [e2]
        have v1' := v1.out
        have v2' := v2.out
        rw [e0] at v1'
        rw [e1] at v2'
        simp only [VR, hkd]
        simp
        exact ⟨_, _, ⟨rfl, rfl⟩, t0, t1, e2, VR.to (fun q hq => ⟨⟨by have h := hq.1; omega, Nat.lt_of_lt_of_le hq.2 xb.out.size⟩, xb.out.block q hq.2⟩) _ _ _ v1', VR.to (fun q hq => ⟨⟨by have h := hq.1; omega, hq.2⟩, rfl⟩) _ _ _ v2'⟩
      clear ih hk hall hp2 fin okp hok hps h hp1 hb0 htx hlen hcap h2 dm dd b2 hsz
      by_cases hA : nilT n (t.ks[0]'h01.out.1)
      · by_cases hB : nilT n (t.ks[1]'h01.out.2)
        · have KA : Hid (∀ wx : World, Below ((w.alloc (.cells #[.map none] 132)).alloc (.cells #[.int .i64 9, .int .i64 t.it, .int .u64 t.ut, .string t.tx, .slice ad t.ks.length cap] 25)).heap.size ((w.alloc (.cells #[.map none] 132)).alloc (.cells #[.int .i64 9, .int .i64 t.it, .int .u64 t.ut, .string t.tx, .slice ad t.ks.length cap] 25)) wx → Calls Tryz.prog 99 #[.agg #[.map none], .slice ad t.ks.length cap, .int .i64 0] wx fun e w' => e = .returned Value.nilIface ∧ Sx Value.nilIface ∧ Hid (VR (fun g => ((w.alloc (.cells #[.map none] 132)).alloc (.cells #[.int .i64 9, .int .i64 t.it, .int .u64 t.ut, .string t.tx, .slice ad t.ks.length cap] 25)).heap.size ≤ g ∧ g < w'.heap.size) w' n Value.nilIface (t.ks[0]'h01.out.1)) ∧ Hid (Below wx.heap.size wx w') ∧ Below ((w.alloc (.cells #[.map none] 132)).alloc (.cells #[.int .i64 9, .int .i64 t.it, .int .u64 t.ut, .string t.tx, .slice ad t.ks.length cap] 25)).heap.size ((w.alloc (.cells #[.map none] 132)).alloc (.cells #[.int .i64 9, .int .i64 t.it, .int .u64 t.ut, .string t.tx, .slice ad t.ks.length cap] 25)) w') := fun wx kx =>
            (KP.out 0 0 rfl h01.out.1 wx kx).mono fun e w' ⟨v, he, vr, hx, hb⟩ => by obtain rfl := vr_nil vr.out hA; exact ⟨he, vr_any vr.out, vr, hx, hb⟩
          have KB : Hid (∀ wx : World, Below ((w.alloc (.cells #[.map none] 132)).alloc (.cells #[.int .i64 9, .int .i64 t.it, .int .u64 t.ut, .string t.tx, .slice ad t.ks.length cap] 25)).heap.size ((w.alloc (.cells #[.map none] 132)).alloc (.cells #[.int .i64 9, .int .i64 t.it, .int .u64 t.ut, .string t.tx, .slice ad t.ks.length cap] 25)) wx → Calls Tryz.prog 99 #[.agg #[.map none], .slice ad t.ks.length cap, .int .i64 1] wx fun e w' => e = .returned Value.nilIface ∧ Sx Value.nilIface ∧ Hid (VR (fun g => ((w.alloc (.cells #[.map none] 132)).alloc (.cells #[.int .i64 9, .int .i64 t.it, .int .u64 t.ut, .string t.tx, .slice ad t.ks.length cap] 25)).heap.size ≤ g ∧ g < w'.heap.size) w' n Value.nilIface (t.ks[1]'h01.out.2)) ∧ Hid (Below wx.heap.size wx w') ∧ Below ((w.alloc (.cells #[.map none] 132)).alloc (.cells #[.int .i64 9, .int .i64 t.it, .int .u64 t.ut, .string t.tx, .slice ad t.ks.length cap] 25)).heap.size ((w.alloc (.cells #[.map none] 132)).alloc (.cells #[.int .i64 9, .int .i64 t.it, .int .u64 t.ut, .string t.tx, .slice ad t.ks.length cap] 25)) w') := fun wx kx =>
            (KP.out 1 1 rfl h01.out.2 wx kx).mono fun e w' ⟨v, he, vr, hx, hb⟩ => by obtain rfl := vr_nil vr.out hB; exact ⟨he, vr_any vr.out, vr, hx, hb⟩
          clear KP hA hB
          go_enter Tryz.func86, Tryz.ntmps86
          go_wp2_with fail
          go_region_held3 (fun w' => w'.cell? ⟨w.heap.size, 0, none⟩ = some (.map none) ∧ w'.cell? ⟨w.heap.size + 1, 4, none⟩ = some (.slice ad t.ks.length cap)) (first | (refine KS.out _ ?_; with_reducible assumption) | exact KS.out _ (Below.drew (Below.refl _ _))) (first | (go_at_call 99; have hs0 := ‹Sx _›; refine (KB.out _ (by first | with_reducible assumption | exact Below.drew (Below.refl _ _))).mono ?_; rintro e wb ⟨rfl, sb, VB, xb, kb⟩) | (go_at_call 99; refine (KA.out _ (by first | with_reducible assumption | exact Below.drew (Below.refl _ _))).mono ?_; rintro e wa ⟨rfl, sa, VA, xa, ka⟩))
          all_goals go_wp2
          all_goals go_ret
          all_goals exact HF.out .nilIface .nilIface wa _ VA xb VB kb
        · have KA : Hid (∀ wx : World, Below ((w.alloc (.cells #[.map none] 132)).alloc (.cells #[.int .i64 9, .int .i64 t.it, .int .u64 t.ut, .string t.tx, .slice ad t.ks.length cap] 25)).heap.size ((w.alloc (.cells #[.map none] 132)).alloc (.cells #[.int .i64 9, .int .i64 t.it, .int .u64 t.ut, .string t.tx, .slice ad t.ks.length cap] 25)) wx → Calls Tryz.prog 99 #[.agg #[.map none], .slice ad t.ks.length cap, .int .i64 0] wx fun e w' => e = .returned Value.nilIface ∧ Sx Value.nilIface ∧ Hid (VR (fun g => ((w.alloc (.cells #[.map none] 132)).alloc (.cells #[.int .i64 9, .int .i64 t.it, .int .u64 t.ut, .string t.tx, .slice ad t.ks.length cap] 25)).heap.size ≤ g ∧ g < w'.heap.size) w' n Value.nilIface (t.ks[0]'h01.out.1)) ∧ Hid (Below wx.heap.size wx w') ∧ Below ((w.alloc (.cells #[.map none] 132)).alloc (.cells #[.int .i64 9, .int .i64 t.it, .int .u64 t.ut, .string t.tx, .slice ad t.ks.length cap] 25)).heap.size ((w.alloc (.cells #[.map none] 132)).alloc (.cells #[.int .i64 9, .int .i64 t.it, .int .u64 t.ut, .string t.tx, .slice ad t.ks.length cap] 25)) w') := fun wx kx =>
            (KP.out 0 0 rfl h01.out.1 wx kx).mono fun e w' ⟨v, he, vr, hx, hb⟩ => by obtain rfl := vr_nil vr.out hA; exact ⟨he, vr_any vr.out, vr, hx, hb⟩
          have KB : Hid (∀ wx : World, Below ((w.alloc (.cells #[.map none] 132)).alloc (.cells #[.int .i64 9, .int .i64 t.it, .int .u64 t.ut, .string t.tx, .slice ad t.ks.length cap] 25)).heap.size ((w.alloc (.cells #[.map none] 132)).alloc (.cells #[.int .i64 9, .int .i64 t.it, .int .u64 t.ut, .string t.tx, .slice ad t.ks.length cap] 25)) wx → Calls Tryz.prog 99 #[.agg #[.map none], .slice ad t.ks.length cap, .int .i64 1] wx fun e w' => ∃ T z, e = .returned (Value.iface T z) ∧ Sx (Value.iface T z) ∧ Hid (VR (fun g => ((w.alloc (.cells #[.map none] 132)).alloc (.cells #[.int .i64 9, .int .i64 t.it, .int .u64 t.ut, .string t.tx, .slice ad t.ks.length cap] 25)).heap.size ≤ g ∧ g < w'.heap.size) w' n (Value.iface T z) (t.ks[1]'h01.out.2)) ∧ Hid (Below wx.heap.size wx w') ∧ Below ((w.alloc (.cells #[.map none] 132)).alloc (.cells #[.int .i64 9, .int .i64 t.it, .int .u64 t.ut, .string t.tx, .slice ad t.ks.length cap] 25)).heap.size ((w.alloc (.cells #[.map none] 132)).alloc (.cells #[.int .i64 9, .int .i64 t.it, .int .u64 t.ut, .string t.tx, .slice ad t.ks.length cap] 25)) w') := fun wx kx =>
            (KP.out 1 1 rfl h01.out.2 wx kx).mono fun e w' ⟨v, he, vr, hx, hb⟩ => by obtain ⟨T, z, rfl⟩ := vr_val vr.out hB; exact ⟨T, z, he, vr_any vr.out, vr, hx, hb⟩
          clear KP hA hB
          go_enter Tryz.func86, Tryz.ntmps86
          go_wp2_with fail
          go_region_held3 (fun w' => w'.cell? ⟨w.heap.size, 0, none⟩ = some (.map none) ∧ w'.cell? ⟨w.heap.size + 1, 4, none⟩ = some (.slice ad t.ks.length cap)) (first | (refine KS.out _ ?_; with_reducible assumption) | exact KS.out _ (Below.drew (Below.refl _ _))) (first | (go_at_call 99; have hs0 := ‹Sx _›; refine (KB.out _ (by first | with_reducible assumption | exact Below.drew (Below.refl _ _))).mono ?_; rintro e wb ⟨Tb, zb, rfl, sb, VB, xb, kb⟩) | (go_at_call 99; refine (KA.out _ (by first | with_reducible assumption | exact Below.drew (Below.refl _ _))).mono ?_; rintro e wa ⟨rfl, sa, VA, xa, ka⟩))
          all_goals go_wp2
          all_goals go_ret
          all_goals exact HF.out .nilIface (.iface Tb zb) wa _ VA xb VB kb
      · by_cases hB : nilT n (t.ks[1]'h01.out.2)
        · have KA : Hid (∀ wx : World, Below ((w.alloc (.cells #[.map none] 132)).alloc (.cells #[.int .i64 9, .int .i64 t.it, .int .u64 t.ut, .string t.tx, .slice ad t.ks.length cap] 25)).heap.size ((w.alloc (.cells #[.map none] 132)).alloc (.cells #[.int .i64 9, .int .i64 t.it, .int .u64 t.ut, .string t.tx, .slice ad t.ks.length cap] 25)) wx → Calls Tryz.prog 99 #[.agg #[.map none], .slice ad t.ks.length cap, .int .i64 0] wx fun e w' => ∃ T z, e = .returned (Value.iface T z) ∧ Sx (Value.iface T z) ∧ Hid (VR (fun g => ((w.alloc (.cells #[.map none] 132)).alloc (.cells #[.int .i64 9, .int .i64 t.it, .int .u64 t.ut, .string t.tx, .slice ad t.ks.length cap] 25)).heap.size ≤ g ∧ g < w'.heap.size) w' n (Value.iface T z) (t.ks[0]'h01.out.1)) ∧ Hid (Below wx.heap.size wx w') ∧ Below ((w.alloc (.cells #[.map none] 132)).alloc (.cells #[.int .i64 9, .int .i64 t.it, .int .u64 t.ut, .string t.tx, .slice ad t.ks.length cap] 25)).heap.size ((w.alloc (.cells #[.map none] 132)).alloc (.cells #[.int .i64 9, .int .i64 t.it, .int .u64 t.ut, .string t.tx, .slice ad t.ks.length cap] 25)) w') := fun wx kx =>
            (KP.out 0 0 rfl h01.out.1 wx kx).mono fun e w' ⟨v, he, vr, hx, hb⟩ => by obtain ⟨T, z, rfl⟩ := vr_val vr.out hA; exact ⟨T, z, he, vr_any vr.out, vr, hx, hb⟩
          have KB : Hid (∀ wx : World, Below ((w.alloc (.cells #[.map none] 132)).alloc (.cells #[.int .i64 9, .int .i64 t.it, .int .u64 t.ut, .string t.tx, .slice ad t.ks.length cap] 25)).heap.size ((w.alloc (.cells #[.map none] 132)).alloc (.cells #[.int .i64 9, .int .i64 t.it, .int .u64 t.ut, .string t.tx, .slice ad t.ks.length cap] 25)) wx → Calls Tryz.prog 99 #[.agg #[.map none], .slice ad t.ks.length cap, .int .i64 1] wx fun e w' => e = .returned Value.nilIface ∧ Sx Value.nilIface ∧ Hid (VR (fun g => ((w.alloc (.cells #[.map none] 132)).alloc (.cells #[.int .i64 9, .int .i64 t.it, .int .u64 t.ut, .string t.tx, .slice ad t.ks.length cap] 25)).heap.size ≤ g ∧ g < w'.heap.size) w' n Value.nilIface (t.ks[1]'h01.out.2)) ∧ Hid (Below wx.heap.size wx w') ∧ Below ((w.alloc (.cells #[.map none] 132)).alloc (.cells #[.int .i64 9, .int .i64 t.it, .int .u64 t.ut, .string t.tx, .slice ad t.ks.length cap] 25)).heap.size ((w.alloc (.cells #[.map none] 132)).alloc (.cells #[.int .i64 9, .int .i64 t.it, .int .u64 t.ut, .string t.tx, .slice ad t.ks.length cap] 25)) w') := fun wx kx =>
            (KP.out 1 1 rfl h01.out.2 wx kx).mono fun e w' ⟨v, he, vr, hx, hb⟩ => by obtain rfl := vr_nil vr.out hB; exact ⟨he, vr_any vr.out, vr, hx, hb⟩
          clear KP hA hB
          go_enter Tryz.func86, Tryz.ntmps86
          go_wp2_with fail
          go_region_held3 (fun w' => w'.cell? ⟨w.heap.size, 0, none⟩ = some (.map none) ∧ w'.cell? ⟨w.heap.size + 1, 4, none⟩ = some (.slice ad t.ks.length cap)) (first | (refine KS.out _ ?_; with_reducible assumption) | exact KS.out _ (Below.drew (Below.refl _ _))) (first | (go_at_call 99; have hs0 := ‹Sx _›; refine (KB.out _ (by first | with_reducible assumption | exact Below.drew (Below.refl _ _))).mono ?_; rintro e wb ⟨rfl, sb, VB, xb, kb⟩) | (go_at_call 99; refine (KA.out _ (by first | with_reducible assumption | exact Below.drew (Below.refl _ _))).mono ?_; rintro e wa ⟨Ta, za, rfl, sa, VA, xa, ka⟩))
          all_goals go_wp2
          all_goals go_ret
          all_goals exact HF.out (.iface Ta za) .nilIface wa _ VA xb VB kb
        · have KA : Hid (∀ wx : World, Below ((w.alloc (.cells #[.map none] 132)).alloc (.cells #[.int .i64 9, .int .i64 t.it, .int .u64 t.ut, .string t.tx, .slice ad t.ks.length cap] 25)).heap.size ((w.alloc (.cells #[.map none] 132)).alloc (.cells #[.int .i64 9, .int .i64 t.it, .int .u64 t.ut, .string t.tx, .slice ad t.ks.length cap] 25)) wx → Calls Tryz.prog 99 #[.agg #[.map none], .slice ad t.ks.length cap, .int .i64 0] wx fun e w' => ∃ T z, e = .returned (Value.iface T z) ∧ Sx (Value.iface T z) ∧ Hid (VR (fun g => ((w.alloc (.cells #[.map none] 132)).alloc (.cells #[.int .i64 9, .int .i64 t.it, .int .u64 t.ut, .string t.tx, .slice ad t.ks.length cap] 25)).heap.size ≤ g ∧ g < w'.heap.size) w' n (Value.iface T z) (t.ks[0]'h01.out.1)) ∧ Hid (Below wx.heap.size wx w') ∧ Below ((w.alloc (.cells #[.map none] 132)).alloc (.cells #[.int .i64 9, .int .i64 t.it, .int .u64 t.ut, .string t.tx, .slice ad t.ks.length cap] 25)).heap.size ((w.alloc (.cells #[.map none] 132)).alloc (.cells #[.int .i64 9, .int .i64 t.it, .int .u64 t.ut, .string t.tx, .slice ad t.ks.length cap] 25)) w') := fun wx kx =>
            (KP.out 0 0 rfl h01.out.1 wx kx).mono fun e w' ⟨v, he, vr, hx, hb⟩ => by obtain ⟨T, z, rfl⟩ := vr_val vr.out hA; exact ⟨T, z, he, vr_any vr.out, vr, hx, hb⟩
          have KB : Hid (∀ wx : World, Below ((w.alloc (.cells #[.map none] 132)).alloc (.cells #[.int .i64 9, .int .i64 t.it, .int .u64 t.ut, .string t.tx, .slice ad t.ks.length cap] 25)).heap.size ((w.alloc (.cells #[.map none] 132)).alloc (.cells #[.int .i64 9, .int .i64 t.it, .int .u64 t.ut, .string t.tx, .slice ad t.ks.length cap] 25)) wx → Calls Tryz.prog 99 #[.agg #[.map none], .slice ad t.ks.length cap, .int .i64 1] wx fun e w' => ∃ T z, e = .returned (Value.iface T z) ∧ Sx (Value.iface T z) ∧ Hid (VR (fun g => ((w.alloc (.cells #[.map none] 132)).alloc (.cells #[.int .i64 9, .int .i64 t.it, .int .u64 t.ut, .string t.tx, .slice ad t.ks.length cap] 25)).heap.size ≤ g ∧ g < w'.heap.size) w' n (Value.iface T z) (t.ks[1]'h01.out.2)) ∧ Hid (Below wx.heap.size wx w') ∧ Below ((w.alloc (.cells #[.map none] 132)).alloc (.cells #[.int .i64 9, .int .i64 t.it, .int .u64 t.ut, .string t.tx, .slice ad t.ks.length cap] 25)).heap.size ((w.alloc (.cells #[.map none] 132)).alloc (.cells #[.int .i64 9, .int .i64 t.it, .int .u64 t.ut, .string t.tx, .slice ad t.ks.length cap] 25)) w') := fun wx kx =>
            (KP.out 1 1 rfl h01.out.2 wx kx).mono fun e w' ⟨v, he, vr, hx, hb⟩ => by obtain ⟨T, z, rfl⟩ := vr_val vr.out hB; exact ⟨T, z, he, vr_any vr.out, vr, hx, hb⟩
          clear KP hA hB
          go_enter Tryz.func86, Tryz.ntmps86
          go_wp2_with fail
          go_region_held3 (fun w' => w'.cell? ⟨w.heap.size, 0, none⟩ = some (.map none) ∧ w'.cell? ⟨w.heap.size + 1, 4, none⟩ = some (.slice ad t.ks.length cap)) (first | (refine KS.out _ ?_; with_reducible assumption) | exact KS.out _ (Below.drew (Below.refl _ _))) (first | (go_at_call 99; have hs0 := ‹Sx _›; refine (KB.out _ (by first | with_reducible assumption | exact Below.drew (Below.refl _ _))).mono ?_; rintro e wb ⟨Tb, zb, rfl, sb, VB, xb, kb⟩) | (go_at_call 99; refine (KA.out _ (by first | with_reducible assumption | exact Below.drew (Below.refl _ _))).mono ?_; rintro e wa ⟨Ta, za, rfl, sa, VA, xa, ka⟩))
          all_goals go_wp2
          all_goals go_ret
          all_goals exact HF.out (.iface Ta za) (.iface Tb zb) wa _ VA xb VB kb
    · rw [h]
      exact (shLeaf10 none t.it t.ut t.tx ad t.ks.length cap w).mono fun e w' hw => fin _ e w' (by simp [VR, h]) hw
    · rw [h]
      have b2 : Below w.heap.size w ((w.alloc (.cells #[.map none] 132)).alloc (.cells #[.int .i64 11, .int .i64 t.it, .int .u64 t.ut, .string t.tx, .slice ad t.ks.length cap] 25)) := ((Below.refl _ w).alloc (Nat.le_refl _) _).alloc (by simp) _
      have hsz : ((w.alloc (.cells #[.map none] 132)).alloc (.cells #[.int .i64 11, .int .i64 t.it, .int .u64 t.ut, .string t.tx, .slice ad t.ks.length cap] 25)).heap.size = w.heap.size + 2 := by simp
      have hl1 : t.ks.length = 1 := by
        have := hok
        unfold Tr.ok at this
        rw [h] at this
        simp [okB] at this
        exact this.2.2.2
      obtain ⟨t0, et0⟩ : ∃ t0, t.ks = [t0] := List.length_eq_one_iff.1 hl1
      have h01 : Hid (0 < t.ks.length) := by show 0 < t.ks.length; omega
      have HC := Lib.hid (pointer_nb W0 n t.ks ih 11 t.it t.ut t.tx ad cap ((w.alloc (.cells #[.map none] 132)).alloc (.cells #[.int .i64 11, .int .i64 t.it, .int .u64 t.ut, .string t.tx, .slice ad t.ks.length cap] 25)) (hb0.trans (b2.mono hb0.size)) hall hp2 hk h01.out)
      have HF : Hid (∀ (b : Nat) (v : Value) (w' : World), ((w.alloc (.cells #[.map none] 132)).alloc (.cells #[.int .i64 11, .int .i64 t.it, .int .u64 t.ut, .string t.tx, .slice ad t.ks.length cap] 25)).heap.size ≤ b → b < w'.heap.size → w'.heap[b]? = some (.cells #[.int .i64 t.it, v] 176 (0, 0)) → VR (fun g => ((w.alloc (.cells #[.map none] 132)).alloc (.cells #[.int .i64 11, .int .i64 t.it, .int .u64 t.ut, .string t.tx, .slice ad t.ks.length cap] 25)).heap.size ≤ g ∧ g < w'.heap.size) w' n v (t.ks[0]'h01.out) → Below ((w.alloc (.cells #[.map none] 132)).alloc (.cells #[.int .i64 11, .int .i64 t.it, .int .u64 t.ut, .string t.tx, .slice ad t.ks.length cap] 25)).heap.size ((w.alloc (.cells #[.map none] 132)).alloc (.cells #[.int .i64 11, .int .i64 t.it, .int .u64 t.ut, .string t.tx, .slice ad t.ks.length cap] 25)) w' → ∃ v, Ending.returned (.iface 155 (.pointer (some ⟨b, 0, none⟩))) = .returned v ∧ VR (fun g => w.heap.size ≤ g ∧ g < w'.heap.size) w' (n + 1) v t ∧ Below w.heap.size w w') := fun b v w' h1 h2 h3 h4 h5 => by
        refine ⟨_, rfl, ?_, b2.trans (h5.mono (by omega))⟩
        have e0 : t.ks[0]'h01.out = t0 := by simp [et0]
        rw [e0] at h4
        exact VR.mk11 h b v t0 ⟨by omega, h2⟩ et0 h3 (VR.to (fun q hq => ⟨⟨by have h := hq.1; omega, hq.2⟩, rfl⟩) _ _ _ h4)
      have HN := Lib.hid hl1
      clear ih hk hall hp2 fin okp hok hps h hsz et0 hl1 hp1
      go_enter Tryz.func86, Tryz.ntmps86
      go_wp2_with fail
      refine HC.out.mono ?_
      rintro e w2 ⟨b, v, rfl, h1, h2, h3, h4, h5⟩
      have HX := Lib.hid (HF.out b v w2 h1 h2 h3 h4 h5)
      clear h1 h2 h3 h4 h5
      go_wp2
      go_ret
      exact HX.out
    · rw [h]
      exact (shLeaf12 none t.it t.ut t.tx ad t.ks.length cap w).mono fun e w' hw => fin _ e w' (by simp [VR, h]) hw
    · rw [h]
      exact (shLeaf13 none t.it t.ut t.tx ad t.ks.length cap w).mono fun e w' hw => fin _ e w' (by simp [VR, h]) hw
end Go.Proofs.YtajagjcfmaggiaaGreatDoor.Dt
