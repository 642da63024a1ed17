/- The package's value of a valid value's tree, without boxes by number: each place with memory of its own; the conditions: the tree in memory and valid, of 4096 parts at most. -/
import Derived.Test.YtajagjcfmaggiaaGreatDoorKBac
import Derived.Test.YtajagjcfmaggiaaGreatDoorKBab
namespace Go.Proofs.YtajagjcfmaggiaaGreatDoor.Dt
open Go.RowKit
set_option maxRecDepth 100000 in
set_option maxHeartbeats 1000000 in
theorem nbLeaf7 (i u : Int) (s : ByteArray) (ad : Option Addr) (len cap : Nat) (w : World) :
    Calls Tryz.prog 86 #[.agg #[.map none], .agg #[.int .i64 7, .int .i64 i, .int .u64 u, .string s, .slice ad len cap]] w fun e w' => ∃ g c cs fr, e = .returned (.iface 147 (.slice (some ⟨g, 0, none⟩) s.size c)) ∧ (w.heap.size ≤ g ∧ g < w'.heap.size) ∧ w'.heap[g]? = some (.cells cs 5 fr) ∧ cs = bytesRow s c ∧ Below w.heap.size w w' := by
  have hcv : ∀ w : World, (convert 9 147 (.string s)).run Tryz.prog w = _ := fun w => run_bytes_of_string (P := Tryz.prog) w 9 147 5 s Tryz.underlying9 Tryz.underlying147 Tryz.underlying5
  go_enter Tryz.func86, Tryz.ntmps86
  go_wp2
  go_ret
  have hN := heap_alloc_new ((w.alloc (.cells #[.map none] 132)).alloc (.cells #[.int .i64 7, .int .i64 i, .int .u64 u, .string s, .slice ad len cap] 25)) (.cells (bytesRow s (grownCap ((w.alloc (.cells #[.map none] 132)).alloc (.cells #[.int .i64 7, .int .i64 i, .int .u64 u, .string s, .slice ad len cap] 25)) s.size 0 5)) 5 ((bytesRow s (grownCap ((w.alloc (.cells #[.map none] 132)).alloc (.cells #[.int .i64 7, .int .i64 i, .int .u64 u, .string s, .slice ad len cap] 25)) s.size 0 5)).size, (bytesRow s (grownCap ((w.alloc (.cells #[.map none] 132)).alloc (.cells #[.int .i64 7, .int .i64 i, .int .u64 u, .string s, .slice ad len cap] 25)) s.size 0 5)).size + 1))
  rw [World.size_alloc, World.size_alloc] at hN
  refine ⟨w.heap.size + 1 + 1, _, bytesRow s (grownCap ((w.alloc (.cells #[.map none] 132)).alloc (.cells #[.int .i64 7, .int .i64 i, .int .u64 u, .string s, .slice ad len cap] 25)) s.size 0 5), ((bytesRow s (grownCap ((w.alloc (.cells #[.map none] 132)).alloc (.cells #[.int .i64 7, .int .i64 i, .int .u64 u, .string s, .slice ad len cap] 25)) s.size 0 5)).size, (bytesRow s (grownCap ((w.alloc (.cells #[.map none] 132)).alloc (.cells #[.int .i64 7, .int .i64 i, .int .u64 u, .string s, .slice ad len cap] 25)) s.size 0 5)).size + 1), rfl, ⟨by omega, ?_⟩, hN, rfl, ?_⟩
  · exact (Array.getElem?_eq_some_iff.1 hN).1
  · exact (((Below.refl _ w).alloc (Nat.le_refl _) _).alloc (by simp) _).drew.alloc (by simp [World.drew]; omega) _

theorem VR.mk7 {F : Nat → Prop} {w : World} {n : Nat} {t : Tr (n + 1)} (k : t.kd = 7) (g c : Nat) (cs : Array Value) (fr : Nat × Nat) (hF : F g) (hh : w.heap[g]? = some (.cells cs 5 fr)) (hc : cs = bytesRow t.tx c) : VR F w (n + 1) (.iface 147 (.slice (some ⟨g, 0, none⟩) t.tx.size c)) t := by
  simp only [VR]
  exact .inr (.inr (.inr (.inr (.inr (.inr (.inr (.inl ⟨k, g, c, cs, fr, rfl, hF, hh, hc⟩)))))))
theorem VR.mk8 {F : Nat → Prop} {w : World} {n : Nat} {t : Tr (n + 1)} (k : t.kd = 8) (g c : Nat) (hF : F g) (h : ∀ (j : Nat) (t' : Tr n), t.ks[j]? = some t' → ∃ u, w.cell? ⟨g, j, none⟩ = some u ∧ VR F w n u t') : VR F w (n + 1) (.iface 149 (.slice (some ⟨g, 0, none⟩) t.ks.length c)) t := by
  simp only [VR]
  exact .inr (.inr (.inr (.inr (.inr (.inr (.inr (.inr (.inl ⟨k, some ⟨g, 0, none⟩, c, rfl, .inr ⟨g, rfl, hF, h⟩⟩))))))))
theorem VR.mk11 {F : Nat → Prop} {w : World} {n : Nat} {t : Tr (n + 1)} (k : t.kd = 11) (b : Nat) (u : Value) (t0 : Tr n) (hF : F b) (e : t.ks = [t0]) (hh : w.heap[b]? = some (.cells #[.int .i64 t.it, u] 176 (0, 0))) (h : VR F w n u t0) : VR F w (n + 1) (.iface 155 (.pointer (some ⟨b, 0, none⟩))) t := by
  simp only [VR]
  exact .inr (.inr (.inr (.inr (.inr (.inr (.inr (.inr (.inr (.inr (.inr (.inl ⟨k, b, u, t0, rfl, hF, e, hh, h⟩)))))))))))

set_option maxRecDepth 100000 in
set_option maxHeartbeats 2000000 in
theorem value_nb (W0 : World) : ∀ (m : Nat) (t : Tr m) (v0 v1 v2 v3 v4 : Value) (w : World), rgt m t = true → (pts m t).1 ≤ 4096 → Rep W0 m [v0, v1, v2, v3, v4] t → Below W0.heap.size W0 w →
      Calls Tryz.prog 86 #[.agg #[.map none], .agg #[v0, v1, v2, v3, v4]] w fun e w' => ∃ v, e = .returned v ∧ VR (fun g => w.heap.size ≤ g ∧ g < w'.heap.size) w' m v t ∧ Below w.heap.size w w' := by
  intro m
  induction m with
  | zero => intro t; exact t.elim
  | succ n ih =>
    intro t v0 v1 v2 v3 v4 w hrg hps hrep hb0
    obtain ⟨ad, cap, e, htx, hlen, hcap, hk⟩ := hrep
    simp only [List.cons.injEq, and_true] at e
    obtain ⟨rfl, rfl, rfl, rfl, rfl⟩ := e
    obtain ⟨hp1, hp2⟩ := pts_kids hps
    simp only [rgt, Bool.and_eq_true] at hrg
    obtain ⟨hok, hall⟩ := hrg
    have okp := ok_plain hok
    have fin : ∀ (v : Value) (e : Ending) (w' : World), VR (fun g => w.heap.size ≤ g ∧ g < w'.heap.size) w' (n + 1) v t → e = .returned v ∧ Below w.heap.size w w' → ∃ v, e = .returned v ∧ VR (fun g => w.heap.size ≤ g ∧ g < w'.heap.size) w' (n + 1) v t ∧ Below w.heap.size w w' := fun v e w' hv hw => ⟨v, hw.1, hv, hw.2⟩
    obtain h | h | h | h | h | h | h | h | h | h | h | h | h | h : t.kd = 0 ∨ t.kd = 1 ∨ t.kd = 2 ∨ t.kd = 3 ∨ t.kd = 4 ∨ t.kd = 5 ∨ t.kd = 6 ∨ t.kd = 7 ∨ t.kd = 8 ∨ t.kd = 9 ∨ t.kd = 10 ∨ t.kd = 11 ∨ t.kd = 12 ∨ t.kd = 13 := by omega
    · rw [h]
      exact (shLeaf0 none t.it t.ut t.tx ad t.ks.length cap w).mono fun e w' hw => fin _ e w' (by simp [VR, h]) hw
    · rw [h]
      exact (shLeaf1 none t.it t.ut t.tx ad t.ks.length cap w).mono fun e w' hw => fin _ e w' (by simp [VR, h]) hw
    · rw [h]
      exact (shLeaf2 none t.it t.ut t.tx ad t.ks.length cap w).mono fun e w' hw => fin _ e w' (by simp [VR, h]) hw
    · rw [h]
      exact (shLeaf3 none t.it t.ut t.tx ad t.ks.length cap w).mono fun e w' hw => fin _ e w' (by simp [VR, h]) hw
    · rw [h]
      exact (shLeaf4 none t.it t.ut t.tx ad t.ks.length cap w).mono fun e w' hw => fin _ e w' (by simp [VR, h]) hw
    · rw [h]
      exact (shLeaf5 none t.it t.ut t.tx ad t.ks.length cap w).mono fun e w' hw => fin _ e w' (by simp [VR, h]) hw
    · rw [h]
      exact (shLeaf6 none t.it t.ut t.tx ad t.ks.length cap w).mono fun e w' hw => fin _ e w' (by simp [VR, h]) hw
    · rw [h]
      refine (nbLeaf7 t.it t.ut t.tx ad t.ks.length cap w).mono fun e w' ⟨g, c, cs, fr, he, hg, hh, hc, hb⟩ => fin _ e w' ?_ ⟨he, hb⟩
      exact VR.mk7 h g c cs fr hg hh hc
    · rw [h]
      have b2 : Below w.heap.size w ((w.alloc (.cells #[.map none] 132)).alloc (.cells #[.int .i64 8, .int .i64 t.it, .int .u64 t.ut, .string t.tx, .slice ad t.ks.length cap] 25)) := ((Below.refl _ w).alloc (Nat.le_refl _) _).alloc (by simp) _
      have hsz : ((w.alloc (.cells #[.map none] 132)).alloc (.cells #[.int .i64 8, .int .i64 t.it, .int .u64 t.ut, .string t.tx, .slice ad t.ks.length cap] 25)).heap.size = w.heap.size + 2 := by simp
      have HC := Lib.hid (row_nb W0 n t.ks ih ad cap ((w.alloc (.cells #[.map none] 132)).alloc (.cells #[.int .i64 8, .int .i64 t.it, .int .u64 t.ut, .string t.tx, .slice ad t.ks.length cap] 25)) (hb0.trans (b2.mono hb0.size)) hp1 hall hp2 hk)
      have HF : Hid (∀ (g c : Nat) (w' : World), ((w.alloc (.cells #[.map none] 132)).alloc (.cells #[.int .i64 8, .int .i64 t.it, .int .u64 t.ut, .string t.tx, .slice ad t.ks.length cap] 25)).heap.size ≤ g → g < w'.heap.size → (∀ (j : Nat) (t' : Tr n), t.ks[j]? = some t' → ∃ u, w'.cell? ⟨g, j, none⟩ = some u ∧ VR (fun g => ((w.alloc (.cells #[.map none] 132)).alloc (.cells #[.int .i64 8, .int .i64 t.it, .int .u64 t.ut, .string t.tx, .slice ad t.ks.length cap] 25)).heap.size ≤ g ∧ g < w'.heap.size) w' n u t') → Below ((w.alloc (.cells #[.map none] 132)).alloc (.cells #[.int .i64 8, .int .i64 t.it, .int .u64 t.ut, .string t.tx, .slice ad t.ks.length cap] 25)).heap.size ((w.alloc (.cells #[.map none] 132)).alloc (.cells #[.int .i64 8, .int .i64 t.it, .int .u64 t.ut, .string t.tx, .slice ad t.ks.length cap] 25)) w' → ∃ v, Ending.returned (.iface 149 (.slice (some ⟨g, 0, none⟩) t.ks.length c)) = .returned v ∧ VR (fun g => w.heap.size ≤ g ∧ g < w'.heap.size) w' (n + 1) v t ∧ Below w.heap.size w w') := fun g c w' h1 h2 h3 h4 => by
        refine ⟨_, rfl, ?_, b2.trans (h4.mono (by omega))⟩
        refine VR.mk8 h g c ⟨by omega, h2⟩ fun j t' hj => ?_
        obtain ⟨x, x1, x2⟩ := h3 j t' hj
        exact ⟨x, x1, VR.to (fun q hq => ⟨⟨by have h := hq.1; omega, hq.2⟩, rfl⟩) _ _ _ x2⟩
      clear ih hk hall hp2 fin okp hok hps h hsz
      go_enter Tryz.func86, Tryz.ntmps86
      go_wp2_with fail
      refine HC.out.mono ?_
      rintro e w2 ⟨g, c, rfl, h1, h2, h3, h4⟩
      have HX := Lib.hid (HF.out g c w2 h1 h2 h3 h4)
      clear h1 h2 h3 h4
      go_wp2
      go_ret
      exact HX.out
    · rw [h]
      have b2 : Below w.heap.size w ((w.alloc (.cells #[.map none] 132)).alloc (.cells #[.int .i64 9, .int .i64 t.it, .int .u64 t.ut, .string t.tx, .slice ad t.ks.length cap] 25)) := ((Below.refl _ w).alloc (Nat.le_refl _) _).alloc (by simp) _
      have hsz : ((w.alloc (.cells #[.map none] 132)).alloc (.cells #[.int .i64 9, .int .i64 t.it, .int .u64 t.ut, .string t.tx, .slice ad t.ks.length cap] 25)).heap.size = w.heap.size + 2 := by simp
      have h2 : t.ks.length = 2 := okp.2.1 h
      have HN := Lib.hid (And.intro h h2)
      have h01 : Hid (0 < t.ks.length ∧ 1 < t.ks.length) := ⟨by omega, by omega⟩
      have KP : Hid (∀ (j : Int) (q : Nat) (_ : j = q) (hq : q < t.ks.length) (wx : World), Below ((w.alloc (.cells #[.map none] 132)).alloc (.cells #[.int .i64 9, .int .i64 t.it, .int .u64 t.ut, .string t.tx, .slice ad t.ks.length cap] 25)).heap.size ((w.alloc (.cells #[.map none] 132)).alloc (.cells #[.int .i64 9, .int .i64 t.it, .int .u64 t.ut, .string t.tx, .slice ad t.ks.length cap] 25)) wx → Calls Tryz.prog 99 #[.agg #[.map none], .slice ad t.ks.length cap, .int .i64 j] wx fun e w' => ∃ v, e = .returned v ∧ Hid (VR (fun g => ((w.alloc (.cells #[.map none] 132)).alloc (.cells #[.int .i64 9, .int .i64 t.it, .int .u64 t.ut, .string t.tx, .slice ad t.ks.length cap] 25)).heap.size ≤ g ∧ g < w'.heap.size) w' n v t.ks[q]) ∧ Hid (Below wx.heap.size wx w') ∧ Below ((w.alloc (.cells #[.map none] 132)).alloc (.cells #[.int .i64 9, .int .i64 t.it, .int .u64 t.ut, .string t.tx, .slice ad t.ks.length cap] 25)).heap.size ((w.alloc (.cells #[.map none] 132)).alloc (.cells #[.int .i64 9, .int .i64 t.it, .int .u64 t.ut, .string t.tx, .slice ad t.ks.length cap] 25)) w') := fun j q e hq wx kx => by
        subst e
        have kw : Below W0.heap.size W0 wx := (hb0.trans (b2.mono hb0.size)).trans (kx.mono (by have := hb0.size; omega))
        exact (place_nb W0 n t.ks ih ad cap wx kw hall hp2 hk q hq).mono fun e w' ⟨v, he, vr, hb⟩ => ⟨v, he, VR.to (fun x hx => ⟨⟨Nat.le_trans kx.size hx.1, hx.2⟩, rfl⟩) _ _ _ vr, hb, kx.trans (hb.mono kx.size)⟩
      have dm : C1 ((w.alloc (.cells #[.map none] 132)).alloc (.cells #[.int .i64 9, .int .i64 t.it, .int .u64 t.ut, .string t.tx, .slice ad t.ks.length cap] 25)) w.heap.size 132 (.map none) := (C1.new w 132 _).below (below1 _ _)
      have dd : D5 ((w.alloc (.cells #[.map none] 132)).alloc (.cells #[.int .i64 9, .int .i64 t.it, .int .u64 t.ut, .string t.tx, .slice ad t.ks.length cap] 25)) (w.heap.size + 1) (.int .i64 9) (.int .i64 t.it) (.int .u64 t.ut) (.string t.tx) (.slice ad t.ks.length cap) := by
        have := D5.new (w.alloc (.cells #[.map none] 132)) (.int .i64 9) (.int .i64 t.it) (.int .u64 t.ut) (.string t.tx) (.slice ad t.ks.length cap)
        rwa [World.size_alloc] at this
      have KS : Hid (∀ w' : World, Below ((w.alloc (.cells #[.map none] 132)).alloc (.cells #[.int .i64 9, .int .i64 t.it, .int .u64 t.ut, .string t.tx, .slice ad t.ks.length cap] 25)).heap.size ((w.alloc (.cells #[.map none] 132)).alloc (.cells #[.int .i64 9, .int .i64 t.it, .int .u64 t.ut, .string t.tx, .slice ad t.ks.length cap] 25)) w' → w'.cell? ⟨w.heap.size, 0, none⟩ = some (.map none) ∧ w'.cell? ⟨w.heap.size + 1, 4, none⟩ = some (.slice ad t.ks.length cap)) := fun w' h => ⟨(dm.below h).c, (dd.below h).c.2.2.2.2⟩
      have HF : Hid (∀ (va vb : Value) (wa wb : World), Hid (VR (fun g => ((w.alloc (.cells #[.map none] 132)).alloc (.cells #[.int .i64 9, .int .i64 t.it, .int .u64 t.ut, .string t.tx, .slice ad t.ks.length cap] 25)).heap.size ≤ g ∧ g < wa.heap.size) wa n va (t.ks[0]'h01.out.1)) → Hid (Below wa.heap.size wa wb) → Hid (VR (fun g => ((w.alloc (.cells #[.map none] 132)).alloc (.cells #[.int .i64 9, .int .i64 t.it, .int .u64 t.ut, .string t.tx, .slice ad t.ks.length cap] 25)).heap.size ≤ g ∧ g < wb.heap.size) wb n vb (t.ks[1]'h01.out.2)) → Below ((w.alloc (.cells #[.map none] 132)).alloc (.cells #[.int .i64 9, .int .i64 t.it, .int .u64 t.ut, .string t.tx, .slice ad t.ks.length cap] 25)).heap.size ((w.alloc (.cells #[.map none] 132)).alloc (.cells #[.int .i64 9, .int .i64 t.it, .int .u64 t.ut, .string t.tx, .slice ad t.ks.length cap] 25)) wb → ∃ v, Ending.returned (.iface 152 (.agg #[va, vb])) = .returned v ∧ VR (fun g => w.heap.size ≤ g ∧ g < wb.heap.size) wb (n + 1) v t ∧ Below w.heap.size w wb) := fun va vb wa wb v1 xb v2 kb => by
        obtain ⟨hkd, hl2⟩ := HN.out
        obtain ⟨t0, t1, e2⟩ := list_two hl2
        refine ⟨_, rfl, ?_, b2.trans (kb.mono (by omega))⟩
        have e0 : t.ks[0] = t0 := by simp [e2]
        have e1 : t.ks[1] = t1 := by simp [e2]
        have v1' := v1.out
        have v2' := v2.out
        rw [e0] at v1'
        rw [e1] at v2'
        simp only [VR, hkd]
        simp
        exact ⟨_, _, ⟨rfl, rfl⟩, t0, t1, e2, VR.to (fun q hq => ⟨⟨by have h := hq.1; omega, Nat.lt_of_lt_of_le hq.2 xb.out.size⟩, xb.out.block q hq.2⟩) _ _ _ v1', VR.to (fun q hq => ⟨⟨by have h := hq.1; omega, hq.2⟩, rfl⟩) _ _ _ v2'⟩
      clear ih hk hall hp2 fin okp hok hps h hp1 hb0 htx hlen hcap h2 dm dd b2 hsz
      by_cases hA : nilT n (t.ks[0]'h01.out.1)
      · by_cases hB : nilT n (t.ks[1]'h01.out.2)
        · have KA : Hid (∀ wx : World, Below ((w.alloc (.cells #[.map none] 132)).alloc (.cells #[.int .i64 9, .int .i64 t.it, .int .u64 t.ut, .string t.tx, .slice ad t.ks.length cap] 25)).heap.size ((w.alloc (.cells #[.map none] 132)).alloc (.cells #[.int .i64 9, .int .i64 t.it, .int .u64 t.ut, .string t.tx, .slice ad t.ks.length cap] 25)) wx → Calls Tryz.prog 99 #[.agg #[.map none], .slice ad t.ks.length cap, .int .i64 0] wx fun e w' => e = .returned Value.nilIface ∧ Sx Value.nilIface ∧ Hid (VR (fun g => ((w.alloc (.cells #[.map none] 132)).alloc (.cells #[.int .i64 9, .int .i64 t.it, .int .u64 t.ut, .string t.tx, .slice ad t.ks.length cap] 25)).heap.size ≤ g ∧ g < w'.heap.size) w' n Value.nilIface (t.ks[0]'h01.out.1)) ∧ Hid (Below wx.heap.size wx w') ∧ Below ((w.alloc (.cells #[.map none] 132)).alloc (.cells #[.int .i64 9, .int .i64 t.it, .int .u64 t.ut, .string t.tx, .slice ad t.ks.length cap] 25)).heap.size ((w.alloc (.cells #[.map none] 132)).alloc (.cells #[.int .i64 9, .int .i64 t.it, .int .u64 t.ut, .string t.tx, .slice ad t.ks.length cap] 25)) w') := fun wx kx =>
            (KP.out 0 0 rfl h01.out.1 wx kx).mono fun e w' ⟨v, he, vr, hx, hb⟩ => by obtain rfl := vr_nil vr.out hA; exact ⟨he, vr_any vr.out, vr, hx, hb⟩
          have KB : Hid (∀ wx : World, Below ((w.alloc (.cells #[.map none] 132)).alloc (.cells #[.int .i64 9, .int .i64 t.it, .int .u64 t.ut, .string t.tx, .slice ad t.ks.length cap] 25)).heap.size ((w.alloc (.cells #[.map none] 132)).alloc (.cells #[.int .i64 9, .int .i64 t.it, .int .u64 t.ut, .string t.tx, .slice ad t.ks.length cap] 25)) wx → Calls Tryz.prog 99 #[.agg #[.map none], .slice ad t.ks.length cap, .int .i64 1] wx fun e w' => e = .returned Value.nilIface ∧ Sx Value.nilIface ∧ Hid (VR (fun g => ((w.alloc (.cells #[.map none] 132)).alloc (.cells #[.int .i64 9, .int .i64 t.it, .int .u64 t.ut, .string t.tx, .slice ad t.ks.length cap] 25)).heap.size ≤ g ∧ g < w'.heap.size) w' n Value.nilIface (t.ks[1]'h01.out.2)) ∧ Hid (Below wx.heap.size wx w') ∧ Below ((w.alloc (.cells #[.map none] 132)).alloc (.cells #[.int .i64 9, .int .i64 t.it, .int .u64 t.ut, .string t.tx, .slice ad t.ks.length cap] 25)).heap.size ((w.alloc (.cells #[.map none] 132)).alloc (.cells #[.int .i64 9, .int .i64 t.it, .int .u64 t.ut, .string t.tx, .slice ad t.ks.length cap] 25)) w') := fun wx kx =>
            (KP.out 1 1 rfl h01.out.2 wx kx).mono fun e w' ⟨v, he, vr, hx, hb⟩ => by obtain rfl := vr_nil vr.out hB; exact ⟨he, vr_any vr.out, vr, hx, hb⟩
          clear KP hA hB
          go_enter Tryz.func86, Tryz.ntmps86
          go_wp2_with fail
          go_region_held3 (fun w' => w'.cell? ⟨w.heap.size, 0, none⟩ = some (.map none) ∧ w'.cell? ⟨w.heap.size + 1, 4, none⟩ = some (.slice ad t.ks.length cap)) (first | (refine KS.out _ ?_; with_reducible assumption) | exact KS.out _ (Below.drew (Below.refl _ _))) (first | (go_at_call 99; have hs0 := ‹Sx _›; refine (KB.out _ (by first | with_reducible assumption | exact Below.drew (Below.refl _ _))).mono ?_; rintro e wb ⟨rfl, sb, VB, xb, kb⟩) | (go_at_call 99; refine (KA.out _ (by first | with_reducible assumption | exact Below.drew (Below.refl _ _))).mono ?_; rintro e wa ⟨rfl, sa, VA, xa, ka⟩))
          all_goals go_wp2
          all_goals go_ret
          all_goals exact HF.out .nilIface .nilIface wa _ VA xb VB kb
        · have KA : Hid (∀ wx : World, Below ((w.alloc (.cells #[.map none] 132)).alloc (.cells #[.int .i64 9, .int .i64 t.it, .int .u64 t.ut, .string t.tx, .slice ad t.ks.length cap] 25)).heap.size ((w.alloc (.cells #[.map none] 132)).alloc (.cells #[.int .i64 9, .int .i64 t.it, .int .u64 t.ut, .string t.tx, .slice ad t.ks.length cap] 25)) wx → Calls Tryz.prog 99 #[.agg #[.map none], .slice ad t.ks.length cap, .int .i64 0] wx fun e w' => e = .returned Value.nilIface ∧ Sx Value.nilIface ∧ Hid (VR (fun g => ((w.alloc (.cells #[.map none] 132)).alloc (.cells #[.int .i64 9, .int .i64 t.it, .int .u64 t.ut, .string t.tx, .slice ad t.ks.length cap] 25)).heap.size ≤ g ∧ g < w'.heap.size) w' n Value.nilIface (t.ks[0]'h01.out.1)) ∧ Hid (Below wx.heap.size wx w') ∧ Below ((w.alloc (.cells #[.map none] 132)).alloc (.cells #[.int .i64 9, .int .i64 t.it, .int .u64 t.ut, .string t.tx, .slice ad t.ks.length cap] 25)).heap.size ((w.alloc (.cells #[.map none] 132)).alloc (.cells #[.int .i64 9, .int .i64 t.it, .int .u64 t.ut, .string t.tx, .slice ad t.ks.length cap] 25)) w') := fun wx kx =>
            (KP.out 0 0 rfl h01.out.1 wx kx).mono fun e w' ⟨v, he, vr, hx, hb⟩ => by obtain rfl := vr_nil vr.out hA; exact ⟨he, vr_any vr.out, vr, hx, hb⟩
          have KB : Hid (∀ wx : World, Below ((w.alloc (.cells #[.map none] 132)).alloc (.cells #[.int .i64 9, .int .i64 t.it, .int .u64 t.ut, .string t.tx, .slice ad t.ks.length cap] 25)).heap.size ((w.alloc (.cells #[.map none] 132)).alloc (.cells #[.int .i64 9, .int .i64 t.it, .int .u64 t.ut, .string t.tx, .slice ad t.ks.length cap] 25)) wx → Calls Tryz.prog 99 #[.agg #[.map none], .slice ad t.ks.length cap, .int .i64 1] wx fun e w' => ∃ T z, e = .returned (Value.iface T z) ∧ Sx (Value.iface T z) ∧ Hid (VR (fun g => ((w.alloc (.cells #[.map none] 132)).alloc (.cells #[.int .i64 9, .int .i64 t.it, .int .u64 t.ut, .string t.tx, .slice ad t.ks.length cap] 25)).heap.size ≤ g ∧ g < w'.heap.size) w' n (Value.iface T z) (t.ks[1]'h01.out.2)) ∧ Hid (Below wx.heap.size wx w') ∧ Below ((w.alloc (.cells #[.map none] 132)).alloc (.cells #[.int .i64 9, .int .i64 t.it, .int .u64 t.ut, .string t.tx, .slice ad t.ks.length cap] 25)).heap.size ((w.alloc (.cells #[.map none] 132)).alloc (.cells #[.int .i64 9, .int .i64 t.it, .int .u64 t.ut, .string t.tx, .slice ad t.ks.length cap] 25)) w') := fun wx kx =>
            (KP.out 1 1 rfl h01.out.2 wx kx).mono fun e w' ⟨v, he, vr, hx, hb⟩ => by obtain ⟨T, z, rfl⟩ := vr_val vr.out hB; exact ⟨T, z, he, vr_any vr.out, vr, hx, hb⟩
          clear KP hA hB
          go_enter Tryz.func86, Tryz.ntmps86
          go_wp2_with fail
          go_region_held3 (fun w' => w'.cell? ⟨w.heap.size, 0, none⟩ = some (.map none) ∧ w'.cell? ⟨w.heap.size + 1, 4, none⟩ = some (.slice ad t.ks.length cap)) (first | (refine KS.out _ ?_; with_reducible assumption) | exact KS.out _ (Below.drew (Below.refl _ _))) (first | (go_at_call 99; have hs0 := ‹Sx _›; refine (KB.out _ (by first | with_reducible assumption | exact Below.drew (Below.refl _ _))).mono ?_; rintro e wb ⟨Tb, zb, rfl, sb, VB, xb, kb⟩) | (go_at_call 99; refine (KA.out _ (by first | with_reducible assumption | exact Below.drew (Below.refl _ _))).mono ?_; rintro e wa ⟨rfl, sa, VA, xa, ka⟩))
          all_goals go_wp2
          all_goals go_ret
          all_goals exact HF.out .nilIface (.iface Tb zb) wa _ VA xb VB kb
      · by_cases hB : nilT n (t.ks[1]'h01.out.2)
        · have KA : Hid (∀ wx : World, Below ((w.alloc (.cells #[.map none] 132)).alloc (.cells #[.int .i64 9, .int .i64 t.it, .int .u64 t.ut, .string t.tx, .slice ad t.ks.length cap] 25)).heap.size ((w.alloc (.cells #[.map none] 132)).alloc (.cells #[.int .i64 9, .int .i64 t.it, .int .u64 t.ut, .string t.tx, .slice ad t.ks.length cap] 25)) wx → Calls Tryz.prog 99 #[.agg #[.map none], .slice ad t.ks.length cap, .int .i64 0] wx fun e w' => ∃ T z, e = .returned (Value.iface T z) ∧ Sx (Value.iface T z) ∧ Hid (VR (fun g => ((w.alloc (.cells #[.map none] 132)).alloc (.cells #[.int .i64 9, .int .i64 t.it, .int .u64 t.ut, .string t.tx, .slice ad t.ks.length cap] 25)).heap.size ≤ g ∧ g < w'.heap.size) w' n (Value.iface T z) (t.ks[0]'h01.out.1)) ∧ Hid (Below wx.heap.size wx w') ∧ Below ((w.alloc (.cells #[.map none] 132)).alloc (.cells #[.int .i64 9, .int .i64 t.it, .int .u64 t.ut, .string t.tx, .slice ad t.ks.length cap] 25)).heap.size ((w.alloc (.cells #[.map none] 132)).alloc (.cells #[.int .i64 9, .int .i64 t.it, .int .u64 t.ut, .string t.tx, .slice ad t.ks.length cap] 25)) w') := fun wx kx =>
            (KP.out 0 0 rfl h01.out.1 wx kx).mono fun e w' ⟨v, he, vr, hx, hb⟩ => by obtain ⟨T, z, rfl⟩ := vr_val vr.out hA; exact ⟨T, z, he, vr_any vr.out, vr, hx, hb⟩
          have KB : Hid (∀ wx : World, Below ((w.alloc (.cells #[.map none] 132)).alloc (.cells #[.int .i64 9, .int .i64 t.it, .int .u64 t.ut, .string t.tx, .slice ad t.ks.length cap] 25)).heap.size ((w.alloc (.cells #[.map none] 132)).alloc (.cells #[.int .i64 9, .int .i64 t.it, .int .u64 t.ut, .string t.tx, .slice ad t.ks.length cap] 25)) wx → Calls Tryz.prog 99 #[.agg #[.map none], .slice ad t.ks.length cap, .int .i64 1] wx fun e w' => e = .returned Value.nilIface ∧ Sx Value.nilIface ∧ Hid (VR (fun g => ((w.alloc (.cells #[.map none] 132)).alloc (.cells #[.int .i64 9, .int .i64 t.it, .int .u64 t.ut, .string t.tx, .slice ad t.ks.length cap] 25)).heap.size ≤ g ∧ g < w'.heap.size) w' n Value.nilIface (t.ks[1]'h01.out.2)) ∧ Hid (Below wx.heap.size wx w') ∧ Below ((w.alloc (.cells #[.map none] 132)).alloc (.cells #[.int .i64 9, .int .i64 t.it, .int .u64 t.ut, .string t.tx, .slice ad t.ks.length cap] 25)).heap.size ((w.alloc (.cells #[.map none] 132)).alloc (.cells #[.int .i64 9, .int .i64 t.it, .int .u64 t.ut, .string t.tx, .slice ad t.ks.length cap] 25)) w') := fun wx kx =>
            (KP.out 1 1 rfl h01.out.2 wx kx).mono fun e w' ⟨v, he, vr, hx, hb⟩ => by obtain rfl := vr_nil vr.out hB; exact ⟨he, vr_any vr.out, vr, hx, hb⟩
          clear KP hA hB
          go_enter Tryz.func86, Tryz.ntmps86
          go_wp2_with fail
          go_region_held3 (fun w' => w'.cell? ⟨w.heap.size, 0, none⟩ = some (.map none) ∧ w'.cell? ⟨w.heap.size + 1, 4, none⟩ = some (.slice ad t.ks.length cap)) (first | (refine KS.out _ ?_; with_reducible assumption) | exact KS.out _ (Below.drew (Below.refl _ _))) (first | (go_at_call 99; have hs0 := ‹Sx _›; refine (KB.out _ (by first | with_reducible assumption | exact Below.drew (Below.refl _ _))).mono ?_; rintro e wb ⟨rfl, sb, VB, xb, kb⟩) | (go_at_call 99; refine (KA.out _ (by first | with_reducible assumption | exact Below.drew (Below.refl _ _))).mono ?_; rintro e wa ⟨Ta, za, rfl, sa, VA, xa, ka⟩))
          all_goals go_wp2
          all_goals go_ret
          all_goals exact HF.out (.iface Ta za) .nilIface wa _ VA xb VB kb
        · have KA : Hid (∀ wx : World, Below ((w.alloc (.cells #[.map none] 132)).alloc (.cells #[.int .i64 9, .int .i64 t.it, .int .u64 t.ut, .string t.tx, .slice ad t.ks.length cap] 25)).heap.size ((w.alloc (.cells #[.map none] 132)).alloc (.cells #[.int .i64 9, .int .i64 t.it, .int .u64 t.ut, .string t.tx, .slice ad t.ks.length cap] 25)) wx → Calls Tryz.prog 99 #[.agg #[.map none], .slice ad t.ks.length cap, .int .i64 0] wx fun e w' => ∃ T z, e = .returned (Value.iface T z) ∧ Sx (Value.iface T z) ∧ Hid (VR (fun g => ((w.alloc (.cells #[.map none] 132)).alloc (.cells #[.int .i64 9, .int .i64 t.it, .int .u64 t.ut, .string t.tx, .slice ad t.ks.length cap] 25)).heap.size ≤ g ∧ g < w'.heap.size) w' n (Value.iface T z) (t.ks[0]'h01.out.1)) ∧ Hid (Below wx.heap.size wx w') ∧ Below ((w.alloc (.cells #[.map none] 132)).alloc (.cells #[.int .i64 9, .int .i64 t.it, .int .u64 t.ut, .string t.tx, .slice ad t.ks.length cap] 25)).heap.size ((w.alloc (.cells #[.map none] 132)).alloc (.cells #[.int .i64 9, .int .i64 t.it, .int .u64 t.ut, .string t.tx, .slice ad t.ks.length cap] 25)) w') := fun wx kx =>
            (KP.out 0 0 rfl h01.out.1 wx kx).mono fun e w' ⟨v, he, vr, hx, hb⟩ => by obtain ⟨T, z, rfl⟩ := vr_val vr.out hA; exact ⟨T, z, he, vr_any vr.out, vr, hx, hb⟩
          have KB : Hid (∀ wx : World, Below ((w.alloc (.cells #[.map none] 132)).alloc (.cells #[.int .i64 9, .int .i64 t.it, .int .u64 t.ut, .string t.tx, .slice ad t.ks.length cap] 25)).heap.size ((w.alloc (.cells #[.map none] 132)).alloc (.cells #[.int .i64 9, .int .i64 t.it, .int .u64 t.ut, .string t.tx, .slice ad t.ks.length cap] 25)) wx → Calls Tryz.prog 99 #[.agg #[.map none], .slice ad t.ks.length cap, .int .i64 1] wx fun e w' => ∃ T z, e = .returned (Value.iface T z) ∧ Sx (Value.iface T z) ∧ Hid (VR (fun g => ((w.alloc (.cells #[.map none] 132)).alloc (.cells #[.int .i64 9, .int .i64 t.it, .int .u64 t.ut, .string t.tx, .slice ad t.ks.length cap] 25)).heap.size ≤ g ∧ g < w'.heap.size) w' n (Value.iface T z) (t.ks[1]'h01.out.2)) ∧ Hid (Below wx.heap.size wx w') ∧ Below ((w.alloc (.cells #[.map none] 132)).alloc (.cells #[.int .i64 9, .int .i64 t.it, .int .u64 t.ut, .string t.tx, .slice ad t.ks.length cap] 25)).heap.size ((w.alloc (.cells #[.map none] 132)).alloc (.cells #[.int .i64 9, .int .i64 t.it, .int .u64 t.ut, .string t.tx, .slice ad t.ks.length cap] 25)) w') := fun wx kx =>
            (KP.out 1 1 rfl h01.out.2 wx kx).mono fun e w' ⟨v, he, vr, hx, hb⟩ => by obtain ⟨T, z, rfl⟩ := vr_val vr.out hB; exact ⟨T, z, he, vr_any vr.out, vr, hx, hb⟩
          clear KP hA hB
          go_enter Tryz.func86, Tryz.ntmps86
          go_wp2_with fail
          go_region_held3 (fun w' => w'.cell? ⟨w.heap.size, 0, none⟩ = some (.map none) ∧ w'.cell? ⟨w.heap.size + 1, 4, none⟩ = some (.slice ad t.ks.length cap)) (first | (refine KS.out _ ?_; with_reducible assumption) | exact KS.out _ (Below.drew (Below.refl _ _))) (first | (go_at_call 99; have hs0 := ‹Sx _›; refine (KB.out _ (by first | with_reducible assumption | exact Below.drew (Below.refl _ _))).mono ?_; rintro e wb ⟨Tb, zb, rfl, sb, VB, xb, kb⟩) | (go_at_call 99; refine (KA.out _ (by first | with_reducible assumption | exact Below.drew (Below.refl _ _))).mono ?_; rintro e wa ⟨Ta, za, rfl, sa, VA, xa, ka⟩))
          all_goals go_wp2
          all_goals go_ret
          all_goals exact HF.out (.iface Ta za) (.iface Tb zb) wa _ VA xb VB kb
    · rw [h]
      exact (shLeaf10 none t.it t.ut t.tx ad t.ks.length cap w).mono fun e w' hw => fin _ e w' (by simp [VR, h]) hw
    · rw [h]
      have b2 : Below w.heap.size w ((w.alloc (.cells #[.map none] 132)).alloc (.cells #[.int .i64 11, .int .i64 t.it, .int .u64 t.ut, .string t.tx, .slice ad t.ks.length cap] 25)) := ((Below.refl _ w).alloc (Nat.le_refl _) _).alloc (by simp) _
      have hsz : ((w.alloc (.cells #[.map none] 132)).alloc (.cells #[.int .i64 11, .int .i64 t.it, .int .u64 t.ut, .string t.tx, .slice ad t.ks.length cap] 25)).heap.size = w.heap.size + 2 := by simp
      have hl1 : t.ks.length = 1 := by
        have := hok
        unfold Tr.ok at this
        rw [h] at this
        simp [okB] at this
        exact this.2.2.2
      obtain ⟨t0, et0⟩ : ∃ t0, t.ks = [t0] := List.length_eq_one_iff.1 hl1
      have h01 : Hid (0 < t.ks.length) := by show 0 < t.ks.length; omega
      have HC := Lib.hid (pointer_nb W0 n t.ks ih 11 t.it t.ut t.tx ad cap ((w.alloc (.cells #[.map none] 132)).alloc (.cells #[.int .i64 11, .int .i64 t.it, .int .u64 t.ut, .string t.tx, .slice ad t.ks.length cap] 25)) (hb0.trans (b2.mono hb0.size)) hall hp2 hk h01.out)
      have HF : Hid (∀ (b : Nat) (v : Value) (w' : World), ((w.alloc (.cells #[.map none] 132)).alloc (.cells #[.int .i64 11, .int .i64 t.it, .int .u64 t.ut, .string t.tx, .slice ad t.ks.length cap] 25)).heap.size ≤ b → b < w'.heap.size → w'.heap[b]? = some (.cells #[.int .i64 t.it, v] 176 (0, 0)) → VR (fun g => ((w.alloc (.cells #[.map none] 132)).alloc (.cells #[.int .i64 11, .int .i64 t.it, .int .u64 t.ut, .string t.tx, .slice ad t.ks.length cap] 25)).heap.size ≤ g ∧ g < w'.heap.size) w' n v (t.ks[0]'h01.out) → Below ((w.alloc (.cells #[.map none] 132)).alloc (.cells #[.int .i64 11, .int .i64 t.it, .int .u64 t.ut, .string t.tx, .slice ad t.ks.length cap] 25)).heap.size ((w.alloc (.cells #[.map none] 132)).alloc (.cells #[.int .i64 11, .int .i64 t.it, .int .u64 t.ut, .string t.tx, .slice ad t.ks.length cap] 25)) w' → ∃ v, Ending.returned (.iface 155 (.pointer (some ⟨b, 0, none⟩))) = .returned v ∧ VR (fun g => w.heap.size ≤ g ∧ g < w'.heap.size) w' (n + 1) v t ∧ Below w.heap.size w w') := fun b v w' h1 h2 h3 h4 h5 => by
        refine ⟨_, rfl, ?_, b2.trans (h5.mono (by omega))⟩
        have e0 : t.ks[0]'h01.out = t0 := by simp [et0]
        rw [e0] at h4
        exact VR.mk11 h b v t0 ⟨by omega, h2⟩ et0 h3 (VR.to (fun q hq => ⟨⟨by have h := hq.1; omega, hq.2⟩, rfl⟩) _ _ _ h4)
      have HN := Lib.hid hl1
      clear ih hk hall hp2 fin okp hok hps h hsz et0 hl1 hp1
      go_enter Tryz.func86, Tryz.ntmps86
      go_wp2_with fail
      refine HC.out.mono ?_
      rintro e w2 ⟨b, v, rfl, h1, h2, h3, h4, h5⟩
      have HX := Lib.hid (HF.out b v w2 h1 h2 h3 h4 h5)
      clear h1 h2 h3 h4 h5
      go_wp2
      go_ret
      exact HX.out
    · rw [h]
      exact (shLeaf12 none t.it t.ut t.tx ad t.ks.length cap w).mono fun e w' hw => fin _ e w' (by simp [VR, h]) hw
    · rw [h]
      exact (shLeaf13 none t.it t.ut t.tx ad t.ks.length cap w).mono fun e w' hw => fin _ e w' (by simp [VR, h]) hw
end Go.Proofs.YtajagjcfmaggiaaGreatDoor.Dt
/- The package's Length and the document's, of a value's tree: one answer; the conditions: the tree in memory, valid. -/
namespace Go.Proofs.YtajagjcfmaggiaaGreatDoor.Dt
open Go.RowKit
/-- What Length answers: by the kind, the text's length, the list's. -/
def lenP (k : Int) (s l : Nat) : Int × Int := if k = 4 ∨ k = 5 ∨ k = 7 then (s, 0) else if k = 8 then (l, 0) else if k = 9 then (2, 0) else if k = 11 then (1, 0) else if k = 12 then (0, 0) else (0, 12)
set_option maxRecDepth 100000 in
set_option maxHeartbeats 1000000 in
theorem refLen (k i u : Int) (s : ByteArray) (ad : Option Addr) (len cap : Nat) (w : World) :
    Calls Tryz.prog 28 #[.agg #[.int .i64 k, .int .i64 i, .int .u64 u, .string s, .slice ad len cap]] w fun e w' => e = .returned (.tuple #[.int .i64 (lenP k s.size len).1, .int .i64 (lenP k s.size len).2]) ∧ Below w.heap.size w w' := by
  have hR : ∀ A, lenP k s.size len = A → (Calls Tryz.prog 28 #[.agg #[.int .i64 k, .int .i64 i, .int .u64 u, .string s, .slice ad len cap]] w fun e w' => e = .returned (.tuple #[.int .i64 A.1, .int .i64 A.2]) ∧ Below w.heap.size w w') → (Calls Tryz.prog 28 #[.agg #[.int .i64 k, .int .i64 i, .int .u64 u, .string s, .slice ad len cap]] w fun e w' => e = .returned (.tuple #[.int .i64 (lenP k s.size len).1, .int .i64 (lenP k s.size len).2]) ∧ Below w.heap.size w w') := fun A hA h => by rw [hA]; exact h
  by_cases h4 : k = 4
  · subst h4
    refine hR ((s.size : Int), 0) (by simp [lenP]) ?_
    clear hR
    go_enter Tryz.func28, Tryz.ntmps28
    go_wp2
    go_ret2
    exact ⟨rfl, below1 _ _⟩
  by_cases h5 : k = 5
  · subst h5
    refine hR ((s.size : Int), 0) (by simp [lenP]) ?_
    clear hR
    go_enter Tryz.func28, Tryz.ntmps28
    go_wp2
    go_ret2
    exact ⟨rfl, below1 _ _⟩
  by_cases h7 : k = 7
  · subst h7
    refine hR ((s.size : Int), 0) (by simp [lenP]) ?_
    clear hR
    go_enter Tryz.func28, Tryz.ntmps28
    go_wp2
    go_ret2
    exact ⟨rfl, below1 _ _⟩
  by_cases h8 : k = 8
  · subst h8
    refine hR ((len : Int), 0) (by simp [lenP]) ?_
    clear hR
    go_enter Tryz.func28, Tryz.ntmps28
    go_wp2
    go_ret2
    exact ⟨rfl, below1 _ _⟩
  by_cases h9 : k = 9
  · subst h9
    refine hR (2, 0) (by simp [lenP]) ?_
    clear hR
    go_enter Tryz.func28, Tryz.ntmps28
    go_wp2
    go_ret2
    exact ⟨rfl, below1 _ _⟩
  by_cases h11 : k = 11
  · subst h11
    refine hR (1, 0) (by simp [lenP]) ?_
    clear hR
    go_enter Tryz.func28, Tryz.ntmps28
    go_wp2
    go_ret2
    exact ⟨rfl, below1 _ _⟩
  by_cases h12 : k = 12
  · subst h12
    refine hR (0, 0) (by simp [lenP]) ?_
    clear hR
    go_enter Tryz.func28, Tryz.ntmps28
    go_wp2
    go_ret2
    exact ⟨rfl, below1 _ _⟩
  · refine hR (0, 12) (by simp [lenP, *]) ?_
    clear hR
    go_enter Tryz.func28, Tryz.ntmps28
    go_wp2
    go_ret2
    exact ⟨rfl, below1 _ _⟩
theorem sizeText (s : ByteArray) (w : World) : Calls Tryz.prog 160 #[.string s] w fun e w' => e = .returned (.int .i64 ((s.size : Int))) ∧ w' = w := by
  go_enter Tryz.func160, Tryz.ntmps160
  go_wp2
  go_ret
  exact ⟨rfl, rfl⟩
theorem sizeName (s : ByteArray) (w : World) : Calls Tryz.prog 216 #[.string s] w fun e w' => e = .returned (.int .i64 ((s.size : Int))) ∧ w' = w := by
  go_enter Tryz.func216, Tryz.ntmps216
  go_wp2
  go_ret
  exact ⟨rfl, rfl⟩
theorem sizeOct (a : Option Addr) (n c : Nat) (w : World) : Calls Tryz.prog 217 #[.slice a n c] w fun e w' => e = .returned (.int .i64 ((n : Int))) ∧ w' = w := by
  go_enter Tryz.func217, Tryz.ntmps217
  go_wp2
  go_ret
  exact ⟨rfl, rfl⟩
theorem sizeRow (a : Option Addr) (n c : Nat) (w : World) : Calls Tryz.prog 218 #[.slice a n c] w fun e w' => e = .returned (.int .i64 ((n : Int))) ∧ w' = w := by
  go_enter Tryz.func218, Tryz.ntmps218
  go_wp2
  go_ret
  exact ⟨rfl, rfl⟩
theorem sizeBox (p : Addr) (w : World) : Calls Tryz.prog 224 #[.pointer (some p)] w fun e w' => e = .returned (.int .i64 (1)) ∧ w' = w := by
  go_enter Tryz.func224, Tryz.ntmps224
  go_wp2
  go_ret
  exact ⟨rfl, rfl⟩
theorem sizeNob  (w : World) : Calls Tryz.prog 224 #[.pointer none] w fun e w' => e = .returned (.int .i64 (0)) ∧ w' = w := by
  go_enter Tryz.func224, Tryz.ntmps224
  go_wp2
  go_ret
  exact ⟨rfl, rfl⟩
theorem sizePair (x y : Value) (hx : Sx x) (hy : Sx y) (w : World) : Calls Tryz.prog 219 #[.agg #[x, y]] w fun e w' => e = .returned (.int .i64 2) ∧ Below w.heap.size w w' := by
  rcases hx with rfl | ⟨T, z, rfl⟩ <;> rcases hy with rfl | ⟨T', z', rfl⟩
  all_goals
    go_enter Tryz.func219, Tryz.ntmps219
    go_wp2
    go_ret
    first | exact ⟨rfl, Below.refl _ _⟩ | exact ⟨rfl, below1 _ _⟩
end Go.Proofs.YtajagjcfmaggiaaGreatDoor.Dt
/- The package's Length of a value's tree: what the document's answers; the conditions: the tree in memory, valid. -/
namespace Go.Proofs.YtajagjcfmaggiaaGreatDoor.Dt
open Go.RowKit
/-- What stands for a tree, by its kind. -/
theorem vr_cases {F : Nat → Prop} {w : World} {n : Nat} {v : Value} {t : Tr (n + 1)} (h : VR F w (n + 1) v t) :
    (t.kd = 0 ∧ v = .nilIface) ∨ (t.kd = 1 ∧ v = .iface 140 (.int .i64 t.it)) ∨ (t.kd = 2 ∧ v = .iface 141 (.int .i64 t.it)) ∨ (t.kd = 3 ∧ v = .iface 142 (.float .f64 t.ut.toNat)) ∨
    (t.kd = 4 ∧ v = .iface 101 (.string t.tx)) ∨ (t.kd = 5 ∧ v = .iface 143 (.string t.tx)) ∨ (t.kd = 6 ∧ v = .iface 144 (.bool (t.it != 0))) ∨
    (t.kd = 7 ∧ ∃ a c, v = .iface 147 (.slice a t.tx.size c)) ∨ (t.kd = 8 ∧ ∃ a c, v = .iface 149 (.slice a t.ks.length c)) ∨
    (t.kd = 9 ∧ ∃ x y, v = .iface 152 (.agg #[x, y]) ∧ Sx x ∧ Sx y) ∨ (t.kd = 10 ∧ v = .iface 154 (.agg #[.int .i64 t.it, .string t.tx])) ∨
    (t.kd = 11 ∧ ∃ b u, v = .iface 155 (.pointer (some ⟨b, 0, none⟩)) ∧ w.heap[b]? = some (.cells #[.int .i64 t.it, u] 176 (0, 0)) ∧ Sx u) ∨ (t.kd = 12 ∧ v = .iface 155 (.pointer none)) ∨ (t.kd = 13 ∧ v = .iface 157 (.agg #[])) := by
  simp only [VR] at h
  rcases h with q | q | q | q | q | q | q | ⟨k, g, c, cs, fr, e1, e2, e3, e4⟩ | ⟨k, a, c, e1, e2⟩ | ⟨k, x, y, t0, t1, e1, e2, e3, e4⟩ | q | ⟨k, b, u, t0, e1, e2, e3, e4, e5⟩ | q | q
  · exact .inl q
  · exact .inr (.inl q)
  · exact .inr (.inr (.inl q))
  · exact .inr (.inr (.inr (.inl q)))
  · exact .inr (.inr (.inr (.inr (.inl q))))
  · exact .inr (.inr (.inr (.inr (.inr (.inl q)))))
  · exact .inr (.inr (.inr (.inr (.inr (.inr (.inl q))))))
  · exact .inr (.inr (.inr (.inr (.inr (.inr (.inr (.inl ⟨k, _, c, e1⟩)))))))
  · exact .inr (.inr (.inr (.inr (.inr (.inr (.inr (.inr (.inl ⟨k, a, c, e1⟩))))))))
  · exact .inr (.inr (.inr (.inr (.inr (.inr (.inr (.inr (.inr (.inl ⟨k, x, y, e1, vr_any e3, vr_any e4⟩)))))))))
  · exact .inr (.inr (.inr (.inr (.inr (.inr (.inr (.inr (.inr (.inr (.inl q))))))))))
  · exact .inr (.inr (.inr (.inr (.inr (.inr (.inr (.inr (.inr (.inr (.inr (.inl ⟨k, b, u, e1, e4, vr_any e5⟩)))))))))))
  · exact .inr (.inr (.inr (.inr (.inr (.inr (.inr (.inr (.inr (.inr (.inr (.inr (.inl q))))))))))))
  · exact .inr (.inr (.inr (.inr (.inr (.inr (.inr (.inr (.inr (.inr (.inr (.inr (.inr q))))))))))))
end Go.Proofs.YtajagjcfmaggiaaGreatDoor.Dt
/- The package's Plain of values without parts: the plain data; no condition. -/
namespace Go.Proofs.YtajagjcfmaggiaaGreatDoor.Dt
open Go.RowKit
/-- The bits of a tree are within 64. -/
def r64 : (n : Nat) → Tr n → Prop
  | 0, _ => False
  | n + 1, t => (0 ≤ t.ut ∧ t.ut < 18446744073709551616) ∧ ∀ s ∈ t.ks, r64 n s
theorem asto_yes {P : Program} {t x : TypeId} {d : TypeDesc} {v z : Value} {w : World} (hU : P.underlying t = some d) (hd : ∀ m, d ≠ .interface m) (hz : (zeroValue t).run P w = .ok z w) : (Instr.typeAssert (.iface t v) x t true).run P w = .ok (.tuple #[v, .bool true]) w := by
  have := assert_to (t := t) (x := x) (v := v) hU hd hz
  simpa using this
theorem asto_no {P : Program} {t x asserted : TypeId} {d : TypeDesc} {v z : Value} {w : World} (hU : P.underlying asserted = some d) (hd : ∀ m, d ≠ .interface m) (hz : (zeroValue asserted).run P w = .ok z w) (hne : t ≠ asserted) : (Instr.typeAssert (.iface t v) x asserted true).run P w = .ok (.tuple #[z, .bool false]) w := by
  have := assert_to (t := t) (x := x) (v := v) hU hd hz
  simpa [hne] using this
theorem tobits (n : Nat) (w : World) : (callFunc 42 #[.float .f64 n]).run Tryz.prog w = .ok (.value (.int .u64 (n : Int))) w := by kernel_rfl

set_option maxRecDepth 100000 in
theorem plTruth (b : Bool) (w : World) : Calls Tryz.prog 91 #[.bool b] w fun e w' => e = .returned (.agg #[.int .i64 6, .int .i64 (if b then 1 else 0), .int .u64 0, .string ⟨#[]⟩, .slice none 0 0]) ∧ Below w.heap.size w w' := by
  cases b
  all_goals
    go_enter Tryz.func91, Tryz.ntmps91
    go_wp2
    refine bodyPost_ret (v := .agg #[.int .i64 6, .int .i64 _, .int .u64 0, .string ⟨#[]⟩, .slice none 0 0]) (by simp [results, Tryz.results91, go_sem]) rfl ⟨rfl, ?_⟩
    exact below1 w _

set_option maxRecDepth 100000 in
set_option maxHeartbeats 2000000 in
theorem pl0 (w : World) : Calls Tryz.prog 82 #[.nilIface] w fun e w' => e = .returned (.agg #[.int .i64 0, .int .i64 0, .int .u64 0, .string ⟨#[]⟩, .slice none 0 0]) ∧ Below w.heap.size w w' := by
  have a0 : ∀ w : World, (Instr.typeAssert .nilIface 20 140 true).run Tryz.prog w = .ok (.tuple #[.int .i64 0, .bool false]) w := fun w => assert_nil Tryz.underlying140 (by kernel_rfl)
  have a1 : ∀ w : World, (Instr.typeAssert .nilIface 20 141 true).run Tryz.prog w = .ok (.tuple #[.int .i64 0, .bool false]) w := fun w => assert_nil Tryz.underlying141 (by kernel_rfl)
  have a2 : ∀ w : World, (Instr.typeAssert .nilIface 20 142 true).run Tryz.prog w = .ok (.tuple #[.float .f64 0, .bool false]) w := fun w => assert_nil Tryz.underlying142 (by kernel_rfl)
  have a3 : ∀ w : World, (Instr.typeAssert .nilIface 20 101 true).run Tryz.prog w = .ok (.tuple #[.string ⟨#[]⟩, .bool false]) w := fun w => assert_nil Tryz.underlying101 (by kernel_rfl)
  have a4 : ∀ w : World, (Instr.typeAssert .nilIface 20 143 true).run Tryz.prog w = .ok (.tuple #[.string ⟨#[]⟩, .bool false]) w := fun w => assert_nil Tryz.underlying143 (by kernel_rfl)
  have a5 : ∀ w : World, (Instr.typeAssert .nilIface 20 144 true).run Tryz.prog w = .ok (.tuple #[.bool false, .bool false]) w := fun w => assert_nil Tryz.underlying144 (by kernel_rfl)
  have a6 : ∀ w : World, (Instr.typeAssert .nilIface 20 147 true).run Tryz.prog w = .ok (.tuple #[.slice none 0 0, .bool false]) w := fun w => assert_nil Tryz.underlying147 (by kernel_rfl)
  have a7 : ∀ w : World, (Instr.typeAssert .nilIface 20 149 true).run Tryz.prog w = .ok (.tuple #[.slice none 0 0, .bool false]) w := fun w => assert_nil Tryz.underlying149 (by kernel_rfl)
  have a8 : ∀ w : World, (Instr.typeAssert .nilIface 20 152 true).run Tryz.prog w = .ok (.tuple #[.agg #[.nilIface, .nilIface], .bool false]) w := fun w => assert_nil Tryz.underlying152 (by kernel_rfl)
  have a9 : ∀ w : World, (Instr.typeAssert .nilIface 20 154 true).run Tryz.prog w = .ok (.tuple #[.agg #[.int .i64 0, .string ⟨#[]⟩], .bool false]) w := fun w => assert_nil Tryz.underlying154 (by kernel_rfl)
  have a10 : ∀ w : World, (Instr.typeAssert .nilIface 20 155 true).run Tryz.prog w = .ok (.tuple #[.pointer none, .bool false]) w := fun w => assert_nil Tryz.underlying155 (by kernel_rfl)
  have a11 : ∀ w : World, (Instr.typeAssert .nilIface 20 157 true).run Tryz.prog w = .ok (.tuple #[.agg #[], .bool false]) w := fun w => assert_nil Tryz.underlying157 (by kernel_rfl)
  go_enter Tryz.func82, Tryz.ntmps82
  go_wp2
  refine bodyPost_ret (v := .agg #[.int .i64 0, .int .i64 0, .int .u64 0, .string ⟨#[]⟩, .slice none 0 0]) (by simp [results, Tryz.results82, go_sem]) rfl ⟨rfl, ?_⟩
  first | exact below1 w _ | exact below2 w _ _

set_option maxRecDepth 100000 in
set_option maxHeartbeats 2000000 in
theorem pl1 (i : Int) (w : World) : Calls Tryz.prog 82 #[.iface 140 (.int .i64 i)] w fun e w' => e = .returned (.agg #[.int .i64 1, .int .i64 i, .int .u64 0, .string ⟨#[]⟩, .slice none 0 0]) ∧ Below w.heap.size w w' := by
  have a0 : ∀ w : World, (Instr.typeAssert (.iface 140 (.int .i64 i)) 20 140 true).run Tryz.prog w = .ok (.tuple #[.int .i64 i, .bool true]) w := fun w => asto_yes (z := .int .i64 0) Tryz.underlying140 (fun m h => by cases h) (by kernel_rfl)
  go_enter Tryz.func82, Tryz.ntmps82
  go_wp2
  refine bodyPost_ret (v := .agg #[.int .i64 1, .int .i64 i, .int .u64 0, .string ⟨#[]⟩, .slice none 0 0]) (by simp [results, Tryz.results82, go_sem]) rfl ⟨rfl, ?_⟩
  first | exact below1 w _ | exact below2 w _ _

set_option maxRecDepth 100000 in
set_option maxHeartbeats 2000000 in
theorem pl2 (i : Int) (w : World) : Calls Tryz.prog 82 #[.iface 141 (.int .i64 i)] w fun e w' => e = .returned (.agg #[.int .i64 2, .int .i64 i, .int .u64 0, .string ⟨#[]⟩, .slice none 0 0]) ∧ Below w.heap.size w w' := by
  have a0 : ∀ w : World, (Instr.typeAssert (.iface 141 (.int .i64 i)) 20 140 true).run Tryz.prog w = .ok (.tuple #[.int .i64 0, .bool false]) w := fun w => asto_no (z := .int .i64 0) Tryz.underlying140 (fun m h => by cases h) (by kernel_rfl) (by decide)
  have a1 : ∀ w : World, (Instr.typeAssert (.iface 141 (.int .i64 i)) 20 141 true).run Tryz.prog w = .ok (.tuple #[.int .i64 i, .bool true]) w := fun w => asto_yes (z := .int .i64 0) Tryz.underlying141 (fun m h => by cases h) (by kernel_rfl)
  go_enter Tryz.func82, Tryz.ntmps82
  go_wp2
  refine bodyPost_ret (v := .agg #[.int .i64 2, .int .i64 i, .int .u64 0, .string ⟨#[]⟩, .slice none 0 0]) (by simp [results, Tryz.results82, go_sem]) rfl ⟨rfl, ?_⟩
  first | exact below1 w _ | exact below2 w _ _

set_option maxRecDepth 100000 in
set_option maxHeartbeats 2000000 in
theorem pl3 (n : Nat) (w : World) : Calls Tryz.prog 82 #[.iface 142 (.float .f64 n)] w fun e w' => e = .returned (.agg #[.int .i64 3, .int .i64 0, .int .u64 (n : Int), .string ⟨#[]⟩, .slice none 0 0]) ∧ Below w.heap.size w w' := by
  have a0 : ∀ w : World, (Instr.typeAssert (.iface 142 (.float .f64 n)) 20 140 true).run Tryz.prog w = .ok (.tuple #[.int .i64 0, .bool false]) w := fun w => asto_no (z := .int .i64 0) Tryz.underlying140 (fun m h => by cases h) (by kernel_rfl) (by decide)
  have a1 : ∀ w : World, (Instr.typeAssert (.iface 142 (.float .f64 n)) 20 141 true).run Tryz.prog w = .ok (.tuple #[.int .i64 0, .bool false]) w := fun w => asto_no (z := .int .i64 0) Tryz.underlying141 (fun m h => by cases h) (by kernel_rfl) (by decide)
  have a2 : ∀ w : World, (Instr.typeAssert (.iface 142 (.float .f64 n)) 20 142 true).run Tryz.prog w = .ok (.tuple #[.float .f64 n, .bool true]) w := fun w => asto_yes (z := .float .f64 0) Tryz.underlying142 (fun m h => by cases h) (by kernel_rfl)
  have hb := tobits n
  go_enter Tryz.func82, Tryz.ntmps82
  go_wp2
  refine bodyPost_ret (v := .agg #[.int .i64 3, .int .i64 0, .int .u64 (n : Int), .string ⟨#[]⟩, .slice none 0 0]) (by simp [results, Tryz.results82, go_sem]) rfl ⟨rfl, ?_⟩
  first | exact below1 w _ | exact below2 w _ _

set_option maxRecDepth 100000 in
set_option maxHeartbeats 2000000 in
theorem pl4 (s : ByteArray) (w : World) : Calls Tryz.prog 82 #[.iface 101 (.string s)] w fun e w' => e = .returned (.agg #[.int .i64 4, .int .i64 0, .int .u64 0, .string s, .slice none 0 0]) ∧ Below w.heap.size w w' := by
  have a0 : ∀ w : World, (Instr.typeAssert (.iface 101 (.string s)) 20 140 true).run Tryz.prog w = .ok (.tuple #[.int .i64 0, .bool false]) w := fun w => asto_no (z := .int .i64 0) Tryz.underlying140 (fun m h => by cases h) (by kernel_rfl) (by decide)
  have a1 : ∀ w : World, (Instr.typeAssert (.iface 101 (.string s)) 20 141 true).run Tryz.prog w = .ok (.tuple #[.int .i64 0, .bool false]) w := fun w => asto_no (z := .int .i64 0) Tryz.underlying141 (fun m h => by cases h) (by kernel_rfl) (by decide)
  have a2 : ∀ w : World, (Instr.typeAssert (.iface 101 (.string s)) 20 142 true).run Tryz.prog w = .ok (.tuple #[.float .f64 0, .bool false]) w := fun w => asto_no (z := .float .f64 0) Tryz.underlying142 (fun m h => by cases h) (by kernel_rfl) (by decide)
  have a3 : ∀ w : World, (Instr.typeAssert (.iface 101 (.string s)) 20 101 true).run Tryz.prog w = .ok (.tuple #[.string s, .bool true]) w := fun w => asto_yes (z := .string ⟨#[]⟩) Tryz.underlying101 (fun m h => by cases h) (by kernel_rfl)
  go_enter Tryz.func82, Tryz.ntmps82
  go_wp2
  refine bodyPost_ret (v := .agg #[.int .i64 4, .int .i64 0, .int .u64 0, .string s, .slice none 0 0]) (by simp [results, Tryz.results82, go_sem]) rfl ⟨rfl, ?_⟩
  first | exact below1 w _ | exact below2 w _ _

set_option maxRecDepth 100000 in
set_option maxHeartbeats 2000000 in
theorem pl5 (s : ByteArray) (w : World) : Calls Tryz.prog 82 #[.iface 143 (.string s)] w fun e w' => e = .returned (.agg #[.int .i64 5, .int .i64 0, .int .u64 0, .string s, .slice none 0 0]) ∧ Below w.heap.size w w' := by
  have a0 : ∀ w : World, (Instr.typeAssert (.iface 143 (.string s)) 20 140 true).run Tryz.prog w = .ok (.tuple #[.int .i64 0, .bool false]) w := fun w => asto_no (z := .int .i64 0) Tryz.underlying140 (fun m h => by cases h) (by kernel_rfl) (by decide)
  have a1 : ∀ w : World, (Instr.typeAssert (.iface 143 (.string s)) 20 141 true).run Tryz.prog w = .ok (.tuple #[.int .i64 0, .bool false]) w := fun w => asto_no (z := .int .i64 0) Tryz.underlying141 (fun m h => by cases h) (by kernel_rfl) (by decide)
  have a2 : ∀ w : World, (Instr.typeAssert (.iface 143 (.string s)) 20 142 true).run Tryz.prog w = .ok (.tuple #[.float .f64 0, .bool false]) w := fun w => asto_no (z := .float .f64 0) Tryz.underlying142 (fun m h => by cases h) (by kernel_rfl) (by decide)
  have a3 : ∀ w : World, (Instr.typeAssert (.iface 143 (.string s)) 20 101 true).run Tryz.prog w = .ok (.tuple #[.string ⟨#[]⟩, .bool false]) w := fun w => asto_no (z := .string ⟨#[]⟩) Tryz.underlying101 (fun m h => by cases h) (by kernel_rfl) (by decide)
  have a4 : ∀ w : World, (Instr.typeAssert (.iface 143 (.string s)) 20 143 true).run Tryz.prog w = .ok (.tuple #[.string s, .bool true]) w := fun w => asto_yes (z := .string ⟨#[]⟩) Tryz.underlying143 (fun m h => by cases h) (by kernel_rfl)
  go_enter Tryz.func82, Tryz.ntmps82
  go_wp2
  refine bodyPost_ret (v := .agg #[.int .i64 5, .int .i64 0, .int .u64 0, .string s, .slice none 0 0]) (by simp [results, Tryz.results82, go_sem]) rfl ⟨rfl, ?_⟩
  first | exact below1 w _ | exact below2 w _ _

set_option maxRecDepth 100000 in
set_option maxHeartbeats 2000000 in
theorem pl6 (b : Bool) (w : World) : Calls Tryz.prog 82 #[.iface 144 (.bool b)] w fun e w' => e = .returned (.agg #[.int .i64 6, .int .i64 (if b then 1 else 0), .int .u64 0, .string ⟨#[]⟩, .slice none 0 0]) ∧ Below w.heap.size w w' := by
  have a0 : ∀ w : World, (Instr.typeAssert (.iface 144 (.bool b)) 20 140 true).run Tryz.prog w = .ok (.tuple #[.int .i64 0, .bool false]) w := fun w => asto_no (z := .int .i64 0) Tryz.underlying140 (fun m h => by cases h) (by kernel_rfl) (by decide)
  have a1 : ∀ w : World, (Instr.typeAssert (.iface 144 (.bool b)) 20 141 true).run Tryz.prog w = .ok (.tuple #[.int .i64 0, .bool false]) w := fun w => asto_no (z := .int .i64 0) Tryz.underlying141 (fun m h => by cases h) (by kernel_rfl) (by decide)
  have a2 : ∀ w : World, (Instr.typeAssert (.iface 144 (.bool b)) 20 142 true).run Tryz.prog w = .ok (.tuple #[.float .f64 0, .bool false]) w := fun w => asto_no (z := .float .f64 0) Tryz.underlying142 (fun m h => by cases h) (by kernel_rfl) (by decide)
  have a3 : ∀ w : World, (Instr.typeAssert (.iface 144 (.bool b)) 20 101 true).run Tryz.prog w = .ok (.tuple #[.string ⟨#[]⟩, .bool false]) w := fun w => asto_no (z := .string ⟨#[]⟩) Tryz.underlying101 (fun m h => by cases h) (by kernel_rfl) (by decide)
  have a4 : ∀ w : World, (Instr.typeAssert (.iface 144 (.bool b)) 20 143 true).run Tryz.prog w = .ok (.tuple #[.string ⟨#[]⟩, .bool false]) w := fun w => asto_no (z := .string ⟨#[]⟩) Tryz.underlying143 (fun m h => by cases h) (by kernel_rfl) (by decide)
  have a5 : ∀ w : World, (Instr.typeAssert (.iface 144 (.bool b)) 20 144 true).run Tryz.prog w = .ok (.tuple #[.bool b, .bool true]) w := fun w => asto_yes (z := .bool false) Tryz.underlying144 (fun m h => by cases h) (by kernel_rfl)
  have HT := Lib.hid (plTruth b)
  generalize (if b = true then (1 : Int) else 0) = I at HT
  go_enter Tryz.func82, Tryz.ntmps82
  go_wp2_with fail
  refine (HT.out _).mono ?_
  rintro e w1 ⟨rfl, b1⟩
  have d1 := (D5.new w (.int .i64 0) (.int .i64 0) (.int .u64 0) (.string ⟨#[]⟩) (.slice none 0 0)).below b1
  obtain ⟨c0, c1, c2, c3, c4⟩ := d1.c
  have fz : ∀ o, w1.frozen? ⟨w.heap.size, o, none⟩ = false := fun o => d1.f
  have B := (below1 w _).trans (b1.mono (by simp))
  go_wp2
  refine bodyPost_ret (v := .agg #[.int .i64 6, .int .i64 I, .int .u64 0, .string ⟨#[]⟩, .slice none 0 0]) (by simp [results, Tryz.results82, go_sem, World.cell?_setCell_same, World.cell?_setCell_other, c0, c1, c2, c3, c4]) rfl ⟨rfl, ?_⟩
  exact ((((B.setCell (Nat.le_refl _) _).setCell (Nat.le_refl _) _).setCell (Nat.le_refl _) _).setCell (Nat.le_refl _) _).setCell (Nat.le_refl _) _

set_option maxRecDepth 100000 in
set_option maxHeartbeats 2000000 in
theorem pl10 (c : Int) (s : ByteArray) (w : World) : Calls Tryz.prog 82 #[.iface 154 (.agg #[.int .i64 c, .string s])] w fun e w' => e = .returned (.agg #[.int .i64 10, .int .i64 c, .int .u64 0, .string s, .slice none 0 0]) ∧ Below w.heap.size w w' := by
  have a0 : ∀ w : World, (Instr.typeAssert (.iface 154 (.agg #[.int .i64 c, .string s])) 20 140 true).run Tryz.prog w = .ok (.tuple #[.int .i64 0, .bool false]) w := fun w => asto_no (z := .int .i64 0) Tryz.underlying140 (fun m h => by cases h) (by kernel_rfl) (by decide)
  have a1 : ∀ w : World, (Instr.typeAssert (.iface 154 (.agg #[.int .i64 c, .string s])) 20 141 true).run Tryz.prog w = .ok (.tuple #[.int .i64 0, .bool false]) w := fun w => asto_no (z := .int .i64 0) Tryz.underlying141 (fun m h => by cases h) (by kernel_rfl) (by decide)
  have a2 : ∀ w : World, (Instr.typeAssert (.iface 154 (.agg #[.int .i64 c, .string s])) 20 142 true).run Tryz.prog w = .ok (.tuple #[.float .f64 0, .bool false]) w := fun w => asto_no (z := .float .f64 0) Tryz.underlying142 (fun m h => by cases h) (by kernel_rfl) (by decide)
  have a3 : ∀ w : World, (Instr.typeAssert (.iface 154 (.agg #[.int .i64 c, .string s])) 20 101 true).run Tryz.prog w = .ok (.tuple #[.string ⟨#[]⟩, .bool false]) w := fun w => asto_no (z := .string ⟨#[]⟩) Tryz.underlying101 (fun m h => by cases h) (by kernel_rfl) (by decide)
  have a4 : ∀ w : World, (Instr.typeAssert (.iface 154 (.agg #[.int .i64 c, .string s])) 20 143 true).run Tryz.prog w = .ok (.tuple #[.string ⟨#[]⟩, .bool false]) w := fun w => asto_no (z := .string ⟨#[]⟩) Tryz.underlying143 (fun m h => by cases h) (by kernel_rfl) (by decide)
  have a5 : ∀ w : World, (Instr.typeAssert (.iface 154 (.agg #[.int .i64 c, .string s])) 20 144 true).run Tryz.prog w = .ok (.tuple #[.bool false, .bool false]) w := fun w => asto_no (z := .bool false) Tryz.underlying144 (fun m h => by cases h) (by kernel_rfl) (by decide)
  have a6 : ∀ w : World, (Instr.typeAssert (.iface 154 (.agg #[.int .i64 c, .string s])) 20 147 true).run Tryz.prog w = .ok (.tuple #[.slice none 0 0, .bool false]) w := fun w => asto_no (z := .slice none 0 0) Tryz.underlying147 (fun m h => by cases h) (by kernel_rfl) (by decide)
  have a7 : ∀ w : World, (Instr.typeAssert (.iface 154 (.agg #[.int .i64 c, .string s])) 20 149 true).run Tryz.prog w = .ok (.tuple #[.slice none 0 0, .bool false]) w := fun w => asto_no (z := .slice none 0 0) Tryz.underlying149 (fun m h => by cases h) (by kernel_rfl) (by decide)
  have a8 : ∀ w : World, (Instr.typeAssert (.iface 154 (.agg #[.int .i64 c, .string s])) 20 152 true).run Tryz.prog w = .ok (.tuple #[.agg #[.nilIface, .nilIface], .bool false]) w := fun w => asto_no (z := .agg #[.nilIface, .nilIface]) Tryz.underlying152 (fun m h => by cases h) (by kernel_rfl) (by decide)
  have a9 : ∀ w : World, (Instr.typeAssert (.iface 154 (.agg #[.int .i64 c, .string s])) 20 154 true).run Tryz.prog w = .ok (.tuple #[.agg #[.int .i64 c, .string s], .bool true]) w := fun w => asto_yes (z := .agg #[.int .i64 0, .string ⟨#[]⟩]) Tryz.underlying154 (fun m h => by cases h) (by kernel_rfl)
  go_enter Tryz.func82, Tryz.ntmps82
  go_wp2
  refine bodyPost_ret (v := .agg #[.int .i64 10, .int .i64 c, .int .u64 0, .string s, .slice none 0 0]) (by simp [results, Tryz.results82, go_sem]) rfl ⟨rfl, ?_⟩
  first | exact below1 w _ | exact below2 w _ _

set_option maxRecDepth 100000 in
set_option maxHeartbeats 2000000 in
theorem pl13 (w : World) : Calls Tryz.prog 82 #[.iface 157 (.agg #[])] w fun e w' => e = .returned (.agg #[.int .i64 13, .int .i64 0, .int .u64 0, .string ⟨#[]⟩, .slice none 0 0]) ∧ Below w.heap.size w w' := by
  have a0 : ∀ w : World, (Instr.typeAssert (.iface 157 (.agg #[])) 20 140 true).run Tryz.prog w = .ok (.tuple #[.int .i64 0, .bool false]) w := fun w => asto_no (z := .int .i64 0) Tryz.underlying140 (fun m h => by cases h) (by kernel_rfl) (by decide)
  have a1 : ∀ w : World, (Instr.typeAssert (.iface 157 (.agg #[])) 20 141 true).run Tryz.prog w = .ok (.tuple #[.int .i64 0, .bool false]) w := fun w => asto_no (z := .int .i64 0) Tryz.underlying141 (fun m h => by cases h) (by kernel_rfl) (by decide)
  have a2 : ∀ w : World, (Instr.typeAssert (.iface 157 (.agg #[])) 20 142 true).run Tryz.prog w = .ok (.tuple #[.float .f64 0, .bool false]) w := fun w => asto_no (z := .float .f64 0) Tryz.underlying142 (fun m h => by cases h) (by kernel_rfl) (by decide)
  have a3 : ∀ w : World, (Instr.typeAssert (.iface 157 (.agg #[])) 20 101 true).run Tryz.prog w = .ok (.tuple #[.string ⟨#[]⟩, .bool false]) w := fun w => asto_no (z := .string ⟨#[]⟩) Tryz.underlying101 (fun m h => by cases h) (by kernel_rfl) (by decide)
  have a4 : ∀ w : World, (Instr.typeAssert (.iface 157 (.agg #[])) 20 143 true).run Tryz.prog w = .ok (.tuple #[.string ⟨#[]⟩, .bool false]) w := fun w => asto_no (z := .string ⟨#[]⟩) Tryz.underlying143 (fun m h => by cases h) (by kernel_rfl) (by decide)
  have a5 : ∀ w : World, (Instr.typeAssert (.iface 157 (.agg #[])) 20 144 true).run Tryz.prog w = .ok (.tuple #[.bool false, .bool false]) w := fun w => asto_no (z := .bool false) Tryz.underlying144 (fun m h => by cases h) (by kernel_rfl) (by decide)
  have a6 : ∀ w : World, (Instr.typeAssert (.iface 157 (.agg #[])) 20 147 true).run Tryz.prog w = .ok (.tuple #[.slice none 0 0, .bool false]) w := fun w => asto_no (z := .slice none 0 0) Tryz.underlying147 (fun m h => by cases h) (by kernel_rfl) (by decide)
  have a7 : ∀ w : World, (Instr.typeAssert (.iface 157 (.agg #[])) 20 149 true).run Tryz.prog w = .ok (.tuple #[.slice none 0 0, .bool false]) w := fun w => asto_no (z := .slice none 0 0) Tryz.underlying149 (fun m h => by cases h) (by kernel_rfl) (by decide)
  have a8 : ∀ w : World, (Instr.typeAssert (.iface 157 (.agg #[])) 20 152 true).run Tryz.prog w = .ok (.tuple #[.agg #[.nilIface, .nilIface], .bool false]) w := fun w => asto_no (z := .agg #[.nilIface, .nilIface]) Tryz.underlying152 (fun m h => by cases h) (by kernel_rfl) (by decide)
  have a9 : ∀ w : World, (Instr.typeAssert (.iface 157 (.agg #[])) 20 154 true).run Tryz.prog w = .ok (.tuple #[.agg #[.int .i64 0, .string ⟨#[]⟩], .bool false]) w := fun w => asto_no (z := .agg #[.int .i64 0, .string ⟨#[]⟩]) Tryz.underlying154 (fun m h => by cases h) (by kernel_rfl) (by decide)
  have a10 : ∀ w : World, (Instr.typeAssert (.iface 157 (.agg #[])) 20 155 true).run Tryz.prog w = .ok (.tuple #[.pointer none, .bool false]) w := fun w => asto_no (z := .pointer none) Tryz.underlying155 (fun m h => by cases h) (by kernel_rfl) (by decide)
  have a11 : ∀ w : World, (Instr.typeAssert (.iface 157 (.agg #[])) 20 157 true).run Tryz.prog w = .ok (.tuple #[.agg #[], .bool true]) w := fun w => asto_yes (z := .agg #[]) Tryz.underlying157 (fun m h => by cases h) (by kernel_rfl)
  go_enter Tryz.func82, Tryz.ntmps82
  go_wp2
  refine bodyPost_ret (v := .agg #[.int .i64 13, .int .i64 0, .int .u64 0, .string ⟨#[]⟩, .slice none 0 0]) (by simp [results, Tryz.results82, go_sem]) rfl ⟨rfl, ?_⟩
  first | exact below1 w _ | exact below2 w _ _
end Go.Proofs.YtajagjcfmaggiaaGreatDoor.Dt
/- The size of a value, asked for by a two-valued assertion: the size, or none; the conditions: what stands for the value. -/
namespace Go.Proofs.YtajagjcfmaggiaaGreatDoor
open Go.RowKit

/-- A value that tells its size. -/
def Szd (v : Value) (r : Int) : Prop := ∃ T z F, v = .iface T z ∧ (∀ w : World, (method 367 T z "Size").run Tryz.prog w = .ok (F, z) w) ∧ (∀ (args : Array Value) (w : World), (callFunc F args).run Tryz.prog w = .ok (.enter F args) w) ∧ (∀ w : World, (Instr.typeAssert (.iface T z) 20 204 true).run Tryz.prog w = .ok (.tuple #[.iface T z, .bool true]) w) ∧ (∀ w, Calls Tryz.prog F #[z] w fun e w' => e = .returned (.int .i64 r) ∧ Below w.heap.size w w')

set_option maxRecDepth 100000 in
set_option maxHeartbeats 2000000 in
theorem size_yes (k i u r : Int) (s : ByteArray) (ad : Option Addr) (len cap : Nat) (w : World)
    (hO : ∀ wx, Below w.heap.size w wx → Calls Tryz.prog 76 #[.agg #[.int .i64 k, .int .i64 i, .int .u64 u, .string s, .slice ad len cap]] wx fun e w' => ∃ v, e = .returned v ∧ Hid (Szd v r) ∧ Below wx.heap.size wx w') :
    Calls Tryz.prog 110 #[.agg #[.int .i64 k, .int .i64 i, .int .u64 u, .string s, .slice ad len cap]] w fun e w' => e = .returned (.agg (rcs 0 0 0 0 true 1 r 0 ⟨#[]⟩ none 0 0)) ∧ Below w.heap.size w w' := by
  have GV : Hid (∀ (k i b : Int) (s : ByteArray) (ad : Option Addr) (len cap : Nat) (w : World), Calls Tryz.prog 103 #[.agg #[.int .i64 k, .int .i64 i, .int .u64 b, .string s, .slice ad len cap]] w fun e w' => e = .returned (.agg (rcs 0 0 0 0 true k i b s ad len cap)) ∧ Below w.heap.size w w') := gave_any
  have PL := Lib.hid Dt.pl1
  have HO := Lib.hid hO
  clear hO
  have B0 := below2 w (.cells #[.int .i64 k, .int .i64 i, .int .u64 u, .string s, .slice ad len cap] 25) (.cells (rErr 0 0 0 0) 33)
  have R0 := Bk.new2 w (.cells #[.int .i64 k, .int .i64 i, .int .u64 u, .string s, .slice ad len cap] 25) (rErr 0 0 0 0) 33
  go_enter Tryz.func110, Tryz.ntmps110
  go_wp2_with fail
  refine (HO.out _ B0).mono ?_
  rintro e w1 ⟨v, rfl, hs, b1⟩
  have B1 := B0.trans (b1.mono B0.size)
  have R1 := R0.step b1
  obtain ⟨T, z, F, rfl, hmm, hcf, has, hS⟩ := hs.out
  have HS := Lib.hid hS
  clear hS hs b1 B0 R0
  go_wp2_with fail
  refine (HS.out _).mono ?_
  rintro e w2 ⟨rfl, b2⟩
  have B2 := B1.trans (b2.mono B1.size)
  have R2 := R1.step b2
  clear b2 B1 R1
  go_wp2_with fail
  refine (PL.out r _).mono ?_
  rintro e w3 ⟨rfl, b3⟩
  have B3 := B2.trans (b3.mono B2.size)
  have R3 := R2.step b3
  clear b3 B2 R2
  go_wp2_with fail
  refine (GV.out _ _ _ _ _ _ _ _).mono ?_
  rintro e w4 ⟨rfl, b4⟩
  have B4 := B3.trans (b4.mono B3.size)
  have r2 := R3.step b4
  clear b4 B3 R3
  obtain ⟨c0, c1, c2, c3, c4, c5, c6, c7, c8, c9⟩ := r2.c10
  have z2 := r2.f
  go_wp2_with fail
  obtain ⟨k1, k2, k3, k4⟩ := set10 r2 (.int .i64 0) (.int .i64 0) (.int .i64 0) (.int .i64 0) (.bool true) (.int .i64 1) (.int .i64 r) (.int .u64 0) (.string ⟨#[]⟩) (.slice none 0 0) rfl
  have KF := B4.trans (k4.mono (by omega))
  obtain ⟨q0, q1, q2, q3, q4, q5, q6, q7, q8, q9⟩ := k1.c10
  refine bodyPost_ret (v := .agg (rcs 0 0 0 0 true 1 r 0 ⟨#[]⟩ none 0 0)) ?_ rfl ⟨rfl, KF⟩
  simp [results, Tryz.results110, go_sem, q0, q1, q2, q3, q4, q5, q6, q7, q8, q9]

set_option maxRecDepth 100000 in
set_option maxHeartbeats 2000000 in
theorem size_no (k i u : Int) (s : ByteArray) (ad : Option Addr) (len cap : Nat) (w : World)
    (hO : ∀ wx, Below w.heap.size w wx → Calls Tryz.prog 76 #[.agg #[.int .i64 k, .int .i64 i, .int .u64 u, .string s, .slice ad len cap]] wx fun e w' => ∃ v, e = .returned v ∧ Sx v ∧ Hid (∀ w, (Instr.typeAssert v 20 204 true).run Tryz.prog w = .ok (.tuple #[.nilIface, .bool false]) w) ∧ Below wx.heap.size wx w') :
    Calls Tryz.prog 110 #[.agg #[.int .i64 k, .int .i64 i, .int .u64 u, .string s, .slice ad len cap]] w fun e w' => e = .returned (.agg (rErr 12 0 0 0)) ∧ Below w.heap.size w w' := by
  have HO := Lib.hid hO
  clear hO
  have B0 := below2 w (.cells #[.int .i64 k, .int .i64 i, .int .u64 u, .string s, .slice ad len cap] 25) (.cells (rErr 0 0 0 0) 33)
  have R0 := Bk.new2 w (.cells #[.int .i64 k, .int .i64 i, .int .u64 u, .string s, .slice ad len cap] 25) (rErr 0 0 0 0) 33
  go_enter Tryz.func110, Tryz.ntmps110
  go_wp2_with fail
  refine (HO.out _ B0).mono ?_
  rintro e w1 ⟨v, rfl, hs, ha, b1⟩
  have B1 := B0.trans (b1.mono B0.size)
  have r2 := R0.step b1
  have has := ha.out
  clear b1 B0 R0 ha
  obtain ⟨c0, c1, c2, c3, c4, c5, c6, c7, c8, c9⟩ := r2.c10
  have z2 := r2.f
  rcases hs with rfl | ⟨T, z, rfl⟩
  all_goals
    go_wp2_with fail
    obtain ⟨k1, k2, k3, k4⟩ := set10 r2 (.int .i64 12) (.int .i64 0) (.int .i64 0) (.int .i64 0) (.bool false) (.int .i64 0) (.int .i64 0) (.int .u64 0) (.string ⟨#[]⟩) (.slice none 0 0) rfl
    have KF := B1.trans (k4.mono (by omega))
    obtain ⟨q0, q1, q2, q3, q4, q5, q6, q7, q8, q9⟩ := k1.c10
    refine bodyPost_ret (v := .agg (rErr 12 0 0 0)) ?_ rfl ⟨rfl, KF⟩
    simp [results, Tryz.results110, go_sem, q0, q1, q2, q3, q4, q5, q6, q7, q8, q9]
end Go.Proofs.YtajagjcfmaggiaaGreatDoor
