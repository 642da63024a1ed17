/- The size of a value, asked for by a two-valued assertion: the size, or none; the conditions: what stands for the value. -/
import Derived.Test.YtajagjcfmaggiaaGreatDoorKCad
import Derived.Test.YtajagjcfmaggiaaGreatDoorKCba
import Derived.Test.YtajagjcfmaggiaaGreatDoorKCbb
import Derived.Test.YtajagjcfmaggiaaGreatDoorKCae
namespace Go.Proofs.YtajagjcfmaggiaaGreatDoor
open Go.RowKit

/-- A value that tells its size. -/
def Szd (v : Value) (r : Int) : Prop := ∃ T z F, v = .iface T z ∧ (∀ w : World, (method 367 T z "Size").run Tryz.prog w = .ok (F, z) w) ∧ (∀ (args : Array Value) (w : World), (callFunc F args).run Tryz.prog w = .ok (.enter F args) w) ∧ (∀ w : World, (Instr.typeAssert (.iface T z) 20 204 true).run Tryz.prog w = .ok (.tuple #[.iface T z, .bool true]) w) ∧ (∀ w, Calls Tryz.prog F #[z] w fun e w' => e = .returned (.int .i64 r) ∧ Below w.heap.size w w')

set_option maxRecDepth 100000 in
set_option maxHeartbeats 2000000 in
theorem size_yes (k i u r : Int) (s : ByteArray) (ad : Option Addr) (len cap : Nat) (w : World)
    (hO : ∀ wx, Below w.heap.size w wx → Calls Tryz.prog 76 #[.agg #[.int .i64 k, .int .i64 i, .int .u64 u, .string s, .slice ad len cap]] wx fun e w' => ∃ v, e = .returned v ∧ Hid (Szd v r) ∧ Below wx.heap.size wx w') :
    Calls Tryz.prog 110 #[.agg #[.int .i64 k, .int .i64 i, .int .u64 u, .string s, .slice ad len cap]] w fun e w' => e = .returned (.agg (rcs 0 0 0 0 true 1 r 0 ⟨#[]⟩ none 0 0)) ∧ Below w.heap.size w w' := by
  have GV : Hid (∀ (k i b : Int) (s : ByteArray) (ad : Option Addr) (len cap : Nat) (w : World), Calls Tryz.prog 103 #[.agg #[.int .i64 k, .int .i64 i, .int .u64 b, .string s, .slice ad len cap]] w fun e w' => e = .returned (.agg (rcs 0 0 0 0 true k i b s ad len cap)) ∧ Below w.heap.size w w') := gave_any
  have PL := Lib.hid Dt.pl1
  have HO := Lib.hid hO
  clear hO
  have B0 := below2 w (.cells #[.int .i64 k, .int .i64 i, .int .u64 u, .string s, .slice ad len cap] 25) (.cells (rErr 0 0 0 0) 33)
  have R0 := Bk.new2 w (.cells #[.int .i64 k, .int .i64 i, .int .u64 u, .string s, .slice ad len cap] 25) (rErr 0 0 0 0) 33
  go_enter Tryz.func110, Tryz.ntmps110
  go_wp2_with fail
  refine (HO.out _ B0).mono ?_
  rintro e w1 ⟨v, rfl, hs, b1⟩
  have B1 := B0.trans (b1.mono B0.size)
  have R1 := R0.step b1
  obtain ⟨T, z, F, rfl, hmm, hcf, has, hS⟩ := hs.out
  have HS := Lib.hid hS
  clear hS hs b1 B0 R0
  go_wp2_with fail
  refine (HS.out _).mono ?_
  rintro e w2 ⟨rfl, b2⟩
  have B2 := B1.trans (b2.mono B1.size)
  have R2 := R1.step b2
  clear b2 B1 R1
  go_wp2_with fail
  refine (PL.out r _).mono ?_
  rintro e w3 ⟨rfl, b3⟩
  have B3 := B2.trans (b3.mono B2.size)
  have R3 := R2.step b3
  clear b3 B2 R2
  go_wp2_with fail
  refine (GV.out _ _ _ _ _ _ _ _).mono ?_
  rintro e w4 ⟨rfl, b4⟩
  have B4 := B3.trans (b4.mono B3.size)
  have r2 := R3.step b4
  clear b4 B3 R3
  obtain ⟨c0, c1, c2, c3, c4, c5, c6, c7, c8, c9⟩ := r2.c10
  have z2 := r2.f
  go_wp2_with fail
  obtain ⟨k1, k2, k3, k4⟩ := set10 r2 (.int .i64 0) (.int .i64 0) (.int .i64 0) (.int .i64 0) (.bool true) (.int .i64 1) (.int .i64 r) (.int .u64 0) (.string ⟨#[]⟩) (.slice none 0 0) rfl
  have KF := B4.trans (k4.mono (by omega))
  obtain ⟨q0, q1, q2, q3, q4, q5, q6, q7, q8, q9⟩ := k1.c10
  refine bodyPost_ret (v := .agg (rcs 0 0 0 0 true 1 r 0 ⟨#[]⟩ none 0 0)) ?_ rfl ⟨rfl, KF⟩
  simp [results, Tryz.results110, go_sem, q0, q1, q2, q3, q4, q5, q6, q7, q8, q9]

set_option maxRecDepth 100000 in
set_option maxHeartbeats 2000000 in
theorem size_no (k i u : Int) (s : ByteArray) (ad : Option Addr) (len cap : Nat) (w : World)
    (hO : ∀ wx, Below w.heap.size w wx → Calls Tryz.prog 76 #[.agg #[.int .i64 k, .int .i64 i, .int .u64 u, .string s, .slice ad len cap]] wx fun e w' => ∃ v, e = .returned v ∧ Sx v ∧ Hid (∀ w, (Instr.typeAssert v 20 204 true).run Tryz.prog w = .ok (.tuple #[.nilIface, .bool false]) w) ∧ Below wx.heap.size wx w') :
    Calls Tryz.prog 110 #[.agg #[.int .i64 k, .int .i64 i, .int .u64 u, .string s, .slice ad len cap]] w fun e w' => e = .returned (.agg (rErr 12 0 0 0)) ∧ Below w.heap.size w w' := by
  have HO := Lib.hid hO
  clear hO
  have B0 := below2 w (.cells #[.int .i64 k, .int .i64 i, .int .u64 u, .string s, .slice ad len cap] 25) (.cells (rErr 0 0 0 0) 33)
  have R0 := Bk.new2 w (.cells #[.int .i64 k, .int .i64 i, .int .u64 u, .string s, .slice ad len cap] 25) (rErr 0 0 0 0) 33
  go_enter Tryz.func110, Tryz.ntmps110
  go_wp2_with fail
  refine (HO.out _ B0).mono ?_
  rintro e w1 ⟨v, rfl, hs, ha, b1⟩
  have B1 := B0.trans (b1.mono B0.size)
  have r2 := R0.step b1
  have has := ha.out
  clear b1 B0 R0 ha
  obtain ⟨c0, c1, c2, c3, c4, c5, c6, c7, c8, c9⟩ := r2.c10
  have z2 := r2.f
  rcases hs with rfl | ⟨T, z, rfl⟩
  all_goals
    go_wp2_with fail
    obtain ⟨k1, k2, k3, k4⟩ := set10 r2 (.int .i64 12) (.int .i64 0) (.int .i64 0) (.int .i64 0) (.bool false) (.int .i64 0) (.int .i64 0) (.int .u64 0) (.string ⟨#[]⟩) (.slice none 0 0) rfl
    have KF := B1.trans (k4.mono (by omega))
    obtain ⟨q0, q1, q2, q3, q4, q5, q6, q7, q8, q9⟩ := k1.c10
    refine bodyPost_ret (v := .agg (rErr 12 0 0 0)) ?_ rfl ⟨rfl, KF⟩
    simp [results, Tryz.results110, go_sem, q0, q1, q2, q3, q4, q5, q6, q7, q8, q9]
end Go.Proofs.YtajagjcfmaggiaaGreatDoor
/- The package's Plain of a row: a list of the plain data in new memory; the conditions: the row in memory, and Plain's own contract for the parts. -/
namespace Go.Proofs.YtajagjcfmaggiaaGreatDoor.Dt
open Go.RowKit
set_option maxRecDepth 100000 in
set_option maxHeartbeats 2000000 in
theorem all_pl (F0 : Nat → Prop) (W0 : World) (m : Nat) (ks : List (Tr m))
    (ih : ∀ (t : Tr m) (v : Value) (w : World), rgt m t = true → r64 m t → (pts m t).1 ≤ 4096 → VR F0 W0 m v t → Below W0.heap.size W0 w →
      Calls Tryz.prog 82 #[v] w fun e w' => ∃ v0 v1 v2 v3 v4, e = .returned (.agg #[v0, v1, v2, v3, v4]) ∧ Rf (fun g => w.heap.size ≤ g ∧ g < w'.heap.size) w' m [v0, v1, v2, v3, v4] t ∧ Below w.heap.size w w')
    (ad : Option Addr) (cap : Nat) (w : World) (hb0 : Below W0.heap.size W0 w) (hn : ks.length ≤ 4096) (hrg : ks.all (rgt m) = true) (hps : ∀ t ∈ ks, (pts m t).1 ≤ 4096) (h64 : ∀ t ∈ ks, r64 m t)
    (hk : (ks = [] ∨ ∃ g, ad = some ⟨g, 0, none⟩ ∧ ∀ (j : Nat) (t' : Tr m), ks[j]? = some t' → ∃ u, W0.cell? ⟨g, j, none⟩ = some u ∧ VR F0 W0 m u t')) :
    Calls Tryz.prog 92 #[.slice ad ks.length cap] w fun e w' => ∃ g c, e = .returned (.slice (some ⟨g, 0, none⟩) ks.length c) ∧ ks.length ≤ c ∧ c ≤ maxLen ∧ w.heap.size ≤ g ∧ g < w'.heap.size ∧ (∀ q, w'.frozen? ⟨g, q, none⟩ = false) ∧ (∀ (j : Nat) (t : Tr m), ks[j]? = some t → ∃ v0 v1 v2 v3 v4, w'.cell? ⟨g, j * 5, none⟩ = some v0 ∧ w'.cell? ⟨g, j * 5 + 1, none⟩ = some v1 ∧ w'.cell? ⟨g, j * 5 + 2, none⟩ = some v2 ∧ w'.cell? ⟨g, j * 5 + 3, none⟩ = some v3 ∧ w'.cell? ⟨g, j * 5 + 4, none⟩ = some v4 ∧ Rf (fun g => w.heap.size ≤ g ∧ g < w'.heap.size) w' m [v0, v1, v2, v3, v4] t) ∧ Below w.heap.size w w' := by
  obtain ⟨i0, hz20, hze, hsz, hby⟩ := infoDat_parts
  have hmk : ∀ w : World, (Instr.makeSlice 23 (.int .i64 ks.length) (.int .i64 ks.length)).run Tryz.prog w = .ok (.slice (some ⟨w.heap.size, 0, none⟩) ks.length ks.length) (w.alloc (.cells (madeCells (Value.cells (.agg #[.int .i64 0, .int .i64 0, .int .u64 0, .string ⟨#[]⟩, .slice none 0 0])) (ks.length * 5)) 25)) := fun w => by
    have := run_makeSlice (P := Tryz.prog) w 23 25 i0 _ Tryz.underlying23 hz20 hze .i64 .i64 ks.length ks.length (by omega) (Int.le_refl _) (by rw [hsz]; simp; omega) (by rw [hby]; omega) (by omega)
    simpa [hsz] using this
  have hb0s := hb0.size
  have r2 : Rq (w.alloc (.cells (madeCells (Value.cells (.agg #[.int .i64 0, .int .i64 0, .int .u64 0, .string ⟨#[]⟩, .slice none 0 0])) (ks.length * 5)) 25)) w.heap.size ks.length := by
    exact ⟨_, heap_alloc_new w _, size_madeCells _ _⟩
  have b2 : Below w.heap.size w (w.alloc (.cells (madeCells (Value.cells (.agg #[.int .i64 0, .int .i64 0, .int .u64 0, .string ⟨#[]⟩, .slice none 0 0])) (ks.length * 5)) 25)) := below1 w _
  have HI := Lib.hid ih
  have HK := Lib.hid hk
  have HR := Lib.hid hrg
  have HP := Lib.hid hps
  have H6 := Lib.hid h64
  clear ih hk hrg hps h64 hz20 hsz hby hze
  generalize madeCells (Value.cells (.agg #[.int .i64 0, .int .i64 0, .int .u64 0, .string ⟨#[]⟩, .slice none 0 0])) (ks.length * 5) = mc at *
  go_enter Tryz.func92, Tryz.ntmps92
  go_wp2_with fail
  go_loopw [11] (fun si wr => ∃ (j : Nat), si = .int .i64 j ∧ j ≤ ks.length ∧ Lq wr w.heap.size ks.length (fun g => w.heap.size + 1 ≤ g ∧ g < wr.heap.size) m ks j ∧ Below w.heap.size w wr) (fun si _ => ks.length - (intOf si).toNat)
  case atStart => exact ⟨0, rfl, Nat.zero_le _, ⟨r2, fun k _ hk => absurd hk (Nat.not_lt_zero _)⟩, b2⟩
  case round =>
    obtain ⟨j, rfl, hj, rw1, g1⟩ := hrel
    have o1 : Below W0.heap.size W0 wr := hb0.trans (g1.mono hb0.size)
    by_cases hlt : j < ks.length
    · have hne : ks ≠ [] := by intro e; rw [e] at hlt; exact absurd hlt (Nat.not_lt_zero _)
      rcases HK.out with hk | ⟨g, hk1, hk2⟩
      · exact absurd hk hne
      subst hk1
      obtain ⟨v, e0, rk⟩ := hk2 j _ (List.getElem?_eq_getElem hlt)
      have hg : g < W0.heap.size := World.block_lt_of_cell? W0 _ e0
      have y0 := (o1.cell (p := ⟨g, j, none⟩) hg).trans e0
      have hrt : rgt m ks[j] = true := List.all_eq_true.1 HR.out _ (List.getElem_mem hlt)
      have h4 := HP.out _ (List.getElem_mem hlt)
      have h6 := H6.out _ (List.getElem_mem hlt)
      have sx := vr_any rk
      have zr := rw1.1.lt
      have HV := Lib.hid (HI.out ks[j] v wr hrt h6 h4 rk o1)
      clear e0 hk2 HK
      have step : Hid (∀ w2 v0 v1 v2 v3 v4, Below wr.heap.size wr w2 → Rf (fun g => wr.heap.size ≤ g ∧ g < w2.heap.size) w2 m [v0, v1, v2, v3, v4] ks[j] → ∀ W, W = ((((w2.setCell ⟨w.heap.size, j * 5, none⟩ v0).setCell ⟨w.heap.size, j * 5 + 1, none⟩ v1).setCell ⟨w.heap.size, j * 5 + 2, none⟩ v2).setCell ⟨w.heap.size, j * 5 + 3, none⟩ v3).setCell ⟨w.heap.size, j * 5 + 4, none⟩ v4 → Lq W w.heap.size ks.length (fun g => w.heap.size + 1 ≤ g ∧ g < W.heap.size) m ks (j + 1) ∧ Below w.heap.size w W) := fun w2 v0 v1 v2 v3 v4 bw rf W hW => by
        have k2 := rw1.1.below bw
        have hs2 := bw.size
        obtain ⟨s1, s2, s3, s4, s5⟩ := set5_at w2 w.heap.size ks.length j k2 hlt v0 v1 v2 v3 v4 hW
        refine ⟨⟨s1, fun k t hk ht => ?_⟩, ?_⟩
        · by_cases e : k = j
          · subst e
            rw [List.getElem?_eq_getElem hlt] at ht
            obtain rfl := Option.some.inj ht
            obtain ⟨a0, a1, a2, a3, a4⟩ := s4
            exact ⟨v0, v1, v2, v3, v4, a0, a1, a2, a3, a4, Rf.to (fun q hq => ⟨⟨by have := hq.1; omega, by rw [s2]; exact hq.2⟩, s3 q (by have := hq.1; omega)⟩) _ _ _ rf⟩
          · obtain ⟨u0, u1, u2, u3, u4, a0, a1, a2, a3, a4, rr⟩ := rw1.2 k t (by omega) ht
            have tr : ∀ o x, (o < j * 5 ∨ j * 5 + 4 < o) → wr.cell? ⟨w.heap.size, o, none⟩ = some x → W.cell? ⟨w.heap.size, o, none⟩ = some x := fun o x ho hx => (s5 o ho).trans ((bw.cell (p := ⟨w.heap.size, o, none⟩) zr).trans hx)
            exact ⟨u0, u1, u2, u3, u4, tr _ _ (by omega) a0, tr _ _ (by omega) a1, tr _ _ (by omega) a2, tr _ _ (by omega) a3, tr _ _ (by omega) a4, Rf.to (fun q hq => ⟨⟨hq.1, by rw [s2]; have := hq.2; omega⟩, (s3 q (by have := hq.1; omega)).trans (bw.block q hq.2)⟩) _ _ _ rr⟩
        · subst hW
          have g2 : Below w.heap.size w w2 := g1.trans (bw.mono g1.size)
          exact ((((g2.setCell (Nat.le_refl _) _).setCell (Nat.le_refl _) _).setCell (Nat.le_refl _) _).setCell (Nat.le_refl _) _).setCell (Nat.le_refl _) _
      have kcs : Hid (∀ w2, Below wr.heap.size wr w2 → (∃ x, w2.cell? ⟨w.heap.size, j * 5, none⟩ = some x) ∧ (∃ x, w2.cell? ⟨w.heap.size, j * 5 + 1, none⟩ = some x) ∧ (∃ x, w2.cell? ⟨w.heap.size, j * 5 + 2, none⟩ = some x) ∧ (∃ x, w2.cell? ⟨w.heap.size, j * 5 + 3, none⟩ = some x) ∧ (∃ x, w2.cell? ⟨w.heap.size, j * 5 + 4, none⟩ = some x) ∧ ∀ o, w2.frozen? ⟨w.heap.size, o, none⟩ = false) := fun w2 bw => by
        have k2 := rw1.1.below bw
        exact ⟨k2.c (by omega), k2.c (by omega), k2.c (by omega), k2.c (by omega), k2.c (by omega), fun o => k2.f⟩
      clear rw1 rk o1
      rcases sx with rfl | ⟨T, z, rfl⟩
      all_goals
        go_wp2_with fail
        refine HV.out.mono ?_
        rintro e w2 ⟨v0, v1, v2, v3, v4, rfl, rf, bw⟩
        obtain ⟨u0, u1, u2, u3, a4, n4, c4', rfl, rfl, rfl, rfl, rfl⟩ := rep_shape (Rf.rep _ _ _ rf)
        have st := Lib.hid (step.out w2 _ _ _ _ _ bw rf)
        obtain ⟨⟨x0, k0⟩, ⟨x1, k1⟩, ⟨x2, k2⟩, ⟨x3, k3⟩, ⟨x4, k4⟩, kf⟩ := kcs.out w2 bw
        clear rf
        go_wp2_with fail
        exact ⟨⟨j + 1, by go_num, by omega, st.out _ rfl⟩, by simp [intOf]; omega⟩
    · have hje : j = ks.length := by omega
      subst hje
      have zr := rw1.1.lt
      go_wp2_with fail
      go_ret
      exact ⟨_, _, rfl, Nat.le_refl _, by unfold maxLen; omega, Nat.le_refl _, zr, fun q => rw1.1.f, fun j t h => by
        obtain ⟨v0, v1, v2, v3, v4, a0, a1, a2, a3, a4, r⟩ := rw1.2 j t (List.getElem?_eq_some_iff.1 h).1 h
        exact ⟨v0, v1, v2, v3, v4, a0, a1, a2, a3, a4, Rf.to (fun q hq => ⟨⟨by have := hq.1; omega, hq.2⟩, rfl⟩) _ _ _ r⟩, g1⟩

end Go.Proofs.YtajagjcfmaggiaaGreatDoor.Dt
