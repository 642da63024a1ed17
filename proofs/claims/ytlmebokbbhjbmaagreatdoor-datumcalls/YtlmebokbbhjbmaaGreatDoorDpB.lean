/- The package's Plain of a row: a list of the plain data in new memory; the conditions: the row in memory, and Plain's own contract for the parts. -/
import Derived.Test.YtlmebokbbhjbmaaGreatDoorDpA
namespace Go.Proofs.YtlmebokbbhjbmaaGreatDoor.Dt
open Go.RowKit
/-- A block of n places for plain data. -/
def Rq (w : World) (N n : Nat) : Prop := ∃ cs : Array Value, w.heap[N]? = some (.cells cs 25 (0, 0)) ∧ cs.size = n * 5
theorem Rq.lt {w : World} {N n : Nat} (h : Rq w N n) : N < w.heap.size := by obtain ⟨cs, h, -⟩ := h; exact (Array.getElem?_eq_some_iff.1 h).1
theorem Rq.below {w w' : World} {N n : Nat} (h : Rq w N n) (hb : Below w.heap.size w w') : Rq w' N n := by
  have hl := h.lt
  obtain ⟨cs, h, e⟩ := h; exact ⟨cs, (hb.block N hl).trans h, e⟩
theorem Rq.c {w : World} {N n j : Nat} (h : Rq w N n) (hj : j < n * 5) : ∃ x, w.cell? ⟨N, j, none⟩ = some x := by
  obtain ⟨cs, h, e⟩ := h
  exact ⟨cs[j]'(by omega), by simp [World.cell?, h, e, hj]⟩
theorem Rq.f {w : World} {N n o : Nat} (h : Rq w N n) : w.frozen? ⟨N, o, none⟩ = false := by
  obtain ⟨cs, h, -⟩ := h; simp [World.frozen?, h]
theorem Rq.set {w : World} {N n j : Nat} (h : Rq w N n) (x : Value) : Rq (w.setCell ⟨N, j, none⟩ x) N n := by
  obtain ⟨cs, h1, h2⟩ := h
  exact ⟨cs.setIfInBounds j x, by simp [World.setCell, Array.getElem?_modify, h1], by simp [h2]⟩
/-- The list's block before its part j. -/
def Lq (w : World) (N n : Nat) (F : Nat → Prop) (m : Nat) (ks : List (Tr m)) (j : Nat) : Prop := Rq w N n ∧ ∀ (k : Nat) (t : Tr m), k < j → ks[k]? = some t → ∃ v0 v1 v2 v3 v4, w.cell? ⟨N, k * 5, none⟩ = some v0 ∧ w.cell? ⟨N, k * 5 + 1, none⟩ = some v1 ∧ w.cell? ⟨N, k * 5 + 2, none⟩ = some v2 ∧ w.cell? ⟨N, k * 5 + 3, none⟩ = some v3 ∧ w.cell? ⟨N, k * 5 + 4, none⟩ = some v4 ∧ Rf F w m [v0, v1, v2, v3, v4] t
theorem set5_at (w : World) (N n j : Nat) (h : Rq w N n) (hj : j < n) (x0 x1 x2 x3 x4 : Value) {W : World} (hW : W = ((((w.setCell ⟨N, j * 5, none⟩ x0).setCell ⟨N, j * 5 + 1, none⟩ x1).setCell ⟨N, j * 5 + 2, none⟩ x2).setCell ⟨N, j * 5 + 3, none⟩ x3).setCell ⟨N, j * 5 + 4, none⟩ x4) :
    Rq W N n ∧ W.heap.size = w.heap.size ∧ (∀ q, q ≠ N → W.heap[q]? = w.heap[q]?) ∧ (W.cell? ⟨N, j * 5, none⟩ = some x0 ∧ W.cell? ⟨N, j * 5 + 1, none⟩ = some x1 ∧ W.cell? ⟨N, j * 5 + 2, none⟩ = some x2 ∧ W.cell? ⟨N, j * 5 + 3, none⟩ = some x3 ∧ W.cell? ⟨N, j * 5 + 4, none⟩ = some x4) ∧ ∀ o, (o < j * 5 ∨ j * 5 + 4 < o) → W.cell? ⟨N, o, none⟩ = w.cell? ⟨N, o, none⟩ := by
  subst hW
  have c : ∀ o, o < n * 5 → ∃ x, w.cell? ⟨N, o, none⟩ = some x := fun o ho => h.c ho
  obtain ⟨y0, z0⟩ := c (j * 5) (by omega)
  obtain ⟨y1, z1⟩ := c (j * 5 + 1) (by omega)
  obtain ⟨y2, z2⟩ := c (j * 5 + 2) (by omega)
  obtain ⟨y3, z3⟩ := c (j * 5 + 3) (by omega)
  obtain ⟨y4, z4⟩ := c (j * 5 + 4) (by omega)
  refine ⟨((((h.set _).set _).set _).set _).set _, by simp [World.setCell], fun q hq => ?_, ?_, fun o ho => ?_⟩
  · rw [Below.heap_setCell _ _ _ q hq, Below.heap_setCell _ _ _ q hq, Below.heap_setCell _ _ _ q hq, Below.heap_setCell _ _ _ q hq, Below.heap_setCell _ _ _ q hq]
  · simp [World.cell?_setCell_same, World.cell?_setCell_other, z0, z1, z2, z3, z4]
  · rw [World.cell?_setCell_other, World.cell?_setCell_other, World.cell?_setCell_other, World.cell?_setCell_other, World.cell?_setCell_other]
    all_goals (simp only [ne_eq, Addr.mk.injEq]; omega)
theorem infoDat : (Tryz.prog.info? 25).map (fun i => (i.zero, i.size, i.bytes)) = some (some (.agg #[.int .i64 0, .int .i64 0, .int .u64 0, .string ⟨#[]⟩, .slice none 0 0]), 5, 64) := by kernel_rfl
theorem infoDat_parts : ∃ i0, Tryz.prog.info? 25 = some i0 ∧ i0.zero = some (.agg #[.int .i64 0, .int .i64 0, .int .u64 0, .string ⟨#[]⟩, .slice none 0 0]) ∧ i0.size = 5 ∧ i0.bytes = 64 := by
  have h := infoDat
  cases hi : Tryz.prog.info? 25 with
  | none => rw [hi] at h; cases h
  | some i0 =>
    rw [hi] at h
    simp only [Option.map_some, Option.some.injEq, Prod.mk.injEq] at h
    exact ⟨i0, rfl, h.1, h.2.1, h.2.2⟩

set_option maxRecDepth 100000 in
set_option maxHeartbeats 2000000 in
theorem all_pl (F0 : Nat → Prop) (W0 : World) (m : Nat) (ks : List (Tr m))
    (ih : ∀ (t : Tr m) (v : Value) (w : World), rgt m t = true → r64 m t → (pts m t).1 ≤ 4096 → VR F0 W0 m v t → Below W0.heap.size W0 w →
      Calls Tryz.prog 28 #[v] w fun e w' => ∃ v0 v1 v2 v3 v4, e = .returned (.agg #[v0, v1, v2, v3, v4]) ∧ Rf (fun g => w.heap.size ≤ g ∧ g < w'.heap.size) w' m [v0, v1, v2, v3, v4] t ∧ Below w.heap.size w w')
    (ad : Option Addr) (cap : Nat) (w : World) (hb0 : Below W0.heap.size W0 w) (hn : ks.length ≤ 4096) (hrg : ks.all (rgt m) = true) (hps : ∀ t ∈ ks, (pts m t).1 ≤ 4096) (h64 : ∀ t ∈ ks, r64 m t)
    (hk : (ks = [] ∨ ∃ g, ad = some ⟨g, 0, none⟩ ∧ ∀ (j : Nat) (t' : Tr m), ks[j]? = some t' → ∃ u, W0.cell? ⟨g, j, none⟩ = some u ∧ VR F0 W0 m u t')) :
    Calls Tryz.prog 39 #[.slice ad ks.length cap] w fun e w' => ∃ g c, e = .returned (.slice (some ⟨g, 0, none⟩) ks.length c) ∧ ks.length ≤ c ∧ c ≤ maxLen ∧ w.heap.size ≤ g ∧ g < w'.heap.size ∧ (∀ q, w'.frozen? ⟨g, q, none⟩ = false) ∧ (∀ (j : Nat) (t : Tr m), ks[j]? = some t → ∃ v0 v1 v2 v3 v4, w'.cell? ⟨g, j * 5, none⟩ = some v0 ∧ w'.cell? ⟨g, j * 5 + 1, none⟩ = some v1 ∧ w'.cell? ⟨g, j * 5 + 2, none⟩ = some v2 ∧ w'.cell? ⟨g, j * 5 + 3, none⟩ = some v3 ∧ w'.cell? ⟨g, j * 5 + 4, none⟩ = some v4 ∧ Rf (fun g => w.heap.size ≤ g ∧ g < w'.heap.size) w' m [v0, v1, v2, v3, v4] t) ∧ Below w.heap.size w w' := by
  obtain ⟨i0, hz20, hze, hsz, hby⟩ := infoDat_parts
  have hmk : ∀ w : World, (Instr.makeSlice 23 (.int .i64 ks.length) (.int .i64 ks.length)).run Tryz.prog w = .ok (.slice (some ⟨w.heap.size, 0, none⟩) ks.length ks.length) (w.alloc (.cells (madeCells (Value.cells (.agg #[.int .i64 0, .int .i64 0, .int .u64 0, .string ⟨#[]⟩, .slice none 0 0])) (ks.length * 5)) 25)) := fun w => by
    have := run_makeSlice (P := Tryz.prog) w 23 25 i0 _ Tryz.underlying23 hz20 hze .i64 .i64 ks.length ks.length (by omega) (Int.le_refl _) (by rw [hsz]; simp; omega) (by rw [hby]; omega) (by omega)
    simpa [hsz] using this
  have hb0s := hb0.size
  have r2 : Rq (w.alloc (.cells (madeCells (Value.cells (.agg #[.int .i64 0, .int .i64 0, .int .u64 0, .string ⟨#[]⟩, .slice none 0 0])) (ks.length * 5)) 25)) w.heap.size ks.length := by
    exact ⟨_, heap_alloc_new w _, size_madeCells _ _⟩
  have b2 : Below w.heap.size w (w.alloc (.cells (madeCells (Value.cells (.agg #[.int .i64 0, .int .i64 0, .int .u64 0, .string ⟨#[]⟩, .slice none 0 0])) (ks.length * 5)) 25)) := below1 w _
  have HI := Lib.hid ih
  have HK := Lib.hid hk
  have HR := Lib.hid hrg
  have HP := Lib.hid hps
  have H6 := Lib.hid h64
  clear ih hk hrg hps h64 hz20 hsz hby hze
  generalize madeCells (Value.cells (.agg #[.int .i64 0, .int .i64 0, .int .u64 0, .string ⟨#[]⟩, .slice none 0 0])) (ks.length * 5) = mc at *
  go_enter Tryz.func39, Tryz.ntmps39
  go_wp2_with fail
  go_loopw [11] (fun si wr => ∃ (j : Nat), si = .int .i64 j ∧ j ≤ ks.length ∧ Lq wr w.heap.size ks.length (fun g => w.heap.size + 1 ≤ g ∧ g < wr.heap.size) m ks j ∧ Below w.heap.size w wr) (fun si _ => ks.length - (intOf si).toNat)
  case atStart => exact ⟨0, rfl, Nat.zero_le _, ⟨r2, fun k _ hk => absurd hk (Nat.not_lt_zero _)⟩, b2⟩
  case round =>
    obtain ⟨j, rfl, hj, rw1, g1⟩ := hrel
    have o1 : Below W0.heap.size W0 wr := hb0.trans (g1.mono hb0.size)
    by_cases hlt : j < ks.length
    · have hne : ks ≠ [] := by intro e; rw [e] at hlt; exact absurd hlt (Nat.not_lt_zero _)
      rcases HK.out with hk | ⟨g, hk1, hk2⟩
      · exact absurd hk hne
      subst hk1
      obtain ⟨v, e0, rk⟩ := hk2 j _ (List.getElem?_eq_getElem hlt)
      have hg : g < W0.heap.size := World.block_lt_of_cell? W0 _ e0
      have y0 := (o1.cell (p := ⟨g, j, none⟩) hg).trans e0
      have hrt : rgt m ks[j] = true := List.all_eq_true.1 HR.out _ (List.getElem_mem hlt)
      have h4 := HP.out _ (List.getElem_mem hlt)
      have h6 := H6.out _ (List.getElem_mem hlt)
      have sx := vr_any rk
      have zr := rw1.1.lt
      have HV := Lib.hid (HI.out ks[j] v wr hrt h6 h4 rk o1)
      clear e0 hk2 HK
      have step : Hid (∀ w2 v0 v1 v2 v3 v4, Below wr.heap.size wr w2 → Rf (fun g => wr.heap.size ≤ g ∧ g < w2.heap.size) w2 m [v0, v1, v2, v3, v4] ks[j] → ∀ W, W = ((((w2.setCell ⟨w.heap.size, j * 5, none⟩ v0).setCell ⟨w.heap.size, j * 5 + 1, none⟩ v1).setCell ⟨w.heap.size, j * 5 + 2, none⟩ v2).setCell ⟨w.heap.size, j * 5 + 3, none⟩ v3).setCell ⟨w.heap.size, j * 5 + 4, none⟩ v4 → Lq W w.heap.size ks.length (fun g => w.heap.size + 1 ≤ g ∧ g < W.heap.size) m ks (j + 1) ∧ Below w.heap.size w W) := fun w2 v0 v1 v2 v3 v4 bw rf W hW => by
        have k2 := rw1.1.below bw
        have hs2 := bw.size
        obtain ⟨s1, s2, s3, s4, s5⟩ := set5_at w2 w.heap.size ks.length j k2 hlt v0 v1 v2 v3 v4 hW
        refine ⟨⟨s1, fun k t hk ht => ?_⟩, ?_⟩
        · by_cases e : k = j
          · subst e
            rw [List.getElem?_eq_getElem hlt] at ht
            obtain rfl := Option.some.inj ht
            obtain ⟨a0, a1, a2, a3, a4⟩ := s4
            exact ⟨v0, v1, v2, v3, v4, a0, a1, a2, a3, a4, Rf.to (fun q hq => ⟨⟨by have := hq.1; omega, by rw [s2]; exact hq.2⟩, s3 q (by have := hq.1; omega)⟩) _ _ _ rf⟩
          · obtain ⟨u0, u1, u2, u3, u4, a0, a1, a2, a3, a4, rr⟩ := rw1.2 k t (by omega) ht
            have tr : ∀ o x, (o < j * 5 ∨ j * 5 + 4 < o) → wr.cell? ⟨w.heap.size, o, none⟩ = some x → W.cell? ⟨w.heap.size, o, none⟩ = some x := fun o x ho hx => (s5 o ho).trans ((bw.cell (p := ⟨w.heap.size, o, none⟩) zr).trans hx)
            exact ⟨u0, u1, u2, u3, u4, tr _ _ (by omega) a0, tr _ _ (by omega) a1, tr _ _ (by omega) a2, tr _ _ (by omega) a3, tr _ _ (by omega) a4, Rf.to (fun q hq => ⟨⟨hq.1, by rw [s2]; have := hq.2; omega⟩, (s3 q (by have := hq.1; omega)).trans (bw.block q hq.2)⟩) _ _ _ rr⟩
        · subst hW
          have g2 : Below w.heap.size w w2 := g1.trans (bw.mono g1.size)
          exact ((((g2.setCell (Nat.le_refl _) _).setCell (Nat.le_refl _) _).setCell (Nat.le_refl _) _).setCell (Nat.le_refl _) _).setCell (Nat.le_refl _) _
      have kcs : Hid (∀ w2, Below wr.heap.size wr w2 → (∃ x, w2.cell? ⟨w.heap.size, j * 5, none⟩ = some x) ∧ (∃ x, w2.cell? ⟨w.heap.size, j * 5 + 1, none⟩ = some x) ∧ (∃ x, w2.cell? ⟨w.heap.size, j * 5 + 2, none⟩ = some x) ∧ (∃ x, w2.cell? ⟨w.heap.size, j * 5 + 3, none⟩ = some x) ∧ (∃ x, w2.cell? ⟨w.heap.size, j * 5 + 4, none⟩ = some x) ∧ ∀ o, w2.frozen? ⟨w.heap.size, o, none⟩ = false) := fun w2 bw => by
        have k2 := rw1.1.below bw
        exact ⟨k2.c (by omega), k2.c (by omega), k2.c (by omega), k2.c (by omega), k2.c (by omega), fun o => k2.f⟩
      clear rw1 rk o1
      rcases sx with rfl | ⟨T, z, rfl⟩
      all_goals
        go_wp2_with fail
        refine HV.out.mono ?_
        rintro e w2 ⟨v0, v1, v2, v3, v4, rfl, rf, bw⟩
        obtain ⟨u0, u1, u2, u3, a4, n4, c4', rfl, rfl, rfl, rfl, rfl⟩ := rep_shape (Rf.rep _ _ _ rf)
        have st := Lib.hid (step.out w2 _ _ _ _ _ bw rf)
        obtain ⟨⟨x0, k0⟩, ⟨x1, k1⟩, ⟨x2, k2⟩, ⟨x3, k3⟩, ⟨x4, k4⟩, kf⟩ := kcs.out w2 bw
        clear rf
        go_wp2_with fail
        exact ⟨⟨j + 1, by go_num, by omega, st.out _ rfl⟩, by simp [intOf]; omega⟩
    · have hje : j = ks.length := by omega
      subst hje
      have zr := rw1.1.lt
      go_wp2_with fail
      go_ret
      exact ⟨_, _, rfl, Nat.le_refl _, by unfold maxLen; omega, Nat.le_refl _, zr, fun q => rw1.1.f, fun j t h => by
        obtain ⟨v0, v1, v2, v3, v4, a0, a1, a2, a3, a4, r⟩ := rw1.2 j t (List.getElem?_eq_some_iff.1 h).1 h
        exact ⟨v0, v1, v2, v3, v4, a0, a1, a2, a3, a4, Rf.to (fun q hq => ⟨⟨by have := hq.1; omega, hq.2⟩, rfl⟩) _ _ _ r⟩, g1⟩

end Go.Proofs.YtlmebokbbhjbmaaGreatDoor.Dt
