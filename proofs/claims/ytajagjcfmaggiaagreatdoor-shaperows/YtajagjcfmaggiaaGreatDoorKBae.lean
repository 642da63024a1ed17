/- The package's Plain of a row: a list of the plain data in new memory; the conditions: the row in memory, and Plain's own contract for the parts. -/
import Derived.Test.YtajagjcfmaggiaaGreatDoorKBab
import Derived.Test.YtajagjcfmaggiaaGreatDoorKBad
namespace Go.Proofs.YtajagjcfmaggiaaGreatDoor.Dt
open Go.RowKit
set_option maxRecDepth 100000 in
set_option maxHeartbeats 2000000 in
theorem all_pl (F0 : Nat → Prop) (W0 : World) (m : Nat) (ks : List (Tr m))
    (ih : ∀ (t : Tr m) (v : Value) (w : World), rgt m t = true → r64 m t → (pts m t).1 ≤ 4096 → VR F0 W0 m v t → Below W0.heap.size W0 w →
      Calls Tryz.prog 82 #[v] w fun e w' => ∃ v0 v1 v2 v3 v4, e = .returned (.agg #[v0, v1, v2, v3, v4]) ∧ Rf (fun g => w.heap.size ≤ g ∧ g < w'.heap.size) w' m [v0, v1, v2, v3, v4] t ∧ Below w.heap.size w w')
    (ad : Option Addr) (cap : Nat) (w : World) (hb0 : Below W0.heap.size W0 w) (hn : ks.length ≤ 4096) (hrg : ks.all (rgt m) = true) (hps : ∀ t ∈ ks, (pts m t).1 ≤ 4096) (h64 : ∀ t ∈ ks, r64 m t)
    (hk : (ks = [] ∨ ∃ g, ad = some ⟨g, 0, none⟩ ∧ ∀ (j : Nat) (t' : Tr m), ks[j]? = some t' → ∃ u, W0.cell? ⟨g, j, none⟩ = some u ∧ VR F0 W0 m u t')) :
    Calls Tryz.prog 92 #[.slice ad ks.length cap] w fun e w' => ∃ g c, e = .returned (.slice (some ⟨g, 0, none⟩) ks.length c) ∧ ks.length ≤ c ∧ c ≤ maxLen ∧ w.heap.size ≤ g ∧ g < w'.heap.size ∧ (∀ q, w'.frozen? ⟨g, q, none⟩ = false) ∧ (∀ (j : Nat) (t : Tr m), ks[j]? = some t → ∃ v0 v1 v2 v3 v4, w'.cell? ⟨g, j * 5, none⟩ = some v0 ∧ w'.cell? ⟨g, j * 5 + 1, none⟩ = some v1 ∧ w'.cell? ⟨g, j * 5 + 2, none⟩ = some v2 ∧ w'.cell? ⟨g, j * 5 + 3, none⟩ = some v3 ∧ w'.cell? ⟨g, j * 5 + 4, none⟩ = some v4 ∧ Rf (fun g => w.heap.size ≤ g ∧ g < w'.heap.size) w' m [v0, v1, v2, v3, v4] t) ∧ Below w.heap.size w w' := by
  obtain ⟨i0, hz20, hze, hsz, hby⟩ := infoDat_parts
  have hmk : ∀ w : World, (Instr.makeSlice 23 (.int .i64 ks.length) (.int .i64 ks.length)).run Tryz.prog w = .ok (.slice (some ⟨w.heap.size, 0, none⟩) ks.length ks.length) (w.alloc (.cells (madeCells (Value.cells (.agg #[.int .i64 0, .int .i64 0, .int .u64 0, .string ⟨#[]⟩, .slice none 0 0])) (ks.length * 5)) 25)) := fun w => by
    have := run_makeSlice (P := Tryz.prog) w 23 25 i0 _ Tryz.underlying23 hz20 hze .i64 .i64 ks.length ks.length (by omega) (Int.le_refl _) (by rw [hsz]; simp; omega) (by rw [hby]; omega) (by omega)
    simpa [hsz] using this
  have hb0s := hb0.size
  have r2 : Rq (w.alloc (.cells (madeCells (Value.cells (.agg #[.int .i64 0, .int .i64 0, .int .u64 0, .string ⟨#[]⟩, .slice none 0 0])) (ks.length * 5)) 25)) w.heap.size ks.length := by
    exact ⟨_, heap_alloc_new w _, size_madeCells _ _⟩
  have b2 : Below w.heap.size w (w.alloc (.cells (madeCells (Value.cells (.agg #[.int .i64 0, .int .i64 0, .int .u64 0, .string ⟨#[]⟩, .slice none 0 0])) (ks.length * 5)) 25)) := below1 w _
  have HI := Lib.hid ih
  have HK := Lib.hid hk
  have HR := Lib.hid hrg
  have HP := Lib.hid hps
  have H6 := Lib.hid h64
  clear ih hk hrg hps h64 hz20 hsz hby hze
  generalize madeCells (Value.cells (.agg #[.int .i64 0, .int .i64 0, .int .u64 0, .string ⟨#[]⟩, .slice none 0 0])) (ks.length * 5) = mc at *
  go_enter Tryz.func92, Tryz.ntmps92
  go_wp2_with fail
  go_loopw [11] (fun si wr => ∃ (j : Nat), si = .int .i64 j ∧ j ≤ ks.length ∧ Lq wr w.heap.size ks.length (fun g => w.heap.size + 1 ≤ g ∧ g < wr.heap.size) m ks j ∧ Below w.heap.size w wr) (fun si _ => ks.length - (intOf si).toNat)
  case atStart => exact ⟨0, rfl, Nat.zero_le _, ⟨r2, fun k _ hk => absurd hk (Nat.not_lt_zero _)⟩, b2⟩
  case round =>
    obtain ⟨j, rfl, hj, rw1, g1⟩ := hrel
    have o1 : Below W0.heap.size W0 wr := hb0.trans (g1.mono hb0.size)
    by_cases hlt : j < ks.length
    · have hne : ks ≠ [] := by intro e; rw [e] at hlt; exact absurd hlt (Nat.not_lt_zero _)
      rcases HK.out with hk | ⟨g, hk1, hk2⟩
      · exact absurd hk hne
      subst hk1
      obtain ⟨v, e0, rk⟩ := hk2 j _ (List.getElem?_eq_getElem hlt)
      have hg : g < W0.heap.size := World.block_lt_of_cell? W0 _ e0
      have y0 := (o1.cell (p := ⟨g, j, none⟩) hg).trans e0
      have hrt : rgt m ks[j] = true := List.all_eq_true.1 HR.out _ (List.getElem_mem hlt)
      have h4 := HP.out _ (List.getElem_mem hlt)
      have h6 := H6.out _ (List.getElem_mem hlt)
      have sx := vr_any rk
      have zr := rw1.1.lt
      have HV := Lib.hid (HI.out ks[j] v wr hrt h6 h4 rk o1)
      clear e0 hk2 HK
      have step : Hid (∀ w2 v0 v1 v2 v3 v4, Below wr.heap.size wr w2 → Rf (fun g => wr.heap.size ≤ g ∧ g < w2.heap.size) w2 m [v0, v1, v2, v3, v4] ks[j] → ∀ W, W = ((((w2.setCell ⟨w.heap.size, j * 5, none⟩ v0).setCell ⟨w.heap.size, j * 5 + 1, none⟩ v1).setCell ⟨w.heap.size, j * 5 + 2, none⟩ v2).setCell ⟨w.heap.size, j * 5 + 3, none⟩ v3).setCell ⟨w.heap.size, j * 5 + 4, none⟩ v4 → Lq W w.heap.size ks.length (fun g => w.heap.size + 1 ≤ g ∧ g < W.heap.size) m ks (j + 1) ∧ Below w.heap.size w W) := fun w2 v0 v1 v2 v3 v4 bw rf W hW => by
        have k2 := rw1.1.below bw
        have hs2 := bw.size
        obtain ⟨s1, s2, s3, s4, s5⟩ := set5_at w2 w.heap.size ks.length j k2 hlt v0 v1 v2 v3 v4 hW
        refine ⟨⟨s1, fun k t hk ht => ?_⟩, ?_⟩
        · by_cases e : k = j
          · subst e
            rw [List.getElem?_eq_getElem hlt] at ht
            obtain rfl := Option.some.inj ht
            obtain ⟨a0, a1, a2, a3, a4⟩ := s4
            exact ⟨v0, v1, v2, v3, v4, a0, a1, a2, a3, a4, Rf.to (fun q hq => ⟨⟨by have := hq.1; omega, by rw [s2]; exact hq.2⟩, s3 q (by have := hq.1; omega)⟩) _ _ _ rf⟩
          · obtain ⟨u0, u1, u2, u3, u4, a0, a1, a2, a3, a4, rr⟩ := rw1.2 k t (by omega) ht
            have tr : ∀ o x, (o < j * 5 ∨ j * 5 + 4 < o) → wr.cell? ⟨w.heap.size, o, none⟩ = some x → W.cell? ⟨w.heap.size, o, none⟩ = some x := fun o x ho hx => (s5 o ho).trans ((bw.cell (p := ⟨w.heap.size, o, none⟩) zr).trans hx)
            exact ⟨u0, u1, u2, u3, u4, tr _ _ (by omega) a0, tr _ _ (by omega) a1, tr _ _ (by omega) a2, tr _ _ (by omega) a3, tr _ _ (by omega) a4, Rf.to (fun q hq => ⟨⟨hq.1, by rw [s2]; have := hq.2; omega⟩, (s3 q (by have := hq.1; omega)).trans (bw.block q hq.2)⟩) _ _ _ rr⟩
        · subst hW
          have g2 : Below w.heap.size w w2 := g1.trans (bw.mono g1.size)
          exact ((((g2.setCell (Nat.le_refl _) _).setCell (Nat.le_refl _) _).setCell (Nat.le_refl _) _).setCell (Nat.le_refl _) _).setCell (Nat.le_refl _) _
      have kcs : Hid (∀ w2, Below wr.heap.size wr w2 → (∃ x, w2.cell? ⟨w.heap.size, j * 5, none⟩ = some x) ∧ (∃ x, w2.cell? ⟨w.heap.size, j * 5 + 1, none⟩ = some x) ∧ (∃ x, w2.cell? ⟨w.heap.size, j * 5 + 2, none⟩ = some x) ∧ (∃ x, w2.cell? ⟨w.heap.size, j * 5 + 3, none⟩ = some x) ∧ (∃ x, w2.cell? ⟨w.heap.size, j * 5 + 4, none⟩ = some x) ∧ ∀ o, w2.frozen? ⟨w.heap.size, o, none⟩ = false) := fun w2 bw => by
        have k2 := rw1.1.below bw
        exact ⟨k2.c (by omega), k2.c (by omega), k2.c (by omega), k2.c (by omega), k2.c (by omega), fun o => k2.f⟩
      clear rw1 rk o1
      rcases sx with rfl | ⟨T, z, rfl⟩
      all_goals
        go_wp2_with fail
        refine HV.out.mono ?_
        rintro e w2 ⟨v0, v1, v2, v3, v4, rfl, rf, bw⟩
        obtain ⟨u0, u1, u2, u3, a4, n4, c4', rfl, rfl, rfl, rfl, rfl⟩ := rep_shape (Rf.rep _ _ _ rf)
        have st := Lib.hid (step.out w2 _ _ _ _ _ bw rf)
        obtain ⟨⟨x0, k0⟩, ⟨x1, k1⟩, ⟨x2, k2⟩, ⟨x3, k3⟩, ⟨x4, k4⟩, kf⟩ := kcs.out w2 bw
        clear rf
        go_wp2_with fail
        exact ⟨⟨j + 1, by go_num, by omega, st.out _ rfl⟩, by simp [intOf]; omega⟩
    · have hje : j = ks.length := by omega
      subst hje
      have zr := rw1.1.lt
      go_wp2_with fail
      go_ret
      exact ⟨_, _, rfl, Nat.le_refl _, by unfold maxLen; omega, Nat.le_refl _, zr, fun q => rw1.1.f, fun j t h => by
        obtain ⟨v0, v1, v2, v3, v4, a0, a1, a2, a3, a4, r⟩ := rw1.2 j t (List.getElem?_eq_some_iff.1 h).1 h
        exact ⟨v0, v1, v2, v3, v4, a0, a1, a2, a3, a4, Rf.to (fun q hq => ⟨⟨by have := hq.1; omega, hq.2⟩, rfl⟩) _ _ _ r⟩, g1⟩

end Go.Proofs.YtajagjcfmaggiaaGreatDoor.Dt
/- The package's Plain of values with parts: octets, rows, pairs and pointers; the conditions: the value in memory, and Plain's own contract for the parts. -/
namespace Go.Proofs.YtajagjcfmaggiaaGreatDoor.Dt
open Go.RowKit
/-- What Plain answers of a value of the tree t. -/
def PlOf (F0 : Nat → Prop) (W0 : World) (m : Nat) : Prop := ∀ (t : Tr m) (v : Value) (w : World), rgt m t = true → r64 m t → (pts m t).1 ≤ 4096 → VR F0 W0 m v t → Below W0.heap.size W0 w →
      Calls Tryz.prog 82 #[v] w fun e w' => ∃ v0 v1 v2 v3 v4, e = .returned (.agg #[v0, v1, v2, v3, v4]) ∧ Rf (fun g => w.heap.size ≤ g ∧ g < w'.heap.size) w' m [v0, v1, v2, v3, v4] t ∧ Below w.heap.size w w'
def zD (w : World) : World := w.alloc (.cells #[.int .i64 0, .int .i64 0, .int .u64 0, .string ⟨#[]⟩, .slice none 0 0] 25)
theorem put5 (w w2 : World) (S : Nat) (cs : Array Value) (x0 x1 x2 x3 x4 : Value) (hS : w.heap.size < S) (b2 : Below w.heap.size w w2) (hs : S ≤ w2.heap.size) {W : World} (hW : W = ((((((w2.alloc (.cells cs 25)).setCell ⟨w.heap.size, 0, none⟩ x0).setCell ⟨w.heap.size, 1, none⟩ x1).setCell ⟨w.heap.size, 2, none⟩ x2).setCell ⟨w.heap.size, 3, none⟩ x3).setCell ⟨w.heap.size, 4, none⟩ x4)) :
    W.heap.size = w2.heap.size + 1 ∧ (∀ q, S ≤ q → q < w2.heap.size → W.heap[q]? = w2.heap[q]?) ∧ W.heap[w2.heap.size]? = some (.cells cs 25 (0, 0)) ∧ Below w.heap.size w W := by
  subst hW
  refine ⟨by simp [World.setCell], fun q h1 h2 => ?_, ?_, ?_⟩
  · have hq : q ≠ w.heap.size := by omega
    rw [Below.heap_setCell _ _ _ q hq, Below.heap_setCell _ _ _ q hq, Below.heap_setCell _ _ _ q hq, Below.heap_setCell _ _ _ q hq, Below.heap_setCell _ _ _ q hq]
    exact (below1 w2 _).block q h2
  · have hq : w2.heap.size ≠ w.heap.size := by omega
    rw [Below.heap_setCell _ _ _ _ hq, Below.heap_setCell _ _ _ _ hq, Below.heap_setCell _ _ _ _ hq, Below.heap_setCell _ _ _ _ hq, Below.heap_setCell _ _ _ _ hq]
    exact heap_alloc_new w2 _
  · exact (((((b2.alloc b2.size _).setCell (Nat.le_refl _) _).setCell (Nat.le_refl _) _).setCell (Nat.le_refl _) _).setCell (Nat.le_refl _) _).setCell (Nat.le_refl _) _
set_option maxRecDepth 100000 in
set_option maxHeartbeats 2000000 in
theorem ptr_pl (F0 : Nat → Prop) (W0 : World) (m : Nat) (t : Tr m) (ih : PlOf F0 W0 m) (b : Nat) (i : Int) (v : Value) (w : World) (hb0 : Below W0.heap.size W0 w) (hh : W0.heap[b]? = some (.cells #[.int .i64 i, v] 176 (0, 0))) (hv : VR F0 W0 m v t) (hr : rgt m t = true) (h6 : r64 m t) (hp : (pts m t).1 ≤ 4096) :
    Calls Tryz.prog 93 #[.pointer (some ⟨b, 0, none⟩)] w fun e w' => ∃ g c v0 v1 v2 v3 v4, e = .returned (.agg #[.int .i64 11, .int .i64 i, .int .u64 0, .string ⟨#[]⟩, .slice (some ⟨g, 0, none⟩) 1 c]) ∧ 1 ≤ c ∧ c ≤ maxLen ∧ w.heap.size ≤ g ∧ g < w'.heap.size ∧ (∀ q, w'.frozen? ⟨g, q, none⟩ = false) ∧ w'.cell? ⟨g, 0, none⟩ = some v0 ∧ w'.cell? ⟨g, 1, none⟩ = some v1 ∧ w'.cell? ⟨g, 2, none⟩ = some v2 ∧ w'.cell? ⟨g, 3, none⟩ = some v3 ∧ w'.cell? ⟨g, 4, none⟩ = some v4 ∧ Rf (fun g => w.heap.size ≤ g ∧ g < w'.heap.size) w' m [v0, v1, v2, v3, v4] t ∧ Below w.heap.size w w' := by
  have hen : ∀ w, (binOp .eql 155 (.pointer (some ⟨b, 0, none⟩)) (.pointer none)).run Tryz.prog w = .ok (.bool false) w := fun _ => by kernel_rfl
  have hbl : b < W0.heap.size := (Array.getElem?_eq_some_iff.1 hh).1
  have b1 : Below w.heap.size w (zD w) := below1 w _
  have hs1 : (zD w).heap.size = w.heap.size + 1 := by simp [zD]
  have KA : Hid (∀ wx, Below (zD w).heap.size (zD w) wx → Calls Tryz.prog 82 #[v] wx fun e w' => ∃ (u0 u1 u2 : Int) (u3 : ByteArray) (a4 : Option Addr) (n4 c4 : Nat), e = .returned (.agg #[.int .i64 u0, .int .i64 u1, .int .u64 u2, .string u3, .slice a4 n4 c4]) ∧ Hid (Rf (fun g => w.heap.size + 1 ≤ g ∧ g < w'.heap.size) w' m [.int .i64 u0, .int .i64 u1, .int .u64 u2, .string u3, .slice a4 n4 c4] t) ∧ Below (zD w).heap.size (zD w) w') := fun wx bx => by
    have kw : Below W0.heap.size W0 wx := (hb0.trans (b1.mono hb0.size)).trans (bx.mono (by have := hb0.size; omega))
    refine (ih t v wx hr h6 hp hv kw).mono fun e w' ⟨v0, v1, v2, v3, v4, he, rf, hb⟩ => ?_
    obtain ⟨u0, u1, u2, u3, a4, n4, c4', rfl, rfl, rfl, rfl, rfl⟩ := rep_shape (Rf.rep _ _ _ rf)
    exact ⟨u0, u1, u2, u3, a4, n4, c4', he, Rf.to (fun q hq => ⟨⟨by have := hq.1; have := bx.size; omega, hq.2⟩, rfl⟩) _ _ _ rf, bx.trans (hb.mono bx.size)⟩
  have dz : D5 (zD w) w.heap.size (.int .i64 0) (.int .i64 0) (.int .u64 0) (.string ⟨#[]⟩) (.slice none 0 0) := D5.new w (.int .i64 0) (.int .i64 0) (.int .u64 0) (.string ⟨#[]⟩) (.slice none 0 0)
  have KS : Hid (∀ w' : World, Below (zD w).heap.size (zD w) w' → w'.cell? ⟨b, 0, none⟩ = some (.int .i64 i) ∧ w'.cell? ⟨b, 1, none⟩ = some v ∧ w'.cell? ⟨w.heap.size, 0, none⟩ = some (.int .i64 0) ∧ w'.cell? ⟨w.heap.size, 1, none⟩ = some (.int .i64 0) ∧ w'.cell? ⟨w.heap.size, 2, none⟩ = some (.int .u64 0) ∧ w'.cell? ⟨w.heap.size, 3, none⟩ = some (.string ⟨#[]⟩) ∧ w'.cell? ⟨w.heap.size, 4, none⟩ = some (.slice none 0 0) ∧ ∀ o, w'.frozen? ⟨w.heap.size, o, none⟩ = false) := fun w' h => by
    have k : w'.heap[b]? = some (.cells #[.int .i64 i, v] 176 (0, 0)) := by
      rw [h.block b (by have := hb0.size; omega), b1.block b (by have := hb0.size; omega), hb0.block b hbl]; exact hh
    obtain ⟨c0, c1, c2, c3, c4⟩ := (dz.below h).c
    exact ⟨by simp [World.cell?, k], by simp [World.cell?, k], c0, c1, c2, c3, c4, fun o => (dz.below h).f⟩
  have KD := Lib.hid (Below.drew (Below.refl (zD w).heap.size (zD w)))
  have KP : Hid (∀ (wx : World) (ob : Obj), Below (zD w).heap.size (zD w) wx → (wx.alloc ob).cell? ⟨b, 0, none⟩ = some (.int .i64 i) ∧ (wx.alloc ob).cell? ⟨b, 1, none⟩ = some (v) ∧ (wx.alloc ob).cell? ⟨w.heap.size, 0, none⟩ = some (.int .i64 0) ∧ (wx.alloc ob).cell? ⟨w.heap.size, 1, none⟩ = some (.int .i64 0) ∧ (wx.alloc ob).cell? ⟨w.heap.size, 2, none⟩ = some (.int .u64 0) ∧ (wx.alloc ob).cell? ⟨w.heap.size, 3, none⟩ = some (.string ⟨#[]⟩) ∧ (wx.alloc ob).cell? ⟨w.heap.size, 4, none⟩ = some (.slice none 0 0) ∧ ∀ o, (wx.alloc ob).frozen? ⟨w.heap.size, o, none⟩ = false) := fun wx ob h => KS.out _ (h.alloc h.size ob)
  have KQ : Hid (∀ (wx : World) (ob : Obj) (x0 x1 x2 x3 x4 : Value), Below (zD w).heap.size (zD w) wx → ((((((wx.alloc ob).setCell ⟨w.heap.size, 0, none⟩ x0).setCell ⟨w.heap.size, 1, none⟩ x1).setCell ⟨w.heap.size, 2, none⟩ x2).setCell ⟨w.heap.size, 3, none⟩ x3).setCell ⟨w.heap.size, 4, none⟩ x4).cell? ⟨b, 0, none⟩ = some (.int .i64 i) ∧ ((((((wx.alloc ob).setCell ⟨w.heap.size, 0, none⟩ x0).setCell ⟨w.heap.size, 1, none⟩ x1).setCell ⟨w.heap.size, 2, none⟩ x2).setCell ⟨w.heap.size, 3, none⟩ x3).setCell ⟨w.heap.size, 4, none⟩ x4).cell? ⟨b, 1, none⟩ = some v) := fun wx ob x0 x1 x2 x3 x4 h => by
    have k := KP.out wx ob h
    have hne : b ≠ w.heap.size := by have := hb0.size; omega
    constructor
    · rw [World.cell?_setCell_other, World.cell?_setCell_other, World.cell?_setCell_other, World.cell?_setCell_other, World.cell?_setCell_other]
      exact k.1
      all_goals (simp only [ne_eq, Addr.mk.injEq]; omega)
    · rw [World.cell?_setCell_other, World.cell?_setCell_other, World.cell?_setCell_other, World.cell?_setCell_other, World.cell?_setCell_other]
      exact k.2.1
      all_goals (simp only [ne_eq, Addr.mk.injEq]; omega)
  have FN : Hid (∀ (u0 u1 u2 : Int) (u3 : ByteArray) (a4 : Option Addr) (n4 c4 : Nat) (w2 : World), Hid (Rf (fun g => w.heap.size + 1 ≤ g ∧ g < w2.heap.size) w2 m [.int .i64 u0, .int .i64 u1, .int .u64 u2, .string u3, .slice a4 n4 c4] t) → Below (zD w).heap.size (zD w) w2 → ∀ W, W = ((((((w2.alloc (.cells #[.int .i64 u0, .int .i64 u1, .int .u64 u2, .string u3, .slice a4 n4 c4] 25)).setCell ⟨w.heap.size, 0, none⟩ (.int .i64 11)).setCell ⟨w.heap.size, 1, none⟩ (.int .i64 i)).setCell ⟨w.heap.size, 2, none⟩ (.int .u64 0)).setCell ⟨w.heap.size, 3, none⟩ (.string ⟨#[]⟩)).setCell ⟨w.heap.size, 4, none⟩ (.slice (some ⟨w2.heap.size, 0, none⟩) 1 1)) →
      ∃ g c v0 v1 v2 v3 v4, Ending.returned (.agg #[.int .i64 11, .int .i64 i, .int .u64 0, .string ⟨#[]⟩, .slice (some ⟨w2.heap.size, 0, none⟩) 1 1]) = .returned (.agg #[.int .i64 11, .int .i64 i, .int .u64 0, .string ⟨#[]⟩, .slice (some ⟨g, 0, none⟩) 1 c]) ∧ 1 ≤ c ∧ c ≤ maxLen ∧ w.heap.size ≤ g ∧ g < W.heap.size ∧ (∀ q, W.frozen? ⟨g, q, none⟩ = false) ∧ W.cell? ⟨g, 0, none⟩ = some v0 ∧ W.cell? ⟨g, 1, none⟩ = some v1 ∧ W.cell? ⟨g, 2, none⟩ = some v2 ∧ W.cell? ⟨g, 3, none⟩ = some v3 ∧ W.cell? ⟨g, 4, none⟩ = some v4 ∧ Rf (fun g => w.heap.size ≤ g ∧ g < W.heap.size) W m [v0, v1, v2, v3, v4] t ∧ Below w.heap.size w W) := fun u0 u1 u2 u3 a4 n4 c4 w2 rf b2 W hW => by
    have hz := b2.size
    obtain ⟨p1, p2, p3, p4⟩ := put5 w w2 (w.heap.size + 1) _ _ _ _ _ _ (by omega) (b1.trans (b2.mono (by omega))) (by omega) hW
    refine ⟨w2.heap.size, 1, _, _, _, _, _, rfl, Nat.le_refl _, by decide, by omega, by omega, (fun q => by simp [World.frozen?, p3]), by simp [World.cell?, p3], by simp [World.cell?, p3], by simp [World.cell?, p3], by simp [World.cell?, p3], by simp [World.cell?, p3], Rf.to (fun q hq => ⟨⟨by have := hq.1; omega, by have := hq.2; omega⟩, p2 q hq.1 hq.2⟩) _ _ _ rf.out, p4⟩
  have sx := vr_any hv
  clear ih hv hr h6 hp hh hb0 hbl dz
  rcases sx with rfl | ⟨T, z, rfl⟩
  · go_enter Tryz.func93, Tryz.ntmps93
    go_wp2_with fail
    unfold zD at *
    go_region_held3 (fun w' => w'.cell? ⟨b, 0, none⟩ = some (.int .i64 i) ∧ w'.cell? ⟨b, 1, none⟩ = some (.nilIface)) (first | (with_reducible refine ⟨(KS.out _ ?_).1, (KS.out _ ?_).2.1⟩ <;> with_reducible assumption) | with_reducible exact ⟨(KS.out _ KD.out).1, (KS.out _ KD.out).2.1⟩ | (with_reducible refine ⟨(KP.out _ _ ?_).1, (KP.out _ _ ?_).2.1⟩ <;> with_reducible assumption) | (with_reducible refine KQ.out _ _ _ _ _ _ _ ?_; with_reducible assumption) | trace_state) ((go_at_call 82; refine (KA.out _ (by first | with_reducible assumption | exact KD.out)).mono ?_; rintro e w2 ⟨u0, u1, u2, u3, a4, n4, c4, rfl, rf, b2⟩; obtain ⟨-, -, z0, z1, z2, z3, z4, fz⟩ := KP.out w2 (.cells #[.int .i64 u0, .int .i64 u1, .int .u64 u2, .string u3, .slice a4 n4 c4] 25) b2))
    all_goals go_wp2
    all_goals (refine bodyPost_ret (v := .agg #[.int .i64 11, .int .i64 i, .int .u64 0, .string ⟨#[]⟩, .slice (some ⟨w2.heap.size, 0, none⟩) 1 1]) (by simp [results, Tryz.results93, go_sem, World.cell?_setCell_same, World.cell?_setCell_other, z0, z1, z2, z3, z4]) rfl (FN.out _ _ _ _ _ _ _ w2 rf b2 _ rfl))
  · go_enter Tryz.func93, Tryz.ntmps93
    go_wp2_with fail
    unfold zD at *
    go_region_held3 (fun w' => w'.cell? ⟨b, 0, none⟩ = some (.int .i64 i) ∧ w'.cell? ⟨b, 1, none⟩ = some (.iface T z)) (first | (with_reducible refine ⟨(KS.out _ ?_).1, (KS.out _ ?_).2.1⟩ <;> with_reducible assumption) | with_reducible exact ⟨(KS.out _ KD.out).1, (KS.out _ KD.out).2.1⟩ | (with_reducible refine ⟨(KP.out _ _ ?_).1, (KP.out _ _ ?_).2.1⟩ <;> with_reducible assumption) | (with_reducible refine KQ.out _ _ _ _ _ _ _ ?_; with_reducible assumption) | trace_state) ((go_at_call 82; refine (KA.out _ (by first | with_reducible assumption | exact KD.out)).mono ?_; rintro e w2 ⟨u0, u1, u2, u3, a4, n4, c4, rfl, rf, b2⟩; obtain ⟨-, -, z0, z1, z2, z3, z4, fz⟩ := KP.out w2 (.cells #[.int .i64 u0, .int .i64 u1, .int .u64 u2, .string u3, .slice a4 n4 c4] 25) b2))
    all_goals go_wp2
    all_goals (refine bodyPost_ret (v := .agg #[.int .i64 11, .int .i64 i, .int .u64 0, .string ⟨#[]⟩, .slice (some ⟨w2.heap.size, 0, none⟩) 1 1]) (by simp [results, Tryz.results93, go_sem, World.cell?_setCell_same, World.cell?_setCell_other, z0, z1, z2, z3, z4]) rfl (FN.out _ _ _ _ _ _ _ w2 rf b2 _ rfl))
end Go.Proofs.YtajagjcfmaggiaaGreatDoor.Dt
/- The package's Plain of a pair; the conditions: the pair in memory, and Plain's own contract for its parts. -/
namespace Go.Proofs.YtajagjcfmaggiaaGreatDoor.Dt
open Go.RowKit
def pW (w : World) (x y : Value) : World := (zD w).alloc (.cells #[x, y] 152)
def Fst1 : Prop := True
set_option maxRecDepth 100000 in
set_option maxHeartbeats 4000000 in
theorem pair_pl (F0 : Nat → Prop) (W0 : World) (m : Nat) (t0 t1 : Tr m) (ih : PlOf F0 W0 m) (x y : Value) (w : World) (hb0 : Below W0.heap.size W0 w) (hx : VR F0 W0 m x t0) (hy : VR F0 W0 m y t1) (hr0 : rgt m t0 = true) (h60 : r64 m t0) (hp0 : (pts m t0).1 ≤ 4096) (hr1 : rgt m t1 = true) (h61 : r64 m t1) (hp1 : (pts m t1).1 ≤ 4096) :
    Calls Tryz.prog 82 #[.iface 152 (.agg #[x, y])] w fun e w' => ∃ g c v0 v1 v2 v3 v4 y0 y1 y2 y3 y4, e = .returned (.agg #[.int .i64 9, .int .i64 0, .int .u64 0, .string ⟨#[]⟩, .slice (some ⟨g, 0, none⟩) 2 c]) ∧ 2 ≤ c ∧ c ≤ maxLen ∧ w.heap.size ≤ g ∧ g < w'.heap.size ∧ (∀ q, w'.frozen? ⟨g, q, none⟩ = false) ∧ (w'.cell? ⟨g, 0, none⟩ = some v0 ∧ w'.cell? ⟨g, 1, none⟩ = some v1 ∧ w'.cell? ⟨g, 2, none⟩ = some v2 ∧ w'.cell? ⟨g, 3, none⟩ = some v3 ∧ w'.cell? ⟨g, 4, none⟩ = some v4) ∧ (w'.cell? ⟨g, 5, none⟩ = some y0 ∧ w'.cell? ⟨g, 6, none⟩ = some y1 ∧ w'.cell? ⟨g, 7, none⟩ = some y2 ∧ w'.cell? ⟨g, 8, none⟩ = some y3 ∧ w'.cell? ⟨g, 9, none⟩ = some y4) ∧ Rf (fun g => w.heap.size ≤ g ∧ g < w'.heap.size) w' m [v0, v1, v2, v3, v4] t0 ∧ Rf (fun g => w.heap.size ≤ g ∧ g < w'.heap.size) w' m [y0, y1, y2, y3, y4] t1 ∧ Below w.heap.size w w' := by
  have b1 : Below w.heap.size w (pW w x y) := (below1 w _).alloc (by simp) _
  have hs1 : (pW w x y).heap.size = w.heap.size + 2 := by simp [pW, zD]
  have KA : Hid (∀ wx, Below (pW w x y).heap.size (pW w x y) wx → Calls Tryz.prog 82 #[x] wx fun e w' => ∃ (u0 u1 u2 : Int) (u3 : ByteArray) (u4 : Option Addr) (u5 u6 : Nat), e = .returned (.agg #[.int .i64 u0, .int .i64 u1, .int .u64 u2, .string u3, .slice u4 u5 u6]) ∧ Fst1 ∧ Hid (Rf (fun g => w.heap.size + 2 ≤ g ∧ g < w'.heap.size) w' m [.int .i64 u0, .int .i64 u1, .int .u64 u2, .string u3, .slice u4 u5 u6] t0) ∧ Hid (Below wx.heap.size wx w') ∧ Below (pW w x y).heap.size (pW w x y) w') := fun wx bx => by
    have kw : Below W0.heap.size W0 wx := (hb0.trans (b1.mono hb0.size)).trans (bx.mono (by have := hb0.size; omega))
    refine (ih t0 x wx hr0 h60 hp0 hx kw).mono fun e w' ⟨v0, v1, v2, v3, v4, he, rf, hb⟩ => ?_
    obtain ⟨u0, u1, u2, u3, a4, n4, c4', rfl, rfl, rfl, rfl, rfl⟩ := rep_shape (Rf.rep _ _ _ rf)
    exact ⟨u0, u1, u2, u3, a4, n4, c4', he, True.intro, Rf.to (fun q hq => ⟨⟨by have := hq.1; have := bx.size; omega, hq.2⟩, rfl⟩) _ _ _ rf, hb, bx.trans (hb.mono bx.size)⟩
  have KB : Hid (∀ wx, Below (pW w x y).heap.size (pW w x y) wx → Calls Tryz.prog 82 #[y] wx fun e w' => ∃ (u0 u1 u2 : Int) (u3 : ByteArray) (u4 : Option Addr) (u5 u6 : Nat), e = .returned (.agg #[.int .i64 u0, .int .i64 u1, .int .u64 u2, .string u3, .slice u4 u5 u6]) ∧ Fst1 ∧ Hid (Rf (fun g => w.heap.size + 2 ≤ g ∧ g < w'.heap.size) w' m [.int .i64 u0, .int .i64 u1, .int .u64 u2, .string u3, .slice u4 u5 u6] t1) ∧ Hid (Below wx.heap.size wx w') ∧ Below (pW w x y).heap.size (pW w x y) w') := fun wx bx => by
    have kw : Below W0.heap.size W0 wx := (hb0.trans (b1.mono hb0.size)).trans (bx.mono (by have := hb0.size; omega))
    refine (ih t1 y wx hr1 h61 hp1 hy kw).mono fun e w' ⟨v0, v1, v2, v3, v4, he, rf, hb⟩ => ?_
    obtain ⟨u0, u1, u2, u3, a4, n4, c4', rfl, rfl, rfl, rfl, rfl⟩ := rep_shape (Rf.rep _ _ _ rf)
    exact ⟨u0, u1, u2, u3, a4, n4, c4', he, True.intro, Rf.to (fun q hq => ⟨⟨by have := hq.1; have := bx.size; omega, hq.2⟩, rfl⟩) _ _ _ rf, hb, bx.trans (hb.mono bx.size)⟩
  have dz : D5 (pW w x y) w.heap.size (.int .i64 0) (.int .i64 0) (.int .u64 0) (.string ⟨#[]⟩) (.slice none 0 0) := (D5.new w (.int .i64 0) (.int .i64 0) (.int .u64 0) (.string ⟨#[]⟩) (.slice none 0 0)).below (below1 _ _)
  have hh : (pW w x y).heap[w.heap.size + 1]? = some (.cells #[x, y] 152 (0, 0)) := by
    have := heap_alloc_new (zD w) (.cells #[x, y] 152)
    unfold zD at this
    rw [World.size_alloc] at this
    exact this
  have KS : Hid (∀ w' : World, Below (pW w x y).heap.size (pW w x y) w' → w'.cell? ⟨w.heap.size + 1, 0, none⟩ = some x ∧ w'.cell? ⟨w.heap.size + 1, 1, none⟩ = some y ∧ w'.cell? ⟨w.heap.size, 0, none⟩ = some (.int .i64 0) ∧ w'.cell? ⟨w.heap.size, 1, none⟩ = some (.int .i64 0) ∧ w'.cell? ⟨w.heap.size, 2, none⟩ = some (.int .u64 0) ∧ w'.cell? ⟨w.heap.size, 3, none⟩ = some (.string ⟨#[]⟩) ∧ w'.cell? ⟨w.heap.size, 4, none⟩ = some (.slice none 0 0) ∧ ∀ o, w'.frozen? ⟨w.heap.size, o, none⟩ = false) := fun w' h => by
    have k : w'.heap[w.heap.size + 1]? = some (.cells #[x, y] 152 (0, 0)) := (h.block _ (by omega)).trans hh
    obtain ⟨c0, c1, c2, c3, c4⟩ := (dz.below h).c
    exact ⟨by simp [World.cell?, k], by simp [World.cell?, k], c0, c1, c2, c3, c4, fun o => (dz.below h).f⟩
  have KD := Lib.hid (Below.drew (Below.refl (pW w x y).heap.size (pW w x y)))
  have KP : Hid (∀ (wx : World) (ob : Obj), Below (pW w x y).heap.size (pW w x y) wx → (wx.alloc ob).cell? ⟨w.heap.size + 1, 0, none⟩ = some x ∧ (wx.alloc ob).cell? ⟨w.heap.size + 1, 1, none⟩ = some y ∧ (wx.alloc ob).cell? ⟨w.heap.size, 0, none⟩ = some (.int .i64 0) ∧ (wx.alloc ob).cell? ⟨w.heap.size, 1, none⟩ = some (.int .i64 0) ∧ (wx.alloc ob).cell? ⟨w.heap.size, 2, none⟩ = some (.int .u64 0) ∧ (wx.alloc ob).cell? ⟨w.heap.size, 3, none⟩ = some (.string ⟨#[]⟩) ∧ (wx.alloc ob).cell? ⟨w.heap.size, 4, none⟩ = some (.slice none 0 0) ∧ ∀ o, (wx.alloc ob).frozen? ⟨w.heap.size, o, none⟩ = false) := fun wx ob h => KS.out _ (h.alloc h.size ob)
  have KQ : Hid (∀ (wx : World) (ob : Obj) (x0 x1 x2 x3 x4 : Value), Below (pW w x y).heap.size (pW w x y) wx → ((((((wx.alloc ob).setCell ⟨w.heap.size, 0, none⟩ x0).setCell ⟨w.heap.size, 1, none⟩ x1).setCell ⟨w.heap.size, 2, none⟩ x2).setCell ⟨w.heap.size, 3, none⟩ x3).setCell ⟨w.heap.size, 4, none⟩ x4).cell? ⟨w.heap.size + 1, 0, none⟩ = some x ∧ ((((((wx.alloc ob).setCell ⟨w.heap.size, 0, none⟩ x0).setCell ⟨w.heap.size, 1, none⟩ x1).setCell ⟨w.heap.size, 2, none⟩ x2).setCell ⟨w.heap.size, 3, none⟩ x3).setCell ⟨w.heap.size, 4, none⟩ x4).cell? ⟨w.heap.size + 1, 1, none⟩ = some y) := fun wx ob x0 x1 x2 x3 x4 h => by
    have k := KP.out wx ob h
    constructor
    · rw [World.cell?_setCell_other, World.cell?_setCell_other, World.cell?_setCell_other, World.cell?_setCell_other, World.cell?_setCell_other]
      exact k.1
      all_goals (simp only [ne_eq, Addr.mk.injEq]; omega)
    · rw [World.cell?_setCell_other, World.cell?_setCell_other, World.cell?_setCell_other, World.cell?_setCell_other, World.cell?_setCell_other]
      exact k.2.1
      all_goals (simp only [ne_eq, Addr.mk.injEq]; omega)
  have FN : Hid (∀ (a0 a1 a2 : Int) (a3 : ByteArray) (a4 : Option Addr) (a5 a6 : Nat) (b0 b1 b2 : Int) (b3 : ByteArray) (b4 : Option Addr) (b5 b6 : Nat) (wa wb : World), Hid (Rf (fun g => w.heap.size + 2 ≤ g ∧ g < wa.heap.size) wa m [.int .i64 a0, .int .i64 a1, .int .u64 a2, .string a3, .slice a4 a5 a6] t0) → Hid (Below wa.heap.size wa wb) → Hid (Rf (fun g => w.heap.size + 2 ≤ g ∧ g < wb.heap.size) wb m [.int .i64 b0, .int .i64 b1, .int .u64 b2, .string b3, .slice b4 b5 b6] t1) → Below (pW w x y).heap.size (pW w x y) wb → ∀ W, W = ((((((wb.alloc (.cells #[.int .i64 a0, .int .i64 a1, .int .u64 a2, .string a3, .slice a4 a5 a6, .int .i64 b0, .int .i64 b1, .int .u64 b2, .string b3, .slice b4 b5 b6] 25)).setCell ⟨w.heap.size, 0, none⟩ (.int .i64 9)).setCell ⟨w.heap.size, 1, none⟩ (.int .i64 0)).setCell ⟨w.heap.size, 2, none⟩ (.int .u64 0)).setCell ⟨w.heap.size, 3, none⟩ (.string ⟨#[]⟩)).setCell ⟨w.heap.size, 4, none⟩ (.slice (some ⟨wb.heap.size, 0, none⟩) 2 2)) →
      ∃ g c v0 v1 v2 v3 v4 y0 y1 y2 y3 y4, Ending.returned (.agg #[.int .i64 9, .int .i64 0, .int .u64 0, .string ⟨#[]⟩, .slice (some ⟨wb.heap.size, 0, none⟩) 2 2]) = .returned (.agg #[.int .i64 9, .int .i64 0, .int .u64 0, .string ⟨#[]⟩, .slice (some ⟨g, 0, none⟩) 2 c]) ∧ 2 ≤ c ∧ c ≤ maxLen ∧ w.heap.size ≤ g ∧ g < W.heap.size ∧ (∀ q, W.frozen? ⟨g, q, none⟩ = false) ∧ (W.cell? ⟨g, 0, none⟩ = some v0 ∧ W.cell? ⟨g, 1, none⟩ = some v1 ∧ W.cell? ⟨g, 2, none⟩ = some v2 ∧ W.cell? ⟨g, 3, none⟩ = some v3 ∧ W.cell? ⟨g, 4, none⟩ = some v4) ∧ (W.cell? ⟨g, 5, none⟩ = some y0 ∧ W.cell? ⟨g, 6, none⟩ = some y1 ∧ W.cell? ⟨g, 7, none⟩ = some y2 ∧ W.cell? ⟨g, 8, none⟩ = some y3 ∧ W.cell? ⟨g, 9, none⟩ = some y4) ∧ Rf (fun g => w.heap.size ≤ g ∧ g < W.heap.size) W m [v0, v1, v2, v3, v4] t0 ∧ Rf (fun g => w.heap.size ≤ g ∧ g < W.heap.size) W m [y0, y1, y2, y3, y4] t1 ∧ Below w.heap.size w W) := fun a0 a1 a2 a3 a4 a5 a6 b0 b1' b2 b3 b4 b5 b6 wa wb ra xb rb kb W hW => by
    have hz := kb.size
    have hxs := xb.out.size
    obtain ⟨p1, p2, p3, p4⟩ := put5 w wb (w.heap.size + 2) _ _ _ _ _ _ (by omega) (b1.trans (kb.mono (by omega))) (by omega) hW
    refine ⟨wb.heap.size, 2, _, _, _, _, _, _, _, _, _, _, rfl, Nat.le_refl _, by decide, by omega, by omega, (fun q => by simp [World.frozen?, p3]), ⟨by simp [World.cell?, p3], by simp [World.cell?, p3], by simp [World.cell?, p3], by simp [World.cell?, p3], by simp [World.cell?, p3]⟩, ⟨by simp [World.cell?, p3], by simp [World.cell?, p3], by simp [World.cell?, p3], by simp [World.cell?, p3], by simp [World.cell?, p3]⟩, Rf.to (fun q hq => ⟨⟨by have := hq.1; omega, by have := hq.2; omega⟩, (p2 q hq.1 (by have := hq.2; omega)).trans (xb.out.block q hq.2)⟩) _ _ _ ra.out, Rf.to (fun q hq => ⟨⟨by have := hq.1; omega, by have := hq.2; omega⟩, p2 q hq.1 hq.2⟩) _ _ _ rb.out, p4⟩
  have sx := vr_any hx
  have sy := vr_any hy
  clear ih hx hy hr0 h60 hp0 hr1 h61 hp1 hb0 dz hh
  rcases sx with rfl | ⟨T, z, rfl⟩ <;> rcases sy with rfl | ⟨T', z', rfl⟩
  · have a0 : ∀ w : World, (Instr.typeAssert (.iface 152 (.agg #[.nilIface, .nilIface])) 20 140 true).run Tryz.prog w = .ok (.tuple #[.int .i64 0, .bool false]) w := fun w => asto_no (z := .int .i64 0) Tryz.underlying140 (fun m h => by cases h) (by kernel_rfl) (by decide)
    have a1 : ∀ w : World, (Instr.typeAssert (.iface 152 (.agg #[.nilIface, .nilIface])) 20 141 true).run Tryz.prog w = .ok (.tuple #[.int .i64 0, .bool false]) w := fun w => asto_no (z := .int .i64 0) Tryz.underlying141 (fun m h => by cases h) (by kernel_rfl) (by decide)
    have a2 : ∀ w : World, (Instr.typeAssert (.iface 152 (.agg #[.nilIface, .nilIface])) 20 142 true).run Tryz.prog w = .ok (.tuple #[.float .f64 0, .bool false]) w := fun w => asto_no (z := .float .f64 0) Tryz.underlying142 (fun m h => by cases h) (by kernel_rfl) (by decide)
    have a3 : ∀ w : World, (Instr.typeAssert (.iface 152 (.agg #[.nilIface, .nilIface])) 20 101 true).run Tryz.prog w = .ok (.tuple #[.string ⟨#[]⟩, .bool false]) w := fun w => asto_no (z := .string ⟨#[]⟩) Tryz.underlying101 (fun m h => by cases h) (by kernel_rfl) (by decide)
    have a4 : ∀ w : World, (Instr.typeAssert (.iface 152 (.agg #[.nilIface, .nilIface])) 20 143 true).run Tryz.prog w = .ok (.tuple #[.string ⟨#[]⟩, .bool false]) w := fun w => asto_no (z := .string ⟨#[]⟩) Tryz.underlying143 (fun m h => by cases h) (by kernel_rfl) (by decide)
    have a5 : ∀ w : World, (Instr.typeAssert (.iface 152 (.agg #[.nilIface, .nilIface])) 20 144 true).run Tryz.prog w = .ok (.tuple #[.bool false, .bool false]) w := fun w => asto_no (z := .bool false) Tryz.underlying144 (fun m h => by cases h) (by kernel_rfl) (by decide)
    have a6 : ∀ w : World, (Instr.typeAssert (.iface 152 (.agg #[.nilIface, .nilIface])) 20 147 true).run Tryz.prog w = .ok (.tuple #[.slice none 0 0, .bool false]) w := fun w => asto_no (z := .slice none 0 0) Tryz.underlying147 (fun m h => by cases h) (by kernel_rfl) (by decide)
    have a7 : ∀ w : World, (Instr.typeAssert (.iface 152 (.agg #[.nilIface, .nilIface])) 20 149 true).run Tryz.prog w = .ok (.tuple #[.slice none 0 0, .bool false]) w := fun w => asto_no (z := .slice none 0 0) Tryz.underlying149 (fun m h => by cases h) (by kernel_rfl) (by decide)
    have a8 : ∀ w : World, (Instr.typeAssert (.iface 152 (.agg #[.nilIface, .nilIface])) 20 152 true).run Tryz.prog w = .ok (.tuple #[.agg #[.nilIface, .nilIface], .bool true]) w := fun w => asto_yes (z := .agg #[.nilIface, .nilIface]) Tryz.underlying152 (fun m h => by cases h) (by kernel_rfl)
    go_enter Tryz.func82, Tryz.ntmps82
    go_wp2_with fail
    unfold pW zD at *
    go_region_held3 (fun w' => w'.cell? ⟨w.heap.size + 1, 0, none⟩ = some (.nilIface) ∧ w'.cell? ⟨w.heap.size + 1, 1, none⟩ = some (.nilIface)) (first | (with_reducible refine ⟨(KS.out _ ?_).1, (KS.out _ ?_).2.1⟩ <;> with_reducible assumption) | with_reducible exact ⟨(KS.out _ KD.out).1, (KS.out _ KD.out).2.1⟩ | (with_reducible refine ⟨(KP.out _ _ ?_).1, (KP.out _ _ ?_).2.1⟩ <;> with_reducible assumption) | (with_reducible refine KQ.out _ _ _ _ _ _ _ ?_; with_reducible assumption)) (first | (go_at_call 82; have hs0 := ‹Fst1›; refine (KB.out _ (by first | with_reducible assumption | exact KD.out)).mono ?_; rintro e wb ⟨b0, b1', b2, b3, b4, b5, b6, rfl, fb, rb, xb, kb⟩; obtain ⟨-, -, z0, z1, z2, z3, z4, fz⟩ := KP.out wb (.cells #[.int .i64 a0, .int .i64 a1, .int .u64 a2, .string a3, .slice a4 a5 a6, .int .i64 b0, .int .i64 b1', .int .u64 b2, .string b3, .slice b4 b5 b6] 25) kb) | (go_at_call 82; refine (KA.out _ (by first | with_reducible assumption | exact KD.out)).mono ?_; rintro e wa ⟨a0, a1, a2, a3, a4, a5, a6, rfl, fa, ra, xa, ka⟩))
    all_goals go_wp2
    all_goals (refine bodyPost_ret (v := .agg #[.int .i64 9, .int .i64 0, .int .u64 0, .string ⟨#[]⟩, .slice (some ⟨wb.heap.size, 0, none⟩) 2 2]) (by simp [results, Tryz.results82, go_sem, World.cell?_setCell_same, World.cell?_setCell_other, z0, z1, z2, z3, z4]) rfl (FN.out _ _ _ _ _ _ _ _ _ _ _ _ _ _ wa wb ra xb rb kb _ rfl))
  · have a0 : ∀ w : World, (Instr.typeAssert (.iface 152 (.agg #[.nilIface, .iface T' z'])) 20 140 true).run Tryz.prog w = .ok (.tuple #[.int .i64 0, .bool false]) w := fun w => asto_no (z := .int .i64 0) Tryz.underlying140 (fun m h => by cases h) (by kernel_rfl) (by decide)
    have a1 : ∀ w : World, (Instr.typeAssert (.iface 152 (.agg #[.nilIface, .iface T' z'])) 20 141 true).run Tryz.prog w = .ok (.tuple #[.int .i64 0, .bool false]) w := fun w => asto_no (z := .int .i64 0) Tryz.underlying141 (fun m h => by cases h) (by kernel_rfl) (by decide)
    have a2 : ∀ w : World, (Instr.typeAssert (.iface 152 (.agg #[.nilIface, .iface T' z'])) 20 142 true).run Tryz.prog w = .ok (.tuple #[.float .f64 0, .bool false]) w := fun w => asto_no (z := .float .f64 0) Tryz.underlying142 (fun m h => by cases h) (by kernel_rfl) (by decide)
    have a3 : ∀ w : World, (Instr.typeAssert (.iface 152 (.agg #[.nilIface, .iface T' z'])) 20 101 true).run Tryz.prog w = .ok (.tuple #[.string ⟨#[]⟩, .bool false]) w := fun w => asto_no (z := .string ⟨#[]⟩) Tryz.underlying101 (fun m h => by cases h) (by kernel_rfl) (by decide)
    have a4 : ∀ w : World, (Instr.typeAssert (.iface 152 (.agg #[.nilIface, .iface T' z'])) 20 143 true).run Tryz.prog w = .ok (.tuple #[.string ⟨#[]⟩, .bool false]) w := fun w => asto_no (z := .string ⟨#[]⟩) Tryz.underlying143 (fun m h => by cases h) (by kernel_rfl) (by decide)
    have a5 : ∀ w : World, (Instr.typeAssert (.iface 152 (.agg #[.nilIface, .iface T' z'])) 20 144 true).run Tryz.prog w = .ok (.tuple #[.bool false, .bool false]) w := fun w => asto_no (z := .bool false) Tryz.underlying144 (fun m h => by cases h) (by kernel_rfl) (by decide)
    have a6 : ∀ w : World, (Instr.typeAssert (.iface 152 (.agg #[.nilIface, .iface T' z'])) 20 147 true).run Tryz.prog w = .ok (.tuple #[.slice none 0 0, .bool false]) w := fun w => asto_no (z := .slice none 0 0) Tryz.underlying147 (fun m h => by cases h) (by kernel_rfl) (by decide)
    have a7 : ∀ w : World, (Instr.typeAssert (.iface 152 (.agg #[.nilIface, .iface T' z'])) 20 149 true).run Tryz.prog w = .ok (.tuple #[.slice none 0 0, .bool false]) w := fun w => asto_no (z := .slice none 0 0) Tryz.underlying149 (fun m h => by cases h) (by kernel_rfl) (by decide)
    have a8 : ∀ w : World, (Instr.typeAssert (.iface 152 (.agg #[.nilIface, .iface T' z'])) 20 152 true).run Tryz.prog w = .ok (.tuple #[.agg #[.nilIface, .iface T' z'], .bool true]) w := fun w => asto_yes (z := .agg #[.nilIface, .nilIface]) Tryz.underlying152 (fun m h => by cases h) (by kernel_rfl)
    go_enter Tryz.func82, Tryz.ntmps82
    go_wp2_with fail
    unfold pW zD at *
    go_region_held3 (fun w' => w'.cell? ⟨w.heap.size + 1, 0, none⟩ = some (.nilIface) ∧ w'.cell? ⟨w.heap.size + 1, 1, none⟩ = some (.iface T' z')) (first | (with_reducible refine ⟨(KS.out _ ?_).1, (KS.out _ ?_).2.1⟩ <;> with_reducible assumption) | with_reducible exact ⟨(KS.out _ KD.out).1, (KS.out _ KD.out).2.1⟩ | (with_reducible refine ⟨(KP.out _ _ ?_).1, (KP.out _ _ ?_).2.1⟩ <;> with_reducible assumption) | (with_reducible refine KQ.out _ _ _ _ _ _ _ ?_; with_reducible assumption)) (first | (go_at_call 82; have hs0 := ‹Fst1›; refine (KB.out _ (by first | with_reducible assumption | exact KD.out)).mono ?_; rintro e wb ⟨b0, b1', b2, b3, b4, b5, b6, rfl, fb, rb, xb, kb⟩; obtain ⟨-, -, z0, z1, z2, z3, z4, fz⟩ := KP.out wb (.cells #[.int .i64 a0, .int .i64 a1, .int .u64 a2, .string a3, .slice a4 a5 a6, .int .i64 b0, .int .i64 b1', .int .u64 b2, .string b3, .slice b4 b5 b6] 25) kb) | (go_at_call 82; refine (KA.out _ (by first | with_reducible assumption | exact KD.out)).mono ?_; rintro e wa ⟨a0, a1, a2, a3, a4, a5, a6, rfl, fa, ra, xa, ka⟩))
    all_goals go_wp2
    all_goals (refine bodyPost_ret (v := .agg #[.int .i64 9, .int .i64 0, .int .u64 0, .string ⟨#[]⟩, .slice (some ⟨wb.heap.size, 0, none⟩) 2 2]) (by simp [results, Tryz.results82, go_sem, World.cell?_setCell_same, World.cell?_setCell_other, z0, z1, z2, z3, z4]) rfl (FN.out _ _ _ _ _ _ _ _ _ _ _ _ _ _ wa wb ra xb rb kb _ rfl))
  · have a0 : ∀ w : World, (Instr.typeAssert (.iface 152 (.agg #[.iface T z, .nilIface])) 20 140 true).run Tryz.prog w = .ok (.tuple #[.int .i64 0, .bool false]) w := fun w => asto_no (z := .int .i64 0) Tryz.underlying140 (fun m h => by cases h) (by kernel_rfl) (by decide)
    have a1 : ∀ w : World, (Instr.typeAssert (.iface 152 (.agg #[.iface T z, .nilIface])) 20 141 true).run Tryz.prog w = .ok (.tuple #[.int .i64 0, .bool false]) w := fun w => asto_no (z := .int .i64 0) Tryz.underlying141 (fun m h => by cases h) (by kernel_rfl) (by decide)
    have a2 : ∀ w : World, (Instr.typeAssert (.iface 152 (.agg #[.iface T z, .nilIface])) 20 142 true).run Tryz.prog w = .ok (.tuple #[.float .f64 0, .bool false]) w := fun w => asto_no (z := .float .f64 0) Tryz.underlying142 (fun m h => by cases h) (by kernel_rfl) (by decide)
    have a3 : ∀ w : World, (Instr.typeAssert (.iface 152 (.agg #[.iface T z, .nilIface])) 20 101 true).run Tryz.prog w = .ok (.tuple #[.string ⟨#[]⟩, .bool false]) w := fun w => asto_no (z := .string ⟨#[]⟩) Tryz.underlying101 (fun m h => by cases h) (by kernel_rfl) (by decide)
    have a4 : ∀ w : World, (Instr.typeAssert (.iface 152 (.agg #[.iface T z, .nilIface])) 20 143 true).run Tryz.prog w = .ok (.tuple #[.string ⟨#[]⟩, .bool false]) w := fun w => asto_no (z := .string ⟨#[]⟩) Tryz.underlying143 (fun m h => by cases h) (by kernel_rfl) (by decide)
    have a5 : ∀ w : World, (Instr.typeAssert (.iface 152 (.agg #[.iface T z, .nilIface])) 20 144 true).run Tryz.prog w = .ok (.tuple #[.bool false, .bool false]) w := fun w => asto_no (z := .bool false) Tryz.underlying144 (fun m h => by cases h) (by kernel_rfl) (by decide)
    have a6 : ∀ w : World, (Instr.typeAssert (.iface 152 (.agg #[.iface T z, .nilIface])) 20 147 true).run Tryz.prog w = .ok (.tuple #[.slice none 0 0, .bool false]) w := fun w => asto_no (z := .slice none 0 0) Tryz.underlying147 (fun m h => by cases h) (by kernel_rfl) (by decide)
    have a7 : ∀ w : World, (Instr.typeAssert (.iface 152 (.agg #[.iface T z, .nilIface])) 20 149 true).run Tryz.prog w = .ok (.tuple #[.slice none 0 0, .bool false]) w := fun w => asto_no (z := .slice none 0 0) Tryz.underlying149 (fun m h => by cases h) (by kernel_rfl) (by decide)
    have a8 : ∀ w : World, (Instr.typeAssert (.iface 152 (.agg #[.iface T z, .nilIface])) 20 152 true).run Tryz.prog w = .ok (.tuple #[.agg #[.iface T z, .nilIface], .bool true]) w := fun w => asto_yes (z := .agg #[.nilIface, .nilIface]) Tryz.underlying152 (fun m h => by cases h) (by kernel_rfl)
    go_enter Tryz.func82, Tryz.ntmps82
    go_wp2_with fail
    unfold pW zD at *
    go_region_held3 (fun w' => w'.cell? ⟨w.heap.size + 1, 0, none⟩ = some (.iface T z) ∧ w'.cell? ⟨w.heap.size + 1, 1, none⟩ = some (.nilIface)) (first | (with_reducible refine ⟨(KS.out _ ?_).1, (KS.out _ ?_).2.1⟩ <;> with_reducible assumption) | with_reducible exact ⟨(KS.out _ KD.out).1, (KS.out _ KD.out).2.1⟩ | (with_reducible refine ⟨(KP.out _ _ ?_).1, (KP.out _ _ ?_).2.1⟩ <;> with_reducible assumption) | (with_reducible refine KQ.out _ _ _ _ _ _ _ ?_; with_reducible assumption)) (first | (go_at_call 82; have hs0 := ‹Fst1›; refine (KB.out _ (by first | with_reducible assumption | exact KD.out)).mono ?_; rintro e wb ⟨b0, b1', b2, b3, b4, b5, b6, rfl, fb, rb, xb, kb⟩; obtain ⟨-, -, z0, z1, z2, z3, z4, fz⟩ := KP.out wb (.cells #[.int .i64 a0, .int .i64 a1, .int .u64 a2, .string a3, .slice a4 a5 a6, .int .i64 b0, .int .i64 b1', .int .u64 b2, .string b3, .slice b4 b5 b6] 25) kb) | (go_at_call 82; refine (KA.out _ (by first | with_reducible assumption | exact KD.out)).mono ?_; rintro e wa ⟨a0, a1, a2, a3, a4, a5, a6, rfl, fa, ra, xa, ka⟩))
    all_goals go_wp2
    all_goals (refine bodyPost_ret (v := .agg #[.int .i64 9, .int .i64 0, .int .u64 0, .string ⟨#[]⟩, .slice (some ⟨wb.heap.size, 0, none⟩) 2 2]) (by simp [results, Tryz.results82, go_sem, World.cell?_setCell_same, World.cell?_setCell_other, z0, z1, z2, z3, z4]) rfl (FN.out _ _ _ _ _ _ _ _ _ _ _ _ _ _ wa wb ra xb rb kb _ rfl))
  · have a0 : ∀ w : World, (Instr.typeAssert (.iface 152 (.agg #[.iface T z, .iface T' z'])) 20 140 true).run Tryz.prog w = .ok (.tuple #[.int .i64 0, .bool false]) w := fun w => asto_no (z := .int .i64 0) Tryz.underlying140 (fun m h => by cases h) (by kernel_rfl) (by decide)
    have a1 : ∀ w : World, (Instr.typeAssert (.iface 152 (.agg #[.iface T z, .iface T' z'])) 20 141 true).run Tryz.prog w = .ok (.tuple #[.int .i64 0, .bool false]) w := fun w => asto_no (z := .int .i64 0) Tryz.underlying141 (fun m h => by cases h) (by kernel_rfl) (by decide)
    have a2 : ∀ w : World, (Instr.typeAssert (.iface 152 (.agg #[.iface T z, .iface T' z'])) 20 142 true).run Tryz.prog w = .ok (.tuple #[.float .f64 0, .bool false]) w := fun w => asto_no (z := .float .f64 0) Tryz.underlying142 (fun m h => by cases h) (by kernel_rfl) (by decide)
    have a3 : ∀ w : World, (Instr.typeAssert (.iface 152 (.agg #[.iface T z, .iface T' z'])) 20 101 true).run Tryz.prog w = .ok (.tuple #[.string ⟨#[]⟩, .bool false]) w := fun w => asto_no (z := .string ⟨#[]⟩) Tryz.underlying101 (fun m h => by cases h) (by kernel_rfl) (by decide)
    have a4 : ∀ w : World, (Instr.typeAssert (.iface 152 (.agg #[.iface T z, .iface T' z'])) 20 143 true).run Tryz.prog w = .ok (.tuple #[.string ⟨#[]⟩, .bool false]) w := fun w => asto_no (z := .string ⟨#[]⟩) Tryz.underlying143 (fun m h => by cases h) (by kernel_rfl) (by decide)
    have a5 : ∀ w : World, (Instr.typeAssert (.iface 152 (.agg #[.iface T z, .iface T' z'])) 20 144 true).run Tryz.prog w = .ok (.tuple #[.bool false, .bool false]) w := fun w => asto_no (z := .bool false) Tryz.underlying144 (fun m h => by cases h) (by kernel_rfl) (by decide)
    have a6 : ∀ w : World, (Instr.typeAssert (.iface 152 (.agg #[.iface T z, .iface T' z'])) 20 147 true).run Tryz.prog w = .ok (.tuple #[.slice none 0 0, .bool false]) w := fun w => asto_no (z := .slice none 0 0) Tryz.underlying147 (fun m h => by cases h) (by kernel_rfl) (by decide)
    have a7 : ∀ w : World, (Instr.typeAssert (.iface 152 (.agg #[.iface T z, .iface T' z'])) 20 149 true).run Tryz.prog w = .ok (.tuple #[.slice none 0 0, .bool false]) w := fun w => asto_no (z := .slice none 0 0) Tryz.underlying149 (fun m h => by cases h) (by kernel_rfl) (by decide)
    have a8 : ∀ w : World, (Instr.typeAssert (.iface 152 (.agg #[.iface T z, .iface T' z'])) 20 152 true).run Tryz.prog w = .ok (.tuple #[.agg #[.iface T z, .iface T' z'], .bool true]) w := fun w => asto_yes (z := .agg #[.nilIface, .nilIface]) Tryz.underlying152 (fun m h => by cases h) (by kernel_rfl)
    go_enter Tryz.func82, Tryz.ntmps82
    go_wp2_with fail
    unfold pW zD at *
    go_region_held3 (fun w' => w'.cell? ⟨w.heap.size + 1, 0, none⟩ = some (.iface T z) ∧ w'.cell? ⟨w.heap.size + 1, 1, none⟩ = some (.iface T' z')) (first | (with_reducible refine ⟨(KS.out _ ?_).1, (KS.out _ ?_).2.1⟩ <;> with_reducible assumption) | with_reducible exact ⟨(KS.out _ KD.out).1, (KS.out _ KD.out).2.1⟩ | (with_reducible refine ⟨(KP.out _ _ ?_).1, (KP.out _ _ ?_).2.1⟩ <;> with_reducible assumption) | (with_reducible refine KQ.out _ _ _ _ _ _ _ ?_; with_reducible assumption)) (first | (go_at_call 82; have hs0 := ‹Fst1›; refine (KB.out _ (by first | with_reducible assumption | exact KD.out)).mono ?_; rintro e wb ⟨b0, b1', b2, b3, b4, b5, b6, rfl, fb, rb, xb, kb⟩; obtain ⟨-, -, z0, z1, z2, z3, z4, fz⟩ := KP.out wb (.cells #[.int .i64 a0, .int .i64 a1, .int .u64 a2, .string a3, .slice a4 a5 a6, .int .i64 b0, .int .i64 b1', .int .u64 b2, .string b3, .slice b4 b5 b6] 25) kb) | (go_at_call 82; refine (KA.out _ (by first | with_reducible assumption | exact KD.out)).mono ?_; rintro e wa ⟨a0, a1, a2, a3, a4, a5, a6, rfl, fa, ra, xa, ka⟩))
    all_goals go_wp2
    all_goals (refine bodyPost_ret (v := .agg #[.int .i64 9, .int .i64 0, .int .u64 0, .string ⟨#[]⟩, .slice (some ⟨wb.heap.size, 0, none⟩) 2 2]) (by simp [results, Tryz.results82, go_sem, World.cell?_setCell_same, World.cell?_setCell_other, z0, z1, z2, z3, z4]) rfl (FN.out _ _ _ _ _ _ _ _ _ _ _ _ _ _ wa wb ra xb rb kb _ rfl))
end Go.Proofs.YtajagjcfmaggiaaGreatDoor.Dt
/- The package's Plain of octets, rows and pointers, and of any value; the conditions: the value in memory, and its tree valid. -/
namespace Go.Proofs.YtajagjcfmaggiaaGreatDoor.Dt
open Go.RowKit
set_option maxRecDepth 100000 in
set_option maxHeartbeats 2000000 in
theorem pl7 (s : ByteArray) (g c : Nat) (fr : Nat × Nat) (w : World) (hh : w.heap[g]? = some (.cells (bytesRow s c) 5 fr)) : Calls Tryz.prog 82 #[.iface 147 (.slice (some ⟨g, 0, none⟩) s.size c)] w fun e w' => e = .returned (.agg #[.int .i64 7, .int .i64 0, .int .u64 0, .string s, .slice none 0 0]) ∧ Below w.heap.size w w' := by
  have a0 : ∀ w : World, (Instr.typeAssert (.iface 147 (.slice (some ⟨g, 0, none⟩) s.size c)) 20 140 true).run Tryz.prog w = .ok (.tuple #[.int .i64 0, .bool false]) w := fun w => asto_no (z := .int .i64 0) Tryz.underlying140 (fun m h => by cases h) (by kernel_rfl) (by decide)
  have a1 : ∀ w : World, (Instr.typeAssert (.iface 147 (.slice (some ⟨g, 0, none⟩) s.size c)) 20 141 true).run Tryz.prog w = .ok (.tuple #[.int .i64 0, .bool false]) w := fun w => asto_no (z := .int .i64 0) Tryz.underlying141 (fun m h => by cases h) (by kernel_rfl) (by decide)
  have a2 : ∀ w : World, (Instr.typeAssert (.iface 147 (.slice (some ⟨g, 0, none⟩) s.size c)) 20 142 true).run Tryz.prog w = .ok (.tuple #[.float .f64 0, .bool false]) w := fun w => asto_no (z := .float .f64 0) Tryz.underlying142 (fun m h => by cases h) (by kernel_rfl) (by decide)
  have a3 : ∀ w : World, (Instr.typeAssert (.iface 147 (.slice (some ⟨g, 0, none⟩) s.size c)) 20 101 true).run Tryz.prog w = .ok (.tuple #[.string ⟨#[]⟩, .bool false]) w := fun w => asto_no (z := .string ⟨#[]⟩) Tryz.underlying101 (fun m h => by cases h) (by kernel_rfl) (by decide)
  have a4 : ∀ w : World, (Instr.typeAssert (.iface 147 (.slice (some ⟨g, 0, none⟩) s.size c)) 20 143 true).run Tryz.prog w = .ok (.tuple #[.string ⟨#[]⟩, .bool false]) w := fun w => asto_no (z := .string ⟨#[]⟩) Tryz.underlying143 (fun m h => by cases h) (by kernel_rfl) (by decide)
  have a5 : ∀ w : World, (Instr.typeAssert (.iface 147 (.slice (some ⟨g, 0, none⟩) s.size c)) 20 144 true).run Tryz.prog w = .ok (.tuple #[.bool false, .bool false]) w := fun w => asto_no (z := .bool false) Tryz.underlying144 (fun m h => by cases h) (by kernel_rfl) (by decide)
  have a6 : ∀ w : World, (Instr.typeAssert (.iface 147 (.slice (some ⟨g, 0, none⟩) s.size c)) 20 147 true).run Tryz.prog w = .ok (.tuple #[.slice (some ⟨g, 0, none⟩) s.size c, .bool true]) w := fun w => asto_yes (z := .slice none 0 0) Tryz.underlying147 (fun m h => by cases h) (by kernel_rfl)
  have hcx : ∀ wx : World, wx.heap[g]? = some (.cells (bytesRow s c) 5 fr) → (convert 147 9 (.slice (some ⟨g, 0, none⟩) s.size c)).run Tryz.prog wx = .ok (.string s) wx := fun wx hx => by
    have := run_convert_bytes_back (P := Tryz.prog) wx 147 9 5 ⟨g, 0, none⟩ c s.data.toList Tryz.underlying147 Tryz.underlying5 Tryz.underlying9 (fun j hj => by
      have hj' : j < s.data.size := by simpa using hj
      have := bytesRow_at s c j hj'
      have ea : (⟨g, 0, none⟩ : Addr).add j = ⟨g, j, none⟩ := by by_cases h0 : j = 0 <;> simp [Addr.add, h0]
      rw [ea]
      simp [World.cell?, hx, this])
    simpa using this
  have hgl : g < w.heap.size := (Array.getElem?_eq_some_iff.1 hh).1
  have hcv := hcx (zD w) (((below1 w _).block g hgl).trans hh)
  unfold zD at hcv
  clear hcx
  go_enter Tryz.func82, Tryz.ntmps82
  go_wp2
  refine bodyPost_ret (v := .agg #[.int .i64 7, .int .i64 0, .int .u64 0, .string s, .slice none 0 0]) (by simp [results, Tryz.results82, go_sem]) rfl ⟨rfl, ?_⟩
  first | exact below1 w _ | exact below2 w _ _

set_option maxRecDepth 100000 in
set_option maxHeartbeats 2000000 in
theorem plNo (w : World) : Calls Tryz.prog 93 #[.pointer none] w fun e w' => e = .returned (.agg #[.int .i64 12, .int .i64 0, .int .u64 0, .string ⟨#[]⟩, .slice none 0 0]) ∧ Below w.heap.size w w' := by
  have hen : ∀ w, (binOp .eql 155 (.pointer none) (.pointer none)).run Tryz.prog w = .ok (.bool true) w := fun _ => by kernel_rfl
  go_enter Tryz.func93, Tryz.ntmps93
  go_wp2
  refine bodyPost_ret (v := .agg #[.int .i64 12, .int .i64 0, .int .u64 0, .string ⟨#[]⟩, .slice none 0 0]) (by simp [results, Tryz.results93, go_sem]) rfl ⟨rfl, ?_⟩
  first | exact below1 w _ | exact below2 w _ _

set_option maxRecDepth 100000 in
set_option maxHeartbeats 2000000 in
theorem plPt (p : Option Addr) (w : World) (R : Value → World → Prop) (hR : ∀ v w' w'', R v w' → (∀ q, w.heap.size < q → w''.heap[q]? = w'.heap[q]?) → w''.heap.size = w'.heap.size → R v w'')
    (HP : Calls Tryz.prog 93 #[.pointer p] (zD w) fun e w' => ∃ (k i b : Int) (s : ByteArray) (a : Option Addr) (n c : Nat), e = .returned (.agg #[.int .i64 k, .int .i64 i, .int .u64 b, .string s, .slice a n c]) ∧ R (.agg #[.int .i64 k, .int .i64 i, .int .u64 b, .string s, .slice a n c]) w' ∧ Below (zD w).heap.size (zD w) w') :
    Calls Tryz.prog 82 #[.iface 155 (.pointer p)] w fun e w' => ∃ v, e = .returned v ∧ R v w' ∧ Below w.heap.size w w' := by
  have a0 : ∀ w : World, (Instr.typeAssert (.iface 155 (.pointer p)) 20 140 true).run Tryz.prog w = .ok (.tuple #[.int .i64 0, .bool false]) w := fun w => asto_no (z := .int .i64 0) Tryz.underlying140 (fun m h => by cases h) (by kernel_rfl) (by decide)
  have a1 : ∀ w : World, (Instr.typeAssert (.iface 155 (.pointer p)) 20 141 true).run Tryz.prog w = .ok (.tuple #[.int .i64 0, .bool false]) w := fun w => asto_no (z := .int .i64 0) Tryz.underlying141 (fun m h => by cases h) (by kernel_rfl) (by decide)
  have a2 : ∀ w : World, (Instr.typeAssert (.iface 155 (.pointer p)) 20 142 true).run Tryz.prog w = .ok (.tuple #[.float .f64 0, .bool false]) w := fun w => asto_no (z := .float .f64 0) Tryz.underlying142 (fun m h => by cases h) (by kernel_rfl) (by decide)
  have a3 : ∀ w : World, (Instr.typeAssert (.iface 155 (.pointer p)) 20 101 true).run Tryz.prog w = .ok (.tuple #[.string ⟨#[]⟩, .bool false]) w := fun w => asto_no (z := .string ⟨#[]⟩) Tryz.underlying101 (fun m h => by cases h) (by kernel_rfl) (by decide)
  have a4 : ∀ w : World, (Instr.typeAssert (.iface 155 (.pointer p)) 20 143 true).run Tryz.prog w = .ok (.tuple #[.string ⟨#[]⟩, .bool false]) w := fun w => asto_no (z := .string ⟨#[]⟩) Tryz.underlying143 (fun m h => by cases h) (by kernel_rfl) (by decide)
  have a5 : ∀ w : World, (Instr.typeAssert (.iface 155 (.pointer p)) 20 144 true).run Tryz.prog w = .ok (.tuple #[.bool false, .bool false]) w := fun w => asto_no (z := .bool false) Tryz.underlying144 (fun m h => by cases h) (by kernel_rfl) (by decide)
  have a6 : ∀ w : World, (Instr.typeAssert (.iface 155 (.pointer p)) 20 147 true).run Tryz.prog w = .ok (.tuple #[.slice none 0 0, .bool false]) w := fun w => asto_no (z := .slice none 0 0) Tryz.underlying147 (fun m h => by cases h) (by kernel_rfl) (by decide)
  have a7 : ∀ w : World, (Instr.typeAssert (.iface 155 (.pointer p)) 20 149 true).run Tryz.prog w = .ok (.tuple #[.slice none 0 0, .bool false]) w := fun w => asto_no (z := .slice none 0 0) Tryz.underlying149 (fun m h => by cases h) (by kernel_rfl) (by decide)
  have a8 : ∀ w : World, (Instr.typeAssert (.iface 155 (.pointer p)) 20 152 true).run Tryz.prog w = .ok (.tuple #[.agg #[.nilIface, .nilIface], .bool false]) w := fun w => asto_no (z := .agg #[.nilIface, .nilIface]) Tryz.underlying152 (fun m h => by cases h) (by kernel_rfl) (by decide)
  have a9 : ∀ w : World, (Instr.typeAssert (.iface 155 (.pointer p)) 20 154 true).run Tryz.prog w = .ok (.tuple #[.agg #[.int .i64 0, .string ⟨#[]⟩], .bool false]) w := fun w => asto_no (z := .agg #[.int .i64 0, .string ⟨#[]⟩]) Tryz.underlying154 (fun m h => by cases h) (by kernel_rfl) (by decide)
  have a10 : ∀ w : World, (Instr.typeAssert (.iface 155 (.pointer p)) 20 155 true).run Tryz.prog w = .ok (.tuple #[.pointer p, .bool true]) w := fun w => asto_yes (z := .pointer none) Tryz.underlying155 (fun m h => by cases h) (by kernel_rfl)
  have HT := Lib.hid HP
  have HR := Lib.hid hR
  clear HP hR
  go_enter Tryz.func82, Tryz.ntmps82
  go_wp2_with fail
  refine HT.out.mono ?_
  rintro e w1 ⟨k, i, b, s, a, n, c, rfl, r, b1⟩
  have d1 := (D5.new w (.int .i64 0) (.int .i64 0) (.int .u64 0) (.string ⟨#[]⟩) (.slice none 0 0)).below b1
  obtain ⟨c0, c1, c2, c3, c4⟩ := d1.c
  have fz : ∀ o, w1.frozen? ⟨w.heap.size, o, none⟩ = false := fun o => d1.f
  have B := (below1 w _).trans (b1.mono (by simp [zD]))
  have r := Lib.hid r
  go_wp2
  refine bodyPost_ret (v := .agg #[.int .i64 k, .int .i64 i, .int .u64 b, .string s, .slice a n c]) (by simp [results, Tryz.results82, go_sem, World.cell?_setCell_same, World.cell?_setCell_other, c0, c1, c2, c3, c4]) rfl ⟨_, rfl, HR.out _ _ _ r.out (fun q hq => ?_) (by simp [World.setCell]), ?_⟩
  · have hq : q ≠ w.heap.size := by omega
    rw [Below.heap_setCell _ _ _ q hq, Below.heap_setCell _ _ _ q hq, Below.heap_setCell _ _ _ q hq, Below.heap_setCell _ _ _ q hq, Below.heap_setCell _ _ _ q hq]
  · exact ((((B.setCell (Nat.le_refl _) _).setCell (Nat.le_refl _) _).setCell (Nat.le_refl _) _).setCell (Nat.le_refl _) _).setCell (Nat.le_refl _) _

set_option maxRecDepth 100000 in
set_option maxHeartbeats 2000000 in
theorem pl8 (a : Option Addr) (n c : Nat) (w : World) (R : Value → World → Prop) (hR : ∀ v w' w'', R v w' → (∀ q, w.heap.size < q → w''.heap[q]? = w'.heap[q]?) → w''.heap.size = w'.heap.size → R v w'')
    (HP : Calls Tryz.prog 92 #[.slice a n c] (zD w) fun e w' => ∃ (g c' : Nat), e = .returned (.slice (some ⟨g, 0, none⟩) n c') ∧ R (.slice (some ⟨g, 0, none⟩) n c') w' ∧ Below (zD w).heap.size (zD w) w') :
    Calls Tryz.prog 82 #[.iface 149 (.slice a n c)] w fun e w' => ∃ v, e = .returned (.agg #[.int .i64 8, .int .i64 0, .int .u64 0, .string ⟨#[]⟩, v]) ∧ R v w' ∧ Below w.heap.size w w' := by
  have a0 : ∀ w : World, (Instr.typeAssert (.iface 149 (.slice a n c)) 20 140 true).run Tryz.prog w = .ok (.tuple #[.int .i64 0, .bool false]) w := fun w => asto_no (z := .int .i64 0) Tryz.underlying140 (fun m h => by cases h) (by kernel_rfl) (by decide)
  have a1 : ∀ w : World, (Instr.typeAssert (.iface 149 (.slice a n c)) 20 141 true).run Tryz.prog w = .ok (.tuple #[.int .i64 0, .bool false]) w := fun w => asto_no (z := .int .i64 0) Tryz.underlying141 (fun m h => by cases h) (by kernel_rfl) (by decide)
  have a2 : ∀ w : World, (Instr.typeAssert (.iface 149 (.slice a n c)) 20 142 true).run Tryz.prog w = .ok (.tuple #[.float .f64 0, .bool false]) w := fun w => asto_no (z := .float .f64 0) Tryz.underlying142 (fun m h => by cases h) (by kernel_rfl) (by decide)
  have a3 : ∀ w : World, (Instr.typeAssert (.iface 149 (.slice a n c)) 20 101 true).run Tryz.prog w = .ok (.tuple #[.string ⟨#[]⟩, .bool false]) w := fun w => asto_no (z := .string ⟨#[]⟩) Tryz.underlying101 (fun m h => by cases h) (by kernel_rfl) (by decide)
  have a4 : ∀ w : World, (Instr.typeAssert (.iface 149 (.slice a n c)) 20 143 true).run Tryz.prog w = .ok (.tuple #[.string ⟨#[]⟩, .bool false]) w := fun w => asto_no (z := .string ⟨#[]⟩) Tryz.underlying143 (fun m h => by cases h) (by kernel_rfl) (by decide)
  have a5 : ∀ w : World, (Instr.typeAssert (.iface 149 (.slice a n c)) 20 144 true).run Tryz.prog w = .ok (.tuple #[.bool false, .bool false]) w := fun w => asto_no (z := .bool false) Tryz.underlying144 (fun m h => by cases h) (by kernel_rfl) (by decide)
  have a6 : ∀ w : World, (Instr.typeAssert (.iface 149 (.slice a n c)) 20 147 true).run Tryz.prog w = .ok (.tuple #[.slice none 0 0, .bool false]) w := fun w => asto_no (z := .slice none 0 0) Tryz.underlying147 (fun m h => by cases h) (by kernel_rfl) (by decide)
  have a7 : ∀ w : World, (Instr.typeAssert (.iface 149 (.slice a n c)) 20 149 true).run Tryz.prog w = .ok (.tuple #[.slice a n c, .bool true]) w := fun w => asto_yes (z := .slice none 0 0) Tryz.underlying149 (fun m h => by cases h) (by kernel_rfl)
  have HT := Lib.hid HP
  have HR := Lib.hid hR
  clear HP hR
  go_enter Tryz.func82, Tryz.ntmps82
  go_wp2_with fail
  refine HT.out.mono ?_
  rintro e w1 ⟨g, c', rfl, r, b1⟩
  have d1 := (D5.new w (.int .i64 0) (.int .i64 0) (.int .u64 0) (.string ⟨#[]⟩) (.slice none 0 0)).below b1
  obtain ⟨c0, c1, c2, c3, c4⟩ := d1.c
  have fz : ∀ o, w1.frozen? ⟨w.heap.size, o, none⟩ = false := fun o => d1.f
  have B := (below1 w _).trans (b1.mono (by simp [zD]))
  have r := Lib.hid r
  go_wp2
  refine bodyPost_ret (v := .agg #[.int .i64 8, .int .i64 0, .int .u64 0, .string ⟨#[]⟩, .slice (some ⟨g, 0, none⟩) n c']) (by simp [results, Tryz.results82, go_sem, World.cell?_setCell_same, World.cell?_setCell_other, c0, c1, c2, c3, c4]) rfl ⟨_, rfl, HR.out _ _ _ r.out (fun q hq => ?_) (by simp [World.setCell]), ?_⟩
  · have hq : q ≠ w.heap.size := by omega
    rw [Below.heap_setCell _ _ _ q hq, Below.heap_setCell _ _ _ q hq, Below.heap_setCell _ _ _ q hq, Below.heap_setCell _ _ _ q hq, Below.heap_setCell _ _ _ q hq]
  · exact ((((B.setCell (Nat.le_refl _) _).setCell (Nat.le_refl _) _).setCell (Nat.le_refl _) _).setCell (Nat.le_refl _) _).setCell (Nat.le_refl _) _
end Go.Proofs.YtajagjcfmaggiaaGreatDoor.Dt
