/- The package's copies of values and of rows of values: the same trees in new memory; the conditions: the trees in memory, of a size that can be. -/
import Derived.Test.YtajagjcfmaggiaaGreatDoorKBab
import Derived.Test.YtajagjcfmaggiaaGreatDoorKBaa
import Derived.Test.YtajagjcfmaggiaaGreatDoorKBad
import Derived.Test.YtajagjcfmaggiaaGreatDoorKBaj
import Derived.Test.YtajagjcfmaggiaaGreatDoorKBbb
import Derived.Laws.StructEq
import Derived.LaidEql
import Derived.Deep.RegionHeld3
import Derived.Test.YtajagjcfmaggiaaGreatDoorKBac
import Derived.MapKept
import Derived.Defers
import Derived.Recover
import Derived.Test.YtajagjcfmaggiaaGreatDoorKBaf
import Derived.Test.YtajagjcfmaggiaaGreatDoorKBah
import Derived.Deep.Cut
import Derived.Deep.CutRange
import Derived.Laws.IdiomStrings
import Derived.Laws.MakeOwn
import Derived.Laws.Bits64b
import Derived.Laws.Cover2
import Derived.Laws.Strings
namespace Go.Proofs.YtajagjcfmaggiaaGreatDoor.Dt
open Go.RowKit

/-- A row of trees in memory. -/
def Rl (w : World) (n : Nat) (ad : Option Addr) (ts : List (Tr n)) : Prop := ts = [] ∨ ∃ g o, ad = some ⟨g, o, none⟩ ∧ ∀ (j : Nat) (t' : Tr n), ts[j]? = some t' → ∃ v0 v1 v2 v3 v4, w.cell? ⟨g, o + j * 5, none⟩ = some v0 ∧ w.cell? ⟨g, o + j * 5 + 1, none⟩ = some v1 ∧ w.cell? ⟨g, o + j * 5 + 2, none⟩ = some v2 ∧ w.cell? ⟨g, o + j * 5 + 3, none⟩ = some v3 ∧ w.cell? ⟨g, o + j * 5 + 4, none⟩ = some v4 ∧ Rep w n [v0, v1, v2, v3, v4] t'
/-- .. in blocks of which F tells. -/
def Rlf (F : Nat → Prop) (w : World) (n : Nat) (ad : Option Addr) (ts : List (Tr n)) : Prop := ts = [] ∨ ∃ g, ad = some ⟨g, 0, none⟩ ∧ F g ∧ (∀ q, w.frozen? ⟨g, q, none⟩ = false) ∧ ∀ (j : Nat) (t' : Tr n), ts[j]? = some t' → ∃ v0 v1 v2 v3 v4, w.cell? ⟨g, j * 5, none⟩ = some v0 ∧ w.cell? ⟨g, j * 5 + 1, none⟩ = some v1 ∧ w.cell? ⟨g, j * 5 + 2, none⟩ = some v2 ∧ w.cell? ⟨g, j * 5 + 3, none⟩ = some v3 ∧ w.cell? ⟨g, j * 5 + 4, none⟩ = some v4 ∧ Rf F w n [v0, v1, v2, v3, v4] t'

/-- The contract of Copy at trees of one depth. -/
def CpOf (n : Nat) : Prop := ∀ (t : Tr n) (v0 v1 v2 v3 v4 : Value) (w : World), Rep w n [v0, v1, v2, v3, v4] t → (pts n t).1 ≤ 4096 →
  Calls Tryz.prog 36 #[.agg #[v0, v1, v2, v3, v4]] w fun e w' => ∃ (k i u : Int) (s : ByteArray) (ad : Option Addr) (len cap : Nat), e = .returned (.agg #[.int .i64 k, .int .i64 i, .int .u64 u, .string s, .slice ad len cap]) ∧ Rf (fun g => w.heap.size ≤ g ∧ g < w'.heap.size) w' n [.int .i64 k, .int .i64 i, .int .u64 u, .string s, .slice ad len cap] t ∧ Below w.heap.size w w'

set_option maxRecDepth 100000 in
set_option maxHeartbeats 2000000 in
theorem vall (m : Nat) (ih : CpOf m) (ks : List (Tr m)) (ad : Option Addr) (cap : Nat) (w : World) (hn : ks.length ≤ 2199023255551) (hps : ∀ t ∈ ks, (pts m t).1 ≤ 4096) (hk : Rl w m ad ks) :
    Calls Tryz.prog 67 #[.slice ad ks.length cap] w fun e w' => ∃ a c, e = .returned (.slice a ks.length c) ∧ ks.length ≤ c ∧ c ≤ maxLen ∧ Rlf (fun g => w.heap.size ≤ g ∧ g < w'.heap.size) w' m a ks ∧ Below w.heap.size w w' := by
  by_cases h0 : ks = []
  · subst h0
    exact (copyAll_none ad cap w).mono fun e w' ⟨he, hb⟩ => ⟨none, 0, he, Nat.le_refl _, by unfold maxLen; omega, .inl rfl, hb⟩
  have hpos : 0 < ks.length := List.length_pos_iff.2 h0
  obtain ⟨i0, hz20, hze, hsz, hby⟩ := infoDat_parts
  have hmk : ∀ w : World, (Instr.makeSlice 23 (.int .i64 ks.length) (.int .i64 ks.length)).run Tryz.prog w = .ok (.slice (some ⟨w.heap.size, 0, none⟩) ks.length ks.length) (w.alloc (.cells (madeCells (Value.cells (.agg #[.int .i64 0, .int .i64 0, .int .u64 0, .string ⟨#[]⟩, .slice none 0 0])) (ks.length * 5)) 25)) := fun w => by
    have := run_make (P := Tryz.prog) w 23 25 i0 _ Tryz.underlying23 hz20 hze .i64 .i64 ks.length ks.length (by omega) (Int.le_refl _) (by rw [hby]; omega) (by omega)
    simpa [hsz] using this
  have r2 : Rq (w.alloc (.cells (madeCells (Value.cells (.agg #[.int .i64 0, .int .i64 0, .int .u64 0, .string ⟨#[]⟩, .slice none 0 0])) (ks.length * 5)) 25)) w.heap.size ks.length := by
    exact ⟨_, heap_alloc_new w _, size_madeCells _ _⟩
  have b2 : Below w.heap.size w (w.alloc (.cells (madeCells (Value.cells (.agg #[.int .i64 0, .int .i64 0, .int .u64 0, .string ⟨#[]⟩, .slice none 0 0])) (ks.length * 5)) 25)) := below1 w _
  have HI := Lib.hid ih
  have HK := Lib.hid hk
  have HP := Lib.hid hps
  have hne0 : (ks.length == 0) = false := by simp; exact h0
  have hne1 : ((ks.length : Int) == 0) = false := by simp; omega
  clear ih hk hps hz20 hsz hby hze
  generalize madeCells (Value.cells (.agg #[.int .i64 0, .int .i64 0, .int .u64 0, .string ⟨#[]⟩, .slice none 0 0])) (ks.length * 5) = mc at *
  go_enter Tryz.func67, Tryz.ntmps67
  go_wp2_with fail
  go_loopw [14] (fun si wr => ∃ (j : Nat), si = .int .i64 j ∧ j ≤ ks.length ∧ Lq wr w.heap.size ks.length (fun g => w.heap.size + 1 ≤ g ∧ g < wr.heap.size) m ks j ∧ Below w.heap.size w wr) (fun si _ => ks.length - (intOf si).toNat)
  case atStart => exact ⟨0, rfl, Nat.zero_le _, ⟨r2, fun k _ hk => absurd hk (Nat.not_lt_zero _)⟩, b2⟩
  case round =>
    obtain ⟨j, rfl, hj, rw1, g1⟩ := hrel
    by_cases hlt : j < ks.length
    · rcases HK.out with hk | ⟨g, o, hk1, hk2⟩
      · exact absurd hk h0
      subst hk1
      obtain ⟨v0, v1, v2, v3, v4, e0, e1, e2, e3, e4, rk⟩ := hk2 j _ (List.getElem?_eq_getElem hlt)
      have hg : g < w.heap.size := World.block_lt_of_cell? w _ e0
      obtain ⟨u0, u1, u2, u3, a4, n4, c4, rfl, rfl, rfl, rfl, rfl⟩ := rep_shape' rk
      have y0 := (g1.cell (p := ⟨g, o + j * 5, none⟩) hg).trans e0
      have y1 := (g1.cell (p := ⟨g, o + j * 5 + 1, none⟩) hg).trans e1
      have y2 := (g1.cell (p := ⟨g, o + j * 5 + 2, none⟩) hg).trans e2
      have y3 := (g1.cell (p := ⟨g, o + j * 5 + 3, none⟩) hg).trans e3
      have y4 := (g1.cell (p := ⟨g, o + j * 5 + 4, none⟩) hg).trans e4
      have h4 := HP.out _ (List.getElem_mem hlt)
      have zr := rw1.1.lt
      have HV : Hid (∀ wx, Below wr.heap.size wr wx → Calls Tryz.prog 36 #[.agg #[.int .i64 u0, .int .i64 u1, .int .u64 u2, .string u3, .slice a4 n4 c4]] wx fun e w' => ∃ (k i u : Int) (s : ByteArray) (ad : Option Addr) (len cap : Nat), e = .returned (.agg #[.int .i64 k, .int .i64 i, .int .u64 u, .string s, .slice ad len cap]) ∧ Rf (fun g => wx.heap.size ≤ g ∧ g < w'.heap.size) w' m [.int .i64 k, .int .i64 i, .int .u64 u, .string s, .slice ad len cap] ks[j] ∧ Below wx.heap.size wx w') := fun wx hx => HI.out ks[j] _ _ _ _ _ wx (Rep.below (hx.mono (Nat.le_refl _)) m _ _ (Rep.below g1 m _ _ rk)) h4
      clear e0 e1 e2 e3 e4 hk2 HK rk
      have step : Hid (∀ w2 v0 v1 v2 v3 v4, Below wr.heap.size wr w2 → Rf (fun g => wr.heap.size ≤ g ∧ g < w2.heap.size) w2 m [v0, v1, v2, v3, v4] ks[j] → ∀ W, W = ((((w2.setCell ⟨w.heap.size, j * 5, none⟩ v0).setCell ⟨w.heap.size, j * 5 + 1, none⟩ v1).setCell ⟨w.heap.size, j * 5 + 2, none⟩ v2).setCell ⟨w.heap.size, j * 5 + 3, none⟩ v3).setCell ⟨w.heap.size, j * 5 + 4, none⟩ v4 → Lq W w.heap.size ks.length (fun g => w.heap.size + 1 ≤ g ∧ g < W.heap.size) m ks (j + 1) ∧ Below w.heap.size w W) := fun w2 v0 v1 v2 v3 v4 bw rf W hW => by
        have k2 := rw1.1.below bw
        have hs2 := bw.size
        obtain ⟨s1, s2, s3, s4, s5⟩ := set5_at w2 w.heap.size ks.length j k2 hlt v0 v1 v2 v3 v4 hW
        refine ⟨⟨s1, fun k t hk ht => ?_⟩, ?_⟩
        · by_cases e : k = j
          · subst e
            rw [List.getElem?_eq_getElem hlt] at ht
            obtain rfl := Option.some.inj ht
            obtain ⟨a0, a1, a2, a3, a4⟩ := s4
            exact ⟨v0, v1, v2, v3, v4, a0, a1, a2, a3, a4, Rf.to (fun q hq => ⟨⟨by have := hq.1; omega, by rw [s2]; exact hq.2⟩, s3 q (by have := hq.1; omega)⟩) _ _ _ rf⟩
          · obtain ⟨u0, u1, u2, u3, u4, a0, a1, a2, a3, a4, rr⟩ := rw1.2 k t (by omega) ht
            have tr : ∀ o x, (o < j * 5 ∨ j * 5 + 4 < o) → wr.cell? ⟨w.heap.size, o, none⟩ = some x → W.cell? ⟨w.heap.size, o, none⟩ = some x := fun o x ho hx => (s5 o ho).trans ((bw.cell (p := ⟨w.heap.size, o, none⟩) zr).trans hx)
            exact ⟨u0, u1, u2, u3, u4, tr _ _ (by omega) a0, tr _ _ (by omega) a1, tr _ _ (by omega) a2, tr _ _ (by omega) a3, tr _ _ (by omega) a4, Rf.to (fun q hq => ⟨⟨hq.1, by rw [s2]; have := hq.2; omega⟩, (s3 q (by have := hq.1; omega)).trans (bw.block q hq.2)⟩) _ _ _ rr⟩
        · subst hW
          have g2 : Below w.heap.size w w2 := g1.trans (bw.mono g1.size)
          exact ((((g2.setCell (Nat.le_refl _) _).setCell (Nat.le_refl _) _).setCell (Nat.le_refl _) _).setCell (Nat.le_refl _) _).setCell (Nat.le_refl _) _
      have kcs : Hid (∀ w2, Below wr.heap.size wr w2 → (∃ x, w2.cell? ⟨w.heap.size, j * 5, none⟩ = some x) ∧ (∃ x, w2.cell? ⟨w.heap.size, j * 5 + 1, none⟩ = some x) ∧ (∃ x, w2.cell? ⟨w.heap.size, j * 5 + 2, none⟩ = some x) ∧ (∃ x, w2.cell? ⟨w.heap.size, j * 5 + 3, none⟩ = some x) ∧ (∃ x, w2.cell? ⟨w.heap.size, j * 5 + 4, none⟩ = some x) ∧ ∀ o, w2.frozen? ⟨w.heap.size, o, none⟩ = false) := fun w2 bw => by
        have k2 := rw1.1.below bw
        exact ⟨k2.c (by omega), k2.c (by omega), k2.c (by omega), k2.c (by omega), k2.c (by omega), fun o => k2.f⟩
      have hjl : (0 : Int) ≤ j ∧ (j : Int) < ks.length := by omega
      have bA := below1 wr (.cells #[.int .i64 u0, .int .i64 u1, .int .u64 u2, .string u3, .slice a4 n4 c4] 25)
      clear rw1
      go_wp2_with fail
      refine (HV.out _ bA).mono ?_
      rintro e w2 ⟨k', i', u', s', ad', len', cap', rfl, rf, bw⟩
      have bw' : Below wr.heap.size wr w2 := bA.trans (bw.mono bA.size)
      have rf' := Rf.to (F' := fun g => wr.heap.size ≤ g ∧ g < w2.heap.size) (w' := w2) (fun q hq => ⟨⟨by have := hq.1; simp at this; omega, hq.2⟩, rfl⟩) _ _ _ rf
      have st := Lib.hid (step.out w2 _ _ _ _ _ bw' rf')
      obtain ⟨⟨x0, k0⟩, ⟨x1, k1⟩, ⟨x2, k2⟩, ⟨x3, k3⟩, ⟨x4, k4⟩, kf⟩ := kcs.out w2 bw'
      clear rf rf' HV
      go_wp2_with fail
      exact ⟨⟨j + 1, by go_num, by omega, st.out _ rfl⟩, by simp [intOf]; omega⟩
    · have hje : j = ks.length := by omega
      subst hje
      have zr := rw1.1.lt
      go_wp2_with fail
      go_ret
      exact ⟨_, _, rfl, Nat.le_refl _, by unfold maxLen; omega, .inr ⟨_, rfl, ⟨Nat.le_refl _, zr⟩, fun q => rw1.1.f, fun j t h => by
        obtain ⟨v0, v1, v2, v3, v4, a0, a1, a2, a3, a4, r⟩ := rw1.2 j t (List.getElem?_eq_some_iff.1 h).1 h
        exact ⟨v0, v1, v2, v3, v4, a0, a1, a2, a3, a4, Rf.to (fun q hq => ⟨⟨by have := hq.1; omega, hq.2⟩, rfl⟩) _ _ _ r⟩⟩, g1⟩

theorem Rlf.to {F F' : Nat → Prop} {w w' : World} (hF : ∀ g, F g → F' g ∧ w'.heap[g]? = w.heap[g]?) {n : Nat} {ad : Option Addr} {ts : List (Tr n)} (h : Rlf F w n ad ts) : Rlf F' w' n ad ts := by
  rcases h with h | ⟨g, h1, h2, h3, h4⟩
  · exact .inl h
  · obtain ⟨hg, hh⟩ := hF g h2
    refine .inr ⟨g, h1, hg, fun q => ?_, fun j t' hj => ?_⟩
    · have := h3 q
      simp only [World.frozen?, hh] at this ⊢
      exact this
    · obtain ⟨v0, v1, v2, v3, v4, c0, c1, c2, c3, c4, r⟩ := h4 j t' hj
      exact ⟨v0, v1, v2, v3, v4, (cell_heap hh).trans c0, (cell_heap hh).trans c1, (cell_heap hh).trans c2, (cell_heap hh).trans c3, (cell_heap hh).trans c4, Rf.to hF n _ _ r⟩
theorem vcopy : ∀ n, CpOf n
  | 0 => fun t => t.elim
  | n + 1 => by
    intro t v0 v1 v2 v3 v4 w hr hp
    obtain ⟨ad, cap, h1, h2, h3, h4, h5⟩ := hr
    simp only [List.cons.injEq, and_true] at h1
    obtain ⟨rfl, rfl, rfl, rfl, rfl⟩ := h1
    obtain ⟨hl, hk⟩ := pts_kids hp
    refine (copy_by t.kd t.it t.ut t.tx ad t.ks.length cap w (fun a l c w' => l = t.ks.length ∧ t.ks.length ≤ c ∧ c ≤ maxLen ∧ Rlf (fun g => w.heap.size + 2 ≤ g ∧ g < w'.heap.size) w' n a t.ks) (fun a l c w' w'' ⟨e1, e2, e3, e4⟩ hs hg => ⟨e1, e2, e3, e4.to fun g hg' => ⟨⟨hg'.1, by rw [hs]; exact hg'.2⟩, hg g hg'.1⟩⟩) fun wx hb hz => ?_).mono fun e w' ⟨a, l, c, he, hr, hb⟩ => ?_
    · refine (vall n (vcopy n) t.ks ad cap wx (by omega) hk ?_).mono fun e w' ⟨a, c, he, e1, e2, e3, hb'⟩ => ⟨a, _, c, he, ⟨rfl, e1, e2, e3.to fun g hg => ⟨⟨by omega, hg.2⟩, rfl⟩⟩, hb'⟩
      rcases h5 with h5 | ⟨g, o, h6, h7⟩
      · exact .inl h5
      · refine .inr ⟨g, o, h6, fun j t' hj => ?_⟩
        obtain ⟨x0, x1, x2, x3, x4, c0, c1, c2, c3, c4, r⟩ := h7 j t' hj
        have hgl : g < w.heap.size := World.block_lt_of_cell? w _ c0
        exact ⟨x0, x1, x2, x3, x4, (hb.cell (p := ⟨g, _, none⟩) hgl).trans c0, (hb.cell (p := ⟨g, _, none⟩) hgl).trans c1, (hb.cell (p := ⟨g, _, none⟩) hgl).trans c2, (hb.cell (p := ⟨g, _, none⟩) hgl).trans c3, (hb.cell (p := ⟨g, _, none⟩) hgl).trans c4, Rep.below hb n _ _ r⟩
    · obtain ⟨rfl, e2, e3, e4⟩ := hr.out
      refine ⟨_, _, _, _, _, _, _, he, ⟨a, c, rfl, h2, e2, e3, ?_⟩, hb⟩
      rcases e4 with e4 | ⟨g, e5, e6, ef, e7⟩
      · exact .inl e4
      · refine .inr ⟨g, 0, e5, ⟨⟨by have := e6.1; omega, e6.2⟩, ef⟩, fun j t' hj => ?_⟩
        obtain ⟨x0, x1, x2, x3, x4, c0, c1, c2, c3, c4, r⟩ := e7 j t' hj
        refine ⟨x0, x1, x2, x3, x4, ?_, ?_, ?_, ?_, ?_, Rf.to (fun q hq => ⟨⟨by have := hq.1; omega, hq.2⟩, rfl⟩) _ _ _ r⟩
        all_goals (rw [Nat.zero_add]; assumption)
end Go.Proofs.YtajagjcfmaggiaaGreatDoor.Dt
/- Acts over a value's tree, tried: given, asserted to a kind or to an interface, asked for its size, and the acts that panic of themselves; the conditions: the tree in memory, valid, its bits within 64. -/
namespace Go.Proofs.YtajagjcfmaggiaaGreatDoor
open Go.RowKit

theorem st_rf (H m : Nat) (t : Dt.Tr m) : St H (fun k i u s a n c w' => Dt.Rf (fun g => H ≤ g ∧ g < w'.heap.size) w' m [.int .i64 k, .int .i64 i, .int .u64 u, .string s, .slice a n c] t) := fun _ _ _ _ _ _ _ _ _ h h1 h2 =>
  Dt.Rf.to (fun g hg => ⟨⟨hg.1, Nat.lt_of_lt_of_le hg.2 h1⟩, h2 g hg.1 hg.2⟩) _ _ _ h
theorem st_four {H N : Nat} {P : BodyP} (h : St H P) (hN : N + 4 ≤ H) : ∀ k i u s a n c w' w'', P k i u s a n c w' → w'.heap.size ≤ w''.heap.size → (∀ g, g < w'.heap.size → g ≠ N + 1 → g ≠ N + 2 → g ≠ N + 3 → w''.heap[g]? = w'.heap[g]?) → P k i u s a n c w'' :=
  fun _ _ _ _ _ _ _ _ _ h1 h2 h3 => h _ _ _ _ _ _ _ _ _ h1 h2 fun g g1 g2 => h3 g g2 (by omega) (by omega) (by omega)

theorem copy_rf (W0 : World) (m : Nat) (t : Dt.Tr (m + 1)) (hps : (Dt.pts (m + 1) t).1 ≤ 4096) (k i u : Int) (s : ByteArray) (a : Option Addr) (n c : Nat) (hrep : Dt.Rep W0 (m + 1) [.int .i64 k, .int .i64 i, .int .u64 u, .string s, .slice a n c] t) (w : World) (hb : Below W0.heap.size W0 w) (H : Nat) (hH : H ≤ w.heap.size) :
    Calls Tryz.prog 36 #[.agg #[.int .i64 k, .int .i64 i, .int .u64 u, .string s, .slice a n c]] w fun e w' => ∃ k i u s a n c, e = .returned (.agg #[.int .i64 k, .int .i64 i, .int .u64 u, .string s, .slice a n c]) ∧ Dt.Rf (fun g => H ≤ g ∧ g < w'.heap.size) w' (m + 1) [.int .i64 k, .int .i64 i, .int .u64 u, .string s, .slice a n c] t ∧ Below w.heap.size w w' :=
  (Dt.vcopy (m + 1) t _ _ _ _ _ w (Dt.Rep.below hb _ _ _ hrep) hps).mono fun e w' ⟨k, i, u, s, a, n, c, he, rf, hb'⟩ => ⟨k, i, u, s, a, n, c, he, Dt.Rf.to (fun g hg => ⟨⟨by omega, hg.2⟩, rfl⟩) _ _ _ rf, hb'⟩

theorem tryAssert (W0 : World) (m : Nat) (t : Dt.Tr (m + 1)) (hrg : Dt.rgt (m + 1) t = true) (hps : (Dt.pts (m + 1) t).1 ≤ 4096) (h6 : Dt.r64 (m + 1) t) (ak ai au : Int) (az : ByteArray) (aa : Option Addr) (an ac : Nat) (bk bi bu : Int) (bs : ByteArray) (ba : Option Addr) (bn bc : Nat) (num : Int) (hrep : Dt.Rep W0 (m + 1) [.int .i64 ak, .int .i64 ai, .int .u64 au, .string az, .slice aa an ac] t) (w : World) (hb : Below W0.heap.size W0 w) (hq : tkd num ak = true) :
    Calls Tryz.prog 77 #[.agg (acs 2 ak ai au az aa an ac bk bi bu bs ba bn bc num)] w fun e w' => ∃ k i u s a n c, e = .returned (.agg (rcs 0 0 0 0 true k i u s a n c)) ∧ Dt.Rf (fun g => w.heap.size + 8 ≤ g ∧ g < w'.heap.size) w' (m + 1) [.int .i64 k, .int .i64 i, .int .u64 u, .string s, .slice a n c] t ∧ Below w.heap.size w w' := by
  have S := st_rf (w.heap.size + 8) (m + 1) t
  refine try_ret 2 ak ai au az aa an ac bk bi bu bs ba bn bc num w 0 0 0 0 true _ (st_four S (by omega)) fun wx hx zx => ?_
  refine done_assert ak ai au az aa an ac bk bi bu bs ba bn bc num wx (w.heap.size + 8) (by omega) _ S fun wy hy zy => ?_
  refine pmust_yes ak ai au az aa an ac num wy (w.heap.size + 8) (by omega) _ S fun wz hz zz => ?_
  have hB : Below W0.heap.size W0 wz := ((hb.trans (hx.mono hb.size)).trans (hy.mono (by have := hb.size; omega))).trans (hz.mono (by have := hb.size; omega))
  refine (must_yes (m + 1) t hrg h6 hps ak ai au az aa an ac num wz hq fun wq hq' => of_val W0 m t ak ai au az aa an ac wq hrg hps hrep (hB.trans (hq'.mono hB.size))).mono fun e w' ⟨v0, v1, v2, v3, v4, he, rf, hb'⟩ => ?_
  obtain ⟨u0, u1, u2, u3, a4, n4, c4', rfl, rfl, rfl, rfl, rfl⟩ := Dt.rep_shape (Dt.Rf.rep _ _ _ rf)
  exact ⟨u0, u1, u2, u3, a4, n4, c4', he, Dt.Rf.to (fun g hg => ⟨⟨by omega, hg.2⟩, rfl⟩) _ _ _ rf, hb'⟩

theorem tryAssert_no (W0 : World) (m : Nat) (t : Dt.Tr (m + 1)) (hrg : Dt.rgt (m + 1) t = true) (hps : (Dt.pts (m + 1) t).1 ≤ 4096) (ak ai au : Int) (az : ByteArray) (aa : Option Addr) (an ac : Nat) (bk bi bu : Int) (bs : ByteArray) (ba : Option Addr) (bn bc : Nat) (num : Int) (hrep : Dt.Rep W0 (m + 1) [.int .i64 ak, .int .i64 ai, .int .u64 au, .string az, .slice aa an ac] t) (w : World) (hb : Below W0.heap.size W0 w) (hq : tkd num ak = false) :
    Calls Tryz.prog 77 #[.agg (acs 2 ak ai au az aa an ac bk bi bu bs ba bn bc num)] w fun e w' => e = .returned (.agg (rErr 110 0 2 ak)) ∧ Below w.heap.size w w' := by
  refine try_pan 2 ak ai au az aa an ac bk bi bu bs ba bn bc num w 182 (.int .i64 ak) 2 ak (ptold_assert ak) fun wx hx zx => ?_
  refine done_assert_no ak ai au az aa an ac bk bi bu bs ba bn bc num wx fun wy hy => ?_
  refine pmust_no ak ai au az aa an ac num wy fun wz hz => ?_
  have hB : Below W0.heap.size W0 wz := ((hb.trans (hx.mono hb.size)).trans (hy.mono (by have := hb.size; omega))).trans (hz.mono (by have := hb.size; have := hy.size; omega))
  obtain ⟨F, hm, hM⟩ := type_musts num
  exact must_fail ak ai au az aa an ac num (qty num) F wz rfl hm (fun u w hu => (hM ak u w hu).2 hq) fun wq hq' => (of_val W0 m t ak ai au az aa an ac wq hrg hps hrep (hB.trans (hq'.mono hB.size))).mono fun e w' ⟨u, a, c, _, d⟩ => ⟨u, a, c, d⟩

theorem tryFace (W0 : World) (m : Nat) (t : Dt.Tr (m + 1)) (hps : (Dt.pts (m + 1) t).1 ≤ 4096) (ak ai au : Int) (az : ByteArray) (aa : Option Addr) (an ac : Nat) (bk bi bu : Int) (bs : ByteArray) (ba : Option Addr) (bn bc : Nat) (num : Int) (hrep : Dt.Rep W0 (m + 1) [.int .i64 ak, .int .i64 ai, .int .u64 au, .string az, .slice aa an ac] t) (w : World) (hb : Below W0.heap.size W0 w) (hq : impl ak num = true) :
    Calls Tryz.prog 77 #[.agg (acs 3 ak ai au az aa an ac bk bi bu bs ba bn bc num)] w fun e w' => ∃ k i u s a n c, e = .returned (.agg (rcs 0 0 0 0 true k i u s a n c)) ∧ Dt.Rf (fun g => w.heap.size + 6 ≤ g ∧ g < w'.heap.size) w' (m + 1) [.int .i64 k, .int .i64 i, .int .u64 u, .string s, .slice a n c] t ∧ Below w.heap.size w w' := by
  have S := st_rf (w.heap.size + 6) (m + 1) t
  refine try_ret 3 ak ai au az aa an ac bk bi bu bs ba bn bc num w 0 0 0 0 true _ (st_four S (by omega)) fun wx hx zx => ?_
  refine done_face ak ai au az aa an ac bk bi bu bs ba bn bc num wx (w.heap.size + 6) (by omega) _ S (fun wy hy zy => ?_) fun wy hy zy => ?_
  · exact pface_yes ak ai au az aa an ac num wy fun wz hz => mustFace_yes ak ai au az aa an ac num wz hq
  · exact copy_rf W0 m t hps ak ai au az aa an ac hrep wy ((hb.trans (hx.mono hb.size)).trans (hy.mono (by have := hb.size; omega))) _ (by omega)

theorem tryFace_no (ak ai au : Int) (az : ByteArray) (aa : Option Addr) (an ac : Nat) (bk bi bu : Int) (bs : ByteArray) (ba : Option Addr) (bn bc : Nat) (num : Int) (w : World) (hq : impl ak num = false) :
    Calls Tryz.prog 77 #[.agg (acs 3 ak ai au az aa an ac bk bi bu bs ba bn bc num)] w fun e w' => e = .returned (.agg (rErr 110 0 2 (lackM ak num))) ∧ Below w.heap.size w w' := by
  refine try_pan 3 ak ai au az aa an ac bk bi bu bs ba bn bc num w 182 (.int .i64 (lackM ak num)) 2 (lackM ak num) (ptold_assert (lackM ak num)) fun wx hx zx => ?_
  refine done_face_no ak ai au az aa an ac bk bi bu bs ba bn bc num (lackM ak num) wx fun wy hy => ?_
  exact pface_no ak ai au az aa an ac num (lackM ak num) wy fun wz hz => mustFace_no ak ai au az aa an ac num wz hq

set_option maxRecDepth 100000 in
/-- What stands for a tree tells its size, where its kind has one. -/
theorem szd_of {F : Nat → Prop} {w : World} {m : Nat} {v : Value} {t : Dt.Tr (m + 1)} (h : Dt.VR F w (m + 1) v t) (h0 : (Dt.lenP t.kd t.tx.size t.ks.length).2 = 0) : Szd v (Dt.lenP t.kd t.tx.size t.ks.length).1 := by
  rcases Dt.vr_cases h with ⟨q, rfl⟩ | ⟨q, rfl⟩ | ⟨q, rfl⟩ | ⟨q, rfl⟩ | ⟨q, rfl⟩ | ⟨q, rfl⟩ | ⟨q, rfl⟩ | ⟨q, a, c, rfl⟩ | ⟨q, a, c, rfl⟩ | ⟨q, x, y, rfl, hx, hy⟩ | ⟨q, rfl⟩ | ⟨q, b, u, rfl, hh, hu⟩ | ⟨q, rfl⟩ | ⟨q, rfl⟩
  all_goals (simp [q, Dt.lenP] at h0 <;> simp [q, Dt.lenP])
  · exact ⟨_, _, 160, rfl, fun _ => by kernel_rfl, fun _ _ => by kernel_rfl, fun w => run_typeAssert_hasB Tryz.underlying204 (by kernel_rfl) _ _ w, fun w => (Dt.sizeText _ w).mono fun e w' ⟨h1, h2⟩ => ⟨h1, h2 ▸ Below.refl _ _⟩⟩
  · exact ⟨_, _, 216, rfl, fun _ => by kernel_rfl, fun _ _ => by kernel_rfl, fun w => run_typeAssert_hasB Tryz.underlying204 (by kernel_rfl) _ _ w, fun w => (Dt.sizeName _ w).mono fun e w' ⟨h1, h2⟩ => ⟨h1, h2 ▸ Below.refl _ _⟩⟩
  · exact ⟨_, _, 217, rfl, fun _ => by kernel_rfl, fun _ _ => by kernel_rfl, fun w => run_typeAssert_hasB Tryz.underlying204 (by kernel_rfl) _ _ w, fun w => (Dt.sizeOct _ _ _ w).mono fun e w' ⟨h1, h2⟩ => ⟨h1, h2 ▸ Below.refl _ _⟩⟩
  · exact ⟨_, _, 218, rfl, fun _ => by kernel_rfl, fun _ _ => by kernel_rfl, fun w => run_typeAssert_hasB Tryz.underlying204 (by kernel_rfl) _ _ w, fun w => (Dt.sizeRow _ _ _ w).mono fun e w' ⟨h1, h2⟩ => ⟨h1, h2 ▸ Below.refl _ _⟩⟩
  · exact ⟨_, _, 219, rfl, fun _ => by kernel_rfl, fun _ _ => by kernel_rfl, fun w => run_typeAssert_hasB Tryz.underlying204 (by kernel_rfl) _ _ w, fun w => Dt.sizePair _ _ hx hy w⟩
  · exact ⟨_, _, 224, rfl, fun _ => by kernel_rfl, fun _ _ => by kernel_rfl, fun w => run_typeAssert_hasB Tryz.underlying204 (by kernel_rfl) _ _ w, fun w => (Dt.sizeBox _ w).mono fun e w' ⟨h1, h2⟩ => ⟨h1, h2 ▸ Below.refl _ _⟩⟩
  · exact ⟨_, _, 224, rfl, fun _ => by kernel_rfl, fun _ _ => by kernel_rfl, fun w => run_typeAssert_hasB Tryz.underlying204 (by kernel_rfl) _ _ w, fun w => (Dt.sizeNob w).mono fun e w' ⟨h1, h2⟩ => ⟨h1, h2 ▸ Below.refl _ _⟩⟩
set_option maxRecDepth 100000 in
theorem nosz_of {F : Nat → Prop} {w : World} {m : Nat} {v : Value} {t : Dt.Tr (m + 1)} (h : Dt.VR F w (m + 1) v t) (h0 : (Dt.lenP t.kd t.tx.size t.ks.length).2 ≠ 0) : Sx v ∧ ∀ w : World, (Instr.typeAssert v 20 204 true).run Tryz.prog w = .ok (.tuple #[.nilIface, .bool false]) w := by
  rcases Dt.vr_cases h with ⟨q, rfl⟩ | ⟨q, rfl⟩ | ⟨q, rfl⟩ | ⟨q, rfl⟩ | ⟨q, rfl⟩ | ⟨q, rfl⟩ | ⟨q, rfl⟩ | ⟨q, a, c, rfl⟩ | ⟨q, a, c, rfl⟩ | ⟨q, x, y, rfl, hx, hy⟩ | ⟨q, rfl⟩ | ⟨q, b, u, rfl, hh, hu⟩ | ⟨q, rfl⟩ | ⟨q, rfl⟩
  all_goals first | (exfalso; simp [q, Dt.lenP] at h0; done) | exact ⟨.inl rfl, fun w => assert_nil Tryz.underlying204 (by kernel_rfl)⟩ | exact ⟨.inr ⟨_, _, rfl⟩, fun w => run_typeAssert_lacksB Tryz.underlying204 (by kernel_rfl) (by kernel_rfl) _ _ w⟩

theorem trySize (W0 : World) (m : Nat) (t : Dt.Tr (m + 1)) (hrg : Dt.rgt (m + 1) t = true) (hps : (Dt.pts (m + 1) t).1 ≤ 4096) (ak ai au : Int) (az : ByteArray) (aa : Option Addr) (an ac : Nat) (bk bi bu : Int) (bs : ByteArray) (ba : Option Addr) (bn bc : Nat) (num : Int) (hrep : Dt.Rep W0 (m + 1) [.int .i64 ak, .int .i64 ai, .int .u64 au, .string az, .slice aa an ac] t) (w : World) (hb : Below W0.heap.size W0 w) :
    Calls Tryz.prog 77 #[.agg (acs 10 ak ai au az aa an ac bk bi bu bs ba bn bc num)] w fun e w' => e = .returned (.agg (if (Dt.lenP t.kd t.tx.size t.ks.length).2 = 0 then rcs 0 0 0 0 true 1 (Dt.lenP t.kd t.tx.size t.ks.length).1 0 ⟨#[]⟩ none 0 0 else rErr 12 0 0 0)) ∧ Below w.heap.size w w' := by
  have hB : ∀ wx wy wz : World, Below w.heap.size w wx → Below wx.heap.size wx wy → Below wy.heap.size wy wz → Below W0.heap.size W0 wz := fun wx wy wz hx hy hz => ((hb.trans (hx.mono hb.size)).trans (hy.mono (by have := hb.size; have := hx.size; omega))).trans (hz.mono (by have := hb.size; have := hx.size; have := hy.size; omega))
  by_cases h0 : (Dt.lenP t.kd t.tx.size t.ks.length).2 = 0
  · simp only [if_pos h0]
    obtain ⟨r, hr⟩ : ∃ r, (Dt.lenP t.kd t.tx.size t.ks.length).1 = r := ⟨_, rfl⟩
    rw [hr]
    have S : St (w.heap.size + 6) (fun k i u s a n c _ => k = 1 ∧ i = r ∧ u = 0 ∧ s = ⟨#[]⟩ ∧ a = none ∧ n = 0 ∧ c = 0) := fun _ _ _ _ _ _ _ _ _ h _ _ => h
    refine (try_ret 10 ak ai au az aa an ac bk bi bu bs ba bn bc num w 0 0 0 0 true _ (st_four S (by omega)) fun wx hx zx => done_size ak ai au az aa an ac bk bi bu bs ba bn bc num wx 0 true (w.heap.size + 6) (by omega) _ S fun wy hy zy => (size_yes ak ai au r az aa an ac wy fun wz hz => (of_val W0 m t ak ai au az aa an ac wz hrg hps hrep (hB wx wy wz hx hy hz)).mono fun e w' ⟨v, he, _, vr, hb'⟩ => ⟨v, he, hr ▸ szd_of vr.out h0, hb'⟩).mono fun e w' ⟨he, hb'⟩ => ⟨1, r, 0, ⟨#[]⟩, none, 0, 0, he, ⟨rfl, rfl, rfl, rfl, rfl, rfl, rfl⟩, hb'⟩).mono fun e w' ⟨k, i, u, s, a, n, c, he, ⟨q1, q2, q3, q4, q5, q6, q7⟩, hb'⟩ => ?_
    subst q1 q2 q3 q4 q5 q6 q7
    exact ⟨he, hb'⟩
  · simp only [if_neg h0]
    have S : St (w.heap.size + 6) (fun k i u s a n c _ => k = 0 ∧ i = 0 ∧ u = 0 ∧ s = ⟨#[]⟩ ∧ a = none ∧ n = 0 ∧ c = 0) := fun _ _ _ _ _ _ _ _ _ h _ _ => h
    refine (try_ret 10 ak ai au az aa an ac bk bi bu bs ba bn bc num w 12 0 0 0 false _ (st_four S (by omega)) fun wx hx zx => done_size ak ai au az aa an ac bk bi bu bs ba bn bc num wx 12 false (w.heap.size + 6) (by omega) _ S fun wy hy zy => (size_no ak ai au az aa an ac wy fun wz hz => (of_val W0 m t ak ai au az aa an ac wz hrg hps hrep (hB wx wy wz hx hy hz)).mono fun e w' ⟨v, he, _, vr, hb'⟩ => ⟨v, he, (nosz_of vr.out h0).1, (nosz_of vr.out h0).2, hb'⟩).mono fun e w' ⟨he, hb'⟩ => ⟨0, 0, 0, ⟨#[]⟩, none, 0, 0, he, ⟨rfl, rfl, rfl, rfl, rfl, rfl, rfl⟩, hb'⟩).mono fun e w' ⟨k, i, u, s, a, n, c, he, ⟨q1, q2, q3, q4, q5, q6, q7⟩, hb'⟩ => ?_
    subst q1 q2 q3 q4 q5 q6 q7
    exact ⟨he, hb'⟩
end Go.Proofs.YtajagjcfmaggiaaGreatDoor
/- The == of two values that the package makes of trees, with boxes by number: what the document says, or the panic of a type that is not comparable; the conditions: the trees valid, the boxes alive and apart. -/
namespace Go.Proofs.YtajagjcfmaggiaaGreatDoor.Dt
open Go.RowKit
theorem q1 (d : Nat) (i j : Int) (w : World) : (Op.equalIn (d + 2) 20 (.iface 140 (.int .i64 i)) (.iface 140 (.int .i64 j))).run Tryz.prog w = .ok (i == j) w := by kernel_rfl
theorem q2 (d : Nat) (i j : Int) (w : World) : (Op.equalIn (d + 2) 20 (.iface 141 (.int .i64 i)) (.iface 141 (.int .i64 j))).run Tryz.prog w = .ok (i == j) w := by kernel_rfl
theorem q3 (d : Nat) (i j : Nat) (w : World) : (Op.equalIn (d + 2) 20 (.iface 142 (.float .f64 i)) (.iface 142 (.float .f64 j))).run Tryz.prog w = .ok (FloatKind.f64.format.order i j == some .eq) w := by kernel_rfl
theorem q4 (d : Nat) (i j : ByteArray) (w : World) : (Op.equalIn (d + 2) 20 (.iface 101 (.string i)) (.iface 101 (.string j))).run Tryz.prog w = .ok (i == j) w := by kernel_rfl
theorem q5 (d : Nat) (i j : ByteArray) (w : World) : (Op.equalIn (d + 2) 20 (.iface 143 (.string i)) (.iface 143 (.string j))).run Tryz.prog w = .ok (i == j) w := by kernel_rfl
theorem q6 (d : Nat) (i j : Bool) (w : World) : (Op.equalIn (d + 2) 20 (.iface 144 (.bool i)) (.iface 144 (.bool j))).run Tryz.prog w = .ok (i == j) w := by kernel_rfl
theorem q7 (d : Nat) (x y : Value) (w : World) : ∃ pv, (Op.equalIn (d + 2) 20 (.iface 147 x) (.iface 147 y)).run Tryz.prog w = .halt (.panic (.iface 10 pv)) w :=
  ⟨strVal ("comparing uncomparable type " ++ "value.Octets"), by kernel_rfl⟩
end Go.Proofs.YtajagjcfmaggiaaGreatDoor.Dt
/- The map of boxes that the package makes: a look-up, a store, and what its pointer answers; the conditions: the map and its boxes in memory. -/
namespace Go.Proofs.YtajagjcfmaggiaaGreatDoor.Dt
open Go.RowKit

def lk (l : List (Int × Nat)) (i : Int) : Option Nat := (l.find? fun x => x.1 == i).map (·.2)

theorem below1 (w : World) (o : Obj) : Below w.heap.size w (w.alloc o) := (Below.refl _ w).alloc (Nat.le_refl _) _
end Go.Proofs.YtajagjcfmaggiaaGreatDoor.Dt
/- The package's Open of a pointer: the plain data of what lies in the box, in new memory; the conditions: the tree in memory, valid, its bits within 64. -/
namespace Go.Proofs.YtajagjcfmaggiaaGreatDoor.Dt
open Go.RowKit
theorem boxOpen (b : Nat) (i : Int) (u : Value) (w : World) (h : w.heap[b]? = some (.cells #[.int .i64 i, u] 176 (0, 0))) (hu : Sx u) : Calls Tryz.prog 223 #[.pointer (some ⟨b, 0, none⟩)] w fun e w' => e = .returned u ∧ Below w.heap.size w w' := by
  have c1 : w.cell? ⟨b, 1, none⟩ = some u := by simp [World.cell?, h]
  rcases hu with rfl | ⟨T, z, rfl⟩
  all_goals
    go_enter Tryz.func223, Tryz.ntmps223
    go_wp2
    go_ret
    exact ⟨rfl, Below.refl _ _⟩
end Go.Proofs.YtajagjcfmaggiaaGreatDoor.Dt
/- A box that is opened: what lies in it, or the panic of a nil pointer, or of what can't be opened; the conditions: what stands for the value, and what the assertion comes to. -/
namespace Go.Proofs.YtajagjcfmaggiaaGreatDoor
open Go.RowKit

set_option maxRecDepth 100000 in
set_option maxHeartbeats 1000000 in
theorem open1_yes (A bx : Nat) (i : Int) (u : Value) (hu : Sx u) (w : World) (hA : Bk w A #[.iface 155 (.pointer (some ⟨bx, 0, none⟩))] 196) (hb : w.heap[bx]? = some (.cells #[.int .i64 i, u] 176 (0, 0))) :
    Calls Tryz.prog 122 #[.pointer (some ⟨A, 0, none⟩)] w fun e w' => e = .returned u ∧ Below w.heap.size w w' := by
  have hmm : ∀ (w : World), (method 367 155 (.pointer (some ⟨bx, 0, none⟩)) "Open").run Tryz.prog w = .ok (223, .pointer (some ⟨bx, 0, none⟩)) w := fun _ => by kernel_rfl
  have hcf : ∀ (args : Array Value) (w : World), (callFunc 223 args).run Tryz.prog w = .ok (.enter 223 args) w := fun _ _ => by kernel_rfl
  have a0 := hA.c 0
  have BO := Lib.hid (Dt.boxOpen bx i u w hb hu)
  rcases hu with rfl | ⟨T, z, rfl⟩
  all_goals
    go_enter Tryz.func122, Tryz.ntmps122
    go_wp2_with fail
    refine BO.out.mono ?_
    rintro e w1 ⟨rfl, b1⟩
    go_wp2
    go_ret
    exact ⟨rfl, b1⟩

set_option maxRecDepth 100000 in
set_option maxHeartbeats 1000000 in
theorem boxNil (w : World) : Calls Tryz.prog 223 #[.pointer none] w fun e w' => (∃ T z, Pn T z e) ∧ Below w.heap.size w w' := by
  go_enter Tryz.func223, Tryz.ntmps223
  go_wp2_with fail
  exact ⟨rfl, ⟨_, _, Pn.one _ _⟩, by first | exact Below.refl _ _ | exact below1 _ _⟩
set_option maxRecDepth 100000 in
set_option maxHeartbeats 1000000 in
theorem open1_no (A : Nat) (w : World) (hA : Bk w A #[.iface 155 (.pointer none)] 196) :
    Calls Tryz.prog 122 #[.pointer (some ⟨A, 0, none⟩)] w fun e w' => (∃ T z, Pn T z e) ∧ Below w.heap.size w w' := by
  have hmm : ∀ (w : World), (method 367 155 (.pointer none) "Open").run Tryz.prog w = .ok (223, .pointer none) w := fun _ => by kernel_rfl
  have hcf : ∀ (args : Array Value) (w : World), (callFunc 223 args).run Tryz.prog w = .ok (.enter 223 args) w := fun _ _ => by kernel_rfl
  have a0 := hA.c 0
  have BO := Lib.hid boxNil
  go_enter Tryz.func122, Tryz.ntmps122
  go_wp2_with fail
  refine (BO.out _).mono ?_
  rintro e w1 ⟨⟨T, z, older, rfl, ho⟩, b1⟩
  go_wp2_with fail
  exact ⟨rfl, ⟨T, z, older, rfl, ho⟩, b1⟩

set_option maxRecDepth 100000 in
set_option maxHeartbeats 2000000 in
theorem popen_yes (k i b : Int) (s : ByteArray) (ad : Option Addr) (len cap : Nat) (w : World) (H : Nat) (hH : w.heap.size + 2 ≤ H) (P : BodyP) (hP : St H P)
    (hF : ∀ wx, Below w.heap.size w wx → Calls Tryz.prog 105 #[.agg #[.int .i64 k, .int .i64 i, .int .u64 b, .string s, .slice ad len cap], .int .i64 3] wx fun e w' => e = .returned (.tuple #[]) ∧ Below wx.heap.size wx w')
    (hO : ∀ wx, Below w.heap.size w wx → w.heap.size + 2 ≤ wx.heap.size → Calls Tryz.prog 76 #[.agg #[.int .i64 k, .int .i64 i, .int .u64 b, .string s, .slice ad len cap]] wx fun e w' => ∃ bx q u, e = .returned (.iface 155 (.pointer (some ⟨bx, 0, none⟩))) ∧ Hid (w'.heap[bx]? = some (.cells #[.int .i64 q, u] 176 (0, 0)) ∧ Sx u ∧ ∀ wy, Below w'.heap.size w' wy → Calls Tryz.prog 82 #[u] wy fun e w' => ∃ k i u s a n c, e = .returned (.agg #[.int .i64 k, .int .i64 i, .int .u64 u, .string s, .slice a n c]) ∧ P k i u s a n c w' ∧ Below wy.heap.size wy w') ∧ Below wx.heap.size wx w') :
    Calls Tryz.prog 107 #[.agg #[.int .i64 k, .int .i64 i, .int .u64 b, .string s, .slice ad len cap]] w fun e w' => ∃ k i u s a n c, e = .returned (.agg #[.int .i64 k, .int .i64 i, .int .u64 u, .string s, .slice a n c]) ∧ P k i u s a n c w' ∧ Below w.heap.size w w' := by
  have hmf : ∀ (fn : Fn) (first cap : Array Value) (w : World), (Instr.makeFunc fn first cap).run Tryz.prog w = .ok (.func fn first cap) w := fun _ _ _ _ => rfl
  have has : ∀ (bx : Nat) (w : World), (Instr.typeAssert (.iface 155 (.pointer (some ⟨bx, 0, none⟩))) 20 196 false).run Tryz.prog w = .ok (.iface 155 (.pointer (some ⟨bx, 0, none⟩))) w := fun bx w => must_has Tryz.underlying196 (by kernel_rfl) w
  have HF := Lib.hid hF
  have HO := Lib.hid hO
  have hP' := Lib.hid hP
  clear hF hO hP
  have B0 := below2 w (.cells #[.int .i64 k, .int .i64 i, .int .u64 b, .string s, .slice ad len cap] 25) (.cells #[.int .i64 0, .int .i64 0, .int .u64 0, .string ⟨#[]⟩, .slice none 0 0] 25)
  have D0 : Bk ((w.alloc (.cells #[.int .i64 k, .int .i64 i, .int .u64 b, .string s, .slice ad len cap] 25)).alloc (.cells #[.int .i64 0, .int .i64 0, .int .u64 0, .string ⟨#[]⟩, .slice none 0 0] 25)) w.heap.size #[.int .i64 k, .int .i64 i, .int .u64 b, .string s, .slice ad len cap] 25 := (Bk.new w _ _).alloc _
  have R0 := Bk.new2 w (.cells #[.int .i64 k, .int .i64 i, .int .u64 b, .string s, .slice ad len cap] 25) #[.int .i64 0, .int .i64 0, .int .u64 0, .string ⟨#[]⟩, .slice none 0 0] 25
  go_enter Tryz.func107, Tryz.ntmps107
  go_wp2_with fail
  refine (HF.out _ B0).mono ?_
  rintro e w0 ⟨rfl, b0⟩
  have B1 := B0.trans (b0.mono B0.size)
  have D1 := D0.step b0
  have R1 := R0.step b0
  have hs0 : w.heap.size + 2 ≤ w0.heap.size := by have := b0.size; simpa using this
  clear b0 B0 D0 R0
  obtain ⟨d0, d1, d2, d3, d4⟩ := D1.c5
  go_wp2_with fail
  refine (HO.out _ B1 hs0).mono ?_
  rintro e w1 ⟨bx, q, u, rfl, hv, b1⟩
  have B2 := B1.trans (b1.mono B1.size)
  have R2 := R1.step b1
  obtain ⟨hbx, hu, hPl⟩ := hv.out
  have PL := Lib.hid hPl
  have e1 := below1 w1 (.cells #[.iface 155 (.pointer (some ⟨bx, 0, none⟩))] 196)
  have A1 := Bk.new w1 #[.iface 155 (.pointer (some ⟨bx, 0, none⟩))] 196
  have hbl : bx < w1.heap.size := (Array.getElem?_eq_some_iff.1 hbx).1
  have AS := Lib.hid (asa_ret 122 #[.pointer (some ⟨w1.heap.size, 0, none⟩)] 183 (.agg #[]) (w1.alloc (.cells #[.iface 155 (.pointer (some ⟨bx, 0, none⟩))] 196)) (fun v _ => v = u) (fun _ => by kernel_rfl) (fun wx hx _ => (open1_yes w1.heap.size bx q u hu wx (A1.step hx) (((e1.trans (hx.mono e1.size)).block bx hbl).trans hbx)).mono fun e w' ⟨he, hb⟩ => ⟨_, he, rfl, hb⟩))
  have B3 := B2.trans (e1.mono B2.size)
  have R3 := R2.step e1
  clear hv hPl b1 B1 R1 D1 d0 d1 d2 d3 d4 A1 R2 hbx hbl
  rcases hu with rfl | ⟨T, z, rfl⟩
  all_goals
    go_wp2_with fail
    refine AS.out.mono ?_
    rintro e w2 ⟨v, rfl, rfl, b2⟩
    have B4 := B3.trans (b2.mono B3.size)
    have R4 := R3.step b2
    have ex := e1.trans (b2.mono e1.size)
    go_wp2_with fail
    refine (PL.out _ ex).mono ?_
    rintro e w3 ⟨k', i', u', s', a', n', c', rfl, p3, b3⟩
    have B5 := B4.trans (b3.mono B4.size)
    have R5 := R4.step b3
    have P3 := Lib.hid p3
    clear p3 b3 R4 B4 ex b2
    obtain ⟨c0, c1, c2, c3, c4⟩ := R5.c5
    have z5 := R5.f
    go_wp2_with fail
    obtain ⟨k1, k2, k3, k4⟩ := set5 R5 (.int .i64 k') (.int .i64 i') (.int .u64 u') (.string s') (.slice a' n' c') rfl
    have KP := Lib.hid (hP'.out _ _ _ _ _ _ _ _ _ P3.out (Nat.le_of_eq k2.symm) fun g hg _ => k3 g (by omega))
    have KF := B5.trans (k4.mono (by omega))
    obtain ⟨q0, q1, q2, q3, q4⟩ := k1.c5
    refine bodyPost_ret (v := .agg #[.int .i64 k', .int .i64 i', .int .u64 u', .string s', .slice a' n' c']) ?_ rfl ⟨k', i', u', s', a', n', c', rfl, KP.out, KF⟩
    simp [results, Tryz.results107, go_sem, q0, q1, q2, q3, q4]

set_option maxRecDepth 100000 in
set_option maxHeartbeats 2000000 in
theorem popen_nil (k i b : Int) (s : ByteArray) (ad : Option Addr) (len cap : Nat) (w : World)
    (hF : ∀ wx, Below w.heap.size w wx → Calls Tryz.prog 105 #[.agg #[.int .i64 k, .int .i64 i, .int .u64 b, .string s, .slice ad len cap], .int .i64 3] wx fun e w' => e = .returned (.tuple #[]) ∧ Below wx.heap.size wx w')
    (hO : ∀ wx, Below w.heap.size w wx → Calls Tryz.prog 76 #[.agg #[.int .i64 k, .int .i64 i, .int .u64 b, .string s, .slice ad len cap]] wx fun e w' => e = .returned (.iface 155 (.pointer none)) ∧ Below wx.heap.size wx w') :
    Calls Tryz.prog 107 #[.agg #[.int .i64 k, .int .i64 i, .int .u64 b, .string s, .slice ad len cap]] w fun e w' => Pn 183 (.agg #[]) e ∧ Below w.heap.size w w' := by
  have hmf : ∀ (fn : Fn) (first cap : Array Value) (w : World), (Instr.makeFunc fn first cap).run Tryz.prog w = .ok (.func fn first cap) w := fun _ _ _ _ => rfl
  have has : ∀ (w : World), (Instr.typeAssert (.iface 155 (.pointer none)) 20 196 false).run Tryz.prog w = .ok (.iface 155 (.pointer none)) w := fun w => must_has Tryz.underlying196 (by kernel_rfl) w
  have HF := Lib.hid hF
  have HO := Lib.hid hO
  clear hF hO
  have B0 := below2 w (.cells #[.int .i64 k, .int .i64 i, .int .u64 b, .string s, .slice ad len cap] 25) (.cells #[.int .i64 0, .int .i64 0, .int .u64 0, .string ⟨#[]⟩, .slice none 0 0] 25)
  have D0 : Bk ((w.alloc (.cells #[.int .i64 k, .int .i64 i, .int .u64 b, .string s, .slice ad len cap] 25)).alloc (.cells #[.int .i64 0, .int .i64 0, .int .u64 0, .string ⟨#[]⟩, .slice none 0 0] 25)) w.heap.size #[.int .i64 k, .int .i64 i, .int .u64 b, .string s, .slice ad len cap] 25 := (Bk.new w _ _).alloc _
  go_enter Tryz.func107, Tryz.ntmps107
  go_wp2_with fail
  refine (HF.out _ B0).mono ?_
  rintro e w0 ⟨rfl, b0⟩
  have B1 := B0.trans (b0.mono B0.size)
  have D1 := D0.step b0
  clear b0 B0 D0
  obtain ⟨d0, d1, d2, d3, d4⟩ := D1.c5
  go_wp2_with fail
  refine (HO.out _ B1).mono ?_
  rintro e w1 ⟨rfl, b1⟩
  have B2 := B1.trans (b1.mono B1.size)
  have e1 := below1 w1 (.cells #[.iface 155 (.pointer none)] 196)
  have A1 := Bk.new w1 #[.iface 155 (.pointer none)] 196
  have AS := Lib.hid (asa_pan 122 #[.pointer (some ⟨w1.heap.size, 0, none⟩)] 183 (.agg #[]) (w1.alloc (.cells #[.iface 155 (.pointer none)] 196)) (fun _ => True) (fun _ => by kernel_rfl) (fun wx hx _ => (open1_no w1.heap.size wx (A1.step hx)).mono fun e w' ⟨he, hb⟩ => ⟨he, trivial, hb⟩))
  have B3 := B2.trans (e1.mono B2.size)
  clear b1 B1 D1 d0 d1 d2 d3 d4 A1
  go_wp2_with fail
  refine AS.out.mono ?_
  rintro e w2 ⟨⟨older, rfl, ho⟩, -, b2⟩
  have B4 := B3.trans (b2.mono B3.size)
  go_wp2_with fail
  exact ⟨rfl, ⟨older, rfl, ho⟩, B4⟩

set_option maxRecDepth 100000 in
set_option maxHeartbeats 2000000 in
theorem popen_no (k i b m : Int) (s : ByteArray) (ad : Option Addr) (len cap : Nat) (w : World)
    (hF : ∀ wx, Below w.heap.size w wx → Calls Tryz.prog 105 #[.agg #[.int .i64 k, .int .i64 i, .int .u64 b, .string s, .slice ad len cap], .int .i64 3] wx fun e w' => Pn 182 (.int .i64 m) e ∧ Below wx.heap.size wx w') :
    Calls Tryz.prog 107 #[.agg #[.int .i64 k, .int .i64 i, .int .u64 b, .string s, .slice ad len cap]] w fun e w' => Pn 182 (.int .i64 m) e ∧ Below w.heap.size w w' := by
  have HF := Lib.hid hF
  clear hF
  have B0 := below2 w (.cells #[.int .i64 k, .int .i64 i, .int .u64 b, .string s, .slice ad len cap] 25) (.cells #[.int .i64 0, .int .i64 0, .int .u64 0, .string ⟨#[]⟩, .slice none 0 0] 25)
  go_enter Tryz.func107, Tryz.ntmps107
  go_wp2_with fail
  refine (HF.out _ B0).mono ?_
  rintro e w0 ⟨⟨older, rfl, ho⟩, b0⟩
  have B1 := B0.trans (b0.mono B0.size)
  go_wp2_with fail
  exact ⟨rfl, ⟨older, rfl, ho⟩, B1⟩
end Go.Proofs.YtajagjcfmaggiaaGreatDoor
/- What an act comes to, by what the steps do; the conditions: what the steps come to. -/
namespace Go.Proofs.YtajagjcfmaggiaaGreatDoor
open Go.RowKit

set_option maxRecDepth 100000 in
set_option maxHeartbeats 1000000 in
theorem done_open (ak ai au : Int) (az : ByteArray) (aa : Option Addr) (an ac : Nat) (bk bi bu : Int) (bs : ByteArray) (ba : Option Addr) (bn bc : Nat) (num : Int) (w : World) (H : Nat) (hH : w.heap.size + 2 ≤ H) (P : BodyP) (hP : St H P)
    (hM : ∀ wx, Below w.heap.size w wx → wx.heap.size = w.heap.size + 2 → Calls Tryz.prog 107 #[.agg #[.int .i64 ak, .int .i64 ai, .int .u64 au, .string az, .slice aa an ac]] wx fun e w' => ∃ k i u s a n c, e = .returned (.agg #[.int .i64 k, .int .i64 i, .int .u64 u, .string s, .slice a n c]) ∧ P k i u s a n c w' ∧ Below wx.heap.size wx w') :
    Calls Tryz.prog 89 #[.agg (acs 5 ak ai au az aa an ac bk bi bu bs ba bn bc num)] w fun e w' => ∃ k i u s a n c, e = .returned (.agg (rcs 0 0 0 0 true k i u s a n c)) ∧ P k i u s a n c w' ∧ Below w.heap.size w w' := by
  have HM := Lib.hid hM
  have hP' := Lib.hid hP
  clear hM hP
  have GV : Hid (∀ (k i b : Int) (s : ByteArray) (ad : Option Addr) (len cap : Nat) (w : World), Calls Tryz.prog 103 #[.agg #[.int .i64 k, .int .i64 i, .int .u64 b, .string s, .slice ad len cap]] w fun e w' => e = .returned (.agg (rcs 0 0 0 0 true k i b s ad len cap)) ∧ Below w.heap.size w w') := gave_any
  have B0 := below2 w (.cells (acs 5 ak ai au az aa an ac bk bi bu bs ba bn bc num) 93) (.cells (rErr 0 0 0 0) 33)
  have R0 := Bk.new2 w (.cells (acs 5 ak ai au az aa an ac bk bi bu bs ba bn bc num) 93) (rErr 0 0 0 0) 33
  go_enter Tryz.func89, Tryz.ntmps89
  go_wp2_with fail
  refine (HM.out _ B0 (by simp)).mono ?_
  rintro e w1 ⟨k, i, u, s, a, n, c, rfl, p0, b1⟩
  have p1 := Lib.hid p0
  have B1 := B0.trans (b1.mono B0.size)
  have R1 := R0.step b1
  clear p0 b1 B0 R0
  go_wp2_with fail
  refine (GV.out k i u s a n c _).mono ?_
  rintro e w2 ⟨rfl, b2⟩
  have r2 := R1.step b2
  have B2 := B1.trans (b2.mono B1.size)
  have PP := Lib.hid (hP'.out.below p1.out b2)
  clear p1 R1 b2 B1
  obtain ⟨c0, c1, c2, c3, c4, c5, c6, c7, c8, c9⟩ := r2.c10
  have z2 := r2.f
  go_wp2_with fail
  obtain ⟨k1, k2, k3, k4⟩ := set10 r2 (.int .i64 0) (.int .i64 0) (.int .i64 0) (.int .i64 0) (.bool true) (.int .i64 k) (.int .i64 i) (.int .u64 u) (.string s) (.slice a n c) rfl
  have KP := Lib.hid (hP'.out _ _ _ _ _ _ _ w2 _ PP.out (Nat.le_of_eq k2.symm) fun g hg _ => k3 g (by omega))
  have KF := B2.trans (k4.mono (by omega))
  obtain ⟨q0, q1, q2, q3, q4, q5, q6, q7, q8, q9⟩ := k1.c10
  refine bodyPost_ret (v := .agg (rcs 0 0 0 0 true k i u s a n c)) ?_ rfl ⟨k, i, u, s, a, n, c, rfl, KP.out, KF⟩
  simp [results, Tryz.results89, go_sem, q0, q1, q2, q3, q4, q5, q6, q7, q8, q9]

set_option maxRecDepth 100000 in
set_option maxHeartbeats 1000000 in
theorem done_open_no (ak ai au : Int) (az : ByteArray) (aa : Option Addr) (an ac : Nat) (bk bi bu : Int) (bs : ByteArray) (ba : Option Addr) (bn bc : Nat) (num : Int) (T : TypeId) (z : Value) (w : World)
    (hM : ∀ wx, Below w.heap.size w wx → Calls Tryz.prog 107 #[.agg #[.int .i64 ak, .int .i64 ai, .int .u64 au, .string az, .slice aa an ac]] wx fun e w' => Pn T z e ∧ Below wx.heap.size wx w') :
    Calls Tryz.prog 89 #[.agg (acs 5 ak ai au az aa an ac bk bi bu bs ba bn bc num)] w fun e w' => Pn T z e ∧ Below w.heap.size w w' := by
  have HM := Lib.hid hM
  clear hM
  have B0 := below2 w (.cells (acs 5 ak ai au az aa an ac bk bi bu bs ba bn bc num) 93) (.cells (rErr 0 0 0 0) 33)
  go_enter Tryz.func89, Tryz.ntmps89
  go_wp2_with fail
  refine (HM.out _ B0).mono ?_
  rintro e w1 ⟨⟨older, rfl, ho⟩, b1⟩
  have B1 := B0.trans (b1.mono B0.size)
  go_wp2_with fail
  exact ⟨rfl, ⟨older, rfl, ho⟩, B1⟩

end Go.Proofs.YtajagjcfmaggiaaGreatDoor
/- Each act over values' trees, tried: what the document's table has, told as one form: the numbers of a result, and the tree of its body; the conditions: the trees in memory, valid, their bits within 64. -/
namespace Go.Proofs.YtajagjcfmaggiaaGreatDoor
open Go.RowKit

/-- A result: its numbers, and its body's tree in memory. -/
def GP (er pk pn : Int) (has : Bool) (m : Nat) (tr : Dt.Tr m) (w : World) (e : Ending) (w' : World) : Prop :=
  ∃ k i u s a n c, e = .returned (.agg (rcs er 0 pk pn has k i u s a n c)) ∧ Dt.Rf (fun g => w.heap.size ≤ g ∧ g < w'.heap.size) w' m [.int .i64 k, .int .i64 i, .int .u64 u, .string s, .slice a n c] tr ∧ Below w.heap.size w w'

/-- A value without parts. -/
def lfT (k i : Int) : Dt.Tr 1 := ((k, i, 0, ⟨#[]⟩, []) : Int × Int × Int × ByteArray × List (Dt.Tr 0))
theorem lf_rf (F : Nat → Prop) (w : World) (k i : Int) : Dt.Rf F w 1 [.int .i64 k, .int .i64 i, .int .u64 0, .string ⟨#[]⟩, .slice none 0 0] (lfT k i) := ⟨none, 0, rfl, Nat.zero_le _, Nat.zero_le _, Nat.zero_le _, .inl rfl⟩
theorem gp_err {er pk pn : Int} {w : World} {e : Ending} {w' : World} (h : e = .returned (.agg (rErr er 0 pk pn)) ∧ Below w.heap.size w w') : GP er pk pn false 1 (lfT 0 0) w e w' := ⟨0, 0, 0, ⟨#[]⟩, none, 0, 0, h.1, lf_rf _ w' 0 0, h.2⟩
theorem gp_rf {H : Nat} {m : Nat} {tr : Dt.Tr m} {w : World} {e : Ending} {w' : World} (hH : w.heap.size ≤ H) (h : ∃ k i u s a n c, e = .returned (.agg (rcs 0 0 0 0 true k i u s a n c)) ∧ Dt.Rf (fun g => H ≤ g ∧ g < w'.heap.size) w' m [.int .i64 k, .int .i64 i, .int .u64 u, .string s, .slice a n c] tr ∧ Below w.heap.size w w') : GP 0 0 0 true m tr w e w' := by
  obtain ⟨k, i, u, s, a, n, c, he, rf, hb⟩ := h
  exact ⟨k, i, u, s, a, n, c, he, Dt.Rf.to (fun g hg => ⟨⟨by omega, hg.2⟩, rfl⟩) _ _ _ rf, hb⟩

/-- A value in memory, valid. -/
structure Vl (W0 : World) (m : Nat) (t : Dt.Tr (m + 1)) (k i u : Int) (s : ByteArray) (a : Option Addr) (n c : Nat) : Prop where
  rg : Dt.rgt (m + 1) t = true
  ps : (Dt.pts (m + 1) t).1 ≤ 4096
  r6 : Dt.r64 (m + 1) t
  rep : Dt.Rep W0 (m + 1) [.int .i64 k, .int .i64 i, .int .u64 u, .string s, .slice a n c] t
theorem Vl.eq {W0 : World} {m : Nat} {t : Dt.Tr (m + 1)} {k i u : Int} {s : ByteArray} {a : Option Addr} {n c : Nat} (h : Vl W0 m t k i u s a n c) : t.kd = k ∧ t.it = i ∧ t.tx = s ∧ t.ks.length = n := by
  obtain ⟨a', c', e, -⟩ := h.rep
  simp only [List.cons.injEq, Value.int.injEq, Value.string.injEq, Value.slice.injEq, true_and, and_true] at e
  exact ⟨e.1.symm, e.2.1.symm, e.2.2.2.1.symm, e.2.2.2.2.2.1.symm⟩
theorem Vl.below {W0 w : World} {m : Nat} {t : Dt.Tr (m + 1)} {k i u : Int} {s : ByteArray} {a : Option Addr} {n c : Nat} (h : Vl W0 m t k i u s a n c) (hb : Below W0.heap.size W0 w) : Vl w m t k i u s a n c := ⟨h.rg, h.ps, h.r6, Dt.Rep.below hb _ _ _ h.rep⟩
theorem Vl.kid {W0 : World} {m : Nat} {t : Dt.Tr (m + 1)} {k i u : Int} {s : ByteArray} {a : Option Addr} {n c : Nat} (h : Vl W0 m t k i u s a n c) {t' : Dt.Tr m} (ht : t' ∈ t.ks) : Dt.rgt m t' = true ∧ (Dt.pts m t').1 ≤ 4096 ∧ Dt.r64 m t' := by
  have h1 := h.rg
  simp only [Dt.rgt, Bool.and_eq_true, List.all_eq_true] at h1
  exact ⟨h1.2 t' ht, (Dt.pts_kids h.ps).2 t' ht, h.r6.2 t' ht⟩

theorem gpAssert (W0 : World) (m : Nat) (t : Dt.Tr (m + 1)) (ak ai au : Int) (az : ByteArray) (aa : Option Addr) (an ac : Nat) (bk bi bu : Int) (bs : ByteArray) (ba : Option Addr) (bn bc : Nat) (num : Int) (h : Vl W0 m t ak ai au az aa an ac) (hq : tkd num ak = true) (w : World) (hb : Below W0.heap.size W0 w) :
    Calls Tryz.prog 77 #[.agg (acs 2 ak ai au az aa an ac bk bi bu bs ba bn bc num)] w (GP 0 0 0 true (m + 1) t w) := (tryAssert W0 m t h.rg h.ps h.r6 ak ai au az aa an ac bk bi bu bs ba bn bc num h.rep w hb hq).mono fun _ _ q => gp_rf (by omega) q
theorem gpAssert_no (W0 : World) (m : Nat) (t : Dt.Tr (m + 1)) (ak ai au : Int) (az : ByteArray) (aa : Option Addr) (an ac : Nat) (bk bi bu : Int) (bs : ByteArray) (ba : Option Addr) (bn bc : Nat) (num : Int) (h : Vl W0 m t ak ai au az aa an ac) (hq : tkd num ak = false) (w : World) (hb : Below W0.heap.size W0 w) :
    Calls Tryz.prog 77 #[.agg (acs 2 ak ai au az aa an ac bk bi bu bs ba bn bc num)] w (GP 110 2 ak false 1 (lfT 0 0) w) := (tryAssert_no W0 m t h.rg h.ps ak ai au az aa an ac bk bi bu bs ba bn bc num h.rep w hb hq).mono fun _ _ q => gp_err q
theorem gpFace (W0 : World) (m : Nat) (t : Dt.Tr (m + 1)) (ak ai au : Int) (az : ByteArray) (aa : Option Addr) (an ac : Nat) (bk bi bu : Int) (bs : ByteArray) (ba : Option Addr) (bn bc : Nat) (num : Int) (h : Vl W0 m t ak ai au az aa an ac) (hq : impl ak num = true) (w : World) (hb : Below W0.heap.size W0 w) :
    Calls Tryz.prog 77 #[.agg (acs 3 ak ai au az aa an ac bk bi bu bs ba bn bc num)] w (GP 0 0 0 true (m + 1) t w) := (tryFace W0 m t h.ps ak ai au az aa an ac bk bi bu bs ba bn bc num h.rep w hb hq).mono fun _ _ q => gp_rf (by omega) q
theorem gpFace_no (ak ai au : Int) (az : ByteArray) (aa : Option Addr) (an ac : Nat) (bk bi bu : Int) (bs : ByteArray) (ba : Option Addr) (bn bc : Nat) (num : Int) (hq : impl ak num = false) (w : World) :
    Calls Tryz.prog 77 #[.agg (acs 3 ak ai au az aa an ac bk bi bu bs ba bn bc num)] w (GP 110 2 (lackM ak num) false 1 (lfT 0 0) w) := (tryFace_no ak ai au az aa an ac bk bi bu bs ba bn bc num w hq).mono fun _ _ q => gp_err q
theorem gpSize (W0 : World) (m : Nat) (t : Dt.Tr (m + 1)) (ak ai au : Int) (az : ByteArray) (aa : Option Addr) (an ac : Nat) (bk bi bu : Int) (bs : ByteArray) (ba : Option Addr) (bn bc : Nat) (num : Int) (h : Vl W0 m t ak ai au az aa an ac) (h0 : (Dt.lenP t.kd t.tx.size t.ks.length).2 = 0) (w : World) (hb : Below W0.heap.size W0 w) :
    Calls Tryz.prog 77 #[.agg (acs 10 ak ai au az aa an ac bk bi bu bs ba bn bc num)] w (GP 0 0 0 true 1 (lfT 1 (Dt.lenP t.kd t.tx.size t.ks.length).1) w) := (trySize W0 m t h.rg h.ps ak ai au az aa an ac bk bi bu bs ba bn bc num h.rep w hb).mono fun e w' ⟨he, hb'⟩ => by
  rw [if_pos h0] at he
  exact ⟨1, _, 0, ⟨#[]⟩, none, 0, 0, he, lf_rf _ w' 1 _, hb'⟩
theorem gpSize_no (W0 : World) (m : Nat) (t : Dt.Tr (m + 1)) (ak ai au : Int) (az : ByteArray) (aa : Option Addr) (an ac : Nat) (bk bi bu : Int) (bs : ByteArray) (ba : Option Addr) (bn bc : Nat) (num : Int) (h : Vl W0 m t ak ai au az aa an ac) (h0 : (Dt.lenP t.kd t.tx.size t.ks.length).2 ≠ 0) (w : World) (hb : Below W0.heap.size W0 w) :
    Calls Tryz.prog 77 #[.agg (acs 10 ak ai au az aa an ac bk bi bu bs ba bn bc num)] w (GP 12 0 0 false 1 (lfT 0 0) w) := (trySize W0 m t h.rg h.ps ak ai au az aa an ac bk bi bu bs ba bn bc num h.rep w hb).mono fun e w' ⟨he, hb'⟩ => by
  rw [if_neg h0] at he
  exact gp_err ⟨he, hb'⟩
theorem vr_11 {F : Nat → Prop} {w : World} {m : Nat} {v : Value} {t : Dt.Tr (m + 1)} (h : Dt.VR F w (m + 1) v t) (hk : t.kd = 11) : ∃ b u t0, v = .iface 155 (.pointer (some ⟨b, 0, none⟩)) ∧ w.heap[b]? = some (.cells #[.int .i64 t.it, u] 176 (0, 0)) ∧ t.ks = [t0] ∧ Dt.VR F w m u t0 := by
  simp only [Dt.VR] at h
  rcases h with q | q | q | q | q | q | q | ⟨k, q⟩ | ⟨k, q⟩ | ⟨k, q⟩ | q | ⟨k, b, u, t0, e1, e2, e3, e4, e5⟩ | q | q
  all_goals first | (exfalso; omega) | skip
  exact ⟨b, u, t0, e1, e4, e3, e5⟩
theorem vr_12 {F : Nat → Prop} {w : World} {m : Nat} {v : Value} {t : Dt.Tr (m + 1)} (h : Dt.VR F w (m + 1) v t) (hk : t.kd = 12) : v = .iface 155 (.pointer none) := by
  rcases Dt.vr_cases h with ⟨q, rfl⟩ | ⟨q, rfl⟩ | ⟨q, rfl⟩ | ⟨q, rfl⟩ | ⟨q, rfl⟩ | ⟨q, rfl⟩ | ⟨q, rfl⟩ | ⟨q, a, c, rfl⟩ | ⟨q, a, c, rfl⟩ | ⟨q, x, y, rfl, hx, hy⟩ | ⟨q, rfl⟩ | ⟨q, b, u, rfl, hh, hu⟩ | ⟨q, rfl⟩ | ⟨q, rfl⟩
  all_goals first | (exfalso; omega) | rfl

theorem gpOpen (W0 : World) (m : Nat) (t : Dt.Tr (m + 1)) (ak ai au : Int) (az : ByteArray) (aa : Option Addr) (an ac : Nat) (bk bi bu : Int) (bs : ByteArray) (ba : Option Addr) (bn bc : Nat) (num : Int) (h : Vl W0 m t ak ai au az aa an ac) (hk : ak = 11) (kid : Dt.Tr m) (hkid : t.ks = [kid]) (w : World) (hb : Below W0.heap.size W0 w) :
    Calls Tryz.prog 77 #[.agg (acs 5 ak ai au az aa an ac bk bi bu bs ba bn bc num)] w (GP 0 0 0 true m kid w) := by
  have S := st_rf (w.heap.size + 8) m kid
  obtain ⟨kr, kp, k6⟩ := h.kid (t' := kid) (by rw [hkid]; simp)
  refine (try_ret 5 ak ai au az aa an ac bk bi bu bs ba bn bc num w 0 0 0 0 true _ (st_four S (by omega)) fun wx hx zx => ?_).mono fun _ _ q => gp_rf (by omega) q
  refine done_open ak ai au az aa an ac bk bi bu bs ba bn bc num wx (w.heap.size + 8) (by omega) _ S fun wy hy zy => ?_
  refine popen_yes ak ai au az aa an ac wy (w.heap.size + 8) (by omega) _ S (fun wz hz => ?_) fun wz hz zz => ?_
  · exact pface_yes ak ai au az aa an ac 3 wz fun wq _ => mustFace_yes ak ai au az aa an ac 3 wq (by subst hk; rfl)
  · have hB : Below W0.heap.size W0 wz := ((hb.trans (hx.mono hb.size)).trans (hy.mono (by have := hb.size; omega))).trans (hz.mono (by have := hb.size; omega))
    refine (of_val W0 m t ak ai au az aa an ac wz h.rg h.ps h.rep hB).mono fun e w' ⟨v, he, _, vr, hb'⟩ => ?_
    obtain ⟨b, u, t0, rfl, e4, e2, e5⟩ := vr_11 vr.out (h.eq.1.trans hk)
    rw [hkid] at e2
    obtain rfl : kid = t0 := by simpa using e2
    refine ⟨b, t.it, u, he, ⟨e4, Dt.vr_any e5, fun wq hq => ?_⟩, hb'⟩
    refine (Dt.plain_any _ w' m kid u wq kr k6 kp e5 hq).mono fun e w'' ⟨v0, v1, v2, v3, v4, he, rf, hb''⟩ => ?_
    obtain ⟨u0, u1, u2, u3, a4, n4, c4', rfl, rfl, rfl, rfl, rfl⟩ := Dt.rep_shape (Dt.Rf.rep _ _ _ rf)
    exact ⟨u0, u1, u2, u3, a4, n4, c4', he, Dt.Rf.to (fun g hg => ⟨⟨by have := hq.size; have := hb'.size; omega, hg.2⟩, rfl⟩) _ _ _ rf, hb''⟩
theorem gpOpen_nil (W0 : World) (m : Nat) (t : Dt.Tr (m + 1)) (ak ai au : Int) (az : ByteArray) (aa : Option Addr) (an ac : Nat) (bk bi bu : Int) (bs : ByteArray) (ba : Option Addr) (bn bc : Nat) (num : Int) (h : Vl W0 m t ak ai au az aa an ac) (hk : ak = 12) (w : World) (hb : Below W0.heap.size W0 w) :
    Calls Tryz.prog 77 #[.agg (acs 5 ak ai au az aa an ac bk bi bu bs ba bn bc num)] w (GP 110 3 0 false 1 (lfT 0 0) w) := by
  refine (try_pan 5 ak ai au az aa an ac bk bi bu bs ba bn bc num w 183 (.agg #[]) 3 0 (ptold_nil) fun wx hx zx => ?_).mono fun _ _ q => gp_err q
  refine done_open_no ak ai au az aa an ac bk bi bu bs ba bn bc num _ _ wx fun wy hy => ?_
  refine popen_nil ak ai au az aa an ac wy (fun wz hz => ?_) fun wz hz => ?_
  · exact pface_yes ak ai au az aa an ac 3 wz fun wq _ => mustFace_yes ak ai au az aa an ac 3 wq (by subst hk; rfl)
  · have hB : Below W0.heap.size W0 wz := ((hb.trans (hx.mono hb.size)).trans (hy.mono (by have := hb.size; omega))).trans (hz.mono (by have := hb.size; have := hy.size; omega))
    refine (of_val W0 m t ak ai au az aa an ac wz h.rg h.ps h.rep hB).mono fun e w' ⟨v, he, _, vr, hb'⟩ => ?_
    obtain rfl := vr_12 vr.out (h.eq.1.trans hk)
    exact ⟨he, hb'⟩
theorem gpOpen_no (ak ai au : Int) (az : ByteArray) (aa : Option Addr) (an ac : Nat) (bk bi bu : Int) (bs : ByteArray) (ba : Option Addr) (bn bc : Nat) (num : Int) (hq : impl ak 3 = false) (w : World) :
    Calls Tryz.prog 77 #[.agg (acs 5 ak ai au az aa an ac bk bi bu bs ba bn bc num)] w (GP 110 2 (lackM ak 3) false 1 (lfT 0 0) w) := by
  refine (try_pan 5 ak ai au az aa an ac bk bi bu bs ba bn bc num w 182 (.int .i64 (lackM ak 3)) 2 (lackM ak 3) (ptold_assert (lackM ak 3)) fun wx hx zx => ?_).mono fun _ _ q => gp_err q
  refine done_open_no ak ai au az aa an ac bk bi bu bs ba bn bc num _ _ wx fun wy hy => ?_
  exact popen_no ak ai au (lackM ak 3) az aa an ac wy fun wz hz => pface_no ak ai au az aa an ac 3 (lackM ak 3) wz fun wq _ => mustFace_no ak ai au az aa an ac 3 wq hq

end Go.Proofs.YtajagjcfmaggiaaGreatDoor
/- A tree of no more depth than k is a tree of the type for k, with the same answers of the document's functions, and the same place in memory; and a tree whose blocks are known. No program. -/
namespace Go.Proofs.YtajagjcfmaggiaaGreatDoor.Dt
open Go.RowKit
theorem ptsL_snd {T : Type} (c : T → Int × Int) : ∀ (ks : List T) (p d : Int), d + 1 ≤ (ptsL c ks p d).2 ∧ ∀ t ∈ ks, (c t).2 + 1 ≤ (ptsL c ks p d).2
  | [], p, d => ⟨Int.le_refl _, fun t ht => by cases ht⟩
  | t :: ts, p, d => by
    have I := ptsL_snd c ts (p + (c t).1) (max d (c t).2)
    simp only [ptsL]
    refine ⟨?_, fun t' ht => ?_⟩
    · have := I.1; omega
    · rcases List.mem_cons.1 ht with rfl | ht
      · have := I.1; omega
      · exact I.2 t' ht
end Go.Proofs.YtajagjcfmaggiaaGreatDoor.Dt
/- How the model's floats, texts and whole numbers stand to each other: of two that are no NaN one is less or they are equal; less goes on; a NaN is not less, nor anything than it. No program. -/
namespace Go.Proofs.YtajagjcfmaggiaaGreatDoor.Dt
open Go.RowKit

theorem od_nan (a b : Ieee.Datum) (h : a.isNaN = true ∨ b.isNaN = true) : a.order b = none := by
  cases a <;> cases b <;> simp_all [Ieee.Datum.isNaN, Ieee.Datum.order]

end Go.Proofs.YtajagjcfmaggiaaGreatDoor.Dt
/- What the package's inner value makes of the kinds that have an order, and what its Less answers of two values of one such kind; each theorem names its conditions. -/
namespace Go.Proofs.YtajagjcfmaggiaaGreatDoor.Dt
open Go.RowKit

set_option maxRecDepth 100000 in
set_option maxHeartbeats 1000000 in
theorem odLeaf1 (r : Option Nat) (i u : Int) (s : ByteArray) (ad : Option Addr) (len cap : Nat) (w : World) :
    Calls Tryz.prog 86 #[.agg #[.map r], .agg #[.int .i64 1, .int .i64 i, .int .u64 u, .string s, .slice ad len cap]] w fun e w' => e = .returned (.iface 140 (.int .i64 i)) ∧ Below w.heap.size w w' := by
  have hf := frombits u
  go_enter Tryz.func86, Tryz.ntmps86
  go_wp2
  go_ret
  exact ⟨rfl, ((Below.refl _ w).alloc (Nat.le_refl _) _).alloc (by simp) _⟩

set_option maxRecDepth 100000 in
set_option maxHeartbeats 1000000 in
theorem odVal1 (i u : Int) (s : ByteArray) (ad : Option Addr) (len cap : Nat) (w : World) :
    Calls Tryz.prog 76 #[.agg #[.int .i64 1, .int .i64 i, .int .u64 u, .string s, .slice ad len cap]] w fun e w' => e = .returned (.iface 140 (.int .i64 i)) ∧ Below w.heap.size w w' := by
  go_enter Tryz.func76, Tryz.ntmps76
  go_wp2_with fail
  refine (odLeaf1 none i u s ad len cap _).mono ?_
  rintro e w1 ⟨rfl, b1⟩
  go_wp2
  go_ret
  exact ⟨rfl, ((Below.refl _ w).alloc (Nat.le_refl _) _).trans (b1.mono (by simp))⟩

set_option maxRecDepth 100000 in
set_option maxHeartbeats 1000000 in
theorem odLeaf3 (r : Option Nat) (i u : Int) (s : ByteArray) (ad : Option Addr) (len cap : Nat) (w : World) :
    Calls Tryz.prog 86 #[.agg #[.map r], .agg #[.int .i64 3, .int .i64 i, .int .u64 u, .string s, .slice ad len cap]] w fun e w' => e = .returned (.iface 142 (.float .f64 u.toNat)) ∧ Below w.heap.size w w' := by
  have hf := frombits u
  go_enter Tryz.func86, Tryz.ntmps86
  go_wp2
  go_ret
  exact ⟨rfl, ((Below.refl _ w).alloc (Nat.le_refl _) _).alloc (by simp) _⟩

set_option maxRecDepth 100000 in
set_option maxHeartbeats 1000000 in
theorem odVal3 (i u : Int) (s : ByteArray) (ad : Option Addr) (len cap : Nat) (w : World) :
    Calls Tryz.prog 76 #[.agg #[.int .i64 3, .int .i64 i, .int .u64 u, .string s, .slice ad len cap]] w fun e w' => e = .returned (.iface 142 (.float .f64 u.toNat)) ∧ Below w.heap.size w w' := by
  go_enter Tryz.func76, Tryz.ntmps76
  go_wp2_with fail
  refine (odLeaf3 none i u s ad len cap _).mono ?_
  rintro e w1 ⟨rfl, b1⟩
  go_wp2
  go_ret
  exact ⟨rfl, ((Below.refl _ w).alloc (Nat.le_refl _) _).trans (b1.mono (by simp))⟩

end Go.Proofs.YtajagjcfmaggiaaGreatDoor.Dt
