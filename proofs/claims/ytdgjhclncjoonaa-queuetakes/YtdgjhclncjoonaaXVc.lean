/- The package's copies of values and of rows of values: the same trees in new memory; the conditions: the trees in memory, of a size that can be. -/
import Derived.Test.YtdgjhclncjoonaaXRf
import Derived.Test.YtdgjhclncjoonaaHa
namespace Go.Proofs.Ytdgjhclncjoonaa.Dt
open Go.RowKit

/-- A row of trees in memory. -/
def Rl (w : World) (n : Nat) (ad : Option Addr) (ts : List (Tr n)) : Prop := ts = [] ∨ ∃ g o, ad = some ⟨g, o, none⟩ ∧ ∀ (j : Nat) (t' : Tr n), ts[j]? = some t' → ∃ v0 v1 v2 v3 v4, w.cell? ⟨g, o + j * 5, none⟩ = some v0 ∧ w.cell? ⟨g, o + j * 5 + 1, none⟩ = some v1 ∧ w.cell? ⟨g, o + j * 5 + 2, none⟩ = some v2 ∧ w.cell? ⟨g, o + j * 5 + 3, none⟩ = some v3 ∧ w.cell? ⟨g, o + j * 5 + 4, none⟩ = some v4 ∧ Rep w n [v0, v1, v2, v3, v4] t'
/-- .. in blocks of which F tells. -/
def Rlf (F : Nat → Prop) (w : World) (n : Nat) (ad : Option Addr) (ts : List (Tr n)) : Prop := ts = [] ∨ ∃ g, ad = some ⟨g, 0, none⟩ ∧ F g ∧ (∀ q, w.frozen? ⟨g, q, none⟩ = false) ∧ ∀ (j : Nat) (t' : Tr n), ts[j]? = some t' → ∃ v0 v1 v2 v3 v4, w.cell? ⟨g, j * 5, none⟩ = some v0 ∧ w.cell? ⟨g, j * 5 + 1, none⟩ = some v1 ∧ w.cell? ⟨g, j * 5 + 2, none⟩ = some v2 ∧ w.cell? ⟨g, j * 5 + 3, none⟩ = some v3 ∧ w.cell? ⟨g, j * 5 + 4, none⟩ = some v4 ∧ Rf F w n [v0, v1, v2, v3, v4] t'

/-- The contract of Copy at trees of one depth. -/
def CpOf (n : Nat) : Prop := ∀ (t : Tr n) (v0 v1 v2 v3 v4 : Value) (w : World), Rep w n [v0, v1, v2, v3, v4] t → (pts n t).1 ≤ 4096 →
  Calls Try.prog 31 #[.agg #[v0, v1, v2, v3, v4]] w fun e w' => ∃ (k i u : Int) (s : ByteArray) (ad : Option Addr) (len cap : Nat), e = .returned (.agg #[.int .i64 k, .int .i64 i, .int .u64 u, .string s, .slice ad len cap]) ∧ Rf (fun g => w.heap.size ≤ g ∧ g < w'.heap.size) w' n [.int .i64 k, .int .i64 i, .int .u64 u, .string s, .slice ad len cap] t ∧ Below w.heap.size w w'

set_option maxRecDepth 100000 in
set_option maxHeartbeats 2000000 in
theorem vall (m : Nat) (ih : CpOf m) (ks : List (Tr m)) (ad : Option Addr) (cap : Nat) (w : World) (hn : ks.length ≤ 2199023255551) (hps : ∀ t ∈ ks, (pts m t).1 ≤ 4096) (hk : Rl w m ad ks) :
    Calls Try.prog 36 #[.slice ad ks.length cap] w fun e w' => ∃ a c, e = .returned (.slice a ks.length c) ∧ ks.length ≤ c ∧ c ≤ maxLen ∧ Rlf (fun g => w.heap.size ≤ g ∧ g < w'.heap.size) w' m a ks ∧ Below w.heap.size w w' := by
  by_cases h0 : ks = []
  · subst h0
    exact (copyAll_none ad cap w).mono fun e w' ⟨he, hb⟩ => ⟨none, 0, he, Nat.le_refl _, by unfold maxLen; omega, .inl rfl, hb⟩
  have hpos : 0 < ks.length := List.length_pos_iff.2 h0
  obtain ⟨i0, hz20, hze, hsz, hby⟩ := infoDat_parts
  have hmk : ∀ w : World, (Instr.makeSlice 26 (.int .i64 ks.length) (.int .i64 ks.length)).run Try.prog w = .ok (.slice (some ⟨w.heap.size, 0, none⟩) ks.length ks.length) (w.alloc (.cells (madeCells (Value.cells (.agg #[.int .i64 0, .int .i64 0, .int .u64 0, .string ⟨#[]⟩, .slice none 0 0])) (ks.length * 5)) 28)) := fun w => by
    have := run_make (P := Try.prog) w 26 28 i0 _ Try.underlying26 hz20 hze .i64 .i64 ks.length ks.length (by omega) (Int.le_refl _) (by rw [hby]; omega) (by omega)
    simpa [hsz] using this
  have r2 : Rq (w.alloc (.cells (madeCells (Value.cells (.agg #[.int .i64 0, .int .i64 0, .int .u64 0, .string ⟨#[]⟩, .slice none 0 0])) (ks.length * 5)) 28)) w.heap.size ks.length := by
    exact ⟨_, heap_alloc_new w _, size_madeCells _ _⟩
  have b2 : Below w.heap.size w (w.alloc (.cells (madeCells (Value.cells (.agg #[.int .i64 0, .int .i64 0, .int .u64 0, .string ⟨#[]⟩, .slice none 0 0])) (ks.length * 5)) 28)) := below1 w _
  have HI := Lib.hid ih
  have HK := Lib.hid hk
  have HP := Lib.hid hps
  have hne0 : (ks.length == 0) = false := by simp; exact h0
  have hne1 : ((ks.length : Int) == 0) = false := by simp; omega
  clear ih hk hps hz20 hsz hby hze
  generalize madeCells (Value.cells (.agg #[.int .i64 0, .int .i64 0, .int .u64 0, .string ⟨#[]⟩, .slice none 0 0])) (ks.length * 5) = mc at *
  go_enter Try.func36, Try.ntmps36
  go_wp2_with fail
  go_loopw [14] (fun si wr => ∃ (j : Nat), si = .int .i64 j ∧ j ≤ ks.length ∧ Lq wr w.heap.size ks.length (fun g => w.heap.size + 1 ≤ g ∧ g < wr.heap.size) m ks j ∧ Below w.heap.size w wr) (fun si _ => ks.length - (intOf si).toNat)
  case atStart => exact ⟨0, rfl, Nat.zero_le _, ⟨r2, fun k _ hk => absurd hk (Nat.not_lt_zero _)⟩, b2⟩
  case round =>
    obtain ⟨j, rfl, hj, rw1, g1⟩ := hrel
    by_cases hlt : j < ks.length
    · rcases HK.out with hk | ⟨g, o, hk1, hk2⟩
      · exact absurd hk h0
      subst hk1
      obtain ⟨v0, v1, v2, v3, v4, e0, e1, e2, e3, e4, rk⟩ := hk2 j _ (List.getElem?_eq_getElem hlt)
      have hg : g < w.heap.size := World.block_lt_of_cell? w _ e0
      obtain ⟨u0, u1, u2, u3, a4, n4, c4, rfl, rfl, rfl, rfl, rfl⟩ := rep_shape' rk
      have y0 := (g1.cell (p := ⟨g, o + j * 5, none⟩) hg).trans e0
      have y1 := (g1.cell (p := ⟨g, o + j * 5 + 1, none⟩) hg).trans e1
      have y2 := (g1.cell (p := ⟨g, o + j * 5 + 2, none⟩) hg).trans e2
      have y3 := (g1.cell (p := ⟨g, o + j * 5 + 3, none⟩) hg).trans e3
      have y4 := (g1.cell (p := ⟨g, o + j * 5 + 4, none⟩) hg).trans e4
      have h4 := HP.out _ (List.getElem_mem hlt)
      have zr := rw1.1.lt
      have HV : Hid (∀ wx, Below wr.heap.size wr wx → Calls Try.prog 31 #[.agg #[.int .i64 u0, .int .i64 u1, .int .u64 u2, .string u3, .slice a4 n4 c4]] wx fun e w' => ∃ (k i u : Int) (s : ByteArray) (ad : Option Addr) (len cap : Nat), e = .returned (.agg #[.int .i64 k, .int .i64 i, .int .u64 u, .string s, .slice ad len cap]) ∧ Rf (fun g => wx.heap.size ≤ g ∧ g < w'.heap.size) w' m [.int .i64 k, .int .i64 i, .int .u64 u, .string s, .slice ad len cap] ks[j] ∧ Below wx.heap.size wx w') := fun wx hx => HI.out ks[j] _ _ _ _ _ wx (Rep.below (hx.mono (Nat.le_refl _)) m _ _ (Rep.below g1 m _ _ rk)) h4
      clear e0 e1 e2 e3 e4 hk2 HK rk
      have step : Hid (∀ w2 v0 v1 v2 v3 v4, Below wr.heap.size wr w2 → Rf (fun g => wr.heap.size ≤ g ∧ g < w2.heap.size) w2 m [v0, v1, v2, v3, v4] ks[j] → ∀ W, W = ((((w2.setCell ⟨w.heap.size, j * 5, none⟩ v0).setCell ⟨w.heap.size, j * 5 + 1, none⟩ v1).setCell ⟨w.heap.size, j * 5 + 2, none⟩ v2).setCell ⟨w.heap.size, j * 5 + 3, none⟩ v3).setCell ⟨w.heap.size, j * 5 + 4, none⟩ v4 → Lq W w.heap.size ks.length (fun g => w.heap.size + 1 ≤ g ∧ g < W.heap.size) m ks (j + 1) ∧ Below w.heap.size w W) := fun w2 v0 v1 v2 v3 v4 bw rf W hW => by
        have k2 := rw1.1.below bw
        have hs2 := bw.size
        obtain ⟨s1, s2, s3, s4, s5⟩ := set5_at w2 w.heap.size ks.length j k2 hlt v0 v1 v2 v3 v4 hW
        refine ⟨⟨s1, fun k t hk ht => ?_⟩, ?_⟩
        · by_cases e : k = j
          · subst e
            rw [List.getElem?_eq_getElem hlt] at ht
            obtain rfl := Option.some.inj ht
            obtain ⟨a0, a1, a2, a3, a4⟩ := s4
            exact ⟨v0, v1, v2, v3, v4, a0, a1, a2, a3, a4, Rf.to (fun q hq => ⟨⟨by have := hq.1; omega, by rw [s2]; exact hq.2⟩, s3 q (by have := hq.1; omega)⟩) _ _ _ rf⟩
          · obtain ⟨u0, u1, u2, u3, u4, a0, a1, a2, a3, a4, rr⟩ := rw1.2 k t (by omega) ht
            have tr : ∀ o x, (o < j * 5 ∨ j * 5 + 4 < o) → wr.cell? ⟨w.heap.size, o, none⟩ = some x → W.cell? ⟨w.heap.size, o, none⟩ = some x := fun o x ho hx => (s5 o ho).trans ((bw.cell (p := ⟨w.heap.size, o, none⟩) zr).trans hx)
            exact ⟨u0, u1, u2, u3, u4, tr _ _ (by omega) a0, tr _ _ (by omega) a1, tr _ _ (by omega) a2, tr _ _ (by omega) a3, tr _ _ (by omega) a4, Rf.to (fun q hq => ⟨⟨hq.1, by rw [s2]; have := hq.2; omega⟩, (s3 q (by have := hq.1; omega)).trans (bw.block q hq.2)⟩) _ _ _ rr⟩
        · subst hW
          have g2 : Below w.heap.size w w2 := g1.trans (bw.mono g1.size)
          exact ((((g2.setCell (Nat.le_refl _) _).setCell (Nat.le_refl _) _).setCell (Nat.le_refl _) _).setCell (Nat.le_refl _) _).setCell (Nat.le_refl _) _
      have kcs : Hid (∀ w2, Below wr.heap.size wr w2 → (∃ x, w2.cell? ⟨w.heap.size, j * 5, none⟩ = some x) ∧ (∃ x, w2.cell? ⟨w.heap.size, j * 5 + 1, none⟩ = some x) ∧ (∃ x, w2.cell? ⟨w.heap.size, j * 5 + 2, none⟩ = some x) ∧ (∃ x, w2.cell? ⟨w.heap.size, j * 5 + 3, none⟩ = some x) ∧ (∃ x, w2.cell? ⟨w.heap.size, j * 5 + 4, none⟩ = some x) ∧ ∀ o, w2.frozen? ⟨w.heap.size, o, none⟩ = false) := fun w2 bw => by
        have k2 := rw1.1.below bw
        exact ⟨k2.c (by omega), k2.c (by omega), k2.c (by omega), k2.c (by omega), k2.c (by omega), fun o => k2.f⟩
      have hjl : (0 : Int) ≤ j ∧ (j : Int) < ks.length := by omega
      have bA := below1 wr (.cells #[.int .i64 u0, .int .i64 u1, .int .u64 u2, .string u3, .slice a4 n4 c4] 28)
      clear rw1
      go_wp2_with fail
      refine (HV.out _ bA).mono ?_
      rintro e w2 ⟨k', i', u', s', ad', len', cap', rfl, rf, bw⟩
      have bw' : Below wr.heap.size wr w2 := bA.trans (bw.mono bA.size)
      have rf' := Rf.to (F' := fun g => wr.heap.size ≤ g ∧ g < w2.heap.size) (w' := w2) (fun q hq => ⟨⟨by have := hq.1; simp at this; omega, hq.2⟩, rfl⟩) _ _ _ rf
      have st := Lib.hid (step.out w2 _ _ _ _ _ bw' rf')
      obtain ⟨⟨x0, k0⟩, ⟨x1, k1⟩, ⟨x2, k2⟩, ⟨x3, k3⟩, ⟨x4, k4⟩, kf⟩ := kcs.out w2 bw'
      clear rf rf' HV
      go_wp2_with fail
      exact ⟨⟨j + 1, by go_num, by omega, st.out _ rfl⟩, by simp [intOf]; omega⟩
    · have hje : j = ks.length := by omega
      subst hje
      have zr := rw1.1.lt
      go_wp2_with fail
      go_ret
      exact ⟨_, _, rfl, Nat.le_refl _, by unfold maxLen; omega, .inr ⟨_, rfl, ⟨Nat.le_refl _, zr⟩, fun q => rw1.1.f, fun j t h => by
        obtain ⟨v0, v1, v2, v3, v4, a0, a1, a2, a3, a4, r⟩ := rw1.2 j t (List.getElem?_eq_some_iff.1 h).1 h
        exact ⟨v0, v1, v2, v3, v4, a0, a1, a2, a3, a4, Rf.to (fun q hq => ⟨⟨by have := hq.1; omega, hq.2⟩, rfl⟩) _ _ _ r⟩⟩, g1⟩

theorem Rlf.to {F F' : Nat → Prop} {w w' : World} (hF : ∀ g, F g → F' g ∧ w'.heap[g]? = w.heap[g]?) {n : Nat} {ad : Option Addr} {ts : List (Tr n)} (h : Rlf F w n ad ts) : Rlf F' w' n ad ts := by
  rcases h with h | ⟨g, h1, h2, h3, h4⟩
  · exact .inl h
  · obtain ⟨hg, hh⟩ := hF g h2
    refine .inr ⟨g, h1, hg, fun q => ?_, fun j t' hj => ?_⟩
    · have := h3 q
      simp only [World.frozen?, hh] at this ⊢
      exact this
    · obtain ⟨v0, v1, v2, v3, v4, c0, c1, c2, c3, c4, r⟩ := h4 j t' hj
      exact ⟨v0, v1, v2, v3, v4, (cell_heap hh).trans c0, (cell_heap hh).trans c1, (cell_heap hh).trans c2, (cell_heap hh).trans c3, (cell_heap hh).trans c4, Rf.to hF n _ _ r⟩
theorem Rlf.rl {F : Nat → Prop} {w : World} {n : Nat} {ad : Option Addr} {ts : List (Tr n)} (h : Rlf F w n ad ts) : Rl w n ad ts := by
  rcases h with h | ⟨g, h1, -, -, h4⟩
  · exact .inl h
  · refine .inr ⟨g, 0, h1, fun j t' hj => ?_⟩
    obtain ⟨v0, v1, v2, v3, v4, c0, c1, c2, c3, c4, r⟩ := h4 j t' hj
    refine ⟨v0, v1, v2, v3, v4, ?_, ?_, ?_, ?_, ?_, Rf.rep n _ _ r⟩
    all_goals (rw [Nat.zero_add]; assumption)
theorem vcopy : ∀ n, CpOf n
  | 0 => fun t => t.elim
  | n + 1 => by
    intro t v0 v1 v2 v3 v4 w hr hp
    obtain ⟨ad, cap, h1, h2, h3, h4, h5⟩ := hr
    simp only [List.cons.injEq, and_true] at h1
    obtain ⟨rfl, rfl, rfl, rfl, rfl⟩ := h1
    obtain ⟨hl, hk⟩ := pts_kids hp
    refine (copy_by t.kd t.it t.ut t.tx ad t.ks.length cap w (fun a l c w' => l = t.ks.length ∧ t.ks.length ≤ c ∧ c ≤ maxLen ∧ Rlf (fun g => w.heap.size + 2 ≤ g ∧ g < w'.heap.size) w' n a t.ks) (fun a l c w' w'' ⟨e1, e2, e3, e4⟩ hs hg => ⟨e1, e2, e3, e4.to fun g hg' => ⟨⟨hg'.1, by rw [hs]; exact hg'.2⟩, hg g hg'.1⟩⟩) fun wx hb hz => ?_).mono fun e w' ⟨a, l, c, he, hr, hb⟩ => ?_
    · refine (vall n (vcopy n) t.ks ad cap wx (by omega) hk ?_).mono fun e w' ⟨a, c, he, e1, e2, e3, hb'⟩ => ⟨a, _, c, he, ⟨rfl, e1, e2, e3.to fun g hg => ⟨⟨by omega, hg.2⟩, rfl⟩⟩, hb'⟩
      rcases h5 with h5 | ⟨g, o, h6, h7⟩
      · exact .inl h5
      · refine .inr ⟨g, o, h6, fun j t' hj => ?_⟩
        obtain ⟨x0, x1, x2, x3, x4, c0, c1, c2, c3, c4, r⟩ := h7 j t' hj
        have hgl : g < w.heap.size := World.block_lt_of_cell? w _ c0
        exact ⟨x0, x1, x2, x3, x4, (hb.cell (p := ⟨g, _, none⟩) hgl).trans c0, (hb.cell (p := ⟨g, _, none⟩) hgl).trans c1, (hb.cell (p := ⟨g, _, none⟩) hgl).trans c2, (hb.cell (p := ⟨g, _, none⟩) hgl).trans c3, (hb.cell (p := ⟨g, _, none⟩) hgl).trans c4, Rep.below hb n _ _ r⟩
    · obtain ⟨rfl, e2, e3, e4⟩ := hr.out
      refine ⟨_, _, _, _, _, _, _, he, ⟨a, c, rfl, h2, e2, e3, ?_⟩, hb⟩
      rcases e4 with e4 | ⟨g, e5, e6, ef, e7⟩
      · exact .inl e4
      · refine .inr ⟨g, 0, e5, ⟨⟨by have := e6.1; omega, e6.2⟩, ef⟩, fun j t' hj => ?_⟩
        obtain ⟨x0, x1, x2, x3, x4, c0, c1, c2, c3, c4, r⟩ := e7 j t' hj
        refine ⟨x0, x1, x2, x3, x4, ?_, ?_, ?_, ?_, ?_, Rf.to (fun q hq => ⟨⟨by have := hq.1; omega, hq.2⟩, rfl⟩) _ _ _ r⟩
        all_goals (rw [Nat.zero_add]; assumption)
end Go.Proofs.Ytdgjhclncjoonaa.Dt
