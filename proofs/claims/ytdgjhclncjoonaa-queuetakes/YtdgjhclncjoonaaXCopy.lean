/- The document's Copy of a value's tree: the same tree in new blocks; the conditions: the tree in memory, of 4096 parts at most. -/
import Derived.Test.YtdgjhclncjoonaaXCut
import Derived.Deep.AppendLies
import Derived.Deep.RegionLaw
import Derived.Deep.RegionHeld3
namespace Go.Proofs.Ytdgjhclncjoonaa.Dt
open Go.RowKit

theorem set_blk {w : World} {N o : Nat} {cs : Array Value} (h : w.heap[N]? = some (.cells cs 28 (0, 0))) (v : Value) : (w.setCell ⟨N, o, none⟩ v).heap[N]? = some (.cells (cs.setIfInBounds o v) 28 (0, 0)) := by
  simp [World.setCell, Array.getElem?_modify, h]
theorem D5.set {w : World} {N : Nat} {v0 v1 v2 v3 v4 : Value} (h : D5 w N v0 v1 v2 v3 v4) (u0 u1 u2 u3 u4 : Value) :
    D5 (((((w.setCell ⟨N, 0, none⟩ u0).setCell ⟨N, 1, none⟩ u1).setCell ⟨N, 2, none⟩ u2).setCell ⟨N, 3, none⟩ u3).setCell ⟨N, 4, none⟩ u4) N u0 u1 u2 u3 u4 :=
  set_blk (set_blk (set_blk (set_blk (set_blk h u0) u1) u2) u3) u4
theorem D5.put4 {w : World} {N : Nat} {v0 v1 v2 v3 v4 : Value} (h : D5 w N v0 v1 v2 v3 v4) (x : Value) : D5 (w.setCell ⟨N, 4, none⟩ x) N v0 v1 v2 v3 x := by
  unfold D5 at *; simp [World.setCell, Array.getElem?_modify, h]
theorem D5.set_other {w : World} {N : Nat} {v0 v1 v2 v3 v4 : Value} (h : D5 w N v0 v1 v2 v3 v4) (a : Addr) (x : Value) (hne : N ≠ a.block) : D5 (w.setCell a x) N v0 v1 v2 v3 v4 := (Below.heap_setCell w a x N hne).trans h
theorem D5.kept_by {w w' : World} {N : Nat} {row : Option Nat} {v0 v1 v2 v3 v4 : Value} (h : D5 w N v0 v1 v2 v3 v4) (hg : w.grownBy w' row) (hne : some N ≠ row) : D5 w' N v0 v1 v2 v3 v4 := (hg.block N h.lt hne).trans h
theorem five_one (w : World) (v0 v1 v2 v3 v4 : Value) : ∀ (j : Nat) (u : Value), [v0, v1, v2, v3, v4][j]? = some u → (w.alloc (.cells #[v0, v1, v2, v3, v4] 28)).cell? ((⟨w.heap.size, 0, none⟩ : Addr).add j) = some u := by
  intro j u hj
  have hb : (w.alloc (.cells #[v0, v1, v2, v3, v4] 28)).heap[w.heap.size]? = some (.cells #[v0, v1, v2, v3, v4] 28 (0, 0)) := heap_alloc_new w _
  exact World.news_of_block hb j u (by simpa using hj)

/-- Where the copy stands before its part j. -/
structure Cv (w : World) (n : Nat) (kd it ut : Int) (tx : ByteArray) (ks : List (Tr n)) (dl : Value) (j : Nat) (sl : Value) (xs : List Value) (wr : World) : Prop where
  b : Below w.heap.size w wr
  d : D5 wr w.heap.size (.int .i64 kd) (.int .i64 it) (.int .u64 ut) (.string tx) dl
  r : D5 wr (w.heap.size + 1) (.int .i64 0) (.int .i64 0) (.int .u64 0) (.string ⟨#[]⟩) (.slice none 0 0)
  c : D5 wr (w.heap.size + 1 + 1) (.int .i64 kd) (.int .i64 it) (.int .u64 ut) (.string tx) sl
  o : wr.ownsRow (w.heap.size + 3) 28 5 sl j xs
  k : ∀ (q : Nat) (t' : Tr n), q < j → ks[q]? = some t' → ∃ y0 y1 y2 y3 y4, xs[q * 5]? = some y0 ∧ xs[q * 5 + 1]? = some y1 ∧ xs[q * 5 + 2]? = some y2 ∧ xs[q * 5 + 3]? = some y3 ∧ xs[q * 5 + 4]? = some y4 ∧ Rf (fun g => w.heap.size + 3 ≤ g ∧ g < wr.heap.size ∧ some g ≠ sl.ownBlock) wr n [y0, y1, y2, y3, y4] t'
theorem Cv.below {w : World} {n : Nat} {kd it ut : Int} {tx : ByteArray} {ks : List (Tr n)} {dl : Value} {j : Nat} {sl : Value} {xs : List Value} {wr w' : World} (h : Cv w n kd it ut tx ks dl j sl xs wr) (hb : Below wr.heap.size wr w') : Cv w n kd it ut tx ks dl j sl xs w' := by
  refine ⟨h.b.trans (hb.mono h.b.size), h.d.below hb, h.r.below hb, h.c.below hb, ?_, fun q t' hq ht => ?_⟩
  · obtain ⟨o1, o2⟩ := h.o
    refine ⟨o1, ?_⟩
    rcases o2 with o2 | ⟨g, cap, cur, e1, e2, e3, e4⟩
    · exact .inl o2
    · exact .inr ⟨g, cap, cur, e1, e2, (hb.block g (Array.getElem?_eq_some_iff.1 e3).1).trans e3, e4⟩
  · obtain ⟨y0, y1, y2, y3, y4, c0, c1, c2, c3, c4, r⟩ := h.k q t' hq ht
    exact ⟨y0, y1, y2, y3, y4, c0, c1, c2, c3, c4, Rf.to (fun g hg => ⟨⟨hg.1, Nat.lt_of_lt_of_le hg.2.1 hb.size, hg.2.2⟩, hb.block g hg.2.1⟩) n _ _ r⟩
theorem Cv.own_lt {w : World} {n : Nat} {kd it ut : Int} {tx : ByteArray} {ks : List (Tr n)} {dl : Value} {j : Nat} {sl : Value} {xs : List Value} {wr : World} (h : Cv w n kd it ut tx ks dl j sl xs wr) (g : Nat) (hg : sl.ownBlock = some g) : w.heap.size + 3 ≤ g ∧ g < wr.heap.size := by
  rcases h.o.2 with ⟨e, -⟩ | ⟨g', cap, cur, e1, e2, e3, e4⟩
  · rw [e] at hg; cases hg
  · rw [e1] at hg
    have : g' = g := Option.some.inj hg
    subst this
    exact ⟨e2, (Array.getElem?_eq_some_iff.1 e3).1⟩
theorem Cv.app {w : World} {n : Nat} {kd it ut : Int} {tx : ByteArray} {ks : List (Tr n)} {dl : Value} {j : Nat} {sl : Value} {xs : List Value} {w2 w3 : World} (h : Cv w n kd it ut tx ks dl j sl xs w2) (gr : w2.grownBy w3 sl.ownBlock) :
    D5 w3 (w.heap.size + 1 + 1) (.int .i64 kd) (.int .i64 it) (.int .u64 ut) (.string tx) sl ∧ D5 w3 w.heap.size (.int .i64 kd) (.int .i64 it) (.int .u64 ut) (.string tx) dl ∧ Below w.heap.size w w3 := by
  have low : ∀ N, N < w.heap.size + 3 → some N ≠ sl.ownBlock := fun N hN e => by have := (h.own_lt N e.symm).1; omega
  exact ⟨h.c.kept_by gr (low _ (by omega)), h.d.kept_by gr (low _ (by omega)), h.b.grown gr h.b.size (fun k hk => by have := (h.own_lt k hk).1; omega)⟩
/-- One part more. -/
theorem Cv.step {w : World} {n : Nat} {kd it ut : Int} {tx : ByteArray} {ks : List (Tr n)} {dl : Value} {j : Nat} {sl : Value} {xs : List Value} {wr w1 w2 w3 : World} (h : Cv w n kd it ut tx ks dl j sl xs wr) (b1 : Below wr.heap.size wr w1) (b2 : Below w1.heap.size w1 w2)
    (x0 x1 x2 x3 x4 : Value) (tj : Tr n) (hj : ks[j]? = some tj) (rf : Rf (fun g => wr.heap.size ≤ g ∧ g < w1.heap.size) w1 n [x0, x1, x2, x3, x4] tj)
    (g : Nat) (cap : Nat) (own : w3.ownsRow (w.heap.size + 3) 28 5 (.slice (some ⟨g, 0, none⟩) (j + 1) cap) (j + 1) (xs ++ [x0, x1, x2, x3, x4])) (gr : w2.grownBy w3 sl.ownBlock) (at' : sl.ownBlock = some g ∨ g = w2.heap.size) :
    Cv w n kd it ut tx ks dl (j + 1) (.slice (some ⟨g, 0, none⟩) (j + 1) cap) (xs ++ [x0, x1, x2, x3, x4]) (w3.setCell ⟨w.heap.size + 1 + 1, 4, none⟩ (.slice (some ⟨g, 0, none⟩) (j + 1) cap)) := by
  have hc := h.c.lt
  have h2 := (h.below b1).below b2
  have hs1 := b1.size
  have hs2 := b2.size
  have hs3 := gr.size
  have low : ∀ N, N < w.heap.size + 3 → some N ≠ sl.ownBlock := fun N hN e => by have := (h.own_lt N e.symm).1; omega
  have blk : ∀ q, w.heap.size + 3 ≤ q → q < w2.heap.size → some q ≠ sl.ownBlock → (w3.setCell ⟨w.heap.size + 1 + 1, 4, none⟩ (.slice (some ⟨g, 0, none⟩) (j + 1) cap)).heap[q]? = w2.heap[q]? := fun q h1 h2 h3 =>
    (Below.heap_setCell w3 _ _ q (by show q ≠ w.heap.size + 1 + 1; omega)).trans (gr.block q h2 h3)
  have sz : (w3.setCell ⟨w.heap.size + 1 + 1, 4, none⟩ (.slice (some ⟨g, 0, none⟩) (j + 1) cap)).heap.size = w3.heap.size := by simp [World.setCell]
  have new : ∀ q, q < w2.heap.size → some q ≠ sl.ownBlock → some q ≠ (Value.slice (some ⟨g, 0, none⟩) (j + 1) cap).ownBlock := fun q h1 h2 e => by
    have : q = g := Option.some.inj e
    subst this
    rcases at' with e1 | e1
    · exact h2 e1.symm
    · omega
  have xl : xs.length = j * 5 := h.o.1
  refine ⟨?_, ?_, ?_, ?_, ?_, fun q t' hq ht => ?_⟩
  · refine (h2.b.grown gr h2.b.size (fun k hk => ?_)).setCell (by show w.heap.size ≤ w.heap.size + 1 + 1; omega) _
    have := (h.own_lt k hk).1; omega
  · exact (h2.d.kept_by gr (low _ (by omega))).set_other _ _ (by show w.heap.size ≠ w.heap.size + 1 + 1; omega)
  · exact (h2.r.kept_by gr (low _ (by omega))).set_other _ _ (by show w.heap.size + 1 ≠ w.heap.size + 1 + 1; omega)
  · exact (h2.c.kept_by gr (low _ (by omega))).put4 _
  · exact ownsRow_setCell_below own (by show w.heap.size + 1 + 1 < w.heap.size + 3; omega) _
  · by_cases hlt : q < j
    · obtain ⟨y0, y1, y2, y3, y4, c0, c1, c2, c3, c4, r⟩ := h2.k q t' hlt ht
      refine ⟨y0, y1, y2, y3, y4, ?_, ?_, ?_, ?_, ?_, Rf.to (fun k hk => ⟨⟨hk.1, by rw [sz]; omega, new k hk.2.1 hk.2.2⟩, blk k hk.1 hk.2.1 hk.2.2⟩) n _ _ r⟩
      all_goals rw [List.getElem?_append_left (by omega)]; assumption
    · have hqj : q = j := by omega
      subst hqj
      rw [hj] at ht
      obtain rfl := Option.some.inj ht
      have r2 : Rf (fun g => wr.heap.size ≤ g ∧ g < w1.heap.size) w2 n [x0, x1, x2, x3, x4] tj := Rf.to (fun k hk => ⟨hk, b2.block k hk.2⟩) n _ _ rf
      have fresh : ∀ k, wr.heap.size ≤ k → some k ≠ sl.ownBlock := fun k hk e => by have := (h.own_lt k e.symm).2; omega
      refine ⟨x0, x1, x2, x3, x4, ?_, ?_, ?_, ?_, ?_, Rf.to (fun k hk => ⟨⟨by omega, by rw [sz]; omega, new k (by omega) (fresh k hk.1)⟩, blk k (by omega) (by omega) (fresh k hk.1)⟩) n _ _ r2⟩
      all_goals (rw [List.getElem?_append_right (by omega), xl]; simp)
/-- What the finished copy is. -/
theorem Cv.done {w : World} {n : Nat} {t : Tr (n + 1)} {dl : Value} {sl : Value} {xs : List Value} {wr : World} (h : Cv w n t.kd t.it t.ut t.tx t.ks dl t.ks.length sl xs wr) (htx : t.tx.size ≤ maxLen) :
    ∃ ad cap, sl = .slice ad t.ks.length cap ∧ Rf (fun g => w.heap.size + 3 ≤ g ∧ g < wr.heap.size) wr (n + 1) [.int .i64 t.kd, .int .i64 t.it, .int .u64 t.ut, .string t.tx, .slice ad t.ks.length cap] t := by
  rcases h.o.2 with ⟨e, e0⟩ | ⟨g, cap, cur, e1, e2, e3, e4, e5, e6, e7⟩
  · have hk : t.ks = [] := List.length_eq_zero_iff.1 e0
    refine ⟨none, 0, by rw [e, e0], none, 0, rfl, htx, by omega, by unfold maxLen; omega, .inl hk⟩
  · refine ⟨some ⟨g, 0, none⟩, cap, e1, some ⟨g, 0, none⟩, cap, rfl, htx, e4, e5, .inr ⟨g, 0, rfl, ⟨⟨e2, (Array.getElem?_eq_some_iff.1 e3).1⟩, fun q => by simp [World.frozen?, e3]⟩, fun q t' ht => ?_⟩⟩
    have hq : q < t.ks.length := (List.getElem?_eq_some_iff.1 ht).1
    obtain ⟨y0, y1, y2, y3, y4, c0, c1, c2, c3, c4, r⟩ := h.k q t' hq ht
    have cl : ∀ (i : Nat) (u : Value), xs[i]? = some u → wr.cell? ⟨g, i, none⟩ = some u := fun i u hu => by
      have := h.o.cells (g := g) (by rw [e1]; rfl) i u hu
      have hadd : (⟨g, 0, none⟩ : Addr).add i = ⟨g, i, none⟩ := by unfold Addr.add; split <;> simp_all
      rwa [hadd] at this
    refine ⟨y0, y1, y2, y3, y4, ?_, ?_, ?_, ?_, ?_, Rf.to (fun k hk => ⟨⟨hk.1, hk.2.1⟩, rfl⟩) n _ _ r⟩
    · rw [Nat.zero_add]; exact cl _ _ c0
    · rw [Nat.zero_add]; exact cl _ _ c1
    · rw [Nat.zero_add]; exact cl _ _ c2
    · rw [Nat.zero_add]; exact cl _ _ c3
    · rw [Nat.zero_add]; exact cl _ _ c4
theorem Rf.shape {F : Nat → Prop} {w : World} {n : Nat} {v0 v1 v2 v3 v4 : Value} {t : Tr n} (h : Rf F w n [v0, v1, v2, v3, v4] t) : ∃ (k i u : Int) (s : ByteArray) (ad : Option Addr) (len cap : Nat), v0 = .int .i64 k ∧ v1 = .int .i64 i ∧ v2 = .int .u64 u ∧ v3 = .string s ∧ v4 = .slice ad len cap := rep_shape (Rf.rep n _ _ h)

set_option maxRecDepth 100000 in
set_option maxHeartbeats 2000000 in
theorem copy_any : ∀ (n : Nat) (t : Tr n) (v0 v1 v2 v3 v4 : Value) (w : World), Rep w n [v0, v1, v2, v3, v4] t → (pts n t).1 ≤ 4096 →
    Calls Try.prog 30 #[.agg #[v0, v1, v2, v3, v4]] w fun e w' => ∃ (k i u : Int) (s : ByteArray) (ad : Option Addr) (len cap : Nat), e = .returned (.agg #[.int .i64 k, .int .i64 i, .int .u64 u, .string s, .slice ad len cap]) ∧ Rf (fun g => w.heap.size ≤ g ∧ g < w'.heap.size) w' n [.int .i64 k, .int .i64 i, .int .u64 u, .string s, .slice ad len cap] t ∧ Below w.heap.size w w' := by
  intro n
  induction n with
  | zero => intro t; exact t.elim
  | succ n ih =>
    intro t v0 v1 v2 v3 v4 w hrep hps
    obtain ⟨hp1, hp2⟩ := pts_kids hps
    obtain ⟨ad, cap, e, htx, hlen, hcap, hk⟩ := hrep
    simp only [List.cons.injEq, and_true] at e
    obtain ⟨rfl, rfl, rfl, rfl, rfl⟩ := e
    obtain ⟨i0, hi, hz0, hz1, hz2⟩ := infoDat_parts
    have HI := Lib.hid ih
    have HK := Lib.hid hk
    have HP := Lib.hid hp2
    have HT := Lib.hid htx
    clear ih hk hp2 htx hps
    unfold maxLen at hcap
    have cv0 : Cv w n t.kd t.it t.ut t.tx t.ks (.slice ad t.ks.length cap) 0 (.slice none 0 0) [] (((w.alloc (.cells #[.int .i64 t.kd, .int .i64 t.it, .int .u64 t.ut, .string t.tx, .slice ad t.ks.length cap] 28)).alloc (.cells #[.int .i64 0, .int .i64 0, .int .u64 0, .string ⟨#[]⟩, .slice none 0 0] 28)).alloc (.cells #[.int .i64 t.kd, .int .i64 t.it, .int .u64 t.ut, .string t.tx, .slice none 0 0] 28)) := by
      refine ⟨(((Below.refl _ w).alloc (Nat.le_refl _) _).alloc (by simp) _).alloc (by simp; omega) _, ((D5.new w _ _ _ _ _).below (below1 _ _)).below (below1 _ _), ?_, ?_, World.ownsRow_nil _ _ _ _, fun q t' hq => absurd hq (Nat.not_lt_zero _)⟩
      · have := D5.new (w.alloc (.cells #[.int .i64 t.kd, .int .i64 t.it, .int .u64 t.ut, .string t.tx, .slice ad t.ks.length cap] 28)) (.int .i64 0) (.int .i64 0) (.int .u64 0) (.string ⟨#[]⟩) (.slice none 0 0)
        rw [World.size_alloc] at this
        exact this.below (below1 _ _)
      · have := D5.new ((w.alloc (.cells #[.int .i64 t.kd, .int .i64 t.it, .int .u64 t.ut, .string t.tx, .slice ad t.ks.length cap] 28)).alloc (.cells #[.int .i64 0, .int .i64 0, .int .u64 0, .string ⟨#[]⟩, .slice none 0 0] 28)) (.int .i64 t.kd) (.int .i64 t.it) (.int .u64 t.ut) (.string t.tx) (.slice none 0 0)
        rw [World.size_alloc, World.size_alloc] at this
        exact this
    go_enter Try.func30, Try.ntmps30
    go_wp2_with fail
    go_loopw [10] (fun si wr => ∃ (j : Nat) (sl : Value) (xs : List Value), si = .int .i64 j ∧ j ≤ t.ks.length ∧ Cv w n t.kd t.it t.ut t.tx t.ks (.slice ad t.ks.length cap) j sl xs wr) (fun si _ => t.ks.length - (intOf si).toNat)
    case atStart => exact ⟨0, _, [], rfl, Nat.zero_le _, cv0⟩
    case round =>
      obtain ⟨j, sl, xs, rfl, hj, cv⟩ := hrel
      clear cv0
      have hsz : w.heap.size + 1 + 1 < wr.heap.size := cv.c.lt
      by_cases hlt : j < t.ks.length
      · have hne : t.ks ≠ [] := by intro e; rw [e] at hlt; exact absurd hlt (Nat.not_lt_zero _)
        rcases HK.out with hk | ⟨g, o, hk1, hk2⟩
        · exact absurd hk hne
        subst hk1
        obtain ⟨v0, v1, v2, v3, v4, e0, e1, e2, e3, e4, rk⟩ := hk2 j _ (List.getElem?_eq_getElem hlt)
        obtain ⟨u0, u1, u2, u3, a4, n4, c4', rfl, rfl, rfl, rfl, rfl⟩ := rep_shape rk
        have hg : g < w.heap.size := World.block_lt_of_cell? w _ e0
        have bw := cv.b
        have KS : Hid (∀ w' : World, Cv w n t.kd t.it t.ut t.tx t.ks (.slice (some ⟨g, o, none⟩) t.ks.length cap) j sl xs w' → w'.cell? ⟨w.heap.size, 4, none⟩ = some (.slice (some ⟨g, o, none⟩) t.ks.length cap) ∧ w'.cell? ⟨g, o + j * 5, none⟩ = some (.int .i64 u0) ∧ w'.cell? ⟨g, o + j * 5 + 1, none⟩ = some (.int .i64 u1) ∧ w'.cell? ⟨g, o + j * 5 + 2, none⟩ = some (.int .u64 u2) ∧ w'.cell? ⟨g, o + j * 5 + 3, none⟩ = some (.string u3) ∧ w'.cell? ⟨g, o + j * 5 + 4, none⟩ = some (.slice a4 n4 c4')) := fun w' h =>
          ⟨h.d.c.2.2.2.2, (h.b.cell (p := ⟨g, o + j * 5, none⟩) hg).trans e0, (h.b.cell (p := ⟨g, o + j * 5 + 1, none⟩) hg).trans e1, (h.b.cell (p := ⟨g, o + j * 5 + 2, none⟩) hg).trans e2, (h.b.cell (p := ⟨g, o + j * 5 + 3, none⟩) hg).trans e3, (h.b.cell (p := ⟨g, o + j * 5 + 4, none⟩) hg).trans e4⟩
        have KC : Hid (Calls Try.prog 30 #[.agg #[.int .i64 u0, .int .i64 u1, .int .u64 u2, .string u3, .slice a4 n4 c4']] wr.drew fun e w' => ∃ (k i u : Int) (s : ByteArray) (ad' : Option Addr) (len' cap' : Nat), e = .returned (.agg #[.int .i64 k, .int .i64 i, .int .u64 u, .string s, .slice ad' len' cap']) ∧ Hid (Rf (fun g => wr.heap.size ≤ g ∧ g < w'.heap.size) w' n [.int .i64 k, .int .i64 i, .int .u64 u, .string s, .slice ad' len' cap'] t.ks[j]) ∧ Hid (Below wr.heap.size wr w') ∧ Cv w n t.kd t.it t.ut t.tx t.ks (.slice (some ⟨g, o, none⟩) t.ks.length cap) j sl xs w') :=
          (HI.out t.ks[j] _ _ _ _ _ wr.drew (Rep.below (bw.drew.mono (Nat.le_refl _)) n _ _ rk) (HP.out _ (List.getElem_mem hlt))).mono fun e w' ⟨k, i, u, s, ad', len', cap', he, rf, hb'⟩ => ⟨k, i, u, s, ad', len', cap', he, rf, (Below.drew (Below.refl _ wr)).trans hb', cv.below ((Below.drew (Below.refl _ wr)).trans hb')⟩
        have cl0 := cv.c.c.2.2.2.2
        obtain ⟨cd0, y0, y1, y2, y3, y4⟩ := KS.out _ cv
        have hjl : (0 : Int) ≤ j ∧ (j : Int) < t.ks.length := by omega
        clear e0 e1 e2 e3 e4 hk2 HK rk
        go_wp2_with fail
        go_region_law (first | (refine step_append_lies _ rfl _ _ 26 rfl (w.heap.size + 3) 28 i0 (.agg #[.int .i64 0, .int .i64 0, .int .u64 0, .string ⟨#[]⟩, .slice none 0 0]) 5 64 Try.underlying26 hi hz0 hz1 hz2 rfl (by decide) sl j xs (by simp [Act.eval]) (cv1.o.alloc _) ⟨w1.heap.size, 0, none⟩ 1 1 [.int .i64 k, .int .i64 i, .int .u64 u, .string s, .slice ad' len' cap'] (by simp [Act.eval]) rfl (five_one _ _ _ _ _ _) (by intro u hu; simp at hu; rcases hu with rfl | rfl | rfl | rfl | rfl <;> rfl) (by decide) (by unfold maxLen; omega) (by omega) (by have := cv1.c.lt; simp; omega) _ rfl ?_; intro g' cap2 w3 own3 gr3 at3 lt3; obtain ⟨d3, -, -⟩ := (cv1.below (below1 _ _)).app gr3; have fz3 := d3.f (o := 4); have cl3 := d3.c.2.2.2.2) | (go_simp; go_at_call 30; refine KC.out.mono ?_; rintro e w1 ⟨k, i, u, s, ad', len', cap', rfl, rf, hb', cv1⟩; have cl1 := cv1.c.c.2.2.2.2; have hl1 := cv1.c.lt))
        all_goals go_wp2_with fail
        all_goals exact ⟨⟨j + 1, _, _, by go_num, by omega, cv.step hb'.out (below1 _ _) _ _ _ _ _ t.ks[j] (List.getElem?_eq_getElem hlt) rf.out g' cap2 own3 gr3 at3⟩, by simp [intOf]; omega⟩
      · have hje : j = t.ks.length := by omega
        subst hje
        obtain ⟨ad', cap', rfl, rfF⟩ := cv.done HT.out
        have cc := cv.c.c
        have cr := cv.r.c
        have f0 := cv.r.f (o := 0)
        have f1 := cv.r.f (o := 1)
        have f2 := cv.r.f (o := 2)
        have f3 := cv.r.f (o := 3)
        have f4 := cv.r.f (o := 4)
        go_wp2_with fail
        have dr := cv.r.set (.int .i64 t.kd) (.int .i64 t.it) (.int .u64 t.ut) (.string t.tx) (.slice ad' t.ks.length cap')
        obtain ⟨r0, r1, r2, r3, r4⟩ := dr.c
        have hlow : w.heap.size ≤ w.heap.size + 1 := by omega
        have FB : Hid (∃ (k i u : Int) (s : ByteArray) (ad : Option Addr) (len cap : Nat), Ending.returned (.agg #[.int .i64 t.kd, .int .i64 t.it, .int .u64 t.ut, .string t.tx, .slice ad' t.ks.length cap']) = .returned (.agg #[.int .i64 k, .int .i64 i, .int .u64 u, .string s, .slice ad len cap]) ∧ Rf (fun g => w.heap.size ≤ g ∧ g < (((((wr.setCell ⟨w.heap.size + 1, 0, none⟩ (.int .i64 t.kd)).setCell ⟨w.heap.size + 1, 1, none⟩ (.int .i64 t.it)).setCell ⟨w.heap.size + 1, 2, none⟩ (.int .u64 t.ut)).setCell ⟨w.heap.size + 1, 3, none⟩ (.string t.tx)).setCell ⟨w.heap.size + 1, 4, none⟩ (.slice ad' t.ks.length cap')).heap.size) (((((wr.setCell ⟨w.heap.size + 1, 0, none⟩ (.int .i64 t.kd)).setCell ⟨w.heap.size + 1, 1, none⟩ (.int .i64 t.it)).setCell ⟨w.heap.size + 1, 2, none⟩ (.int .u64 t.ut)).setCell ⟨w.heap.size + 1, 3, none⟩ (.string t.tx)).setCell ⟨w.heap.size + 1, 4, none⟩ (.slice ad' t.ks.length cap')) (n + 1) [.int .i64 k, .int .i64 i, .int .u64 u, .string s, .slice ad len cap] t ∧ Below w.heap.size w (((((wr.setCell ⟨w.heap.size + 1, 0, none⟩ (.int .i64 t.kd)).setCell ⟨w.heap.size + 1, 1, none⟩ (.int .i64 t.it)).setCell ⟨w.heap.size + 1, 2, none⟩ (.int .u64 t.ut)).setCell ⟨w.heap.size + 1, 3, none⟩ (.string t.tx)).setCell ⟨w.heap.size + 1, 4, none⟩ (.slice ad' t.ks.length cap'))) := by
          refine ⟨_, _, _, _, _, _, _, rfl, Rf.to (fun g hg => ⟨⟨by omega, by simpa [World.setCell] using hg.2⟩, ?_⟩) _ _ _ rfF, ((((cv.b.setCell hlow _).setCell hlow _).setCell hlow _).setCell hlow _).setCell hlow _⟩
          have ne : g ≠ w.heap.size + 1 := by omega
          exact (Below.heap_setCell _ _ _ g ne).trans ((Below.heap_setCell _ _ _ g ne).trans ((Below.heap_setCell _ _ _ g ne).trans ((Below.heap_setCell _ _ _ g ne).trans (Below.heap_setCell _ _ _ g ne))))
        exact bodyPost_ret (v := .agg #[.int .i64 t.kd, .int .i64 t.it, .int .u64 t.ut, .string t.tx, .slice ad' t.ks.length cap']) (by simp [results, Try.results30, go_sem, r0, r1, r2, r3, r4]) rfl FB.out
end Go.Proofs.Ytdgjhclncjoonaa.Dt
