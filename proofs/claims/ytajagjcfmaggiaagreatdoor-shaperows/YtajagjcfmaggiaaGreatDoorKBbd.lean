/- The document's Copy of a value's tree: the same tree in new blocks; the conditions: the tree in memory, of 4096 parts at most. -/
import Derived.Deep.AppendLies
import Derived.Deep.RegionLaw
import Derived.Deep.RegionHeld3
import Derived.Test.YtajagjcfmaggiaaGreatDoorKBbc
import Derived.Test.YtajagjcfmaggiaaGreatDoorKBaf
import Derived.Test.YtajagjcfmaggiaaGreatDoorKBad
import Derived.Laws.FloatArith
import Derived.Test.YtajagjcfmaggiaaGreatDoorKBbb
import Derived.Test.YtajagjcfmaggiaaGreatDoorKBaa
import Derived.Test.YtajagjcfmaggiaaGreatDoorKBab
import Derived.Test.YtajagjcfmaggiaaGreatDoorShelf
import Derived.Lib.AppendIntMem
import Derived.Lib.ItoaLen
import Derived.Test.YtajagjcfmaggiaaGreatDoorKBac
namespace Go.Proofs.YtajagjcfmaggiaaGreatDoor.Dt
open Go.RowKit

theorem set_blk {w : World} {N o : Nat} {cs : Array Value} (h : w.heap[N]? = some (.cells cs 25 (0, 0))) (v : Value) : (w.setCell ⟨N, o, none⟩ v).heap[N]? = some (.cells (cs.setIfInBounds o v) 25 (0, 0)) := by
  simp [World.setCell, Array.getElem?_modify, h]
theorem D5.set {w : World} {N : Nat} {v0 v1 v2 v3 v4 : Value} (h : D5 w N v0 v1 v2 v3 v4) (u0 u1 u2 u3 u4 : Value) :
    D5 (((((w.setCell ⟨N, 0, none⟩ u0).setCell ⟨N, 1, none⟩ u1).setCell ⟨N, 2, none⟩ u2).setCell ⟨N, 3, none⟩ u3).setCell ⟨N, 4, none⟩ u4) N u0 u1 u2 u3 u4 :=
  set_blk (set_blk (set_blk (set_blk (set_blk h u0) u1) u2) u3) u4
theorem D5.put4 {w : World} {N : Nat} {v0 v1 v2 v3 v4 : Value} (h : D5 w N v0 v1 v2 v3 v4) (x : Value) : D5 (w.setCell ⟨N, 4, none⟩ x) N v0 v1 v2 v3 x := by
  unfold D5 at *; simp [World.setCell, Array.getElem?_modify, h]
theorem D5.set_other {w : World} {N : Nat} {v0 v1 v2 v3 v4 : Value} (h : D5 w N v0 v1 v2 v3 v4) (a : Addr) (x : Value) (hne : N ≠ a.block) : D5 (w.setCell a x) N v0 v1 v2 v3 v4 := (Below.heap_setCell w a x N hne).trans h
theorem D5.kept_by {w w' : World} {N : Nat} {row : Option Nat} {v0 v1 v2 v3 v4 : Value} (h : D5 w N v0 v1 v2 v3 v4) (hg : w.grownBy w' row) (hne : some N ≠ row) : D5 w' N v0 v1 v2 v3 v4 := (hg.block N h.lt hne).trans h
theorem five_one (w : World) (v0 v1 v2 v3 v4 : Value) : ∀ (j : Nat) (u : Value), [v0, v1, v2, v3, v4][j]? = some u → (w.alloc (.cells #[v0, v1, v2, v3, v4] 25)).cell? ((⟨w.heap.size, 0, none⟩ : Addr).add j) = some u := by
  intro j u hj
  have hb : (w.alloc (.cells #[v0, v1, v2, v3, v4] 25)).heap[w.heap.size]? = some (.cells #[v0, v1, v2, v3, v4] 25 (0, 0)) := heap_alloc_new w _
  exact World.news_of_block hb j u (by simpa using hj)

/-- Where the copy stands before its part j. -/
structure Cv (w : World) (n : Nat) (kd it ut : Int) (tx : ByteArray) (ks : List (Tr n)) (dl : Value) (j : Nat) (sl : Value) (xs : List Value) (wr : World) : Prop where
  b : Below w.heap.size w wr
  d : D5 wr w.heap.size (.int .i64 kd) (.int .i64 it) (.int .u64 ut) (.string tx) dl
  r : D5 wr (w.heap.size + 1) (.int .i64 0) (.int .i64 0) (.int .u64 0) (.string ⟨#[]⟩) (.slice none 0 0)
  c : D5 wr (w.heap.size + 1 + 1) (.int .i64 kd) (.int .i64 it) (.int .u64 ut) (.string tx) sl
  o : wr.ownsRow (w.heap.size + 3) 25 5 sl j xs
  k : ∀ (q : Nat) (t' : Tr n), q < j → ks[q]? = some t' → ∃ y0 y1 y2 y3 y4, xs[q * 5]? = some y0 ∧ xs[q * 5 + 1]? = some y1 ∧ xs[q * 5 + 2]? = some y2 ∧ xs[q * 5 + 3]? = some y3 ∧ xs[q * 5 + 4]? = some y4 ∧ Rf (fun g => w.heap.size + 3 ≤ g ∧ g < wr.heap.size ∧ some g ≠ sl.ownBlock) wr n [y0, y1, y2, y3, y4] t'
theorem Cv.below {w : World} {n : Nat} {kd it ut : Int} {tx : ByteArray} {ks : List (Tr n)} {dl : Value} {j : Nat} {sl : Value} {xs : List Value} {wr w' : World} (h : Cv w n kd it ut tx ks dl j sl xs wr) (hb : Below wr.heap.size wr w') : Cv w n kd it ut tx ks dl j sl xs w' := by
  refine ⟨h.b.trans (hb.mono h.b.size), h.d.below hb, h.r.below hb, h.c.below hb, ?_, fun q t' hq ht => ?_⟩
  · obtain ⟨o1, o2⟩ := h.o
    refine ⟨o1, ?_⟩
    rcases o2 with o2 | ⟨g, cap, cur, e1, e2, e3, e4⟩
    · exact .inl o2
    · exact .inr ⟨g, cap, cur, e1, e2, (hb.block g (Array.getElem?_eq_some_iff.1 e3).1).trans e3, e4⟩
  · obtain ⟨y0, y1, y2, y3, y4, c0, c1, c2, c3, c4, r⟩ := h.k q t' hq ht
    exact ⟨y0, y1, y2, y3, y4, c0, c1, c2, c3, c4, Rf.to (fun g hg => ⟨⟨hg.1, Nat.lt_of_lt_of_le hg.2.1 hb.size, hg.2.2⟩, hb.block g hg.2.1⟩) n _ _ r⟩
theorem Cv.own_lt {w : World} {n : Nat} {kd it ut : Int} {tx : ByteArray} {ks : List (Tr n)} {dl : Value} {j : Nat} {sl : Value} {xs : List Value} {wr : World} (h : Cv w n kd it ut tx ks dl j sl xs wr) (g : Nat) (hg : sl.ownBlock = some g) : w.heap.size + 3 ≤ g ∧ g < wr.heap.size := by
  rcases h.o.2 with ⟨e, -⟩ | ⟨g', cap, cur, e1, e2, e3, e4⟩
  · rw [e] at hg; cases hg
  · rw [e1] at hg
    have : g' = g := Option.some.inj hg
    subst this
    exact ⟨e2, (Array.getElem?_eq_some_iff.1 e3).1⟩
theorem Cv.app {w : World} {n : Nat} {kd it ut : Int} {tx : ByteArray} {ks : List (Tr n)} {dl : Value} {j : Nat} {sl : Value} {xs : List Value} {w2 w3 : World} (h : Cv w n kd it ut tx ks dl j sl xs w2) (gr : w2.grownBy w3 sl.ownBlock) :
    D5 w3 (w.heap.size + 1 + 1) (.int .i64 kd) (.int .i64 it) (.int .u64 ut) (.string tx) sl ∧ D5 w3 w.heap.size (.int .i64 kd) (.int .i64 it) (.int .u64 ut) (.string tx) dl ∧ Below w.heap.size w w3 := by
  have low : ∀ N, N < w.heap.size + 3 → some N ≠ sl.ownBlock := fun N hN e => by have := (h.own_lt N e.symm).1; omega
  exact ⟨h.c.kept_by gr (low _ (by omega)), h.d.kept_by gr (low _ (by omega)), h.b.grown gr h.b.size (fun k hk => by have := (h.own_lt k hk).1; omega)⟩
/-- One part more. -/
theorem Cv.step {w : World} {n : Nat} {kd it ut : Int} {tx : ByteArray} {ks : List (Tr n)} {dl : Value} {j : Nat} {sl : Value} {xs : List Value} {wr w1 w2 w3 : World} (h : Cv w n kd it ut tx ks dl j sl xs wr) (b1 : Below wr.heap.size wr w1) (b2 : Below w1.heap.size w1 w2)
    (x0 x1 x2 x3 x4 : Value) (tj : Tr n) (hj : ks[j]? = some tj) (rf : Rf (fun g => wr.heap.size ≤ g ∧ g < w1.heap.size) w1 n [x0, x1, x2, x3, x4] tj)
    (g : Nat) (cap : Nat) (own : w3.ownsRow (w.heap.size + 3) 25 5 (.slice (some ⟨g, 0, none⟩) (j + 1) cap) (j + 1) (xs ++ [x0, x1, x2, x3, x4])) (gr : w2.grownBy w3 sl.ownBlock) (at' : sl.ownBlock = some g ∨ g = w2.heap.size) :
    Cv w n kd it ut tx ks dl (j + 1) (.slice (some ⟨g, 0, none⟩) (j + 1) cap) (xs ++ [x0, x1, x2, x3, x4]) (w3.setCell ⟨w.heap.size + 1 + 1, 4, none⟩ (.slice (some ⟨g, 0, none⟩) (j + 1) cap)) := by
  have hc := h.c.lt
  have h2 := (h.below b1).below b2
  have hs1 := b1.size
  have hs2 := b2.size
  have hs3 := gr.size
  have low : ∀ N, N < w.heap.size + 3 → some N ≠ sl.ownBlock := fun N hN e => by have := (h.own_lt N e.symm).1; omega
  have blk : ∀ q, w.heap.size + 3 ≤ q → q < w2.heap.size → some q ≠ sl.ownBlock → (w3.setCell ⟨w.heap.size + 1 + 1, 4, none⟩ (.slice (some ⟨g, 0, none⟩) (j + 1) cap)).heap[q]? = w2.heap[q]? := fun q h1 h2 h3 =>
    (Below.heap_setCell w3 _ _ q (by show q ≠ w.heap.size + 1 + 1; omega)).trans (gr.block q h2 h3)
  have sz : (w3.setCell ⟨w.heap.size + 1 + 1, 4, none⟩ (.slice (some ⟨g, 0, none⟩) (j + 1) cap)).heap.size = w3.heap.size := by simp [World.setCell]
  have new : ∀ q, q < w2.heap.size → some q ≠ sl.ownBlock → some q ≠ (Value.slice (some ⟨g, 0, none⟩) (j + 1) cap).ownBlock := fun q h1 h2 e => by
    have : q = g := Option.some.inj e
    subst this
    rcases at' with e1 | e1
    · exact h2 e1.symm
    · omega
  have xl : xs.length = j * 5 := h.o.1
  refine ⟨?_, ?_, ?_, ?_, ?_, fun q t' hq ht => ?_⟩
  · refine (h2.b.grown gr h2.b.size (fun k hk => ?_)).setCell (by show w.heap.size ≤ w.heap.size + 1 + 1; omega) _
    have := (h.own_lt k hk).1; omega
  · exact (h2.d.kept_by gr (low _ (by omega))).set_other _ _ (by show w.heap.size ≠ w.heap.size + 1 + 1; omega)
  · exact (h2.r.kept_by gr (low _ (by omega))).set_other _ _ (by show w.heap.size + 1 ≠ w.heap.size + 1 + 1; omega)
  · exact (h2.c.kept_by gr (low _ (by omega))).put4 _
  · exact ownsRow_setCell_below own (by show w.heap.size + 1 + 1 < w.heap.size + 3; omega) _
  · by_cases hlt : q < j
    · obtain ⟨y0, y1, y2, y3, y4, c0, c1, c2, c3, c4, r⟩ := h2.k q t' hlt ht
      refine ⟨y0, y1, y2, y3, y4, ?_, ?_, ?_, ?_, ?_, Rf.to (fun k hk => ⟨⟨hk.1, by rw [sz]; omega, new k hk.2.1 hk.2.2⟩, blk k hk.1 hk.2.1 hk.2.2⟩) n _ _ r⟩
      all_goals rw [List.getElem?_append_left (by omega)]; assumption
    · have hqj : q = j := by omega
      subst hqj
      rw [hj] at ht
      obtain rfl := Option.some.inj ht
      have r2 : Rf (fun g => wr.heap.size ≤ g ∧ g < w1.heap.size) w2 n [x0, x1, x2, x3, x4] tj := Rf.to (fun k hk => ⟨hk, b2.block k hk.2⟩) n _ _ rf
      have fresh : ∀ k, wr.heap.size ≤ k → some k ≠ sl.ownBlock := fun k hk e => by have := (h.own_lt k e.symm).2; omega
      refine ⟨x0, x1, x2, x3, x4, ?_, ?_, ?_, ?_, ?_, Rf.to (fun k hk => ⟨⟨by omega, by rw [sz]; omega, new k (by omega) (fresh k hk.1)⟩, blk k (by omega) (by omega) (fresh k hk.1)⟩) n _ _ r2⟩
      all_goals (rw [List.getElem?_append_right (by omega), xl]; simp)
/-- What the finished copy is. -/
theorem Cv.done {w : World} {n : Nat} {t : Tr (n + 1)} {dl : Value} {sl : Value} {xs : List Value} {wr : World} (h : Cv w n t.kd t.it t.ut t.tx t.ks dl t.ks.length sl xs wr) (htx : t.tx.size ≤ maxLen) :
    ∃ ad cap, sl = .slice ad t.ks.length cap ∧ Rf (fun g => w.heap.size + 3 ≤ g ∧ g < wr.heap.size) wr (n + 1) [.int .i64 t.kd, .int .i64 t.it, .int .u64 t.ut, .string t.tx, .slice ad t.ks.length cap] t := by
  rcases h.o.2 with ⟨e, e0⟩ | ⟨g, cap, cur, e1, e2, e3, e4, e5, e6, e7⟩
  · have hk : t.ks = [] := List.length_eq_zero_iff.1 e0
    refine ⟨none, 0, by rw [e, e0], none, 0, rfl, htx, by omega, by unfold maxLen; omega, .inl hk⟩
  · refine ⟨some ⟨g, 0, none⟩, cap, e1, some ⟨g, 0, none⟩, cap, rfl, htx, e4, e5, .inr ⟨g, 0, rfl, ⟨⟨e2, (Array.getElem?_eq_some_iff.1 e3).1⟩, fun q => by simp [World.frozen?, e3]⟩, fun q t' ht => ?_⟩⟩
    have hq : q < t.ks.length := (List.getElem?_eq_some_iff.1 ht).1
    obtain ⟨y0, y1, y2, y3, y4, c0, c1, c2, c3, c4, r⟩ := h.k q t' hq ht
    have cl : ∀ (i : Nat) (u : Value), xs[i]? = some u → wr.cell? ⟨g, i, none⟩ = some u := fun i u hu => by
      have := h.o.cells (g := g) (by rw [e1]; rfl) i u hu
      have hadd : (⟨g, 0, none⟩ : Addr).add i = ⟨g, i, none⟩ := by unfold Addr.add; split <;> simp_all
      rwa [hadd] at this
    refine ⟨y0, y1, y2, y3, y4, ?_, ?_, ?_, ?_, ?_, Rf.to (fun k hk => ⟨⟨hk.1, hk.2.1⟩, rfl⟩) n _ _ r⟩
    · rw [Nat.zero_add]; exact cl _ _ c0
    · rw [Nat.zero_add]; exact cl _ _ c1
    · rw [Nat.zero_add]; exact cl _ _ c2
    · rw [Nat.zero_add]; exact cl _ _ c3
    · rw [Nat.zero_add]; exact cl _ _ c4
set_option maxRecDepth 100000 in
set_option maxHeartbeats 2000000 in
theorem copy_any : ∀ (n : Nat) (t : Tr n) (v0 v1 v2 v3 v4 : Value) (w : World), Rep w n [v0, v1, v2, v3, v4] t → (pts n t).1 ≤ 4096 →
    Calls Tryz.prog 9 #[.agg #[v0, v1, v2, v3, v4]] w fun e w' => ∃ (k i u : Int) (s : ByteArray) (ad : Option Addr) (len cap : Nat), e = .returned (.agg #[.int .i64 k, .int .i64 i, .int .u64 u, .string s, .slice ad len cap]) ∧ Rf (fun g => w.heap.size ≤ g ∧ g < w'.heap.size) w' n [.int .i64 k, .int .i64 i, .int .u64 u, .string s, .slice ad len cap] t ∧ Below w.heap.size w w' := by
  intro n
  induction n with
  | zero => intro t; exact t.elim
  | succ n ih =>
    intro t v0 v1 v2 v3 v4 w hrep hps
    obtain ⟨hp1, hp2⟩ := pts_kids hps
    obtain ⟨ad, cap, e, htx, hlen, hcap, hk⟩ := hrep
    simp only [List.cons.injEq, and_true] at e
    obtain ⟨rfl, rfl, rfl, rfl, rfl⟩ := e
    obtain ⟨i0, hi, hz0, hz1, hz2⟩ := infoDat_parts
    have HI := Lib.hid ih
    have HK := Lib.hid hk
    have HP := Lib.hid hp2
    have HT := Lib.hid htx
    clear ih hk hp2 htx hps
    unfold maxLen at hcap
    have cv0 : Cv w n t.kd t.it t.ut t.tx t.ks (.slice ad t.ks.length cap) 0 (.slice none 0 0) [] (((w.alloc (.cells #[.int .i64 t.kd, .int .i64 t.it, .int .u64 t.ut, .string t.tx, .slice ad t.ks.length cap] 25)).alloc (.cells #[.int .i64 0, .int .i64 0, .int .u64 0, .string ⟨#[]⟩, .slice none 0 0] 25)).alloc (.cells #[.int .i64 t.kd, .int .i64 t.it, .int .u64 t.ut, .string t.tx, .slice none 0 0] 25)) := by
      refine ⟨(((Below.refl _ w).alloc (Nat.le_refl _) _).alloc (by simp) _).alloc (by simp; omega) _, ((D5.new w _ _ _ _ _).below (below1 _ _)).below (below1 _ _), ?_, ?_, World.ownsRow_nil _ _ _ _, fun q t' hq => absurd hq (Nat.not_lt_zero _)⟩
      · have := D5.new (w.alloc (.cells #[.int .i64 t.kd, .int .i64 t.it, .int .u64 t.ut, .string t.tx, .slice ad t.ks.length cap] 25)) (.int .i64 0) (.int .i64 0) (.int .u64 0) (.string ⟨#[]⟩) (.slice none 0 0)
        rw [World.size_alloc] at this
        exact this.below (below1 _ _)
      · have := D5.new ((w.alloc (.cells #[.int .i64 t.kd, .int .i64 t.it, .int .u64 t.ut, .string t.tx, .slice ad t.ks.length cap] 25)).alloc (.cells #[.int .i64 0, .int .i64 0, .int .u64 0, .string ⟨#[]⟩, .slice none 0 0] 25)) (.int .i64 t.kd) (.int .i64 t.it) (.int .u64 t.ut) (.string t.tx) (.slice none 0 0)
        rw [World.size_alloc, World.size_alloc] at this
        exact this
    go_enter Tryz.func9, Tryz.ntmps9
    go_wp2_with fail
    go_loopw [10] (fun si wr => ∃ (j : Nat) (sl : Value) (xs : List Value), si = .int .i64 j ∧ j ≤ t.ks.length ∧ Cv w n t.kd t.it t.ut t.tx t.ks (.slice ad t.ks.length cap) j sl xs wr) (fun si _ => t.ks.length - (intOf si).toNat)
    case atStart => exact ⟨0, _, [], rfl, Nat.zero_le _, cv0⟩
    case round =>
      obtain ⟨j, sl, xs, rfl, hj, cv⟩ := hrel
      clear cv0
      have hsz : w.heap.size + 1 + 1 < wr.heap.size := cv.c.lt
      by_cases hlt : j < t.ks.length
      · have hne : t.ks ≠ [] := by intro e; rw [e] at hlt; exact absurd hlt (Nat.not_lt_zero _)
        rcases HK.out with hk | ⟨g, o, hk1, hk2⟩
        · exact absurd hk hne
        subst hk1
        obtain ⟨v0, v1, v2, v3, v4, e0, e1, e2, e3, e4, rk⟩ := hk2 j _ (List.getElem?_eq_getElem hlt)
        obtain ⟨u0, u1, u2, u3, a4, n4, c4', rfl, rfl, rfl, rfl, rfl⟩ := rep_shape rk
        have hg : g < w.heap.size := World.block_lt_of_cell? w _ e0
        have bw := cv.b
        have KS : Hid (∀ w' : World, Cv w n t.kd t.it t.ut t.tx t.ks (.slice (some ⟨g, o, none⟩) t.ks.length cap) j sl xs w' → w'.cell? ⟨w.heap.size, 4, none⟩ = some (.slice (some ⟨g, o, none⟩) t.ks.length cap) ∧ w'.cell? ⟨g, o + j * 5, none⟩ = some (.int .i64 u0) ∧ w'.cell? ⟨g, o + j * 5 + 1, none⟩ = some (.int .i64 u1) ∧ w'.cell? ⟨g, o + j * 5 + 2, none⟩ = some (.int .u64 u2) ∧ w'.cell? ⟨g, o + j * 5 + 3, none⟩ = some (.string u3) ∧ w'.cell? ⟨g, o + j * 5 + 4, none⟩ = some (.slice a4 n4 c4')) := fun w' h =>
          ⟨h.d.c.2.2.2.2, (h.b.cell (p := ⟨g, o + j * 5, none⟩) hg).trans e0, (h.b.cell (p := ⟨g, o + j * 5 + 1, none⟩) hg).trans e1, (h.b.cell (p := ⟨g, o + j * 5 + 2, none⟩) hg).trans e2, (h.b.cell (p := ⟨g, o + j * 5 + 3, none⟩) hg).trans e3, (h.b.cell (p := ⟨g, o + j * 5 + 4, none⟩) hg).trans e4⟩
        have KC : Hid (Calls Tryz.prog 9 #[.agg #[.int .i64 u0, .int .i64 u1, .int .u64 u2, .string u3, .slice a4 n4 c4']] wr.drew fun e w' => ∃ (k i u : Int) (s : ByteArray) (ad' : Option Addr) (len' cap' : Nat), e = .returned (.agg #[.int .i64 k, .int .i64 i, .int .u64 u, .string s, .slice ad' len' cap']) ∧ Hid (Rf (fun g => wr.heap.size ≤ g ∧ g < w'.heap.size) w' n [.int .i64 k, .int .i64 i, .int .u64 u, .string s, .slice ad' len' cap'] t.ks[j]) ∧ Hid (Below wr.heap.size wr w') ∧ Cv w n t.kd t.it t.ut t.tx t.ks (.slice (some ⟨g, o, none⟩) t.ks.length cap) j sl xs w') :=
          (HI.out t.ks[j] _ _ _ _ _ wr.drew (Rep.below (bw.drew.mono (Nat.le_refl _)) n _ _ rk) (HP.out _ (List.getElem_mem hlt))).mono fun e w' ⟨k, i, u, s, ad', len', cap', he, rf, hb'⟩ => ⟨k, i, u, s, ad', len', cap', he, rf, (Below.drew (Below.refl _ wr)).trans hb', cv.below ((Below.drew (Below.refl _ wr)).trans hb')⟩
        have cl0 := cv.c.c.2.2.2.2
        obtain ⟨cd0, y0, y1, y2, y3, y4⟩ := KS.out _ cv
        have hjl : (0 : Int) ≤ j ∧ (j : Int) < t.ks.length := by omega
        clear e0 e1 e2 e3 e4 hk2 HK rk
        go_wp2_with fail
        go_region_law (first | (refine step_append_lies _ rfl _ _ 23 rfl (w.heap.size + 3) 25 i0 (.agg #[.int .i64 0, .int .i64 0, .int .u64 0, .string ⟨#[]⟩, .slice none 0 0]) 5 64 Tryz.underlying23 hi hz0 hz1 hz2 rfl (by decide) sl j xs (by simp [Act.eval]) (cv1.o.alloc _) ⟨w1.heap.size, 0, none⟩ 1 1 [.int .i64 k, .int .i64 i, .int .u64 u, .string s, .slice ad' len' cap'] (by simp [Act.eval]) rfl (five_one _ _ _ _ _ _) (by intro u hu; simp at hu; rcases hu with rfl | rfl | rfl | rfl | rfl <;> rfl) (by decide) (by unfold maxLen; omega) (by omega) (by have := cv1.c.lt; simp; omega) _ rfl ?_; intro g' cap2 w3 own3 gr3 at3 lt3; obtain ⟨d3, -, -⟩ := (cv1.below (below1 _ _)).app gr3; have fz3 := d3.f (o := 4); have cl3 := d3.c.2.2.2.2) | (go_simp; go_at_call 9; refine KC.out.mono ?_; rintro e w1 ⟨k, i, u, s, ad', len', cap', rfl, rf, hb', cv1⟩; have cl1 := cv1.c.c.2.2.2.2; have hl1 := cv1.c.lt))
        all_goals go_wp2_with fail
        all_goals exact ⟨⟨j + 1, _, _, by go_num, by omega, cv.step hb'.out (below1 _ _) _ _ _ _ _ t.ks[j] (List.getElem?_eq_getElem hlt) rf.out g' cap2 own3 gr3 at3⟩, by simp [intOf]; omega⟩
      · have hje : j = t.ks.length := by omega
        subst hje
        obtain ⟨ad', cap', rfl, rfF⟩ := cv.done HT.out
        have cc := cv.c.c
        have cr := cv.r.c
        have f0 := cv.r.f (o := 0)
        have f1 := cv.r.f (o := 1)
        have f2 := cv.r.f (o := 2)
        have f3 := cv.r.f (o := 3)
        have f4 := cv.r.f (o := 4)
        go_wp2_with fail
        have dr := cv.r.set (.int .i64 t.kd) (.int .i64 t.it) (.int .u64 t.ut) (.string t.tx) (.slice ad' t.ks.length cap')
        obtain ⟨r0, r1, r2, r3, r4⟩ := dr.c
        have hlow : w.heap.size ≤ w.heap.size + 1 := by omega
        have FB : Hid (∃ (k i u : Int) (s : ByteArray) (ad : Option Addr) (len cap : Nat), Ending.returned (.agg #[.int .i64 t.kd, .int .i64 t.it, .int .u64 t.ut, .string t.tx, .slice ad' t.ks.length cap']) = .returned (.agg #[.int .i64 k, .int .i64 i, .int .u64 u, .string s, .slice ad len cap]) ∧ Rf (fun g => w.heap.size ≤ g ∧ g < (((((wr.setCell ⟨w.heap.size + 1, 0, none⟩ (.int .i64 t.kd)).setCell ⟨w.heap.size + 1, 1, none⟩ (.int .i64 t.it)).setCell ⟨w.heap.size + 1, 2, none⟩ (.int .u64 t.ut)).setCell ⟨w.heap.size + 1, 3, none⟩ (.string t.tx)).setCell ⟨w.heap.size + 1, 4, none⟩ (.slice ad' t.ks.length cap')).heap.size) (((((wr.setCell ⟨w.heap.size + 1, 0, none⟩ (.int .i64 t.kd)).setCell ⟨w.heap.size + 1, 1, none⟩ (.int .i64 t.it)).setCell ⟨w.heap.size + 1, 2, none⟩ (.int .u64 t.ut)).setCell ⟨w.heap.size + 1, 3, none⟩ (.string t.tx)).setCell ⟨w.heap.size + 1, 4, none⟩ (.slice ad' t.ks.length cap')) (n + 1) [.int .i64 k, .int .i64 i, .int .u64 u, .string s, .slice ad len cap] t ∧ Below w.heap.size w (((((wr.setCell ⟨w.heap.size + 1, 0, none⟩ (.int .i64 t.kd)).setCell ⟨w.heap.size + 1, 1, none⟩ (.int .i64 t.it)).setCell ⟨w.heap.size + 1, 2, none⟩ (.int .u64 t.ut)).setCell ⟨w.heap.size + 1, 3, none⟩ (.string t.tx)).setCell ⟨w.heap.size + 1, 4, none⟩ (.slice ad' t.ks.length cap'))) := by
          refine ⟨_, _, _, _, _, _, _, rfl, Rf.to (fun g hg => ⟨⟨by omega, by simpa [World.setCell] using hg.2⟩, ?_⟩) _ _ _ rfF, ((((cv.b.setCell hlow _).setCell hlow _).setCell hlow _).setCell hlow _).setCell hlow _⟩
          have ne : g ≠ w.heap.size + 1 := by omega
          exact (Below.heap_setCell _ _ _ g ne).trans ((Below.heap_setCell _ _ _ g ne).trans ((Below.heap_setCell _ _ _ g ne).trans ((Below.heap_setCell _ _ _ g ne).trans (Below.heap_setCell _ _ _ g ne))))
        exact bodyPost_ret (v := .agg #[.int .i64 t.kd, .int .i64 t.it, .int .u64 t.ut, .string t.tx, .slice ad' t.ks.length cap']) (by simp [results, Tryz.results9, go_sem, r0, r1, r2, r3, r4]) rfl FB.out
end Go.Proofs.YtajagjcfmaggiaaGreatDoor.Dt
/- The package's Open and the document's of a value's tree: the same; the conditions: the tree in memory, valid, its bits within 64. -/
namespace Go.Proofs.YtajagjcfmaggiaaGreatDoor.Dt
open Go.RowKit
/-- The value of no kind. -/
abbrev T0 : Tr 1 := ((0, 0, 0, ⟨#[]⟩, []) : Int × Int × Int × ByteArray × List (Tr 0))
end Go.Proofs.YtajagjcfmaggiaaGreatDoor.Dt
/- The package's Add of two values' trees, and the document's; the conditions: the trees in memory, valid, the bits within 64. -/
namespace Go.Proofs.YtajagjcfmaggiaaGreatDoor.Dt
open Go.RowKit
def nanR (r : Nat) : Bool := FloatKind.f64.format.order r r != some .eq
/-- The bits of a sum; of what is no number, always the same ones. -/
def addF (x y : Nat) : Nat := match FloatKind.f64.format.add x y with
  | some r => if nanR r = true then 9221120237041090561 else r
  | none => 9221120237041090561
theorem addF_lt (x y : Nat) : addF x y < 18446744073709551616 := by
  unfold addF
  cases h : FloatKind.f64.format.add x y with
  | none => decide
  | some r =>
    have : r < 2 ^ FloatKind.f64.format.width := FloatKind.f64.format.add_lt h
    have h2 : r < 18446744073709551616 := this
    show (if nanR r = true then 9221120237041090561 else r) < 18446744073709551616
    split
    · decide
    · exact h2
theorem nan_cut (t : Nat) : nanR ((t % 2) * 2 ^ 63 + 0x7ff0000000000000 + 1 + (t / 2) % (2 ^ 52 - 1)) = true := by
  have h1 : t % 2 < 2 := Nat.mod_lt _ (by decide)
  have h2 : (t / 2) % (2 ^ 52 - 1) < 2 ^ 52 - 1 := Nat.mod_lt _ (by decide)
  generalize t % 2 = a at h1
  generalize (t / 2) % (2 ^ 52 - 1) = m at h2
  have hn : (FloatKind.f64.format.read (a * 2 ^ 63 + 0x7ff0000000000000 + 1 + m)).isNaN = true := by
    have hr : FloatKind.f64.format = Ieee.double := rfl
    have hs : Ieee.double.signWeight = 9223372036854775808 := by decide
    have hbn : Ieee.double.binade = 4503599627370496 := by decide
    have hif : Ieee.double.infRung = 9218868437227405312 := by decide
    rw [hr]
    unfold Ieee.Format.read
    simp only [hs, hbn, hif]
    rw [if_neg (by omega), if_neg (by omega), if_neg (by omega)]
    rfl
  have : FloatKind.f64.format.order (a * 2 ^ 63 + 0x7ff0000000000000 + 1 + m) (a * 2 ^ 63 + 0x7ff0000000000000 + 1 + m) = none := od_nan _ _ (.inl hn)
  unfold nanR
  rw [this]; rfl
theorem add_run (x y : Nat) (T : TypeId) (w : World) : ∃ r w', (binOp .add T (.float .f64 x) (.float .f64 y)).run Tryz.prog w = .ok (.float .f64 r) w' ∧ Below w.heap.size w w' ∧ (if nanR r = true then 9221120237041090561 else r) = addF x y := by
  cases h : FloatKind.f64.format.add x y with
  | some r => exact ⟨r, w, run_float_arith w .add T .f64 x y r h, Below.refl _ _, by unfold addF; rw [h]⟩
  | none =>
    refine ⟨Question.cut (.nanBits .f64 x y) (w.tape w.drawn (.nanBits .f64 x y)), w.drew, ?_, Below.drew (Below.refl _ _), ?_⟩
    · simp [binOp, Op.floatArith, h, Question.forced]
    · exact (if_pos (nan_cut _)).trans (by unfold addF; rw [h])
theorem adAt1 (i j : Int) (w : World) : Calls Tryz.prog 209 #[.int .i64 i, .iface 140 (.int .i64 j)] w fun e w' => e = .returned (.tuple #[.iface 140 (.int .i64 (wrap64 (i + j))), .int .i64 0]) ∧ Below w.heap.size w w' := by
  have h1 : ∀ w : World, (Instr.typeAssert (.iface 140 (.int .i64 j)) 20 140 true).run Tryz.prog w = .ok (.tuple #[.int .i64 j, .bool true]) w := fun _ => by kernel_rfl
  go_enter Tryz.func209, Tryz.ntmps209
  go_wp2
  go_ret2
  exact ⟨rfl, Below.refl _ _⟩
theorem frombits9 (u : Int) (w : World) : (callFunc 41 #[.int .u64 u]).run Tryz.prog w = .ok (.value (.float .f64 u.toNat)) w := by kernel_rfl
set_option maxRecDepth 100000 in
set_option maxHeartbeats 1000000 in
theorem adAt3 (x y : Nat) (w : World) : Calls Tryz.prog 212 #[.float .f64 x, .iface 142 (.float .f64 y)] w fun e w' => e = .returned (.tuple #[.iface 142 (.float .f64 (addF x y)), .int .i64 0]) ∧ Below w.heap.size w w' := by
  have h1 : ∀ w : World, (Instr.typeAssert (.iface 142 (.float .f64 y)) 20 142 true).run Tryz.prog w = .ok (.tuple #[.float .f64 y, .bool true]) w := fun _ => by kernel_rfl
  have hf := frombits9
  obtain ⟨r, w', h, hb, hr⟩ := add_run x y 142 w
  rw [← hr]
  cases hn : nanR r with
  | true =>
    have hn' : (FloatKind.f64.format.order r r != some Ordering.eq) = true := hn
    rw [if_pos rfl]
    clear hr hn
    go_enter Tryz.func212, Tryz.ntmps212
    go_wp2
    go_ret2
    exact ⟨rfl, hb⟩
  | false =>
    have hn' : (FloatKind.f64.format.order r r != some Ordering.eq) = false := hn
    rw [if_neg (by decide)]
    clear hr hn
    go_enter Tryz.func212, Tryz.ntmps212
    go_wp2
    go_ret2
    exact ⟨rfl, hb⟩
end Go.Proofs.YtajagjcfmaggiaaGreatDoor.Dt
namespace Go.Proofs.YtajagjcfmaggiaaGreatDoor.Dt
open Go.RowKit
def lf (k i u : Int) : Tr 1 := ((k, i, u, ⟨#[]⟩, []) : Int × Int × Int × ByteArray × List (Tr 0))
/-- What Add answers. -/
def addT (k i u k' j v : Int) : Tr 1 := if k = 1 ∧ k' = 1 then lf 1 (wrap64 (i + j)) 0 else if k = 3 ∧ k' = 3 then lf 3 0 (addF u.toNat v.toNat : Nat) else T0
theorem pln (t : Tr 1) (S : Value) (hr : rgt 1 t = true) (h6 : r64 1 t) (hp : (pts 1 t).1 ≤ 4096) (hv : ∀ F w, VR F w 1 S t) (W : World) : Calls Tryz.prog 82 #[S] W fun e w' => ∃ (u0 u1 u2 : Int) (u3 : ByteArray) (a4 : Option Addr) (n4 c4 : Nat), e = .returned (.agg #[.int .i64 u0, .int .i64 u1, .int .u64 u2, .string u3, .slice a4 n4 c4]) ∧ Hid (Rep w' 1 [.int .i64 u0, .int .i64 u1, .int .u64 u2, .string u3, .slice a4 n4 c4] t) ∧ Below W.heap.size W w' :=
  (plain_any (fun _ => True) W 1 t S W hr h6 hp (hv _ _) (Below.refl _ _)).mono fun e w' ⟨v0, v1, v2, v3, v4, he, rf, hb'⟩ => by
    obtain ⟨u0, u1, u2, u3, a4, n4, c4', rfl, rfl, rfl, rfl, rfl⟩ := rep_shape (Rf.rep _ _ _ rf)
    exact ⟨u0, u1, u2, u3, a4, n4, c4', he, Rf.rep _ _ _ rf, hb'⟩
theorem rep_leaf {w w' : World} {t : Tr 1} {cs : List Value} (hk : t.ks = []) (h : Rep w 1 cs t) : Rep w' 1 cs t := by
  obtain ⟨ad, cap, h1, h2, h3, h4, h5⟩ := h
  exact ⟨ad, cap, h1, h2, h3, h4, .inl hk⟩
theorem pln1 (x : Int) (W : World) : Calls Tryz.prog 82 #[.iface 140 (.int .i64 x)] W fun e w' => ∃ (u0 u1 u2 : Int) (u3 : ByteArray) (a4 : Option Addr) (n4 c4 : Nat), e = .returned (.agg #[.int .i64 u0, .int .i64 u1, .int .u64 u2, .string u3, .slice a4 n4 c4]) ∧ Hid (Rep w' 1 [.int .i64 u0, .int .i64 u1, .int .u64 u2, .string u3, .slice a4 n4 c4] (lf 1 x 0)) ∧ Below W.heap.size W w' :=
  pln (lf 1 x 0) _ (show (okB 1 x 0 0 0 && true) = true by simp [okB]) ⟨⟨by show (0 : Int) ≤ 0; decide, by show (0 : Int) < 18446744073709551616; decide⟩, fun s h => by cases h⟩ (by show (1 : Int) ≤ 4096; decide) (fun F w => .inr (.inl ⟨rfl, rfl⟩)) W
theorem pln3 (n : Nat) (hn : n < 18446744073709551616) (W : World) : Calls Tryz.prog 82 #[.iface 142 (.float .f64 n)] W fun e w' => ∃ (u0 u1 u2 : Int) (u3 : ByteArray) (a4 : Option Addr) (n4 c4 : Nat), e = .returned (.agg #[.int .i64 u0, .int .i64 u1, .int .u64 u2, .string u3, .slice a4 n4 c4]) ∧ Hid (Rep w' 1 [.int .i64 u0, .int .i64 u1, .int .u64 u2, .string u3, .slice a4 n4 c4] (lf 3 0 (n : Nat))) ∧ Below W.heap.size W w' :=
  pln (lf 3 0 (n : Nat)) _ (show (okB 3 0 n 0 0 && true) = true by simp [okB]) ⟨⟨Int.natCast_nonneg n, by show (n : Int) < 18446744073709551616; omega⟩, fun s h => by cases h⟩ (by show (1 : Int) ≤ 4096; decide) (fun F w => .inr (.inr (.inr (.inl ⟨rfl, by show _ = Value.iface _ (.float .f64 (n : Int).toNat); rw [Int.toNat_natCast]⟩)))) W
set_option maxRecDepth 100000 in
set_option maxHeartbeats 2000000 in
theorem adGo1S (i u j v : Int) (s z : ByteArray) (ad bd : Option Addr) (len cap len' cap' : Nat) (w : World) :
    Calls Tryz.prog 78 #[.agg #[.int .i64 1, .int .i64 i, .int .u64 u, .string s, .slice ad len cap], .agg #[.int .i64 1, .int .i64 j, .int .u64 v, .string z, .slice bd len' cap']] w fun e w' => ∃ (y0 y1 y2 : Int) (y3 : ByteArray) (y4 : Option Addr) (y5 y6 : Nat), e = .returned (.tuple #[.agg #[.int .i64 y0, .int .i64 y1, .int .u64 y2, .string y3, .slice y4 y5 y6], .int .i64 0]) ∧ Hid (Rep w' 1 [.int .i64 y0, .int .i64 y1, .int .u64 y2, .string y3, .slice y4 y5 y6] (lf 1 (wrap64 (i + j)) 0)) ∧ Below w.heap.size w w' := by
  have h1 : ∀ w : World, (Instr.typeAssert (.iface 140 (.int .i64 i)) 20 136 true).run Tryz.prog w = .ok (.tuple #[.iface 140 (.int .i64 i), .bool true]) w := fun _ => by kernel_rfl
  have hmf : ∀ (fn : Fn) (first cap : Array Value) (w : World), (Instr.makeFunc fn first cap).run Tryz.prog w = .ok (.func fn first cap) w := fun _ _ _ _ => rfl
  have hna : ∀ w : World, (nilAhead 367 140 (.int .i64 i) "Add").run Tryz.prog w = .ok (some false) w := fun _ => by kernel_rfl
  have hme : ∀ w : World, (method 367 140 (.int .i64 i) "Add").run Tryz.prog w = .ok (209, .int .i64 i) w := fun _ => by kernel_rfl
  have b0 : Below w.heap.size w (((w.alloc (.cells #[.int .i64 1, .int .i64 i, .int .u64 u, .string s, .slice ad len cap] 25)).alloc (.cells #[.int .i64 1, .int .i64 j, .int .u64 v, .string z, .slice bd len' cap'] 25)).alloc (.cells #[.int .i64 0, .int .i64 0, .int .u64 0, .string ⟨#[]⟩, .slice none 0 0] 25)) := (((Below.refl _ w).alloc (Nat.le_refl _) _).alloc (by simp) _).alloc (by simp; omega) _
  have db := (D5.new (w.alloc (.cells #[.int .i64 1, .int .i64 i, .int .u64 u, .string s, .slice ad len cap] 25)) (.int .i64 1) (.int .i64 j) (.int .u64 v) (.string z) (.slice bd len' cap')).below (below1 _ (.cells #[.int .i64 0, .int .i64 0, .int .u64 0, .string ⟨#[]⟩, .slice none 0 0] 25))
  have dr := D5.new ((w.alloc (.cells #[.int .i64 1, .int .i64 i, .int .u64 u, .string s, .slice ad len cap] 25)).alloc (.cells #[.int .i64 1, .int .i64 j, .int .u64 v, .string z, .slice bd len' cap'] 25)) (.int .i64 0) (.int .i64 0) (.int .u64 0) (.string ⟨#[]⟩) (.slice none 0 0)
  rw [World.size_alloc] at db
  rw [World.size_alloc, World.size_alloc] at dr
  have HP := Lib.hid (pln1 (wrap64 (i + j)))
  go_enter Tryz.func78, Tryz.ntmps78
  go_wp2_with fail
  refine (odVal1 i u s ad len cap _).mono ?_
  rintro e w1 ⟨rfl, b1⟩
  have d1 := db.below b1
  have dr1 := Lib.hid (dr.below b1)
  obtain ⟨k0, k1, k2, k3, k4⟩ := d1.c
  have B1 := b0.trans (b1.mono (by simp; omega))
  clear db dr b1 b0
  have hz : w.heap.size + 1 < w1.heap.size := d1.lt
  have KS : Hid (∀ w' : World, Below w1.heap.size w1 w' → w'.cell? ⟨w.heap.size + 1, 0, none⟩ = some (.int .i64 1) ∧ w'.cell? ⟨w.heap.size + 1, 1, none⟩ = some (.int .i64 j) ∧ w'.cell? ⟨w.heap.size + 1, 2, none⟩ = some (.int .u64 v) ∧ w'.cell? ⟨w.heap.size + 1, 3, none⟩ = some (.string z) ∧ w'.cell? ⟨w.heap.size + 1, 4, none⟩ = some (.slice bd len' cap')) := fun w' h' => ⟨(h'.cell (p := ⟨w.heap.size + 1, 0, none⟩) hz).trans k0, (h'.cell (p := ⟨w.heap.size + 1, 1, none⟩) hz).trans k1, (h'.cell (p := ⟨w.heap.size + 1, 2, none⟩) hz).trans k2, (h'.cell (p := ⟨w.heap.size + 1, 3, none⟩) hz).trans k3, (h'.cell (p := ⟨w.heap.size + 1, 4, none⟩) hz).trans k4⟩
  have KC : Hid (Calls Tryz.prog 76 #[.agg #[.int .i64 1, .int .i64 j, .int .u64 v, .string z, .slice bd len' cap']] w1.drew fun e w' => e = .returned (.iface 140 (.int .i64 j)) ∧ Below w1.heap.size w1 w') :=
    (odVal1 j v z bd len' cap' w1.drew).mono fun e w' ⟨he, hb'⟩ => ⟨he, (Below.drew (Below.refl _ w1)).trans hb'⟩
  clear d1
  go_wp2_with fail
  go_region_held3 (fun w' => w'.cell? ⟨w.heap.size + 1, 0, none⟩ = some (.int .i64 1) ∧ w'.cell? ⟨w.heap.size + 1, 1, none⟩ = some (.int .i64 j) ∧ w'.cell? ⟨w.heap.size + 1, 2, none⟩ = some (.int .u64 v) ∧ w'.cell? ⟨w.heap.size + 1, 3, none⟩ = some (.string z) ∧ w'.cell? ⟨w.heap.size + 1, 4, none⟩ = some (.slice bd len' cap')) (first | go_keep | exact KS.out _ (by assumption)) (first | (go_at_call 76; refine KC.out.mono ?_; rintro e w2 ⟨rfl, b2⟩) | (go_at_call 209; refine (adAt1 i j _).mono ?_; rintro e w3 ⟨rfl, b3⟩; have b3' := b2.trans (b3.mono b2.size)))
  all_goals (
    go_wp2_with fail
    refine (HP.out _).mono ?_
    rintro e w4 ⟨y0, y1, y2, y3, y4, y5, y6, rfl, hr, b4⟩
    have b4' := b3'.trans (b4.mono b3'.size)
    have D4 := dr1.out.below b4'
    obtain ⟨d0, d1, d2, d3, d4⟩ := D4.c
    have fz : ∀ o, w4.frozen? ⟨w.heap.size + 1 + 1, o, none⟩ = false := fun o => D4.f (o := o)
    have B4 := B1.trans (b4'.mono B1.size)
    clear k0 k1 k2 k3 k4
    go_wp2
    refine bodyPost_ret (v := .tuple #[.agg #[.int .i64 y0, .int .i64 y1, .int .u64 y2, .string y3, .slice y4 y5 y6], .int .i64 0]) (by simp [results, Tryz.results78, go_sem, World.cell?_setCell_same, World.cell?_setCell_other, d0, d1, d2, d3, d4]) rfl ⟨y0, y1, y2, y3, y4, y5, y6, rfl, rep_leaf rfl hr.out, ?_⟩
    exact ((((B4.setCell (by show w.heap.size ≤ w.heap.size + 1 + 1; omega) _).setCell (by show w.heap.size ≤ w.heap.size + 1 + 1; omega) _).setCell (by show w.heap.size ≤ w.heap.size + 1 + 1; omega) _).setCell (by show w.heap.size ≤ w.heap.size + 1 + 1; omega) _).setCell (by show w.heap.size ≤ w.heap.size + 1 + 1; omega) _)
set_option maxRecDepth 100000 in
set_option maxHeartbeats 2000000 in
theorem adGo3S (i u j v : Int) (s z : ByteArray) (ad bd : Option Addr) (len cap len' cap' : Nat) (w : World) :
    Calls Tryz.prog 78 #[.agg #[.int .i64 3, .int .i64 i, .int .u64 u, .string s, .slice ad len cap], .agg #[.int .i64 3, .int .i64 j, .int .u64 v, .string z, .slice bd len' cap']] w fun e w' => ∃ (y0 y1 y2 : Int) (y3 : ByteArray) (y4 : Option Addr) (y5 y6 : Nat), e = .returned (.tuple #[.agg #[.int .i64 y0, .int .i64 y1, .int .u64 y2, .string y3, .slice y4 y5 y6], .int .i64 0]) ∧ Hid (Rep w' 1 [.int .i64 y0, .int .i64 y1, .int .u64 y2, .string y3, .slice y4 y5 y6] (lf 3 0 (addF u.toNat v.toNat : Nat))) ∧ Below w.heap.size w w' := by
  have h1 : ∀ w : World, (Instr.typeAssert (.iface 142 (.float .f64 u.toNat)) 20 136 true).run Tryz.prog w = .ok (.tuple #[.iface 142 (.float .f64 u.toNat), .bool true]) w := fun _ => by kernel_rfl
  have hmf : ∀ (fn : Fn) (first cap : Array Value) (w : World), (Instr.makeFunc fn first cap).run Tryz.prog w = .ok (.func fn first cap) w := fun _ _ _ _ => rfl
  have hna : ∀ w : World, (nilAhead 367 142 (.float .f64 u.toNat) "Add").run Tryz.prog w = .ok (some false) w := fun _ => by kernel_rfl
  have hme : ∀ w : World, (method 367 142 (.float .f64 u.toNat) "Add").run Tryz.prog w = .ok (212, .float .f64 u.toNat) w := fun _ => by kernel_rfl
  have b0 : Below w.heap.size w (((w.alloc (.cells #[.int .i64 3, .int .i64 i, .int .u64 u, .string s, .slice ad len cap] 25)).alloc (.cells #[.int .i64 3, .int .i64 j, .int .u64 v, .string z, .slice bd len' cap'] 25)).alloc (.cells #[.int .i64 0, .int .i64 0, .int .u64 0, .string ⟨#[]⟩, .slice none 0 0] 25)) := (((Below.refl _ w).alloc (Nat.le_refl _) _).alloc (by simp) _).alloc (by simp; omega) _
  have db := (D5.new (w.alloc (.cells #[.int .i64 3, .int .i64 i, .int .u64 u, .string s, .slice ad len cap] 25)) (.int .i64 3) (.int .i64 j) (.int .u64 v) (.string z) (.slice bd len' cap')).below (below1 _ (.cells #[.int .i64 0, .int .i64 0, .int .u64 0, .string ⟨#[]⟩, .slice none 0 0] 25))
  have dr := D5.new ((w.alloc (.cells #[.int .i64 3, .int .i64 i, .int .u64 u, .string s, .slice ad len cap] 25)).alloc (.cells #[.int .i64 3, .int .i64 j, .int .u64 v, .string z, .slice bd len' cap'] 25)) (.int .i64 0) (.int .i64 0) (.int .u64 0) (.string ⟨#[]⟩) (.slice none 0 0)
  rw [World.size_alloc] at db
  rw [World.size_alloc, World.size_alloc] at dr
  have HP := Lib.hid (pln3 (addF u.toNat v.toNat) (addF_lt _ _))
  go_enter Tryz.func78, Tryz.ntmps78
  go_wp2_with fail
  refine (odVal3 i u s ad len cap _).mono ?_
  rintro e w1 ⟨rfl, b1⟩
  have d1 := db.below b1
  have dr1 := Lib.hid (dr.below b1)
  obtain ⟨k0, k1, k2, k3, k4⟩ := d1.c
  have B1 := b0.trans (b1.mono (by simp; omega))
  clear db dr b1 b0
  have hz : w.heap.size + 1 < w1.heap.size := d1.lt
  have KS : Hid (∀ w' : World, Below w1.heap.size w1 w' → w'.cell? ⟨w.heap.size + 1, 0, none⟩ = some (.int .i64 3) ∧ w'.cell? ⟨w.heap.size + 1, 1, none⟩ = some (.int .i64 j) ∧ w'.cell? ⟨w.heap.size + 1, 2, none⟩ = some (.int .u64 v) ∧ w'.cell? ⟨w.heap.size + 1, 3, none⟩ = some (.string z) ∧ w'.cell? ⟨w.heap.size + 1, 4, none⟩ = some (.slice bd len' cap')) := fun w' h' => ⟨(h'.cell (p := ⟨w.heap.size + 1, 0, none⟩) hz).trans k0, (h'.cell (p := ⟨w.heap.size + 1, 1, none⟩) hz).trans k1, (h'.cell (p := ⟨w.heap.size + 1, 2, none⟩) hz).trans k2, (h'.cell (p := ⟨w.heap.size + 1, 3, none⟩) hz).trans k3, (h'.cell (p := ⟨w.heap.size + 1, 4, none⟩) hz).trans k4⟩
  have KC : Hid (Calls Tryz.prog 76 #[.agg #[.int .i64 3, .int .i64 j, .int .u64 v, .string z, .slice bd len' cap']] w1.drew fun e w' => e = .returned (.iface 142 (.float .f64 v.toNat)) ∧ Below w1.heap.size w1 w') :=
    (odVal3 j v z bd len' cap' w1.drew).mono fun e w' ⟨he, hb'⟩ => ⟨he, (Below.drew (Below.refl _ w1)).trans hb'⟩
  clear d1
  go_wp2_with fail
  go_region_held3 (fun w' => w'.cell? ⟨w.heap.size + 1, 0, none⟩ = some (.int .i64 3) ∧ w'.cell? ⟨w.heap.size + 1, 1, none⟩ = some (.int .i64 j) ∧ w'.cell? ⟨w.heap.size + 1, 2, none⟩ = some (.int .u64 v) ∧ w'.cell? ⟨w.heap.size + 1, 3, none⟩ = some (.string z) ∧ w'.cell? ⟨w.heap.size + 1, 4, none⟩ = some (.slice bd len' cap')) (first | go_keep | exact KS.out _ (by assumption)) (first | (go_at_call 76; refine KC.out.mono ?_; rintro e w2 ⟨rfl, b2⟩) | (go_at_call 212; refine (adAt3 _ _ _).mono ?_; rintro e w3 ⟨rfl, b3⟩; have b3' := b2.trans (b3.mono b2.size)))
  all_goals (
    go_wp2_with fail
    refine (HP.out _).mono ?_
    rintro e w4 ⟨y0, y1, y2, y3, y4, y5, y6, rfl, hr, b4⟩
    have b4' := b3'.trans (b4.mono b3'.size)
    have D4 := dr1.out.below b4'
    obtain ⟨d0, d1, d2, d3, d4⟩ := D4.c
    have fz : ∀ o, w4.frozen? ⟨w.heap.size + 1 + 1, o, none⟩ = false := fun o => D4.f (o := o)
    have B4 := B1.trans (b4'.mono B1.size)
    clear k0 k1 k2 k3 k4
    go_wp2
    refine bodyPost_ret (v := .tuple #[.agg #[.int .i64 y0, .int .i64 y1, .int .u64 y2, .string y3, .slice y4 y5 y6], .int .i64 0]) (by simp [results, Tryz.results78, go_sem, World.cell?_setCell_same, World.cell?_setCell_other, d0, d1, d2, d3, d4]) rfl ⟨y0, y1, y2, y3, y4, y5, y6, rfl, rep_leaf rfl hr.out, ?_⟩
    exact ((((B4.setCell (by show w.heap.size ≤ w.heap.size + 1 + 1; omega) _).setCell (by show w.heap.size ≤ w.heap.size + 1 + 1; omega) _).setCell (by show w.heap.size ≤ w.heap.size + 1 + 1; omega) _).setCell (by show w.heap.size ≤ w.heap.size + 1 + 1; omega) _).setCell (by show w.heap.size ≤ w.heap.size + 1 + 1; omega) _)
end Go.Proofs.YtajagjcfmaggiaaGreatDoor.Dt
/- Add of two values' trees, the package's and the document's; the conditions: the trees in memory, valid. -/
namespace Go.Proofs.YtajagjcfmaggiaaGreatDoor.Dt
open Go.RowKit
theorem add_cases (x y : Nat) (T : TypeId) : (addF x y = 9221120237041090561 ∧ ∃ (R : World → Nat) (F : World → World), (∀ w, (binOp .add T (.float .f64 x) (.float .f64 y)).run Tryz.prog w = .ok (.float .f64 (R w)) (F w)) ∧ (∀ w, Below w.heap.size w (F w)) ∧ ∀ w, (FloatKind.f64.format.order (R w) (R w) != some Ordering.eq) = true) ∨
    ∃ (F : World → World), (∀ w, (binOp .add T (.float .f64 x) (.float .f64 y)).run Tryz.prog w = .ok (.float .f64 (addF x y)) (F w)) ∧ (∀ w, Below w.heap.size w (F w)) ∧ (FloatKind.f64.format.order (addF x y) (addF x y) != some Ordering.eq) = false := by
  cases h : FloatKind.f64.format.add x y with
  | some r =>
    cases hn : nanR r with
    | true => exact .inl ⟨by unfold addF; rw [h]; exact if_pos hn, fun _ => r, fun w => w, fun w => run_float_arith w .add T .f64 x y r h, fun w => Below.refl _ _, fun _ => hn⟩
    | false =>
      have e : addF x y = r := by unfold addF; rw [h]; exact if_neg (by rw [hn]; decide)
      rw [e]
      exact .inr ⟨fun w => w, fun w => run_float_arith w .add T .f64 x y r h, fun w => Below.refl _ _, hn⟩
  | none =>
    refine .inl ⟨by unfold addF; rw [h], fun w => Question.cut (.nanBits .f64 x y) (w.tape w.drawn (.nanBits .f64 x y)), fun w => w.drew, fun w => ?_, fun w => Below.drew (Below.refl _ _), fun w => nan_cut _⟩
    simp [binOp, Op.floatArith, h, Question.forced]
theorem rep1 (w : World) (a b c : Int) : Rep w 1 [.int .i64 a, .int .i64 b, .int .u64 c, .string ⟨#[]⟩, .slice none 0 0] (lf a b c) := ⟨none, 0, rfl, Nat.zero_le _, Nat.le_refl _, Nat.zero_le _, .inl rfl⟩
theorem set5B {w W : World} {g : Nat} (h : Below w.heap.size w W) (hg : w.heap.size ≤ g) (v0 v1 v2 v3 v4 : Value) : Below w.heap.size w (((((W.setCell ⟨g, 0, none⟩ v0).setCell ⟨g, 1, none⟩ v1).setCell ⟨g, 2, none⟩ v2).setCell ⟨g, 3, none⟩ v3).setCell ⟨g, 4, none⟩ v4) := ((((h.setCell hg _).setCell hg _).setCell hg _).setCell hg _).setCell hg _
set_option maxRecDepth 100000 in
set_option maxHeartbeats 1000000 in
theorem refAd1 (i u j v : Int) (s z : ByteArray) (ad bd : Option Addr) (len cap len' cap' : Nat) (w : World) :
    Calls Tryz.prog 24 #[.agg #[.int .i64 1, .int .i64 i, .int .u64 u, .string s, .slice ad len cap], .agg #[.int .i64 1, .int .i64 j, .int .u64 v, .string z, .slice bd len' cap']] w fun e w' => e = .returned (.tuple #[.agg #[.int .i64 1, .int .i64 (wrap64 (i + j)), .int .u64 0, .string ⟨#[]⟩, .slice none 0 0], .int .i64 0]) ∧ Below w.heap.size w w' := by
  have B4 : Below w.heap.size w (((w.alloc (.cells #[.int .i64 1, .int .i64 i, .int .u64 u, .string s, .slice ad len cap] 25)).alloc (.cells #[.int .i64 1, .int .i64 j, .int .u64 v, .string z, .slice bd len' cap'] 25)).alloc (.cells #[.int .i64 0, .int .i64 0, .int .u64 0, .string ⟨#[]⟩, .slice none 0 0] 25)) := (((Below.refl _ w).alloc (Nat.le_refl _) _).alloc (by simp) _).alloc (by simp; omega) _
  have hg : w.heap.size ≤ w.heap.size + 1 + 1 := by omega
  have da := ((D5.new w (.int .i64 1) (.int .i64 i) (.int .u64 u) (.string s) (.slice ad len cap)).below (below1 _ (.cells #[.int .i64 1, .int .i64 j, .int .u64 v, .string z, .slice bd len' cap'] 25))).below (below1 _ (.cells #[.int .i64 0, .int .i64 0, .int .u64 0, .string ⟨#[]⟩, .slice none 0 0] 25))
  have db := (D5.new (w.alloc (.cells #[.int .i64 1, .int .i64 i, .int .u64 u, .string s, .slice ad len cap] 25)) (.int .i64 1) (.int .i64 j) (.int .u64 v) (.string z) (.slice bd len' cap')).below (below1 _ (.cells #[.int .i64 0, .int .i64 0, .int .u64 0, .string ⟨#[]⟩, .slice none 0 0] 25))
  have dr := D5.new ((w.alloc (.cells #[.int .i64 1, .int .i64 i, .int .u64 u, .string s, .slice ad len cap] 25)).alloc (.cells #[.int .i64 1, .int .i64 j, .int .u64 v, .string z, .slice bd len' cap'] 25)) (.int .i64 0) (.int .i64 0) (.int .u64 0) (.string ⟨#[]⟩) (.slice none 0 0)
  rw [World.size_alloc] at db
  rw [World.size_alloc, World.size_alloc] at dr
  have hsz := dr.lt
  have DR := Lib.hid dr
  go_enter Tryz.func24, Tryz.ntmps24
  go_wp2_with fail
  generalize (((w.alloc (.cells #[.int .i64 1, .int .i64 i, .int .u64 u, .string s, .slice ad len cap] 25)).alloc (.cells #[.int .i64 1, .int .i64 j, .int .u64 v, .string z, .slice bd len' cap'] 25)).alloc (.cells #[.int .i64 0, .int .i64 0, .int .u64 0, .string ⟨#[]⟩, .slice none 0 0] 25)) = W at *
  have HH : Hid (∀ W, Calls Tryz.prog 40 #[.int .i64 1, .int .i64 5] W fun e w' => e = .returned (.bool true) ∧ w' = W) := fun W => refHas_any 1 5 W
  refine (HH.out _).mono ?_
  rintro e w1 ⟨rfl, rfl⟩
  obtain ⟨x0, x1, x2, x3, x4⟩ := da.c
  obtain ⟨y0, y1, y2, y3, y4⟩ := db.c
  obtain ⟨d0, d1, d2, d3, d4⟩ := dr.c
  have fz : ∀ o, w1.frozen? ⟨w.heap.size + 1 + 1, o, none⟩ = false := fun o => dr.f (o := o)
  go_wp2
  refine bodyPost_ret (v := .tuple #[.agg #[.int .i64 1, .int .i64 (wrap64 (i + j)), .int .u64 0, .string ⟨#[]⟩, .slice none 0 0], .int .i64 0]) (by simp [results, Tryz.results24, go_sem, World.cell?_setCell_same, World.cell?_setCell_other, d0, d1, d2, d3, d4]) rfl ⟨rfl, set5B B4 hg _ _ _ _ _⟩
set_option maxRecDepth 100000 in
set_option maxHeartbeats 1000000 in
theorem refAd3N (i u j v : Int) (s z : ByteArray) (ad bd : Option Addr) (len cap len' cap' : Nat) (w : World) (R : World → Nat) (F : World → World) (hx : ∀ w, (binOp .add 71 (.float .f64 u.toNat) (.float .f64 v.toNat)).run Tryz.prog w = .ok (.float .f64 (R w)) (F w)) (hF : ∀ w, Below w.heap.size w (F w)) (hn : ∀ w, (FloatKind.f64.format.order (R w) (R w) != some Ordering.eq) = true) :
    Calls Tryz.prog 24 #[.agg #[.int .i64 3, .int .i64 i, .int .u64 u, .string s, .slice ad len cap], .agg #[.int .i64 3, .int .i64 j, .int .u64 v, .string z, .slice bd len' cap']] w fun e w' => e = .returned (.tuple #[.agg #[.int .i64 3, .int .i64 0, .int .u64 9221120237041090561, .string ⟨#[]⟩, .slice none 0 0], .int .i64 0]) ∧ Below w.heap.size w w' := by
  have B4 : Below w.heap.size w (((w.alloc (.cells #[.int .i64 3, .int .i64 i, .int .u64 u, .string s, .slice ad len cap] 25)).alloc (.cells #[.int .i64 3, .int .i64 j, .int .u64 v, .string z, .slice bd len' cap'] 25)).alloc (.cells #[.int .i64 0, .int .i64 0, .int .u64 0, .string ⟨#[]⟩, .slice none 0 0] 25)) := (((Below.refl _ w).alloc (Nat.le_refl _) _).alloc (by simp) _).alloc (by simp; omega) _
  have hg : w.heap.size ≤ w.heap.size + 1 + 1 := by omega
  have da := ((D5.new w (.int .i64 3) (.int .i64 i) (.int .u64 u) (.string s) (.slice ad len cap)).below (below1 _ (.cells #[.int .i64 3, .int .i64 j, .int .u64 v, .string z, .slice bd len' cap'] 25))).below (below1 _ (.cells #[.int .i64 0, .int .i64 0, .int .u64 0, .string ⟨#[]⟩, .slice none 0 0] 25))
  have db := (D5.new (w.alloc (.cells #[.int .i64 3, .int .i64 i, .int .u64 u, .string s, .slice ad len cap] 25)) (.int .i64 3) (.int .i64 j) (.int .u64 v) (.string z) (.slice bd len' cap')).below (below1 _ (.cells #[.int .i64 0, .int .i64 0, .int .u64 0, .string ⟨#[]⟩, .slice none 0 0] 25))
  have dr := D5.new ((w.alloc (.cells #[.int .i64 3, .int .i64 i, .int .u64 u, .string s, .slice ad len cap] 25)).alloc (.cells #[.int .i64 3, .int .i64 j, .int .u64 v, .string z, .slice bd len' cap'] 25)) (.int .i64 0) (.int .i64 0) (.int .u64 0) (.string ⟨#[]⟩) (.slice none 0 0)
  rw [World.size_alloc] at db
  rw [World.size_alloc, World.size_alloc] at dr
  have hsz := dr.lt
  have DR := Lib.hid dr
  go_enter Tryz.func24, Tryz.ntmps24
  go_wp2_with fail
  generalize (((w.alloc (.cells #[.int .i64 3, .int .i64 i, .int .u64 u, .string s, .slice ad len cap] 25)).alloc (.cells #[.int .i64 3, .int .i64 j, .int .u64 v, .string z, .slice bd len' cap'] 25)).alloc (.cells #[.int .i64 0, .int .i64 0, .int .u64 0, .string ⟨#[]⟩, .slice none 0 0] 25)) = W at *
  have HH : Hid (∀ W, Calls Tryz.prog 40 #[.int .i64 3, .int .i64 5] W fun e w' => e = .returned (.bool true) ∧ w' = W) := fun W => refHas_any 3 5 W
  have hf := frombits9
  have ht := tobits
  refine (HH.out _).mono ?_
  rintro e w1 ⟨rfl, rfl⟩
  obtain ⟨x0, x1, x2, x3, x4⟩ := da.c
  obtain ⟨y0, y1, y2, y3, y4⟩ := db.c
  obtain ⟨d0, d1, d2, d3, d4⟩ := dr.c
  have fz : ∀ o, w1.frozen? ⟨w.heap.size + 1 + 1, o, none⟩ = false := fun o => dr.f (o := o)
  go_wp2
  have KF : Hid (∀ w', (fun W => W.cell? ⟨w.heap.size, 2, none⟩ = some (.int .u64 u) ∧ W.cell? ⟨w.heap.size + 1, 2, none⟩ = some (.int .u64 v)) w' → (fun W => W.cell? ⟨w.heap.size, 2, none⟩ = some (.int .u64 u) ∧ W.cell? ⟨w.heap.size + 1, 2, none⟩ = some (.int .u64 v)) (F w')) := fun w' h => ⟨((hF w').cell (World.block_lt_of_cell? w' _ h.1)).trans h.1, ((hF w').cell (World.block_lt_of_cell? w' _ h.2)).trans h.2⟩
  have HB := Lib.hid hF
  have HN := Lib.hid hn
  clear hF d0 d1 d2 d3 d4 fz
  clear x0 x1 x3 x4 y0 y1 y3 y4 da db dr KF hn
  go_region_with (fail)
  all_goals (
    have hn := HN.out
    have B5 : Below w1.heap.size w1 (F w1.drew) := (Below.drew (Below.refl _ w1)).trans (HB.out w1.drew)
    have D5 := DR.out.below B5
    obtain ⟨d0, d1, d2, d3, d4⟩ := D5.c
    have fz : ∀ o, (F w1.drew).frozen? ⟨w.heap.size + 1 + 1, o, none⟩ = false := fun o => D5.f (o := o)
    have B6 := B4.trans (B5.mono B4.size)
    go_wp2
    refine bodyPost_ret (v := .tuple #[.agg #[.int .i64 3, .int .i64 0, .int .u64 9221120237041090561, .string ⟨#[]⟩, .slice none 0 0], .int .i64 0]) (by simp [results, Tryz.results24, go_sem, World.cell?_setCell_same, World.cell?_setCell_other, d0, d1, d2, d3, d4]) rfl ⟨rfl, set5B B6 hg _ _ _ _ _⟩)
set_option maxRecDepth 100000 in
set_option maxHeartbeats 1000000 in
theorem refAd3R (i u j v : Int) (s z : ByteArray) (ad bd : Option Addr) (len cap len' cap' : Nat) (w : World) (r : Nat) (F : World → World) (hx : ∀ w, (binOp .add 71 (.float .f64 u.toNat) (.float .f64 v.toNat)).run Tryz.prog w = .ok (.float .f64 r) (F w)) (hF : ∀ w, Below w.heap.size w (F w)) (hn : (FloatKind.f64.format.order r r != some Ordering.eq) = false) :
    Calls Tryz.prog 24 #[.agg #[.int .i64 3, .int .i64 i, .int .u64 u, .string s, .slice ad len cap], .agg #[.int .i64 3, .int .i64 j, .int .u64 v, .string z, .slice bd len' cap']] w fun e w' => e = .returned (.tuple #[.agg #[.int .i64 3, .int .i64 0, .int .u64 (r : Nat), .string ⟨#[]⟩, .slice none 0 0], .int .i64 0]) ∧ Below w.heap.size w w' := by
  have B4 : Below w.heap.size w (((w.alloc (.cells #[.int .i64 3, .int .i64 i, .int .u64 u, .string s, .slice ad len cap] 25)).alloc (.cells #[.int .i64 3, .int .i64 j, .int .u64 v, .string z, .slice bd len' cap'] 25)).alloc (.cells #[.int .i64 0, .int .i64 0, .int .u64 0, .string ⟨#[]⟩, .slice none 0 0] 25)) := (((Below.refl _ w).alloc (Nat.le_refl _) _).alloc (by simp) _).alloc (by simp; omega) _
  have hg : w.heap.size ≤ w.heap.size + 1 + 1 := by omega
  have da := ((D5.new w (.int .i64 3) (.int .i64 i) (.int .u64 u) (.string s) (.slice ad len cap)).below (below1 _ (.cells #[.int .i64 3, .int .i64 j, .int .u64 v, .string z, .slice bd len' cap'] 25))).below (below1 _ (.cells #[.int .i64 0, .int .i64 0, .int .u64 0, .string ⟨#[]⟩, .slice none 0 0] 25))
  have db := (D5.new (w.alloc (.cells #[.int .i64 3, .int .i64 i, .int .u64 u, .string s, .slice ad len cap] 25)) (.int .i64 3) (.int .i64 j) (.int .u64 v) (.string z) (.slice bd len' cap')).below (below1 _ (.cells #[.int .i64 0, .int .i64 0, .int .u64 0, .string ⟨#[]⟩, .slice none 0 0] 25))
  have dr := D5.new ((w.alloc (.cells #[.int .i64 3, .int .i64 i, .int .u64 u, .string s, .slice ad len cap] 25)).alloc (.cells #[.int .i64 3, .int .i64 j, .int .u64 v, .string z, .slice bd len' cap'] 25)) (.int .i64 0) (.int .i64 0) (.int .u64 0) (.string ⟨#[]⟩) (.slice none 0 0)
  rw [World.size_alloc] at db
  rw [World.size_alloc, World.size_alloc] at dr
  have hsz := dr.lt
  have DR := Lib.hid dr
  go_enter Tryz.func24, Tryz.ntmps24
  go_wp2_with fail
  generalize (((w.alloc (.cells #[.int .i64 3, .int .i64 i, .int .u64 u, .string s, .slice ad len cap] 25)).alloc (.cells #[.int .i64 3, .int .i64 j, .int .u64 v, .string z, .slice bd len' cap'] 25)).alloc (.cells #[.int .i64 0, .int .i64 0, .int .u64 0, .string ⟨#[]⟩, .slice none 0 0] 25)) = W at *
  have HH : Hid (∀ W, Calls Tryz.prog 40 #[.int .i64 3, .int .i64 5] W fun e w' => e = .returned (.bool true) ∧ w' = W) := fun W => refHas_any 3 5 W
  have hf := frombits9
  have ht := tobits r
  refine (HH.out _).mono ?_
  rintro e w1 ⟨rfl, rfl⟩
  obtain ⟨x0, x1, x2, x3, x4⟩ := da.c
  obtain ⟨y0, y1, y2, y3, y4⟩ := db.c
  obtain ⟨d0, d1, d2, d3, d4⟩ := dr.c
  have fz : ∀ o, w1.frozen? ⟨w.heap.size + 1 + 1, o, none⟩ = false := fun o => dr.f (o := o)
  go_wp2
  have KF : Hid (∀ w', (fun W => W.cell? ⟨w.heap.size, 2, none⟩ = some (.int .u64 u) ∧ W.cell? ⟨w.heap.size + 1, 2, none⟩ = some (.int .u64 v)) w' → (fun W => W.cell? ⟨w.heap.size, 2, none⟩ = some (.int .u64 u) ∧ W.cell? ⟨w.heap.size + 1, 2, none⟩ = some (.int .u64 v)) (F w')) := fun w' h => ⟨((hF w').cell (World.block_lt_of_cell? w' _ h.1)).trans h.1, ((hF w').cell (World.block_lt_of_cell? w' _ h.2)).trans h.2⟩
  have HB := Lib.hid hF
  have HN := Lib.hid hn
  clear hF d0 d1 d2 d3 d4 fz
  clear x0 x1 x3 x4 y0 y1 y3 y4 da db dr KF hn
  go_region_with (fail)
  all_goals (
    have hn := HN.out
    have B5 : Below w1.heap.size w1 (F w1.drew) := (Below.drew (Below.refl _ w1)).trans (HB.out w1.drew)
    have D5 := DR.out.below B5
    obtain ⟨d0, d1, d2, d3, d4⟩ := D5.c
    have fz : ∀ o, (F w1.drew).frozen? ⟨w.heap.size + 1 + 1, o, none⟩ = false := fun o => D5.f (o := o)
    have B6 := B4.trans (B5.mono B4.size)
    go_wp2
    refine bodyPost_ret (v := .tuple #[.agg #[.int .i64 3, .int .i64 0, .int .u64 (r : Nat), .string ⟨#[]⟩, .slice none 0 0], .int .i64 0]) (by simp [results, Tryz.results24, go_sem, World.cell?_setCell_same, World.cell?_setCell_other, d0, d1, d2, d3, d4]) rfl ⟨rfl, set5B B6 hg _ _ _ _ _⟩)
end Go.Proofs.YtajagjcfmaggiaaGreatDoor.Dt
/- The package's Label and the document's, of a value: one answer; the conditions: what the package's value is, the table of powers, the number within 64 bits. -/
namespace Go.Proofs.YtajagjcfmaggiaaGreatDoor.Dt
open Go.RowKit
def P10 (w : World) : Prop := Lib.TabIs Tryz.prog w "internal/strconv.uint64pow10" .u64 Lib.pow10Tab
theorem P10.below {w w' : World} (h : P10 w) (hb : Below w.heap.size w w') : P10 w' := ((Lib.tabBelow_of_tabIs h).on hb).here
def I64 (i : Int) : Prop := -9223372036854775808 ≤ i ∧ i ≤ 9223372036854775807
theorem fmt_int (i : Int) (h : I64 i) (w : World) (hT : P10 w) : Calls Tryz.prog 69 #[.int .i64 i, .int .i64 10] w fun e w' => e = .returned (.string ⟨(Lib.itoa i).toArray⟩) ∧ Below w.heap.size w w' := by
  refine (Tryz.strconv_FormatInt_10 i h.1 h.2 w hT).mono ?_
  rintro e w' ⟨he, k, os, rfl⟩
  exact ⟨he, Lib.below_grow _ w (Nat.le_refl _) k os⟩
theorem digits_any (i : Int) (h : I64 i) (w : World) (hT : P10 w) : Calls Tryz.prog 44 #[.int .i64 i] w fun e w' => e = .returned (.string ⟨(Lib.itoa i).toArray⟩) ∧ Below w.heap.size w w' := by
  have HF := Lib.hid (fmt_int i h w hT)
  clear hT h
  go_enter Tryz.func44, Tryz.ntmps44
  go_wp2_with fail
  refine HF.out.mono ?_
  rintro e w1 ⟨rfl, b1⟩
  go_wp2
  go_ret
  exact ⟨rfl, b1⟩
theorem not_long (i : Int) (h : I64 i) (k : Nat) (hk : k ≤ 1000) : ¬ 9223372036854775807 < k + (Lib.itoa i).length := by
  have := Lib.itoa_length_le i h.1 h.2
  omega
/-- A word and a number. -/
def wnum (s : ByteArray) (i : Int) : ByteArray := s ++ ⟨(Lib.itoa i).toArray⟩
def keyW : ByteArray := ⟨#[107, 101, 121, 32]⟩
theorem nameKey (i : Int) (h : I64 i) (w : World) (hT : P10 w) : Calls Tryz.prog 211 #[.int .i64 i] w fun e w' => e = .returned (.string (wnum keyW i)) ∧ Below w.heap.size w w' := by
  have HF := Lib.hid (fmt_int i h w hT)
  have hl := not_long i h 4 (by decide)
  clear hT h
  go_enter Tryz.func211, Tryz.ntmps211
  go_wp2_with fail
  refine HF.out.mono ?_
  rintro e w1 ⟨rfl, b1⟩
  go_wp2
  go_ret
  exact ⟨rfl, b1⟩
theorem nameName (s : ByteArray) (w : World) : Calls Tryz.prog 215 #[.string s] w fun e w' => e = .returned (.string s) ∧ Below w.heap.size w w' := by
  go_enter Tryz.func215, Tryz.ntmps215
  go_wp2
  go_ret
  exact ⟨rfl, Below.refl _ _⟩
theorem nameFail (c : Int) (s : ByteArray) (w : World) : Calls Tryz.prog 221 #[.agg #[.int .i64 c, .string s]] w fun e w' => e = .returned (.string s) ∧ Below w.heap.size w w' := by
  go_enter Tryz.func221, Tryz.ntmps221
  go_wp2
  go_ret
  first | exact ⟨rfl, Below.refl _ _⟩ | exact ⟨rfl, below1 _ _⟩
/-- What Label answers. -/
def labP (k i : Int) (s : ByteArray) : ByteArray × Int := if k = 5 ∨ k = 10 then (s, 0) else if k = 2 then (wnum keyW i, 0) else (⟨#[]⟩, 12)
set_option maxRecDepth 100000 in
set_option maxHeartbeats 1000000 in
theorem refLab (k i u : Int) (s0 : ByteArray) (ad : Option Addr) (len cap : Nat) (w : World) (hi : I64 i) (hT : P10 w) :
    Calls Tryz.prog 29 #[.agg #[.int .i64 k, .int .i64 i, .int .u64 u, .string s0, .slice ad len cap]] w fun e w' => e = .returned (.tuple #[.string (labP k i s0).1, .int .i64 (labP k i s0).2]) ∧ Below w.heap.size w w' := by
  have b0 := below1 w (.cells #[.int .i64 k, .int .i64 i, .int .u64 u, .string s0, .slice ad len cap] 25)
  have HD := Lib.hid (digits_any i hi _ (hT.below b0))
  have hR : ∀ A, labP k i s0 = A → (Calls Tryz.prog 29 #[.agg #[.int .i64 k, .int .i64 i, .int .u64 u, .string s0, .slice ad len cap]] w fun e w' => e = .returned (.tuple #[.string A.1, .int .i64 A.2]) ∧ Below w.heap.size w w') → (Calls Tryz.prog 29 #[.agg #[.int .i64 k, .int .i64 i, .int .u64 u, .string s0, .slice ad len cap]] w fun e w' => e = .returned (.tuple #[.string (labP k i s0).1, .int .i64 (labP k i s0).2]) ∧ Below w.heap.size w w') := fun A hA h => by rw [hA]; exact h
  have hl := not_long i hi 4 (by decide)
  clear hT hi
  by_cases h5 : k = 5
  · subst h5
    refine hR (s0, 0) (by simp [labP]) ?_
    clear hR HD
    go_enter Tryz.func29, Tryz.ntmps29
    go_wp2
    go_ret2
    exact ⟨rfl, b0⟩
  by_cases h10 : k = 10
  · subst h10
    refine hR (s0, 0) (by simp [labP]) ?_
    clear hR HD
    go_enter Tryz.func29, Tryz.ntmps29
    go_wp2
    go_ret2
    exact ⟨rfl, b0⟩
  by_cases h2 : k = 2
  · subst h2
    refine hR (wnum keyW i, 0) (by simp [labP]) ?_
    clear hR
    go_enter Tryz.func29, Tryz.ntmps29
    go_wp2_with fail
    refine HD.out.mono ?_
    rintro e w1 ⟨rfl, b1⟩
    go_wp2
    go_ret2
    exact ⟨rfl, b0.trans (b1.mono b0.size)⟩
  · refine hR (⟨#[]⟩, 12) (by simp [labP, *]) ?_
    clear hR HD
    go_enter Tryz.func29, Tryz.ntmps29
    go_wp2
    go_ret2
    exact ⟨rfl, b0⟩
end Go.Proofs.YtajagjcfmaggiaaGreatDoor.Dt
/- A valid value's kind is one of the fourteen; the conditions: its tree in memory, and valid. -/
namespace Go.Proofs.YtajagjcfmaggiaaGreatDoor
open Go.RowKit

/-- A right value's kind is one. -/
theorem kind_in {k i u : Int} {z len : Nat} (h : Dt.okB k i u z len = true) : 0 ≤ k ∧ k ≤ 13 := by
  unfold Dt.okB at h
  by_cases hk : 0 ≤ k ∧ k ≤ 13
  · exact hk
  · rw [if_neg (by omega), if_neg (by omega), if_neg (by omega), if_neg (by omega), if_neg (by omega), if_neg (by omega), if_neg (by omega), if_neg (by omega), if_neg (by omega)] at h
    cases h
theorem valid_kind {w : World} {n : Nat} {d : Dt.Tr n} {k i u : Int} {s : ByteArray} {ad : Option Addr} {len cap : Nat} (h : Dt.Rep w n [.int .i64 k, .int .i64 i, .int .u64 u, .string s, .slice ad len cap] d) (hv : Dt.vB n d = true) : 0 ≤ k ∧ k ≤ 13 := by
  have S := Dt.say 16 n d 1 4096 (by decide) (by decide) (by decide)
  have hr := (S.down hv).1
  match n, d, h with
  | n + 1, d, h =>
    obtain ⟨ad', cap', e, -, -, -, -⟩ := h
    simp only [List.cons.injEq, and_true] at e
    obtain ⟨e0, e1, e2, e3, e4⟩ := e
    simp only [Dt.rgt, Bool.and_eq_true] at hr
    have := kind_in hr.1
    injection e0 with _ e0
    rw [e0]; exact this

end Go.Proofs.YtajagjcfmaggiaaGreatDoor
/- Values' trees, mapped: what comes of each map, as the document's table has it, and that what comes is valid; no program, no condition but those that each theorem names. -/
namespace Go.Proofs.YtajagjcfmaggiaaGreatDoor
open Go.RowKit

theorem vwL_of {T : Type} (v : T → Int → Bool × Int) (p : T → Int × Int) : ∀ (ts : List T) (l a d : Int), (∀ t ∈ ts, ∀ l', (p t).1 ≤ l' → v t l' = (true, l' - (p t).1)) → (∀ t, 1 ≤ (p t).1) → (Dt.ptsL p ts a d).1 - a ≤ l → Dt.vwL v ts l = (true, l - ((Dt.ptsL p ts a d).1 - a)) := by
  intro ts
  induction ts with
  | nil => intro l a d _ _ _; simp [Dt.vwL, Dt.ptsL]
  | cons t ts ih =>
    intro l a d hv hp hl
    simp only [Dt.ptsL] at hl ⊢
    have h1 := Dt.ptsL_fst p hp ts (a + (p t).1) (max d (p t).2)
    have hb := h1.1
    have e := hv t (List.mem_cons_self ..) l (by omega)
    rw [Dt.vwL_cons, e]
    simp only [if_true]
    rw [ih (l - (p t).1) (a + (p t).1) (max d (p t).2) (fun t' ht' => hv t' (List.mem_cons_of_mem _ ht')) hp (by omega)]
    congr 1
    omega
theorem vw_of : ∀ (f n : Nat) (t : Dt.Tr n) (left : Int), Dt.rgt n t = true → (Dt.pts n t).1 ≤ left → (Dt.pts n t).2 ≤ f → Dt.vw f n t left = (true, left - (Dt.pts n t).1) := by
  intro f
  induction f with
  | zero =>
    intro n t left _ _ h
    cases n with
    | zero => exact t.elim
    | succ n =>
      have := (Dt.ptsL_snd (Dt.pts n) t.ks 1 0).1
      simp only [Dt.pts] at h
      omega
  | succ f ih =>
    intro n t left hr hp hd
    cases n with
    | zero => exact t.elim
    | succ n =>
      simp only [Dt.rgt, Bool.and_eq_true, List.all_eq_true] at hr
      have h1 := Dt.pts_pos1 (n + 1) t
      have h2 := (Dt.ptsL_snd (Dt.pts n) t.ks 1 0).2
      simp only [Dt.pts] at hp hd h1
      simp only [Dt.vw, Dt.pts]
      rw [if_neg (by rintro (h | h); · omega
                     · rw [hr.1] at h; cases h)]
      have e := vwL_of (fun t l => Dt.vw f n t l) (Dt.pts n) t.ks (left - 1) 1 0 (fun t' ht' l' hl' => ih n t' l' (hr.2 t' ht') hl' (by have := h2 t' ht'; omega)) (Dt.pts_pos1 n) (by omega)
      rw [e]
      congr 1
      omega
theorem vB_of {n : Nat} {t : Dt.Tr n} (h1 : Dt.rgt n t = true) (h2 : (Dt.pts n t).1 ≤ 4096) (h3 : (Dt.pts n t).2 ≤ 16) : Dt.vB n t = true := by
  have := vw_of 16 n t 4096 h1 h2 h3
  show (Dt.vw 16 n t 4096).1 = true
  rw [this]
theorem vB_to {n : Nat} {t : Dt.Tr n} (h : Dt.vB n t = true) : Dt.rgt n t = true ∧ (Dt.pts n t).1 ≤ 4096 ∧ (Dt.pts n t).2 ≤ 16 := by
  have S := Dt.say 16 n t 1 4096 (by decide) (by decide) (by decide)
  obtain ⟨a, b, -⟩ := S.down h
  obtain ⟨p, c, d, e, f⟩ := S.fit b
  rw [p]
  exact ⟨a, by simpa using d, by simp; omega⟩

/-- The numbers within 64 bits. -/
def i64A : (n : Nat) → Dt.Tr n → Prop
  | 0, _ => False
  | n + 1, t => Dt.I64 t.it ∧ ∀ s ∈ t.ks, i64A n s
/-- A valid value as it reads. -/
structure Ok (n : Nat) (t : Dt.Tr n) : Prop where
  v : Dt.vB n t = true
  r6 : Dt.r64 n t
  i6 : i64A n t
def nd {n : Nat} (k i u : Int) (s : ByteArray) (ks : List (Dt.Tr n)) : Dt.Tr (n + 1) := ((k, i, u, s, ks) : Int × Int × Int × ByteArray × List (Dt.Tr n))
def lsT {n : Nat} (t : Dt.Tr n) : Dt.Tr (n + 1) := nd 8 0 0 ⟨#[]⟩ [t]
def txT (n : Nat) (s : ByteArray) : Dt.Tr (n + 1) := nd 4 0 0 s []
def prT {n : Nat} (s : ByteArray) (t : Dt.Tr (n + 1)) : Dt.Tr (n + 1 + 1) := nd 9 0 0 ⟨#[]⟩ [txT n s, t]
def kyK (k : Int) : Int := if k = 1 then 2 else if k = 4 then 5 else k
def kyT {n : Nat} (t : Dt.Tr (n + 1)) : Dt.Tr (n + 1) := nd (kyK t.kd) t.it t.ut t.tx t.ks
/-- A result. -/
structure Rs where
  er : Int
  pk : Int
  pn : Int
  has : Bool
  n : Nat
  t : Dt.Tr n
def bad (er pk pn : Int) : Rs := ⟨er, pk, pn, false, 1, lfT 0 0⟩
def good {n : Nat} (t : Dt.Tr n) : Rs := ⟨0, 0, 0, true, n, t⟩
def hd1 {n : Nat} : List (Dt.Tr n) → Rs
  | [] => bad 110 3 0
  | t :: _ => good t
/-- The name of a key. -/
def Lb : Type := { f : Int → ByteArray // ∀ i, Dt.I64 i → (f i).size ≤ 65535 }
def labL (L : Lb) (k i : Int) (s : ByteArray) : ByteArray × Int := if k = 5 ∨ k = 10 then (s, 0) else if k = 2 then (L.1 i, 0) else (⟨#[]⟩, 12)
theorem key_size (i : Int) (h : Dt.I64 i) : (Dt.wnum Dt.keyW i).size ≤ 65535 := by
  have := Lib.itoa_length_le i h.1 h.2
  simp [Dt.wnum, Dt.keyW, ByteArray.size_append]
  have e : (ByteArray.mk (Lib.itoa i).toArray).size = (Lib.itoa i).length := by simp [ByteArray.size]
  have e' : (ByteArray.mk #[107, 101, 121, 32]).size = 4 := rfl
  omega
/-- The name that the document gives a key. -/
def keyL : Lb := ⟨Dt.wnum Dt.keyW, key_size⟩
theorem labL_key (k i : Int) (s : ByteArray) : labL keyL k i s = Dt.labP k i s := rfl
/-- What comes of a map. -/
def mapP (L : Lb) (op : Int) (tp : ByteArray) {m : Nat} (t : Dt.Tr (m + 1)) : Rs :=
  if op = 1 then (if impl t.kd 5 = true then good (Dt.addT t.kd t.it t.ut t.kd t.it t.ut) else bad 110 2 (lackM t.kd 5))
  else if op = 2 then (if Dt.vB _ (lsT t) = true then good (lsT t) else bad 14 0 0)
  else if op = 3 then (if t.kd = 11 then hd1 t.ks else if t.kd = 12 then bad 110 3 0 else bad 110 2 (lackM t.kd 3))
  else if op = 4 then (if (Dt.lenP t.kd t.tx.size t.ks.length).2 = 0 then good (lfT 1 (Dt.lenP t.kd t.tx.size t.ks.length).1) else bad 12 0 0)
  else if op = 5 then (if (labL L t.kd t.it t.tx).2 = 0 then good (txT 0 (labL L t.kd t.it t.tx).1) else bad 12 0 0)
  else if op = 6 then (if t.kd = 6 then good (nd 6 (wrap64 (1 - t.it)) t.ut t.tx t.ks) else bad 110 2 t.kd)
  else if op = 7 then (if Dt.vB _ (prT tp t) = true then good (prT tp t) else bad 14 0 0)
  else if op = 8 then good (kyT t)
  else bad 12 0 0

theorem Ok.kind {m : Nat} {t : Dt.Tr (m + 1)} (h : Ok (m + 1) t) : 0 ≤ t.kd ∧ t.kd ≤ 13 := by
  have := (vB_to h.v).1
  simp only [Dt.rgt, Bool.and_eq_true] at this
  exact kind_in this.1
theorem Ok.ok {m : Nat} {t : Dt.Tr (m + 1)} (h : Ok (m + 1) t) : Dt.okB t.kd t.it t.ut t.tx.size t.ks.length = true := by
  have := (vB_to h.v).1
  simp only [Dt.rgt, Bool.and_eq_true] at this
  exact this.1
theorem Ok.kid {m : Nat} {t : Dt.Tr (m + 1)} (h : Ok (m + 1) t) {s : Dt.Tr m} (hs : s ∈ t.ks) : Ok m s := by
  obtain ⟨a, b, c⟩ := vB_to h.v
  simp only [Dt.rgt, Bool.and_eq_true, List.all_eq_true] at a
  have d := (Dt.pts_kids b).2 s hs
  have e := (Dt.ptsL_snd (Dt.pts m) t.ks 1 0).2 s hs
  simp only [Dt.pts] at c
  exact ⟨vB_of (a.2 s hs) d (by omega), h.r6.2 s hs, h.i6.2 s hs⟩
theorem ok_leaf {m : Nat} (k i u : Int) (s : ByteArray) (h : Dt.okB k i u s.size 0 = true) (h6 : 0 ≤ u ∧ u < 18446744073709551616) (hi : Dt.I64 i) : Ok (m + 1) (nd k i u s []) :=
  ⟨vB_of (by simp only [Dt.rgt, Bool.and_eq_true]; exact ⟨h, rfl⟩) (by simp [Dt.pts, Dt.ptsL, nd, Dt.Tr.ks]) (by simp [Dt.pts, Dt.ptsL, nd, Dt.Tr.ks]), ⟨h6, fun _ h => by cases h⟩, ⟨hi, fun _ h => by cases h⟩⟩
theorem ok_like {m : Nat} {t : Dt.Tr (m + 1)} (h : Ok (m + 1) t) (k i : Int) (hk : Dt.okB k i t.ut t.tx.size t.ks.length = true) (hi : Dt.I64 i) : Ok (m + 1) (nd k i t.ut t.tx t.ks) := by
  obtain ⟨a, b, c⟩ := vB_to h.v
  simp only [Dt.rgt, Bool.and_eq_true] at a
  exact ⟨vB_of (by simp only [Dt.rgt, Bool.and_eq_true]; exact ⟨hk, a.2⟩) b c, ⟨h.r6.1, h.r6.2⟩, ⟨hi, h.i6.2⟩⟩
theorem kind_cases {k : Int} (h : 0 ≤ k ∧ k ≤ 13) : k = 0 ∨ k = 1 ∨ k = 2 ∨ k = 3 ∨ k = 4 ∨ k = 5 ∨ k = 6 ∨ k = 7 ∨ k = 8 ∨ k = 9 ∨ k = 10 ∨ k = 11 ∨ k = 12 ∨ k = 13 := by omega
theorem impl5 {k : Int} (h : 0 ≤ k ∧ k ≤ 13) : impl k 5 = decide (k = 1 ∨ k = 3) := by
  rcases kind_cases h with rfl | rfl | rfl | rfl | rfl | rfl | rfl | rfl | rfl | rfl | rfl | rfl | rfl | rfl <;> decide
theorem bad_ok (er pk pn : Int) : Ok (bad er pk pn).n (bad er pk pn).t := ok_leaf (m := 0) 0 0 0 ⟨#[]⟩ (by decide) (by decide) (by constructor <;> decide)
theorem wrap_I64 (x : Int) : Dt.I64 (wrap64 x) := by
  unfold wrap64 Dt.I64
  omega
theorem u00 : (0 : Int) ≤ 0 ∧ (0 : Int) < 18446744073709551616 := by decide
theorem i00 : Dt.I64 0 := by constructor <;> decide
theorem okB_size {k i u : Int} {z len : Nat} (h : Dt.okB k i u z len = true) : z ≤ 65535 := by
  rcases kind_cases (kind_in h) with rfl | rfl | rfl | rfl | rfl | rfl | rfl | rfl | rfl | rfl | rfl | rfl | rfl | rfl <;> simp [Dt.okB] at h <;> omega
theorem Ok.list {n : Nat} {t : Dt.Tr n} (h : Ok n t) (hv : Dt.vB _ (lsT t) = true) : Ok (n + 1) (lsT t) :=
  ⟨hv, ⟨u00, fun s hs => by
    have : s = t := by simpa [lsT, nd, Dt.Tr.ks] using hs
    rw [this]; exact h.r6⟩, ⟨i00, fun s hs => by
    have : s = t := by simpa [lsT, nd, Dt.Tr.ks] using hs
    rw [this]; exact h.i6⟩⟩
theorem Ok.pair {m : Nat} {t : Dt.Tr (m + 1)} (h : Ok (m + 1) t) (tp : ByteArray) (hv : Dt.vB _ (prT tp t) = true) : Ok (m + 1 + 1) (prT tp t) :=
  ⟨hv, ⟨u00, fun s hs => by
    have : s = txT m tp ∨ s = t := by simpa [prT, nd, Dt.Tr.ks] using hs
    rcases this with rfl | rfl
    · exact ⟨u00, fun _ h => by cases h⟩
    · exact h.r6⟩, ⟨i00, fun s hs => by
    have : s = txT m tp ∨ s = t := by simpa [prT, nd, Dt.Tr.ks] using hs
    rcases this with rfl | rfl
    · exact ⟨i00, fun _ h => by cases h⟩
    · exact h.i6⟩⟩
theorem Ok.size {m : Nat} {t : Dt.Tr (m + 1)} (h : Ok (m + 1) t) : t.tx.size ≤ 65535 ∧ t.ks.length ≤ 4096 := ⟨okB_size h.ok, (Dt.pts_kids (vB_to h.v).2.1).1⟩
theorem okB_key {k i u : Int} {z len : Nat} (h : Dt.okB k i u z len = true) : Dt.okB (kyK k) i u z len = true := by
  rcases kind_cases (kind_in h) with rfl | rfl | rfl | rfl | rfl | rfl | rfl | rfl | rfl | rfl | rfl | rfl | rfl | rfl <;> simpa [kyK, Dt.okB] using h
theorem lab_size (L : Lb) {m : Nat} {t : Dt.Tr (m + 1)} (h : Ok (m + 1) t) : (labL L t.kd t.it t.tx).1.size ≤ 65535 := by
  unfold labL
  split
  · exact h.size.1
  · split
    · exact L.2 t.it h.i6.1
    · decide
theorem okB6_to {i u : Int} {z len : Nat} (h : Dt.okB 6 i u z len = true) : (i = 0 ∨ i = 1) ∧ u = 0 ∧ z = 0 ∧ len = 0 := by simpa [Dt.okB] using h
theorem okB6 {i u : Int} {z len : Nat} (e : i = 0 ∨ i = 1) (h : u = 0 ∧ z = 0 ∧ len = 0) : Dt.okB 6 i u z len = true := by
  obtain ⟨rfl, rfl, rfl⟩ := h
  simp [Dt.okB]; exact e
def OkR (r : Rs) : Prop := Ok r.n r.t
theorem map_ok (L : Lb) (op : Int) (tp : ByteArray) {m : Nat} (t : Dt.Tr (m + 1)) (h : Ok (m + 1) t) : OkR (mapP L op tp t) := by
  unfold mapP
  split
  · split
    · rename_i hi
      rw [impl5 h.kind] at hi
      have hi := of_decide_eq_true hi
      show Ok 1 (Dt.addT t.kd t.it t.ut t.kd t.it t.ut)
      rcases hi with e | e
      · rw [e]
        exact ok_leaf (m := 0) 1 (wrap64 (t.it + t.it)) 0 ⟨#[]⟩ (by simp [Dt.okB]; rfl) (by decide) (wrap_I64 _)
      · rw [e]
        exact ok_leaf (m := 0) 3 0 _ ⟨#[]⟩ (by simp [Dt.okB]; rfl) ⟨by omega, by have := Dt.addF_lt t.ut.toNat t.ut.toNat; omega⟩ (by constructor <;> decide)
    · exact bad_ok _ _ _
  split
  · split
    · rename_i hv
      exact h.list hv
    · exact bad_ok _ _ _
  split
  · split
    · cases hk : t.ks with
      | nil => exact bad_ok _ _ _
      | cons s l => exact h.kid (by rw [hk]; exact List.mem_cons_self ..)
    · split <;> exact bad_ok _ _ _
  split
  · split
    · refine ok_leaf (m := 0) 1 _ 0 ⟨#[]⟩ (by simp [Dt.okB]; rfl) (by decide) ?_
      have := h.size
      unfold Dt.lenP Dt.I64
      repeat' split
      all_goals simp
      all_goals omega
    · exact bad_ok _ _ _
  split
  · split
    · exact ok_leaf (m := 0) 4 0 0 _ (by simp [Dt.okB]; exact lab_size L h) (by decide) (by constructor <;> decide)
    · exact bad_ok _ _ _
  split
  · split
    · rename_i hk
      have := h.ok
      rw [hk] at this
      have hb := okB6_to this
      have e : wrap64 (1 - t.it) = 0 ∨ wrap64 (1 - t.it) = 1 := by unfold wrap64; omega
      exact ok_like h 6 _ (okB6 e hb.2) (wrap_I64 _)
    · exact bad_ok _ _ _
  split
  · split
    · rename_i hv
      exact h.pair tp hv
    · exact bad_ok _ _ _
  split
  · exact ok_like h _ _ (okB_key h.ok) h.i6.1
  · exact bad_ok _ _ _
end Go.Proofs.YtajagjcfmaggiaaGreatDoor
