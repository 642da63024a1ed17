/- Who leaves a row of messages; the conditions: the row in a block of its own. -/
import Derived.Test.YtdgjhclncjoonaaQf
namespace Go.Proofs.Ytdgjhclncjoonaa
open Go.RowKit

/-- A row of messages in a block of its own. -/
structure Mq (g cap : Nat) (F : Nat → Prop) (l : List Ms) (w : World) : Prop where
  n : l.length ≤ cap
  c : cap ≤ maxLen
  b : ∃ cur : Array Value, Bk w g cur 30 ∧ cur.size = cap * 13 ∧ ∀ q x, l[q]? = some x → ∃ d : Bo, (∀ i, i < 13 → cur[q * 13 + i]? = (x.cs d)[i]?) ∧ Rz F w x.n d.vs x.t
theorem Mq.lt {g cap : Nat} {F : Nat → Prop} {l : List Ms} {w : World} (h : Mq g cap F l w) : g < w.heap.size := by obtain ⟨c, h, -⟩ := h.b; exact h.lt
theorem Mq.to {g cap : Nat} {F F' : Nat → Prop} {l : List Ms} {w w' : World} (h : Mq g cap F l w) (hg : w'.heap[g]? = w.heap[g]?) (hF : ∀ b, F b → F' b ∧ w'.heap[b]? = w.heap[b]?) : Mq g cap F' l w' := by
  obtain ⟨c, h1, h2, h3⟩ := h.b
  refine ⟨h.n, h.c, c, hg.trans h1, h2, fun q x hq => ?_⟩
  obtain ⟨d, k1, k2⟩ := h3 q x hq
  exact ⟨d, k1, Rz.to hF _ _ _ k2⟩
theorem Mq.at {g cap : Nat} {F : Nat → Prop} {l : List Ms} {w : World} (h : Mq g cap F l w) (q : Nat) (x : Ms) (hq : l[q]? = some x) : ∃ d : Bo, C13 w g (q * 13) x d ∧ Rz F w x.n d.vs x.t := by
  obtain ⟨c, h1, h2, h3⟩ := h.b
  obtain ⟨d, k1, k2⟩ := h3 q x hq
  exact ⟨d, C13.of fun i hi => by rw [h1.c]; exact k1 i hi, k2⟩
theorem Mq.mz {g cap : Nat} {F F' : Nat → Prop} {l : List Ms} {w : World} (h : Mq g cap F l w) (hg : F' g) (hF : ∀ b, F b → F' b) : Mz F' w (some ⟨g, 0, none⟩) l := by
  refine .inr ⟨g, 0, rfl, hg, fun j x hj => ?_⟩
  obtain ⟨d, c, r⟩ := h.at j x hj
  exact ⟨d, by rw [Nat.zero_add]; exact c, Rz.to (fun b hb => ⟨hF b hb, rfl⟩) _ _ _ r⟩
theorem cs_one (x : Ms) (d : Bo) (i : Nat) (v : Value) (h : (x.cs d)[i]? = some v) : v.oneCell' = true := by
  have hm : v ∈ (x.cs d).toList := by
    rw [← Array.getElem?_toList] at h
    exact List.mem_of_getElem? h
  simp at hm
  rcases hm with rfl | rfl | rfl | rfl | rfl | rfl | rfl | rfl | rfl | rfl | rfl | rfl | rfl <;> rfl
theorem Mq.one {F : Nat → Prop} {l : List Ms} {w : World} {cur : Array Value} (h3 : ∀ q x, l[q]? = some x → ∃ d : Bo, (∀ i, i < 13 → cur[q * 13 + i]? = (x.cs d)[i]?) ∧ Rz F w x.n d.vs x.t) : ∀ i v, i < l.length * 13 → cur[i]? = some v → v.oneCell' = true := fun i v hi hv => by
  obtain ⟨x, hx⟩ : ∃ x, l[i / 13]? = some x := ⟨_, List.getElem?_eq_getElem (by omega)⟩
  obtain ⟨d, k1, -⟩ := h3 _ x hx
  have := k1 (i % 13) (by omega)
  rw [show i / 13 * 13 + i % 13 = i by omega, hv] at this
  exact cs_one x d _ v this.symm
/-- The priorities of a row. -/
def prl (l : List Ms) (c : Nat) : Int := (l[c]?.map Ms.pr).getD 0
theorem prl_at {l : List Ms} {c : Nat} {x : Ms} (h : l[c]? = some x) : prl l c = x.pr := by simp [prl, h]
/-- One taken out. -/
theorem Mq.out {g cap : Nat} {F : Nat → Prop} {l : List Ms} {w w' : World} {k : Nat} {cur cur' : Array Value} (hn : l.length ≤ cap) (hc : cap ≤ maxLen) (hk : k < l.length) (hz : cur.size = cap * 13)
    (h3 : ∀ q x, l[q]? = some x → ∃ d : Bo, (∀ i, i < 13 → cur[q * 13 + i]? = (x.cs d)[i]?) ∧ Rz F w x.n d.vs x.t)
    (h : Bk w' g cur' 30) (h1 : cur'.size = cur.size) (h4 : ∀ i, i < k * 13 → cur'[i]? = cur[i]?) (h5 : ∀ i, k * 13 ≤ i → i < (l.length - 1) * 13 → cur'[i]? = cur[i + 13]?) (hF : ∀ b, F b → w'.heap[b]? = w.heap[b]?) : Mq g cap F (l.eraseIdx k) w' := by
  have hl : (l.eraseIdx k).length = l.length - 1 := List.length_eraseIdx_of_lt hk
  refine ⟨by omega, hc, cur', h, by omega, fun q x hq => ?_⟩
  have hql : q < l.length - 1 := by rw [← hl]; exact (List.getElem?_eq_some_iff.1 hq).1
  by_cases hqk : q < k
  · rw [List.getElem?_eraseIdx_of_lt hqk] at hq
    obtain ⟨d, k1, k2⟩ := h3 q x hq
    exact ⟨d, fun i hi => (h4 _ (by omega)).trans (k1 i hi), Rz.to (fun b hb => ⟨hb, hF b hb⟩) _ _ _ k2⟩
  · rw [List.getElem?_eraseIdx_of_ge (by omega)] at hq
    obtain ⟨d, k1, k2⟩ := h3 _ x hq
    refine ⟨d, fun i hi => ?_, Rz.to (fun b hb => ⟨hb, hF b hb⟩) _ _ _ k2⟩
    rw [h5 _ (by omega) (by omega), show q * 13 + i + 13 = (q + 1) * 13 + i by omega]
    exact k1 i hi
theorem infoW : (Try.prog.info? 65).map (fun i => (i.zero, i.size, i.bytes)) = some (some (.agg #[.int .i64 0, .int .i64 0]), 2, 16) := by kernel_rfl
theorem infoW_parts : ∃ i0, Try.prog.info? 65 = some i0 ∧ i0.zero = some (.agg #[.int .i64 0, .int .i64 0]) ∧ i0.size = 2 ∧ i0.bytes = 16 := by
  have h := infoW
  cases hi : Try.prog.info? 65 with
  | none => rw [hi] at h; cases h
  | some i0 =>
    rw [hi] at h
    simp only [Option.map_some, Option.some.injEq, Prod.mk.injEq] at h
    exact ⟨i0, rfl, h.1, h.2.1, h.2.2⟩
/-- A new row of pairs holds noughts. -/
theorem Pq.new (w : World) (n : Nat) : Pq (w.alloc (.cells (madeCells (Value.cells (.agg #[.int .i64 0, .int .i64 0])) (n * 2)) 65)) w.heap.size n (fun _ => (0, 0)) := by
  refine ⟨_, Bk.new w _ _, size_madeCells _ _, fun i hi => ?_⟩
  have : ∀ j, j < n * 2 → (madeCells (Value.cells (.agg #[.int .i64 0, .int .i64 0])) (n * 2))[j]? = some (.int .i64 0) := fun j hj => by
    unfold madeCells
    rw [Array.getElem?_map, show (Array.range (n * 2))[j]? = some j by simp [hj]]
    have h2 : j % 2 = 0 ∨ j % 2 = 1 := by omega
    show some ((#[.int .i64 0, .int .i64 0] : Array Value)[j % 2]!) = _
    rcases h2 with e | e <;> rw [e] <;> rfl
  exact ⟨this _ (by omega), this _ (by omega)⟩
/-- Pairs up to j. -/
def upto (l : List Ms) (j : Nat) : Nat → Int × Int := fun c => if c < j then (prl l c, (c : Int)) else (0, 0)
theorem upto_zero (l : List Ms) : upto l 0 = fun _ => (0, 0) := by funext c; simp [upto]
theorem upto_succ (l : List Ms) (j : Nat) : (fun q => if q = j then (prl l j, (j : Int)) else upto l j q) = upto l (j + 1) := by
  funext c
  unfold upto
  by_cases e : c = j
  · subst e; rw [if_pos rfl, if_pos (by omega)]
  · rw [if_neg e]
    by_cases e2 : c < j
    · rw [if_pos e2, if_pos (by omega)]
    · rw [if_neg e2, if_neg (by omega)]
theorem upto_im (l : List Ms) (n : Nat) : Im n (upto l n) (fun c => (prl l c, (c : Int))) := fun v => by
  constructor
  · rintro ⟨q, hq, e⟩; exact ⟨q, hq, by rw [← e]; unfold upto; rw [if_pos hq]⟩
  · rintro ⟨q, hq, e⟩; exact ⟨q, hq, by rw [← e]; unfold upto; rw [if_pos hq]⟩

set_option maxRecDepth 100000 in
set_option maxHeartbeats 4000000 in
theorem leave_any (up : Bool) (g cap n : Nat) (F : Nat → Prop) (l : List Ms) (w : World) (h : Mq g cap F l w) (hln : l.length = n) (hn0 : 0 < n) (hn : n ≤ 1000000) (hF : ∀ b, F b → b < w.heap.size ∧ b ≠ g) :
    Calls Try.prog 25 #[.slice (some ⟨g, 0, none⟩) n cap, gv up] w fun e w' => ∃ (k : Nat) (x : Ms) (d : Bo), Best up (prl l) n k ∧ l[k]? = some x ∧ e = .returned (.tuple #[.slice (some ⟨g, 0, none⟩) (n - 1) cap, .agg (x.cs d)]) ∧ Mq g cap F (l.eraseIdx k) w' ∧ Rz F w' x.n d.vs x.t ∧ Ke g w w' := by
  obtain ⟨i0, hi0, hze, hsz, hby⟩ := infoW_parts
  have eK : ((n : Int)).toNat = n := by omega
  have hmk : ∀ w : World, (Instr.makeSlice 63 (.int .i64 (n : Int)) (.int .i64 (n : Int))).run Try.prog w = .ok (.slice (some ⟨w.heap.size, 0, none⟩) n n) (w.alloc (.cells (madeCells (Value.cells (.agg #[.int .i64 0, .int .i64 0])) (n * 2)) 65)) := fun w => by
    have := run_make (P := Try.prog) w 63 65 i0 _ Try.underlying63 hi0 hze .i64 .i64 (n : Int) (n : Int) (by omega) (Int.le_refl _) (by rw [hby]; omega) (by omega)
    rw [eK, hsz] at this
    exact this
  have hsf : ∀ (a : Addr) (f : Fn) (fs cs : Array Value) (m : Mode) (w : World), (store a (.func f fs cs) m).run Try.prog w = stored Try.prog w a (.func f fs cs) m := fun a f fs cs m w => run_store Try.prog w a _ m rfl
  obtain ⟨fq, hfq⟩ : ∃ fq, fq = gq up := ⟨_, rfl⟩
  have HG : Hid (gv up = .func (.func fq) #[] #[]) := by rw [hfq]; rfl
  have H0 := Lib.hid h
  have HF := Lib.hid hF
  have HL := Lib.hid hln
  rw [HG.out]
  clear h hF hln hfq eK hi0 hze hsz hby
  go_enter Try.func25, Try.ntmps25
  go_wp2_with fail
  obtain ⟨W, hW⟩ : ∃ W, W = ((w.alloc (.cells #[.func (.func fq) #[] #[]] 59)).alloc (.cells #[.int .i64 0, .string ⟨#[]⟩, .int .i64 0, .int .i64 0, .int .u64 0, .string ⟨#[]⟩, .slice none 0 0, .int .i64 0, .int .i64 0, .string ⟨#[]⟩, .int .i64 0, .int .i64 0, .int .i64 0] 30)).alloc (.cells (madeCells #[.int .i64 0, .int .i64 0] (n * 2)) 65) := ⟨_, rfl⟩
  rw [← hW]
  have B0 : Below w.heap.size w W := by rw [hW]; exact (below2 w _ _).alloc (by simp; omega) _
  have G0 : Bk W w.heap.size #[.func (.func fq) #[] #[]] 59 := by rw [hW]; exact ((Bk.new w _ _).alloc _).alloc _
  have Z0 : Bk W (w.heap.size + 1) #[.int .i64 0, .string ⟨#[]⟩, .int .i64 0, .int .i64 0, .int .u64 0, .string ⟨#[]⟩, .slice none 0 0, .int .i64 0, .int .i64 0, .string ⟨#[]⟩, .int .i64 0, .int .i64 0, .int .i64 0] 30 := by rw [hW]; exact (Bk.new2 w _ _ _).alloc _
  have P0 : Hid (Pq W (w.heap.size + 1 + 1) n (upto l 0)) := by
    rw [hW, upto_zero]
    have := Pq.new ((w.alloc (.cells #[.func (.func fq) #[] #[]] 59)).alloc (.cells #[.int .i64 0, .string ⟨#[]⟩, .int .i64 0, .int .i64 0, .int .u64 0, .string ⟨#[]⟩, .slice none 0 0, .int .i64 0, .int .i64 0, .string ⟨#[]⟩, .int .i64 0, .int .i64 0, .int .i64 0] 30)) n
    simp only [World.size_alloc] at this
    exact this
  have HWs : Hid (W.heap.size = w.heap.size + 3) := by rw [hW]; show _ = _; simp
  clear hW hmk
  have hgl := H0.out.lt
  go_loopw [17] (fun s17 wr => ∃ (j : Nat), s17 = .int .i64 j ∧ j ≤ n ∧ Pq wr (w.heap.size + 1 + 1) n (upto l j) ∧ Ke (w.heap.size + 1 + 1) W wr) (fun s17 _ => n - (intOf s17).toNat)
  case atStart => exact ⟨0, rfl, Nat.zero_le _, P0.out, Ke.refl _ _⟩
  case round =>
    obtain ⟨j, rfl, hj, hpq, hke⟩ := hrel
    have hws := HWs.out
    have hkz := hke.size
    have Gr : Bk wr w.heap.size #[.func (.func fq) #[] #[]] 59 := (hke.block _ (by omega) (by omega)).trans G0
    have Zr : Bk wr (w.heap.size + 1) #[.int .i64 0, .string ⟨#[]⟩, .int .i64 0, .int .i64 0, .int .u64 0, .string ⟨#[]⟩, .slice none 0 0, .int .i64 0, .int .i64 0, .string ⟨#[]⟩, .int .i64 0, .int .i64 0, .int .i64 0] 30 := (hke.block _ (by omega) (by omega)).trans Z0
    have old : Hid (∀ b, b < w.heap.size → wr.heap[b]? = w.heap[b]?) := fun b hb => (hke.block b (by omega) (by omega)).trans (B0.block b hb)
    have hl := HL.out
    by_cases hlt : j < n
    · obtain ⟨x, hx⟩ : ∃ x, l[j]? = some x := ⟨_, List.getElem?_eq_getElem (by omega)⟩
      obtain ⟨d, c, -⟩ := H0.out.at j x hx
      obtain ⟨x0, x1, x2, x3, x4, x5, x6, x7, x8, x9, x10, x11, x12⟩ := c.heap (old.out g hgl)
      have j0 : (0 : Int) ≤ (j : Int) := by omega
      have j1 : (j : Int) < (n : Int) := by omega
      have ba := below1 wr (.cells (x.cs d) 30)
      have hpa := hpq.step ba
      obtain ⟨a0, a1⟩ := hpa.c j hlt
      have af := hpa.f
      have NX : Hid (Pq (((wr.alloc (.cells (x.cs d) 30)).setCell ⟨w.heap.size + 1 + 1, j * 2, none⟩ (.int .i64 x.pr)).setCell ⟨w.heap.size + 1 + 1, j * 2 + 1, none⟩ (.int .i64 j)) (w.heap.size + 1 + 1) n (upto l (j + 1)) ∧ Ke (w.heap.size + 1 + 1) W (((wr.alloc (.cells (x.cs d) 30)).setCell ⟨w.heap.size + 1 + 1, j * 2, none⟩ (.int .i64 x.pr)).setCell ⟨w.heap.size + 1 + 1, j * 2 + 1, none⟩ (.int .i64 j))) := by
        have := hpa.set j hlt (prl l j, (j : Int))
        rw [upto_succ, prl_at hx] at this
        exact ⟨this, ((hke.trans (Ke.of ba)).set _ _).set _ _⟩
      clear hpq hpa c hx hke Gr Zr old hl hws hkz ba
      go_wp2_with fail
      exact ⟨⟨j + 1, by go_num, by omega, NX.out⟩, by simp [intOf]; omega⟩
    · obtain rfl : j = n := by omega
      have HM : Hm wr (w.heap.size + 1 + 1) j w.heap.size up (upto l j) := ⟨hpq, by rw [HG.out]; exact Gr.c 0, by omega, by omega⟩
      have HH := Lib.hid (heapOf_any up (w.heap.size + 1 + 1) j w.heap.size (upto l j) wr HM hn)
      have K0 := Lib.hid hke
      have hwr : w.heap.size + 3 ≤ wr.heap.size := by omega
      have hfl : ∀ (v0 v1 : Value) (w : World), (Instr.field 65 (.agg #[v0, v1]) 1).run Try.prog w = .ok v1 w := fun _ _ _ => by kernel_rfl
      clear HM hpq hke hws
      go_wp2_with fail
      refine HH.out.mono ?_
      rintro e w1 ⟨f', rfl, q1, p1, i1, k1⟩
      obtain ⟨k, ek, hbest⟩ := p1.best hn0 (fun v => (i1 v).trans (upto_im l j v))
      have hs1 := k1.size
      have hkn := hbest.1
      obtain ⟨x, hx⟩ : ∃ x, l[k]? = some x := ⟨_, List.getElem?_eq_getElem (by omega)⟩
      have Z1 : Bk w1 (w.heap.size + 1) #[.int .i64 0, .string ⟨#[]⟩, .int .i64 0, .int .i64 0, .int .u64 0, .string ⟨#[]⟩, .slice none 0 0, .int .i64 0, .int .i64 0, .string ⟨#[]⟩, .int .i64 0, .int .i64 0, .int .i64 0] 30 := (k1.block _ (by omega) (by omega)).trans Zr
      have old1 : Hid (∀ b, b < w.heap.size → w1.heap[b]? = w.heap[b]?) := fun b hb => (k1.block b (by omega) (by omega)).trans (old.out b hb)
      have b2 := below1 w1 (.cells #[.slice (some ⟨w.heap.size + 1 + 1, 0, none⟩) j j, fv w.heap.size] 68)
      have HFi := first_any (w.heap.size + 1 + 1) j w.heap.size f' _ (q1.step b2) hn0
      rw [ek] at HFi
      have HFI := Lib.hid HFi
      have K1 := Lib.hid (K0.out.trans k1)
      have BE := Lib.hid hbest
      have HX := Lib.hid hx
      clear HFi HH q1 p1 i1 k1 ek hbest hx Zr Gr old K0
      go_wp2_with fail
      refine HFI.out.mono ?_
      rintro e w2 ⟨rfl, b3⟩
      have b23 := b2.trans (b3.mono (by simp))
      have Z2 := Z1.step b23
      have K2 := Lib.hid (K1.out.trans (Ke.of b23))
      have hs2 := b23.size
      have old2 : Hid (∀ b, b < w.heap.size → w2.heap[b]? = w.heap[b]?) := fun b hb => (b23.block b (by omega)).trans (old1.out b hb)
      clear b3 b2 b23 HFI Z1 K1 old1
      obtain ⟨cur, m1, m2, m3⟩ := H0.out.b
      obtain ⟨d, dc, dr⟩ := m3 k x HX.out
      have c : C13 w2 g (k * 13) x d := C13.heap (C13.of (w := w) fun i hi => by rw [m1.c]; exact dc i hi) (old2.out g hgl)
      obtain ⟨x0, x1, x2, x3, x4, x5, x6, x7, x8, x9, x10, x11, x12⟩ := c
      have j0 : (0 : Int) ≤ (k : Int) := by omega
      have j1 : (k : Int) < (j : Int) := by omega
      have j1' : k < j := hkn
      have b4 := below1 w2 (.cells #[.int .i64 x.id, .string x.tp, .int .i64 d.k, .int .i64 d.i, .int .u64 d.u, .string d.s, .slice d.a d.l d.c, .int .i64 x.ti, .int .i64 x.un, .string x.rp, .int .i64 x.co, .int .i64 x.pr, .int .i64 x.ho] 30)
      have N4 := Bk.new w2 (x.cs d) 30
      have Z4 := Z2.step b4
      have K4 := Lib.hid (K2.out.trans (Ke.of b4))
      have old4 : Hid (∀ b, b < w.heap.size → (w2.alloc (.cells #[.int .i64 x.id, .string x.tp, .int .i64 d.k, .int .i64 d.i, .int .u64 d.u, .string d.s, .slice d.a d.l d.c, .int .i64 x.ti, .int .i64 x.un, .string x.rp, .int .i64 x.co, .int .i64 x.pr, .int .i64 x.ho] 30)).heap[b]? = w.heap[b]?) := fun b hb => (b4.block b (by omega)).trans (old2.out b hb)
      have M1 := Lib.hid m1
      have M2 := Lib.hid m2
      have M3 := Lib.hid m3
      have DR := Lib.hid dr
      have XS : Hid (∀ wx, Bk wx w2.heap.size (x.cs d) 30 → (wx.cell? ⟨w2.heap.size, 0, none⟩ = some (.int .i64 x.id) ∧ wx.cell? ⟨w2.heap.size, 1, none⟩ = some (.string x.tp) ∧ wx.cell? ⟨w2.heap.size, 2, none⟩ = some (.int .i64 d.k) ∧ wx.cell? ⟨w2.heap.size, 3, none⟩ = some (.int .i64 d.i) ∧ wx.cell? ⟨w2.heap.size, 4, none⟩ = some (.int .u64 d.u) ∧ wx.cell? ⟨w2.heap.size, 5, none⟩ = some (.string d.s) ∧ wx.cell? ⟨w2.heap.size, 6, none⟩ = some (.slice d.a d.l d.c) ∧ wx.cell? ⟨w2.heap.size, 7, none⟩ = some (.int .i64 x.ti) ∧ wx.cell? ⟨w2.heap.size, 8, none⟩ = some (.int .i64 x.un) ∧ wx.cell? ⟨w2.heap.size, 9, none⟩ = some (.string x.rp) ∧ wx.cell? ⟨w2.heap.size, 10, none⟩ = some (.int .i64 x.co) ∧ wx.cell? ⟨w2.heap.size, 11, none⟩ = some (.int .i64 x.pr) ∧ wx.cell? ⟨w2.heap.size, 12, none⟩ = some (.int .i64 x.ho))) := fun wx hx => hx.c13
      have m4 : Bk (w2.alloc (.cells #[.int .i64 x.id, .string x.tp, .int .i64 d.k, .int .i64 d.i, .int .u64 d.u, .string d.s, .slice d.a d.l d.c, .int .i64 x.ti, .int .i64 x.un, .string x.rp, .int .i64 x.co, .int .i64 x.pr, .int .i64 x.ho] 30)).drew g cur 30 := (old4.out g hgl).trans m1
      have HD := Lib.hid (delete_n g k j cap cur _ m4 m2 j1' (by have := H0.out.n; omega) H0.out.c (fun i v hi hv => Mq.one m3 i v (by omega) hv))
      have N4d : Bk (w2.alloc (.cells #[.int .i64 x.id, .string x.tp, .int .i64 d.k, .int .i64 d.i, .int .u64 d.u, .string d.s, .slice d.a d.l d.c, .int .i64 x.ti, .int .i64 x.un, .string x.rp, .int .i64 x.co, .int .i64 x.pr, .int .i64 x.ho] 30)).drew w2.heap.size (x.cs d) 30 := N4
      have hwk : IntKind.i64.wrap ((k : Int) + 1) = (k : Int) + 1 := by rw [IntKind.wrap_i64]; omega
      have hne : w2.heap.size ≠ w.heap.size + 1 := by omega
      have hgn : w2.heap.size ≠ g := by omega
      have AF : Hid (∀ w3, Ke g (w2.alloc (.cells #[.int .i64 x.id, .string x.tp, .int .i64 d.k, .int .i64 d.i, .int .u64 d.u, .string d.s, .slice d.a d.l d.c, .int .i64 x.ti, .int .i64 x.un, .string x.rp, .int .i64 x.co, .int .i64 x.pr, .int .i64 x.ho] 30)).drew w3 → Bk w3 w2.heap.size (x.cs d) 30 ∧ Bk w3 (w.heap.size + 1) #[.int .i64 0, .string ⟨#[]⟩, .int .i64 0, .int .i64 0, .int .u64 0, .string ⟨#[]⟩, .slice none 0 0, .int .i64 0, .int .i64 0, .string ⟨#[]⟩, .int .i64 0, .int .i64 0, .int .i64 0] 30) := fun w3 k3 => ⟨(k3.block _ (by simp) hgn).trans N4, (k3.block _ (by simp; omega) (by omega)).trans Z4⟩
      have FIN : Hid (∀ w3 W13, Ke g (w2.alloc (.cells #[.int .i64 x.id, .string x.tp, .int .i64 d.k, .int .i64 d.i, .int .u64 d.u, .string d.s, .slice d.a d.l d.c, .int .i64 x.ti, .int .i64 x.un, .string x.rp, .int .i64 x.co, .int .i64 x.pr, .int .i64 x.ho] 30)).drew w3 → Ke (w.heap.size + 1) w3 W13 → (∃ cur' : Array Value, Bk w3 g cur' 30 ∧ cur'.size = cur.size ∧ (∀ i, i < k * 13 → cur'[i]? = cur[i]?) ∧ ∀ i, k * 13 ≤ i → i < (j - 1) * 13 → cur'[i]? = cur[i + 13]?) → Mq g cap F (l.eraseIdx k) W13 ∧ Rz F W13 x.n d.vs x.t ∧ Ke g w W13) := fun w3 W13 k3 k13 cu => by
        have hX : w.heap.size + 3 ≤ (w2.alloc (.cells #[.int .i64 x.id, .string x.tp, .int .i64 d.k, .int .i64 d.i, .int .u64 d.u, .string d.s, .slice d.a d.l d.c, .int .i64 x.ti, .int .i64 x.un, .string x.rp, .int .i64 x.co, .int .i64 x.pr, .int .i64 x.ho] 30)).drew.heap.size := by show _ ≤ (w2.alloc _).heap.size; rw [World.size_alloc]; omega
        have h3 := k3.size
        have all : ∀ b, b < w.heap.size → b ≠ g → W13.heap[b]? = w.heap[b]? := fun b hb hbg => ((k13.block b (by omega) (by omega)).trans (k3.block b (by omega) hbg)).trans (old4.out b hb)
        have ke4 := K4.out
        obtain ⟨cur', c1, c2, c3, c4⟩ := cu
        refine ⟨Mq.out H0.out.n H0.out.c (by omega) M2.out M3.out ((k13.block g (by omega) (by omega)).trans c1) c2 c3 (by rw [hl]; exact c4) (fun b hb => all b (HF.out b hb).1 (HF.out b hb).2), Rz.to (fun b hb => ⟨hb, all b (HF.out b hb).1 (HF.out b hb).2⟩) _ _ _ DR.out, ?_⟩
        exact ⟨(k13.os.trans k3.os).trans (ke4.os.trans B0.os), (k13.tape.trans k3.tape).trans (ke4.tape.trans B0.tape), (k13.output.trans k3.output).trans (ke4.output.trans B0.output), by have := k13.size; omega, all⟩
      clear m1 m2 m3 m4 dc dr Z2 Z4 K2 b4 N4
      go_wp2_with fail
      have OT : Hid (∀ (wx : World), Bk wx w2.heap.size (x.cs d) 30 → ∀ (v0 v1 v2 v3 v4 v5 v6 v7 v8 v9 v10 v11 v12 : Value), Bk (((((((((((((wx.setCell ⟨w.heap.size + 1, 0, none⟩ v0).setCell ⟨w.heap.size + 1, 1, none⟩ v1).setCell ⟨w.heap.size + 1, 2, none⟩ v2).setCell ⟨w.heap.size + 1, 3, none⟩ v3).setCell ⟨w.heap.size + 1, 4, none⟩ v4).setCell ⟨w.heap.size + 1, 5, none⟩ v5).setCell ⟨w.heap.size + 1, 6, none⟩ v6).setCell ⟨w.heap.size + 1, 7, none⟩ v7).setCell ⟨w.heap.size + 1, 8, none⟩ v8).setCell ⟨w.heap.size + 1, 9, none⟩ v9).setCell ⟨w.heap.size + 1, 10, none⟩ v10).setCell ⟨w.heap.size + 1, 11, none⟩ v11).setCell ⟨w.heap.size + 1, 12, none⟩ v12) w2.heap.size (x.cs d) 30) := fun wx h v0 v1 v2 v3 v4 v5 v6 v7 v8 v9 v10 v11 v12 => (((((((((((((h.other _ _ hne).other _ _ hne).other _ _ hne).other _ _ hne).other _ _ hne).other _ _ hne).other _ _ hne).other _ _ hne).other _ _ hne).other _ _ hne).other _ _ hne).other _ _ hne).other _ _ hne)
      refine wp_region_held_drew (S := (fun wx => wx.cell? ⟨w2.heap.size, 0, none⟩ = some (.int .i64 x.id) ∧ wx.cell? ⟨w2.heap.size, 1, none⟩ = some (.string x.tp) ∧ wx.cell? ⟨w2.heap.size, 2, none⟩ = some (.int .i64 d.k) ∧ wx.cell? ⟨w2.heap.size, 3, none⟩ = some (.int .i64 d.i) ∧ wx.cell? ⟨w2.heap.size, 4, none⟩ = some (.int .u64 d.u) ∧ wx.cell? ⟨w2.heap.size, 5, none⟩ = some (.string d.s) ∧ wx.cell? ⟨w2.heap.size, 6, none⟩ = some (.slice d.a d.l d.c) ∧ wx.cell? ⟨w2.heap.size, 7, none⟩ = some (.int .i64 x.ti) ∧ wx.cell? ⟨w2.heap.size, 8, none⟩ = some (.int .i64 x.un) ∧ wx.cell? ⟨w2.heap.size, 9, none⟩ = some (.string x.rp) ∧ wx.cell? ⟨w2.heap.size, 10, none⟩ = some (.int .i64 x.co) ∧ wx.cell? ⟨w2.heap.size, 11, none⟩ = some (.int .i64 x.pr) ∧ wx.cell? ⟨w2.heap.size, 12, none⟩ = some (.int .i64 x.ho))) (by kernel_rfl) (XS.out _ N4d) (fun hHeld => ?_)
      generalize (w2.alloc (.cells #[.int .i64 x.id, .string x.tp, .int .i64 d.k, .int .i64 d.i, .int .u64 d.u, .string d.s, .slice d.a d.l d.c, .int .i64 x.ti, .int .i64 x.un, .string x.rp, .int .i64 x.co, .int .i64 x.pr, .int .i64 x.ho] 30)).drew = v9 at *
      refine wpAnyH_take (i := 0) (oi := { dst := some 40, op := Op.move (Operand.tmp 0), type := 22, pos := _, after := #[], guard := none }) (v := ?tl1) rfl (by kernel_rfl) (by kernel_rfl) (by kernel_rfl) (fun _ _ _ h => h) (Or.inl ⟨by rfl, ?ul1⟩) (by assumption) ?rl1
      case ul1 => (intro w hSw; (try dsimp only at hSw); go_simp; (try with_reducible rfl))
      simp only [Act.put, List.setIfInBounds_toArray, List.set_cons_zero, List.set_cons_succ]
      refine wpAnyH_take (i := 1) (oi := { dst := some 41, op := Op.move (Operand.tmp 10), type := 3, pos := _, after := #[], guard := none }) (v := ?tl2) rfl (by kernel_rfl) (by kernel_rfl) (by kernel_rfl) (fun _ _ _ h => h) (Or.inl ⟨by rfl, ?ul2⟩) (by assumption) ?rl2
      case ul2 => (intro w hSw; (try dsimp only at hSw); go_simp; (try with_reducible rfl))
      simp only [Act.put, List.setIfInBounds_toArray, List.set_cons_zero, List.set_cons_succ]
      refine wpAnyH_take (i := 2) (oi := { dst := some 42, op := Op.move (Operand.tmp 10), type := 3, pos := _, after := #[], guard := none }) (v := ?tl3) rfl (by kernel_rfl) (by kernel_rfl) (by kernel_rfl) (fun _ _ _ h => h) (Or.inl ⟨by rfl, ?ul3⟩) (by assumption) ?rl3
      case ul3 => (intro w hSw; (try dsimp only at hSw); go_simp; (try with_reducible rfl))
      simp only [Act.put, List.setIfInBounds_toArray, List.set_cons_zero, List.set_cons_succ]
      refine wpAnyH_take (i := 3) (oi := { dst := some 43, op := Op.binOp BinOp.add 3 (Operand.tmp 42) (Operand.const (Value.int IntKind.i64 1)) 3, type := 3, pos := _, after := #[{ on := 2, ground := Ground.data }], guard := none }) (v := ?tl4) rfl (by kernel_rfl) (by kernel_rfl) (by kernel_rfl) (fun _ _ _ h => h) (Or.inl ⟨by rfl, ?ul4⟩) (by assumption) ?rl4
      case ul4 => (intro w hSw; (try dsimp only at hSw); go_simp; (try with_reducible rfl))
      simp only [Act.put, List.setIfInBounds_toArray, List.set_cons_zero, List.set_cons_succ]
      refine wpAnyH_take (i := 5) (oi := { dst := some 45, op := Op.load 30 (Operand.tmp 11), type := 30, pos := _, after := #[{ on := 6, ground := Ground.gcOnly Departure.lateStores }], guard := none }) (v := ?tl5) rfl (by kernel_rfl) (by kernel_rfl) (by kernel_rfl) (fun _ _ _ h => h) (Or.inl ⟨by rfl, ?ul5⟩) (by assumption) ?rl5
      case ul5 => (intro w hSw; (try dsimp only at hSw); go_simp; (try with_reducible rfl))
      simp only [Act.put, List.setIfInBounds_toArray, List.set_cons_zero, List.set_cons_succ]
      refine wpAnyH_ready (rs := [4]) (by kernel_rfl) (by simp) ?_
      refine AllReadyH.cons (o := { dst := some 44, op := Op.call { callee := Callee.value (Operand.func 35), args := #[Operand.tmp 40, Operand.tmp 41, Operand.tmp 43], argTypes := #[22, 3, 3] }, type := 22, pos := _, after := #[{ on := 0, ground := Ground.data }, { on := 1, ground := Ground.data }, { on := 3, ground := Ground.data }], guard := none }) rfl (fun K hK => ?_) AllReadyH.nil
      go_simp
      refine HD.out.mono ?_
      rintro e w3 ⟨rfl, cu, k3⟩
      obtain ⟨N5, Z5⟩ := AF.out w3 k3
      refine hK.out _ _ (XS.out _ N5) (fun hH1 => ?_)
      obtain ⟨z0, z1, z2, z3, z4, z5, z6, z7, z8, z9, z10, z11, z12⟩ := Z5.c13
      have zf := Z5.f
      have CU := Lib.hid cu
      have K3 := Lib.hid k3
      clear cu k3 Z5 HD
      clear hK K
      (try simp only [Act.put, List.setIfInBounds_toArray, List.set_cons_zero, List.set_cons_succ])
      refine wpAnyH_take (i := 6) (oi := { dst := some 4, op := Op.assign (Operand.tmp 44), type := 22, pos := _, after := #[{ on := 4, ground := Ground.data }, { on := 4, ground := Ground.chain }, { on := 0, ground := Ground.phase }, { on := 1, ground := Ground.phase }, { on := 2, ground := Ground.phase }, { on := 3, ground := Ground.phase }, { on := 4, ground := Ground.phase }, { on := 5, ground := Ground.textOnly Departure.lateStores }], guard := none }) (v := ?tl6) rfl (by kernel_rfl) (by kernel_rfl) (by kernel_rfl) (fun _ _ _ h => h) (Or.inl ⟨by rfl, ?ul6⟩) (by assumption) ?rl6
      case ul6 => (intro w hSw; (try dsimp only at hSw); go_simp; (try with_reducible rfl))
      simp only [Act.put, List.setIfInBounds_toArray, List.set_cons_zero, List.set_cons_succ]
      refine wpAnyH_ready (rs := [7]) (by kernel_rfl) (by simp) ?_
      refine AllReadyH.cons (o := { dst := none, op := Op.store 30 (Operand.tmp 5) (Operand.tmp 45), type := 0, pos := _, after := #[{ on := 5, ground := Ground.data }, { on := 6, ground := Ground.chain }, { on := 0, ground := Ground.phase }, { on := 1, ground := Ground.phase }, { on := 2, ground := Ground.phase }, { on := 3, ground := Ground.phase }, { on := 4, ground := Ground.phase }, { on := 5, ground := Ground.phase }, { on := 6, ground := Ground.phase }], guard := none }) rfl (fun K hK => ?_) AllReadyH.nil
      go_simp
      refine hK.out _ _ (XS.out _ (OT.out _ N5 _ _ _ _ _ _ _ _ _ _ _ _ _)) (fun hH2 => ?_)
      clear hK K
      (try simp only [Act.put, List.setIfInBounds_toArray, List.set_cons_zero, List.set_cons_succ])
      refine wpAnyH_done (by kernel_rfl) ?_ _
      go_wp2_with fail
      exact bodyPost_ret (v := .tuple #[.slice (some ⟨g, 0, none⟩) (j - 1) cap, .agg (x.cs d)]) (by simp [results, Try.results25, go_sem, World.cell?_setCell_same, World.cell?_setCell_other, z0, z1, z2, z3, z4, z5, z6, z7, z8, z9, z10, z11, z12]) rfl ⟨k, x, d, BE.out, HX.out, rfl, FIN.out w3 _ K3.out (((((((((((((((Ke.refl _ w3).set _ _).set _ _).set _ _).set _ _).set _ _).set _ _).set _ _).set _ _).set _ _).set _ _).set _ _).set _ _).set _ _)) CU.out⟩
end Go.Proofs.Ytdgjhclncjoonaa
