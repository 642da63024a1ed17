/- The program's Late; the conditions: the messages in memory, of a size that can be. -/
import Derived.Test.YtdgjhclncjoonaaTb
import Derived.Test.YtdgjhclncjoonaaQi
import Derived.Test.YtdgjhclncjoonaaRu
namespace Go.Proofs.Ytdgjhclncjoonaa
open Go.RowKit

/-- What Late gives: those that stay, and those that are late, each in new memory. -/
def LateP (w : World) (l m : List Ms) (r dr : Int) (e : Ending) (w' : World) : Prop := ∃ a1 c1 a2 c2, e = .returned (.tuple #[.agg #[.slice a1 l.length c1, .int .i64 r, .int .i64 dr], .slice a2 m.length c2]) ∧ Mw w' a1 l ∧ Mw w' a2 m ∧ Below w.heap.size w w'

theorem mz_set3 {B : Nat} {wr W' : World} {a : Option Addr} {l : List Ms} (h : Mz (fun g => B ≤ g ∧ g < wr.heap.size) wr a l) (hs : W'.heap.size = wr.heap.size) (ho : ∀ g, B ≤ g → W'.heap[g]? = wr.heap[g]?) : Mz (fun g => B ≤ g ∧ g < W'.heap.size) W' a l :=
  Mz.to h fun g hg => ⟨⟨hg.1, by omega⟩, ho g hg.1⟩

set_option maxRecDepth 100000 in
set_option maxHeartbeats 8000000 in
theorem qlate_any (l : List Ms) (ad : Option Addr) (cap : Nat) (r dr now : Int) (w : World) (hl : l.length ≤ 1500) (hI : Mw w ad l) (hp : Sm l) (hd : 0 ≤ dr) (hd2 : dr ≤ 4611686018427387904) :
    Calls Try.prog 16 #[.agg #[.slice ad l.length cap, .int .i64 r, .int .i64 dr], .int .i64 now] w (LateP w (sts now l) (lts now l) r (dr + (lts now l).length)) := by
  obtain ⟨W, hW⟩ : ∃ W, W = (w.alloc (.cells #[.slice ad l.length cap, .int .i64 r, .int .i64 dr] 24)).alloc (.cells #[.slice none 0 0, .int .i64 0, .int .i64 0] 24) := ⟨_, rfl⟩
  have B0 : Below w.heap.size w W := by rw [hW]; exact below2 w _ _
  have S0 : Bk W w.heap.size #[.slice ad l.length cap, .int .i64 r, .int .i64 dr] 24 := by rw [hW]; exact (Bk.new w _ _).alloc _
  have Z0 : Bk W (w.heap.size + 1) #[.slice none 0 0, .int .i64 0, .int .i64 0] 24 := by rw [hW]; exact Bk.new2 w _ _ _
  have hWs : W.heap.size = w.heap.size + 2 := by rw [hW]; show _ = _; simp
  have T0 : Hid (Tw (w.heap.size + 2) (sts now (l.take 0)) (lts now (l.take 0)) (.slice none 0 0) (.slice none 0 0) [] [] W) := Tw.nil _ _ (by omega)
  have HI := Lib.hid hI
  have HP := Lib.hid hp
  have HWs := Lib.hid hWs
  obtain ⟨s0, s1, s2⟩ := S0.c3
  have HW := Lib.hid hW.symm
  clear hI hp hW hWs
  go_enter Try.func16, Try.ntmps16
  go_wp2_with (rw [HW.out])
  clear s0 s1 s2 HW
  go_loopw [6, 7, 13] (fun s6 s7 s13 wr => ∃ (j : Nat) (x1 x2 : List Value), s13 = .int .i64 j ∧ j ≤ l.length ∧ Tw (w.heap.size + 2) (sts now (l.take j)) (lts now (l.take j)) s6 s7 x1 x2 wr ∧ Below (w.heap.size + 2) W wr) (fun _ _ s13 _ => l.length - (intOf s13).toNat)
  case atStart => exact ⟨0, [], [], rfl, Nat.zero_le _, T0.out, Below.refl _ _⟩
  case round =>
    obtain ⟨j, z1, z2, rfl, hj, tw, bw0⟩ := hrel
    have hws := HWs.out
    have bw : Below w.heap.size w wr := B0.trans (bw0.mono (by omega))
    have hbs := bw0.size
    by_cases hlt : j < l.length
    · rcases HI.out with h | ⟨b, o, rfl, hb, h2⟩
      · rw [h] at hlt; simp at hlt
      obtain ⟨x, hx⟩ : ∃ x, l[j]? = some x := ⟨_, List.getElem?_eq_getElem hlt⟩
      obtain ⟨d, c, rr⟩ := h2 j x hx
      obtain ⟨x0, x1, x2, x3, x4, x5, x6, x7, x8, x9, x10, x11, x12⟩ := c.heap (bw.block b hb)
      obtain ⟨w1, hw1⟩ : ∃ w1, w1 = wr.alloc (.cells #[.int .i64 x.id, .string x.tp, .int .i64 d.k, .int .i64 d.i, .int .u64 d.u, .string d.s, .slice d.a d.l d.c, .int .i64 x.ti, .int .i64 x.un, .string x.rp, .int .i64 x.co, .int .i64 x.pr, .int .i64 x.ho] 30) := ⟨_, rfl⟩
      have b1 : Below wr.heap.size wr w1 := by rw [hw1]; exact below1 wr _
      have XB := (by rw [hw1]; exact Bk.new wr _ _ : Bk w1 wr.heap.size #[.int .i64 x.id, .string x.tp, .int .i64 d.k, .int .i64 d.i, .int .u64 d.u, .string d.s, .slice d.a d.l d.c, .int .i64 x.ti, .int .i64 x.un, .string x.rp, .int .i64 x.co, .int .i64 x.pr, .int .i64 x.ho] 30)
      have HC : Hid (Calls Try.prog 24 #[.agg #[.int .i64 x.id, .string x.tp, .int .i64 d.k, .int .i64 d.i, .int .u64 d.u, .string d.s, .slice d.a d.l d.c, .int .i64 x.ti, .int .i64 x.un, .string x.rp, .int .i64 x.co, .int .i64 x.pr, .int .i64 x.ho]] w1 fun e w' => ∃ d' : Bo, e = .returned (.agg (x.cs d')) ∧ Rz (fun g => w1.heap.size ≤ g ∧ g < w'.heap.size) w' x.n d'.vs x.t ∧ Below w1.heap.size w1 w') := qmsg_any x d w1 (Dt.Rep.below (bw.trans (b1.mono (by omega))) _ _ _ (Rz.rep _ _ _ rr)) (HP.out x (List.mem_of_getElem? hx))
      have e1 := lts_len now l j
      have e2 := sts_len now l j
      have FY : Hid (isL now x = true → lts now (l.take (j + 1)) = lts now (l.take j) ++ [x] ∧ sts now (l.take (j + 1)) = sts now (l.take j)) := fun h => ⟨lts_yes hx h, sts_yes hx h⟩
      have FN : Hid (isL now x = false → lts now (l.take (j + 1)) = lts now (l.take j) ∧ sts now (l.take (j + 1)) = sts now (l.take j) ++ [x]) := fun h => ⟨lts_no hx h, sts_no hx h⟩
      generalize lts now (l.take j) = ll at *
      generalize sts now (l.take j) = ls at *
      have TW1 := Lib.hid (tw.step b1)
      have BW1 : Hid (Below (w.heap.size + 2) W w1) := bw0.trans (b1.mono (by omega))
      obtain ⟨y0, y1, y2, y3, y4, y5, y6, y7, y8, y9, y10, y11, y12⟩ := XB.c13
      have j0 : (0 : Int) ≤ (j : Int) := by omega
      have j1 : (j : Int) < (l.length : Int) := by omega
      have HW1 := Lib.hid hw1.symm
      clear h2 HI rr c hx tw bw0 bw b1 hw1 XB hws hbs T0
      by_cases hu : x.un = 0
      · have u1 : (x.un == 0) = true := by simpa using hu
        have hno : isL now x = false := by simp [isL, u1]
        have HC0 : Hid (Calls Try.prog 24 #[.agg #[.int .i64 x.id, .string x.tp, .int .i64 d.k, .int .i64 d.i, .int .u64 d.u, .string d.s, .slice d.a d.l d.c, .int .i64 x.ti, .int .i64 0, .string x.rp, .int .i64 x.co, .int .i64 x.pr, .int .i64 x.ho]] w1 fun e w' => ∃ d' : Bo, e = .returned (.agg (x.cs d')) ∧ Rz (fun g => w1.heap.size ≤ g ∧ g < w'.heap.size) w' x.n d'.vs x.t ∧ Below w1.heap.size w1 w') := by have h := HC.out; rw [hu] at h; exact h
        have HU := Lib.hid hu
        clear hu
        go_wp2_with (first | rw [HW1.out] | (go_at_call 24; refine HC0.out.mono ?_; rintro e v1 ⟨d', rfl, r1, b1⟩; clear x0 x1 x2 x3 x4 x5 x6 x7 x8 x9 x10 x11 x12 y0 y1 y2 y3 y4 y5 y6 y7 y8 y9 y10 y11 y12 HC HC0; have S1 := Lib.hid (tw_step TW1.out x d' r1 b1 (v1.alloc (.cells #[.int .i64 x.id, .string x.tp, .int .i64 d'.k, .int .i64 d'.i, .int .u64 d'.u, .string d'.s, .slice d'.a d'.l d'.c, .int .i64 x.ti, .int .i64 0, .string x.rp, .int .i64 x.co, .int .i64 x.pr, .int .i64 x.ho] 30)) (by show _ = v1.alloc (.cells #[.int .i64 x.id, .string x.tp, .int .i64 d'.k, .int .i64 d'.i, .int .u64 d'.u, .string d'.s, .slice d'.a d'.l d'.c, .int .i64 x.ti, .int .i64 x.un, .string x.rp, .int .i64 x.co, .int .i64 x.pr, .int .i64 x.ho] 30); rw [HU.out])); clear r1 b1) | (at_builtin; refine wpList_mapp rfl _ _ rfl (w.heap.size + 2) (Fw (w.heap.size + 2) u6 u7 (v1.alloc (.cells #[.int .i64 x.id, .string x.tp, .int .i64 d'.k, .int .i64 d'.i, .int .u64 d'.u, .string d'.s, .slice d'.a d'.l d'.c, .int .i64 x.ti, .int .i64 0, .string x.rp, .int .i64 x.co, .int .i64 x.pr, .int .i64 x.ho] 30))) ls u6 z1 rfl S1.out.1 (some ⟨v1.heap.size, 0, none⟩) 1 [x] rfl S1.out.2.1 (fun e => by cases e) (by simp; omega) S1.out.2.2.1 ?_; intro sl' xs' w3 m3 g3 a3))
        obtain ⟨tw3, -, b3⟩ := S1.out.2.2.2 sl' xs' w3 m3 g3 a3
        refine ⟨⟨j + 1, xs', z2, by go_num, by omega, ?_, BW1.out.trans b3⟩, by simp [intOf]; omega⟩
        rw [(FN.out hno).1, (FN.out hno).2]; exact tw3
      · have u1 : (x.un == 0) = false := by simpa using hu
        by_cases hn : x.un < now
        · have u2 : decide (x.un < now) = true := decide_eq_true hn
          have hyes : isL now x = true := by simp [isL, u1, u2]
          go_wp2_with (first | rw [HW1.out] | (go_at_call 24; refine HC.out.mono ?_; rintro e v1 ⟨d', rfl, r1, b1⟩; clear x0 x1 x2 x3 x4 x5 x6 x7 x8 x9 x10 x11 x12 y0 y1 y2 y3 y4 y5 y6 y7 y8 y9 y10 y11 y12 HC; have S1 := Lib.hid (tw_step TW1.out.swap x d' r1 b1 _ rfl); clear r1 b1) | (at_builtin; refine wpList_mapp rfl _ _ rfl (w.heap.size + 2) (Fw (w.heap.size + 2) u7 u6 (v1.alloc (.cells (x.cs d') 30))) ll u7 z2 rfl S1.out.1 (some ⟨v1.heap.size, 0, none⟩) 1 [x] rfl S1.out.2.1 (fun e => by cases e) (by simp; omega) S1.out.2.2.1 ?_; intro sl' xs' w3 m3 g3 a3))
          obtain ⟨tw3, -, b3⟩ := S1.out.2.2.2 sl' xs' w3 m3 g3 a3
          refine ⟨⟨j + 1, z1, xs', by go_num, by omega, ?_, BW1.out.trans b3⟩, by simp [intOf]; omega⟩
          rw [(FY.out hyes).1, (FY.out hyes).2]; exact tw3.swap
        · have u2 : decide (x.un < now) = false := decide_eq_false hn
          have hno : isL now x = false := by simp [isL, u2]
          go_wp2_with (first | rw [HW1.out] | (go_at_call 24; refine HC.out.mono ?_; rintro e v1 ⟨d', rfl, r1, b1⟩; clear x0 x1 x2 x3 x4 x5 x6 x7 x8 x9 x10 x11 x12 y0 y1 y2 y3 y4 y5 y6 y7 y8 y9 y10 y11 y12 HC; have S1 := Lib.hid (tw_step TW1.out x d' r1 b1 _ rfl); clear r1 b1) | (at_builtin; refine wpList_mapp rfl _ _ rfl (w.heap.size + 2) (Fw (w.heap.size + 2) u6 u7 (v1.alloc (.cells (x.cs d') 30))) ls u6 z1 rfl S1.out.1 (some ⟨v1.heap.size, 0, none⟩) 1 [x] rfl S1.out.2.1 (fun e => by cases e) (by simp; omega) S1.out.2.2.1 ?_; intro sl' xs' w3 m3 g3 a3))
          obtain ⟨tw3, -, b3⟩ := S1.out.2.2.2 sl' xs' w3 m3 g3 a3
          refine ⟨⟨j + 1, xs', z2, by go_num, by omega, ?_, BW1.out.trans b3⟩, by simp [intOf]; omega⟩
          rw [(FN.out hno).1, (FN.out hno).2]; exact tw3
    · have hje : j = l.length := by omega
      subst hje
      rw [List.take_length] at tw
      obtain ⟨ls, hls⟩ : ∃ ls, ls = sts now l := ⟨_, rfl⟩
      obtain ⟨ll, hll⟩ : ∃ ll, ll = lts now l := ⟨_, rfl⟩
      have e1 := lts_len now l l.length
      rw [List.take_length] at e1
      rw [← hls, ← hll] at tw
      rw [← hll] at e1
      have TOP : Hid (∀ e w', LateP w ls ll r (dr + ll.length) e w' → LateP w (sts now l) (lts now l) r (dr + (lts now l).length) e w') := fun e w' h => by rw [← hls, ← hll]; exact h
      obtain ⟨a1, c1, rfl, mz1⟩ := tw.p.mz (F' := fun g => w.heap.size + 2 ≤ g ∧ g < wr.heap.size) (fun g hg => ⟨hg.1, hg.2.1⟩) (fun g hg => tw.p.own_lt g hg)
      obtain ⟨a2, c2, rfl, mz2⟩ := tw.q.mz (F' := fun g => w.heap.size + 2 ≤ g ∧ g < wr.heap.size) (fun g hg => ⟨hg.1, hg.2.1⟩) (fun g hg => tw.q.own_lt g hg)
      have M1 := Lib.hid mz1
      have M2 := Lib.hid mz2
      obtain ⟨w2, hw2⟩ : ∃ w2, w2 = wr.setCell ⟨w.heap.size, 0, none⟩ (.slice a1 ls.length c1) := ⟨_, rfl⟩
      obtain ⟨w3, hw3⟩ : ∃ w3, w3 = w2.setCell ⟨w.heap.size, 2, none⟩ (.int .i64 (dr + ll.length)) := ⟨_, rfl⟩
      have Sr := S0.under bw0 (by omega)
      have S2 : Bk w2 w.heap.size #[.slice a1 ls.length c1, .int .i64 r, .int .i64 dr] 24 := by rw [hw2]; exact Sr.set 0 _
      have S3 : Bk w3 w.heap.size #[.slice a1 ls.length c1, .int .i64 r, .int .i64 (dr + ll.length)] 24 := by rw [hw3]; exact S2.set 2 _
      have Zr := Z0.under bw0 (by omega)
      have Z3 : Bk w3 (w.heap.size + 1) #[.slice none 0 0, .int .i64 0, .int .i64 0] 24 := by rw [hw3, hw2]; exact (Zr.other _ _ (by show w.heap.size + 1 ≠ w.heap.size; omega)).other _ _ (by show w.heap.size + 1 ≠ w.heap.size; omega)
      have o3 : ∀ g, w.heap.size + 2 ≤ g → w3.heap[g]? = wr.heap[g]? := fun g hg => by rw [hw3, hw2, Below.heap_setCell _ _ _ _ (by show g ≠ w.heap.size; omega), Below.heap_setCell _ _ _ _ (by show g ≠ w.heap.size; omega)]
      have s3 : w3.heap.size = wr.heap.size := by rw [hw3, hw2]; simp
      have BW : Hid (Below w.heap.size w w3) := by rw [hw3, hw2]; exact (bw.setCell (Nat.le_refl _) _).setCell (Nat.le_refl _) _
      obtain ⟨s0, s1, s2⟩ := Sr.c3
      have sf := Sr.f
      obtain ⟨t0, t1, t2⟩ := S2.c3
      have tf := S2.f
      obtain ⟨k0, k1, k2⟩ := S3.c3
      obtain ⟨z0, z1, z2⟩ := Z3.c3
      have zf := Z3.f
      have HW2 := Lib.hid hw2.symm
      have HW3 := Lib.hid hw3.symm
      clear tw bw bw0 Sr S2 S3 Zr Z3 S0 Z0 hws mz1 mz2 hw2 hw3 hls hll
      go_wp2_with (first | rw [HW2.out] | rw [HW3.out])
      refine bodyPost_ret (v := .tuple #[.agg #[.slice a1 ls.length c1, .int .i64 r, .int .i64 (dr + ll.length)], .slice a2 ll.length c2]) (by simp [results, Try.results16, go_sem, World.cell?_setCell_same, World.cell?_setCell_other, z0, z1, z2]) rfl (TOP.out _ _ ⟨a1, c1, a2, c2, rfl, ?_, ?_, below_set3 BW.out (by omega) _ _ _⟩)
      · exact (mz_set3 M1.out (by simp only [World.size_setCell]; exact s3) (fun g hg => by rw [set3_heap _ _ _ (by omega)]; exact o3 g hg)).mw
      · exact (mz_set3 M2.out (by simp only [World.size_setCell]; exact s3) (fun g hg => by rw [set3_heap _ _ _ (by omega)]; exact o3 g hg)).mw
end Go.Proofs.Ytdgjhclncjoonaa
