/- ReplyAnswers, over what it asks of the package; the conditions that each theorem names. -/
import Derived.Test.YtgghppojjhnbeaaXg
namespace Go.Proofs.Ytgghppojjhnbeaa
open Go.RowKit

/-- A row of requests does not lie where a state's two cells lie. -/
theorem al_set {w : World} {sv : Value} {L : List Ak} (h : Al w sv L) {B : Nat} {v0 v1 : Value} {T : TypeId} (hB : Bk w B #[v0, v1] T) (o : Nat) (x : Value) : Al (w.setCell ⟨B, o, none⟩ x) sv L := by
  obtain ⟨ad, cap, e, h⟩ := h
  refine ⟨ad, cap, e, ?_⟩
  rcases h with h | ⟨b, of, e2, h⟩
  · exact .inl h
  · by_cases hl : L = []
    · exact .inl hl
    refine .inr ⟨b, of, e2, fun j y hj q v hv => ?_⟩
    have hne : b ≠ B := fun e3 => by
      subst e3
      have h9 := h j y hj 2 _ rfl
      rw [hB.c] at h9
      have h7 : of + j * 3 + 2 < 2 := (Array.getElem?_eq_some_iff.1 h9).1
      omega
    have h9 := h j y hj q v hv
    rw [← h9]
    exact World.cell?_of_block (Below.heap_setCell _ _ _ _ hne)
theorem af_set {w : World} {base : Nat} {sv : Value} {L : List Ak} (h : Af w base sv L) {B : Nat} {v0 v1 : Value} {T : TypeId} (hB : Bk w B #[v0, v1] T) (o : Nat) (x : Value) : Af (w.setCell ⟨B, o, none⟩ x) base sv L := by
  obtain ⟨ad, cap, e, h⟩ := h
  refine ⟨ad, cap, e, ?_⟩
  rcases h with h | ⟨b, of, cs, T', e2, h2, hh, h⟩
  · exact .inl h
  · by_cases hl : L = []
    · exact .inl hl
    obtain ⟨y, hy⟩ : ∃ y, L[0]? = some y := by cases L with
      | nil => exact absurd rfl hl
      | cons y r => exact ⟨y, rfl⟩
    have hne : b ≠ B := fun e3 => by
      subst e3
      have h9 := h 0 y hy 2 _ rfl
      have h8 : w.heap[b]? = some (.cells #[v0, v1] T (0, 0)) := hB
      rw [hh] at h8
      injection h8 with h8
      injection h8 with h8 _ _
      subst h8
      have h7 : of + 0 * 3 + 2 < 2 := (Array.getElem?_eq_some_iff.1 h9).1
      omega
    exact .inr ⟨b, of, cs, T', e2, h2, (Below.heap_setCell _ _ _ _ hne).trans hh, h⟩
theorem al_set2 {w : World} {sv : Value} {L : List Ak} (h : Al w sv L) {B : Nat} {v0 v1 : Value} {T : TypeId} (hB : Bk w B #[v0, v1] T) (x0 x1 : Value) : Al ((w.setCell ⟨B, 0, none⟩ x0).setCell ⟨B, 1, none⟩ x1) sv L := al_set (al_set h hB 0 x0) (v0 := x0) (v1 := v1) (T := T) (hB.set 0 x0) 1 x1
theorem af_set2 {w : World} {base : Nat} {sv : Value} {L : List Ak} (h : Af w base sv L) {B : Nat} {v0 v1 : Value} {T : TypeId} (hB : Bk w B #[v0, v1] T) (x0 x1 : Value) : Af ((w.setCell ⟨B, 0, none⟩ x0).setCell ⟨B, 1, none⟩ x1) base sv L := af_set (af_set h hB 0 x0) (v0 := x0) (v1 := v1) (T := T) (hB.set 0 x0) 1 x1

/-- The law on its way: the four states' boxes, the rows of the given one and of the copy. -/
structure Lw (w : World) (N Bo Ba Bb : Nat) (nx : Int) (sv s0 a0 a1 b0 b1 : Value) (L : List Ak) (wx : World) : Prop where
  below : Below w.heap.size w wx
  st : Bk wx N #[.int .i64 nx, sv] 24
  ow : Bk wx Bo #[.int .i64 nx, s0] 24
  a : Bk wx Ba #[a0, a1] 24
  b : Bk wx Bb #[b0, b1] 24
  ls : Al wx sv L
  lo : Al wx s0 L
theorem Lw.step {w : World} {N Bo Ba Bb : Nat} {nx : Int} {sv s0 a0 a1 b0 b1 : Value} {L : List Ak} {wx wy : World} (h : Lw w N Bo Ba Bb nx sv s0 a0 a1 b0 b1 L wx) (hb : Below wx.heap.size wx wy) : Lw w N Bo Ba Bb nx sv s0 a0 a1 b0 b1 L wy :=
  ⟨h.below.trans (hb.mono h.below.size), h.st.below hb, h.ow.below hb, h.a.below hb, h.b.below hb, h.ls.below hb, h.lo.below hb⟩
theorem Lw.seta {w : World} {N Bo Ba Bb : Nat} {nx : Int} {sv s0 a0 a1 b0 b1 : Value} {L : List Ak} {wx wy : World} (h : Lw w N Bo Ba Bb nx sv s0 a0 a1 b0 b1 L wx) (hN : w.heap.size ≤ N ∧ N < Bo ∧ Bo < Ba ∧ Ba < Bb) {x0 x1 : Value} (hy : wy = (wx.setCell ⟨Ba, 0, none⟩ x0).setCell ⟨Ba, 1, none⟩ x1) : Lw w N Bo Ba Bb nx sv s0 x0 x1 b0 b1 L wy := by
  subst hy
  exact ⟨(h.below.setCell (p := ⟨Ba, 0, none⟩) (by simp; omega) _).setCell (p := ⟨Ba, 1, none⟩) (by simp; omega) _, (h.st.other _ _ (by simp; omega)).other _ _ (by simp; omega), (h.ow.other _ _ (by simp; omega)).other _ _ (by simp; omega), (h.a.set 0 _).set 1 _, (h.b.other _ _ (by simp; omega)).other _ _ (by simp; omega), al_set2 h.ls h.a _ _, al_set2 h.lo h.a _ _⟩
theorem Lw.setb {w : World} {N Bo Ba Bb : Nat} {nx : Int} {sv s0 a0 a1 b0 b1 : Value} {L : List Ak} {wx wy : World} (h : Lw w N Bo Ba Bb nx sv s0 a0 a1 b0 b1 L wx) (hN : w.heap.size ≤ N ∧ N < Bo ∧ Bo < Ba ∧ Ba < Bb) {x0 x1 : Value} (hy : wy = (wx.setCell ⟨Bb, 0, none⟩ x0).setCell ⟨Bb, 1, none⟩ x1) : Lw w N Bo Ba Bb nx sv s0 a0 a1 x0 x1 L wy := by
  subst hy
  exact ⟨(h.below.setCell (p := ⟨Bb, 0, none⟩) (by simp; omega) _).setCell (p := ⟨Bb, 1, none⟩) (by simp; omega) _, (h.st.other _ _ (by simp; omega)).other _ _ (by simp; omega), (h.ow.other _ _ (by simp; omega)).other _ _ (by simp; omega), (h.a.other _ _ (by simp; omega)).other _ _ (by simp; omega), (h.b.set 0 _).set 1 _, al_set2 h.ls h.b _ _, al_set2 h.lo h.b _ _⟩

theorem al_keep {w1 w2 wx : World} {sv : Value} {L : List Ak} (h1 : Al w1 sv L) (h2 : Al w2 sv L) (hk : ∀ k, k < w1.heap.size → wx.heap[k]? = w2.heap[k]?) : Al wx sv L := by
  obtain ⟨ad, cap, rfl, h1⟩ := h1
  obtain ⟨ad', cap', e, h2⟩ := h2
  simp only [Value.slice.injEq] at e
  obtain ⟨rfl, -, rfl⟩ := e
  refine ⟨ad, cap, rfl, ?_⟩
  rcases h1 with h1 | ⟨b, o, rfl, h1⟩
  · exact .inl h1
  rcases h2 with h2 | ⟨b', o', e, h2⟩
  · exact .inl h2
  simp only [Option.some.injEq, Addr.mk.injEq] at e
  obtain ⟨rfl, rfl, -⟩ := e
  refine .inr ⟨b, o, rfl, fun j x hj q v hv => ?_⟩
  have h9 := h1 j x hj q v hv
  have hlt : b < w1.heap.size := World.block_lt_of_cell? w1 _ h9
  exact (World.cell?_of_block (hk b hlt)).trans (h2 j x hj q v hv)

set_option maxRecDepth 100000 in
set_option maxHeartbeats 8000000 in
theorem law_answers (KO : KOpe) (KA : KAns) (KE : KExp) (nx : Int) (sv : Value) (L : List Ak) (co : Int) (tp : ByteArray) (tick : Int) (w : World) (h : Al w sv L) (hl : L.length ≤ 9223372036854775807) :
    Calls Try.prog 3 #[.agg #[.int .i64 nx, sv], .int .i64 co, .string tp, .int .i64 tick] w fun e w' => e = .returned (.bool true) ∧ Below w.heap.size w w' := by
  have HAW : Hid (∀ wx, Calls Try.prog 6 #[] wx fun e w' => e = .returned (.bool true) ∧ Below wx.heap.size wx w') := Lib.hid fun wx => awake_any KO KA wx
  obtain ⟨ad, cap, rfl, hrow⟩ := id h
  clear hrow
  have b0 := below1 w (.cells #[.int .i64 nx, .slice ad L.length cap] 24)
  have n0 := Bk.new w #[.int .i64 nx, .slice ad L.length cap] 24
  obtain ⟨w0, hw0⟩ : ∃ w0, w0 = w.alloc (.cells #[.int .i64 nx, .slice ad L.length cap] 24) := ⟨_, rfl⟩
  rw [← hw0] at b0 n0
  have HW0 := Lib.hid hw0.symm
  have KF := Lib.hid (fit_any nx (.slice ad L.length cap) L w0 (h.below b0) hl)
  obtain ⟨c0, c1⟩ := n0.c2
  have N0 := Lib.hid n0
  have HAL := Lib.hid (h.below b0)
  clear hw0 n0 h
  cases hf : fitS nx L with
  | false =>
    rw [hf] at KF
    go_enter Try.func3, Try.ntmps3
    go_wp2_with (rw [HW0.out])
    refine KF.out.mono ?_
    rintro e w1 ⟨rfl, b1⟩
    clear c0 c1
    go_wp2_with fail
    refine (HAW.out _).mono ?_
    rintro e w2 ⟨rfl, b2⟩
    go_wp2_with fail
    go_ret
    have B1 := b0.trans (b1.mono b0.size)
    exact ⟨rfl, B1.trans (b2.mono B1.size)⟩
  | true =>
    rw [hf] at KF
    by_cases ht1 : tick < 0
    · go_enter Try.func3, Try.ntmps3
      go_wp2_with (rw [HW0.out])
      refine KF.out.mono ?_
      rintro e w1 ⟨rfl, b1⟩
      clear c0 c1
      go_wp2_with fail
      refine (HAW.out _).mono ?_
      rintro e w2 ⟨rfl, b2⟩
      go_wp2_with fail
      go_ret
      have B1 := b0.trans (b1.mono b0.size)
      exact ⟨rfl, B1.trans (b2.mono B1.size)⟩
    · by_cases ht2 : tick ≤ 1099511627776
      · have hti : 0 ≤ tick ∧ tick ≤ 1099511627776 := by omega
        have ht3 : ¬ 1099511627776 < tick := by omega
        obtain ⟨f1, f2, f3, f4⟩ := fitS_iff hf
        have HFS := Lib.hid hf
        have HTI := Lib.hid hti
        clear hf hti f4
        go_enter Try.func3, Try.ntmps3
        go_wp2_with (rw [HW0.out])
        refine KF.out.mono ?_
        rintro e w1 ⟨rfl, b1⟩
        clear c0 c1 KF
        obtain ⟨c0, c1⟩ := (N0.out.below b1).c2
        have KC := Lib.hid (rcopy_any nx (.slice ad L.length cap) L w1 (HAL.out.below b1) f3)
        go_wp2_with fail
        refine KC.out.mono ?_
        rintro e w2 ⟨s0, rfl, own2, b2⟩
        have lo2 := own_rk Ak.len own2
        obtain ⟨oa, oc, rfl⟩ := row_form own2
        clear c0 c1 KC
        have N2 := Lib.hid ((N0.out.below b1).below b2)
        have S2 := Lib.hid ((HAL.out.below b1).below b2)
        have B2 : Below w.heap.size w w2 := (b0.trans (b1.mono b0.size)).trans (b2.mono (Nat.le_trans b0.size b1.size))
        have hN2 : w.heap.size < w2.heap.size := Nat.lt_of_lt_of_le N2.out.lt (Nat.le_refl _)
        have b3 := below1 w2 (.cells #[.int .i64 nx, .slice oa L.length oc] 24)
        have n3 := Bk.new w2 #[.int .i64 nx, .slice oa L.length oc] 24
        obtain ⟨w3, hw3⟩ : ∃ w3, w3 = w2.alloc (.cells #[.int .i64 nx, .slice oa L.length oc] 24) := ⟨_, rfl⟩
        rw [← hw3] at b3 n3
        have HW3 := Lib.hid hw3.symm
        have z3 : w3.heap.size = w2.heap.size + 1 := by rw [hw3]; simp
        have K3 := Lib.hid (KO nx _ L tp tick w3 (lo2.below b3) HFS.out HTI.out)
        obtain ⟨c0, c1⟩ := n3.c2
        have N3 := Lib.hid n3
        have L3 := Lib.hid (lo2.below b3)
        clear hw3 n3 lo2 own2
        go_wp2_with (rw [HW3.out])
        refine K3.out.mono ?_
        rintro e w4 ⟨sa, rfl, aa, b4⟩
        obtain ⟨xa, xc, rfl, -⟩ := id aa
        clear c0 c1 K3
        have hs4 := b4.size
        have b5 := below1 w4 (.cells #[.int .i64 (opN nx L), .slice xa (opL nx L tp tick).length xc] 24)
        have n5 := Bk.new w4 #[.int .i64 (opN nx L), .slice xa (opL nx L tp tick).length xc] 24
        obtain ⟨w5, hw5⟩ : ∃ w5, w5 = w4.alloc (.cells #[.int .i64 (opN nx L), .slice xa (opL nx L tp tick).length xc] 24) := ⟨_, rfl⟩
        rw [← hw5] at b5 n5
        have HW5 := Lib.hid hw5.symm
        have z5 : w5.heap.size = w4.heap.size + 1 := by rw [hw5]; simp
        have S5 := Lib.hid (((S2.out.below b3).below b4).below b5)
        have N5 := Lib.hid (((N2.out.below b3).below b4).below b5)
        have O5 := Lib.hid ((N3.out.below b4).below b5)
        have LO5 := Lib.hid ((L3.out.below b4).below b5)
        have A5 := Lib.hid (aa.below b5)
        have NA5 := Lib.hid n5
        have B5 : Below w.heap.size w w5 := ((B2.trans (b3.mono B2.size)).trans (b4.mono (by have := B2.size; omega))).trans (b5.mono (by have := B2.size; omega))
        have KR := Lib.hid (ropen_any nx (.slice ad L.length cap) L tp tick w5 S5.out f3 ⟨f1, f2⟩)
        obtain ⟨c0, c1⟩ := N5.out.c2
        clear hw5 n5 aa
        go_wp2_with (rw [HW5.out])
        refine KR.out.mono ?_
        rintro e w6 ⟨sb, rfl, own6, b6⟩
        have ab := own_rk Ak.len own6
        obtain ⟨ya, yc, rfl⟩ := row_form own6
        clear c0 c1 KR own6
        have hs6 := b6.size
        have b7 := below1 w6 (.cells #[.int .i64 (opN nx L), .slice ya (opL nx L tp tick).length yc] 24)
        have n7 := Bk.new w6 #[.int .i64 (opN nx L), .slice ya (opL nx L tp tick).length yc] 24
        obtain ⟨w7, hw7⟩ : ∃ w7, w7 = w6.alloc (.cells #[.int .i64 (opN nx L), .slice ya (opL nx L tp tick).length yc] 24) := ⟨_, rfl⟩
        rw [← hw7] at b7 n7
        have HW7 := Lib.hid hw7.symm
        have z7 : w7.heap.size = w6.heap.size + 1 := by rw [hw7]; simp
        have W7 : Lw w w.heap.size w2.heap.size w4.heap.size w6.heap.size nx (.slice ad L.length cap) (.slice oa L.length oc) (.int .i64 (opN nx L)) (.slice xa (opL nx L tp tick).length xc) (.int .i64 (opN nx L)) (.slice ya (opL nx L tp tick).length yc) L w7 :=
          ⟨(B5.trans (b6.mono B5.size)).trans (b7.mono (by have := B5.size; omega)), (N5.out.below b6).below b7, (O5.out.below b6).below b7, (NA5.out.below b6).below b7, n7, (S5.out.below b6).below b7, (LO5.out.below b6).below b7⟩
        have hN : w.heap.size ≤ w.heap.size ∧ w.heap.size < w2.heap.size ∧ w2.heap.size < w4.heap.size ∧ w4.heap.size < w6.heap.size := ⟨Nat.le_refl _, hN2, by omega, by omega⟩
        have HN := Lib.hid hN
        have H7 := Lib.hid W7
        have hol : (opL nx L tp tick).length ≤ 2000 := by
          unfold opL
          split
          · omega
          · rw [List.length_append]; simp; omega
        have KS := Lib.hid (rsame_any (opN nx L) _ _ _ w7 ((A5.out.below b6).below b7) (ab.below b7) (by omega))
        have AA7 := Lib.hid ((A5.out.below b6).below b7)
        have hfo := fitS_open HFS.out tp tick HTI.out
        have HFO := Lib.hid hfo
        obtain ⟨c0, c1⟩ := W7.a.c2
        obtain ⟨d0, d1⟩ := W7.b.c2
        clear hw7 n7 ab W7 hN hfo b3 b4 b5 b6 b7 z3 z5 z7 N2 S2 N3 L3 S5 N5 O5 LO5 A5 NA5 B5 B2 hs4 hs6 hN2
        go_wp2_with (rw [HW7.out])
        refine KS.out.mono ?_
        rintro e w8 ⟨rfl, b8⟩
        clear c0 c1 d0 d1 KS
        have H8 := Lib.hid (H7.out.step b8)
        have KF := Lib.hid (fit_any (opN nx L) _ _ w8 (AA7.out.below b8) (by omega))
        rw [HFO.out] at KF
        obtain ⟨c0, c1⟩ := H8.out.a.c2
        clear b8 H7 AA7
        go_wp2_with fail
        refine KF.out.mono ?_
        rintro e w9 ⟨rfl, b9⟩
        clear c0 c1 KF
        have H9 := Lib.hid (H8.out.step b9)
        obtain ⟨c0, c1⟩ := H9.out.ow.c2
        have K9 := Lib.hid (KA nx _ L co tick tp w9 H9.out.lo HFS.out HTI.out)
        clear b9 H8
        go_wp2_with fail
        refine K9.out.mono ?_
        rintro e w10 ⟨sp, rfl, ap, b10⟩
        obtain ⟨pa, pc, rfl, -⟩ := id ap
        have H10 := Lib.hid (H9.out.step b10)
        clear c0 c1 K9 H9
        obtain ⟨w11, hw11⟩ : ∃ w11, w11 = (w10.setCell ⟨w4.heap.size, 0, none⟩ (.int .i64 nx)).setCell ⟨w4.heap.size, 1, none⟩ (.slice pa (anL co tp L).length pc) := ⟨_, rfl⟩
        have HW11 := Lib.hid hw11.symm
        have H11 := Lib.hid (H10.out.seta HN.out hw11)
        have AP := Lib.hid (show Al w11 _ _ by rw [hw11]; exact al_set2 ap H10.out.a _ _)
        obtain ⟨q0, q1⟩ := H10.out.a.c2
        have qf := H10.out.a.f
        obtain ⟨c0, c1⟩ := H11.out.st.c2
        have KR := Lib.hid (ranswer_any nx _ L co tick tp w11 H11.out.ls f3)
        clear hw11 ap b10 H10
        go_wp2_with (rw [HW11.out])
        refine KR.out.mono ?_
        rintro e w12 ⟨sq, rfl, own12, b12⟩
        have aq := own_rk Ak.len own12
        obtain ⟨qa, qc, rfl⟩ := row_form own12
        have H12 := Lib.hid (H11.out.step b12)
        clear c0 c1 q0 q1 qf KR own12
        obtain ⟨w13, hw13⟩ : ∃ w13, w13 = (w12.setCell ⟨w6.heap.size, 0, none⟩ (.int .i64 nx)).setCell ⟨w6.heap.size, 1, none⟩ (.slice qa (anL co tp L).length qc) := ⟨_, rfl⟩
        have HW13 := Lib.hid hw13.symm
        have H13 := Lib.hid (H12.out.setb HN.out hw13)
        have AP13 := Lib.hid (show Al w13 _ _ by rw [hw13]; exact al_set2 (AP.out.below b12) H12.out.b _ _)
        have AQ13 := Lib.hid (show Al w13 _ _ by rw [hw13]; exact al_set2 aq H12.out.b _ _)
        obtain ⟨q0, q1⟩ := H12.out.b.c2
        have qf := H12.out.b.f
        obtain ⟨c0, c1⟩ := H13.out.a.c2
        obtain ⟨d0, d1⟩ := H13.out.b.c2
        have han : (anL co tp L).length ≤ 1024 := Nat.le_trans (List.length_filter_le _ _) f3
        have KS := Lib.hid (rsame_any nx _ _ _ w13 AP13.out AQ13.out (by omega))
        have hfa : fitS nx (anL co tp L) = true := fitS_filter _ HFS.out
        have HFA := Lib.hid hfa
        clear hw13 aq b12 H12 AP hfa
        go_wp2_with (rw [HW13.out])
        refine KS.out.mono ?_
        rintro e w14 ⟨rfl, b14⟩
        clear c0 c1 d0 d1 q0 q1 qf KS
        have H14 := Lib.hid (H13.out.step b14)
        have KF := Lib.hid (fit_any nx _ _ w14 (AP13.out.below b14) (by omega))
        rw [HFA.out] at KF
        obtain ⟨c0, c1⟩ := H14.out.a.c2
        clear b14 H13 AP13 AQ13
        go_wp2_with fail
        refine KF.out.mono ?_
        rintro e w15 ⟨rfl, b15⟩
        clear c0 c1 KF
        have H15 := Lib.hid (H14.out.step b15)
        obtain ⟨c0, c1⟩ := H15.out.ow.c2
        have K15 := Lib.hid (KE nx _ L tick w15 H15.out.lo HFS.out HTI.out)
        clear b15 H14
        go_wp2_with fail
        refine K15.out.mono ?_
        rintro e w16 ⟨s2, s3, rfl, af, ag, b16⟩
        obtain ⟨fa, fc, rfl, -⟩ := id af
        obtain ⟨ga, gc, rfl, -⟩ := id ag
        have hs15 := b16.size
        have H16 := Lib.hid (H15.out.step b16)
        have LB := Lib.hid H15.out.lo
        have LS := Lib.hid H15.out.ls
        clear c0 c1 K15
        obtain ⟨w17, hw17⟩ : ∃ w17, w17 = (w16.setCell ⟨w4.heap.size, 0, none⟩ (.int .i64 nx)).setCell ⟨w4.heap.size, 1, none⟩ (.slice fa (exL tick L).length fc) := ⟨_, rfl⟩
        have HW17 := Lib.hid hw17.symm
        have H17 := Lib.hid (H16.out.seta HN.out hw17)
        have AF := Lib.hid (show Af w17 w15.heap.size _ _ by rw [hw17]; exact af_set2 af H16.out.a _ _)
        have AG := Lib.hid (show Al w17 _ _ by rw [hw17]; exact al_set2 ag H16.out.a _ _)
        obtain ⟨q0, q1⟩ := H16.out.a.c2
        have qf := H16.out.a.f
        obtain ⟨c0, c1⟩ := H17.out.st.c2
        have KR := Lib.hid (rexpire_any nx _ L tick w17 H17.out.ls f3)
        clear hw17 af ag b16 H16
        go_wp2_with (rw [HW17.out])
        refine KR.out.mono ?_
        rintro e w18 ⟨s4, s5, rfl, own18, own18b, b18⟩
        have ah := own_rk Ak.len own18
        have ai := own_rk Ak.len own18b
        obtain ⟨ha, hc, rfl⟩ := row_form own18
        obtain ⟨ia, ic, rfl⟩ := row_form own18b
        have H18 := Lib.hid (H17.out.step b18)
        clear c0 c1 q0 q1 qf KR own18 own18b
        obtain ⟨w19, hw19⟩ : ∃ w19, w19 = (w18.setCell ⟨w6.heap.size, 0, none⟩ (.int .i64 nx)).setCell ⟨w6.heap.size, 1, none⟩ (.slice ha (exL tick L).length hc) := ⟨_, rfl⟩
        have HW19 := Lib.hid hw19.symm
        have H19 := Lib.hid (H18.out.setb HN.out hw19)
        have AF19 := Lib.hid (show Af w19 w15.heap.size _ _ by rw [hw19]; exact af_set2 (AF.out.below b18) H18.out.b _ _)
        have AG19 := Lib.hid (show Al w19 _ _ by rw [hw19]; exact al_set2 (AG.out.below b18) H18.out.b _ _)
        have AH19 := Lib.hid (show Al w19 _ _ by rw [hw19]; exact al_set2 ah H18.out.b _ _)
        have AI19 := Lib.hid (show Al w19 _ _ by rw [hw19]; exact al_set2 ai H18.out.b _ _)
        obtain ⟨q0, q1⟩ := H18.out.b.c2
        have qf := H18.out.b.f
        obtain ⟨c0, c1⟩ := H19.out.a.c2
        obtain ⟨d0, d1⟩ := H19.out.b.c2
        have hel : (exL tick L).length ≤ 1024 := Nat.le_trans (List.length_filter_le _ _) f3
        have heg : (exG tick L).length ≤ 1024 := Nat.le_trans (List.length_filter_le _ _) f3
        have KS := Lib.hid (rsame_any nx _ _ _ w19 AF19.out.al AH19.out (by omega))
        have hfe : fitS nx (exL tick L) = true := fitS_filter _ HFS.out
        have HFE := Lib.hid hfe
        clear hw19 ah ai b18 H18 AF AG hfe
        go_wp2_with (rw [HW19.out])
        refine KS.out.mono ?_
        rintro e w20 ⟨rfl, b20⟩
        clear c0 c1 d0 d1 q0 q1 qf KS
        have H20 := Lib.hid (H19.out.step b20)
        have KF := Lib.hid (fit_any nx _ _ w20 (AF19.out.below b20).al (by omega))
        rw [HFE.out] at KF
        obtain ⟨c0, c1⟩ := H20.out.a.c2
        have AF20 := Lib.hid (AF19.out.below b20)
        have AG20 := Lib.hid (AG19.out.below b20)
        have AI20 := Lib.hid (AI19.out.below b20)
        clear b20 H19 AF19 AG19 AH19 AI19
        go_wp2_with fail
        refine KF.out.mono ?_
        rintro e w21 ⟨rfl, b21⟩
        clear c0 c1 KF
        have H21 := Lib.hid (H20.out.step b21)
        have AF21 := Lib.hid (AF20.out.below b21)
        have AG21 := Lib.hid (AG20.out.below b21)
        have AI21 := Lib.hid (AI20.out.below b21)
        clear b21 H20 AF20 AG20 AI20
        go_wp2_with fail
        obtain ⟨G, hG⟩ : ∃ G, G = exG tick L := ⟨_, rfl⟩
        obtain ⟨X, hX⟩ : ∃ X, X = exL tick L := ⟨_, rfl⟩
        rw [← hG] at AG21 AI21 heg ⊢
        rw [← hX] at AF21 H21 hel ⊢
        have hbo : w2.heap.size < w15.heap.size := H15.out.ow.lt
        have hbn : w.heap.size < w15.heap.size := H15.out.st.lt
        have hba : w4.heap.size < w15.heap.size := H15.out.a.lt
        clear hG hX HFE HFA HFO HTI HFS H15
        go_loopg [18, 129] G.length (fun g s18 s129 wx => ∃ j : Nat, j + g = G.length ∧ s129 = .int .i64 j ∧ Below w21.heap.size w21 wx)
        case atStart => exact ⟨0, by omega, rfl, Below.refl _ _⟩
        case round =>
          obtain ⟨j, hjg, rfl, hB⟩ := hrel
          cases gk with
          | zero =>
            obtain rfl : j = G.length := by omega
            have H22 := Lib.hid (H21.out.step hB)
            obtain ⟨c0, c1⟩ := H22.out.a.c2
            have AF22 := Lib.hid (AF21.out.below hB)
            have hmax := hB.size
            clear H21 AF21 AG21 AI21
            go_wp2_with fail
            generalize wr = w22 at *
            obtain ⟨fa', fc', ef, hrow⟩ := AF22.out
            simp only [Value.slice.injEq, true_and] at ef
            obtain ⟨rfl, rfl⟩ := ef
            rcases hrow with hX0 | ⟨pb, po, pcs, pT, rfl, hpb, hph, hpr⟩
            · have hX1 : X.length = 0 := by rw [hX0]; rfl
              clear hX0
              go_loopg [19, 145] 1 (fun g s19 s145 wx => s145 = .int .i64 0 ∧ wx = w22)
              case atStart => exact ⟨rfl, rfl⟩
              case round =>
                obtain ⟨rfl, hwx⟩ := hrel
                obtain ⟨w23, rfl⟩ : ∃ w23, w23 = wr := ⟨_, rfl⟩
                have hkp : ∀ k, k < w15.heap.size → w23.heap[k]? = w22.heap[k]? := fun k _ => by rw [hwx]
                have hbw : Below w.heap.size w w23 := by rw [hwx]; exact H22.out.below
                clear c0 c1 hwx
                obtain ⟨n1, n2⟩ := (show Bk w23 w2.heap.size #[.int .i64 nx, .slice oa L.length oc] 24 from (hkp _ hbo).trans H22.out.ow).c2
                obtain ⟨m1, m2⟩ := (show Bk w23 w.heap.size #[.int .i64 nx, .slice ad L.length cap] 24 from (hkp _ hbn).trans H22.out.st).c2
                have KS := Lib.hid (rsame_any nx _ _ L w23 (al_keep LB.out H22.out.lo hkp) (al_keep LS.out H22.out.ls hkp) (by omega))
                go_wp2_with fail
                refine KS.out.mono ?_
                rintro e w24 ⟨rfl, b24⟩
                clear n1 n2 m1 m2 KS
                go_wp2_with fail
                refine (HAW.out _).mono ?_
                rintro e w25 ⟨rfl, b25⟩
                go_wp2_with fail
                go_ret
                have B24 := hbw.trans (b24.mono hbw.size)
                exact ⟨rfl, B24.trans (b25.mono B24.size)⟩
            · have HP := Lib.hid hpr
              go_loopg [19, 145] X.length (fun g s19 s145 wx => ∃ (j : Nat) (cs' : Array Value), j + g = X.length ∧ s145 = .int .i64 j ∧ Bk wx pb cs' pT ∧ cs'.size = pcs.size ∧ (∀ k, k < w15.heap.size → wx.heap[k]? = w22.heap[k]?) ∧ Below w.heap.size w wx)
              case atStart => exact ⟨0, pcs, by omega, rfl, hph, rfl, fun _ _ => rfl, H22.out.below⟩
              case round =>
                clear c0 c1
                obtain ⟨j, cs', hjg, rfl, hbk, hcz, hkp, hbw⟩ := hrel
                cases gk with
                | zero =>
                  obtain rfl : j = X.length := by omega
                  obtain ⟨w23, rfl⟩ : ∃ w23, w23 = wr := ⟨_, rfl⟩
                  obtain ⟨n1, n2⟩ := (show Bk w23 w2.heap.size #[.int .i64 nx, .slice oa L.length oc] 24 from (hkp _ hbo).trans H22.out.ow).c2
                  obtain ⟨m1, m2⟩ := (show Bk w23 w.heap.size #[.int .i64 nx, .slice ad L.length cap] 24 from (hkp _ hbn).trans H22.out.st).c2
                  have KS := Lib.hid (rsame_any nx _ _ L w23 (al_keep LB.out H22.out.lo hkp) (al_keep LS.out H22.out.ls hkp) (by omega))
                  go_wp2_with fail
                  refine KS.out.mono ?_
                  rintro e w24 ⟨rfl, b24⟩
                  clear n1 n2 m1 m2 KS
                  go_wp2_with fail
                  refine (HAW.out _).mono ?_
                  rintro e w25 ⟨rfl, b25⟩
                  go_wp2_with fail
                  go_ret
                  have B24 := hbw.trans (b24.mono hbw.size)
                  exact ⟨rfl, B24.trans (b25.mono B24.size)⟩
                | succ g =>
                  have hj : j < X.length := by omega
                  obtain ⟨d, hd⟩ : ∃ d, X[j]? = some d := ⟨_, List.getElem?_eq_getElem hj⟩
                  have h9 := (Array.getElem?_eq_some_iff.1 (HP.out j d hd 0 _ rfl)).1
                  obtain ⟨y, hy⟩ : ∃ y, wr.cell? ⟨pb, po + j * 3, none⟩ = some y := ⟨_, by rw [hbk.c]; exact Array.getElem?_eq_getElem (by omega)⟩
                  have yf := hbk.f (po + j * 3)
                  obtain ⟨c0, c1⟩ := (show Bk wr w4.heap.size _ 24 from (hkp _ hba).trans H22.out.a).c2
                  have hji : (j : Int) < (X.length : Int) := by omega
                  have HB1 := Lib.hid hbk
                  have HKP := Lib.hid hkp
                  have HBW := Lib.hid hbw
                  clear hd hbk hkp hbw
                  go_wp2_with fail
                  go_roundg g
                  case measure => omega
                  case rel => exact ⟨j + 1, _, by omega, by simp, HB1.out.set (po + j * 3) _, by simp [hcz], fun k hk => (Below.heap_setCell _ _ _ _ (by simp; omega)).trans (HKP.out k hk), HBW.out.setCell (p := ⟨pb, po + j * 3, none⟩) (by simp; omega) _⟩
          | succ g =>
            have hj : j < G.length := by omega
            obtain ⟨d, hd⟩ : ∃ d, G[j]? = some d := ⟨_, List.getElem?_eq_getElem hj⟩
            obtain ⟨p1, o1, k1, t1, h1⟩ := (AG21.out.below hB).at (by omega)
            obtain ⟨p2, o2, k2, t2, h2⟩ := (AI21.out.below hB).at (by omega)
            simp only [Value.slice.injEq, true_and] at t1 t2
            obtain ⟨rfl, rfl⟩ := t1
            obtain ⟨rfl, rfl⟩ := t2
            obtain ⟨c0, c1, c2⟩ := a3 (h1 j d hd)
            obtain ⟨m0, m1, m2⟩ := a3 (h2 j d hd)
            have hji : (j : Int) < (G.length : Int) := by omega
            clear h1 h2 hd
            go_wp2
            go_quiet (fail)
            go_wp2
            go_roundg g
            case measure => omega
            case rel => exact ⟨j + 1, by omega, by simp, by first | exact hB | exact below_drewN hB _⟩
      · have ht3 : 1099511627776 < tick := by omega
        go_enter Try.func3, Try.ntmps3
        go_wp2_with (rw [HW0.out])
        refine KF.out.mono ?_
        rintro e w1 ⟨rfl, b1⟩
        clear c0 c1
        go_wp2_with fail
        refine (HAW.out _).mono ?_
        rintro e w2 ⟨rfl, b2⟩
        go_wp2_with fail
        go_ret
        have B1 := b0.trans (b1.mono b0.size)
        exact ⟨rfl, B1.trans (b2.mono B1.size)⟩
end Go.Proofs.Ytgghppojjhnbeaa
