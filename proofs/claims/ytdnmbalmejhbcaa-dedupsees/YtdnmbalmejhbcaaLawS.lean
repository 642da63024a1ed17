/- For any state, size and number the law DedupSees answers true; the conditions: the row in memory. -/
import Derived.Test.YtdnmbalmejhbcaaDh
namespace Go.Proofs.Ytdnmbalmejhbcaa
open Go.RowKit Go.Shelf

theorem mem_sn (size id : Int) (l : List Int) : id ∈ sn size id l := by unfold sn; split <;> simp_all
theorem fit_sn {size id : Int} {l : List Int} (h : fitB size l = true) : fitB size (sn size id l) = true := by
  obtain ⟨h1, h2, h3, h4⟩ := of_decide_eq_true h
  refine decide_eq_true ⟨h1, h2, ?_⟩
  unfold sn stayL
  split
  · exact ⟨h3, h4⟩
  · rename_i hk
    split
    · rename_i hs
      refine ⟨by simp; omega, ?_⟩
      rw [List.nodup_append]
      refine ⟨h4.tail, by simp, fun a ha b hb => ?_⟩
      simp at hb
      subst hb
      exact fun e => hk (e ▸ List.mem_of_mem_tail ha)
    · rename_i hs
      refine ⟨by simp; omega, ?_⟩
      rw [List.nodup_append]
      refine ⟨h4, by simp, fun a ha b hb => ?_⟩
      simp at hb
      subst hb
      exact fun e => hk (e ▸ ha)

theorem Ow.lt' {w : World} {base : Nat} {ad : Option Addr} {cap : Nat} {l : List Int} (h : Ow w base ad cap l) (hp : 0 < l.length) : ∃ g, ad = some ⟨g, 0, none⟩ ∧ base ≤ g ∧ g < w.heap.size := by
  rcases h.2 with ⟨_, hn⟩ | ⟨g, c, cur, hv, hb, hg, _⟩
  · omega
  · simp only [Value.slice.injEq, true_and] at hv
    exact ⟨g, hv.1, hb, (Array.getElem?_eq_some_iff.1 hg).1⟩
/-- The state and its copy, as they stand ahead of the asking. -/
structure Sv (w : World) (ad : Option Addr) (cap : Nat) (l : List Int) (O : Nat) (a2 : Option Addr) (c2 : Nat) (W : World) : Prop where
  st : Bk W w.heap.size #[.slice ad l.length cap] 24
  own : Bk W O #[.slice a2 l.length c2] 24
  row : Sl W ad cap l
  row2 : Sl W a2 c2 l
  lo : Below w.heap.size w W
theorem Sv.step {w W W' : World} {ad a2 : Option Addr} {cap O c2 : Nat} {l : List Int} (h : Sv w ad cap l O a2 c2 W) (b : Below W.heap.size W W') : Sv w ad cap l O a2 c2 W' := ⟨h.st.step b, h.own.step b, h.row.step b, h.row2.step b, below_then b h.lo⟩
theorem Sv.make {w w1 w2 : World} {ad a2 : Option Addr} {cap c2 : Nat} {l : List Int} (hI : Sl w ad cap l) (n1 : w.heap.size < w1.heap.size) (R : Bk w2 w.heap.size #[.slice ad l.length cap] 24) (S : Bk w2 w1.heap.size #[.slice none 0 0] 24) (o : Ow w2 (w1.heap.size + 1) a2 c2 l) (L : Below w.heap.size w w2) : Sv w ad cap l w1.heap.size a2 c2 (w2.setCell ⟨w1.heap.size, 0, none⟩ (.slice a2 l.length c2)) := by
  have lo : Below w.heap.size w (w2.setCell ⟨w1.heap.size, 0, none⟩ (.slice a2 l.length c2)) := L.setCell (p := ⟨w1.heap.size, 0, none⟩) (by simp; omega) _
  exact ⟨R.other _ _ (by simp; omega), S.set 0 _, hI.step lo, (o.set (by omega) _).sl, lo⟩

/-- One block alone is written. -/
structure Lp (B : Nat) (w wr : World) (g c : Nat) : Prop where
  bk : ∃ cur, Bk wr g cur 2 ∧ cur.size = c
  oth : ∀ k, k ≠ g → wr.heap[k]? = w.heap[k]?
  lo : Below B w wr
theorem Lp.set {B g c : Nat} {w wr : World} (h : Lp B w wr g c) (hB : B ≤ g) (j : Nat) (v : Value) : Lp B w (wr.setCell ⟨g, j, none⟩ v) g c := by
  obtain ⟨cur, h1, h2⟩ := h.bk
  exact ⟨⟨_, h1.set j v, by simpa using h2⟩, fun k hk => (Below.heap_setCell _ _ _ _ hk).trans (h.oth k hk), h.lo.setCell (p := ⟨g, j, none⟩) hB v⟩
theorem Lp.at' {B g c j : Nat} {w wr : World} (h : Lp B w wr g c) (hj : j < c) : (∃ v, wr.cell? ⟨g, j, none⟩ = some v) ∧ wr.frozen? ⟨g, j, none⟩ = false := by
  obtain ⟨cur, h1, h2⟩ := h.bk
  exact ⟨⟨cur[j], by rw [h1.c j]; simp⟩, h1.f j⟩
theorem Ow.blk {w : World} {base g cap : Nat} {l : List Int} (h : Ow w base (some ⟨g, 0, none⟩) cap l) : ∃ cur, Bk w g cur 2 ∧ cur.size = cap := by
  rcases h.2 with ⟨hv, _⟩ | ⟨g', c, cur, hv, hb, hg, _, _, hc, _⟩
  · simp at hv
  · simp only [Value.slice.injEq, Option.some.injEq, Addr.mk.injEq, and_true, true_and] at hv
    obtain ⟨rfl, rfl⟩ := hv
    exact ⟨cur, hg, by simpa using hc⟩
/-- Nothing of what was there is another. -/
def Gr (W w' : World) : Prop := Below W.heap.size W w'
theorem Gr.drew {W w' : World} (h : Gr W w') : Gr W w'.drew := Below.drew h
theorem Gr.refl (W : World) : Gr W W := Below.refl _ _
theorem Gr.step {W w' w'' : World} (h : Gr W w') (b : Below w'.heap.size w' w'') : Gr W w'' := below_then b h

set_option maxRecDepth 100000 in
set_option maxHeartbeats 4000000 in
theorem law_sees_in (ad : Option Addr) (l : List Int) (cap : Nat) (size id : Int) (w : World) (hI : Sl w ad cap l) (hf : fitB size l = true) :
    Calls Try.prog 3 #[.agg #[.slice ad l.length cap], .int .i64 size, .int .i64 id] w fun e w' => e = .returned (.bool true) ∧ Below w.heap.size w w' := by
  obtain ⟨h1, h2, h3, h4⟩ := of_decide_eq_true hf
  have hl : l.length ≤ 4096 := by omega
  have hf2 := fit_sn (id := id) hf
  have hl2 : (sn size id l).length ≤ 4096 := by have := (of_decide_eq_true hf2).2; omega
  have HP : Hid (0 < (sn size id l).length) := Lib.hid (List.length_pos_of_mem (mem_sn size id l))
  have HI := Lib.hid hI
  have KF := Lib.hid (fun w' (h : Sl w' ad cap l) => rfit_any ad l cap size w' h)
  rw [hf] at KF
  have SN := Lib.hid (fun a c w' (h : Sl w' a c l) => seen_any a l c size id w' (by omega) h)
  have RS := Lib.hid (fun w' (h : Sl w' ad cap l) => rseen_any ad l cap size id w' (by omega) h)
  rw [rsn_sn h1 h3] at RS
  have K1 := Lib.hid (fun a c w' (h : Sl w' a c l) => knows_any a l c id w' (by omega) h)
  have K2 := Lib.hid (fun w' (h : Sl w' ad cap l) => rknows_any ad l cap id w' (by omega) h)
  have K3 := Lib.hid (fun a c w' (h : Sl w' a c (sn size id l)) => rfit_any a _ c size w' h)
  rw [hf2] at K3
  have K4 := Lib.hid (fun a c w' (h : Sl w' a c (sn size id l)) => knows_any a _ c id w' (by omega) h)
  rw [decide_eq_true (mem_sn size id l)] at K4
  have SA := Lib.hid (fun a c a' c' w' (h : Sl w' a c (sn size id l)) (h' : Sl w' a' c' (sn size id l)) => same_yes a a' _ c c' w' (by omega) h h')
  have SB := Lib.hid (fun a c a' c' w' (h : Sl w' a c l) (h' : Sl w' a' c' l) => same_yes a a' _ c c' w' (by omega) h h')
  have A := Lib.hid (Bk.new w #[.slice ad l.length cap] 24)
  clear h1 h2 h3 h4 hI hf hf2
  generalize sn size id l = X at *
  generalize decide (id ∈ l) = kb at *
  go_enter Try.func3, Try.ntmps3
  go_wp2_with (first
    | (go_at_call 6; with_reducible refine (KF.out _ (HI.out.step (below1 w _))).mono ?_; rintro e w1 ⟨rfl, b1⟩; have r1 := A.out.step b1; have c1 := r1.c 0; simp at c1; have n1 := r1.lt; have R1 := Lib.hid r1; have L1 := Lib.hid (below_then b1 (below1 w _)); clear r1 b1)
    | (at_builtin; refine wpList_app rfl _ _ rfl (w1.heap.size + 1) none 0 [] rfl (Ow.nil _ _) ad cap l rfl ((HI.out.step L1.out).step (below1 w1 _)) (by simp; omega) (by simp) ?_; intro ad2 c2 w2 o2 b2; have r2 := (R1.out.alloc _).under b2 (by omega); have s2 := (Bk.new w1 #[.slice none 0 0] 24).under b2 (by omega); have c2' := s2.c 0; simp at c2'; have f2 := s2.f 0; have L2 := Lib.hid ((below_al L1.out).trans (b2.mono (by have := L1.out.size; omega))); have S3 := Lib.hid (Sv.make HI.out n1 r2 s2 o2 L2.out); clear r2 s2 o2 b2)
    | (go_at_call 8; with_reducible refine (SN.out _ _ _ S3.out.row2).mono ?_; rintro e w4 ⟨ad4, c4, rfl, o4, b4⟩; have s5 := S3.out.step (below_then (below1 w4 (.cells #[.slice ad4 X.length c4] 24)) b4); have t5 := s5.st.c 0; simp at t5; have S5 := Lib.hid s5; have O5 := Lib.hid (o4.step (below1 w4 (.cells #[.slice ad4 X.length c4] 24))); have N4 := Lib.hid (Ow.lt' o4 HP.out); have B5 := Lib.hid (below_then (below1 w4 (.cells #[.slice ad4 X.length c4] 24)) b4); clear s5 b4 o4)
    | (go_at_call 9; with_reducible refine (RS.out _ S5.out.row).mono ?_; rintro e w6 ⟨ad6, c6, rfl, o6, b6⟩; have B7 := Lib.hid (below_then (below1 w6 (.cells #[.slice ad6 X.length c6] 24)) b6); have Y7 := Lib.hid (And.intro (o6.step (below1 w6 (.cells #[.slice ad6 X.length c6] 24))) (Bk.new w6 #[.slice ad6 X.length c6] 24)); clear o6 b6))
  obtain ⟨W7, hW7⟩ : ∃ W7, w6.alloc (.cells #[.slice ad6 X.length c6] 24) = W7 := ⟨_, rfl⟩
  rw [hW7] at B7 Y7 ⊢
  have S7 := Lib.hid (S5.out.step B7.out)
  have X7 := Lib.hid ((Bk.new w4 #[.slice ad4 X.length c4] 24).step B7.out)
  have O7 := Lib.hid (O5.out.step B7.out)
  have B37 := Lib.hid (below_then B7.out B5.out)
  have HS : Hid (∀ w', Gr W7 w' → w'.cell? ⟨w.heap.size, 0, none⟩ = some (.slice ad l.length cap) ∧ w'.cell? ⟨w1.heap.size, 0, none⟩ = some (.slice ad2 l.length c2) ∧ w'.cell? ⟨w4.heap.size, 0, none⟩ = some (.slice ad4 X.length c4) ∧ w'.cell? ⟨w6.heap.size, 0, none⟩ = some (.slice ad6 X.length c6)) := Lib.hid fun w' h => ⟨by simpa using (S7.out.st.step h).c 0, by simpa using (S7.out.own.step h).c 0, by simpa using (X7.out.step h).c 0, by simpa using (Y7.out.2.step h).c 0⟩
  have Q1 := Lib.hid (fun wx (h : Gr W7 wx) => (SA.out ad4 c4 ad6 c6 wx (O7.out.sl.step h) (Y7.out.1.step h)).mono fun e w' (r : e = .returned (.bool true) ∧ Below wx.heap.size wx w') => show e = .returned (.bool true) ∧ Gr W7 w' from ⟨r.1, h.step r.2⟩)
  have Q2 := Lib.hid (fun wx (h : Gr W7 wx) => (K1.out ad2 c2 wx (S7.out.row2.step h)).mono fun e w' (r : e = .returned (.bool kb) ∧ Below wx.heap.size wx w') => show e = .returned (.bool kb) ∧ Gr W7 w' from ⟨r.1, h.step r.2⟩)
  have Q3 := Lib.hid (fun wx (h : Gr W7 wx) => (K2.out wx (S7.out.row.step h)).mono fun e w' (r : e = .returned (.bool kb) ∧ Below wx.heap.size wx w') => show e = .returned (.bool kb) ∧ Gr W7 w' from ⟨r.1, h.step r.2⟩)
  have Q4 := Lib.hid (fun wx (h : Gr W7 wx) => (K3.out ad4 c4 wx (O7.out.sl.step h)).mono fun e w' (r : e = .returned (.bool true) ∧ Below wx.heap.size wx w') => show e = .returned (.bool true) ∧ Gr W7 w' from ⟨r.1, h.step r.2⟩)
  have Q5 := Lib.hid (fun wx (h : Gr W7 wx) => (K4.out ad4 c4 wx (O7.out.sl.step h)).mono fun e w' (r : e = .returned (.bool true) ∧ Below wx.heap.size wx w') => show e = .returned (.bool true) ∧ Gr W7 w' from ⟨r.1, h.step r.2⟩)
  have t0 := Gr.refl W7
  clear hW7 KF SN RS K1 K2 K3 K4 SA A R1 L1 c1 c2' f2 t5 Y7 B7 B5 S5 O5
  cases kb with
  | false =>
    go_region_held3 (fun w' => w'.cell? ⟨w.heap.size, 0, none⟩ = some (.slice ad l.length cap) ∧ w'.cell? ⟨w1.heap.size, 0, none⟩ = some (.slice ad2 l.length c2) ∧ w'.cell? ⟨w4.heap.size, 0, none⟩ = some (.slice ad4 X.length c4) ∧ w'.cell? ⟨w6.heap.size, 0, none⟩ = some (.slice ad6 X.length c6)) (exact HS.out _ (by with_reducible first | assumption | exact Gr.drew (by assumption))) (first
      | (go_at_call 10; with_reducible refine (Q1.out _ (by with_reducible first | assumption | exact Gr.drew (by assumption))).mono ?_; rintro e w8 ⟨rfl, t1⟩)
      | (go_at_call 11; first | (with_reducible refine (Q2.out _ (by with_reducible first | assumption | exact Gr.drew (by assumption))).mono ?_; rintro e w8 ⟨rfl, t1⟩) | (with_reducible refine (Q5.out _ (by with_reducible first | assumption | exact Gr.drew (by assumption))).mono ?_; rintro e w8 ⟨rfl, t1⟩))
      | (go_at_call 12; with_reducible refine (Q3.out _ (by with_reducible first | assumption | exact Gr.drew (by assumption))).mono ?_; rintro e w8 ⟨rfl, t1⟩)
      | (go_at_call 6; with_reducible refine (Q4.out _ (by with_reducible first | assumption | exact Gr.drew (by assumption))).mono ?_; rintro e w8 ⟨rfl, t1⟩))
    have t9 := t1
    obtain ⟨e1, e2, e3, e4⟩ := HS.out _ t9
    obtain ⟨g, rfl, hg1, hg2⟩ := N4.out
    have hX := (O7.out.sl.step t9).le
    have P0 : Hid (Lp (w2.setCell ⟨w1.heap.size, 0, none⟩ (.slice ad2 l.length c2)).heap.size w8 w8 g c4) := Lib.hid ⟨(O7.out.step t9).blk, fun _ _ => rfl, Below.refl _ _⟩
    have B38 := Lib.hid (B37.out.trans (Below.mono t9 B37.out.size))
    obtain ⟨B, hB⟩ : ∃ B, (w2.setCell ⟨w1.heap.size, 0, none⟩ (.slice ad2 l.length c2)).heap.size = B := ⟨_, rfl⟩
    have HB := Lib.hid hB
    rw [hB] at P0 B38 hg1
    clear t0 hB e4 Q1 Q2 Q3 Q4 Q5 O7 X7 S7 HP N4
    go_wp2_with fail
    go_loopw [12, 71] (fun _ si wr => ∃ j : Nat, si = .int .i64 j ∧ j ≤ X.length ∧ Hid (Lp B w8 wr g c4)) (fun _ si _ => (X.length - intOf si).toNat)
    case atStart => exact ⟨0, rfl, Nat.zero_le _, P0⟩
    case round =>
      obtain ⟨j, rfl, hj, hP⟩ := hrel
      clear P0
      by_cases hjl : j < X.length
      · obtain ⟨⟨v, hv⟩, fv⟩ := hP.out.at' (j := j) (by omega)
        have k3 : wr.cell? ⟨w4.heap.size, 0, none⟩ = _ := (World.cell?_of_block (a := ⟨w4.heap.size, 0, none⟩) (hP.out.oth w4.heap.size (by omega))).trans e3
        go_wp2_with fail
        exact ⟨⟨j + 1, by simp, by omega, Lib.hid (hP.out.set hg1 j _)⟩, by simp [intOf]; omega⟩
      · have b9 : Below B _ wr := B38.out.trans hP.out.lo
        rw [← HB.out] at b9
        have s9 := S3.out.step b9
        have k1 := s9.st.c 0
        have k2 := s9.own.c 0
        simp at k1 k2
        have S9 := Lib.hid s9
        clear s9 b9 e1 e2 e3
        go_wp2_with (first
          | (go_at_call 10; with_reducible refine (SB.out _ _ _ _ _ S9.out.row2 S9.out.row).mono ?_; rintro e w9 ⟨rfl, b9⟩)
          | (go_at_call 7; refine (awake_any _).mono ?_; rintro e w10 ⟨rfl, b10⟩))
        go_ret
        exact ⟨rfl, below_then b10 (below_then b9 S9.out.lo)⟩
  | true =>
    go_region_held3 (fun w' => w'.cell? ⟨w.heap.size, 0, none⟩ = some (.slice ad l.length cap) ∧ w'.cell? ⟨w1.heap.size, 0, none⟩ = some (.slice ad2 l.length c2) ∧ w'.cell? ⟨w4.heap.size, 0, none⟩ = some (.slice ad4 X.length c4) ∧ w'.cell? ⟨w6.heap.size, 0, none⟩ = some (.slice ad6 X.length c6)) (exact HS.out _ (by with_reducible first | assumption | exact Gr.drew (by assumption))) (first
      | (go_at_call 10; with_reducible refine (Q1.out _ (by with_reducible first | assumption | exact Gr.drew (by assumption))).mono ?_; rintro e w8 ⟨rfl, t1⟩)
      | (go_at_call 11; first | (with_reducible refine (Q2.out _ (by with_reducible first | assumption | exact Gr.drew (by assumption))).mono ?_; rintro e w8 ⟨rfl, t1⟩) | (with_reducible refine (Q5.out _ (by with_reducible first | assumption | exact Gr.drew (by assumption))).mono ?_; rintro e w8 ⟨rfl, t1⟩))
      | (go_at_call 12; with_reducible refine (Q3.out _ (by with_reducible first | assumption | exact Gr.drew (by assumption))).mono ?_; rintro e w8 ⟨rfl, t1⟩)
      | (go_at_call 6; with_reducible refine (Q4.out _ (by with_reducible first | assumption | exact Gr.drew (by assumption))).mono ?_; rintro e w8 ⟨rfl, t1⟩))
    have t9 := t1
    obtain ⟨e1, e2, e3, e4⟩ := HS.out _ t9
    obtain ⟨g, rfl, hg1, hg2⟩ := N4.out
    have hX := (O7.out.sl.step t9).le
    have P0 : Hid (Lp (w2.setCell ⟨w1.heap.size, 0, none⟩ (.slice ad2 l.length c2)).heap.size w8 w8 g c4) := Lib.hid ⟨(O7.out.step t9).blk, fun _ _ => rfl, Below.refl _ _⟩
    have B38 := Lib.hid (B37.out.trans (Below.mono t9 B37.out.size))
    obtain ⟨B, hB⟩ : ∃ B, (w2.setCell ⟨w1.heap.size, 0, none⟩ (.slice ad2 l.length c2)).heap.size = B := ⟨_, rfl⟩
    have HB := Lib.hid hB
    rw [hB] at P0 B38 hg1
    clear t0 hB e4 Q1 Q2 Q3 Q4 Q5 O7 X7 S7 HP N4
    go_wp2_with fail
    go_loopw [12, 71] (fun _ si wr => ∃ j : Nat, si = .int .i64 j ∧ j ≤ X.length ∧ Hid (Lp B w8 wr g c4)) (fun _ si _ => (X.length - intOf si).toNat)
    case atStart => exact ⟨0, rfl, Nat.zero_le _, P0⟩
    case round =>
      obtain ⟨j, rfl, hj, hP⟩ := hrel
      clear P0
      by_cases hjl : j < X.length
      · obtain ⟨⟨v, hv⟩, fv⟩ := hP.out.at' (j := j) (by omega)
        have k3 : wr.cell? ⟨w4.heap.size, 0, none⟩ = _ := (World.cell?_of_block (a := ⟨w4.heap.size, 0, none⟩) (hP.out.oth w4.heap.size (by omega))).trans e3
        go_wp2_with fail
        exact ⟨⟨j + 1, by simp, by omega, Lib.hid (hP.out.set hg1 j _)⟩, by simp [intOf]; omega⟩
      · have b9 : Below B _ wr := B38.out.trans hP.out.lo
        rw [← HB.out] at b9
        have s9 := S3.out.step b9
        have k1 := s9.st.c 0
        have k2 := s9.own.c 0
        simp at k1 k2
        have S9 := Lib.hid s9
        clear s9 b9 e1 e2 e3
        go_wp2_with (first
          | (go_at_call 10; with_reducible refine (SB.out _ _ _ _ _ S9.out.row2 S9.out.row).mono ?_; rintro e w9 ⟨rfl, b9⟩)
          | (go_at_call 7; refine (awake_any _).mono ?_; rintro e w10 ⟨rfl, b10⟩))
        go_ret
        exact ⟨rfl, below_then b10 (below_then b9 S9.out.lo)⟩

set_option maxRecDepth 100000 in
set_option maxHeartbeats 1000000 in
theorem law_sees (ad : Option Addr) (l : List Int) (cap : Nat) (size id : Int) (w : World) (hI : Sl w ad cap l) :
    Calls Try.prog 3 #[.agg #[.slice ad l.length cap], .int .i64 size, .int .i64 id] w fun e w' => e = .returned (.bool true) ∧ Below w.heap.size w w' := by
  by_cases hf : fitB size l = true
  · exact law_sees_in ad l cap size id w hI hf
  · have HI := Lib.hid hI
    have KF := Lib.hid (fun w' (h : Sl w' ad cap l) => rfit_any ad l cap size w' h)
    rw [show fitB size l = false by simpa using hf] at KF
    clear hf hI
    go_enter Try.func3, Try.ntmps3
    go_wp2_with (first
      | (go_at_call 6; with_reducible refine (KF.out _ (HI.out.step (below1 w _))).mono ?_; rintro e w1 ⟨rfl, b1⟩)
      | (go_at_call 7; refine (awake_any _).mono ?_; rintro e w2 ⟨rfl, b2⟩))
    go_ret
    exact ⟨rfl, below_then b2 (below_then b1 (below1 w _))⟩
end Go.Proofs.Ytdnmbalmejhbcaa
