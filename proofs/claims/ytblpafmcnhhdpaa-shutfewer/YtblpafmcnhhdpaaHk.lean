/- The package's order, whole; conditions: the lists in memory, not too many. -/
import Derived.Test.YtblpafmcnhhdpaaHj
namespace Go.Proofs.Ytblpafmcnhhdpaa
open Go.RowKit

theorem own_same {w w' : World} {base : Nat} {e : TypeId} {s n : Nat} {v : Value} {xs : List Value} (h : w.ownsRow base e s v n xs) (hs : ∀ g, v.ownBlock = some g → w'.heap[g]? = w.heap[g]?) : w'.ownsRow base e s v n xs := by
  obtain ⟨hl, h | ⟨g, cap, cur, rfl, hb, hh, hc, hm, hz, ht⟩⟩ := h
  · exact ⟨hl, .inl h⟩
  · exact ⟨hl, .inr ⟨g, cap, cur, rfl, hb, (hs g rfl).trans hh, hc, hm, hz, ht⟩⟩
theorem Gx.below {L X Wb ga : Nat} {a b c : World} (h : Gx L X Wb ga a b) (k : Below b.heap.size b c) (hX : X ≤ b.heap.size) : Gx L X Wb ga a c := ⟨k.os.trans h.os, k.tape.trans h.tape, k.output.trans h.output, Nat.le_trans h.size k.size, fun i hm hi hn hn2 => (k.block i (by omega)).trans (h.block i hm hi hn hn2)⟩
theorem Wt.below {A : List (List Int)} {w1 : World} {L X G Wb ga gb : Nat} {F : List Nat} {ah : Nat → Nat} {sv : Value} {wx wy : World} (h : Wt A w1 L X G Wb ga gb F ah sv wx) (hb : Below wx.heap.size wx wy) (hX : X ≤ wx.heap.size) : Wt A w1 L X G Wb ga gb F ah sv wy := ⟨h.h.below hb, h.a.below hb, h.g.below hb hX⟩
/-- The order on its way: what is closed, and the row of it that is told so far. -/
structure Od (A : List (List Int)) (w w1 : World) (X Wb ga gb G : Nat) (acc P F : List Nat) (s1 sv : Value) (wx : World) : Prop where
  t : Wt A w1 (w.heap.size + 2) X G Wb ga gb F (cn A (mf acc)) sv wx
  p : Pl A acc F (cn A (mf acc))
  o : wx.ownsRow X 3 1 s1 P.length (nv P)
  g : s1.ownBlock = none ∨ s1.ownBlock = some G
  r : Bk wx w.heap.size #[.slice none 0 0, .slice none 0 0] 27
  c : Bk wx (w.heap.size + 1) #[s1, .slice none 0 0] 27
  b : Below w.heap.size w wx
theorem Od.below {A : List (List Int)} {w w1 : World} {X Wb ga gb G : Nat} {acc P F : List Nat} {s1 sv : Value} {wx wy : World} (hc : Wc A w1 (w.heap.size + 2) X Wb ga gb) (h : Od A w w1 X Wb ga gb G acc P F s1 sv wx) (hb : Below wx.heap.size wx wy) : Od A w w1 X Wb ga gb G acc P F s1 sv wy :=
  ⟨h.t.below hb (Nat.le_trans hc.xs h.t.g.size), h.p, own_below h.o hb, h.g, h.r.below hb, h.c.below hb, h.b.trans (hb.mono h.b.size)⟩
/-- One is closed. -/
theorem Od.shut {A : List (List Int)} {w w1 : World} {X Wb ga gb G : Nat} {acc P F F2 : List Nat} {s1 sv sv2 : Value} {wx wy : World} {i : Nat} (hc : Wc A w1 (w.heap.size + 2) X Wb ga gb) (h : Od A w w1 X Wb ga gb G acc P F s1 sv wx)
    (t : Wt A w1 (w.heap.size + 2) X G Wb ga gb F2 (cn A (mf (acc ++ [i]))) sv2 wy) (p : Pl A (acc ++ [i]) F2 (cn A (mf (acc ++ [i])))) (g : Gx 0 X Wb ga wx wy) (gg : G ≠ Wb → G ≠ ga → wy.heap[G]? = wx.heap[G]?) : Od A w w1 X Wb ga gb G (acc ++ [i]) P F2 s1 sv2 wy := by
  have h1 := hc.mw
  have h2 := hc.ma
  have h3 := hc.lw
  have h4 := hc.la
  refine ⟨t, p, own_same h.o (fun q e => ?_), h.g, ?_, ?_, ⟨g.os.trans h.b.os, g.tape.trans h.b.tape, g.output.trans h.b.output, Nat.le_trans h.b.size g.size, fun k hk => (g.block k (Nat.zero_le _) (by omega) (by omega) (by omega)).trans (h.b.block k hk)⟩⟩
  · have h5 := (h.o.lt q e).1
    rcases h.g with e2 | e2
    · rw [e2] at e; cases e
    · rw [e2] at e
      obtain rfl := Option.some.inj e
      exact gg (by omega) (by omega)
  · exact (g.block _ (Nat.zero_le _) (by omega) (by omega) (by omega)).trans h.r
  · exact (g.block _ (Nat.zero_le _) (by omega) (by omega) (by omega)).trans h.c
/-- It is told. -/
theorem Od.app {A : List (List Int)} {w w1 : World} {X Wb ga gb G : Nat} {acc P F : List Nat} {s1 sv : Value} {wx w7 : World} {i g2 c2 : Nat} {o : Obj} (hc : Wc A w1 (w.heap.size + 2) X Wb ga gb) (h : Od A w w1 X Wb ga gb G acc P F s1 sv wx)
    (own : w7.ownsRow X 3 1 (.slice (some ⟨g2, 0, none⟩) (P.length + 1) c2) (P.length + 1) (nv P ++ [.int .i64 (i : Int)])) (gr : (wx.alloc o).grownBy w7 s1.ownBlock) (at7 : s1.ownBlock = some g2 ∨ g2 = (wx.alloc o).heap.size) :
    Bk w7 (w.heap.size + 1) #[s1, .slice none 0 0] 27 ∧ Od A w w1 X Wb ga gb g2 acc (P ++ [i]) F (.slice (some ⟨g2, 0, none⟩) (P.length + 1) c2) sv (w7.setCell ⟨w.heap.size + 1, 0, none⟩ (.slice (some ⟨g2, 0, none⟩) (P.length + 1) c2)) := by
  have h0 := h.below hc (below1 wx o)
  have h1 := hc.mw
  have h2 := hc.ma
  have h3 := hc.lw
  have h4 := hc.la
  have hne : ∀ N, N < X → s1.ownBlock ≠ some N := fun N hN => own_ne h.o hN
  have c7 := h0.c.grown gr (hne _ (by omega))
  have xs0 : X ≤ (wx.alloc o).heap.size := Nat.le_trans hc.xs h0.t.g.size
  have sep : sv.ownBlock = none ∨ sv.ownBlock ≠ s1.ownBlock := by
    rcases h.g with e | e
    · rw [e]
      cases sv.ownBlock <;> simp
    · rw [e]; exact .inr h.t.h.ng
  have svg : sv.ownBlock ≠ some g2 := fun e => by
    rcases at7 with e7 | e7
    · rcases sep with e8 | e8
      · rw [e8] at e; cases e
      · exact e8 (e.trans e7.symm)
    · have := (h0.t.h.row.lt g2 e).2
      omega
  have g2s : g2 < w7.heap.size := (own.lt g2 rfl).2
  have sz7 := gr.size
  refine ⟨c7, ?_⟩
  refine ⟨⟨⟨(h0.t.h.bk.grown gr (hne _ (by omega))).other _ _ (by show Wb ≠ w.heap.size + 1; omega), ownsRow_setCell_below (World.ownsRow.kept h0.t.h.row gr sep) (by show w.heap.size + 1 < X; omega) _, h.t.h.lt, svg, by simpa using g2s⟩, Bk.other (Bk.grown h0.t.a gr (hne _ (by omega))) _ _ (by show ga ≠ w.heap.size + 1; omega), ⟨gr.os.trans h0.t.g.os, gr.tape.trans h0.t.g.tape, gr.output.trans h0.t.g.output, by have := h0.t.g.size; simp only [World.setCell, Array.size_modify]; omega, fun k hm hk hn hn2 => ?_⟩⟩, h.p, ?_, .inr rfl, ?_, ?_, ?_⟩
  · rw [Below.heap_setCell _ _ _ k (by show k ≠ w.heap.size + 1; omega), gr.block k (by omega) (fun e => hne k hk e.symm)]
    exact h0.t.g.block k hm hk hn hn2
  · rw [List.length_append, nv_app]
    exact ownsRow_setCell_below own (by show w.heap.size + 1 < X; omega) _
  · exact (h0.r.grown gr (hne _ (by omega))).other _ _ (by show w.heap.size ≠ w.heap.size + 1; omega)
  · exact c7.set 0 _
  · refine Below.setCell (p := ⟨w.heap.size + 1, 0, none⟩) ?_ (by simp) _
    exact ⟨gr.os.trans h0.b.os, gr.tape.trans h0.b.tape, gr.output.trans h0.b.output, Nat.le_trans h0.b.size gr.size, fun k hk => (gr.block k (Nat.lt_of_lt_of_le hk h0.b.size) (fun e => hne k (by omega) e.symm)).trans (h0.b.block k hk)⟩

theorem sum_gl {A : List (List Int)} (h : (A.map fun l => l.length + 1).sum ≤ 400) (i : Nat) : (gl A i).length ≤ 400 := by
  unfold gl
  cases hi : A[i]? with
  | none => simp
  | some l => exact (sml_len h).2 l (List.mem_of_getElem? hi)

set_option maxRecDepth 100000 in
set_option maxHeartbeats 4000000 in
theorem ko : KOrd := by
  intro A ad cap w h hs
  have hA := (sml_len hs).1
  have hG := sum_gl hs
  have hB : ∀ i, (bf A A.length i).length ≤ 1000000 := fun i => by have := bf_len hG i A.length; have : A.length * 400 ≤ 400 * 400 := Nat.mul_le_mul_right _ hA; omega
  obtain ⟨i0, hi0, hz0, hz1, hz2⟩ := infoInt_parts
  have b0 := below1 w (.cells #[.slice none 0 0, .slice none 0 0] 27)
  have n0 := Bk.new w #[.slice none 0 0, .slice none 0 0] 27
  obtain ⟨wa, hwa⟩ : ∃ wa, wa = w.alloc (.cells #[.slice none 0 0, .slice none 0 0] 27) := ⟨_, rfl⟩
  rw [← hwa] at b0 n0
  have za : wa.heap.size = w.heap.size + 1 := by rw [hwa]; simp
  have b1 := below1 wa (.cells #[.slice none 0 0, .slice none 0 0] 27)
  have n1 := Bk.new wa #[.slice none 0 0, .slice none 0 0] 27
  obtain ⟨w0, hw0⟩ : ∃ w0, w0 = wa.alloc (.cells #[.slice none 0 0, .slice none 0 0] 27) := ⟨_, rfl⟩
  rw [← hw0] at b1 n1
  rw [za] at n1
  have HW := Lib.hid (show (w.alloc (.cells #[.slice none 0 0, .slice none 0 0] 27)).alloc (.cells #[.slice none 0 0, .slice none 0 0] 27) = w0 by rw [hw0, hwa])
  have z0 : w0.heap.size = w.heap.size + 2 := by rw [hw0]; simp [za]
  have B0 : Below w.heap.size w w0 := b0.trans (b1.mono (by omega))
  have N0 := n0.below b1
  have KW := waitsOf_any A ad cap w0 (h.below B0) hA hG
  rw [z0] at KW
  have HKW := Lib.hid KW
  have HG := Lib.hid hG
  have HB := Lib.hid hB
  have Hz0 := Lib.hid z0
  have HN0 := Lib.hid N0
  have HN1 := Lib.hid n1
  have HB0 := Lib.hid B0
  clear h hs hwa hw0 n0 n1 N0 B0 b0 b1 za z0 KW hG hB
  go_enter Try.func8, Try.ntmps8
  go_wp2_with (rw [HW.out])
  refine HKW.out.mono ?_
  rintro e w2 ⟨w1, X, Wb, ga, gb, sv, rfl, hC, hT, hb2⟩
  have HC := Lib.hid hC
  have O0 := Lib.hid (show Od A w w1 X Wb ga gb Wb [] [] (fz A A.length) (.slice none 0 0) sv w2 from ⟨hT, fz_pl A, World.ownsRow_nil _ _ _ _, .inl rfl, HN0.out.below (hb2.mono (by have := Hz0.out; omega)), HN1.out.below (hb2.mono (by have := Hz0.out; omega)), HB0.out.trans (hb2.mono (by omega))⟩)
  clear hC hT hb2 HKW HN0 HN1 HB0
  go_wp2_with fail
  go_loopg [] (A.length + 1) (fun g wx => ∃ (acc F : List Nat) (s1 sv : Value) (G : Nat), g = (lft A.length acc).length + 1 ∧ Wy A acc ∧ Od A w w1 X Wb ga gb G acc acc F s1 sv wx)
  case atStart => exact ⟨[], _, _, sv, Wb, by rw [lft_nil]; simp, Wy.nil A, O0.out⟩
  case round =>
    clear O0
    obtain ⟨acc, F, s1, sv, G, hgk, hY, hO⟩ := hrel
    have KS := Lib.hid (some_any hO.t)
    have HY := Lib.hid hY
    have HO := Lib.hid hO
    have HGK := Lib.hid hgk
    have hal := hY.le
    have X0 : X ≤ wr.heap.size := Nat.le_trans HC.out.xs hO.t.g.size
    clear hY hgk
    by_cases h0 : 0 < F.length
    · have KC := Lib.hid (close_any HC.out (HO.out.below HC.out ((Below.refl _ wr).drew)).t HO.out.p h0 hA HB.out HG.out)
      have H4 := Lib.hid (HO.out.below HC.out ((Below.refl _ wr).drew))
      have h0d : decide (0 < F.length) = true := decide_eq_true h0
      rw [h0d] at KS
      obtain ⟨sa, sc, rfl⟩ := row_form hO.o
      clear hO h0d
      go_wp2_with fail
      refine KS.out.mono ?_
      rintro e w5 ⟨rfl, rfl⟩
      go_wp2_with fail
      refine wp_region_held_drew (S := fun _ => True) (by kernel_rfl) trivial (fun hHeld => ?_)
      have X4 : X ≤ w5.drew.heap.size := X0
      generalize w5.drew = v4 at *
      refine wpAnyH_take (i := 0) (oi := { dst := some 9, op := Op.fieldAddr 27 (Operand.tmp 3) 0, type := 0, pos := _, after := #[], guard := none }) (v := ?to1) rfl (by kernel_rfl) (by kernel_rfl) (by kernel_rfl) (fun _ _ _ h => h) (Or.inl ⟨by rfl, ?uo1⟩) (by assumption) ?ro1
      case uo1 => (intro w hSw; (try dsimp only at hSw); go_simp; (try with_reducible rfl))
      simp only [Act.put, List.setIfInBounds_toArray, List.set_cons_zero, List.set_cons_succ]
      refine wpAnyH_take (i := 2) (oi := { dst := some 11, op := Op.move (Operand.tmp 4), type := 33, pos := _, after := #[], guard := none }) (v := ?to2) rfl (by kernel_rfl) (by kernel_rfl) (by kernel_rfl) (fun _ _ _ h => h) (Or.inl ⟨by rfl, ?uo2⟩) (by assumption) ?ro2
      case uo2 => (intro w hSw; (try dsimp only at hSw); go_simp; (try with_reducible rfl))
      simp only [Act.put, List.setIfInBounds_toArray, List.set_cons_zero, List.set_cons_succ]
      refine wpAnyH_ready (rs := [1, 3]) (by kernel_rfl) (by simp) ?_
      refine AllReadyH.cons (o := { dst := some 10, op := Op.load 25 (Operand.tmp 9), type := 25, pos := _, after := #[{ on := 0, ground := Ground.data }], guard := none }) rfl (fun K hK => ?_) (AllReadyH.cons (o := { dst := some 12, op := Op.call { callee := Callee.value (Operand.func 14), args := #[Operand.tmp 11], argTypes := #[33] }, type := 3, pos := _, after := #[{ on := 2, ground := Ground.data }], guard := none }) rfl (fun K hK => ?_) AllReadyH.nil)
      · have p0 := H4.out.c.c 0
        simp only [List.getElem?_toArray, List.getElem?_cons_zero] at p0
        go_simp
        refine hK.out _ _ trivial (fun hH1 => ?_)
        clear p0
        clear hK K
        (try simp only [Act.put, List.setIfInBounds_toArray, List.set_cons_zero, List.set_cons_succ])
        refine wpAnyH_ready (rs := [3]) (by kernel_rfl) (by simp) ?_
        refine AllReadyH.cons (o := { dst := some 12, op := Op.call { callee := Callee.value (Operand.func 14), args := #[Operand.tmp 11], argTypes := #[33] }, type := 3, pos := _, after := #[{ on := 2, ground := Ground.data }], guard := none }) rfl (fun K hK => ?_) AllReadyH.nil
        go_simp
        refine KC.out.mono ?_
        rintro e v5 ⟨i, F2, sv2, rfl, hl, t5, p5, g5, gg5⟩
        have H5 := Lib.hid (H4.out.shut HC.out t5 p5 g5 gg5)
        have HL := Lib.hid hl
        clear t5 p5 g5 gg5 hl
        go_wp2_with fail
        refine hK.out _ _ trivial (fun hH2 => ?_)
        clear hK K
        (try simp only [Act.put, List.setIfInBounds_toArray, List.set_cons_zero, List.set_cons_succ])
        refine wpAnyH_ready (rs := [4]) (by kernel_rfl) (by simp) ?_
        refine AllReadyH.cons (o := { dst := some 13, op := Op.buildSlice 25 1 #[(0, Operand.tmp 12)], type := 25, pos := _, after := #[{ on := 3, ground := Ground.data }], guard := none }) rfl (fun K hK => ?_) AllReadyH.nil
        go_simp
        have H6 := Lib.hid (H5.out.below HC.out (below1 v5 (.cells #[.int .i64 (i : Int)] 3)))
        refine hK.out _ _ trivial (fun hH3 => ?_)
        clear hK K
        (try simp only [Act.put, List.setIfInBounds_toArray, List.set_cons_zero, List.set_cons_succ])
        refine wpAnyH_ready (rs := [5]) (by kernel_rfl) (by simp) ?_
        refine AllReadyH.cons (o := { dst := some 14, op := Op.call { callee := Callee.builtin Builtin.append, args := #[Operand.tmp 10, Operand.tmp 13], argTypes := #[25, 25] }, type := 25, pos := _, after := #[{ on := 1, ground := Ground.data }, { on := 4, ground := Ground.data }, { on := 3, ground := Ground.chain }], guard := none }) rfl (fun K hK => ?_) AllReadyH.nil
        rw [if_pos (by rfl)]
        refine wp_append_lies _ (.tmp 10) (.tmp 13) 25 rfl X 3 i0 _ 1 8 Try.underlying25 hi0 hz0 hz1 hz2 rfl (by decide) _ _ _ rfl H6.out.o ⟨v5.heap.size, 0, none⟩ 1 1 [.int .i64 (i : Int)] rfl rfl (cell_one_new _ _ _) (by intro u hu; simp at hu; subst hu; rfl) (by decide) (by unfold maxLen; omega) (by omega) (Nat.le_trans HC.out.xs H6.out.t.g.size) _ rfl ?_
        intro gg cc w7 own7 gr7 at7 lt7
        obtain ⟨E1, E2⟩ := H5.out.app HC.out own7 gr7 at7
        have E1h := Lib.hid E1
        have E2h := Lib.hid E2
        clear E1 E2 own7 gr7 at7 lt7
        refine hK.out _ _ trivial (fun hH4 => ?_)
        clear hK K
        (try simp only [Act.put, List.setIfInBounds_toArray, List.set_cons_zero, List.set_cons_succ])
        refine wpAnyH_take (i := 6) (oi := { dst := some 15, op := Op.fieldAddr 27 (Operand.tmp 3) 0, type := 0, pos := _, after := #[{ on := 0, ground := Ground.phase }, { on := 1, ground := Ground.phase }, { on := 2, ground := Ground.phase }, { on := 3, ground := Ground.phase }, { on := 4, ground := Ground.phase }, { on := 5, ground := Ground.phase }], guard := none }) (v := ?to3) rfl (by kernel_rfl) (by kernel_rfl) (by kernel_rfl) (fun _ _ _ h => h) (Or.inl ⟨by rfl, ?uo3⟩) (by assumption) ?ro3
        case uo3 => (intro w hSw; (try dsimp only at hSw); go_simp; (try with_reducible rfl))
        simp only [Act.put, List.setIfInBounds_toArray, List.set_cons_zero, List.set_cons_succ]
        refine wpAnyH_ready (rs := [7]) (by kernel_rfl) (by simp) ?_
        refine AllReadyH.cons (o := { dst := none, op := Op.store 25 (Operand.tmp 15) (Operand.tmp 14), type := 0, pos := _, after := #[{ on := 6, ground := Ground.data }, { on := 5, ground := Ground.data }, { on := 5, ground := Ground.chain }, { on := 0, ground := Ground.phase }, { on := 1, ground := Ground.phase }, { on := 2, ground := Ground.phase }, { on := 3, ground := Ground.phase }, { on := 4, ground := Ground.phase }, { on := 5, ground := Ground.phase }], guard := none }) rfl (fun K hK => ?_) AllReadyH.nil
        have p0 := E1h.out.c 0
        have pf := E1h.out.f 0
        simp only [List.getElem?_toArray, List.getElem?_cons_zero] at p0
        go_simp
        refine hK.out _ _ trivial (fun hH5 => ?_)
        clear p0 pf
        clear hK K
        (try simp only [Act.put, List.setIfInBounds_toArray, List.set_cons_zero, List.set_cons_succ])
        refine wpAnyH_done (by kernel_rfl) ?_ _
        obtain ⟨y1, y2⟩ := HY.out.go HL.out
        go_wp2_with fail
        go_roundg ((lft A.length (acc ++ [i])).length + 1)
        case measure => have := HGK.out; omega
        case rel => exact ⟨acc ++ [i], F2, _, sv2, gg, rfl, y1, E2h.out⟩
      · go_simp
        refine KC.out.mono ?_
        rintro e v5 ⟨i, F2, sv2, rfl, hl, t5, p5, g5, gg5⟩
        have H5 := Lib.hid (H4.out.shut HC.out t5 p5 g5 gg5)
        have HL := Lib.hid hl
        clear t5 p5 g5 gg5 hl
        go_wp2_with fail
        refine hK.out _ _ trivial (fun hH6 => ?_)
        clear hK K
        (try simp only [Act.put, List.setIfInBounds_toArray, List.set_cons_zero, List.set_cons_succ])
        refine wpAnyH_ready (rs := [1, 4]) (by kernel_rfl) (by simp) ?_
        refine AllReadyH.cons (o := { dst := some 10, op := Op.load 25 (Operand.tmp 9), type := 25, pos := _, after := #[{ on := 0, ground := Ground.data }], guard := none }) rfl (fun K hK => ?_) (AllReadyH.cons (o := { dst := some 13, op := Op.buildSlice 25 1 #[(0, Operand.tmp 12)], type := 25, pos := _, after := #[{ on := 3, ground := Ground.data }], guard := none }) rfl (fun K hK => ?_) AllReadyH.nil)
        · have p0 := H5.out.c.c 0
          simp only [List.getElem?_toArray, List.getElem?_cons_zero] at p0
          go_simp
          refine hK.out _ _ trivial (fun hH7 => ?_)
          clear p0
          clear hK K
          (try simp only [Act.put, List.setIfInBounds_toArray, List.set_cons_zero, List.set_cons_succ])
          refine wpAnyH_ready (rs := [4]) (by kernel_rfl) (by simp) ?_
          refine AllReadyH.cons (o := { dst := some 13, op := Op.buildSlice 25 1 #[(0, Operand.tmp 12)], type := 25, pos := _, after := #[{ on := 3, ground := Ground.data }], guard := none }) rfl (fun K hK => ?_) AllReadyH.nil
          go_simp
          have H6 := Lib.hid (H5.out.below HC.out (below1 v5 (.cells #[.int .i64 (i : Int)] 3)))
          refine hK.out _ _ trivial (fun hH8 => ?_)
          clear hK K
          (try simp only [Act.put, List.setIfInBounds_toArray, List.set_cons_zero, List.set_cons_succ])
          refine wpAnyH_ready (rs := [5]) (by kernel_rfl) (by simp) ?_
          refine AllReadyH.cons (o := { dst := some 14, op := Op.call { callee := Callee.builtin Builtin.append, args := #[Operand.tmp 10, Operand.tmp 13], argTypes := #[25, 25] }, type := 25, pos := _, after := #[{ on := 1, ground := Ground.data }, { on := 4, ground := Ground.data }, { on := 3, ground := Ground.chain }], guard := none }) rfl (fun K hK => ?_) AllReadyH.nil
          rw [if_pos (by rfl)]
          refine wp_append_lies _ (.tmp 10) (.tmp 13) 25 rfl X 3 i0 _ 1 8 Try.underlying25 hi0 hz0 hz1 hz2 rfl (by decide) _ _ _ rfl H6.out.o ⟨v5.heap.size, 0, none⟩ 1 1 [.int .i64 (i : Int)] rfl rfl (cell_one_new _ _ _) (by intro u hu; simp at hu; subst hu; rfl) (by decide) (by unfold maxLen; omega) (by omega) (Nat.le_trans HC.out.xs H6.out.t.g.size) _ rfl ?_
          intro gg cc w7 own7 gr7 at7 lt7
          obtain ⟨E1, E2⟩ := H5.out.app HC.out own7 gr7 at7
          have E1h := Lib.hid E1
          have E2h := Lib.hid E2
          clear E1 E2 own7 gr7 at7 lt7
          refine hK.out _ _ trivial (fun hH9 => ?_)
          clear hK K
          (try simp only [Act.put, List.setIfInBounds_toArray, List.set_cons_zero, List.set_cons_succ])
          refine wpAnyH_take (i := 6) (oi := { dst := some 15, op := Op.fieldAddr 27 (Operand.tmp 3) 0, type := 0, pos := _, after := #[{ on := 0, ground := Ground.phase }, { on := 1, ground := Ground.phase }, { on := 2, ground := Ground.phase }, { on := 3, ground := Ground.phase }, { on := 4, ground := Ground.phase }, { on := 5, ground := Ground.phase }], guard := none }) (v := ?to4) rfl (by kernel_rfl) (by kernel_rfl) (by kernel_rfl) (fun _ _ _ h => h) (Or.inl ⟨by rfl, ?uo4⟩) (by assumption) ?ro4
          case uo4 => (intro w hSw; (try dsimp only at hSw); go_simp; (try with_reducible rfl))
          simp only [Act.put, List.setIfInBounds_toArray, List.set_cons_zero, List.set_cons_succ]
          refine wpAnyH_ready (rs := [7]) (by kernel_rfl) (by simp) ?_
          refine AllReadyH.cons (o := { dst := none, op := Op.store 25 (Operand.tmp 15) (Operand.tmp 14), type := 0, pos := _, after := #[{ on := 6, ground := Ground.data }, { on := 5, ground := Ground.data }, { on := 5, ground := Ground.chain }, { on := 0, ground := Ground.phase }, { on := 1, ground := Ground.phase }, { on := 2, ground := Ground.phase }, { on := 3, ground := Ground.phase }, { on := 4, ground := Ground.phase }, { on := 5, ground := Ground.phase }], guard := none }) rfl (fun K hK => ?_) AllReadyH.nil
          have p0 := E1h.out.c 0
          have pf := E1h.out.f 0
          simp only [List.getElem?_toArray, List.getElem?_cons_zero] at p0
          go_simp
          refine hK.out _ _ trivial (fun hH10 => ?_)
          clear p0 pf
          clear hK K
          (try simp only [Act.put, List.setIfInBounds_toArray, List.set_cons_zero, List.set_cons_succ])
          refine wpAnyH_done (by kernel_rfl) ?_ _
          obtain ⟨y1, y2⟩ := HY.out.go HL.out
          go_wp2_with fail
          go_roundg ((lft A.length (acc ++ [i])).length + 1)
          case measure => have := HGK.out; omega
          case rel => exact ⟨acc ++ [i], F2, _, sv2, gg, rfl, y1, E2h.out⟩
        · go_simp
          have H6 := Lib.hid (H5.out.below HC.out (below1 v5 (.cells #[.int .i64 (i : Int)] 3)))
          refine hK.out _ _ trivial (fun hH11 => ?_)
          clear hK K
          (try simp only [Act.put, List.setIfInBounds_toArray, List.set_cons_zero, List.set_cons_succ])
          refine wpAnyH_ready (rs := [1]) (by kernel_rfl) (by simp) ?_
          refine AllReadyH.cons (o := { dst := some 10, op := Op.load 25 (Operand.tmp 9), type := 25, pos := _, after := #[{ on := 0, ground := Ground.data }], guard := none }) rfl (fun K hK => ?_) AllReadyH.nil
          have p0 := H6.out.c.c 0
          simp only [List.getElem?_toArray, List.getElem?_cons_zero] at p0
          go_simp
          refine hK.out _ _ trivial (fun hH12 => ?_)
          clear p0
          clear hK K
          (try simp only [Act.put, List.setIfInBounds_toArray, List.set_cons_zero, List.set_cons_succ])
          refine wpAnyH_ready (rs := [5]) (by kernel_rfl) (by simp) ?_
          refine AllReadyH.cons (o := { dst := some 14, op := Op.call { callee := Callee.builtin Builtin.append, args := #[Operand.tmp 10, Operand.tmp 13], argTypes := #[25, 25] }, type := 25, pos := _, after := #[{ on := 1, ground := Ground.data }, { on := 4, ground := Ground.data }, { on := 3, ground := Ground.chain }], guard := none }) rfl (fun K hK => ?_) AllReadyH.nil
          rw [if_pos (by rfl)]
          refine wp_append_lies _ (.tmp 10) (.tmp 13) 25 rfl X 3 i0 _ 1 8 Try.underlying25 hi0 hz0 hz1 hz2 rfl (by decide) _ _ _ rfl H6.out.o ⟨v5.heap.size, 0, none⟩ 1 1 [.int .i64 (i : Int)] rfl rfl (cell_one_new _ _ _) (by intro u hu; simp at hu; subst hu; rfl) (by decide) (by unfold maxLen; omega) (by omega) (Nat.le_trans HC.out.xs H6.out.t.g.size) _ rfl ?_
          intro gg cc w7 own7 gr7 at7 lt7
          obtain ⟨E1, E2⟩ := H5.out.app HC.out own7 gr7 at7
          have E1h := Lib.hid E1
          have E2h := Lib.hid E2
          clear E1 E2 own7 gr7 at7 lt7
          refine hK.out _ _ trivial (fun hH13 => ?_)
          clear hK K
          (try simp only [Act.put, List.setIfInBounds_toArray, List.set_cons_zero, List.set_cons_succ])
          refine wpAnyH_take (i := 6) (oi := { dst := some 15, op := Op.fieldAddr 27 (Operand.tmp 3) 0, type := 0, pos := _, after := #[{ on := 0, ground := Ground.phase }, { on := 1, ground := Ground.phase }, { on := 2, ground := Ground.phase }, { on := 3, ground := Ground.phase }, { on := 4, ground := Ground.phase }, { on := 5, ground := Ground.phase }], guard := none }) (v := ?to5) rfl (by kernel_rfl) (by kernel_rfl) (by kernel_rfl) (fun _ _ _ h => h) (Or.inl ⟨by rfl, ?uo5⟩) (by assumption) ?ro5
          case uo5 => (intro w hSw; (try dsimp only at hSw); go_simp; (try with_reducible rfl))
          simp only [Act.put, List.setIfInBounds_toArray, List.set_cons_zero, List.set_cons_succ]
          refine wpAnyH_ready (rs := [7]) (by kernel_rfl) (by simp) ?_
          refine AllReadyH.cons (o := { dst := none, op := Op.store 25 (Operand.tmp 15) (Operand.tmp 14), type := 0, pos := _, after := #[{ on := 6, ground := Ground.data }, { on := 5, ground := Ground.data }, { on := 5, ground := Ground.chain }, { on := 0, ground := Ground.phase }, { on := 1, ground := Ground.phase }, { on := 2, ground := Ground.phase }, { on := 3, ground := Ground.phase }, { on := 4, ground := Ground.phase }, { on := 5, ground := Ground.phase }], guard := none }) rfl (fun K hK => ?_) AllReadyH.nil
          have p0 := E1h.out.c 0
          have pf := E1h.out.f 0
          simp only [List.getElem?_toArray, List.getElem?_cons_zero] at p0
          go_simp
          refine hK.out _ _ trivial (fun hH14 => ?_)
          clear p0 pf
          clear hK K
          (try simp only [Act.put, List.setIfInBounds_toArray, List.set_cons_zero, List.set_cons_succ])
          refine wpAnyH_done (by kernel_rfl) ?_ _
          obtain ⟨y1, y2⟩ := HY.out.go HL.out
          go_wp2_with fail
          go_roundg ((lft A.length (acc ++ [i])).length + 1)
          case measure => have := HGK.out; omega
          case rel => exact ⟨acc ++ [i], F2, _, sv2, gg, rfl, y1, E2h.out⟩
    · obtain rfl : F = [] := List.eq_nil_of_length_eq_zero (by omega)
      have h0d : decide (0 < ([] : List Nat).length) = false := rfl
      rw [h0d] at KS
      have KL := Lib.hid (left_any HO.out.t hA)
      have hord := HY.out.stop HO.out.p.none
      have hcyc : ((List.range A.length).filter fun x => decide (0 < cn A (mf acc) x)) = cyc A := by
        unfold cyc lft
        rw [hord]
        refine List.filter_congr fun x hx => ?_
        have := HO.out.p.left (List.mem_range.1 hx)
        simp only [mf]
        by_cases hm : x ∈ acc
        · have h9 := this.2 hm
          simp [hm, h9]
        · have h9 : ¬ cn A (mf acc) x = 0 := fun e => hm (this.1 e)
          simp [hm]
          omega
      rw [hcyc] at KL
      have HORD := Lib.hid hord
      obtain ⟨sa, sc, rfl⟩ := row_form hO.o
      clear hO h0d hord hcyc
      go_wp2_with fail
      refine KS.out.mono ?_
      rintro e w5 ⟨rfl, rfl⟩
      go_wp2_with fail
      refine KL.out.mono ?_
      rintro e w6 ⟨s2, rfl, own6, b6⟩
      have H6 := HO.out.below HC.out b6
      have r0 := H6.r.c2
      obtain ⟨q0, q1⟩ := H6.c.c2
      have qf := H6.c.f 1
      obtain ⟨r0, r1⟩ := r0
      obtain ⟨s2a, s2c, rfl⟩ := row_form own6
      have HO6 := Lib.hid own6
      have H6h := Lib.hid H6
      have hlt : w.heap.size + 1 < X := by have h1 := HC.out.mw; have h3 := HC.out.lw; omega
      have hX6 : X ≤ w6.heap.size := Nat.le_trans X0 b6.size
      clear own6 H6 b6
      have C7 := H6h.out.c.set 1 (.slice s2a (cyc A).length s2c)
      obtain ⟨w7, hw7⟩ : ∃ w7, w7 = w6.setCell ⟨w.heap.size + 1, 1, none⟩ (.slice s2a (cyc A).length s2c) := ⟨_, rfl⟩
      rw [← hw7] at C7
      have R7 : Bk w7 w.heap.size #[.slice none 0 0, .slice none 0 0] 27 := by rw [hw7]; exact H6h.out.r.other _ _ (by simp)
      have HW7 := Lib.hid hw7.symm
      obtain ⟨u0, u1⟩ := (show Bk w7 (w.heap.size + 1) #[.slice sa acc.length sc, .slice s2a (cyc A).length s2c] 27 from C7).c2
      obtain ⟨v0, v1⟩ := R7.c2
      have vf := R7.f 0
      have vf1 := R7.f 1
      have W7 := Lib.hid (show w7.ownsRow X 3 1 (.slice sa acc.length sc) acc.length (nv acc) ∧ w7.ownsRow w5.heap.size 3 1 (.slice s2a (cyc A).length s2c) (cyc A).length (nv (cyc A)) ∧ Below w.heap.size w w7 by
        rw [hw7]
        exact ⟨ownsRow_setCell_below H6h.out.o hlt _, ownsRow_setCell_below HO6.out (by show w.heap.size + 1 < w5.heap.size; omega) _, H6h.out.b.setCell (p := ⟨w.heap.size + 1, 1, none⟩) (by simp) _⟩)
      clear C7 R7 hw7 r0 r1 q0 
      go_wp2_with (rw [HW7.out])
      have e1 := own_rin (ownsRow_setCell_below (a := ⟨w.heap.size, 1, none⟩) (ownsRow_setCell_below (a := ⟨w.heap.size, 0, none⟩) W7.out.1 (by show w.heap.size < X; omega) (.slice sa acc.length sc)) (by show w.heap.size < X; omega) (.slice s2a (cyc A).length s2c))
      have e2 := own_rin (ownsRow_setCell_below (a := ⟨w.heap.size, 1, none⟩) (ownsRow_setCell_below (a := ⟨w.heap.size, 0, none⟩) W7.out.2.1 (by show w.heap.size < w5.heap.size; omega) (.slice sa acc.length sc)) (by show w.heap.size < w5.heap.size; omega) (.slice s2a (cyc A).length s2c))
      have e1' := e1
      rw [show acc.map (fun (i : Nat) => (i : Int)) = (ord A).map (fun (i : Nat) => (i : Int)) by rw [HORD.out]] at e1'
      exact bodyPost_ret (v := .agg #[.slice sa acc.length sc, .slice s2a (cyc A).length s2c]) (by simp [results, Try.results8, go_sem, World.cell?_setCell_same, World.cell?_setCell_other, v0, v1]) rfl ⟨_, _, rfl, e1', e2, below_set2 W7.out.2.2 (Nat.le_refl _) _ _⟩
end Go.Proofs.Ytblpafmcnhhdpaa
