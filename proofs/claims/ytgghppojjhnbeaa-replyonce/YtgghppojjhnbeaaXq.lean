/- The package's Answer, walked; the conditions that each theorem names. -/
import Derived.Test.YtgghppojjhnbeaaXp
namespace Go.Proofs.Ytgghppojjhnbeaa
open Go.RowKit

set_option maxRecDepth 100000 in
set_option maxHeartbeats 4000000 in
/-- The package's Answer is what the laws ask. -/
theorem ka : KAns := fun nx sv L co now tp w h hfit hnow => by
  obtain ⟨hx0, hx1, hl, hfl⟩ := fitS_iff hfit
  have hnd := (fitL_up 0 L hfl).2
  clear hfit hfl
  have HN := Lib.hid hnd
  have HA := Lib.hid h
  obtain ⟨ad, cap, rfl, -⟩ := h
  obtain ⟨w1, hw1⟩ : ∃ w1, w1 = w.alloc (.cells #[.int .i64 nx, .slice ad L.length cap] 24) := ⟨_, rfl⟩
  have b1 := below1 w (.cells #[.int .i64 nx, .slice ad L.length cap] 24)
  have n1 := Bk.new w #[.int .i64 nx, .slice ad L.length cap] 24
  rw [← hw1] at b1 n1
  have z1 : w1.heap.size = w.heap.size + 1 := by rw [hw1]; simp
  obtain ⟨w2, hw2⟩ : ∃ w2, w2 = w1.alloc (.cells #[.int .i64 0, .slice none 0 0] 24) := ⟨_, rfl⟩
  have b2 := below1 w1 (.cells #[.int .i64 0, .slice none 0 0] 24)
  have n2 := Bk.new w1 #[.int .i64 0, .slice none 0 0] 24
  rw [← hw2] at b2 n2
  rw [z1] at n2
  have z2 : w2.heap.size = w.heap.size + 1 + 1 := by rw [hw2, World.size_alloc, z1]
  have HW1 := Lib.hid hw1.symm
  have HW2 := Lib.hid hw2.symm
  have B2 : Below w.heap.size w w2 := b1.trans (b2.mono (by omega))
  have N1 := n1.below b2
  obtain ⟨e0, e1⟩ := N1.c2
  have H1 := Lib.hid N1
  have H2 := Lib.hid n2
  have KB := Lib.hid (byNumber_any _ L w2 (HA.out.below B2) hl hnd)
  clear hw1 hw2 n1 n2 N1 b1 b2 hnd
  rw [z2] at KB
  go_enter Try.func11, Try.ntmps11
  go_wp2_with (first | rw [HW1.out] | rw [HW2.out])
  refine KB.out.mono ?_
  rintro e w3 ⟨rfl, m3, b3'⟩
  have b3 : Below w2.heap.size w2 w3 := by rw [z2]; exact b3'
  have B3 : Below w.heap.size w w3 := B2.trans (b3.mono B2.size)
  have A3 := Lib.hid (HA.out.below B3)
  have M3 := Lib.hid m3
  have G1 := Lib.hid (H1.out.below b3)
  have G2 := Lib.hid (H2.out.below b3)
  have hlook := look_mp w3 (w.heap.size + 1 + 1) (plc L) m3 co true
  clear e0 e1 KB b3'
  obtain ⟨e0, e1⟩ := G1.out.c2
  have KC := Lib.hid (copied_any nx (.slice ad L.length cap) L w3 A3.out hl)
  have FIN : Hid (∀ w4 a4 c4, w4.ownsRow w3.heap.size 41 3 (.slice a4 L.length c4) L.length (flk Ak.cl L) → Below w3.heap.size w3 w4 → ∀ wy, wy = (w4.setCell ⟨w.heap.size + 1, 0, none⟩ (.int .i64 nx)).setCell ⟨w.heap.size + 1, 1, none⟩ (.slice a4 L.length c4) → Al wy (.slice a4 L.length c4) L ∧ Below w.heap.size w wy) := Lib.hid fun w4 a4 c4 own4 b4 wy hy => by
    subst hy
    have := b3.size
    exact ⟨own_rk Ak.len (own_set (own_set own4 (by omega) _ _) (by omega) _ _), ((B3.trans (b4.mono B3.size)).setCell (p := ⟨w.heap.size + 1, 0, none⟩) (by simp) _).setCell (p := ⟨w.heap.size + 1, 1, none⟩) (by simp) _⟩
  have HB3 := Lib.hid B3
  have hs3 := b3.size
  clear m3 B3 b3
  cases hlk : lk (plc L) co with
  | none =>
    obtain ⟨x1, x2⟩ := an_none (now := now) (tp := tp) hlk
    have X1 := Lib.hid x1
    have X2 := Lib.hid x2
    rw [hlk] at hlook
    simp only [Option.getD_none, Option.isSome_none, if_true] at hlook
    clear x1 x2 hlk
    go_wp2_with fail
    refine KC.out.mono ?_
    rintro e w4 ⟨s4, rfl, own4, b4⟩
    obtain ⟨a4, c4, rfl⟩ := row_form own4
    clear e0 e1 hlook
    obtain ⟨r0, r1⟩ := (G2.out.below b4).c2
    have rf := (G2.out.below b4).f
    go_wp2_with fail
    obtain ⟨f1, f2⟩ := FIN.out _ _ _ own4 b4 _ rfl
    exact bodyPost_ret (v := .tuple #[.agg #[.int .i64 nx, .slice a4 L.length c4], .int .i64 230]) (by simp [results, Try.results11, go_sem, World.cell?_setCell_same, World.cell?_setCell_other, r0, r1]) rfl ⟨_, by rw [X2.out], by rw [X1.out]; exact f1, f2⟩
  | some v =>
    obtain ⟨n, a, rfl, ha, hac⟩ := mem_plc (some_lk hlk)
    rw [hlk] at hlook
    simp only [Option.getD_some, Option.isSome_some, if_true] at hlook
    have hj := (List.getElem?_eq_some_iff.1 ha).1
    obtain ⟨b, of, cp, e, hc⟩ := A3.out.at (by omega)
    simp only [Value.slice.injEq, true_and] at e
    obtain ⟨rfl, rfl⟩ := e
    obtain ⟨c0, c1, c2⟩ := a3 (hc n a ha)
    have hji : (n : Int) < (L.length : Int) := by omega
    by_cases ht : a.tp = tp
    · obtain ⟨x1, x2⟩ := an_yes (now := now) HN.out ha hac ht
      have f2 : (a.tp.toList == tp.toList) = true := by rw [ht]; simp
      have X1 := Lib.hid x1
      have X2 := Lib.hid x2
      have HHA := Lib.hid ha
      clear x1 x2 ht hlk ha hac hc KC FIN
      have hnk : ((plc L).map (·.1)).Nodup := by rw [plc_keys]; exact HN.out
      have HNK := Lib.hid hnk
      clear hnk
      obtain ⟨w4, hdel, m4, g4, s4⟩ := del_mp w3 (w.heap.size + 1 + 1) (plc L) M3.out co 0 HNK.out
      go_wp2_with fail
      clear hdel
      have A4 := Lib.hid (al_map A3.out M3.out g4)
      have K1 := Lib.hid (G1.out.grown g4 (by simp; omega))
      have K2 := Lib.hid (G2.out.grown g4 (by simp))
      have B4 : Below w.heap.size w w4 := ⟨g4.os.trans HB3.out.os, g4.tape.trans HB3.out.tape, g4.output.trans HB3.out.output, Nat.le_trans HB3.out.size g4.size, fun k hk => (g4.block k (Nat.lt_of_lt_of_le hk HB3.out.size) (by simp; omega)).trans (HB3.out.block k hk)⟩
      have HB4 := Lib.hid B4
      have hs4 : w.heap.size + 1 + 1 < w4.heap.size := by have := M3.out.lt; omega
      have KS := Lib.hid (fun wx (hx : Below w4.heap.size w4 wx) => stillIn_any (w.heap.size + 1 + 1) _ _ L wx (m4.heap (hx.block _ (by omega))) (A4.out.below hx) hl)
      have HS := Lib.hid (fun wx (hx : Below w4.heap.size w4 wx) => (K1.out.below hx).c2)
      have HT := Lib.hid (fun wx (p : Nat) v0 v1 (hx : Below w4.heap.size w4 wx) (hp : w4.heap.size ≤ p) => (((K1.out.below hx).other ⟨p, 0, none⟩ v0 (by simp; omega)).other ⟨p, 1, none⟩ v1 (by simp; omega)).c2)
      have B0 := Below.refl w4.heap.size w4
      clear e0 e1 c0 c1 c2 hlook f2 B4 m4 g4 s4
      obtain ⟨e0, e1⟩ := K1.out.c2
      obtain ⟨M, hM⟩ : ∃ M, M = (plc L).filter fun x => x.1 != co := ⟨_, rfl⟩
      rw [← hM] at KS X1
      clear hM
      have BV : Below w4.heap.size w4 w4.drew := B0.drew
      have hv4 : w4.heap.size ≤ w4.drew.heap.size := Nat.le_refl _
      refine wp_region_held_drew (S := fun wx => wx.cell? ⟨w.heap.size, 0, none⟩ = some (.int .i64 nx) ∧ wx.cell? ⟨w.heap.size, 1, none⟩ = some (.slice (some ⟨b, of, none⟩) L.length cap)) (by kernel_rfl) (HS.out _ B0.drew) (fun hHeld => ?_)
      generalize w4.drew = v4 at *
      refine wpAnyH_take (i := 0) (oi := { dst := some 39, op := Op.fieldAddr 24 (Operand.tmp 4) 0, type := 0, pos := _, after := #[], guard := none }) (v := ?tr1) rfl (by kernel_rfl) (by kernel_rfl) (by kernel_rfl) (fun _ _ _ h => h) (Or.inl ⟨by rfl, ?ur1⟩) (by assumption) ?rr1
      case ur1 => (intro w hSw; (try dsimp only at hSw); go_simp; (try with_reducible rfl))
      simp only [Act.put, List.setIfInBounds_toArray, List.set_cons_zero, List.set_cons_succ]
      refine wpAnyH_take (i := 1) (oi := { dst := some 40, op := Op.load 2 (Operand.tmp 39), type := 2, pos := _, after := #[{ on := 0, ground := Ground.data }], guard := none }) (v := ?tr2) rfl (by kernel_rfl) (by kernel_rfl) (by kernel_rfl) (fun _ _ _ h => h) (Or.inl ⟨by rfl, ?ur2⟩) (by assumption) ?rr2
      case ur2 => (intro w hSw; (try dsimp only at hSw); go_simp; (try with_reducible rfl))
      simp only [Act.put, List.setIfInBounds_toArray, List.set_cons_zero, List.set_cons_succ]
      refine wpAnyH_take (i := 2) (oi := { dst := some 41, op := Op.move (Operand.tmp 10), type := 44, pos := _, after := #[], guard := none }) (v := ?tr3) rfl (by kernel_rfl) (by kernel_rfl) (by kernel_rfl) (fun _ _ _ h => h) (Or.inl ⟨by rfl, ?ur3⟩) (by assumption) ?rr3
      case ur3 => (intro w hSw; (try dsimp only at hSw); go_simp; (try with_reducible rfl))
      simp only [Act.put, List.setIfInBounds_toArray, List.set_cons_zero, List.set_cons_succ]
      refine wpAnyH_take (i := 3) (oi := { dst := some 42, op := Op.fieldAddr 24 (Operand.tmp 4) 1, type := 0, pos := _, after := #[], guard := none }) (v := ?tr4) rfl (by kernel_rfl) (by kernel_rfl) (by kernel_rfl) (fun _ _ _ h => h) (Or.inl ⟨by rfl, ?ur4⟩) (by assumption) ?rr4
      case ur4 => (intro w hSw; (try dsimp only at hSw); go_simp; (try with_reducible rfl))
      simp only [Act.put, List.setIfInBounds_toArray, List.set_cons_zero, List.set_cons_succ]
      refine wpAnyH_take (i := 4) (oi := { dst := some 43, op := Op.load 22 (Operand.tmp 42), type := 22, pos := _, after := #[{ on := 3, ground := Ground.data }], guard := none }) (v := ?tr5) rfl (by kernel_rfl) (by kernel_rfl) (by kernel_rfl) (fun _ _ _ h => h) (Or.inl ⟨by rfl, ?ur5⟩) (by assumption) ?rr5
      case ur5 => (intro w hSw; (try dsimp only at hSw); go_simp; (try with_reducible rfl))
      simp only [Act.put, List.setIfInBounds_toArray, List.set_cons_zero, List.set_cons_succ]
      refine wpAnyH_ready (rs := [5, 7]) (by kernel_rfl) (by simp) ?_
      refine AllReadyH.cons (o := { dst := some 44, op := Op.call { callee := Callee.value (Operand.func 18), args := #[Operand.tmp 41, Operand.tmp 43], argTypes := #[44, 22] }, type := 22, pos := _, after := #[{ on := 2, ground := Ground.data }, { on := 4, ground := Ground.data }], guard := none }) rfl (fun K hK => ?_) (AllReadyH.cons (o := { dst := some 13, op := Op.alloc 24, type := 0, pos := _, after := #[], guard := none }) rfl (fun K hK => ?_) AllReadyH.nil)
      · go_simp
        refine (KS.out _ BV).mono ?_
        rintro e w5 ⟨s5, rfl, o5, b5'⟩
        obtain ⟨a5, c5, rfl⟩ := row_form o5
        have b5 : Below w4.heap.size w4 w5 := BV.trans (b5'.mono (by omega))
        have hneP : (Value.slice a5 (inM M L).length c5).ownBlock ≠ some w5.heap.size := fun e => by have := (o5.lt _ e).2; omega
        have HO5 := Lib.hid o5
        have HB5 := Lib.hid b5
        have HNP := Lib.hid hneP
        clear b5' o5 b5 hneP
        go_wp2_with fail
        refine hK.out _ _ (HS.out _ HB5.out) (fun hH1 => ?_)
        clear hK K
        (try simp only [Act.put, List.setIfInBounds_toArray, List.set_cons_zero, List.set_cons_succ])
        refine wpAnyH_take (i := 6) (oi := { dst := some 45, op := Op.build 24 #[(0, Operand.tmp 40), (1, Operand.tmp 44)], type := 24, pos := _, after := #[{ on := 1, ground := Ground.data }, { on := 5, ground := Ground.data }], guard := none }) (v := ?tr6) rfl (by kernel_rfl) (by kernel_rfl) (by kernel_rfl) (fun _ _ _ h => h) (Or.inl ⟨by rfl, ?ur6⟩) (by assumption) ?rr6
        case ur6 => (intro w hSw; (try dsimp only at hSw); go_simp; (try with_reducible rfl))
        simp only [Act.put, List.setIfInBounds_toArray, List.set_cons_zero, List.set_cons_succ]
        refine wpAnyH_ready (rs := [7]) (by kernel_rfl) (by simp) ?_
        refine AllReadyH.cons (o := { dst := some 13, op := Op.alloc 24, type := 0, pos := _, after := #[], guard := none }) rfl (fun K hK => ?_) AllReadyH.nil
        go_simp
        refine hK.out _ _ (HS.out _ (HB5.out.alloc (by have := HB5.out.size; omega) _)) (fun hH2 => ?_)
        have MP := Lib.hid (Bk.new w5 #[.int .i64 0, .slice none 0 0] 24)
        obtain ⟨w6, hw6⟩ : ∃ w6, w6 = w5.alloc (.cells #[.int .i64 0, .slice none 0 0] 24) := ⟨_, rfl⟩
        have HO6 := Lib.hid (own_below HO5.out (below1 w5 (.cells #[.int .i64 0, .slice none 0 0] 24)))
        have HB6 : Hid (Below w4.heap.size w4 (w5.alloc (.cells #[.int .i64 0, .slice none 0 0] 24))) := Lib.hid (HB5.out.alloc (by have := HB5.out.size; omega) _)
        rw [← hw6] at MP HO6 HB6 ⊢
        clear hw6
        clear hK K
        (try simp only [Act.put, List.setIfInBounds_toArray, List.set_cons_zero, List.set_cons_succ])
        refine wpAnyH_ready (rs := [8]) (by kernel_rfl) (by simp) ?_
        refine AllReadyH.cons (o := { dst := none, op := Op.store 24 (Operand.tmp 13) (Operand.tmp 45), type := 0, pos := _, after := #[{ on := 7, ground := Ground.data }, { on := 6, ground := Ground.data }, { on := 5, ground := Ground.chain }, { on := 0, ground := Ground.phase }, { on := 1, ground := Ground.phase }, { on := 2, ground := Ground.phase }, { on := 3, ground := Ground.phase }, { on := 4, ground := Ground.phase }, { on := 5, ground := Ground.phase }, { on := 6, ground := Ground.phase }, { on := 7, ground := Ground.phase }], guard := none }) rfl (fun K hK => ?_) AllReadyH.nil
        have p0 := MP.out.c2.1
        have p1 := MP.out.c2.2
        have pf := MP.out.f
        go_simp
        have hPs : w4.heap.size ≤ w5.heap.size := by have := HB5.out.size; omega
        have M7 := Lib.hid ((MP.out.set 0 (.int .i64 nx)).set 1 (.slice a5 (inM M L).length c5))
        have O7 := Lib.hid (own_far (own_far HO6.out HNP.out 0 (.int .i64 nx)) HNP.out 1 (.slice a5 (inM M L).length c5))
        have B7 : Hid (Below w4.heap.size w4 ((w6.setCell ⟨w5.heap.size, 0, none⟩ (.int .i64 nx)).setCell ⟨w5.heap.size, 1, none⟩ (.slice a5 (inM M L).length c5))) := Lib.hid (((HB6.out).setCell (p := ⟨w5.heap.size, 0, none⟩) hPs _).setCell (p := ⟨w5.heap.size, 1, none⟩) hPs _)
        refine hK.out _ _ (HS.out _ B7.out) (fun hH3 => ?_)
        obtain ⟨w7, hw7⟩ : ∃ w7, w7 = (w6.setCell ⟨w5.heap.size, 0, none⟩ (.int .i64 nx)).setCell ⟨w5.heap.size, 1, none⟩ (.slice a5 (inM M L).length c5) := ⟨_, rfl⟩
        rw [← hw7] at M7 O7 B7 ⊢
        clear p0 p1 pf hw7
        clear hK K
        (try simp only [Act.put, List.setIfInBounds_toArray, List.set_cons_zero, List.set_cons_succ])
        refine wpAnyH_done (by kernel_rfl) ?_ _
        obtain ⟨e0, e1⟩ := (K1.out.below B7.out).c2
        obtain ⟨b', of', cp', e', hc⟩ := (A4.out.below B7.out).at (by omega)
        simp only [Value.slice.injEq, Option.some.injEq, Addr.mk.injEq, true_and, and_true] at e'
        obtain ⟨⟨rfl, rfl⟩, rfl⟩ := e'
        obtain ⟨c0, c1, c2⟩ := a3 (hc n a HHA.out)
        have KL := Lib.hid (late_any a now w7)
        have HB7 := Lib.hid (HB4.out.trans (B7.out.mono HB4.out.size))
        have hs7 := B7.out.size
        clear hc
        cases hla : lat now a with
        | false =>
          rw [hla] at KL X2
          go_wp2_with fail
          refine KL.out.mono ?_
          rintro e w8 ⟨rfl, b8⟩
          clear e0 e1 c0 c1 c2
          obtain ⟨g0, g1⟩ := (M7.out.below b8).c2
          obtain ⟨r0, r1⟩ := ((K2.out.below B7.out).below b8).c2
          have rf := ((K2.out.below B7.out).below b8).f
          go_wp2_with fail
          refine bodyPost_ret (v := .tuple #[.agg #[.int .i64 nx, .slice a5 (inM M L).length c5], .int .i64 0]) (by simp [results, Try.results11, go_sem, World.cell?_setCell_same, World.cell?_setCell_other, r0, r1]) rfl ⟨_, by rw [X2.out]; rfl, ?_, ?_⟩
          · rw [X1.out]; exact own_rk Ak.len (own_set (own_set (own_below O7.out b8) (by first | omega | (simp; omega)) _ _) (by first | omega | (simp; omega)) _ _)
          · exact ((HB7.out.trans (b8.mono HB7.out.size)).setCell (p := ⟨w.heap.size + 1, 0, none⟩) (by simp) _).setCell (p := ⟨w.heap.size + 1, 1, none⟩) (by simp) _
        | true =>
          rw [hla] at KL X2
          go_wp2_with fail
          refine KL.out.mono ?_
          rintro e w8 ⟨rfl, b8⟩
          clear e0 e1 c0 c1 c2
          obtain ⟨g0, g1⟩ := (M7.out.below b8).c2
          obtain ⟨r0, r1⟩ := ((K2.out.below B7.out).below b8).c2
          have rf := ((K2.out.below B7.out).below b8).f
          go_wp2_with fail
          refine bodyPost_ret (v := .tuple #[.agg #[.int .i64 nx, .slice a5 (inM M L).length c5], .int .i64 170]) (by simp [results, Try.results11, go_sem, World.cell?_setCell_same, World.cell?_setCell_other, r0, r1]) rfl ⟨_, by rw [X2.out]; rfl, ?_, ?_⟩
          · rw [X1.out]; exact own_rk Ak.len (own_set (own_set (own_below O7.out b8) (by first | omega | (simp; omega)) _ _) (by first | omega | (simp; omega)) _ _)
          · exact ((HB7.out.trans (b8.mono HB7.out.size)).setCell (p := ⟨w.heap.size + 1, 0, none⟩) (by simp) _).setCell (p := ⟨w.heap.size + 1, 1, none⟩) (by simp) _
      · go_simp
        refine hK.out _ _ (HS.out _ (BV.alloc (by omega) _)) (fun hH4 => ?_)
        clear hK K
        (try simp only [Act.put, List.setIfInBounds_toArray, List.set_cons_zero, List.set_cons_succ])
        refine wpAnyH_ready (rs := [5]) (by kernel_rfl) (by simp) ?_
        refine AllReadyH.cons (o := { dst := some 44, op := Op.call { callee := Callee.value (Operand.func 18), args := #[Operand.tmp 41, Operand.tmp 43], argTypes := #[44, 22] }, type := 22, pos := _, after := #[{ on := 2, ground := Ground.data }, { on := 4, ground := Ground.data }], guard := none }) rfl (fun K hK => ?_) AllReadyH.nil
        go_simp
        refine (KS.out _ (BV.alloc (by omega) _)).mono ?_
        rintro e w5 ⟨s5, rfl, o5, b5'⟩
        obtain ⟨a5, c5, rfl⟩ := row_form o5
        have b5 : Below w4.heap.size w4 w5 := (BV.alloc (by omega) _).trans (b5'.mono (by simp; omega))
        have MP := Lib.hid (Bk.below (Bk.new v4 #[.int .i64 0, .slice none 0 0] 24) b5')
        have hneP : (Value.slice a5 (inM M L).length c5).ownBlock ≠ some v4.heap.size := own_ne o5 (by simp)
        have HO5 := Lib.hid o5
        have HB5 := Lib.hid b5
        have HNP := Lib.hid hneP
        clear b5' o5 b5 hneP
        go_wp2_with fail
        refine hK.out _ _ (HS.out _ HB5.out) (fun hH5 => ?_)
        clear hK K
        (try simp only [Act.put, List.setIfInBounds_toArray, List.set_cons_zero, List.set_cons_succ])
        refine wpAnyH_take (i := 6) (oi := { dst := some 45, op := Op.build 24 #[(0, Operand.tmp 40), (1, Operand.tmp 44)], type := 24, pos := _, after := #[{ on := 1, ground := Ground.data }, { on := 5, ground := Ground.data }], guard := none }) (v := ?tr7) rfl (by kernel_rfl) (by kernel_rfl) (by kernel_rfl) (fun _ _ _ h => h) (Or.inl ⟨by rfl, ?ur7⟩) (by assumption) ?rr7
        case ur7 => (intro w hSw; (try dsimp only at hSw); go_simp; (try with_reducible rfl))
        simp only [Act.put, List.setIfInBounds_toArray, List.set_cons_zero, List.set_cons_succ]
        refine wpAnyH_ready (rs := [8]) (by kernel_rfl) (by simp) ?_
        refine AllReadyH.cons (o := { dst := none, op := Op.store 24 (Operand.tmp 13) (Operand.tmp 45), type := 0, pos := _, after := #[{ on := 7, ground := Ground.data }, { on := 6, ground := Ground.data }, { on := 5, ground := Ground.chain }, { on := 0, ground := Ground.phase }, { on := 1, ground := Ground.phase }, { on := 2, ground := Ground.phase }, { on := 3, ground := Ground.phase }, { on := 4, ground := Ground.phase }, { on := 5, ground := Ground.phase }, { on := 6, ground := Ground.phase }, { on := 7, ground := Ground.phase }], guard := none }) rfl (fun K hK => ?_) AllReadyH.nil
        have p0 := MP.out.c2.1
        have p1 := MP.out.c2.2
        have pf := MP.out.f
        go_simp
        have hPs : w4.heap.size ≤ v4.heap.size := by have := BV.size; omega
        have M7 := Lib.hid ((MP.out.set 0 (.int .i64 nx)).set 1 (.slice a5 (inM M L).length c5))
        have O7 := Lib.hid (own_far (own_far HO5.out HNP.out 0 (.int .i64 nx)) HNP.out 1 (.slice a5 (inM M L).length c5))
        have B7 : Hid (Below w4.heap.size w4 ((w5.setCell ⟨v4.heap.size, 0, none⟩ (.int .i64 nx)).setCell ⟨v4.heap.size, 1, none⟩ (.slice a5 (inM M L).length c5))) := Lib.hid (((HB5.out).setCell (p := ⟨v4.heap.size, 0, none⟩) hPs _).setCell (p := ⟨v4.heap.size, 1, none⟩) hPs _)
        refine hK.out _ _ (HS.out _ B7.out) (fun hH6 => ?_)
        obtain ⟨w7, hw7⟩ : ∃ w7, w7 = (w5.setCell ⟨v4.heap.size, 0, none⟩ (.int .i64 nx)).setCell ⟨v4.heap.size, 1, none⟩ (.slice a5 (inM M L).length c5) := ⟨_, rfl⟩
        rw [← hw7] at M7 O7 B7 ⊢
        clear p0 p1 pf hw7
        clear hK K
        (try simp only [Act.put, List.setIfInBounds_toArray, List.set_cons_zero, List.set_cons_succ])
        refine wpAnyH_done (by kernel_rfl) ?_ _
        obtain ⟨e0, e1⟩ := (K1.out.below B7.out).c2
        obtain ⟨b', of', cp', e', hc⟩ := (A4.out.below B7.out).at (by omega)
        simp only [Value.slice.injEq, Option.some.injEq, Addr.mk.injEq, true_and, and_true] at e'
        obtain ⟨⟨rfl, rfl⟩, rfl⟩ := e'
        obtain ⟨c0, c1, c2⟩ := a3 (hc n a HHA.out)
        have KL := Lib.hid (late_any a now w7)
        have HB7 := Lib.hid (HB4.out.trans (B7.out.mono HB4.out.size))
        have hs7 := B7.out.size
        clear hc
        cases hla : lat now a with
        | false =>
          rw [hla] at KL X2
          go_wp2_with fail
          refine KL.out.mono ?_
          rintro e w8 ⟨rfl, b8⟩
          clear e0 e1 c0 c1 c2
          obtain ⟨g0, g1⟩ := (M7.out.below b8).c2
          obtain ⟨r0, r1⟩ := ((K2.out.below B7.out).below b8).c2
          have rf := ((K2.out.below B7.out).below b8).f
          go_wp2_with fail
          refine bodyPost_ret (v := .tuple #[.agg #[.int .i64 nx, .slice a5 (inM M L).length c5], .int .i64 0]) (by simp [results, Try.results11, go_sem, World.cell?_setCell_same, World.cell?_setCell_other, r0, r1]) rfl ⟨_, by rw [X2.out]; rfl, ?_, ?_⟩
          · rw [X1.out]; exact own_rk Ak.len (own_set (own_set (own_below O7.out b8) (by first | omega | (simp; omega)) _ _) (by first | omega | (simp; omega)) _ _)
          · exact ((HB7.out.trans (b8.mono HB7.out.size)).setCell (p := ⟨w.heap.size + 1, 0, none⟩) (by simp) _).setCell (p := ⟨w.heap.size + 1, 1, none⟩) (by simp) _
        | true =>
          rw [hla] at KL X2
          go_wp2_with fail
          refine KL.out.mono ?_
          rintro e w8 ⟨rfl, b8⟩
          clear e0 e1 c0 c1 c2
          obtain ⟨g0, g1⟩ := (M7.out.below b8).c2
          obtain ⟨r0, r1⟩ := ((K2.out.below B7.out).below b8).c2
          have rf := ((K2.out.below B7.out).below b8).f
          go_wp2_with fail
          refine bodyPost_ret (v := .tuple #[.agg #[.int .i64 nx, .slice a5 (inM M L).length c5], .int .i64 170]) (by simp [results, Try.results11, go_sem, World.cell?_setCell_same, World.cell?_setCell_other, r0, r1]) rfl ⟨_, by rw [X2.out]; rfl, ?_, ?_⟩
          · rw [X1.out]; exact own_rk Ak.len (own_set (own_set (own_below O7.out b8) (by first | omega | (simp; omega)) _ _) (by first | omega | (simp; omega)) _ _)
          · exact ((HB7.out.trans (b8.mono HB7.out.size)).setCell (p := ⟨w.heap.size + 1, 0, none⟩) (by simp) _).setCell (p := ⟨w.heap.size + 1, 1, none⟩) (by simp) _
    · obtain ⟨x1, x2⟩ := an_other (now := now) HN.out ha hac ht
      have f2 : (a.tp.toList == tp.toList) = false := by simpa using fun e => ht (txt_inj e)
      have X1 := Lib.hid x1
      have X2 := Lib.hid x2
      clear x1 x2 ht hlk ha hac hc
      go_wp2_with fail
      refine KC.out.mono ?_
      rintro e w4 ⟨s4, rfl, own4, b4⟩
      obtain ⟨a4, c4, rfl⟩ := row_form own4
      clear e0 e1 hlook c0 c1 c2
      obtain ⟨r0, r1⟩ := (G2.out.below b4).c2
      have rf := (G2.out.below b4).f
      go_wp2_with fail
      obtain ⟨f1, f2'⟩ := FIN.out _ _ _ own4 b4 _ rfl
      exact bodyPost_ret (v := .tuple #[.agg #[.int .i64 nx, .slice a4 L.length c4], .int .i64 230]) (by simp [results, Try.results11, go_sem, World.cell?_setCell_same, World.cell?_setCell_other, r0, r1]) rfl ⟨_, by rw [X2.out], by rw [X1.out]; exact f1, f2'⟩
end Go.Proofs.Ytgghppojjhnbeaa
