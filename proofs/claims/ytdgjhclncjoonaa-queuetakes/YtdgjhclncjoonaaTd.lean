/- The document's Late; the conditions: the messages in memory, of a size that can be. -/
import Derived.Test.YtdgjhclncjoonaaTc
import Derived.Test.YtdgjhclncjoonaaQi
import Derived.Test.YtdgjhclncjoonaaRu
namespace Go.Proofs.Ytdgjhclncjoonaa
open Go.RowKit

set_option maxRecDepth 100000 in
set_option maxHeartbeats 8000000 in
theorem rlate_any (l : List Ms) (ad : Option Addr) (cap : Nat) (r dr now : Int) (w : World) (hl : l.length ≤ 1500) (hI : Mw w ad l) (hp : Sm l) (hd : 0 ≤ dr) (hd2 : dr ≤ 4611686018427387904) :
    Calls Try.prog 17 #[.agg #[.slice ad l.length cap, .int .i64 r, .int .i64 dr], .int .i64 now] w (LateP w (sts now l) (lts now l) r (dr + (lts now l).length)) := by
  obtain ⟨W, hW⟩ : ∃ W, W = ((w.alloc (.cells #[.slice ad l.length cap, .int .i64 r, .int .i64 dr] 24)).alloc (.cells #[.slice none 0 0, .int .i64 0, .int .i64 0] 24)).alloc (.cells #[.slice none 0 0, .int .i64 r, .int .i64 dr] 24) := ⟨_, rfl⟩
  have B0 : Below w.heap.size w W := by rw [hW]; exact (below2 w _ _).alloc (by simp; omega) _
  have S0 : Bk W w.heap.size #[.slice ad l.length cap, .int .i64 r, .int .i64 dr] 24 := by rw [hW]; exact ((Bk.new w _ _).alloc _).alloc _
  have Z0 : Bk W (w.heap.size + 1) #[.slice none 0 0, .int .i64 0, .int .i64 0] 24 := by rw [hW]; exact (Bk.new2 w _ _ _).alloc _
  have hWs : W.heap.size = w.heap.size + 1 + 1 + 1 := by rw [hW]; simp
  have O0 : Ow (w.heap.size + 1 + 1 + 1) (w.heap.size + 1 + 1) (sts now (l.take 0)) (lts now (l.take 0)) none 0 (.slice none 0 0) r (dr + (lts now (l.take 0)).length) [] [] W := by
    have e : dr + ((lts now (l.take 0)).length : Int) = dr := by simp [lts]
    rw [e]
    refine ⟨?_, Tw.nil _ _ (by omega)⟩
    rw [hW]
    have := Bk.new2 (w.alloc (.cells #[.slice ad l.length cap, .int .i64 r, .int .i64 dr] 24)) (.cells #[.slice none 0 0, .int .i64 0, .int .i64 0] 24) #[.slice none 0 0, .int .i64 r, .int .i64 dr] 24
    simp only [World.size_alloc] at this
    exact this
  have HI := Lib.hid hI
  have HP := Lib.hid hp
  have HO := Lib.hid O0
  have HWs := Lib.hid hWs
  obtain ⟨s0, s1, s2⟩ := S0.c3
  have HW := Lib.hid hW.symm
  clear hI hp hW O0
  go_enter Try.func17, Try.ntmps17
  go_wp2_with (rw [HW.out])
  clear s0 s1 s2 HW
  go_loopw [7, 18] (fun s7 s18 wr => ∃ (j : Nat) (a1 : Option Addr) (c1 : Nat) (x1 x2 : List Value), s18 = .int .i64 j ∧ j ≤ l.length ∧ Ow (w.heap.size + 1 + 1 + 1) (w.heap.size + 1 + 1) (sts now (l.take j)) (lts now (l.take j)) a1 c1 s7 r (dr + (lts now (l.take j)).length) x1 x2 wr ∧ Kb (w.heap.size + 1 + 1 + 1) (w.heap.size + 1 + 1) W wr) (fun _ s18 _ => l.length - (intOf s18).toNat)
  case atStart => exact ⟨0, none, 0, [], [], rfl, Nat.zero_le _, HO.out, Kb.refl _ _ _⟩
  case round =>
    obtain ⟨j, a1, c1, xs, z2, rfl, hj, ou, kb⟩ := hrel
    have hws := HWs.out
    have hks := kb.size
    have bw : Below w.heap.size w wr := Kb.below B0 kb (by omega) (by omega)
    by_cases hlt : j < l.length
    · rcases HI.out with h | ⟨b, o, rfl, hb, h2⟩
      · rw [h] at hlt; simp at hlt
      obtain ⟨x, hx⟩ : ∃ x, l[j]? = some x := ⟨_, List.getElem?_eq_getElem hlt⟩
      obtain ⟨d, c, rr⟩ := h2 j x hx
      obtain ⟨x0, x1, x2, x3, x4, x5, x6, x7, x8, x9, x10, x11, x12⟩ := c.heap (bw.block b hb)
      obtain ⟨w1, hw1⟩ : ∃ w1, w1 = wr.alloc (.cells #[.int .i64 x.id, .string x.tp, .int .i64 d.k, .int .i64 d.i, .int .u64 d.u, .string d.s, .slice d.a d.l d.c, .int .i64 x.ti, .int .i64 x.un, .string x.rp, .int .i64 x.co, .int .i64 x.pr, .int .i64 x.ho] 30) := ⟨_, rfl⟩
      have b1 : Below wr.heap.size wr w1 := by rw [hw1]; exact below1 wr _
      have XB : Bk w1 wr.heap.size #[.int .i64 x.id, .string x.tp, .int .i64 d.k, .int .i64 d.i, .int .u64 d.u, .string d.s, .slice d.a d.l d.c, .int .i64 x.ti, .int .i64 x.un, .string x.rp, .int .i64 x.co, .int .i64 x.pr, .int .i64 x.ho] 30 := by rw [hw1]; exact Bk.new wr _ _
      have HM : Hid (∀ wx, Below w.heap.size w wx → Calls Try.prog 22 #[.agg #[.int .i64 x.id, .string x.tp, .int .i64 d.k, .int .i64 d.i, .int .u64 d.u, .string d.s, .slice d.a d.l d.c, .int .i64 x.ti, .int .i64 x.un, .string x.rp, .int .i64 x.co, .int .i64 x.pr, .int .i64 x.ho]] wx fun e w' => ∃ d' : Bo, e = .returned (.agg (x.cs d')) ∧ Rz (fun g => wx.heap.size ≤ g ∧ g < w'.heap.size) w' x.n d'.vs x.t ∧ Below wx.heap.size wx w') := fun wx h => cmsg_any x d wx (Dt.Rep.below h _ _ _ (Rz.rep _ _ _ rr)) (HP.out x (List.mem_of_getElem? hx))
      have e1 := lts_len now l j
      have e2 := sts_len now l j
      have FY : Hid (isL now x = true → lts now (l.take (j + 1)) = lts now (l.take j) ++ [x] ∧ sts now (l.take (j + 1)) = sts now (l.take j)) := fun h => ⟨lts_yes hx h, sts_yes hx h⟩
      have FN : Hid (isL now x = false → lts now (l.take (j + 1)) = lts now (l.take j) ∧ sts now (l.take (j + 1)) = sts now (l.take j) ++ [x]) := fun h => ⟨lts_no hx h, sts_no hx h⟩
      generalize lts now (l.take j) = ll at *
      generalize sts now (l.take j) = lj at *
      have BW1 : Below w.heap.size w w1 := bw.trans (b1.mono (by omega))
      have OU1 := ou.step b1
      have KB1 : Kb (w.heap.size + 1 + 1 + 1) (w.heap.size + 1 + 1) W w1 := kb.trans (Kb.of (b1.mono (by omega)))
      have hs1 : w1.heap.size = wr.heap.size + 1 := by rw [hw1]; simp
      obtain ⟨y0, y1, y2, y3, y4, y5, y6, y7, y8, y9, y10, y11, y12⟩ := XB.c13
      have j0 : (0 : Int) ≤ (j : Int) := by omega
      have j1 : (j : Int) < (l.length : Int) := by omega
      have HW1 := Lib.hid hw1.symm
      have HX := Lib.hid XB
      clear h2 HI rr c hx bw b1 hw1 HO XB
      by_cases hu : x.un = 0
      · have u1 : (x.un == 0) = true := by simpa using hu
        have hno : isL now x = false := by simp [isL, u1]
        clear u1
        have u1 : (x.un != 0) = false := by simpa using hu
        clear hu
        have XB5 : Bk w1.drew wr.heap.size #[.int .i64 x.id, .string x.tp, .int .i64 d.k, .int .i64 d.i, .int .u64 d.u, .string d.s, .slice d.a d.l d.c, .int .i64 x.ti, .int .i64 x.un, .string x.rp, .int .i64 x.co, .int .i64 x.pr, .int .i64 x.ho] 30 := HX.out
        have OU5 : Hid (Ow (w.heap.size + 1 + 1 + 1) (w.heap.size + 1 + 1) lj ll a1 c1 u7 r (dr + ll.length) xs z2 w1.drew) := OU1.step (Below.refl _ _).drew
        have HC5 := Lib.hid (HM.out w1.drew BW1.drew)
        have KB5 : Hid (Kb (w.heap.size + 1 + 1 + 1) (w.heap.size + 1 + 1) W w1.drew) := KB1.trans (Kb.of (Below.refl _ _).drew)
        have hO5 : (w.heap.size + 1 + 1) < (w.heap.size + 1 + 1 + 1) := by omega
        have hOo5 : some (w.heap.size + 1 + 1) ≠ (Value.slice a1 lj.length c1).ownBlock := fun e => by have := (ou.t.p.own_lt _ e.symm).1; omega
        have hXo5 : some wr.heap.size ≠ (Value.slice a1 lj.length c1).ownBlock := fun e => by have := (ou.t.p.own_lt _ e.symm).2; omega
        have hXO : wr.heap.size ≠ (w.heap.size + 1 + 1) := by omega
        have hl5 : lj.length + [x].length ≤ 1000000 := by simp; omega
        clear ou kb OU1 KB1 HM HX BW1
        go_wp2_with (rw [HW1.out])
        clear x0 x1 x2 x3 x4 x5 x6 x7 x8 x9 x10 x11 x12 y0 y1 y2 y3 y4 y5 y6 y7 y8 y9 y10 y11 y12 u1
        repeat (rename x.un = 0 => h9; clear h9)
        have XS : Hid (∀ wx, Bk wx (wr.heap.size) #[.int .i64 x.id, .string x.tp, .int .i64 d.k, .int .i64 d.i, .int .u64 d.u, .string d.s, .slice d.a d.l d.c, .int .i64 x.ti, .int .i64 x.un, .string x.rp, .int .i64 x.co, .int .i64 x.pr, .int .i64 x.ho] 30 → (wx.cell? ⟨wr.heap.size, 0, none⟩ = some (.int .i64 x.id) ∧ wx.cell? ⟨wr.heap.size, 1, none⟩ = some (.string x.tp) ∧ wx.cell? ⟨wr.heap.size, 2, none⟩ = some (.int .i64 d.k) ∧ wx.cell? ⟨wr.heap.size, 3, none⟩ = some (.int .i64 d.i) ∧ wx.cell? ⟨wr.heap.size, 4, none⟩ = some (.int .u64 d.u) ∧ wx.cell? ⟨wr.heap.size, 5, none⟩ = some (.string d.s) ∧ wx.cell? ⟨wr.heap.size, 6, none⟩ = some (.slice d.a d.l d.c) ∧ wx.cell? ⟨wr.heap.size, 7, none⟩ = some (.int .i64 x.ti) ∧ wx.cell? ⟨wr.heap.size, 8, none⟩ = some (.int .i64 x.un) ∧ wx.cell? ⟨wr.heap.size, 9, none⟩ = some (.string x.rp) ∧ wx.cell? ⟨wr.heap.size, 10, none⟩ = some (.int .i64 x.co) ∧ wx.cell? ⟨wr.heap.size, 11, none⟩ = some (.int .i64 x.pr) ∧ wx.cell? ⟨wr.heap.size, 12, none⟩ = some (.int .i64 x.ho))) := fun wx h => h.c13
        refine wp_region_held_drew (S := (fun wx => wx.cell? ⟨wr.heap.size, 0, none⟩ = some (.int .i64 x.id) ∧ wx.cell? ⟨wr.heap.size, 1, none⟩ = some (.string x.tp) ∧ wx.cell? ⟨wr.heap.size, 2, none⟩ = some (.int .i64 d.k) ∧ wx.cell? ⟨wr.heap.size, 3, none⟩ = some (.int .i64 d.i) ∧ wx.cell? ⟨wr.heap.size, 4, none⟩ = some (.int .u64 d.u) ∧ wx.cell? ⟨wr.heap.size, 5, none⟩ = some (.string d.s) ∧ wx.cell? ⟨wr.heap.size, 6, none⟩ = some (.slice d.a d.l d.c) ∧ wx.cell? ⟨wr.heap.size, 7, none⟩ = some (.int .i64 x.ti) ∧ wx.cell? ⟨wr.heap.size, 8, none⟩ = some (.int .i64 x.un) ∧ wx.cell? ⟨wr.heap.size, 9, none⟩ = some (.string x.rp) ∧ wx.cell? ⟨wr.heap.size, 10, none⟩ = some (.int .i64 x.co) ∧ wx.cell? ⟨wr.heap.size, 11, none⟩ = some (.int .i64 x.pr) ∧ wx.cell? ⟨wr.heap.size, 12, none⟩ = some (.int .i64 x.ho))) (by kernel_rfl) (XS.out _ XB5) (fun hHeld => ?_)
        have b0 : Below w1.drew.heap.size w1.drew w1.drew := Below.refl _ _
        generalize w1.drew = v9 at *
        refine wpAnyH_take (i := 0) (oi := { dst := some 40, op := Op.fieldAddr 24 (Operand.tmp 6) 0, type := 0, pos := _, after := #[], guard := none }) (v := ?tla1) rfl (by kernel_rfl) (by kernel_rfl) (by kernel_rfl) (fun _ _ _ h => h) (Or.inl ⟨by rfl, ?ula1⟩) (by assumption) ?rla1
        case ula1 => (intro w hSw; (try dsimp only at hSw); go_simp; (try with_reducible rfl))
        simp only [Act.put, List.setIfInBounds_toArray, List.set_cons_zero, List.set_cons_succ]
        refine wpAnyH_take (i := 2) (oi := { dst := some 42, op := Op.load 30 (Operand.tmp 9), type := 30, pos := _, after := #[], guard := none }) (v := ?tla2) rfl (by kernel_rfl) (by kernel_rfl) (by kernel_rfl) (fun _ _ _ h => h) (Or.inl ⟨by rfl, ?ula2⟩) (by assumption) ?rla2
        case ula2 => (intro w hSw; (try dsimp only at hSw); go_simp; (try with_reducible rfl))
        simp only [Act.put, List.setIfInBounds_toArray, List.set_cons_zero, List.set_cons_succ]
        refine wpAnyH_ready (rs := [1, 3]) (by kernel_rfl) (by simp) ?_
        refine AllReadyH.cons (o := { dst := some 41, op := Op.load 22 (Operand.tmp 40), type := 22, pos := _, after := #[{ on := 0, ground := Ground.data }], guard := none }) rfl (fun K hK => ?_) (AllReadyH.cons (o := { dst := some 43, op := Op.call { callee := Callee.value (Operand.func 22), args := #[Operand.tmp 42], argTypes := #[30] }, type := 30, pos := _, after := #[{ on := 2, ground := Ground.data }], guard := none }) rfl (fun K hK => ?_) AllReadyH.nil)
        · obtain ⟨p0, p1, p2⟩ := (OU5.out.step b0).q.c3
          go_simp
          refine hK.out _ _ (XS.out _ (XB5.step b0)) (fun hH32 => ?_)
          clear p0 p1 p2
          clear hK K
          (try simp only [Act.put, List.setIfInBounds_toArray, List.set_cons_zero, List.set_cons_succ])
          refine wpAnyH_ready (rs := [3]) (by kernel_rfl) (by simp) ?_
          refine AllReadyH.cons (o := { dst := some 43, op := Op.call { callee := Callee.value (Operand.func 22), args := #[Operand.tmp 42], argTypes := #[30] }, type := 30, pos := _, after := #[{ on := 2, ground := Ground.data }], guard := none }) rfl (fun K hK => ?_) AllReadyH.nil
          go_simp
          refine HC5.out.mono ?_
          rintro e v1 ⟨d', rfl, r1, e1⟩
          have b1 := e1
          have r1h := Lib.hid r1
          clear r1 e1
          refine hK.out _ _ (XS.out _ (XB5.step b1)) (fun hH33 => ?_)
          clear hK K
          (try simp only [Act.put, List.setIfInBounds_toArray, List.set_cons_zero, List.set_cons_succ])
          refine wpAnyH_ready (rs := [4]) (by kernel_rfl) (by simp) ?_
          refine AllReadyH.cons (o := { dst := some 44, op := Op.buildSlice 22 1 #[(0, Operand.tmp 43)], type := 22, pos := _, after := #[{ on := 3, ground := Ground.data }], guard := none }) rfl (fun K hK => ?_) AllReadyH.nil
          go_simp
          have b2 : Below v9.heap.size v9 (v1.alloc (.cells #[.int .i64 x.id, .string x.tp, .int .i64 d'.k, .int .i64 d'.i, .int .u64 d'.u, .string d'.s, .slice d'.a d'.l d'.c, .int .i64 x.ti, .int .i64 x.un, .string x.rp, .int .i64 x.co, .int .i64 x.pr, .int .i64 x.ho] 30)) := b1.trans ((below1 v1 _).mono b1.size)
          have AP1 := Lib.hid (ow_step OU5.out hO5 x d' r1h.out b1)
          generalize hN34 : v1.heap.size = N2 at *
          generalize hV34 : v1.alloc (.cells #[.int .i64 x.id, .string x.tp, .int .i64 d'.k, .int .i64 d'.i, .int .u64 d'.u, .string d'.s, .slice d'.a d'.l d'.c, .int .i64 x.ti, .int .i64 x.un, .string x.rp, .int .i64 x.co, .int .i64 x.pr, .int .i64 x.ho] 30) = v2 at *
          refine hK.out _ _ (XS.out _ (XB5.step b2)) (fun hH34 => ?_)
          clear hK K
          (try simp only [Act.put, List.setIfInBounds_toArray, List.set_cons_zero, List.set_cons_succ])
          refine wpAnyH_ready (rs := [5]) (by kernel_rfl) (by simp) ?_
          refine AllReadyH.cons (o := { dst := some 45, op := Op.call { callee := Callee.builtin Builtin.append, args := #[Operand.tmp 41, Operand.tmp 44], argTypes := #[22, 22] }, type := 22, pos := _, after := #[{ on := 1, ground := Ground.data }, { on := 4, ground := Ground.data }, { on := 3, ground := Ground.chain }], guard := none }) rfl (fun K hK => ?_) AllReadyH.nil
          rw [if_pos (by rfl)]
          refine wp_mapp (.tmp 41) (.tmp 44) rfl _ _ lj _ xs rfl AP1.out.1 N2 0 1 [x] rfl AP1.out.2.1 (by simp) hl5 AP1.out.2.2.1 ?_
          intro sl' xs' v3 m3 g3 a3
          obtain ⟨oth3, ⟨a3', c3', rfl⟩, E3⟩ := AP1.out.2.2.2 sl' xs' v3 m3 g3 a3
          have E4 := Lib.hid (E3 a3' c3' rfl)
          have OB3 := (oth3 _ OU5.out.q.lt hOo5).trans OU5.out.q
          have XB3 := (oth3 _ XB5.lt hXo5).trans XB5
          clear m3 g3 a3 E3 oth3
          refine hK.out _ _ (XS.out _ XB3) (fun hH35 => ?_)
          clear hK K
          (try simp only [Act.put, List.setIfInBounds_toArray, List.set_cons_zero, List.set_cons_succ])
          refine wpAnyH_take (i := 6) (oi := { dst := some 46, op := Op.fieldAddr 24 (Operand.tmp 6) 0, type := 0, pos := _, after := #[{ on := 0, ground := Ground.phase }, { on := 1, ground := Ground.phase }, { on := 2, ground := Ground.phase }, { on := 3, ground := Ground.phase }, { on := 4, ground := Ground.phase }, { on := 5, ground := Ground.phase }], guard := none }) (v := ?tla3) rfl (by kernel_rfl) (by kernel_rfl) (by kernel_rfl) (fun _ _ _ h => h) (Or.inl ⟨by rfl, ?ula3⟩) (by assumption) ?rla3
          case ula3 => (intro w hSw; (try dsimp only at hSw); go_simp; (try with_reducible rfl))
          simp only [Act.put, List.setIfInBounds_toArray, List.set_cons_zero, List.set_cons_succ]
          refine wpAnyH_ready (rs := [7]) (by kernel_rfl) (by simp) ?_
          refine AllReadyH.cons (o := { dst := none, op := Op.store 22 (Operand.tmp 46) (Operand.tmp 45), type := 0, pos := _, after := #[{ on := 6, ground := Ground.data }, { on := 5, ground := Ground.data }, { on := 5, ground := Ground.chain }, { on := 0, ground := Ground.phase }, { on := 1, ground := Ground.phase }, { on := 2, ground := Ground.phase }, { on := 3, ground := Ground.phase }, { on := 4, ground := Ground.phase }, { on := 5, ground := Ground.phase }], guard := none }) rfl (fun K hK => ?_) AllReadyH.nil
          obtain ⟨p0, p1, p2⟩ := Bk.c3 OB3
          have pf := Bk.f OB3
          go_simp
          refine hK.out _ _ (XS.out _ (Bk.other XB3 _ _ hXO)) (fun hH36 => ?_)
          clear p0 p1 p2 pf
          clear hK K
          (try simp only [Act.put, List.setIfInBounds_toArray, List.set_cons_zero, List.set_cons_succ])
          refine wpAnyH_done (by kernel_rfl) ?_ _
          go_wp2_with fail
          obtain ⟨ou4, kb4⟩ := E4.out (v3.setCell ⟨w.heap.size + 1 + 1, 0, none⟩ (.slice a3' (lj.length + 1) c3')) (by rw [List.length_append]; rfl)
          refine ⟨⟨j + 1, a3', c3', xs', z2, by go_num, by omega, ?_, KB5.out.trans kb4⟩, by simp [intOf]; omega⟩
          rw [(FN.out hno).1, (FN.out hno).2]; exact ou4
        · go_simp
          refine HC5.out.mono ?_
          rintro e v1 ⟨d', rfl, r1, e1⟩
          have b1 := e1
          have r1h := Lib.hid r1
          clear r1 e1
          refine hK.out _ _ (XS.out _ (XB5.step b1)) (fun hH37 => ?_)
          clear hK K
          (try simp only [Act.put, List.setIfInBounds_toArray, List.set_cons_zero, List.set_cons_succ])
          refine wpAnyH_ready (rs := [1, 4]) (by kernel_rfl) (by simp) ?_
          refine AllReadyH.cons (o := { dst := some 41, op := Op.load 22 (Operand.tmp 40), type := 22, pos := _, after := #[{ on := 0, ground := Ground.data }], guard := none }) rfl (fun K hK => ?_) (AllReadyH.cons (o := { dst := some 44, op := Op.buildSlice 22 1 #[(0, Operand.tmp 43)], type := 22, pos := _, after := #[{ on := 3, ground := Ground.data }], guard := none }) rfl (fun K hK => ?_) AllReadyH.nil)
          · obtain ⟨p0, p1, p2⟩ := (OU5.out.step b1).q.c3
            go_simp
            refine hK.out _ _ (XS.out _ (XB5.step b1)) (fun hH38 => ?_)
            clear p0 p1 p2
            clear hK K
            (try simp only [Act.put, List.setIfInBounds_toArray, List.set_cons_zero, List.set_cons_succ])
            refine wpAnyH_ready (rs := [4]) (by kernel_rfl) (by simp) ?_
            refine AllReadyH.cons (o := { dst := some 44, op := Op.buildSlice 22 1 #[(0, Operand.tmp 43)], type := 22, pos := _, after := #[{ on := 3, ground := Ground.data }], guard := none }) rfl (fun K hK => ?_) AllReadyH.nil
            go_simp
            have b2 : Below v9.heap.size v9 (v1.alloc (.cells #[.int .i64 x.id, .string x.tp, .int .i64 d'.k, .int .i64 d'.i, .int .u64 d'.u, .string d'.s, .slice d'.a d'.l d'.c, .int .i64 x.ti, .int .i64 x.un, .string x.rp, .int .i64 x.co, .int .i64 x.pr, .int .i64 x.ho] 30)) := b1.trans ((below1 v1 _).mono b1.size)
            have AP1 := Lib.hid (ow_step OU5.out hO5 x d' r1h.out b1)
            generalize hN39 : v1.heap.size = N2 at *
            generalize hV39 : v1.alloc (.cells #[.int .i64 x.id, .string x.tp, .int .i64 d'.k, .int .i64 d'.i, .int .u64 d'.u, .string d'.s, .slice d'.a d'.l d'.c, .int .i64 x.ti, .int .i64 x.un, .string x.rp, .int .i64 x.co, .int .i64 x.pr, .int .i64 x.ho] 30) = v2 at *
            refine hK.out _ _ (XS.out _ (XB5.step b2)) (fun hH39 => ?_)
            clear hK K
            (try simp only [Act.put, List.setIfInBounds_toArray, List.set_cons_zero, List.set_cons_succ])
            refine wpAnyH_ready (rs := [5]) (by kernel_rfl) (by simp) ?_
            refine AllReadyH.cons (o := { dst := some 45, op := Op.call { callee := Callee.builtin Builtin.append, args := #[Operand.tmp 41, Operand.tmp 44], argTypes := #[22, 22] }, type := 22, pos := _, after := #[{ on := 1, ground := Ground.data }, { on := 4, ground := Ground.data }, { on := 3, ground := Ground.chain }], guard := none }) rfl (fun K hK => ?_) AllReadyH.nil
            rw [if_pos (by rfl)]
            refine wp_mapp (.tmp 41) (.tmp 44) rfl _ _ lj _ xs rfl AP1.out.1 N2 0 1 [x] rfl AP1.out.2.1 (by simp) hl5 AP1.out.2.2.1 ?_
            intro sl' xs' v3 m3 g3 a3
            obtain ⟨oth3, ⟨a3', c3', rfl⟩, E3⟩ := AP1.out.2.2.2 sl' xs' v3 m3 g3 a3
            have E4 := Lib.hid (E3 a3' c3' rfl)
            have OB3 := (oth3 _ OU5.out.q.lt hOo5).trans OU5.out.q
            have XB3 := (oth3 _ XB5.lt hXo5).trans XB5
            clear m3 g3 a3 E3 oth3
            refine hK.out _ _ (XS.out _ XB3) (fun hH40 => ?_)
            clear hK K
            (try simp only [Act.put, List.setIfInBounds_toArray, List.set_cons_zero, List.set_cons_succ])
            refine wpAnyH_take (i := 6) (oi := { dst := some 46, op := Op.fieldAddr 24 (Operand.tmp 6) 0, type := 0, pos := _, after := #[{ on := 0, ground := Ground.phase }, { on := 1, ground := Ground.phase }, { on := 2, ground := Ground.phase }, { on := 3, ground := Ground.phase }, { on := 4, ground := Ground.phase }, { on := 5, ground := Ground.phase }], guard := none }) (v := ?tla4) rfl (by kernel_rfl) (by kernel_rfl) (by kernel_rfl) (fun _ _ _ h => h) (Or.inl ⟨by rfl, ?ula4⟩) (by assumption) ?rla4
            case ula4 => (intro w hSw; (try dsimp only at hSw); go_simp; (try with_reducible rfl))
            simp only [Act.put, List.setIfInBounds_toArray, List.set_cons_zero, List.set_cons_succ]
            refine wpAnyH_ready (rs := [7]) (by kernel_rfl) (by simp) ?_
            refine AllReadyH.cons (o := { dst := none, op := Op.store 22 (Operand.tmp 46) (Operand.tmp 45), type := 0, pos := _, after := #[{ on := 6, ground := Ground.data }, { on := 5, ground := Ground.data }, { on := 5, ground := Ground.chain }, { on := 0, ground := Ground.phase }, { on := 1, ground := Ground.phase }, { on := 2, ground := Ground.phase }, { on := 3, ground := Ground.phase }, { on := 4, ground := Ground.phase }, { on := 5, ground := Ground.phase }], guard := none }) rfl (fun K hK => ?_) AllReadyH.nil
            obtain ⟨p0, p1, p2⟩ := Bk.c3 OB3
            have pf := Bk.f OB3
            go_simp
            refine hK.out _ _ (XS.out _ (Bk.other XB3 _ _ hXO)) (fun hH41 => ?_)
            clear p0 p1 p2 pf
            clear hK K
            (try simp only [Act.put, List.setIfInBounds_toArray, List.set_cons_zero, List.set_cons_succ])
            refine wpAnyH_done (by kernel_rfl) ?_ _
            go_wp2_with fail
            obtain ⟨ou4, kb4⟩ := E4.out (v3.setCell ⟨w.heap.size + 1 + 1, 0, none⟩ (.slice a3' (lj.length + 1) c3')) (by rw [List.length_append]; rfl)
            refine ⟨⟨j + 1, a3', c3', xs', z2, by go_num, by omega, ?_, KB5.out.trans kb4⟩, by simp [intOf]; omega⟩
            rw [(FN.out hno).1, (FN.out hno).2]; exact ou4
          · go_simp
            have b2 : Below v9.heap.size v9 (v1.alloc (.cells #[.int .i64 x.id, .string x.tp, .int .i64 d'.k, .int .i64 d'.i, .int .u64 d'.u, .string d'.s, .slice d'.a d'.l d'.c, .int .i64 x.ti, .int .i64 x.un, .string x.rp, .int .i64 x.co, .int .i64 x.pr, .int .i64 x.ho] 30)) := b1.trans ((below1 v1 _).mono b1.size)
            have AP1 := Lib.hid (ow_step OU5.out hO5 x d' r1h.out b1)
            generalize hN42 : v1.heap.size = N2 at *
            generalize hV42 : v1.alloc (.cells #[.int .i64 x.id, .string x.tp, .int .i64 d'.k, .int .i64 d'.i, .int .u64 d'.u, .string d'.s, .slice d'.a d'.l d'.c, .int .i64 x.ti, .int .i64 x.un, .string x.rp, .int .i64 x.co, .int .i64 x.pr, .int .i64 x.ho] 30) = v2 at *
            refine hK.out _ _ (XS.out _ (XB5.step b2)) (fun hH42 => ?_)
            clear hK K
            (try simp only [Act.put, List.setIfInBounds_toArray, List.set_cons_zero, List.set_cons_succ])
            refine wpAnyH_ready (rs := [1]) (by kernel_rfl) (by simp) ?_
            refine AllReadyH.cons (o := { dst := some 41, op := Op.load 22 (Operand.tmp 40), type := 22, pos := _, after := #[{ on := 0, ground := Ground.data }], guard := none }) rfl (fun K hK => ?_) AllReadyH.nil
            obtain ⟨p0, p1, p2⟩ := (OU5.out.step b2).q.c3
            go_simp
            refine hK.out _ _ (XS.out _ (XB5.step b2)) (fun hH43 => ?_)
            clear p0 p1 p2
            clear hK K
            (try simp only [Act.put, List.setIfInBounds_toArray, List.set_cons_zero, List.set_cons_succ])
            refine wpAnyH_ready (rs := [5]) (by kernel_rfl) (by simp) ?_
            refine AllReadyH.cons (o := { dst := some 45, op := Op.call { callee := Callee.builtin Builtin.append, args := #[Operand.tmp 41, Operand.tmp 44], argTypes := #[22, 22] }, type := 22, pos := _, after := #[{ on := 1, ground := Ground.data }, { on := 4, ground := Ground.data }, { on := 3, ground := Ground.chain }], guard := none }) rfl (fun K hK => ?_) AllReadyH.nil
            rw [if_pos (by rfl)]
            refine wp_mapp (.tmp 41) (.tmp 44) rfl _ _ lj _ xs rfl AP1.out.1 N2 0 1 [x] rfl AP1.out.2.1 (by simp) hl5 AP1.out.2.2.1 ?_
            intro sl' xs' v3 m3 g3 a3
            obtain ⟨oth3, ⟨a3', c3', rfl⟩, E3⟩ := AP1.out.2.2.2 sl' xs' v3 m3 g3 a3
            have E4 := Lib.hid (E3 a3' c3' rfl)
            have OB3 := (oth3 _ OU5.out.q.lt hOo5).trans OU5.out.q
            have XB3 := (oth3 _ XB5.lt hXo5).trans XB5
            clear m3 g3 a3 E3 oth3
            refine hK.out _ _ (XS.out _ XB3) (fun hH44 => ?_)
            clear hK K
            (try simp only [Act.put, List.setIfInBounds_toArray, List.set_cons_zero, List.set_cons_succ])
            refine wpAnyH_take (i := 6) (oi := { dst := some 46, op := Op.fieldAddr 24 (Operand.tmp 6) 0, type := 0, pos := _, after := #[{ on := 0, ground := Ground.phase }, { on := 1, ground := Ground.phase }, { on := 2, ground := Ground.phase }, { on := 3, ground := Ground.phase }, { on := 4, ground := Ground.phase }, { on := 5, ground := Ground.phase }], guard := none }) (v := ?tla5) rfl (by kernel_rfl) (by kernel_rfl) (by kernel_rfl) (fun _ _ _ h => h) (Or.inl ⟨by rfl, ?ula5⟩) (by assumption) ?rla5
            case ula5 => (intro w hSw; (try dsimp only at hSw); go_simp; (try with_reducible rfl))
            simp only [Act.put, List.setIfInBounds_toArray, List.set_cons_zero, List.set_cons_succ]
            refine wpAnyH_ready (rs := [7]) (by kernel_rfl) (by simp) ?_
            refine AllReadyH.cons (o := { dst := none, op := Op.store 22 (Operand.tmp 46) (Operand.tmp 45), type := 0, pos := _, after := #[{ on := 6, ground := Ground.data }, { on := 5, ground := Ground.data }, { on := 5, ground := Ground.chain }, { on := 0, ground := Ground.phase }, { on := 1, ground := Ground.phase }, { on := 2, ground := Ground.phase }, { on := 3, ground := Ground.phase }, { on := 4, ground := Ground.phase }, { on := 5, ground := Ground.phase }], guard := none }) rfl (fun K hK => ?_) AllReadyH.nil
            obtain ⟨p0, p1, p2⟩ := Bk.c3 OB3
            have pf := Bk.f OB3
            go_simp
            refine hK.out _ _ (XS.out _ (Bk.other XB3 _ _ hXO)) (fun hH45 => ?_)
            clear p0 p1 p2 pf
            clear hK K
            (try simp only [Act.put, List.setIfInBounds_toArray, List.set_cons_zero, List.set_cons_succ])
            refine wpAnyH_done (by kernel_rfl) ?_ _
            go_wp2_with fail
            obtain ⟨ou4, kb4⟩ := E4.out (v3.setCell ⟨w.heap.size + 1 + 1, 0, none⟩ (.slice a3' (lj.length + 1) c3')) (by rw [List.length_append]; rfl)
            refine ⟨⟨j + 1, a3', c3', xs', z2, by go_num, by omega, ?_, KB5.out.trans kb4⟩, by simp [intOf]; omega⟩
            rw [(FN.out hno).1, (FN.out hno).2]; exact ou4
      · have u1 : (x.un == 0) = false := by simpa using hu
        have u3 : (x.un != 0) = true := by simpa using hu
        by_cases hn : x.un < now
        · have u2 : decide (x.un < now) = true := decide_eq_true hn
          have hyes : isL now x = true := by simp [isL, u1, u2]
          obtain ⟨q0, q1, q2⟩ := OU1.q.c3
          have HC := Lib.hid (HM.out w1 BW1)
          have TW1 := Lib.hid OU1.t
          have hBs := OU1.t.p.s
          have OQ := Lib.hid OU1.q
          have KBH := Lib.hid KB1
          have own7 : Hid (∀ g, u7.ownBlock = some g → (w.heap.size + 1 + 1 + 1) ≤ g) := fun g hg => (OU1.t.q.own_lt g hg).1
          clear ou kb OU1 KB1 HM HX
          go_wp2_with (first | rw [HW1.out] | (go_at_call 22; refine HC.out.mono ?_; rintro e v1 ⟨d', rfl, r1, b1⟩; clear x0 x1 x2 x3 x4 x5 x6 x7 x8 x9 x10 x11 x12 y0 y1 y2 y3 y4 y5 y6 y7 y8 y9 y10 y11 y12 HC; have S1 := Lib.hid (tw_step TW1.out.swap x d' r1 b1 _ rfl); clear r1 b1 q0 q1 q2) | (at_builtin; refine wpList_mapp rfl _ _ rfl (w.heap.size + 1 + 1 + 1) (Fw (w.heap.size + 1 + 1 + 1) u7 (.slice a1 lj.length c1) (v1.alloc (.cells (x.cs d') 30))) ll u7 z2 rfl S1.out.1 (some ⟨v1.heap.size, 0, none⟩) 1 [x] rfl S1.out.2.1 (fun e => by cases e) (by simp; omega) S1.out.2.2.1 ?_; intro sl' xs' w3 m3 g3 a3; obtain ⟨tw3, oth3, b3⟩ := S1.out.2.2.2 sl' xs' w3 m3 g3 a3; have OQ3 := (oth3 (w.heap.size + 1 + 1) (by omega) (fun e => by have := own7.out _ e.symm; omega)).trans OQ.out; obtain ⟨q0, q1, q2⟩ := Bk.c3 OQ3; have qf := Bk.f OQ3; clear m3 g3 a3 oth3))
          have hcv : dr + ((ll ++ [x]).length : Int) = dr + (ll.length : Int) + 1 := by simp; omega
          refine ⟨⟨j + 1, a1, c1, xs, xs', by go_num, by omega, ?_, ?_⟩, by simp [intOf]; omega⟩
          · rw [(FY.out hyes).1, (FY.out hyes).2, hcv]
            exact ⟨Bk.set OQ3 2 _, tw3.swap.other (by simp) (fun g hg => Below.heap_setCell _ _ _ _ (by show g ≠ (w.heap.size + 1 + 1); omega))⟩
          · exact KBH.out.trans ⟨b3.os, b3.tape, b3.output, by simpa using b3.size, fun k hk hne => by rw [Below.heap_setCell _ _ _ _ hne]; exact b3.block k hk⟩
        · have u2 : decide (x.un < now) = false := decide_eq_false hn
          have hno : isL now x = false := by simp [isL, u2]
          have XB5 : Bk w1.drew wr.heap.size #[.int .i64 x.id, .string x.tp, .int .i64 d.k, .int .i64 d.i, .int .u64 d.u, .string d.s, .slice d.a d.l d.c, .int .i64 x.ti, .int .i64 x.un, .string x.rp, .int .i64 x.co, .int .i64 x.pr, .int .i64 x.ho] 30 := HX.out
          have OU5 : Hid (Ow (w.heap.size + 1 + 1 + 1) (w.heap.size + 1 + 1) lj ll a1 c1 u7 r (dr + ll.length) xs z2 w1.drew) := OU1.step (Below.refl _ _).drew
          have HC5 := Lib.hid (HM.out w1.drew BW1.drew)
          have KB5 : Hid (Kb (w.heap.size + 1 + 1 + 1) (w.heap.size + 1 + 1) W w1.drew) := KB1.trans (Kb.of (Below.refl _ _).drew)
          have hO5 : (w.heap.size + 1 + 1) < (w.heap.size + 1 + 1 + 1) := by omega
          have hOo5 : some (w.heap.size + 1 + 1) ≠ (Value.slice a1 lj.length c1).ownBlock := fun e => by have := (ou.t.p.own_lt _ e.symm).1; omega
          have hXo5 : some wr.heap.size ≠ (Value.slice a1 lj.length c1).ownBlock := fun e => by have := (ou.t.p.own_lt _ e.symm).2; omega
          have hXO : wr.heap.size ≠ (w.heap.size + 1 + 1) := by omega
          have hl5 : lj.length + [x].length ≤ 1000000 := by simp; omega
          clear ou kb OU1 KB1 HM HX BW1
          go_wp2_with (rw [HW1.out])
          clear x0 x1 x2 x3 x4 x5 x6 x7 x8 x9 x10 x11 x12 y0 y1 y2 y3 y4 y5 y6 y7 y8 y9 y10 y11 y12 u1
          repeat (rename x.un = 0 => h9; clear h9)
          have XS : Hid (∀ wx, Bk wx (wr.heap.size) #[.int .i64 x.id, .string x.tp, .int .i64 d.k, .int .i64 d.i, .int .u64 d.u, .string d.s, .slice d.a d.l d.c, .int .i64 x.ti, .int .i64 x.un, .string x.rp, .int .i64 x.co, .int .i64 x.pr, .int .i64 x.ho] 30 → (wx.cell? ⟨wr.heap.size, 0, none⟩ = some (.int .i64 x.id) ∧ wx.cell? ⟨wr.heap.size, 1, none⟩ = some (.string x.tp) ∧ wx.cell? ⟨wr.heap.size, 2, none⟩ = some (.int .i64 d.k) ∧ wx.cell? ⟨wr.heap.size, 3, none⟩ = some (.int .i64 d.i) ∧ wx.cell? ⟨wr.heap.size, 4, none⟩ = some (.int .u64 d.u) ∧ wx.cell? ⟨wr.heap.size, 5, none⟩ = some (.string d.s) ∧ wx.cell? ⟨wr.heap.size, 6, none⟩ = some (.slice d.a d.l d.c) ∧ wx.cell? ⟨wr.heap.size, 7, none⟩ = some (.int .i64 x.ti) ∧ wx.cell? ⟨wr.heap.size, 8, none⟩ = some (.int .i64 x.un) ∧ wx.cell? ⟨wr.heap.size, 9, none⟩ = some (.string x.rp) ∧ wx.cell? ⟨wr.heap.size, 10, none⟩ = some (.int .i64 x.co) ∧ wx.cell? ⟨wr.heap.size, 11, none⟩ = some (.int .i64 x.pr) ∧ wx.cell? ⟨wr.heap.size, 12, none⟩ = some (.int .i64 x.ho))) := fun wx h => h.c13
          refine wp_region_held_drew (S := (fun wx => wx.cell? ⟨wr.heap.size, 0, none⟩ = some (.int .i64 x.id) ∧ wx.cell? ⟨wr.heap.size, 1, none⟩ = some (.string x.tp) ∧ wx.cell? ⟨wr.heap.size, 2, none⟩ = some (.int .i64 d.k) ∧ wx.cell? ⟨wr.heap.size, 3, none⟩ = some (.int .i64 d.i) ∧ wx.cell? ⟨wr.heap.size, 4, none⟩ = some (.int .u64 d.u) ∧ wx.cell? ⟨wr.heap.size, 5, none⟩ = some (.string d.s) ∧ wx.cell? ⟨wr.heap.size, 6, none⟩ = some (.slice d.a d.l d.c) ∧ wx.cell? ⟨wr.heap.size, 7, none⟩ = some (.int .i64 x.ti) ∧ wx.cell? ⟨wr.heap.size, 8, none⟩ = some (.int .i64 x.un) ∧ wx.cell? ⟨wr.heap.size, 9, none⟩ = some (.string x.rp) ∧ wx.cell? ⟨wr.heap.size, 10, none⟩ = some (.int .i64 x.co) ∧ wx.cell? ⟨wr.heap.size, 11, none⟩ = some (.int .i64 x.pr) ∧ wx.cell? ⟨wr.heap.size, 12, none⟩ = some (.int .i64 x.ho))) (by kernel_rfl) (XS.out _ XB5) (fun hHeld => ?_)
          have b0 : Below w1.drew.heap.size w1.drew w1.drew := Below.refl _ _
          generalize w1.drew = v9 at *
          refine wpAnyH_take (i := 0) (oi := { dst := some 40, op := Op.fieldAddr 24 (Operand.tmp 6) 0, type := 0, pos := _, after := #[], guard := none }) (v := ?tlb1) rfl (by kernel_rfl) (by kernel_rfl) (by kernel_rfl) (fun _ _ _ h => h) (Or.inl ⟨by rfl, ?ulb1⟩) (by assumption) ?rlb1
          case ulb1 => (intro w hSw; (try dsimp only at hSw); go_simp; (try with_reducible rfl))
          simp only [Act.put, List.setIfInBounds_toArray, List.set_cons_zero, List.set_cons_succ]
          refine wpAnyH_take (i := 2) (oi := { dst := some 42, op := Op.load 30 (Operand.tmp 9), type := 30, pos := _, after := #[], guard := none }) (v := ?tlb2) rfl (by kernel_rfl) (by kernel_rfl) (by kernel_rfl) (fun _ _ _ h => h) (Or.inl ⟨by rfl, ?ulb2⟩) (by assumption) ?rlb2
          case ulb2 => (intro w hSw; (try dsimp only at hSw); go_simp; (try with_reducible rfl))
          simp only [Act.put, List.setIfInBounds_toArray, List.set_cons_zero, List.set_cons_succ]
          refine wpAnyH_ready (rs := [1, 3]) (by kernel_rfl) (by simp) ?_
          refine AllReadyH.cons (o := { dst := some 41, op := Op.load 22 (Operand.tmp 40), type := 22, pos := _, after := #[{ on := 0, ground := Ground.data }], guard := none }) rfl (fun K hK => ?_) (AllReadyH.cons (o := { dst := some 43, op := Op.call { callee := Callee.value (Operand.func 22), args := #[Operand.tmp 42], argTypes := #[30] }, type := 30, pos := _, after := #[{ on := 2, ground := Ground.data }], guard := none }) rfl (fun K hK => ?_) AllReadyH.nil)
          · obtain ⟨p0, p1, p2⟩ := (OU5.out.step b0).q.c3
            go_simp
            refine hK.out _ _ (XS.out _ (XB5.step b0)) (fun hH46 => ?_)
            clear p0 p1 p2
            clear hK K
            (try simp only [Act.put, List.setIfInBounds_toArray, List.set_cons_zero, List.set_cons_succ])
            refine wpAnyH_ready (rs := [3]) (by kernel_rfl) (by simp) ?_
            refine AllReadyH.cons (o := { dst := some 43, op := Op.call { callee := Callee.value (Operand.func 22), args := #[Operand.tmp 42], argTypes := #[30] }, type := 30, pos := _, after := #[{ on := 2, ground := Ground.data }], guard := none }) rfl (fun K hK => ?_) AllReadyH.nil
            go_simp
            refine HC5.out.mono ?_
            rintro e v1 ⟨d', rfl, r1, e1⟩
            have b1 := e1
            have r1h := Lib.hid r1
            clear r1 e1
            refine hK.out _ _ (XS.out _ (XB5.step b1)) (fun hH47 => ?_)
            clear hK K
            (try simp only [Act.put, List.setIfInBounds_toArray, List.set_cons_zero, List.set_cons_succ])
            refine wpAnyH_ready (rs := [4]) (by kernel_rfl) (by simp) ?_
            refine AllReadyH.cons (o := { dst := some 44, op := Op.buildSlice 22 1 #[(0, Operand.tmp 43)], type := 22, pos := _, after := #[{ on := 3, ground := Ground.data }], guard := none }) rfl (fun K hK => ?_) AllReadyH.nil
            go_simp
            have b2 : Below v9.heap.size v9 (v1.alloc (.cells #[.int .i64 x.id, .string x.tp, .int .i64 d'.k, .int .i64 d'.i, .int .u64 d'.u, .string d'.s, .slice d'.a d'.l d'.c, .int .i64 x.ti, .int .i64 x.un, .string x.rp, .int .i64 x.co, .int .i64 x.pr, .int .i64 x.ho] 30)) := b1.trans ((below1 v1 _).mono b1.size)
            have AP1 := Lib.hid (ow_step OU5.out hO5 x d' r1h.out b1)
            generalize hN48 : v1.heap.size = N2 at *
            generalize hV48 : v1.alloc (.cells #[.int .i64 x.id, .string x.tp, .int .i64 d'.k, .int .i64 d'.i, .int .u64 d'.u, .string d'.s, .slice d'.a d'.l d'.c, .int .i64 x.ti, .int .i64 x.un, .string x.rp, .int .i64 x.co, .int .i64 x.pr, .int .i64 x.ho] 30) = v2 at *
            refine hK.out _ _ (XS.out _ (XB5.step b2)) (fun hH48 => ?_)
            clear hK K
            (try simp only [Act.put, List.setIfInBounds_toArray, List.set_cons_zero, List.set_cons_succ])
            refine wpAnyH_ready (rs := [5]) (by kernel_rfl) (by simp) ?_
            refine AllReadyH.cons (o := { dst := some 45, op := Op.call { callee := Callee.builtin Builtin.append, args := #[Operand.tmp 41, Operand.tmp 44], argTypes := #[22, 22] }, type := 22, pos := _, after := #[{ on := 1, ground := Ground.data }, { on := 4, ground := Ground.data }, { on := 3, ground := Ground.chain }], guard := none }) rfl (fun K hK => ?_) AllReadyH.nil
            rw [if_pos (by rfl)]
            refine wp_mapp (.tmp 41) (.tmp 44) rfl _ _ lj _ xs rfl AP1.out.1 N2 0 1 [x] rfl AP1.out.2.1 (by simp) hl5 AP1.out.2.2.1 ?_
            intro sl' xs' v3 m3 g3 a3
            obtain ⟨oth3, ⟨a3', c3', rfl⟩, E3⟩ := AP1.out.2.2.2 sl' xs' v3 m3 g3 a3
            have E4 := Lib.hid (E3 a3' c3' rfl)
            have OB3 := (oth3 _ OU5.out.q.lt hOo5).trans OU5.out.q
            have XB3 := (oth3 _ XB5.lt hXo5).trans XB5
            clear m3 g3 a3 E3 oth3
            refine hK.out _ _ (XS.out _ XB3) (fun hH49 => ?_)
            clear hK K
            (try simp only [Act.put, List.setIfInBounds_toArray, List.set_cons_zero, List.set_cons_succ])
            refine wpAnyH_take (i := 6) (oi := { dst := some 46, op := Op.fieldAddr 24 (Operand.tmp 6) 0, type := 0, pos := _, after := #[{ on := 0, ground := Ground.phase }, { on := 1, ground := Ground.phase }, { on := 2, ground := Ground.phase }, { on := 3, ground := Ground.phase }, { on := 4, ground := Ground.phase }, { on := 5, ground := Ground.phase }], guard := none }) (v := ?tlb3) rfl (by kernel_rfl) (by kernel_rfl) (by kernel_rfl) (fun _ _ _ h => h) (Or.inl ⟨by rfl, ?ulb3⟩) (by assumption) ?rlb3
            case ulb3 => (intro w hSw; (try dsimp only at hSw); go_simp; (try with_reducible rfl))
            simp only [Act.put, List.setIfInBounds_toArray, List.set_cons_zero, List.set_cons_succ]
            refine wpAnyH_ready (rs := [7]) (by kernel_rfl) (by simp) ?_
            refine AllReadyH.cons (o := { dst := none, op := Op.store 22 (Operand.tmp 46) (Operand.tmp 45), type := 0, pos := _, after := #[{ on := 6, ground := Ground.data }, { on := 5, ground := Ground.data }, { on := 5, ground := Ground.chain }, { on := 0, ground := Ground.phase }, { on := 1, ground := Ground.phase }, { on := 2, ground := Ground.phase }, { on := 3, ground := Ground.phase }, { on := 4, ground := Ground.phase }, { on := 5, ground := Ground.phase }], guard := none }) rfl (fun K hK => ?_) AllReadyH.nil
            obtain ⟨p0, p1, p2⟩ := Bk.c3 OB3
            have pf := Bk.f OB3
            go_simp
            refine hK.out _ _ (XS.out _ (Bk.other XB3 _ _ hXO)) (fun hH50 => ?_)
            clear p0 p1 p2 pf
            clear hK K
            (try simp only [Act.put, List.setIfInBounds_toArray, List.set_cons_zero, List.set_cons_succ])
            refine wpAnyH_done (by kernel_rfl) ?_ _
            go_wp2_with fail
            obtain ⟨ou4, kb4⟩ := E4.out (v3.setCell ⟨w.heap.size + 1 + 1, 0, none⟩ (.slice a3' (lj.length + 1) c3')) (by rw [List.length_append]; rfl)
            refine ⟨⟨j + 1, a3', c3', xs', z2, by go_num, by omega, ?_, KB5.out.trans kb4⟩, by simp [intOf]; omega⟩
            rw [(FN.out hno).1, (FN.out hno).2]; exact ou4
          · go_simp
            refine HC5.out.mono ?_
            rintro e v1 ⟨d', rfl, r1, e1⟩
            have b1 := e1
            have r1h := Lib.hid r1
            clear r1 e1
            refine hK.out _ _ (XS.out _ (XB5.step b1)) (fun hH51 => ?_)
            clear hK K
            (try simp only [Act.put, List.setIfInBounds_toArray, List.set_cons_zero, List.set_cons_succ])
            refine wpAnyH_ready (rs := [1, 4]) (by kernel_rfl) (by simp) ?_
            refine AllReadyH.cons (o := { dst := some 41, op := Op.load 22 (Operand.tmp 40), type := 22, pos := _, after := #[{ on := 0, ground := Ground.data }], guard := none }) rfl (fun K hK => ?_) (AllReadyH.cons (o := { dst := some 44, op := Op.buildSlice 22 1 #[(0, Operand.tmp 43)], type := 22, pos := _, after := #[{ on := 3, ground := Ground.data }], guard := none }) rfl (fun K hK => ?_) AllReadyH.nil)
            · obtain ⟨p0, p1, p2⟩ := (OU5.out.step b1).q.c3
              go_simp
              refine hK.out _ _ (XS.out _ (XB5.step b1)) (fun hH52 => ?_)
              clear p0 p1 p2
              clear hK K
              (try simp only [Act.put, List.setIfInBounds_toArray, List.set_cons_zero, List.set_cons_succ])
              refine wpAnyH_ready (rs := [4]) (by kernel_rfl) (by simp) ?_
              refine AllReadyH.cons (o := { dst := some 44, op := Op.buildSlice 22 1 #[(0, Operand.tmp 43)], type := 22, pos := _, after := #[{ on := 3, ground := Ground.data }], guard := none }) rfl (fun K hK => ?_) AllReadyH.nil
              go_simp
              have b2 : Below v9.heap.size v9 (v1.alloc (.cells #[.int .i64 x.id, .string x.tp, .int .i64 d'.k, .int .i64 d'.i, .int .u64 d'.u, .string d'.s, .slice d'.a d'.l d'.c, .int .i64 x.ti, .int .i64 x.un, .string x.rp, .int .i64 x.co, .int .i64 x.pr, .int .i64 x.ho] 30)) := b1.trans ((below1 v1 _).mono b1.size)
              have AP1 := Lib.hid (ow_step OU5.out hO5 x d' r1h.out b1)
              generalize hN53 : v1.heap.size = N2 at *
              generalize hV53 : v1.alloc (.cells #[.int .i64 x.id, .string x.tp, .int .i64 d'.k, .int .i64 d'.i, .int .u64 d'.u, .string d'.s, .slice d'.a d'.l d'.c, .int .i64 x.ti, .int .i64 x.un, .string x.rp, .int .i64 x.co, .int .i64 x.pr, .int .i64 x.ho] 30) = v2 at *
              refine hK.out _ _ (XS.out _ (XB5.step b2)) (fun hH53 => ?_)
              clear hK K
              (try simp only [Act.put, List.setIfInBounds_toArray, List.set_cons_zero, List.set_cons_succ])
              refine wpAnyH_ready (rs := [5]) (by kernel_rfl) (by simp) ?_
              refine AllReadyH.cons (o := { dst := some 45, op := Op.call { callee := Callee.builtin Builtin.append, args := #[Operand.tmp 41, Operand.tmp 44], argTypes := #[22, 22] }, type := 22, pos := _, after := #[{ on := 1, ground := Ground.data }, { on := 4, ground := Ground.data }, { on := 3, ground := Ground.chain }], guard := none }) rfl (fun K hK => ?_) AllReadyH.nil
              rw [if_pos (by rfl)]
              refine wp_mapp (.tmp 41) (.tmp 44) rfl _ _ lj _ xs rfl AP1.out.1 N2 0 1 [x] rfl AP1.out.2.1 (by simp) hl5 AP1.out.2.2.1 ?_
              intro sl' xs' v3 m3 g3 a3
              obtain ⟨oth3, ⟨a3', c3', rfl⟩, E3⟩ := AP1.out.2.2.2 sl' xs' v3 m3 g3 a3
              have E4 := Lib.hid (E3 a3' c3' rfl)
              have OB3 := (oth3 _ OU5.out.q.lt hOo5).trans OU5.out.q
              have XB3 := (oth3 _ XB5.lt hXo5).trans XB5
              clear m3 g3 a3 E3 oth3
              refine hK.out _ _ (XS.out _ XB3) (fun hH54 => ?_)
              clear hK K
              (try simp only [Act.put, List.setIfInBounds_toArray, List.set_cons_zero, List.set_cons_succ])
              refine wpAnyH_take (i := 6) (oi := { dst := some 46, op := Op.fieldAddr 24 (Operand.tmp 6) 0, type := 0, pos := _, after := #[{ on := 0, ground := Ground.phase }, { on := 1, ground := Ground.phase }, { on := 2, ground := Ground.phase }, { on := 3, ground := Ground.phase }, { on := 4, ground := Ground.phase }, { on := 5, ground := Ground.phase }], guard := none }) (v := ?tlb4) rfl (by kernel_rfl) (by kernel_rfl) (by kernel_rfl) (fun _ _ _ h => h) (Or.inl ⟨by rfl, ?ulb4⟩) (by assumption) ?rlb4
              case ulb4 => (intro w hSw; (try dsimp only at hSw); go_simp; (try with_reducible rfl))
              simp only [Act.put, List.setIfInBounds_toArray, List.set_cons_zero, List.set_cons_succ]
              refine wpAnyH_ready (rs := [7]) (by kernel_rfl) (by simp) ?_
              refine AllReadyH.cons (o := { dst := none, op := Op.store 22 (Operand.tmp 46) (Operand.tmp 45), type := 0, pos := _, after := #[{ on := 6, ground := Ground.data }, { on := 5, ground := Ground.data }, { on := 5, ground := Ground.chain }, { on := 0, ground := Ground.phase }, { on := 1, ground := Ground.phase }, { on := 2, ground := Ground.phase }, { on := 3, ground := Ground.phase }, { on := 4, ground := Ground.phase }, { on := 5, ground := Ground.phase }], guard := none }) rfl (fun K hK => ?_) AllReadyH.nil
              obtain ⟨p0, p1, p2⟩ := Bk.c3 OB3
              have pf := Bk.f OB3
              go_simp
              refine hK.out _ _ (XS.out _ (Bk.other XB3 _ _ hXO)) (fun hH55 => ?_)
              clear p0 p1 p2 pf
              clear hK K
              (try simp only [Act.put, List.setIfInBounds_toArray, List.set_cons_zero, List.set_cons_succ])
              refine wpAnyH_done (by kernel_rfl) ?_ _
              go_wp2_with fail
              obtain ⟨ou4, kb4⟩ := E4.out (v3.setCell ⟨w.heap.size + 1 + 1, 0, none⟩ (.slice a3' (lj.length + 1) c3')) (by rw [List.length_append]; rfl)
              refine ⟨⟨j + 1, a3', c3', xs', z2, by go_num, by omega, ?_, KB5.out.trans kb4⟩, by simp [intOf]; omega⟩
              rw [(FN.out hno).1, (FN.out hno).2]; exact ou4
            · go_simp
              have b2 : Below v9.heap.size v9 (v1.alloc (.cells #[.int .i64 x.id, .string x.tp, .int .i64 d'.k, .int .i64 d'.i, .int .u64 d'.u, .string d'.s, .slice d'.a d'.l d'.c, .int .i64 x.ti, .int .i64 x.un, .string x.rp, .int .i64 x.co, .int .i64 x.pr, .int .i64 x.ho] 30)) := b1.trans ((below1 v1 _).mono b1.size)
              have AP1 := Lib.hid (ow_step OU5.out hO5 x d' r1h.out b1)
              generalize hN56 : v1.heap.size = N2 at *
              generalize hV56 : v1.alloc (.cells #[.int .i64 x.id, .string x.tp, .int .i64 d'.k, .int .i64 d'.i, .int .u64 d'.u, .string d'.s, .slice d'.a d'.l d'.c, .int .i64 x.ti, .int .i64 x.un, .string x.rp, .int .i64 x.co, .int .i64 x.pr, .int .i64 x.ho] 30) = v2 at *
              refine hK.out _ _ (XS.out _ (XB5.step b2)) (fun hH56 => ?_)
              clear hK K
              (try simp only [Act.put, List.setIfInBounds_toArray, List.set_cons_zero, List.set_cons_succ])
              refine wpAnyH_ready (rs := [1]) (by kernel_rfl) (by simp) ?_
              refine AllReadyH.cons (o := { dst := some 41, op := Op.load 22 (Operand.tmp 40), type := 22, pos := _, after := #[{ on := 0, ground := Ground.data }], guard := none }) rfl (fun K hK => ?_) AllReadyH.nil
              obtain ⟨p0, p1, p2⟩ := (OU5.out.step b2).q.c3
              go_simp
              refine hK.out _ _ (XS.out _ (XB5.step b2)) (fun hH57 => ?_)
              clear p0 p1 p2
              clear hK K
              (try simp only [Act.put, List.setIfInBounds_toArray, List.set_cons_zero, List.set_cons_succ])
              refine wpAnyH_ready (rs := [5]) (by kernel_rfl) (by simp) ?_
              refine AllReadyH.cons (o := { dst := some 45, op := Op.call { callee := Callee.builtin Builtin.append, args := #[Operand.tmp 41, Operand.tmp 44], argTypes := #[22, 22] }, type := 22, pos := _, after := #[{ on := 1, ground := Ground.data }, { on := 4, ground := Ground.data }, { on := 3, ground := Ground.chain }], guard := none }) rfl (fun K hK => ?_) AllReadyH.nil
              rw [if_pos (by rfl)]
              refine wp_mapp (.tmp 41) (.tmp 44) rfl _ _ lj _ xs rfl AP1.out.1 N2 0 1 [x] rfl AP1.out.2.1 (by simp) hl5 AP1.out.2.2.1 ?_
              intro sl' xs' v3 m3 g3 a3
              obtain ⟨oth3, ⟨a3', c3', rfl⟩, E3⟩ := AP1.out.2.2.2 sl' xs' v3 m3 g3 a3
              have E4 := Lib.hid (E3 a3' c3' rfl)
              have OB3 := (oth3 _ OU5.out.q.lt hOo5).trans OU5.out.q
              have XB3 := (oth3 _ XB5.lt hXo5).trans XB5
              clear m3 g3 a3 E3 oth3
              refine hK.out _ _ (XS.out _ XB3) (fun hH58 => ?_)
              clear hK K
              (try simp only [Act.put, List.setIfInBounds_toArray, List.set_cons_zero, List.set_cons_succ])
              refine wpAnyH_take (i := 6) (oi := { dst := some 46, op := Op.fieldAddr 24 (Operand.tmp 6) 0, type := 0, pos := _, after := #[{ on := 0, ground := Ground.phase }, { on := 1, ground := Ground.phase }, { on := 2, ground := Ground.phase }, { on := 3, ground := Ground.phase }, { on := 4, ground := Ground.phase }, { on := 5, ground := Ground.phase }], guard := none }) (v := ?tlb5) rfl (by kernel_rfl) (by kernel_rfl) (by kernel_rfl) (fun _ _ _ h => h) (Or.inl ⟨by rfl, ?ulb5⟩) (by assumption) ?rlb5
              case ulb5 => (intro w hSw; (try dsimp only at hSw); go_simp; (try with_reducible rfl))
              simp only [Act.put, List.setIfInBounds_toArray, List.set_cons_zero, List.set_cons_succ]
              refine wpAnyH_ready (rs := [7]) (by kernel_rfl) (by simp) ?_
              refine AllReadyH.cons (o := { dst := none, op := Op.store 22 (Operand.tmp 46) (Operand.tmp 45), type := 0, pos := _, after := #[{ on := 6, ground := Ground.data }, { on := 5, ground := Ground.data }, { on := 5, ground := Ground.chain }, { on := 0, ground := Ground.phase }, { on := 1, ground := Ground.phase }, { on := 2, ground := Ground.phase }, { on := 3, ground := Ground.phase }, { on := 4, ground := Ground.phase }, { on := 5, ground := Ground.phase }], guard := none }) rfl (fun K hK => ?_) AllReadyH.nil
              obtain ⟨p0, p1, p2⟩ := Bk.c3 OB3
              have pf := Bk.f OB3
              go_simp
              refine hK.out _ _ (XS.out _ (Bk.other XB3 _ _ hXO)) (fun hH59 => ?_)
              clear p0 p1 p2 pf
              clear hK K
              (try simp only [Act.put, List.setIfInBounds_toArray, List.set_cons_zero, List.set_cons_succ])
              refine wpAnyH_done (by kernel_rfl) ?_ _
              go_wp2_with fail
              obtain ⟨ou4, kb4⟩ := E4.out (v3.setCell ⟨w.heap.size + 1 + 1, 0, none⟩ (.slice a3' (lj.length + 1) c3')) (by rw [List.length_append]; rfl)
              refine ⟨⟨j + 1, a3', c3', xs', z2, by go_num, by omega, ?_, KB5.out.trans kb4⟩, by simp [intOf]; omega⟩
              rw [(FN.out hno).1, (FN.out hno).2]; exact ou4
    · have hje : j = l.length := by omega
      subst hje
      rw [List.take_length] at ou
      obtain ⟨ls, hls⟩ : ∃ ls, ls = sts now l := ⟨_, rfl⟩
      obtain ⟨ll, hll⟩ : ∃ ll, ll = lts now l := ⟨_, rfl⟩
      rw [← hls, ← hll] at ou
      have TOP : Hid (∀ e w', LateP w ls ll r (dr + ll.length) e w' → LateP w (sts now l) (lts now l) r (dr + (lts now l).length) e w') := fun e w' h => by rw [← hls, ← hll]; exact h
      have Zr : Bk wr (w.heap.size + 1) #[.slice none 0 0, .int .i64 0, .int .i64 0] 24 := (kb.block _ (by omega) (by omega)).trans Z0
      obtain ⟨a1', c1', e1, mz1⟩ := ou.t.p.mz (F' := fun g => (w.heap.size + 1 + 1 + 1) ≤ g ∧ g < wr.heap.size) (fun g hg => ⟨hg.1, hg.2.1⟩) (fun g hg => ou.t.p.own_lt g hg)
      simp only [Value.slice.injEq] at e1
      obtain ⟨rfl, -, rfl⟩ := e1
      obtain ⟨a2, c2, rfl, mz2⟩ := ou.t.q.mz (F' := fun g => (w.heap.size + 1 + 1 + 1) ≤ g ∧ g < wr.heap.size) (fun g hg => ⟨hg.1, hg.2.1⟩) (fun g hg => ou.t.q.own_lt g hg)
      have M1 := Lib.hid mz1
      have M2 := Lib.hid mz2
      have BW := Lib.hid bw
      obtain ⟨q0, q1, q2⟩ := ou.q.c3
      obtain ⟨z0, z1, z2⟩ := Zr.c3
      have zf := Zr.f
      clear ou kb Zr S0 Z0 mz1 mz2 bw hls hll HO
      go_wp2_with fail
      refine bodyPost_ret (v := .tuple #[.agg #[.slice a1 ls.length c1, .int .i64 r, .int .i64 (dr + ll.length)], .slice a2 ll.length c2]) (by simp [results, Try.results17, go_sem, World.cell?_setCell_same, World.cell?_setCell_other, z0, z1, z2]) rfl (TOP.out _ _ ⟨a1, c1, a2, c2, rfl, ?_, ?_, below_set3 BW.out (by omega) _ _ _⟩)
      · exact (mz_set3 M1.out (by simp only [World.size_setCell]) (fun g hg => set3_heap _ _ _ (by omega) _ _ _)).mw
      · exact (mz_set3 M2.out (by simp only [World.size_setCell]) (fun g hg => set3_heap _ _ _ (by omega) _ _ _)).mw
end Go.Proofs.Ytdgjhclncjoonaa
