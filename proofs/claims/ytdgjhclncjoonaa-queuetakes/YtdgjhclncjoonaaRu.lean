/- The document's Copy; the conditions: the messages in memory, of a size that can be. -/
import Derived.Test.YtdgjhclncjoonaaRt
import Derived.Test.YtdgjhclncjoonaaBg
namespace Go.Proofs.Ytdgjhclncjoonaa
open Go.RowKit

set_option maxRecDepth 100000 in
set_option maxHeartbeats 4000000 in
theorem rcopy_any (l : List Ms) (ad : Option Addr) (cap : Nat) (r dr : Int) (w : World) (hl : l.length ≤ 2000) (hI : Mw w ad l) (hp : Sm l) :
    Calls Try.prog 9 #[.agg #[.slice ad l.length cap, .int .i64 r, .int .i64 dr]] w (CqP w l r dr) := by
  obtain ⟨W, hW⟩ : ∃ W, W = ((w.alloc (.cells #[.slice ad l.length cap, .int .i64 r, .int .i64 dr] 24)).alloc (.cells #[.slice none 0 0, .int .i64 0, .int .i64 0] 24)).alloc (.cells #[.slice none 0 0, .int .i64 r, .int .i64 dr] 24) := ⟨_, rfl⟩
  have B0 : Below w.heap.size w W := by rw [hW]; exact (below2 w _ _).alloc (by simp; omega) _
  have S0 : Bk W w.heap.size #[.slice ad l.length cap, .int .i64 r, .int .i64 dr] 24 := by rw [hW]; exact ((Bk.new w _ _).alloc _).alloc _
  have Z0 : Bk W (w.heap.size + 1) #[.slice none 0 0, .int .i64 0, .int .i64 0] 24 := by rw [hW]; exact (Bk.new2 w _ _ _).alloc _
  have hWs : W.heap.size = w.heap.size + 1 + 1 + 1 := by rw [hW]; simp
  have O0 : Ou (w.heap.size + 1 + 1 + 1) (w.heap.size + 1 + 1) [] none 0 r dr [] W := by
    refine ⟨?_, Mp.nil _ _ _ (by omega)⟩
    rw [hW]
    have := Bk.new2 (w.alloc (.cells #[.slice ad l.length cap, .int .i64 r, .int .i64 dr] 24)) (.cells #[.slice none 0 0, .int .i64 0, .int .i64 0] 24) #[.slice none 0 0, .int .i64 r, .int .i64 dr] 24
    simp only [World.size_alloc] at this
    exact this
  have HI := Lib.hid hI
  have HP := Lib.hid hp
  have HO := Lib.hid O0
  have HWs := Lib.hid hWs
  obtain ⟨s0, s1, s2⟩ := S0.c3
  have HW := Lib.hid hW.symm
  clear hI hp hW O0
  go_enter Try.func9, Try.ntmps9
  go_wp2_with (rw [HW.out])
  clear s0 s1 s2
  go_loopw [14] (fun s14 wr => ∃ (j : Nat) (a1 : Option Addr) (c1 : Nat) (xs : List Value), s14 = .int .i64 j ∧ j ≤ l.length ∧ Ou (w.heap.size + 1 + 1 + 1) (w.heap.size + 1 + 1) (l.take j) a1 c1 r dr xs wr ∧ Kb (w.heap.size + 1 + 1 + 1) (w.heap.size + 1 + 1) W wr) (fun s14 _ => l.length - (intOf s14).toNat)
  case atStart => exact ⟨0, none, 0, [], rfl, Nat.zero_le _, HO.out, Kb.refl _ _ _⟩
  case round =>
    obtain ⟨j, a1, c1, xs, rfl, hj, ou, kb⟩ := hrel
    have hws := HWs.out
    have hks := kb.size
    by_cases hlt : j < l.length
    · obtain ⟨lj, hlj⟩ : ∃ lj, lj = l.take j := ⟨_, rfl⟩
      have hll : lj.length ≤ 2000 := by rw [hlj]; simp; omega
      rw [← hlj] at ou
      rcases HI.out with h | ⟨b, o, rfl, hb, h2⟩
      · rw [h] at hlt; simp at hlt
      obtain ⟨x, hx⟩ : ∃ x, l[j]? = some x := ⟨_, List.getElem?_eq_getElem hlt⟩
      obtain ⟨d, c, rr⟩ := h2 j x hx
      have bw : Below w.heap.size w wr := Kb.below B0 kb (by omega) (by omega)
      obtain ⟨x0, x1, x2, x3, x4, x5, x6, x7, x8, x9, x10, x11, x12⟩ := c.heap (bw.block b hb)
      obtain ⟨w1, hw1⟩ : ∃ w1, w1 = wr.alloc (.cells #[.int .i64 x.id, .string x.tp, .int .i64 d.k, .int .i64 d.i, .int .u64 d.u, .string d.s, .slice d.a d.l d.c, .int .i64 x.ti, .int .i64 x.un, .string x.rp, .int .i64 x.co, .int .i64 x.pr, .int .i64 x.ho] 30) := ⟨_, rfl⟩
      have b1 : Below wr.heap.size wr w1.drew := by rw [hw1]; exact (below1 wr _).drew
      have XB5 : Bk w1.drew wr.heap.size #[.int .i64 x.id, .string x.tp, .int .i64 d.k, .int .i64 d.i, .int .u64 d.u, .string d.s, .slice d.a d.l d.c, .int .i64 x.ti, .int .i64 x.un, .string x.rp, .int .i64 x.co, .int .i64 x.pr, .int .i64 x.ho] 30 := by rw [hw1]; exact Bk.new wr _ _
      have OU5 : Hid (Ou (w.heap.size + 1 + 1 + 1) (w.heap.size + 1 + 1) lj a1 c1 r dr xs w1.drew) := ou.step b1
      have HC5 := Lib.hid (cmsg_any x d w1.drew (Dt.Rep.below (bw.trans (b1.mono (by omega))) _ _ _ (Rz.rep _ _ _ rr)) (HP.out x (List.mem_of_getElem? hx)))
      have KB5 : Hid (Kb (w.heap.size + 1 + 1 + 1) (w.heap.size + 1 + 1) W w1.drew) := kb.trans (Kb.of (b1.mono (by omega)))
      have htk : l.take (j + 1) = lj ++ [x] := by rw [hlj, List.take_add_one, hx]; rfl
      have HT := Lib.hid htk
      have hO5 : w.heap.size + 1 + 1 < w.heap.size + 1 + 1 + 1 := by omega
      have hOo5 : some (w.heap.size + 1 + 1) ≠ (Value.slice a1 lj.length c1).ownBlock := fun e => by have := (ou.m.own_lt _ e.symm).1; omega
      have hXo5 : some wr.heap.size ≠ (Value.slice a1 lj.length c1).ownBlock := fun e => by have := (ou.m.own_lt _ e.symm).2; omega
      have hXO : wr.heap.size ≠ w.heap.size + 1 + 1 := by omega
      have hl5 : lj.length + [x].length ≤ 1000000 := by simp; omega
      have j0 : (0 : Int) ≤ (j : Int) := by omega
      have j1 : (j : Int) < (l.length : Int) := by omega
      have HW1 := Lib.hid hw1.symm
      clear h2 HI rr c hx htk ou kb bw b1 hw1 hlj
      go_wp2_with (rw [HW1.out])
      clear x0 x1 x2 x3 x4 x5 x6 x7 x8 x9 x10 x11 x12
      have XS : Hid (∀ wx, Bk wx (wr.heap.size) #[.int .i64 x.id, .string x.tp, .int .i64 d.k, .int .i64 d.i, .int .u64 d.u, .string d.s, .slice d.a d.l d.c, .int .i64 x.ti, .int .i64 x.un, .string x.rp, .int .i64 x.co, .int .i64 x.pr, .int .i64 x.ho] 30 → (wx.cell? ⟨wr.heap.size, 0, none⟩ = some (.int .i64 x.id) ∧ wx.cell? ⟨wr.heap.size, 1, none⟩ = some (.string x.tp) ∧ wx.cell? ⟨wr.heap.size, 2, none⟩ = some (.int .i64 d.k) ∧ wx.cell? ⟨wr.heap.size, 3, none⟩ = some (.int .i64 d.i) ∧ wx.cell? ⟨wr.heap.size, 4, none⟩ = some (.int .u64 d.u) ∧ wx.cell? ⟨wr.heap.size, 5, none⟩ = some (.string d.s) ∧ wx.cell? ⟨wr.heap.size, 6, none⟩ = some (.slice d.a d.l d.c) ∧ wx.cell? ⟨wr.heap.size, 7, none⟩ = some (.int .i64 x.ti) ∧ wx.cell? ⟨wr.heap.size, 8, none⟩ = some (.int .i64 x.un) ∧ wx.cell? ⟨wr.heap.size, 9, none⟩ = some (.string x.rp) ∧ wx.cell? ⟨wr.heap.size, 10, none⟩ = some (.int .i64 x.co) ∧ wx.cell? ⟨wr.heap.size, 11, none⟩ = some (.int .i64 x.pr) ∧ wx.cell? ⟨wr.heap.size, 12, none⟩ = some (.int .i64 x.ho))) := fun wx h => h.c13
      refine wp_region_held_drew (S := (fun wx => wx.cell? ⟨wr.heap.size, 0, none⟩ = some (.int .i64 x.id) ∧ wx.cell? ⟨wr.heap.size, 1, none⟩ = some (.string x.tp) ∧ wx.cell? ⟨wr.heap.size, 2, none⟩ = some (.int .i64 d.k) ∧ wx.cell? ⟨wr.heap.size, 3, none⟩ = some (.int .i64 d.i) ∧ wx.cell? ⟨wr.heap.size, 4, none⟩ = some (.int .u64 d.u) ∧ wx.cell? ⟨wr.heap.size, 5, none⟩ = some (.string d.s) ∧ wx.cell? ⟨wr.heap.size, 6, none⟩ = some (.slice d.a d.l d.c) ∧ wx.cell? ⟨wr.heap.size, 7, none⟩ = some (.int .i64 x.ti) ∧ wx.cell? ⟨wr.heap.size, 8, none⟩ = some (.int .i64 x.un) ∧ wx.cell? ⟨wr.heap.size, 9, none⟩ = some (.string x.rp) ∧ wx.cell? ⟨wr.heap.size, 10, none⟩ = some (.int .i64 x.co) ∧ wx.cell? ⟨wr.heap.size, 11, none⟩ = some (.int .i64 x.pr) ∧ wx.cell? ⟨wr.heap.size, 12, none⟩ = some (.int .i64 x.ho))) (by kernel_rfl) (XS.out _ XB5) (fun hHeld => ?_)
      have b0 : Below w1.drew.heap.size w1.drew w1.drew := Below.refl _ _
      generalize w1.drew = v9 at *
      refine wpAnyH_take (i := 0) (oi := { dst := some 18, op := Op.fieldAddr 24 (Operand.tmp 3) 0, type := 0, pos := _, after := #[], guard := none }) (v := ?trc1) rfl (by kernel_rfl) (by kernel_rfl) (by kernel_rfl) (fun _ _ _ h => h) (Or.inl ⟨by rfl, ?urc1⟩) (by assumption) ?rrc1
      case urc1 => (intro w hSw; (try dsimp only at hSw); go_simp; (try with_reducible rfl))
      simp only [Act.put, List.setIfInBounds_toArray, List.set_cons_zero, List.set_cons_succ]
      refine wpAnyH_take (i := 2) (oi := { dst := some 20, op := Op.load 30 (Operand.tmp 5), type := 30, pos := _, after := #[], guard := none }) (v := ?trc2) rfl (by kernel_rfl) (by kernel_rfl) (by kernel_rfl) (fun _ _ _ h => h) (Or.inl ⟨by rfl, ?urc2⟩) (by assumption) ?rrc2
      case urc2 => (intro w hSw; (try dsimp only at hSw); go_simp; (try with_reducible rfl))
      simp only [Act.put, List.setIfInBounds_toArray, List.set_cons_zero, List.set_cons_succ]
      refine wpAnyH_ready (rs := [1, 3]) (by kernel_rfl) (by simp) ?_
      refine AllReadyH.cons (o := { dst := some 19, op := Op.load 22 (Operand.tmp 18), type := 22, pos := _, after := #[{ on := 0, ground := Ground.data }], guard := none }) rfl (fun K hK => ?_) (AllReadyH.cons (o := { dst := some 21, op := Op.call { callee := Callee.value (Operand.func 22), args := #[Operand.tmp 20], argTypes := #[30] }, type := 30, pos := _, after := #[{ on := 2, ground := Ground.data }], guard := none }) rfl (fun K hK => ?_) AllReadyH.nil)
      · obtain ⟨p0, p1, p2⟩ := (OU5.out.step b0).q.c3
        go_simp
        refine hK.out _ _ (XS.out _ (XB5.step b0)) (fun hH1 => ?_)
        clear p0 p1 p2
        clear hK K
        (try simp only [Act.put, List.setIfInBounds_toArray, List.set_cons_zero, List.set_cons_succ])
        refine wpAnyH_ready (rs := [3]) (by kernel_rfl) (by simp) ?_
        refine AllReadyH.cons (o := { dst := some 21, op := Op.call { callee := Callee.value (Operand.func 22), args := #[Operand.tmp 20], argTypes := #[30] }, type := 30, pos := _, after := #[{ on := 2, ground := Ground.data }], guard := none }) rfl (fun K hK => ?_) AllReadyH.nil
        go_simp
        refine HC5.out.mono ?_
        rintro e v1 ⟨d', rfl, r1, e1⟩
        have b1 := e1
        have r1h := Lib.hid r1
        clear r1 e1
        refine hK.out _ _ (XS.out _ (XB5.step b1)) (fun hH2 => ?_)
        clear hK K
        (try simp only [Act.put, List.setIfInBounds_toArray, List.set_cons_zero, List.set_cons_succ])
        refine wpAnyH_ready (rs := [4]) (by kernel_rfl) (by simp) ?_
        refine AllReadyH.cons (o := { dst := some 22, op := Op.buildSlice 22 1 #[(0, Operand.tmp 21)], type := 22, pos := _, after := #[{ on := 3, ground := Ground.data }], guard := none }) rfl (fun K hK => ?_) AllReadyH.nil
        go_simp
        have b2 : Below v9.heap.size v9 (v1.alloc (.cells #[.int .i64 x.id, .string x.tp, .int .i64 d'.k, .int .i64 d'.i, .int .u64 d'.u, .string d'.s, .slice d'.a d'.l d'.c, .int .i64 x.ti, .int .i64 x.un, .string x.rp, .int .i64 x.co, .int .i64 x.pr, .int .i64 x.ho] 30)) := b1.trans ((below1 v1 _).mono b1.size)
        have AP1 := Lib.hid (ou_step OU5.out hO5 x d' r1h.out b1)
        generalize hN3 : v1.heap.size = N2 at *
        generalize hV3 : v1.alloc (.cells #[.int .i64 x.id, .string x.tp, .int .i64 d'.k, .int .i64 d'.i, .int .u64 d'.u, .string d'.s, .slice d'.a d'.l d'.c, .int .i64 x.ti, .int .i64 x.un, .string x.rp, .int .i64 x.co, .int .i64 x.pr, .int .i64 x.ho] 30) = v2 at *
        refine hK.out _ _ (XS.out _ (XB5.step b2)) (fun hH3 => ?_)
        clear hK K
        (try simp only [Act.put, List.setIfInBounds_toArray, List.set_cons_zero, List.set_cons_succ])
        refine wpAnyH_ready (rs := [5]) (by kernel_rfl) (by simp) ?_
        refine AllReadyH.cons (o := { dst := some 23, op := Op.call { callee := Callee.builtin Builtin.append, args := #[Operand.tmp 19, Operand.tmp 22], argTypes := #[22, 22] }, type := 22, pos := _, after := #[{ on := 1, ground := Ground.data }, { on := 4, ground := Ground.data }, { on := 3, ground := Ground.chain }], guard := none }) rfl (fun K hK => ?_) AllReadyH.nil
        rw [if_pos (by rfl)]
        refine wp_mapp (.tmp 19) (.tmp 22) rfl _ _ lj _ xs rfl AP1.out.1 N2 0 1 [x] rfl AP1.out.2.1 (by simp) hl5 AP1.out.2.2.1 ?_
        intro sl' xs' v3 m3 g3 a3
        obtain ⟨oth3, ⟨a3', c3', rfl⟩, E3⟩ := AP1.out.2.2.2 sl' xs' v3 m3 g3 a3
        have E4 := Lib.hid (E3 a3' c3' rfl)
        have OB3 := (oth3 _ OU5.out.q.lt hOo5).trans OU5.out.q
        have XB3 := (oth3 _ XB5.lt hXo5).trans XB5
        clear m3 g3 a3 E3 oth3
        refine hK.out _ _ (XS.out _ XB3) (fun hH4 => ?_)
        clear hK K
        (try simp only [Act.put, List.setIfInBounds_toArray, List.set_cons_zero, List.set_cons_succ])
        refine wpAnyH_take (i := 6) (oi := { dst := some 24, op := Op.fieldAddr 24 (Operand.tmp 3) 0, type := 0, pos := _, after := #[{ on := 0, ground := Ground.phase }, { on := 1, ground := Ground.phase }, { on := 2, ground := Ground.phase }, { on := 3, ground := Ground.phase }, { on := 4, ground := Ground.phase }, { on := 5, ground := Ground.phase }], guard := none }) (v := ?trc3) rfl (by kernel_rfl) (by kernel_rfl) (by kernel_rfl) (fun _ _ _ h => h) (Or.inl ⟨by rfl, ?urc3⟩) (by assumption) ?rrc3
        case urc3 => (intro w hSw; (try dsimp only at hSw); go_simp; (try with_reducible rfl))
        simp only [Act.put, List.setIfInBounds_toArray, List.set_cons_zero, List.set_cons_succ]
        refine wpAnyH_ready (rs := [7]) (by kernel_rfl) (by simp) ?_
        refine AllReadyH.cons (o := { dst := none, op := Op.store 22 (Operand.tmp 24) (Operand.tmp 23), type := 0, pos := _, after := #[{ on := 6, ground := Ground.data }, { on := 5, ground := Ground.data }, { on := 5, ground := Ground.chain }, { on := 0, ground := Ground.phase }, { on := 1, ground := Ground.phase }, { on := 2, ground := Ground.phase }, { on := 3, ground := Ground.phase }, { on := 4, ground := Ground.phase }, { on := 5, ground := Ground.phase }], guard := none }) rfl (fun K hK => ?_) AllReadyH.nil
        obtain ⟨p0, p1, p2⟩ := Bk.c3 OB3
        have pf := Bk.f OB3
        go_simp
        refine hK.out _ _ (XS.out _ (Bk.other XB3 _ _ hXO)) (fun hH5 => ?_)
        clear p0 p1 p2 pf
        clear hK K
        (try simp only [Act.put, List.setIfInBounds_toArray, List.set_cons_zero, List.set_cons_succ])
        refine wpAnyH_done (by kernel_rfl) ?_ _
        go_wp2_with fail
        obtain ⟨ou4, kb4⟩ := E4.out (v3.setCell ⟨w.heap.size + 1 + 1, 0, none⟩ (.slice a3' (lj.length + 1) c3')) (by rw [List.length_append]; rfl)
        exact ⟨⟨j + 1, a3', c3', xs', by go_num, by omega, by rw [HT.out]; exact ou4, KB5.out.trans kb4⟩, by simp [intOf]; omega⟩
      · go_simp
        refine HC5.out.mono ?_
        rintro e v1 ⟨d', rfl, r1, e1⟩
        have b1 := e1
        have r1h := Lib.hid r1
        clear r1 e1
        refine hK.out _ _ (XS.out _ (XB5.step b1)) (fun hH6 => ?_)
        clear hK K
        (try simp only [Act.put, List.setIfInBounds_toArray, List.set_cons_zero, List.set_cons_succ])
        refine wpAnyH_ready (rs := [1, 4]) (by kernel_rfl) (by simp) ?_
        refine AllReadyH.cons (o := { dst := some 19, op := Op.load 22 (Operand.tmp 18), type := 22, pos := _, after := #[{ on := 0, ground := Ground.data }], guard := none }) rfl (fun K hK => ?_) (AllReadyH.cons (o := { dst := some 22, op := Op.buildSlice 22 1 #[(0, Operand.tmp 21)], type := 22, pos := _, after := #[{ on := 3, ground := Ground.data }], guard := none }) rfl (fun K hK => ?_) AllReadyH.nil)
        · obtain ⟨p0, p1, p2⟩ := (OU5.out.step b1).q.c3
          go_simp
          refine hK.out _ _ (XS.out _ (XB5.step b1)) (fun hH7 => ?_)
          clear p0 p1 p2
          clear hK K
          (try simp only [Act.put, List.setIfInBounds_toArray, List.set_cons_zero, List.set_cons_succ])
          refine wpAnyH_ready (rs := [4]) (by kernel_rfl) (by simp) ?_
          refine AllReadyH.cons (o := { dst := some 22, op := Op.buildSlice 22 1 #[(0, Operand.tmp 21)], type := 22, pos := _, after := #[{ on := 3, ground := Ground.data }], guard := none }) rfl (fun K hK => ?_) AllReadyH.nil
          go_simp
          have b2 : Below v9.heap.size v9 (v1.alloc (.cells #[.int .i64 x.id, .string x.tp, .int .i64 d'.k, .int .i64 d'.i, .int .u64 d'.u, .string d'.s, .slice d'.a d'.l d'.c, .int .i64 x.ti, .int .i64 x.un, .string x.rp, .int .i64 x.co, .int .i64 x.pr, .int .i64 x.ho] 30)) := b1.trans ((below1 v1 _).mono b1.size)
          have AP1 := Lib.hid (ou_step OU5.out hO5 x d' r1h.out b1)
          generalize hN8 : v1.heap.size = N2 at *
          generalize hV8 : v1.alloc (.cells #[.int .i64 x.id, .string x.tp, .int .i64 d'.k, .int .i64 d'.i, .int .u64 d'.u, .string d'.s, .slice d'.a d'.l d'.c, .int .i64 x.ti, .int .i64 x.un, .string x.rp, .int .i64 x.co, .int .i64 x.pr, .int .i64 x.ho] 30) = v2 at *
          refine hK.out _ _ (XS.out _ (XB5.step b2)) (fun hH8 => ?_)
          clear hK K
          (try simp only [Act.put, List.setIfInBounds_toArray, List.set_cons_zero, List.set_cons_succ])
          refine wpAnyH_ready (rs := [5]) (by kernel_rfl) (by simp) ?_
          refine AllReadyH.cons (o := { dst := some 23, op := Op.call { callee := Callee.builtin Builtin.append, args := #[Operand.tmp 19, Operand.tmp 22], argTypes := #[22, 22] }, type := 22, pos := _, after := #[{ on := 1, ground := Ground.data }, { on := 4, ground := Ground.data }, { on := 3, ground := Ground.chain }], guard := none }) rfl (fun K hK => ?_) AllReadyH.nil
          rw [if_pos (by rfl)]
          refine wp_mapp (.tmp 19) (.tmp 22) rfl _ _ lj _ xs rfl AP1.out.1 N2 0 1 [x] rfl AP1.out.2.1 (by simp) hl5 AP1.out.2.2.1 ?_
          intro sl' xs' v3 m3 g3 a3
          obtain ⟨oth3, ⟨a3', c3', rfl⟩, E3⟩ := AP1.out.2.2.2 sl' xs' v3 m3 g3 a3
          have E4 := Lib.hid (E3 a3' c3' rfl)
          have OB3 := (oth3 _ OU5.out.q.lt hOo5).trans OU5.out.q
          have XB3 := (oth3 _ XB5.lt hXo5).trans XB5
          clear m3 g3 a3 E3 oth3
          refine hK.out _ _ (XS.out _ XB3) (fun hH9 => ?_)
          clear hK K
          (try simp only [Act.put, List.setIfInBounds_toArray, List.set_cons_zero, List.set_cons_succ])
          refine wpAnyH_take (i := 6) (oi := { dst := some 24, op := Op.fieldAddr 24 (Operand.tmp 3) 0, type := 0, pos := _, after := #[{ on := 0, ground := Ground.phase }, { on := 1, ground := Ground.phase }, { on := 2, ground := Ground.phase }, { on := 3, ground := Ground.phase }, { on := 4, ground := Ground.phase }, { on := 5, ground := Ground.phase }], guard := none }) (v := ?trc4) rfl (by kernel_rfl) (by kernel_rfl) (by kernel_rfl) (fun _ _ _ h => h) (Or.inl ⟨by rfl, ?urc4⟩) (by assumption) ?rrc4
          case urc4 => (intro w hSw; (try dsimp only at hSw); go_simp; (try with_reducible rfl))
          simp only [Act.put, List.setIfInBounds_toArray, List.set_cons_zero, List.set_cons_succ]
          refine wpAnyH_ready (rs := [7]) (by kernel_rfl) (by simp) ?_
          refine AllReadyH.cons (o := { dst := none, op := Op.store 22 (Operand.tmp 24) (Operand.tmp 23), type := 0, pos := _, after := #[{ on := 6, ground := Ground.data }, { on := 5, ground := Ground.data }, { on := 5, ground := Ground.chain }, { on := 0, ground := Ground.phase }, { on := 1, ground := Ground.phase }, { on := 2, ground := Ground.phase }, { on := 3, ground := Ground.phase }, { on := 4, ground := Ground.phase }, { on := 5, ground := Ground.phase }], guard := none }) rfl (fun K hK => ?_) AllReadyH.nil
          obtain ⟨p0, p1, p2⟩ := Bk.c3 OB3
          have pf := Bk.f OB3
          go_simp
          refine hK.out _ _ (XS.out _ (Bk.other XB3 _ _ hXO)) (fun hH10 => ?_)
          clear p0 p1 p2 pf
          clear hK K
          (try simp only [Act.put, List.setIfInBounds_toArray, List.set_cons_zero, List.set_cons_succ])
          refine wpAnyH_done (by kernel_rfl) ?_ _
          go_wp2_with fail
          obtain ⟨ou4, kb4⟩ := E4.out (v3.setCell ⟨w.heap.size + 1 + 1, 0, none⟩ (.slice a3' (lj.length + 1) c3')) (by rw [List.length_append]; rfl)
          exact ⟨⟨j + 1, a3', c3', xs', by go_num, by omega, by rw [HT.out]; exact ou4, KB5.out.trans kb4⟩, by simp [intOf]; omega⟩
        · go_simp
          have b2 : Below v9.heap.size v9 (v1.alloc (.cells #[.int .i64 x.id, .string x.tp, .int .i64 d'.k, .int .i64 d'.i, .int .u64 d'.u, .string d'.s, .slice d'.a d'.l d'.c, .int .i64 x.ti, .int .i64 x.un, .string x.rp, .int .i64 x.co, .int .i64 x.pr, .int .i64 x.ho] 30)) := b1.trans ((below1 v1 _).mono b1.size)
          have AP1 := Lib.hid (ou_step OU5.out hO5 x d' r1h.out b1)
          generalize hN11 : v1.heap.size = N2 at *
          generalize hV11 : v1.alloc (.cells #[.int .i64 x.id, .string x.tp, .int .i64 d'.k, .int .i64 d'.i, .int .u64 d'.u, .string d'.s, .slice d'.a d'.l d'.c, .int .i64 x.ti, .int .i64 x.un, .string x.rp, .int .i64 x.co, .int .i64 x.pr, .int .i64 x.ho] 30) = v2 at *
          refine hK.out _ _ (XS.out _ (XB5.step b2)) (fun hH11 => ?_)
          clear hK K
          (try simp only [Act.put, List.setIfInBounds_toArray, List.set_cons_zero, List.set_cons_succ])
          refine wpAnyH_ready (rs := [1]) (by kernel_rfl) (by simp) ?_
          refine AllReadyH.cons (o := { dst := some 19, op := Op.load 22 (Operand.tmp 18), type := 22, pos := _, after := #[{ on := 0, ground := Ground.data }], guard := none }) rfl (fun K hK => ?_) AllReadyH.nil
          obtain ⟨p0, p1, p2⟩ := (OU5.out.step b2).q.c3
          go_simp
          refine hK.out _ _ (XS.out _ (XB5.step b2)) (fun hH12 => ?_)
          clear p0 p1 p2
          clear hK K
          (try simp only [Act.put, List.setIfInBounds_toArray, List.set_cons_zero, List.set_cons_succ])
          refine wpAnyH_ready (rs := [5]) (by kernel_rfl) (by simp) ?_
          refine AllReadyH.cons (o := { dst := some 23, op := Op.call { callee := Callee.builtin Builtin.append, args := #[Operand.tmp 19, Operand.tmp 22], argTypes := #[22, 22] }, type := 22, pos := _, after := #[{ on := 1, ground := Ground.data }, { on := 4, ground := Ground.data }, { on := 3, ground := Ground.chain }], guard := none }) rfl (fun K hK => ?_) AllReadyH.nil
          rw [if_pos (by rfl)]
          refine wp_mapp (.tmp 19) (.tmp 22) rfl _ _ lj _ xs rfl AP1.out.1 N2 0 1 [x] rfl AP1.out.2.1 (by simp) hl5 AP1.out.2.2.1 ?_
          intro sl' xs' v3 m3 g3 a3
          obtain ⟨oth3, ⟨a3', c3', rfl⟩, E3⟩ := AP1.out.2.2.2 sl' xs' v3 m3 g3 a3
          have E4 := Lib.hid (E3 a3' c3' rfl)
          have OB3 := (oth3 _ OU5.out.q.lt hOo5).trans OU5.out.q
          have XB3 := (oth3 _ XB5.lt hXo5).trans XB5
          clear m3 g3 a3 E3 oth3
          refine hK.out _ _ (XS.out _ XB3) (fun hH13 => ?_)
          clear hK K
          (try simp only [Act.put, List.setIfInBounds_toArray, List.set_cons_zero, List.set_cons_succ])
          refine wpAnyH_take (i := 6) (oi := { dst := some 24, op := Op.fieldAddr 24 (Operand.tmp 3) 0, type := 0, pos := _, after := #[{ on := 0, ground := Ground.phase }, { on := 1, ground := Ground.phase }, { on := 2, ground := Ground.phase }, { on := 3, ground := Ground.phase }, { on := 4, ground := Ground.phase }, { on := 5, ground := Ground.phase }], guard := none }) (v := ?trc5) rfl (by kernel_rfl) (by kernel_rfl) (by kernel_rfl) (fun _ _ _ h => h) (Or.inl ⟨by rfl, ?urc5⟩) (by assumption) ?rrc5
          case urc5 => (intro w hSw; (try dsimp only at hSw); go_simp; (try with_reducible rfl))
          simp only [Act.put, List.setIfInBounds_toArray, List.set_cons_zero, List.set_cons_succ]
          refine wpAnyH_ready (rs := [7]) (by kernel_rfl) (by simp) ?_
          refine AllReadyH.cons (o := { dst := none, op := Op.store 22 (Operand.tmp 24) (Operand.tmp 23), type := 0, pos := _, after := #[{ on := 6, ground := Ground.data }, { on := 5, ground := Ground.data }, { on := 5, ground := Ground.chain }, { on := 0, ground := Ground.phase }, { on := 1, ground := Ground.phase }, { on := 2, ground := Ground.phase }, { on := 3, ground := Ground.phase }, { on := 4, ground := Ground.phase }, { on := 5, ground := Ground.phase }], guard := none }) rfl (fun K hK => ?_) AllReadyH.nil
          obtain ⟨p0, p1, p2⟩ := Bk.c3 OB3
          have pf := Bk.f OB3
          go_simp
          refine hK.out _ _ (XS.out _ (Bk.other XB3 _ _ hXO)) (fun hH14 => ?_)
          clear p0 p1 p2 pf
          clear hK K
          (try simp only [Act.put, List.setIfInBounds_toArray, List.set_cons_zero, List.set_cons_succ])
          refine wpAnyH_done (by kernel_rfl) ?_ _
          go_wp2_with fail
          obtain ⟨ou4, kb4⟩ := E4.out (v3.setCell ⟨w.heap.size + 1 + 1, 0, none⟩ (.slice a3' (lj.length + 1) c3')) (by rw [List.length_append]; rfl)
          exact ⟨⟨j + 1, a3', c3', xs', by go_num, by omega, by rw [HT.out]; exact ou4, KB5.out.trans kb4⟩, by simp [intOf]; omega⟩
    · have hje : j = l.length := by omega
      subst hje
      rw [List.take_length] at ou
      have kS : Bk wr w.heap.size _ _ := (kb.block _ (by omega) (by omega)).trans S0
      have Zr : Bk wr (w.heap.size + 1) #[.slice none 0 0, .int .i64 0, .int .i64 0] 24 := (kb.block _ (by omega) (by omega)).trans Z0
      obtain ⟨q0, q1, q2⟩ := ou.q.c3
      obtain ⟨z0, z1, z2⟩ := Zr.c3
      have zf := Zr.f
      have M := Lib.hid ou.m
      have BW : Hid (Below w.heap.size w wr) := Kb.below B0 kb (by omega) (by omega)
      clear ou kb kS Zr S0 Z0
      go_wp2_with fail
      refine bodyPost_ret (v := .agg #[.slice a1 l.length c1, .int .i64 r, .int .i64 dr]) (by simp [results, Try.results9, go_sem, World.cell?_setCell_same, World.cell?_setCell_other, z0, z1, z2]) rfl ⟨.slice a1 l.length c1, xs, rfl, ?_, ?_⟩
      · have e3 : ∀ g, w.heap.size + 1 + 1 + 1 ≤ g → (((wr.setCell ⟨w.heap.size + 1, 0, none⟩ (.slice a1 l.length c1)).setCell ⟨w.heap.size + 1, 1, none⟩ (.int .i64 r)).setCell ⟨w.heap.size + 1, 2, none⟩ (.int .i64 dr)).heap[g]? = wr.heap[g]? := fun g hg => set3_heap _ _ _ (by omega) _ _ _
        exact (Mp.mono M.out (by omega)).to (by simp) (fun g hg => e3 g (M.out.own_lt g hg).1) (fun g hg => ⟨⟨by omega, by simpa using hg.2.1, hg.2.2⟩, e3 g hg.1⟩)
      · exact below_set3 BW.out (by omega) _ _ _
end Go.Proofs.Ytdgjhclncjoonaa
