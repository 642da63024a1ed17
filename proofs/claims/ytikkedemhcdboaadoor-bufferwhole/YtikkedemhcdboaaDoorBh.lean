/- The document's Put; the conditions: the messages in memory, of a size that can be. -/
import Derived.Test.YtikkedemhcdboaaDoorBg
import Derived.Deep.Cut
import Derived.Deep.CutRange
namespace Go.Proofs.YtikkedemhcdboaaDoor
open Go.RowKit

/-- A state and messages come back, in new memory. -/
def BfZ (w : World) (l1 : List Ms) (s1 : Int) (l2 : List Ms) (e : Ending) (w' : World) : Prop := ∃ a1 c1 a2 c2, e = .returned (.tuple #[.agg #[.slice a1 l1.length c1, .int .i64 s1], .slice a2 l2.length c2]) ∧ Mz (fun g => w.heap.size ≤ g ∧ g < w'.heap.size) w' a1 l1 ∧ Mz (fun g => w.heap.size ≤ g ∧ g < w'.heap.size) w' a2 l2 ∧ Below w.heap.size w w'
theorem end_setZ {w w1 : World} {n0 : Nat} {a1 : Option Addr} {L : List Ms} (N : Nat) (m1 : Mz (fun g => n0 ≤ g ∧ g < w1.heap.size ∧ g ≠ N) w1 a1 L) (hn : w.heap.size ≤ n0) : ∀ (v0 v1 : Value) (W : World), W = (w1.setCell ⟨N, 0, none⟩ v0).setCell ⟨N, 1, none⟩ v1 → Mz (fun g => w.heap.size ≤ g ∧ g < W.heap.size) W a1 L := fun v0 v1 W hW => by
  subst hW
  refine m1.to fun g hg => ⟨⟨by omega, by simpa using hg.2.1⟩, ?_⟩
  rw [Below.heap_setCell _ _ _ g (by show g ≠ N; omega), Below.heap_setCell _ _ _ g (by show g ≠ N; omega)]
/-- What the document's Put gives. -/
def RPutP (w : World) (l : List Ms) (x : Ms) (since a now : Int) (e : Ending) (w' : World) : Prop := ((l.length : Int) + 1 = a → BfZ w [] 0 (l ++ [x]) e w') ∧ ((l.length : Int) + 1 ≠ a → (l = [] → BfZ w [x] now [] e w') ∧ (l ≠ [] → BfZ w (l ++ [x]) since [] e w'))
/-- Where Put stands when its row is made. -/
structure Ph (w : World) (l : List Ms) (st : Array Value) (since : Int) (X : Nat) (a1 : Option Addr) (c1 : Nat) (wc : World) : Prop where
  b : Below w.heap.size w wc
  s : Bk wc w.heap.size st 24
  r : Bk wc (w.heap.size + 1 + 1) #[.slice none 0 0, .int .i64 0] 24
  v : Bk wc X #[.slice a1 l.length c1, .int .i64 since] 24
  x : w.heap.size + 3 ≤ X
  m : Mz (fun g => w.heap.size + 3 ≤ g ∧ g < wc.heap.size ∧ g ≠ X) wc a1 l

theorem Ph.set {w : World} {l : List Ms} {st : Array Value} {since : Int} {X : Nat} {a1 : Option Addr} {c1 : Nat} {wc : World} (h : Ph w l st since X a1 c1 wc) (now : Int) : Ph w l st now X a1 c1 (wc.setCell ⟨X, 1, none⟩ (.int .i64 now)) := by
  have hx := h.x
  refine ⟨h.b.setCell (by show w.heap.size ≤ X; omega) _, h.s.other _ _ (by show w.heap.size ≠ X; omega), h.r.other _ _ (by show w.heap.size + 1 + 1 ≠ X; omega), h.v.set 1 _, hx, h.m.to fun g hg => ⟨⟨hg.1, by simpa using hg.2.1, hg.2.2⟩, Below.heap_setCell _ _ _ g (by show g ≠ X; exact hg.2.2)⟩⟩

set_option maxRecDepth 100000 in
set_option maxHeartbeats 4000000 in
theorem rput_any (l : List Ms) (x : Ms) (d : Bo) (ad : Option Addr) (c : Nat) (since a now : Int) (w : World) (hl : l.length + 1 ≤ 1000) (h1 : Mw w ad l) (hx : Dt.Rep w x.n d.vs x.t) (hp : Sm (l ++ [x])) :
    Calls Tryd.prog 12 #[.agg #[.slice ad l.length c, .int .i64 since], .int .i64 a, .int .i64 now, .agg (x.cs d)] w (RPutP w l x since a now) := by
  obtain ⟨B0, S0, M0, Z0⟩ := put_start w #[.slice ad l.length c, .int .i64 since] (x.cs d) 24 30 #[.slice none 0 0, .int .i64 0]
  obtain ⟨W0, hW0⟩ : ∃ W0, W0 = ((w.alloc (.cells #[.slice ad l.length c, .int .i64 since] 24)).alloc (.cells (x.cs d) 30)).alloc (.cells #[.slice none 0 0, .int .i64 0] 24) := ⟨_, rfl⟩
  have hs0 : W0.heap.size = w.heap.size + 1 + 1 + 1 := by rw [hW0]; simp
  rw [← hW0] at B0 S0 M0 Z0
  have HC : Hid (∀ wx, Below W0.heap.size W0 wx → Calls Tryd.prog 9 #[.slice ad l.length c] wx fun e w' => ∃ sl xs, e = .returned sl ∧ Mp wx.heap.size (fun g => wx.heap.size ≤ g ∧ g < w'.heap.size ∧ some g ≠ sl.ownBlock) l sl xs w' ∧ Below wx.heap.size wx w') := fun wx hb => rcopy_any l ad c wx (by omega) (Mw.below h1 (B0.trans (hb.mono B0.size))) (fun y hy => hp y (List.mem_append_left _ hy))
  have HM : Hid (∀ wx, Below W0.heap.size W0 wx → Calls Tryd.prog 11 #[.agg (x.cs d)] wx fun e w' => ∃ d' : Bo, e = .returned (.agg (x.cs d')) ∧ Rz (fun g => wx.heap.size ≤ g ∧ g < w'.heap.size) w' x.n d'.vs x.t ∧ Below wx.heap.size wx w') := fun wx hb => cmsg_any x d wx (Dt.Rep.below (B0.trans (hb.mono B0.size)) _ _ _ hx) (hp x (by simp))
  have KS : Hid (∀ wx, Below W0.heap.size W0 wx → (fun wx => (wx.cell? ⟨w.heap.size, 0, none⟩ = some (.slice ad l.length c) ∧ wx.cell? ⟨w.heap.size, 1, none⟩ = some (.int .i64 since)) ∧ wx.cell? ⟨w.heap.size + 1, 0, none⟩ = some (.int .i64 x.id) ∧ wx.cell? ⟨w.heap.size + 1, 1, none⟩ = some (.string x.tp) ∧ wx.cell? ⟨w.heap.size + 1, 2, none⟩ = some (.int .i64 d.k) ∧ wx.cell? ⟨w.heap.size + 1, 3, none⟩ = some (.int .i64 d.i) ∧ wx.cell? ⟨w.heap.size + 1, 4, none⟩ = some (.int .u64 d.u) ∧ wx.cell? ⟨w.heap.size + 1, 5, none⟩ = some (.string d.s) ∧ wx.cell? ⟨w.heap.size + 1, 6, none⟩ = some (.slice d.a d.l d.c) ∧ wx.cell? ⟨w.heap.size + 1, 7, none⟩ = some (.int .i64 x.ti) ∧ wx.cell? ⟨w.heap.size + 1, 8, none⟩ = some (.int .i64 x.un) ∧ wx.cell? ⟨w.heap.size + 1, 9, none⟩ = some (.string x.rp) ∧ wx.cell? ⟨w.heap.size + 1, 10, none⟩ = some (.int .i64 x.co) ∧ wx.cell? ⟨w.heap.size + 1, 11, none⟩ = some (.int .i64 x.pr) ∧ wx.cell? ⟨w.heap.size + 1, 12, none⟩ = some (.int .i64 x.ho)) wx) := fun wx hb => ⟨(S0.step hb).c2, (M0.step hb).c13⟩
  have hl' : l.length + 1 ≤ 1000000 := by omega
  clear h1 hx hp
  go_enter Tryd.func12, Tryd.ntmps12
  go_wp2_with fail
  rw [← hW0]
  clear hW0
  go_cut [10] from 11 to 21 (fun s10 wc => ∃ X a1 c1, s10 = .pointer (some ⟨X, 0, none⟩) ∧ Ph w (l ++ [x]) #[.slice ad l.length c, .int .i64 since] since X a1 c1 wc)
  case first =>
    have b0 : Below W0.heap.size W0 W0.drew := (Below.refl _ _).drew
    refine wp_region_held_drew (S := (fun wx => (wx.cell? ⟨w.heap.size, 0, none⟩ = some (.slice ad l.length c) ∧ wx.cell? ⟨w.heap.size, 1, none⟩ = some (.int .i64 since)) ∧ wx.cell? ⟨w.heap.size + 1, 0, none⟩ = some (.int .i64 x.id) ∧ wx.cell? ⟨w.heap.size + 1, 1, none⟩ = some (.string x.tp) ∧ wx.cell? ⟨w.heap.size + 1, 2, none⟩ = some (.int .i64 d.k) ∧ wx.cell? ⟨w.heap.size + 1, 3, none⟩ = some (.int .i64 d.i) ∧ wx.cell? ⟨w.heap.size + 1, 4, none⟩ = some (.int .u64 d.u) ∧ wx.cell? ⟨w.heap.size + 1, 5, none⟩ = some (.string d.s) ∧ wx.cell? ⟨w.heap.size + 1, 6, none⟩ = some (.slice d.a d.l d.c) ∧ wx.cell? ⟨w.heap.size + 1, 7, none⟩ = some (.int .i64 x.ti) ∧ wx.cell? ⟨w.heap.size + 1, 8, none⟩ = some (.int .i64 x.un) ∧ wx.cell? ⟨w.heap.size + 1, 9, none⟩ = some (.string x.rp) ∧ wx.cell? ⟨w.heap.size + 1, 10, none⟩ = some (.int .i64 x.co) ∧ wx.cell? ⟨w.heap.size + 1, 11, none⟩ = some (.int .i64 x.pr) ∧ wx.cell? ⟨w.heap.size + 1, 12, none⟩ = some (.int .i64 x.ho))) (by kernel_rfl) (KS.out _ b0) (fun hHeld => ?_)
    generalize W0.drew = w1 at *
    refine wpAnyH_take (i := 0) (oi := { dst := some 11, op := Op.fieldAddr 24 (Operand.tmp 4) 0, type := 0, pos := _, after := #[], guard := none }) (v := ?tP1) rfl (by kernel_rfl) (by kernel_rfl) (by kernel_rfl) (fun _ _ _ h => h) (Or.inl ⟨by rfl, ?uP1⟩) (by assumption) ?rP1
    case uP1 => (intro w hSw; (try dsimp only at hSw); go_simp; (try with_reducible rfl))
    simp only [Act.put, List.setIfInBounds_toArray, List.set_cons_zero, List.set_cons_succ]
    refine wpAnyH_take (i := 1) (oi := { dst := some 12, op := Op.load 22 (Operand.tmp 11), type := 22, pos := _, after := #[{ on := 0, ground := Ground.data }], guard := none }) (v := ?tP2) rfl (by kernel_rfl) (by kernel_rfl) (by kernel_rfl) (fun _ _ _ h => h) (Or.inl ⟨by rfl, ?uP2⟩) (by assumption) ?rP2
    case uP2 => (intro w hSw; (try dsimp only at hSw); go_simp; (try with_reducible rfl))
    simp only [Act.put, List.setIfInBounds_toArray, List.set_cons_zero, List.set_cons_succ]
    refine wpAnyH_take (i := 3) (oi := { dst := some 14, op := Op.load 30 (Operand.tmp 7), type := 30, pos := _, after := #[], guard := none }) (v := ?tP3) rfl (by kernel_rfl) (by kernel_rfl) (by kernel_rfl) (fun _ _ _ h => h) (Or.inl ⟨by rfl, ?uP3⟩) (by assumption) ?rP3
    case uP3 => (intro w hSw; (try dsimp only at hSw); go_simp; (try with_reducible rfl))
    simp only [Act.put, List.setIfInBounds_toArray, List.set_cons_zero, List.set_cons_succ]
    refine wpAnyH_take (i := 7) (oi := { dst := some 18, op := Op.fieldAddr 24 (Operand.tmp 4) 1, type := 0, pos := _, after := #[], guard := none }) (v := ?tP4) rfl (by kernel_rfl) (by kernel_rfl) (by kernel_rfl) (fun _ _ _ h => h) (Or.inl ⟨by rfl, ?uP4⟩) (by assumption) ?rP4
    case uP4 => (intro w hSw; (try dsimp only at hSw); go_simp; (try with_reducible rfl))
    simp only [Act.put, List.setIfInBounds_toArray, List.set_cons_zero, List.set_cons_succ]
    refine wpAnyH_take (i := 8) (oi := { dst := some 19, op := Op.load 2 (Operand.tmp 18), type := 2, pos := _, after := #[{ on := 7, ground := Ground.data }], guard := none }) (v := ?tP5) rfl (by kernel_rfl) (by kernel_rfl) (by kernel_rfl) (fun _ _ _ h => h) (Or.inl ⟨by rfl, ?uP5⟩) (by assumption) ?rP5
    case uP5 => (intro w hSw; (try dsimp only at hSw); go_simp; (try with_reducible rfl))
    simp only [Act.put, List.setIfInBounds_toArray, List.set_cons_zero, List.set_cons_succ]
    refine wpAnyH_ready (rs := [2, 10]) (by kernel_rfl) (by simp) ?_
    refine AllReadyH.cons (o := { dst := some 13, op := Op.call { callee := Callee.value (Operand.func 9), args := #[Operand.tmp 12], argTypes := #[22] }, type := 22, pos := _, after := #[{ on := 1, ground := Ground.data }], guard := none }) rfl (fun K hK => ?_) (AllReadyH.cons (o := { dst := some 10, op := Op.alloc 24, type := 0, pos := _, after := #[], guard := none }) rfl (fun K hK => ?_) AllReadyH.nil)
    · go_simp
      refine (HC.out _ b0).mono ?_
      rintro e wy1 ⟨sl, xs, rfl, m1, e1⟩
      have b1 := b0.trans (e1.mono b0.size)
      have A1 := Lib.hid (Ra.of (W0 := W0) (X := none) m1 b0.size (fun g e => by cases e))
      clear m1 e1
      go_wp2_with fail
      refine hK.out _ _ (KS.out _ b1) (fun hH1 => ?_)
      clear hK K
      (try simp only [Act.put, List.setIfInBounds_toArray, List.set_cons_zero, List.set_cons_succ])
      refine wpAnyH_ready (rs := [4, 10]) (by kernel_rfl) (by simp) ?_
      refine AllReadyH.cons (o := { dst := some 15, op := Op.call { callee := Callee.value (Operand.func 11), args := #[Operand.tmp 14], argTypes := #[30] }, type := 30, pos := _, after := #[{ on := 3, ground := Ground.data }, { on := 2, ground := Ground.chain }], guard := none }) rfl (fun K hK => ?_) (AllReadyH.cons (o := { dst := some 10, op := Op.alloc 24, type := 0, pos := _, after := #[], guard := none }) rfl (fun K hK => ?_) AllReadyH.nil)
      · go_simp
        refine (HM.out _ b1).mono ?_
        rintro e wy2 ⟨d', rfl, m2, e2⟩
        have B2 := Lib.hid (Rb.of m2 A1.out (fun g e => by cases e))
        have b2 := b1.trans (e2.mono b1.size)
        have A2 := Lib.hid (A1.out.below e2)
        clear m2 e2
        go_wp2_with fail
        refine hK.out _ _ (KS.out _ b2) (fun hH2 => ?_)
        clear hK K
        (try simp only [Act.put, List.setIfInBounds_toArray, List.set_cons_zero, List.set_cons_succ])
        refine wpAnyH_ready (rs := [5, 10]) (by kernel_rfl) (by simp) ?_
        refine AllReadyH.cons (o := { dst := some 16, op := Op.buildSlice 22 1 #[(0, Operand.tmp 15)], type := 22, pos := _, after := #[{ on := 4, ground := Ground.data }], guard := none }) rfl (fun K hK => ?_) (AllReadyH.cons (o := { dst := some 10, op := Op.alloc 24, type := 0, pos := _, after := #[], guard := none }) rfl (fun K hK => ?_) AllReadyH.nil)
        · go_simp
          have C3 := Lib.hid (Rc.of (x := x) (d := d') A2.out (fun g e => by cases e))
          have e3 := below1 wy2 (.cells (x.cs d') 30)
          have b3 := b2.trans (e3.mono b2.size)
          have A3 := Lib.hid (A2.out.below e3)
          have B3 := Lib.hid (B2.out.below e3)
          clear e3
          generalize hN3 : (wy2).heap.size = N3 at *
          generalize hW3 : (wy2).alloc (.cells (x.cs d') 30) = wv3 at *
          refine hK.out _ _ (KS.out _ b3) (fun hH3 => ?_)
          clear hK K
          (try simp only [Act.put, List.setIfInBounds_toArray, List.set_cons_zero, List.set_cons_succ])
          refine wpAnyH_ready (rs := [6, 10]) (by kernel_rfl) (by simp) ?_
          refine AllReadyH.cons (o := { dst := some 17, op := Op.call { callee := Callee.builtin Builtin.append, args := #[Operand.tmp 13, Operand.tmp 16], argTypes := #[22, 22] }, type := 22, pos := _, after := #[{ on := 2, ground := Ground.data }, { on := 5, ground := Ground.data }, { on := 4, ground := Ground.chain }], guard := none }) rfl (fun K hK => ?_) (AllReadyH.cons (o := { dst := some 10, op := Op.alloc 24, type := 0, pos := _, after := #[], guard := none }) rfl (fun K hK => ?_) AllReadyH.nil)
          · rw [if_pos (by rfl)]
            refine wp_ra (W0 := W0) (.tmp 13) (.tmp 16) rfl none (fun g e => by cases e) l sl xs rfl A3.out N3 x d' rfl C3.out B3.out hl' ?_
            intro a1 c1 xs4 wy4 m4 g4
            have A4 := Lib.hid m4
            have b4 : Below W0.heap.size W0 wy4 := b3.grown g4 b3.size (fun k hk => (A3.out.m.own_lt k hk).1)
            clear m4
            refine hK.out _ _ (KS.out _ b4) (fun hH4 => ?_)
            clear hK K
            (try simp only [Act.put, List.setIfInBounds_toArray, List.set_cons_zero, List.set_cons_succ])
            refine wpAnyH_take (i := 9) (oi := { dst := some 20, op := Op.build 24 #[(0, Operand.tmp 17), (1, Operand.tmp 19)], type := 24, pos := _, after := #[{ on := 6, ground := Ground.data }, { on := 8, ground := Ground.data }], guard := none }) (v := ?tP6) rfl (by kernel_rfl) (by kernel_rfl) (by kernel_rfl) (fun _ _ _ h => h) (Or.inl ⟨by rfl, ?uP6⟩) (by assumption) ?rP6
            case uP6 => (intro w hSw; (try dsimp only at hSw); go_simp; (try with_reducible rfl))
            simp only [Act.put, List.setIfInBounds_toArray, List.set_cons_zero, List.set_cons_succ]
            refine wpAnyH_ready (rs := [10]) (by kernel_rfl) (by simp) ?_
            refine AllReadyH.cons (o := { dst := some 10, op := Op.alloc 24, type := 0, pos := _, after := #[], guard := none }) rfl (fun K hK => ?_) AllReadyH.nil
            go_simp
            have e5 := below1 wy4 (.cells #[.slice none 0 0, .int .i64 0] 24)
            have fX5 := Bk.new wy4 #[.slice none 0 0, .int .i64 0] 24
            have lX5 : W0.heap.size ≤ wy4.heap.size := b4.size
            have b5 := b4.trans (e5.mono b4.size)
            have A5 := Lib.hid (A4.out.al (.cells #[.slice none 0 0, .int .i64 0] 24))
            clear e5
            generalize hN5 : (wy4).heap.size = N5 at *
            generalize hW5 : (wy4).alloc (.cells #[.slice none 0 0, .int .i64 0] 24) = wv5 at *
            refine hK.out _ _ (KS.out _ b5) (fun hH5 => ?_)
            clear hK K
            (try simp only [Act.put, List.setIfInBounds_toArray, List.set_cons_zero, List.set_cons_succ])
            refine wpAnyH_ready (rs := [11]) (by kernel_rfl) (by simp) ?_
            refine AllReadyH.cons (o := { dst := none, op := Op.store 24 (Operand.tmp 10) (Operand.tmp 20), type := 0, pos := _, after := #[{ on := 10, ground := Ground.data }, { on := 9, ground := Ground.data }, { on := 6, ground := Ground.chain }, { on := 0, ground := Ground.phase }, { on := 1, ground := Ground.phase }, { on := 2, ground := Ground.phase }, { on := 3, ground := Ground.phase }, { on := 4, ground := Ground.phase }, { on := 5, ground := Ground.phase }, { on := 6, ground := Ground.phase }, { on := 7, ground := Ground.phase }, { on := 8, ground := Ground.phase }, { on := 9, ground := Ground.phase }, { on := 10, ground := Ground.phase }], guard := none }) rfl (fun K hK => ?_) AllReadyH.nil
            obtain ⟨z0, z1⟩ := fX5.c2
            have zf := fX5.f
            go_simp
            have b6 : Below W0.heap.size W0 ((wv5.setCell ⟨N5, 0, none⟩ (.slice a1 (l.length + 1) c1)).setCell ⟨N5, 1, none⟩ (.int .i64 since)) := (b5.setCell lX5 _).setCell lX5 _
            refine hK.out _ _ (KS.out _ b6) (fun hH6 => ?_)
            clear hK K
            (try simp only [Act.put, List.setIfInBounds_toArray, List.set_cons_zero, List.set_cons_succ])
            refine wpAnyH_done (by kernel_rfl) ?_ _
            go_wp2_with fail
            go_meet
            have hA := A5.out
            refine ⟨N5, a1, c1, rfl, B0.trans (b6.mono B0.size), S0.step b6, Z0.step b6, ?_, by omega, ?_⟩
            · have := ((fX5.set 0 (.slice a1 (l.length + 1) c1)).set 1 (.int .i64 since))
              rw [List.length_append]; exact this
            · obtain ⟨ad1, c2, e1, hz⟩ := hA.m.mz (F' := fun g => W0.heap.size ≤ g ∧ g < wv5.heap.size ∧ g ≠ N5) (fun g hg => ⟨hg.1, hg.2.1, fun e => hg.2.2.2 (by rw [e])⟩) (fun g hg => ⟨(hA.m.own_lt g hg).1, (hA.m.own_lt g hg).2, fun e => hA.x g hg (by rw [e])⟩)
              simp only [Value.slice.injEq] at e1
              obtain ⟨rfl, -, -⟩ := e1
              refine hz.to fun g hg => ⟨⟨by omega, by simpa using hg.2.1, hg.2.2⟩, ?_⟩
              rw [Below.heap_setCell _ _ _ g (by show g ≠ N5; omega), Below.heap_setCell _ _ _ g (by show g ≠ N5; omega)]
          · go_simp
            have e7 := below1 wv3 (.cells #[.slice none 0 0, .int .i64 0] 24)
            have fX7 := Bk.new wv3 #[.slice none 0 0, .int .i64 0] 24
            have lX7 : W0.heap.size ≤ wv3.heap.size := b3.size
            have b7 := b3.trans (e7.mono b3.size)
            have A7 := Lib.hid (A3.out.al (.cells #[.slice none 0 0, .int .i64 0] 24))
            have B7 := Lib.hid (B3.out.al (.cells #[.slice none 0 0, .int .i64 0] 24))
            have C7 := Lib.hid (C3.out.al (.cells #[.slice none 0 0, .int .i64 0] 24))
            clear e7
            generalize hN7 : (wv3).heap.size = N7 at *
            generalize hW7 : (wv3).alloc (.cells #[.slice none 0 0, .int .i64 0] 24) = wv7 at *
            refine hK.out _ _ (KS.out _ b7) (fun hH7 => ?_)
            clear hK K
            (try simp only [Act.put, List.setIfInBounds_toArray, List.set_cons_zero, List.set_cons_succ])
            refine wpAnyH_ready (rs := [6]) (by kernel_rfl) (by simp) ?_
            refine AllReadyH.cons (o := { dst := some 17, op := Op.call { callee := Callee.builtin Builtin.append, args := #[Operand.tmp 13, Operand.tmp 16], argTypes := #[22, 22] }, type := 22, pos := _, after := #[{ on := 2, ground := Ground.data }, { on := 5, ground := Ground.data }, { on := 4, ground := Ground.chain }], guard := none }) rfl (fun K hK => ?_) AllReadyH.nil
            rw [if_pos (by rfl)]
            refine wp_ra (W0 := W0) (.tmp 13) (.tmp 16) rfl (some N7) (fun g e => by cases e; exact fX7.lt) l sl xs rfl A7.out N3 x d' rfl C7.out B7.out hl' ?_
            intro a1 c1 xs8 wy8 m8 g8
            have A8 := Lib.hid m8
            have b8 : Below W0.heap.size W0 wy8 := b7.grown g8 b7.size (fun k hk => (A7.out.m.own_lt k hk).1)
            have fX8 : Bk wy8 N7 #[.slice none 0 0, .int .i64 0] 24 := (g8.block N7 fX7.lt (fun e => A7.out.x _ e.symm rfl)).trans fX7
            clear m8
            refine hK.out _ _ (KS.out _ b8) (fun hH8 => ?_)
            clear hK K
            (try simp only [Act.put, List.setIfInBounds_toArray, List.set_cons_zero, List.set_cons_succ])
            refine wpAnyH_take (i := 9) (oi := { dst := some 20, op := Op.build 24 #[(0, Operand.tmp 17), (1, Operand.tmp 19)], type := 24, pos := _, after := #[{ on := 6, ground := Ground.data }, { on := 8, ground := Ground.data }], guard := none }) (v := ?tP7) rfl (by kernel_rfl) (by kernel_rfl) (by kernel_rfl) (fun _ _ _ h => h) (Or.inl ⟨by rfl, ?uP7⟩) (by assumption) ?rP7
            case uP7 => (intro w hSw; (try dsimp only at hSw); go_simp; (try with_reducible rfl))
            simp only [Act.put, List.setIfInBounds_toArray, List.set_cons_zero, List.set_cons_succ]
            refine wpAnyH_ready (rs := [11]) (by kernel_rfl) (by simp) ?_
            refine AllReadyH.cons (o := { dst := none, op := Op.store 24 (Operand.tmp 10) (Operand.tmp 20), type := 0, pos := _, after := #[{ on := 10, ground := Ground.data }, { on := 9, ground := Ground.data }, { on := 6, ground := Ground.chain }, { on := 0, ground := Ground.phase }, { on := 1, ground := Ground.phase }, { on := 2, ground := Ground.phase }, { on := 3, ground := Ground.phase }, { on := 4, ground := Ground.phase }, { on := 5, ground := Ground.phase }, { on := 6, ground := Ground.phase }, { on := 7, ground := Ground.phase }, { on := 8, ground := Ground.phase }, { on := 9, ground := Ground.phase }, { on := 10, ground := Ground.phase }], guard := none }) rfl (fun K hK => ?_) AllReadyH.nil
            obtain ⟨z0, z1⟩ := fX8.c2
            have zf := fX8.f
            go_simp
            have b9 : Below W0.heap.size W0 ((wy8.setCell ⟨N7, 0, none⟩ (.slice a1 (l.length + 1) c1)).setCell ⟨N7, 1, none⟩ (.int .i64 since)) := (b8.setCell lX7 _).setCell lX7 _
            refine hK.out _ _ (KS.out _ b9) (fun hH9 => ?_)
            clear hK K
            (try simp only [Act.put, List.setIfInBounds_toArray, List.set_cons_zero, List.set_cons_succ])
            refine wpAnyH_done (by kernel_rfl) ?_ _
            go_wp2_with fail
            go_meet
            have hA := A8.out
            refine ⟨N7, a1, c1, rfl, B0.trans (b9.mono B0.size), S0.step b9, Z0.step b9, ?_, by omega, ?_⟩
            · have := ((fX8.set 0 (.slice a1 (l.length + 1) c1)).set 1 (.int .i64 since))
              rw [List.length_append]; exact this
            · obtain ⟨ad1, c2, e1, hz⟩ := hA.m.mz (F' := fun g => W0.heap.size ≤ g ∧ g < wy8.heap.size ∧ g ≠ N7) (fun g hg => ⟨hg.1, hg.2.1, fun e => hg.2.2.2 (by rw [e])⟩) (fun g hg => ⟨(hA.m.own_lt g hg).1, (hA.m.own_lt g hg).2, fun e => hA.x g hg (by rw [e])⟩)
              simp only [Value.slice.injEq] at e1
              obtain ⟨rfl, -, -⟩ := e1
              refine hz.to fun g hg => ⟨⟨by omega, by simpa using hg.2.1, hg.2.2⟩, ?_⟩
              rw [Below.heap_setCell _ _ _ g (by show g ≠ N7; omega), Below.heap_setCell _ _ _ g (by show g ≠ N7; omega)]
        · go_simp
          have e10 := below1 wy2 (.cells #[.slice none 0 0, .int .i64 0] 24)
          have fX10 := Bk.new wy2 #[.slice none 0 0, .int .i64 0] 24
          have lX10 : W0.heap.size ≤ wy2.heap.size := b2.size
          have b10 := b2.trans (e10.mono b2.size)
          have A10 := Lib.hid (A2.out.al (.cells #[.slice none 0 0, .int .i64 0] 24))
          have B10 := Lib.hid (B2.out.al (.cells #[.slice none 0 0, .int .i64 0] 24))
          clear e10
          generalize hN10 : (wy2).heap.size = N10 at *
          generalize hW10 : (wy2).alloc (.cells #[.slice none 0 0, .int .i64 0] 24) = wv10 at *
          refine hK.out _ _ (KS.out _ b10) (fun hH10 => ?_)
          clear hK K
          (try simp only [Act.put, List.setIfInBounds_toArray, List.set_cons_zero, List.set_cons_succ])
          refine wpAnyH_ready (rs := [5]) (by kernel_rfl) (by simp) ?_
          refine AllReadyH.cons (o := { dst := some 16, op := Op.buildSlice 22 1 #[(0, Operand.tmp 15)], type := 22, pos := _, after := #[{ on := 4, ground := Ground.data }], guard := none }) rfl (fun K hK => ?_) AllReadyH.nil
          go_simp
          have C11 := Lib.hid (Rc.of (x := x) (d := d') A10.out (fun g e => by cases e; exact fX10.lt))
          have e11 := below1 wv10 (.cells (x.cs d') 30)
          have b11 := b10.trans (e11.mono b10.size)
          have fX11 := fX10.step e11
          have A11 := Lib.hid (A10.out.below e11)
          have B11 := Lib.hid (B10.out.below e11)
          clear e11
          generalize hN11 : (wv10).heap.size = N11 at *
          generalize hW11 : (wv10).alloc (.cells (x.cs d') 30) = wv11 at *
          refine hK.out _ _ (KS.out _ b11) (fun hH11 => ?_)
          clear hK K
          (try simp only [Act.put, List.setIfInBounds_toArray, List.set_cons_zero, List.set_cons_succ])
          refine wpAnyH_ready (rs := [6]) (by kernel_rfl) (by simp) ?_
          refine AllReadyH.cons (o := { dst := some 17, op := Op.call { callee := Callee.builtin Builtin.append, args := #[Operand.tmp 13, Operand.tmp 16], argTypes := #[22, 22] }, type := 22, pos := _, after := #[{ on := 2, ground := Ground.data }, { on := 5, ground := Ground.data }, { on := 4, ground := Ground.chain }], guard := none }) rfl (fun K hK => ?_) AllReadyH.nil
          rw [if_pos (by rfl)]
          refine wp_ra (W0 := W0) (.tmp 13) (.tmp 16) rfl (some N10) (fun g e => by cases e; exact fX11.lt) l sl xs rfl A11.out N11 x d' rfl C11.out B11.out hl' ?_
          intro a1 c1 xs12 wy12 m12 g12
          have A12 := Lib.hid m12
          have b12 : Below W0.heap.size W0 wy12 := b11.grown g12 b11.size (fun k hk => (A11.out.m.own_lt k hk).1)
          have fX12 : Bk wy12 N10 #[.slice none 0 0, .int .i64 0] 24 := (g12.block N10 fX11.lt (fun e => A11.out.x _ e.symm rfl)).trans fX11
          clear m12
          refine hK.out _ _ (KS.out _ b12) (fun hH12 => ?_)
          clear hK K
          (try simp only [Act.put, List.setIfInBounds_toArray, List.set_cons_zero, List.set_cons_succ])
          refine wpAnyH_take (i := 9) (oi := { dst := some 20, op := Op.build 24 #[(0, Operand.tmp 17), (1, Operand.tmp 19)], type := 24, pos := _, after := #[{ on := 6, ground := Ground.data }, { on := 8, ground := Ground.data }], guard := none }) (v := ?tP8) rfl (by kernel_rfl) (by kernel_rfl) (by kernel_rfl) (fun _ _ _ h => h) (Or.inl ⟨by rfl, ?uP8⟩) (by assumption) ?rP8
          case uP8 => (intro w hSw; (try dsimp only at hSw); go_simp; (try with_reducible rfl))
          simp only [Act.put, List.setIfInBounds_toArray, List.set_cons_zero, List.set_cons_succ]
          refine wpAnyH_ready (rs := [11]) (by kernel_rfl) (by simp) ?_
          refine AllReadyH.cons (o := { dst := none, op := Op.store 24 (Operand.tmp 10) (Operand.tmp 20), type := 0, pos := _, after := #[{ on := 10, ground := Ground.data }, { on := 9, ground := Ground.data }, { on := 6, ground := Ground.chain }, { on := 0, ground := Ground.phase }, { on := 1, ground := Ground.phase }, { on := 2, ground := Ground.phase }, { on := 3, ground := Ground.phase }, { on := 4, ground := Ground.phase }, { on := 5, ground := Ground.phase }, { on := 6, ground := Ground.phase }, { on := 7, ground := Ground.phase }, { on := 8, ground := Ground.phase }, { on := 9, ground := Ground.phase }, { on := 10, ground := Ground.phase }], guard := none }) rfl (fun K hK => ?_) AllReadyH.nil
          obtain ⟨z0, z1⟩ := fX12.c2
          have zf := fX12.f
          go_simp
          have b13 : Below W0.heap.size W0 ((wy12.setCell ⟨N10, 0, none⟩ (.slice a1 (l.length + 1) c1)).setCell ⟨N10, 1, none⟩ (.int .i64 since)) := (b12.setCell lX10 _).setCell lX10 _
          refine hK.out _ _ (KS.out _ b13) (fun hH13 => ?_)
          clear hK K
          (try simp only [Act.put, List.setIfInBounds_toArray, List.set_cons_zero, List.set_cons_succ])
          refine wpAnyH_done (by kernel_rfl) ?_ _
          go_wp2_with fail
          go_meet
          have hA := A12.out
          refine ⟨N10, a1, c1, rfl, B0.trans (b13.mono B0.size), S0.step b13, Z0.step b13, ?_, by omega, ?_⟩
          · have := ((fX12.set 0 (.slice a1 (l.length + 1) c1)).set 1 (.int .i64 since))
            rw [List.length_append]; exact this
          · obtain ⟨ad1, c2, e1, hz⟩ := hA.m.mz (F' := fun g => W0.heap.size ≤ g ∧ g < wy12.heap.size ∧ g ≠ N10) (fun g hg => ⟨hg.1, hg.2.1, fun e => hg.2.2.2 (by rw [e])⟩) (fun g hg => ⟨(hA.m.own_lt g hg).1, (hA.m.own_lt g hg).2, fun e => hA.x g hg (by rw [e])⟩)
            simp only [Value.slice.injEq] at e1
            obtain ⟨rfl, -, -⟩ := e1
            refine hz.to fun g hg => ⟨⟨by omega, by simpa using hg.2.1, hg.2.2⟩, ?_⟩
            rw [Below.heap_setCell _ _ _ g (by show g ≠ N10; omega), Below.heap_setCell _ _ _ g (by show g ≠ N10; omega)]
      · go_simp
        have e14 := below1 wy1 (.cells #[.slice none 0 0, .int .i64 0] 24)
        have fX14 := Bk.new wy1 #[.slice none 0 0, .int .i64 0] 24
        have lX14 : W0.heap.size ≤ wy1.heap.size := b1.size
        have b14 := b1.trans (e14.mono b1.size)
        have A14 := Lib.hid (A1.out.al (.cells #[.slice none 0 0, .int .i64 0] 24))
        clear e14
        generalize hN14 : (wy1).heap.size = N14 at *
        generalize hW14 : (wy1).alloc (.cells #[.slice none 0 0, .int .i64 0] 24) = wv14 at *
        refine hK.out _ _ (KS.out _ b14) (fun hH14 => ?_)
        clear hK K
        (try simp only [Act.put, List.setIfInBounds_toArray, List.set_cons_zero, List.set_cons_succ])
        refine wpAnyH_ready (rs := [4]) (by kernel_rfl) (by simp) ?_
        refine AllReadyH.cons (o := { dst := some 15, op := Op.call { callee := Callee.value (Operand.func 11), args := #[Operand.tmp 14], argTypes := #[30] }, type := 30, pos := _, after := #[{ on := 3, ground := Ground.data }, { on := 2, ground := Ground.chain }], guard := none }) rfl (fun K hK => ?_) AllReadyH.nil
        go_simp
        refine (HM.out _ b14).mono ?_
        rintro e wy15 ⟨d', rfl, m15, e15⟩
        have B15 := Lib.hid (Rb.of m15 A14.out (fun g e => by cases e; exact fX14.lt))
        have b15 := b14.trans (e15.mono b14.size)
        have fX15 := fX14.step e15
        have A15 := Lib.hid (A14.out.below e15)
        clear m15 e15
        go_wp2_with fail
        refine hK.out _ _ (KS.out _ b15) (fun hH15 => ?_)
        clear hK K
        (try simp only [Act.put, List.setIfInBounds_toArray, List.set_cons_zero, List.set_cons_succ])
        refine wpAnyH_ready (rs := [5]) (by kernel_rfl) (by simp) ?_
        refine AllReadyH.cons (o := { dst := some 16, op := Op.buildSlice 22 1 #[(0, Operand.tmp 15)], type := 22, pos := _, after := #[{ on := 4, ground := Ground.data }], guard := none }) rfl (fun K hK => ?_) AllReadyH.nil
        go_simp
        have C16 := Lib.hid (Rc.of (x := x) (d := d') A15.out (fun g e => by cases e; exact fX15.lt))
        have e16 := below1 wy15 (.cells (x.cs d') 30)
        have b16 := b15.trans (e16.mono b15.size)
        have fX16 := fX15.step e16
        have A16 := Lib.hid (A15.out.below e16)
        have B16 := Lib.hid (B15.out.below e16)
        clear e16
        generalize hN16 : (wy15).heap.size = N16 at *
        generalize hW16 : (wy15).alloc (.cells (x.cs d') 30) = wv16 at *
        refine hK.out _ _ (KS.out _ b16) (fun hH16 => ?_)
        clear hK K
        (try simp only [Act.put, List.setIfInBounds_toArray, List.set_cons_zero, List.set_cons_succ])
        refine wpAnyH_ready (rs := [6]) (by kernel_rfl) (by simp) ?_
        refine AllReadyH.cons (o := { dst := some 17, op := Op.call { callee := Callee.builtin Builtin.append, args := #[Operand.tmp 13, Operand.tmp 16], argTypes := #[22, 22] }, type := 22, pos := _, after := #[{ on := 2, ground := Ground.data }, { on := 5, ground := Ground.data }, { on := 4, ground := Ground.chain }], guard := none }) rfl (fun K hK => ?_) AllReadyH.nil
        rw [if_pos (by rfl)]
        refine wp_ra (W0 := W0) (.tmp 13) (.tmp 16) rfl (some N14) (fun g e => by cases e; exact fX16.lt) l sl xs rfl A16.out N16 x d' rfl C16.out B16.out hl' ?_
        intro a1 c1 xs17 wy17 m17 g17
        have A17 := Lib.hid m17
        have b17 : Below W0.heap.size W0 wy17 := b16.grown g17 b16.size (fun k hk => (A16.out.m.own_lt k hk).1)
        have fX17 : Bk wy17 N14 #[.slice none 0 0, .int .i64 0] 24 := (g17.block N14 fX16.lt (fun e => A16.out.x _ e.symm rfl)).trans fX16
        clear m17
        refine hK.out _ _ (KS.out _ b17) (fun hH17 => ?_)
        clear hK K
        (try simp only [Act.put, List.setIfInBounds_toArray, List.set_cons_zero, List.set_cons_succ])
        refine wpAnyH_take (i := 9) (oi := { dst := some 20, op := Op.build 24 #[(0, Operand.tmp 17), (1, Operand.tmp 19)], type := 24, pos := _, after := #[{ on := 6, ground := Ground.data }, { on := 8, ground := Ground.data }], guard := none }) (v := ?tP9) rfl (by kernel_rfl) (by kernel_rfl) (by kernel_rfl) (fun _ _ _ h => h) (Or.inl ⟨by rfl, ?uP9⟩) (by assumption) ?rP9
        case uP9 => (intro w hSw; (try dsimp only at hSw); go_simp; (try with_reducible rfl))
        simp only [Act.put, List.setIfInBounds_toArray, List.set_cons_zero, List.set_cons_succ]
        refine wpAnyH_ready (rs := [11]) (by kernel_rfl) (by simp) ?_
        refine AllReadyH.cons (o := { dst := none, op := Op.store 24 (Operand.tmp 10) (Operand.tmp 20), type := 0, pos := _, after := #[{ on := 10, ground := Ground.data }, { on := 9, ground := Ground.data }, { on := 6, ground := Ground.chain }, { on := 0, ground := Ground.phase }, { on := 1, ground := Ground.phase }, { on := 2, ground := Ground.phase }, { on := 3, ground := Ground.phase }, { on := 4, ground := Ground.phase }, { on := 5, ground := Ground.phase }, { on := 6, ground := Ground.phase }, { on := 7, ground := Ground.phase }, { on := 8, ground := Ground.phase }, { on := 9, ground := Ground.phase }, { on := 10, ground := Ground.phase }], guard := none }) rfl (fun K hK => ?_) AllReadyH.nil
        obtain ⟨z0, z1⟩ := fX17.c2
        have zf := fX17.f
        go_simp
        have b18 : Below W0.heap.size W0 ((wy17.setCell ⟨N14, 0, none⟩ (.slice a1 (l.length + 1) c1)).setCell ⟨N14, 1, none⟩ (.int .i64 since)) := (b17.setCell lX14 _).setCell lX14 _
        refine hK.out _ _ (KS.out _ b18) (fun hH18 => ?_)
        clear hK K
        (try simp only [Act.put, List.setIfInBounds_toArray, List.set_cons_zero, List.set_cons_succ])
        refine wpAnyH_done (by kernel_rfl) ?_ _
        go_wp2_with fail
        go_meet
        have hA := A17.out
        refine ⟨N14, a1, c1, rfl, B0.trans (b18.mono B0.size), S0.step b18, Z0.step b18, ?_, by omega, ?_⟩
        · have := ((fX17.set 0 (.slice a1 (l.length + 1) c1)).set 1 (.int .i64 since))
          rw [List.length_append]; exact this
        · obtain ⟨ad1, c2, e1, hz⟩ := hA.m.mz (F' := fun g => W0.heap.size ≤ g ∧ g < wy17.heap.size ∧ g ≠ N14) (fun g hg => ⟨hg.1, hg.2.1, fun e => hg.2.2.2 (by rw [e])⟩) (fun g hg => ⟨(hA.m.own_lt g hg).1, (hA.m.own_lt g hg).2, fun e => hA.x g hg (by rw [e])⟩)
          simp only [Value.slice.injEq] at e1
          obtain ⟨rfl, -, -⟩ := e1
          refine hz.to fun g hg => ⟨⟨by omega, by simpa using hg.2.1, hg.2.2⟩, ?_⟩
          rw [Below.heap_setCell _ _ _ g (by show g ≠ N14; omega), Below.heap_setCell _ _ _ g (by show g ≠ N14; omega)]
    · go_simp
      have e19 := below1 w1 (.cells #[.slice none 0 0, .int .i64 0] 24)
      have fX19 := Bk.new w1 #[.slice none 0 0, .int .i64 0] 24
      have lX19 : W0.heap.size ≤ w1.heap.size := b0.size
      have b19 := b0.trans (e19.mono b0.size)
      clear e19
      generalize hN19 : (w1).heap.size = N19 at *
      generalize hW19 : (w1).alloc (.cells #[.slice none 0 0, .int .i64 0] 24) = wv19 at *
      refine hK.out _ _ (KS.out _ b19) (fun hH19 => ?_)
      clear hK K
      (try simp only [Act.put, List.setIfInBounds_toArray, List.set_cons_zero, List.set_cons_succ])
      refine wpAnyH_ready (rs := [2]) (by kernel_rfl) (by simp) ?_
      refine AllReadyH.cons (o := { dst := some 13, op := Op.call { callee := Callee.value (Operand.func 9), args := #[Operand.tmp 12], argTypes := #[22] }, type := 22, pos := _, after := #[{ on := 1, ground := Ground.data }], guard := none }) rfl (fun K hK => ?_) AllReadyH.nil
      go_simp
      refine (HC.out _ b19).mono ?_
      rintro e wy20 ⟨sl, xs, rfl, m20, e20⟩
      have b20 := b19.trans (e20.mono b19.size)
      have fX20 := fX19.step e20
      have A20 := Lib.hid (Ra.of (W0 := W0) (X := (some N19)) m20 b19.size (fun g e => by cases e; exact fX19.lt))
      clear m20 e20
      go_wp2_with fail
      refine hK.out _ _ (KS.out _ b20) (fun hH20 => ?_)
      clear hK K
      (try simp only [Act.put, List.setIfInBounds_toArray, List.set_cons_zero, List.set_cons_succ])
      refine wpAnyH_ready (rs := [4]) (by kernel_rfl) (by simp) ?_
      refine AllReadyH.cons (o := { dst := some 15, op := Op.call { callee := Callee.value (Operand.func 11), args := #[Operand.tmp 14], argTypes := #[30] }, type := 30, pos := _, after := #[{ on := 3, ground := Ground.data }, { on := 2, ground := Ground.chain }], guard := none }) rfl (fun K hK => ?_) AllReadyH.nil
      go_simp
      refine (HM.out _ b20).mono ?_
      rintro e wy21 ⟨d', rfl, m21, e21⟩
      have B21 := Lib.hid (Rb.of m21 A20.out (fun g e => by cases e; exact fX20.lt))
      have b21 := b20.trans (e21.mono b20.size)
      have fX21 := fX20.step e21
      have A21 := Lib.hid (A20.out.below e21)
      clear m21 e21
      go_wp2_with fail
      refine hK.out _ _ (KS.out _ b21) (fun hH21 => ?_)
      clear hK K
      (try simp only [Act.put, List.setIfInBounds_toArray, List.set_cons_zero, List.set_cons_succ])
      refine wpAnyH_ready (rs := [5]) (by kernel_rfl) (by simp) ?_
      refine AllReadyH.cons (o := { dst := some 16, op := Op.buildSlice 22 1 #[(0, Operand.tmp 15)], type := 22, pos := _, after := #[{ on := 4, ground := Ground.data }], guard := none }) rfl (fun K hK => ?_) AllReadyH.nil
      go_simp
      have C22 := Lib.hid (Rc.of (x := x) (d := d') A21.out (fun g e => by cases e; exact fX21.lt))
      have e22 := below1 wy21 (.cells (x.cs d') 30)
      have b22 := b21.trans (e22.mono b21.size)
      have fX22 := fX21.step e22
      have A22 := Lib.hid (A21.out.below e22)
      have B22 := Lib.hid (B21.out.below e22)
      clear e22
      generalize hN22 : (wy21).heap.size = N22 at *
      generalize hW22 : (wy21).alloc (.cells (x.cs d') 30) = wv22 at *
      refine hK.out _ _ (KS.out _ b22) (fun hH22 => ?_)
      clear hK K
      (try simp only [Act.put, List.setIfInBounds_toArray, List.set_cons_zero, List.set_cons_succ])
      refine wpAnyH_ready (rs := [6]) (by kernel_rfl) (by simp) ?_
      refine AllReadyH.cons (o := { dst := some 17, op := Op.call { callee := Callee.builtin Builtin.append, args := #[Operand.tmp 13, Operand.tmp 16], argTypes := #[22, 22] }, type := 22, pos := _, after := #[{ on := 2, ground := Ground.data }, { on := 5, ground := Ground.data }, { on := 4, ground := Ground.chain }], guard := none }) rfl (fun K hK => ?_) AllReadyH.nil
      rw [if_pos (by rfl)]
      refine wp_ra (W0 := W0) (.tmp 13) (.tmp 16) rfl (some N19) (fun g e => by cases e; exact fX22.lt) l sl xs rfl A22.out N22 x d' rfl C22.out B22.out hl' ?_
      intro a1 c1 xs23 wy23 m23 g23
      have A23 := Lib.hid m23
      have b23 : Below W0.heap.size W0 wy23 := b22.grown g23 b22.size (fun k hk => (A22.out.m.own_lt k hk).1)
      have fX23 : Bk wy23 N19 #[.slice none 0 0, .int .i64 0] 24 := (g23.block N19 fX22.lt (fun e => A22.out.x _ e.symm rfl)).trans fX22
      clear m23
      refine hK.out _ _ (KS.out _ b23) (fun hH23 => ?_)
      clear hK K
      (try simp only [Act.put, List.setIfInBounds_toArray, List.set_cons_zero, List.set_cons_succ])
      refine wpAnyH_take (i := 9) (oi := { dst := some 20, op := Op.build 24 #[(0, Operand.tmp 17), (1, Operand.tmp 19)], type := 24, pos := _, after := #[{ on := 6, ground := Ground.data }, { on := 8, ground := Ground.data }], guard := none }) (v := ?tP10) rfl (by kernel_rfl) (by kernel_rfl) (by kernel_rfl) (fun _ _ _ h => h) (Or.inl ⟨by rfl, ?uP10⟩) (by assumption) ?rP10
      case uP10 => (intro w hSw; (try dsimp only at hSw); go_simp; (try with_reducible rfl))
      simp only [Act.put, List.setIfInBounds_toArray, List.set_cons_zero, List.set_cons_succ]
      refine wpAnyH_ready (rs := [11]) (by kernel_rfl) (by simp) ?_
      refine AllReadyH.cons (o := { dst := none, op := Op.store 24 (Operand.tmp 10) (Operand.tmp 20), type := 0, pos := _, after := #[{ on := 10, ground := Ground.data }, { on := 9, ground := Ground.data }, { on := 6, ground := Ground.chain }, { on := 0, ground := Ground.phase }, { on := 1, ground := Ground.phase }, { on := 2, ground := Ground.phase }, { on := 3, ground := Ground.phase }, { on := 4, ground := Ground.phase }, { on := 5, ground := Ground.phase }, { on := 6, ground := Ground.phase }, { on := 7, ground := Ground.phase }, { on := 8, ground := Ground.phase }, { on := 9, ground := Ground.phase }, { on := 10, ground := Ground.phase }], guard := none }) rfl (fun K hK => ?_) AllReadyH.nil
      obtain ⟨z0, z1⟩ := fX23.c2
      have zf := fX23.f
      go_simp
      have b24 : Below W0.heap.size W0 ((wy23.setCell ⟨N19, 0, none⟩ (.slice a1 (l.length + 1) c1)).setCell ⟨N19, 1, none⟩ (.int .i64 since)) := (b23.setCell lX19 _).setCell lX19 _
      refine hK.out _ _ (KS.out _ b24) (fun hH24 => ?_)
      clear hK K
      (try simp only [Act.put, List.setIfInBounds_toArray, List.set_cons_zero, List.set_cons_succ])
      refine wpAnyH_done (by kernel_rfl) ?_ _
      go_wp2_with fail
      go_meet
      have hA := A23.out
      refine ⟨N19, a1, c1, rfl, B0.trans (b24.mono B0.size), S0.step b24, Z0.step b24, ?_, by omega, ?_⟩
      · have := ((fX23.set 0 (.slice a1 (l.length + 1) c1)).set 1 (.int .i64 since))
        rw [List.length_append]; exact this
      · obtain ⟨ad1, c2, e1, hz⟩ := hA.m.mz (F' := fun g => W0.heap.size ≤ g ∧ g < wy23.heap.size ∧ g ≠ N19) (fun g hg => ⟨hg.1, hg.2.1, fun e => hg.2.2.2 (by rw [e])⟩) (fun g hg => ⟨(hA.m.own_lt g hg).1, (hA.m.own_lt g hg).2, fun e => hA.x g hg (by rw [e])⟩)
        simp only [Value.slice.injEq] at e1
        obtain ⟨rfl, -, -⟩ := e1
        refine hz.to fun g hg => ⟨⟨by omega, by simpa using hg.2.1, hg.2.2⟩, ?_⟩
        rw [Below.heap_setCell _ _ _ g (by show g ≠ N19; omega), Below.heap_setCell _ _ _ g (by show g ≠ N19; omega)]
  case rest =>
    obtain ⟨X, a1, c1, rfl, ph⟩ := hcut
    clear HC HM KS B0 S0 M0 Z0 hs0
    obtain ⟨s0, s1⟩ := ph.s.c2
    obtain ⟨v0, v1⟩ := ph.v.c2
    have hvf := ph.v.f
    have hrf := ph.r.f
    obtain ⟨r0, r1⟩ := ph.r.c2
    have hXl := ph.v.lt
    have hX3 := ph.x
    have hNX : ¬ X = w.heap.size := by omega
    have hNX2 : ¬ w.heap.size = X := by omega
    have hNX3 : ¬ w.heap.size + 1 + 1 = X := by omega
    have hNX4 : ¬ X = w.heap.size + 1 + 1 := by omega
    have e1 : (l ++ [x]).length = l.length + 1 := by simp
    rw [e1] at v0
    by_cases hl0 : l = []
    · have PH := Lib.hid (ph.set now)
      subst hl0
      clear ph s1
      have E2 := Lib.hid (end_setZ (w := w) (n0 := w.heap.size + 3) (w.heap.size + 1 + 1) (PH.out.m.to fun g hg => ⟨⟨hg.1, hg.2.1, by omega⟩, rfl⟩) (by omega))
      by_cases ha : (1 : Int) = a
      · subst ha
        go_wp2_with fail
        have v0' : (wc.setCell ⟨X, 1, none⟩ (.int .i64 now)).cell? ⟨X, 0, none⟩ = some (.slice a1 (1) c1) := by first | exact v0 | (rw [World.cell?_setCell_other _ _ _ _ (by simp)]; exact v0)
        go_region_held3 (fun wx => wx.cell? ⟨X, 0, none⟩ = some (.slice a1 (1) c1)) (first | exact v0' | (show World.cell? (World.setCell (World.setCell _ _ _) _ _) _ = _; rw [World.cell?_setCell_other _ _ _ _ (by simp only [ne_eq, Addr.mk.injEq]; omega), World.cell?_setCell_other _ _ _ _ (by simp only [ne_eq, Addr.mk.injEq]; omega)]; exact v0')) (fail)
        all_goals go_wp2_with fail
        all_goals refine bodyPost_ret (v := .tuple #[.agg #[.slice none 0 0, .int .i64 0], .slice a1 (1) c1]) (by simp [results, Tryd.results12, go_sem, World.cell?_setCell_same, World.cell?_setCell_other, r0, r1]) rfl ⟨fun _ => ⟨none, 0, a1, c1, by simp, .inl rfl, ?_, ?_⟩, fun h => absurd rfl h⟩
        all_goals first | exact Mz.to (E2.out (.slice none 0 0) (.int .i64 0) _ rfl) (fun g hg => ⟨hg, rfl⟩) | exact Below.drew (Below.setCell (Below.setCell PH.out.b (Nat.le_trans (Nat.le_succ _) (Nat.le_succ _)) _) (Nat.le_trans (Nat.le_succ _) (Nat.le_succ _)) _)
      · have ha' : ((1 : Int) == a) = false := by simpa using ha
        have HA := Lib.hid ha
        clear ha
        go_wp2_with fail
        refine bodyPost_ret (v := .tuple #[.agg #[.slice a1 (1) c1, .int .i64 now], .slice none 0 0]) (by simp [results, Tryd.results12, go_sem, World.cell?_setCell_same, World.cell?_setCell_other, r0, r1]) rfl ⟨fun h => absurd h HA.out, fun _ => ⟨fun _ => ⟨a1, c1, none, 0, by simp, ?_, .inl rfl, ?_⟩, fun h => absurd rfl h⟩⟩
        · exact E2.out _ _ _ rfl
        · exact Below.setCell (Below.setCell PH.out.b (Nat.le_trans (Nat.le_succ _) (Nat.le_succ _)) _) (Nat.le_trans (Nat.le_succ _) (Nat.le_succ _)) _
    · have PH := Lib.hid ph
      have hpos : ((l.length : Int) == 0) = false := by simpa using hl0
      have hpos' : (l.length == 0) = false := by simpa using hl0
      have HL0 := Lib.hid hl0
      clear ph hl0
      have E2 := Lib.hid (end_setZ (w := w) (n0 := w.heap.size + 3) (w.heap.size + 1 + 1) (PH.out.m.to fun g hg => ⟨⟨hg.1, hg.2.1, by omega⟩, rfl⟩) (by omega))
      by_cases ha : (l.length : Int) + 1 = a
      · subst ha
        go_wp2_with fail
        have v0' : wc.cell? ⟨X, 0, none⟩ = some (.slice a1 (l.length + 1) c1) := by first | exact v0 | (rw [World.cell?_setCell_other _ _ _ _ (by simp)]; exact v0)
        go_region_held3 (fun wx => wx.cell? ⟨X, 0, none⟩ = some (.slice a1 (l.length + 1) c1)) (first | exact v0' | (show World.cell? (World.setCell (World.setCell _ _ _) _ _) _ = _; rw [World.cell?_setCell_other _ _ _ _ (by simp only [ne_eq, Addr.mk.injEq]; omega), World.cell?_setCell_other _ _ _ _ (by simp only [ne_eq, Addr.mk.injEq]; omega)]; exact v0')) (fail)
        all_goals go_wp2_with fail
        all_goals refine bodyPost_ret (v := .tuple #[.agg #[.slice none 0 0, .int .i64 0], .slice a1 (l.length + 1) c1]) (by simp [results, Tryd.results12, go_sem, World.cell?_setCell_same, World.cell?_setCell_other, r0, r1]) rfl ⟨fun _ => ⟨none, 0, a1, c1, by simp, .inl rfl, ?_, ?_⟩, fun h => absurd rfl h⟩
        all_goals first | exact Mz.to (E2.out (.slice none 0 0) (.int .i64 0) _ rfl) (fun g hg => ⟨hg, rfl⟩) | exact Below.drew (Below.setCell (Below.setCell PH.out.b (Nat.le_trans (Nat.le_succ _) (Nat.le_succ _)) _) (Nat.le_trans (Nat.le_succ _) (Nat.le_succ _)) _)
      · have ha' : ((l.length : Int) + 1 == a) = false := by simpa using ha
        have HA := Lib.hid ha
        clear ha
        go_wp2_with fail
        refine bodyPost_ret (v := .tuple #[.agg #[.slice a1 (l.length + 1) c1, .int .i64 since], .slice none 0 0]) (by simp [results, Tryd.results12, go_sem, World.cell?_setCell_same, World.cell?_setCell_other, r0, r1]) rfl ⟨fun h => absurd h HA.out, fun _ => ⟨fun h => absurd h HL0.out, fun _ => ⟨a1, c1, none, 0, by simp, ?_, .inl rfl, ?_⟩⟩⟩
        · exact E2.out _ _ _ rfl
        · exact Below.setCell (Below.setCell PH.out.b (Nat.le_trans (Nat.le_succ _) (Nat.le_succ _)) _) (Nat.le_trans (Nat.le_succ _) (Nat.le_succ _)) _
end Go.Proofs.YtikkedemhcdboaaDoor
