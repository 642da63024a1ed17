/- A message put into an inbox: the program's Put; the conditions: the messages in memory, of a size that can be. -/
import Derived.Test.YtdgjhclncjoonaaQi
import Derived.Deep.Cut
import Derived.Deep.CutRange
namespace Go.Proofs.Ytdgjhclncjoonaa
open Go.RowKit

/-- Where Put stands when all is copied. -/
structure Pt (w : World) (l : List Ms) (r dr : Int) (x : Ms) (a1 : Option Addr) (c1 : Nat) (xs : List Value) (d : Bo) (wc : World) : Prop where
  b : Below w.heap.size w wc
  z : w.heap.size + 4 ≤ wc.heap.size
  q : Bk wc w.heap.size #[.slice a1 l.length c1, .int .i64 r, .int .i64 dr] 24
  m : Bk wc (w.heap.size + 1) #[.int .i64 x.id, .string x.tp, .int .i64 d.k, .int .i64 d.i, .int .u64 d.u, .string d.s, .slice d.a d.l d.c, .int .i64 x.ti, .int .i64 x.un, .string x.rp, .int .i64 x.co, .int .i64 x.pr, .int .i64 x.ho] 30
  rq : Bk wc (w.heap.size + 1 + 1) #[.slice none 0 0, .int .i64 0, .int .i64 0] 24
  rm : Bk wc (w.heap.size + 1 + 1 + 1) #[.int .i64 0, .string ⟨#[]⟩, .int .i64 0, .int .i64 0, .int .u64 0, .string ⟨#[]⟩, .slice none 0 0, .int .i64 0, .int .i64 0, .string ⟨#[]⟩, .int .i64 0, .int .i64 0, .int .i64 0] 30
  o : Mp (w.heap.size + 4) (fun g => w.heap.size + 4 ≤ g ∧ g < wc.heap.size ∧ some g ≠ (Value.slice a1 l.length c1).ownBlock) l (.slice a1 l.length c1) xs wc
  t : Rz (fun g => w.heap.size + 4 ≤ g ∧ g < wc.heap.size ∧ some g ≠ (Value.slice a1 l.length c1).ownBlock) wc x.n d.vs x.t

theorem Pt.of {w W U : World} {l : List Ms} {ad : Option Addr} {cap : Nat} {r dr : Int} {x : Ms} {d : Bo} (B0 : Below w.heap.size w W) (Q0 : Bk W w.heap.size #[.slice ad l.length cap, .int .i64 r, .int .i64 dr] 24) (M0 : Bk W (w.heap.size + 1) #[.int .i64 x.id, .string x.tp, .int .i64 d.k, .int .i64 d.i, .int .u64 d.u, .string d.s, .slice d.a d.l d.c, .int .i64 x.ti, .int .i64 x.un, .string x.rp, .int .i64 x.co, .int .i64 x.pr, .int .i64 x.ho] 30) (RQ0 : Bk W (w.heap.size + 1 + 1) #[.slice none 0 0, .int .i64 0, .int .i64 0] 24) (RM0 : Bk W (w.heap.size + 1 + 1 + 1) #[.int .i64 0, .string ⟨#[]⟩, .int .i64 0, .int .i64 0, .int .u64 0, .string ⟨#[]⟩, .slice none 0 0, .int .i64 0, .int .i64 0, .string ⟨#[]⟩, .int .i64 0, .int .i64 0, .int .i64 0] 30) (hWs' : W.heap.size = w.heap.size + 4) (hWs : U.heap.size = w.heap.size + 4)
    (v1 v2 : World) (a1 : Option Addr) (c1 : Nat) (xs : List Value) (d' : Bo) (hm : Hid (Mp U.heap.size (fun g => U.heap.size ≤ g ∧ g < v1.heap.size ∧ some g ≠ (Value.slice a1 l.length c1).ownBlock) l (.slice a1 l.length c1) xs v1)) (h1 : Below W.heap.size W v1) (h2 : Below W.heap.size W v2) (h12 : Below v1.heap.size v1 v2) (hz : Rz (fun g => v1.heap.size ≤ g ∧ g < v2.heap.size) v2 x.n d'.vs x.t) (W16 : World) (e16 : W16 = (((((((((((((((v2.setCell ⟨w.heap.size, 0, none⟩ (.slice a1 l.length c1)).setCell ⟨w.heap.size, 1, none⟩ (.int .i64 r)).setCell ⟨w.heap.size, 2, none⟩ (.int .i64 dr)).setCell ⟨w.heap.size + 1, 0, none⟩ (.int .i64 x.id)).setCell ⟨w.heap.size + 1, 1, none⟩ (.string x.tp)).setCell ⟨w.heap.size + 1, 2, none⟩ (.int .i64 d'.k)).setCell ⟨w.heap.size + 1, 3, none⟩ (.int .i64 d'.i)).setCell ⟨w.heap.size + 1, 4, none⟩ (.int .u64 d'.u)).setCell ⟨w.heap.size + 1, 5, none⟩ (.string d'.s)).setCell ⟨w.heap.size + 1, 6, none⟩ (.slice d'.a d'.l d'.c)).setCell ⟨w.heap.size + 1, 7, none⟩ (.int .i64 x.ti)).setCell ⟨w.heap.size + 1, 8, none⟩ (.int .i64 x.un)).setCell ⟨w.heap.size + 1, 9, none⟩ (.string x.rp)).setCell ⟨w.heap.size + 1, 10, none⟩ (.int .i64 x.co)).setCell ⟨w.heap.size + 1, 11, none⟩ (.int .i64 x.pr)).setCell ⟨w.heap.size + 1, 12, none⟩ (.int .i64 x.ho)) : Pt w l r dr x a1 c1 xs d' W16 := by
  have hs : U.heap.size = w.heap.size + 4 := hWs
  have s1 := h1.size
  have s2 := h12.size
  have hsz : W16.heap.size = v2.heap.size := by rw [e16]; simp
  have oth : ∀ g, w.heap.size + 2 ≤ g → W16.heap[g]? = v2.heap[g]? := fun g hg => by
    rw [e16, set13_heap _ _ _ (by omega), set3_heap _ _ _ (by omega)]
  have lo : ∀ g, w.heap.size + 4 ≤ g → g < v1.heap.size → W16.heap[g]? = v1.heap[g]? := fun g hg hg2 => (oth g (by omega)).trans (h12.block g hg2)
  refine ⟨?_, by omega, ?_, ?_, ?_, ?_, ?_, ?_⟩
  · rw [e16]
    exact below_set13 (below_set3 (B0.trans (h2.mono (by omega))) (by omega) _ _ _) (by omega) _ _ _ _ _ _ _ _ _ _ _ _ _
  · rw [e16]
    exact Bk.set13 (Bk.full3 (Q0.step h2) _ _ _) (by omega) _ _ _ _ _ _ _ _ _ _ _ _ _
  · rw [e16]
    have := Bk.set3 (M0.step h2) (M := w.heap.size) (by omega) (.slice a1 l.length c1) (.int .i64 r) (.int .i64 dr)
    exact Bk.full13 this _ _ _ _ _ _ _ _ _ _ _ _ _
  · exact ((oth _ (by omega)).trans (h2.block _ (by omega))).trans RQ0
  · exact ((oth _ (by omega)).trans (h2.block _ (by omega))).trans RM0
  · refine (Mp.mono hm.out (by omega)).to (by omega) (fun g hg => lo g (by have := (hm.out.own_lt g hg).1; omega) (hm.out.own_lt g hg).2) (fun g hg => ⟨⟨by omega, by have := hg.2.1; omega, hg.2.2⟩, lo g (by omega) hg.2.1⟩)
  · refine Rz.to (fun g hg => ⟨⟨by omega, by omega, fun e => by have := (hm.out.own_lt g e.symm).2; omega⟩, oth g (by omega)⟩) _ _ _ hz

set_option maxRecDepth 100000 in
set_option maxHeartbeats 4000000 in
theorem qput_any (l : List Ms) (ad : Option Addr) (cap : Nat) (r dr room drop : Int) (x : Ms) (d : Bo) (w : World) (hl : l.length ≤ 1500) (hI : Mw w ad l) (hp : Sm (l ++ [x])) (hx : Dt.Rep w x.n d.vs x.t) (hr : 0 ≤ r) (hr2 : r ≤ 4611686018427387904) (hd : 0 ≤ dr) (hd2 : dr ≤ 4611686018427387904) :
    Calls Try.prog 10 #[.agg #[.slice ad l.length cap, .int .i64 r, .int .i64 dr], .int .i64 room, .int .i64 drop, .agg (x.cs d)] w (PutP w l r dr room drop x) := by
  obtain ⟨W, hW⟩ : ∃ W, W = (((w.alloc (.cells #[.slice ad l.length cap, .int .i64 r, .int .i64 dr] 24)).alloc (.cells #[.int .i64 x.id, .string x.tp, .int .i64 d.k, .int .i64 d.i, .int .u64 d.u, .string d.s, .slice d.a d.l d.c, .int .i64 x.ti, .int .i64 x.un, .string x.rp, .int .i64 x.co, .int .i64 x.pr, .int .i64 x.ho] 30)).alloc (.cells #[.slice none 0 0, .int .i64 0, .int .i64 0] 24)).alloc (.cells #[.int .i64 0, .string ⟨#[]⟩, .int .i64 0, .int .i64 0, .int .u64 0, .string ⟨#[]⟩, .slice none 0 0, .int .i64 0, .int .i64 0, .string ⟨#[]⟩, .int .i64 0, .int .i64 0, .int .i64 0] 30) := ⟨_, rfl⟩
  have B0 : Below w.heap.size w W := by rw [hW]; exact ((below2 w _ _).alloc (by simp; omega) _).alloc (by simp; omega) _
  have Q0 : Bk W w.heap.size #[.slice ad l.length cap, .int .i64 r, .int .i64 dr] 24 := by rw [hW]; exact (((Bk.new w _ _).alloc _).alloc _).alloc _
  have M0 : Bk W (w.heap.size + 1) #[.int .i64 x.id, .string x.tp, .int .i64 d.k, .int .i64 d.i, .int .u64 d.u, .string d.s, .slice d.a d.l d.c, .int .i64 x.ti, .int .i64 x.un, .string x.rp, .int .i64 x.co, .int .i64 x.pr, .int .i64 x.ho] 30 := by rw [hW]; exact ((Bk.new2 w _ _ _).alloc _).alloc _
  have RQ0 : Bk W (w.heap.size + 1 + 1) #[.slice none 0 0, .int .i64 0, .int .i64 0] 24 := by
    rw [hW]
    have := (Bk.new2 (w.alloc (.cells #[.slice ad l.length cap, .int .i64 r, .int .i64 dr] 24)) (.cells #[.int .i64 x.id, .string x.tp, .int .i64 d.k, .int .i64 d.i, .int .u64 d.u, .string d.s, .slice d.a d.l d.c, .int .i64 x.ti, .int .i64 x.un, .string x.rp, .int .i64 x.co, .int .i64 x.pr, .int .i64 x.ho] 30) #[.slice none 0 0, .int .i64 0, .int .i64 0] 24).alloc (.cells #[.int .i64 0, .string ⟨#[]⟩, .int .i64 0, .int .i64 0, .int .u64 0, .string ⟨#[]⟩, .slice none 0 0, .int .i64 0, .int .i64 0, .string ⟨#[]⟩, .int .i64 0, .int .i64 0, .int .i64 0] 30)
    simpa only [World.size_alloc] using this
  have RM0 : Bk W (w.heap.size + 1 + 1 + 1) #[.int .i64 0, .string ⟨#[]⟩, .int .i64 0, .int .i64 0, .int .u64 0, .string ⟨#[]⟩, .slice none 0 0, .int .i64 0, .int .i64 0, .string ⟨#[]⟩, .int .i64 0, .int .i64 0, .int .i64 0] 30 := by
    rw [hW]
    have := Bk.new2 ((w.alloc (.cells #[.slice ad l.length cap, .int .i64 r, .int .i64 dr] 24)).alloc (.cells #[.int .i64 x.id, .string x.tp, .int .i64 d.k, .int .i64 d.i, .int .u64 d.u, .string d.s, .slice d.a d.l d.c, .int .i64 x.ti, .int .i64 x.un, .string x.rp, .int .i64 x.co, .int .i64 x.pr, .int .i64 x.ho] 30)) (.cells #[.slice none 0 0, .int .i64 0, .int .i64 0] 24) #[.int .i64 0, .string ⟨#[]⟩, .int .i64 0, .int .i64 0, .int .u64 0, .string ⟨#[]⟩, .slice none 0 0, .int .i64 0, .int .i64 0, .string ⟨#[]⟩, .int .i64 0, .int .i64 0, .int .i64 0] 30
    simpa only [World.size_alloc] using this
  have hWs : W.heap.size = w.heap.size + 4 := by rw [hW]; show _ = _; simp
  have HC : Hid (∀ wx, Below W.heap.size W wx → Calls Try.prog 23 #[.agg #[.slice ad l.length cap, .int .i64 r, .int .i64 dr]] wx (CqP wx l r dr)) := fun wx hb => qcopied_any l ad cap r dr wx (by omega) (Mw.below hI (B0.trans (hb.mono B0.size))) (fun y hy => hp y (by simp [hy]))
  have HM : Hid (∀ wx, Below W.heap.size W wx → Calls Try.prog 24 #[.agg (x.cs d)] wx fun e w' => ∃ d' : Bo, e = .returned (.agg (x.cs d')) ∧ Rz (fun g => wx.heap.size ≤ g ∧ g < w'.heap.size) w' x.n d'.vs x.t ∧ Below wx.heap.size wx w') := fun wx hb => qmsg_any x d wx (Dt.Rep.below (B0.trans (hb.mono B0.size)) _ _ _ hx) (hp x (by simp))
  have HP := Lib.hid hp
  clear hI hp hx
  go_enter Try.func10, Try.ntmps10
  go_wp2_with fail
  rw [← hW]
  clear hW
  go_cut [12] from 13 to 16 (fun s12 wc => s12 = undef ∧ ∃ a1 c1 xs d', Pt w l r dr x a1 c1 xs d' wc)
  case first =>
    have b0 : Below W.heap.size W W.drew := (Below.refl _ _).drew
    refine wp_region_held_drew (S := fun _ => True) (by kernel_rfl) trivial (fun hHeld => ?_)
    have hU : W.drew.heap.size = w.heap.size + 4 := hWs
    generalize hw1 : W.drew = w1 at *
    refine wpAnyH_ready (rs := [0, 2]) (by kernel_rfl) (by simp) ?_
    refine AllReadyH.cons (o := { dst := some 13, op := Op.load 24 (Operand.tmp 4), type := 24, pos := _, after := #[], guard := none }) rfl (fun K hK => ?_) (AllReadyH.cons (o := { dst := some 15, op := Op.load 30 (Operand.tmp 7), type := 30, pos := _, after := #[], guard := none }) rfl (fun K hK => ?_) AllReadyH.nil)
    · obtain ⟨q0, q1, q2⟩ := (Q0.step b0).c3
      go_simp
      refine hK.out _ _ trivial (fun hH1 => ?_)
      clear q0 q1 q2
      clear hK K
      (try simp only [Act.put, List.setIfInBounds_toArray, List.set_cons_zero, List.set_cons_succ])
      refine wpAnyH_ready (rs := [1, 2]) (by kernel_rfl) (by simp) ?_
      refine AllReadyH.cons (o := { dst := some 14, op := Op.call { callee := Callee.value (Operand.func 23), args := #[Operand.tmp 13], argTypes := #[24] }, type := 24, pos := _, after := #[{ on := 0, ground := Ground.data }], guard := none }) rfl (fun K hK => ?_) (AllReadyH.cons (o := { dst := some 15, op := Op.load 30 (Operand.tmp 7), type := 30, pos := _, after := #[], guard := none }) rfl (fun K hK => ?_) AllReadyH.nil)
      · go_simp
        refine (HC.out _ b0).mono ?_
        rintro e w2 ⟨sl, xs, rfl, m2, e2⟩
        obtain ⟨a1, c1, rfl, -⟩ := m2.mz (F' := fun _ => True) (fun _ _ => trivial) (fun _ _ => trivial)
        have b2 := b0.trans (e2.mono b0.size)
        have A2 := Lib.hid m2
        have f2 := b0.size
        clear m2 e2
        refine hK.out _ _ trivial (fun hH2 => ?_)
        clear hK K
        (try simp only [Act.put, List.setIfInBounds_toArray, List.set_cons_zero, List.set_cons_succ])
        refine wpAnyH_ready (rs := [2]) (by kernel_rfl) (by simp) ?_
        refine AllReadyH.cons (o := { dst := some 15, op := Op.load 30 (Operand.tmp 7), type := 30, pos := _, after := #[], guard := none }) rfl (fun K hK => ?_) AllReadyH.nil
        obtain ⟨y0, y1, y2, y3, y4, y5, y6, y7, y8, y9, y10, y11, y12⟩ := (M0.step b2).c13
        go_simp
        refine hK.out _ _ trivial (fun hH3 => ?_)
        clear y0 y1 y2 y3 y4 y5 y6 y7 y8 y9 y10 y11 y12
        clear hK K
        (try simp only [Act.put, List.setIfInBounds_toArray, List.set_cons_zero, List.set_cons_succ])
        refine wpAnyH_ready (rs := [3]) (by kernel_rfl) (by simp) ?_
        refine AllReadyH.cons (o := { dst := some 16, op := Op.call { callee := Callee.value (Operand.func 24), args := #[Operand.tmp 15], argTypes := #[30] }, type := 30, pos := _, after := #[{ on := 2, ground := Ground.data }, { on := 1, ground := Ground.chain }], guard := none }) rfl (fun K hK => ?_) AllReadyH.nil
        go_simp
        refine (HM.out _ b2).mono ?_
        rintro e w4 ⟨d', rfl, m4, e4⟩
        have b4 := b2.trans (e4.mono b2.size)
        have PT := Lib.hid (Pt.of B0 Q0 M0 RQ0 RM0 hWs hU _ w4 _ _ _ d' A2 b2 b4 e4 m4)
        obtain ⟨q0, q1, q2⟩ := (Q0.step b4).c3
        obtain ⟨y0, y1, y2, y3, y4, y5, y6, y7, y8, y9, y10, y11, y12⟩ := (M0.step b4).c13
        have qf := (Q0.step b4).f
        have yf := (M0.step b4).f
        clear m4 e4
        refine hK.out _ _ trivial (fun hH4 => ?_)
        clear hK K
        (try simp only [Act.put, List.setIfInBounds_toArray, List.set_cons_zero, List.set_cons_succ])
        refine wpAnyH_ready (rs := [4]) (by kernel_rfl) (by simp) ?_
        refine AllReadyH.cons (o := { dst := none, op := Op.store 24 (Operand.tmp 4) (Operand.tmp 14), type := 0, pos := _, after := #[{ on := 1, ground := Ground.data }, { on := 3, ground := Ground.chain }, { on := 0, ground := Ground.phase }, { on := 1, ground := Ground.phase }, { on := 2, ground := Ground.textOnly Departure.lateStores }, { on := 3, ground := Ground.textOnly Departure.lateStoresUnsure }], guard := none }) rfl (fun K hK => ?_) AllReadyH.nil
        go_simp
        refine hK.out _ _ trivial (fun hH5 => ?_)
        clear hK K
        (try simp only [Act.put, List.setIfInBounds_toArray, List.set_cons_zero, List.set_cons_succ])
        refine wpAnyH_ready (rs := [5]) (by kernel_rfl) (by simp) ?_
        refine AllReadyH.cons (o := { dst := none, op := Op.store 30 (Operand.tmp 7) (Operand.tmp 16), type := 0, pos := _, after := #[{ on := 3, ground := Ground.data }, { on := 4, ground := Ground.chain }, { on := 0, ground := Ground.phase }, { on := 1, ground := Ground.phase }, { on := 2, ground := Ground.phase }, { on := 3, ground := Ground.phase }, { on := 4, ground := Ground.phase }], guard := none }) rfl (fun K hK => ?_) AllReadyH.nil
        go_simp
        refine hK.out _ _ trivial (fun hH6 => ?_)
        clear hK K
        (try simp only [Act.put, List.setIfInBounds_toArray, List.set_cons_zero, List.set_cons_succ])
        refine wpAnyH_done (by kernel_rfl) ?_ _
        go_wp2_with fail
        go_meet
        exact ⟨rfl, _, _, _, d', PT.out _ rfl⟩
      · obtain ⟨y0, y1, y2, y3, y4, y5, y6, y7, y8, y9, y10, y11, y12⟩ := (M0.step b0).c13
        go_simp
        refine hK.out _ _ trivial (fun hH7 => ?_)
        clear y0 y1 y2 y3 y4 y5 y6 y7 y8 y9 y10 y11 y12
        clear hK K
        (try simp only [Act.put, List.setIfInBounds_toArray, List.set_cons_zero, List.set_cons_succ])
        refine wpAnyH_ready (rs := [1]) (by kernel_rfl) (by simp) ?_
        refine AllReadyH.cons (o := { dst := some 14, op := Op.call { callee := Callee.value (Operand.func 23), args := #[Operand.tmp 13], argTypes := #[24] }, type := 24, pos := _, after := #[{ on := 0, ground := Ground.data }], guard := none }) rfl (fun K hK => ?_) AllReadyH.nil
        go_simp
        refine (HC.out _ b0).mono ?_
        rintro e w8 ⟨sl, xs, rfl, m8, e8⟩
        obtain ⟨a1, c1, rfl, -⟩ := m8.mz (F' := fun _ => True) (fun _ _ => trivial) (fun _ _ => trivial)
        have b8 := b0.trans (e8.mono b0.size)
        have A8 := Lib.hid m8
        have f8 := b0.size
        clear m8 e8
        refine hK.out _ _ trivial (fun hH8 => ?_)
        clear hK K
        (try simp only [Act.put, List.setIfInBounds_toArray, List.set_cons_zero, List.set_cons_succ])
        refine wpAnyH_ready (rs := [3]) (by kernel_rfl) (by simp) ?_
        refine AllReadyH.cons (o := { dst := some 16, op := Op.call { callee := Callee.value (Operand.func 24), args := #[Operand.tmp 15], argTypes := #[30] }, type := 30, pos := _, after := #[{ on := 2, ground := Ground.data }, { on := 1, ground := Ground.chain }], guard := none }) rfl (fun K hK => ?_) AllReadyH.nil
        go_simp
        refine (HM.out _ b8).mono ?_
        rintro e w9 ⟨d', rfl, m9, e9⟩
        have b9 := b8.trans (e9.mono b8.size)
        have PT := Lib.hid (Pt.of B0 Q0 M0 RQ0 RM0 hWs hU _ w9 _ _ _ d' A8 b8 b9 e9 m9)
        obtain ⟨q0, q1, q2⟩ := (Q0.step b9).c3
        obtain ⟨y0, y1, y2, y3, y4, y5, y6, y7, y8, y9, y10, y11, y12⟩ := (M0.step b9).c13
        have qf := (Q0.step b9).f
        have yf := (M0.step b9).f
        clear m9 e9
        refine hK.out _ _ trivial (fun hH9 => ?_)
        clear hK K
        (try simp only [Act.put, List.setIfInBounds_toArray, List.set_cons_zero, List.set_cons_succ])
        refine wpAnyH_ready (rs := [4]) (by kernel_rfl) (by simp) ?_
        refine AllReadyH.cons (o := { dst := none, op := Op.store 24 (Operand.tmp 4) (Operand.tmp 14), type := 0, pos := _, after := #[{ on := 1, ground := Ground.data }, { on := 3, ground := Ground.chain }, { on := 0, ground := Ground.phase }, { on := 1, ground := Ground.phase }, { on := 2, ground := Ground.textOnly Departure.lateStores }, { on := 3, ground := Ground.textOnly Departure.lateStoresUnsure }], guard := none }) rfl (fun K hK => ?_) AllReadyH.nil
        go_simp
        refine hK.out _ _ trivial (fun hH10 => ?_)
        clear hK K
        (try simp only [Act.put, List.setIfInBounds_toArray, List.set_cons_zero, List.set_cons_succ])
        refine wpAnyH_ready (rs := [5]) (by kernel_rfl) (by simp) ?_
        refine AllReadyH.cons (o := { dst := none, op := Op.store 30 (Operand.tmp 7) (Operand.tmp 16), type := 0, pos := _, after := #[{ on := 3, ground := Ground.data }, { on := 4, ground := Ground.chain }, { on := 0, ground := Ground.phase }, { on := 1, ground := Ground.phase }, { on := 2, ground := Ground.phase }, { on := 3, ground := Ground.phase }, { on := 4, ground := Ground.phase }], guard := none }) rfl (fun K hK => ?_) AllReadyH.nil
        go_simp
        refine hK.out _ _ trivial (fun hH11 => ?_)
        clear hK K
        (try simp only [Act.put, List.setIfInBounds_toArray, List.set_cons_zero, List.set_cons_succ])
        refine wpAnyH_done (by kernel_rfl) ?_ _
        go_wp2_with fail
        go_meet
        exact ⟨rfl, _, _, _, d', PT.out _ rfl⟩
    · obtain ⟨y0, y1, y2, y3, y4, y5, y6, y7, y8, y9, y10, y11, y12⟩ := (M0.step b0).c13
      go_simp
      refine hK.out _ _ trivial (fun hH12 => ?_)
      clear y0 y1 y2 y3 y4 y5 y6 y7 y8 y9 y10 y11 y12
      clear hK K
      (try simp only [Act.put, List.setIfInBounds_toArray, List.set_cons_zero, List.set_cons_succ])
      refine wpAnyH_ready (rs := [0]) (by kernel_rfl) (by simp) ?_
      refine AllReadyH.cons (o := { dst := some 13, op := Op.load 24 (Operand.tmp 4), type := 24, pos := _, after := #[], guard := none }) rfl (fun K hK => ?_) AllReadyH.nil
      obtain ⟨q0, q1, q2⟩ := (Q0.step b0).c3
      go_simp
      refine hK.out _ _ trivial (fun hH13 => ?_)
      clear q0 q1 q2
      clear hK K
      (try simp only [Act.put, List.setIfInBounds_toArray, List.set_cons_zero, List.set_cons_succ])
      refine wpAnyH_ready (rs := [1]) (by kernel_rfl) (by simp) ?_
      refine AllReadyH.cons (o := { dst := some 14, op := Op.call { callee := Callee.value (Operand.func 23), args := #[Operand.tmp 13], argTypes := #[24] }, type := 24, pos := _, after := #[{ on := 0, ground := Ground.data }], guard := none }) rfl (fun K hK => ?_) AllReadyH.nil
      go_simp
      refine (HC.out _ b0).mono ?_
      rintro e w14 ⟨sl, xs, rfl, m14, e14⟩
      obtain ⟨a1, c1, rfl, -⟩ := m14.mz (F' := fun _ => True) (fun _ _ => trivial) (fun _ _ => trivial)
      have b14 := b0.trans (e14.mono b0.size)
      have A14 := Lib.hid m14
      have f14 := b0.size
      clear m14 e14
      refine hK.out _ _ trivial (fun hH14 => ?_)
      clear hK K
      (try simp only [Act.put, List.setIfInBounds_toArray, List.set_cons_zero, List.set_cons_succ])
      refine wpAnyH_ready (rs := [3]) (by kernel_rfl) (by simp) ?_
      refine AllReadyH.cons (o := { dst := some 16, op := Op.call { callee := Callee.value (Operand.func 24), args := #[Operand.tmp 15], argTypes := #[30] }, type := 30, pos := _, after := #[{ on := 2, ground := Ground.data }, { on := 1, ground := Ground.chain }], guard := none }) rfl (fun K hK => ?_) AllReadyH.nil
      go_simp
      refine (HM.out _ b14).mono ?_
      rintro e w15 ⟨d', rfl, m15, e15⟩
      have b15 := b14.trans (e15.mono b14.size)
      have PT := Lib.hid (Pt.of B0 Q0 M0 RQ0 RM0 hWs hU _ w15 _ _ _ d' A14 b14 b15 e15 m15)
      obtain ⟨q0, q1, q2⟩ := (Q0.step b15).c3
      obtain ⟨y0, y1, y2, y3, y4, y5, y6, y7, y8, y9, y10, y11, y12⟩ := (M0.step b15).c13
      have qf := (Q0.step b15).f
      have yf := (M0.step b15).f
      clear m15 e15
      refine hK.out _ _ trivial (fun hH15 => ?_)
      clear hK K
      (try simp only [Act.put, List.setIfInBounds_toArray, List.set_cons_zero, List.set_cons_succ])
      refine wpAnyH_ready (rs := [4]) (by kernel_rfl) (by simp) ?_
      refine AllReadyH.cons (o := { dst := none, op := Op.store 24 (Operand.tmp 4) (Operand.tmp 14), type := 0, pos := _, after := #[{ on := 1, ground := Ground.data }, { on := 3, ground := Ground.chain }, { on := 0, ground := Ground.phase }, { on := 1, ground := Ground.phase }, { on := 2, ground := Ground.textOnly Departure.lateStores }, { on := 3, ground := Ground.textOnly Departure.lateStoresUnsure }], guard := none }) rfl (fun K hK => ?_) AllReadyH.nil
      go_simp
      refine hK.out _ _ trivial (fun hH16 => ?_)
      clear hK K
      (try simp only [Act.put, List.setIfInBounds_toArray, List.set_cons_zero, List.set_cons_succ])
      refine wpAnyH_ready (rs := [5]) (by kernel_rfl) (by simp) ?_
      refine AllReadyH.cons (o := { dst := none, op := Op.store 30 (Operand.tmp 7) (Operand.tmp 16), type := 0, pos := _, after := #[{ on := 3, ground := Ground.data }, { on := 4, ground := Ground.chain }, { on := 0, ground := Ground.phase }, { on := 1, ground := Ground.phase }, { on := 2, ground := Ground.phase }, { on := 3, ground := Ground.phase }, { on := 4, ground := Ground.phase }], guard := none }) rfl (fun K hK => ?_) AllReadyH.nil
      go_simp
      refine hK.out _ _ trivial (fun hH17 => ?_)
      clear hK K
      (try simp only [Act.put, List.setIfInBounds_toArray, List.set_cons_zero, List.set_cons_succ])
      refine wpAnyH_done (by kernel_rfl) ?_ _
      go_wp2_with fail
      go_meet
      exact ⟨rfl, _, _, _, d', PT.out _ rfl⟩
  case rest =>
    obtain ⟨-, a1, c1, xs, d', P⟩ := hcut
    have hz := P.z
    obtain ⟨q0, q1, q2⟩ := P.q.c3
    have qf := P.q.f
    obtain ⟨y0, y1, y2, y3, y4, y5, y6, y7, y8, y9, y10, y11, y12⟩ := P.m.c13
    obtain ⟨p0, p1, p2⟩ := P.rq.c3
    have pf := P.rq.f
    obtain ⟨g0, g1, g2, g3, g4, g5, g6, g7, g8, g9, g10, g11, g12⟩ := P.rm.c13
    have gf := P.rm.f
    have PH := Lib.hid P
    clear P B0 Q0 M0 RQ0 RM0 HC HM hWs
    by_cases h1 : (l.length : Int) < room
    · have hE : PutP w l r dr room drop x = fun e w' => PutP w l r dr room drop x e w' := rfl
      have TOP : Hid (∀ e w', PuP w (l ++ [x]) r dr mZ false 0 e w' → PutP w l r dr room drop x e w') := fun e w' h => ⟨fun _ => h, fun hn => absurd h1 hn⟩
      have ba := below1 wc (.cells (x.cs d') 30)
      have S1 : Hid (Mp (w.heap.size + 4) (fun g => w.heap.size + 4 ≤ g ∧ g < wc.heap.size + 1 ∧ some g ≠ (Value.slice a1 l.length c1).ownBlock) l (.slice a1 l.length c1) xs (wc.alloc (.cells (x.cs d') 30)) ∧ Mz (fun g => w.heap.size + 4 ≤ g ∧ g < wc.heap.size + 1 ∧ some g ≠ (Value.slice a1 l.length c1).ownBlock) (wc.alloc (.cells (x.cs d') 30)) (some ⟨wc.heap.size, 0, none⟩) [x]) := by
        have P := PH.out
        refine ⟨(P.o.below ba (fun g hg => hg.2.1)).to (Nat.le_refl _) (fun _ _ => rfl) (fun g hg => ⟨⟨hg.1, by have := hg.2.1; omega, hg.2.2⟩, rfl⟩), mz_one (Bk.new wc _ _) ⟨by omega, by omega, fun e => by have := (P.o.own_lt _ e.symm).2; omega⟩ (Rz.to (fun g hg => ⟨⟨hg.1, by have := hg.2.1; omega, hg.2.2⟩, ba.block g hg.2.1⟩) _ _ _ P.t)⟩
      have AP : Hid (∀ w3, (wc.alloc (.cells (x.cs d') 30)).grownBy w3 (Value.slice a1 l.length c1).ownBlock → Bk w3 w.heap.size #[.slice a1 l.length c1, .int .i64 r, .int .i64 dr] 24 ∧ Bk w3 (w.heap.size + 1 + 1) #[.slice none 0 0, .int .i64 0, .int .i64 0] 24 ∧ Bk w3 (w.heap.size + 1 + 1 + 1) #[.int .i64 0, .string ⟨#[]⟩, .int .i64 0, .int .i64 0, .int .u64 0, .string ⟨#[]⟩, .slice none 0 0, .int .i64 0, .int .i64 0, .string ⟨#[]⟩, .int .i64 0, .int .i64 0, .int .i64 0] 30 ∧ Below w.heap.size w w3) := fun w3 g3 => by
        have P := PH.out
        have hh : ∀ g, g < w.heap.size + 4 → w3.heap[g]? = wc.heap[g]? := fun g hg => (g3.block g (by simp; omega) (fun e => by have := (P.o.own_lt g e.symm).1; omega)).trans (ba.block g (by omega))
        refine ⟨(hh _ (by omega)).trans P.q, (hh _ (by omega)).trans P.rq, (hh _ (by omega)).trans P.rm, ?_⟩
        exact (P.b.trans (ba.mono (by omega))).grown g3 (by simp; omega) (fun k hk => by have := (P.o.own_lt k hk).1; omega)
      clear ba hE
      go_wp2_with (at_builtin; refine wpList_mapp rfl _ _ rfl (w.heap.size + 4) (fun g => w.heap.size + 4 ≤ g ∧ g < wc.heap.size + 1 ∧ some g ≠ (Value.slice a1 l.length c1).ownBlock) l (.slice a1 l.length c1) xs rfl S1.out.1 (some ⟨wc.heap.size, 0, none⟩) 1 [x] rfl S1.out.2 (fun e => by cases e) (by simp; omega) (fun g hg => ⟨by simpa using hg.2.1, hg.2.2⟩) ?_; intro sl' xs' w3 m3 gr3 a3; obtain ⟨a4, c4, rfl, mz4⟩ := m3.mz (F' := fun g => w.heap.size + 4 ≤ g ∧ g < w3.heap.size) (fun g hg => ⟨hg.1, Nat.lt_of_lt_of_le (by simpa using hg.2.1) gr3.size⟩) (fun g hg => m3.own_lt g hg); obtain ⟨hq3, hrq3, hrm3, bw3⟩ := AP.out w3 gr3; clear q0 q1 q2 qf y0 y1 y2 y3 y4 y5 y6 y7 y8 y9 y10 y11 y12 p0 p1 p2 pf g0 g1 g2 g3 g4 g5 g6 g7 g8 g9 g10 g11 g12 gf; obtain ⟨q0, q1, q2⟩ := hq3.c3; have qf := hq3.f; obtain ⟨p0, p1, p2⟩ := hrq3.c3; have pf := hrq3.f; obtain ⟨g0, g1, g2, g3, g4, g5, g6, g7, g8, g9, g10, g11, g12⟩ := hrm3.c13; have gf := hrm3.f; have M4 := Lib.hid mz4; have BW3 := Lib.hid bw3; clear hq3 hrq3 hrm3 bw3 mz4 m3 gr3 a3 S1 AP PH)
      exact bodyPost_ret (v := .tuple #[.agg #[.slice a4 (l.length + 1) c4, .int .i64 r, .int .i64 dr], .agg (mZ.cs zD), .bool false, .int .i64 0]) (by simp [results, Try.results10, go_sem, World.cell?_setCell_same, World.cell?_setCell_other, p0, p1, p2, g0, g1, g2, g3, g4, g5, g6, g7, g8, g9, g10, g11, g12, mZ, zD]) rfl (TOP.out _ _ (PuP.of (by simp) (Nat.le_add_right _ _) M4.out (mZ_rz _ _) (below_set13 (below_set3 (Below.setCell BW3.out (by simp) _) (by omega) _ _ _) (by omega) _ _ _ _ _ _ _ _ _ _ _ _ _) (by simp) (fun g hg => by rw [set13_heap _ _ _ (by omega), set3_heap _ _ _ (by omega), Below.heap_setCell _ _ _ _ (by show g ≠ w.heap.size; omega)])))
    · by_cases h0 : drop = 0
      · subst h0
        have TOP : Hid (∀ e w', PuP w l r (dr + 1) x true 0 e w' → PutP w l r dr room 0 x e w') := fun e w' h => ⟨fun hn => absurd hn h1, fun _ => ⟨fun _ => h, fun h => by simp at h, fun h => absurd rfl h⟩⟩
        obtain ⟨X, hX⟩ : ∃ X, X = wc.setCell ⟨w.heap.size, 2, none⟩ (.int .i64 (dr + 1)) := ⟨_, rfl⟩
        have Q5 : Bk X.drew w.heap.size #[.slice a1 l.length c1, .int .i64 r, .int .i64 (dr + 1)] 24 := by rw [hX]; exact PH.out.q.set 2 _
        have M5 : Bk X.drew (w.heap.size + 1) #[.int .i64 x.id, .string x.tp, .int .i64 d'.k, .int .i64 d'.i, .int .u64 d'.u, .string d'.s, .slice d'.a d'.l d'.c, .int .i64 x.ti, .int .i64 x.un, .string x.rp, .int .i64 x.co, .int .i64 x.pr, .int .i64 x.ho] 30 := by rw [hX]; exact PH.out.m.other _ _ (by show w.heap.size + 1 ≠ w.heap.size; omega)
        have RQ5 : Bk X.drew (w.heap.size + 1 + 1) #[.slice none 0 0, .int .i64 0, .int .i64 0] 24 := by rw [hX]; exact PH.out.rq.other _ _ (by show w.heap.size + 1 + 1 ≠ w.heap.size; omega)
        have RM5 : Bk X.drew (w.heap.size + 1 + 1 + 1) #[.int .i64 0, .string ⟨#[]⟩, .int .i64 0, .int .i64 0, .int .u64 0, .string ⟨#[]⟩, .slice none 0 0, .int .i64 0, .int .i64 0, .string ⟨#[]⟩, .int .i64 0, .int .i64 0, .int .i64 0] 30 := by rw [hX]; exact PH.out.rm.other _ _ (by show w.heap.size + 1 + 1 + 1 ≠ w.heap.size; omega)
        have hXh : ∀ g, w.heap.size + 4 ≤ g → X.drew.heap[g]? = wc.heap[g]? := fun g hg => by rw [hX]; exact Below.heap_setCell _ _ _ _ (by show g ≠ w.heap.size; omega)
        have hXs : X.drew.heap.size = wc.heap.size := by rw [hX]; show (wc.setCell _ _).heap.size = _; simp
        have M4 : Hid (Mz (fun g => w.heap.size + 4 ≤ g ∧ g < X.drew.heap.size) X.drew a1 l) := by
          have P := PH.out
          obtain ⟨a4, c4, e4, mz4⟩ := P.o.mz (F' := fun g => w.heap.size + 4 ≤ g ∧ g < wc.heap.size) (fun g hg => ⟨hg.1, hg.2.1⟩) (fun g hg => P.o.own_lt g hg)
          simp only [Value.slice.injEq] at e4
          obtain ⟨rfl, -, rfl⟩ := e4
          exact Mz.to mz4 fun g hg => ⟨⟨hg.1, by omega⟩, hXh g hg.1⟩
        have R4 : Hid (Rz (fun g => w.heap.size + 4 ≤ g ∧ g < X.drew.heap.size) X.drew x.n d'.vs x.t) := Rz.to (fun g hg => ⟨⟨hg.1, by have := hg.2.1; omega⟩, hXh g hg.1⟩) _ _ _ PH.out.t
        have BW5 : Hid (Below w.heap.size w X.drew) := by rw [hX]; exact (PH.out.b.setCell (by simp) _).drew
        have HX := Lib.hid hX
        clear PH hXh hXs hX
        go_wp2_with fail
        rw [← HX.out]
        clear HX q0 q1 q2 qf y0 y1 y2 y3 y4 y5 y6 y7 y8 y9 y10 y11 y12 p0 p1 p2 pf g0 g1 g2 g3 g4 g5 g6 g7 g8 g9 g10 g11 g12 gf hz
        have XS : Hid (∀ wx, Bk wx (w.heap.size) #[.slice a1 l.length c1, .int .i64 r, .int .i64 (dr + 1)] 24 → Bk wx (w.heap.size + 1) #[.int .i64 x.id, .string x.tp, .int .i64 d'.k, .int .i64 d'.i, .int .u64 d'.u, .string d'.s, .slice d'.a d'.l d'.c, .int .i64 x.ti, .int .i64 x.un, .string x.rp, .int .i64 x.co, .int .i64 x.pr, .int .i64 x.ho] 30 → ((wx.cell? ⟨w.heap.size, 0, none⟩ = some (.slice a1 l.length c1) ∧ wx.cell? ⟨w.heap.size, 1, none⟩ = some (.int .i64 r) ∧ wx.cell? ⟨w.heap.size, 2, none⟩ = some (.int .i64 (dr + 1))) ∧ (wx.cell? ⟨w.heap.size + 1, 0, none⟩ = some (.int .i64 x.id) ∧ wx.cell? ⟨w.heap.size + 1, 1, none⟩ = some (.string x.tp) ∧ wx.cell? ⟨w.heap.size + 1, 2, none⟩ = some (.int .i64 d'.k) ∧ wx.cell? ⟨w.heap.size + 1, 3, none⟩ = some (.int .i64 d'.i) ∧ wx.cell? ⟨w.heap.size + 1, 4, none⟩ = some (.int .u64 d'.u) ∧ wx.cell? ⟨w.heap.size + 1, 5, none⟩ = some (.string d'.s) ∧ wx.cell? ⟨w.heap.size + 1, 6, none⟩ = some (.slice d'.a d'.l d'.c) ∧ wx.cell? ⟨w.heap.size + 1, 7, none⟩ = some (.int .i64 x.ti) ∧ wx.cell? ⟨w.heap.size + 1, 8, none⟩ = some (.int .i64 x.un) ∧ wx.cell? ⟨w.heap.size + 1, 9, none⟩ = some (.string x.rp) ∧ wx.cell? ⟨w.heap.size + 1, 10, none⟩ = some (.int .i64 x.co) ∧ wx.cell? ⟨w.heap.size + 1, 11, none⟩ = some (.int .i64 x.pr) ∧ wx.cell? ⟨w.heap.size + 1, 12, none⟩ = some (.int .i64 x.ho)))) := fun wx h h2 => ⟨h.c3, h2.c13⟩
        refine wp_region_held_drew (S := (fun wx => (wx.cell? ⟨w.heap.size, 0, none⟩ = some (.slice a1 l.length c1) ∧ wx.cell? ⟨w.heap.size, 1, none⟩ = some (.int .i64 r) ∧ wx.cell? ⟨w.heap.size, 2, none⟩ = some (.int .i64 (dr + 1))) ∧ (wx.cell? ⟨w.heap.size + 1, 0, none⟩ = some (.int .i64 x.id) ∧ wx.cell? ⟨w.heap.size + 1, 1, none⟩ = some (.string x.tp) ∧ wx.cell? ⟨w.heap.size + 1, 2, none⟩ = some (.int .i64 d'.k) ∧ wx.cell? ⟨w.heap.size + 1, 3, none⟩ = some (.int .i64 d'.i) ∧ wx.cell? ⟨w.heap.size + 1, 4, none⟩ = some (.int .u64 d'.u) ∧ wx.cell? ⟨w.heap.size + 1, 5, none⟩ = some (.string d'.s) ∧ wx.cell? ⟨w.heap.size + 1, 6, none⟩ = some (.slice d'.a d'.l d'.c) ∧ wx.cell? ⟨w.heap.size + 1, 7, none⟩ = some (.int .i64 x.ti) ∧ wx.cell? ⟨w.heap.size + 1, 8, none⟩ = some (.int .i64 x.un) ∧ wx.cell? ⟨w.heap.size + 1, 9, none⟩ = some (.string x.rp) ∧ wx.cell? ⟨w.heap.size + 1, 10, none⟩ = some (.int .i64 x.co) ∧ wx.cell? ⟨w.heap.size + 1, 11, none⟩ = some (.int .i64 x.pr) ∧ wx.cell? ⟨w.heap.size + 1, 12, none⟩ = some (.int .i64 x.ho)))) (by kernel_rfl) (XS.out _ Q5 M5) (fun hHeld => ?_)
        generalize X.drew = v9 at *
        refine wpAnyH_take (i := 0) (oi := { dst := some 37, op := Op.load 24 (Operand.tmp 4), type := 24, pos := _, after := #[], guard := none }) (v := ?tfb1) rfl (by kernel_rfl) (by kernel_rfl) (by kernel_rfl) (fun _ _ _ h => h) (Or.inl ⟨by rfl, ?ufb1⟩) (by assumption) ?rfb1
        case ufb1 => (intro w hSw; (try dsimp only at hSw); go_simp; (try with_reducible rfl))
        simp only [Act.put, List.setIfInBounds_toArray, List.set_cons_zero, List.set_cons_succ]
        refine wpAnyH_take (i := 1) (oi := { dst := some 38, op := Op.load 30 (Operand.tmp 7), type := 30, pos := _, after := #[{ on := 2, ground := Ground.gcOnly Departure.lateStores }], guard := none }) (v := ?tfb2) rfl (by kernel_rfl) (by kernel_rfl) (by kernel_rfl) (fun _ _ _ h => h) (Or.inl ⟨by rfl, ?ufb2⟩) (by assumption) ?rfb2
        case ufb2 => (intro w hSw; (try dsimp only at hSw); go_simp; (try with_reducible rfl))
        simp only [Act.put, List.setIfInBounds_toArray, List.set_cons_zero, List.set_cons_succ]
        refine wpAnyH_ready (rs := [2]) (by kernel_rfl) (by simp) ?_
        refine AllReadyH.cons (o := { dst := none, op := Op.store 24 (Operand.tmp 8) (Operand.tmp 37), type := 0, pos := _, after := #[{ on := 0, ground := Ground.data }, { on := 0, ground := Ground.phase }, { on := 1, ground := Ground.textOnly Departure.lateStores }], guard := none }) rfl (fun K hK => ?_) AllReadyH.nil
        obtain ⟨p0, p1, p2⟩ := RQ5.c3
        have pf := RQ5.f
        go_simp
        refine hK.out _ _ (XS.out _ (Bk.set3 Q5 (by omega) _ _ _) (Bk.set3 M5 (by omega) _ _ _)) (fun hH18 => ?_)
        clear p0 p1 p2 pf
        clear hK K
        (try simp only [Act.put, List.setIfInBounds_toArray, List.set_cons_zero, List.set_cons_succ])
        refine wpAnyH_ready (rs := [3]) (by kernel_rfl) (by simp) ?_
        refine AllReadyH.cons (o := { dst := none, op := Op.store 30 (Operand.tmp 9) (Operand.tmp 38), type := 0, pos := _, after := #[{ on := 1, ground := Ground.data }, { on := 2, ground := Ground.chain }, { on := 0, ground := Ground.phase }, { on := 1, ground := Ground.phase }, { on := 2, ground := Ground.phase }], guard := none }) rfl (fun K hK => ?_) AllReadyH.nil
        obtain ⟨p0, p1, p2, p3, p4, p5, p6, p7, p8, p9, p10, p11, p12⟩ := (Bk.set3 (M := w.heap.size + 1 + 1) RM5 (by omega) (.slice a1 l.length c1) (.int .i64 r) (.int .i64 (dr + 1))).c13
        have pf := (Bk.set3 (M := w.heap.size + 1 + 1) RM5 (by omega) (.slice a1 l.length c1) (.int .i64 r) (.int .i64 (dr + 1))).f
        go_simp
        refine hK.out _ _ (XS.out _ (Bk.set13 (Bk.set3 Q5 (by omega) _ _ _) (by omega) _ _ _ _ _ _ _ _ _ _ _ _ _) (Bk.set13 (Bk.set3 M5 (by omega) _ _ _) (by omega) _ _ _ _ _ _ _ _ _ _ _ _ _)) (fun hH19 => ?_)
        clear p0 p1 p2 p3 p4 p5 p6 p7 p8 p9 p10 p11 p12 pf
        clear hK K
        (try simp only [Act.put, List.setIfInBounds_toArray, List.set_cons_zero, List.set_cons_succ])
        refine wpAnyH_take (i := 4) (oi := { dst := some 10, op := Op.assign (Operand.const (Value.bool true)), type := 4, pos := _, after := #[{ on := 3, ground := Ground.chain }, { on := 0, ground := Ground.phase }, { on := 1, ground := Ground.phase }, { on := 2, ground := Ground.phase }, { on := 3, ground := Ground.phase }], guard := none }) (v := ?tfb3) rfl (by kernel_rfl) (by kernel_rfl) (by kernel_rfl) (fun _ _ _ h => h) (Or.inl ⟨by rfl, ?ufb3⟩) (by assumption) ?rfb3
        case ufb3 => (intro w hSw; (try dsimp only at hSw); go_simp; (try with_reducible rfl))
        simp only [Act.put, List.setIfInBounds_toArray, List.set_cons_zero, List.set_cons_succ]
        refine wpAnyH_take (i := 5) (oi := { dst := some 11, op := Op.assign (Operand.const (Value.int IntKind.i64 0)), type := 35, pos := _, after := #[{ on := 4, ground := Ground.chain }, { on := 0, ground := Ground.phase }, { on := 1, ground := Ground.phase }, { on := 2, ground := Ground.phase }, { on := 3, ground := Ground.phase }, { on := 4, ground := Ground.phase }], guard := none }) (v := ?tfb4) rfl (by kernel_rfl) (by kernel_rfl) (by kernel_rfl) (fun _ _ _ h => h) (Or.inl ⟨by rfl, ?ufb4⟩) (by assumption) ?rfb4
        case ufb4 => (intro w hSw; (try dsimp only at hSw); go_simp; (try with_reducible rfl))
        simp only [Act.put, List.setIfInBounds_toArray, List.set_cons_zero, List.set_cons_succ]
        refine wpAnyH_done (by kernel_rfl) ?_ _
        go_wp2_with fail
        obtain ⟨p0, p1, p2⟩ := RQ5.c3
        obtain ⟨g0, g1, g2, g3, g4, g5, g6, g7, g8, g9, g10, g11, g12⟩ := RM5.c13
        exact bodyPost_ret (v := .tuple #[.agg #[.slice a1 l.length c1, .int .i64 r, .int .i64 (dr + 1)], .agg (x.cs d'), .bool true, .int .i64 0]) (by simp [results, Try.results10, go_sem, World.cell?_setCell_same, World.cell?_setCell_other, p0, p1, p2, g0, g1, g2, g3, g4, g5, g6, g7, g8, g9, g10, g11, g12]) rfl (TOP.out _ _ (PuP.of rfl (Nat.le_add_right _ _) M4.out R4.out (below_set13 (below_set3 BW5.out (by omega) _ _ _) (by omega) _ _ _ _ _ _ _ _ _ _ _ _ _) (by simp) (fun g hg => by rw [set13_heap _ _ _ (by omega), set3_heap _ _ _ (by omega)])))
      by_cases h2 : drop = 1
      · subst h2
        have TOP : Hid (∀ k y e w', Best false (prl (l ++ [x])) (l.length + 1) k → (l ++ [x])[k]? = some y → PuP w ((l ++ [x]).eraseIdx k) r (dr + 1) y true 0 e w' → PutP w l r dr room 1 x e w') := fun k y e w' hb hy h => ⟨fun hn => absurd hn h1, fun _ => ⟨fun h => by simp at h, fun _ => ⟨k, y, hb, hy, h⟩, fun _ h => absurd rfl h⟩⟩
        have ba0 := below1 wc (.cells #[.int .i64 0, .string ⟨#[]⟩, .int .i64 0, .int .i64 0, .int .u64 0, .string ⟨#[]⟩, .slice none 0 0, .int .i64 0, .int .i64 0, .string ⟨#[]⟩, .int .i64 0, .int .i64 0, .int .i64 0] 30)
        have ba := below2 wc (.cells #[.int .i64 0, .string ⟨#[]⟩, .int .i64 0, .int .i64 0, .int .u64 0, .string ⟨#[]⟩, .slice none 0 0, .int .i64 0, .int .i64 0, .string ⟨#[]⟩, .int .i64 0, .int .i64 0, .int .i64 0] 30) (.cells #[.int .i64 x.id, .string x.tp, .int .i64 d'.k, .int .i64 d'.i, .int .u64 d'.u, .string d'.s, .slice d'.a d'.l d'.c, .int .i64 x.ti, .int .i64 x.un, .string x.rp, .int .i64 x.co, .int .i64 x.pr, .int .i64 x.ho] 30)
        obtain ⟨v0, hv0⟩ : ∃ v0, v0 = (wc.alloc (.cells #[.int .i64 0, .string ⟨#[]⟩, .int .i64 0, .int .i64 0, .int .u64 0, .string ⟨#[]⟩, .slice none 0 0, .int .i64 0, .int .i64 0, .string ⟨#[]⟩, .int .i64 0, .int .i64 0, .int .i64 0] 30)).alloc (.cells #[.int .i64 x.id, .string x.tp, .int .i64 d'.k, .int .i64 d'.i, .int .u64 d'.u, .string d'.s, .slice d'.a d'.l d'.c, .int .i64 x.ti, .int .i64 x.un, .string x.rp, .int .i64 x.co, .int .i64 x.pr, .int .i64 x.ho] 30) := ⟨_, rfl⟩
        have T0 : Bk v0 wc.heap.size #[.int .i64 0, .string ⟨#[]⟩, .int .i64 0, .int .i64 0, .int .u64 0, .string ⟨#[]⟩, .slice none 0 0, .int .i64 0, .int .i64 0, .string ⟨#[]⟩, .int .i64 0, .int .i64 0, .int .i64 0] 30 := by rw [hv0]; exact (Bk.new wc _ _).alloc _
        have U0 : Bk v0 (wc.heap.size + 1) #[.int .i64 x.id, .string x.tp, .int .i64 d'.k, .int .i64 d'.i, .int .u64 d'.u, .string d'.s, .slice d'.a d'.l d'.c, .int .i64 x.ti, .int .i64 x.un, .string x.rp, .int .i64 x.co, .int .i64 x.pr, .int .i64 x.ho] 30 := by rw [hv0]; exact Bk.new2 wc _ _ _
        have hvs : v0.heap.size = wc.heap.size + 2 := by rw [hv0]; show _ = _; simp
        rw [← hv0] at ba
        have S1 : Hid (Mp (w.heap.size + 4) (fun g => w.heap.size + 4 ≤ g ∧ g < wc.heap.size + 2 ∧ g ≠ wc.heap.size ∧ some g ≠ (Value.slice a1 l.length c1).ownBlock) l (.slice a1 l.length c1) xs v0 ∧ Mz (fun g => w.heap.size + 4 ≤ g ∧ g < wc.heap.size + 2 ∧ g ≠ wc.heap.size ∧ some g ≠ (Value.slice a1 l.length c1).ownBlock) v0 (some ⟨wc.heap.size + 1, 0, none⟩) [x]) := by
          have P := PH.out
          refine ⟨(P.o.below ba (fun g hg => hg.2.1)).to (Nat.le_refl _) (fun _ _ => rfl) (fun g hg => ⟨⟨hg.1, by have := hg.2.1; omega, by have := hg.2.1; omega, hg.2.2⟩, rfl⟩), mz_one U0 ⟨by omega, by omega, by omega, fun e => by have := (P.o.own_lt _ e.symm).2; omega⟩ (Rz.to (fun g hg => ⟨⟨hg.1, by have := hg.2.1; omega, by have := hg.2.1; omega, hg.2.2⟩, ba.block g hg.2.1⟩) _ _ _ P.t)⟩
        have AP : Hid (∀ (a4 : Option Addr) (c4 : Nat) (xs' : List Value) (w3 : World), Mp (w.heap.size + 4) (fun g => w.heap.size + 4 ≤ g ∧ g < wc.heap.size + 2 ∧ g ≠ wc.heap.size ∧ some g ≠ (Value.slice a1 l.length c1).ownBlock) (l ++ [x]) (.slice a4 (l ++ [x]).length c4) xs' w3 → v0.grownBy w3 (Value.slice a1 l.length c1).ownBlock → ((Value.slice a4 (l ++ [x]).length c4).ownBlock = (Value.slice a1 l.length c1).ownBlock ∨ (Value.slice a4 (l ++ [x]).length c4).ownBlock = some v0.heap.size) →
            ∃ g, a4 = some ⟨g, 0, none⟩ ∧ w.heap.size + 4 ≤ g ∧ g ≠ wc.heap.size ∧ wc.heap.size + 2 ≤ w3.heap.size ∧ Mq g c4 (fun b => w.heap.size + 4 ≤ b ∧ b < w3.heap.size ∧ b ≠ wc.heap.size ∧ b ≠ g) (l ++ [x]) w3 ∧ Bk w3 w.heap.size #[.slice a1 l.length c1, .int .i64 r, .int .i64 dr] 24 ∧ Bk w3 (w.heap.size + 1 + 1) #[.slice none 0 0, .int .i64 0, .int .i64 0] 24 ∧ Bk w3 (w.heap.size + 1 + 1 + 1) #[.int .i64 0, .string ⟨#[]⟩, .int .i64 0, .int .i64 0, .int .u64 0, .string ⟨#[]⟩, .slice none 0 0, .int .i64 0, .int .i64 0, .string ⟨#[]⟩, .int .i64 0, .int .i64 0, .int .i64 0] 30 ∧ Bk w3 wc.heap.size #[.int .i64 0, .string ⟨#[]⟩, .int .i64 0, .int .i64 0, .int .u64 0, .string ⟨#[]⟩, .slice none 0 0, .int .i64 0, .int .i64 0, .string ⟨#[]⟩, .int .i64 0, .int .i64 0, .int .i64 0] 30 ∧ Below w.heap.size w w3) := fun a4 c4 xs' w3 m3 g3 a3 => by
          have P := PH.out
          have hs3 := g3.size
          have own : ∀ b, (Value.slice a1 l.length c1).ownBlock = some b → w.heap.size + 4 ≤ b ∧ b < wc.heap.size := fun b hb => P.o.own_lt b hb
          obtain ⟨g, e4, hg, mq⟩ := m3.mq (by simp)
          subst e4
          have hgo : (Value.slice a1 l.length c1).ownBlock = some g ∨ g = v0.heap.size := a3.elim (fun e => .inl e.symm) (fun e => .inr (Option.some.inj e))
          have hgT : g ≠ wc.heap.size := by
            rcases hgo with e | e
            · have := (own g e).2; omega
            · omega
          have hh : ∀ b, b < wc.heap.size + 2 → (w.heap.size + 4 ≤ b → b = wc.heap.size) → w3.heap[b]? = v0.heap[b]? := fun b hb hb2 => g3.block b (by omega) (fun e => by have := own b e.symm; omega)
          refine ⟨g, rfl, hg, hgT, by omega, mq.to rfl (fun b hb => ⟨⟨hb.1, by have := hb.2.1; omega, hb.2.2.1, fun e => ?_⟩, rfl⟩), ?_, ?_, ?_, ?_, ?_⟩
          · subst e
            rcases hgo with e | e
            · exact hb.2.2.2 e.symm
            · have := hb.2.1; omega
          · exact ((hh _ (by omega) (by omega)).trans (ba.block _ (by omega))).trans P.q
          · exact ((hh _ (by omega) (by omega)).trans (ba.block _ (by omega))).trans P.rq
          · exact ((hh _ (by omega) (by omega)).trans (ba.block _ (by omega))).trans P.rm
          · exact (hh _ (by omega) (by omega)).trans T0
          · exact (P.b.trans (ba.mono (by omega))).grown g3 (by omega) (fun k hk => by have := (own k hk).1; omega)
        have BX : Hid (∀ (g : Nat) (w3 w4 : World), w.heap.size + 4 ≤ g → g ≠ wc.heap.size → wc.heap.size + 2 ≤ w3.heap.size → Ke g w3 w4 → Bk w3 w.heap.size #[.slice a1 l.length c1, .int .i64 r, .int .i64 dr] 24 → Bk w3 (w.heap.size + 1 + 1) #[.slice none 0 0, .int .i64 0, .int .i64 0] 24 → Bk w3 (w.heap.size + 1 + 1 + 1) #[.int .i64 0, .string ⟨#[]⟩, .int .i64 0, .int .i64 0, .int .u64 0, .string ⟨#[]⟩, .slice none 0 0, .int .i64 0, .int .i64 0, .string ⟨#[]⟩, .int .i64 0, .int .i64 0, .int .i64 0] 30 → Bk w3 wc.heap.size #[.int .i64 0, .string ⟨#[]⟩, .int .i64 0, .int .i64 0, .int .u64 0, .string ⟨#[]⟩, .slice none 0 0, .int .i64 0, .int .i64 0, .string ⟨#[]⟩, .int .i64 0, .int .i64 0, .int .i64 0] 30 → Below w.heap.size w w3 → Bk w4 w.heap.size #[.slice a1 l.length c1, .int .i64 r, .int .i64 dr] 24 ∧ Bk w4 (w.heap.size + 1 + 1) #[.slice none 0 0, .int .i64 0, .int .i64 0] 24 ∧ Bk w4 (w.heap.size + 1 + 1 + 1) #[.int .i64 0, .string ⟨#[]⟩, .int .i64 0, .int .i64 0, .int .u64 0, .string ⟨#[]⟩, .slice none 0 0, .int .i64 0, .int .i64 0, .string ⟨#[]⟩, .int .i64 0, .int .i64 0, .int .i64 0] 30 ∧ Bk w4 wc.heap.size #[.int .i64 0, .string ⟨#[]⟩, .int .i64 0, .int .i64 0, .int .u64 0, .string ⟨#[]⟩, .slice none 0 0, .int .i64 0, .int .i64 0, .string ⟨#[]⟩, .int .i64 0, .int .i64 0, .int .i64 0] 30 ∧ Below w.heap.size w w4) := fun g w3 w4 hg hgT hs3 ke h3 h4 h5 h6 h7 =>
          ⟨(ke.block _ (by omega) (by omega)).trans h3, (ke.block _ (by omega) (by omega)).trans h4, (ke.block _ (by omega) (by omega)).trans h5, (ke.block _ (by omega) (by omega)).trans h6, Ke.below h7 ke (by omega) (by omega)⟩
        have HV0 := Lib.hid hv0
        have qa := PH.out.q.alloc (.cells #[.int .i64 0, .string ⟨#[]⟩, .int .i64 0, .int .i64 0, .int .u64 0, .string ⟨#[]⟩, .slice none 0 0, .int .i64 0, .int .i64 0, .string ⟨#[]⟩, .int .i64 0, .int .i64 0, .int .i64 0] 30)
        have ya := PH.out.m.alloc (.cells #[.int .i64 0, .string ⟨#[]⟩, .int .i64 0, .int .i64 0, .int .u64 0, .string ⟨#[]⟩, .slice none 0 0, .int .i64 0, .int .i64 0, .string ⟨#[]⟩, .int .i64 0, .int .i64 0, .int .i64 0] 30)
        obtain ⟨q3, q4, q5⟩ := qa.c3
        obtain ⟨j0, j1, j2, j3, j4, j5, j6, j7, j8, j9, j10, j11, j12⟩ := ya.c13
        clear qa ya
        have hl2 : (l ++ [x]).length = l.length + 1 := by simp
        have HL2 := Lib.hid hl2
        have hlz : l.length + 1 ≤ 1000000 := by omega
        clear ba ba0 T0 U0 hv0 PH hl2 hvs
        go_wp2_with (at_builtin; rw [← HV0.out]; refine wpList_mapp rfl _ _ rfl (w.heap.size + 4) (fun g => w.heap.size + 4 ≤ g ∧ g < wc.heap.size + 2 ∧ g ≠ wc.heap.size ∧ some g ≠ (Value.slice a1 l.length c1).ownBlock) l (.slice a1 l.length c1) xs rfl S1.out.1 (some ⟨wc.heap.size + 1, 0, none⟩) 1 [x] rfl S1.out.2 (fun e => by cases e) (by simp; omega) (fun g hg => ⟨by rw [HV0.out]; simpa using hg.2.1, hg.2.2.2⟩) ?_; intro sl' xs' w3 m3 gr3 a3; obtain ⟨a4, c4, rfl, -⟩ := m3.mz (F' := fun _ => True) (fun _ _ => trivial) (fun _ _ => trivial); obtain ⟨g, rfl, hg, hgT, hs3, mq3, hq3, hrq3, hrm3, ht3, bw3⟩ := AP.out a4 c4 xs' w3 m3 gr3 a3; clear q0 q1 q2 qf y0 y1 y2 y3 y4 y5 y6 y7 y8 y9 y10 y11 y12 p0 p1 p2 pf g0 g1 g2 g3 g4 g5 g6 g7 g8 g9 g10 g11 g12 gf q3 q4 q5 j0 j1 j2 j3 j4 j5 j6 j7 j8 j9 j10 j11 j12; have HLV : Hid (Calls Try.prog 25 #[.slice (some ⟨g, 0, none⟩) (l.length + 1) c4, .func (.func 26) #[] #[]] w3 fun e w' => ∃ (k : Nat) (y : Ms) (dy : Bo), Best false (prl (l ++ [x])) (l.length + 1) k ∧ (l ++ [x])[k]? = some y ∧ e = .returned (.tuple #[.slice (some ⟨g, 0, none⟩) (l.length + 1 - 1) c4, .agg (y.cs dy)]) ∧ Mq g c4 (fun b => w.heap.size + 4 ≤ b ∧ b < w3.heap.size ∧ b ≠ wc.heap.size ∧ b ≠ g) ((l ++ [x]).eraseIdx k) w' ∧ Rz (fun b => w.heap.size + 4 ≤ b ∧ b < w3.heap.size ∧ b ≠ wc.heap.size ∧ b ≠ g) w' y.n dy.vs y.t ∧ Ke g w3 w') := leave_any false g c4 (l.length + 1) _ (l ++ [x]) w3 mq3 HL2.out (by omega) hlz (fun b hb => ⟨hb.2.1, hb.2.2.2⟩); have HBX := Lib.hid (fun w4 ke => BX.out g w3 w4 hg hgT hs3 ke hq3 hrq3 hrm3 ht3 bw3); clear mq3 hq3 hrq3 hrm3 ht3 bw3 m3 gr3 a3 S1 AP BX)
        refine HLV.out.mono ?_
        rintro e w4 ⟨k, y, dy, hb, hy, rfl, mq4, rz4, ke4⟩
        obtain ⟨hq4, hrq4, hrm4, ht4, bw4⟩ := HBX.out w4 ke4
        have hs4 := ke4.size
        obtain ⟨X, hX⟩ : ∃ X, X = ((((((((((((((w4.setCell ⟨w.heap.size, 0, none⟩ (.slice (some ⟨g, 0, none⟩) l.length c4)).setCell ⟨wc.heap.size, 0, none⟩ (.int .i64 y.id)).setCell ⟨wc.heap.size, 1, none⟩ (.string y.tp)).setCell ⟨wc.heap.size, 2, none⟩ (.int .i64 dy.k)).setCell ⟨wc.heap.size, 3, none⟩ (.int .i64 dy.i)).setCell ⟨wc.heap.size, 4, none⟩ (.int .u64 dy.u)).setCell ⟨wc.heap.size, 5, none⟩ (.string dy.s)).setCell ⟨wc.heap.size, 6, none⟩ (.slice dy.a dy.l dy.c)).setCell ⟨wc.heap.size, 7, none⟩ (.int .i64 y.ti)).setCell ⟨wc.heap.size, 8, none⟩ (.int .i64 y.un)).setCell ⟨wc.heap.size, 9, none⟩ (.string y.rp)).setCell ⟨wc.heap.size, 10, none⟩ (.int .i64 y.co)).setCell ⟨wc.heap.size, 11, none⟩ (.int .i64 y.pr)).setCell ⟨wc.heap.size, 12, none⟩ (.int .i64 y.ho)).setCell ⟨w.heap.size, 2, none⟩ (.int .i64 (dr + 1)) := ⟨_, rfl⟩
        have Q5 : Bk X.drew w.heap.size #[.slice (some ⟨g, 0, none⟩) l.length c4, .int .i64 r, .int .i64 (dr + 1)] 24 := Bk.drew (by rw [hX]; exact (Bk.set13 (hq4.set 0 _) (by omega) _ _ _ _ _ _ _ _ _ _ _ _ _).set 2 _)
        have M5 : Bk X.drew wc.heap.size #[.int .i64 y.id, .string y.tp, .int .i64 dy.k, .int .i64 dy.i, .int .u64 dy.u, .string dy.s, .slice dy.a dy.l dy.c, .int .i64 y.ti, .int .i64 y.un, .string y.rp, .int .i64 y.co, .int .i64 y.pr, .int .i64 y.ho] 30 := Bk.drew (by rw [hX]; exact (Bk.full13 (ht4.other _ _ (by show wc.heap.size ≠ w.heap.size; omega)) _ _ _ _ _ _ _ _ _ _ _ _ _).other _ _ (by show wc.heap.size ≠ w.heap.size; omega))
        have RQ5 : Bk X.drew (w.heap.size + 1 + 1) #[.slice none 0 0, .int .i64 0, .int .i64 0] 24 := Bk.drew (by rw [hX]; exact (Bk.set13 (hrq4.other _ _ (by show w.heap.size + 1 + 1 ≠ w.heap.size; omega)) (by omega) _ _ _ _ _ _ _ _ _ _ _ _ _).other _ _ (by show w.heap.size + 1 + 1 ≠ w.heap.size; omega))
        have RM5 : Bk X.drew (w.heap.size + 1 + 1 + 1) #[.int .i64 0, .string ⟨#[]⟩, .int .i64 0, .int .i64 0, .int .u64 0, .string ⟨#[]⟩, .slice none 0 0, .int .i64 0, .int .i64 0, .string ⟨#[]⟩, .int .i64 0, .int .i64 0, .int .i64 0] 30 := Bk.drew (by rw [hX]; exact (Bk.set13 (hrm4.other _ _ (by show w.heap.size + 1 + 1 + 1 ≠ w.heap.size; omega)) (by omega) _ _ _ _ _ _ _ _ _ _ _ _ _).other _ _ (by show w.heap.size + 1 + 1 + 1 ≠ w.heap.size; omega))
        have hXh0 : ∀ b, w.heap.size + 4 ≤ b → b ≠ wc.heap.size → X.heap[b]? = w4.heap[b]? := fun b hb hb2 => by
          rw [hX, Below.heap_setCell _ _ _ _ (by show b ≠ w.heap.size; omega), set13_heap _ _ _ hb2, Below.heap_setCell _ _ _ _ (by show b ≠ w.heap.size; omega)]
        have hXh : ∀ b, w.heap.size + 4 ≤ b → b ≠ wc.heap.size → X.drew.heap[b]? = w4.heap[b]? := hXh0
        have hXs0 : X.heap.size = w4.heap.size := by rw [hX]; simp only [World.size_setCell]
        have hXs : X.drew.heap.size = w4.heap.size := hXs0
        have BW0 : Below w.heap.size w X := by rw [hX]; exact (below_set13 (bw4.setCell (Nat.le_refl _) _) (by omega) _ _ _ _ _ _ _ _ _ _ _ _ _).setCell (Nat.le_refl _) _
        have BW5 : Hid (Below w.heap.size w X.drew) := BW0.drew
        have fr : ∀ b, (w.heap.size + 4 ≤ b ∧ b < w3.heap.size ∧ b ≠ wc.heap.size ∧ b ≠ g) → (w.heap.size + 4 ≤ b ∧ b < X.drew.heap.size) ∧ X.drew.heap[b]? = w4.heap[b]? := fun b hb => ⟨⟨hb.1, by omega⟩, hXh b hb.1 hb.2.2.1⟩
        have M4 : Hid (Mz (fun b => w.heap.size + 4 ≤ b ∧ b < X.drew.heap.size) X.drew (some ⟨g, 0, none⟩) ((l ++ [x]).eraseIdx k)) := (mq4.to (hXh g hg hgT) fr).mz ⟨hg, by have := mq4.lt; omega⟩ (fun b hb => hb)
        have R4 : Hid (Rz (fun b => w.heap.size + 4 ≤ b ∧ b < X.drew.heap.size) X.drew y.n dy.vs y.t) := Rz.to fr _ _ _ rz4
        have HN : Hid (l.length = ((l ++ [x]).eraseIdx k).length) := by
          have hk : k < (l ++ [x]).length := by rw [HL2.out]; exact hb.1
          rw [List.length_eraseIdx_of_lt hk, HL2.out]
          rfl
        have HB := Lib.hid hb
        have HY := Lib.hid hy
        obtain ⟨q0, q1, q2⟩ := hq4.c3
        have qf := hq4.f
        obtain ⟨y0, y1, y2, y3, y4, y5, y6, y7, y8, y9, y10, y11, y12⟩ := ht4.c13
        have yf := ht4.f
        have HX := Lib.hid hX
        clear hb hy mq4 rz4 ke4 hq4 hrq4 hrm4 ht4 bw4 hX hXh0 hXh hXs0 hXs BW0 fr HLV HBX
        go_wp2_with fail
        rw [← HX.out]
        clear HX q0 q1 q2 qf y0 y1 y2 y3 y4 y5 y6 y7 y8 y9 y10 y11 y12 yf
        have XS : Hid (∀ wx, Bk wx (w.heap.size) #[.slice (some ⟨g, 0, none⟩) l.length c4, .int .i64 r, .int .i64 (dr + 1)] 24 → Bk wx (wc.heap.size) #[.int .i64 y.id, .string y.tp, .int .i64 dy.k, .int .i64 dy.i, .int .u64 dy.u, .string dy.s, .slice dy.a dy.l dy.c, .int .i64 y.ti, .int .i64 y.un, .string y.rp, .int .i64 y.co, .int .i64 y.pr, .int .i64 y.ho] 30 → ((wx.cell? ⟨w.heap.size, 0, none⟩ = some (.slice (some ⟨g, 0, none⟩) l.length c4) ∧ wx.cell? ⟨w.heap.size, 1, none⟩ = some (.int .i64 r) ∧ wx.cell? ⟨w.heap.size, 2, none⟩ = some (.int .i64 (dr + 1))) ∧ (wx.cell? ⟨wc.heap.size, 0, none⟩ = some (.int .i64 y.id) ∧ wx.cell? ⟨wc.heap.size, 1, none⟩ = some (.string y.tp) ∧ wx.cell? ⟨wc.heap.size, 2, none⟩ = some (.int .i64 dy.k) ∧ wx.cell? ⟨wc.heap.size, 3, none⟩ = some (.int .i64 dy.i) ∧ wx.cell? ⟨wc.heap.size, 4, none⟩ = some (.int .u64 dy.u) ∧ wx.cell? ⟨wc.heap.size, 5, none⟩ = some (.string dy.s) ∧ wx.cell? ⟨wc.heap.size, 6, none⟩ = some (.slice dy.a dy.l dy.c) ∧ wx.cell? ⟨wc.heap.size, 7, none⟩ = some (.int .i64 y.ti) ∧ wx.cell? ⟨wc.heap.size, 8, none⟩ = some (.int .i64 y.un) ∧ wx.cell? ⟨wc.heap.size, 9, none⟩ = some (.string y.rp) ∧ wx.cell? ⟨wc.heap.size, 10, none⟩ = some (.int .i64 y.co) ∧ wx.cell? ⟨wc.heap.size, 11, none⟩ = some (.int .i64 y.pr) ∧ wx.cell? ⟨wc.heap.size, 12, none⟩ = some (.int .i64 y.ho)))) := fun wx h h2 => ⟨h.c3, h2.c13⟩
        refine wp_region_held_drew (S := (fun wx => (wx.cell? ⟨w.heap.size, 0, none⟩ = some (.slice (some ⟨g, 0, none⟩) l.length c4) ∧ wx.cell? ⟨w.heap.size, 1, none⟩ = some (.int .i64 r) ∧ wx.cell? ⟨w.heap.size, 2, none⟩ = some (.int .i64 (dr + 1))) ∧ (wx.cell? ⟨wc.heap.size, 0, none⟩ = some (.int .i64 y.id) ∧ wx.cell? ⟨wc.heap.size, 1, none⟩ = some (.string y.tp) ∧ wx.cell? ⟨wc.heap.size, 2, none⟩ = some (.int .i64 dy.k) ∧ wx.cell? ⟨wc.heap.size, 3, none⟩ = some (.int .i64 dy.i) ∧ wx.cell? ⟨wc.heap.size, 4, none⟩ = some (.int .u64 dy.u) ∧ wx.cell? ⟨wc.heap.size, 5, none⟩ = some (.string dy.s) ∧ wx.cell? ⟨wc.heap.size, 6, none⟩ = some (.slice dy.a dy.l dy.c) ∧ wx.cell? ⟨wc.heap.size, 7, none⟩ = some (.int .i64 y.ti) ∧ wx.cell? ⟨wc.heap.size, 8, none⟩ = some (.int .i64 y.un) ∧ wx.cell? ⟨wc.heap.size, 9, none⟩ = some (.string y.rp) ∧ wx.cell? ⟨wc.heap.size, 10, none⟩ = some (.int .i64 y.co) ∧ wx.cell? ⟨wc.heap.size, 11, none⟩ = some (.int .i64 y.pr) ∧ wx.cell? ⟨wc.heap.size, 12, none⟩ = some (.int .i64 y.ho)))) (by kernel_rfl) (XS.out _ Q5 M5) (fun hHeld => ?_)
        generalize X.drew = v9 at *
        refine wpAnyH_take (i := 0) (oi := { dst := some 55, op := Op.load 24 (Operand.tmp 4), type := 24, pos := _, after := #[], guard := none }) (v := ?tfc1) rfl (by kernel_rfl) (by kernel_rfl) (by kernel_rfl) (fun _ _ _ h => h) (Or.inl ⟨by rfl, ?ufc1⟩) (by assumption) ?rfc1
        case ufc1 => (intro w hSw; (try dsimp only at hSw); go_simp; (try with_reducible rfl))
        simp only [Act.put, List.setIfInBounds_toArray, List.set_cons_zero, List.set_cons_succ]
        refine wpAnyH_take (i := 1) (oi := { dst := some 56, op := Op.load 30 (Operand.tmp 12), type := 30, pos := _, after := #[{ on := 2, ground := Ground.gcOnly Departure.lateStores }], guard := none }) (v := ?tfc2) rfl (by kernel_rfl) (by kernel_rfl) (by kernel_rfl) (fun _ _ _ h => h) (Or.inl ⟨by rfl, ?ufc2⟩) (by assumption) ?rfc2
        case ufc2 => (intro w hSw; (try dsimp only at hSw); go_simp; (try with_reducible rfl))
        simp only [Act.put, List.setIfInBounds_toArray, List.set_cons_zero, List.set_cons_succ]
        refine wpAnyH_ready (rs := [2]) (by kernel_rfl) (by simp) ?_
        refine AllReadyH.cons (o := { dst := none, op := Op.store 24 (Operand.tmp 8) (Operand.tmp 55), type := 0, pos := _, after := #[{ on := 0, ground := Ground.data }, { on := 0, ground := Ground.phase }, { on := 1, ground := Ground.textOnly Departure.lateStores }], guard := none }) rfl (fun K hK => ?_) AllReadyH.nil
        obtain ⟨p0, p1, p2⟩ := RQ5.c3
        have pf := RQ5.f
        go_simp
        refine hK.out _ _ (XS.out _ (Bk.set3 Q5 (by omega) _ _ _) (Bk.set3 M5 (by omega) _ _ _)) (fun hH20 => ?_)
        clear p0 p1 p2 pf
        clear hK K
        (try simp only [Act.put, List.setIfInBounds_toArray, List.set_cons_zero, List.set_cons_succ])
        refine wpAnyH_ready (rs := [3]) (by kernel_rfl) (by simp) ?_
        refine AllReadyH.cons (o := { dst := none, op := Op.store 30 (Operand.tmp 9) (Operand.tmp 56), type := 0, pos := _, after := #[{ on := 1, ground := Ground.data }, { on := 2, ground := Ground.chain }, { on := 0, ground := Ground.phase }, { on := 1, ground := Ground.phase }, { on := 2, ground := Ground.phase }], guard := none }) rfl (fun K hK => ?_) AllReadyH.nil
        obtain ⟨p0, p1, p2, p3, p4, p5, p6, p7, p8, p9, p10, p11, p12⟩ := (Bk.set3 (M := w.heap.size + 1 + 1) RM5 (by omega) (.slice (some ⟨g, 0, none⟩) l.length c4) (.int .i64 r) (.int .i64 (dr + 1))).c13
        have pf := (Bk.set3 (M := w.heap.size + 1 + 1) RM5 (by omega) (.slice (some ⟨g, 0, none⟩) l.length c4) (.int .i64 r) (.int .i64 (dr + 1))).f
        go_simp
        refine hK.out _ _ (XS.out _ (Bk.set13 (Bk.set3 Q5 (by omega) _ _ _) (by omega) _ _ _ _ _ _ _ _ _ _ _ _ _) (Bk.set13 (Bk.set3 M5 (by omega) _ _ _) (by omega) _ _ _ _ _ _ _ _ _ _ _ _ _)) (fun hH21 => ?_)
        clear p0 p1 p2 p3 p4 p5 p6 p7 p8 p9 p10 p11 p12 pf
        clear hK K
        (try simp only [Act.put, List.setIfInBounds_toArray, List.set_cons_zero, List.set_cons_succ])
        refine wpAnyH_take (i := 4) (oi := { dst := some 10, op := Op.assign (Operand.const (Value.bool true)), type := 4, pos := _, after := #[{ on := 3, ground := Ground.chain }, { on := 0, ground := Ground.phase }, { on := 1, ground := Ground.phase }, { on := 2, ground := Ground.phase }, { on := 3, ground := Ground.phase }], guard := none }) (v := ?tfc3) rfl (by kernel_rfl) (by kernel_rfl) (by kernel_rfl) (fun _ _ _ h => h) (Or.inl ⟨by rfl, ?ufc3⟩) (by assumption) ?rfc3
        case ufc3 => (intro w hSw; (try dsimp only at hSw); go_simp; (try with_reducible rfl))
        simp only [Act.put, List.setIfInBounds_toArray, List.set_cons_zero, List.set_cons_succ]
        refine wpAnyH_take (i := 5) (oi := { dst := some 11, op := Op.assign (Operand.const (Value.int IntKind.i64 0)), type := 35, pos := _, after := #[{ on := 4, ground := Ground.chain }, { on := 0, ground := Ground.phase }, { on := 1, ground := Ground.phase }, { on := 2, ground := Ground.phase }, { on := 3, ground := Ground.phase }, { on := 4, ground := Ground.phase }], guard := none }) (v := ?tfc4) rfl (by kernel_rfl) (by kernel_rfl) (by kernel_rfl) (fun _ _ _ h => h) (Or.inl ⟨by rfl, ?ufc4⟩) (by assumption) ?rfc4
        case ufc4 => (intro w hSw; (try dsimp only at hSw); go_simp; (try with_reducible rfl))
        simp only [Act.put, List.setIfInBounds_toArray, List.set_cons_zero, List.set_cons_succ]
        refine wpAnyH_done (by kernel_rfl) ?_ _
        go_wp2_with fail
        obtain ⟨p0, p1, p2⟩ := RQ5.c3
        obtain ⟨g0, g1, g2, g3, g4, g5, g6, g7, g8, g9, g10, g11, g12⟩ := RM5.c13
        exact bodyPost_ret (v := .tuple #[.agg #[.slice (some ⟨g, 0, none⟩) l.length c4, .int .i64 r, .int .i64 (dr + 1)], .agg (y.cs dy), .bool true, .int .i64 0]) (by simp [results, Try.results10, go_sem, World.cell?_setCell_same, World.cell?_setCell_other, p0, p1, p2, g0, g1, g2, g3, g4, g5, g6, g7, g8, g9, g10, g11, g12]) rfl (TOP.out k y _ _ HB.out HY.out (PuP.of HN.out (Nat.le_add_right _ _) M4.out R4.out (below_set13 (below_set3 BW5.out (by omega) _ _ _) (by omega) _ _ _ _ _ _ _ _ _ _ _ _ _) (by simp) (fun g hg => by rw [set13_heap _ _ _ (by omega), set3_heap _ _ _ (by omega)])))
      have e0 : (drop == 0) = false := by simpa using h0
      have e1 : (drop == 1) = false := by simpa using h2
      have TOP : Hid (∀ e w', PuP w l (r + 1) dr mZ false 190 e w' → PutP w l r dr room drop x e w') := fun e w' h => ⟨fun hn => absurd hn h1, fun _ => ⟨fun h => absurd h h0, fun h => absurd h h2, fun _ _ => h⟩⟩
      have M4 : Hid (Mz (fun g => w.heap.size + 4 ≤ g ∧ g < wc.heap.size) wc a1 l) := by
        have P := PH.out
        obtain ⟨a4, c4, e4, mz4⟩ := P.o.mz (F' := fun g => w.heap.size + 4 ≤ g ∧ g < wc.heap.size) (fun g hg => ⟨hg.1, hg.2.1⟩) (fun g hg => P.o.own_lt g hg)
        simp only [Value.slice.injEq] at e4
        obtain ⟨rfl, -, rfl⟩ := e4
        exact mz4
      have BW3 := Lib.hid PH.out.b
      clear PH y0 y1 y2 y3 y4 y5 y6 y7 y8 y9 y10 y11 y12 h0 h2
      go_wp2_with fail
      exact bodyPost_ret (v := .tuple #[.agg #[.slice a1 l.length c1, .int .i64 (r + 1), .int .i64 dr], .agg (mZ.cs zD), .bool false, .int .i64 190]) (by simp [results, Try.results10, go_sem, World.cell?_setCell_same, World.cell?_setCell_other, p0, p1, p2, g0, g1, g2, g3, g4, g5, g6, g7, g8, g9, g10, g11, g12, mZ, zD]) rfl (TOP.out _ _ (PuP.of rfl (Nat.le_add_right _ _) M4.out (mZ_rz _ _) (below_set13 (below_set3 (Below.setCell BW3.out (by simp) _) (by omega) _ _ _) (by omega) _ _ _ _ _ _ _ _ _ _ _ _ _) (by simp) (fun g hg => by rw [set13_heap _ _ _ (by omega), set3_heap _ _ _ (by omega), Below.heap_setCell _ _ _ _ (by show g ≠ w.heap.size; omega)])))
end Go.Proofs.Ytdgjhclncjoonaa
