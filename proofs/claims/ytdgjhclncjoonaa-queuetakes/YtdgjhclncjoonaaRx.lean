/- The document's Put; the conditions: the messages in memory, of a size that can be. -/
import Derived.Test.YtdgjhclncjoonaaRv
import Derived.Test.YtdgjhclncjoonaaQj
import Derived.Deep.Cut
import Derived.Deep.CutRange
namespace Go.Proofs.Ytdgjhclncjoonaa
open Go.RowKit

theorem mz_stepq {B : Nat} {wr w' : World} {a : Option Addr} {l : List Ms} (h : Mz (fun g => B ≤ g ∧ g < wr.heap.size) wr a l) (hb : Below wr.heap.size wr w') : Mz (fun g => B ≤ g ∧ g < w'.heap.size) w' a l :=
  Mz.to h fun g hg => ⟨⟨hg.1, Nat.lt_of_lt_of_le hg.2 hb.size⟩, hb.block g hg.2⟩
theorem mz_set {B : Nat} {wr W' : World} {a : Option Addr} {l : List Ms} (h : Mz (fun g => B ≤ g ∧ g < wr.heap.size) wr a l) (hs : W'.heap.size = wr.heap.size) (ho : ∀ g, B ≤ g → W'.heap[g]? = wr.heap[g]?) : Mz (fun g => B ≤ g ∧ g < W'.heap.size) W' a l :=
  Mz.to h fun g hg => ⟨⟨hg.1, by omega⟩, ho g hg.1⟩
theorem rz_set {B : Nat} {wr W' : World} {n : Nat} {cs : List Value} {t : Dt.Tr n} (h : Rz (fun g => B ≤ g ∧ g < wr.heap.size) wr n cs t) (hs : W'.heap.size = wr.heap.size) (ho : ∀ g, B ≤ g → W'.heap[g]? = wr.heap[g]?) : Rz (fun g => B ≤ g ∧ g < W'.heap.size) W' n cs t :=
  Rz.to (fun g hg => ⟨⟨hg.1, by omega⟩, ho g hg.1⟩) _ _ _ h

theorem Best.no {pr : Nat → Int} {i k : Nat} (h : Best false pr i k) (hc : ¬ pr i < pr k) : Best false pr (i + 1) k := by
  refine ⟨by have := h.1; omega, fun c hc' => ?_⟩
  by_cases e : c = i
  · subst e
    have hk := h.1
    unfold nb ahd gf
    simp only [ne_eq, ite_not, Bool.false_eq_true, if_false]
    split
    · simp; omega
    · simp; omega
  · exact h.2 c (by omega)
theorem Best.yes {pr : Nat → Int} {i k : Nat} (h : Best false pr i k) (hc : pr i < pr k) : Best false pr (i + 1) i := by
  refine ⟨by omega, fun c hc' => ?_⟩
  by_cases e : c = i
  · subst e; exact nb.refl _ _
  · have hb := h.2 c (by omega)
    unfold nb ahd gf at *
    simp only [ne_eq, ite_not, Bool.false_eq_true, if_false] at *
    split at hb
    · split
      · omega
      · simp; omega
    · simp at hb
      split
      · omega
      · simp; omega
theorem Best.one0 (pr : Nat → Int) : Best false pr 1 0 := ⟨by decide, fun c hc => by
  obtain rfl : c = 0 := by omega
  exact nb.refl _ _⟩

set_option maxRecDepth 100000 in
set_option maxHeartbeats 8000000 in
theorem rput_any (l : List Ms) (ad : Option Addr) (cap : Nat) (r dr room drop : Int) (x : Ms) (d : Bo) (w : World) (hl : l.length ≤ 1400) (hI : Mw w ad l) (hp : Sm (l ++ [x])) (hx : Dt.Rep w x.n d.vs x.t) (hr : 0 ≤ r) (hr2 : r ≤ 4611686018427387904) (hd : 0 ≤ dr) (hd2 : dr ≤ 4611686018427387904) :
    Calls Try.prog 11 #[.agg #[.slice ad l.length cap, .int .i64 r, .int .i64 dr], .int .i64 room, .int .i64 drop, .agg (x.cs d)] w (PutP w l r dr room drop x) := by
  obtain ⟨W, hW⟩ : ∃ W, W = (((w.alloc (.cells #[.slice ad l.length cap, .int .i64 r, .int .i64 dr] 24)).alloc (.cells #[.int .i64 x.id, .string x.tp, .int .i64 d.k, .int .i64 d.i, .int .u64 d.u, .string d.s, .slice d.a d.l d.c, .int .i64 x.ti, .int .i64 x.un, .string x.rp, .int .i64 x.co, .int .i64 x.pr, .int .i64 x.ho] 30)).alloc (.cells #[.slice none 0 0, .int .i64 0, .int .i64 0] 24)).alloc (.cells #[.int .i64 0, .string ⟨#[]⟩, .int .i64 0, .int .i64 0, .int .u64 0, .string ⟨#[]⟩, .slice none 0 0, .int .i64 0, .int .i64 0, .string ⟨#[]⟩, .int .i64 0, .int .i64 0, .int .i64 0] 30) := ⟨_, rfl⟩
  have B0 : Below w.heap.size w W := by rw [hW]; exact ((below2 w _ _).alloc (by simp; omega) _).alloc (by simp; omega) _
  have Q0 : Bk W w.heap.size #[.slice ad l.length cap, .int .i64 r, .int .i64 dr] 24 := by rw [hW]; exact (((Bk.new w _ _).alloc _).alloc _).alloc _
  have M0 : Bk W (w.heap.size + 1) #[.int .i64 x.id, .string x.tp, .int .i64 d.k, .int .i64 d.i, .int .u64 d.u, .string d.s, .slice d.a d.l d.c, .int .i64 x.ti, .int .i64 x.un, .string x.rp, .int .i64 x.co, .int .i64 x.pr, .int .i64 x.ho] 30 := by rw [hW]; exact ((Bk.new2 w _ _ _).alloc _).alloc _
  have RQ0 : Bk W (w.heap.size + 1 + 1) #[.slice none 0 0, .int .i64 0, .int .i64 0] 24 := by
    rw [hW]
    have := (Bk.new2 (w.alloc (.cells #[.slice ad l.length cap, .int .i64 r, .int .i64 dr] 24)) (.cells #[.int .i64 x.id, .string x.tp, .int .i64 d.k, .int .i64 d.i, .int .u64 d.u, .string d.s, .slice d.a d.l d.c, .int .i64 x.ti, .int .i64 x.un, .string x.rp, .int .i64 x.co, .int .i64 x.pr, .int .i64 x.ho] 30) #[.slice none 0 0, .int .i64 0, .int .i64 0] 24).alloc (.cells #[.int .i64 0, .string ⟨#[]⟩, .int .i64 0, .int .i64 0, .int .u64 0, .string ⟨#[]⟩, .slice none 0 0, .int .i64 0, .int .i64 0, .string ⟨#[]⟩, .int .i64 0, .int .i64 0, .int .i64 0] 30)
    simpa only [World.size_alloc] using this
  have RM0 : Bk W (w.heap.size + 1 + 1 + 1) #[.int .i64 0, .string ⟨#[]⟩, .int .i64 0, .int .i64 0, .int .u64 0, .string ⟨#[]⟩, .slice none 0 0, .int .i64 0, .int .i64 0, .string ⟨#[]⟩, .int .i64 0, .int .i64 0, .int .i64 0] 30 := by
    rw [hW]
    have := Bk.new2 ((w.alloc (.cells #[.slice ad l.length cap, .int .i64 r, .int .i64 dr] 24)).alloc (.cells #[.int .i64 x.id, .string x.tp, .int .i64 d.k, .int .i64 d.i, .int .u64 d.u, .string d.s, .slice d.a d.l d.c, .int .i64 x.ti, .int .i64 x.un, .string x.rp, .int .i64 x.co, .int .i64 x.pr, .int .i64 x.ho] 30)) (.cells #[.slice none 0 0, .int .i64 0, .int .i64 0] 24) #[.int .i64 0, .string ⟨#[]⟩, .int .i64 0, .int .i64 0, .int .u64 0, .string ⟨#[]⟩, .slice none 0 0, .int .i64 0, .int .i64 0, .string ⟨#[]⟩, .int .i64 0, .int .i64 0, .int .i64 0] 30
    simpa only [World.size_alloc] using this
  have hWs : W.heap.size = w.heap.size + 4 := by rw [hW]; show _ = _; simp
  have HC := Lib.hid (rcopy_any l ad cap r dr W (by omega) (Mw.below hI B0) (fun y hy => hp y (by simp [hy])))
  have HP := Lib.hid hp
  have HXR := Lib.hid hx
  obtain ⟨q0, q1, q2⟩ := Q0.c3
  have HW := Lib.hid hW.symm
  clear hI hp hx hW
  go_enter Try.func11, Try.ntmps11
  go_wp2_with (rw [HW.out])
  refine HC.out.mono ?_
  rintro e w0 ⟨sl, xs, rfl, m0, b0⟩
  obtain ⟨a1, c1, rfl, -⟩ := m0.mz (F' := fun _ => True) (fun _ _ => trivial) (fun _ _ => trivial)
  have hs0 := b0.size
  clear q0 q1 q2 HW HC
  obtain ⟨w1, hw1⟩ : ∃ w1, w1 = ((w0.setCell ⟨w.heap.size, 0, none⟩ (.slice a1 l.length c1)).setCell ⟨w.heap.size, 1, none⟩ (.int .i64 r)).setCell ⟨w.heap.size, 2, none⟩ (.int .i64 dr) := ⟨_, rfl⟩
  have Q1 : Bk w1 w.heap.size #[.slice a1 l.length c1, .int .i64 r, .int .i64 dr] 24 := by rw [hw1]; exact Bk.full3 (Q0.step b0) _ _ _
  have M1 : Bk w1 (w.heap.size + 1) #[.int .i64 x.id, .string x.tp, .int .i64 d.k, .int .i64 d.i, .int .u64 d.u, .string d.s, .slice d.a d.l d.c, .int .i64 x.ti, .int .i64 x.un, .string x.rp, .int .i64 x.co, .int .i64 x.pr, .int .i64 x.ho] 30 := by rw [hw1]; exact Bk.set3 (M0.step b0) (by omega) _ _ _
  have RQ1 : Bk w1 (w.heap.size + 1 + 1) #[.slice none 0 0, .int .i64 0, .int .i64 0] 24 := by rw [hw1]; exact Bk.set3 (RQ0.step b0) (by omega) _ _ _
  have RM1 : Bk w1 (w.heap.size + 1 + 1 + 1) #[.int .i64 0, .string ⟨#[]⟩, .int .i64 0, .int .i64 0, .int .u64 0, .string ⟨#[]⟩, .slice none 0 0, .int .i64 0, .int .i64 0, .string ⟨#[]⟩, .int .i64 0, .int .i64 0, .int .i64 0] 30 := by rw [hw1]; exact Bk.set3 (RM0.step b0) (by omega) _ _ _
  have BW1 : Below w.heap.size w w1 := by rw [hw1]; exact below_set3 (B0.trans (b0.mono (by omega))) (Nat.le_refl _) _ _ _
  have hs1 : w1.heap.size = w0.heap.size := by rw [hw1]; simp only [World.size_setCell]
  have OU : Ou (w.heap.size + 4) w.heap.size l a1 c1 r dr xs w1 := by
    have oth : ∀ g, w.heap.size + 4 ≤ g → w1.heap[g]? = w0.heap[g]? := fun g hg => by rw [hw1, set3_heap _ _ _ (by omega)]
    exact ⟨Q1, (Mp.mono (L' := w.heap.size + 4) m0 (by omega)).to (by omega) (fun g hg => oth g (by have := (m0.own_lt g hg).1; omega)) (fun g hg => ⟨⟨by omega, by have := hg.2.1; omega, hg.2.2⟩, oth g (by omega)⟩)⟩
  have hz : w.heap.size + 4 ≤ w1.heap.size := by omega
  have HM : Hid (∀ wx, Below w.heap.size w wx → Calls Try.prog 22 #[.agg (x.cs d)] wx fun e w' => ∃ d' : Bo, e = .returned (.agg (x.cs d')) ∧ Rz (fun g => wx.heap.size ≤ g ∧ g < w'.heap.size) w' x.n d'.vs x.t ∧ Below wx.heap.size wx w') := fun wx hb => cmsg_any x d wx (Dt.Rep.below hb _ _ _ HXR.out) (HP.out x (by simp))
  obtain ⟨q0, q1, q2⟩ := (Q0.step b0).c3
  have qf := (Q0.step b0).f
  obtain ⟨k0, k1, k2⟩ := Q1.c3
  have kf := Q1.f
  have HW1 := Lib.hid hw1.symm
  have OUH := Lib.hid OU
  have BH1 := Lib.hid BW1
  have MH := Lib.hid M1
  have RQH := Lib.hid RQ1
  have RMH := Lib.hid RM1
  have own1 : ∀ g, (Value.slice a1 l.length c1).ownBlock = some g → w.heap.size + 4 ≤ g := fun g hg => (OU.m.own_lt g hg).1
  have OWN := Lib.hid own1
  clear hw1 m0 b0 B0 Q0 M0 RQ0 RM0 hWs hs0 hs1 own1 OU BW1 M1 RQ1 RM1 Q1 HXR
  by_cases h1 : (l.length : Int) < room
  · have TOP : Hid (∀ e w', PuP w (l ++ [x]) r dr mZ false 0 e w' → PutP w l r dr room drop x e w') := fun e w' h => ⟨fun _ => h, fun hn => absurd h1 hn⟩
    have XB5 : Bk w1.drew (w.heap.size + 1) #[.int .i64 x.id, .string x.tp, .int .i64 d.k, .int .i64 d.i, .int .u64 d.u, .string d.s, .slice d.a d.l d.c, .int .i64 x.ti, .int .i64 x.un, .string x.rp, .int .i64 x.co, .int .i64 x.pr, .int .i64 x.ho] 30 := MH.out
    have OU5 : Hid (Ou (w.heap.size + 4) w.heap.size l a1 c1 r dr xs w1.drew) := OUH.out.step (Below.refl _ _).drew
    have HC5 := Lib.hid (HM.out w1.drew BH1.out.drew)
    have hO5 : w.heap.size < w.heap.size + 4 := by omega
    have hOo5 : some w.heap.size ≠ (Value.slice a1 l.length c1).ownBlock := fun e => by have := OWN.out _ e.symm; omega
    have hXo5 : some (w.heap.size + 1) ≠ (Value.slice a1 l.length c1).ownBlock := fun e => by have := OWN.out _ e.symm; omega
    have hXO : w.heap.size + 1 ≠ w.heap.size := by omega
    have hl5 : l.length + [x].length ≤ 1000000 := by simp; omega
    have BD : Hid (Below w.heap.size w w1.drew) := BH1.out.drew
    have RQD : Hid (Bk w1.drew (w.heap.size + 1 + 1) #[.slice none 0 0, .int .i64 0, .int .i64 0] 24) := RQH.out
    have RMD : Hid (Bk w1.drew (w.heap.size + 1 + 1 + 1) #[.int .i64 0, .string ⟨#[]⟩, .int .i64 0, .int .i64 0, .int .u64 0, .string ⟨#[]⟩, .slice none 0 0, .int .i64 0, .int .i64 0, .string ⟨#[]⟩, .int .i64 0, .int .i64 0, .int .i64 0] 30) := RMH.out
    clear OUH
    go_wp2_with (rw [HW1.out])
    clear q0 q1 q2 qf k0 k1 k2 kf HW1 BH1 MH RQH RMH
    have XS : Hid (∀ wx, Bk wx (w.heap.size + 1) #[.int .i64 x.id, .string x.tp, .int .i64 d.k, .int .i64 d.i, .int .u64 d.u, .string d.s, .slice d.a d.l d.c, .int .i64 x.ti, .int .i64 x.un, .string x.rp, .int .i64 x.co, .int .i64 x.pr, .int .i64 x.ho] 30 → (wx.cell? ⟨w.heap.size + 1, 0, none⟩ = some (.int .i64 x.id) ∧ wx.cell? ⟨w.heap.size + 1, 1, none⟩ = some (.string x.tp) ∧ wx.cell? ⟨w.heap.size + 1, 2, none⟩ = some (.int .i64 d.k) ∧ wx.cell? ⟨w.heap.size + 1, 3, none⟩ = some (.int .i64 d.i) ∧ wx.cell? ⟨w.heap.size + 1, 4, none⟩ = some (.int .u64 d.u) ∧ wx.cell? ⟨w.heap.size + 1, 5, none⟩ = some (.string d.s) ∧ wx.cell? ⟨w.heap.size + 1, 6, none⟩ = some (.slice d.a d.l d.c) ∧ wx.cell? ⟨w.heap.size + 1, 7, none⟩ = some (.int .i64 x.ti) ∧ wx.cell? ⟨w.heap.size + 1, 8, none⟩ = some (.int .i64 x.un) ∧ wx.cell? ⟨w.heap.size + 1, 9, none⟩ = some (.string x.rp) ∧ wx.cell? ⟨w.heap.size + 1, 10, none⟩ = some (.int .i64 x.co) ∧ wx.cell? ⟨w.heap.size + 1, 11, none⟩ = some (.int .i64 x.pr) ∧ wx.cell? ⟨w.heap.size + 1, 12, none⟩ = some (.int .i64 x.ho))) := fun wx h => h.c13
    refine wp_region_held_drew (S := (fun wx => wx.cell? ⟨w.heap.size + 1, 0, none⟩ = some (.int .i64 x.id) ∧ wx.cell? ⟨w.heap.size + 1, 1, none⟩ = some (.string x.tp) ∧ wx.cell? ⟨w.heap.size + 1, 2, none⟩ = some (.int .i64 d.k) ∧ wx.cell? ⟨w.heap.size + 1, 3, none⟩ = some (.int .i64 d.i) ∧ wx.cell? ⟨w.heap.size + 1, 4, none⟩ = some (.int .u64 d.u) ∧ wx.cell? ⟨w.heap.size + 1, 5, none⟩ = some (.string d.s) ∧ wx.cell? ⟨w.heap.size + 1, 6, none⟩ = some (.slice d.a d.l d.c) ∧ wx.cell? ⟨w.heap.size + 1, 7, none⟩ = some (.int .i64 x.ti) ∧ wx.cell? ⟨w.heap.size + 1, 8, none⟩ = some (.int .i64 x.un) ∧ wx.cell? ⟨w.heap.size + 1, 9, none⟩ = some (.string x.rp) ∧ wx.cell? ⟨w.heap.size + 1, 10, none⟩ = some (.int .i64 x.co) ∧ wx.cell? ⟨w.heap.size + 1, 11, none⟩ = some (.int .i64 x.pr) ∧ wx.cell? ⟨w.heap.size + 1, 12, none⟩ = some (.int .i64 x.ho))) (by kernel_rfl) (XS.out _ XB5) (fun hHeld => ?_)
    have b0 : Below w1.drew.heap.size w1.drew w1.drew := Below.refl _ _
    generalize w1.drew = v9 at *
    refine wpAnyH_take (i := 0) (oi := { dst := some 22, op := Op.fieldAddr 24 (Operand.tmp 4) 0, type := 0, pos := _, after := #[], guard := none }) (v := ?tra1) rfl (by kernel_rfl) (by kernel_rfl) (by kernel_rfl) (fun _ _ _ h => h) (Or.inl ⟨by rfl, ?ura1⟩) (by assumption) ?rra1
    case ura1 => (intro w hSw; (try dsimp only at hSw); go_simp; (try with_reducible rfl))
    simp only [Act.put, List.setIfInBounds_toArray, List.set_cons_zero, List.set_cons_succ]
    refine wpAnyH_take (i := 2) (oi := { dst := some 24, op := Op.load 30 (Operand.tmp 7), type := 30, pos := _, after := #[], guard := none }) (v := ?tra2) rfl (by kernel_rfl) (by kernel_rfl) (by kernel_rfl) (fun _ _ _ h => h) (Or.inl ⟨by rfl, ?ura2⟩) (by assumption) ?rra2
    case ura2 => (intro w hSw; (try dsimp only at hSw); go_simp; (try with_reducible rfl))
    simp only [Act.put, List.setIfInBounds_toArray, List.set_cons_zero, List.set_cons_succ]
    refine wpAnyH_ready (rs := [1, 3]) (by kernel_rfl) (by simp) ?_
    refine AllReadyH.cons (o := { dst := some 23, op := Op.load 22 (Operand.tmp 22), type := 22, pos := _, after := #[{ on := 0, ground := Ground.data }], guard := none }) rfl (fun K hK => ?_) (AllReadyH.cons (o := { dst := some 25, op := Op.call { callee := Callee.value (Operand.func 22), args := #[Operand.tmp 24], argTypes := #[30] }, type := 30, pos := _, after := #[{ on := 2, ground := Ground.data }], guard := none }) rfl (fun K hK => ?_) AllReadyH.nil)
    · obtain ⟨p0, p1, p2⟩ := (OU5.out.step b0).q.c3
      go_simp
      refine hK.out _ _ (XS.out _ (XB5.step b0)) (fun hH18 => ?_)
      clear p0 p1 p2
      clear hK K
      (try simp only [Act.put, List.setIfInBounds_toArray, List.set_cons_zero, List.set_cons_succ])
      refine wpAnyH_ready (rs := [3]) (by kernel_rfl) (by simp) ?_
      refine AllReadyH.cons (o := { dst := some 25, op := Op.call { callee := Callee.value (Operand.func 22), args := #[Operand.tmp 24], argTypes := #[30] }, type := 30, pos := _, after := #[{ on := 2, ground := Ground.data }], guard := none }) rfl (fun K hK => ?_) AllReadyH.nil
      go_simp
      refine HC5.out.mono ?_
      rintro e v1 ⟨d', rfl, r1, e1⟩
      have b1 := e1
      have r1h := Lib.hid r1
      clear r1 e1
      refine hK.out _ _ (XS.out _ (XB5.step b1)) (fun hH19 => ?_)
      clear hK K
      (try simp only [Act.put, List.setIfInBounds_toArray, List.set_cons_zero, List.set_cons_succ])
      refine wpAnyH_ready (rs := [4]) (by kernel_rfl) (by simp) ?_
      refine AllReadyH.cons (o := { dst := some 26, op := Op.buildSlice 22 1 #[(0, Operand.tmp 25)], type := 22, pos := _, after := #[{ on := 3, ground := Ground.data }], guard := none }) rfl (fun K hK => ?_) AllReadyH.nil
      go_simp
      have b2 : Below v9.heap.size v9 (v1.alloc (.cells #[.int .i64 x.id, .string x.tp, .int .i64 d'.k, .int .i64 d'.i, .int .u64 d'.u, .string d'.s, .slice d'.a d'.l d'.c, .int .i64 x.ti, .int .i64 x.un, .string x.rp, .int .i64 x.co, .int .i64 x.pr, .int .i64 x.ho] 30)) := b1.trans ((below1 v1 _).mono b1.size)
      have AP1 := Lib.hid (ou_step OU5.out hO5 x d' r1h.out b1)
      generalize hN20 : v1.heap.size = N2 at *
      generalize hV20 : v1.alloc (.cells #[.int .i64 x.id, .string x.tp, .int .i64 d'.k, .int .i64 d'.i, .int .u64 d'.u, .string d'.s, .slice d'.a d'.l d'.c, .int .i64 x.ti, .int .i64 x.un, .string x.rp, .int .i64 x.co, .int .i64 x.pr, .int .i64 x.ho] 30) = v2 at *
      refine hK.out _ _ (XS.out _ (XB5.step b2)) (fun hH20 => ?_)
      clear hK K
      (try simp only [Act.put, List.setIfInBounds_toArray, List.set_cons_zero, List.set_cons_succ])
      refine wpAnyH_ready (rs := [5]) (by kernel_rfl) (by simp) ?_
      refine AllReadyH.cons (o := { dst := some 27, op := Op.call { callee := Callee.builtin Builtin.append, args := #[Operand.tmp 23, Operand.tmp 26], argTypes := #[22, 22] }, type := 22, pos := _, after := #[{ on := 1, ground := Ground.data }, { on := 4, ground := Ground.data }, { on := 3, ground := Ground.chain }], guard := none }) rfl (fun K hK => ?_) AllReadyH.nil
      rw [if_pos (by rfl)]
      refine wp_mapp (.tmp 23) (.tmp 26) rfl _ _ l _ xs rfl AP1.out.1 N2 0 1 [x] rfl AP1.out.2.1 (by simp) hl5 AP1.out.2.2.1 ?_
      intro sl' xs' v3 m3 g3 a3
      obtain ⟨oth3, ⟨a3', c3', rfl⟩, E3⟩ := AP1.out.2.2.2 sl' xs' v3 m3 g3 a3
      have E4 := Lib.hid (E3 a3' c3' rfl)
      have OB3 := (oth3 _ OU5.out.q.lt hOo5).trans OU5.out.q
      have XB3 := (oth3 _ XB5.lt hXo5).trans XB5
      clear m3 g3 a3 E3 oth3
      refine hK.out _ _ (XS.out _ XB3) (fun hH21 => ?_)
      clear hK K
      (try simp only [Act.put, List.setIfInBounds_toArray, List.set_cons_zero, List.set_cons_succ])
      refine wpAnyH_take (i := 6) (oi := { dst := some 28, op := Op.fieldAddr 24 (Operand.tmp 4) 0, type := 0, pos := _, after := #[{ on := 0, ground := Ground.phase }, { on := 1, ground := Ground.phase }, { on := 2, ground := Ground.phase }, { on := 3, ground := Ground.phase }, { on := 4, ground := Ground.phase }, { on := 5, ground := Ground.phase }], guard := none }) (v := ?tra3) rfl (by kernel_rfl) (by kernel_rfl) (by kernel_rfl) (fun _ _ _ h => h) (Or.inl ⟨by rfl, ?ura3⟩) (by assumption) ?rra3
      case ura3 => (intro w hSw; (try dsimp only at hSw); go_simp; (try with_reducible rfl))
      simp only [Act.put, List.setIfInBounds_toArray, List.set_cons_zero, List.set_cons_succ]
      refine wpAnyH_ready (rs := [7]) (by kernel_rfl) (by simp) ?_
      refine AllReadyH.cons (o := { dst := none, op := Op.store 22 (Operand.tmp 28) (Operand.tmp 27), type := 0, pos := _, after := #[{ on := 6, ground := Ground.data }, { on := 5, ground := Ground.data }, { on := 5, ground := Ground.chain }, { on := 0, ground := Ground.phase }, { on := 1, ground := Ground.phase }, { on := 2, ground := Ground.phase }, { on := 3, ground := Ground.phase }, { on := 4, ground := Ground.phase }, { on := 5, ground := Ground.phase }], guard := none }) rfl (fun K hK => ?_) AllReadyH.nil
      obtain ⟨p0, p1, p2⟩ := Bk.c3 OB3
      have pf := Bk.f OB3
      go_simp
      refine hK.out _ _ (XS.out _ (Bk.other XB3 _ _ hXO)) (fun hH22 => ?_)
      clear p0 p1 p2 pf
      clear hK K
      (try simp only [Act.put, List.setIfInBounds_toArray, List.set_cons_zero, List.set_cons_succ])
      refine wpAnyH_done (by kernel_rfl) ?_ _
      obtain ⟨ou4, kb4⟩ := E4.out (v3.setCell ⟨w.heap.size, 0, none⟩ (.slice a3' (l.length + 1) c3')) (by rw [List.length_append]; rfl)
      have hs4 := kb4.size
      generalize v3.setCell ⟨w.heap.size, 0, none⟩ (.slice a3' (l.length + 1) c3') = v4 at *
      have hrq := (kb4.block (w.heap.size + 1 + 1) (by omega) (by omega)).trans RQD.out
      have hrm := (kb4.block (w.heap.size + 1 + 1 + 1) (by omega) (by omega)).trans RMD.out
      have bw4 : Hid (Below w.heap.size w v4) := Kb.below BD.out kb4 (by omega) (Nat.le_refl _)
      obtain ⟨k0, k1, k2⟩ := ou4.q.c3
      rw [List.length_append] at k0
      obtain ⟨p0, p1, p2⟩ := Bk.c3 hrq
      have pf := Bk.f hrq
      obtain ⟨g0, g1, g2, g3, g4, g5, g6, g7, g8, g9, g10, g11, g12⟩ := Bk.c13 hrm
      have gf := Bk.f hrm
      have M4 : Hid (Mz (fun g => w.heap.size + 4 ≤ g ∧ g < v4.heap.size) v4 a3' (l ++ [x])) := by
        obtain ⟨a4, c4, e4, mz4⟩ := ou4.m.mz (F' := fun g => w.heap.size + 4 ≤ g ∧ g < v4.heap.size) (fun g hg => ⟨hg.1, hg.2.1⟩) (fun g hg => ou4.m.own_lt g hg)
        simp only [Value.slice.injEq] at e4
        obtain ⟨rfl, -, rfl⟩ := e4
        exact mz4
      clear ou4 kb4 hrq hrm E4 OB3 XB3 XB5 OU5 AP1
      go_wp2_with fail
      exact bodyPost_ret (v := .tuple #[.agg #[.slice a3' (l.length + 1) c3', .int .i64 r, .int .i64 dr], .agg (mZ.cs zD), .bool false, .int .i64 0]) (by simp [results, Try.results11, go_sem, World.cell?_setCell_same, World.cell?_setCell_other, p0, p1, p2, g0, g1, g2, g3, g4, g5, g6, g7, g8, g9, g10, g11, g12, mZ, zD]) rfl (TOP.out _ _ (PuP.of (by simp) (Nat.le_add_right _ _) M4.out (mZ_rz _ _) (below_set13 (below_set3 bw4.out (by omega) _ _ _) (by omega) _ _ _ _ _ _ _ _ _ _ _ _ _) (by simp) (fun g hg => by rw [set13_heap _ _ _ (by omega), set3_heap _ _ _ (by omega)])))
    · go_simp
      refine HC5.out.mono ?_
      rintro e v1 ⟨d', rfl, r1, e1⟩
      have b1 := e1
      have r1h := Lib.hid r1
      clear r1 e1
      refine hK.out _ _ (XS.out _ (XB5.step b1)) (fun hH23 => ?_)
      clear hK K
      (try simp only [Act.put, List.setIfInBounds_toArray, List.set_cons_zero, List.set_cons_succ])
      refine wpAnyH_ready (rs := [1, 4]) (by kernel_rfl) (by simp) ?_
      refine AllReadyH.cons (o := { dst := some 23, op := Op.load 22 (Operand.tmp 22), type := 22, pos := _, after := #[{ on := 0, ground := Ground.data }], guard := none }) rfl (fun K hK => ?_) (AllReadyH.cons (o := { dst := some 26, op := Op.buildSlice 22 1 #[(0, Operand.tmp 25)], type := 22, pos := _, after := #[{ on := 3, ground := Ground.data }], guard := none }) rfl (fun K hK => ?_) AllReadyH.nil)
      · obtain ⟨p0, p1, p2⟩ := (OU5.out.step b1).q.c3
        go_simp
        refine hK.out _ _ (XS.out _ (XB5.step b1)) (fun hH24 => ?_)
        clear p0 p1 p2
        clear hK K
        (try simp only [Act.put, List.setIfInBounds_toArray, List.set_cons_zero, List.set_cons_succ])
        refine wpAnyH_ready (rs := [4]) (by kernel_rfl) (by simp) ?_
        refine AllReadyH.cons (o := { dst := some 26, op := Op.buildSlice 22 1 #[(0, Operand.tmp 25)], type := 22, pos := _, after := #[{ on := 3, ground := Ground.data }], guard := none }) rfl (fun K hK => ?_) AllReadyH.nil
        go_simp
        have b2 : Below v9.heap.size v9 (v1.alloc (.cells #[.int .i64 x.id, .string x.tp, .int .i64 d'.k, .int .i64 d'.i, .int .u64 d'.u, .string d'.s, .slice d'.a d'.l d'.c, .int .i64 x.ti, .int .i64 x.un, .string x.rp, .int .i64 x.co, .int .i64 x.pr, .int .i64 x.ho] 30)) := b1.trans ((below1 v1 _).mono b1.size)
        have AP1 := Lib.hid (ou_step OU5.out hO5 x d' r1h.out b1)
        generalize hN25 : v1.heap.size = N2 at *
        generalize hV25 : v1.alloc (.cells #[.int .i64 x.id, .string x.tp, .int .i64 d'.k, .int .i64 d'.i, .int .u64 d'.u, .string d'.s, .slice d'.a d'.l d'.c, .int .i64 x.ti, .int .i64 x.un, .string x.rp, .int .i64 x.co, .int .i64 x.pr, .int .i64 x.ho] 30) = v2 at *
        refine hK.out _ _ (XS.out _ (XB5.step b2)) (fun hH25 => ?_)
        clear hK K
        (try simp only [Act.put, List.setIfInBounds_toArray, List.set_cons_zero, List.set_cons_succ])
        refine wpAnyH_ready (rs := [5]) (by kernel_rfl) (by simp) ?_
        refine AllReadyH.cons (o := { dst := some 27, op := Op.call { callee := Callee.builtin Builtin.append, args := #[Operand.tmp 23, Operand.tmp 26], argTypes := #[22, 22] }, type := 22, pos := _, after := #[{ on := 1, ground := Ground.data }, { on := 4, ground := Ground.data }, { on := 3, ground := Ground.chain }], guard := none }) rfl (fun K hK => ?_) AllReadyH.nil
        rw [if_pos (by rfl)]
        refine wp_mapp (.tmp 23) (.tmp 26) rfl _ _ l _ xs rfl AP1.out.1 N2 0 1 [x] rfl AP1.out.2.1 (by simp) hl5 AP1.out.2.2.1 ?_
        intro sl' xs' v3 m3 g3 a3
        obtain ⟨oth3, ⟨a3', c3', rfl⟩, E3⟩ := AP1.out.2.2.2 sl' xs' v3 m3 g3 a3
        have E4 := Lib.hid (E3 a3' c3' rfl)
        have OB3 := (oth3 _ OU5.out.q.lt hOo5).trans OU5.out.q
        have XB3 := (oth3 _ XB5.lt hXo5).trans XB5
        clear m3 g3 a3 E3 oth3
        refine hK.out _ _ (XS.out _ XB3) (fun hH26 => ?_)
        clear hK K
        (try simp only [Act.put, List.setIfInBounds_toArray, List.set_cons_zero, List.set_cons_succ])
        refine wpAnyH_take (i := 6) (oi := { dst := some 28, op := Op.fieldAddr 24 (Operand.tmp 4) 0, type := 0, pos := _, after := #[{ on := 0, ground := Ground.phase }, { on := 1, ground := Ground.phase }, { on := 2, ground := Ground.phase }, { on := 3, ground := Ground.phase }, { on := 4, ground := Ground.phase }, { on := 5, ground := Ground.phase }], guard := none }) (v := ?tra4) rfl (by kernel_rfl) (by kernel_rfl) (by kernel_rfl) (fun _ _ _ h => h) (Or.inl ⟨by rfl, ?ura4⟩) (by assumption) ?rra4
        case ura4 => (intro w hSw; (try dsimp only at hSw); go_simp; (try with_reducible rfl))
        simp only [Act.put, List.setIfInBounds_toArray, List.set_cons_zero, List.set_cons_succ]
        refine wpAnyH_ready (rs := [7]) (by kernel_rfl) (by simp) ?_
        refine AllReadyH.cons (o := { dst := none, op := Op.store 22 (Operand.tmp 28) (Operand.tmp 27), type := 0, pos := _, after := #[{ on := 6, ground := Ground.data }, { on := 5, ground := Ground.data }, { on := 5, ground := Ground.chain }, { on := 0, ground := Ground.phase }, { on := 1, ground := Ground.phase }, { on := 2, ground := Ground.phase }, { on := 3, ground := Ground.phase }, { on := 4, ground := Ground.phase }, { on := 5, ground := Ground.phase }], guard := none }) rfl (fun K hK => ?_) AllReadyH.nil
        obtain ⟨p0, p1, p2⟩ := Bk.c3 OB3
        have pf := Bk.f OB3
        go_simp
        refine hK.out _ _ (XS.out _ (Bk.other XB3 _ _ hXO)) (fun hH27 => ?_)
        clear p0 p1 p2 pf
        clear hK K
        (try simp only [Act.put, List.setIfInBounds_toArray, List.set_cons_zero, List.set_cons_succ])
        refine wpAnyH_done (by kernel_rfl) ?_ _
        obtain ⟨ou4, kb4⟩ := E4.out (v3.setCell ⟨w.heap.size, 0, none⟩ (.slice a3' (l.length + 1) c3')) (by rw [List.length_append]; rfl)
        have hs4 := kb4.size
        generalize v3.setCell ⟨w.heap.size, 0, none⟩ (.slice a3' (l.length + 1) c3') = v4 at *
        have hrq := (kb4.block (w.heap.size + 1 + 1) (by omega) (by omega)).trans RQD.out
        have hrm := (kb4.block (w.heap.size + 1 + 1 + 1) (by omega) (by omega)).trans RMD.out
        have bw4 : Hid (Below w.heap.size w v4) := Kb.below BD.out kb4 (by omega) (Nat.le_refl _)
        obtain ⟨k0, k1, k2⟩ := ou4.q.c3
        rw [List.length_append] at k0
        obtain ⟨p0, p1, p2⟩ := Bk.c3 hrq
        have pf := Bk.f hrq
        obtain ⟨g0, g1, g2, g3, g4, g5, g6, g7, g8, g9, g10, g11, g12⟩ := Bk.c13 hrm
        have gf := Bk.f hrm
        have M4 : Hid (Mz (fun g => w.heap.size + 4 ≤ g ∧ g < v4.heap.size) v4 a3' (l ++ [x])) := by
          obtain ⟨a4, c4, e4, mz4⟩ := ou4.m.mz (F' := fun g => w.heap.size + 4 ≤ g ∧ g < v4.heap.size) (fun g hg => ⟨hg.1, hg.2.1⟩) (fun g hg => ou4.m.own_lt g hg)
          simp only [Value.slice.injEq] at e4
          obtain ⟨rfl, -, rfl⟩ := e4
          exact mz4
        clear ou4 kb4 hrq hrm E4 OB3 XB3 XB5 OU5 AP1
        go_wp2_with fail
        exact bodyPost_ret (v := .tuple #[.agg #[.slice a3' (l.length + 1) c3', .int .i64 r, .int .i64 dr], .agg (mZ.cs zD), .bool false, .int .i64 0]) (by simp [results, Try.results11, go_sem, World.cell?_setCell_same, World.cell?_setCell_other, p0, p1, p2, g0, g1, g2, g3, g4, g5, g6, g7, g8, g9, g10, g11, g12, mZ, zD]) rfl (TOP.out _ _ (PuP.of (by simp) (Nat.le_add_right _ _) M4.out (mZ_rz _ _) (below_set13 (below_set3 bw4.out (by omega) _ _ _) (by omega) _ _ _ _ _ _ _ _ _ _ _ _ _) (by simp) (fun g hg => by rw [set13_heap _ _ _ (by omega), set3_heap _ _ _ (by omega)])))
      · go_simp
        have b2 : Below v9.heap.size v9 (v1.alloc (.cells #[.int .i64 x.id, .string x.tp, .int .i64 d'.k, .int .i64 d'.i, .int .u64 d'.u, .string d'.s, .slice d'.a d'.l d'.c, .int .i64 x.ti, .int .i64 x.un, .string x.rp, .int .i64 x.co, .int .i64 x.pr, .int .i64 x.ho] 30)) := b1.trans ((below1 v1 _).mono b1.size)
        have AP1 := Lib.hid (ou_step OU5.out hO5 x d' r1h.out b1)
        generalize hN28 : v1.heap.size = N2 at *
        generalize hV28 : v1.alloc (.cells #[.int .i64 x.id, .string x.tp, .int .i64 d'.k, .int .i64 d'.i, .int .u64 d'.u, .string d'.s, .slice d'.a d'.l d'.c, .int .i64 x.ti, .int .i64 x.un, .string x.rp, .int .i64 x.co, .int .i64 x.pr, .int .i64 x.ho] 30) = v2 at *
        refine hK.out _ _ (XS.out _ (XB5.step b2)) (fun hH28 => ?_)
        clear hK K
        (try simp only [Act.put, List.setIfInBounds_toArray, List.set_cons_zero, List.set_cons_succ])
        refine wpAnyH_ready (rs := [1]) (by kernel_rfl) (by simp) ?_
        refine AllReadyH.cons (o := { dst := some 23, op := Op.load 22 (Operand.tmp 22), type := 22, pos := _, after := #[{ on := 0, ground := Ground.data }], guard := none }) rfl (fun K hK => ?_) AllReadyH.nil
        obtain ⟨p0, p1, p2⟩ := (OU5.out.step b2).q.c3
        go_simp
        refine hK.out _ _ (XS.out _ (XB5.step b2)) (fun hH29 => ?_)
        clear p0 p1 p2
        clear hK K
        (try simp only [Act.put, List.setIfInBounds_toArray, List.set_cons_zero, List.set_cons_succ])
        refine wpAnyH_ready (rs := [5]) (by kernel_rfl) (by simp) ?_
        refine AllReadyH.cons (o := { dst := some 27, op := Op.call { callee := Callee.builtin Builtin.append, args := #[Operand.tmp 23, Operand.tmp 26], argTypes := #[22, 22] }, type := 22, pos := _, after := #[{ on := 1, ground := Ground.data }, { on := 4, ground := Ground.data }, { on := 3, ground := Ground.chain }], guard := none }) rfl (fun K hK => ?_) AllReadyH.nil
        rw [if_pos (by rfl)]
        refine wp_mapp (.tmp 23) (.tmp 26) rfl _ _ l _ xs rfl AP1.out.1 N2 0 1 [x] rfl AP1.out.2.1 (by simp) hl5 AP1.out.2.2.1 ?_
        intro sl' xs' v3 m3 g3 a3
        obtain ⟨oth3, ⟨a3', c3', rfl⟩, E3⟩ := AP1.out.2.2.2 sl' xs' v3 m3 g3 a3
        have E4 := Lib.hid (E3 a3' c3' rfl)
        have OB3 := (oth3 _ OU5.out.q.lt hOo5).trans OU5.out.q
        have XB3 := (oth3 _ XB5.lt hXo5).trans XB5
        clear m3 g3 a3 E3 oth3
        refine hK.out _ _ (XS.out _ XB3) (fun hH30 => ?_)
        clear hK K
        (try simp only [Act.put, List.setIfInBounds_toArray, List.set_cons_zero, List.set_cons_succ])
        refine wpAnyH_take (i := 6) (oi := { dst := some 28, op := Op.fieldAddr 24 (Operand.tmp 4) 0, type := 0, pos := _, after := #[{ on := 0, ground := Ground.phase }, { on := 1, ground := Ground.phase }, { on := 2, ground := Ground.phase }, { on := 3, ground := Ground.phase }, { on := 4, ground := Ground.phase }, { on := 5, ground := Ground.phase }], guard := none }) (v := ?tra5) rfl (by kernel_rfl) (by kernel_rfl) (by kernel_rfl) (fun _ _ _ h => h) (Or.inl ⟨by rfl, ?ura5⟩) (by assumption) ?rra5
        case ura5 => (intro w hSw; (try dsimp only at hSw); go_simp; (try with_reducible rfl))
        simp only [Act.put, List.setIfInBounds_toArray, List.set_cons_zero, List.set_cons_succ]
        refine wpAnyH_ready (rs := [7]) (by kernel_rfl) (by simp) ?_
        refine AllReadyH.cons (o := { dst := none, op := Op.store 22 (Operand.tmp 28) (Operand.tmp 27), type := 0, pos := _, after := #[{ on := 6, ground := Ground.data }, { on := 5, ground := Ground.data }, { on := 5, ground := Ground.chain }, { on := 0, ground := Ground.phase }, { on := 1, ground := Ground.phase }, { on := 2, ground := Ground.phase }, { on := 3, ground := Ground.phase }, { on := 4, ground := Ground.phase }, { on := 5, ground := Ground.phase }], guard := none }) rfl (fun K hK => ?_) AllReadyH.nil
        obtain ⟨p0, p1, p2⟩ := Bk.c3 OB3
        have pf := Bk.f OB3
        go_simp
        refine hK.out _ _ (XS.out _ (Bk.other XB3 _ _ hXO)) (fun hH31 => ?_)
        clear p0 p1 p2 pf
        clear hK K
        (try simp only [Act.put, List.setIfInBounds_toArray, List.set_cons_zero, List.set_cons_succ])
        refine wpAnyH_done (by kernel_rfl) ?_ _
        obtain ⟨ou4, kb4⟩ := E4.out (v3.setCell ⟨w.heap.size, 0, none⟩ (.slice a3' (l.length + 1) c3')) (by rw [List.length_append]; rfl)
        have hs4 := kb4.size
        generalize v3.setCell ⟨w.heap.size, 0, none⟩ (.slice a3' (l.length + 1) c3') = v4 at *
        have hrq := (kb4.block (w.heap.size + 1 + 1) (by omega) (by omega)).trans RQD.out
        have hrm := (kb4.block (w.heap.size + 1 + 1 + 1) (by omega) (by omega)).trans RMD.out
        have bw4 : Hid (Below w.heap.size w v4) := Kb.below BD.out kb4 (by omega) (Nat.le_refl _)
        obtain ⟨k0, k1, k2⟩ := ou4.q.c3
        rw [List.length_append] at k0
        obtain ⟨p0, p1, p2⟩ := Bk.c3 hrq
        have pf := Bk.f hrq
        obtain ⟨g0, g1, g2, g3, g4, g5, g6, g7, g8, g9, g10, g11, g12⟩ := Bk.c13 hrm
        have gf := Bk.f hrm
        have M4 : Hid (Mz (fun g => w.heap.size + 4 ≤ g ∧ g < v4.heap.size) v4 a3' (l ++ [x])) := by
          obtain ⟨a4, c4, e4, mz4⟩ := ou4.m.mz (F' := fun g => w.heap.size + 4 ≤ g ∧ g < v4.heap.size) (fun g hg => ⟨hg.1, hg.2.1⟩) (fun g hg => ou4.m.own_lt g hg)
          simp only [Value.slice.injEq] at e4
          obtain ⟨rfl, -, rfl⟩ := e4
          exact mz4
        clear ou4 kb4 hrq hrm E4 OB3 XB3 XB5 OU5 AP1
        go_wp2_with fail
        exact bodyPost_ret (v := .tuple #[.agg #[.slice a3' (l.length + 1) c3', .int .i64 r, .int .i64 dr], .agg (mZ.cs zD), .bool false, .int .i64 0]) (by simp [results, Try.results11, go_sem, World.cell?_setCell_same, World.cell?_setCell_other, p0, p1, p2, g0, g1, g2, g3, g4, g5, g6, g7, g8, g9, g10, g11, g12, mZ, zD]) rfl (TOP.out _ _ (PuP.of (by simp) (Nat.le_add_right _ _) M4.out (mZ_rz _ _) (below_set13 (below_set3 bw4.out (by omega) _ _ _) (by omega) _ _ _ _ _ _ _ _ _ _ _ _ _) (by simp) (fun g hg => by rw [set13_heap _ _ _ (by omega), set3_heap _ _ _ (by omega)])))
  · by_cases h0 : drop = 0
    · subst h0
      have TOP : Hid (∀ e w', PuP w l r (dr + 1) x true 0 e w' → PutP w l r dr room 0 x e w') := fun e w' h => ⟨fun hn => absurd hn h1, fun _ => ⟨fun _ => h, fun h => by simp at h, fun h => absurd rfl h⟩⟩
      obtain ⟨Y, hY⟩ : ∃ Y, Y = w1.setCell ⟨w.heap.size, 2, none⟩ (.int .i64 (dr + 1)) := ⟨_, rfl⟩
      have Q5 : Bk Y.drew w.heap.size #[.slice a1 l.length c1, .int .i64 r, .int .i64 (dr + 1)] 24 := Bk.drew (by rw [hY]; exact OUH.out.q.set 2 _)
      have M5 : Bk Y.drew (w.heap.size + 1) #[.int .i64 x.id, .string x.tp, .int .i64 d.k, .int .i64 d.i, .int .u64 d.u, .string d.s, .slice d.a d.l d.c, .int .i64 x.ti, .int .i64 x.un, .string x.rp, .int .i64 x.co, .int .i64 x.pr, .int .i64 x.ho] 30 := Bk.drew (by rw [hY]; exact MH.out.other _ _ (by show w.heap.size + 1 ≠ w.heap.size; omega))
      have RQ5 : Bk Y.drew (w.heap.size + 1 + 1) #[.slice none 0 0, .int .i64 0, .int .i64 0] 24 := Bk.drew (by rw [hY]; exact RQH.out.other _ _ (by show w.heap.size + 1 + 1 ≠ w.heap.size; omega))
      have RM5 : Bk Y.drew (w.heap.size + 1 + 1 + 1) #[.int .i64 0, .string ⟨#[]⟩, .int .i64 0, .int .i64 0, .int .u64 0, .string ⟨#[]⟩, .slice none 0 0, .int .i64 0, .int .i64 0, .string ⟨#[]⟩, .int .i64 0, .int .i64 0, .int .i64 0] 30 := Bk.drew (by rw [hY]; exact RMH.out.other _ _ (by show w.heap.size + 1 + 1 + 1 ≠ w.heap.size; omega))
      have hYh : ∀ g, w.heap.size + 4 ≤ g → Y.heap[g]? = w1.heap[g]? := fun g hg => by rw [hY]; exact Below.heap_setCell _ _ _ _ (by show g ≠ w.heap.size; omega)
      have hYs : Y.heap.size = w1.heap.size := by rw [hY]; simp
      have M4 : Hid (Mz (fun g => w.heap.size + 4 ≤ g ∧ g < Y.drew.heap.size) Y.drew a1 l) := by
        obtain ⟨a4, c4, e4, mz4⟩ := OUH.out.m.mz (F' := fun g => w.heap.size + 4 ≤ g ∧ g < w1.heap.size) (fun g hg => ⟨hg.1, hg.2.1⟩) (fun g hg => OUH.out.m.own_lt g hg)
        simp only [Value.slice.injEq] at e4
        obtain ⟨rfl, -, rfl⟩ := e4
        exact mz_set (W' := Y.drew) mz4 hYs hYh
      have BW0 : Below w.heap.size w Y := by rw [hY]; exact BH1.out.setCell (Nat.le_refl _) _
      have BW5 : Hid (Below w.heap.size w Y.drew) := BW0.drew
      have hzY : w.heap.size + 4 ≤ Y.drew.heap.size := by show _ ≤ Y.heap.size; omega
      have HY := Lib.hid hY.symm
      clear hY hYh hYs BW0 OUH MH RQH RMH BH1
      go_wp2_with (first | rw [HW1.out] | rw [HY.out])
      clear q0 q1 q2 qf k0 k1 k2 kf HW1 HY
      have XS : Hid (∀ wx, Bk wx (w.heap.size) #[.slice a1 l.length c1, .int .i64 r, .int .i64 (dr + 1)] 24 → Bk wx (w.heap.size + 1) #[.int .i64 x.id, .string x.tp, .int .i64 d.k, .int .i64 d.i, .int .u64 d.u, .string d.s, .slice d.a d.l d.c, .int .i64 x.ti, .int .i64 x.un, .string x.rp, .int .i64 x.co, .int .i64 x.pr, .int .i64 x.ho] 30 → ((wx.cell? ⟨w.heap.size, 0, none⟩ = some (.slice a1 l.length c1) ∧ wx.cell? ⟨w.heap.size, 1, none⟩ = some (.int .i64 r) ∧ wx.cell? ⟨w.heap.size, 2, none⟩ = some (.int .i64 (dr + 1))) ∧ (wx.cell? ⟨w.heap.size + 1, 0, none⟩ = some (.int .i64 x.id) ∧ wx.cell? ⟨w.heap.size + 1, 1, none⟩ = some (.string x.tp) ∧ wx.cell? ⟨w.heap.size + 1, 2, none⟩ = some (.int .i64 d.k) ∧ wx.cell? ⟨w.heap.size + 1, 3, none⟩ = some (.int .i64 d.i) ∧ wx.cell? ⟨w.heap.size + 1, 4, none⟩ = some (.int .u64 d.u) ∧ wx.cell? ⟨w.heap.size + 1, 5, none⟩ = some (.string d.s) ∧ wx.cell? ⟨w.heap.size + 1, 6, none⟩ = some (.slice d.a d.l d.c) ∧ wx.cell? ⟨w.heap.size + 1, 7, none⟩ = some (.int .i64 x.ti) ∧ wx.cell? ⟨w.heap.size + 1, 8, none⟩ = some (.int .i64 x.un) ∧ wx.cell? ⟨w.heap.size + 1, 9, none⟩ = some (.string x.rp) ∧ wx.cell? ⟨w.heap.size + 1, 10, none⟩ = some (.int .i64 x.co) ∧ wx.cell? ⟨w.heap.size + 1, 11, none⟩ = some (.int .i64 x.pr) ∧ wx.cell? ⟨w.heap.size + 1, 12, none⟩ = some (.int .i64 x.ho)))) := fun wx h h2 => ⟨h.c3, h2.c13⟩
      refine wp_region_held_drew (S := (fun wx => (wx.cell? ⟨w.heap.size, 0, none⟩ = some (.slice a1 l.length c1) ∧ wx.cell? ⟨w.heap.size, 1, none⟩ = some (.int .i64 r) ∧ wx.cell? ⟨w.heap.size, 2, none⟩ = some (.int .i64 (dr + 1))) ∧ (wx.cell? ⟨w.heap.size + 1, 0, none⟩ = some (.int .i64 x.id) ∧ wx.cell? ⟨w.heap.size + 1, 1, none⟩ = some (.string x.tp) ∧ wx.cell? ⟨w.heap.size + 1, 2, none⟩ = some (.int .i64 d.k) ∧ wx.cell? ⟨w.heap.size + 1, 3, none⟩ = some (.int .i64 d.i) ∧ wx.cell? ⟨w.heap.size + 1, 4, none⟩ = some (.int .u64 d.u) ∧ wx.cell? ⟨w.heap.size + 1, 5, none⟩ = some (.string d.s) ∧ wx.cell? ⟨w.heap.size + 1, 6, none⟩ = some (.slice d.a d.l d.c) ∧ wx.cell? ⟨w.heap.size + 1, 7, none⟩ = some (.int .i64 x.ti) ∧ wx.cell? ⟨w.heap.size + 1, 8, none⟩ = some (.int .i64 x.un) ∧ wx.cell? ⟨w.heap.size + 1, 9, none⟩ = some (.string x.rp) ∧ wx.cell? ⟨w.heap.size + 1, 10, none⟩ = some (.int .i64 x.co) ∧ wx.cell? ⟨w.heap.size + 1, 11, none⟩ = some (.int .i64 x.pr) ∧ wx.cell? ⟨w.heap.size + 1, 12, none⟩ = some (.int .i64 x.ho)))) (by kernel_rfl) (XS.out _ Q5 M5) (fun hHeld => ?_)
      generalize Y.drew = v9 at *
      refine wpAnyH_take (i := 0) (oi := { dst := some 38, op := Op.load 24 (Operand.tmp 4), type := 24, pos := _, after := #[], guard := none }) (v := ?trb1) rfl (by kernel_rfl) (by kernel_rfl) (by kernel_rfl) (fun _ _ _ h => h) (Or.inl ⟨by rfl, ?urb1⟩) (by assumption) ?rrb1
      case urb1 => (intro w hSw; (try dsimp only at hSw); go_simp; (try with_reducible rfl))
      simp only [Act.put, List.setIfInBounds_toArray, List.set_cons_zero, List.set_cons_succ]
      refine wpAnyH_take (i := 1) (oi := { dst := some 39, op := Op.load 30 (Operand.tmp 7), type := 30, pos := _, after := #[], guard := none }) (v := ?trb2) rfl (by kernel_rfl) (by kernel_rfl) (by kernel_rfl) (fun _ _ _ h => h) (Or.inl ⟨by rfl, ?urb2⟩) (by assumption) ?rrb2
      case urb2 => (intro w hSw; (try dsimp only at hSw); go_simp; (try with_reducible rfl))
      simp only [Act.put, List.setIfInBounds_toArray, List.set_cons_zero, List.set_cons_succ]
      refine wpAnyH_ready (rs := [2]) (by kernel_rfl) (by simp) ?_
      refine AllReadyH.cons (o := { dst := some 40, op := Op.call { callee := Callee.value (Operand.func 22), args := #[Operand.tmp 39], argTypes := #[30] }, type := 30, pos := _, after := #[{ on := 1, ground := Ground.data }], guard := none }) rfl (fun K hK => ?_) AllReadyH.nil
      go_simp
      refine (HM.out _ BW5.out).mono ?_
      rintro e v32 ⟨d', rfl, r32, e32⟩
      have hs32 := BW5.out.size
      have ss32 := e32.size
      have Q32 := Bk.step Q5 e32
      have M32 := Bk.step M5 e32
      have RQ32 := Bk.step RQ5 e32
      have RM32 := Bk.step RM5 e32
      have mz32 := Lib.hid (mz_stepq M4.out e32)
      have bb32 := Lib.hid (BW5.out.trans (e32.mono BW5.out.size))
      have rz32 : Hid (Rz (fun g => w.heap.size + 4 ≤ g ∧ g < v32.heap.size) v32 x.n d'.vs x.t) := Rz.to (fun g hg => ⟨⟨by have := RM5.lt; omega, hg.2⟩, rfl⟩) _ _ _ r32
      clear r32 e32
      refine hK.out _ _ (XS.out _ Q32 M32) (fun hH32 => ?_)
      clear hK K
      (try simp only [Act.put, List.setIfInBounds_toArray, List.set_cons_zero, List.set_cons_succ])
      refine wpAnyH_ready (rs := [3]) (by kernel_rfl) (by simp) ?_
      refine AllReadyH.cons (o := { dst := none, op := Op.store 24 (Operand.tmp 8) (Operand.tmp 38), type := 0, pos := _, after := #[{ on := 0, ground := Ground.data }, { on := 2, ground := Ground.chain }, { on := 0, ground := Ground.phase }, { on := 1, ground := Ground.textOnly Departure.lateStores }, { on := 2, ground := Ground.textOnly Departure.lateStoresUnsure }], guard := none }) rfl (fun K hK => ?_) AllReadyH.nil
      obtain ⟨p0, p1, p2⟩ := Bk.c3 RQ32
      have pf := Bk.f RQ32
      go_simp
      clear pf p0 p1 p2
      have Q33 := Bk.set3 (M := w.heap.size + 1 + 1) Q32 (by omega) (.slice a1 l.length c1) (.int .i64 r) (.int .i64 (dr + 1))
      have M33 := Bk.set3 (M := w.heap.size + 1 + 1) M32 (by omega) (.slice a1 l.length c1) (.int .i64 r) (.int .i64 (dr + 1))
      have RM33 := Bk.set3 (M := w.heap.size + 1 + 1) RM32 (by omega) (.slice a1 l.length c1) (.int .i64 r) (.int .i64 (dr + 1))
      have RQ33 := Bk.full3 RQ32 (.slice a1 l.length c1) (.int .i64 r) (.int .i64 (dr + 1))
      have mz33 := Lib.hid (mz_set mz32.out (W' := (((v32.setCell ⟨w.heap.size + 1 + 1, 0, none⟩ (.slice a1 l.length c1)).setCell ⟨w.heap.size + 1 + 1, 1, none⟩ (.int .i64 r)).setCell ⟨w.heap.size + 1 + 1, 2, none⟩ (.int .i64 (dr + 1)))) (by simp only [World.size_setCell]) (fun g hg => set3_heap _ _ _ (by omega) _ _ _))
      have bb33 := Lib.hid (below_set3 (M := w.heap.size + 1 + 1) bb32.out (by omega) (.slice a1 l.length c1) (.int .i64 r) (.int .i64 (dr + 1)))
      have rz33 := Lib.hid (rz_set rz32.out (W' := (((v32.setCell ⟨w.heap.size + 1 + 1, 0, none⟩ (.slice a1 l.length c1)).setCell ⟨w.heap.size + 1 + 1, 1, none⟩ (.int .i64 r)).setCell ⟨w.heap.size + 1 + 1, 2, none⟩ (.int .i64 (dr + 1)))) (by simp only [World.size_setCell]) (fun g hg => set3_heap _ _ _ (by omega) _ _ _))
      refine hK.out _ _ (XS.out _ Q33 M33) (fun hH33 => ?_)
      generalize (((v32.setCell ⟨w.heap.size + 1 + 1, 0, none⟩ (.slice a1 l.length c1)).setCell ⟨w.heap.size + 1 + 1, 1, none⟩ (.int .i64 r)).setCell ⟨w.heap.size + 1 + 1, 2, none⟩ (.int .i64 (dr + 1))) = u33 at *
      clear hK K
      (try simp only [Act.put, List.setIfInBounds_toArray, List.set_cons_zero, List.set_cons_succ])
      refine wpAnyH_ready (rs := [4]) (by kernel_rfl) (by simp) ?_
      refine AllReadyH.cons (o := { dst := none, op := Op.store 30 (Operand.tmp 9) (Operand.tmp 40), type := 0, pos := _, after := #[{ on := 2, ground := Ground.data }, { on := 3, ground := Ground.chain }, { on := 0, ground := Ground.phase }, { on := 1, ground := Ground.phase }, { on := 2, ground := Ground.phase }, { on := 3, ground := Ground.phase }], guard := none }) rfl (fun K hK => ?_) AllReadyH.nil
      obtain ⟨p0, p1, p2, p3, p4, p5, p6, p7, p8, p9, p10, p11, p12⟩ := Bk.c13 RM33
      have pf := Bk.f RM33
      go_simp
      clear pf p0 p1 p2 p3 p4 p5 p6 p7 p8 p9 p10 p11 p12
      have Q34 := Bk.set13 (M := w.heap.size + 1 + 1 + 1) Q33 (by omega) (.int .i64 x.id) (.string x.tp) (.int .i64 d'.k) (.int .i64 d'.i) (.int .u64 d'.u) (.string d'.s) (.slice d'.a d'.l d'.c) (.int .i64 x.ti) (.int .i64 x.un) (.string x.rp) (.int .i64 x.co) (.int .i64 x.pr) (.int .i64 x.ho)
      have M34 := Bk.set13 (M := w.heap.size + 1 + 1 + 1) M33 (by omega) (.int .i64 x.id) (.string x.tp) (.int .i64 d'.k) (.int .i64 d'.i) (.int .u64 d'.u) (.string d'.s) (.slice d'.a d'.l d'.c) (.int .i64 x.ti) (.int .i64 x.un) (.string x.rp) (.int .i64 x.co) (.int .i64 x.pr) (.int .i64 x.ho)
      have RQ34 := Bk.set13 (M := w.heap.size + 1 + 1 + 1) RQ33 (by omega) (.int .i64 x.id) (.string x.tp) (.int .i64 d'.k) (.int .i64 d'.i) (.int .u64 d'.u) (.string d'.s) (.slice d'.a d'.l d'.c) (.int .i64 x.ti) (.int .i64 x.un) (.string x.rp) (.int .i64 x.co) (.int .i64 x.pr) (.int .i64 x.ho)
      have RM34 := Bk.full13 RM33 (.int .i64 x.id) (.string x.tp) (.int .i64 d'.k) (.int .i64 d'.i) (.int .u64 d'.u) (.string d'.s) (.slice d'.a d'.l d'.c) (.int .i64 x.ti) (.int .i64 x.un) (.string x.rp) (.int .i64 x.co) (.int .i64 x.pr) (.int .i64 x.ho)
      have mz34 := Lib.hid (mz_set mz33.out (W' := (((((((((((((u33.setCell ⟨w.heap.size + 1 + 1 + 1, 0, none⟩ (.int .i64 x.id)).setCell ⟨w.heap.size + 1 + 1 + 1, 1, none⟩ (.string x.tp)).setCell ⟨w.heap.size + 1 + 1 + 1, 2, none⟩ (.int .i64 d'.k)).setCell ⟨w.heap.size + 1 + 1 + 1, 3, none⟩ (.int .i64 d'.i)).setCell ⟨w.heap.size + 1 + 1 + 1, 4, none⟩ (.int .u64 d'.u)).setCell ⟨w.heap.size + 1 + 1 + 1, 5, none⟩ (.string d'.s)).setCell ⟨w.heap.size + 1 + 1 + 1, 6, none⟩ (.slice d'.a d'.l d'.c)).setCell ⟨w.heap.size + 1 + 1 + 1, 7, none⟩ (.int .i64 x.ti)).setCell ⟨w.heap.size + 1 + 1 + 1, 8, none⟩ (.int .i64 x.un)).setCell ⟨w.heap.size + 1 + 1 + 1, 9, none⟩ (.string x.rp)).setCell ⟨w.heap.size + 1 + 1 + 1, 10, none⟩ (.int .i64 x.co)).setCell ⟨w.heap.size + 1 + 1 + 1, 11, none⟩ (.int .i64 x.pr)).setCell ⟨w.heap.size + 1 + 1 + 1, 12, none⟩ (.int .i64 x.ho))) (by simp only [World.size_setCell]) (fun g hg => set13_heap _ _ _ (by omega) _ _ _ _ _ _ _ _ _ _ _ _ _))
      have bb34 := Lib.hid (below_set13 (M := w.heap.size + 1 + 1 + 1) bb33.out (by omega) (.int .i64 x.id) (.string x.tp) (.int .i64 d'.k) (.int .i64 d'.i) (.int .u64 d'.u) (.string d'.s) (.slice d'.a d'.l d'.c) (.int .i64 x.ti) (.int .i64 x.un) (.string x.rp) (.int .i64 x.co) (.int .i64 x.pr) (.int .i64 x.ho))
      have rz34 := Lib.hid (rz_set rz33.out (W' := (((((((((((((u33.setCell ⟨w.heap.size + 1 + 1 + 1, 0, none⟩ (.int .i64 x.id)).setCell ⟨w.heap.size + 1 + 1 + 1, 1, none⟩ (.string x.tp)).setCell ⟨w.heap.size + 1 + 1 + 1, 2, none⟩ (.int .i64 d'.k)).setCell ⟨w.heap.size + 1 + 1 + 1, 3, none⟩ (.int .i64 d'.i)).setCell ⟨w.heap.size + 1 + 1 + 1, 4, none⟩ (.int .u64 d'.u)).setCell ⟨w.heap.size + 1 + 1 + 1, 5, none⟩ (.string d'.s)).setCell ⟨w.heap.size + 1 + 1 + 1, 6, none⟩ (.slice d'.a d'.l d'.c)).setCell ⟨w.heap.size + 1 + 1 + 1, 7, none⟩ (.int .i64 x.ti)).setCell ⟨w.heap.size + 1 + 1 + 1, 8, none⟩ (.int .i64 x.un)).setCell ⟨w.heap.size + 1 + 1 + 1, 9, none⟩ (.string x.rp)).setCell ⟨w.heap.size + 1 + 1 + 1, 10, none⟩ (.int .i64 x.co)).setCell ⟨w.heap.size + 1 + 1 + 1, 11, none⟩ (.int .i64 x.pr)).setCell ⟨w.heap.size + 1 + 1 + 1, 12, none⟩ (.int .i64 x.ho))) (by simp only [World.size_setCell]) (fun g hg => set13_heap _ _ _ (by omega) _ _ _ _ _ _ _ _ _ _ _ _ _))
      refine hK.out _ _ (XS.out _ Q34 M34) (fun hH34 => ?_)
      generalize (((((((((((((u33.setCell ⟨w.heap.size + 1 + 1 + 1, 0, none⟩ (.int .i64 x.id)).setCell ⟨w.heap.size + 1 + 1 + 1, 1, none⟩ (.string x.tp)).setCell ⟨w.heap.size + 1 + 1 + 1, 2, none⟩ (.int .i64 d'.k)).setCell ⟨w.heap.size + 1 + 1 + 1, 3, none⟩ (.int .i64 d'.i)).setCell ⟨w.heap.size + 1 + 1 + 1, 4, none⟩ (.int .u64 d'.u)).setCell ⟨w.heap.size + 1 + 1 + 1, 5, none⟩ (.string d'.s)).setCell ⟨w.heap.size + 1 + 1 + 1, 6, none⟩ (.slice d'.a d'.l d'.c)).setCell ⟨w.heap.size + 1 + 1 + 1, 7, none⟩ (.int .i64 x.ti)).setCell ⟨w.heap.size + 1 + 1 + 1, 8, none⟩ (.int .i64 x.un)).setCell ⟨w.heap.size + 1 + 1 + 1, 9, none⟩ (.string x.rp)).setCell ⟨w.heap.size + 1 + 1 + 1, 10, none⟩ (.int .i64 x.co)).setCell ⟨w.heap.size + 1 + 1 + 1, 11, none⟩ (.int .i64 x.pr)).setCell ⟨w.heap.size + 1 + 1 + 1, 12, none⟩ (.int .i64 x.ho)) = u34 at *
      clear hK K
      (try simp only [Act.put, List.setIfInBounds_toArray, List.set_cons_zero, List.set_cons_succ])
      refine wpAnyH_take (i := 5) (oi := { dst := some 10, op := Op.assign (Operand.const (Value.bool true)), type := 4, pos := _, after := #[{ on := 4, ground := Ground.chain }, { on := 0, ground := Ground.phase }, { on := 1, ground := Ground.phase }, { on := 2, ground := Ground.phase }, { on := 3, ground := Ground.phase }, { on := 4, ground := Ground.phase }], guard := none }) (v := ?trb3) rfl (by kernel_rfl) (by kernel_rfl) (by kernel_rfl) (fun _ _ _ h => h) (Or.inl ⟨by rfl, ?urb3⟩) (by assumption) ?rrb3
      case urb3 => (intro w hSw; (try dsimp only at hSw); go_simp; (try with_reducible rfl))
      simp only [Act.put, List.setIfInBounds_toArray, List.set_cons_zero, List.set_cons_succ]
      refine wpAnyH_take (i := 6) (oi := { dst := some 11, op := Op.assign (Operand.const (Value.int IntKind.i64 0)), type := 3, pos := _, after := #[{ on := 5, ground := Ground.chain }, { on := 0, ground := Ground.phase }, { on := 1, ground := Ground.phase }, { on := 2, ground := Ground.phase }, { on := 3, ground := Ground.phase }, { on := 4, ground := Ground.phase }, { on := 5, ground := Ground.phase }], guard := none }) (v := ?trb4) rfl (by kernel_rfl) (by kernel_rfl) (by kernel_rfl) (fun _ _ _ h => h) (Or.inl ⟨by rfl, ?urb4⟩) (by assumption) ?rrb4
      case urb4 => (intro w hSw; (try dsimp only at hSw); go_simp; (try with_reducible rfl))
      simp only [Act.put, List.setIfInBounds_toArray, List.set_cons_zero, List.set_cons_succ]
      refine wpAnyH_done (by kernel_rfl) ?_ _
      go_wp2_with fail
      obtain ⟨p0, p1, p2⟩ := Bk.c3 RQ34
      obtain ⟨g0, g1, g2, g3, g4, g5, g6, g7, g8, g9, g10, g11, g12⟩ := Bk.c13 RM34
      exact bodyPost_ret (v := .tuple #[.agg #[.slice a1 l.length c1, .int .i64 r, .int .i64 (dr + 1)], .agg (x.cs d'), .bool true, .int .i64 0]) (by simp [results, Try.results11, go_sem, p0, p1, p2, g0, g1, g2, g3, g4, g5, g6, g7, g8, g9, g10, g11, g12]) rfl (TOP.out _ _ (PuP.of rfl (Nat.le_add_right _ _) mz34.out rz34.out bb34.out rfl (fun _ _ => rfl)))
    by_cases h2 : drop = 1
    · subst h2
      have TOP : Hid (∀ k y e w', Best false (prl (l ++ [x])) (l.length + 1) k → (l ++ [x])[k]? = some y → PuP w ((l ++ [x]).eraseIdx k) r (dr + 1) y true 0 e w' → PutP w l r dr room 1 x e w') := fun k y e w' hb hy h => ⟨fun hn => absurd hn h1, fun _ => ⟨fun h => by simp at h, fun _ => ⟨k, y, hb, hy, h⟩, fun _ h => absurd rfl h⟩⟩
      have XB5 : Bk w1.drew (w.heap.size + 1) #[.int .i64 x.id, .string x.tp, .int .i64 d.k, .int .i64 d.i, .int .u64 d.u, .string d.s, .slice d.a d.l d.c, .int .i64 x.ti, .int .i64 x.un, .string x.rp, .int .i64 x.co, .int .i64 x.pr, .int .i64 x.ho] 30 := MH.out
      have OU5 : Hid (Ou (w.heap.size + 4) w.heap.size l a1 c1 r dr xs w1.drew) := OUH.out.step (Below.refl _ _).drew
      have HC5 := Lib.hid (HM.out w1.drew BH1.out.drew)
      have hO5 : w.heap.size < w.heap.size + 4 := by omega
      have hOo5 : some w.heap.size ≠ (Value.slice a1 l.length c1).ownBlock := fun e => by have := OWN.out _ e.symm; omega
      have hXo5 : some (w.heap.size + 1) ≠ (Value.slice a1 l.length c1).ownBlock := fun e => by have := OWN.out _ e.symm; omega
      have hXO : w.heap.size + 1 ≠ w.heap.size := by omega
      have hl5 : l.length + [x].length ≤ 1000000 := by simp; omega
      have BD : Hid (Below w.heap.size w w1.drew) := BH1.out.drew
      have RQD : Hid (Bk w1.drew (w.heap.size + 1 + 1) #[.slice none 0 0, .int .i64 0, .int .i64 0] 24) := RQH.out
      have RMD : Hid (Bk w1.drew (w.heap.size + 1 + 1 + 1) #[.int .i64 0, .string ⟨#[]⟩, .int .i64 0, .int .i64 0, .int .u64 0, .string ⟨#[]⟩, .slice none 0 0, .int .i64 0, .int .i64 0, .string ⟨#[]⟩, .int .i64 0, .int .i64 0, .int .i64 0] 30) := RMH.out
      clear OUH h0
      go_wp2_with (rw [HW1.out])
      clear q0 q1 q2 qf k0 k1 k2 kf HW1 BH1 MH RQH RMH h1
      go_cut [10] from 43 to 49 (fun s10 wc => s10 = .bool false ∧ ∃ a3 c3 xs', Ou (w.heap.size + 4) w.heap.size (l ++ [x]) a3 c3 r dr xs' wc ∧ Bk wc (w.heap.size + 1 + 1) #[.slice none 0 0, .int .i64 0, .int .i64 0] 24 ∧ Bk wc (w.heap.size + 1 + 1 + 1) #[.int .i64 0, .string ⟨#[]⟩, .int .i64 0, .int .i64 0, .int .u64 0, .string ⟨#[]⟩, .slice none 0 0, .int .i64 0, .int .i64 0, .string ⟨#[]⟩, .int .i64 0, .int .i64 0, .int .i64 0] 30 ∧ Below w.heap.size w wc)
      case first =>
        have XS : Hid (∀ wx, Bk wx (w.heap.size + 1) #[.int .i64 x.id, .string x.tp, .int .i64 d.k, .int .i64 d.i, .int .u64 d.u, .string d.s, .slice d.a d.l d.c, .int .i64 x.ti, .int .i64 x.un, .string x.rp, .int .i64 x.co, .int .i64 x.pr, .int .i64 x.ho] 30 → (wx.cell? ⟨w.heap.size + 1, 0, none⟩ = some (.int .i64 x.id) ∧ wx.cell? ⟨w.heap.size + 1, 1, none⟩ = some (.string x.tp) ∧ wx.cell? ⟨w.heap.size + 1, 2, none⟩ = some (.int .i64 d.k) ∧ wx.cell? ⟨w.heap.size + 1, 3, none⟩ = some (.int .i64 d.i) ∧ wx.cell? ⟨w.heap.size + 1, 4, none⟩ = some (.int .u64 d.u) ∧ wx.cell? ⟨w.heap.size + 1, 5, none⟩ = some (.string d.s) ∧ wx.cell? ⟨w.heap.size + 1, 6, none⟩ = some (.slice d.a d.l d.c) ∧ wx.cell? ⟨w.heap.size + 1, 7, none⟩ = some (.int .i64 x.ti) ∧ wx.cell? ⟨w.heap.size + 1, 8, none⟩ = some (.int .i64 x.un) ∧ wx.cell? ⟨w.heap.size + 1, 9, none⟩ = some (.string x.rp) ∧ wx.cell? ⟨w.heap.size + 1, 10, none⟩ = some (.int .i64 x.co) ∧ wx.cell? ⟨w.heap.size + 1, 11, none⟩ = some (.int .i64 x.pr) ∧ wx.cell? ⟨w.heap.size + 1, 12, none⟩ = some (.int .i64 x.ho))) := fun wx h => h.c13
        refine wp_region_held_drew (S := (fun wx => wx.cell? ⟨w.heap.size + 1, 0, none⟩ = some (.int .i64 x.id) ∧ wx.cell? ⟨w.heap.size + 1, 1, none⟩ = some (.string x.tp) ∧ wx.cell? ⟨w.heap.size + 1, 2, none⟩ = some (.int .i64 d.k) ∧ wx.cell? ⟨w.heap.size + 1, 3, none⟩ = some (.int .i64 d.i) ∧ wx.cell? ⟨w.heap.size + 1, 4, none⟩ = some (.int .u64 d.u) ∧ wx.cell? ⟨w.heap.size + 1, 5, none⟩ = some (.string d.s) ∧ wx.cell? ⟨w.heap.size + 1, 6, none⟩ = some (.slice d.a d.l d.c) ∧ wx.cell? ⟨w.heap.size + 1, 7, none⟩ = some (.int .i64 x.ti) ∧ wx.cell? ⟨w.heap.size + 1, 8, none⟩ = some (.int .i64 x.un) ∧ wx.cell? ⟨w.heap.size + 1, 9, none⟩ = some (.string x.rp) ∧ wx.cell? ⟨w.heap.size + 1, 10, none⟩ = some (.int .i64 x.co) ∧ wx.cell? ⟨w.heap.size + 1, 11, none⟩ = some (.int .i64 x.pr) ∧ wx.cell? ⟨w.heap.size + 1, 12, none⟩ = some (.int .i64 x.ho))) (by kernel_rfl) (XS.out _ XB5) (fun hHeld => ?_)
        have b0 : Below w1.drew.heap.size w1.drew w1.drew := Below.refl _ _
        generalize w1.drew = v9 at *
        refine wpAnyH_take (i := 0) (oi := { dst := some 43, op := Op.fieldAddr 24 (Operand.tmp 4) 0, type := 0, pos := _, after := #[], guard := none }) (v := ?trg1) rfl (by kernel_rfl) (by kernel_rfl) (by kernel_rfl) (fun _ _ _ h => h) (Or.inl ⟨by rfl, ?urg1⟩) (by assumption) ?rrg1
        case urg1 => (intro w hSw; (try dsimp only at hSw); go_simp; (try with_reducible rfl))
        simp only [Act.put, List.setIfInBounds_toArray, List.set_cons_zero, List.set_cons_succ]
        refine wpAnyH_take (i := 2) (oi := { dst := some 45, op := Op.load 30 (Operand.tmp 7), type := 30, pos := _, after := #[], guard := none }) (v := ?trg2) rfl (by kernel_rfl) (by kernel_rfl) (by kernel_rfl) (fun _ _ _ h => h) (Or.inl ⟨by rfl, ?urg2⟩) (by assumption) ?rrg2
        case urg2 => (intro w hSw; (try dsimp only at hSw); go_simp; (try with_reducible rfl))
        simp only [Act.put, List.setIfInBounds_toArray, List.set_cons_zero, List.set_cons_succ]
        refine wpAnyH_ready (rs := [1, 3]) (by kernel_rfl) (by simp) ?_
        refine AllReadyH.cons (o := { dst := some 44, op := Op.load 22 (Operand.tmp 43), type := 22, pos := _, after := #[{ on := 0, ground := Ground.data }], guard := none }) rfl (fun K hK => ?_) (AllReadyH.cons (o := { dst := some 46, op := Op.call { callee := Callee.value (Operand.func 22), args := #[Operand.tmp 45], argTypes := #[30] }, type := 30, pos := _, after := #[{ on := 2, ground := Ground.data }], guard := none }) rfl (fun K hK => ?_) AllReadyH.nil)
        · obtain ⟨p0, p1, p2⟩ := (OU5.out.step b0).q.c3
          go_simp
          refine hK.out _ _ (XS.out _ (XB5.step b0)) (fun hH35 => ?_)
          clear p0 p1 p2
          clear hK K
          (try simp only [Act.put, List.setIfInBounds_toArray, List.set_cons_zero, List.set_cons_succ])
          refine wpAnyH_ready (rs := [3]) (by kernel_rfl) (by simp) ?_
          refine AllReadyH.cons (o := { dst := some 46, op := Op.call { callee := Callee.value (Operand.func 22), args := #[Operand.tmp 45], argTypes := #[30] }, type := 30, pos := _, after := #[{ on := 2, ground := Ground.data }], guard := none }) rfl (fun K hK => ?_) AllReadyH.nil
          go_simp
          refine HC5.out.mono ?_
          rintro e v1 ⟨d', rfl, r1, e1⟩
          have b1 := e1
          have r1h := Lib.hid r1
          clear r1 e1
          refine hK.out _ _ (XS.out _ (XB5.step b1)) (fun hH36 => ?_)
          clear hK K
          (try simp only [Act.put, List.setIfInBounds_toArray, List.set_cons_zero, List.set_cons_succ])
          refine wpAnyH_ready (rs := [4]) (by kernel_rfl) (by simp) ?_
          refine AllReadyH.cons (o := { dst := some 47, op := Op.buildSlice 22 1 #[(0, Operand.tmp 46)], type := 22, pos := _, after := #[{ on := 3, ground := Ground.data }], guard := none }) rfl (fun K hK => ?_) AllReadyH.nil
          go_simp
          have b2 : Below v9.heap.size v9 (v1.alloc (.cells #[.int .i64 x.id, .string x.tp, .int .i64 d'.k, .int .i64 d'.i, .int .u64 d'.u, .string d'.s, .slice d'.a d'.l d'.c, .int .i64 x.ti, .int .i64 x.un, .string x.rp, .int .i64 x.co, .int .i64 x.pr, .int .i64 x.ho] 30)) := b1.trans ((below1 v1 _).mono b1.size)
          have AP1 := Lib.hid (ou_step OU5.out hO5 x d' r1h.out b1)
          generalize hN37 : v1.heap.size = N2 at *
          generalize hV37 : v1.alloc (.cells #[.int .i64 x.id, .string x.tp, .int .i64 d'.k, .int .i64 d'.i, .int .u64 d'.u, .string d'.s, .slice d'.a d'.l d'.c, .int .i64 x.ti, .int .i64 x.un, .string x.rp, .int .i64 x.co, .int .i64 x.pr, .int .i64 x.ho] 30) = v2 at *
          refine hK.out _ _ (XS.out _ (XB5.step b2)) (fun hH37 => ?_)
          clear hK K
          (try simp only [Act.put, List.setIfInBounds_toArray, List.set_cons_zero, List.set_cons_succ])
          refine wpAnyH_ready (rs := [5]) (by kernel_rfl) (by simp) ?_
          refine AllReadyH.cons (o := { dst := some 48, op := Op.call { callee := Callee.builtin Builtin.append, args := #[Operand.tmp 44, Operand.tmp 47], argTypes := #[22, 22] }, type := 22, pos := _, after := #[{ on := 1, ground := Ground.data }, { on := 4, ground := Ground.data }, { on := 3, ground := Ground.chain }], guard := none }) rfl (fun K hK => ?_) AllReadyH.nil
          rw [if_pos (by rfl)]
          refine wp_mapp (.tmp 44) (.tmp 47) rfl _ _ l _ xs rfl AP1.out.1 N2 0 1 [x] rfl AP1.out.2.1 (by simp) hl5 AP1.out.2.2.1 ?_
          intro sl' xs' v3 m3 g3 a3
          obtain ⟨oth3, ⟨a3', c3', rfl⟩, E3⟩ := AP1.out.2.2.2 sl' xs' v3 m3 g3 a3
          have E4 := Lib.hid (E3 a3' c3' rfl)
          have OB3 := (oth3 _ OU5.out.q.lt hOo5).trans OU5.out.q
          have XB3 := (oth3 _ XB5.lt hXo5).trans XB5
          clear m3 g3 a3 E3 oth3
          refine hK.out _ _ (XS.out _ XB3) (fun hH38 => ?_)
          clear hK K
          (try simp only [Act.put, List.setIfInBounds_toArray, List.set_cons_zero, List.set_cons_succ])
          refine wpAnyH_take (i := 6) (oi := { dst := some 49, op := Op.fieldAddr 24 (Operand.tmp 4) 0, type := 0, pos := _, after := #[{ on := 0, ground := Ground.phase }, { on := 1, ground := Ground.phase }, { on := 2, ground := Ground.phase }, { on := 3, ground := Ground.phase }, { on := 4, ground := Ground.phase }, { on := 5, ground := Ground.phase }], guard := none }) (v := ?trg3) rfl (by kernel_rfl) (by kernel_rfl) (by kernel_rfl) (fun _ _ _ h => h) (Or.inl ⟨by rfl, ?urg3⟩) (by assumption) ?rrg3
          case urg3 => (intro w hSw; (try dsimp only at hSw); go_simp; (try with_reducible rfl))
          simp only [Act.put, List.setIfInBounds_toArray, List.set_cons_zero, List.set_cons_succ]
          refine wpAnyH_ready (rs := [7]) (by kernel_rfl) (by simp) ?_
          refine AllReadyH.cons (o := { dst := none, op := Op.store 22 (Operand.tmp 49) (Operand.tmp 48), type := 0, pos := _, after := #[{ on := 6, ground := Ground.data }, { on := 5, ground := Ground.data }, { on := 5, ground := Ground.chain }, { on := 0, ground := Ground.phase }, { on := 1, ground := Ground.phase }, { on := 2, ground := Ground.phase }, { on := 3, ground := Ground.phase }, { on := 4, ground := Ground.phase }, { on := 5, ground := Ground.phase }], guard := none }) rfl (fun K hK => ?_) AllReadyH.nil
          obtain ⟨p0, p1, p2⟩ := Bk.c3 OB3
          have pf := Bk.f OB3
          go_simp
          refine hK.out _ _ (XS.out _ (Bk.other XB3 _ _ hXO)) (fun hH39 => ?_)
          clear p0 p1 p2 pf
          clear hK K
          (try simp only [Act.put, List.setIfInBounds_toArray, List.set_cons_zero, List.set_cons_succ])
          refine wpAnyH_done (by kernel_rfl) ?_ _
          obtain ⟨ou4, kb4⟩ := E4.out (v3.setCell ⟨w.heap.size, 0, none⟩ (.slice a3' (l.length + 1) c3')) (by rw [List.length_append]; rfl)
          go_wp2_with fail
          go_meet
          exact ⟨rfl, a3', c3', xs', ou4, (kb4.block (w.heap.size + 1 + 1) (by omega) (by omega)).trans RQD.out, (kb4.block (w.heap.size + 1 + 1 + 1) (by omega) (by omega)).trans RMD.out, Kb.below BD.out kb4 (by omega) (Nat.le_refl _)⟩
        · go_simp
          refine HC5.out.mono ?_
          rintro e v1 ⟨d', rfl, r1, e1⟩
          have b1 := e1
          have r1h := Lib.hid r1
          clear r1 e1
          refine hK.out _ _ (XS.out _ (XB5.step b1)) (fun hH40 => ?_)
          clear hK K
          (try simp only [Act.put, List.setIfInBounds_toArray, List.set_cons_zero, List.set_cons_succ])
          refine wpAnyH_ready (rs := [1, 4]) (by kernel_rfl) (by simp) ?_
          refine AllReadyH.cons (o := { dst := some 44, op := Op.load 22 (Operand.tmp 43), type := 22, pos := _, after := #[{ on := 0, ground := Ground.data }], guard := none }) rfl (fun K hK => ?_) (AllReadyH.cons (o := { dst := some 47, op := Op.buildSlice 22 1 #[(0, Operand.tmp 46)], type := 22, pos := _, after := #[{ on := 3, ground := Ground.data }], guard := none }) rfl (fun K hK => ?_) AllReadyH.nil)
          · obtain ⟨p0, p1, p2⟩ := (OU5.out.step b1).q.c3
            go_simp
            refine hK.out _ _ (XS.out _ (XB5.step b1)) (fun hH41 => ?_)
            clear p0 p1 p2
            clear hK K
            (try simp only [Act.put, List.setIfInBounds_toArray, List.set_cons_zero, List.set_cons_succ])
            refine wpAnyH_ready (rs := [4]) (by kernel_rfl) (by simp) ?_
            refine AllReadyH.cons (o := { dst := some 47, op := Op.buildSlice 22 1 #[(0, Operand.tmp 46)], type := 22, pos := _, after := #[{ on := 3, ground := Ground.data }], guard := none }) rfl (fun K hK => ?_) AllReadyH.nil
            go_simp
            have b2 : Below v9.heap.size v9 (v1.alloc (.cells #[.int .i64 x.id, .string x.tp, .int .i64 d'.k, .int .i64 d'.i, .int .u64 d'.u, .string d'.s, .slice d'.a d'.l d'.c, .int .i64 x.ti, .int .i64 x.un, .string x.rp, .int .i64 x.co, .int .i64 x.pr, .int .i64 x.ho] 30)) := b1.trans ((below1 v1 _).mono b1.size)
            have AP1 := Lib.hid (ou_step OU5.out hO5 x d' r1h.out b1)
            generalize hN42 : v1.heap.size = N2 at *
            generalize hV42 : v1.alloc (.cells #[.int .i64 x.id, .string x.tp, .int .i64 d'.k, .int .i64 d'.i, .int .u64 d'.u, .string d'.s, .slice d'.a d'.l d'.c, .int .i64 x.ti, .int .i64 x.un, .string x.rp, .int .i64 x.co, .int .i64 x.pr, .int .i64 x.ho] 30) = v2 at *
            refine hK.out _ _ (XS.out _ (XB5.step b2)) (fun hH42 => ?_)
            clear hK K
            (try simp only [Act.put, List.setIfInBounds_toArray, List.set_cons_zero, List.set_cons_succ])
            refine wpAnyH_ready (rs := [5]) (by kernel_rfl) (by simp) ?_
            refine AllReadyH.cons (o := { dst := some 48, op := Op.call { callee := Callee.builtin Builtin.append, args := #[Operand.tmp 44, Operand.tmp 47], argTypes := #[22, 22] }, type := 22, pos := _, after := #[{ on := 1, ground := Ground.data }, { on := 4, ground := Ground.data }, { on := 3, ground := Ground.chain }], guard := none }) rfl (fun K hK => ?_) AllReadyH.nil
            rw [if_pos (by rfl)]
            refine wp_mapp (.tmp 44) (.tmp 47) rfl _ _ l _ xs rfl AP1.out.1 N2 0 1 [x] rfl AP1.out.2.1 (by simp) hl5 AP1.out.2.2.1 ?_
            intro sl' xs' v3 m3 g3 a3
            obtain ⟨oth3, ⟨a3', c3', rfl⟩, E3⟩ := AP1.out.2.2.2 sl' xs' v3 m3 g3 a3
            have E4 := Lib.hid (E3 a3' c3' rfl)
            have OB3 := (oth3 _ OU5.out.q.lt hOo5).trans OU5.out.q
            have XB3 := (oth3 _ XB5.lt hXo5).trans XB5
            clear m3 g3 a3 E3 oth3
            refine hK.out _ _ (XS.out _ XB3) (fun hH43 => ?_)
            clear hK K
            (try simp only [Act.put, List.setIfInBounds_toArray, List.set_cons_zero, List.set_cons_succ])
            refine wpAnyH_take (i := 6) (oi := { dst := some 49, op := Op.fieldAddr 24 (Operand.tmp 4) 0, type := 0, pos := _, after := #[{ on := 0, ground := Ground.phase }, { on := 1, ground := Ground.phase }, { on := 2, ground := Ground.phase }, { on := 3, ground := Ground.phase }, { on := 4, ground := Ground.phase }, { on := 5, ground := Ground.phase }], guard := none }) (v := ?trg4) rfl (by kernel_rfl) (by kernel_rfl) (by kernel_rfl) (fun _ _ _ h => h) (Or.inl ⟨by rfl, ?urg4⟩) (by assumption) ?rrg4
            case urg4 => (intro w hSw; (try dsimp only at hSw); go_simp; (try with_reducible rfl))
            simp only [Act.put, List.setIfInBounds_toArray, List.set_cons_zero, List.set_cons_succ]
            refine wpAnyH_ready (rs := [7]) (by kernel_rfl) (by simp) ?_
            refine AllReadyH.cons (o := { dst := none, op := Op.store 22 (Operand.tmp 49) (Operand.tmp 48), type := 0, pos := _, after := #[{ on := 6, ground := Ground.data }, { on := 5, ground := Ground.data }, { on := 5, ground := Ground.chain }, { on := 0, ground := Ground.phase }, { on := 1, ground := Ground.phase }, { on := 2, ground := Ground.phase }, { on := 3, ground := Ground.phase }, { on := 4, ground := Ground.phase }, { on := 5, ground := Ground.phase }], guard := none }) rfl (fun K hK => ?_) AllReadyH.nil
            obtain ⟨p0, p1, p2⟩ := Bk.c3 OB3
            have pf := Bk.f OB3
            go_simp
            refine hK.out _ _ (XS.out _ (Bk.other XB3 _ _ hXO)) (fun hH44 => ?_)
            clear p0 p1 p2 pf
            clear hK K
            (try simp only [Act.put, List.setIfInBounds_toArray, List.set_cons_zero, List.set_cons_succ])
            refine wpAnyH_done (by kernel_rfl) ?_ _
            obtain ⟨ou4, kb4⟩ := E4.out (v3.setCell ⟨w.heap.size, 0, none⟩ (.slice a3' (l.length + 1) c3')) (by rw [List.length_append]; rfl)
            go_wp2_with fail
            go_meet
            exact ⟨rfl, a3', c3', xs', ou4, (kb4.block (w.heap.size + 1 + 1) (by omega) (by omega)).trans RQD.out, (kb4.block (w.heap.size + 1 + 1 + 1) (by omega) (by omega)).trans RMD.out, Kb.below BD.out kb4 (by omega) (Nat.le_refl _)⟩
          · go_simp
            have b2 : Below v9.heap.size v9 (v1.alloc (.cells #[.int .i64 x.id, .string x.tp, .int .i64 d'.k, .int .i64 d'.i, .int .u64 d'.u, .string d'.s, .slice d'.a d'.l d'.c, .int .i64 x.ti, .int .i64 x.un, .string x.rp, .int .i64 x.co, .int .i64 x.pr, .int .i64 x.ho] 30)) := b1.trans ((below1 v1 _).mono b1.size)
            have AP1 := Lib.hid (ou_step OU5.out hO5 x d' r1h.out b1)
            generalize hN45 : v1.heap.size = N2 at *
            generalize hV45 : v1.alloc (.cells #[.int .i64 x.id, .string x.tp, .int .i64 d'.k, .int .i64 d'.i, .int .u64 d'.u, .string d'.s, .slice d'.a d'.l d'.c, .int .i64 x.ti, .int .i64 x.un, .string x.rp, .int .i64 x.co, .int .i64 x.pr, .int .i64 x.ho] 30) = v2 at *
            refine hK.out _ _ (XS.out _ (XB5.step b2)) (fun hH45 => ?_)
            clear hK K
            (try simp only [Act.put, List.setIfInBounds_toArray, List.set_cons_zero, List.set_cons_succ])
            refine wpAnyH_ready (rs := [1]) (by kernel_rfl) (by simp) ?_
            refine AllReadyH.cons (o := { dst := some 44, op := Op.load 22 (Operand.tmp 43), type := 22, pos := _, after := #[{ on := 0, ground := Ground.data }], guard := none }) rfl (fun K hK => ?_) AllReadyH.nil
            obtain ⟨p0, p1, p2⟩ := (OU5.out.step b2).q.c3
            go_simp
            refine hK.out _ _ (XS.out _ (XB5.step b2)) (fun hH46 => ?_)
            clear p0 p1 p2
            clear hK K
            (try simp only [Act.put, List.setIfInBounds_toArray, List.set_cons_zero, List.set_cons_succ])
            refine wpAnyH_ready (rs := [5]) (by kernel_rfl) (by simp) ?_
            refine AllReadyH.cons (o := { dst := some 48, op := Op.call { callee := Callee.builtin Builtin.append, args := #[Operand.tmp 44, Operand.tmp 47], argTypes := #[22, 22] }, type := 22, pos := _, after := #[{ on := 1, ground := Ground.data }, { on := 4, ground := Ground.data }, { on := 3, ground := Ground.chain }], guard := none }) rfl (fun K hK => ?_) AllReadyH.nil
            rw [if_pos (by rfl)]
            refine wp_mapp (.tmp 44) (.tmp 47) rfl _ _ l _ xs rfl AP1.out.1 N2 0 1 [x] rfl AP1.out.2.1 (by simp) hl5 AP1.out.2.2.1 ?_
            intro sl' xs' v3 m3 g3 a3
            obtain ⟨oth3, ⟨a3', c3', rfl⟩, E3⟩ := AP1.out.2.2.2 sl' xs' v3 m3 g3 a3
            have E4 := Lib.hid (E3 a3' c3' rfl)
            have OB3 := (oth3 _ OU5.out.q.lt hOo5).trans OU5.out.q
            have XB3 := (oth3 _ XB5.lt hXo5).trans XB5
            clear m3 g3 a3 E3 oth3
            refine hK.out _ _ (XS.out _ XB3) (fun hH47 => ?_)
            clear hK K
            (try simp only [Act.put, List.setIfInBounds_toArray, List.set_cons_zero, List.set_cons_succ])
            refine wpAnyH_take (i := 6) (oi := { dst := some 49, op := Op.fieldAddr 24 (Operand.tmp 4) 0, type := 0, pos := _, after := #[{ on := 0, ground := Ground.phase }, { on := 1, ground := Ground.phase }, { on := 2, ground := Ground.phase }, { on := 3, ground := Ground.phase }, { on := 4, ground := Ground.phase }, { on := 5, ground := Ground.phase }], guard := none }) (v := ?trg5) rfl (by kernel_rfl) (by kernel_rfl) (by kernel_rfl) (fun _ _ _ h => h) (Or.inl ⟨by rfl, ?urg5⟩) (by assumption) ?rrg5
            case urg5 => (intro w hSw; (try dsimp only at hSw); go_simp; (try with_reducible rfl))
            simp only [Act.put, List.setIfInBounds_toArray, List.set_cons_zero, List.set_cons_succ]
            refine wpAnyH_ready (rs := [7]) (by kernel_rfl) (by simp) ?_
            refine AllReadyH.cons (o := { dst := none, op := Op.store 22 (Operand.tmp 49) (Operand.tmp 48), type := 0, pos := _, after := #[{ on := 6, ground := Ground.data }, { on := 5, ground := Ground.data }, { on := 5, ground := Ground.chain }, { on := 0, ground := Ground.phase }, { on := 1, ground := Ground.phase }, { on := 2, ground := Ground.phase }, { on := 3, ground := Ground.phase }, { on := 4, ground := Ground.phase }, { on := 5, ground := Ground.phase }], guard := none }) rfl (fun K hK => ?_) AllReadyH.nil
            obtain ⟨p0, p1, p2⟩ := Bk.c3 OB3
            have pf := Bk.f OB3
            go_simp
            refine hK.out _ _ (XS.out _ (Bk.other XB3 _ _ hXO)) (fun hH48 => ?_)
            clear p0 p1 p2 pf
            clear hK K
            (try simp only [Act.put, List.setIfInBounds_toArray, List.set_cons_zero, List.set_cons_succ])
            refine wpAnyH_done (by kernel_rfl) ?_ _
            obtain ⟨ou4, kb4⟩ := E4.out (v3.setCell ⟨w.heap.size, 0, none⟩ (.slice a3' (l.length + 1) c3')) (by rw [List.length_append]; rfl)
            go_wp2_with fail
            go_meet
            exact ⟨rfl, a3', c3', xs', ou4, (kb4.block (w.heap.size + 1 + 1) (by omega) (by omega)).trans RQD.out, (kb4.block (w.heap.size + 1 + 1 + 1) (by omega) (by omega)).trans RMD.out, Kb.below BD.out kb4 (by omega) (Nat.le_refl _)⟩
      case rest =>
        obtain ⟨-, a3, c3, xs', ou, rq, rm, bw⟩ := hcut
        obtain ⟨L, hL⟩ : ∃ L, L = l ++ [x] := ⟨_, rfl⟩
        have hLn : L.length = l.length + 1 := by rw [hL]; simp
        have hLs : Sm L := by rw [hL]; exact HP.out
        rw [← hL] at ou TOP
        have hLp : L ≠ [] := by intro e; rw [e] at hLn; simp at hLn
        obtain ⟨g, e3, hg, mq⟩ := ou.m.mq hLp
        subst e3
        have HLN := Lib.hid hLn
        have OUC := Lib.hid ou
        have RQC := Lib.hid rq
        have RMC := Lib.hid rm
        have BWC := Lib.hid bw
        have MQ := Lib.hid mq
        have hgl : g < wc.heap.size := mq.lt
        obtain ⟨k0, k1, k2⟩ := ou.q.c3
        clear ou rq rm bw mq hL HM XB5 OU5 HC5 hOo5 hXo5 BD RQD RMD OWN HP hLn
        go_wp2_with fail
        go_loopw [12, 53] (fun s12 s53 wr => ∃ (i k : Nat), s53 = .int .i64 i ∧ s12 = .int .i64 k ∧ i ≤ L.length ∧ ((i = 0 ∧ k = 0) ∨ Best false (prl L) i k) ∧ Below wc.heap.size wc wr) (fun _ s53 _ => L.length - (intOf s53).toNat)
        case atStart => exact ⟨0, 0, rfl, rfl, Nat.zero_le _, .inl ⟨rfl, rfl⟩, Below.refl _ _⟩
        case round =>
          obtain ⟨i, k, rfl, rfl, hi, hbk, hb⟩ := hrel
          have hln : L.length ≤ 1500 ∧ 0 < L.length := by have := HLN.out; omega
          by_cases hlt : i < L.length
          · have hkl : k < L.length := by
              rcases hbk with ⟨-, rfl⟩ | h
              · omega
              · have := h.1; omega
            obtain ⟨xi, hxi⟩ : ∃ y, L[i]? = some y := ⟨_, List.getElem?_eq_getElem hlt⟩
            obtain ⟨xk, hxk⟩ : ∃ y, L[k]? = some y := ⟨_, List.getElem?_eq_getElem hkl⟩
            obtain ⟨di, ci, -⟩ := MQ.out.at i xi hxi
            obtain ⟨dk, ck, -⟩ := MQ.out.at k xk hxk
            have ui : wr.cell? ⟨g, i * 13 + 11, none⟩ = some (.int .i64 xi.pr) := (ci.heap (hb.block g hgl)).2.2.2.2.2.2.2.2.2.2.2.1
            have uk : wr.cell? ⟨g, k * 13 + 11, none⟩ = some (.int .i64 xk.pr) := (ck.heap (hb.block g hgl)).2.2.2.2.2.2.2.2.2.2.2.1
            obtain ⟨q0, q1, q2⟩ := (OUC.out.step hb).q.c3
            have i0 : (0 : Int) ≤ (i : Int) := by omega
            have i1 : (i : Int) < (L.length : Int) := by omega
            have kk0 : (0 : Int) ≤ (k : Int) := by omega
            have kk1 : (k : Int) < (L.length : Int) := by omega
            have hpi := prl_at hxi
            have hpk := prl_at hxk
            have HBK := Lib.hid hbk
            have HPI := Lib.hid hpi
            have HPK := Lib.hid hpk
            clear ci ck hxi hxk hpi hpk hbk k0 k1 k2
            by_cases hc : xi.pr < xk.pr
            · have hcd : decide (xi.pr < xk.pr) = true := decide_eq_true hc
              go_wp2_with fail
              go_quiet (fail)
              go_wp2_with fail
              refine ⟨⟨i + 1, i, by go_num, rfl, by omega, .inr ?_, ⟨hb.os, hb.tape, hb.output, hb.size, hb.block⟩⟩, by simp [intOf]; omega⟩
              rcases HBK.out with ⟨rfl, rfl⟩ | h
              · exact Best.one0 _
              · exact h.yes (by rw [HPI.out, HPK.out]; exact hc)
            · have hcd : decide (xi.pr < xk.pr) = false := decide_eq_false hc
              go_wp2_with fail
              go_quiet (fail)
              go_wp2_with fail
              refine ⟨⟨i + 1, k, by go_num, rfl, by omega, .inr ?_, ⟨hb.os, hb.tape, hb.output, hb.size, hb.block⟩⟩, by simp [intOf]; omega⟩
              rcases HBK.out with ⟨rfl, rfl⟩ | h
              · exact Best.one0 _
              · exact h.no (by rw [HPI.out, HPK.out]; omega)
          · have hie : i = L.length := by omega
            subst hie
            have hbest : Best false (prl L) L.length k := by
              rcases hbk with ⟨h, -⟩ | h
              · omega
              · exact h
            obtain ⟨y, hy⟩ : ∃ y, L[k]? = some y := ⟨_, List.getElem?_eq_getElem hbest.1⟩
            obtain ⟨dy, cy, ry⟩ := MQ.out.at k y hy
            obtain ⟨y0, y1, y2, y3, y4, y5, y6, y7, y8, y9, y10, y11, y12⟩ := cy.heap (hb.block g hgl)
            have ou := OUC.out.step hb
            have bwr : Below w.heap.size w wr := BWC.out.trans (hb.mono (by omega))
            have hzr := hb.size
            obtain ⟨w2, hw2⟩ : ∃ w2, w2 = wr.alloc (.cells #[.int .i64 y.id, .string y.tp, .int .i64 dy.k, .int .i64 dy.i, .int .u64 dy.u, .string dy.s, .slice dy.a dy.l dy.c, .int .i64 y.ti, .int .i64 y.un, .string y.rp, .int .i64 y.co, .int .i64 y.pr, .int .i64 y.ho] 30) := ⟨_, rfl⟩
            have b2 : Below wr.heap.size wr w2 := by rw [hw2]; exact below1 wr _
            have G2 : Bk w2 wr.heap.size #[.int .i64 y.id, .string y.tp, .int .i64 dy.k, .int .i64 dy.i, .int .u64 dy.u, .string dy.s, .slice dy.a dy.l dy.c, .int .i64 y.ti, .int .i64 y.un, .string y.rp, .int .i64 y.co, .int .i64 y.pr, .int .i64 y.ho] 30 := by rw [hw2]; exact Bk.new wr _ _
            have hs2 : w2.heap.size = wr.heap.size + 1 := by rw [hw2]; simp
            have ou2 := ou.step b2
            have mw2 : Mw w2 (some ⟨g, 0, none⟩) L := by
              obtain ⟨a4, c4, e4, mz4⟩ := ou2.m.mz (F' := fun g => g < w2.heap.size) (fun g hg => hg.2.1) (fun g hg => (ou2.m.own_lt g hg).2)
              simp only [Value.slice.injEq] at e4
              obtain ⟨rfl, -, rfl⟩ := e4
              exact mz4
            have HWo := Lib.hid (without_any L (some ⟨g, 0, none⟩) c3 r dr k w2 hln.1 mw2 hLs)
            obtain ⟨q0, q1, q2⟩ := ou.q.c3
            obtain ⟨j0, j1, j2⟩ := ou2.q.c3
            have kk0 : (0 : Int) ≤ (k : Int) := by omega
            have kk1 : (k : Int) < (L.length : Int) := by have := hbest.1; omega
            have HW2 := Lib.hid hw2.symm
            have HBE := Lib.hid hbest
            have HYY := Lib.hid hy
            have Ry : Hid (Rz (fun b => w.heap.size + 4 ≤ b ∧ b < wr.heap.size) wr y.n dy.vs y.t) := Rz.to (fun b hb' => ⟨⟨hb'.1, by have := hb'.2.1; omega⟩, hb.block b hb'.2.1⟩) _ _ _ ry
            clear cy ry hw2 mw2 ou hbest hy hbk hi
            go_wp2_with (rw [HW2.out])
            refine HWo.out.mono ?_
            rintro e w3 ⟨sl3, xs3, rfl, m3, b3⟩
            obtain ⟨a5, c5, rfl, -⟩ := m3.mz (F' := fun _ => True) (fun _ _ => trivial) (fun _ _ => trivial)
            have hs3 := b3.size
            obtain ⟨le, hle⟩ : ∃ le, le = L.eraseIdx k := ⟨_, rfl⟩
            rw [← hle] at m3
            rw [← hle]
            have hkl : Best false (prl L) (l.length + 1) k := by rw [← HLN.out]; exact HBE.out
            have TOP1 : Hid (∀ e w', PuP w le r (dr + 1) y true 0 e w' → PutP w l r dr room 1 x e w') := fun e w' hpp => TOP.out k y e w' hkl HYY.out (by rw [← hle]; exact hpp)
            have Q3 := ou2.q.step b3
            have bw3 : Below w.heap.size w w3 := (bwr.trans (b2.mono (by omega))).trans (b3.mono (by omega))
            have RQ3 : Bk w3 (w.heap.size + 1 + 1) #[.slice none 0 0, .int .i64 0, .int .i64 0] 24 := ((RQC.out.step hb).step b2).step b3
            have RM3 : Bk w3 (w.heap.size + 1 + 1 + 1) #[.int .i64 0, .string ⟨#[]⟩, .int .i64 0, .int .i64 0, .int .u64 0, .string ⟨#[]⟩, .slice none 0 0, .int .i64 0, .int .i64 0, .string ⟨#[]⟩, .int .i64 0, .int .i64 0, .int .i64 0] 30 := ((RMC.out.step hb).step b2).step b3
            have G3 := G2.step b3
            obtain ⟨w4, hw4⟩ : ∃ w4, w4 = ((w3.setCell ⟨w.heap.size, 0, none⟩ (.slice a5 le.length c5)).setCell ⟨w.heap.size, 1, none⟩ (.int .i64 r)).setCell ⟨w.heap.size, 2, none⟩ (.int .i64 dr) := ⟨_, rfl⟩
            have Q4 : Bk w4 w.heap.size #[.slice a5 le.length c5, .int .i64 r, .int .i64 dr] 24 := by rw [hw4]; exact Bk.full3 Q3 _ _ _
            have hs4 : w4.heap.size = w3.heap.size := by rw [hw4]; simp only [World.size_setCell]
            have o4 : ∀ b, b ≠ w.heap.size → w4.heap[b]? = w3.heap[b]? := fun b hb' => by rw [hw4]; exact set3_heap _ _ _ hb' _ _ _
            have bw4 : Below w.heap.size w w4 := by rw [hw4]; exact below_set3 bw3 (Nat.le_refl _) _ _ _
            obtain ⟨Y, hY⟩ : ∃ Y, Y = w4.setCell ⟨w.heap.size, 2, none⟩ (.int .i64 (dr + 1)) := ⟨_, rfl⟩
            have oY : ∀ b, b ≠ w.heap.size → Y.heap[b]? = w3.heap[b]? := fun b hb' => by rw [hY, Below.heap_setCell _ _ _ _ hb']; exact o4 b hb'
            have sY : Y.heap.size = w3.heap.size := by rw [hY]; simp; exact hs4
            have Q5 : Bk Y.drew w.heap.size #[.slice a5 le.length c5, .int .i64 r, .int .i64 (dr + 1)] 24 := Bk.drew (by rw [hY]; exact Q4.set 2 _)
            have M5 : Bk Y.drew wr.heap.size #[.int .i64 y.id, .string y.tp, .int .i64 dy.k, .int .i64 dy.i, .int .u64 dy.u, .string dy.s, .slice dy.a dy.l dy.c, .int .i64 y.ti, .int .i64 y.un, .string y.rp, .int .i64 y.co, .int .i64 y.pr, .int .i64 y.ho] 30 := Bk.drew ((oY _ (by omega)).trans G3)
            have RQ5 : Bk Y.drew (w.heap.size + 1 + 1) #[.slice none 0 0, .int .i64 0, .int .i64 0] 24 := Bk.drew ((oY _ (by omega)).trans RQ3)
            have RM5 : Bk Y.drew (w.heap.size + 1 + 1 + 1) #[.int .i64 0, .string ⟨#[]⟩, .int .i64 0, .int .i64 0, .int .u64 0, .string ⟨#[]⟩, .slice none 0 0, .int .i64 0, .int .i64 0, .string ⟨#[]⟩, .int .i64 0, .int .i64 0, .int .i64 0] 30 := Bk.drew ((oY _ (by omega)).trans RM3)
            have sYd : Y.drew.heap.size = w3.heap.size := sY
            have oYd : ∀ b, b ≠ w.heap.size → Y.drew.heap[b]? = w3.heap[b]? := oY
            have hzc : w.heap.size + 4 ≤ wr.heap.size := by have := RMC.out.lt; omega
            have M4 : Hid (Mz (fun b => w.heap.size + 4 ≤ b ∧ b < Y.drew.heap.size) Y.drew a5 le) := by
              obtain ⟨a6, c6, e6, mz6⟩ := m3.mz (F' := fun b => w2.heap.size ≤ b ∧ b < w3.heap.size) (fun b hb' => ⟨hb'.1, hb'.2.1⟩) (fun b hb' => m3.own_lt b hb')
              simp only [Value.slice.injEq] at e6
              obtain ⟨rfl, -, rfl⟩ := e6
              exact Mz.to mz6 fun b hb' => ⟨⟨by omega, by omega⟩, oYd b (by omega)⟩
            have R4 : Hid (Rz (fun b => w.heap.size + 4 ≤ b ∧ b < Y.drew.heap.size) Y.drew y.n dy.vs y.t) := Rz.to (fun b hb' => ⟨⟨hb'.1, by omega⟩, ((oYd b (by omega)).trans (b3.block b (by omega))).trans (b2.block b hb'.2)⟩) _ _ _ Ry.out
            have BW0 : Below w.heap.size w Y := by rw [hY]; exact bw4.setCell (Nat.le_refl _) _
            have BW5 : Hid (Below w.heap.size w Y.drew) := BW0.drew
            clear q0 q1 q2 j0 j1 j2 y0 y1 y2 y3 y4 y5 y6 y7 y8 y9 y10 y11 y12
            obtain ⟨q0, q1, q2⟩ := Q3.c3
            have qf := Q3.f
            obtain ⟨j0, j1, j2⟩ := Q4.c3
            have jf := Q4.f
            have HW4 := Lib.hid hw4.symm
            have HY := Lib.hid hY.symm
            have hzy : w.heap.size + 4 ≤ Y.drew.heap.size := by omega
            clear hw4 hY BW0 bw4 bw3 o4 oY oYd sY sYd G3 G2 RQ3 RM3 Q3 Q4 m3 b3 b2 ou2 TOP hle hkl HBE HYY Ry RQC RMC OUC MQ HWo HW2
            go_wp2_with (first | rw [HW4.out] | rw [HY.out])
            clear q0 q1 q2 qf j0 j1 j2 jf HW4 HY
            have XS : Hid (∀ wx, Bk wx (w.heap.size) #[.slice a5 le.length c5, .int .i64 r, .int .i64 (dr + 1)] 24 → Bk wx (wr.heap.size) #[.int .i64 y.id, .string y.tp, .int .i64 dy.k, .int .i64 dy.i, .int .u64 dy.u, .string dy.s, .slice dy.a dy.l dy.c, .int .i64 y.ti, .int .i64 y.un, .string y.rp, .int .i64 y.co, .int .i64 y.pr, .int .i64 y.ho] 30 → ((wx.cell? ⟨w.heap.size, 0, none⟩ = some (.slice a5 le.length c5) ∧ wx.cell? ⟨w.heap.size, 1, none⟩ = some (.int .i64 r) ∧ wx.cell? ⟨w.heap.size, 2, none⟩ = some (.int .i64 (dr + 1))) ∧ (wx.cell? ⟨wr.heap.size, 0, none⟩ = some (.int .i64 y.id) ∧ wx.cell? ⟨wr.heap.size, 1, none⟩ = some (.string y.tp) ∧ wx.cell? ⟨wr.heap.size, 2, none⟩ = some (.int .i64 dy.k) ∧ wx.cell? ⟨wr.heap.size, 3, none⟩ = some (.int .i64 dy.i) ∧ wx.cell? ⟨wr.heap.size, 4, none⟩ = some (.int .u64 dy.u) ∧ wx.cell? ⟨wr.heap.size, 5, none⟩ = some (.string dy.s) ∧ wx.cell? ⟨wr.heap.size, 6, none⟩ = some (.slice dy.a dy.l dy.c) ∧ wx.cell? ⟨wr.heap.size, 7, none⟩ = some (.int .i64 y.ti) ∧ wx.cell? ⟨wr.heap.size, 8, none⟩ = some (.int .i64 y.un) ∧ wx.cell? ⟨wr.heap.size, 9, none⟩ = some (.string y.rp) ∧ wx.cell? ⟨wr.heap.size, 10, none⟩ = some (.int .i64 y.co) ∧ wx.cell? ⟨wr.heap.size, 11, none⟩ = some (.int .i64 y.pr) ∧ wx.cell? ⟨wr.heap.size, 12, none⟩ = some (.int .i64 y.ho)))) := fun wx h h2 => ⟨h.c3, h2.c13⟩
            refine wp_region_held_drew (S := (fun wx => (wx.cell? ⟨w.heap.size, 0, none⟩ = some (.slice a5 le.length c5) ∧ wx.cell? ⟨w.heap.size, 1, none⟩ = some (.int .i64 r) ∧ wx.cell? ⟨w.heap.size, 2, none⟩ = some (.int .i64 (dr + 1))) ∧ (wx.cell? ⟨wr.heap.size, 0, none⟩ = some (.int .i64 y.id) ∧ wx.cell? ⟨wr.heap.size, 1, none⟩ = some (.string y.tp) ∧ wx.cell? ⟨wr.heap.size, 2, none⟩ = some (.int .i64 dy.k) ∧ wx.cell? ⟨wr.heap.size, 3, none⟩ = some (.int .i64 dy.i) ∧ wx.cell? ⟨wr.heap.size, 4, none⟩ = some (.int .u64 dy.u) ∧ wx.cell? ⟨wr.heap.size, 5, none⟩ = some (.string dy.s) ∧ wx.cell? ⟨wr.heap.size, 6, none⟩ = some (.slice dy.a dy.l dy.c) ∧ wx.cell? ⟨wr.heap.size, 7, none⟩ = some (.int .i64 y.ti) ∧ wx.cell? ⟨wr.heap.size, 8, none⟩ = some (.int .i64 y.un) ∧ wx.cell? ⟨wr.heap.size, 9, none⟩ = some (.string y.rp) ∧ wx.cell? ⟨wr.heap.size, 10, none⟩ = some (.int .i64 y.co) ∧ wx.cell? ⟨wr.heap.size, 11, none⟩ = some (.int .i64 y.pr) ∧ wx.cell? ⟨wr.heap.size, 12, none⟩ = some (.int .i64 y.ho)))) (by kernel_rfl) (XS.out _ Q5 M5) (fun hHeld => ?_)
            generalize Y.drew = v9 at *
            refine wpAnyH_take (i := 0) (oi := { dst := some 83, op := Op.load 24 (Operand.tmp 4), type := 24, pos := _, after := #[], guard := none }) (v := ?tre1) rfl (by kernel_rfl) (by kernel_rfl) (by kernel_rfl) (fun _ _ _ h => h) (Or.inl ⟨by rfl, ?ure1⟩) (by assumption) ?rre1
            case ure1 => (intro w hSw; (try dsimp only at hSw); go_simp; (try with_reducible rfl))
            simp only [Act.put, List.setIfInBounds_toArray, List.set_cons_zero, List.set_cons_succ]
            refine wpAnyH_take (i := 1) (oi := { dst := some 84, op := Op.load 30 (Operand.tmp 14), type := 30, pos := _, after := #[{ on := 2, ground := Ground.gcOnly Departure.lateStores }], guard := none }) (v := ?tre2) rfl (by kernel_rfl) (by kernel_rfl) (by kernel_rfl) (fun _ _ _ h => h) (Or.inl ⟨by rfl, ?ure2⟩) (by assumption) ?rre2
            case ure2 => (intro w hSw; (try dsimp only at hSw); go_simp; (try with_reducible rfl))
            simp only [Act.put, List.setIfInBounds_toArray, List.set_cons_zero, List.set_cons_succ]
            refine wpAnyH_ready (rs := [2]) (by kernel_rfl) (by simp) ?_
            refine AllReadyH.cons (o := { dst := none, op := Op.store 24 (Operand.tmp 8) (Operand.tmp 83), type := 0, pos := _, after := #[{ on := 0, ground := Ground.data }, { on := 0, ground := Ground.phase }, { on := 1, ground := Ground.textOnly Departure.lateStores }], guard := none }) rfl (fun K hK => ?_) AllReadyH.nil
            obtain ⟨p0, p1, p2⟩ := Bk.c3 RQ5
            have pf := Bk.f RQ5
            go_simp
            clear pf p0 p1 p2
            have Q49 := Bk.set3 (M := w.heap.size + 1 + 1) Q5 (by omega) (.slice a5 le.length c5) (.int .i64 r) (.int .i64 (dr + 1))
            have M49 := Bk.set3 (M := w.heap.size + 1 + 1) M5 (by omega) (.slice a5 le.length c5) (.int .i64 r) (.int .i64 (dr + 1))
            have RM49 := Bk.set3 (M := w.heap.size + 1 + 1) RM5 (by omega) (.slice a5 le.length c5) (.int .i64 r) (.int .i64 (dr + 1))
            have RQ49 := Bk.full3 RQ5 (.slice a5 le.length c5) (.int .i64 r) (.int .i64 (dr + 1))
            have mz49 := Lib.hid (mz_set M4.out (W' := (((v9.setCell ⟨w.heap.size + 1 + 1, 0, none⟩ (.slice a5 le.length c5)).setCell ⟨w.heap.size + 1 + 1, 1, none⟩ (.int .i64 r)).setCell ⟨w.heap.size + 1 + 1, 2, none⟩ (.int .i64 (dr + 1)))) (by simp only [World.size_setCell]) (fun g hg => set3_heap _ _ _ (by omega) _ _ _))
            have bb49 := Lib.hid (below_set3 (M := w.heap.size + 1 + 1) BW5.out (by omega) (.slice a5 le.length c5) (.int .i64 r) (.int .i64 (dr + 1)))
            have rz49 := Lib.hid (rz_set R4.out (W' := (((v9.setCell ⟨w.heap.size + 1 + 1, 0, none⟩ (.slice a5 le.length c5)).setCell ⟨w.heap.size + 1 + 1, 1, none⟩ (.int .i64 r)).setCell ⟨w.heap.size + 1 + 1, 2, none⟩ (.int .i64 (dr + 1)))) (by simp only [World.size_setCell]) (fun g hg => set3_heap _ _ _ (by omega) _ _ _))
            refine hK.out _ _ (XS.out _ Q49 M49) (fun hH49 => ?_)
            generalize (((v9.setCell ⟨w.heap.size + 1 + 1, 0, none⟩ (.slice a5 le.length c5)).setCell ⟨w.heap.size + 1 + 1, 1, none⟩ (.int .i64 r)).setCell ⟨w.heap.size + 1 + 1, 2, none⟩ (.int .i64 (dr + 1))) = u49 at *
            clear hK K
            (try simp only [Act.put, List.setIfInBounds_toArray, List.set_cons_zero, List.set_cons_succ])
            refine wpAnyH_ready (rs := [3]) (by kernel_rfl) (by simp) ?_
            refine AllReadyH.cons (o := { dst := none, op := Op.store 30 (Operand.tmp 9) (Operand.tmp 84), type := 0, pos := _, after := #[{ on := 1, ground := Ground.data }, { on := 2, ground := Ground.chain }, { on := 0, ground := Ground.phase }, { on := 1, ground := Ground.phase }, { on := 2, ground := Ground.phase }], guard := none }) rfl (fun K hK => ?_) AllReadyH.nil
            obtain ⟨p0, p1, p2, p3, p4, p5, p6, p7, p8, p9, p10, p11, p12⟩ := Bk.c13 RM49
            have pf := Bk.f RM49
            go_simp
            clear pf p0 p1 p2 p3 p4 p5 p6 p7 p8 p9 p10 p11 p12
            have Q50 := Bk.set13 (M := w.heap.size + 1 + 1 + 1) Q49 (by omega) (.int .i64 y.id) (.string y.tp) (.int .i64 dy.k) (.int .i64 dy.i) (.int .u64 dy.u) (.string dy.s) (.slice dy.a dy.l dy.c) (.int .i64 y.ti) (.int .i64 y.un) (.string y.rp) (.int .i64 y.co) (.int .i64 y.pr) (.int .i64 y.ho)
            have M50 := Bk.set13 (M := w.heap.size + 1 + 1 + 1) M49 (by omega) (.int .i64 y.id) (.string y.tp) (.int .i64 dy.k) (.int .i64 dy.i) (.int .u64 dy.u) (.string dy.s) (.slice dy.a dy.l dy.c) (.int .i64 y.ti) (.int .i64 y.un) (.string y.rp) (.int .i64 y.co) (.int .i64 y.pr) (.int .i64 y.ho)
            have RQ50 := Bk.set13 (M := w.heap.size + 1 + 1 + 1) RQ49 (by omega) (.int .i64 y.id) (.string y.tp) (.int .i64 dy.k) (.int .i64 dy.i) (.int .u64 dy.u) (.string dy.s) (.slice dy.a dy.l dy.c) (.int .i64 y.ti) (.int .i64 y.un) (.string y.rp) (.int .i64 y.co) (.int .i64 y.pr) (.int .i64 y.ho)
            have RM50 := Bk.full13 RM49 (.int .i64 y.id) (.string y.tp) (.int .i64 dy.k) (.int .i64 dy.i) (.int .u64 dy.u) (.string dy.s) (.slice dy.a dy.l dy.c) (.int .i64 y.ti) (.int .i64 y.un) (.string y.rp) (.int .i64 y.co) (.int .i64 y.pr) (.int .i64 y.ho)
            have mz50 := Lib.hid (mz_set mz49.out (W' := (((((((((((((u49.setCell ⟨w.heap.size + 1 + 1 + 1, 0, none⟩ (.int .i64 y.id)).setCell ⟨w.heap.size + 1 + 1 + 1, 1, none⟩ (.string y.tp)).setCell ⟨w.heap.size + 1 + 1 + 1, 2, none⟩ (.int .i64 dy.k)).setCell ⟨w.heap.size + 1 + 1 + 1, 3, none⟩ (.int .i64 dy.i)).setCell ⟨w.heap.size + 1 + 1 + 1, 4, none⟩ (.int .u64 dy.u)).setCell ⟨w.heap.size + 1 + 1 + 1, 5, none⟩ (.string dy.s)).setCell ⟨w.heap.size + 1 + 1 + 1, 6, none⟩ (.slice dy.a dy.l dy.c)).setCell ⟨w.heap.size + 1 + 1 + 1, 7, none⟩ (.int .i64 y.ti)).setCell ⟨w.heap.size + 1 + 1 + 1, 8, none⟩ (.int .i64 y.un)).setCell ⟨w.heap.size + 1 + 1 + 1, 9, none⟩ (.string y.rp)).setCell ⟨w.heap.size + 1 + 1 + 1, 10, none⟩ (.int .i64 y.co)).setCell ⟨w.heap.size + 1 + 1 + 1, 11, none⟩ (.int .i64 y.pr)).setCell ⟨w.heap.size + 1 + 1 + 1, 12, none⟩ (.int .i64 y.ho))) (by simp only [World.size_setCell]) (fun g hg => set13_heap _ _ _ (by omega) _ _ _ _ _ _ _ _ _ _ _ _ _))
            have bb50 := Lib.hid (below_set13 (M := w.heap.size + 1 + 1 + 1) bb49.out (by omega) (.int .i64 y.id) (.string y.tp) (.int .i64 dy.k) (.int .i64 dy.i) (.int .u64 dy.u) (.string dy.s) (.slice dy.a dy.l dy.c) (.int .i64 y.ti) (.int .i64 y.un) (.string y.rp) (.int .i64 y.co) (.int .i64 y.pr) (.int .i64 y.ho))
            have rz50 := Lib.hid (rz_set rz49.out (W' := (((((((((((((u49.setCell ⟨w.heap.size + 1 + 1 + 1, 0, none⟩ (.int .i64 y.id)).setCell ⟨w.heap.size + 1 + 1 + 1, 1, none⟩ (.string y.tp)).setCell ⟨w.heap.size + 1 + 1 + 1, 2, none⟩ (.int .i64 dy.k)).setCell ⟨w.heap.size + 1 + 1 + 1, 3, none⟩ (.int .i64 dy.i)).setCell ⟨w.heap.size + 1 + 1 + 1, 4, none⟩ (.int .u64 dy.u)).setCell ⟨w.heap.size + 1 + 1 + 1, 5, none⟩ (.string dy.s)).setCell ⟨w.heap.size + 1 + 1 + 1, 6, none⟩ (.slice dy.a dy.l dy.c)).setCell ⟨w.heap.size + 1 + 1 + 1, 7, none⟩ (.int .i64 y.ti)).setCell ⟨w.heap.size + 1 + 1 + 1, 8, none⟩ (.int .i64 y.un)).setCell ⟨w.heap.size + 1 + 1 + 1, 9, none⟩ (.string y.rp)).setCell ⟨w.heap.size + 1 + 1 + 1, 10, none⟩ (.int .i64 y.co)).setCell ⟨w.heap.size + 1 + 1 + 1, 11, none⟩ (.int .i64 y.pr)).setCell ⟨w.heap.size + 1 + 1 + 1, 12, none⟩ (.int .i64 y.ho))) (by simp only [World.size_setCell]) (fun g hg => set13_heap _ _ _ (by omega) _ _ _ _ _ _ _ _ _ _ _ _ _))
            refine hK.out _ _ (XS.out _ Q50 M50) (fun hH50 => ?_)
            generalize (((((((((((((u49.setCell ⟨w.heap.size + 1 + 1 + 1, 0, none⟩ (.int .i64 y.id)).setCell ⟨w.heap.size + 1 + 1 + 1, 1, none⟩ (.string y.tp)).setCell ⟨w.heap.size + 1 + 1 + 1, 2, none⟩ (.int .i64 dy.k)).setCell ⟨w.heap.size + 1 + 1 + 1, 3, none⟩ (.int .i64 dy.i)).setCell ⟨w.heap.size + 1 + 1 + 1, 4, none⟩ (.int .u64 dy.u)).setCell ⟨w.heap.size + 1 + 1 + 1, 5, none⟩ (.string dy.s)).setCell ⟨w.heap.size + 1 + 1 + 1, 6, none⟩ (.slice dy.a dy.l dy.c)).setCell ⟨w.heap.size + 1 + 1 + 1, 7, none⟩ (.int .i64 y.ti)).setCell ⟨w.heap.size + 1 + 1 + 1, 8, none⟩ (.int .i64 y.un)).setCell ⟨w.heap.size + 1 + 1 + 1, 9, none⟩ (.string y.rp)).setCell ⟨w.heap.size + 1 + 1 + 1, 10, none⟩ (.int .i64 y.co)).setCell ⟨w.heap.size + 1 + 1 + 1, 11, none⟩ (.int .i64 y.pr)).setCell ⟨w.heap.size + 1 + 1 + 1, 12, none⟩ (.int .i64 y.ho)) = u50 at *
            clear hK K
            (try simp only [Act.put, List.setIfInBounds_toArray, List.set_cons_zero, List.set_cons_succ])
            refine wpAnyH_take (i := 4) (oi := { dst := some 10, op := Op.assign (Operand.const (Value.bool true)), type := 4, pos := _, after := #[{ on := 3, ground := Ground.chain }, { on := 0, ground := Ground.phase }, { on := 1, ground := Ground.phase }, { on := 2, ground := Ground.phase }, { on := 3, ground := Ground.phase }], guard := none }) (v := ?tre3) rfl (by kernel_rfl) (by kernel_rfl) (by kernel_rfl) (fun _ _ _ h => h) (Or.inl ⟨by rfl, ?ure3⟩) (by assumption) ?rre3
            case ure3 => (intro w hSw; (try dsimp only at hSw); go_simp; (try with_reducible rfl))
            simp only [Act.put, List.setIfInBounds_toArray, List.set_cons_zero, List.set_cons_succ]
            refine wpAnyH_take (i := 5) (oi := { dst := some 11, op := Op.assign (Operand.const (Value.int IntKind.i64 0)), type := 3, pos := _, after := #[{ on := 4, ground := Ground.chain }, { on := 0, ground := Ground.phase }, { on := 1, ground := Ground.phase }, { on := 2, ground := Ground.phase }, { on := 3, ground := Ground.phase }, { on := 4, ground := Ground.phase }], guard := none }) (v := ?tre4) rfl (by kernel_rfl) (by kernel_rfl) (by kernel_rfl) (fun _ _ _ h => h) (Or.inl ⟨by rfl, ?ure4⟩) (by assumption) ?rre4
            case ure4 => (intro w hSw; (try dsimp only at hSw); go_simp; (try with_reducible rfl))
            simp only [Act.put, List.setIfInBounds_toArray, List.set_cons_zero, List.set_cons_succ]
            refine wpAnyH_done (by kernel_rfl) ?_ _
            go_wp2_with fail
            obtain ⟨p0, p1, p2⟩ := Bk.c3 RQ50
            obtain ⟨g0, g1, g2, g3, g4, g5, g6, g7, g8, g9, g10, g11, g12⟩ := Bk.c13 RM50
            exact bodyPost_ret (v := .tuple #[.agg #[.slice a5 le.length c5, .int .i64 r, .int .i64 (dr + 1)], .agg (y.cs dy), .bool true, .int .i64 0]) (by simp [results, Try.results11, go_sem, p0, p1, p2, g0, g1, g2, g3, g4, g5, g6, g7, g8, g9, g10, g11, g12]) rfl (TOP1.out _ _ (PuP.of rfl (Nat.le_add_right _ _) mz50.out rz50.out bb50.out rfl (fun _ _ => rfl)))
    have e0 : (drop == 0) = false := by simpa using h0
    have e1 : (drop == 1) = false := by simpa using h2
    have TOP : Hid (∀ e w', PuP w l (r + 1) dr mZ false 190 e w' → PutP w l r dr room drop x e w') := fun e w' h => ⟨fun hn => absurd hn h1, fun _ => ⟨fun h => absurd h h0, fun h => absurd h h2, fun _ _ => h⟩⟩
    have M4 : Hid (Mz (fun g => w.heap.size + 4 ≤ g ∧ g < w1.heap.size) w1 a1 l) := by
      obtain ⟨a4, c4, e4, mz4⟩ := OUH.out.m.mz (F' := fun g => w.heap.size + 4 ≤ g ∧ g < w1.heap.size) (fun g hg => ⟨hg.1, hg.2.1⟩) (fun g hg => OUH.out.m.own_lt g hg)
      simp only [Value.slice.injEq] at e4
      obtain ⟨rfl, -, rfl⟩ := e4
      exact mz4
    obtain ⟨p0, p1, p2⟩ := RQH.out.c3
    have pf := RQH.out.f
    obtain ⟨g0, g1, g2, g3, g4, g5, g6, g7, g8, g9, g10, g11, g12⟩ := RMH.out.c13
    have gf := RMH.out.f
    clear h0 h2 OUH
    go_wp2_with (rw [HW1.out])
    exact bodyPost_ret (v := .tuple #[.agg #[.slice a1 l.length c1, .int .i64 (r + 1), .int .i64 dr], .agg (mZ.cs zD), .bool false, .int .i64 190]) (by simp [results, Try.results11, go_sem, World.cell?_setCell_same, World.cell?_setCell_other, p0, p1, p2, g0, g1, g2, g3, g4, g5, g6, g7, g8, g9, g10, g11, g12, mZ, zD]) rfl (TOP.out _ _ (PuP.of rfl (Nat.le_add_right _ _) M4.out (mZ_rz _ _) (below_set13 (below_set3 (Below.setCell BH1.out (by simp) _) (by omega) _ _ _) (by omega) _ _ _ _ _ _ _ _ _ _ _ _ _) (by simp) (fun g hg => by rw [set13_heap _ _ _ (by omega), set3_heap _ _ _ (by omega), Below.heap_setCell _ _ _ _ (by show g ≠ w.heap.size; omega)])))
end Go.Proofs.Ytdgjhclncjoonaa
