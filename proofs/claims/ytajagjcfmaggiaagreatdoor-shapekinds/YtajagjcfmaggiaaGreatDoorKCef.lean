/- MapName of a key, where a key's name is some text: Map and Maps give some text; the conditions: the value in memory, valid. -/
import Derived.Test.YtajagjcfmaggiaaGreatDoorKCee
import Derived.Test.YtajagjcfmaggiaaGreatDoorKCeb
namespace Go.Proofs.YtajagjcfmaggiaaGreatDoor
open Go.RowKit

set_option maxRecDepth 100000 in
set_option maxHeartbeats 1000000 in
theorem name_some (tp : ByteArray) (k i u : Int) (s : ByteArray) (a : Option Addr) (n c : Nat) (w : World) (D : Nat → Prop) (j : Int) (hj : Dt.I64 j) (hT : ∀ wx, Below w.heap.size w wx → Tb20 wx)
    (hO : ∀ wx, Below w.heap.size w wx → Calls Tryz.prog 76 #[.agg #[.int .i64 k, .int .i64 i, .int .u64 u, .string s, .slice a n c]] wx fun e w' => e = .returned (.iface 141 (.int .i64 j)) ∧ Below wx.heap.size wx w') :
    Calls Tryz.prog 59 #[.string tp, .agg #[.int .i64 k, .int .i64 i, .int .u64 u, .string s, .slice a n c]] w fun e w' => ∃ r : ByteArray, r.size ≤ 28 ∧ GR D (good (txT 0 r)) w e w' := by
  have hmf : ∀ (fn : Fn) (first cap : Array Value) (w : World), (Instr.makeFunc fn first cap).run Tryz.prog w = .ok (.func fn first cap) w := fun _ _ _ _ => rfl
  have hmm : ∀ (z : Value) (w : World), (method 367 141 z "Name").run Tryz.prog w = .ok (211, z) w := fun _ _ => by kernel_rfl
  have hcf : ∀ (args : Array Value) (w : World), (callFunc 211 args).run Tryz.prog w = .ok (.enter 211 args) w := fun _ _ => by kernel_rfl
  have has : ∀ (z : Value) (w : World), (Instr.typeAssert (.iface 141 z) 20 98 true).run Tryz.prog w = .ok (.tuple #[.iface 141 z, .bool true]) w := fun z w => run_typeAssert_hasB Tryz.underlying98 (by kernel_rfl) _ _ w
  have HO := Lib.hid hO
  have HP := Lib.hid pln_text
  have HT := Lib.hid hT
  clear hO hT
  have B0 := below2 w (.cells #[.int .i64 k, .int .i64 i, .int .u64 u, .string s, .slice a n c] 25) (.cells (rErr 0 0 0 0) 33)
  have D0 : Bk ((w.alloc (.cells #[.int .i64 k, .int .i64 i, .int .u64 u, .string s, .slice a n c] 25)).alloc (.cells (rErr 0 0 0 0) 33)) w.heap.size #[.int .i64 k, .int .i64 i, .int .u64 u, .string s, .slice a n c] 25 := (Bk.new w _ _).alloc _
  have R0 := Bk.new2 w (.cells #[.int .i64 k, .int .i64 i, .int .u64 u, .string s, .slice a n c] 25) (rErr 0 0 0 0) 33
  go_enter Tryz.func59, Tryz.ntmps59
  go_wp2_with fail
  refine (HO.out _ B0).mono ?_
  rintro e w1 ⟨rfl, b1⟩
  have B1 := B0.trans (b1.mono B0.size)
  have R1 := R0.step b1
  clear D0 R0
  go_wp2_with fail
  refine (keyName_any j hj _ (HT.out _ B1)).mono ?_
  rintro e w2 ⟨r, rfl, hr, b2⟩
  have B2 := B1.trans (b2.mono B1.size)
  have R2 := R1.step b2
  clear R1 b1 b2
  go_wp2_with fail
  refine (HP.out r (by omega) _).mono ?_
  rintro e w3 ⟨y0, y1, y2, y3, y4, y5, y6, rfl, ry, b3⟩
  have RY := Lib.hid ry
  have R3 := R2.step b3
  have B3 := B2.trans (b3.mono B2.size)
  clear ry R2 b3
  go_wp2_with fail
  refine (told_ok y0 y1 y2 y3 y4 y5 y6 _).mono ?_
  rintro e w4 ⟨rfl, b5⟩
  have r9 := R3.step b5
  have B9 := B3.trans (b5.mono B3.size)
  obtain ⟨c0, c1, c2, c3, c4, c5, c6, c7, c8, c9⟩ := r9.c10
  have z2 := r9.f
  go_wp2_with fail
  obtain ⟨k1, k2, k3, k4⟩ := set10 r9 (.int .i64 0) (.int .i64 0) (.int .i64 0) (.int .i64 0) (.bool true) (.int .i64 y0) (.int .i64 y1) (.int .u64 y2) (.string y3) (.slice y4 y5 y6) rfl
  have KF := B9.trans (k4.mono (by omega))
  obtain ⟨q0, q1, q2, q3, q4, q5, q6, q7, q8, q9⟩ := k1.c10
  refine bodyPost_ret (v := .agg (rcs 0 0 0 0 true y0 y1 y2 y3 y4 y5 y6)) ?_ rfl ⟨r, hr, y0, y1, y2, y3, y4, y5, y6, rfl, rz_leaf (t := txT 0 r) rfl RY.out.out, KF⟩
  simp [results, Tryz.results59, go_sem, q0, q1, q2, q3, q4, q5, q6, q7, q8, q9]

theorem body_some (tp : ByteArray) (k i u : Int) (s : ByteArray) (a : Option Addr) (n c : Nat) {m : Nat} (t : Dt.Tr (m + 1)) (ho : Ok (m + 1) t) (h2 : t.kd = 2) (w : World) (D : Nat → Prop) (hr : Rz D w (m + 1) [.int .i64 k, .int .i64 i, .int .u64 u, .string s, .slice a n c] t) (hT : Tb20 w) :
    Calls Tryz.prog (mfn 5) #[.string tp, .agg #[.int .i64 k, .int .i64 i, .int .u64 u, .string s, .slice a n c]] w fun e w' => ∃ r : ByteArray, r.size ≤ 28 ∧ GR D (good (txT 0 r)) w e w' := by
  have hv : Vl w m t k i u s a n c := ho.vl hr
  have HO : ∀ wx, Below w.heap.size w wx → Calls Tryz.prog 76 #[.agg #[.int .i64 k, .int .i64 i, .int .u64 u, .string s, .slice a n c]] wx fun e w' => ∃ v, e = .returned v ∧ Hid (Dt.VR (fun g => wx.heap.size ≤ g ∧ g < w'.heap.size) w' (m + 1) v t) ∧ Below wx.heap.size wx w' := fun wx hx => (of_val w m t k i u s a n c wx hv.rg hv.ps hv.rep hx).mono fun e w' ⟨v, he, _, vr, hb'⟩ => ⟨v, he, vr, hb'⟩
  show Calls Tryz.prog 59 _ _ _
  refine name_some tp k i u s a n c w D t.it ho.i6.1 (fun wx hx => hT.below hx) fun wx hx => (HO wx hx).mono fun e w' ⟨v, he, vr, hb'⟩ => ?_
  rcases Dt.vr_cases vr.out with ⟨q, rfl⟩ | ⟨q, rfl⟩ | ⟨q, rfl⟩ | ⟨q, rfl⟩ | ⟨q, rfl⟩ | ⟨q, rfl⟩ | ⟨q, rfl⟩ | ⟨q, a', c', rfl⟩ | ⟨q, a', c', rfl⟩ | ⟨q, x, y, rfl, hx, hy⟩ | ⟨q, rfl⟩ | ⟨q, b, u', rfl, hh, hu⟩ | ⟨q, rfl⟩ | ⟨q, rfl⟩
  all_goals first | omega | exact ⟨he, hb'⟩

set_option maxRecDepth 100000 in
set_option maxHeartbeats 4000000 in
theorem maps_some (ad : Option Addr) (cap : Nat) (tp : ByteArray) (k i u : Int) (s : ByteArray) (a : Option Addr) (n c : Nat) {m : Nat} (t : Dt.Tr (m + 1)) (ho : Ok (m + 1) t) (h2 : t.kd = 2) (w : World) (hr : Dt.Rep w (m + 1) [.int .i64 k, .int .i64 i, .int .u64 u, .string s, .slice a n c] t) (hI : Ints w ad [5]) (hT : Tb20 w) :
    Calls Tryz.prog 17 #[.slice ad 1 cap, .string tp, .agg #[.int .i64 k, .int .i64 i, .int .u64 u, .string s, .slice a n c]] w fun e w' => ∃ r : ByteArray, r.size ≤ 28 ∧ GM (good (txT 0 r)) w e w' := by
  have HT := Lib.hid hT
  have HR := Lib.hid hr
  have HO := Lib.hid ho
  have H2 := Lib.hid h2
  rcases hI with hk | ⟨g, o, hk1, hk2⟩
  · cases hk
  subst hk1
  have e0 := hk2 0 5 rfl
  have hgl : g < w.heap.size := World.block_lt_of_cell? w _ e0
  have E0 := Lib.hid e0
  clear hT hr ho h2 hk2 e0
  have B0 := below2 w (.cells #[.int .i64 k, .int .i64 i, .int .u64 u, .string s, .slice a n c] 25) (.cells (rErr 0 0 0 0) 33)
  have D0 : Bk ((w.alloc (.cells #[.int .i64 k, .int .i64 i, .int .u64 u, .string s, .slice a n c] 25)).alloc (.cells (rErr 0 0 0 0) 33)) w.heap.size #[.int .i64 k, .int .i64 i, .int .u64 u, .string s, .slice a n c] 25 := (Bk.new w _ _).alloc _
  have R0 := Bk.new2 w (.cells #[.int .i64 k, .int .i64 i, .int .u64 u, .string s, .slice a n c] 25) (rErr 0 0 0 0) 33
  go_enter Tryz.func17, Tryz.ntmps17
  go_wp2_with fail
  refine (told_ok k i u s a n c _).mono ?_
  rintro e w1 ⟨rfl, b1⟩
  obtain ⟨N, hN⟩ : ∃ N, w1.heap.size = N := ⟨_, rfl⟩
  have hN1 : w.heap.size + 1 < N := by have := b1.size; simp at this; omega
  have B1 := B0.trans (b1.mono B0.size)
  have L0 : Lp w N m t k i u s a n c (w1.alloc (.cells (rcs 0 0 0 0 true k i u s a n c) 33)) := ⟨B1.trans ((below1 _ _).mono B1.size), (R0.step b1).alloc _, hN ▸ Bk.new w1 _ _, Rz.to (fun g hg => by
    have h1 : g < w.heap.size := hg
    exact ⟨⟨by simp; omega, by omega, by omega⟩, ((below1 _ _).block g (by omega)).trans (B1.block g h1)⟩) _ _ _ (Rz.of_rep _ _ _ HR.out)⟩
  clear R0 D0 HR B0
  go_wp2_with fail
  go_loopw [14] (fun si wr => (si = .int .i64 0 ∧ Lp w N m t k i u s a n c wr) ∨ (si = .int .i64 1 ∧ ∃ (r9 : ByteArray) (k i u : Int) (s : ByteArray) (a : Option Addr) (n c : Nat), r9.size ≤ 28 ∧ Lp w N 0 (txT 0 r9) k i u s a n c wr)) (fun si _ => 1 - (intOf si).toNat)
  case atStart => exact .inl ⟨rfl, L0⟩
  case round =>
    rcases hrel with ⟨rfl, Lw⟩ | ⟨rfl, r9, k, i, u, s, a, n, c, hr9, Lw⟩
    · have x0 : wr.cell? ⟨g, o, none⟩ = some (.int .i64 5) := (Lw.b.cell (p := ⟨g, o, none⟩) hgl).trans (by simpa using E0.out)
      have HM := Lib.hid (mappingOf_any 5)
      have hcf := mcall 5
      have hfl : ∀ (v0 v1 : Value) (w : World), (Instr.field 65 (.agg #[v0, v1]) 0).run Tryz.prog w = .ok v0 w := fun _ _ _ => by kernel_rfl
      have HB : Hid (∀ (W : World) (_ : Lp w N m t k i u s a n c W), Calls Tryz.prog (mfn 5) #[.string tp, .agg #[.int .i64 k, .int .i64 i, .int .u64 u, .string s, .slice a n c]] W fun e w' => ∃ r9 : ByteArray, ∃ k' i' u' s' a' n' c', r9.size ≤ 28 ∧ e = .returned (.agg (rcs 0 0 0 0 true k' i' u' s' a' n' c')) ∧ Rz (fun g => (g < W.heap.size ∧ g ≠ w.heap.size + 1 ∧ g ≠ N) ∨ (W.heap.size ≤ g ∧ g < w'.heap.size)) w' 1 [.int .i64 k', .int .i64 i', .int .u64 u', .string s', .slice a' n' c'] (txT 0 r9) ∧ Below W.heap.size W w') := fun W L => (body_some tp k i u s a n c t HO.out H2.out W _ L.z (HT.out.below L.b)).mono fun e w' ⟨r, hr, k', i', u', s', a', n', c', he, hz, hb⟩ => ⟨r, k', i', u', s', a', n', c', hr, he, hz, hb⟩
      go_wp2_with fail
      have L1 := Lw.step (Below.refl wr.heap.size wr).drew
      refine wp_region_held_drew (S := fun _ => True) (by kernel_rfl) trivial (fun hHeld => ?_)
      clear Lw x0
      generalize wr.drew = w1 at *
      refine wpAnyH_take (i := 0) (oi := { dst := some 18, op := Op.move (Operand.tmp 9), type := 3, pos := _, after := #[], guard := none }) (v := ?tmf1) rfl (by kernel_rfl) (by kernel_rfl) (by kernel_rfl) (fun _ _ _ h => h) (Or.inl ⟨by rfl, ?umf1⟩) (by assumption) ?rmf1
      case umf1 => (intro w hSw; (try dsimp only at hSw); go_simp; (try with_reducible rfl))
      simp only [Act.put, List.setIfInBounds_toArray, List.set_cons_zero, List.set_cons_succ]
      refine wpAnyH_take (i := 3) (oi := { dst := some 21, op := Op.move (Operand.tmp 1), type := 9, pos := _, after := #[], guard := none }) (v := ?tmf2) rfl (by kernel_rfl) (by kernel_rfl) (by kernel_rfl) (fun _ _ _ h => h) (Or.inl ⟨by rfl, ?umf2⟩) (by assumption) ?rmf2
      case umf2 => (intro w hSw; (try dsimp only at hSw); go_simp; (try with_reducible rfl))
      simp only [Act.put, List.setIfInBounds_toArray, List.set_cons_zero, List.set_cons_succ]
      refine wpAnyH_take (i := 4) (oi := { dst := some 22, op := Op.fieldAddr 33 (Operand.tmp 7) 4, type := 0, pos := _, after := #[], guard := none }) (v := ?tmf3) rfl (by kernel_rfl) (by kernel_rfl) (by kernel_rfl) (fun _ _ _ h => h) (Or.inl ⟨by rfl, ?umf3⟩) (by assumption) ?rmf3
      case umf3 => (intro w hSw; (try dsimp only at hSw); go_simp; (try with_reducible rfl))
      simp only [Act.put, List.setIfInBounds_toArray, List.set_cons_zero, List.set_cons_succ]
      refine wpAnyH_ready (rs := [1, 5]) (by kernel_rfl) (by simp) ?_
      refine AllReadyH.cons (o := { dst := some 19, op := Op.call { callee := Callee.value (Operand.func 35), args := #[Operand.tmp 18], argTypes := #[3] }, type := 65, pos := _, after := #[{ on := 0, ground := Ground.data }], guard := none }) rfl (fun K hK => ?_) (AllReadyH.cons (o := { dst := some 23, op := Op.load 25 (Operand.tmp 22), type := 25, pos := _, after := #[{ on := 4, ground := Ground.data }], guard := none }) rfl (fun K hK => ?_) AllReadyH.nil)
      · go_simp
        refine (HM.out _).mono ?_
        rintro e wy1 ⟨rfl, e1⟩
        have L1 := L1.step e1
        clear e1
        go_wp2_with fail
        refine hK.out _ _ trivial (fun hH1 => ?_)
        clear hK K
        (try simp only [Act.put, List.setIfInBounds_toArray, List.set_cons_zero, List.set_cons_succ])
        refine wpAnyH_take (i := 2) (oi := { dst := some 20, op := Op.field 65 (Operand.tmp 19) 0, type := 62, pos := _, after := #[{ on := 1, ground := Ground.data }], guard := none }) (v := ?tmf4) rfl (by kernel_rfl) (by kernel_rfl) (by kernel_rfl) (fun _ _ _ h => h) (Or.inl ⟨by rfl, ?umf4⟩) (by assumption) ?rmf4
        case umf4 => (intro w hSw; (try dsimp only at hSw); go_simp; (try with_reducible rfl))
        simp only [Act.put, List.setIfInBounds_toArray, List.set_cons_zero, List.set_cons_succ]
        refine wpAnyH_ready (rs := [5]) (by kernel_rfl) (by simp) ?_
        refine AllReadyH.cons (o := { dst := some 23, op := Op.load 25 (Operand.tmp 22), type := 25, pos := _, after := #[{ on := 4, ground := Ground.data }], guard := none }) rfl (fun K hK => ?_) AllReadyH.nil
        obtain ⟨c0, c1, c2, c3, c4, c5, c6, c7, c8, c9⟩ := L1.v.c10
        go_simp
        clear c0 c1 c2 c3 c4 c5 c6 c7 c8 c9
        refine hK.out _ _ trivial (fun hH2 => ?_)
        clear hK K
        (try simp only [Act.put, List.setIfInBounds_toArray, List.set_cons_zero, List.set_cons_succ])
        refine wpAnyH_ready (rs := [6]) (by kernel_rfl) (by simp) ?_
        refine AllReadyH.cons (o := { dst := some 24, op := Op.call { callee := Callee.value (Operand.tmp 20), args := #[Operand.tmp 21, Operand.tmp 23], argTypes := #[9, 25] }, type := 33, pos := _, after := #[{ on := 2, ground := Ground.data }, { on := 3, ground := Ground.data }, { on := 5, ground := Ground.data }, { on := 1, ground := Ground.chain }], guard := none }) rfl (fun K hK => ?_) AllReadyH.nil
        go_simp
        refine (HB.out _ L1).mono ?_
        rintro e wy3 ⟨r9, k', i', u', s', a', n', c', hr9, rfl, hz, e3⟩
        have HZ := Lib.hid hz
        clear hz
        go_wp2_with fail
        refine hK.out _ _ trivial (fun hH3 => ?_)
        clear hK K
        (try simp only [Act.put, List.setIfInBounds_toArray, List.set_cons_zero, List.set_cons_succ])
        refine wpAnyH_ready (rs := [7]) (by kernel_rfl) (by simp) ?_
        refine AllReadyH.cons (o := { dst := none, op := Op.store 33 (Operand.tmp 7) (Operand.tmp 24), type := 0, pos := _, after := #[{ on := 6, ground := Ground.data }, { on := 6, ground := Ground.chain }, { on := 0, ground := Ground.phase }, { on := 1, ground := Ground.phase }, { on := 2, ground := Ground.phase }, { on := 3, ground := Ground.phase }, { on := 4, ground := Ground.phase }, { on := 5, ground := Ground.phase }, { on := 6, ground := Ground.phase }], guard := none }) rfl (fun K hK => ?_) AllReadyH.nil
        have v4 := L1.v.step e3
        obtain ⟨c0, c1, c2, c3, c4, c5, c6, c7, c8, c9⟩ := v4.c10
        have zf := v4.f
        go_simp
        clear c0 c1 c2 c3 c4 c5 c6 c7 c8 c9 zf
        obtain ⟨W9, hW9⟩ : ∃ W9, W9 = ((((((((((wy3.setCell ⟨N, 0, none⟩ (.int .i64 0)).setCell ⟨N, 1, none⟩ (.int .i64 0)).setCell ⟨N, 2, none⟩ (.int .i64 0)).setCell ⟨N, 3, none⟩ (.int .i64 0)).setCell ⟨N, 4, none⟩ (.bool true)).setCell ⟨N, 5, none⟩ (.int .i64 k')).setCell ⟨N, 6, none⟩ (.int .i64 i')).setCell ⟨N, 7, none⟩ (.int .u64 u')).setCell ⟨N, 8, none⟩ (.string s')).setCell ⟨N, 9, none⟩ (.slice a' n' c')) := ⟨_, rfl⟩
        obtain ⟨k1, k2, k3, k4⟩ := set10 v4 (.int .i64 0) (.int .i64 0) (.int .i64 0) (.int .i64 0) (.bool true) (.int .i64 k') (.int .i64 i') (.int .u64 u') (.string s') (.slice a' n' c') hW9
        rw [← hW9]
        clear hW9
        refine hK.out _ _ trivial (fun hH4 => ?_)
        clear hK K
        (try simp only [Act.put, List.setIfInBounds_toArray, List.set_cons_zero, List.set_cons_succ])
        refine wpAnyH_done (by kernel_rfl) ?_ _
        have L9 := L1.set hN1 e3 HZ.out k1 k2 k3 k4
        obtain ⟨c0, c1, c2, c3, c4, c5, c6, c7, c8, c9⟩ := L9.v.c10
        clear k1 k2 k3 k4
        go_wp2_with fail
        exact ⟨.inr ⟨rfl, r9, k', i', u', s', a', n', c', hr9, L9⟩, by simp [intOf]⟩
      · obtain ⟨c0, c1, c2, c3, c4, c5, c6, c7, c8, c9⟩ := L1.v.c10
        go_simp
        clear c0 c1 c2 c3 c4 c5 c6 c7 c8 c9
        refine hK.out _ _ trivial (fun hH5 => ?_)
        clear hK K
        (try simp only [Act.put, List.setIfInBounds_toArray, List.set_cons_zero, List.set_cons_succ])
        refine wpAnyH_ready (rs := [1]) (by kernel_rfl) (by simp) ?_
        refine AllReadyH.cons (o := { dst := some 19, op := Op.call { callee := Callee.value (Operand.func 35), args := #[Operand.tmp 18], argTypes := #[3] }, type := 65, pos := _, after := #[{ on := 0, ground := Ground.data }], guard := none }) rfl (fun K hK => ?_) AllReadyH.nil
        go_simp
        refine (HM.out _).mono ?_
        rintro e wy6 ⟨rfl, e6⟩
        have L6 := L1.step e6
        clear e6
        go_wp2_with fail
        refine hK.out _ _ trivial (fun hH6 => ?_)
        clear hK K
        (try simp only [Act.put, List.setIfInBounds_toArray, List.set_cons_zero, List.set_cons_succ])
        refine wpAnyH_take (i := 2) (oi := { dst := some 20, op := Op.field 65 (Operand.tmp 19) 0, type := 62, pos := _, after := #[{ on := 1, ground := Ground.data }], guard := none }) (v := ?tmf5) rfl (by kernel_rfl) (by kernel_rfl) (by kernel_rfl) (fun _ _ _ h => h) (Or.inl ⟨by rfl, ?umf5⟩) (by assumption) ?rmf5
        case umf5 => (intro w hSw; (try dsimp only at hSw); go_simp; (try with_reducible rfl))
        simp only [Act.put, List.setIfInBounds_toArray, List.set_cons_zero, List.set_cons_succ]
        refine wpAnyH_ready (rs := [6]) (by kernel_rfl) (by simp) ?_
        refine AllReadyH.cons (o := { dst := some 24, op := Op.call { callee := Callee.value (Operand.tmp 20), args := #[Operand.tmp 21, Operand.tmp 23], argTypes := #[9, 25] }, type := 33, pos := _, after := #[{ on := 2, ground := Ground.data }, { on := 3, ground := Ground.data }, { on := 5, ground := Ground.data }, { on := 1, ground := Ground.chain }], guard := none }) rfl (fun K hK => ?_) AllReadyH.nil
        go_simp
        refine (HB.out _ L6).mono ?_
        rintro e wy7 ⟨r9, k', i', u', s', a', n', c', hr9, rfl, hz, e7⟩
        have HZ := Lib.hid hz
        clear hz
        go_wp2_with fail
        refine hK.out _ _ trivial (fun hH7 => ?_)
        clear hK K
        (try simp only [Act.put, List.setIfInBounds_toArray, List.set_cons_zero, List.set_cons_succ])
        refine wpAnyH_ready (rs := [7]) (by kernel_rfl) (by simp) ?_
        refine AllReadyH.cons (o := { dst := none, op := Op.store 33 (Operand.tmp 7) (Operand.tmp 24), type := 0, pos := _, after := #[{ on := 6, ground := Ground.data }, { on := 6, ground := Ground.chain }, { on := 0, ground := Ground.phase }, { on := 1, ground := Ground.phase }, { on := 2, ground := Ground.phase }, { on := 3, ground := Ground.phase }, { on := 4, ground := Ground.phase }, { on := 5, ground := Ground.phase }, { on := 6, ground := Ground.phase }], guard := none }) rfl (fun K hK => ?_) AllReadyH.nil
        have v8 := L6.v.step e7
        obtain ⟨c0, c1, c2, c3, c4, c5, c6, c7, c8, c9⟩ := v8.c10
        have zf := v8.f
        go_simp
        clear c0 c1 c2 c3 c4 c5 c6 c7 c8 c9 zf
        obtain ⟨W9, hW9⟩ : ∃ W9, W9 = ((((((((((wy7.setCell ⟨N, 0, none⟩ (.int .i64 0)).setCell ⟨N, 1, none⟩ (.int .i64 0)).setCell ⟨N, 2, none⟩ (.int .i64 0)).setCell ⟨N, 3, none⟩ (.int .i64 0)).setCell ⟨N, 4, none⟩ (.bool true)).setCell ⟨N, 5, none⟩ (.int .i64 k')).setCell ⟨N, 6, none⟩ (.int .i64 i')).setCell ⟨N, 7, none⟩ (.int .u64 u')).setCell ⟨N, 8, none⟩ (.string s')).setCell ⟨N, 9, none⟩ (.slice a' n' c')) := ⟨_, rfl⟩
        obtain ⟨k1, k2, k3, k4⟩ := set10 v8 (.int .i64 0) (.int .i64 0) (.int .i64 0) (.int .i64 0) (.bool true) (.int .i64 k') (.int .i64 i') (.int .u64 u') (.string s') (.slice a' n' c') hW9
        rw [← hW9]
        clear hW9
        refine hK.out _ _ trivial (fun hH8 => ?_)
        clear hK K
        (try simp only [Act.put, List.setIfInBounds_toArray, List.set_cons_zero, List.set_cons_succ])
        refine wpAnyH_done (by kernel_rfl) ?_ _
        have L9 := L6.set hN1 e7 HZ.out k1 k2 k3 k4
        obtain ⟨c0, c1, c2, c3, c4, c5, c6, c7, c8, c9⟩ := L9.v.c10
        clear k1 k2 k3 k4
        go_wp2_with fail
        exact ⟨.inr ⟨rfl, r9, k', i', u', s', a', n', c', hr9, L9⟩, by simp [intOf]⟩
    · skip
      obtain ⟨c0, c1, c2, c3, c4, c5, c6, c7, c8, c9⟩ := Lw.v.c10
      go_wp2_with fail
      refine (Dt.vcopy _ (txT 0 r9) _ _ _ _ _ wr (Rz.rep _ _ _ Lw.z) (vB_to (ok_leaf (m := 0) 4 0 0 r9 (by simp [Dt.okB]; omega) u00 i00).v).2.1).mono ?_
      rintro e w2 ⟨k', i', u', s', a', n', c', rfl, rf, b2⟩
      have RF := Lib.hid rf
      have v2 := Lw.v.step b2
      have r2 := Lw.r.step b2
      have B2 := Lw.b.trans (b2.mono Lw.b.size)
      have lN := Lw.v.lt
      clear rf c0 c1 c2 c3 c4 c5 c6 c7 c8 c9
      obtain ⟨c0, c1, c2, c3, c4, c5, c6, c7, c8, c9⟩ := v2.c10
      have zf := v2.f
      obtain ⟨d0, d1, d2, d3, d4, d5, d6, d7, d8, d9⟩ := r2.c10
      have zd := r2.f
      go_wp2_with fail
      obtain ⟨W8, hW8⟩ : ∃ W8, W8 = (((((w2.setCell ⟨N, 5, none⟩ (.int .i64 k')).setCell ⟨N, 6, none⟩ (.int .i64 i')).setCell ⟨N, 7, none⟩ (.int .u64 u')).setCell ⟨N, 8, none⟩ (.string s')).setCell ⟨N, 9, none⟩ (.slice a' n' c')) := ⟨_, rfl⟩
      obtain ⟨k1, k2, k3, k4⟩ := set59 v2 (.int .i64 k') (.int .i64 i') (.int .u64 u') (.string s') (.slice a' n' c') hW8
      have r8 : Bk W8 (w.heap.size + 1) (rErr 0 0 0 0) 33 := (k3 _ (by omega)).trans r2
      obtain ⟨j1, j2, j3, j4⟩ := set10 r8 (.int .i64 0) (.int .i64 0) (.int .i64 0) (.int .i64 0) (.bool true) (.int .i64 k') (.int .i64 i') (.int .u64 u') (.string s') (.slice a' n' c') rfl
      have KF := (B2.trans (k4.mono (by omega))).trans (j4.mono (by omega))
      rw [← hW8]
      clear hW8
      obtain ⟨q0, q1, q2, q3, q4, q5, q6, q7, q8, q9⟩ := j1.c10
      refine bodyPost_ret (v := .agg (rcs 0 0 0 0 true k' i' u' s' a' n' c')) ?_ rfl ⟨r9, hr9, k', i', u', s', a', n', c', rfl, ?hz, KF⟩
      case hz =>
        exact Dt.Rf.to (fun g hg => by
          have hg1 := hg.1
          have hg2 := hg.2
          have := Lw.b.size
          exact ⟨⟨by omega, by omega⟩, (j3 g (by omega)).trans (k3 g (by omega))⟩) _ _ _ RF.out
      simp [results, Tryz.results17, go_sem, q0, q1, q2, q3, q4, q5, q6, q7, q8, q9]

set_option maxRecDepth 100000 in
set_option maxHeartbeats 1000000 in
theorem smap_some0 (tp : ByteArray) (k i u : Int) (s : ByteArray) (a : Option Addr) (n c : Nat) {m : Nat} (t : Dt.Tr (m + 1)) (ho : Ok (m + 1) t) (w : World) (hr : Dt.Rep w (m + 1) [.int .i64 k, .int .i64 i, .int .u64 u, .string s, .slice a n c] t) (h2 : t.kd = 2) (hT : Tb20 w) :
    Calls Tryz.prog 10 #[.int .i64 5, .string tp, .agg #[.int .i64 k, .int .i64 i, .int .u64 u, .string s, .slice a n c]] w fun e w' => ∃ r : Rs, (∃ r9 : ByteArray, r9.size ≤ 28 ∧ r = good (txT 0 r9)) ∧ GM r w e w' := by
  have B1 : Below w.heap.size w (((w.alloc (.cells #[.int .i64 k, .int .i64 i, .int .u64 u, .string s, .slice a n c] 25)).alloc (.cells (rErr 0 0 0 0) 33)).alloc (.cells #[.int .i64 5] 3)) := (below2 w _ _).trans ((below1 _ _).mono (by simp; omega))
  have R1 : Bk (((w.alloc (.cells #[.int .i64 k, .int .i64 i, .int .u64 u, .string s, .slice a n c] 25)).alloc (.cells (rErr 0 0 0 0) 33)).alloc (.cells #[.int .i64 5] 3)) (w.heap.size + 1) (rErr 0 0 0 0) 33 := (Bk.new2 w _ _ _).alloc _
  have N1 : Bk (((w.alloc (.cells #[.int .i64 k, .int .i64 i, .int .u64 u, .string s, .slice a n c] 25)).alloc (.cells (rErr 0 0 0 0) 33)).alloc (.cells #[.int .i64 5] 3)) (w.heap.size + 1 + 1) #[.int .i64 5] 3 := by
    have := Bk.new ((w.alloc (.cells #[.int .i64 k, .int .i64 i, .int .u64 u, .string s, .slice a n c] 25)).alloc (.cells (rErr 0 0 0 0) 33)) #[.int .i64 5] 3
    rwa [World.size_alloc, World.size_alloc] at this
  have HM := Lib.hid (maps_some (some ⟨w.heap.size + 1 + 1, 0, none⟩) 1 tp k i u s a n c t ho h2 _ (Dt.Rep.below B1 _ _ _ hr) (.inr ⟨w.heap.size + 1 + 1, 0, rfl, fun j x hx => by
    match j, hx with
    | 0, hx =>
      obtain rfl : 5 = x := by simpa using hx
      exact N1.c 0
    | j + 1, hx => simp at hx⟩) (hT.below B1))
  have HM := Lib.hid (HM.out.mono (R' := fun e w' => ∃ r : Rs, (∃ r9 : ByteArray, r9.size ≤ 28 ∧ r = good (txT 0 r9)) ∧ GM r _ e w') fun e w' h => by
    obtain ⟨r9, h9, h⟩ := h
    exact ⟨_, ⟨r9, h9, rfl⟩, h⟩)
  clear hr hT ho h2 N1
  go_enter Tryz.func10, Tryz.ntmps10
  go_wp2_with fail
  refine HM.out.mono ?_
  rintro e w2 ⟨r, hQ, k', i', u', s', a', n', c', rfl, rf, b2⟩
  have RF := Lib.hid rf
  clear rf
  have r2 := R1.step b2
  have B2 := B1.trans (b2.mono B1.size)
  obtain ⟨c0, c1, c2, c3, c4, c5, c6, c7, c8, c9⟩ := r2.c10
  have z2 := r2.f
  go_wp2_with fail
  obtain ⟨k1, k2, k3, k4⟩ := set10 r2 (.int .i64 r.er) (.int .i64 0) (.int .i64 r.pk) (.int .i64 r.pn) (.bool r.has) (.int .i64 k') (.int .i64 i') (.int .u64 u') (.string s') (.slice a' n' c') rfl
  have KF := B2.trans (k4.mono (by omega))
  obtain ⟨q0, q1, q2, q3, q4, q5, q6, q7, q8, q9⟩ := k1.c10
  refine bodyPost_ret (v := .agg (rcs r.er 0 r.pk r.pn r.has k' i' u' s' a' n' c')) ?_ rfl ⟨r, hQ, k', i', u', s', a', n', c', rfl, ?hz, KF⟩
  case hz =>
    exact Dt.Rf.to (fun g hg => by
      have hg1 : w.heap.size + 1 + 1 + 1 ≤ g := by simpa using hg.1
      exact ⟨⟨by omega, by have := hg.2; omega⟩, k3 g (by omega)⟩) _ _ _ RF.out
  simp [results, Tryz.results10, go_sem, q0, q1, q2, q3, q4, q5, q6, q7, q8, q9]

theorem smap_some (tp : ByteArray) (k i u : Int) (s : ByteArray) (a : Option Addr) (n c : Nat) {m : Nat} (t : Dt.Tr (m + 1)) (ho : Ok (m + 1) t) (w : World) (hr : Dt.Rep w (m + 1) [.int .i64 k, .int .i64 i, .int .u64 u, .string s, .slice a n c] t) (h2 : t.kd = 2) (hT : Tb20 w) :
    Calls Tryz.prog 10 #[.int .i64 5, .string tp, .agg #[.int .i64 k, .int .i64 i, .int .u64 u, .string s, .slice a n c]] w fun e w' => ∃ r : ByteArray, r.size ≤ 28 ∧ GM (good (txT 0 r)) w e w' :=
  (smap_some0 tp k i u s a n c t ho w hr h2 hT).mono fun e w' h => by
    obtain ⟨r, ⟨r9, h9, rfl⟩, h⟩ := h
    exact ⟨r9, h9, h⟩

end Go.Proofs.YtajagjcfmaggiaaGreatDoor
