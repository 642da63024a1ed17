/- The law BufferPuts by its contracts; the conditions: the contracts. -/
import Derived.Test.YtikkedemhcdboaaDoorBy
import Derived.Deep.Cut
import Derived.Deep.CutRange
namespace Go.Proofs.YtikkedemhcdboaaDoor
open Go.RowKit Tp

set_option maxRecDepth 100000 in
set_option maxHeartbeats 4000000 in
theorem bp_bad (l : List Ms) (ad : Option Addr) (c : Nat) (since a now : Int) (x : Ms) (d : Bo) (w : World) (fb xb : Bool) (hno : fb = false ∨ xb = false)
    (hF : ∀ wx, Below w.heap.size w wx → Calls Tryd.prog 6 #[.agg #[.slice ad l.length c, .int .i64 since], .int .i64 a, .int .i64 0, .int .i64 now] wx fun e w' => e = .returned (.bool fb) ∧ Below wx.heap.size wx w')
    (hX : ∀ wx, Below w.heap.size w wx → Calls Tryd.prog 7 #[.agg (x.cs d)] wx fun e w' => e = .returned (.bool xb) ∧ Below wx.heap.size wx w') :
    Calls Tryd.prog 3 #[.agg #[.slice ad l.length c, .int .i64 since], .int .i64 a, .int .i64 now, .agg (x.cs d)] w fun e w' => e = .returned (.bool true) ∧ Below w.heap.size w w' := by
  have B0 := below2 w (.cells #[.slice ad l.length c, .int .i64 since] 24) (.cells (x.cs d) 30)
  have M0 := Bk.new2 w (.cells #[.slice ad l.length c, .int .i64 since] 24) (x.cs d) 30
  have HF := Lib.hid (hF _ B0)
  have HX := Lib.hid hX
  clear hF hX
  go_enter Tryd.func3, Tryd.ntmps3
  cases fb with
  | false =>
    go_wp2_with (first | (go_at_call 6; refine HF.out.mono ?_; rintro e w1 ⟨rfl, b1⟩; have B1 := B0.trans (b1.mono B0.size)) | (go_at_call 8; refine (awake_any w1).mono ?_; rintro e w2 ⟨rfl, b2⟩; have B2 := B1.trans (b2.mono B1.size)))
    go_ret
    exact ⟨rfl, B2⟩
  | true =>
    obtain rfl : xb = false := hno.resolve_left (by simp)
    go_wp2_with (first | (go_at_call 6; refine HF.out.mono ?_; rintro e w1 ⟨rfl, b1⟩; have B1 := B0.trans (b1.mono B0.size); have M1 := M0.step b1; obtain ⟨m0, m1, m2, m3, m4, m5, m6, m7, m8, m9, m10, m11, m12⟩ := M1.c13) | (go_at_call 7; refine (HX.out w1 B1).mono ?_; rintro e w2 ⟨rfl, b2⟩; have B2 := B1.trans (b2.mono B1.size)) | (go_at_call 8; refine (awake_any w2).mono ?_; rintro e w3 ⟨rfl, b3⟩; have B3 := B2.trans (b3.mono B2.size)))
    go_ret
    exact ⟨rfl, B3⟩

set_option maxRecDepth 100000 in
set_option maxHeartbeats 8000000 in
theorem bp_good (l : List Ms) (ad : Option Addr) (c : Nat) (since a now : Int) (x : Ms) (d : Bo) (w : World) (l1 : List Ms) (s1 : Int) (l2 : List Ms) (hn : l1 = [] ∨ l2 = []) (hl1 : l1.length ≤ 1000) (hl2 : l2.length ≤ 1000) (hl : l.length ≤ 1000) (hI : Mw w ad l)
    (hF : ∀ wx, Below w.heap.size w wx → Calls Tryd.prog 6 #[.agg #[.slice ad l.length c, .int .i64 since], .int .i64 a, .int .i64 0, .int .i64 now] wx fun e w' => e = .returned (.bool true) ∧ Below wx.heap.size wx w')
    (hX : ∀ wx, Below w.heap.size w wx → Calls Tryd.prog 7 #[.agg (x.cs d)] wx fun e w' => e = .returned (.bool true) ∧ Below wx.heap.size wx w')
    (hC : ∀ wx, Below w.heap.size w wx → Calls Tryd.prog 9 #[.slice ad l.length c] wx (CzP wx l))
    (hM : ∀ wx, Below w.heap.size w wx → Calls Tryd.prog 11 #[.agg (x.cs d)] wx fun e w' => ∃ d' : Bo, e = .returned (.agg (x.cs d')) ∧ Rz (fun g => wx.heap.size ≤ g ∧ g < w'.heap.size) w' x.n d'.vs x.t ∧ Below wx.heap.size wx w')
    (hP : ∀ wx a0 c0 d', Mw wx a0 l → Dt.Rep wx x.n (Bo.vs d') x.t → Calls Tryd.prog 10 #[.agg #[.slice a0 l.length c0, .int .i64 since], .int .i64 a, .int .i64 now, .agg (x.cs d')] wx (BfP wx l1 s1 l2))
    (hR : ∀ wx, Below w.heap.size w wx → Calls Tryd.prog 12 #[.agg #[.slice ad l.length c, .int .i64 since], .int .i64 a, .int .i64 now, .agg (x.cs d)] wx (BfZ wx l1 s1 l2)) :
    Calls Tryd.prog 3 #[.agg #[.slice ad l.length c, .int .i64 since], .int .i64 a, .int .i64 now, .agg (x.cs d)] w fun e w' => e = .returned (.bool true) ∧ Below w.heap.size w w' := by
  have B0 := below2 w (.cells #[.slice ad l.length c, .int .i64 since] 24) (.cells (x.cs d) 30)
  have S0 : Bk _ w.heap.size #[.slice ad l.length c, .int .i64 since] 24 := (Bk.new w #[.slice ad l.length c, .int .i64 since] 24).alloc (.cells (x.cs d) 30)
  have M0 := Bk.new2 w (.cells #[.slice ad l.length c, .int .i64 since] 24) (x.cs d) 30
  have HF := Lib.hid (hF _ B0)
  have HX := Lib.hid hX
  have HI := Lib.hid hI
  have HN := Lib.hid hn
  have HC0 := Lib.hid hC
  have HM0 := Lib.hid hM
  have HP0 := Lib.hid hP
  have HR := Lib.hid hR
  clear hF hX hI hn hC hM hP hR
  go_enter Tryd.func3, Tryd.ntmps3
  go_wp2_with (first | (go_at_call 6; refine HF.out.mono ?_; rintro e w1 ⟨rfl, b1⟩; have B1 := B0.trans (b1.mono B0.size); have M1 := M0.step b1; have S1 := S0.step b1; obtain ⟨m0, m1, m2, m3, m4, m5, m6, m7, m8, m9, m10, m11, m12⟩ := M1.c13; have hs1 := b1.size; simp only [World.size_alloc] at hs1; clear b1) | (go_at_call 7; refine (HX.out w1 B1).mono ?_; rintro e W0 ⟨rfl, b2⟩; have B2 := B1.trans (b2.mono B1.size); have M2 := M1.step b2; have S2 := S1.step b2; have hs2 := b2.size; clear m0 m1 m2 m3 m4 m5 m6 m7 m8 m9 m10 m11 m12 B1 M1 S1 b2))
  have hW0 : w.heap.size + 2 ≤ W0.heap.size := by omega
  have HC : Hid (∀ wx, Below W0.heap.size W0 wx → Calls Tryd.prog 9 #[.slice ad l.length c] wx (CzP wx l)) := fun wx hb => HC0.out wx (B2.trans (hb.mono B2.size))
  have KS : Hid (∀ wx, Below W0.heap.size W0 wx → (fun wx => wx.cell? ⟨w.heap.size, 0, none⟩ = some (.slice ad l.length c) ∧ wx.cell? ⟨w.heap.size, 1, none⟩ = some (.int .i64 since)) wx) := fun wx hb => (S2.step hb).c2
  clear B0 S0 M0 HF HX hs1 hs2 HC0
  go_cut [9] from 14 to 31 (fun s9 wc => ∃ X a0 c0, s9 = .pointer (some ⟨X, 0, none⟩) ∧ Pe W0 l since X a0 c0 wc)
  case first =>
    have b0 : Below W0.heap.size W0 W0.drew := (Below.refl _ _).drew
    refine wp_region_held_drew (S := (fun wx => wx.cell? ⟨w.heap.size, 0, none⟩ = some (.slice ad l.length c) ∧ wx.cell? ⟨w.heap.size, 1, none⟩ = some (.int .i64 since))) (by kernel_rfl) (KS.out _ b0) (fun hHeld => ?_)
    generalize W0.drew = w1 at *
    refine wpAnyH_take (i := 0) (oi := { dst := some 25, op := Op.fieldAddr 24 (Operand.tmp 4) 0, type := 0, pos := _, after := #[], guard := none }) (v := ?tA1) rfl (by kernel_rfl) (by kernel_rfl) (by kernel_rfl) (fun _ _ _ h => h) (Or.inl ⟨by rfl, ?uA1⟩) (by assumption) ?rA1
    case uA1 => (intro w hSw; (try dsimp only at hSw); go_simp; (try with_reducible rfl))
    simp only [Act.put, List.setIfInBounds_toArray, List.set_cons_zero, List.set_cons_succ]
    refine wpAnyH_take (i := 1) (oi := { dst := some 26, op := Op.load 22 (Operand.tmp 25), type := 22, pos := _, after := #[{ on := 0, ground := Ground.data }], guard := none }) (v := ?tA2) rfl (by kernel_rfl) (by kernel_rfl) (by kernel_rfl) (fun _ _ _ h => h) (Or.inl ⟨by rfl, ?uA2⟩) (by assumption) ?rA2
    case uA2 => (intro w hSw; (try dsimp only at hSw); go_simp; (try with_reducible rfl))
    simp only [Act.put, List.setIfInBounds_toArray, List.set_cons_zero, List.set_cons_succ]
    refine wpAnyH_take (i := 3) (oi := { dst := some 28, op := Op.fieldAddr 24 (Operand.tmp 4) 1, type := 0, pos := _, after := #[], guard := none }) (v := ?tA3) rfl (by kernel_rfl) (by kernel_rfl) (by kernel_rfl) (fun _ _ _ h => h) (Or.inl ⟨by rfl, ?uA3⟩) (by assumption) ?rA3
    case uA3 => (intro w hSw; (try dsimp only at hSw); go_simp; (try with_reducible rfl))
    simp only [Act.put, List.setIfInBounds_toArray, List.set_cons_zero, List.set_cons_succ]
    refine wpAnyH_take (i := 4) (oi := { dst := some 29, op := Op.load 2 (Operand.tmp 28), type := 2, pos := _, after := #[{ on := 3, ground := Ground.data }], guard := none }) (v := ?tA4) rfl (by kernel_rfl) (by kernel_rfl) (by kernel_rfl) (fun _ _ _ h => h) (Or.inl ⟨by rfl, ?uA4⟩) (by assumption) ?rA4
    case uA4 => (intro w hSw; (try dsimp only at hSw); go_simp; (try with_reducible rfl))
    simp only [Act.put, List.setIfInBounds_toArray, List.set_cons_zero, List.set_cons_succ]
    refine wpAnyH_ready (rs := [2, 6]) (by kernel_rfl) (by simp) ?_
    refine AllReadyH.cons (o := { dst := some 27, op := Op.call { callee := Callee.value (Operand.func 9), args := #[Operand.tmp 26], argTypes := #[22] }, type := 22, pos := _, after := #[{ on := 1, ground := Ground.data }], guard := none }) rfl (fun K hK => ?_) (AllReadyH.cons (o := { dst := some 9, op := Op.alloc 24, type := 0, pos := _, after := #[], guard := none }) rfl (fun K hK => ?_) AllReadyH.nil)
    · go_simp
      refine (HC.out _ b0).mono ?_
      rintro e wy1 ⟨a0, c0, rfl, m1, e1⟩
      have b1 := b0.trans (e1.mono b0.size)
      have hz1 := e1.size
      have hlo1 : W0.heap.size ≤ w1.heap.size := b0.size
      obtain ⟨lo, hlo⟩ : ∃ lo, lo = w1.heap.size := ⟨_, rfl⟩
      obtain ⟨hi, hhi⟩ : ∃ hi, hi = wy1.heap.size := ⟨_, rfl⟩
      rw [← hlo, ← hhi] at m1
      have R1 := Lib.hid m1
      clear m1 e1
      go_wp2_with fail
      refine hK.out _ _ (KS.out _ b1) (fun hH1 => ?_)
      clear hK K
      (try simp only [Act.put, List.setIfInBounds_toArray, List.set_cons_zero, List.set_cons_succ])
      refine wpAnyH_take (i := 5) (oi := { dst := some 30, op := Op.build 24 #[(0, Operand.tmp 27), (1, Operand.tmp 29)], type := 24, pos := _, after := #[{ on := 2, ground := Ground.data }, { on := 4, ground := Ground.data }], guard := none }) (v := ?tA5) rfl (by kernel_rfl) (by kernel_rfl) (by kernel_rfl) (fun _ _ _ h => h) (Or.inl ⟨by rfl, ?uA5⟩) (by assumption) ?rA5
      case uA5 => (intro w hSw; (try dsimp only at hSw); go_simp; (try with_reducible rfl))
      simp only [Act.put, List.setIfInBounds_toArray, List.set_cons_zero, List.set_cons_succ]
      refine wpAnyH_ready (rs := [6]) (by kernel_rfl) (by simp) ?_
      refine AllReadyH.cons (o := { dst := some 9, op := Op.alloc 24, type := 0, pos := _, after := #[], guard := none }) rfl (fun K hK => ?_) AllReadyH.nil
      go_simp
      have e2 := below1 wy1 (.cells #[.slice none 0 0, .int .i64 0] 24)
      have fX2 := Bk.new wy1 #[.slice none 0 0, .int .i64 0] 24
      have lX2 : W0.heap.size ≤ wy1.heap.size := b1.size
      have b2 := b1.trans (e2.mono b1.size)
      have hz2 := e2.size
      have hy2 : (wy1.alloc (.cells #[.slice none 0 0, .int .i64 0] 24)).heap.size = wy1.heap.size + 1 := by simp
      have R2 := Lib.hid ((Mz.to R1.out fun g hg => ⟨hg, e2.block g (by omega)⟩))
      clear e2
      generalize hN2 : (wy1).heap.size = N2 at *
      generalize hW2 : (wy1).alloc (.cells #[.slice none 0 0, .int .i64 0] 24) = wv2 at *
      refine hK.out _ _ (KS.out _ b2) (fun hH2 => ?_)
      clear hK K
      (try simp only [Act.put, List.setIfInBounds_toArray, List.set_cons_zero, List.set_cons_succ])
      refine wpAnyH_ready (rs := [7]) (by kernel_rfl) (by simp) ?_
      refine AllReadyH.cons (o := { dst := none, op := Op.store 24 (Operand.tmp 9) (Operand.tmp 30), type := 0, pos := _, after := #[{ on := 6, ground := Ground.data }, { on := 5, ground := Ground.data }, { on := 2, ground := Ground.chain }, { on := 0, ground := Ground.phase }, { on := 1, ground := Ground.phase }, { on := 2, ground := Ground.phase }, { on := 3, ground := Ground.phase }, { on := 4, ground := Ground.phase }, { on := 5, ground := Ground.phase }, { on := 6, ground := Ground.phase }], guard := none }) rfl (fun K hK => ?_) AllReadyH.nil
      obtain ⟨z0, z1⟩ := fX2.c2
      have zf := fX2.f
      go_simp
      have P9 := Lib.hid (Pe.mk' (c0 := c0) (since := since) lo hi (by omega) (by omega) (by omega) lX2 b2 fX2 R2.out)
      have b3 := P9.out.b
      refine hK.out _ _ (KS.out _ b3) (fun hH3 => ?_)
      clear hK K
      (try simp only [Act.put, List.setIfInBounds_toArray, List.set_cons_zero, List.set_cons_succ])
      refine wpAnyH_done (by kernel_rfl) ?_ _
      go_wp2_with fail
      go_meet
      exact ⟨_, a0, c0, rfl, P9.out⟩
    · go_simp
      have e4 := below1 w1 (.cells #[.slice none 0 0, .int .i64 0] 24)
      have fX4 := Bk.new w1 #[.slice none 0 0, .int .i64 0] 24
      have lX4 : W0.heap.size ≤ w1.heap.size := b0.size
      have b4 := b0.trans (e4.mono b0.size)
      have hz4 := e4.size
      have hy4 : (w1.alloc (.cells #[.slice none 0 0, .int .i64 0] 24)).heap.size = w1.heap.size + 1 := by simp
      clear e4
      generalize hN4 : (w1).heap.size = N4 at *
      generalize hW4 : (w1).alloc (.cells #[.slice none 0 0, .int .i64 0] 24) = wv4 at *
      refine hK.out _ _ (KS.out _ b4) (fun hH4 => ?_)
      clear hK K
      (try simp only [Act.put, List.setIfInBounds_toArray, List.set_cons_zero, List.set_cons_succ])
      refine wpAnyH_ready (rs := [2]) (by kernel_rfl) (by simp) ?_
      refine AllReadyH.cons (o := { dst := some 27, op := Op.call { callee := Callee.value (Operand.func 9), args := #[Operand.tmp 26], argTypes := #[22] }, type := 22, pos := _, after := #[{ on := 1, ground := Ground.data }], guard := none }) rfl (fun K hK => ?_) AllReadyH.nil
      go_simp
      refine (HC.out _ b4).mono ?_
      rintro e wy5 ⟨a0, c0, rfl, m5, e5⟩
      have b5 := b4.trans (e5.mono b4.size)
      have hz5 := e5.size
      have fX5 := fX4.step e5
      have lt5 := fX4.lt
      have hlo5 : W0.heap.size ≤ wv4.heap.size := b4.size
      obtain ⟨lo, hlo⟩ : ∃ lo, lo = wv4.heap.size := ⟨_, rfl⟩
      obtain ⟨hi, hhi⟩ : ∃ hi, hi = wy5.heap.size := ⟨_, rfl⟩
      rw [← hlo, ← hhi] at m5
      have R5 := Lib.hid m5
      clear m5 e5
      go_wp2_with fail
      refine hK.out _ _ (KS.out _ b5) (fun hH5 => ?_)
      clear hK K
      (try simp only [Act.put, List.setIfInBounds_toArray, List.set_cons_zero, List.set_cons_succ])
      refine wpAnyH_take (i := 5) (oi := { dst := some 30, op := Op.build 24 #[(0, Operand.tmp 27), (1, Operand.tmp 29)], type := 24, pos := _, after := #[{ on := 2, ground := Ground.data }, { on := 4, ground := Ground.data }], guard := none }) (v := ?tA6) rfl (by kernel_rfl) (by kernel_rfl) (by kernel_rfl) (fun _ _ _ h => h) (Or.inl ⟨by rfl, ?uA6⟩) (by assumption) ?rA6
      case uA6 => (intro w hSw; (try dsimp only at hSw); go_simp; (try with_reducible rfl))
      simp only [Act.put, List.setIfInBounds_toArray, List.set_cons_zero, List.set_cons_succ]
      refine wpAnyH_ready (rs := [7]) (by kernel_rfl) (by simp) ?_
      refine AllReadyH.cons (o := { dst := none, op := Op.store 24 (Operand.tmp 9) (Operand.tmp 30), type := 0, pos := _, after := #[{ on := 6, ground := Ground.data }, { on := 5, ground := Ground.data }, { on := 2, ground := Ground.chain }, { on := 0, ground := Ground.phase }, { on := 1, ground := Ground.phase }, { on := 2, ground := Ground.phase }, { on := 3, ground := Ground.phase }, { on := 4, ground := Ground.phase }, { on := 5, ground := Ground.phase }, { on := 6, ground := Ground.phase }], guard := none }) rfl (fun K hK => ?_) AllReadyH.nil
      obtain ⟨z0, z1⟩ := fX5.c2
      have zf := fX5.f
      go_simp
      have P9 := Lib.hid (Pe.mk' (c0 := c0) (since := since) lo hi (by omega) (by omega) (by omega) lX4 b5 fX5 R5.out)
      have b6 := P9.out.b
      refine hK.out _ _ (KS.out _ b6) (fun hH6 => ?_)
      clear hK K
      (try simp only [Act.put, List.setIfInBounds_toArray, List.set_cons_zero, List.set_cons_succ])
      refine wpAnyH_done (by kernel_rfl) ?_ _
      go_wp2_with fail
      go_meet
      exact ⟨_, a0, c0, rfl, P9.out⟩
  case rest =>
    obtain ⟨X, a0, c0, rfl, pe⟩ := hcut
    clear HC KS
    have M3 := M2.step pe.b
    have S3 := S2.step pe.b
    have B3 := B2.trans (pe.b.mono B2.size)
    have hx3 := pe.x
    have hs3 := pe.b.size
    have PE := Lib.hid pe
    have hxl := pe.o.lt
    have pwc := Lib.hid pe.o
    have pr := Lib.hid pe.r
    clear pe M2 S2 B2
    obtain ⟨W1, hW1⟩ : ∃ W1, W1 = wc := ⟨_, rfl⟩
    rw [← hW1] at M3 S3 B3 hxl pwc pr PE hs3 ⊢
    clear hW1
    have HM : Hid (∀ wx, Below W1.heap.size W1 wx → Calls Tryd.prog 11 #[.agg (x.cs d)] wx fun e w' => ∃ d' : Bo, e = .returned (.agg (x.cs d')) ∧ Rz (fun g => wx.heap.size ≤ g ∧ g < w'.heap.size) w' x.n d'.vs x.t ∧ Below wx.heap.size wx w') := fun wx hb => HM0.out wx (B3.trans (hb.mono B3.size))
    have HP : Hid (∀ wx d', Below W1.heap.size W1 wx → Dt.Rep wx x.n (Bo.vs d') x.t → Calls Tryd.prog 10 #[.agg #[.slice a0 l.length c0, .int .i64 since], .int .i64 a, .int .i64 now, .agg (x.cs d')] wx (BfP wx l1 s1 l2)) := fun wx d' hb hr => HP0.out wx a0 c0 d' (Mw.below pr.out.mw hb) hr
    have KS : Hid (∀ wx, Below W1.heap.size W1 wx → (fun wx => (wx.cell? ⟨X, 0, none⟩ = some (.slice a0 l.length c0) ∧ wx.cell? ⟨X, 1, none⟩ = some (.int .i64 since)) ∧ wx.cell? ⟨w.heap.size + 1, 0, none⟩ = some (.int .i64 x.id) ∧ wx.cell? ⟨w.heap.size + 1, 1, none⟩ = some (.string x.tp) ∧ wx.cell? ⟨w.heap.size + 1, 2, none⟩ = some (.int .i64 d.k) ∧ wx.cell? ⟨w.heap.size + 1, 3, none⟩ = some (.int .i64 d.i) ∧ wx.cell? ⟨w.heap.size + 1, 4, none⟩ = some (.int .u64 d.u) ∧ wx.cell? ⟨w.heap.size + 1, 5, none⟩ = some (.string d.s) ∧ wx.cell? ⟨w.heap.size + 1, 6, none⟩ = some (.slice d.a d.l d.c) ∧ wx.cell? ⟨w.heap.size + 1, 7, none⟩ = some (.int .i64 x.ti) ∧ wx.cell? ⟨w.heap.size + 1, 8, none⟩ = some (.int .i64 x.un) ∧ wx.cell? ⟨w.heap.size + 1, 9, none⟩ = some (.string x.rp) ∧ wx.cell? ⟨w.heap.size + 1, 10, none⟩ = some (.int .i64 x.co) ∧ wx.cell? ⟨w.heap.size + 1, 11, none⟩ = some (.int .i64 x.pr) ∧ wx.cell? ⟨w.heap.size + 1, 12, none⟩ = some (.int .i64 x.ho)) wx) := fun wx hb => ⟨(pwc.out.step hb).c2, (M3.step hb).c13⟩
    clear HM0 HP0
    go_wp2_with fail
    go_cut [10, 11] from 14 to 40 (fun s10 s11 wd => ∃ Y a1 c1 a2 c2 L H, s10 = .pointer (some ⟨Y, 0, none⟩) ∧ s11 = .slice a2 l2.length c2 ∧ Pf W1 l1 s1 l2 Y L H a1 c1 a2 wd)
    case first =>
      have b0 : Below W1.heap.size W1 W1.drew := (Below.refl _ _).drew
      refine wp_region_held_drew (S := (fun wx => (wx.cell? ⟨X, 0, none⟩ = some (.slice a0 l.length c0) ∧ wx.cell? ⟨X, 1, none⟩ = some (.int .i64 since)) ∧ wx.cell? ⟨w.heap.size + 1, 0, none⟩ = some (.int .i64 x.id) ∧ wx.cell? ⟨w.heap.size + 1, 1, none⟩ = some (.string x.tp) ∧ wx.cell? ⟨w.heap.size + 1, 2, none⟩ = some (.int .i64 d.k) ∧ wx.cell? ⟨w.heap.size + 1, 3, none⟩ = some (.int .i64 d.i) ∧ wx.cell? ⟨w.heap.size + 1, 4, none⟩ = some (.int .u64 d.u) ∧ wx.cell? ⟨w.heap.size + 1, 5, none⟩ = some (.string d.s) ∧ wx.cell? ⟨w.heap.size + 1, 6, none⟩ = some (.slice d.a d.l d.c) ∧ wx.cell? ⟨w.heap.size + 1, 7, none⟩ = some (.int .i64 x.ti) ∧ wx.cell? ⟨w.heap.size + 1, 8, none⟩ = some (.int .i64 x.un) ∧ wx.cell? ⟨w.heap.size + 1, 9, none⟩ = some (.string x.rp) ∧ wx.cell? ⟨w.heap.size + 1, 10, none⟩ = some (.int .i64 x.co) ∧ wx.cell? ⟨w.heap.size + 1, 11, none⟩ = some (.int .i64 x.pr) ∧ wx.cell? ⟨w.heap.size + 1, 12, none⟩ = some (.int .i64 x.ho))) (by kernel_rfl) (KS.out _ b0) (fun hHeld => ?_)
      generalize W1.drew = w1 at *
      refine wpAnyH_take (i := 0) (oi := { dst := some 32, op := Op.load 24 (Operand.tmp 9), type := 24, pos := _, after := #[], guard := none }) (v := ?tB1) rfl (by kernel_rfl) (by kernel_rfl) (by kernel_rfl) (fun _ _ _ h => h) (Or.inl ⟨by rfl, ?uB1⟩) (by assumption) ?rB1
      case uB1 => (intro w hSw; (try dsimp only at hSw); go_simp; (try with_reducible rfl))
      simp only [Act.put, List.setIfInBounds_toArray, List.set_cons_zero, List.set_cons_succ]
      refine wpAnyH_take (i := 1) (oi := { dst := some 33, op := Op.move (Operand.tmp 1), type := 2, pos := _, after := #[], guard := none }) (v := ?tB2) rfl (by kernel_rfl) (by kernel_rfl) (by kernel_rfl) (fun _ _ _ h => h) (Or.inl ⟨by rfl, ?uB2⟩) (by assumption) ?rB2
      case uB2 => (intro w hSw; (try dsimp only at hSw); go_simp; (try with_reducible rfl))
      simp only [Act.put, List.setIfInBounds_toArray, List.set_cons_zero, List.set_cons_succ]
      refine wpAnyH_take (i := 2) (oi := { dst := some 34, op := Op.move (Operand.tmp 2), type := 2, pos := _, after := #[], guard := none }) (v := ?tB3) rfl (by kernel_rfl) (by kernel_rfl) (by kernel_rfl) (fun _ _ _ h => h) (Or.inl ⟨by rfl, ?uB3⟩) (by assumption) ?rB3
      case uB3 => (intro w hSw; (try dsimp only at hSw); go_simp; (try with_reducible rfl))
      simp only [Act.put, List.setIfInBounds_toArray, List.set_cons_zero, List.set_cons_succ]
      refine wpAnyH_take (i := 3) (oi := { dst := some 35, op := Op.load 30 (Operand.tmp 7), type := 30, pos := _, after := #[], guard := none }) (v := ?tB4) rfl (by kernel_rfl) (by kernel_rfl) (by kernel_rfl) (fun _ _ _ h => h) (Or.inl ⟨by rfl, ?uB4⟩) (by assumption) ?rB4
      case uB4 => (intro w hSw; (try dsimp only at hSw); go_simp; (try with_reducible rfl))
      simp only [Act.put, List.setIfInBounds_toArray, List.set_cons_zero, List.set_cons_succ]
      refine wpAnyH_ready (rs := [4, 9]) (by kernel_rfl) (by simp) ?_
      refine AllReadyH.cons (o := { dst := some 36, op := Op.call { callee := Callee.value (Operand.func 11), args := #[Operand.tmp 35], argTypes := #[30] }, type := 30, pos := _, after := #[{ on := 3, ground := Ground.data }], guard := none }) rfl (fun K hK => ?_) (AllReadyH.cons (o := { dst := some 10, op := Op.alloc 24, type := 0, pos := _, after := #[], guard := none }) rfl (fun K hK => ?_) AllReadyH.nil)
      · go_simp
        refine (HM.out _ b0).mono ?_
        rintro e wy7 ⟨d', rfl, m7, e7⟩
        have b7 := b0.trans (e7.mono b0.size)
        have hz7 := e7.size
        have R7 := Lib.hid (Rz.rep _ _ _ m7)
        clear m7 e7
        go_wp2_with fail
        refine hK.out _ _ (KS.out _ b7) (fun hH7 => ?_)
        clear hK K
        (try simp only [Act.put, List.setIfInBounds_toArray, List.set_cons_zero, List.set_cons_succ])
        refine wpAnyH_ready (rs := [5, 9]) (by kernel_rfl) (by simp) ?_
        refine AllReadyH.cons (o := { dst := some 37, op := Op.call { callee := Callee.value (Operand.func 10), args := #[Operand.tmp 32, Operand.tmp 33, Operand.tmp 34, Operand.tmp 36], argTypes := #[24, 2, 2, 30] }, type := 35, pos := _, after := #[{ on := 0, ground := Ground.data }, { on := 1, ground := Ground.data }, { on := 2, ground := Ground.data }, { on := 4, ground := Ground.data }, { on := 4, ground := Ground.chain }], guard := none }) rfl (fun K hK => ?_) (AllReadyH.cons (o := { dst := some 10, op := Op.alloc 24, type := 0, pos := _, after := #[], guard := none }) rfl (fun K hK => ?_) AllReadyH.nil)
        · go_simp
          refine (HP.out _ d' b7 R7.out).mono ?_
          rintro e wy8 ⟨a1, c1, a2, c2, rfl, -, -, m8, k8, e8⟩
          have b8 := b7.trans (e8.mono b7.size)
          have hz8 := e8.size
          have hlo8 : W1.heap.size ≤ wy7.heap.size := b7.size
          obtain ⟨lo, hlo⟩ : ∃ lo, lo = wy7.heap.size := ⟨_, rfl⟩
          obtain ⟨hi, hhi⟩ : ∃ hi, hi = wy8.heap.size := ⟨_, rfl⟩
          rw [← hlo, ← hhi] at m8 k8
          have U8 := Lib.hid m8
          have V8 := Lib.hid k8
          clear m8 k8 e8
          go_wp2_with fail
          refine hK.out _ _ (KS.out _ b8) (fun hH8 => ?_)
          clear hK K
          (try simp only [Act.put, List.setIfInBounds_toArray, List.set_cons_zero, List.set_cons_succ])
          refine wpAnyH_take (i := 6) (oi := { dst := some 31, op := Op.move (Operand.tmp 37), type := 35, pos := _, after := #[{ on := 5, ground := Ground.data }], guard := none }) (v := ?tB5) rfl (by kernel_rfl) (by kernel_rfl) (by kernel_rfl) (fun _ _ _ h => h) (Or.inl ⟨by rfl, ?uB5⟩) (by assumption) ?rB5
          case uB5 => (intro w hSw; (try dsimp only at hSw); go_simp; (try with_reducible rfl))
          simp only [Act.put, List.setIfInBounds_toArray, List.set_cons_zero, List.set_cons_succ]
          refine wpAnyH_take (i := 7) (oi := { dst := some 38, op := Op.extract (Operand.tmp 31) 0, type := 24, pos := _, after := #[{ on := 6, ground := Ground.data }], guard := none }) (v := ?tB6) rfl (by kernel_rfl) (by kernel_rfl) (by kernel_rfl) (fun _ _ _ h => h) (Or.inl ⟨by rfl, ?uB6⟩) (by assumption) ?rB6
          case uB6 => (intro w hSw; (try dsimp only at hSw); go_simp; (try with_reducible rfl))
          simp only [Act.put, List.setIfInBounds_toArray, List.set_cons_zero, List.set_cons_succ]
          refine wpAnyH_take (i := 8) (oi := { dst := some 39, op := Op.extract (Operand.tmp 31) 1, type := 22, pos := _, after := #[{ on := 6, ground := Ground.data }, { on := 10, ground := Ground.gcOnly Departure.lateStores }], guard := none }) (v := ?tB7) rfl (by kernel_rfl) (by kernel_rfl) (by kernel_rfl) (fun _ _ _ h => h) (Or.inl ⟨by rfl, ?uB7⟩) (by assumption) ?rB7
          case uB7 => (intro w hSw; (try dsimp only at hSw); go_simp; (try with_reducible rfl))
          simp only [Act.put, List.setIfInBounds_toArray, List.set_cons_zero, List.set_cons_succ]
          refine wpAnyH_ready (rs := [9]) (by kernel_rfl) (by simp) ?_
          refine AllReadyH.cons (o := { dst := some 10, op := Op.alloc 24, type := 0, pos := _, after := #[], guard := none }) rfl (fun K hK => ?_) AllReadyH.nil
          go_simp
          have e9 := below1 wy8 (.cells #[.slice none 0 0, .int .i64 0] 24)
          have fX9 := Bk.new wy8 #[.slice none 0 0, .int .i64 0] 24
          have lX9 : W1.heap.size ≤ wy8.heap.size := b8.size
          have b9 := b8.trans (e9.mono b8.size)
          have hz9 := e9.size
          have hy9 : (wy8.alloc (.cells #[.slice none 0 0, .int .i64 0] 24)).heap.size = wy8.heap.size + 1 := by simp
          have U9 := Lib.hid ((Mf.to U8.out fun g hg => ⟨hg, e9.block g (by omega)⟩))
          have V9 := Lib.hid ((Mf.to V8.out fun g hg => ⟨hg, e9.block g (by omega)⟩))
          clear e9
          generalize hN9 : (wy8).heap.size = N9 at *
          generalize hW9 : (wy8).alloc (.cells #[.slice none 0 0, .int .i64 0] 24) = wv9 at *
          refine hK.out _ _ (KS.out _ b9) (fun hH9 => ?_)
          clear hK K
          (try simp only [Act.put, List.setIfInBounds_toArray, List.set_cons_zero, List.set_cons_succ])
          refine wpAnyH_ready (rs := [10]) (by kernel_rfl) (by simp) ?_
          refine AllReadyH.cons (o := { dst := none, op := Op.store 24 (Operand.tmp 10) (Operand.tmp 38), type := 0, pos := _, after := #[{ on := 9, ground := Ground.data }, { on := 7, ground := Ground.data }, { on := 5, ground := Ground.chain }, { on := 0, ground := Ground.phase }, { on := 1, ground := Ground.phase }, { on := 2, ground := Ground.phase }, { on := 3, ground := Ground.phase }, { on := 4, ground := Ground.phase }, { on := 5, ground := Ground.phase }, { on := 6, ground := Ground.phase }, { on := 7, ground := Ground.phase }, { on := 8, ground := Ground.textOnly Departure.lateStores }, { on := 9, ground := Ground.phase }], guard := none }) rfl (fun K hK => ?_) AllReadyH.nil
          obtain ⟨z0, z1⟩ := fX9.c2
          have zf := fX9.f
          go_simp
          have P9 := Lib.hid (Pf.mk' (c1 := c1) (s1 := s1) b9 fX9 lX9 (by omega) (by omega) (by omega) U9.out V9.out)
          have b10 := P9.out.b
          refine hK.out _ _ (KS.out _ b10) (fun hH10 => ?_)
          clear hK K
          (try simp only [Act.put, List.setIfInBounds_toArray, List.set_cons_zero, List.set_cons_succ])
          refine wpAnyH_take (i := 11) (oi := { dst := some 11, op := Op.assign (Operand.tmp 39), type := 22, pos := _, after := #[{ on := 8, ground := Ground.data }, { on := 10, ground := Ground.chain }, { on := 0, ground := Ground.phase }, { on := 1, ground := Ground.phase }, { on := 2, ground := Ground.phase }, { on := 3, ground := Ground.phase }, { on := 4, ground := Ground.phase }, { on := 5, ground := Ground.phase }, { on := 6, ground := Ground.phase }, { on := 7, ground := Ground.phase }, { on := 8, ground := Ground.phase }, { on := 9, ground := Ground.phase }, { on := 10, ground := Ground.phase }], guard := none }) (v := ?tB8) rfl (by kernel_rfl) (by kernel_rfl) (by kernel_rfl) (fun _ _ _ h => h) (Or.inl ⟨by rfl, ?uB8⟩) (by assumption) ?rB8
          case uB8 => (intro w hSw; (try dsimp only at hSw); go_simp; (try with_reducible rfl))
          simp only [Act.put, List.setIfInBounds_toArray, List.set_cons_zero, List.set_cons_succ]
          refine wpAnyH_done (by kernel_rfl) ?_ _
          go_wp2_with fail
          go_meet
          exact ⟨_, a1, c1, a2, c2, lo, hi, rfl, rfl, P9.out⟩
        · go_simp
          have e11 := below1 wy7 (.cells #[.slice none 0 0, .int .i64 0] 24)
          have fX11 := Bk.new wy7 #[.slice none 0 0, .int .i64 0] 24
          have lX11 : W1.heap.size ≤ wy7.heap.size := b7.size
          have b11 := b7.trans (e11.mono b7.size)
          have hz11 := e11.size
          have hy11 : (wy7.alloc (.cells #[.slice none 0 0, .int .i64 0] 24)).heap.size = wy7.heap.size + 1 := by simp
          have R11 := Lib.hid (Dt.Rep.below e11 _ _ _ R7.out)
          clear e11
          generalize hN11 : (wy7).heap.size = N11 at *
          generalize hW11 : (wy7).alloc (.cells #[.slice none 0 0, .int .i64 0] 24) = wv11 at *
          refine hK.out _ _ (KS.out _ b11) (fun hH11 => ?_)
          clear hK K
          (try simp only [Act.put, List.setIfInBounds_toArray, List.set_cons_zero, List.set_cons_succ])
          refine wpAnyH_ready (rs := [5]) (by kernel_rfl) (by simp) ?_
          refine AllReadyH.cons (o := { dst := some 37, op := Op.call { callee := Callee.value (Operand.func 10), args := #[Operand.tmp 32, Operand.tmp 33, Operand.tmp 34, Operand.tmp 36], argTypes := #[24, 2, 2, 30] }, type := 35, pos := _, after := #[{ on := 0, ground := Ground.data }, { on := 1, ground := Ground.data }, { on := 2, ground := Ground.data }, { on := 4, ground := Ground.data }, { on := 4, ground := Ground.chain }], guard := none }) rfl (fun K hK => ?_) AllReadyH.nil
          go_simp
          refine (HP.out _ d' b11 R11.out).mono ?_
          rintro e wy12 ⟨a1, c1, a2, c2, rfl, -, -, m12, k12, e12⟩
          have b12 := b11.trans (e12.mono b11.size)
          have hz12 := e12.size
          have fX12 := fX11.step e12
          have lt12 := fX11.lt
          have hlo12 : W1.heap.size ≤ wv11.heap.size := b11.size
          obtain ⟨lo, hlo⟩ : ∃ lo, lo = wv11.heap.size := ⟨_, rfl⟩
          obtain ⟨hi, hhi⟩ : ∃ hi, hi = wy12.heap.size := ⟨_, rfl⟩
          rw [← hlo, ← hhi] at m12 k12
          have U12 := Lib.hid m12
          have V12 := Lib.hid k12
          clear m12 k12 e12
          go_wp2_with fail
          refine hK.out _ _ (KS.out _ b12) (fun hH12 => ?_)
          clear hK K
          (try simp only [Act.put, List.setIfInBounds_toArray, List.set_cons_zero, List.set_cons_succ])
          refine wpAnyH_take (i := 6) (oi := { dst := some 31, op := Op.move (Operand.tmp 37), type := 35, pos := _, after := #[{ on := 5, ground := Ground.data }], guard := none }) (v := ?tB9) rfl (by kernel_rfl) (by kernel_rfl) (by kernel_rfl) (fun _ _ _ h => h) (Or.inl ⟨by rfl, ?uB9⟩) (by assumption) ?rB9
          case uB9 => (intro w hSw; (try dsimp only at hSw); go_simp; (try with_reducible rfl))
          simp only [Act.put, List.setIfInBounds_toArray, List.set_cons_zero, List.set_cons_succ]
          refine wpAnyH_take (i := 7) (oi := { dst := some 38, op := Op.extract (Operand.tmp 31) 0, type := 24, pos := _, after := #[{ on := 6, ground := Ground.data }], guard := none }) (v := ?tB10) rfl (by kernel_rfl) (by kernel_rfl) (by kernel_rfl) (fun _ _ _ h => h) (Or.inl ⟨by rfl, ?uB10⟩) (by assumption) ?rB10
          case uB10 => (intro w hSw; (try dsimp only at hSw); go_simp; (try with_reducible rfl))
          simp only [Act.put, List.setIfInBounds_toArray, List.set_cons_zero, List.set_cons_succ]
          refine wpAnyH_take (i := 8) (oi := { dst := some 39, op := Op.extract (Operand.tmp 31) 1, type := 22, pos := _, after := #[{ on := 6, ground := Ground.data }, { on := 10, ground := Ground.gcOnly Departure.lateStores }], guard := none }) (v := ?tB11) rfl (by kernel_rfl) (by kernel_rfl) (by kernel_rfl) (fun _ _ _ h => h) (Or.inl ⟨by rfl, ?uB11⟩) (by assumption) ?rB11
          case uB11 => (intro w hSw; (try dsimp only at hSw); go_simp; (try with_reducible rfl))
          simp only [Act.put, List.setIfInBounds_toArray, List.set_cons_zero, List.set_cons_succ]
          refine wpAnyH_ready (rs := [10]) (by kernel_rfl) (by simp) ?_
          refine AllReadyH.cons (o := { dst := none, op := Op.store 24 (Operand.tmp 10) (Operand.tmp 38), type := 0, pos := _, after := #[{ on := 9, ground := Ground.data }, { on := 7, ground := Ground.data }, { on := 5, ground := Ground.chain }, { on := 0, ground := Ground.phase }, { on := 1, ground := Ground.phase }, { on := 2, ground := Ground.phase }, { on := 3, ground := Ground.phase }, { on := 4, ground := Ground.phase }, { on := 5, ground := Ground.phase }, { on := 6, ground := Ground.phase }, { on := 7, ground := Ground.phase }, { on := 8, ground := Ground.textOnly Departure.lateStores }, { on := 9, ground := Ground.phase }], guard := none }) rfl (fun K hK => ?_) AllReadyH.nil
          obtain ⟨z0, z1⟩ := fX12.c2
          have zf := fX12.f
          go_simp
          have P9 := Lib.hid (Pf.mk' (c1 := c1) (s1 := s1) b12 fX12 lX11 (by omega) (by omega) (by omega) U12.out V12.out)
          have b13 := P9.out.b
          refine hK.out _ _ (KS.out _ b13) (fun hH13 => ?_)
          clear hK K
          (try simp only [Act.put, List.setIfInBounds_toArray, List.set_cons_zero, List.set_cons_succ])
          refine wpAnyH_take (i := 11) (oi := { dst := some 11, op := Op.assign (Operand.tmp 39), type := 22, pos := _, after := #[{ on := 8, ground := Ground.data }, { on := 10, ground := Ground.chain }, { on := 0, ground := Ground.phase }, { on := 1, ground := Ground.phase }, { on := 2, ground := Ground.phase }, { on := 3, ground := Ground.phase }, { on := 4, ground := Ground.phase }, { on := 5, ground := Ground.phase }, { on := 6, ground := Ground.phase }, { on := 7, ground := Ground.phase }, { on := 8, ground := Ground.phase }, { on := 9, ground := Ground.phase }, { on := 10, ground := Ground.phase }], guard := none }) (v := ?tB12) rfl (by kernel_rfl) (by kernel_rfl) (by kernel_rfl) (fun _ _ _ h => h) (Or.inl ⟨by rfl, ?uB12⟩) (by assumption) ?rB12
          case uB12 => (intro w hSw; (try dsimp only at hSw); go_simp; (try with_reducible rfl))
          simp only [Act.put, List.setIfInBounds_toArray, List.set_cons_zero, List.set_cons_succ]
          refine wpAnyH_done (by kernel_rfl) ?_ _
          go_wp2_with fail
          go_meet
          exact ⟨_, a1, c1, a2, c2, lo, hi, rfl, rfl, P9.out⟩
      · go_simp
        have e14 := below1 w1 (.cells #[.slice none 0 0, .int .i64 0] 24)
        have fX14 := Bk.new w1 #[.slice none 0 0, .int .i64 0] 24
        have lX14 : W1.heap.size ≤ w1.heap.size := b0.size
        have b14 := b0.trans (e14.mono b0.size)
        have hz14 := e14.size
        have hy14 : (w1.alloc (.cells #[.slice none 0 0, .int .i64 0] 24)).heap.size = w1.heap.size + 1 := by simp
        clear e14
        generalize hN14 : (w1).heap.size = N14 at *
        generalize hW14 : (w1).alloc (.cells #[.slice none 0 0, .int .i64 0] 24) = wv14 at *
        refine hK.out _ _ (KS.out _ b14) (fun hH14 => ?_)
        clear hK K
        (try simp only [Act.put, List.setIfInBounds_toArray, List.set_cons_zero, List.set_cons_succ])
        refine wpAnyH_ready (rs := [4]) (by kernel_rfl) (by simp) ?_
        refine AllReadyH.cons (o := { dst := some 36, op := Op.call { callee := Callee.value (Operand.func 11), args := #[Operand.tmp 35], argTypes := #[30] }, type := 30, pos := _, after := #[{ on := 3, ground := Ground.data }], guard := none }) rfl (fun K hK => ?_) AllReadyH.nil
        go_simp
        refine (HM.out _ b14).mono ?_
        rintro e wy15 ⟨d', rfl, m15, e15⟩
        have b15 := b14.trans (e15.mono b14.size)
        have hz15 := e15.size
        have fX15 := fX14.step e15
        have lt15 := fX14.lt
        have R15 := Lib.hid (Rz.rep _ _ _ m15)
        clear m15 e15
        go_wp2_with fail
        refine hK.out _ _ (KS.out _ b15) (fun hH15 => ?_)
        clear hK K
        (try simp only [Act.put, List.setIfInBounds_toArray, List.set_cons_zero, List.set_cons_succ])
        refine wpAnyH_ready (rs := [5]) (by kernel_rfl) (by simp) ?_
        refine AllReadyH.cons (o := { dst := some 37, op := Op.call { callee := Callee.value (Operand.func 10), args := #[Operand.tmp 32, Operand.tmp 33, Operand.tmp 34, Operand.tmp 36], argTypes := #[24, 2, 2, 30] }, type := 35, pos := _, after := #[{ on := 0, ground := Ground.data }, { on := 1, ground := Ground.data }, { on := 2, ground := Ground.data }, { on := 4, ground := Ground.data }, { on := 4, ground := Ground.chain }], guard := none }) rfl (fun K hK => ?_) AllReadyH.nil
        go_simp
        refine (HP.out _ d' b15 R15.out).mono ?_
        rintro e wy16 ⟨a1, c1, a2, c2, rfl, -, -, m16, k16, e16⟩
        have b16 := b15.trans (e16.mono b15.size)
        have hz16 := e16.size
        have fX16 := fX15.step e16
        have lt16 := fX15.lt
        have hlo16 : W1.heap.size ≤ wy15.heap.size := b15.size
        obtain ⟨lo, hlo⟩ : ∃ lo, lo = wy15.heap.size := ⟨_, rfl⟩
        obtain ⟨hi, hhi⟩ : ∃ hi, hi = wy16.heap.size := ⟨_, rfl⟩
        rw [← hlo, ← hhi] at m16 k16
        have U16 := Lib.hid m16
        have V16 := Lib.hid k16
        clear m16 k16 e16
        go_wp2_with fail
        refine hK.out _ _ (KS.out _ b16) (fun hH16 => ?_)
        clear hK K
        (try simp only [Act.put, List.setIfInBounds_toArray, List.set_cons_zero, List.set_cons_succ])
        refine wpAnyH_take (i := 6) (oi := { dst := some 31, op := Op.move (Operand.tmp 37), type := 35, pos := _, after := #[{ on := 5, ground := Ground.data }], guard := none }) (v := ?tB13) rfl (by kernel_rfl) (by kernel_rfl) (by kernel_rfl) (fun _ _ _ h => h) (Or.inl ⟨by rfl, ?uB13⟩) (by assumption) ?rB13
        case uB13 => (intro w hSw; (try dsimp only at hSw); go_simp; (try with_reducible rfl))
        simp only [Act.put, List.setIfInBounds_toArray, List.set_cons_zero, List.set_cons_succ]
        refine wpAnyH_take (i := 7) (oi := { dst := some 38, op := Op.extract (Operand.tmp 31) 0, type := 24, pos := _, after := #[{ on := 6, ground := Ground.data }], guard := none }) (v := ?tB14) rfl (by kernel_rfl) (by kernel_rfl) (by kernel_rfl) (fun _ _ _ h => h) (Or.inl ⟨by rfl, ?uB14⟩) (by assumption) ?rB14
        case uB14 => (intro w hSw; (try dsimp only at hSw); go_simp; (try with_reducible rfl))
        simp only [Act.put, List.setIfInBounds_toArray, List.set_cons_zero, List.set_cons_succ]
        refine wpAnyH_take (i := 8) (oi := { dst := some 39, op := Op.extract (Operand.tmp 31) 1, type := 22, pos := _, after := #[{ on := 6, ground := Ground.data }, { on := 10, ground := Ground.gcOnly Departure.lateStores }], guard := none }) (v := ?tB15) rfl (by kernel_rfl) (by kernel_rfl) (by kernel_rfl) (fun _ _ _ h => h) (Or.inl ⟨by rfl, ?uB15⟩) (by assumption) ?rB15
        case uB15 => (intro w hSw; (try dsimp only at hSw); go_simp; (try with_reducible rfl))
        simp only [Act.put, List.setIfInBounds_toArray, List.set_cons_zero, List.set_cons_succ]
        refine wpAnyH_ready (rs := [10]) (by kernel_rfl) (by simp) ?_
        refine AllReadyH.cons (o := { dst := none, op := Op.store 24 (Operand.tmp 10) (Operand.tmp 38), type := 0, pos := _, after := #[{ on := 9, ground := Ground.data }, { on := 7, ground := Ground.data }, { on := 5, ground := Ground.chain }, { on := 0, ground := Ground.phase }, { on := 1, ground := Ground.phase }, { on := 2, ground := Ground.phase }, { on := 3, ground := Ground.phase }, { on := 4, ground := Ground.phase }, { on := 5, ground := Ground.phase }, { on := 6, ground := Ground.phase }, { on := 7, ground := Ground.phase }, { on := 8, ground := Ground.textOnly Departure.lateStores }, { on := 9, ground := Ground.phase }], guard := none }) rfl (fun K hK => ?_) AllReadyH.nil
        obtain ⟨z0, z1⟩ := fX16.c2
        have zf := fX16.f
        go_simp
        have P9 := Lib.hid (Pf.mk' (c1 := c1) (s1 := s1) b16 fX16 lX14 (by omega) (by omega) (by omega) U16.out V16.out)
        have b17 := P9.out.b
        refine hK.out _ _ (KS.out _ b17) (fun hH17 => ?_)
        clear hK K
        (try simp only [Act.put, List.setIfInBounds_toArray, List.set_cons_zero, List.set_cons_succ])
        refine wpAnyH_take (i := 11) (oi := { dst := some 11, op := Op.assign (Operand.tmp 39), type := 22, pos := _, after := #[{ on := 8, ground := Ground.data }, { on := 10, ground := Ground.chain }, { on := 0, ground := Ground.phase }, { on := 1, ground := Ground.phase }, { on := 2, ground := Ground.phase }, { on := 3, ground := Ground.phase }, { on := 4, ground := Ground.phase }, { on := 5, ground := Ground.phase }, { on := 6, ground := Ground.phase }, { on := 7, ground := Ground.phase }, { on := 8, ground := Ground.phase }, { on := 9, ground := Ground.phase }, { on := 10, ground := Ground.phase }], guard := none }) (v := ?tB16) rfl (by kernel_rfl) (by kernel_rfl) (by kernel_rfl) (fun _ _ _ h => h) (Or.inl ⟨by rfl, ?uB16⟩) (by assumption) ?rB16
        case uB16 => (intro w hSw; (try dsimp only at hSw); go_simp; (try with_reducible rfl))
        simp only [Act.put, List.setIfInBounds_toArray, List.set_cons_zero, List.set_cons_succ]
        refine wpAnyH_done (by kernel_rfl) ?_ _
        go_wp2_with fail
        go_meet
        exact ⟨_, a1, c1, a2, c2, lo, hi, rfl, rfl, P9.out⟩
    case rest =>
      obtain ⟨Y, a1, c1, a2, c2, L, H, rfl, rfl, pf⟩ := hcut
      have M4 := M3.step pf.b
      have S4 := S3.step pf.b
      have O4 := pwc.out.step pf.b
      have B4 := B3.trans (pf.b.mono B3.size)
      have R4 := Lib.hid (pr.out.to (F' := fun g => W0.heap.size ≤ g ∧ g < W1.heap.size ∧ g ≠ X) (w' := wc) fun g hg => ⟨hg, pf.b.block g hg.2.1⟩)
      have hs4 := pf.b.size
      have PF := Lib.hid pf
      have hyl := pf.yl
      have hlo := pf.lo
      have hyo := pf.yo
      have hhi := pf.hi
      have hyt := pf.y.lt
      clear M3 S3 B3 KS HM HP pwc pr pf PE
      obtain ⟨m0, m1, m2, m3, m4, m5, m6, m7, m8, m9, m10, m11, m12⟩ := M4.c13
      obtain ⟨s0, s1'⟩ := S4.c2
      go_wp2_with fail
      refine (HR.out wc B4).mono ?_
      rintro e w5 ⟨a3, c3, a4, c4, rfl, z3, z4, b5⟩
      have e5 := below1 w5 (.cells #[.slice a3 l1.length c3, .int .i64 s1] 24)
      have T6 := Bk.new w5 #[.slice a3 l1.length c3, .int .i64 s1] 24
      have b6 := b5.trans (e5.mono b5.size)
      have S6 := S4.step b6
      have O6 := O4.step b6
      have P6 := Lib.hid (PF.out.step b6)
      have B6 := B4.trans (b6.mono B4.size)
      have R6 := Lib.hid (R4.out.to (F' := fun g => W0.heap.size ≤ g ∧ g < W1.heap.size ∧ g ≠ X) (w' := w5.alloc (.cells #[.slice a3 l1.length c3, .int .i64 s1] 24)) fun g hg => ⟨hg, b6.block g (by omega)⟩)
      have Z3 := Lib.hid (Mw.below z3.mw e5)
      have Z4 := Lib.hid (Mw.below z4.mw e5)
      have hs5 := b5.size
      have HS1 := Lib.hid (sbuf_any l1 a1 a3 c1 c3 s1 _ (by omega) P6.out.m1.mz.mw Z3.out)
      clear m0 m1 m2 m3 m4 m5 m6 m7 m8 m9 m10 m11 m12 s0 s1' M4 S4 O4 PF B4 R4 z3 z4 b5 b6 HR e5
      obtain ⟨y0, y1⟩ := P6.out.y.c2
      obtain ⟨t0, t1⟩ := T6.c2
      go_wp2_with (first | (go_at_call 13; refine HS1.out.mono ?_; rintro e w7 ⟨rfl, b7⟩; have HS2 := Lib.hid (smsgs_any l2 a2 a4 c2 c4 w7 (by omega) (P6.out.step b7).m2.mz.mw (Mw.below Z4.out b7)); clear y0 y1 t0 t1) | (go_at_call 14; refine HS2.out.mono ?_; rintro e w8 ⟨rfl, b8⟩; have b9 := b7.trans (b8.mono b7.size); have P8 := Lib.hid (P6.out.step b9); have S8 := S6.step b9; have O8 := O6.step b9; have B8 := B6.trans (b9.mono B6.size); have R8 := Lib.hid (R6.out.to (F' := fun g => W0.heap.size ≤ g ∧ g < W1.heap.size ∧ g ≠ X) (w' := w8) fun g hg => ⟨hg, b9.block g (by rw [World.size_alloc]; omega)⟩); have hs8 : w5.heap.size ≤ w8.heap.size := (by have := b9.size; rw [World.size_alloc] at this; omega); obtain ⟨y0, y1⟩ := P8.out.y.c2; have HP1 := Lib.hid (spoil_first HN.out a1 a2 c1 w8 (by omega) P8.out.m1 P8.out.m2); clear P6 S6 O6 B6 R6 b7 b8 b9 Z3 Z4 HS1 HS2 T6 hs5))
      refine HP1.out.mono ?_
      rintro e w9 ⟨⟨v9, rfl⟩, bw, mf9⟩
      have HP2 := Lib.hid (spoil_any L H l2 a2 c2 w9 (by omega) mf9)
      clear HP1 y0 y1 mf9
      go_wp2_with fail
      refine HP2.out.mono ?_
      rintro e w10 ⟨⟨v10, rfl⟩, bw2⟩
      have bw3 := bw.trans bw2
      have S10 := bw3.bk S8 (by omega)
      have O10 := bw3.bk O8 (by omega)
      have B10 : Below w.heap.size w w10 := B8.trans (bw3.b.mono (by omega))
      have R10 := Lib.hid (R8.out.to (F' := fun g => W0.heap.size ≤ g ∧ g < W1.heap.size ∧ g ≠ X) (w' := w10) fun g hg => ⟨hg, bw3.block g (by omega)⟩)
      have HS3 := Lib.hid (sbuf_any l a0 ad c0 c since w10 (by omega) R10.out.mw (Mw.below HI.out B10))
      clear S8 O8 B8 R8 P8 bw bw2 bw3 HP2
      obtain ⟨s0, s1'⟩ := S10.c2
      obtain ⟨o0, o1⟩ := O10.c2
      go_wp2_with (first | (go_at_call 13; refine HS3.out.mono ?_; rintro e w11 ⟨rfl, b11⟩; have B11 := B10.trans (b11.mono B10.size)) | (go_at_call 8; refine (awake_any w11).mono ?_; rintro e w12 ⟨rfl, b12⟩; have B12 := B11.trans (b12.mono B11.size)))
      go_ret
      exact ⟨rfl, B12⟩
end Go.Proofs.YtikkedemhcdboaaDoor
