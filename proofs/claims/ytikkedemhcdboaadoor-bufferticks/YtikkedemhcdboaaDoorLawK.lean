/- The law BufferTicks by its contracts, and in memory; the conditions: the contracts; what lies in memory, the two tables of unicode/utf8. -/
import Derived.Test.YtikkedemhcdboaaDoorBy
import Derived.Test.YtikkedemhcdboaaDoorLawP2
import Derived.Deep.Cut
import Derived.Deep.CutRange
namespace Go.Proofs.YtikkedemhcdboaaDoor
open Go.RowKit Tp

set_option maxRecDepth 100000 in
set_option maxHeartbeats 4000000 in
theorem bt_bad (l : List Ms) (ad : Option Addr) (c : Nat) (since a b now : Int) (w : World)
    (hF : ∀ wx, Below w.heap.size w wx → Calls Tryd.prog 6 #[.agg #[.slice ad l.length c, .int .i64 since], .int .i64 a, .int .i64 b, .int .i64 now] wx fun e w' => e = .returned (.bool false) ∧ Below wx.heap.size wx w') :
    Calls Tryd.prog 4 #[.agg #[.slice ad l.length c, .int .i64 since], .int .i64 a, .int .i64 b, .int .i64 now] w fun e w' => e = .returned (.bool true) ∧ Below w.heap.size w w' := by
  have B0 := below1 w (.cells #[.slice ad l.length c, .int .i64 since] 24)
  have HF := Lib.hid (hF _ B0)
  clear hF
  go_enter Tryd.func4, Tryd.ntmps4
  go_wp2_with (first | (go_at_call 6; refine HF.out.mono ?_; rintro e w1 ⟨rfl, b1⟩; have B1 := B0.trans (b1.mono B0.size)) | (go_at_call 8; refine (awake_any w1).mono ?_; rintro e w2 ⟨rfl, b2⟩; have B2 := B1.trans (b2.mono B1.size)))
  go_ret
  exact ⟨rfl, B2⟩

set_option maxRecDepth 100000 in
set_option maxHeartbeats 8000000 in
theorem bt_good (l : List Ms) (ad : Option Addr) (c : Nat) (since a b now : Int) (w : World) (l1 : List Ms) (s1 : Int) (l2 : List Ms) (NT : Int) (OK : Bool) (hn : l1 = [] ∨ l2 = []) (hl1 : l1.length ≤ 1000) (hl2 : l2.length ≤ 1000) (hl : l.length ≤ 1000) (hI : Mw w ad l)
    (hF : ∀ wx, Below w.heap.size w wx → Calls Tryd.prog 6 #[.agg #[.slice ad l.length c, .int .i64 since], .int .i64 a, .int .i64 b, .int .i64 now] wx fun e w' => e = .returned (.bool true) ∧ Below wx.heap.size wx w')
    (hC : ∀ wx, Below w.heap.size w wx → Calls Tryd.prog 9 #[.slice ad l.length c] wx (CzP wx l))
    (hT : ∀ wx a0 c0, Mw wx a0 l → Calls Tryd.prog 16 #[.agg #[.slice a0 l.length c0, .int .i64 since], .int .i64 b, .int .i64 now] wx (BfP wx l1 s1 l2))
    (hR : ∀ wx, Below w.heap.size w wx → Calls Tryd.prog 17 #[.agg #[.slice ad l.length c, .int .i64 since], .int .i64 b, .int .i64 now] wx (BfZ wx l1 s1 l2))
    (hU : ∀ wx a0 c0, Mw wx a0 l → Calls Tryd.prog 18 #[.agg #[.slice a0 l.length c0, .int .i64 since]] wx (BfP wx [] 0 l))
    (hN : ∀ wx a0 c0, Calls Tryd.prog 19 #[.agg #[.slice a0 l.length c0, .int .i64 since], .int .i64 b] wx fun e w' => e = .returned (.tuple #[.int .i64 NT, .bool OK]) ∧ Below wx.heap.size wx w')
    (hM : ∀ wx a0 c0, Calls Tryd.prog 20 #[.agg #[.slice a0 l.length c0, .int .i64 since], .int .i64 b] wx fun e w' => e = .returned (.tuple #[.int .i64 NT, .bool OK]) ∧ Below wx.heap.size wx w') :
    Calls Tryd.prog 4 #[.agg #[.slice ad l.length c, .int .i64 since], .int .i64 a, .int .i64 b, .int .i64 now] w fun e w' => e = .returned (.bool true) ∧ Below w.heap.size w w' := by
  have B0 := below1 w (.cells #[.slice ad l.length c, .int .i64 since] 24)
  have S0 := Bk.new w #[.slice ad l.length c, .int .i64 since] 24
  have HF := Lib.hid (hF _ B0)
  have HI := Lib.hid hI
  have HN := Lib.hid hn
  have HC0 := Lib.hid hC
  have HT := Lib.hid hT
  have HR := Lib.hid hR
  have HU := Lib.hid hU
  have HNx := Lib.hid hN
  have HMx := Lib.hid hM
  clear hF hI hn hC hT hR hU hN hM
  go_enter Tryd.func4, Tryd.ntmps4
  go_wp2_with (go_at_call 6; refine HF.out.mono ?_; rintro e W0 ⟨rfl, b1⟩; have B2 := B0.trans (b1.mono B0.size); have S2 := S0.step b1; have hs1 := b1.size; simp only [World.size_alloc] at hs1; clear b1)
  have HC : Hid (∀ wx, Below W0.heap.size W0 wx → Calls Tryd.prog 9 #[.slice ad l.length c] wx (CzP wx l)) := fun wx hb => HC0.out wx (B2.trans (hb.mono B2.size))
  have KS : Hid (∀ wx, Below W0.heap.size W0 wx → (fun wx => wx.cell? ⟨w.heap.size, 0, none⟩ = some (.slice ad l.length c) ∧ wx.cell? ⟨w.heap.size, 1, none⟩ = some (.int .i64 since)) wx) := fun wx hb => (S2.step hb).c2
  clear B0 S0 HF HC0
  go_cut [9] from 20 to 33 (fun s9 wc => ∃ X a0 c0, s9 = .pointer (some ⟨X, 0, none⟩) ∧ Pe W0 l since X a0 c0 wc)
  case first =>
    have b0 : Below W0.heap.size W0 W0.drew := (Below.refl _ _).drew
    refine wp_region_held_drew (S := (fun wx => wx.cell? ⟨w.heap.size, 0, none⟩ = some (.slice ad l.length c) ∧ wx.cell? ⟨w.heap.size, 1, none⟩ = some (.int .i64 since))) (by kernel_rfl) (KS.out _ b0) (fun hHeld => ?_)
    generalize W0.drew = w1 at *
    refine wpAnyH_take (i := 0) (oi := { dst := some 27, op := Op.fieldAddr 24 (Operand.tmp 4) 0, type := 0, pos := _, after := #[], guard := none }) (v := ?tA1) rfl (by kernel_rfl) (by kernel_rfl) (by kernel_rfl) (fun _ _ _ h => h) (Or.inl ⟨by rfl, ?uA1⟩) (by assumption) ?rA1
    case uA1 => (intro w hSw; (try dsimp only at hSw); go_simp; (try with_reducible rfl))
    simp only [Act.put, List.setIfInBounds_toArray, List.set_cons_zero, List.set_cons_succ]
    refine wpAnyH_take (i := 1) (oi := { dst := some 28, op := Op.load 22 (Operand.tmp 27), type := 22, pos := _, after := #[{ on := 0, ground := Ground.data }], guard := none }) (v := ?tA2) rfl (by kernel_rfl) (by kernel_rfl) (by kernel_rfl) (fun _ _ _ h => h) (Or.inl ⟨by rfl, ?uA2⟩) (by assumption) ?rA2
    case uA2 => (intro w hSw; (try dsimp only at hSw); go_simp; (try with_reducible rfl))
    simp only [Act.put, List.setIfInBounds_toArray, List.set_cons_zero, List.set_cons_succ]
    refine wpAnyH_take (i := 3) (oi := { dst := some 30, op := Op.fieldAddr 24 (Operand.tmp 4) 1, type := 0, pos := _, after := #[], guard := none }) (v := ?tA3) rfl (by kernel_rfl) (by kernel_rfl) (by kernel_rfl) (fun _ _ _ h => h) (Or.inl ⟨by rfl, ?uA3⟩) (by assumption) ?rA3
    case uA3 => (intro w hSw; (try dsimp only at hSw); go_simp; (try with_reducible rfl))
    simp only [Act.put, List.setIfInBounds_toArray, List.set_cons_zero, List.set_cons_succ]
    refine wpAnyH_take (i := 4) (oi := { dst := some 31, op := Op.load 2 (Operand.tmp 30), type := 2, pos := _, after := #[{ on := 3, ground := Ground.data }], guard := none }) (v := ?tA4) rfl (by kernel_rfl) (by kernel_rfl) (by kernel_rfl) (fun _ _ _ h => h) (Or.inl ⟨by rfl, ?uA4⟩) (by assumption) ?rA4
    case uA4 => (intro w hSw; (try dsimp only at hSw); go_simp; (try with_reducible rfl))
    simp only [Act.put, List.setIfInBounds_toArray, List.set_cons_zero, List.set_cons_succ]
    refine wpAnyH_ready (rs := [2, 6]) (by kernel_rfl) (by simp) ?_
    refine AllReadyH.cons (o := { dst := some 29, op := Op.call { callee := Callee.value (Operand.func 9), args := #[Operand.tmp 28], argTypes := #[22] }, type := 22, pos := _, after := #[{ on := 1, ground := Ground.data }], guard := none }) rfl (fun K hK => ?_) (AllReadyH.cons (o := { dst := some 9, op := Op.alloc 24, type := 0, pos := _, after := #[], guard := none }) rfl (fun K hK => ?_) AllReadyH.nil)
    · go_simp
      refine (HC.out _ b0).mono ?_
      rintro e wy1 ⟨a0, c0, rfl, m1, e1⟩
      have b1 := b0.trans (e1.mono b0.size)
      have hz1 := e1.size
      have hlo1 : W0.heap.size ≤ w1.heap.size := b0.size
      obtain ⟨lo, hlo⟩ : ∃ lo, lo = w1.heap.size := ⟨_, rfl⟩
      obtain ⟨hi, hhi⟩ : ∃ hi, hi = wy1.heap.size := ⟨_, rfl⟩
      rw [← hlo, ← hhi] at m1
      have R1 := Lib.hid m1
      clear m1 e1
      go_wp2_with fail
      refine hK.out _ _ (KS.out _ b1) (fun hH1 => ?_)
      clear hK K
      (try simp only [Act.put, List.setIfInBounds_toArray, List.set_cons_zero, List.set_cons_succ])
      refine wpAnyH_take (i := 5) (oi := { dst := some 32, op := Op.build 24 #[(0, Operand.tmp 29), (1, Operand.tmp 31)], type := 24, pos := _, after := #[{ on := 2, ground := Ground.data }, { on := 4, ground := Ground.data }], guard := none }) (v := ?tA5) rfl (by kernel_rfl) (by kernel_rfl) (by kernel_rfl) (fun _ _ _ h => h) (Or.inl ⟨by rfl, ?uA5⟩) (by assumption) ?rA5
      case uA5 => (intro w hSw; (try dsimp only at hSw); go_simp; (try with_reducible rfl))
      simp only [Act.put, List.setIfInBounds_toArray, List.set_cons_zero, List.set_cons_succ]
      refine wpAnyH_ready (rs := [6]) (by kernel_rfl) (by simp) ?_
      refine AllReadyH.cons (o := { dst := some 9, op := Op.alloc 24, type := 0, pos := _, after := #[], guard := none }) rfl (fun K hK => ?_) AllReadyH.nil
      go_simp
      have e2 := below1 wy1 (.cells #[.slice none 0 0, .int .i64 0] 24)
      have fX2 := Bk.new wy1 #[.slice none 0 0, .int .i64 0] 24
      have lX2 : W0.heap.size ≤ wy1.heap.size := b1.size
      have b2 := b1.trans (e2.mono b1.size)
      have hz2 := e2.size
      have hy2 : (wy1.alloc (.cells #[.slice none 0 0, .int .i64 0] 24)).heap.size = wy1.heap.size + 1 := by simp
      have R2 := Lib.hid ((Mz.to R1.out fun g hg => ⟨hg, e2.block g (by omega)⟩))
      clear e2
      generalize hN2 : (wy1).heap.size = N2 at *
      generalize hW2 : (wy1).alloc (.cells #[.slice none 0 0, .int .i64 0] 24) = wv2 at *
      refine hK.out _ _ (KS.out _ b2) (fun hH2 => ?_)
      clear hK K
      (try simp only [Act.put, List.setIfInBounds_toArray, List.set_cons_zero, List.set_cons_succ])
      refine wpAnyH_ready (rs := [7]) (by kernel_rfl) (by simp) ?_
      refine AllReadyH.cons (o := { dst := none, op := Op.store 24 (Operand.tmp 9) (Operand.tmp 32), type := 0, pos := _, after := #[{ on := 6, ground := Ground.data }, { on := 5, ground := Ground.data }, { on := 2, ground := Ground.chain }, { on := 0, ground := Ground.phase }, { on := 1, ground := Ground.phase }, { on := 2, ground := Ground.phase }, { on := 3, ground := Ground.phase }, { on := 4, ground := Ground.phase }, { on := 5, ground := Ground.phase }, { on := 6, ground := Ground.phase }], guard := none }) rfl (fun K hK => ?_) AllReadyH.nil
      obtain ⟨z0, z1⟩ := fX2.c2
      have zf := fX2.f
      go_simp
      have P9 := Lib.hid (Pe.mk' (c0 := c0) (since := since) lo hi (by omega) (by omega) (by omega) lX2 b2 fX2 R2.out)
      have b3 := P9.out.b
      refine hK.out _ _ (KS.out _ b3) (fun hH3 => ?_)
      clear hK K
      (try simp only [Act.put, List.setIfInBounds_toArray, List.set_cons_zero, List.set_cons_succ])
      refine wpAnyH_done (by kernel_rfl) ?_ _
      go_wp2_with fail
      go_meet
      exact ⟨_, a0, c0, rfl, P9.out⟩
    · go_simp
      have e4 := below1 w1 (.cells #[.slice none 0 0, .int .i64 0] 24)
      have fX4 := Bk.new w1 #[.slice none 0 0, .int .i64 0] 24
      have lX4 : W0.heap.size ≤ w1.heap.size := b0.size
      have b4 := b0.trans (e4.mono b0.size)
      have hz4 := e4.size
      have hy4 : (w1.alloc (.cells #[.slice none 0 0, .int .i64 0] 24)).heap.size = w1.heap.size + 1 := by simp
      clear e4
      generalize hN4 : (w1).heap.size = N4 at *
      generalize hW4 : (w1).alloc (.cells #[.slice none 0 0, .int .i64 0] 24) = wv4 at *
      refine hK.out _ _ (KS.out _ b4) (fun hH4 => ?_)
      clear hK K
      (try simp only [Act.put, List.setIfInBounds_toArray, List.set_cons_zero, List.set_cons_succ])
      refine wpAnyH_ready (rs := [2]) (by kernel_rfl) (by simp) ?_
      refine AllReadyH.cons (o := { dst := some 29, op := Op.call { callee := Callee.value (Operand.func 9), args := #[Operand.tmp 28], argTypes := #[22] }, type := 22, pos := _, after := #[{ on := 1, ground := Ground.data }], guard := none }) rfl (fun K hK => ?_) AllReadyH.nil
      go_simp
      refine (HC.out _ b4).mono ?_
      rintro e wy5 ⟨a0, c0, rfl, m5, e5⟩
      have b5 := b4.trans (e5.mono b4.size)
      have hz5 := e5.size
      have fX5 := fX4.step e5
      have lt5 := fX4.lt
      have hlo5 : W0.heap.size ≤ wv4.heap.size := b4.size
      obtain ⟨lo, hlo⟩ : ∃ lo, lo = wv4.heap.size := ⟨_, rfl⟩
      obtain ⟨hi, hhi⟩ : ∃ hi, hi = wy5.heap.size := ⟨_, rfl⟩
      rw [← hlo, ← hhi] at m5
      have R5 := Lib.hid m5
      clear m5 e5
      go_wp2_with fail
      refine hK.out _ _ (KS.out _ b5) (fun hH5 => ?_)
      clear hK K
      (try simp only [Act.put, List.setIfInBounds_toArray, List.set_cons_zero, List.set_cons_succ])
      refine wpAnyH_take (i := 5) (oi := { dst := some 32, op := Op.build 24 #[(0, Operand.tmp 29), (1, Operand.tmp 31)], type := 24, pos := _, after := #[{ on := 2, ground := Ground.data }, { on := 4, ground := Ground.data }], guard := none }) (v := ?tA6) rfl (by kernel_rfl) (by kernel_rfl) (by kernel_rfl) (fun _ _ _ h => h) (Or.inl ⟨by rfl, ?uA6⟩) (by assumption) ?rA6
      case uA6 => (intro w hSw; (try dsimp only at hSw); go_simp; (try with_reducible rfl))
      simp only [Act.put, List.setIfInBounds_toArray, List.set_cons_zero, List.set_cons_succ]
      refine wpAnyH_ready (rs := [7]) (by kernel_rfl) (by simp) ?_
      refine AllReadyH.cons (o := { dst := none, op := Op.store 24 (Operand.tmp 9) (Operand.tmp 32), type := 0, pos := _, after := #[{ on := 6, ground := Ground.data }, { on := 5, ground := Ground.data }, { on := 2, ground := Ground.chain }, { on := 0, ground := Ground.phase }, { on := 1, ground := Ground.phase }, { on := 2, ground := Ground.phase }, { on := 3, ground := Ground.phase }, { on := 4, ground := Ground.phase }, { on := 5, ground := Ground.phase }, { on := 6, ground := Ground.phase }], guard := none }) rfl (fun K hK => ?_) AllReadyH.nil
      obtain ⟨z0, z1⟩ := fX5.c2
      have zf := fX5.f
      go_simp
      have P9 := Lib.hid (Pe.mk' (c0 := c0) (since := since) lo hi (by omega) (by omega) (by omega) lX4 b5 fX5 R5.out)
      have b6 := P9.out.b
      refine hK.out _ _ (KS.out _ b6) (fun hH6 => ?_)
      clear hK K
      (try simp only [Act.put, List.setIfInBounds_toArray, List.set_cons_zero, List.set_cons_succ])
      refine wpAnyH_done (by kernel_rfl) ?_ _
      go_wp2_with fail
      go_meet
      exact ⟨_, a0, c0, rfl, P9.out⟩
  case rest =>
    obtain ⟨X, a0, c0, rfl, pe⟩ := hcut
    clear HC KS
    have S := S2.step pe.b
    have B := B2.trans (pe.b.mono B2.size)
    have hx3 := pe.x
    have hs3 := pe.b.size
    have O := pe.o
    have hxl := pe.o.lt
    have hW1 : ∃ M1, M1 = wc.heap.size := ⟨_, rfl⟩
    obtain ⟨M1, hM1⟩ := hW1
    have r := Lib.hid (pe.r.to (F' := fun g => W0.heap.size ≤ g ∧ g < M1 ∧ g ≠ X) (w' := wc) fun g hg => ⟨⟨hg.1, by omega, hg.2.2⟩, rfl⟩)
    clear pe S2 B2
    obtain ⟨O_0, O_1⟩ := O.c2
    go_wp2_with fail
    refine (HT.out wc a0 c0 r.out.mw).mono ?_
    rintro e w4 ⟨a1, c1, a2, c2, rfl, -, -, m1, m2, e4⟩
    clear O_0 O_1
    replace S := S.step e4
    replace O := O.step e4
    replace B := B.trans (e4.mono B.size)
    replace r := Lib.hid (r.out.to fun g hg => ⟨hg, e4.block g (by omega)⟩)
    have hz1 := e4.size
    obtain ⟨H4, hH4⟩ : ∃ H, H = w4.heap.size := ⟨_, rfl⟩
    replace m1 := Lib.hid (m1.to (F' := fun g => M1 ≤ g ∧ g < H4) (w' := w4) fun g hg => ⟨⟨by omega, by omega⟩, rfl⟩)
    replace m2 := Lib.hid (m2.to (F' := fun g => M1 ≤ g ∧ g < H4) (w' := w4) fun g hg => ⟨⟨by omega, by omega⟩, rfl⟩)
    clear e4
    have fY := below1 w4 (.cells #[.slice a1 l1.length c1, .int .i64 s1] 24)
    have Y := Bk.new w4 #[.slice a1 l1.length c1, .int .i64 s1] 24
    have hyY : (w4.alloc (.cells #[.slice a1 l1.length c1, .int .i64 s1] 24)).heap.size = w4.heap.size + 1 := World.size_alloc _ _
    replace S := S.step fY
    replace O := O.step fY
    replace B := B.trans (fY.mono B.size)
    replace r := Lib.hid (r.out.to fun g hg => ⟨hg, fY.block g (by omega)⟩)
    replace m1 := Lib.hid (m1.out.to fun g hg => ⟨hg, fY.block g (by omega)⟩)
    replace m2 := Lib.hid (m2.out.to fun g hg => ⟨hg, fY.block g (by omega)⟩)
    have hz2 := fY.size
    clear fY
    generalize hNY : w4.heap.size = NY at *
    generalize hWY : w4.alloc (.cells #[.slice a1 l1.length c1, .int .i64 s1] 24) = vY at *
    obtain ⟨S_0, S_1⟩ := S.c2
    go_wp2_with fail
    refine (HR.out _ B).mono ?_
    rintro e w5 ⟨a3, c3, a4, c4, rfl, z3, z4, e5⟩
    clear S_0 S_1
    replace S := S.step e5
    replace O := O.step e5
    replace B := B.trans (e5.mono B.size)
    replace r := Lib.hid (r.out.to fun g hg => ⟨hg, e5.block g (by omega)⟩)
    replace m1 := Lib.hid (m1.out.to fun g hg => ⟨hg, e5.block g (by omega)⟩)
    replace m2 := Lib.hid (m2.out.to fun g hg => ⟨hg, e5.block g (by omega)⟩)
    replace Y := Y.step e5
    have hz3 := e5.size
    obtain ⟨H5, hH5⟩ : ∃ H, H = w5.heap.size := ⟨_, rfl⟩
    replace z3 := Lib.hid (z3.to (F' := fun g => g < H5) (w' := w5) fun g hg => ⟨by omega, rfl⟩)
    replace z4 := Lib.hid (z4.to (F' := fun g => g < H5) (w' := w5) fun g hg => ⟨by omega, rfl⟩)
    clear e5
    have fT := below1 w5 (.cells #[.slice a3 l1.length c3, .int .i64 s1] 24)
    have T := Bk.new w5 #[.slice a3 l1.length c3, .int .i64 s1] 24
    have hyT : (w5.alloc (.cells #[.slice a3 l1.length c3, .int .i64 s1] 24)).heap.size = w5.heap.size + 1 := World.size_alloc _ _
    replace S := S.step fT
    replace O := O.step fT
    replace B := B.trans (fT.mono B.size)
    replace r := Lib.hid (r.out.to fun g hg => ⟨hg, fT.block g (by omega)⟩)
    replace m1 := Lib.hid (m1.out.to fun g hg => ⟨hg, fT.block g (by omega)⟩)
    replace m2 := Lib.hid (m2.out.to fun g hg => ⟨hg, fT.block g (by omega)⟩)
    replace Y := Y.step fT
    replace z3 := Lib.hid (z3.out.to fun g hg => ⟨hg, fT.block g (by omega)⟩)
    replace z4 := Lib.hid (z4.out.to fun g hg => ⟨hg, fT.block g (by omega)⟩)
    have hz4 := fT.size
    clear fT
    generalize hNT : w5.heap.size = NT at *
    generalize hWT : w5.alloc (.cells #[.slice a3 l1.length c3, .int .i64 s1] 24) = vT at *
    obtain ⟨O_0, O_1⟩ := O.c2
    go_wp2_with fail
    refine (HU.out _ a0 c0 r.out.mw).mono ?_
    rintro e w6 ⟨a5, c5, a6, c6, rfl, n5, -, -, m6, e6⟩
    obtain ⟨rfl, rfl⟩ := n5 rfl
    clear n5
    clear O_0 O_1
    obtain ⟨L6, hL6⟩ : ∃ H, H = vT.heap.size := ⟨_, rfl⟩
    replace S := S.step e6
    replace O := O.step e6
    replace B := B.trans (e6.mono B.size)
    replace r := Lib.hid (r.out.to fun g hg => ⟨hg, e6.block g (by omega)⟩)
    replace m1 := Lib.hid (m1.out.to fun g hg => ⟨hg, e6.block g (by omega)⟩)
    replace m2 := Lib.hid (m2.out.to fun g hg => ⟨hg, e6.block g (by omega)⟩)
    replace Y := Y.step e6
    replace z3 := Lib.hid (z3.out.to fun g hg => ⟨hg, e6.block g (by omega)⟩)
    replace z4 := Lib.hid (z4.out.to fun g hg => ⟨hg, e6.block g (by omega)⟩)
    replace T := T.step e6
    have hz5 := e6.size
    obtain ⟨H6, hH6⟩ : ∃ H, H = w6.heap.size := ⟨_, rfl⟩
    replace m6 := Lib.hid (m6.to (F' := fun g => L6 ≤ g ∧ g < H6) (w' := w6) fun g hg => ⟨⟨by omega, by omega⟩, rfl⟩)
    clear e6
    have fU := below1 w6 (.cells #[.slice none 0 0, .int .i64 0] 24)
    have U := Bk.new w6 #[.slice none 0 0, .int .i64 0] 24
    have hyU : (w6.alloc (.cells #[.slice none 0 0, .int .i64 0] 24)).heap.size = w6.heap.size + 1 := World.size_alloc _ _
    replace S := S.step fU
    replace O := O.step fU
    replace B := B.trans (fU.mono B.size)
    replace r := Lib.hid (r.out.to fun g hg => ⟨hg, fU.block g (by omega)⟩)
    replace m1 := Lib.hid (m1.out.to fun g hg => ⟨hg, fU.block g (by omega)⟩)
    replace m2 := Lib.hid (m2.out.to fun g hg => ⟨hg, fU.block g (by omega)⟩)
    replace Y := Y.step fU
    replace z3 := Lib.hid (z3.out.to fun g hg => ⟨hg, fU.block g (by omega)⟩)
    replace z4 := Lib.hid (z4.out.to fun g hg => ⟨hg, fU.block g (by omega)⟩)
    replace T := T.step fU
    replace m6 := Lib.hid (m6.out.to fun g hg => ⟨hg, fU.block g (by omega)⟩)
    have hz6 := fU.size
    clear fU
    obtain ⟨O_0, O_1⟩ := O.c2
    go_wp2_with fail
    refine (HNx.out _ a0 c0).mono ?_
    rintro e w7 ⟨rfl, e7⟩
    clear O_0 O_1
    replace S := S.step e7
    replace O := O.step e7
    replace B := B.trans (e7.mono B.size)
    replace r := Lib.hid (r.out.to fun g hg => ⟨hg, e7.block g (by omega)⟩)
    replace m1 := Lib.hid (m1.out.to fun g hg => ⟨hg, e7.block g (by omega)⟩)
    replace m2 := Lib.hid (m2.out.to fun g hg => ⟨hg, e7.block g (by omega)⟩)
    replace Y := Y.step e7
    replace z3 := Lib.hid (z3.out.to fun g hg => ⟨hg, e7.block g (by omega)⟩)
    replace z4 := Lib.hid (z4.out.to fun g hg => ⟨hg, e7.block g (by omega)⟩)
    replace T := T.step e7
    replace m6 := Lib.hid (m6.out.to fun g hg => ⟨hg, e7.block g (by omega)⟩)
    replace U := U.step e7
    have hz7 := e7.size
    clear e7
    obtain ⟨S_0, S_1⟩ := S.c2
    go_wp2_with fail
    refine (HMx.out _ ad c).mono ?_
    rintro e w8 ⟨rfl, e8⟩
    clear S_0 S_1
    replace S := S.step e8
    replace O := O.step e8
    replace B := B.trans (e8.mono B.size)
    replace r := Lib.hid (r.out.to fun g hg => ⟨hg, e8.block g (by omega)⟩)
    replace m1 := Lib.hid (m1.out.to fun g hg => ⟨hg, e8.block g (by omega)⟩)
    replace m2 := Lib.hid (m2.out.to fun g hg => ⟨hg, e8.block g (by omega)⟩)
    replace Y := Y.step e8
    replace z3 := Lib.hid (z3.out.to fun g hg => ⟨hg, e8.block g (by omega)⟩)
    replace z4 := Lib.hid (z4.out.to fun g hg => ⟨hg, e8.block g (by omega)⟩)
    replace T := T.step e8
    replace m6 := Lib.hid (m6.out.to fun g hg => ⟨hg, e8.block g (by omega)⟩)
    replace U := U.step e8
    have hz8 := e8.size
    clear e8
    obtain ⟨Y_0, Y_1⟩ := Y.c2
    obtain ⟨T_0, T_1⟩ := T.c2
    go_wp2_with fail
    refine (sbuf_any l1 a1 a3 c1 c3 s1 w8 (by omega) m1.out.mz.mw z3.out.mw).mono ?_
    rintro e w9 ⟨rfl, e9⟩
    clear Y_0 Y_1 T_0 T_1
    replace S := S.step e9
    replace O := O.step e9
    replace B := B.trans (e9.mono B.size)
    replace r := Lib.hid (r.out.to fun g hg => ⟨hg, e9.block g (by omega)⟩)
    replace m1 := Lib.hid (m1.out.to fun g hg => ⟨hg, e9.block g (by omega)⟩)
    replace m2 := Lib.hid (m2.out.to fun g hg => ⟨hg, e9.block g (by omega)⟩)
    replace Y := Y.step e9
    replace z3 := Lib.hid (z3.out.to fun g hg => ⟨hg, e9.block g (by omega)⟩)
    replace z4 := Lib.hid (z4.out.to fun g hg => ⟨hg, e9.block g (by omega)⟩)
    replace T := T.step e9
    replace m6 := Lib.hid (m6.out.to fun g hg => ⟨hg, e9.block g (by omega)⟩)
    replace U := U.step e9
    have hz9 := e9.size
    clear e9
    go_wp2_with fail
    refine (smsgs_any l2 a2 a4 c2 c4 w9 (by omega) m2.out.mz.mw z4.out.mw).mono ?_
    rintro e w10 ⟨rfl, e10⟩
    replace S := S.step e10
    replace O := O.step e10
    replace B := B.trans (e10.mono B.size)
    replace r := Lib.hid (r.out.to fun g hg => ⟨hg, e10.block g (by omega)⟩)
    replace m1 := Lib.hid (m1.out.to fun g hg => ⟨hg, e10.block g (by omega)⟩)
    replace m2 := Lib.hid (m2.out.to fun g hg => ⟨hg, e10.block g (by omega)⟩)
    replace Y := Y.step e10
    replace z3 := Lib.hid (z3.out.to fun g hg => ⟨hg, e10.block g (by omega)⟩)
    replace z4 := Lib.hid (z4.out.to fun g hg => ⟨hg, e10.block g (by omega)⟩)
    replace T := T.step e10
    replace m6 := Lib.hid (m6.out.to fun g hg => ⟨hg, e10.block g (by omega)⟩)
    replace U := U.step e10
    have hz10 := e10.size
    clear e10
    obtain ⟨U_0, U_1⟩ := U.c2
    go_wp2_with fail
    refine (sbuf_any [] none none 0 0 0 w10 (by simp) (.inl rfl) (.inl rfl)).mono ?_
    rintro e w11 ⟨rfl, e11⟩
    clear U_0 U_1
    replace S := S.step e11
    replace O := O.step e11
    replace B := B.trans (e11.mono B.size)
    replace r := Lib.hid (r.out.to fun g hg => ⟨hg, e11.block g (by omega)⟩)
    replace m1 := Lib.hid (m1.out.to fun g hg => ⟨hg, e11.block g (by omega)⟩)
    replace m2 := Lib.hid (m2.out.to fun g hg => ⟨hg, e11.block g (by omega)⟩)
    replace Y := Y.step e11
    replace z3 := Lib.hid (z3.out.to fun g hg => ⟨hg, e11.block g (by omega)⟩)
    replace z4 := Lib.hid (z4.out.to fun g hg => ⟨hg, e11.block g (by omega)⟩)
    replace T := T.step e11
    replace m6 := Lib.hid (m6.out.to fun g hg => ⟨hg, e11.block g (by omega)⟩)
    replace U := U.step e11
    have hz11 := e11.size
    clear e11
    obtain ⟨S_0, S_1⟩ := S.c2
    obtain ⟨Y_0, Y_1⟩ := Y.c2
    go_wp2_with fail
    refine (smsgs_any l a6 ad c6 c w11 (by omega) m6.out.mz.mw (Mw.below HI.out B)).mono ?_
    rintro e w12 ⟨rfl, e12⟩
    clear S_0 S_1 Y_0 Y_1
    replace S := S.step e12
    replace O := O.step e12
    replace B := B.trans (e12.mono B.size)
    replace r := Lib.hid (r.out.to fun g hg => ⟨hg, e12.block g (by omega)⟩)
    replace m1 := Lib.hid (m1.out.to fun g hg => ⟨hg, e12.block g (by omega)⟩)
    replace m2 := Lib.hid (m2.out.to fun g hg => ⟨hg, e12.block g (by omega)⟩)
    replace Y := Y.step e12
    replace z3 := Lib.hid (z3.out.to fun g hg => ⟨hg, e12.block g (by omega)⟩)
    replace z4 := Lib.hid (z4.out.to fun g hg => ⟨hg, e12.block g (by omega)⟩)
    replace T := T.step e12
    replace m6 := Lib.hid (m6.out.to fun g hg => ⟨hg, e12.block g (by omega)⟩)
    replace U := U.step e12
    have hz12 := e12.size
    clear e12
    obtain ⟨Y_0, Y_1⟩ := Y.c2
    go_wp2_with fail
    refine (spoil_first HN.out a1 a2 c1 w12 (by omega) m1.out m2.out).mono ?_
    rintro e w13 ⟨⟨u13, rfl⟩, bw, k2⟩
    clear Y_0 Y_1
    go_wp2_with fail
    refine (spoil_any M1 H4 l2 a2 c2 w13 (by omega) k2).mono ?_
    rintro e w14 ⟨⟨u14, rfl⟩, bw2⟩
    have bw3 := bw.trans bw2
    have k6 := m6.out.to (F' := fun g => L6 ≤ g ∧ g < H6) (w' := w14) fun g hg => ⟨hg, bw3.block g (by omega)⟩
    go_wp2_with fail
    refine (spoil_any L6 H6 l a6 c6 w14 (by omega) k6).mono ?_
    rintro e w15 ⟨⟨u15, rfl⟩, bw4⟩
    have S15 := bw4.bk (bw3.bk S (by omega)) (by omega)
    have O15 := bw4.bk (bw3.bk O (by omega)) (by omega)
    have B15 : Below w.heap.size w w15 := (B.trans (bw3.b.mono (by omega))).trans (bw4.b.mono (by omega))
    have R15 := Lib.hid (r.out.to (F' := fun g => W0.heap.size ≤ g ∧ g < M1 ∧ g ≠ X) (w' := w15) fun g hg => ⟨hg, (bw4.block g (by omega)).trans (bw3.block g (by omega))⟩)
    have HS3 := Lib.hid (sbuf_any l a0 ad c0 c since w15 (by omega) R15.out.mw (Mw.below HI.out B15))
    clear S O B r m1 m2 m6 z3 z4 Y T U bw bw2 bw3 bw4 k2 k6
    obtain ⟨S15_0, S15_1⟩ := S15.c2
    obtain ⟨O15_0, O15_1⟩ := O15.c2
    go_wp2_with (first | (go_at_call 13; refine HS3.out.mono ?_; rintro e w16 ⟨rfl, b16⟩; have B16 := B15.trans (b16.mono B15.size)) | (go_at_call 8; refine (awake_any w16).mono ?_; rintro e w17 ⟨rfl, b17⟩; have B17 := B16.trans (b17.mono B16.size)))
    go_ret
    exact ⟨rfl, B17⟩

theorem law_ticks (l : List Ms) (ad : Option Addr) (c : Nat) (since a b now : Int) (w : World) (hl : l.length ≤ 9223372036854775807) (hI : Mw w ad l) (hz : Sz l) (hT : Tabs w) :
    Calls Tryd.prog 4 #[.agg #[.slice ad l.length c, .int .i64 since], .int .i64 a, .int .i64 b, .int .i64 now] w fun e w' => e = .returned (.bool true) ∧ Below w.heap.size w w' := by
  have hF : ∀ wx, Below w.heap.size w wx → Calls Tryd.prog 6 #[.agg #[.slice ad l.length c, .int .i64 since], .int .i64 a, .int .i64 b, .int .i64 now] wx fun e w' => e = .returned (.bool (fiB l since a b now)) ∧ Below wx.heap.size wx w' := fun wx hb => fit_any l ad c since a b now wx hl (Mw.below hI hb) hz (hT.below hb)
  cases h1 : fiB l since a b now with
  | false => rw [h1] at hF; exact bt_bad l ad c since a b now w hF
  | true =>
    rw [h1] at hF
    obtain ⟨ha1, ha2, hb1, hb2, hn1, hn2, hla, hs1, hs2, -, hall⟩ := fi_yes h1
    have hsm : Sm l := fun y hy => fm_sm (hall y hy)
    have hll : l.length ≤ 1000 := by omega
    have hC : ∀ wx, Below w.heap.size w wx → Calls Tryd.prog 9 #[.slice ad l.length c] wx (CzP wx l) := fun wx hb => rcopy_sl l ad c wx hll (Mw.below hI hb) hsm
    have hU : ∀ wx a0 c0, Mw wx a0 l → Calls Tryd.prog 18 #[.agg #[.slice a0 l.length c0, .int .i64 since]] wx (BfP wx [] 0 l) := fun wx a0 c0 hm => flush_any l a0 c0 since wx hll hm hsm
    by_cases hgo : 0 < b ∧ 0 < l.length
    · have hN : ∀ wx a0 c0, Calls Tryd.prog 19 #[.agg #[.slice a0 l.length c0, .int .i64 since], .int .i64 b] wx fun e w' => e = .returned (.tuple #[.int .i64 (since + b), .bool true]) ∧ Below wx.heap.size wx w' := fun wx a0 c0 => next_yes l.length a0 c0 since b wx hgo.1 hgo.2 hs1 hs2 hb2
      have hM : ∀ wx a0 c0, Calls Tryd.prog 20 #[.agg #[.slice a0 l.length c0, .int .i64 since], .int .i64 b] wx fun e w' => e = .returned (.tuple #[.int .i64 (since + b), .bool true]) ∧ Below wx.heap.size wx w' := fun wx a0 c0 => rnext_yes l.length a0 c0 since b wx hgo.1 hgo.2 hs1 hs2 hb2
      by_cases hnow : since + b ≤ now
      · exact bt_good l ad c since a b now w [] 0 l _ _ (.inl rfl) (by simp) hll hll hI hF hC (fun wx a0 c0 hm => tick_go l a0 c0 since b now wx hll hm hsm hgo.1 hgo.2 hs1 hs2 hb2 hnow) (fun wx hb => rtick_go l ad c since b now wx hll (Mw.below hI hb) hsm hgo.1 hgo.2 hs1 hs2 hb2 hnow) hU hN hM
      · exact bt_good l ad c since a b now w l since [] _ _ (.inr rfl) hll (by simp) hll hI hF hC (fun wx a0 c0 hm => tick_stay l a0 c0 since b now wx hll hm hsm hs1 hs2 hb2 (by omega)) (fun wx hb => rtick_stay l ad c since b now wx hll (Mw.below hI hb) hsm hs1 hs2 hb2 (by omega)) hU hN hM
    · have hno : b ≤ 0 ∨ l.length = 0 := by omega
      exact bt_good l ad c since a b now w l since [] _ _ (.inr rfl) hll (by simp) hll hI hF hC (fun wx a0 c0 hm => tick_stay l a0 c0 since b now wx hll hm hsm hs1 hs2 hb2 (by omega)) (fun wx hb => rtick_stay l ad c since b now wx hll (Mw.below hI hb) hsm hs1 hs2 hb2 (by omega)) hU (fun wx a0 c0 => next_no l.length a0 c0 since b wx hno) (fun wx a0 c0 => rnext_no l.length a0 c0 since b wx hno)
end Go.Proofs.YtikkedemhcdboaaDoor
