/- A timer that leaves its slot; the conditions: the cells of both in memory. -/
import Derived.Test.YtignphkfknjllaaDoorWf
namespace Go.Proofs.YtignphkfknjllaaDoor
open Go.RowKit

/-- The same memory. -/
def Like (W w : World) : Prop := w.heap = W.heap ∧ w.os = W.os ∧ w.tape = W.tape ∧ w.output = W.output
theorem Like.refl (w : World) : Like w w := ⟨rfl, rfl, rfl, rfl⟩
theorem Like.drewN (w : World) (n : Nat) : Like w (w.drewN n) := ⟨rfl, rfl, rfl, rfl⟩
theorem Like.of {W w : World} {n : Nat} (h : w = W.drewN n) : Like W w := by rw [h]; exact Like.drewN _ _
theorem Like.trans {a b c : World} (h : Like a b) (h' : Like b c) : Like a c := ⟨h'.1.trans h.1, h'.2.1.trans h.2.1, h'.2.2.1.trans h.2.2.1, h'.2.2.2.trans h.2.2.2⟩
theorem Like.set {a b : World} (h : Like a b) (x : Addr) (v : Value) : Like (a.setCell x v) (b.setCell x v) := ⟨by simp [World.setCell, h.1], h.2.1, h.2.2.1, h.2.2.2⟩
theorem Like.cell {a b : World} (h : Like a b) (x : Addr) : b.cell? x = a.cell? x := by simp [World.cell?, h.1]
theorem Like.frozen {a b : World} (h : Like a b) (x : Addr) : b.frozen? x = a.frozen? x := by simp [World.frozen?, h.1]
theorem cell_o (w : World) (a b : Addr) (v : Value) (h : b ≠ a) : (w.setCell a v).cell? b = w.cell? b := World.cell?_setCell_other w a b v h.symm
theorem frozen_s (w : World) (a b : Addr) (v : Value) : (w.setCell a v).frozen? b = w.frozen? b := by simp

set_option maxRecDepth 100000 in
set_option maxHeartbeats 1000000 in
/-- The two links, one after the other. -/
theorem leave_links (B o N : Nat) (pa pb : Option Addr) (X1 x1 X2 x2 : Nat) (y1 y2 : Option Addr) (w : World) (a : Nat) (ls : Int)
    (H1 : ∀ w, Calls Tryd.prog 48 #[.pointer (some ⟨B, o, none⟩), .pointer pa] w fun e w' => e = .returned (.pointer (some ⟨X1, x1, none⟩)) ∧ w' = w)
    (H2 : ∀ w, Calls Tryd.prog 48 #[.pointer (some ⟨B, o, none⟩), .pointer pb] w fun e w' => e = .returned (.pointer (some ⟨X2, x2, none⟩)) ∧ w' = w)
    (hX1 : X1 ≠ N) (hX2 : X2 ≠ N) (hB : B ≠ N) (hx : ¬ (X1 = X2 ∧ x1 + 1 = x2)) (h31 : ¬ (X1 = B ∧ x1 + 1 = o + 3)) (h32 : ¬ (X2 = B ∧ x2 = o + 3)) (n0 : w.cell? ⟨N, 0, none⟩ = some (.pointer pa)) (n1 : w.cell? ⟨N, 1, none⟩ = some (.pointer pb)) (n2 : w.cell? ⟨N, 2, none⟩ = some (.int .i64 a)) (c3 : w.cell? ⟨B, o + 3, none⟩ = some (.int .i64 ls))
    (d1 : w.cell? ⟨X1, x1 + 1, none⟩ = some (.pointer y1)) (d2 : w.cell? ⟨X2, x2, none⟩ = some (.pointer y2)) (f0 : ∀ o, w.frozen? ⟨B, o, none⟩ = false) (f1 : ∀ o, w.frozen? ⟨X1, o, none⟩ = false) (f2 : ∀ o, w.frozen? ⟨X2, o, none⟩ = false) :
    Calls Tryd.prog 41 #[.pointer (some ⟨B, o, none⟩), .pointer (some ⟨N, 0, none⟩)] w fun e w' => e = .returned (.tuple #[]) ∧ Like (((if (a : Int) = ls then w.setCell ⟨B, o + 3, none⟩ (.int .i64 0) else w).setCell ⟨X1, x1 + 1, none⟩ (.pointer pb)).setCell ⟨X2, x2, none⟩ (.pointer pa)) w' := by
  have G1 := Lib.hid H1
  have G2 := Lib.hid H2
  clear H1 H2
  have hN1 : N ≠ X1 := hX1.symm
  have hN2 : N ≠ X2 := hX2.symm
  have hNB : N ≠ B := hB.symm
  by_cases hl : (a : Int) = ls
  · rw [if_pos hl]
    have hl' : ((a : Int) == ls) = true := by simpa using hl
    have L0 := Like.refl (w.setCell ⟨B, o + 3, none⟩ (.int .i64 0))
    have k0 := (cell_o w ⟨B, o + 3, none⟩ ⟨N, 0, none⟩ (.int .i64 0) (fun e => hNB (congrArg Addr.block e))).trans n0
    have k1 := (cell_o w ⟨B, o + 3, none⟩ ⟨N, 1, none⟩ (.int .i64 0) (fun e => hNB (congrArg Addr.block e))).trans n1
    have k2 := (cell_o w ⟨B, o + 3, none⟩ ⟨X1, x1 + 1, none⟩ (.int .i64 0) (fun e => h31 ⟨congrArg Addr.block e, congrArg Addr.off e⟩)).trans d1
    have k3 := (cell_o w ⟨B, o + 3, none⟩ ⟨X2, x2, none⟩ (.int .i64 0) (fun e => h32 ⟨congrArg Addr.block e, congrArg Addr.off e⟩)).trans d2
    have j1 := fun o' => (frozen_s w ⟨B, o + 3, none⟩ ⟨X1, o', none⟩ (.int .i64 0)).trans (f1 o')
    have j2 := fun o' => (frozen_s w ⟨B, o + 3, none⟩ ⟨X2, o', none⟩ (.int .i64 0)).trans (f2 o')
    clear d1 d2 f1 f2
    go_enter Tryd.func41, Tryd.ntmps41
    go_wp2_with fail
    go_quiet (fail)
    go_wp2_with fail
    clear n0 n1 n2 c3 f0 hl hl'
    have L1 := L0.trans (Like.drewN _ nq)
    clear L0
    change Like _ ((w.drewN nq).setCell _ _) at L1
    change ((w.drewN nq).setCell _ _).cell? _ = _ at k0 k1 k2 k3
    change ∀ o', ((w.drewN nq).setCell _ _).frozen? _ = _ at j1 j2
    have n1_0 := k0
    have n1_1 := k1
    have e1 := k2
    have d2 := k3
    have g1 := j1
    have f2 := j2
    clear k0 k1 k2 k3 j1 j2
    generalize (w.drewN nq).setCell ⟨B, o + 3, none⟩ (.int .i64 0) = w1 at *
    change w1.drew.cell? _ = _ at n1_0
    change w1.drew.cell? _ = _ at n1_1
    change w1.drew.cell? _ = _ at e1
    change ∀ o, w1.drew.frozen? ⟨X1, o, none⟩ = _ at g1
    change w1.drew.cell? _ = _ at d2
    change ∀ o, w1.drew.frozen? ⟨X2, o, none⟩ = _ at f2
    have M1 := L1.trans (Like.drewN _ 1)
    change Like _ w1.drew at M1
    clear L1
    refine wp_region_held_drew (S := (fun wx => wx.cell? ⟨N, 0, none⟩ = some (.pointer pa) ∧ wx.cell? ⟨N, 1, none⟩ = some (.pointer pb))) (by kernel_rfl) ⟨n1_0, n1_1⟩ (fun hHeld1 => ?_)
    generalize w1.drew = v1 at *
    refine wpAnyH_take (i := 0) (oi := { dst := some 16, op := Op.move (Operand.tmp 0), type := 67, pos := _, after := #[], guard := none }) (v := ?tap1) rfl (by kernel_rfl) (by kernel_rfl) (by kernel_rfl) (fun _ _ _ h => h) (Or.inl ⟨by rfl, ?uap1⟩) (by assumption) ?rap1
    case uap1 => (intro w hSw; (try dsimp only at hSw); go_simp; (try with_reducible rfl))
    simp only [Act.put, List.setIfInBounds_toArray, List.set_cons_zero, List.set_cons_succ]
    refine wpAnyH_take (i := 1) (oi := { dst := some 17, op := Op.move (Operand.tmp 1), type := 48, pos := _, after := #[], guard := none }) (v := ?tap2) rfl (by kernel_rfl) (by kernel_rfl) (by kernel_rfl) (fun _ _ _ h => h) (Or.inl ⟨by rfl, ?uap2⟩) (by assumption) ?rap2
    case uap2 => (intro w hSw; (try dsimp only at hSw); go_simp; (try with_reducible rfl))
    simp only [Act.put, List.setIfInBounds_toArray, List.set_cons_zero, List.set_cons_succ]
    refine wpAnyH_take (i := 2) (oi := { dst := some 18, op := Op.nilCheck (Operand.tmp 17), type := 0, pos := _, after := #[{ on := 1, ground := Ground.data }], guard := none }) (v := ?tap3) rfl (by kernel_rfl) (by kernel_rfl) (by kernel_rfl) (fun _ _ _ h => h) (Or.inl ⟨by rfl, ?uap3⟩) (by assumption) ?rap3
    case uap3 => (intro w hSw; (try dsimp only at hSw); go_simp; (try with_reducible rfl))
    simp only [Act.put, List.setIfInBounds_toArray, List.set_cons_zero, List.set_cons_succ]
    refine wpAnyH_take (i := 3) (oi := { dst := some 19, op := Op.fieldAddr 71 (Operand.tmp 18) 0, type := 0, pos := _, after := #[{ on := 2, ground := Ground.data }], guard := none }) (v := ?tap4) rfl (by kernel_rfl) (by kernel_rfl) (by kernel_rfl) (fun _ _ _ h => h) (Or.inl ⟨by rfl, ?uap4⟩) (by assumption) ?rap4
    case uap4 => (intro w hSw; (try dsimp only at hSw); go_simp; (try with_reducible rfl))
    simp only [Act.put, List.setIfInBounds_toArray, List.set_cons_zero, List.set_cons_succ]
    refine wpAnyH_take (i := 4) (oi := { dst := some 20, op := Op.fieldAddr 50 (Operand.tmp 19) 0, type := 0, pos := _, after := #[{ on := 3, ground := Ground.data }], guard := none }) (v := ?tap5) rfl (by kernel_rfl) (by kernel_rfl) (by kernel_rfl) (fun _ _ _ h => h) (Or.inl ⟨by rfl, ?uap5⟩) (by assumption) ?rap5
    case uap5 => (intro w hSw; (try dsimp only at hSw); go_simp; (try with_reducible rfl))
    simp only [Act.put, List.setIfInBounds_toArray, List.set_cons_zero, List.set_cons_succ]
    refine wpAnyH_take (i := 5) (oi := { dst := some 21, op := Op.load 48 (Operand.tmp 20), type := 48, pos := _, after := #[{ on := 4, ground := Ground.data }], guard := none }) (v := ?tap6) rfl (by kernel_rfl) (by kernel_rfl) (by kernel_rfl) (fun _ _ _ h => h) (Or.inl ⟨by rfl, ?uap6⟩) (by assumption) ?rap6
    case uap6 => (intro w hSw; (try dsimp only at hSw); go_simp; (try with_reducible rfl))
    simp only [Act.put, List.setIfInBounds_toArray, List.set_cons_zero, List.set_cons_succ]
    refine wpAnyH_take (i := 7) (oi := { dst := some 23, op := Op.move (Operand.tmp 1), type := 48, pos := _, after := #[], guard := none }) (v := ?tap7) rfl (by kernel_rfl) (by kernel_rfl) (by kernel_rfl) (fun _ _ _ h => h) (Or.inl ⟨by rfl, ?uap7⟩) (by assumption) ?rap7
    case uap7 => (intro w hSw; (try dsimp only at hSw); go_simp; (try with_reducible rfl))
    simp only [Act.put, List.setIfInBounds_toArray, List.set_cons_zero, List.set_cons_succ]
    refine wpAnyH_take (i := 8) (oi := { dst := some 24, op := Op.nilCheck (Operand.tmp 23), type := 0, pos := _, after := #[{ on := 7, ground := Ground.data }], guard := none }) (v := ?tap8) rfl (by kernel_rfl) (by kernel_rfl) (by kernel_rfl) (fun _ _ _ h => h) (Or.inl ⟨by rfl, ?uap8⟩) (by assumption) ?rap8
    case uap8 => (intro w hSw; (try dsimp only at hSw); go_simp; (try with_reducible rfl))
    simp only [Act.put, List.setIfInBounds_toArray, List.set_cons_zero, List.set_cons_succ]
    refine wpAnyH_take (i := 9) (oi := { dst := some 25, op := Op.fieldAddr 71 (Operand.tmp 24) 0, type := 0, pos := _, after := #[{ on := 8, ground := Ground.data }], guard := none }) (v := ?tap9) rfl (by kernel_rfl) (by kernel_rfl) (by kernel_rfl) (fun _ _ _ h => h) (Or.inl ⟨by rfl, ?uap9⟩) (by assumption) ?rap9
    case uap9 => (intro w hSw; (try dsimp only at hSw); go_simp; (try with_reducible rfl))
    simp only [Act.put, List.setIfInBounds_toArray, List.set_cons_zero, List.set_cons_succ]
    refine wpAnyH_take (i := 10) (oi := { dst := some 26, op := Op.fieldAddr 50 (Operand.tmp 25) 1, type := 0, pos := _, after := #[{ on := 9, ground := Ground.data }], guard := none }) (v := ?tap10) rfl (by kernel_rfl) (by kernel_rfl) (by kernel_rfl) (fun _ _ _ h => h) (Or.inl ⟨by rfl, ?uap10⟩) (by assumption) ?rap10
    case uap10 => (intro w hSw; (try dsimp only at hSw); go_simp; (try with_reducible rfl))
    simp only [Act.put, List.setIfInBounds_toArray, List.set_cons_zero, List.set_cons_succ]
    refine wpAnyH_take (i := 11) (oi := { dst := some 27, op := Op.load 48 (Operand.tmp 26), type := 48, pos := _, after := #[{ on := 10, ground := Ground.data }], guard := none }) (v := ?tap11) rfl (by kernel_rfl) (by kernel_rfl) (by kernel_rfl) (fun _ _ _ h => h) (Or.inl ⟨by rfl, ?uap11⟩) (by assumption) ?rap11
    case uap11 => (intro w hSw; (try dsimp only at hSw); go_simp; (try with_reducible rfl))
    simp only [Act.put, List.setIfInBounds_toArray, List.set_cons_zero, List.set_cons_succ]
    refine wpAnyH_ready (rs := [6]) (by kernel_rfl) (by simp) ?_
    refine AllReadyH.cons (o := { dst := some 22, op := Op.call { callee := Callee.value (Operand.func 48), args := #[Operand.tmp 16, Operand.tmp 21], argTypes := #[67, 48] }, type := 85, pos := _, after := #[{ on := 0, ground := Ground.data }, { on := 5, ground := Ground.data }], guard := none }) rfl (fun K hK => ?_) AllReadyH.nil
    go_simp
    refine (G1.out _).mono ?_
    rintro e w9 ⟨rfl, hw9⟩
    rw [hw9]
    clear hw9 w9
    go_wp2_with fail
    refine hK.out _ _ ⟨n1_0, n1_1⟩ (fun hH1 => ?_)
    clear hK K
    (try simp only [Act.put, List.setIfInBounds_toArray, List.set_cons_zero, List.set_cons_succ])
    refine wpAnyH_take (i := 12) (oi := { dst := some 28, op := Op.nilCheck (Operand.tmp 22), type := 0, pos := _, after := #[{ on := 6, ground := Ground.data }, { on := 0, ground := Ground.phase }, { on := 1, ground := Ground.phase }, { on := 2, ground := Ground.phase }, { on := 3, ground := Ground.phase }, { on := 4, ground := Ground.phase }, { on := 5, ground := Ground.phase }, { on := 6, ground := Ground.phase }, { on := 7, ground := Ground.phase }, { on := 8, ground := Ground.phase }, { on := 9, ground := Ground.phase }, { on := 10, ground := Ground.phase }, { on := 11, ground := Ground.phase }], guard := none }) (v := ?tap12) rfl (by kernel_rfl) (by kernel_rfl) (by kernel_rfl) (fun _ _ _ h => h) (Or.inl ⟨by rfl, ?uap12⟩) (by assumption) ?rap12
    case uap12 => (intro w hSw; (try dsimp only at hSw); go_simp; (try with_reducible rfl))
    simp only [Act.put, List.setIfInBounds_toArray, List.set_cons_zero, List.set_cons_succ]
    refine wpAnyH_take (i := 13) (oi := { dst := some 29, op := Op.fieldAddr 50 (Operand.tmp 28) 1, type := 0, pos := _, after := #[{ on := 12, ground := Ground.data }, { on := 0, ground := Ground.phase }, { on := 1, ground := Ground.phase }, { on := 2, ground := Ground.phase }, { on := 3, ground := Ground.phase }, { on := 4, ground := Ground.phase }, { on := 5, ground := Ground.phase }, { on := 6, ground := Ground.phase }, { on := 7, ground := Ground.phase }, { on := 8, ground := Ground.phase }, { on := 9, ground := Ground.phase }, { on := 10, ground := Ground.phase }, { on := 11, ground := Ground.phase }], guard := none }) (v := ?tap13) rfl (by kernel_rfl) (by kernel_rfl) (by kernel_rfl) (fun _ _ _ h => h) (Or.inl ⟨by rfl, ?uap13⟩) (by assumption) ?rap13
    case uap13 => (intro w hSw; (try dsimp only at hSw); go_simp; (try with_reducible rfl))
    simp only [Act.put, List.setIfInBounds_toArray, List.set_cons_zero, List.set_cons_succ]
    refine wpAnyH_ready (rs := [14]) (by kernel_rfl) (by simp) ?_
    refine AllReadyH.cons (o := { dst := none, op := Op.store 48 (Operand.tmp 29) (Operand.tmp 27), type := 0, pos := _, after := #[{ on := 13, ground := Ground.data }, { on := 11, ground := Ground.data }, { on := 6, ground := Ground.chain }, { on := 0, ground := Ground.phase }, { on := 1, ground := Ground.phase }, { on := 2, ground := Ground.phase }, { on := 3, ground := Ground.phase }, { on := 4, ground := Ground.phase }, { on := 5, ground := Ground.phase }, { on := 6, ground := Ground.phase }, { on := 7, ground := Ground.phase }, { on := 8, ground := Ground.phase }, { on := 9, ground := Ground.phase }, { on := 10, ground := Ground.phase }, { on := 11, ground := Ground.phase }], guard := none }) rfl (fun K hK => ?_) AllReadyH.nil
    go_simp
    refine hK.out _ _ ⟨by go_simp; (try assumption), by go_simp; (try assumption)⟩ (fun hH2 => ?_)
    clear hK K
    (try simp only [Act.put, List.setIfInBounds_toArray, List.set_cons_zero, List.set_cons_succ])
    refine wpAnyH_done (by kernel_rfl) ?_ _
    have L2 := M1.set ⟨X1, x1 + 1, none⟩ (.pointer pb)
    have n2_0 := (cell_o v1 ⟨X1, x1 + 1, none⟩ ⟨N, 0, none⟩ (.pointer pb) (fun e => hX1 (congrArg Addr.block e).symm)).trans n1_0
    have n2_1 := (cell_o v1 ⟨X1, x1 + 1, none⟩ ⟨N, 1, none⟩ (.pointer pb) (fun e => hX1 (congrArg Addr.block e).symm)).trans n1_1
    have e2 := (cell_o v1 ⟨X1, x1 + 1, none⟩ ⟨X2, x2, none⟩ (.pointer pb) (fun e => hx ⟨(congrArg Addr.block e).symm, (congrArg Addr.off e).symm⟩)).trans d2
    have g2 := fun o => (frozen_s v1 ⟨X1, x1 + 1, none⟩ ⟨X2, o, none⟩ (.pointer pb)).trans (f2 o)
    clear n1_0 n1_1 e1 g1 d2 f2 M1 hHeld1
    generalize v1.setCell ⟨X1, x1 + 1, none⟩ (.pointer pb) = w2 at *
    go_wp2_with fail
    change w2.drew.cell? _ = _ at n2_0
    change w2.drew.cell? _ = _ at n2_1
    change w2.drew.cell? _ = _ at e2
    change ∀ o, w2.drew.frozen? ⟨X2, o, none⟩ = _ at g2
    have M2 := L2.trans (Like.drewN _ 1)
    change Like _ w2.drew at M2
    clear L2
    refine wp_region_held_drew (S := (fun wx => wx.cell? ⟨N, 0, none⟩ = some (.pointer pa) ∧ wx.cell? ⟨N, 1, none⟩ = some (.pointer pb))) (by kernel_rfl) ⟨n2_0, n2_1⟩ (fun hHeld2 => ?_)
    generalize w2.drew = v2 at *
    refine wpAnyH_take (i := 0) (oi := { dst := some 30, op := Op.move (Operand.tmp 0), type := 67, pos := _, after := #[], guard := none }) (v := ?taq1) rfl (by kernel_rfl) (by kernel_rfl) (by kernel_rfl) (fun _ _ _ h => h) (Or.inl ⟨by rfl, ?uaq1⟩) (by assumption) ?raq1
    case uaq1 => (intro w hSw; (try dsimp only at hSw); go_simp; (try with_reducible rfl))
    simp only [Act.put, List.setIfInBounds_toArray, List.set_cons_zero, List.set_cons_succ]
    refine wpAnyH_take (i := 1) (oi := { dst := some 31, op := Op.move (Operand.tmp 1), type := 48, pos := _, after := #[], guard := none }) (v := ?taq2) rfl (by kernel_rfl) (by kernel_rfl) (by kernel_rfl) (fun _ _ _ h => h) (Or.inl ⟨by rfl, ?uaq2⟩) (by assumption) ?raq2
    case uaq2 => (intro w hSw; (try dsimp only at hSw); go_simp; (try with_reducible rfl))
    simp only [Act.put, List.setIfInBounds_toArray, List.set_cons_zero, List.set_cons_succ]
    refine wpAnyH_take (i := 2) (oi := { dst := some 32, op := Op.nilCheck (Operand.tmp 31), type := 0, pos := _, after := #[{ on := 1, ground := Ground.data }], guard := none }) (v := ?taq3) rfl (by kernel_rfl) (by kernel_rfl) (by kernel_rfl) (fun _ _ _ h => h) (Or.inl ⟨by rfl, ?uaq3⟩) (by assumption) ?raq3
    case uaq3 => (intro w hSw; (try dsimp only at hSw); go_simp; (try with_reducible rfl))
    simp only [Act.put, List.setIfInBounds_toArray, List.set_cons_zero, List.set_cons_succ]
    refine wpAnyH_take (i := 3) (oi := { dst := some 33, op := Op.fieldAddr 71 (Operand.tmp 32) 0, type := 0, pos := _, after := #[{ on := 2, ground := Ground.data }], guard := none }) (v := ?taq4) rfl (by kernel_rfl) (by kernel_rfl) (by kernel_rfl) (fun _ _ _ h => h) (Or.inl ⟨by rfl, ?uaq4⟩) (by assumption) ?raq4
    case uaq4 => (intro w hSw; (try dsimp only at hSw); go_simp; (try with_reducible rfl))
    simp only [Act.put, List.setIfInBounds_toArray, List.set_cons_zero, List.set_cons_succ]
    refine wpAnyH_take (i := 4) (oi := { dst := some 34, op := Op.fieldAddr 50 (Operand.tmp 33) 1, type := 0, pos := _, after := #[{ on := 3, ground := Ground.data }], guard := none }) (v := ?taq5) rfl (by kernel_rfl) (by kernel_rfl) (by kernel_rfl) (fun _ _ _ h => h) (Or.inl ⟨by rfl, ?uaq5⟩) (by assumption) ?raq5
    case uaq5 => (intro w hSw; (try dsimp only at hSw); go_simp; (try with_reducible rfl))
    simp only [Act.put, List.setIfInBounds_toArray, List.set_cons_zero, List.set_cons_succ]
    refine wpAnyH_take (i := 5) (oi := { dst := some 35, op := Op.load 48 (Operand.tmp 34), type := 48, pos := _, after := #[{ on := 4, ground := Ground.data }], guard := none }) (v := ?taq6) rfl (by kernel_rfl) (by kernel_rfl) (by kernel_rfl) (fun _ _ _ h => h) (Or.inl ⟨by rfl, ?uaq6⟩) (by assumption) ?raq6
    case uaq6 => (intro w hSw; (try dsimp only at hSw); go_simp; (try with_reducible rfl))
    simp only [Act.put, List.setIfInBounds_toArray, List.set_cons_zero, List.set_cons_succ]
    refine wpAnyH_take (i := 7) (oi := { dst := some 37, op := Op.move (Operand.tmp 1), type := 48, pos := _, after := #[], guard := none }) (v := ?taq7) rfl (by kernel_rfl) (by kernel_rfl) (by kernel_rfl) (fun _ _ _ h => h) (Or.inl ⟨by rfl, ?uaq7⟩) (by assumption) ?raq7
    case uaq7 => (intro w hSw; (try dsimp only at hSw); go_simp; (try with_reducible rfl))
    simp only [Act.put, List.setIfInBounds_toArray, List.set_cons_zero, List.set_cons_succ]
    refine wpAnyH_take (i := 8) (oi := { dst := some 38, op := Op.nilCheck (Operand.tmp 37), type := 0, pos := _, after := #[{ on := 7, ground := Ground.data }], guard := none }) (v := ?taq8) rfl (by kernel_rfl) (by kernel_rfl) (by kernel_rfl) (fun _ _ _ h => h) (Or.inl ⟨by rfl, ?uaq8⟩) (by assumption) ?raq8
    case uaq8 => (intro w hSw; (try dsimp only at hSw); go_simp; (try with_reducible rfl))
    simp only [Act.put, List.setIfInBounds_toArray, List.set_cons_zero, List.set_cons_succ]
    refine wpAnyH_take (i := 9) (oi := { dst := some 39, op := Op.fieldAddr 71 (Operand.tmp 38) 0, type := 0, pos := _, after := #[{ on := 8, ground := Ground.data }], guard := none }) (v := ?taq9) rfl (by kernel_rfl) (by kernel_rfl) (by kernel_rfl) (fun _ _ _ h => h) (Or.inl ⟨by rfl, ?uaq9⟩) (by assumption) ?raq9
    case uaq9 => (intro w hSw; (try dsimp only at hSw); go_simp; (try with_reducible rfl))
    simp only [Act.put, List.setIfInBounds_toArray, List.set_cons_zero, List.set_cons_succ]
    refine wpAnyH_take (i := 10) (oi := { dst := some 40, op := Op.fieldAddr 50 (Operand.tmp 39) 0, type := 0, pos := _, after := #[{ on := 9, ground := Ground.data }], guard := none }) (v := ?taq10) rfl (by kernel_rfl) (by kernel_rfl) (by kernel_rfl) (fun _ _ _ h => h) (Or.inl ⟨by rfl, ?uaq10⟩) (by assumption) ?raq10
    case uaq10 => (intro w hSw; (try dsimp only at hSw); go_simp; (try with_reducible rfl))
    simp only [Act.put, List.setIfInBounds_toArray, List.set_cons_zero, List.set_cons_succ]
    refine wpAnyH_take (i := 11) (oi := { dst := some 41, op := Op.load 48 (Operand.tmp 40), type := 48, pos := _, after := #[{ on := 10, ground := Ground.data }], guard := none }) (v := ?taq11) rfl (by kernel_rfl) (by kernel_rfl) (by kernel_rfl) (fun _ _ _ h => h) (Or.inl ⟨by rfl, ?uaq11⟩) (by assumption) ?raq11
    case uaq11 => (intro w hSw; (try dsimp only at hSw); go_simp; (try with_reducible rfl))
    simp only [Act.put, List.setIfInBounds_toArray, List.set_cons_zero, List.set_cons_succ]
    refine wpAnyH_ready (rs := [6]) (by kernel_rfl) (by simp) ?_
    refine AllReadyH.cons (o := { dst := some 36, op := Op.call { callee := Callee.value (Operand.func 48), args := #[Operand.tmp 30, Operand.tmp 35], argTypes := #[67, 48] }, type := 85, pos := _, after := #[{ on := 0, ground := Ground.data }, { on := 5, ground := Ground.data }], guard := none }) rfl (fun K hK => ?_) AllReadyH.nil
    go_simp
    refine (G2.out _).mono ?_
    rintro e w9 ⟨rfl, hw9⟩
    rw [hw9]
    clear hw9 w9
    go_wp2_with fail
    refine hK.out _ _ ⟨n2_0, n2_1⟩ (fun hH3 => ?_)
    clear hK K
    (try simp only [Act.put, List.setIfInBounds_toArray, List.set_cons_zero, List.set_cons_succ])
    refine wpAnyH_take (i := 12) (oi := { dst := some 42, op := Op.nilCheck (Operand.tmp 36), type := 0, pos := _, after := #[{ on := 6, ground := Ground.data }, { on := 0, ground := Ground.phase }, { on := 1, ground := Ground.phase }, { on := 2, ground := Ground.phase }, { on := 3, ground := Ground.phase }, { on := 4, ground := Ground.phase }, { on := 5, ground := Ground.phase }, { on := 6, ground := Ground.phase }, { on := 7, ground := Ground.phase }, { on := 8, ground := Ground.phase }, { on := 9, ground := Ground.phase }, { on := 10, ground := Ground.phase }, { on := 11, ground := Ground.phase }], guard := none }) (v := ?taq12) rfl (by kernel_rfl) (by kernel_rfl) (by kernel_rfl) (fun _ _ _ h => h) (Or.inl ⟨by rfl, ?uaq12⟩) (by assumption) ?raq12
    case uaq12 => (intro w hSw; (try dsimp only at hSw); go_simp; (try with_reducible rfl))
    simp only [Act.put, List.setIfInBounds_toArray, List.set_cons_zero, List.set_cons_succ]
    refine wpAnyH_take (i := 13) (oi := { dst := some 43, op := Op.fieldAddr 50 (Operand.tmp 42) 0, type := 0, pos := _, after := #[{ on := 12, ground := Ground.data }, { on := 0, ground := Ground.phase }, { on := 1, ground := Ground.phase }, { on := 2, ground := Ground.phase }, { on := 3, ground := Ground.phase }, { on := 4, ground := Ground.phase }, { on := 5, ground := Ground.phase }, { on := 6, ground := Ground.phase }, { on := 7, ground := Ground.phase }, { on := 8, ground := Ground.phase }, { on := 9, ground := Ground.phase }, { on := 10, ground := Ground.phase }, { on := 11, ground := Ground.phase }], guard := none }) (v := ?taq13) rfl (by kernel_rfl) (by kernel_rfl) (by kernel_rfl) (fun _ _ _ h => h) (Or.inl ⟨by rfl, ?uaq13⟩) (by assumption) ?raq13
    case uaq13 => (intro w hSw; (try dsimp only at hSw); go_simp; (try with_reducible rfl))
    simp only [Act.put, List.setIfInBounds_toArray, List.set_cons_zero, List.set_cons_succ]
    refine wpAnyH_ready (rs := [14]) (by kernel_rfl) (by simp) ?_
    refine AllReadyH.cons (o := { dst := none, op := Op.store 48 (Operand.tmp 43) (Operand.tmp 41), type := 0, pos := _, after := #[{ on := 13, ground := Ground.data }, { on := 11, ground := Ground.data }, { on := 6, ground := Ground.chain }, { on := 0, ground := Ground.phase }, { on := 1, ground := Ground.phase }, { on := 2, ground := Ground.phase }, { on := 3, ground := Ground.phase }, { on := 4, ground := Ground.phase }, { on := 5, ground := Ground.phase }, { on := 6, ground := Ground.phase }, { on := 7, ground := Ground.phase }, { on := 8, ground := Ground.phase }, { on := 9, ground := Ground.phase }, { on := 10, ground := Ground.phase }, { on := 11, ground := Ground.phase }], guard := none }) rfl (fun K hK => ?_) AllReadyH.nil
    go_simp
    refine hK.out _ _ ⟨by go_simp; (try assumption), by go_simp; (try assumption)⟩ (fun hH4 => ?_)
    clear hK K
    (try simp only [Act.put, List.setIfInBounds_toArray, List.set_cons_zero, List.set_cons_succ])
    refine wpAnyH_done (by kernel_rfl) ?_ _
    go_wp2_with fail
    go_end0
    exact ⟨rfl, M2.set _ _⟩
  · have hl' : ((a : Int) == ls) = false := by simpa using hl
    rw [if_neg hl]
    go_enter Tryd.func41, Tryd.ntmps41
    go_wp2_with fail
    go_quiet (fail)
    go_wp2_with fail
    clear n2 c3 f0 hl hl' h31 h32
    have L1 := Like.drewN w nq
    change (w.drewN nq).cell? _ = _ at n0 n1 d1 d2
    change ∀ o', (w.drewN nq).frozen? _ = _ at f1 f2
    have n1_0 := n0
    have n1_1 := n1
    have e1 := d1
    have g1 := f1
    clear n0 n1 d1 f1
    generalize w.drewN nq = w1 at *
    change w1.drew.cell? _ = _ at n1_0
    change w1.drew.cell? _ = _ at n1_1
    change w1.drew.cell? _ = _ at e1
    change ∀ o, w1.drew.frozen? ⟨X1, o, none⟩ = _ at g1
    change w1.drew.cell? _ = _ at d2
    change ∀ o, w1.drew.frozen? ⟨X2, o, none⟩ = _ at f2
    have M1 := L1.trans (Like.drewN _ 1)
    change Like _ w1.drew at M1
    clear L1
    refine wp_region_held_drew (S := (fun wx => wx.cell? ⟨N, 0, none⟩ = some (.pointer pa) ∧ wx.cell? ⟨N, 1, none⟩ = some (.pointer pb))) (by kernel_rfl) ⟨n1_0, n1_1⟩ (fun hHeld1 => ?_)
    generalize w1.drew = v1 at *
    refine wpAnyH_take (i := 0) (oi := { dst := some 16, op := Op.move (Operand.tmp 0), type := 67, pos := _, after := #[], guard := none }) (v := ?tbp14) rfl (by kernel_rfl) (by kernel_rfl) (by kernel_rfl) (fun _ _ _ h => h) (Or.inl ⟨by rfl, ?ubp14⟩) (by assumption) ?rbp14
    case ubp14 => (intro w hSw; (try dsimp only at hSw); go_simp; (try with_reducible rfl))
    simp only [Act.put, List.setIfInBounds_toArray, List.set_cons_zero, List.set_cons_succ]
    refine wpAnyH_take (i := 1) (oi := { dst := some 17, op := Op.move (Operand.tmp 1), type := 48, pos := _, after := #[], guard := none }) (v := ?tbp15) rfl (by kernel_rfl) (by kernel_rfl) (by kernel_rfl) (fun _ _ _ h => h) (Or.inl ⟨by rfl, ?ubp15⟩) (by assumption) ?rbp15
    case ubp15 => (intro w hSw; (try dsimp only at hSw); go_simp; (try with_reducible rfl))
    simp only [Act.put, List.setIfInBounds_toArray, List.set_cons_zero, List.set_cons_succ]
    refine wpAnyH_take (i := 2) (oi := { dst := some 18, op := Op.nilCheck (Operand.tmp 17), type := 0, pos := _, after := #[{ on := 1, ground := Ground.data }], guard := none }) (v := ?tbp16) rfl (by kernel_rfl) (by kernel_rfl) (by kernel_rfl) (fun _ _ _ h => h) (Or.inl ⟨by rfl, ?ubp16⟩) (by assumption) ?rbp16
    case ubp16 => (intro w hSw; (try dsimp only at hSw); go_simp; (try with_reducible rfl))
    simp only [Act.put, List.setIfInBounds_toArray, List.set_cons_zero, List.set_cons_succ]
    refine wpAnyH_take (i := 3) (oi := { dst := some 19, op := Op.fieldAddr 71 (Operand.tmp 18) 0, type := 0, pos := _, after := #[{ on := 2, ground := Ground.data }], guard := none }) (v := ?tbp17) rfl (by kernel_rfl) (by kernel_rfl) (by kernel_rfl) (fun _ _ _ h => h) (Or.inl ⟨by rfl, ?ubp17⟩) (by assumption) ?rbp17
    case ubp17 => (intro w hSw; (try dsimp only at hSw); go_simp; (try with_reducible rfl))
    simp only [Act.put, List.setIfInBounds_toArray, List.set_cons_zero, List.set_cons_succ]
    refine wpAnyH_take (i := 4) (oi := { dst := some 20, op := Op.fieldAddr 50 (Operand.tmp 19) 0, type := 0, pos := _, after := #[{ on := 3, ground := Ground.data }], guard := none }) (v := ?tbp18) rfl (by kernel_rfl) (by kernel_rfl) (by kernel_rfl) (fun _ _ _ h => h) (Or.inl ⟨by rfl, ?ubp18⟩) (by assumption) ?rbp18
    case ubp18 => (intro w hSw; (try dsimp only at hSw); go_simp; (try with_reducible rfl))
    simp only [Act.put, List.setIfInBounds_toArray, List.set_cons_zero, List.set_cons_succ]
    refine wpAnyH_take (i := 5) (oi := { dst := some 21, op := Op.load 48 (Operand.tmp 20), type := 48, pos := _, after := #[{ on := 4, ground := Ground.data }], guard := none }) (v := ?tbp19) rfl (by kernel_rfl) (by kernel_rfl) (by kernel_rfl) (fun _ _ _ h => h) (Or.inl ⟨by rfl, ?ubp19⟩) (by assumption) ?rbp19
    case ubp19 => (intro w hSw; (try dsimp only at hSw); go_simp; (try with_reducible rfl))
    simp only [Act.put, List.setIfInBounds_toArray, List.set_cons_zero, List.set_cons_succ]
    refine wpAnyH_take (i := 7) (oi := { dst := some 23, op := Op.move (Operand.tmp 1), type := 48, pos := _, after := #[], guard := none }) (v := ?tbp20) rfl (by kernel_rfl) (by kernel_rfl) (by kernel_rfl) (fun _ _ _ h => h) (Or.inl ⟨by rfl, ?ubp20⟩) (by assumption) ?rbp20
    case ubp20 => (intro w hSw; (try dsimp only at hSw); go_simp; (try with_reducible rfl))
    simp only [Act.put, List.setIfInBounds_toArray, List.set_cons_zero, List.set_cons_succ]
    refine wpAnyH_take (i := 8) (oi := { dst := some 24, op := Op.nilCheck (Operand.tmp 23), type := 0, pos := _, after := #[{ on := 7, ground := Ground.data }], guard := none }) (v := ?tbp21) rfl (by kernel_rfl) (by kernel_rfl) (by kernel_rfl) (fun _ _ _ h => h) (Or.inl ⟨by rfl, ?ubp21⟩) (by assumption) ?rbp21
    case ubp21 => (intro w hSw; (try dsimp only at hSw); go_simp; (try with_reducible rfl))
    simp only [Act.put, List.setIfInBounds_toArray, List.set_cons_zero, List.set_cons_succ]
    refine wpAnyH_take (i := 9) (oi := { dst := some 25, op := Op.fieldAddr 71 (Operand.tmp 24) 0, type := 0, pos := _, after := #[{ on := 8, ground := Ground.data }], guard := none }) (v := ?tbp22) rfl (by kernel_rfl) (by kernel_rfl) (by kernel_rfl) (fun _ _ _ h => h) (Or.inl ⟨by rfl, ?ubp22⟩) (by assumption) ?rbp22
    case ubp22 => (intro w hSw; (try dsimp only at hSw); go_simp; (try with_reducible rfl))
    simp only [Act.put, List.setIfInBounds_toArray, List.set_cons_zero, List.set_cons_succ]
    refine wpAnyH_take (i := 10) (oi := { dst := some 26, op := Op.fieldAddr 50 (Operand.tmp 25) 1, type := 0, pos := _, after := #[{ on := 9, ground := Ground.data }], guard := none }) (v := ?tbp23) rfl (by kernel_rfl) (by kernel_rfl) (by kernel_rfl) (fun _ _ _ h => h) (Or.inl ⟨by rfl, ?ubp23⟩) (by assumption) ?rbp23
    case ubp23 => (intro w hSw; (try dsimp only at hSw); go_simp; (try with_reducible rfl))
    simp only [Act.put, List.setIfInBounds_toArray, List.set_cons_zero, List.set_cons_succ]
    refine wpAnyH_take (i := 11) (oi := { dst := some 27, op := Op.load 48 (Operand.tmp 26), type := 48, pos := _, after := #[{ on := 10, ground := Ground.data }], guard := none }) (v := ?tbp24) rfl (by kernel_rfl) (by kernel_rfl) (by kernel_rfl) (fun _ _ _ h => h) (Or.inl ⟨by rfl, ?ubp24⟩) (by assumption) ?rbp24
    case ubp24 => (intro w hSw; (try dsimp only at hSw); go_simp; (try with_reducible rfl))
    simp only [Act.put, List.setIfInBounds_toArray, List.set_cons_zero, List.set_cons_succ]
    refine wpAnyH_ready (rs := [6]) (by kernel_rfl) (by simp) ?_
    refine AllReadyH.cons (o := { dst := some 22, op := Op.call { callee := Callee.value (Operand.func 48), args := #[Operand.tmp 16, Operand.tmp 21], argTypes := #[67, 48] }, type := 85, pos := _, after := #[{ on := 0, ground := Ground.data }, { on := 5, ground := Ground.data }], guard := none }) rfl (fun K hK => ?_) AllReadyH.nil
    go_simp
    refine (G1.out _).mono ?_
    rintro e w9 ⟨rfl, hw9⟩
    rw [hw9]
    clear hw9 w9
    go_wp2_with fail
    refine hK.out _ _ ⟨n1_0, n1_1⟩ (fun hH5 => ?_)
    clear hK K
    (try simp only [Act.put, List.setIfInBounds_toArray, List.set_cons_zero, List.set_cons_succ])
    refine wpAnyH_take (i := 12) (oi := { dst := some 28, op := Op.nilCheck (Operand.tmp 22), type := 0, pos := _, after := #[{ on := 6, ground := Ground.data }, { on := 0, ground := Ground.phase }, { on := 1, ground := Ground.phase }, { on := 2, ground := Ground.phase }, { on := 3, ground := Ground.phase }, { on := 4, ground := Ground.phase }, { on := 5, ground := Ground.phase }, { on := 6, ground := Ground.phase }, { on := 7, ground := Ground.phase }, { on := 8, ground := Ground.phase }, { on := 9, ground := Ground.phase }, { on := 10, ground := Ground.phase }, { on := 11, ground := Ground.phase }], guard := none }) (v := ?tbp25) rfl (by kernel_rfl) (by kernel_rfl) (by kernel_rfl) (fun _ _ _ h => h) (Or.inl ⟨by rfl, ?ubp25⟩) (by assumption) ?rbp25
    case ubp25 => (intro w hSw; (try dsimp only at hSw); go_simp; (try with_reducible rfl))
    simp only [Act.put, List.setIfInBounds_toArray, List.set_cons_zero, List.set_cons_succ]
    refine wpAnyH_take (i := 13) (oi := { dst := some 29, op := Op.fieldAddr 50 (Operand.tmp 28) 1, type := 0, pos := _, after := #[{ on := 12, ground := Ground.data }, { on := 0, ground := Ground.phase }, { on := 1, ground := Ground.phase }, { on := 2, ground := Ground.phase }, { on := 3, ground := Ground.phase }, { on := 4, ground := Ground.phase }, { on := 5, ground := Ground.phase }, { on := 6, ground := Ground.phase }, { on := 7, ground := Ground.phase }, { on := 8, ground := Ground.phase }, { on := 9, ground := Ground.phase }, { on := 10, ground := Ground.phase }, { on := 11, ground := Ground.phase }], guard := none }) (v := ?tbp26) rfl (by kernel_rfl) (by kernel_rfl) (by kernel_rfl) (fun _ _ _ h => h) (Or.inl ⟨by rfl, ?ubp26⟩) (by assumption) ?rbp26
    case ubp26 => (intro w hSw; (try dsimp only at hSw); go_simp; (try with_reducible rfl))
    simp only [Act.put, List.setIfInBounds_toArray, List.set_cons_zero, List.set_cons_succ]
    refine wpAnyH_ready (rs := [14]) (by kernel_rfl) (by simp) ?_
    refine AllReadyH.cons (o := { dst := none, op := Op.store 48 (Operand.tmp 29) (Operand.tmp 27), type := 0, pos := _, after := #[{ on := 13, ground := Ground.data }, { on := 11, ground := Ground.data }, { on := 6, ground := Ground.chain }, { on := 0, ground := Ground.phase }, { on := 1, ground := Ground.phase }, { on := 2, ground := Ground.phase }, { on := 3, ground := Ground.phase }, { on := 4, ground := Ground.phase }, { on := 5, ground := Ground.phase }, { on := 6, ground := Ground.phase }, { on := 7, ground := Ground.phase }, { on := 8, ground := Ground.phase }, { on := 9, ground := Ground.phase }, { on := 10, ground := Ground.phase }, { on := 11, ground := Ground.phase }], guard := none }) rfl (fun K hK => ?_) AllReadyH.nil
    go_simp
    refine hK.out _ _ ⟨by go_simp; (try assumption), by go_simp; (try assumption)⟩ (fun hH6 => ?_)
    clear hK K
    (try simp only [Act.put, List.setIfInBounds_toArray, List.set_cons_zero, List.set_cons_succ])
    refine wpAnyH_done (by kernel_rfl) ?_ _
    have L2 := M1.set ⟨X1, x1 + 1, none⟩ (.pointer pb)
    have n2_0 := (cell_o v1 ⟨X1, x1 + 1, none⟩ ⟨N, 0, none⟩ (.pointer pb) (fun e => hX1 (congrArg Addr.block e).symm)).trans n1_0
    have n2_1 := (cell_o v1 ⟨X1, x1 + 1, none⟩ ⟨N, 1, none⟩ (.pointer pb) (fun e => hX1 (congrArg Addr.block e).symm)).trans n1_1
    have e2 := (cell_o v1 ⟨X1, x1 + 1, none⟩ ⟨X2, x2, none⟩ (.pointer pb) (fun e => hx ⟨(congrArg Addr.block e).symm, (congrArg Addr.off e).symm⟩)).trans d2
    have g2 := fun o => (frozen_s v1 ⟨X1, x1 + 1, none⟩ ⟨X2, o, none⟩ (.pointer pb)).trans (f2 o)
    clear n1_0 n1_1 e1 g1 d2 f2 M1 hHeld1
    generalize v1.setCell ⟨X1, x1 + 1, none⟩ (.pointer pb) = w2 at *
    go_wp2_with fail
    change w2.drew.cell? _ = _ at n2_0
    change w2.drew.cell? _ = _ at n2_1
    change w2.drew.cell? _ = _ at e2
    change ∀ o, w2.drew.frozen? ⟨X2, o, none⟩ = _ at g2
    have M2 := L2.trans (Like.drewN _ 1)
    change Like _ w2.drew at M2
    clear L2
    refine wp_region_held_drew (S := (fun wx => wx.cell? ⟨N, 0, none⟩ = some (.pointer pa) ∧ wx.cell? ⟨N, 1, none⟩ = some (.pointer pb))) (by kernel_rfl) ⟨n2_0, n2_1⟩ (fun hHeld2 => ?_)
    generalize w2.drew = v2 at *
    refine wpAnyH_take (i := 0) (oi := { dst := some 30, op := Op.move (Operand.tmp 0), type := 67, pos := _, after := #[], guard := none }) (v := ?tbq14) rfl (by kernel_rfl) (by kernel_rfl) (by kernel_rfl) (fun _ _ _ h => h) (Or.inl ⟨by rfl, ?ubq14⟩) (by assumption) ?rbq14
    case ubq14 => (intro w hSw; (try dsimp only at hSw); go_simp; (try with_reducible rfl))
    simp only [Act.put, List.setIfInBounds_toArray, List.set_cons_zero, List.set_cons_succ]
    refine wpAnyH_take (i := 1) (oi := { dst := some 31, op := Op.move (Operand.tmp 1), type := 48, pos := _, after := #[], guard := none }) (v := ?tbq15) rfl (by kernel_rfl) (by kernel_rfl) (by kernel_rfl) (fun _ _ _ h => h) (Or.inl ⟨by rfl, ?ubq15⟩) (by assumption) ?rbq15
    case ubq15 => (intro w hSw; (try dsimp only at hSw); go_simp; (try with_reducible rfl))
    simp only [Act.put, List.setIfInBounds_toArray, List.set_cons_zero, List.set_cons_succ]
    refine wpAnyH_take (i := 2) (oi := { dst := some 32, op := Op.nilCheck (Operand.tmp 31), type := 0, pos := _, after := #[{ on := 1, ground := Ground.data }], guard := none }) (v := ?tbq16) rfl (by kernel_rfl) (by kernel_rfl) (by kernel_rfl) (fun _ _ _ h => h) (Or.inl ⟨by rfl, ?ubq16⟩) (by assumption) ?rbq16
    case ubq16 => (intro w hSw; (try dsimp only at hSw); go_simp; (try with_reducible rfl))
    simp only [Act.put, List.setIfInBounds_toArray, List.set_cons_zero, List.set_cons_succ]
    refine wpAnyH_take (i := 3) (oi := { dst := some 33, op := Op.fieldAddr 71 (Operand.tmp 32) 0, type := 0, pos := _, after := #[{ on := 2, ground := Ground.data }], guard := none }) (v := ?tbq17) rfl (by kernel_rfl) (by kernel_rfl) (by kernel_rfl) (fun _ _ _ h => h) (Or.inl ⟨by rfl, ?ubq17⟩) (by assumption) ?rbq17
    case ubq17 => (intro w hSw; (try dsimp only at hSw); go_simp; (try with_reducible rfl))
    simp only [Act.put, List.setIfInBounds_toArray, List.set_cons_zero, List.set_cons_succ]
    refine wpAnyH_take (i := 4) (oi := { dst := some 34, op := Op.fieldAddr 50 (Operand.tmp 33) 1, type := 0, pos := _, after := #[{ on := 3, ground := Ground.data }], guard := none }) (v := ?tbq18) rfl (by kernel_rfl) (by kernel_rfl) (by kernel_rfl) (fun _ _ _ h => h) (Or.inl ⟨by rfl, ?ubq18⟩) (by assumption) ?rbq18
    case ubq18 => (intro w hSw; (try dsimp only at hSw); go_simp; (try with_reducible rfl))
    simp only [Act.put, List.setIfInBounds_toArray, List.set_cons_zero, List.set_cons_succ]
    refine wpAnyH_take (i := 5) (oi := { dst := some 35, op := Op.load 48 (Operand.tmp 34), type := 48, pos := _, after := #[{ on := 4, ground := Ground.data }], guard := none }) (v := ?tbq19) rfl (by kernel_rfl) (by kernel_rfl) (by kernel_rfl) (fun _ _ _ h => h) (Or.inl ⟨by rfl, ?ubq19⟩) (by assumption) ?rbq19
    case ubq19 => (intro w hSw; (try dsimp only at hSw); go_simp; (try with_reducible rfl))
    simp only [Act.put, List.setIfInBounds_toArray, List.set_cons_zero, List.set_cons_succ]
    refine wpAnyH_take (i := 7) (oi := { dst := some 37, op := Op.move (Operand.tmp 1), type := 48, pos := _, after := #[], guard := none }) (v := ?tbq20) rfl (by kernel_rfl) (by kernel_rfl) (by kernel_rfl) (fun _ _ _ h => h) (Or.inl ⟨by rfl, ?ubq20⟩) (by assumption) ?rbq20
    case ubq20 => (intro w hSw; (try dsimp only at hSw); go_simp; (try with_reducible rfl))
    simp only [Act.put, List.setIfInBounds_toArray, List.set_cons_zero, List.set_cons_succ]
    refine wpAnyH_take (i := 8) (oi := { dst := some 38, op := Op.nilCheck (Operand.tmp 37), type := 0, pos := _, after := #[{ on := 7, ground := Ground.data }], guard := none }) (v := ?tbq21) rfl (by kernel_rfl) (by kernel_rfl) (by kernel_rfl) (fun _ _ _ h => h) (Or.inl ⟨by rfl, ?ubq21⟩) (by assumption) ?rbq21
    case ubq21 => (intro w hSw; (try dsimp only at hSw); go_simp; (try with_reducible rfl))
    simp only [Act.put, List.setIfInBounds_toArray, List.set_cons_zero, List.set_cons_succ]
    refine wpAnyH_take (i := 9) (oi := { dst := some 39, op := Op.fieldAddr 71 (Operand.tmp 38) 0, type := 0, pos := _, after := #[{ on := 8, ground := Ground.data }], guard := none }) (v := ?tbq22) rfl (by kernel_rfl) (by kernel_rfl) (by kernel_rfl) (fun _ _ _ h => h) (Or.inl ⟨by rfl, ?ubq22⟩) (by assumption) ?rbq22
    case ubq22 => (intro w hSw; (try dsimp only at hSw); go_simp; (try with_reducible rfl))
    simp only [Act.put, List.setIfInBounds_toArray, List.set_cons_zero, List.set_cons_succ]
    refine wpAnyH_take (i := 10) (oi := { dst := some 40, op := Op.fieldAddr 50 (Operand.tmp 39) 0, type := 0, pos := _, after := #[{ on := 9, ground := Ground.data }], guard := none }) (v := ?tbq23) rfl (by kernel_rfl) (by kernel_rfl) (by kernel_rfl) (fun _ _ _ h => h) (Or.inl ⟨by rfl, ?ubq23⟩) (by assumption) ?rbq23
    case ubq23 => (intro w hSw; (try dsimp only at hSw); go_simp; (try with_reducible rfl))
    simp only [Act.put, List.setIfInBounds_toArray, List.set_cons_zero, List.set_cons_succ]
    refine wpAnyH_take (i := 11) (oi := { dst := some 41, op := Op.load 48 (Operand.tmp 40), type := 48, pos := _, after := #[{ on := 10, ground := Ground.data }], guard := none }) (v := ?tbq24) rfl (by kernel_rfl) (by kernel_rfl) (by kernel_rfl) (fun _ _ _ h => h) (Or.inl ⟨by rfl, ?ubq24⟩) (by assumption) ?rbq24
    case ubq24 => (intro w hSw; (try dsimp only at hSw); go_simp; (try with_reducible rfl))
    simp only [Act.put, List.setIfInBounds_toArray, List.set_cons_zero, List.set_cons_succ]
    refine wpAnyH_ready (rs := [6]) (by kernel_rfl) (by simp) ?_
    refine AllReadyH.cons (o := { dst := some 36, op := Op.call { callee := Callee.value (Operand.func 48), args := #[Operand.tmp 30, Operand.tmp 35], argTypes := #[67, 48] }, type := 85, pos := _, after := #[{ on := 0, ground := Ground.data }, { on := 5, ground := Ground.data }], guard := none }) rfl (fun K hK => ?_) AllReadyH.nil
    go_simp
    refine (G2.out _).mono ?_
    rintro e w9 ⟨rfl, hw9⟩
    rw [hw9]
    clear hw9 w9
    go_wp2_with fail
    refine hK.out _ _ ⟨n2_0, n2_1⟩ (fun hH7 => ?_)
    clear hK K
    (try simp only [Act.put, List.setIfInBounds_toArray, List.set_cons_zero, List.set_cons_succ])
    refine wpAnyH_take (i := 12) (oi := { dst := some 42, op := Op.nilCheck (Operand.tmp 36), type := 0, pos := _, after := #[{ on := 6, ground := Ground.data }, { on := 0, ground := Ground.phase }, { on := 1, ground := Ground.phase }, { on := 2, ground := Ground.phase }, { on := 3, ground := Ground.phase }, { on := 4, ground := Ground.phase }, { on := 5, ground := Ground.phase }, { on := 6, ground := Ground.phase }, { on := 7, ground := Ground.phase }, { on := 8, ground := Ground.phase }, { on := 9, ground := Ground.phase }, { on := 10, ground := Ground.phase }, { on := 11, ground := Ground.phase }], guard := none }) (v := ?tbq25) rfl (by kernel_rfl) (by kernel_rfl) (by kernel_rfl) (fun _ _ _ h => h) (Or.inl ⟨by rfl, ?ubq25⟩) (by assumption) ?rbq25
    case ubq25 => (intro w hSw; (try dsimp only at hSw); go_simp; (try with_reducible rfl))
    simp only [Act.put, List.setIfInBounds_toArray, List.set_cons_zero, List.set_cons_succ]
    refine wpAnyH_take (i := 13) (oi := { dst := some 43, op := Op.fieldAddr 50 (Operand.tmp 42) 0, type := 0, pos := _, after := #[{ on := 12, ground := Ground.data }, { on := 0, ground := Ground.phase }, { on := 1, ground := Ground.phase }, { on := 2, ground := Ground.phase }, { on := 3, ground := Ground.phase }, { on := 4, ground := Ground.phase }, { on := 5, ground := Ground.phase }, { on := 6, ground := Ground.phase }, { on := 7, ground := Ground.phase }, { on := 8, ground := Ground.phase }, { on := 9, ground := Ground.phase }, { on := 10, ground := Ground.phase }, { on := 11, ground := Ground.phase }], guard := none }) (v := ?tbq26) rfl (by kernel_rfl) (by kernel_rfl) (by kernel_rfl) (fun _ _ _ h => h) (Or.inl ⟨by rfl, ?ubq26⟩) (by assumption) ?rbq26
    case ubq26 => (intro w hSw; (try dsimp only at hSw); go_simp; (try with_reducible rfl))
    simp only [Act.put, List.setIfInBounds_toArray, List.set_cons_zero, List.set_cons_succ]
    refine wpAnyH_ready (rs := [14]) (by kernel_rfl) (by simp) ?_
    refine AllReadyH.cons (o := { dst := none, op := Op.store 48 (Operand.tmp 43) (Operand.tmp 41), type := 0, pos := _, after := #[{ on := 13, ground := Ground.data }, { on := 11, ground := Ground.data }, { on := 6, ground := Ground.chain }, { on := 0, ground := Ground.phase }, { on := 1, ground := Ground.phase }, { on := 2, ground := Ground.phase }, { on := 3, ground := Ground.phase }, { on := 4, ground := Ground.phase }, { on := 5, ground := Ground.phase }, { on := 6, ground := Ground.phase }, { on := 7, ground := Ground.phase }, { on := 8, ground := Ground.phase }, { on := 9, ground := Ground.phase }, { on := 10, ground := Ground.phase }, { on := 11, ground := Ground.phase }], guard := none }) rfl (fun K hK => ?_) AllReadyH.nil
    go_simp
    refine hK.out _ _ ⟨by go_simp; (try assumption), by go_simp; (try assumption)⟩ (fun hH8 => ?_)
    clear hK K
    (try simp only [Act.put, List.setIfInBounds_toArray, List.set_cons_zero, List.set_cons_succ])
    refine wpAnyH_done (by kernel_rfl) ?_ _
    go_wp2_with fail
    go_end0
    exact ⟨rfl, M2.set _ _⟩
end Go.Proofs.YtignphkfknjllaaDoor
