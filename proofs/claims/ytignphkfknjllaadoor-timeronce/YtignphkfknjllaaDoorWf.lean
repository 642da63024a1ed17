/- A slot's small calls; the conditions: its cells in memory. -/
import Derived.Test.YtignphkfknjllaaDoorWe
namespace Go.Proofs.YtignphkfknjllaaDoor
open Go.RowKit

theorem drew1 (w : World) (n : Nat) (a : Addr) (v : Value) : (w.drewN n).setCell a v = (w.setCell a v).drewN n := rfl
theorem drew6 (w : World) (n : Nat) (a1 a2 a3 a4 a5 a6 : Addr) (v1 v2 v3 v4 v5 v6 : Value) : ((((((w.drewN n).setCell a1 v1).setCell a2 v2).setCell a3 v3).setCell a4 v4).setCell a5 v5).setCell a6 v6 = ((((((w.setCell a1 v1).setCell a2 v2).setCell a3 v3).setCell a4 v4).setCell a5 v5).setCell a6 v6).drewN n := by simp only [drew1]
theorem eq_ptr (w : World) (o : Option Nat) : (binOp .eql 48 (pt o) (.pointer none)).run Tryd.prog w = .ok (.bool o.isNone) w := by
  cases o <;> kernel_rfl
set_option maxRecDepth 100000 in
theorem links_nil (a : Addr) (w : World) (ha : a.spot = none) : Calls Tryd.prog 48 #[.pointer (some a), .pointer none] w fun e w' => e = .returned (.pointer (some a)) ∧ w' = w := by
  obtain ⟨B, o, s⟩ := a
  simp at ha
  subst ha
  go_enter Tryd.func48, Tryd.ntmps48
  go_wp2
  go_ret
  exact ⟨rfl, rfl⟩
set_option maxRecDepth 100000 in
theorem links_tm (a : Addr) (N : Nat) (w : World) : Calls Tryd.prog 48 #[.pointer (some a), .pointer (some ⟨N, 0, none⟩)] w fun e w' => e = .returned (.pointer (some ⟨N, 0, none⟩)) ∧ w' = w := by
  go_enter Tryd.func48, Tryd.ntmps48
  go_wp2
  go_ret
  exact ⟨rfl, rfl⟩
set_option maxRecDepth 100000 in
theorem empty_yes (B o : Nat) (w : World) (c : w.cell? ⟨B, o + 1, none⟩ = some (.pointer none)) : Calls Tryd.prog 42 #[.pointer (some ⟨B, o, none⟩)] w fun e w' => e = .returned (.bool true) ∧ w' = w := by
  go_enter Tryd.func42, Tryd.ntmps42
  go_wp2
  go_ret
  exact ⟨rfl, rfl⟩
set_option maxRecDepth 100000 in
theorem empty_no (B o N : Nat) (w : World) (c : w.cell? ⟨B, o + 1, none⟩ = some (.pointer (some ⟨N, 0, none⟩))) : Calls Tryd.prog 42 #[.pointer (some ⟨B, o, none⟩)] w fun e w' => e = .returned (.bool false) ∧ w' = w := by
  go_enter Tryd.func42, Tryd.ntmps42
  go_wp2
  go_ret
  exact ⟨rfl, rfl⟩

set_option maxRecDepth 100000 in
set_option maxHeartbeats 1000000 in
/-- A timer put into a slot that is empty. -/
theorem put_none (B o N : Nat) (x0 x1 : Value) (m : Bool) (w : World) (hB : B ≠ N) (c0 : w.cell? ⟨B, o, none⟩ = some (.pointer none)) (c1 : w.cell? ⟨B, o + 1, none⟩ = some (.pointer none)) (c2 : w.cell? ⟨B, o + 2, none⟩ = some (.bool m))
    (t0 : w.cell? ⟨N, 0, none⟩ = some x0) (t1 : w.cell? ⟨N, 1, none⟩ = some x1) (fB : ∀ o, w.frozen? ⟨B, o, none⟩ = false) (fN : ∀ o, w.frozen? ⟨N, o, none⟩ = false) :
    Calls Tryd.prog 43 #[.pointer (some ⟨B, o, none⟩), .pointer (some ⟨N, 0, none⟩)] w fun e w' => e = .returned (.tuple #[]) ∧ w' = (((((w.setCell ⟨B, o + 2, none⟩ (.bool false)).setCell ⟨N, 0, none⟩ (.pointer none)).setCell ⟨N, 1, none⟩ (.pointer none)).setCell ⟨B, o + 1, none⟩ (.pointer (some ⟨N, 0, none⟩))).setCell ⟨B, o, none⟩ (.pointer (some ⟨N, 0, none⟩))) := by
  have hN : N ≠ B := hB.symm
  go_enter Tryd.func43, Tryd.ntmps43
  go_wp2_with (first
    | (go_at_call 42; refine (empty_yes B o _ (by assumption)).mono ?_; rintro e w1 ⟨rfl, rfl⟩)
    | (go_at_call 48; refine (links_nil _ _ rfl).mono ?_; rintro e w1 ⟨rfl, rfl⟩))
  go_end0
  exact ⟨rfl, rfl⟩

set_option maxRecDepth 100000 in
set_option maxHeartbeats 1000000 in
/-- Into one that is mixed. -/
theorem put_mixed (B o N a U F : Nat) (ls : Int) (x0 x1 u1 : Value) (w : World) (hB : B ≠ N) (hU : U ≠ N) (hUB : U ≠ B) (c0 : w.cell? ⟨B, o, none⟩ = some (.pointer (some ⟨U, 0, none⟩))) (c1 : w.cell? ⟨B, o + 1, none⟩ = some (.pointer (some ⟨F, 0, none⟩))) (c2 : w.cell? ⟨B, o + 2, none⟩ = some (.bool true)) (c3 : w.cell? ⟨B, o + 3, none⟩ = some (.int .i64 ls))
    (t0 : w.cell? ⟨N, 0, none⟩ = some x0) (t1 : w.cell? ⟨N, 1, none⟩ = some x1) (t2 : w.cell? ⟨N, 2, none⟩ = some (.int .i64 a)) (u1 : w.cell? ⟨U, 1, none⟩ = some u1) (fB : ∀ o, w.frozen? ⟨B, o, none⟩ = false) (fN : ∀ o, w.frozen? ⟨N, o, none⟩ = false) (fU : ∀ o, w.frozen? ⟨U, o, none⟩ = false) :
    Calls Tryd.prog 43 #[.pointer (some ⟨B, o, none⟩), .pointer (some ⟨N, 0, none⟩)] w fun e w' => e = .returned (.tuple #[]) ∧ ∃ n, w' = (((((w.setCell ⟨B, o + 3, none⟩ (.int .i64 (min ls a))).setCell ⟨N, 0, none⟩ (.pointer (some ⟨U, 0, none⟩))).setCell ⟨N, 1, none⟩ (.pointer none)).setCell ⟨U, 1, none⟩ (.pointer (some ⟨N, 0, none⟩))).setCell ⟨B, o, none⟩ (.pointer (some ⟨N, 0, none⟩))).drewN n := by
  have hN : N ≠ B := hB.symm
  have hN2 : N ≠ U := hU.symm
  have hB2 : B ≠ U := hUB.symm
  go_enter Tryd.func43, Tryd.ntmps43
  go_wp2_with (first
    | (go_at_call 42; refine (empty_no B o F _ (by assumption)).mono ?_; rintro e w1 ⟨rfl, rfl⟩)
    | (go_at_call 48; refine (links_tm _ _ _).mono ?_; rintro e w1 ⟨rfl, rfl⟩))
  go_region_with (fail)
  all_goals
    go_wp2_with (go_at_call 48; refine (links_tm _ _ _).mono ?_; rintro e w1 ⟨rfl, rfl⟩)
    go_end0
    exact ⟨rfl, 1, rfl⟩

set_option maxRecDepth 100000 in
set_option maxHeartbeats 1000000 in
/-- Into one that is not, behind a later one. -/
theorem put_mixes (B o N a U F ua fa : Nat) (ls : Int) (x0 x1 u1 : Value) (w : World) (hlt : a < ua) (hFB : F ≠ B) (hB : B ≠ N) (hU : U ≠ N) (hUB : U ≠ B) (c0 : w.cell? ⟨B, o, none⟩ = some (.pointer (some ⟨U, 0, none⟩))) (c1 : w.cell? ⟨B, o + 1, none⟩ = some (.pointer (some ⟨F, 0, none⟩))) (c2 : w.cell? ⟨B, o + 2, none⟩ = some (.bool false)) (c3 : w.cell? ⟨B, o + 3, none⟩ = some (.int .i64 ls))
    (t0 : w.cell? ⟨N, 0, none⟩ = some x0) (t1 : w.cell? ⟨N, 1, none⟩ = some x1) (t2 : w.cell? ⟨N, 2, none⟩ = some (.int .i64 a)) (u1 : w.cell? ⟨U, 1, none⟩ = some u1) (u2 : w.cell? ⟨U, 2, none⟩ = some (.int .i64 ua)) (f2 : w.cell? ⟨F, 2, none⟩ = some (.int .i64 fa)) (fB : ∀ o, w.frozen? ⟨B, o, none⟩ = false) (fN : ∀ o, w.frozen? ⟨N, o, none⟩ = false) (fU : ∀ o, w.frozen? ⟨U, o, none⟩ = false) :
    Calls Tryd.prog 43 #[.pointer (some ⟨B, o, none⟩), .pointer (some ⟨N, 0, none⟩)] w fun e w' => e = .returned (.tuple #[]) ∧ ∃ n, w' = ((((((w.setCell ⟨B, o + 2, none⟩ (.bool true)).setCell ⟨B, o + 3, none⟩ (.int .i64 (min (fa : Int) a))).setCell ⟨N, 0, none⟩ (.pointer (some ⟨U, 0, none⟩))).setCell ⟨N, 1, none⟩ (.pointer none)).setCell ⟨U, 1, none⟩ (.pointer (some ⟨N, 0, none⟩))).setCell ⟨B, o, none⟩ (.pointer (some ⟨N, 0, none⟩))).drewN n := by
  have hN : N ≠ B := hB.symm
  have hN2 : N ≠ U := hU.symm
  have hB2 : B ≠ U := hUB.symm
  have hlt' : (a : Int) < (ua : Int) := by omega
  go_enter Tryd.func43, Tryd.ntmps43
  go_wp2_with (first
    | (go_at_call 42; refine (empty_no B o F _ (by assumption)).mono ?_; rintro e w1 ⟨rfl, rfl⟩)
    | (go_at_call 48; refine (links_tm _ _ _).mono ?_; rintro e w1 ⟨rfl, rfl⟩))
  go_quiet (fail)
  go_wp2_with fail
  refine wp_region_held_drew (S := (fun wx => wx.cell? ⟨B, o + 1, none⟩ = some (.pointer (some ⟨F, 0, none⟩)) ∧ wx.cell? ⟨F, 2, none⟩ = some (.int .i64 fa) ∧ wx.cell? ⟨N, 2, none⟩ = some (.int .i64 a))) (by kernel_rfl) ⟨c1, f2, t2⟩ (fun hHeld => ?_)
  refine wpAnyH_take (i := 0) (oi := { dst := some 41, op := Op.move (Operand.tmp 0), type := 67, pos := _, after := #[], guard := none }) (v := ?tm1) rfl (by kernel_rfl) (by kernel_rfl) (by kernel_rfl) (fun _ _ _ h => h) (Or.inl ⟨by rfl, ?um1⟩) (by assumption) ?rm1
  case um1 => (intro w hSw; (try dsimp only at hSw); go_simp; (try with_reducible rfl))
  simp only [Act.put, List.setIfInBounds_toArray, List.set_cons_zero, List.set_cons_succ]
  refine wpAnyH_take (i := 1) (oi := { dst := some 42, op := Op.move (Operand.tmp 0), type := 67, pos := _, after := #[{ on := 17, ground := Ground.gcOnly Departure.lateStores }], guard := none }) (v := ?tm2) rfl (by kernel_rfl) (by kernel_rfl) (by kernel_rfl) (fun _ _ _ h => h) (Or.inl ⟨by rfl, ?um2⟩) (by assumption) ?rm2
  case um2 => (intro w hSw; (try dsimp only at hSw); go_simp; (try with_reducible rfl))
  simp only [Act.put, List.setIfInBounds_toArray, List.set_cons_zero, List.set_cons_succ]
  refine wpAnyH_take (i := 2) (oi := { dst := some 43, op := Op.move (Operand.tmp 0), type := 67, pos := _, after := #[], guard := none }) (v := ?tm3) rfl (by kernel_rfl) (by kernel_rfl) (by kernel_rfl) (fun _ _ _ h => h) (Or.inl ⟨by rfl, ?um3⟩) (by assumption) ?rm3
  case um3 => (intro w hSw; (try dsimp only at hSw); go_simp; (try with_reducible rfl))
  simp only [Act.put, List.setIfInBounds_toArray, List.set_cons_zero, List.set_cons_succ]
  refine wpAnyH_take (i := 3) (oi := { dst := some 44, op := Op.nilCheck (Operand.tmp 43), type := 0, pos := _, after := #[{ on := 2, ground := Ground.data }], guard := none }) (v := ?tm4) rfl (by kernel_rfl) (by kernel_rfl) (by kernel_rfl) (fun _ _ _ h => h) (Or.inl ⟨by rfl, ?um4⟩) (by assumption) ?rm4
  case um4 => (intro w hSw; (try dsimp only at hSw); go_simp; (try with_reducible rfl))
  simp only [Act.put, List.setIfInBounds_toArray, List.set_cons_zero, List.set_cons_succ]
  refine wpAnyH_take (i := 4) (oi := { dst := some 45, op := Op.fieldAddr 52 (Operand.tmp 44) 0, type := 0, pos := _, after := #[{ on := 3, ground := Ground.data }], guard := none }) (v := ?tm5) rfl (by kernel_rfl) (by kernel_rfl) (by kernel_rfl) (fun _ _ _ h => h) (Or.inl ⟨by rfl, ?um5⟩) (by assumption) ?rm5
  case um5 => (intro w hSw; (try dsimp only at hSw); go_simp; (try with_reducible rfl))
  simp only [Act.put, List.setIfInBounds_toArray, List.set_cons_zero, List.set_cons_succ]
  refine wpAnyH_take (i := 5) (oi := { dst := some 46, op := Op.fieldAddr 50 (Operand.tmp 45) 1, type := 0, pos := _, after := #[{ on := 4, ground := Ground.data }], guard := none }) (v := ?tm6) rfl (by kernel_rfl) (by kernel_rfl) (by kernel_rfl) (fun _ _ _ h => h) (Or.inl ⟨by rfl, ?um6⟩) (by assumption) ?rm6
  case um6 => (intro w hSw; (try dsimp only at hSw); go_simp; (try with_reducible rfl))
  simp only [Act.put, List.setIfInBounds_toArray, List.set_cons_zero, List.set_cons_succ]
  refine wpAnyH_take (i := 6) (oi := { dst := some 47, op := Op.load 48 (Operand.tmp 46), type := 48, pos := _, after := #[{ on := 5, ground := Ground.data }], guard := none }) (v := ?tm7) rfl (by kernel_rfl) (by kernel_rfl) (by kernel_rfl) (fun _ _ _ h => h) (Or.inl ⟨by rfl, ?um7⟩) (by assumption) ?rm7
  case um7 => (intro w hSw; (try dsimp only at hSw); go_simp; (try with_reducible rfl))
  simp only [Act.put, List.setIfInBounds_toArray, List.set_cons_zero, List.set_cons_succ]
  refine wpAnyH_take (i := 7) (oi := { dst := some 48, op := Op.nilCheck (Operand.tmp 47), type := 0, pos := _, after := #[{ on := 6, ground := Ground.data }], guard := none }) (v := ?tm8) rfl (by kernel_rfl) (by kernel_rfl) (by kernel_rfl) (fun _ _ _ h => h) (Or.inl ⟨by rfl, ?um8⟩) (by assumption) ?rm8
  case um8 => (intro w hSw; (try dsimp only at hSw); go_simp; (try with_reducible rfl))
  simp only [Act.put, List.setIfInBounds_toArray, List.set_cons_zero, List.set_cons_succ]
  refine wpAnyH_take (i := 8) (oi := { dst := some 49, op := Op.fieldAddr 71 (Operand.tmp 48) 1, type := 0, pos := _, after := #[{ on := 7, ground := Ground.data }], guard := none }) (v := ?tm9) rfl (by kernel_rfl) (by kernel_rfl) (by kernel_rfl) (fun _ _ _ h => h) (Or.inl ⟨by rfl, ?um9⟩) (by assumption) ?rm9
  case um9 => (intro w hSw; (try dsimp only at hSw); go_simp; (try with_reducible rfl))
  simp only [Act.put, List.setIfInBounds_toArray, List.set_cons_zero, List.set_cons_succ]
  refine wpAnyH_take (i := 9) (oi := { dst := some 50, op := Op.load 2 (Operand.tmp 49), type := 2, pos := _, after := #[{ on := 8, ground := Ground.data }], guard := none }) (v := ?tm10) rfl (by kernel_rfl) (by kernel_rfl) (by kernel_rfl) (fun _ _ _ h => h) (Or.inl ⟨by rfl, ?um10⟩) (by assumption) ?rm10
  case um10 => (intro w hSw; (try dsimp only at hSw); go_simp; (try with_reducible rfl))
  simp only [Act.put, List.setIfInBounds_toArray, List.set_cons_zero, List.set_cons_succ]
  refine wpAnyH_take (i := 10) (oi := { dst := some 51, op := Op.move (Operand.tmp 1), type := 48, pos := _, after := #[], guard := none }) (v := ?tm11) rfl (by kernel_rfl) (by kernel_rfl) (by kernel_rfl) (fun _ _ _ h => h) (Or.inl ⟨by rfl, ?um11⟩) (by assumption) ?rm11
  case um11 => (intro w hSw; (try dsimp only at hSw); go_simp; (try with_reducible rfl))
  simp only [Act.put, List.setIfInBounds_toArray, List.set_cons_zero, List.set_cons_succ]
  refine wpAnyH_take (i := 11) (oi := { dst := some 52, op := Op.nilCheck (Operand.tmp 51), type := 0, pos := _, after := #[{ on := 10, ground := Ground.data }], guard := none }) (v := ?tm12) rfl (by kernel_rfl) (by kernel_rfl) (by kernel_rfl) (fun _ _ _ h => h) (Or.inl ⟨by rfl, ?um12⟩) (by assumption) ?rm12
  case um12 => (intro w hSw; (try dsimp only at hSw); go_simp; (try with_reducible rfl))
  simp only [Act.put, List.setIfInBounds_toArray, List.set_cons_zero, List.set_cons_succ]
  refine wpAnyH_take (i := 12) (oi := { dst := some 53, op := Op.fieldAddr 71 (Operand.tmp 52) 1, type := 0, pos := _, after := #[{ on := 11, ground := Ground.data }], guard := none }) (v := ?tm13) rfl (by kernel_rfl) (by kernel_rfl) (by kernel_rfl) (fun _ _ _ h => h) (Or.inl ⟨by rfl, ?um13⟩) (by assumption) ?rm13
  case um13 => (intro w hSw; (try dsimp only at hSw); go_simp; (try with_reducible rfl))
  simp only [Act.put, List.setIfInBounds_toArray, List.set_cons_zero, List.set_cons_succ]
  refine wpAnyH_take (i := 13) (oi := { dst := some 54, op := Op.load 2 (Operand.tmp 53), type := 2, pos := _, after := #[{ on := 12, ground := Ground.data }], guard := none }) (v := ?tm14) rfl (by kernel_rfl) (by kernel_rfl) (by kernel_rfl) (fun _ _ _ h => h) (Or.inl ⟨by rfl, ?um14⟩) (by assumption) ?rm14
  case um14 => (intro w hSw; (try dsimp only at hSw); go_simp; (try with_reducible rfl))
  simp only [Act.put, List.setIfInBounds_toArray, List.set_cons_zero, List.set_cons_succ]
  refine wpAnyH_take (i := 14) (oi := { dst := some 55, op := Op.call { callee := Callee.builtin Builtin.min, args := #[Operand.tmp 50, Operand.tmp 54], argTypes := #[2, 2] }, type := 2, pos := _, after := #[{ on := 9, ground := Ground.data }, { on := 13, ground := Ground.data }], guard := none }) (v := ?tm15) rfl (by kernel_rfl) (by kernel_rfl) (by kernel_rfl) (fun _ _ _ h => h) (Or.inl ⟨by rfl, ?um15⟩) (by assumption) ?rm15
  case um15 => (intro w hSw; (try dsimp only at hSw); go_simp; (try with_reducible rfl))
  simp only [Act.put, List.setIfInBounds_toArray, List.set_cons_zero, List.set_cons_succ]
  refine wpAnyH_take (i := 15) (oi := { dst := some 56, op := Op.nilCheck (Operand.tmp 41), type := 0, pos := _, after := #[{ on := 0, ground := Ground.data }, { on := 0, ground := Ground.phase }, { on := 1, ground := Ground.textOnly Departure.lateStores }, { on := 2, ground := Ground.textOnly Departure.lateStores }, { on := 3, ground := Ground.textOnly Departure.lateStoresUnsure }, { on := 4, ground := Ground.textOnly Departure.lateStoresUnsure }, { on := 5, ground := Ground.textOnly Departure.lateStoresUnsure }, { on := 6, ground := Ground.phase }, { on := 7, ground := Ground.textOnly Departure.lateStoresUnsure }, { on := 8, ground := Ground.textOnly Departure.lateStoresUnsure }, { on := 9, ground := Ground.phase }, { on := 10, ground := Ground.textOnly Departure.lateStores }, { on := 11, ground := Ground.textOnly Departure.lateStoresUnsure }, { on := 12, ground := Ground.textOnly Departure.lateStoresUnsure }, { on := 13, ground := Ground.phase }, { on := 14, ground := Ground.textOnly Departure.lateStoresUnsure }], guard := none }) (v := ?tm16) rfl (by kernel_rfl) (by kernel_rfl) (by kernel_rfl) (fun _ _ _ h => h) (Or.inl ⟨by rfl, ?um16⟩) (by assumption) ?rm16
  case um16 => (intro w hSw; (try dsimp only at hSw); go_simp; (try with_reducible rfl))
  simp only [Act.put, List.setIfInBounds_toArray, List.set_cons_zero, List.set_cons_succ]
  refine wpAnyH_take (i := 16) (oi := { dst := some 57, op := Op.fieldAddr 52 (Operand.tmp 56) 1, type := 0, pos := _, after := #[{ on := 15, ground := Ground.data }, { on := 0, ground := Ground.phase }, { on := 1, ground := Ground.textOnly Departure.lateStores }, { on := 2, ground := Ground.textOnly Departure.lateStores }, { on := 3, ground := Ground.textOnly Departure.lateStoresUnsure }, { on := 4, ground := Ground.textOnly Departure.lateStoresUnsure }, { on := 5, ground := Ground.textOnly Departure.lateStoresUnsure }, { on := 6, ground := Ground.phase }, { on := 7, ground := Ground.textOnly Departure.lateStoresUnsure }, { on := 8, ground := Ground.textOnly Departure.lateStoresUnsure }, { on := 9, ground := Ground.phase }, { on := 10, ground := Ground.textOnly Departure.lateStores }, { on := 11, ground := Ground.textOnly Departure.lateStoresUnsure }, { on := 12, ground := Ground.textOnly Departure.lateStoresUnsure }, { on := 13, ground := Ground.phase }, { on := 14, ground := Ground.textOnly Departure.lateStoresUnsure }], guard := none }) (v := ?tm17) rfl (by kernel_rfl) (by kernel_rfl) (by kernel_rfl) (fun _ _ _ h => h) (Or.inl ⟨by rfl, ?um17⟩) (by assumption) ?rm17
  case um17 => (intro w hSw; (try dsimp only at hSw); go_simp; (try with_reducible rfl))
  simp only [Act.put, List.setIfInBounds_toArray, List.set_cons_zero, List.set_cons_succ]
  refine wpAnyH_ready (rs := [17]) (by kernel_rfl) (by simp) ?_
  refine AllReadyH.cons (o := { dst := none, op := Op.store 4 (Operand.tmp 57) (Operand.const (Value.bool true)), type := 0, pos := _, after := #[{ on := 16, ground := Ground.data }, { on := 0, ground := Ground.phase }, { on := 1, ground := Ground.textOnly Departure.lateStores }, { on := 2, ground := Ground.textOnly Departure.lateStores }, { on := 3, ground := Ground.textOnly Departure.lateStoresUnsure }, { on := 4, ground := Ground.textOnly Departure.lateStoresUnsure }, { on := 5, ground := Ground.textOnly Departure.lateStoresUnsure }, { on := 6, ground := Ground.phase }, { on := 7, ground := Ground.textOnly Departure.lateStoresUnsure }, { on := 8, ground := Ground.textOnly Departure.lateStoresUnsure }, { on := 9, ground := Ground.phase }, { on := 10, ground := Ground.textOnly Departure.lateStores }, { on := 11, ground := Ground.textOnly Departure.lateStoresUnsure }, { on := 12, ground := Ground.textOnly Departure.lateStoresUnsure }, { on := 13, ground := Ground.phase }, { on := 14, ground := Ground.textOnly Departure.lateStoresUnsure }], guard := none }) rfl (fun K hK => ?_) AllReadyH.nil
  go_simp
  refine hK.out _ _ ⟨by go_simp; (try assumption), by go_simp; (try assumption), by go_simp; (try assumption)⟩ (fun hH1 => ?_)
  clear hK K
  (try simp only [Act.put, List.setIfInBounds_toArray, List.set_cons_zero, List.set_cons_succ])
  refine wpAnyH_take (i := 18) (oi := { dst := some 58, op := Op.nilCheck (Operand.tmp 42), type := 0, pos := _, after := #[{ on := 1, ground := Ground.data }, { on := 0, ground := Ground.phase }, { on := 1, ground := Ground.phase }, { on := 2, ground := Ground.phase }, { on := 3, ground := Ground.phase }, { on := 4, ground := Ground.phase }, { on := 5, ground := Ground.phase }, { on := 6, ground := Ground.phase }, { on := 7, ground := Ground.phase }, { on := 8, ground := Ground.phase }, { on := 9, ground := Ground.phase }, { on := 10, ground := Ground.phase }, { on := 11, ground := Ground.phase }, { on := 12, ground := Ground.phase }, { on := 13, ground := Ground.phase }, { on := 14, ground := Ground.phase }, { on := 15, ground := Ground.phase }, { on := 16, ground := Ground.phase }, { on := 17, ground := Ground.phase }], guard := none }) (v := ?tm18) rfl (by kernel_rfl) (by kernel_rfl) (by kernel_rfl) (fun _ _ _ h => h) (Or.inl ⟨by rfl, ?um18⟩) (by assumption) ?rm18
  case um18 => (intro w hSw; (try dsimp only at hSw); go_simp; (try with_reducible rfl))
  simp only [Act.put, List.setIfInBounds_toArray, List.set_cons_zero, List.set_cons_succ]
  refine wpAnyH_take (i := 19) (oi := { dst := some 59, op := Op.fieldAddr 52 (Operand.tmp 58) 2, type := 0, pos := _, after := #[{ on := 18, ground := Ground.data }, { on := 0, ground := Ground.phase }, { on := 1, ground := Ground.phase }, { on := 2, ground := Ground.phase }, { on := 3, ground := Ground.phase }, { on := 4, ground := Ground.phase }, { on := 5, ground := Ground.phase }, { on := 6, ground := Ground.phase }, { on := 7, ground := Ground.phase }, { on := 8, ground := Ground.phase }, { on := 9, ground := Ground.phase }, { on := 10, ground := Ground.phase }, { on := 11, ground := Ground.phase }, { on := 12, ground := Ground.phase }, { on := 13, ground := Ground.phase }, { on := 14, ground := Ground.phase }, { on := 15, ground := Ground.phase }, { on := 16, ground := Ground.phase }, { on := 17, ground := Ground.phase }], guard := none }) (v := ?tm19) rfl (by kernel_rfl) (by kernel_rfl) (by kernel_rfl) (fun _ _ _ h => h) (Or.inl ⟨by rfl, ?um19⟩) (by assumption) ?rm19
  case um19 => (intro w hSw; (try dsimp only at hSw); go_simp; (try with_reducible rfl))
  simp only [Act.put, List.setIfInBounds_toArray, List.set_cons_zero, List.set_cons_succ]
  refine wpAnyH_ready (rs := [20]) (by kernel_rfl) (by simp) ?_
  refine AllReadyH.cons (o := { dst := none, op := Op.store 2 (Operand.tmp 59) (Operand.tmp 55), type := 0, pos := _, after := #[{ on := 19, ground := Ground.data }, { on := 14, ground := Ground.data }, { on := 17, ground := Ground.chain }, { on := 0, ground := Ground.phase }, { on := 1, ground := Ground.phase }, { on := 2, ground := Ground.phase }, { on := 3, ground := Ground.phase }, { on := 4, ground := Ground.phase }, { on := 5, ground := Ground.phase }, { on := 6, ground := Ground.phase }, { on := 7, ground := Ground.phase }, { on := 8, ground := Ground.phase }, { on := 9, ground := Ground.phase }, { on := 10, ground := Ground.phase }, { on := 11, ground := Ground.phase }, { on := 12, ground := Ground.phase }, { on := 13, ground := Ground.phase }, { on := 14, ground := Ground.phase }, { on := 15, ground := Ground.phase }, { on := 16, ground := Ground.phase }, { on := 17, ground := Ground.phase }], guard := none }) rfl (fun K hK => ?_) AllReadyH.nil
  go_simp
  refine hK.out _ _ ⟨by go_simp; (try assumption), by go_simp; (try assumption), by go_simp; (try assumption)⟩ (fun hH2 => ?_)
  clear hK K
  (try simp only [Act.put, List.setIfInBounds_toArray, List.set_cons_zero, List.set_cons_succ])
  refine wpAnyH_done (by kernel_rfl) ?_ _
  go_wp2_with (go_at_call 48; refine (links_tm _ _ _).mono ?_; rintro e w1 ⟨rfl, rfl⟩)
  go_end0
  exact ⟨rfl, _, drew6 _ _ _ _ _ _ _ _ _ _ _ _ _ _⟩
set_option maxRecDepth 100000 in
set_option maxHeartbeats 1000000 in
/-- Into one that is not, and stays so. -/
theorem put_stays (B o N a U F ua fa : Nat) (ls : Int) (x0 x1 u1 : Value) (w : World) (hlt : ua ≤ a) (hB : B ≠ N) (hU : U ≠ N) (hUB : U ≠ B) (c0 : w.cell? ⟨B, o, none⟩ = some (.pointer (some ⟨U, 0, none⟩))) (c1 : w.cell? ⟨B, o + 1, none⟩ = some (.pointer (some ⟨F, 0, none⟩))) (c2 : w.cell? ⟨B, o + 2, none⟩ = some (.bool false)) (c3 : w.cell? ⟨B, o + 3, none⟩ = some (.int .i64 ls))
    (t0 : w.cell? ⟨N, 0, none⟩ = some x0) (t1 : w.cell? ⟨N, 1, none⟩ = some x1) (t2 : w.cell? ⟨N, 2, none⟩ = some (.int .i64 a)) (u1 : w.cell? ⟨U, 1, none⟩ = some u1) (u2 : w.cell? ⟨U, 2, none⟩ = some (.int .i64 ua)) (f2 : w.cell? ⟨F, 2, none⟩ = some (.int .i64 fa)) (fB : ∀ o, w.frozen? ⟨B, o, none⟩ = false) (fN : ∀ o, w.frozen? ⟨N, o, none⟩ = false) (fU : ∀ o, w.frozen? ⟨U, o, none⟩ = false) :
    Calls Tryd.prog 43 #[.pointer (some ⟨B, o, none⟩), .pointer (some ⟨N, 0, none⟩)] w fun e w' => e = .returned (.tuple #[]) ∧ ∃ n, w' = ((((w.setCell ⟨N, 0, none⟩ (.pointer (some ⟨U, 0, none⟩))).setCell ⟨N, 1, none⟩ (.pointer none)).setCell ⟨U, 1, none⟩ (.pointer (some ⟨N, 0, none⟩))).setCell ⟨B, o, none⟩ (.pointer (some ⟨N, 0, none⟩))).drewN n := by
  have hN : N ≠ B := hB.symm
  have hN2 : N ≠ U := hU.symm
  have hB2 : B ≠ U := hUB.symm
  have hlt' : ¬ (a : Int) < (ua : Int) := by omega
  go_enter Tryd.func43, Tryd.ntmps43
  go_wp2_with (first
    | (go_at_call 42; refine (empty_no B o F _ (by assumption)).mono ?_; rintro e w1 ⟨rfl, rfl⟩)
    | (go_at_call 48; refine (links_tm _ _ _).mono ?_; rintro e w1 ⟨rfl, rfl⟩))
  go_quiet (fail)
  go_wp2_with (go_at_call 48; refine (links_tm _ _ _).mono ?_; rintro e w1 ⟨rfl, rfl⟩)
  go_end0
  exact ⟨rfl, _, rfl⟩
end Go.Proofs.YtignphkfknjllaaDoor
