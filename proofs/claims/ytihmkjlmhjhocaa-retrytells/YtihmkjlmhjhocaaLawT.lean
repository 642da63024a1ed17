/- For any result, its body valid or not, the law RetryTells answers true; the condition: the body in memory. -/
import Derived.Test.YtihmkjlmhjhocaaYe
import Derived.Test.YtihmkjlmhjhocaaDRv
namespace Go.Proofs.Ytihmkjlmhjhocaa
open Go.RowKit

/-- A result in a block of one's own. -/
def Ow (w : World) (cs : Array Value) (wx : World) : Prop := Bk wx w.heap.size cs 30 ∧ Below w.heap.size w wx
theorem Ow.drew {w : World} {cs : Array Value} {wx : World} (h : Ow w cs wx) : Ow w cs wx.drew := ⟨h.1, h.2.drew⟩
theorem Ow.step {w : World} {cs : Array Value} {wx w' : World} (h : Ow w cs wx) (hb : Below wx.heap.size wx w') : Ow w cs w' := ⟨h.1.step hb, h.2.trans (hb.mono h.2.size)⟩

set_option maxRecDepth 100000 in
set_option maxHeartbeats 4000000 in
theorem law_tells (m : Nat) (t : Dt.Tr m) (er co pk pn : Int) (has : Bool) (k i u : Int) (s : ByteArray) (a : Option Addr) (n c : Nat) (w : World) (R : Dt.Rep w m [.int .i64 k, .int .i64 i, .int .u64 u, .string s, .slice a n c] t) :
    Calls Try.prog 3 #[.agg #[.int .i64 er, .int .i64 co, .int .i64 pk, .int .i64 pn, .bool has, .int .i64 k, .int .i64 i, .int .u64 u, .string s, .slice a n c]] w fun e w' => e = .returned (.bool true) ∧ Below w.heap.size w w' := by
  have O : Ow w #[.int .i64 er, .int .i64 co, .int .i64 pk, .int .i64 pn, .bool has, .int .i64 k, .int .i64 i, .int .u64 u, .string s, .slice a n c] (w.alloc (.cells #[.int .i64 er, .int .i64 co, .int .i64 pk, .int .i64 pn, .bool has, .int .i64 k, .int .i64 i, .int .u64 u, .string s, .slice a n c] 30)) := ⟨Bk.new w _ _, below1 w _⟩
  have HS : Hid (∀ w', Ow w #[.int .i64 er, .int .i64 co, .int .i64 pk, .int .i64 pn, .bool has, .int .i64 k, .int .i64 i, .int .u64 u, .string s, .slice a n c] w' → w'.cell? ⟨w.heap.size, 0, none⟩ = some (.int .i64 er) ∧ w'.cell? ⟨w.heap.size, 1, none⟩ = some (.int .i64 co) ∧ w'.cell? ⟨w.heap.size, 2, none⟩ = some (.int .i64 pk) ∧ w'.cell? ⟨w.heap.size, 3, none⟩ = some (.int .i64 pn) ∧ w'.cell? ⟨w.heap.size, 4, none⟩ = some (.bool has) ∧ w'.cell? ⟨w.heap.size, 5, none⟩ = some (.int .i64 k) ∧ w'.cell? ⟨w.heap.size, 6, none⟩ = some (.int .i64 i) ∧ w'.cell? ⟨w.heap.size, 7, none⟩ = some (.int .u64 u) ∧ w'.cell? ⟨w.heap.size, 8, none⟩ = some (.string s) ∧ w'.cell? ⟨w.heap.size, 9, none⟩ = some (.slice a n c)) := Lib.hid fun w' h => h.1.c10
  have HV : Hid (∀ wx, Ow w #[.int .i64 er, .int .i64 co, .int .i64 pk, .int .i64 pn, .bool has, .int .i64 k, .int .i64 i, .int .u64 u, .string s, .slice a n c] wx → Calls Try.prog 7 #[.agg #[.int .i64 k, .int .i64 i, .int .u64 u, .string s, .slice a n c]] wx fun e w' => e = .returned (.bool (Dt.vB m t)) ∧ Ow w #[.int .i64 er, .int .i64 co, .int .i64 pk, .int .i64 pn, .bool has, .int .i64 k, .int .i64 i, .int .u64 u, .string s, .slice a n c] w') := Lib.hid fun wx hx => (Dt.refValid m t _ _ _ _ _ wx (Dt.Rep.below hx.2 m _ _ R)).mono fun e w' ⟨h1, h2⟩ => ⟨h1, hx.step h2⟩
  have HG : Hid (∀ wx, Ow w #[.int .i64 er, .int .i64 co, .int .i64 pk, .int .i64 pn, .bool has, .int .i64 k, .int .i64 i, .int .u64 u, .string s, .slice a n c] wx → Calls Try.prog 9 #[.agg #[.int .i64 er, .int .i64 co, .int .i64 pk, .int .i64 pn, .bool has, .int .i64 k, .int .i64 i, .int .u64 u, .string s, .slice a n c]] wx fun e w' => e = .returned (.bool (agB er co pk)) ∧ Ow w #[.int .i64 er, .int .i64 co, .int .i64 pk, .int .i64 pn, .bool has, .int .i64 k, .int .i64 i, .int .u64 u, .string s, .slice a n c] w') := Lib.hid fun wx hx => (again_any er co pk pn has _ _ _ _ _ wx).mono fun e w' ⟨h1, h2⟩ => ⟨h1, hx.step h2⟩
  have HR : Hid (∀ wx, Ow w #[.int .i64 er, .int .i64 co, .int .i64 pk, .int .i64 pn, .bool has, .int .i64 k, .int .i64 i, .int .u64 u, .string s, .slice a n c] wx → Calls Try.prog 10 #[.agg #[.int .i64 er, .int .i64 co, .int .i64 pk, .int .i64 pn, .bool has, .int .i64 k, .int .i64 i, .int .u64 u, .string s, .slice a n c]] wx fun e w' => e = .returned (.bool (agB er co pk)) ∧ Ow w #[.int .i64 er, .int .i64 co, .int .i64 pk, .int .i64 pn, .bool has, .int .i64 k, .int .i64 i, .int .u64 u, .string s, .slice a n c] w') := Lib.hid fun wx hx => (ragain_any er co pk pn has _ _ _ _ _ wx).mono fun e w' ⟨h1, h2⟩ => ⟨h1, hx.step h2⟩
  have HA : Hid (∀ wx, Ow w #[.int .i64 er, .int .i64 co, .int .i64 pk, .int .i64 pn, .bool has, .int .i64 k, .int .i64 i, .int .u64 u, .string s, .slice a n c] wx → Calls Try.prog 8 #[] wx fun e w' => e = .returned (.bool true) ∧ Ow w #[.int .i64 er, .int .i64 co, .int .i64 pk, .int .i64 pn, .bool has, .int .i64 k, .int .i64 i, .int .u64 u, .string s, .slice a n c] w') := Lib.hid fun wx hx => (awake_any wx).mono fun e w' ⟨h1, h2⟩ => ⟨h1, hx.step h2⟩
  generalize Dt.vB m t = vb at HV
  generalize agB er co pk = ab at HG HR
  clear R
  go_enter Try.func3, Try.ntmps3
  cases vb with
  | true =>
    go_wp2_with fail
    go_region_held3 (fun w' => w'.cell? ⟨w.heap.size, 0, none⟩ = some (.int .i64 er) ∧ w'.cell? ⟨w.heap.size, 1, none⟩ = some (.int .i64 co) ∧ w'.cell? ⟨w.heap.size, 2, none⟩ = some (.int .i64 pk) ∧ w'.cell? ⟨w.heap.size, 3, none⟩ = some (.int .i64 pn) ∧ w'.cell? ⟨w.heap.size, 4, none⟩ = some (.bool has) ∧ w'.cell? ⟨w.heap.size, 5, none⟩ = some (.int .i64 k) ∧ w'.cell? ⟨w.heap.size, 6, none⟩ = some (.int .i64 i) ∧ w'.cell? ⟨w.heap.size, 7, none⟩ = some (.int .u64 u) ∧ w'.cell? ⟨w.heap.size, 8, none⟩ = some (.string s) ∧ w'.cell? ⟨w.heap.size, 9, none⟩ = some (.slice a n c)) (exact HS.out _ (by first | assumption | exact Ow.drew (by assumption))) (first | (go_at_call 7; refine (HV.out _ (by first | assumption | exact Ow.drew (by assumption))).mono ?_; rintro e w1 ⟨rfl, o1⟩) | (go_at_call 9; refine (HG.out _ (by first | assumption | exact Ow.drew (by assumption))).mono ?_; rintro e w1 ⟨rfl, o1⟩) | (go_at_call 10; refine (HR.out _ (by first | assumption | exact Ow.drew (by assumption))).mono ?_; rintro e w1 ⟨rfl, o1⟩) | (go_at_call 8; refine (HA.out _ (by first | assumption | exact Ow.drew (by assumption))).mono ?_; rintro e w1 ⟨rfl, o1⟩))
    all_goals go_wp2_with fail
    all_goals go_ret
    all_goals exact ⟨by simp, by first | exact (Ow.drew (by assumption)).2 | exact (by assumption : Ow w _ _).2⟩
  | false =>
    go_wp2_with fail
    have O0 := Ow.drew O
    refine wp_region_held_drew (S := (fun w' => w'.cell? ⟨w.heap.size, 0, none⟩ = some (.int .i64 er) ∧ w'.cell? ⟨w.heap.size, 1, none⟩ = some (.int .i64 co) ∧ w'.cell? ⟨w.heap.size, 2, none⟩ = some (.int .i64 pk) ∧ w'.cell? ⟨w.heap.size, 3, none⟩ = some (.int .i64 pn) ∧ w'.cell? ⟨w.heap.size, 4, none⟩ = some (.bool has) ∧ w'.cell? ⟨w.heap.size, 5, none⟩ = some (.int .i64 k) ∧ w'.cell? ⟨w.heap.size, 6, none⟩ = some (.int .i64 i) ∧ w'.cell? ⟨w.heap.size, 7, none⟩ = some (.int .u64 u) ∧ w'.cell? ⟨w.heap.size, 8, none⟩ = some (.string s) ∧ w'.cell? ⟨w.heap.size, 9, none⟩ = some (.slice a n c))) (by kernel_rfl) (HS.out _ O0) (fun hHeld => ?_)
    refine wpAnyH_take (i := 0) (oi := { dst := some 3, op := Op.fieldAddr 30 (Operand.tmp 1) 4, type := 0, pos := "law.go:24", after := #[], guard := none }) (v := ?tT0) rfl (by kernel_rfl) (by kernel_rfl) (by kernel_rfl) (fun _ _ _ h => h) (Or.inl ⟨by rfl, ?uT0⟩) (by assumption) ?rT0
    case uT0 => (intro w hSw; (try dsimp only at hSw); go_simp; (try with_reducible rfl))
    simp only [Act.put, List.setIfInBounds_toArray, List.set_cons_zero, List.set_cons_succ]
    refine wpAnyH_take (i := 1) (oi := { dst := some 4, op := Op.load 28 (Operand.tmp 3), type := 28, pos := "law.go:24", after := #[{ on := 0, ground := Ground.data }], guard := none }) (v := ?tT1) rfl (by kernel_rfl) (by kernel_rfl) (by kernel_rfl) (fun _ _ _ h => h) (Or.inl ⟨by rfl, ?uT1⟩) (by assumption) ?rT1
    case uT1 => (intro w hSw; (try dsimp only at hSw); go_simp; (try with_reducible rfl))
    simp only [Act.put, List.setIfInBounds_toArray, List.set_cons_zero, List.set_cons_succ]
    refine wpAnyH_ready (rs := [2]) (by kernel_rfl) (by simp) ?_
    refine AllReadyH.cons (o := { dst := some 5, op := Op.call { callee := Callee.value (Operand.func 7), args := #[Operand.tmp 4], argTypes := #[28] }, type := 4, pos := "law.go:24", after := #[{ on := 1, ground := Ground.data }], guard := none }) rfl (fun K hK => ?_) AllReadyH.nil
    go_simp
    refine (HV.out _ O0).mono ?_
    rintro e w1 ⟨rfl, O1⟩
    clear O0
    have O0 := O1
    clear O1
    refine hK.out _ _ (HS.out _ O0) (fun hHeld => ?_)
    (try simp only [Act.put, List.setIfInBounds_toArray, List.set_cons_zero, List.set_cons_succ])
    refine wpAnyH_take (i := 3) (oi := { dst := some 6, op := Op.unOp UnOp.not 4 (Operand.tmp 5), type := 4, pos := "law.go:24", after := #[{ on := 2, ground := Ground.data }], guard := none }) (v := ?tT3) rfl (by kernel_rfl) (by kernel_rfl) (by kernel_rfl) (fun _ _ _ h => h) (Or.inl ⟨by rfl, ?uT3⟩) (by assumption) ?rT3
    case uT3 => (intro w hSw; (try dsimp only at hSw); go_simp; (try with_reducible rfl))
    simp only [Act.put, List.setIfInBounds_toArray, List.set_cons_zero, List.set_cons_succ]
    refine wpAnyH_take (i := 4) (oi := { dst := some 7, op := Op.move (Operand.tmp 6), type := 4, pos := "law.go:24", after := #[{ on := 3, ground := Ground.data }, { on := 2, ground := Ground.chain }], guard := none }) (v := ?tT4) rfl (by kernel_rfl) (by kernel_rfl) (by kernel_rfl) (fun _ _ _ h => h) (Or.inl ⟨by rfl, ?uT4⟩) (by assumption) ?rT4
    case uT4 => (intro w hSw; (try dsimp only at hSw); go_simp; (try with_reducible rfl))
    simp only [Act.put, List.setIfInBounds_toArray, List.set_cons_zero, List.set_cons_succ]
    refine wpAnyH_ready (rs := [5]) (by kernel_rfl) (by simp) ?_
    refine AllReadyH.cons (o := { dst := some 8, op := Op.call { callee := Callee.value (Operand.func 8), args := #[], argTypes := #[] }, type := 4, pos := "law.go:24", after := #[{ on := 4, ground := Ground.chain }, { on := 4, ground := Ground.guard }], guard := some (4, true) }) rfl (fun K hK => ?_) AllReadyH.nil
    go_simp
    refine (HA.out _ O0).mono ?_
    rintro e w2 ⟨rfl, O1⟩
    clear O0
    have O0 := O1
    clear O1
    refine hK.out _ _ (HS.out _ O0) (fun hHeld => ?_)
    (try simp only [Act.put, List.setIfInBounds_toArray, List.set_cons_zero, List.set_cons_succ])
    refine wpAnyH_take (i := 6) (oi := { dst := some 9, op := Op.pick (Operand.tmp 7) (Operand.tmp 8) (Operand.const (Value.bool false)), type := 4, pos := "law.go:24", after := #[{ on := 4, ground := Ground.data }, { on := 5, ground := Ground.data }], guard := none }) (v := ?tT6) rfl (by kernel_rfl) (by kernel_rfl) (by kernel_rfl) (fun _ _ _ h => h) (Or.inl ⟨by rfl, ?uT6⟩) (by assumption) ?rT6
    case uT6 => (intro w hSw; (try dsimp only at hSw); go_simp; (try with_reducible rfl))
    simp only [Act.put, List.setIfInBounds_toArray, List.set_cons_zero, List.set_cons_succ]
    refine wpAnyH_take (i := 7) (oi := { dst := some 10, op := Op.move (Operand.tmp 9), type := 4, pos := "law.go:24", after := #[{ on := 6, ground := Ground.data }, { on := 5, ground := Ground.chain }], guard := none }) (v := ?tT7) rfl (by kernel_rfl) (by kernel_rfl) (by kernel_rfl) (fun _ _ _ h => h) (Or.inl ⟨by rfl, ?uT7⟩) (by assumption) ?rT7
    case uT7 => (intro w hSw; (try dsimp only at hSw); go_simp; (try with_reducible rfl))
    simp only [Act.put, List.setIfInBounds_toArray, List.set_cons_zero, List.set_cons_succ]
    refine wpAnyH_take (i := 8) (oi := { dst := some 11, op := Op.fieldAddr 30 (Operand.tmp 1) 4, type := 0, pos := "law.go:24", after := #[{ on := 7, ground := Ground.guard }], guard := some (7, false) }) (v := undef) rfl (by kernel_rfl) (by kernel_rfl) (by kernel_rfl) (fun _ _ _ h => h) (Or.inr ⟨by rfl, rfl⟩) (by assumption) ?_
    (try simp only [Act.put, List.setIfInBounds_toArray, List.set_cons_zero, List.set_cons_succ])
    refine wpAnyH_take (i := 9) (oi := { dst := some 12, op := Op.load 28 (Operand.tmp 11), type := 28, pos := "law.go:24", after := #[{ on := 8, ground := Ground.data }, { on := 7, ground := Ground.guard }], guard := some (7, false) }) (v := undef) rfl (by kernel_rfl) (by kernel_rfl) (by kernel_rfl) (fun _ _ _ h => h) (Or.inr ⟨by rfl, rfl⟩) (by assumption) ?_
    (try simp only [Act.put, List.setIfInBounds_toArray, List.set_cons_zero, List.set_cons_succ])
    refine wpAnyH_take (i := 10) (oi := { dst := some 13, op := Op.call { callee := Callee.value (Operand.func 7), args := #[Operand.tmp 12], argTypes := #[28] }, type := 4, pos := "law.go:24", after := #[{ on := 9, ground := Ground.data }, { on := 7, ground := Ground.chain }, { on := 7, ground := Ground.guard }], guard := some (7, false) }) (v := undef) rfl (by kernel_rfl) (by kernel_rfl) (by kernel_rfl) (fun _ _ _ h => h) (Or.inr ⟨by rfl, rfl⟩) (by assumption) ?_
    (try simp only [Act.put, List.setIfInBounds_toArray, List.set_cons_zero, List.set_cons_succ])
    refine wpAnyH_take (i := 11) (oi := { dst := some 14, op := Op.move (Operand.tmp 13), type := 4, pos := "law.go:24", after := #[{ on := 10, ground := Ground.data }, { on := 10, ground := Ground.chain }, { on := 7, ground := Ground.guard }], guard := some (7, false) }) (v := undef) rfl (by kernel_rfl) (by kernel_rfl) (by kernel_rfl) (fun _ _ _ h => h) (Or.inr ⟨by rfl, rfl⟩) (by assumption) ?_
    (try simp only [Act.put, List.setIfInBounds_toArray, List.set_cons_zero, List.set_cons_succ])
    refine wpAnyH_take (i := 12) (oi := { dst := some 15, op := Op.load 30 (Operand.tmp 1), type := 30, pos := "law.go:24", after := #[{ on := 11, ground := Ground.guard }], guard := some (11, true) }) (v := undef) rfl (by kernel_rfl) (by kernel_rfl) (by kernel_rfl) (fun _ _ _ h => h) (Or.inr ⟨by rfl, rfl⟩) (by assumption) ?_
    (try simp only [Act.put, List.setIfInBounds_toArray, List.set_cons_zero, List.set_cons_succ])
    refine wpAnyH_take (i := 13) (oi := { dst := some 16, op := Op.call { callee := Callee.value (Operand.func 9), args := #[Operand.tmp 15], argTypes := #[30] }, type := 4, pos := "law.go:24", after := #[{ on := 12, ground := Ground.data }, { on := 11, ground := Ground.chain }, { on := 11, ground := Ground.guard }], guard := some (11, true) }) (v := undef) rfl (by kernel_rfl) (by kernel_rfl) (by kernel_rfl) (fun _ _ _ h => h) (Or.inr ⟨by rfl, rfl⟩) (by assumption) ?_
    (try simp only [Act.put, List.setIfInBounds_toArray, List.set_cons_zero, List.set_cons_succ])
    refine wpAnyH_take (i := 14) (oi := { dst := some 17, op := Op.load 30 (Operand.tmp 1), type := 30, pos := "law.go:24", after := #[{ on := 11, ground := Ground.guard }], guard := some (11, true) }) (v := undef) rfl (by kernel_rfl) (by kernel_rfl) (by kernel_rfl) (fun _ _ _ h => h) (Or.inr ⟨by rfl, rfl⟩) (by assumption) ?_
    (try simp only [Act.put, List.setIfInBounds_toArray, List.set_cons_zero, List.set_cons_succ])
    refine wpAnyH_take (i := 15) (oi := { dst := some 18, op := Op.call { callee := Callee.value (Operand.func 10), args := #[Operand.tmp 17], argTypes := #[30] }, type := 4, pos := "law.go:24", after := #[{ on := 14, ground := Ground.data }, { on := 13, ground := Ground.chain }, { on := 11, ground := Ground.guard }], guard := some (11, true) }) (v := undef) rfl (by kernel_rfl) (by kernel_rfl) (by kernel_rfl) (fun _ _ _ h => h) (Or.inr ⟨by rfl, rfl⟩) (by assumption) ?_
    (try simp only [Act.put, List.setIfInBounds_toArray, List.set_cons_zero, List.set_cons_succ])
    refine wpAnyH_take (i := 16) (oi := { dst := some 19, op := Op.binOp BinOp.eql 4 (Operand.tmp 16) (Operand.tmp 18) 4, type := 4, pos := "law.go:24", after := #[{ on := 13, ground := Ground.data }, { on := 15, ground := Ground.data }, { on := 11, ground := Ground.guard }], guard := some (11, true) }) (v := undef) rfl (by kernel_rfl) (by kernel_rfl) (by kernel_rfl) (fun _ _ _ h => h) (Or.inr ⟨by rfl, rfl⟩) (by assumption) ?_
    (try simp only [Act.put, List.setIfInBounds_toArray, List.set_cons_zero, List.set_cons_succ])
    refine wpAnyH_take (i := 17) (oi := { dst := some 20, op := Op.pick (Operand.tmp 14) (Operand.tmp 19) (Operand.const (Value.bool false)), type := 4, pos := "law.go:24", after := #[{ on := 11, ground := Ground.data }, { on := 16, ground := Ground.data }, { on := 7, ground := Ground.guard }], guard := some (7, false) }) (v := undef) rfl (by kernel_rfl) (by kernel_rfl) (by kernel_rfl) (fun _ _ _ h => h) (Or.inr ⟨by rfl, rfl⟩) (by assumption) ?_
    (try simp only [Act.put, List.setIfInBounds_toArray, List.set_cons_zero, List.set_cons_succ])
    refine wpAnyH_take (i := 18) (oi := { dst := some 21, op := Op.move (Operand.tmp 20), type := 4, pos := "law.go:24", after := #[{ on := 17, ground := Ground.data }, { on := 15, ground := Ground.chain }, { on := 7, ground := Ground.guard }], guard := some (7, false) }) (v := undef) rfl (by kernel_rfl) (by kernel_rfl) (by kernel_rfl) (fun _ _ _ h => h) (Or.inr ⟨by rfl, rfl⟩) (by assumption) ?_
    (try simp only [Act.put, List.setIfInBounds_toArray, List.set_cons_zero, List.set_cons_succ])
    refine wpAnyH_take (i := 19) (oi := { dst := some 22, op := Op.call { callee := Callee.value (Operand.func 8), args := #[], argTypes := #[] }, type := 4, pos := "law.go:24", after := #[{ on := 18, ground := Ground.chain }, { on := 18, ground := Ground.guard }], guard := some (18, true) }) (v := undef) rfl (by kernel_rfl) (by kernel_rfl) (by kernel_rfl) (fun _ _ _ h => h) (Or.inr ⟨by rfl, rfl⟩) (by assumption) ?_
    (try simp only [Act.put, List.setIfInBounds_toArray, List.set_cons_zero, List.set_cons_succ])
    refine wpAnyH_take (i := 20) (oi := { dst := some 23, op := Op.pick (Operand.tmp 21) (Operand.tmp 22) (Operand.const (Value.bool false)), type := 4, pos := "law.go:24", after := #[{ on := 18, ground := Ground.data }, { on := 19, ground := Ground.data }, { on := 7, ground := Ground.guard }], guard := some (7, false) }) (v := undef) rfl (by kernel_rfl) (by kernel_rfl) (by kernel_rfl) (fun _ _ _ h => h) (Or.inr ⟨by rfl, rfl⟩) (by assumption) ?_
    (try simp only [Act.put, List.setIfInBounds_toArray, List.set_cons_zero, List.set_cons_succ])
    refine wpAnyH_take (i := 21) (oi := { dst := some 24, op := Op.pick (Operand.tmp 10) (Operand.const (Value.bool true)) (Operand.tmp 23), type := 4, pos := "law.go:24", after := #[{ on := 7, ground := Ground.data }, { on := 20, ground := Ground.data }], guard := none }) (v := ?tT21) rfl (by kernel_rfl) (by kernel_rfl) (by kernel_rfl) (fun _ _ _ h => h) (Or.inl ⟨by rfl, ?uT21⟩) (by assumption) ?rT21
    case uT21 => (intro w hSw; (try dsimp only at hSw); go_simp; (try with_reducible rfl))
    simp only [Act.put, List.setIfInBounds_toArray, List.set_cons_zero, List.set_cons_succ]
    refine wpAnyH_take (i := 22) (oi := { dst := some 2, op := Op.assign (Operand.tmp 24), type := 4, pos := "law.go:24", after := #[{ on := 21, ground := Ground.data }, { on := 19, ground := Ground.chain }, { on := 0, ground := Ground.phase }, { on := 1, ground := Ground.phase }, { on := 2, ground := Ground.phase }, { on := 3, ground := Ground.phase }, { on := 4, ground := Ground.phase }, { on := 5, ground := Ground.phase }, { on := 6, ground := Ground.phase }, { on := 7, ground := Ground.phase }, { on := 8, ground := Ground.phase }, { on := 9, ground := Ground.phase }, { on := 10, ground := Ground.phase }, { on := 11, ground := Ground.phase }, { on := 12, ground := Ground.phase }, { on := 13, ground := Ground.phase }, { on := 14, ground := Ground.phase }, { on := 15, ground := Ground.phase }, { on := 16, ground := Ground.phase }, { on := 17, ground := Ground.phase }, { on := 18, ground := Ground.phase }, { on := 19, ground := Ground.phase }, { on := 20, ground := Ground.phase }, { on := 21, ground := Ground.phase }], guard := none }) (v := ?tT22) rfl (by kernel_rfl) (by kernel_rfl) (by kernel_rfl) (fun _ _ _ h => h) (Or.inl ⟨by rfl, ?uT22⟩) (by assumption) ?rT22
    case uT22 => (intro w hSw; (try dsimp only at hSw); go_simp; (try with_reducible rfl))
    simp only [Act.put, List.setIfInBounds_toArray, List.set_cons_zero, List.set_cons_succ]
    refine wpAnyH_done (by kernel_rfl) ?_ _
    go_wp2_with fail
    go_ret
    exact ⟨rfl, O0.2⟩
end Go.Proofs.Ytihmkjlmhjhocaa
