/- For any state, numbers and steps the law LimitMore answers true; the conditions: numbers within their bounds, the steps read. -/
import Derived.Test.YtbaalkkhbcclnaaLd
namespace Go.Proofs.Ytbaalkkhbcclnaa
open Go.RowKit

/-- The richer one holds no less, as of the poorer one's tick. -/
structure Mo (Ls l Lx lx a b : Int) : Prop where
  fs : Ft Ls l a b l
  fx : Ft Lx lx a b l
  le : lx ≤ l
  mo : Ls ≤ lv Lx lx a b l
theorem Mo.lv {Ls l Lx lx a b n : Int} (h : Mo Ls l Lx lx a b) (hn : l ≤ n) : lv Ls l a b n ≤ lv Lx lx a b n := by
  have h1 := h.mo; have h2 := h.le; have h3 := h.fs.a1
  have h4 : a * (n - lx) = a * (n - l) + a * (l - lx) := by rw [← Int.mul_add]; congr 1; omega
  unfold Go.Proofs.Ytbaalkkhbcclnaa.lv at h1 ⊢
  rw [show max l n - l = n - l by omega, show max lx n - lx = n - lx by omega, h4]
  rw [show max lx l - lx = l - lx by omega] at h1
  have h5 : 0 ≤ a * (n - l) := Int.mul_nonneg (by omega) (by omega)
  omega
theorem Ft.at {L l a b n m : Int} (h : Ft L l a b n) (h1 : 0 ≤ m) (h2 : m ≤ 1099511627776) : Ft L l a b m := ⟨h.a1, h.a2, h.b1, h.b2, h.L1, h.L2, h.l1, h.l2, h1, h2⟩
/-- The poorer one gets none. -/
theorem Mo.no {Ls l Lx lx a b n : Int} (h : Mo Ls l Lx lx a b) (hn : l ≤ n) (h2 : n ≤ 1099511627776) : Mo (Go.Proofs.Ytbaalkkhbcclnaa.lv Ls l a b n) n Lx lx a b := by
  have h0 := h.fs.l1
  have f := (h.fs.at (m := n) (by omega) h2)
  have h3 := f.lv0
  refine ⟨⟨f.a1, f.a2, f.b1, f.b2, h3.1, h3.2, by omega, h2, by omega, h2⟩, h.fx.at (by omega) h2, by have := h.le; omega, h.lv hn⟩
/-- Both get one. -/
theorem Mo.yes {Ls l Lx lx a b n : Int} (h : Mo Ls l Lx lx a b) (hn : l ≤ n) (h2 : n ≤ 1099511627776) (hb : ¬ Go.Proofs.Ytbaalkkhbcclnaa.lv Ls l a b n < b) : Mo (Go.Proofs.Ytbaalkkhbcclnaa.lv Ls l a b n - b) n (Go.Proofs.Ytbaalkkhbcclnaa.lv Lx lx a b n - b) n a b := by
  have h0 := h.fs.l1
  have f := (h.fs.at (m := n) (by omega) h2)
  have g := (h.fx.at (m := n) (by omega) h2)
  have h3 := f.lv0; have h4 := g.lv0; have h5 := h.lv hn; have h6 := f.b1
  refine ⟨⟨f.a1, f.a2, f.b1, f.b2, by omega, by omega, by omega, h2, by omega, h2⟩, ⟨f.a1, f.a2, f.b1, f.b2, by omega, by omega, by omega, h2, by omega, h2⟩, by omega, ?_⟩
  unfold Go.Proofs.Ytbaalkkhbcclnaa.lv at *
  rw [show max n n - n = 0 by omega, Int.mul_zero]
  omega

theorem bk_new3 (w : World) (o p : Obj) (cs : Array Value) (T : TypeId) : Bk (((w.alloc o).alloc p).alloc (.cells cs T)) (w.heap.size + 1 + 1) cs T := by have := Bk.new ((w.alloc o).alloc p) cs T; rwa [World.size_alloc, World.size_alloc] at this
theorem mo_start {L l X a b : Int} (h : Ft L l a b l) (h1 : L ≤ X) (h2 : X ≤ a * b) (h3 : 0 ≤ X) : Mo L l X l a b := by
  refine ⟨h, ⟨h.a1, h.a2, h.b1, h.b2, h3, h2, h.l1, h.l2, h.n1, h.n2⟩, Int.le_refl _, ?_⟩
  unfold Go.Proofs.Ytbaalkkhbcclnaa.lv
  rw [show max l l - l = 0 by omega, Int.mul_zero]
  omega
theorem three_at {w w' : World} {L l x y : Int} {o : Obj} {T : TypeId} (h : Below (w.heap.size + 1 + 1 + 1) (((w.alloc (.cells #[.int .i64 L, .int .i64 l] T)).alloc o).alloc (.cells #[.int .i64 x, .int .i64 y] T)) w') :
    w'.cell? ⟨w.heap.size, 0, none⟩ = some (.int .i64 L) := by
  have hb : Bk (((w.alloc (.cells #[.int .i64 L, .int .i64 l] T)).alloc o).alloc (.cells #[.int .i64 x, .int .i64 y] T)) w.heap.size #[.int .i64 L, .int .i64 l] T := ((Bk.new w _ _).alloc _).alloc _
  have hc : Bk w' w.heap.size #[.int .i64 L, .int .i64 l] T := (h.block _ (by omega)).trans hb
  exact hc.c 0
theorem wi64 (n : Int) (h : -9223372036854775808 ≤ n ∧ n ≤ 9223372036854775807) : IntKind.i64.wrap n = n := by rw [IntKind.wrap_i64]; omega
theorem u64_rng (n : Int) : IntKind.u64.wrap n = n % 18446744073709551616 := by
  simp [IntKind.wrap, IntKind.bits, IntKind.signed]
theorem wu64 (n : Int) (h : 0 ≤ n ∧ n ≤ 18446744073709551615) : IntKind.u64.wrap n = n := by rw [u64_rng]; omega
/-- What is left of a number, as one without a sign. -/
theorem rem_num (x m : Int) (h : 0 ≤ x) (hx : x ≤ 1000000000000) : ∃ q, (IntKind.u64.wrap m).tmod (x + 1) = q ∧ 0 ≤ q ∧ q ≤ x := by
  refine ⟨_, rfl, ?_⟩
  have h1 : 0 ≤ IntKind.u64.wrap m := by rw [u64_rng]; omega
  rw [Int.tmod_eq_emod_of_nonneg h1]
  have h2 := Int.emod_nonneg (IntKind.u64.wrap m) (show x + 1 ≠ 0 by omega)
  have h3 := Int.emod_lt_of_pos (IntKind.u64.wrap m) (show 0 < x + 1 by omega)
  omega

set_option maxRecDepth 100000 in
set_option maxHeartbeats 2000000 in
theorem more_in (L l m a b : Int) (ad : Option Addr) (zs : List Int) (cap : Nat) (w : World) (hf : fitB L l a b = true) (hz : ∀ j (h : j < zs.length), ∃ g of, ad = some ⟨g, of, none⟩ ∧ g < w.heap.size ∧ w.cell? ⟨g, of + j, none⟩ = some (.int .i64 zs[j])) : Calls Try.prog 6 #[.agg #[.int .i64 L, .int .i64 l], .int .i64 m, .int .i64 a, .int .i64 b, .slice ad zs.length cap] w fun e w' => e = .returned (.bool true) ∧ Below w.heap.size w w' := by
  have KF := Lib.hid (fun w' => rfit_any L l a b w')
  rw [hf] at KF
  have HF := Lib.hid (fun n h1 h2 => fit_ft (n := n) hf h1 h2)
  have HZ := Lib.hid hz
  obtain ⟨x1, x2, x3, x4, x5, x6, x7, x8⟩ := of_decide_eq_true hf
  have hab := (fit_ft hf x7 x8).ab
  clear hf hz
  go_enter Try.func6, Try.ntmps6
  go_wp2_with (first
        | (go_at_call 8; refine (KF.out _).mono ?_; rintro e w1 ⟨rfl, o, rfl⟩))
  have HS := Lib.hid (fun w' (h : Below (w.heap.size + 1 + 1 + 1) (((w.alloc (.cells #[.int .i64 L, .int .i64 l] 23)).alloc o).alloc (.cells #[.int .i64 L, .int .i64 l] 23)) w') => three_at h)
  obtain ⟨q, eq0, hq0, hq1⟩ := rem_num (a * b) m (by omega) (by omega)
  have wab : IntKind.i64.wrap (a * b) = a * b := wi64 _ (by omega)
  have wab1 : IntKind.i64.wrap (a * b + 1) = a * b + 1 := wi64 _ (by omega)
  have wu : IntKind.u64.wrap (a * b + 1) = a * b + 1 := wu64 _ (by omega)
  have wq : IntKind.i64.wrap q = q := wi64 _ (by omega)
  have wlq : IntKind.i64.wrap (L + q) = L + q := wi64 _ (by omega)
  replace wab := Lib.hid wab; replace wab1 := Lib.hid wab1; replace wu := Lib.hid wu; replace wq := Lib.hid wq; replace wlq := Lib.hid wlq; replace eq0 := Lib.hid eq0
  have hn0 := Lib.hid (show ¬ a * b + 1 = 0 by omega)
  refine wp_region_held_drew (S := (fun w' => w'.cell? ⟨w.heap.size, 0, none⟩ = some (.int .i64 L))) (by kernel_rfl) (HS.out _ ((Below.refl _ _).drew)) (fun hHeld => ?_)
  refine wpAnyH_take (i := 0) (oi := { dst := some 24, op := Op.move (Operand.tmp 2), type := 2, pos := _, after := #[], guard := none }) (v := ?tM0) rfl (by kernel_rfl) (by kernel_rfl) (by kernel_rfl) (fun _ _ _ h => h) (Or.inl ⟨by rfl, ?uM0⟩) (by assumption) ?rM0
  case uM0 => (intro w hSw; (try dsimp only at hSw); go_simp; (try with_reducible rfl))
  simp only [Act.put, List.setIfInBounds_toArray, List.set_cons_zero, List.set_cons_succ]
  refine wpAnyH_take (i := 1) (oi := { dst := some 25, op := Op.move (Operand.tmp 3), type := 2, pos := _, after := #[], guard := none }) (v := ?tM1) rfl (by kernel_rfl) (by kernel_rfl) (by kernel_rfl) (fun _ _ _ h => h) (Or.inl ⟨by rfl, ?uM1⟩) (by assumption) ?rM1
  case uM1 => (intro w hSw; (try dsimp only at hSw); go_simp; (try with_reducible rfl))
  simp only [Act.put, List.setIfInBounds_toArray, List.set_cons_zero, List.set_cons_succ]
  refine wpAnyH_take (i := 2) (oi := { dst := some 26, op := Op.binOp BinOp.mul 2 (Operand.tmp 24) (Operand.tmp 25) 2, type := 2, pos := _, after := #[{ on := 0, ground := Ground.data }, { on := 1, ground := Ground.data }], guard := none }) (v := .int .i64 (a * b)) rfl (by kernel_rfl) (by kernel_rfl) (by kernel_rfl) (fun _ _ _ h => h) (Or.inl ⟨by rfl, ?uM2⟩) (by assumption) ?rM2
  case uM2 => (intro w hSw; (try dsimp only at hSw); go_simp; rw [wab.out])
  simp only [Act.put, List.setIfInBounds_toArray, List.set_cons_zero, List.set_cons_succ]
  refine wpAnyH_take (i := 3) (oi := { dst := some 27, op := Op.fieldAddr 23 (Operand.tmp 5) 0, type := 0, pos := _, after := #[], guard := none }) (v := ?tM3) rfl (by kernel_rfl) (by kernel_rfl) (by kernel_rfl) (fun _ _ _ h => h) (Or.inl ⟨by rfl, ?uM3⟩) (by assumption) ?rM3
  case uM3 => (intro w hSw; (try dsimp only at hSw); go_simp; (try with_reducible rfl))
  simp only [Act.put, List.setIfInBounds_toArray, List.set_cons_zero, List.set_cons_succ]
  refine wpAnyH_take (i := 4) (oi := { dst := some 28, op := Op.load 2 (Operand.tmp 27), type := 2, pos := _, after := #[{ on := 3, ground := Ground.data }], guard := none }) (v := ?tM4) rfl (by kernel_rfl) (by kernel_rfl) (by kernel_rfl) (fun _ _ _ h => h) (Or.inl ⟨by rfl, ?uM4⟩) (by assumption) ?rM4
  case uM4 => (intro w hSw; (try dsimp only at hSw); go_simp; (try with_reducible rfl))
  simp only [Act.put, List.setIfInBounds_toArray, List.set_cons_zero, List.set_cons_succ]
  refine wpAnyH_take (i := 5) (oi := { dst := some 29, op := Op.move (Operand.tmp 1), type := 2, pos := _, after := #[], guard := none }) (v := ?tM5) rfl (by kernel_rfl) (by kernel_rfl) (by kernel_rfl) (fun _ _ _ h => h) (Or.inl ⟨by rfl, ?uM5⟩) (by assumption) ?rM5
  case uM5 => (intro w hSw; (try dsimp only at hSw); go_simp; (try with_reducible rfl))
  simp only [Act.put, List.setIfInBounds_toArray, List.set_cons_zero, List.set_cons_succ]
  refine wpAnyH_take (i := 6) (oi := { dst := some 30, op := Op.convert 2 33 (Operand.tmp 29), type := 33, pos := _, after := #[{ on := 5, ground := Ground.data }], guard := none }) (v := ?tM6) rfl (by kernel_rfl) (by kernel_rfl) (by kernel_rfl) (fun _ _ _ h => h) (Or.inl ⟨by rfl, ?uM6⟩) (by assumption) ?rM6
  case uM6 => (intro w hSw; (try dsimp only at hSw); go_simp; (try with_reducible rfl))
  simp only [Act.put, List.setIfInBounds_toArray, List.set_cons_zero, List.set_cons_succ]
  refine wpAnyH_take (i := 7) (oi := { dst := some 31, op := Op.move (Operand.tmp 2), type := 2, pos := _, after := #[], guard := none }) (v := ?tM7) rfl (by kernel_rfl) (by kernel_rfl) (by kernel_rfl) (fun _ _ _ h => h) (Or.inl ⟨by rfl, ?uM7⟩) (by assumption) ?rM7
  case uM7 => (intro w hSw; (try dsimp only at hSw); go_simp; (try with_reducible rfl))
  simp only [Act.put, List.setIfInBounds_toArray, List.set_cons_zero, List.set_cons_succ]
  refine wpAnyH_take (i := 8) (oi := { dst := some 32, op := Op.move (Operand.tmp 3), type := 2, pos := _, after := #[], guard := none }) (v := ?tM8) rfl (by kernel_rfl) (by kernel_rfl) (by kernel_rfl) (fun _ _ _ h => h) (Or.inl ⟨by rfl, ?uM8⟩) (by assumption) ?rM8
  case uM8 => (intro w hSw; (try dsimp only at hSw); go_simp; (try with_reducible rfl))
  simp only [Act.put, List.setIfInBounds_toArray, List.set_cons_zero, List.set_cons_succ]
  refine wpAnyH_take (i := 9) (oi := { dst := some 33, op := Op.binOp BinOp.mul 2 (Operand.tmp 31) (Operand.tmp 32) 2, type := 2, pos := _, after := #[{ on := 7, ground := Ground.data }, { on := 8, ground := Ground.data }], guard := none }) (v := .int .i64 (a * b)) rfl (by kernel_rfl) (by kernel_rfl) (by kernel_rfl) (fun _ _ _ h => h) (Or.inl ⟨by rfl, ?uM9⟩) (by assumption) ?rM9
  case uM9 => (intro w hSw; (try dsimp only at hSw); go_simp; rw [wab.out])
  simp only [Act.put, List.setIfInBounds_toArray, List.set_cons_zero, List.set_cons_succ]
  refine wpAnyH_take (i := 10) (oi := { dst := some 34, op := Op.binOp BinOp.add 2 (Operand.tmp 33) (Operand.const (Value.int IntKind.i64 1)) 2, type := 2, pos := _, after := #[{ on := 9, ground := Ground.data }], guard := none }) (v := .int .i64 (a * b + 1)) rfl (by kernel_rfl) (by kernel_rfl) (by kernel_rfl) (fun _ _ _ h => h) (Or.inl ⟨by rfl, ?uM10⟩) (by assumption) ?rM10
  case uM10 => (intro w hSw; (try dsimp only at hSw); go_simp; rw [wab1.out])
  simp only [Act.put, List.setIfInBounds_toArray, List.set_cons_zero, List.set_cons_succ]
  refine wpAnyH_take (i := 11) (oi := { dst := some 35, op := Op.convert 2 33 (Operand.tmp 34), type := 33, pos := _, after := #[{ on := 10, ground := Ground.data }], guard := none }) (v := .int .u64 (a * b + 1)) rfl (by kernel_rfl) (by kernel_rfl) (by kernel_rfl) (fun _ _ _ h => h) (Or.inl ⟨by rfl, ?uM11⟩) (by assumption) ?rM11
  case uM11 => (intro w hSw; (try dsimp only at hSw); go_simp; rw [wu.out])
  simp only [Act.put, List.setIfInBounds_toArray, List.set_cons_zero, List.set_cons_succ]
  refine wpAnyH_take (i := 12) (oi := { dst := some 36, op := Op.binOp BinOp.rem 33 (Operand.tmp 30) (Operand.tmp 35) 33, type := 33, pos := _, after := #[{ on := 6, ground := Ground.data }, { on := 11, ground := Ground.data }], guard := none }) (v := .int .u64 q) rfl (by kernel_rfl) (by kernel_rfl) (by kernel_rfl) (fun _ _ _ h => h) (Or.inl ⟨by rfl, ?uM12⟩) (by assumption) ?rM12
  case uM12 => (intro w hSw; (try dsimp only at hSw); go_simp; rw [if_neg hn0.out, eq0.out])
  simp only [Act.put, List.setIfInBounds_toArray, List.set_cons_zero, List.set_cons_succ]
  refine wpAnyH_take (i := 13) (oi := { dst := some 37, op := Op.convert 33 2 (Operand.tmp 36), type := 2, pos := _, after := #[{ on := 12, ground := Ground.data }], guard := none }) (v := .int .i64 q) rfl (by kernel_rfl) (by kernel_rfl) (by kernel_rfl) (fun _ _ _ h => h) (Or.inl ⟨by rfl, ?uM13⟩) (by assumption) ?rM13
  case uM13 => (intro w hSw; (try dsimp only at hSw); go_simp; rw [wq.out])
  simp only [Act.put, List.setIfInBounds_toArray, List.set_cons_zero, List.set_cons_succ]
  refine wpAnyH_take (i := 14) (oi := { dst := some 38, op := Op.binOp BinOp.add 2 (Operand.tmp 28) (Operand.tmp 37) 2, type := 2, pos := _, after := #[{ on := 4, ground := Ground.data }, { on := 13, ground := Ground.data }], guard := none }) (v := .int .i64 (L + q)) rfl (by kernel_rfl) (by kernel_rfl) (by kernel_rfl) (fun _ _ _ h => h) (Or.inl ⟨by rfl, ?uM14⟩) (by assumption) ?rM14
  case uM14 => (intro w hSw; (try dsimp only at hSw); go_simp; rw [wlq.out])
  simp only [Act.put, List.setIfInBounds_toArray, List.set_cons_zero, List.set_cons_succ]
  refine wpAnyH_take (i := 15) (oi := { dst := some 39, op := Op.call { callee := Callee.builtin Builtin.min, args := #[Operand.tmp 26, Operand.tmp 38], argTypes := #[2, 2] }, type := 2, pos := _, after := #[{ on := 2, ground := Ground.data }, { on := 14, ground := Ground.data }], guard := none }) (v := .int .i64 (min (a * b) (L + q))) rfl (by kernel_rfl) (by kernel_rfl) (by kernel_rfl) (fun _ _ _ h => h) (Or.inl ⟨by rfl, ?uM15⟩) (by assumption) ?rM15
  case uM15 => (intro w hSw; (try dsimp only at hSw); go_simp; (split <;> omega))
  simp only [Act.put, List.setIfInBounds_toArray, List.set_cons_zero, List.set_cons_succ]
  refine wpAnyH_take (i := 16) (oi := { dst := some 40, op := Op.fieldAddr 23 (Operand.tmp 11) 0, type := 0, pos := _, after := #[{ on := 0, ground := Ground.phase }, { on := 1, ground := Ground.phase }, { on := 2, ground := Ground.phase }, { on := 3, ground := Ground.phase }, { on := 4, ground := Ground.phase }, { on := 5, ground := Ground.phase }, { on := 6, ground := Ground.phase }, { on := 7, ground := Ground.phase }, { on := 8, ground := Ground.phase }, { on := 9, ground := Ground.phase }, { on := 10, ground := Ground.phase }, { on := 11, ground := Ground.phase }, { on := 12, ground := Ground.phase }, { on := 13, ground := Ground.phase }, { on := 14, ground := Ground.phase }, { on := 15, ground := Ground.phase }], guard := none }) (v := ?tM16) rfl (by kernel_rfl) (by kernel_rfl) (by kernel_rfl) (fun _ _ _ h => h) (Or.inl ⟨by rfl, ?uM16⟩) (by assumption) ?rM16
  case uM16 => (intro w hSw; (try dsimp only at hSw); go_simp; (try with_reducible rfl))
  simp only [Act.put, List.setIfInBounds_toArray, List.set_cons_zero, List.set_cons_succ]
  refine wpAnyH_ready (rs := [17]) (by kernel_rfl) (by simp) ?_
  refine AllReadyH.cons (o := { dst := none, op := Op.store 2 (Operand.tmp 40) (Operand.tmp 39), type := 0, pos := _, after := #[{ on := 16, ground := Ground.data }, { on := 15, ground := Ground.data }, { on := 0, ground := Ground.phase }, { on := 1, ground := Ground.phase }, { on := 2, ground := Ground.phase }, { on := 3, ground := Ground.phase }, { on := 4, ground := Ground.phase }, { on := 5, ground := Ground.phase }, { on := 6, ground := Ground.phase }, { on := 7, ground := Ground.phase }, { on := 8, ground := Ground.phase }, { on := 9, ground := Ground.phase }, { on := 10, ground := Ground.phase }, { on := 11, ground := Ground.phase }, { on := 12, ground := Ground.phase }, { on := 13, ground := Ground.phase }, { on := 14, ground := Ground.phase }, { on := 15, ground := Ground.phase }], guard := none }) rfl (fun K hK => ?_) AllReadyH.nil
  go_simp
  refine hK.out _ _ (three_at ((Below.refl _ _).drew)) (fun _ => ?_)
  refine wpAnyH_done (by kernel_rfl) ?_ _
  clear HS wab wab1 wu wq wlq eq0 hn0 hHeld
  have M0 : Mo L l (min (a * b) (L + q)) l a b := mo_start (HF.out l x7 x8) (by omega) (by omega) (by omega)
  generalize min (a * b) (L + q) = X at *
  have R0 := Lib.hid (show Mo L l X l a b ∧ Bk (((w.alloc (.cells #[.int .i64 L, .int .i64 l] 23)).alloc o).alloc (.cells #[.int .i64 X, .int .i64 l] 23)) w.heap.size #[.int .i64 L, .int .i64 l] 23 ∧ Bk (((w.alloc (.cells #[.int .i64 L, .int .i64 l] 23)).alloc o).alloc (.cells #[.int .i64 X, .int .i64 l] 23)) (w.heap.size + 1 + 1) #[.int .i64 X, .int .i64 l] 23 ∧ Below w.heap.size w (((w.alloc (.cells #[.int .i64 L, .int .i64 l] 23)).alloc o).alloc (.cells #[.int .i64 X, .int .i64 l] 23)) from ⟨M0, ((Bk.new w _ _).alloc _).alloc _, bk_new3 w _ _ _ _, below_al (below2 w _ _)⟩)
  clear M0
  go_wp2_with fail
  go_loopw [12, 13, 14, 15, 16, 45] (fun sn _ _ _ _ si wr => ∃ (j : Nat) (Ls k Lx lx : Int), sn = .int .i64 k ∧ si = .int .i64 j ∧ j ≤ zs.length ∧ Hid (Mo Ls k Lx lx a b ∧ Bk wr w.heap.size #[.int .i64 Ls, .int .i64 k] 23 ∧ Bk wr (w.heap.size + 1 + 1) #[.int .i64 Lx, .int .i64 lx] 23 ∧ Below w.heap.size w wr)) (fun _ _ _ _ _ si _ => (zs.length - intOf si).toNat)
  case atStart => exact ⟨0, L, l, X, l, rfl, rfl, Nat.zero_le _, Lib.hid ⟨R0.out.1, R0.out.2.1.drew, R0.out.2.2.1.drew, R0.out.2.2.2.drew⟩⟩
  case round =>
    obtain ⟨j, Ls, k, Lx, lx, rfl, rfl, hj, hR⟩ := hrel
    obtain ⟨mo, bs, bx, bl⟩ := hR.out
    clear hR R0
    have c0 : wr.cell? ⟨w.heap.size, 0, none⟩ = _ := bs.c 0
    have c1 : wr.cell? ⟨w.heap.size, 1, none⟩ = _ := bs.c 1
    simp at c0 c1
    have hk0 := mo.fs.l1; have hk1 := mo.fs.l2
    replace mo := Lib.hid mo; replace bs := Lib.hid bs; replace bx := Lib.hid bx; replace bl := Lib.hid bl
    by_cases hjl : j < zs.length
    · obtain ⟨g, of, rfl, hg, hgc⟩ := HZ.out j hjl
      have hgr : wr.cell? ⟨g, of + j, none⟩ = _ := (bl.out.cell hg).trans hgc
      generalize zs[j] = z at *
      clear hgc
      by_cases hi : j < 100
      · obtain ⟨t, ht, t0, t1⟩ := rem_num 999 z (by omega) (by omega)
        rw [show (999 : Int) + 1 = 1000 by omega] at ht
        have c2 : wr.cell? ⟨w.heap.size + 1 + 1, 0, none⟩ = _ := bx.out.c 0
        have c3 : wr.cell? ⟨w.heap.size + 1 + 1, 1, none⟩ = _ := bx.out.c 1
        simp at c2 c3
        by_cases hT : 1099511627776 < k + t
        · have HN : k ≤ (1099511627776 : Int) ∧ (1099511627776 : Int) ≤ 1099511627776 := by omega
          have T1 := Lib.hid (fun w' => take_b (mo.out.fs.at (m := (1099511627776 : Int)) (by omega) HN.2) w')
          rw [show max k (1099511627776 : Int) = (1099511627776 : Int) by omega] at T1
          by_cases hb : lv Ls k a b (1099511627776 : Int) < b
          · rw [if_pos hb, decide_eq_true hb] at T1
            have M2 := Lib.hid (mo.out.no HN.1 HN.2)
            generalize lv Ls k a b (1099511627776 : Int) = V at *
            go_wp2_with (go_at_call 11; with_reducible refine (T1.out _).mono ?_; rintro e w1 ⟨rfl, b1⟩; have s1 := bs.out.step b1; have x1 := bx.out.step b1; have d0 : w1.cell? ⟨w.heap.size, 0, none⟩ = _ := s1.c 0; have d1 : w1.cell? ⟨w.heap.size, 1, none⟩ = _ := s1.c 1; have d2 : w1.cell? ⟨w.heap.size + 1 + 1, 0, none⟩ = _ := x1.c 0; have d3 : w1.cell? ⟨w.heap.size + 1 + 1, 1, none⟩ = _ := x1.c 1; simp at d0 d1 d2 d3; have g0 : w1.frozen? ⟨w.heap.size, 0, none⟩ = _ := s1.f 0; have g1 : w1.frozen? ⟨w.heap.size, 1, none⟩ = _ := s1.f 1; replace s1 := Lib.hid s1; replace x1 := Lib.hid x1; have l1 := Lib.hid (below_then b1 bl.out); clear b1)
            obtain ⟨y1, y2⟩ := Bk.set2 (x0 := .int .i64 V) (x1 := .int .i64 (1099511627776 : Int)) s1.out
            exact ⟨⟨j + 1, V, (1099511627776 : Int), Lx, lx, rfl, by simp, by omega, Lib.hid ⟨M2.out, y1, (x1.out.other _ _ (by show w.heap.size + 1 + 1 ≠ w.heap.size; omega)).other _ _ (by show w.heap.size + 1 + 1 ≠ w.heap.size; omega), l1.out.trans y2⟩⟩, by simp [intOf]; omega⟩
          · rw [if_neg hb, decide_eq_false hb] at T1
            have M2 := Lib.hid (mo.out.yes HN.1 HN.2 hb)
            have T2 := Lib.hid (fun w' => take_b (mo.out.fx.at (m := (1099511627776 : Int)) (by omega) HN.2) w')
            have hbx : ¬ lv Lx lx a b (1099511627776 : Int) < b := by have := mo.out.lv HN.1; omega
            rw [if_neg hbx, decide_eq_false hbx, show max lx (1099511627776 : Int) = (1099511627776 : Int) by have := mo.out.le; omega] at T2
            generalize lv Ls k a b (1099511627776 : Int) - b = V at *
            generalize lv Lx lx a b (1099511627776 : Int) - b = U at *
            go_wp2_with (first | (go_at_call 11; with_reducible refine (T1.out _).mono ?_; rintro e w1 ⟨rfl, b1⟩; have s1 := bs.out.step b1; have x1 := bx.out.step b1; have d0 : w1.cell? ⟨w.heap.size, 0, none⟩ = _ := s1.c 0; have d1 : w1.cell? ⟨w.heap.size, 1, none⟩ = _ := s1.c 1; have d2 : w1.cell? ⟨w.heap.size + 1 + 1, 0, none⟩ = _ := x1.c 0; have d3 : w1.cell? ⟨w.heap.size + 1 + 1, 1, none⟩ = _ := x1.c 1; simp at d0 d1 d2 d3; have g0 : w1.frozen? ⟨w.heap.size, 0, none⟩ = _ := s1.f 0; have g1 : w1.frozen? ⟨w.heap.size, 1, none⟩ = _ := s1.f 1; replace s1 := Lib.hid s1; replace x1 := Lib.hid x1; have l1 := Lib.hid (below_then b1 bl.out); clear b1) | (go_at_call 11; with_reducible refine (T2.out _).mono ?_; rintro e w2 ⟨rfl, b2⟩; obtain ⟨y1, y2⟩ := Bk.set2 (x0 := .int .i64 V) (x1 := .int .i64 (1099511627776 : Int)) s1.out; have z1 := (x1.out.other ⟨w.heap.size, 0, none⟩ (.int .i64 V) (by show w.heap.size + 1 + 1 ≠ w.heap.size; omega)).other ⟨w.heap.size, 1, none⟩ (.int .i64 (1099511627776 : Int)) (by show w.heap.size + 1 + 1 ≠ w.heap.size; omega); have s3 := y1.step b2; have x3 := z1.step b2; have v0 : w2.cell? ⟨w.heap.size + 1 + 1, 0, none⟩ = _ := x3.c 0; have v1 : w2.cell? ⟨w.heap.size + 1 + 1, 1, none⟩ = _ := x3.c 1; simp at v0 v1; have h0 : w2.frozen? ⟨w.heap.size + 1 + 1, 0, none⟩ = _ := x3.f 0; have h1 : w2.frozen? ⟨w.heap.size + 1 + 1, 1, none⟩ = _ := x3.f 1; have l2 := Lib.hid (below_then b2 (l1.out.trans y2)); replace s3 := Lib.hid s3; replace x3 := Lib.hid x3; clear y1 y2 z1 b2))
            obtain ⟨y1, y2⟩ := Bk.set2 (x0 := .int .i64 U) (x1 := .int .i64 (1099511627776 : Int)) x3.out
            exact ⟨⟨j + 1, V, (1099511627776 : Int), U, (1099511627776 : Int), rfl, by simp, by omega, Lib.hid ⟨M2.out, (s3.out.other _ _ (by show w.heap.size ≠ w.heap.size + 1 + 1; omega)).other _ _ (by show w.heap.size ≠ w.heap.size + 1 + 1; omega), y1, l2.out.trans (y2.mono (by omega))⟩⟩, by simp [intOf]; omega⟩
        · have HN : k ≤ (k + t) ∧ (k + t) ≤ 1099511627776 := by omega
          have T1 := Lib.hid (fun w' => take_b (mo.out.fs.at (m := (k + t)) (by omega) HN.2) w')
          rw [show max k (k + t) = (k + t) by omega] at T1
          by_cases hb : lv Ls k a b (k + t) < b
          · rw [if_pos hb, decide_eq_true hb] at T1
            have M2 := Lib.hid (mo.out.no HN.1 HN.2)
            generalize lv Ls k a b (k + t) = V at *
            go_wp2_with (go_at_call 11; with_reducible refine (T1.out _).mono ?_; rintro e w1 ⟨rfl, b1⟩; have s1 := bs.out.step b1; have x1 := bx.out.step b1; have d0 : w1.cell? ⟨w.heap.size, 0, none⟩ = _ := s1.c 0; have d1 : w1.cell? ⟨w.heap.size, 1, none⟩ = _ := s1.c 1; have d2 : w1.cell? ⟨w.heap.size + 1 + 1, 0, none⟩ = _ := x1.c 0; have d3 : w1.cell? ⟨w.heap.size + 1 + 1, 1, none⟩ = _ := x1.c 1; simp at d0 d1 d2 d3; have g0 : w1.frozen? ⟨w.heap.size, 0, none⟩ = _ := s1.f 0; have g1 : w1.frozen? ⟨w.heap.size, 1, none⟩ = _ := s1.f 1; replace s1 := Lib.hid s1; replace x1 := Lib.hid x1; have l1 := Lib.hid (below_then b1 bl.out); clear b1)
            obtain ⟨y1, y2⟩ := Bk.set2 (x0 := .int .i64 V) (x1 := .int .i64 (k + t)) s1.out
            exact ⟨⟨j + 1, V, (k + t), Lx, lx, rfl, by simp, by omega, Lib.hid ⟨M2.out, y1, (x1.out.other _ _ (by show w.heap.size + 1 + 1 ≠ w.heap.size; omega)).other _ _ (by show w.heap.size + 1 + 1 ≠ w.heap.size; omega), l1.out.trans y2⟩⟩, by simp [intOf]; omega⟩
          · rw [if_neg hb, decide_eq_false hb] at T1
            have M2 := Lib.hid (mo.out.yes HN.1 HN.2 hb)
            have T2 := Lib.hid (fun w' => take_b (mo.out.fx.at (m := (k + t)) (by omega) HN.2) w')
            have hbx : ¬ lv Lx lx a b (k + t) < b := by have := mo.out.lv HN.1; omega
            rw [if_neg hbx, decide_eq_false hbx, show max lx (k + t) = (k + t) by have := mo.out.le; omega] at T2
            generalize lv Ls k a b (k + t) - b = V at *
            generalize lv Lx lx a b (k + t) - b = U at *
            go_wp2_with (first | (go_at_call 11; with_reducible refine (T1.out _).mono ?_; rintro e w1 ⟨rfl, b1⟩; have s1 := bs.out.step b1; have x1 := bx.out.step b1; have d0 : w1.cell? ⟨w.heap.size, 0, none⟩ = _ := s1.c 0; have d1 : w1.cell? ⟨w.heap.size, 1, none⟩ = _ := s1.c 1; have d2 : w1.cell? ⟨w.heap.size + 1 + 1, 0, none⟩ = _ := x1.c 0; have d3 : w1.cell? ⟨w.heap.size + 1 + 1, 1, none⟩ = _ := x1.c 1; simp at d0 d1 d2 d3; have g0 : w1.frozen? ⟨w.heap.size, 0, none⟩ = _ := s1.f 0; have g1 : w1.frozen? ⟨w.heap.size, 1, none⟩ = _ := s1.f 1; replace s1 := Lib.hid s1; replace x1 := Lib.hid x1; have l1 := Lib.hid (below_then b1 bl.out); clear b1) | (go_at_call 11; with_reducible refine (T2.out _).mono ?_; rintro e w2 ⟨rfl, b2⟩; obtain ⟨y1, y2⟩ := Bk.set2 (x0 := .int .i64 V) (x1 := .int .i64 (k + t)) s1.out; have z1 := (x1.out.other ⟨w.heap.size, 0, none⟩ (.int .i64 V) (by show w.heap.size + 1 + 1 ≠ w.heap.size; omega)).other ⟨w.heap.size, 1, none⟩ (.int .i64 (k + t)) (by show w.heap.size + 1 + 1 ≠ w.heap.size; omega); have s3 := y1.step b2; have x3 := z1.step b2; have v0 : w2.cell? ⟨w.heap.size + 1 + 1, 0, none⟩ = _ := x3.c 0; have v1 : w2.cell? ⟨w.heap.size + 1 + 1, 1, none⟩ = _ := x3.c 1; simp at v0 v1; have h0 : w2.frozen? ⟨w.heap.size + 1 + 1, 0, none⟩ = _ := x3.f 0; have h1 : w2.frozen? ⟨w.heap.size + 1 + 1, 1, none⟩ = _ := x3.f 1; have l2 := Lib.hid (below_then b2 (l1.out.trans y2)); replace s3 := Lib.hid s3; replace x3 := Lib.hid x3; clear y1 y2 z1 b2))
            obtain ⟨y1, y2⟩ := Bk.set2 (x0 := .int .i64 U) (x1 := .int .i64 (k + t)) x3.out
            exact ⟨⟨j + 1, V, (k + t), U, (k + t), rfl, by simp, by omega, Lib.hid ⟨M2.out, (s3.out.other _ _ (by show w.heap.size ≠ w.heap.size + 1 + 1; omega)).other _ _ (by show w.heap.size ≠ w.heap.size + 1 + 1; omega), y1, l2.out.trans (y2.mono (by omega))⟩⟩, by simp [intOf]; omega⟩
      · go_wp2_with (go_at_call 10; refine (awake_any _).mono ?_; rintro e w2 ⟨rfl, b2⟩)
        go_ret
        exact ⟨rfl, below_then b2 bl.out⟩
    · go_wp2_with (go_at_call 10; refine (awake_any _).mono ?_; rintro e w2 ⟨rfl, b2⟩)
      go_ret
      exact ⟨rfl, below_then b2 bl.out⟩

set_option maxRecDepth 100000 in
set_option maxHeartbeats 2000000 in
theorem law_more (L l m a b : Int) (ad : Option Addr) (zs : List Int) (cap : Nat) (w : World) (hz : ∀ j (h : j < zs.length), ∃ g of, ad = some ⟨g, of, none⟩ ∧ g < w.heap.size ∧ w.cell? ⟨g, of + j, none⟩ = some (.int .i64 zs[j])) : Calls Try.prog 6 #[.agg #[.int .i64 L, .int .i64 l], .int .i64 m, .int .i64 a, .int .i64 b, .slice ad zs.length cap] w fun e w' => e = .returned (.bool true) ∧ Below w.heap.size w w' := by
  by_cases hf : fitB L l a b = true
  · exact more_in L l m a b ad zs cap w hf hz
  · have KF := Lib.hid (fun w' => rfit_any L l a b w')
    rw [show fitB L l a b = false by simpa using hf] at KF
    clear hf hz
    go_enter Try.func6, Try.ntmps6
    go_wp2_with (first
      | (go_at_call 8; with_reducible refine (KF.out _).mono ?_; rintro e w1 ⟨rfl, o, rfl⟩)
      | (go_at_call 10; refine (awake_any _).mono ?_; rintro e w1 ⟨rfl, b1⟩))
    go_ret
    refine ⟨rfl, below_then b1 ?_⟩
    repeat (with_reducible first | exact Below.refl _ _ | apply below_al | apply Below.drew)
end Go.Proofs.Ytbaalkkhbcclnaa
