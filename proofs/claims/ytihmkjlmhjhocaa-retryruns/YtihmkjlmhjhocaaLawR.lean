/- For any results and any number of tries the law RetryRuns answers true; the conditions: the row in memory, its bodies trees in memory. -/
import Derived.Test.YtihmkjlmhjhocaaYg
import Derived.Deep.RegionHeld3
namespace Go.Proofs.Ytihmkjlmhjhocaa
open Go.RowKit

/-- Cells of a list that may be written. -/
def Wl (w : World) (L B : Nat) (a : Option Addr) (n : Nat) : Prop := n = 0 ∨ ∃ g o, a = some ⟨g, o, none⟩ ∧ L ≤ g ∧ g < B ∧ (∀ q, w.frozen? ⟨g, q, none⟩ = false) ∧ ∀ j, j < n → ∃ v, w.cell? ⟨g, o + j * 5, none⟩ = some v
theorem Wl.step {w w' : World} {L B : Nat} {a : Option Addr} {n : Nat} (h : Wl w L B a n) (hb : Below B w w') : Wl w' L B a n := by
  rcases h with h | ⟨g, o, e, h1, h2, h3, h4⟩
  · exact .inl h
  · exact .inr ⟨g, o, e, h1, h2, fun q => (Dt.frozen_heap (hb.block g h2)).trans (h3 q), fun j hj => by
      obtain ⟨v, hv⟩ := h4 j hj
      exact ⟨v, (hb.cell (p := ⟨g, _, none⟩) h2).trans hv⟩⟩
theorem Wl.set {w : World} {L B g o : Nat} {n : Nat} (h : Wl w L B (some ⟨g, o, none⟩) n) (p : Nat) (v : Value) : Wl (w.setCell ⟨g, p, none⟩ v) L B (some ⟨g, o, none⟩) n := by
  rcases h with h | ⟨g', o', e, h1, h2, h3, h4⟩
  · exact .inl h
  · cases e
    refine .inr ⟨g, o, rfl, h1, h2, fun q => by rw [World.frozen?_setCell]; exact h3 q, fun j hj => ?_⟩
    obtain ⟨x, hx⟩ := h4 j hj
    by_cases e : p = o + j * 5
    · subst e; exact ⟨v, by simp [World.cell?_setCell_same, hx]⟩
    · exact ⟨x, by rw [World.cell?_setCell_other]; exact hx; simp only [ne_eq, Addr.mk.injEq]; omega⟩
theorem wrapQ (n : Int) (h : -9223372036854775808 ≤ n ∧ n ≤ 9223372036854775807) : IntKind.i64.wrap n = n := by
  have h1 : IntKind.i64.bits = 64 := rfl
  have h2 : IntKind.i64.signed = true := rfl
  unfold IntKind.wrap
  simp only [h1, h2, Bool.true_and, decide_eq_true_eq]
  split <;> omega
theorem nt_facts {w : World} {x : Re} {k i u : Int} {s : ByteArray} {a : Option Addr} {n c L : Nat} {w' : World} (h : Nt w x k i u s a n c L w') : Wl w' L w'.heap.size a n ∧ n ≤ maxLen := by
  obtain ⟨m, t, hB, hr⟩ := h
  match m, t, hB, hr with
  | m + 1, t, _, ⟨ad, cap, e, _, h2, h3, h4⟩ =>
    simp only [List.cons.injEq, Value.slice.injEq, and_true] at e
    obtain ⟨-, -, -, -, rfl, rfl, rfl⟩ := e
    refine ⟨?_, by omega⟩
    rcases h4 with h4 | ⟨g, o, e1, ⟨h5, h6⟩, h7⟩
    · exact .inl (by rw [h4]; rfl)
    · exact .inr ⟨g, o, e1, h5.1, h5.2, h6, fun j hj => by
        obtain ⟨v0, _, _, _, _, c0, -⟩ := h7 j _ (List.getElem?_eq_getElem hj)
        exact ⟨v0, c0⟩⟩
theorem same_nt {w : World} {x : Re} {k i u : Int} {s : ByteArray} {a : Option Addr} {n c L : Nat} {w' : World} (hN : Nt w x k i u s a n c L w') (hb : Below w.heap.size w w') (wx : World) (hx : Below w'.heap.size w' wx) :
    Calls Try.prog 14 #[.agg #[.int .i64 x.er, .int .i64 x.co, .int .i64 x.pk, .int .i64 x.pn, .bool x.has, .int .i64 k, .int .i64 i, .int .u64 u, .string s, .slice a n c], .agg #[.int .i64 x.er, .int .i64 x.co, .int .i64 x.pk, .int .i64 x.pn, .bool x.has, .int .i64 x.k, .int .i64 x.i, .int .u64 x.u, .string x.s, .slice x.a x.n x.c]] wx fun e w'' => e = .returned (.bool true) ∧ Below wx.heap.size wx w'' := by
  obtain ⟨m, t, hB, hr⟩ := hN
  exact same_res x m t k i u s a n c x.k x.i x.u x.s x.a x.n x.c wx (Dt.Rep.below hx m _ _ (Dt.Rf.rep m _ _ hr)) (Dt.Rep.below (hb.trans (hx.mono hb.size)) m _ _ hB)

set_option maxRecDepth 100000 in
set_option maxHeartbeats 2000000 in
theorem runs_bad (tries : Int) (ad : Option Addr) (zs : List Re) (cap : Nat) (vb : Re → Bool) (w : World) (hreach : zs.length ≤ 9223372036854775807) (hI : Rrow w ad zs) (hV : VbOf w zs vb) (hv : zs.all vb = false) :
    Calls Try.prog 4 #[.int .i64 tries, .slice ad zs.length cap] w fun e w' => e = .returned (.bool true) ∧ Below w.heap.size w w' := by
  have HV := Lib.hid (valid_any ad zs cap vb w hreach hI hV)
  rw [hv] at HV
  clear hV hI
  have BB := Below.refl w.heap.size w
  go_enter Try.func4, Try.ntmps4
  go_wp2_with (first | (go_at_call 11; refine (HV.out _ BB).mono ?_; rintro e w1 ⟨rfl, b1⟩; replace BB := BB.trans (b1.mono BB.size); clear b1) | (go_at_call 8; refine (awake_any _).mono ?_; rintro e w3 ⟨rfl, b3⟩; replace BB := BB.trans (b3.mono BB.size); clear b3))
  go_ret
  exact ⟨rfl, BB⟩

set_option maxRecDepth 100000 in
set_option maxHeartbeats 8000000 in
theorem runs_good (tries : Int) (ad : Option Addr) (zs : List Re) (cap : Nat) (vb : Re → Bool) (w : World) (hreach : zs.length ≤ 9223372036854775807) (hcap : zs.length ≤ cap) (hI : Rrow w ad zs) (hV : VbOf w zs vb) (hv : zs.all vb = true) (hB : ∀ x ∈ zs, ∃ (n : Nat) (t : Dt.Tr n), Bt w x n t ∧ (Dt.pts n t).1 ≤ 4096) :
    Calls Try.prog 4 #[.int .i64 tries, .slice ad zs.length cap] w fun e w' => e = .returned (.bool true) ∧ Below w.heap.size w w' := by
  have HV := Lib.hid (valid_any ad zs cap vb w hreach hI hV)
  rw [hv] at HV
  have HR := Lib.hid (run_valid tries ad zs cap w hreach hcap hI hB)
  have HI := Lib.hid hI
  have HQ : Hid (∀ m x wx, Below w.heap.size w wx → Md (most tries zs.length) zs m x → Calls Try.prog 13 #[.int .i64 tries, .slice ad zs.length cap] wx fun e w' => e = .returned (.int .i64 ((m : Int) - 1)) ∧ Below wx.heap.size wx w') := Lib.hid fun m x wx hx hm => rrun_any tries ad zs cap m x wx hreach (by
    rcases hI with h | ⟨b, o, e, h1, h2⟩
    · exact .inl h
    · exact .inr ⟨b, o, e, Nat.lt_of_lt_of_le h1 hx.size, fun j x hj => (h2 j x hj).below hx h1⟩) hm
  clear hV hI hB
  go_enter Try.func4, Try.ntmps4
  go_wp2_with fail
  refine (HV.out _ (Below.refl _ _)).mono ?_
  rintro e w1 ⟨rfl, b1⟩
  go_wp2_with fail
  refine (HR.out _ b1).mono ?_
  rintro e w2 ⟨m, x, k, i, u, s, a, n, c, L, hMd, rfl, hL, hN, b2⟩
  cases m with
  | zero =>
    have B2 : Below w.heap.size w w2 := b1.trans (b2.mono b1.size)
    obtain ⟨hW, hn⟩ := nt_facts hN
    unfold maxLen at hn
    have HSm := Lib.hid (same_nt hN B2)
    have HW := Lib.hid hW
    have HM := Lib.hid hMd
    have HL := Lib.hid (And.intro hL b1.size)
    have R3 := Bk.new w2 #[.int .i64 x.er, .int .i64 x.co, .int .i64 x.pk, .int .i64 x.pn, .bool x.has, .int .i64 k, .int .i64 i, .int .u64 u, .string s, .slice a n c] 30
    have b3 := below1 w2 (.cells #[.int .i64 x.er, .int .i64 x.co, .int .i64 x.pk, .int .i64 x.pn, .bool x.has, .int .i64 k, .int .i64 i, .int .u64 u, .string s, .slice a n c] 30)
    have B3 : Below w.heap.size w (w2.alloc (.cells #[.int .i64 x.er, .int .i64 x.co, .int .i64 x.pk, .int .i64 x.pn, .bool x.has, .int .i64 k, .int .i64 i, .int .u64 u, .string s, .slice a n c] 30)) := B2.trans (b3.mono B2.size)
    have HQ2 := Lib.hid (HQ.out _ x _ B3 hMd)
    have hx0 := hMd.zero rfl
    have HS0 : Hid (∀ wx, Below w2.heap.size w2 wx → Calls Try.prog 14 #[.agg #[.int .i64 x.er, .int .i64 x.co, .int .i64 x.pk, .int .i64 x.pn, .bool x.has, .int .i64 k, .int .i64 i, .int .u64 u, .string s, .slice a n c], .agg #[.int .i64 0, .int .i64 0, .int .i64 0, .int .i64 0, .bool false, .int .i64 0, .int .i64 0, .int .u64 0, .string ⟨#[]⟩, .slice none 0 0]] wx fun e w'' => e = .returned (.bool true) ∧ Below wx.heap.size wx w'') := Lib.hid fun wx hx => by
      have h := same_nt hN B2 wx hx
      subst hx0
      exact h
    clear hx0
    simp only [Int.natCast_zero, Int.zero_sub] at HQ2 ⊢
    clear hW hMd hL hN b1 b2 HR HQ B2
    go_wp2_with fail
    refine HQ2.out.mono ?_
    rintro e w4 ⟨rfl, b4⟩
    have R4 := R3.step b4
    have B4 : Below w.heap.size w w4 := B3.trans (b4.mono B3.size)
    have D4 : Below w2.heap.size w2 w4 := b3.trans (b4.mono b3.size)
    clear R3 b3 B3 b4 HQ2
    go_wp2_with fail
    have KS : Hid (∀ wx, Bk wx w2.heap.size #[.int .i64 x.er, .int .i64 x.co, .int .i64 x.pk, .int .i64 x.pn, .bool x.has, .int .i64 k, .int .i64 i, .int .u64 u, .string s, .slice a n c] 30 → Below w.heap.size w wx → wx.cell? ⟨w2.heap.size, 0, none⟩ = some (.int .i64 x.er) ∧ wx.cell? ⟨w2.heap.size, 1, none⟩ = some (.int .i64 x.co) ∧ wx.cell? ⟨w2.heap.size, 2, none⟩ = some (.int .i64 x.pk) ∧ wx.cell? ⟨w2.heap.size, 3, none⟩ = some (.int .i64 x.pn) ∧ wx.cell? ⟨w2.heap.size, 4, none⟩ = some (.bool x.has) ∧ wx.cell? ⟨w2.heap.size, 5, none⟩ = some (.int .i64 k) ∧ wx.cell? ⟨w2.heap.size, 6, none⟩ = some (.int .i64 i) ∧ wx.cell? ⟨w2.heap.size, 7, none⟩ = some (.int .u64 u) ∧ wx.cell? ⟨w2.heap.size, 8, none⟩ = some (.string s) ∧ wx.cell? ⟨w2.heap.size, 9, none⟩ = some (.slice a n c)) := Lib.hid fun wx r bb => r.c10
    have R5 := Bk.drew R4
    have B5 : Below w.heap.size w w4.drew := B4.drew
    have D5 : Below w2.heap.size w2 w4.drew := D4.drew
    clear R4 B4 D4
    refine wp_region_held_drew (S := (fun wx => wx.cell? ⟨w2.heap.size, 0, none⟩ = some (.int .i64 x.er) ∧ wx.cell? ⟨w2.heap.size, 1, none⟩ = some (.int .i64 x.co) ∧ wx.cell? ⟨w2.heap.size, 2, none⟩ = some (.int .i64 x.pk) ∧ wx.cell? ⟨w2.heap.size, 3, none⟩ = some (.int .i64 x.pn) ∧ wx.cell? ⟨w2.heap.size, 4, none⟩ = some (.bool x.has) ∧ wx.cell? ⟨w2.heap.size, 5, none⟩ = some (.int .i64 k) ∧ wx.cell? ⟨w2.heap.size, 6, none⟩ = some (.int .i64 i) ∧ wx.cell? ⟨w2.heap.size, 7, none⟩ = some (.int .u64 u) ∧ wx.cell? ⟨w2.heap.size, 8, none⟩ = some (.string s) ∧ wx.cell? ⟨w2.heap.size, 9, none⟩ = some (.slice a n c))) (by kernel_rfl) (KS.out _ R5 B5) (fun hHeld => ?_)
    generalize w4.drew = w5 at *
    refine wpAnyH_take (i := 0) (oi := { dst := some 23, op := Op.move (Operand.tmp 6), type := 3, pos := "law.go:34", after := #[], guard := none }) (v := ?tZ0) rfl (by kernel_rfl) (by kernel_rfl) (by kernel_rfl) (fun _ _ _ h => h) (Or.inl ⟨by rfl, ?uZ0⟩) (by assumption) ?rZ0
    case uZ0 => (intro w hSw; (try dsimp only at hSw); go_simp; (try with_reducible rfl))
    simp only [Act.put, List.setIfInBounds_toArray, List.set_cons_zero, List.set_cons_succ]
    refine wpAnyH_take (i := 1) (oi := { dst := some 24, op := Op.move (Operand.tmp 7), type := 3, pos := "law.go:34", after := #[], guard := none }) (v := ?tZ1) rfl (by kernel_rfl) (by kernel_rfl) (by kernel_rfl) (fun _ _ _ h => h) (Or.inl ⟨by rfl, ?uZ1⟩) (by assumption) ?rZ1
    case uZ1 => (intro w hSw; (try dsimp only at hSw); go_simp; (try with_reducible rfl))
    simp only [Act.put, List.setIfInBounds_toArray, List.set_cons_zero, List.set_cons_succ]
    refine wpAnyH_take (i := 2) (oi := { dst := some 25, op := Op.binOp BinOp.add 3 (Operand.tmp 24) (Operand.const (Value.int IntKind.i64 1)) 3, type := 3, pos := "law.go:34", after := #[{ on := 1, ground := Ground.data }], guard := none }) (v := .int .i64 0) rfl (by kernel_rfl) (by kernel_rfl) (by kernel_rfl) (fun _ _ _ h => h) (Or.inl ⟨by rfl, ?uZ2⟩) (by assumption) ?rZ2
    case uZ2 => (intro w hSw; (try dsimp only at hSw); go_simp; (try with_reducible rfl); (try decide))
    simp only [Act.put, List.setIfInBounds_toArray, List.set_cons_zero, List.set_cons_succ]
    refine wpAnyH_take (i := 3) (oi := { dst := some 26, op := Op.binOp BinOp.neq 3 (Operand.tmp 23) (Operand.tmp 25) 3, type := 4, pos := "law.go:34", after := #[{ on := 0, ground := Ground.data }, { on := 2, ground := Ground.data }], guard := none }) (v := .bool false) rfl (by kernel_rfl) (by kernel_rfl) (by kernel_rfl) (fun _ _ _ h => h) (Or.inl ⟨by rfl, ?uZ3⟩) (by assumption) ?rZ3
    case uZ3 => (intro w hSw; (try dsimp only at hSw); go_simp; (try with_reducible rfl))
    simp only [Act.put, List.setIfInBounds_toArray, List.set_cons_zero, List.set_cons_succ]
    refine wpAnyH_take (i := 4) (oi := { dst := some 27, op := Op.move (Operand.tmp 26), type := 4, pos := "law.go:34", after := #[{ on := 3, ground := Ground.data }], guard := none }) (v := ?tZ4) rfl (by kernel_rfl) (by kernel_rfl) (by kernel_rfl) (fun _ _ _ h => h) (Or.inl ⟨by rfl, ?uZ4⟩) (by assumption) ?rZ4
    case uZ4 => (intro w hSw; (try dsimp only at hSw); go_simp; (try with_reducible rfl))
    simp only [Act.put, List.setIfInBounds_toArray, List.set_cons_zero, List.set_cons_succ]
    refine wpAnyH_take (i := 5) (oi := { dst := some 28, op := Op.move (Operand.tmp 7), type := 3, pos := "law.go:34", after := #[{ on := 4, ground := Ground.guard }], guard := some (4, false) }) (v := ?tZ5) rfl (by kernel_rfl) (by kernel_rfl) (by kernel_rfl) (fun _ _ _ h => h) (Or.inl ⟨by rfl, ?uZ5⟩) (by assumption) ?rZ5
    case uZ5 => (intro w hSw; (try dsimp only at hSw); go_simp; (try with_reducible rfl))
    simp only [Act.put, List.setIfInBounds_toArray, List.set_cons_zero, List.set_cons_succ]
    refine wpAnyH_take (i := 6) (oi := { dst := some 29, op := Op.binOp BinOp.lss 3 (Operand.tmp 28) (Operand.const (Value.int IntKind.i64 0)) 3, type := 4, pos := "law.go:34", after := #[{ on := 5, ground := Ground.data }, { on := 4, ground := Ground.guard }], guard := some (4, false) }) (v := .bool true) rfl (by kernel_rfl) (by kernel_rfl) (by kernel_rfl) (fun _ _ _ h => h) (Or.inl ⟨by rfl, ?uZ6⟩) (by assumption) ?rZ6
    case uZ6 => (intro w hSw; (try dsimp only at hSw); go_simp; (try with_reducible rfl))
    simp only [Act.put, List.setIfInBounds_toArray, List.set_cons_zero, List.set_cons_succ]
    refine wpAnyH_take (i := 7) (oi := { dst := some 30, op := Op.move (Operand.tmp 29), type := 4, pos := "law.go:34", after := #[{ on := 6, ground := Ground.data }, { on := 4, ground := Ground.chain }, { on := 4, ground := Ground.guard }], guard := some (4, false) }) (v := ?tZ7) rfl (by kernel_rfl) (by kernel_rfl) (by kernel_rfl) (fun _ _ _ h => h) (Or.inl ⟨by rfl, ?uZ7⟩) (by assumption) ?rZ7
    case uZ7 => (intro w hSw; (try dsimp only at hSw); go_simp; (try with_reducible rfl))
    simp only [Act.put, List.setIfInBounds_toArray, List.set_cons_zero, List.set_cons_succ]
    refine wpAnyH_take (i := 8) (oi := { dst := some 31, op := Op.load 30 (Operand.tmp 5), type := 30, pos := "law.go:34", after := #[{ on := 7, ground := Ground.guard }], guard := some (7, true) }) (v := ?tZ8) rfl (by kernel_rfl) (by kernel_rfl) (by kernel_rfl) (fun _ _ _ h => h) (Or.inl ⟨by rfl, ?uZ8⟩) (by assumption) ?rZ8
    case uZ8 => (intro w hSw; (try dsimp only at hSw); go_simp; (try with_reducible rfl))
    simp only [Act.put, List.setIfInBounds_toArray, List.set_cons_zero, List.set_cons_succ]
    refine wpAnyH_take (i := 9) (oi := { dst := some 32, op := Op.build 30 #[], type := 30, pos := "law.go:34", after := #[{ on := 7, ground := Ground.guard }], guard := some (7, true) }) (v := ?tZ9) rfl (by kernel_rfl) (by kernel_rfl) (by kernel_rfl) (fun _ _ _ h => h) (Or.inl ⟨by rfl, ?uZ9⟩) (by assumption) ?rZ9
    case uZ9 => (intro w hSw; (try dsimp only at hSw); go_simp; (try with_reducible rfl))
    simp only [Act.put, List.setIfInBounds_toArray, List.set_cons_zero, List.set_cons_succ]
    refine wpAnyH_ready (rs := [10]) (by kernel_rfl) (by simp) ?_
    refine AllReadyH.cons (o := { dst := some 33, op := Op.call { callee := Callee.value (Operand.func 14), args := #[Operand.tmp 31, Operand.tmp 32], argTypes := #[30, 30] }, type := 4, pos := "law.go:34", after := #[{ on := 8, ground := Ground.data }, { on := 9, ground := Ground.data }, { on := 7, ground := Ground.chain }, { on := 7, ground := Ground.guard }], guard := some (7, true) }) rfl (fun K hK => ?_) AllReadyH.nil
    go_simp
    refine (HS0.out _ D5).mono ?_
    rintro e w6 ⟨rfl, b6⟩
    have R6 := R5.step b6
    have B6 : Below w.heap.size w w6 := B5.trans (b6.mono B5.size)
    have D6 : Below w2.heap.size w2 w6 := D5.trans (b6.mono D5.size)
    clear R5 B5 D5 b6
    refine hK.out _ _ (KS.out _ R6 B6) (fun hHeld => ?_)
    (try simp only [Act.put, List.setIfInBounds_toArray, List.set_cons_zero, List.set_cons_succ])
    refine wpAnyH_take (i := 11) (oi := { dst := some 34, op := Op.unOp UnOp.not 4 (Operand.tmp 33), type := 4, pos := "law.go:34", after := #[{ on := 10, ground := Ground.data }, { on := 7, ground := Ground.guard }], guard := some (7, true) }) (v := ?tZ11) rfl (by kernel_rfl) (by kernel_rfl) (by kernel_rfl) (fun _ _ _ h => h) (Or.inl ⟨by rfl, ?uZ11⟩) (by assumption) ?rZ11
    case uZ11 => (intro w hSw; (try dsimp only at hSw); go_simp; (try with_reducible rfl))
    simp only [Act.put, List.setIfInBounds_toArray, List.set_cons_zero, List.set_cons_succ]
    refine wpAnyH_take (i := 12) (oi := { dst := some 35, op := Op.pick (Operand.tmp 30) (Operand.tmp 34) (Operand.const (Value.bool false)), type := 4, pos := "law.go:34", after := #[{ on := 7, ground := Ground.data }, { on := 11, ground := Ground.data }, { on := 4, ground := Ground.guard }], guard := some (4, false) }) (v := ?tZ12) rfl (by kernel_rfl) (by kernel_rfl) (by kernel_rfl) (fun _ _ _ h => h) (Or.inl ⟨by rfl, ?uZ12⟩) (by assumption) ?rZ12
    case uZ12 => (intro w hSw; (try dsimp only at hSw); go_simp; (try with_reducible rfl))
    simp only [Act.put, List.setIfInBounds_toArray, List.set_cons_zero, List.set_cons_succ]
    refine wpAnyH_take (i := 13) (oi := { dst := some 36, op := Op.pick (Operand.tmp 27) (Operand.const (Value.bool true)) (Operand.tmp 35), type := 4, pos := "law.go:34", after := #[{ on := 4, ground := Ground.data }, { on := 12, ground := Ground.data }], guard := none }) (v := ?tZ13) rfl (by kernel_rfl) (by kernel_rfl) (by kernel_rfl) (fun _ _ _ h => h) (Or.inl ⟨by rfl, ?uZ13⟩) (by assumption) ?rZ13
    case uZ13 => (intro w hSw; (try dsimp only at hSw); go_simp; (try with_reducible rfl))
    simp only [Act.put, List.setIfInBounds_toArray, List.set_cons_zero, List.set_cons_succ]
    refine wpAnyH_take (i := 14) (oi := { dst := some 37, op := Op.move (Operand.tmp 36), type := 4, pos := "law.go:34", after := #[{ on := 13, ground := Ground.data }, { on := 10, ground := Ground.chain }], guard := none }) (v := ?tZ14) rfl (by kernel_rfl) (by kernel_rfl) (by kernel_rfl) (fun _ _ _ h => h) (Or.inl ⟨by rfl, ?uZ14⟩) (by assumption) ?rZ14
    case uZ14 => (intro w hSw; (try dsimp only at hSw); go_simp; (try with_reducible rfl))
    simp only [Act.put, List.setIfInBounds_toArray, List.set_cons_zero, List.set_cons_succ]
    refine wpAnyH_take (i := 15) (oi := { dst := some 38, op := Op.move (Operand.tmp 7), type := 3, pos := "law.go:34", after := #[{ on := 14, ground := Ground.guard }], guard := some (14, false) }) (v := ?tZ15) rfl (by kernel_rfl) (by kernel_rfl) (by kernel_rfl) (fun _ _ _ h => h) (Or.inl ⟨by rfl, ?uZ15⟩) (by assumption) ?rZ15
    case uZ15 => (intro w hSw; (try dsimp only at hSw); go_simp; (try with_reducible rfl))
    simp only [Act.put, List.setIfInBounds_toArray, List.set_cons_zero, List.set_cons_succ]
    refine wpAnyH_take (i := 16) (oi := { dst := some 39, op := Op.binOp BinOp.geq 3 (Operand.tmp 38) (Operand.const (Value.int IntKind.i64 0)) 3, type := 4, pos := "law.go:34", after := #[{ on := 15, ground := Ground.data }, { on := 14, ground := Ground.guard }], guard := some (14, false) }) (v := .bool false) rfl (by kernel_rfl) (by kernel_rfl) (by kernel_rfl) (fun _ _ _ h => h) (Or.inl ⟨by rfl, ?uZ16⟩) (by assumption) ?rZ16
    case uZ16 => (intro w hSw; (try dsimp only at hSw); go_simp; (try with_reducible rfl))
    simp only [Act.put, List.setIfInBounds_toArray, List.set_cons_zero, List.set_cons_succ]
    refine wpAnyH_take (i := 17) (oi := { dst := some 40, op := Op.move (Operand.tmp 39), type := 4, pos := "law.go:34", after := #[{ on := 16, ground := Ground.data }, { on := 14, ground := Ground.chain }, { on := 14, ground := Ground.guard }], guard := some (14, false) }) (v := ?tZ17) rfl (by kernel_rfl) (by kernel_rfl) (by kernel_rfl) (fun _ _ _ h => h) (Or.inl ⟨by rfl, ?uZ17⟩) (by assumption) ?rZ17
    case uZ17 => (intro w hSw; (try dsimp only at hSw); go_simp; (try with_reducible rfl))
    simp only [Act.put, List.setIfInBounds_toArray, List.set_cons_zero, List.set_cons_succ]
    refine wpAnyH_take (i := 18) (oi := { dst := some 41, op := Op.load 30 (Operand.tmp 5), type := 30, pos := "law.go:34", after := #[{ on := 17, ground := Ground.guard }], guard := some (17, true) }) (v := undef) rfl (by kernel_rfl) (by kernel_rfl) (by kernel_rfl) (fun _ _ _ h => h) (Or.inr ⟨by rfl, rfl⟩) (by assumption) ?_
    (try simp only [Act.put, List.setIfInBounds_toArray, List.set_cons_zero, List.set_cons_succ])
    refine wpAnyH_take (i := 19) (oi := { dst := some 42, op := Op.move (Operand.tmp 1), type := 34, pos := "law.go:34", after := #[{ on := 17, ground := Ground.guard }], guard := some (17, true) }) (v := undef) rfl (by kernel_rfl) (by kernel_rfl) (by kernel_rfl) (fun _ _ _ h => h) (Or.inr ⟨by rfl, rfl⟩) (by assumption) ?_
    (try simp only [Act.put, List.setIfInBounds_toArray, List.set_cons_zero, List.set_cons_succ])
    refine wpAnyH_take (i := 20) (oi := { dst := some 43, op := Op.move (Operand.tmp 7), type := 3, pos := "law.go:34", after := #[{ on := 17, ground := Ground.guard }], guard := some (17, true) }) (v := undef) rfl (by kernel_rfl) (by kernel_rfl) (by kernel_rfl) (fun _ _ _ h => h) (Or.inr ⟨by rfl, rfl⟩) (by assumption) ?_
    (try simp only [Act.put, List.setIfInBounds_toArray, List.set_cons_zero, List.set_cons_succ])
    refine wpAnyH_take (i := 21) (oi := { dst := some 44, op := Op.indexAddr 34 (Operand.tmp 42) (Operand.tmp 43), type := 0, pos := "law.go:34", after := #[{ on := 19, ground := Ground.data }, { on := 20, ground := Ground.data }, { on := 17, ground := Ground.guard }], guard := some (17, true) }) (v := undef) rfl (by kernel_rfl) (by kernel_rfl) (by kernel_rfl) (fun _ _ _ h => h) (Or.inr ⟨by rfl, rfl⟩) (by assumption) ?_
    (try simp only [Act.put, List.setIfInBounds_toArray, List.set_cons_zero, List.set_cons_succ])
    refine wpAnyH_take (i := 22) (oi := { dst := some 45, op := Op.load 30 (Operand.tmp 44), type := 30, pos := "law.go:34", after := #[{ on := 21, ground := Ground.data }, { on := 17, ground := Ground.guard }], guard := some (17, true) }) (v := undef) rfl (by kernel_rfl) (by kernel_rfl) (by kernel_rfl) (fun _ _ _ h => h) (Or.inr ⟨by rfl, rfl⟩) (by assumption) ?_
    (try simp only [Act.put, List.setIfInBounds_toArray, List.set_cons_zero, List.set_cons_succ])
    refine wpAnyH_take (i := 23) (oi := { dst := some 46, op := Op.call { callee := Callee.value (Operand.func 14), args := #[Operand.tmp 41, Operand.tmp 45], argTypes := #[30, 30] }, type := 4, pos := "law.go:34", after := #[{ on := 18, ground := Ground.data }, { on := 22, ground := Ground.data }, { on := 17, ground := Ground.chain }, { on := 17, ground := Ground.guard }], guard := some (17, true) }) (v := undef) rfl (by kernel_rfl) (by kernel_rfl) (by kernel_rfl) (fun _ _ _ h => h) (Or.inr ⟨by rfl, rfl⟩) (by assumption) ?_
    (try simp only [Act.put, List.setIfInBounds_toArray, List.set_cons_zero, List.set_cons_succ])
    refine wpAnyH_take (i := 24) (oi := { dst := some 47, op := Op.unOp UnOp.not 4 (Operand.tmp 46), type := 4, pos := "law.go:34", after := #[{ on := 23, ground := Ground.data }, { on := 17, ground := Ground.guard }], guard := some (17, true) }) (v := undef) rfl (by kernel_rfl) (by kernel_rfl) (by kernel_rfl) (fun _ _ _ h => h) (Or.inr ⟨by rfl, rfl⟩) (by assumption) ?_
    (try simp only [Act.put, List.setIfInBounds_toArray, List.set_cons_zero, List.set_cons_succ])
    refine wpAnyH_take (i := 25) (oi := { dst := some 48, op := Op.pick (Operand.tmp 40) (Operand.tmp 47) (Operand.const (Value.bool false)), type := 4, pos := "law.go:34", after := #[{ on := 17, ground := Ground.data }, { on := 24, ground := Ground.data }, { on := 14, ground := Ground.guard }], guard := some (14, false) }) (v := ?tZ25) rfl (by kernel_rfl) (by kernel_rfl) (by kernel_rfl) (fun _ _ _ h => h) (Or.inl ⟨by rfl, ?uZ25⟩) (by assumption) ?rZ25
    case uZ25 => (intro w hSw; (try dsimp only at hSw); go_simp; (try with_reducible rfl))
    simp only [Act.put, List.setIfInBounds_toArray, List.set_cons_zero, List.set_cons_succ]
    refine wpAnyH_take (i := 26) (oi := { dst := some 49, op := Op.pick (Operand.tmp 37) (Operand.const (Value.bool true)) (Operand.tmp 48), type := 4, pos := "law.go:34", after := #[{ on := 14, ground := Ground.data }, { on := 25, ground := Ground.data }], guard := none }) (v := ?tZ26) rfl (by kernel_rfl) (by kernel_rfl) (by kernel_rfl) (fun _ _ _ h => h) (Or.inl ⟨by rfl, ?uZ26⟩) (by assumption) ?rZ26
    case uZ26 => (intro w hSw; (try dsimp only at hSw); go_simp; (try with_reducible rfl))
    simp only [Act.put, List.setIfInBounds_toArray, List.set_cons_zero, List.set_cons_succ]
    refine wpAnyH_done (by kernel_rfl) ?_ _
    go_wp2_with fail
    go_loopw [8] (fun si wr => ∃ (j : Nat), si = .int .i64 j ∧ j = 0 ∧ Bk wr w2.heap.size #[.int .i64 x.er, .int .i64 x.co, .int .i64 x.pk, .int .i64 x.pn, .bool x.has, .int .i64 k, .int .i64 i, .int .u64 u, .string s, .slice a n c] 30 ∧ Below w.heap.size w wr ∧ Below w2.heap.size w2 wr) (fun si _ => 0 - (intOf si).toNat)
    case atStart => exact ⟨0, rfl, rfl, R6, B6, D6⟩
    case round =>
      obtain ⟨j, rfl, hj, R7, B7, D7⟩ := hrel
      subst hj
      go_wp2_with fail
      have W7 := HW.out.step D7
      go_loopw [9] (fun si wr => ∃ (j : Nat), si = .int .i64 j ∧ j ≤ n ∧ Bk wr w2.heap.size #[.int .i64 x.er, .int .i64 x.co, .int .i64 x.pk, .int .i64 x.pn, .bool x.has, .int .i64 k, .int .i64 i, .int .u64 u, .string s, .slice a n c] 30 ∧ Below w.heap.size w wr ∧ Wl wr L w2.heap.size a n) (fun si _ => n - (intOf si).toNat)
      case atStart => exact ⟨0, rfl, Nat.zero_le _, R7, B7, W7⟩
      case round =>
        clear R7 B7 D7 W7
        obtain ⟨p, rfl, hp, R8, B8, W8⟩ := hrel
        have y9 := R8.c 9
        by_cases hpn : p < n
        · rcases W8 with h | ⟨g, o, rfl, g1, g2, g3, g4⟩
          · omega
          obtain ⟨v, hv⟩ := g4 p hpn
          have W9 := Lib.hid (Wl.set (.inr ⟨g, o, rfl, g1, g2, g3, g4⟩) (o + p * 5) (.int .i64 77))
          have f9 := g3 (o + p * 5)
          have p0 : (0 : Int) ≤ (p : Int) := by omega
          have p1 : (p : Int) < (n : Int) := by omega
          clear g3 g4
          go_wp2_with fail
          refine ⟨⟨p + 1, by go_num, by omega, R8.other _ _ (by simp; omega), B8.setCell (p := ⟨g, o + p * 5, none⟩) (by have := HL.out; simp; omega) _, W9.out⟩, by simp [intOf]; omega⟩
        · have hpe : p = n := by omega
          subst hpe
          go_wp2_with (first | (go_at_call 11; refine (HV.out _ B8).mono ?_; rintro e w9 ⟨rfl, b9⟩; replace B8 := B8.trans (b9.mono B8.size); clear b9) | (go_at_call 8; refine (awake_any _).mono ?_; rintro e w9 ⟨rfl, b9⟩; replace B8 := B8.trans (b9.mono B8.size); clear b9))
          go_ret
          exact ⟨rfl, B8⟩
  | succ q =>
    have B2 : Below w.heap.size w w2 := b1.trans (b2.mono b1.size)
    obtain ⟨hW, hn⟩ := nt_facts hN
    unfold maxLen at hn
    have HSm := Lib.hid (same_nt hN B2)
    have HW := Lib.hid hW
    have HM := Lib.hid hMd
    have HL := Lib.hid (And.intro hL b1.size)
    have R3 := Bk.new w2 #[.int .i64 x.er, .int .i64 x.co, .int .i64 x.pk, .int .i64 x.pn, .bool x.has, .int .i64 k, .int .i64 i, .int .u64 u, .string s, .slice a n c] 30
    have b3 := below1 w2 (.cells #[.int .i64 x.er, .int .i64 x.co, .int .i64 x.pk, .int .i64 x.pn, .bool x.has, .int .i64 k, .int .i64 i, .int .u64 u, .string s, .slice a n c] 30)
    have B3 : Below w.heap.size w (w2.alloc (.cells #[.int .i64 x.er, .int .i64 x.co, .int .i64 x.pk, .int .i64 x.pn, .bool x.has, .int .i64 k, .int .i64 i, .int .u64 u, .string s, .slice a n c] 30)) := B2.trans (b3.mono B2.size)
    have HQ2 := Lib.hid (HQ.out _ x _ B3 hMd)
    have hqz := hMd.last (by omega)
    simp only [Nat.add_sub_cancel] at hqz
    have hql : q < zs.length := (List.getElem?_eq_some_iff.1 hqz).1
    simp only [Int.natCast_add, Int.natCast_one, Int.add_sub_cancel] at HQ2 ⊢
    rcases HI.out with h | ⟨b, o, rfl, h1, h2⟩
    · rw [h] at hql; simp at hql
    have HX := Lib.hid (h2 q x hqz)
    have hq0 : (0 : Int) ≤ (q : Int) := by omega
    have hq1 : (q : Int) < (zs.length : Int) := by omega
    have HWr : Hid (IntKind.i64.wrap ((q : Int) + 1) = (q : Int) + 1) := Lib.hid (wrapQ _ (by omega))
    clear h2 hqz
    clear hW hMd hL hN b1 b2 HR HQ B2
    go_wp2_with fail
    refine HQ2.out.mono ?_
    rintro e w4 ⟨rfl, b4⟩
    have R4 := R3.step b4
    have B4 : Below w.heap.size w w4 := B3.trans (b4.mono B3.size)
    have D4 : Below w2.heap.size w2 w4 := b3.trans (b4.mono b3.size)
    clear R3 b3 B3 b4 HQ2
    go_wp2_with fail
    have KS : Hid (∀ wx, Bk wx w2.heap.size #[.int .i64 x.er, .int .i64 x.co, .int .i64 x.pk, .int .i64 x.pn, .bool x.has, .int .i64 k, .int .i64 i, .int .u64 u, .string s, .slice a n c] 30 → Below w.heap.size w wx → (wx.cell? ⟨w2.heap.size, 0, none⟩ = some (.int .i64 x.er) ∧ wx.cell? ⟨w2.heap.size, 1, none⟩ = some (.int .i64 x.co) ∧ wx.cell? ⟨w2.heap.size, 2, none⟩ = some (.int .i64 x.pk) ∧ wx.cell? ⟨w2.heap.size, 3, none⟩ = some (.int .i64 x.pn) ∧ wx.cell? ⟨w2.heap.size, 4, none⟩ = some (.bool x.has) ∧ wx.cell? ⟨w2.heap.size, 5, none⟩ = some (.int .i64 k) ∧ wx.cell? ⟨w2.heap.size, 6, none⟩ = some (.int .i64 i) ∧ wx.cell? ⟨w2.heap.size, 7, none⟩ = some (.int .u64 u) ∧ wx.cell? ⟨w2.heap.size, 8, none⟩ = some (.string s) ∧ wx.cell? ⟨w2.heap.size, 9, none⟩ = some (.slice a n c)) ∧ (wx.cell? ⟨b, o + q * 10, none⟩ = some (.int .i64 x.er) ∧ wx.cell? ⟨b, o + q * 10 + 1, none⟩ = some (.int .i64 x.co) ∧ wx.cell? ⟨b, o + q * 10 + 2, none⟩ = some (.int .i64 x.pk) ∧ wx.cell? ⟨b, o + q * 10 + 3, none⟩ = some (.int .i64 x.pn) ∧ wx.cell? ⟨b, o + q * 10 + 4, none⟩ = some (.bool x.has) ∧ wx.cell? ⟨b, o + q * 10 + 5, none⟩ = some (.int .i64 x.k) ∧ wx.cell? ⟨b, o + q * 10 + 6, none⟩ = some (.int .i64 x.i) ∧ wx.cell? ⟨b, o + q * 10 + 7, none⟩ = some (.int .u64 x.u) ∧ wx.cell? ⟨b, o + q * 10 + 8, none⟩ = some (.string x.s) ∧ wx.cell? ⟨b, o + q * 10 + 9, none⟩ = some (.slice x.a x.n x.c))) := Lib.hid fun wx r bb => ⟨r.c10, HX.out.below bb h1⟩
    have R5 := Bk.drew R4
    have B5 : Below w.heap.size w w4.drew := B4.drew
    have D5 : Below w2.heap.size w2 w4.drew := D4.drew
    clear R4 B4 D4
    refine wp_region_held_drew (S := (fun wx => (wx.cell? ⟨w2.heap.size, 0, none⟩ = some (.int .i64 x.er) ∧ wx.cell? ⟨w2.heap.size, 1, none⟩ = some (.int .i64 x.co) ∧ wx.cell? ⟨w2.heap.size, 2, none⟩ = some (.int .i64 x.pk) ∧ wx.cell? ⟨w2.heap.size, 3, none⟩ = some (.int .i64 x.pn) ∧ wx.cell? ⟨w2.heap.size, 4, none⟩ = some (.bool x.has) ∧ wx.cell? ⟨w2.heap.size, 5, none⟩ = some (.int .i64 k) ∧ wx.cell? ⟨w2.heap.size, 6, none⟩ = some (.int .i64 i) ∧ wx.cell? ⟨w2.heap.size, 7, none⟩ = some (.int .u64 u) ∧ wx.cell? ⟨w2.heap.size, 8, none⟩ = some (.string s) ∧ wx.cell? ⟨w2.heap.size, 9, none⟩ = some (.slice a n c)) ∧ (wx.cell? ⟨b, o + q * 10, none⟩ = some (.int .i64 x.er) ∧ wx.cell? ⟨b, o + q * 10 + 1, none⟩ = some (.int .i64 x.co) ∧ wx.cell? ⟨b, o + q * 10 + 2, none⟩ = some (.int .i64 x.pk) ∧ wx.cell? ⟨b, o + q * 10 + 3, none⟩ = some (.int .i64 x.pn) ∧ wx.cell? ⟨b, o + q * 10 + 4, none⟩ = some (.bool x.has) ∧ wx.cell? ⟨b, o + q * 10 + 5, none⟩ = some (.int .i64 x.k) ∧ wx.cell? ⟨b, o + q * 10 + 6, none⟩ = some (.int .i64 x.i) ∧ wx.cell? ⟨b, o + q * 10 + 7, none⟩ = some (.int .u64 x.u) ∧ wx.cell? ⟨b, o + q * 10 + 8, none⟩ = some (.string x.s) ∧ wx.cell? ⟨b, o + q * 10 + 9, none⟩ = some (.slice x.a x.n x.c)))) (by kernel_rfl) (KS.out _ R5 B5) (fun hHeld => ?_)
    generalize w4.drew = w5 at *
    refine wpAnyH_take (i := 0) (oi := { dst := some 23, op := Op.move (Operand.tmp 6), type := 3, pos := "law.go:34", after := #[], guard := none }) (v := ?tP0) rfl (by kernel_rfl) (by kernel_rfl) (by kernel_rfl) (fun _ _ _ h => h) (Or.inl ⟨by rfl, ?uP0⟩) (by assumption) ?rP0
    case uP0 => (intro w hSw; (try dsimp only at hSw); go_simp; (try with_reducible rfl))
    simp only [Act.put, List.setIfInBounds_toArray, List.set_cons_zero, List.set_cons_succ]
    refine wpAnyH_take (i := 1) (oi := { dst := some 24, op := Op.move (Operand.tmp 7), type := 3, pos := "law.go:34", after := #[], guard := none }) (v := ?tP1) rfl (by kernel_rfl) (by kernel_rfl) (by kernel_rfl) (fun _ _ _ h => h) (Or.inl ⟨by rfl, ?uP1⟩) (by assumption) ?rP1
    case uP1 => (intro w hSw; (try dsimp only at hSw); go_simp; (try with_reducible rfl))
    simp only [Act.put, List.setIfInBounds_toArray, List.set_cons_zero, List.set_cons_succ]
    refine wpAnyH_take (i := 2) (oi := { dst := some 25, op := Op.binOp BinOp.add 3 (Operand.tmp 24) (Operand.const (Value.int IntKind.i64 1)) 3, type := 3, pos := "law.go:34", after := #[{ on := 1, ground := Ground.data }], guard := none }) (v := .int .i64 ((q : Int) + 1)) rfl (by kernel_rfl) (by kernel_rfl) (by kernel_rfl) (fun _ _ _ h => h) (Or.inl ⟨by rfl, ?uP2⟩) (by assumption) ?rP2
    case uP2 => (intro w hSw; (try dsimp only at hSw); go_simp; (try with_reducible rfl); (try exact HWr.out))
    simp only [Act.put, List.setIfInBounds_toArray, List.set_cons_zero, List.set_cons_succ]
    refine wpAnyH_take (i := 3) (oi := { dst := some 26, op := Op.binOp BinOp.neq 3 (Operand.tmp 23) (Operand.tmp 25) 3, type := 4, pos := "law.go:34", after := #[{ on := 0, ground := Ground.data }, { on := 2, ground := Ground.data }], guard := none }) (v := .bool false) rfl (by kernel_rfl) (by kernel_rfl) (by kernel_rfl) (fun _ _ _ h => h) (Or.inl ⟨by rfl, ?uP3⟩) (by assumption) ?rP3
    case uP3 => (intro w hSw; (try dsimp only at hSw); go_simp; (try with_reducible rfl))
    simp only [Act.put, List.setIfInBounds_toArray, List.set_cons_zero, List.set_cons_succ]
    refine wpAnyH_take (i := 4) (oi := { dst := some 27, op := Op.move (Operand.tmp 26), type := 4, pos := "law.go:34", after := #[{ on := 3, ground := Ground.data }], guard := none }) (v := ?tP4) rfl (by kernel_rfl) (by kernel_rfl) (by kernel_rfl) (fun _ _ _ h => h) (Or.inl ⟨by rfl, ?uP4⟩) (by assumption) ?rP4
    case uP4 => (intro w hSw; (try dsimp only at hSw); go_simp; (try with_reducible rfl))
    simp only [Act.put, List.setIfInBounds_toArray, List.set_cons_zero, List.set_cons_succ]
    refine wpAnyH_take (i := 5) (oi := { dst := some 28, op := Op.move (Operand.tmp 7), type := 3, pos := "law.go:34", after := #[{ on := 4, ground := Ground.guard }], guard := some (4, false) }) (v := ?tP5) rfl (by kernel_rfl) (by kernel_rfl) (by kernel_rfl) (fun _ _ _ h => h) (Or.inl ⟨by rfl, ?uP5⟩) (by assumption) ?rP5
    case uP5 => (intro w hSw; (try dsimp only at hSw); go_simp; (try with_reducible rfl))
    simp only [Act.put, List.setIfInBounds_toArray, List.set_cons_zero, List.set_cons_succ]
    refine wpAnyH_take (i := 6) (oi := { dst := some 29, op := Op.binOp BinOp.lss 3 (Operand.tmp 28) (Operand.const (Value.int IntKind.i64 0)) 3, type := 4, pos := "law.go:34", after := #[{ on := 5, ground := Ground.data }, { on := 4, ground := Ground.guard }], guard := some (4, false) }) (v := .bool false) rfl (by kernel_rfl) (by kernel_rfl) (by kernel_rfl) (fun _ _ _ h => h) (Or.inl ⟨by rfl, ?uP6⟩) (by assumption) ?rP6
    case uP6 => (intro w hSw; (try dsimp only at hSw); go_simp; (try with_reducible rfl))
    simp only [Act.put, List.setIfInBounds_toArray, List.set_cons_zero, List.set_cons_succ]
    refine wpAnyH_take (i := 7) (oi := { dst := some 30, op := Op.move (Operand.tmp 29), type := 4, pos := "law.go:34", after := #[{ on := 6, ground := Ground.data }, { on := 4, ground := Ground.chain }, { on := 4, ground := Ground.guard }], guard := some (4, false) }) (v := ?tP7) rfl (by kernel_rfl) (by kernel_rfl) (by kernel_rfl) (fun _ _ _ h => h) (Or.inl ⟨by rfl, ?uP7⟩) (by assumption) ?rP7
    case uP7 => (intro w hSw; (try dsimp only at hSw); go_simp; (try with_reducible rfl))
    simp only [Act.put, List.setIfInBounds_toArray, List.set_cons_zero, List.set_cons_succ]
    refine wpAnyH_take (i := 8) (oi := { dst := some 31, op := Op.load 30 (Operand.tmp 5), type := 30, pos := "law.go:34", after := #[{ on := 7, ground := Ground.guard }], guard := some (7, true) }) (v := undef) rfl (by kernel_rfl) (by kernel_rfl) (by kernel_rfl) (fun _ _ _ h => h) (Or.inr ⟨by rfl, rfl⟩) (by assumption) ?_
    (try simp only [Act.put, List.setIfInBounds_toArray, List.set_cons_zero, List.set_cons_succ])
    refine wpAnyH_take (i := 9) (oi := { dst := some 32, op := Op.build 30 #[], type := 30, pos := "law.go:34", after := #[{ on := 7, ground := Ground.guard }], guard := some (7, true) }) (v := undef) rfl (by kernel_rfl) (by kernel_rfl) (by kernel_rfl) (fun _ _ _ h => h) (Or.inr ⟨by rfl, rfl⟩) (by assumption) ?_
    (try simp only [Act.put, List.setIfInBounds_toArray, List.set_cons_zero, List.set_cons_succ])
    refine wpAnyH_take (i := 10) (oi := { dst := some 33, op := Op.call { callee := Callee.value (Operand.func 14), args := #[Operand.tmp 31, Operand.tmp 32], argTypes := #[30, 30] }, type := 4, pos := "law.go:34", after := #[{ on := 8, ground := Ground.data }, { on := 9, ground := Ground.data }, { on := 7, ground := Ground.chain }, { on := 7, ground := Ground.guard }], guard := some (7, true) }) (v := undef) rfl (by kernel_rfl) (by kernel_rfl) (by kernel_rfl) (fun _ _ _ h => h) (Or.inr ⟨by rfl, rfl⟩) (by assumption) ?_
    (try simp only [Act.put, List.setIfInBounds_toArray, List.set_cons_zero, List.set_cons_succ])
    refine wpAnyH_take (i := 11) (oi := { dst := some 34, op := Op.unOp UnOp.not 4 (Operand.tmp 33), type := 4, pos := "law.go:34", after := #[{ on := 10, ground := Ground.data }, { on := 7, ground := Ground.guard }], guard := some (7, true) }) (v := undef) rfl (by kernel_rfl) (by kernel_rfl) (by kernel_rfl) (fun _ _ _ h => h) (Or.inr ⟨by rfl, rfl⟩) (by assumption) ?_
    (try simp only [Act.put, List.setIfInBounds_toArray, List.set_cons_zero, List.set_cons_succ])
    refine wpAnyH_take (i := 12) (oi := { dst := some 35, op := Op.pick (Operand.tmp 30) (Operand.tmp 34) (Operand.const (Value.bool false)), type := 4, pos := "law.go:34", after := #[{ on := 7, ground := Ground.data }, { on := 11, ground := Ground.data }, { on := 4, ground := Ground.guard }], guard := some (4, false) }) (v := ?tP12) rfl (by kernel_rfl) (by kernel_rfl) (by kernel_rfl) (fun _ _ _ h => h) (Or.inl ⟨by rfl, ?uP12⟩) (by assumption) ?rP12
    case uP12 => (intro w hSw; (try dsimp only at hSw); go_simp; (try with_reducible rfl))
    simp only [Act.put, List.setIfInBounds_toArray, List.set_cons_zero, List.set_cons_succ]
    refine wpAnyH_take (i := 13) (oi := { dst := some 36, op := Op.pick (Operand.tmp 27) (Operand.const (Value.bool true)) (Operand.tmp 35), type := 4, pos := "law.go:34", after := #[{ on := 4, ground := Ground.data }, { on := 12, ground := Ground.data }], guard := none }) (v := ?tP13) rfl (by kernel_rfl) (by kernel_rfl) (by kernel_rfl) (fun _ _ _ h => h) (Or.inl ⟨by rfl, ?uP13⟩) (by assumption) ?rP13
    case uP13 => (intro w hSw; (try dsimp only at hSw); go_simp; (try with_reducible rfl))
    simp only [Act.put, List.setIfInBounds_toArray, List.set_cons_zero, List.set_cons_succ]
    refine wpAnyH_take (i := 14) (oi := { dst := some 37, op := Op.move (Operand.tmp 36), type := 4, pos := "law.go:34", after := #[{ on := 13, ground := Ground.data }, { on := 10, ground := Ground.chain }], guard := none }) (v := ?tP14) rfl (by kernel_rfl) (by kernel_rfl) (by kernel_rfl) (fun _ _ _ h => h) (Or.inl ⟨by rfl, ?uP14⟩) (by assumption) ?rP14
    case uP14 => (intro w hSw; (try dsimp only at hSw); go_simp; (try with_reducible rfl))
    simp only [Act.put, List.setIfInBounds_toArray, List.set_cons_zero, List.set_cons_succ]
    refine wpAnyH_take (i := 15) (oi := { dst := some 38, op := Op.move (Operand.tmp 7), type := 3, pos := "law.go:34", after := #[{ on := 14, ground := Ground.guard }], guard := some (14, false) }) (v := ?tP15) rfl (by kernel_rfl) (by kernel_rfl) (by kernel_rfl) (fun _ _ _ h => h) (Or.inl ⟨by rfl, ?uP15⟩) (by assumption) ?rP15
    case uP15 => (intro w hSw; (try dsimp only at hSw); go_simp; (try with_reducible rfl))
    simp only [Act.put, List.setIfInBounds_toArray, List.set_cons_zero, List.set_cons_succ]
    refine wpAnyH_take (i := 16) (oi := { dst := some 39, op := Op.binOp BinOp.geq 3 (Operand.tmp 38) (Operand.const (Value.int IntKind.i64 0)) 3, type := 4, pos := "law.go:34", after := #[{ on := 15, ground := Ground.data }, { on := 14, ground := Ground.guard }], guard := some (14, false) }) (v := .bool true) rfl (by kernel_rfl) (by kernel_rfl) (by kernel_rfl) (fun _ _ _ h => h) (Or.inl ⟨by rfl, ?uP16⟩) (by assumption) ?rP16
    case uP16 => (intro w hSw; (try dsimp only at hSw); go_simp; (try with_reducible rfl))
    simp only [Act.put, List.setIfInBounds_toArray, List.set_cons_zero, List.set_cons_succ]
    refine wpAnyH_take (i := 17) (oi := { dst := some 40, op := Op.move (Operand.tmp 39), type := 4, pos := "law.go:34", after := #[{ on := 16, ground := Ground.data }, { on := 14, ground := Ground.chain }, { on := 14, ground := Ground.guard }], guard := some (14, false) }) (v := ?tP17) rfl (by kernel_rfl) (by kernel_rfl) (by kernel_rfl) (fun _ _ _ h => h) (Or.inl ⟨by rfl, ?uP17⟩) (by assumption) ?rP17
    case uP17 => (intro w hSw; (try dsimp only at hSw); go_simp; (try with_reducible rfl))
    simp only [Act.put, List.setIfInBounds_toArray, List.set_cons_zero, List.set_cons_succ]
    refine wpAnyH_take (i := 18) (oi := { dst := some 41, op := Op.load 30 (Operand.tmp 5), type := 30, pos := "law.go:34", after := #[{ on := 17, ground := Ground.guard }], guard := some (17, true) }) (v := ?tP18) rfl (by kernel_rfl) (by kernel_rfl) (by kernel_rfl) (fun _ _ _ h => h) (Or.inl ⟨by rfl, ?uP18⟩) (by assumption) ?rP18
    case uP18 => (intro w hSw; (try dsimp only at hSw); go_simp; (try with_reducible rfl))
    simp only [Act.put, List.setIfInBounds_toArray, List.set_cons_zero, List.set_cons_succ]
    refine wpAnyH_take (i := 19) (oi := { dst := some 42, op := Op.move (Operand.tmp 1), type := 34, pos := "law.go:34", after := #[{ on := 17, ground := Ground.guard }], guard := some (17, true) }) (v := ?tP19) rfl (by kernel_rfl) (by kernel_rfl) (by kernel_rfl) (fun _ _ _ h => h) (Or.inl ⟨by rfl, ?uP19⟩) (by assumption) ?rP19
    case uP19 => (intro w hSw; (try dsimp only at hSw); go_simp; (try with_reducible rfl))
    simp only [Act.put, List.setIfInBounds_toArray, List.set_cons_zero, List.set_cons_succ]
    refine wpAnyH_take (i := 20) (oi := { dst := some 43, op := Op.move (Operand.tmp 7), type := 3, pos := "law.go:34", after := #[{ on := 17, ground := Ground.guard }], guard := some (17, true) }) (v := ?tP20) rfl (by kernel_rfl) (by kernel_rfl) (by kernel_rfl) (fun _ _ _ h => h) (Or.inl ⟨by rfl, ?uP20⟩) (by assumption) ?rP20
    case uP20 => (intro w hSw; (try dsimp only at hSw); go_simp; (try with_reducible rfl))
    simp only [Act.put, List.setIfInBounds_toArray, List.set_cons_zero, List.set_cons_succ]
    refine wpAnyH_take (i := 21) (oi := { dst := some 44, op := Op.indexAddr 34 (Operand.tmp 42) (Operand.tmp 43), type := 0, pos := "law.go:34", after := #[{ on := 19, ground := Ground.data }, { on := 20, ground := Ground.data }, { on := 17, ground := Ground.guard }], guard := some (17, true) }) (v := ?tP21) rfl (by kernel_rfl) (by kernel_rfl) (by kernel_rfl) (fun _ _ _ h => h) (Or.inl ⟨by rfl, ?uP21⟩) (by assumption) ?rP21
    case uP21 => (intro w hSw; (try dsimp only at hSw); go_simp; (try with_reducible rfl))
    simp only [Act.put, List.setIfInBounds_toArray, List.set_cons_zero, List.set_cons_succ]
    refine wpAnyH_take (i := 22) (oi := { dst := some 45, op := Op.load 30 (Operand.tmp 44), type := 30, pos := "law.go:34", after := #[{ on := 21, ground := Ground.data }, { on := 17, ground := Ground.guard }], guard := some (17, true) }) (v := ?tP22) rfl (by kernel_rfl) (by kernel_rfl) (by kernel_rfl) (fun _ _ _ h => h) (Or.inl ⟨by rfl, ?uP22⟩) (by assumption) ?rP22
    case uP22 => (intro w hSw; (try dsimp only at hSw); go_simp; (try with_reducible rfl))
    simp only [Act.put, List.setIfInBounds_toArray, List.set_cons_zero, List.set_cons_succ]
    refine wpAnyH_ready (rs := [23]) (by kernel_rfl) (by simp) ?_
    refine AllReadyH.cons (o := { dst := some 46, op := Op.call { callee := Callee.value (Operand.func 14), args := #[Operand.tmp 41, Operand.tmp 45], argTypes := #[30, 30] }, type := 4, pos := "law.go:34", after := #[{ on := 18, ground := Ground.data }, { on := 22, ground := Ground.data }, { on := 17, ground := Ground.chain }, { on := 17, ground := Ground.guard }], guard := some (17, true) }) rfl (fun K hK => ?_) AllReadyH.nil
    go_simp
    refine (HSm.out _ D5).mono ?_
    rintro e w6 ⟨rfl, b6⟩
    have R6 := R5.step b6
    have B6 : Below w.heap.size w w6 := B5.trans (b6.mono B5.size)
    have D6 : Below w2.heap.size w2 w6 := D5.trans (b6.mono D5.size)
    clear R5 B5 D5 b6
    refine hK.out _ _ (KS.out _ R6 B6) (fun hHeld => ?_)
    (try simp only [Act.put, List.setIfInBounds_toArray, List.set_cons_zero, List.set_cons_succ])
    refine wpAnyH_take (i := 24) (oi := { dst := some 47, op := Op.unOp UnOp.not 4 (Operand.tmp 46), type := 4, pos := "law.go:34", after := #[{ on := 23, ground := Ground.data }, { on := 17, ground := Ground.guard }], guard := some (17, true) }) (v := ?tP24) rfl (by kernel_rfl) (by kernel_rfl) (by kernel_rfl) (fun _ _ _ h => h) (Or.inl ⟨by rfl, ?uP24⟩) (by assumption) ?rP24
    case uP24 => (intro w hSw; (try dsimp only at hSw); go_simp; (try with_reducible rfl))
    simp only [Act.put, List.setIfInBounds_toArray, List.set_cons_zero, List.set_cons_succ]
    refine wpAnyH_take (i := 25) (oi := { dst := some 48, op := Op.pick (Operand.tmp 40) (Operand.tmp 47) (Operand.const (Value.bool false)), type := 4, pos := "law.go:34", after := #[{ on := 17, ground := Ground.data }, { on := 24, ground := Ground.data }, { on := 14, ground := Ground.guard }], guard := some (14, false) }) (v := ?tP25) rfl (by kernel_rfl) (by kernel_rfl) (by kernel_rfl) (fun _ _ _ h => h) (Or.inl ⟨by rfl, ?uP25⟩) (by assumption) ?rP25
    case uP25 => (intro w hSw; (try dsimp only at hSw); go_simp; (try with_reducible rfl))
    simp only [Act.put, List.setIfInBounds_toArray, List.set_cons_zero, List.set_cons_succ]
    refine wpAnyH_take (i := 26) (oi := { dst := some 49, op := Op.pick (Operand.tmp 37) (Operand.const (Value.bool true)) (Operand.tmp 48), type := 4, pos := "law.go:34", after := #[{ on := 14, ground := Ground.data }, { on := 25, ground := Ground.data }], guard := none }) (v := ?tP26) rfl (by kernel_rfl) (by kernel_rfl) (by kernel_rfl) (fun _ _ _ h => h) (Or.inl ⟨by rfl, ?uP26⟩) (by assumption) ?rP26
    case uP26 => (intro w hSw; (try dsimp only at hSw); go_simp; (try with_reducible rfl))
    simp only [Act.put, List.setIfInBounds_toArray, List.set_cons_zero, List.set_cons_succ]
    refine wpAnyH_done (by kernel_rfl) ?_ _
    go_wp2_with fail
    go_loopw [8] (fun si wr => ∃ (j : Nat), si = .int .i64 j ∧ j ≤ q ∧ Bk wr w2.heap.size #[.int .i64 x.er, .int .i64 x.co, .int .i64 x.pk, .int .i64 x.pn, .bool x.has, .int .i64 k, .int .i64 i, .int .u64 u, .string s, .slice a n c] 30 ∧ Below w.heap.size w wr ∧ Below w2.heap.size w2 wr) (fun si _ => (q + 1) - (intOf si).toNat)
    case atStart => exact ⟨0, rfl, Nat.zero_le _, R6, B6, D6⟩
    case round =>
      obtain ⟨j, rfl, hj, R7, B7, D7⟩ := hrel
      by_cases hjq : j < q
      · obtain ⟨y, hy⟩ : ∃ y, zs[j]? = some y := ⟨_, List.getElem?_eq_getElem (by omega)⟩
        have HY : Hid (agB y.er y.co y.pk = true) := Lib.hid (HM.out.ahead j y (by omega) hy)
        rcases HI.out with h | ⟨b', o', e', h1', h2'⟩
        · rw [h] at hql; simp at hql
        cases e'
        obtain ⟨x0, x1, x2, x3, x4, x5, x6, x7, x8, x9⟩ := (h2' j y hy).below B7 h1'
        have j0 : (0 : Int) ≤ (j : Int) := by omega
        have j1 : (j : Int) < (zs.length : Int) := by omega
        clear h2' hy
        go_wp2_with (go_at_call 9; refine (again_any y.er y.co y.pk y.pn y.has _ _ _ _ _ _).mono ?_; rintro e w8 ⟨rfl, b8⟩; rw [HY.out])
        exact ⟨⟨j + 1, by go_num, by omega, R7.step b8, B7.trans (b8.mono B7.size), D7.trans (b8.mono D7.size)⟩, by simp [intOf]; omega⟩
      have hje : j = q := by omega
      subst hje
      go_wp2_with fail
      have W7 := HW.out.step D7
      go_loopw [9] (fun si wr => ∃ (j : Nat), si = .int .i64 j ∧ j ≤ n ∧ Bk wr w2.heap.size #[.int .i64 x.er, .int .i64 x.co, .int .i64 x.pk, .int .i64 x.pn, .bool x.has, .int .i64 k, .int .i64 i, .int .u64 u, .string s, .slice a n c] 30 ∧ Below w.heap.size w wr ∧ Wl wr L w2.heap.size a n) (fun si _ => n - (intOf si).toNat)
      case atStart => exact ⟨0, rfl, Nat.zero_le _, R7, B7, W7⟩
      case round =>
        clear R7 B7 D7 W7
        obtain ⟨p, rfl, hp, R8, B8, W8⟩ := hrel
        have y9 := R8.c 9
        by_cases hpn : p < n
        · rcases W8 with h | ⟨g, o, rfl, g1, g2, g3, g4⟩
          · omega
          obtain ⟨v, hv⟩ := g4 p hpn
          have W9 := Lib.hid (Wl.set (.inr ⟨g, o, rfl, g1, g2, g3, g4⟩) (o + p * 5) (.int .i64 77))
          have f9 := g3 (o + p * 5)
          have p0 : (0 : Int) ≤ (p : Int) := by omega
          have p1 : (p : Int) < (n : Int) := by omega
          clear g3 g4
          go_wp2_with fail
          refine ⟨⟨p + 1, by go_num, by omega, R8.other _ _ (by simp; omega), B8.setCell (p := ⟨g, o + p * 5, none⟩) (by have := HL.out; simp; omega) _, W9.out⟩, by simp [intOf]; omega⟩
        · have hpe : p = n := by omega
          subst hpe
          go_wp2_with (first | (go_at_call 11; refine (HV.out _ B8).mono ?_; rintro e w9 ⟨rfl, b9⟩; replace B8 := B8.trans (b9.mono B8.size); clear b9) | (go_at_call 8; refine (awake_any _).mono ?_; rintro e w9 ⟨rfl, b9⟩; replace B8 := B8.trans (b9.mono B8.size); clear b9))
          go_ret
          exact ⟨rfl, B8⟩
end Go.Proofs.Ytihmkjlmhjhocaa
