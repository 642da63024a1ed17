/- The document's Load at a value of the form, by the contracts of what it calls; the conditions: those, and the value in memory. -/
import Derived.Test.YtgijdiplhcoojaaGreatDoorJaf
import Derived.Test.YtgijdiplhcoojaaGreatDoorXLd
namespace Go.Proofs.YtgijdiplhcoojaaGreatDoor.Dt
open Go.RowKit

/-- What stays while Load goes on: all below zr. -/
structure L8 (w : World) (td : Array Value) (zr : Nat) (wx : World) : Prop where
  e : Bk wx (w.heap.size + 1) zsv 27
  f : Bk wx (w.heap.size + 1 + 1) zsv 27
  t : Bk wx (w.heap.size + 1 + 1 + 1) td 25
  b : Below w.heap.size w wx
  z : zr ≤ wx.heap.size
  lt : zr = w.heap.size + 4
theorem L8.keep {w : World} {td : Array Value} {zr : Nat} {wx wy : World} (h : L8 w td zr wx) (hb : Below zr wx wy) : L8 w td zr wy := by
  have := h.lt
  exact ⟨h.e.under hb (by omega), h.f.under hb (by omega), h.t.under hb (by omega), h.b.trans (hb.mono (by omega)), Nat.le_trans h.z hb.size, h.lt⟩

set_option maxRecDepth 100000 in
set_option maxHeartbeats 4000000 in
theorem rload_by (R : Bool) (g o : Nat) (i0 u0 : Int) (s0 : ByteArray) (gh oh ch : Nat) (i1 u1 : Int) (s1 : ByteArray) (gt ot ct : Nat) (cn ac un x : Int) (k i u : Int) (s : ByteArray) (a : Option Addr) (len cap : Nat) (ki ii ui : Int) (si : ByteArray) (la : Option Addr) (ll lc : Nat) (it ut : Int) (tx : ByteArray) (c : Nat) (w : World) (h : Sh w g o 8 i0 u0 s0 gh oh ch 9 i1 u1 s1 gt ot ct cn ac un x k i u s a len cap ki ii ui si la ll lc)
    (n0 : w.cell? ⟨gh, oh, none⟩ = some (.int .i64 1)) (n1 : w.cell? ⟨gh, oh + 5, none⟩ = some (.int .i64 1)) (n2 : w.cell? ⟨gh, oh + 10, none⟩ = some (.int .i64 1)) (n3 : w.cell? ⟨gh, oh + 15, none⟩ = some (.int .i64 6)) (nq : w.cell? ⟨gt, ot + 5, none⟩ = some (.int .i64 8))
    (Q : Int → Int → Int → ByteArray → Option Addr → Nat → Nat → Option Addr → Nat → Nat → World → Prop) (L : Nat) (hL : L = w.heap.size + 4) (Qc : Nat → Int → Int → Int → ByteArray → Option Addr → Nat → Nat → Option Addr → Nat → Nat → World → Prop)
    (hQ : ∀ L k i u s a n c a' n' c' w' w'', Qc L k i u s a n c a' n' c' w' → w'.heap.size ≤ w''.heap.size → (∀ g, L ≤ g → g < w'.heap.size → w''.heap[g]? = w'.heap[g]?) → Qc L k i u s a n c a' n' c' w'') (hQQ : ∀ L k i u s a n c a' n' c' w', Qc L k i u s a n c a' n' c' w' → Q k i u s a n c a' n' c' w')
    (hC : ∀ wx, Below w.heap.size w wx → Calls Tryz.prog 31 #[.agg #[.int .i64 cn, .int .i64 ac, .int .i64 k, .int .i64 i, .int .u64 u, .string s, .slice a len cap, .slice la ll lc, .bool (x == 1), .int .i64 un]] wx fun e w' => ∃ k i u s a n c a' n' c', e = .returned (.agg #[.int .i64 cn, .int .i64 ac, .int .i64 k, .int .i64 i, .int .u64 u, .string s, .slice a n c, .slice a' n' c', .bool (x == 1), .int .i64 un]) ∧ Hid (Qc (wx.heap.size + 3) k i u s a n c a' n' c' w') ∧ Below wx.heap.size wx w')
    (hF : ∀ k i u s a n c a' n' c' wx, Q k i u s a n c a' n' c' wx → Below w.heap.size w wx → Calls Tryz.prog 6 #[.agg #[.int .i64 cn, .int .i64 ac, .int .i64 k, .int .i64 i, .int .u64 u, .string s, .slice a n c, .slice a' n' c', .bool (x == 1), .int .i64 un]] wx fun e w' => e = .returned (.bool R) ∧ Below wx.heap.size wx w') :
    Calls Tryz.prog 14 #[.agg #[.int .i64 9, .int .i64 it, .int .u64 ut, .string tx, .slice (some ⟨g, o, none⟩) 2 c]] w fun e w' => LdP R cn ac un (x == 1) Q w e w' := by
  have HSh := Lib.hid h
  have HC := Lib.hid hC
  have HF := Lib.hid hF
  have HQ := Lib.hid hQ
  have HQQ := Lib.hid hQQ
  obtain ⟨⟨l1, l2, l3⟩, ⟨h0, h1, h2, h3, h4⟩, ⟨t0, t1, t2, t3, t4⟩, ⟨m0, m1, m2, m3⟩, -⟩ := h
  clear hC hF hQ hQQ
  have l11 : g < w.heap.size + 1 := by omega
  have l12 : g < w.heap.size + 1 + 1 := by omega
  have l21 : gh < w.heap.size + 1 := by omega
  have l22 : gh < w.heap.size + 1 + 1 := by omega
  have l31 : gt < w.heap.size + 1 := by omega
  have l32 : gt < w.heap.size + 1 + 1 := by omega
  have J0 : L8 w #[.int .i64 9, .int .i64 i1, .int .u64 u1, .string s1, .slice (some ⟨gt, ot, none⟩) 2 ct] L ((((w.alloc (.cells #[.int .i64 9, .int .i64 it, .int .u64 ut, .string tx, .slice (some ⟨g, o, none⟩) 2 c] 25)).alloc (.cells zsv 27)).alloc (.cells zsv 27)).alloc (.cells #[.int .i64 9, .int .i64 i1, .int .u64 u1, .string s1, .slice (some ⟨gt, ot, none⟩) 2 ct] 25)) := by
    have e1 : Bk ((((w.alloc (.cells #[.int .i64 9, .int .i64 it, .int .u64 ut, .string tx, .slice (some ⟨g, o, none⟩) 2 c] 25)).alloc (.cells zsv 27)).alloc (.cells zsv 27)).alloc (.cells #[.int .i64 9, .int .i64 i1, .int .u64 u1, .string s1, .slice (some ⟨gt, ot, none⟩) 2 ct] 25)) (w.heap.size + 1) zsv 27 := ((Bk.new2 w _ _ _).alloc _).alloc _
    have e2 := Bk.new2 (w.alloc (.cells #[.int .i64 9, .int .i64 it, .int .u64 ut, .string tx, .slice (some ⟨g, o, none⟩) 2 c] 25)) (.cells zsv 27) zsv 27
    have e3 := Bk.new3 (w.alloc (.cells #[.int .i64 9, .int .i64 it, .int .u64 ut, .string tx, .slice (some ⟨g, o, none⟩) 2 c] 25)) (.cells zsv 27) (.cells zsv 27) #[.int .i64 9, .int .i64 i1, .int .u64 u1, .string s1, .slice (some ⟨gt, ot, none⟩) 2 ct] 25
    rw [World.size_alloc] at e2 e3
    exact ⟨e1, e2.alloc _, e3, (below3 w _ _ _).alloc (by simp; omega) _, by simp; omega, hL⟩
  go_enter Tryz.func14, Tryz.ntmps14
  go_wp2_with fail
  generalize ((((w.alloc (.cells #[.int .i64 9, .int .i64 it, .int .u64 ut, .string tx, .slice (some ⟨g, o, none⟩) 2 c] 25)).alloc (.cells zsv 27)).alloc (.cells zsv 27)).alloc (.cells #[.int .i64 9, .int .i64 i1, .int .u64 u1, .string s1, .slice (some ⟨gt, ot, none⟩) 2 ct] 25)) = w4 at *
  clear l11 l12 l21 l22 l31 l32 l1 l2 l3 h0 h1 h2 h3 h4 t0 t1 t2 t3 t4 m0 m1 m2 m3 n0 n1 n2 n3 nq
  have HV : Hid (∀ wx, L8 w #[.int .i64 9, .int .i64 i1, .int .u64 u1, .string s1, .slice (some ⟨gt, ot, none⟩) 2 ct] L wx → wx.cell? ⟨gh, oh + 1, none⟩ = some (.int .i64 cn) ∧ wx.cell? ⟨gh, oh + 5 + 1, none⟩ = some (.int .i64 ac) ∧ wx.cell? ⟨gh, oh + 10 + 1, none⟩ = some (.int .i64 un) ∧ wx.cell? ⟨gh, oh + 15 + 1, none⟩ = some (.int .i64 x) ∧ wx.cell? ⟨gt, ot, none⟩ = some (.int .i64 k) ∧ wx.cell? ⟨gt, ot + 1, none⟩ = some (.int .i64 i) ∧ wx.cell? ⟨gt, ot + 2, none⟩ = some (.int .u64 u) ∧ wx.cell? ⟨gt, ot + 3, none⟩ = some (.string s) ∧ wx.cell? ⟨gt, ot + 4, none⟩ = some (.slice a len cap) ∧ wx.cell? ⟨gt, ot + 5 + 4, none⟩ = some (.slice la ll lc) ∧ wx.cell? ⟨w.heap.size + 1 + 1 + 1, 4, none⟩ = some (.slice (some ⟨gt, ot, none⟩) 2 ct)) := fun wx hb => by
    obtain ⟨-, -, -, ⟨n0, n1, n2, n3⟩, ⟨m0, m1, m2, m3, m4⟩, q0⟩ := HSh.out.below hb.b
    exact ⟨n0, n1, n2, n3, m0, m1, m2, m3, m4, q0, hb.t.c 4⟩
  have J1 := J0.keep (Below.drew (Below.refl _ _))
  clear HSh
  refine wp_region_held_drew (S := fun wx => wx.cell? ⟨gh, oh + 1, none⟩ = some (.int .i64 cn) ∧ wx.cell? ⟨gh, oh + 5 + 1, none⟩ = some (.int .i64 ac) ∧ wx.cell? ⟨gh, oh + 10 + 1, none⟩ = some (.int .i64 un) ∧ wx.cell? ⟨gh, oh + 15 + 1, none⟩ = some (.int .i64 x) ∧ wx.cell? ⟨gt, ot, none⟩ = some (.int .i64 k) ∧ wx.cell? ⟨gt, ot + 1, none⟩ = some (.int .i64 i) ∧ wx.cell? ⟨gt, ot + 2, none⟩ = some (.int .u64 u) ∧ wx.cell? ⟨gt, ot + 3, none⟩ = some (.string s) ∧ wx.cell? ⟨gt, ot + 4, none⟩ = some (.slice a len cap) ∧ wx.cell? ⟨gt, ot + 5 + 4, none⟩ = some (.slice la ll lc) ∧ wx.cell? ⟨w.heap.size + 1 + 1 + 1, 4, none⟩ = some (.slice (some ⟨gt, ot, none⟩) 2 ct)) (by kernel_rfl) (HV.out _ J1) (fun hHeld => ?_)
  refine wpAnyH_take (i := 0) (oi := { dst := some 84, op := Op.move (Operand.tmp 5), type := 23, pos := "ref.go:244", after := #[], guard := none }) (v := ?tW0x) rfl (by kernel_rfl) (by kernel_rfl) (by kernel_rfl) (fun _ _ _ h => h) (Or.inl ⟨by rfl, ?uW0x⟩) (by assumption) ?rW0x
  case uW0x => (intro w hSw; (try dsimp only at hSw); go_simp; (try with_reducible rfl))
  simp only [Act.put, List.setIfInBounds_toArray, List.set_cons_zero, List.set_cons_succ]
  refine wpAnyH_take (i := 1) (oi := { dst := some 85, op := Op.indexAddr 23 (Operand.tmp 84) (Operand.const (Value.int IntKind.i64 0)), type := 0, pos := "ref.go:244", after := #[{ on := 0, ground := Ground.data }], guard := none }) (v := ?tW1x) rfl (by kernel_rfl) (by kernel_rfl) (by kernel_rfl) (fun _ _ _ h => h) (Or.inl ⟨by rfl, ?uW1x⟩) (by assumption) ?rW1x
  case uW1x => (intro w hSw; (try dsimp only at hSw); go_simp; (try with_reducible rfl))
  simp only [Act.put, List.setIfInBounds_toArray, List.set_cons_zero, List.set_cons_succ]
  refine wpAnyH_take (i := 2) (oi := { dst := some 86, op := Op.fieldAddr 25 (Operand.tmp 85) 1, type := 0, pos := "ref.go:244", after := #[{ on := 1, ground := Ground.data }], guard := none }) (v := ?tW2x) rfl (by kernel_rfl) (by kernel_rfl) (by kernel_rfl) (fun _ _ _ h => h) (Or.inl ⟨by rfl, ?uW2x⟩) (by assumption) ?rW2x
  case uW2x => (intro w hSw; (try dsimp only at hSw); go_simp; (try with_reducible rfl))
  simp only [Act.put, List.setIfInBounds_toArray, List.set_cons_zero, List.set_cons_succ]
  refine wpAnyH_take (i := 3) (oi := { dst := some 87, op := Op.load 2 (Operand.tmp 86), type := 2, pos := "ref.go:244", after := #[{ on := 2, ground := Ground.data }], guard := none }) (v := ?tW3x) rfl (by kernel_rfl) (by kernel_rfl) (by kernel_rfl) (fun _ _ _ h => h) (Or.inl ⟨by rfl, ?uW3x⟩) (by assumption) ?rW3x
  case uW3x => (intro w hSw; (try dsimp only at hSw); go_simp; (try with_reducible rfl))
  simp only [Act.put, List.setIfInBounds_toArray, List.set_cons_zero, List.set_cons_succ]
  refine wpAnyH_take (i := 4) (oi := { dst := some 88, op := Op.move (Operand.tmp 5), type := 23, pos := "ref.go:244", after := #[], guard := none }) (v := ?tW4x) rfl (by kernel_rfl) (by kernel_rfl) (by kernel_rfl) (fun _ _ _ h => h) (Or.inl ⟨by rfl, ?uW4x⟩) (by assumption) ?rW4x
  case uW4x => (intro w hSw; (try dsimp only at hSw); go_simp; (try with_reducible rfl))
  simp only [Act.put, List.setIfInBounds_toArray, List.set_cons_zero, List.set_cons_succ]
  refine wpAnyH_take (i := 5) (oi := { dst := some 89, op := Op.indexAddr 23 (Operand.tmp 88) (Operand.const (Value.int IntKind.i64 1)), type := 0, pos := "ref.go:244", after := #[{ on := 4, ground := Ground.data }], guard := none }) (v := ?tW5x) rfl (by kernel_rfl) (by kernel_rfl) (by kernel_rfl) (fun _ _ _ h => h) (Or.inl ⟨by rfl, ?uW5x⟩) (by assumption) ?rW5x
  case uW5x => (intro w hSw; (try dsimp only at hSw); go_simp; (try with_reducible rfl))
  simp only [Act.put, List.setIfInBounds_toArray, List.set_cons_zero, List.set_cons_succ]
  refine wpAnyH_take (i := 6) (oi := { dst := some 90, op := Op.fieldAddr 25 (Operand.tmp 89) 1, type := 0, pos := "ref.go:244", after := #[{ on := 5, ground := Ground.data }], guard := none }) (v := ?tW6x) rfl (by kernel_rfl) (by kernel_rfl) (by kernel_rfl) (fun _ _ _ h => h) (Or.inl ⟨by rfl, ?uW6x⟩) (by assumption) ?rW6x
  case uW6x => (intro w hSw; (try dsimp only at hSw); go_simp; (try with_reducible rfl))
  simp only [Act.put, List.setIfInBounds_toArray, List.set_cons_zero, List.set_cons_succ]
  refine wpAnyH_take (i := 7) (oi := { dst := some 91, op := Op.load 2 (Operand.tmp 90), type := 2, pos := "ref.go:244", after := #[{ on := 6, ground := Ground.data }], guard := none }) (v := ?tW7x) rfl (by kernel_rfl) (by kernel_rfl) (by kernel_rfl) (fun _ _ _ h => h) (Or.inl ⟨by rfl, ?uW7x⟩) (by assumption) ?rW7x
  case uW7x => (intro w hSw; (try dsimp only at hSw); go_simp; (try with_reducible rfl))
  simp only [Act.put, List.setIfInBounds_toArray, List.set_cons_zero, List.set_cons_succ]
  refine wpAnyH_take (i := 8) (oi := { dst := some 92, op := Op.move (Operand.tmp 5), type := 23, pos := "ref.go:244", after := #[], guard := none }) (v := ?tW8x) rfl (by kernel_rfl) (by kernel_rfl) (by kernel_rfl) (fun _ _ _ h => h) (Or.inl ⟨by rfl, ?uW8x⟩) (by assumption) ?rW8x
  case uW8x => (intro w hSw; (try dsimp only at hSw); go_simp; (try with_reducible rfl))
  simp only [Act.put, List.setIfInBounds_toArray, List.set_cons_zero, List.set_cons_succ]
  refine wpAnyH_take (i := 9) (oi := { dst := some 93, op := Op.indexAddr 23 (Operand.tmp 92) (Operand.const (Value.int IntKind.i64 2)), type := 0, pos := "ref.go:244", after := #[{ on := 8, ground := Ground.data }], guard := none }) (v := ?tW9x) rfl (by kernel_rfl) (by kernel_rfl) (by kernel_rfl) (fun _ _ _ h => h) (Or.inl ⟨by rfl, ?uW9x⟩) (by assumption) ?rW9x
  case uW9x => (intro w hSw; (try dsimp only at hSw); go_simp; (try with_reducible rfl))
  simp only [Act.put, List.setIfInBounds_toArray, List.set_cons_zero, List.set_cons_succ]
  refine wpAnyH_take (i := 10) (oi := { dst := some 94, op := Op.fieldAddr 25 (Operand.tmp 93) 1, type := 0, pos := "ref.go:244", after := #[{ on := 9, ground := Ground.data }], guard := none }) (v := ?tW10x) rfl (by kernel_rfl) (by kernel_rfl) (by kernel_rfl) (fun _ _ _ h => h) (Or.inl ⟨by rfl, ?uW10x⟩) (by assumption) ?rW10x
  case uW10x => (intro w hSw; (try dsimp only at hSw); go_simp; (try with_reducible rfl))
  simp only [Act.put, List.setIfInBounds_toArray, List.set_cons_zero, List.set_cons_succ]
  refine wpAnyH_take (i := 11) (oi := { dst := some 95, op := Op.load 2 (Operand.tmp 94), type := 2, pos := "ref.go:244", after := #[{ on := 10, ground := Ground.data }], guard := none }) (v := ?tW11x) rfl (by kernel_rfl) (by kernel_rfl) (by kernel_rfl) (fun _ _ _ h => h) (Or.inl ⟨by rfl, ?uW11x⟩) (by assumption) ?rW11x
  case uW11x => (intro w hSw; (try dsimp only at hSw); go_simp; (try with_reducible rfl))
  simp only [Act.put, List.setIfInBounds_toArray, List.set_cons_zero, List.set_cons_succ]
  refine wpAnyH_take (i := 12) (oi := { dst := some 96, op := Op.move (Operand.tmp 5), type := 23, pos := "ref.go:244", after := #[], guard := none }) (v := ?tW12x) rfl (by kernel_rfl) (by kernel_rfl) (by kernel_rfl) (fun _ _ _ h => h) (Or.inl ⟨by rfl, ?uW12x⟩) (by assumption) ?rW12x
  case uW12x => (intro w hSw; (try dsimp only at hSw); go_simp; (try with_reducible rfl))
  simp only [Act.put, List.setIfInBounds_toArray, List.set_cons_zero, List.set_cons_succ]
  refine wpAnyH_take (i := 13) (oi := { dst := some 97, op := Op.indexAddr 23 (Operand.tmp 96) (Operand.const (Value.int IntKind.i64 3)), type := 0, pos := "ref.go:244", after := #[{ on := 12, ground := Ground.data }], guard := none }) (v := ?tW13x) rfl (by kernel_rfl) (by kernel_rfl) (by kernel_rfl) (fun _ _ _ h => h) (Or.inl ⟨by rfl, ?uW13x⟩) (by assumption) ?rW13x
  case uW13x => (intro w hSw; (try dsimp only at hSw); go_simp; (try with_reducible rfl))
  simp only [Act.put, List.setIfInBounds_toArray, List.set_cons_zero, List.set_cons_succ]
  refine wpAnyH_take (i := 14) (oi := { dst := some 98, op := Op.fieldAddr 25 (Operand.tmp 97) 1, type := 0, pos := "ref.go:244", after := #[{ on := 13, ground := Ground.data }], guard := none }) (v := ?tW14x) rfl (by kernel_rfl) (by kernel_rfl) (by kernel_rfl) (fun _ _ _ h => h) (Or.inl ⟨by rfl, ?uW14x⟩) (by assumption) ?rW14x
  case uW14x => (intro w hSw; (try dsimp only at hSw); go_simp; (try with_reducible rfl))
  simp only [Act.put, List.setIfInBounds_toArray, List.set_cons_zero, List.set_cons_succ]
  refine wpAnyH_take (i := 15) (oi := { dst := some 99, op := Op.load 2 (Operand.tmp 98), type := 2, pos := "ref.go:244", after := #[{ on := 14, ground := Ground.data }], guard := none }) (v := ?tW15x) rfl (by kernel_rfl) (by kernel_rfl) (by kernel_rfl) (fun _ _ _ h => h) (Or.inl ⟨by rfl, ?uW15x⟩) (by assumption) ?rW15x
  case uW15x => (intro w hSw; (try dsimp only at hSw); go_simp; (try with_reducible rfl))
  simp only [Act.put, List.setIfInBounds_toArray, List.set_cons_zero, List.set_cons_succ]
  refine wpAnyH_take (i := 16) (oi := { dst := some 100, op := Op.binOp BinOp.eql 2 (Operand.tmp 99) (Operand.const (Value.int IntKind.i64 1)) 2, type := 4, pos := "ref.go:244", after := #[{ on := 15, ground := Ground.data }], guard := none }) (v := ?tW16x) rfl (by kernel_rfl) (by kernel_rfl) (by kernel_rfl) (fun _ _ _ h => h) (Or.inl ⟨by rfl, ?uW16x⟩) (by assumption) ?rW16x
  case uW16x => (intro w hSw; (try dsimp only at hSw); go_simp; (try with_reducible rfl))
  simp only [Act.put, List.setIfInBounds_toArray, List.set_cons_zero, List.set_cons_succ]
  refine wpAnyH_take (i := 17) (oi := { dst := some 101, op := Op.fieldAddr 25 (Operand.tmp 6) 4, type := 0, pos := "ref.go:244", after := #[], guard := none }) (v := ?tW17x) rfl (by kernel_rfl) (by kernel_rfl) (by kernel_rfl) (fun _ _ _ h => h) (Or.inl ⟨by rfl, ?uW17x⟩) (by assumption) ?rW17x
  case uW17x => (intro w hSw; (try dsimp only at hSw); go_simp; (try with_reducible rfl))
  simp only [Act.put, List.setIfInBounds_toArray, List.set_cons_zero, List.set_cons_succ]
  refine wpAnyH_take (i := 18) (oi := { dst := some 102, op := Op.load 23 (Operand.tmp 101), type := 23, pos := "ref.go:244", after := #[{ on := 17, ground := Ground.data }], guard := none }) (v := ?tW18x) rfl (by kernel_rfl) (by kernel_rfl) (by kernel_rfl) (fun _ _ _ h => h) (Or.inl ⟨by rfl, ?uW18x⟩) (by assumption) ?rW18x
  case uW18x => (intro w hSw; (try dsimp only at hSw); go_simp; (try with_reducible rfl))
  simp only [Act.put, List.setIfInBounds_toArray, List.set_cons_zero, List.set_cons_succ]
  refine wpAnyH_take (i := 19) (oi := { dst := some 103, op := Op.indexAddr 23 (Operand.tmp 102) (Operand.const (Value.int IntKind.i64 0)), type := 0, pos := "ref.go:244", after := #[{ on := 18, ground := Ground.data }], guard := none }) (v := ?tW19x) rfl (by kernel_rfl) (by kernel_rfl) (by kernel_rfl) (fun _ _ _ h => h) (Or.inl ⟨by rfl, ?uW19x⟩) (by assumption) ?rW19x
  case uW19x => (intro w hSw; (try dsimp only at hSw); go_simp; (try with_reducible rfl))
  simp only [Act.put, List.setIfInBounds_toArray, List.set_cons_zero, List.set_cons_succ]
  refine wpAnyH_take (i := 20) (oi := { dst := some 104, op := Op.load 25 (Operand.tmp 103), type := 25, pos := "ref.go:244", after := #[{ on := 19, ground := Ground.data }], guard := none }) (v := ?tW20x) rfl (by kernel_rfl) (by kernel_rfl) (by kernel_rfl) (fun _ _ _ h => h) (Or.inl ⟨by rfl, ?uW20x⟩) (by assumption) ?rW20x
  case uW20x => (intro w hSw; (try dsimp only at hSw); go_simp; (try with_reducible rfl))
  simp only [Act.put, List.setIfInBounds_toArray, List.set_cons_zero, List.set_cons_succ]
  refine wpAnyH_take (i := 21) (oi := { dst := some 105, op := Op.fieldAddr 25 (Operand.tmp 6) 4, type := 0, pos := "ref.go:244", after := #[], guard := none }) (v := ?tW21x) rfl (by kernel_rfl) (by kernel_rfl) (by kernel_rfl) (fun _ _ _ h => h) (Or.inl ⟨by rfl, ?uW21x⟩) (by assumption) ?rW21x
  case uW21x => (intro w hSw; (try dsimp only at hSw); go_simp; (try with_reducible rfl))
  simp only [Act.put, List.setIfInBounds_toArray, List.set_cons_zero, List.set_cons_succ]
  refine wpAnyH_take (i := 22) (oi := { dst := some 106, op := Op.load 23 (Operand.tmp 105), type := 23, pos := "ref.go:244", after := #[{ on := 21, ground := Ground.data }], guard := none }) (v := ?tW22x) rfl (by kernel_rfl) (by kernel_rfl) (by kernel_rfl) (fun _ _ _ h => h) (Or.inl ⟨by rfl, ?uW22x⟩) (by assumption) ?rW22x
  case uW22x => (intro w hSw; (try dsimp only at hSw); go_simp; (try with_reducible rfl))
  simp only [Act.put, List.setIfInBounds_toArray, List.set_cons_zero, List.set_cons_succ]
  refine wpAnyH_take (i := 23) (oi := { dst := some 107, op := Op.indexAddr 23 (Operand.tmp 106) (Operand.const (Value.int IntKind.i64 1)), type := 0, pos := "ref.go:244", after := #[{ on := 22, ground := Ground.data }], guard := none }) (v := ?tW23x) rfl (by kernel_rfl) (by kernel_rfl) (by kernel_rfl) (fun _ _ _ h => h) (Or.inl ⟨by rfl, ?uW23x⟩) (by assumption) ?rW23x
  case uW23x => (intro w hSw; (try dsimp only at hSw); go_simp; (try with_reducible rfl))
  simp only [Act.put, List.setIfInBounds_toArray, List.set_cons_zero, List.set_cons_succ]
  refine wpAnyH_take (i := 24) (oi := { dst := some 108, op := Op.fieldAddr 25 (Operand.tmp 107) 4, type := 0, pos := "ref.go:244", after := #[{ on := 23, ground := Ground.data }], guard := none }) (v := ?tW24x) rfl (by kernel_rfl) (by kernel_rfl) (by kernel_rfl) (fun _ _ _ h => h) (Or.inl ⟨by rfl, ?uW24x⟩) (by assumption) ?rW24x
  case uW24x => (intro w hSw; (try dsimp only at hSw); go_simp; (try with_reducible rfl))
  simp only [Act.put, List.setIfInBounds_toArray, List.set_cons_zero, List.set_cons_succ]
  refine wpAnyH_take (i := 25) (oi := { dst := some 109, op := Op.load 23 (Operand.tmp 108), type := 23, pos := "ref.go:244", after := #[{ on := 24, ground := Ground.data }], guard := none }) (v := ?tW25x) rfl (by kernel_rfl) (by kernel_rfl) (by kernel_rfl) (fun _ _ _ h => h) (Or.inl ⟨by rfl, ?uW25x⟩) (by assumption) ?rW25x
  case uW25x => (intro w hSw; (try dsimp only at hSw); go_simp; (try with_reducible rfl))
  simp only [Act.put, List.setIfInBounds_toArray, List.set_cons_zero, List.set_cons_succ]
  refine wpAnyH_take (i := 26) (oi := { dst := some 110, op := Op.build 27 #[(0, Operand.tmp 87), (1, Operand.tmp 91), (5, Operand.tmp 95), (4, Operand.tmp 100), (2, Operand.tmp 104), (3, Operand.tmp 109)], type := 27, pos := "ref.go:244", after := #[{ on := 3, ground := Ground.data }, { on := 7, ground := Ground.data }, { on := 11, ground := Ground.data }, { on := 16, ground := Ground.data }, { on := 20, ground := Ground.data }, { on := 25, ground := Ground.data }], guard := none }) (v := ?tW26x) rfl (by kernel_rfl) (by kernel_rfl) (by kernel_rfl) (fun _ _ _ h => h) (Or.inl ⟨by rfl, ?uW26x⟩) (by assumption) ?rW26x
  case uW26x => (intro w hSw; (try dsimp only at hSw); go_simp; (try with_reducible rfl))
  simp only [Act.put, List.setIfInBounds_toArray, List.set_cons_zero, List.set_cons_succ]
  refine wpAnyH_ready (rs := [27, 28]) (by kernel_rfl) (by simp) ?_
  refine AllReadyH.cons (o := { dst := some 111, op := Op.call { callee := Callee.value (Operand.func 31), args := #[Operand.tmp 110], argTypes := #[27] }, type := 27, pos := "ref.go:244", after := #[{ on := 26, ground := Ground.data }], guard := none }) rfl (fun K hK => ?_) (AllReadyH.cons (o := { dst := some 7, op := Op.alloc 27, type := 0, pos := "ref.go:244", after := #[], guard := none }) rfl (fun K hK => ?_) AllReadyH.nil)
  · go_simp
    refine (HC.out _ J1.b).mono ?_
    rintro e w5 ⟨k', i', u', s', a', n', c', la', ll', lc', rfl, q5, b5⟩
    go_wp2_with fail
    have J5 := J1.keep (b5.mono J1.z)
    have hz1 := J1.z
    refine hK.out _ _ (HV.out _ J5) (fun hH5 => ?_)
    clear hK K
    try simp only [Act.put, List.setIfInBounds_toArray, List.set_cons_zero, List.set_cons_succ]
    refine wpAnyH_ready (rs := [28]) (by kernel_rfl) (by simp) ?_
    refine AllReadyH.cons (o := { dst := some 7, op := Op.alloc 27, type := 0, pos := "ref.go:244", after := #[], guard := none }) rfl (fun K hK => ?_) AllReadyH.nil
    go_simp
    have S6 := Bk.new w5 zsv 27
    have b6 := below1 w5 (.cells zsv 27)
    have J6 := J5.keep (b6.mono J5.z)
    have QQ : Hid (∀ wy : World, (w5.alloc (.cells zsv 27)).heap.size ≤ wy.heap.size → (∀ g, g ≠ w5.heap.size → wy.heap[g]? = (w5.alloc (.cells zsv 27)).heap[g]?) → Qc (w4.drew.heap.size + 3) k' i' u' s' a' n' c' la' ll' lc' wy) := fun wy h1 h2 => HQ.out _ _ _ _ _ _ _ _ _ _ _ _ _ q5.out (Nat.le_trans b6.size h1) fun g _ hg => (h2 g (Nat.ne_of_lt hg)).trans (b6.block g hg)
    have hgS : L ≤ w5.heap.size := J5.z
    have hLq : L ≤ w4.drew.heap.size + 3 := Nat.le_trans hz1 (Nat.le_add_right _ _)
    clear q5 b5 b6 J5
    generalize w5.alloc (.cells zsv 27) = w6 at *
    generalize w5.heap.size = gS at *
    generalize w4.drew.heap.size + 3 = Lq at *
    refine hK.out _ _ (HV.out _ J6) (fun hH6 => ?_)
    clear hK K
    try simp only [Act.put, List.setIfInBounds_toArray, List.set_cons_zero, List.set_cons_succ]
    obtain ⟨z0, z1, z2, z3, z4, z5, z6, z7, z8, z9⟩ := S6.c10
    have fz := S6.f
    refine wpAnyH_ready (rs := [29]) (by kernel_rfl) (by simp) ?_
    refine AllReadyH.cons (o := { dst := none, op := Op.store 27 (Operand.tmp 7) (Operand.tmp 111), type := 0, pos := "ref.go:244", after := #[{ on := 28, ground := Ground.data }, { on := 27, ground := Ground.data }, { on := 27, ground := Ground.chain }, { on := 0, ground := Ground.phase }, { on := 1, ground := Ground.phase }, { on := 2, ground := Ground.phase }, { on := 3, ground := Ground.phase }, { on := 4, ground := Ground.phase }, { on := 5, ground := Ground.phase }, { on := 6, ground := Ground.phase }, { on := 7, ground := Ground.phase }, { on := 8, ground := Ground.phase }, { on := 9, ground := Ground.phase }, { on := 10, ground := Ground.phase }, { on := 11, ground := Ground.phase }, { on := 12, ground := Ground.phase }, { on := 13, ground := Ground.phase }, { on := 14, ground := Ground.phase }, { on := 15, ground := Ground.phase }, { on := 16, ground := Ground.phase }, { on := 17, ground := Ground.phase }, { on := 18, ground := Ground.phase }, { on := 19, ground := Ground.phase }, { on := 20, ground := Ground.phase }, { on := 21, ground := Ground.phase }, { on := 22, ground := Ground.phase }, { on := 23, ground := Ground.phase }, { on := 24, ground := Ground.phase }, { on := 25, ground := Ground.phase }, { on := 26, ground := Ground.phase }, { on := 27, ground := Ground.phase }, { on := 28, ground := Ground.phase }], guard := none }) rfl (fun K hK => ?_) AllReadyH.nil
    go_simp
    obtain ⟨M1, M2, M3, M4⟩ := set10 S6 (.int .i64 cn) (.int .i64 ac) (.int .i64 k') (.int .i64 i') (.int .u64 u') (.string s') (.slice a' n' c') (.slice la' ll' lc') (.bool (x == 1)) (.int .i64 un) rfl
    have J7 := J6.keep (M4.mono hgS)
    have Q7 : Hid (Qc Lq k' i' u' s' a' n' c' la' ll' lc' _) := QQ.out _ (Nat.le_of_eq M2.symm) fun g hg => M3 g hg
    clear z0 z1 z2 z3 z4 z5 z6 z7 z8 z9 fz QQ M2 M3 M4 J6 S6
    generalize ((((((((((w6.setCell ⟨gS, 0, none⟩ (.int .i64 cn)).setCell ⟨gS, 1, none⟩ (.int .i64 ac)).setCell ⟨gS, 2, none⟩ (.int .i64 k')).setCell ⟨gS, 3, none⟩ (.int .i64 i')).setCell ⟨gS, 4, none⟩ (.int .u64 u')).setCell ⟨gS, 5, none⟩ (.string s')).setCell ⟨gS, 6, none⟩ (.slice a' n' c')).setCell ⟨gS, 7, none⟩ (.slice la' ll' lc')).setCell ⟨gS, 8, none⟩ (.bool (x == 1))).setCell ⟨gS, 9, none⟩ (.int .i64 un)) = w7 at *
    refine hK.out _ _ (HV.out _ J7) (fun hH7 => ?_)
    clear hK K
    refine wpAnyH_done (by kernel_rfl) ?_ _
    clear HV hH7 hHeld J1 J0 HC
    obtain ⟨x0, x1, x2, x3, x4, x5, x6, x7, x8, x9⟩ := M1.c10
    go_wp2_with fail
    refine (HF.out _ _ _ _ _ _ _ _ _ _ _ (HQQ.out _ _ _ _ _ _ _ _ _ _ _ _ Q7.out) J7.b).mono ?_
    rintro e w8 ⟨rfl, b8⟩
    have S8 := M1.step b8
    have J8 := J7.keep (b8.mono J7.z)
    have Q8 : Hid (Qc Lq k' i' u' s' a' n' c' la' ll' lc' w8) := HQ.out _ _ _ _ _ _ _ _ _ _ _ _ _ Q7.out b8.size fun g _ hg => b8.block g hg
    have hl8 := J8.lt
    clear x0 x1 x2 x3 x4 x5 x6 x7 x8 x9 M1 J7 Q7 b8 HF
    obtain ⟨z0, z1, z2, z3, z4, z5, z6, z7, z8, z9⟩ := J8.e.c10
    have fz := J8.e.f
    cases R with
    | false =>
      obtain ⟨x0, x1, x2, x3, x4, x5, x6, x7, x8, x9⟩ := J8.f.c10
      go_wp2_with fail
      obtain ⟨M1, M2, M3, M4⟩ := set10 J8.e (.int .i64 0) (.int .i64 0) (.int .i64 0) (.int .i64 0) (.int .u64 0) (.string ⟨#[]⟩) (.slice none 0 0) (.slice none 0 0) (.bool false) (.int .i64 0) rfl
      obtain ⟨y0, y1, y2, y3, y4, y5, y6, y7, y8, y9⟩ := M1.c10
      exact bodyPost_ret (v := .tuple #[.agg zsv, .bool false]) (by simp [results, Tryz.results14, go_sem, y0, y1, y2, y3, y4, y5, y6, y7, y8, y9]) rfl ⟨J8.b.trans (M4.mono (Nat.le_succ _)), (fun h => by cases h), fun _ => rfl⟩
    | true =>
      obtain ⟨x0, x1, x2, x3, x4, x5, x6, x7, x8, x9⟩ := S8.c10
      go_wp2_with fail
      obtain ⟨M1, M2, M3, M4⟩ := set10 J8.e (.int .i64 cn) (.int .i64 ac) (.int .i64 k') (.int .i64 i') (.int .u64 u') (.string s') (.slice a' n' c') (.slice la' ll' lc') (.bool (x == 1)) (.int .i64 un) rfl
      obtain ⟨y0, y1, y2, y3, y4, y5, y6, y7, y8, y9⟩ := M1.c10
      have Q9 := HQQ.out _ _ _ _ _ _ _ _ _ _ _ _ (HQ.out _ _ _ _ _ _ _ _ _ _ _ _ _ Q8.out (Nat.le_of_eq M2.symm) fun g hg _ => M3 g (by omega))
      exact bodyPost_ret (v := .tuple #[.agg #[.int .i64 cn, .int .i64 ac, .int .i64 k', .int .i64 i', .int .u64 u', .string s', .slice a' n' c', .slice la' ll' lc', .bool (x == 1), .int .i64 un], .bool true]) (by simp [results, Tryz.results14, go_sem, y0, y1, y2, y3, y4, y5, y6, y7, y8, y9]) rfl ⟨J8.b.trans (M4.mono (Nat.le_succ _)), fun _ => ⟨_, _, _, _, _, _, _, _, _, _, rfl, Q9⟩, (fun h => by cases h)⟩
  · go_simp
    have T0 := (Bk.new w4 zsv 27).drew
    have bT := (below1 w4 (.cells zsv 27)).drew
    have J4 := J0.keep (bT.mono J0.z)
    have hgS : L ≤ w4.heap.size := J0.z
    have hlt5 := T0.lt
    generalize (w4.alloc (.cells zsv 27)).drew = w5 at *
    refine hK.out _ _ (HV.out _ J4) (fun hH5 => ?_)
    clear hK K
    try simp only [Act.put, List.setIfInBounds_toArray, List.set_cons_zero, List.set_cons_succ]
    refine wpAnyH_ready (rs := [27]) (by kernel_rfl) (by simp) ?_
    refine AllReadyH.cons (o := { dst := some 111, op := Op.call { callee := Callee.value (Operand.func 31), args := #[Operand.tmp 110], argTypes := #[27] }, type := 27, pos := "ref.go:244", after := #[{ on := 26, ground := Ground.data }], guard := none }) rfl (fun K hK => ?_) AllReadyH.nil
    go_simp
    refine (HC.out _ J4.b).mono ?_
    rintro e w6 ⟨k', i', u', s', a', n', c', la', ll', lc', rfl, q5, b5⟩
    go_wp2_with fail
    have J6 := J4.keep (b5.mono J4.z)
    have S6 := T0.step b5
    have hLq : L ≤ w5.heap.size + 3 := Nat.le_trans J4.z (Nat.le_add_right _ _)
    have QQ : Hid (∀ wy : World, w6.heap.size ≤ wy.heap.size → (∀ g, g ≠ w4.heap.size → wy.heap[g]? = w6.heap[g]?) → Qc (w5.heap.size + 3) k' i' u' s' a' n' c' la' ll' lc' wy) := fun wy h1 h2 => HQ.out _ _ _ _ _ _ _ _ _ _ _ _ _ q5.out h1 fun g hg _ => h2 g (by omega)
    clear q5 b5 J4 T0 bT hlt5
    generalize w5.heap.size + 3 = Lq at *
    generalize w4.heap.size = gS at *
    refine hK.out _ _ (HV.out _ J6) (fun hH6 => ?_)
    clear hK K
    try simp only [Act.put, List.setIfInBounds_toArray, List.set_cons_zero, List.set_cons_succ]
    obtain ⟨z0, z1, z2, z3, z4, z5, z6, z7, z8, z9⟩ := S6.c10
    have fz := S6.f
    refine wpAnyH_ready (rs := [29]) (by kernel_rfl) (by simp) ?_
    refine AllReadyH.cons (o := { dst := none, op := Op.store 27 (Operand.tmp 7) (Operand.tmp 111), type := 0, pos := "ref.go:244", after := #[{ on := 28, ground := Ground.data }, { on := 27, ground := Ground.data }, { on := 27, ground := Ground.chain }, { on := 0, ground := Ground.phase }, { on := 1, ground := Ground.phase }, { on := 2, ground := Ground.phase }, { on := 3, ground := Ground.phase }, { on := 4, ground := Ground.phase }, { on := 5, ground := Ground.phase }, { on := 6, ground := Ground.phase }, { on := 7, ground := Ground.phase }, { on := 8, ground := Ground.phase }, { on := 9, ground := Ground.phase }, { on := 10, ground := Ground.phase }, { on := 11, ground := Ground.phase }, { on := 12, ground := Ground.phase }, { on := 13, ground := Ground.phase }, { on := 14, ground := Ground.phase }, { on := 15, ground := Ground.phase }, { on := 16, ground := Ground.phase }, { on := 17, ground := Ground.phase }, { on := 18, ground := Ground.phase }, { on := 19, ground := Ground.phase }, { on := 20, ground := Ground.phase }, { on := 21, ground := Ground.phase }, { on := 22, ground := Ground.phase }, { on := 23, ground := Ground.phase }, { on := 24, ground := Ground.phase }, { on := 25, ground := Ground.phase }, { on := 26, ground := Ground.phase }, { on := 27, ground := Ground.phase }, { on := 28, ground := Ground.phase }], guard := none }) rfl (fun K hK => ?_) AllReadyH.nil
    go_simp
    obtain ⟨M1, M2, M3, M4⟩ := set10 S6 (.int .i64 cn) (.int .i64 ac) (.int .i64 k') (.int .i64 i') (.int .u64 u') (.string s') (.slice a' n' c') (.slice la' ll' lc') (.bool (x == 1)) (.int .i64 un) rfl
    have J7 := J6.keep (M4.mono hgS)
    have Q7 : Hid (Qc Lq k' i' u' s' a' n' c' la' ll' lc' _) := QQ.out _ (Nat.le_of_eq M2.symm) fun g hg => M3 g hg
    clear z0 z1 z2 z3 z4 z5 z6 z7 z8 z9 fz QQ M2 M3 M4 J6 S6
    generalize ((((((((((w6.setCell ⟨gS, 0, none⟩ (.int .i64 cn)).setCell ⟨gS, 1, none⟩ (.int .i64 ac)).setCell ⟨gS, 2, none⟩ (.int .i64 k')).setCell ⟨gS, 3, none⟩ (.int .i64 i')).setCell ⟨gS, 4, none⟩ (.int .u64 u')).setCell ⟨gS, 5, none⟩ (.string s')).setCell ⟨gS, 6, none⟩ (.slice a' n' c')).setCell ⟨gS, 7, none⟩ (.slice la' ll' lc')).setCell ⟨gS, 8, none⟩ (.bool (x == 1))).setCell ⟨gS, 9, none⟩ (.int .i64 un)) = w7 at *
    refine hK.out _ _ (HV.out _ J7) (fun hH7 => ?_)
    clear hK K
    refine wpAnyH_done (by kernel_rfl) ?_ _
    clear HV hH7 hHeld J1 J0 HC
    obtain ⟨x0, x1, x2, x3, x4, x5, x6, x7, x8, x9⟩ := M1.c10
    go_wp2_with fail
    refine (HF.out _ _ _ _ _ _ _ _ _ _ _ (HQQ.out _ _ _ _ _ _ _ _ _ _ _ _ Q7.out) J7.b).mono ?_
    rintro e w8 ⟨rfl, b8⟩
    have S8 := M1.step b8
    have J8 := J7.keep (b8.mono J7.z)
    have Q8 : Hid (Qc Lq k' i' u' s' a' n' c' la' ll' lc' w8) := HQ.out _ _ _ _ _ _ _ _ _ _ _ _ _ Q7.out b8.size fun g _ hg => b8.block g hg
    have hl8 := J8.lt
    clear x0 x1 x2 x3 x4 x5 x6 x7 x8 x9 M1 J7 Q7 b8 HF
    obtain ⟨z0, z1, z2, z3, z4, z5, z6, z7, z8, z9⟩ := J8.e.c10
    have fz := J8.e.f
    cases R with
    | false =>
      obtain ⟨x0, x1, x2, x3, x4, x5, x6, x7, x8, x9⟩ := J8.f.c10
      go_wp2_with fail
      obtain ⟨M1, M2, M3, M4⟩ := set10 J8.e (.int .i64 0) (.int .i64 0) (.int .i64 0) (.int .i64 0) (.int .u64 0) (.string ⟨#[]⟩) (.slice none 0 0) (.slice none 0 0) (.bool false) (.int .i64 0) rfl
      obtain ⟨y0, y1, y2, y3, y4, y5, y6, y7, y8, y9⟩ := M1.c10
      exact bodyPost_ret (v := .tuple #[.agg zsv, .bool false]) (by simp [results, Tryz.results14, go_sem, y0, y1, y2, y3, y4, y5, y6, y7, y8, y9]) rfl ⟨J8.b.trans (M4.mono (Nat.le_succ _)), (fun h => by cases h), fun _ => rfl⟩
    | true =>
      obtain ⟨x0, x1, x2, x3, x4, x5, x6, x7, x8, x9⟩ := S8.c10
      go_wp2_with fail
      obtain ⟨M1, M2, M3, M4⟩ := set10 J8.e (.int .i64 cn) (.int .i64 ac) (.int .i64 k') (.int .i64 i') (.int .u64 u') (.string s') (.slice a' n' c') (.slice la' ll' lc') (.bool (x == 1)) (.int .i64 un) rfl
      obtain ⟨y0, y1, y2, y3, y4, y5, y6, y7, y8, y9⟩ := M1.c10
      have Q9 := HQQ.out _ _ _ _ _ _ _ _ _ _ _ _ (HQ.out _ _ _ _ _ _ _ _ _ _ _ _ _ Q8.out (Nat.le_of_eq M2.symm) fun g hg _ => M3 g (by omega))
      exact bodyPost_ret (v := .tuple #[.agg #[.int .i64 cn, .int .i64 ac, .int .i64 k', .int .i64 i', .int .u64 u', .string s', .slice a' n' c', .slice la' ll' lc', .bool (x == 1), .int .i64 un], .bool true]) (by simp [results, Tryz.results14, go_sem, y0, y1, y2, y3, y4, y5, y6, y7, y8, y9]) rfl ⟨J8.b.trans (M4.mono (Nat.le_succ _)), fun _ => ⟨_, _, _, _, _, _, _, _, _, _, rfl, Q9⟩, (fun h => by cases h)⟩
end Go.Proofs.YtgijdiplhcoojaaGreatDoor.Dt
