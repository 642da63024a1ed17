/- loaded: the state of a value of the form; the conditions: such a value in memory. -/
import Derived.Test.YtgijdiplhcoojaaGreatDoorXIt
namespace Go.Proofs.YtgijdiplhcoojaaGreatDoor.Dt
open Go.RowKit

/-- A value of the form of a saved one, in memory, and the state that it tells. -/
structure Sh (w : World) (g o : Nat) (k0 i0 u0 : Int) (s0 : ByteArray) (gh oh ch : Nat) (k1 i1 u1 : Int) (s1 : ByteArray) (gt ot ct : Nat) (cn ac un x : Int) (k i u : Int) (s : ByteArray) (a : Option Addr) (len cap : Nat) (ki ii ui : Int) (si : ByteArray) (la : Option Addr) (ll lc : Nat) : Prop where
  lt : g < w.heap.size ∧ gh < w.heap.size ∧ gt < w.heap.size
  h : w.cell? ⟨g, o, none⟩ = some (.int .i64 k0) ∧ w.cell? ⟨g, o + 1, none⟩ = some (.int .i64 i0) ∧ w.cell? ⟨g, o + 2, none⟩ = some (.int .u64 u0) ∧ w.cell? ⟨g, o + 3, none⟩ = some (.string s0) ∧ w.cell? ⟨g, o + 4, none⟩ = some (.slice (some ⟨gh, oh, none⟩) 4 ch)
  t : w.cell? ⟨g, o + 5, none⟩ = some (.int .i64 k1) ∧ w.cell? ⟨g, o + 5 + 1, none⟩ = some (.int .i64 i1) ∧ w.cell? ⟨g, o + 5 + 2, none⟩ = some (.int .u64 u1) ∧ w.cell? ⟨g, o + 5 + 3, none⟩ = some (.string s1) ∧ w.cell? ⟨g, o + 5 + 4, none⟩ = some (.slice (some ⟨gt, ot, none⟩) 2 ct)
  n : w.cell? ⟨gh, oh + 1, none⟩ = some (.int .i64 cn) ∧ w.cell? ⟨gh, oh + 5 + 1, none⟩ = some (.int .i64 ac) ∧ w.cell? ⟨gh, oh + 10 + 1, none⟩ = some (.int .i64 un) ∧ w.cell? ⟨gh, oh + 15 + 1, none⟩ = some (.int .i64 x)
  l : w.cell? ⟨gt, ot, none⟩ = some (.int .i64 k) ∧ w.cell? ⟨gt, ot + 1, none⟩ = some (.int .i64 i) ∧ w.cell? ⟨gt, ot + 2, none⟩ = some (.int .u64 u) ∧ w.cell? ⟨gt, ot + 3, none⟩ = some (.string s) ∧ w.cell? ⟨gt, ot + 4, none⟩ = some (.slice a len cap)
  q : w.cell? ⟨gt, ot + 5 + 4, none⟩ = some (.slice la ll lc)
theorem Sh.below {w w' : World} {g o : Nat} {k0 i0 u0 : Int} {s0 : ByteArray} {gh oh ch : Nat} {k1 i1 u1 : Int} {s1 : ByteArray} {gt ot ct : Nat} {cn ac un x : Int} {k i u : Int} {s : ByteArray} {a : Option Addr} {len cap : Nat} {ki ii ui : Int} {si : ByteArray} {la : Option Addr} {ll lc : Nat} (h : Sh w g o k0 i0 u0 s0 gh oh ch k1 i1 u1 s1 gt ot ct cn ac un x k i u s a len cap ki ii ui si la ll lc) (hb : Below w.heap.size w w') : Sh w' g o k0 i0 u0 s0 gh oh ch k1 i1 u1 s1 gt ot ct cn ac un x k i u s a len cap ki ii ui si la ll lc := by
  obtain ⟨⟨l1, l2, l3⟩, ⟨h0, h1, h2, h3, h4⟩, ⟨t0, t1, t2, t3, t4⟩, ⟨n0, n1, n2, n3⟩, ⟨m0, m1, m2, m3, m4⟩, q0⟩ := h
  have f1 : ∀ o v, w.cell? ⟨g, o, none⟩ = some v → w'.cell? ⟨g, o, none⟩ = some v := fun o v e => (hb.cell (p := ⟨g, o, none⟩) l1).trans e
  have f2 : ∀ o v, w.cell? ⟨gh, o, none⟩ = some v → w'.cell? ⟨gh, o, none⟩ = some v := fun o v e => (hb.cell (p := ⟨gh, o, none⟩) l2).trans e
  have f3 : ∀ o v, w.cell? ⟨gt, o, none⟩ = some v → w'.cell? ⟨gt, o, none⟩ = some v := fun o v e => (hb.cell (p := ⟨gt, o, none⟩) l3).trans e
  have hs := hb.size
  exact ⟨⟨by omega, by omega, by omega⟩, ⟨f1 _ _ h0, f1 _ _ h1, f1 _ _ h2, f1 _ _ h3, f1 _ _ h4⟩, ⟨f1 _ _ t0, f1 _ _ t1, f1 _ _ t2, f1 _ _ t3, f1 _ _ t4⟩, ⟨f2 _ _ n0, f2 _ _ n1, f2 _ _ n2, f2 _ _ n3⟩, ⟨f3 _ _ m0, f3 _ _ m1, f3 _ _ m2, f3 _ _ m3, f3 _ _ m4⟩, f3 _ _ q0⟩

set_option maxRecDepth 100000 in
set_option maxHeartbeats 2000000 in
theorem loaded_by (g o : Nat) (k0 i0 u0 : Int) (s0 : ByteArray) (gh oh ch : Nat) (k1 i1 u1 : Int) (s1 : ByteArray) (gt ot ct : Nat) (cn ac un x : Int) (k i u : Int) (s : ByteArray) (a : Option Addr) (len cap : Nat) (ki ii ui : Int) (si : ByteArray) (la : Option Addr) (ll lc : Nat) (kd it ut : Int) (tx : ByteArray) (c : Nat) (w : World) (h : Sh w g o k0 i0 u0 s0 gh oh ch k1 i1 u1 s1 gt ot ct cn ac un x k i u s a len cap ki ii ui si la ll lc)
    (Q : Int → Int → Int → ByteArray → Option Addr → Nat → Nat → Option Addr → Nat → Nat → World → Prop) (hQ : ∀ k i u s a n c a' n' c' w' w'', Q k i u s a n c a' n' c' w' → w'.heap.size ≤ w''.heap.size → (∀ g, w.heap.size + 2 ≤ g → g < w'.heap.size → w''.heap[g]? = w'.heap[g]?) → Q k i u s a n c a' n' c' w'')
    (hC : ∀ wx, Below w.heap.size w wx → w.heap.size + 2 ≤ wx.heap.size → Calls Tryz.prog 37 #[.agg #[.int .i64 cn, .int .i64 ac, .int .i64 k, .int .i64 i, .int .u64 u, .string s, .slice a len cap, .slice la ll lc, .bool (x == 1), .int .i64 un]] wx fun e w' => ∃ k i u s a n c a' n' c', e = .returned (.agg #[.int .i64 cn, .int .i64 ac, .int .i64 k, .int .i64 i, .int .u64 u, .string s, .slice a n c, .slice a' n' c', .bool (x == 1), .int .i64 un]) ∧ Hid (Q k i u s a n c a' n' c' w') ∧ Below wx.heap.size wx w') :
    Calls Tryz.prog 27 #[.agg #[.int .i64 kd, .int .i64 it, .int .u64 ut, .string tx, .slice (some ⟨g, o, none⟩) 2 c]] w fun e w' => ∃ k i u s a n c a' n' c', e = .returned (.agg #[.int .i64 cn, .int .i64 ac, .int .i64 k, .int .i64 i, .int .u64 u, .string s, .slice a n c, .slice a' n' c', .bool (x == 1), .int .i64 un]) ∧ Hid (Q k i u s a n c a' n' c' w') ∧ Below w.heap.size w w' := by
  have HC := Lib.hid hC
  have HQ := Lib.hid hQ
  clear hC hQ
  have b2 : Below w.heap.size w ((w.alloc (.cells #[.int .i64 kd, .int .i64 it, .int .u64 ut, .string tx, .slice (some ⟨g, o, none⟩) 2 c] 25)).alloc (.cells #[.int .i64 0, .int .i64 0, .int .i64 0, .int .i64 0, .int .u64 0, .string ⟨#[]⟩, .slice none 0 0, .slice none 0 0, .bool false, .int .i64 0] 27)) := below2 w _ _
  have E0 : Bk ((w.alloc (.cells #[.int .i64 kd, .int .i64 it, .int .u64 ut, .string tx, .slice (some ⟨g, o, none⟩) 2 c] 25)).alloc (.cells #[.int .i64 0, .int .i64 0, .int .i64 0, .int .i64 0, .int .u64 0, .string ⟨#[]⟩, .slice none 0 0, .slice none 0 0, .bool false, .int .i64 0] 27)) (w.heap.size + 1) #[.int .i64 0, .int .i64 0, .int .i64 0, .int .i64 0, .int .u64 0, .string ⟨#[]⟩, .slice none 0 0, .slice none 0 0, .bool false, .int .i64 0] 27 := Bk.new2 w _ _ _
  have HSh := Lib.hid h
  obtain ⟨⟨l1, l2, l3⟩, ⟨h0, h1, h2, h3, h4⟩, ⟨t0, t1, t2, t3, t4⟩, -⟩ := h
  go_enter Tryz.func27, Tryz.ntmps27
  go_wp2_with fail
  go_quiet (fail)
  have b3 : Below w.heap.size w (((w.alloc (.cells #[.int .i64 kd, .int .i64 it, .int .u64 ut, .string tx, .slice (some ⟨g, o, none⟩) 2 c] 25)).alloc (.cells #[.int .i64 0, .int .i64 0, .int .i64 0, .int .i64 0, .int .u64 0, .string ⟨#[]⟩, .slice none 0 0, .slice none 0 0, .bool false, .int .i64 0] 27)).drewN nq) := ⟨b2.os, b2.tape, b2.output, b2.size, b2.block⟩
  have E1 : Bk (((w.alloc (.cells #[.int .i64 kd, .int .i64 it, .int .u64 ut, .string tx, .slice (some ⟨g, o, none⟩) 2 c] 25)).alloc (.cells #[.int .i64 0, .int .i64 0, .int .i64 0, .int .i64 0, .int .u64 0, .string ⟨#[]⟩, .slice none 0 0, .slice none 0 0, .bool false, .int .i64 0] 27)).drewN nq) (w.heap.size + 1) #[.int .i64 0, .int .i64 0, .int .i64 0, .int .i64 0, .int .u64 0, .string ⟨#[]⟩, .slice none 0 0, .slice none 0 0, .bool false, .int .i64 0] 27 := E0
  go_wp2_with fail
  generalize ((w.alloc (.cells #[.int .i64 kd, .int .i64 it, .int .u64 ut, .string tx, .slice (some ⟨g, o, none⟩) 2 c] 25)).alloc (.cells #[.int .i64 0, .int .i64 0, .int .i64 0, .int .i64 0, .int .u64 0, .string ⟨#[]⟩, .slice none 0 0, .slice none 0 0, .bool false, .int .i64 0] 27)).drewN nq = w2 at *
  clear b2 E0 h0 h1 h2 h3 h4 t0 t1 t2 t3 t4 l1 l2 l3
  have HV : Hid (∀ wx, Below w.heap.size w wx → wx.cell? ⟨gh, oh + 1, none⟩ = some (.int .i64 cn) ∧ wx.cell? ⟨gh, oh + 5 + 1, none⟩ = some (.int .i64 ac) ∧ wx.cell? ⟨gh, oh + 10 + 1, none⟩ = some (.int .i64 un) ∧ wx.cell? ⟨gh, oh + 15 + 1, none⟩ = some (.int .i64 x) ∧ wx.cell? ⟨gt, ot, none⟩ = some (.int .i64 k) ∧ wx.cell? ⟨gt, ot + 1, none⟩ = some (.int .i64 i) ∧ wx.cell? ⟨gt, ot + 2, none⟩ = some (.int .u64 u) ∧ wx.cell? ⟨gt, ot + 3, none⟩ = some (.string s) ∧ wx.cell? ⟨gt, ot + 4, none⟩ = some (.slice a len cap) ∧ wx.cell? ⟨gt, ot + 5 + 4, none⟩ = some (.slice la ll lc)) := fun wx hb => by
    obtain ⟨-, -, -, ⟨n0, n1, n2, n3⟩, ⟨m0, m1, m2, m3, m4⟩, q0⟩ := HSh.out.below hb
    exact ⟨n0, n1, n2, n3, m0, m1, m2, m3, m4, q0⟩
  have b4 : Below w.heap.size w w2.drew := b3.drew
  have hsz : w.heap.size + 1 < w2.heap.size := E1.lt
  clear HSh
  refine wp_region_held_drew (S := fun wx => wx.cell? ⟨gh, oh + 1, none⟩ = some (.int .i64 cn) ∧ wx.cell? ⟨gh, oh + 5 + 1, none⟩ = some (.int .i64 ac) ∧ wx.cell? ⟨gh, oh + 10 + 1, none⟩ = some (.int .i64 un) ∧ wx.cell? ⟨gh, oh + 15 + 1, none⟩ = some (.int .i64 x) ∧ wx.cell? ⟨gt, ot, none⟩ = some (.int .i64 k) ∧ wx.cell? ⟨gt, ot + 1, none⟩ = some (.int .i64 i) ∧ wx.cell? ⟨gt, ot + 2, none⟩ = some (.int .u64 u) ∧ wx.cell? ⟨gt, ot + 3, none⟩ = some (.string s) ∧ wx.cell? ⟨gt, ot + 4, none⟩ = some (.slice a len cap) ∧ wx.cell? ⟨gt, ot + 5 + 4, none⟩ = some (.slice la ll lc)) (by kernel_rfl) (HV.out _ b4) (fun hHeld => ?_)
  refine wpAnyH_take (i := 0) (oi := { dst := some 15, op := Op.move (Operand.tmp 3), type := 23, pos := "states.go:78", after := #[], guard := none }) (v := ?tW0x) rfl (by kernel_rfl) (by kernel_rfl) (by kernel_rfl) (fun _ _ _ h => h) (Or.inl ⟨by rfl, ?uW0x⟩) (by assumption) ?rW0x
  case uW0x => (intro w hSw; (try dsimp only at hSw); go_simp; (try with_reducible rfl))
  simp only [Act.put, List.setIfInBounds_toArray, List.set_cons_zero, List.set_cons_succ]
  refine wpAnyH_take (i := 1) (oi := { dst := some 16, op := Op.indexAddr 23 (Operand.tmp 15) (Operand.const (Value.int IntKind.i64 0)), type := 0, pos := "states.go:78", after := #[{ on := 0, ground := Ground.data }], guard := none }) (v := ?tW1x) rfl (by kernel_rfl) (by kernel_rfl) (by kernel_rfl) (fun _ _ _ h => h) (Or.inl ⟨by rfl, ?uW1x⟩) (by assumption) ?rW1x
  case uW1x => (intro w hSw; (try dsimp only at hSw); go_simp; (try with_reducible rfl))
  simp only [Act.put, List.setIfInBounds_toArray, List.set_cons_zero, List.set_cons_succ]
  refine wpAnyH_take (i := 2) (oi := { dst := some 17, op := Op.fieldAddr 25 (Operand.tmp 16) 1, type := 0, pos := "states.go:78", after := #[{ on := 1, ground := Ground.data }], guard := none }) (v := ?tW2x) rfl (by kernel_rfl) (by kernel_rfl) (by kernel_rfl) (fun _ _ _ h => h) (Or.inl ⟨by rfl, ?uW2x⟩) (by assumption) ?rW2x
  case uW2x => (intro w hSw; (try dsimp only at hSw); go_simp; (try with_reducible rfl))
  simp only [Act.put, List.setIfInBounds_toArray, List.set_cons_zero, List.set_cons_succ]
  refine wpAnyH_take (i := 3) (oi := { dst := some 18, op := Op.load 2 (Operand.tmp 17), type := 2, pos := "states.go:78", after := #[{ on := 2, ground := Ground.data }], guard := none }) (v := ?tW3x) rfl (by kernel_rfl) (by kernel_rfl) (by kernel_rfl) (fun _ _ _ h => h) (Or.inl ⟨by rfl, ?uW3x⟩) (by assumption) ?rW3x
  case uW3x => (intro w hSw; (try dsimp only at hSw); go_simp; (try with_reducible rfl))
  simp only [Act.put, List.setIfInBounds_toArray, List.set_cons_zero, List.set_cons_succ]
  refine wpAnyH_take (i := 4) (oi := { dst := some 19, op := Op.move (Operand.tmp 3), type := 23, pos := "states.go:78", after := #[], guard := none }) (v := ?tW4x) rfl (by kernel_rfl) (by kernel_rfl) (by kernel_rfl) (fun _ _ _ h => h) (Or.inl ⟨by rfl, ?uW4x⟩) (by assumption) ?rW4x
  case uW4x => (intro w hSw; (try dsimp only at hSw); go_simp; (try with_reducible rfl))
  simp only [Act.put, List.setIfInBounds_toArray, List.set_cons_zero, List.set_cons_succ]
  refine wpAnyH_take (i := 5) (oi := { dst := some 20, op := Op.indexAddr 23 (Operand.tmp 19) (Operand.const (Value.int IntKind.i64 1)), type := 0, pos := "states.go:78", after := #[{ on := 4, ground := Ground.data }], guard := none }) (v := ?tW5x) rfl (by kernel_rfl) (by kernel_rfl) (by kernel_rfl) (fun _ _ _ h => h) (Or.inl ⟨by rfl, ?uW5x⟩) (by assumption) ?rW5x
  case uW5x => (intro w hSw; (try dsimp only at hSw); go_simp; (try with_reducible rfl))
  simp only [Act.put, List.setIfInBounds_toArray, List.set_cons_zero, List.set_cons_succ]
  refine wpAnyH_take (i := 6) (oi := { dst := some 21, op := Op.fieldAddr 25 (Operand.tmp 20) 1, type := 0, pos := "states.go:78", after := #[{ on := 5, ground := Ground.data }], guard := none }) (v := ?tW6x) rfl (by kernel_rfl) (by kernel_rfl) (by kernel_rfl) (fun _ _ _ h => h) (Or.inl ⟨by rfl, ?uW6x⟩) (by assumption) ?rW6x
  case uW6x => (intro w hSw; (try dsimp only at hSw); go_simp; (try with_reducible rfl))
  simp only [Act.put, List.setIfInBounds_toArray, List.set_cons_zero, List.set_cons_succ]
  refine wpAnyH_take (i := 7) (oi := { dst := some 22, op := Op.load 2 (Operand.tmp 21), type := 2, pos := "states.go:78", after := #[{ on := 6, ground := Ground.data }], guard := none }) (v := ?tW7x) rfl (by kernel_rfl) (by kernel_rfl) (by kernel_rfl) (fun _ _ _ h => h) (Or.inl ⟨by rfl, ?uW7x⟩) (by assumption) ?rW7x
  case uW7x => (intro w hSw; (try dsimp only at hSw); go_simp; (try with_reducible rfl))
  simp only [Act.put, List.setIfInBounds_toArray, List.set_cons_zero, List.set_cons_succ]
  refine wpAnyH_take (i := 8) (oi := { dst := some 23, op := Op.move (Operand.tmp 3), type := 23, pos := "states.go:78", after := #[], guard := none }) (v := ?tW8x) rfl (by kernel_rfl) (by kernel_rfl) (by kernel_rfl) (fun _ _ _ h => h) (Or.inl ⟨by rfl, ?uW8x⟩) (by assumption) ?rW8x
  case uW8x => (intro w hSw; (try dsimp only at hSw); go_simp; (try with_reducible rfl))
  simp only [Act.put, List.setIfInBounds_toArray, List.set_cons_zero, List.set_cons_succ]
  refine wpAnyH_take (i := 9) (oi := { dst := some 24, op := Op.indexAddr 23 (Operand.tmp 23) (Operand.const (Value.int IntKind.i64 2)), type := 0, pos := "states.go:78", after := #[{ on := 8, ground := Ground.data }], guard := none }) (v := ?tW9x) rfl (by kernel_rfl) (by kernel_rfl) (by kernel_rfl) (fun _ _ _ h => h) (Or.inl ⟨by rfl, ?uW9x⟩) (by assumption) ?rW9x
  case uW9x => (intro w hSw; (try dsimp only at hSw); go_simp; (try with_reducible rfl))
  simp only [Act.put, List.setIfInBounds_toArray, List.set_cons_zero, List.set_cons_succ]
  refine wpAnyH_take (i := 10) (oi := { dst := some 25, op := Op.fieldAddr 25 (Operand.tmp 24) 1, type := 0, pos := "states.go:78", after := #[{ on := 9, ground := Ground.data }], guard := none }) (v := ?tW10x) rfl (by kernel_rfl) (by kernel_rfl) (by kernel_rfl) (fun _ _ _ h => h) (Or.inl ⟨by rfl, ?uW10x⟩) (by assumption) ?rW10x
  case uW10x => (intro w hSw; (try dsimp only at hSw); go_simp; (try with_reducible rfl))
  simp only [Act.put, List.setIfInBounds_toArray, List.set_cons_zero, List.set_cons_succ]
  refine wpAnyH_take (i := 11) (oi := { dst := some 26, op := Op.load 2 (Operand.tmp 25), type := 2, pos := "states.go:78", after := #[{ on := 10, ground := Ground.data }], guard := none }) (v := ?tW11x) rfl (by kernel_rfl) (by kernel_rfl) (by kernel_rfl) (fun _ _ _ h => h) (Or.inl ⟨by rfl, ?uW11x⟩) (by assumption) ?rW11x
  case uW11x => (intro w hSw; (try dsimp only at hSw); go_simp; (try with_reducible rfl))
  simp only [Act.put, List.setIfInBounds_toArray, List.set_cons_zero, List.set_cons_succ]
  refine wpAnyH_take (i := 12) (oi := { dst := some 27, op := Op.move (Operand.tmp 3), type := 23, pos := "states.go:78", after := #[], guard := none }) (v := ?tW12x) rfl (by kernel_rfl) (by kernel_rfl) (by kernel_rfl) (fun _ _ _ h => h) (Or.inl ⟨by rfl, ?uW12x⟩) (by assumption) ?rW12x
  case uW12x => (intro w hSw; (try dsimp only at hSw); go_simp; (try with_reducible rfl))
  simp only [Act.put, List.setIfInBounds_toArray, List.set_cons_zero, List.set_cons_succ]
  refine wpAnyH_take (i := 13) (oi := { dst := some 28, op := Op.indexAddr 23 (Operand.tmp 27) (Operand.const (Value.int IntKind.i64 3)), type := 0, pos := "states.go:78", after := #[{ on := 12, ground := Ground.data }], guard := none }) (v := ?tW13x) rfl (by kernel_rfl) (by kernel_rfl) (by kernel_rfl) (fun _ _ _ h => h) (Or.inl ⟨by rfl, ?uW13x⟩) (by assumption) ?rW13x
  case uW13x => (intro w hSw; (try dsimp only at hSw); go_simp; (try with_reducible rfl))
  simp only [Act.put, List.setIfInBounds_toArray, List.set_cons_zero, List.set_cons_succ]
  refine wpAnyH_take (i := 14) (oi := { dst := some 29, op := Op.fieldAddr 25 (Operand.tmp 28) 1, type := 0, pos := "states.go:78", after := #[{ on := 13, ground := Ground.data }], guard := none }) (v := ?tW14x) rfl (by kernel_rfl) (by kernel_rfl) (by kernel_rfl) (fun _ _ _ h => h) (Or.inl ⟨by rfl, ?uW14x⟩) (by assumption) ?rW14x
  case uW14x => (intro w hSw; (try dsimp only at hSw); go_simp; (try with_reducible rfl))
  simp only [Act.put, List.setIfInBounds_toArray, List.set_cons_zero, List.set_cons_succ]
  refine wpAnyH_take (i := 15) (oi := { dst := some 30, op := Op.load 2 (Operand.tmp 29), type := 2, pos := "states.go:78", after := #[{ on := 14, ground := Ground.data }], guard := none }) (v := ?tW15x) rfl (by kernel_rfl) (by kernel_rfl) (by kernel_rfl) (fun _ _ _ h => h) (Or.inl ⟨by rfl, ?uW15x⟩) (by assumption) ?rW15x
  case uW15x => (intro w hSw; (try dsimp only at hSw); go_simp; (try with_reducible rfl))
  simp only [Act.put, List.setIfInBounds_toArray, List.set_cons_zero, List.set_cons_succ]
  refine wpAnyH_take (i := 16) (oi := { dst := some 31, op := Op.binOp BinOp.eql 2 (Operand.tmp 30) (Operand.const (Value.int IntKind.i64 1)) 2, type := 4, pos := "states.go:78", after := #[{ on := 15, ground := Ground.data }], guard := none }) (v := ?tW16x) rfl (by kernel_rfl) (by kernel_rfl) (by kernel_rfl) (fun _ _ _ h => h) (Or.inl ⟨by rfl, ?uW16x⟩) (by assumption) ?rW16x
  case uW16x => (intro w hSw; (try dsimp only at hSw); go_simp; (try with_reducible rfl))
  simp only [Act.put, List.setIfInBounds_toArray, List.set_cons_zero, List.set_cons_succ]
  refine wpAnyH_take (i := 17) (oi := { dst := some 32, op := Op.move (Operand.tmp 4), type := 23, pos := "states.go:78", after := #[], guard := none }) (v := ?tW17x) rfl (by kernel_rfl) (by kernel_rfl) (by kernel_rfl) (fun _ _ _ h => h) (Or.inl ⟨by rfl, ?uW17x⟩) (by assumption) ?rW17x
  case uW17x => (intro w hSw; (try dsimp only at hSw); go_simp; (try with_reducible rfl))
  simp only [Act.put, List.setIfInBounds_toArray, List.set_cons_zero, List.set_cons_succ]
  refine wpAnyH_take (i := 18) (oi := { dst := some 33, op := Op.indexAddr 23 (Operand.tmp 32) (Operand.const (Value.int IntKind.i64 0)), type := 0, pos := "states.go:78", after := #[{ on := 17, ground := Ground.data }], guard := none }) (v := ?tW18x) rfl (by kernel_rfl) (by kernel_rfl) (by kernel_rfl) (fun _ _ _ h => h) (Or.inl ⟨by rfl, ?uW18x⟩) (by assumption) ?rW18x
  case uW18x => (intro w hSw; (try dsimp only at hSw); go_simp; (try with_reducible rfl))
  simp only [Act.put, List.setIfInBounds_toArray, List.set_cons_zero, List.set_cons_succ]
  refine wpAnyH_take (i := 19) (oi := { dst := some 34, op := Op.load 25 (Operand.tmp 33), type := 25, pos := "states.go:78", after := #[{ on := 18, ground := Ground.data }], guard := none }) (v := ?tW19x) rfl (by kernel_rfl) (by kernel_rfl) (by kernel_rfl) (fun _ _ _ h => h) (Or.inl ⟨by rfl, ?uW19x⟩) (by assumption) ?rW19x
  case uW19x => (intro w hSw; (try dsimp only at hSw); go_simp; (try with_reducible rfl))
  simp only [Act.put, List.setIfInBounds_toArray, List.set_cons_zero, List.set_cons_succ]
  refine wpAnyH_take (i := 20) (oi := { dst := some 35, op := Op.move (Operand.tmp 4), type := 23, pos := "states.go:78", after := #[], guard := none }) (v := ?tW20x) rfl (by kernel_rfl) (by kernel_rfl) (by kernel_rfl) (fun _ _ _ h => h) (Or.inl ⟨by rfl, ?uW20x⟩) (by assumption) ?rW20x
  case uW20x => (intro w hSw; (try dsimp only at hSw); go_simp; (try with_reducible rfl))
  simp only [Act.put, List.setIfInBounds_toArray, List.set_cons_zero, List.set_cons_succ]
  refine wpAnyH_take (i := 21) (oi := { dst := some 36, op := Op.indexAddr 23 (Operand.tmp 35) (Operand.const (Value.int IntKind.i64 1)), type := 0, pos := "states.go:78", after := #[{ on := 20, ground := Ground.data }], guard := none }) (v := ?tW21x) rfl (by kernel_rfl) (by kernel_rfl) (by kernel_rfl) (fun _ _ _ h => h) (Or.inl ⟨by rfl, ?uW21x⟩) (by assumption) ?rW21x
  case uW21x => (intro w hSw; (try dsimp only at hSw); go_simp; (try with_reducible rfl))
  simp only [Act.put, List.setIfInBounds_toArray, List.set_cons_zero, List.set_cons_succ]
  refine wpAnyH_take (i := 22) (oi := { dst := some 37, op := Op.fieldAddr 25 (Operand.tmp 36) 4, type := 0, pos := "states.go:78", after := #[{ on := 21, ground := Ground.data }], guard := none }) (v := ?tW22x) rfl (by kernel_rfl) (by kernel_rfl) (by kernel_rfl) (fun _ _ _ h => h) (Or.inl ⟨by rfl, ?uW22x⟩) (by assumption) ?rW22x
  case uW22x => (intro w hSw; (try dsimp only at hSw); go_simp; (try with_reducible rfl))
  simp only [Act.put, List.setIfInBounds_toArray, List.set_cons_zero, List.set_cons_succ]
  refine wpAnyH_take (i := 23) (oi := { dst := some 38, op := Op.load 23 (Operand.tmp 37), type := 23, pos := "states.go:78", after := #[{ on := 22, ground := Ground.data }], guard := none }) (v := ?tW23x) rfl (by kernel_rfl) (by kernel_rfl) (by kernel_rfl) (fun _ _ _ h => h) (Or.inl ⟨by rfl, ?uW23x⟩) (by assumption) ?rW23x
  case uW23x => (intro w hSw; (try dsimp only at hSw); go_simp; (try with_reducible rfl))
  simp only [Act.put, List.setIfInBounds_toArray, List.set_cons_zero, List.set_cons_succ]
  refine wpAnyH_take (i := 24) (oi := { dst := some 39, op := Op.build 27 #[(0, Operand.tmp 18), (1, Operand.tmp 22), (5, Operand.tmp 26), (4, Operand.tmp 31), (2, Operand.tmp 34), (3, Operand.tmp 38)], type := 27, pos := "states.go:78", after := #[{ on := 3, ground := Ground.data }, { on := 7, ground := Ground.data }, { on := 11, ground := Ground.data }, { on := 16, ground := Ground.data }, { on := 19, ground := Ground.data }, { on := 23, ground := Ground.data }], guard := none }) (v := ?tW24x) rfl (by kernel_rfl) (by kernel_rfl) (by kernel_rfl) (fun _ _ _ h => h) (Or.inl ⟨by rfl, ?uW24x⟩) (by assumption) ?rW24x
  case uW24x => (intro w hSw; (try dsimp only at hSw); go_simp; (try with_reducible rfl))
  simp only [Act.put, List.setIfInBounds_toArray, List.set_cons_zero, List.set_cons_succ]
  refine wpAnyH_ready (rs := [25]) (by kernel_rfl) (by simp) ?_
  refine AllReadyH.cons (o := { dst := some 40, op := Op.call { callee := Callee.value (Operand.func 37), args := #[Operand.tmp 39], argTypes := #[27] }, type := 27, pos := "states.go:78", after := #[{ on := 24, ground := Ground.data }], guard := none }) rfl (fun K hK => ?_) AllReadyH.nil
  go_simp
  refine (HC.out _ b4 (by show w.heap.size + 2 ≤ w2.heap.size; omega)).mono ?_
  rintro e w5 ⟨k', i', u', s', a', n', c', la', ll', lc', rfl, q5, b5⟩
  go_wp2_with fail
  have B5 := b4.trans (b5.mono b4.size)
  have E5 := (Bk.drew E1).step b5
  refine hK.out _ _ (HV.out _ B5) (fun hH5 => ?_)
  clear hK K
  try simp only [Act.put, List.setIfInBounds_toArray, List.set_cons_zero, List.set_cons_succ]
  obtain ⟨z0, z1, z2, z3, z4, z5, z6, z7, z8, z9⟩ := E5.c10
  have fz := E5.f
  refine wpAnyH_ready (rs := [26]) (by kernel_rfl) (by simp) ?_
  refine AllReadyH.cons (o := { dst := none, op := Op.store 27 (Operand.tmp 2) (Operand.tmp 40), type := 0, pos := "states.go:78", after := #[{ on := 25, ground := Ground.data }, { on := 25, ground := Ground.chain }, { on := 0, ground := Ground.phase }, { on := 1, ground := Ground.phase }, { on := 2, ground := Ground.phase }, { on := 3, ground := Ground.phase }, { on := 4, ground := Ground.phase }, { on := 5, ground := Ground.phase }, { on := 6, ground := Ground.phase }, { on := 7, ground := Ground.phase }, { on := 8, ground := Ground.phase }, { on := 9, ground := Ground.phase }, { on := 10, ground := Ground.phase }, { on := 11, ground := Ground.phase }, { on := 12, ground := Ground.phase }, { on := 13, ground := Ground.phase }, { on := 14, ground := Ground.phase }, { on := 15, ground := Ground.phase }, { on := 16, ground := Ground.phase }, { on := 17, ground := Ground.phase }, { on := 18, ground := Ground.phase }, { on := 19, ground := Ground.phase }, { on := 20, ground := Ground.phase }, { on := 21, ground := Ground.phase }, { on := 22, ground := Ground.phase }, { on := 23, ground := Ground.phase }, { on := 24, ground := Ground.phase }, { on := 25, ground := Ground.phase }], guard := none }) rfl (fun K hK => ?_) AllReadyH.nil
  go_simp
  obtain ⟨M1, M2, M3, M4⟩ := set10 E5 (.int .i64 cn) (.int .i64 ac) (.int .i64 k') (.int .i64 i') (.int .u64 u') (.string s') (.slice a' n' c') (.slice la' ll' lc') (.bool (x == 1)) (.int .i64 un) rfl
  have B6 := B5.trans (M4.mono (Nat.le_succ _))
  have Q6 : Hid (Q k' i' u' s' a' n' c' la' ll' lc' _) := HQ.out _ _ _ _ _ _ _ _ _ _ _ _ q5.out (Nat.le_of_eq M2.symm) fun g hg _ => M3 g (by omega)
  clear z0 z1 z2 z3 z4 z5 z6 z7 z8 z9 fz q5 M2 M3 M4
  generalize ((((((((((w5.setCell ⟨w.heap.size + 1, 0, none⟩ (.int .i64 cn)).setCell ⟨w.heap.size + 1, 1, none⟩ (.int .i64 ac)).setCell ⟨w.heap.size + 1, 2, none⟩ (.int .i64 k')).setCell ⟨w.heap.size + 1, 3, none⟩ (.int .i64 i')).setCell ⟨w.heap.size + 1, 4, none⟩ (.int .u64 u')).setCell ⟨w.heap.size + 1, 5, none⟩ (.string s')).setCell ⟨w.heap.size + 1, 6, none⟩ (.slice a' n' c')).setCell ⟨w.heap.size + 1, 7, none⟩ (.slice la' ll' lc')).setCell ⟨w.heap.size + 1, 8, none⟩ (.bool (x == 1))).setCell ⟨w.heap.size + 1, 9, none⟩ (.int .i64 un)) = w6 at *
  refine hK.out _ _ (HV.out _ B6) (fun hH6 => ?_)
  clear hK K
  refine wpAnyH_done (by kernel_rfl) ?_ _
  go_wp2_with fail
  obtain ⟨y0, y1, y2, y3, y4, y5, y6, y7, y8, y9⟩ := M1.c10
  exact bodyPost_ret (v := .agg #[.int .i64 cn, .int .i64 ac, .int .i64 k', .int .i64 i', .int .u64 u', .string s', .slice a' n' c', .slice la' ll' lc', .bool (x == 1), .int .i64 un]) (by simp [results, Tryz.results27, go_sem, y0, y1, y2, y3, y4, y5, y6, y7, y8, y9]) rfl ⟨_, _, _, _, _, _, _, _, _, _, rfl, Q6, B6⟩
end Go.Proofs.YtgijdiplhcoojaaGreatDoor.Dt
