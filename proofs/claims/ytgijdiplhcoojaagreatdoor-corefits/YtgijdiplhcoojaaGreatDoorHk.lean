/- The handler that opens, at a nil pointer: it panics so; no condition. -/
import Derived.Test.YtgijdiplhcoojaaGreatDoorJae
import Derived.Test.YtgijdiplhcoojaaGreatDoorMst
namespace Go.Proofs.YtgijdiplhcoojaaGreatDoor
open Go.RowKit

def MetN (A : Nat) (av : Value) (F : Nat) : Prop := (∀ w : World, (method 374 A av "conduit/want.must").run Tryz.prog w = .ok (F, .agg #[]) w) ∧ ∀ (args : Array Value) (w : World), (callFunc F args).run Tryz.prog w = .ok (.enter F args) w

set_option maxRecDepth 100000 in
set_option maxHeartbeats 1000000 in
theorem of_noptr (w : World) : Calls Tryz.prog 106 #[.agg #[.int .i64 12, .int .i64 0, .int .u64 0, .string ⟨#[]⟩, .slice none 0 0]] w fun e w' => e = .returned (.iface 121 (.pointer none)) ∧ Below w.heap.size w w' := by
  go_enter Tryz.func106, Tryz.ntmps106
  go_wp2
  go_ret
  exact ⟨rfl, below3 w _ _ _⟩
set_option maxRecDepth 100000 in
set_option maxHeartbeats 1000000 in
theorem ofKind_noptr (w : World) : Calls Tryz.prog 105 #[.int .i64 12] w fun e w' => e = .returned (.iface 121 (.pointer none)) ∧ Below w.heap.size w w' := by
  have H := Lib.hid of_noptr
  go_enter Tryz.func105, Tryz.ntmps105
  go_wp2_with fail
  refine (H.out _).mono ?_
  rintro e w1 ⟨rfl, b1⟩
  go_wp2
  go_ret
  exact ⟨rfl, b1⟩
set_option maxRecDepth 100000 in
set_option maxHeartbeats 1000000 in
theorem interfaceOf_3 (w : World) : Calls Tryz.prog 114 #[.int .i64 3] w fun e w' => e = .returned (.agg #[.iface 222 (.agg #[]), .int .u8 8]) ∧ Below w.heap.size w w' := by
  go_enter Tryz.func114, Tryz.ntmps114
  go_wp2
  exact bodyPost_ret (v := .agg #[.iface 222 (.agg #[]), .int .u8 8]) (by simp [results, Tryz.results114, go_sem]) rfl ⟨rfl, below1 w _⟩
set_option maxRecDepth 100000 in
set_option maxHeartbeats 1000000 in
theorem must_box (w : World) : Calls Tryz.prog 144 #[.agg #[], .iface 121 (.pointer none)] w fun e w' => e = .returned (.iface 121 (.pointer none)) ∧ Below w.heap.size w w' := by
  have h : ∀ w : World, (Instr.typeAssert (.iface 121 (.pointer none)) 20 196 false).run Tryz.prog w = .ok (.iface 121 (.pointer none)) w := fun w => must_has Tryz.underlying196 (by kernel_rfl) w
  go_enter Tryz.func144, Tryz.ntmps144
  go_wp2
  go_ret
  exact ⟨rfl, below1 w _⟩
set_option maxRecDepth 100000 in
set_option maxHeartbeats 1000000 in
theorem caughtN_yes (Q : Nat) (av : Value) (F : Nat) (u : Value) (w : World) (hm : MetN Q av F) (hF : ∀ w, Calls Tryz.prog F #[.agg #[], u] w fun e w' => e = .returned u ∧ Below w.heap.size w w') :
    Calls Tryz.prog 113 #[.iface Q av, u] w fun e w' => e = .returned (.tuple #[u, .int .i64 0]) ∧ Below w.heap.size w w' := by
  have hmf : ∀ (fn : Fn) (first cap : Array Value) (w : World), (Instr.makeFunc fn first cap).run Tryz.prog w = .ok (.func fn first cap) w := fun _ _ _ _ => rfl
  obtain ⟨hmm, hcf⟩ := hm
  have HF := Lib.hid hF
  clear hF
  go_enter_defers Tryz.func113, Tryz.ntmps113
  go_wp2_with fail
  refine (HF.out _).mono ?_
  rintro e w1 ⟨rfl, b1⟩
  have b0 := below1 w (.cells #[.int .i64 0] 52)
  have c1 : w1.cell? ⟨w.heap.size, 0, none⟩ = some (.int .i64 0) := (b1.cell (p := ⟨w.heap.size, 0, none⟩) (by simp)).trans (new_c w _ 52).1
  have f1 : w1.frozen? ⟨w.heap.size, 0, none⟩ = false := (b1.frozen (p := ⟨w.heap.size, 0, none⟩) (by simp)).trans (new_c w (.int .i64 0) 52).2
  have B1 := b0.trans (b1.mono b0.size)
  go_wp2
  refine leaves_cons (f := 117) (args := #[.pointer (some ⟨w.heap.size, 0, none⟩)]) (by simp) (by simp [go_sem]) ?_
  refine (cau_idle ⟨w.heap.size, 0, none⟩ _).mono ?_
  rintro e u' w'' ⟨rfl, rfl, rfl⟩
  have g1 : (w1.setCell ⟨w.heap.size, 0, none⟩ (.int .i64 0)).cell? ⟨w.heap.size, 0, none⟩ = some (.int .i64 0) := by simp [World.cell?_setCell_same, c1]
  simp [Leaves, settle, results, Tryz.results113, go_sem, g1]
  exact B1.setCell (Nat.le_refl _) _

/-- A value's block and one behind it. -/
def Tn (w : World) (k i b : Int) (s : ByteArray) (ad : Option Addr) (len cap : Nat) (w' : World) : Prop :=
  Below (w.heap.size + 2) ((w.alloc (.cells #[.int .i64 k, .int .i64 i, .int .u64 b, .string s, .slice ad len cap] 25)).alloc (.cells #[.int .i64 0, .int .i64 0] 204)) w'
theorem Tn.drew {w : World} {k i b : Int} {s : ByteArray} {ad : Option Addr} {len cap : Nat} {w' : World} (h : Tn w k i b s ad len cap w') : Tn w k i b s ad len cap w'.drew := Below.drew h
theorem Tn.below {w : World} {k i b : Int} {s : ByteArray} {ad : Option Addr} {len cap : Nat} {w' : World} (h : Tn w k i b s ad len cap w') : Below w.heap.size w w' := (below2 w _ _).trans (Below.mono h (by omega))
theorem Tn.step {w : World} {k i b : Int} {s : ByteArray} {ad : Option Addr} {len cap : Nat} {w1 w2 : World} (h : Tn w k i b s ad len cap w1) (hb : Below w1.heap.size w1 w2) : Tn w k i b s ad len cap w2 := by
  have := Below.size h
  simp at this
  exact Below.trans h (hb.mono (by omega))
theorem Tn.start (w : World) (k i b : Int) (s : ByteArray) (ad : Option Addr) (len cap : Nat) : Tn w k i b s ad len cap ((w.alloc (.cells #[.int .i64 k, .int .i64 i, .int .u64 b, .string s, .slice ad len cap] 25)).alloc (.cells #[.int .i64 0, .int .i64 0] 204)) := Below.refl _ _
theorem Tn.c {w : World} {k i b : Int} {s : ByteArray} {ad : Option Addr} {len cap : Nat} {w' : World} (h : Tn w k i b s ad len cap w') : w'.cell? ⟨w.heap.size, 0, none⟩ = some (.int .i64 k) ∧ w'.cell? ⟨w.heap.size + 1, 0, none⟩ = some (.int .i64 0) ∧ w'.cell? ⟨w.heap.size + 1, 1, none⟩ = some (.int .i64 0) ∧ (∀ o, w'.frozen? ⟨w.heap.size + 1, o, none⟩ = false) := by
  have e0 := heap_alloc_new w (.cells #[.int .i64 k, .int .i64 i, .int .u64 b, .string s, .slice ad len cap] 25)
  have e1 := heap_alloc_new (w.alloc (.cells #[.int .i64 k, .int .i64 i, .int .u64 b, .string s, .slice ad len cap] 25)) (.cells #[.int .i64 0, .int .i64 0] 204)
  simp only [World.size_alloc] at e1
  have h0 : w'.heap[w.heap.size]? = some (.cells #[.int .i64 k, .int .i64 i, .int .u64 b, .string s, .slice ad len cap] 25 (0, 0)) := (Below.block h w.heap.size (by omega)).trans (((below1 _ _).block _ (by simp)).trans e0)
  have h1 : w'.heap[w.heap.size + 1]? = some (.cells #[.int .i64 0, .int .i64 0] 204 (0, 0)) := (Below.block h (w.heap.size + 1) (by omega)).trans e1
  simp [World.cell?, World.frozen?, h0, h1]

/-- A value's block, a result's and an error's. -/
def ThN (w : World) (v0 v1 v2 v3 v4 : Value) (w' : World) : Prop := Below (w.heap.size + 3) (((w.alloc (.cells #[v0, v1, v2, v3, v4] 25)).alloc (.cells #[.int .i64 0, .int .i64 0, .int .u64 0, .string ⟨#[]⟩, .slice none 0 0] 25)).alloc (.cells #[.int .i64 0] 52)) w'
theorem ThN.below {w : World} {v0 v1 v2 v3 v4 : Value} {w' : World} (h : ThN w v0 v1 v2 v3 v4 w') : Below w.heap.size w w' := ((((Below.refl _ w).alloc (Nat.le_refl _) _).alloc (by simp) _).alloc (by simp; omega) _).trans (Below.mono h (by omega))
theorem ThN.step {w : World} {v0 v1 v2 v3 v4 : Value} {w1 w2 : World} (h : ThN w v0 v1 v2 v3 v4 w1) (hb : Below w1.heap.size w1 w2) : ThN w v0 v1 v2 v3 v4 w2 := by
  have := Below.size h
  simp at this
  exact Below.trans h (hb.mono (by omega))
theorem ThN.drew {w : World} {v0 v1 v2 v3 v4 : Value} {w' : World} (h : ThN w v0 v1 v2 v3 v4 w') : ThN w v0 v1 v2 v3 v4 w'.drew := Below.drew h
theorem ThN.start (w : World) (v0 v1 v2 v3 v4 : Value) : ThN w v0 v1 v2 v3 v4 (((w.alloc (.cells #[v0, v1, v2, v3, v4] 25)).alloc (.cells #[.int .i64 0, .int .i64 0, .int .u64 0, .string ⟨#[]⟩, .slice none 0 0] 25)).alloc (.cells #[.int .i64 0] 52)) := Below.refl _ _
theorem ThN.size3 {w : World} {v0 v1 v2 v3 v4 : Value} {w' : World} (h : ThN w v0 v1 v2 v3 v4 w') : w.heap.size + 3 ≤ w'.heap.size := by
  have := Below.size h
  simp at this
  omega
theorem ThN.d {w : World} {v0 v1 v2 v3 v4 : Value} {w' : World} (h : ThN w v0 v1 v2 v3 v4 w') :
    (w'.cell? ⟨w.heap.size + 1, 0, none⟩ = some (.int .i64 0) ∧ w'.cell? ⟨w.heap.size + 1, 1, none⟩ = some (.int .i64 0) ∧ w'.cell? ⟨w.heap.size + 1, 2, none⟩ = some (.int .u64 0) ∧ w'.cell? ⟨w.heap.size + 1, 3, none⟩ = some (.string ⟨#[]⟩) ∧ w'.cell? ⟨w.heap.size + 1, 4, none⟩ = some (.slice none 0 0)) ∧ w'.cell? ⟨w.heap.size + 1 + 1, 0, none⟩ = some (.int .i64 0) ∧ (∀ o, w'.frozen? ⟨w.heap.size + 1, o, none⟩ = false) ∧ ∀ o, w'.frozen? ⟨w.heap.size + 1 + 1, o, none⟩ = false := by
  have e1 := heap_alloc_new (w.alloc (.cells #[v0, v1, v2, v3, v4] 25)) (.cells #[.int .i64 0, .int .i64 0, .int .u64 0, .string ⟨#[]⟩, .slice none 0 0] 25)
  have e2 := heap_alloc_new ((w.alloc (.cells #[v0, v1, v2, v3, v4] 25)).alloc (.cells #[.int .i64 0, .int .i64 0, .int .u64 0, .string ⟨#[]⟩, .slice none 0 0] 25)) (.cells #[.int .i64 0] 52)
  simp only [World.size_alloc] at e1 e2
  have h1 : w'.heap[w.heap.size + 1]? = some (.cells #[.int .i64 0, .int .i64 0, .int .u64 0, .string ⟨#[]⟩, .slice none 0 0] 25 (0, 0)) := (Below.block h (w.heap.size + 1) (by omega)).trans (((below1 _ _).block _ (by simp)).trans e1)
  have h2 : w'.heap[w.heap.size + 1 + 1]? = some (.cells #[.int .i64 0] 52 (0, 0)) := (Below.block h (w.heap.size + 2) (by omega)).trans e2
  simp [World.cell?, World.frozen?, h1, h2]

theorem openN (w : World) : Calls Tryz.prog 197 #[.pointer none] w fun e w' => ∃ T z, e = .panicked [{ v := .iface T z, recovered := false }] ∧ w' = w := by
  go_enter Tryz.func197, Tryz.ntmps197
  go_wp2
  exact ⟨rfl, _, _, rfl, rfl⟩
theorem opn_cat (A B : Nat) (T : TypeId) (z : Value) (older : List PanicEntry) (w : World) (x0 x1 x2 x3 x4 y : Value) (hne : A ≠ B) (hc : w.cell? ⟨A, 0, none⟩ = some x0 ∧ w.cell? ⟨A, 1, none⟩ = some x1 ∧ w.cell? ⟨A, 2, none⟩ = some x2 ∧ w.cell? ⟨A, 3, none⟩ = some x3 ∧ w.cell? ⟨A, 4, none⟩ = some x4) (hz : ∀ o, w.frozen? ⟨A, o, none⟩ = false) (hc' : w.cell? ⟨B, 0, none⟩ = some y) (hz' : ∀ o, w.frozen? ⟨B, o, none⟩ = false) :
    CallsD Tryz.prog 116 #[.pointer (some ⟨A, 0, none⟩), .pointer (some ⟨B, 0, none⟩)] (.panicking ({ v := .iface T z, recovered := false } :: older)) w fun e u' w' =>
      e = .returned (.tuple #[]) ∧ u' = .panicking ({ v := .iface T z, recovered := true } :: older) ∧ w' = (((((w.setCell ⟨A, 0, none⟩ (.int .i64 0)).setCell ⟨A, 1, none⟩ (.int .i64 0)).setCell ⟨A, 2, none⟩ (.int .u64 0)).setCell ⟨A, 3, none⟩ (.string ⟨#[]⟩)).setCell ⟨A, 4, none⟩ (.slice none 0 0)).setCell ⟨B, 0, none⟩ (.int .i64 13) := by
  obtain ⟨c0, c1, c2, c3, c4⟩ := hc
  refine callsD_of_wpS Tryz.func116 rfl fun c₀ cs hu => ?_
  apply wpS_seq
  apply wpS_region
  simp [wpOpsS, go_sem, recoverD, hu, Tryz.ntmps116, Exit.thenS]
  refine wpS_cond (t := true) (by simp [Act.eval, Array.replicate]) ?_
  simp only [if_true]
  apply wpS_region
  simp [wpOpsS, go_sem, c0, c1, c2, c3, c4, hz, hc', hz', World.cell?_setCell_other, bodyPostS, results, Tryz.results116]
set_option maxRecDepth 100000 in
set_option maxHeartbeats 2000000 in
theorem opnN (k i u : Int) (s0 : ByteArray) (ad : Option Addr) (len cap : Nat) (w : World)
    (hO : ∀ wx, Below w.heap.size w wx → Calls Tryz.prog 106 #[.agg #[.int .i64 k, .int .i64 i, .int .u64 u, .string s0, .slice ad len cap]] wx fun e w' => e = .returned (.iface 121 (.pointer none)) ∧ Below wx.heap.size wx w') :
    Calls Tryz.prog 112 #[.agg #[.int .i64 k, .int .i64 i, .int .u64 u, .string s0, .slice ad len cap]] w fun e w' => e = .returned (.tuple #[.agg #[.int .i64 0, .int .i64 0, .int .u64 0, .string ⟨#[]⟩, .slice none 0 0], .int .i64 13]) ∧ Below w.heap.size w w' := by
  have hmf : ∀ (fn : Fn) (first cap : Array Value) (w : World), (Instr.makeFunc fn first cap).run Tryz.prog w = .ok (.func fn first cap) w := fun _ _ _ _ => rfl
  have hmm : ∀ (z : Value) (w : World), (method 374 121 z "Open").run Tryz.prog w = .ok (197, z) w := fun _ _ => by kernel_rfl
  have hcf : ∀ (args : Array Value) (w : World), (callFunc 197 args).run Tryz.prog w = .ok (.enter 197 args) w := fun _ _ => by kernel_rfl
  have has : ∀ (z : Value) (w : World), (Instr.typeAssert (.iface 121 z) 20 196 true).run Tryz.prog w = .ok (.tuple #[.iface 121 z, .bool true]) w := fun z w => run_typeAssert_hasB Tryz.underlying196 (by kernel_rfl) _ _ w
  have h0 := ThN.start w (.int .i64 k) (.int .i64 i) (.int .u64 u) (.string s0) (.slice ad len cap)
  have HO := Lib.hid hO
  clear hO
  go_enter_defers Tryz.func112, Tryz.ntmps112
  go_wp2_with fail
  refine (HO.out _ h0.below).mono ?_
  rintro e w1 ⟨rfl, b1⟩
  have h1 := h0.step b1
  go_wp2_with fail
  refine (openN _).mono ?_
  rintro e w2 ⟨T, z, rfl, rfl⟩
  obtain ⟨⟨d0, d1, d2, d3, d4⟩, f0, fz, fz'⟩ := h1.d
  have B := h1.below
  go_wp2
  refine leaves_cons (f := 116) (args := #[.pointer (some ⟨w.heap.size + 1, 0, none⟩), .pointer (some ⟨w.heap.size + 1 + 1, 0, none⟩)]) (by simp) (by simp [go_sem]) ?_
  refine (opn_cat _ _ T z [] _ _ _ _ _ _ _ (by omega) ⟨d0, d1, d2, d3, d4⟩ fz f0 fz').mono ?_
  rintro e u' w'' ⟨rfl, rfl, rfl⟩
  simp [Leaves, settle, results, Tryz.results112, go_sem, World.cell?_setCell_same, World.cell?_setCell_other, d0, d1, d2, d3, d4, f0]
  exact (((((B.setCell (by show w.heap.size ≤ w.heap.size + 1; omega) _).setCell (by show w.heap.size ≤ w.heap.size + 1; omega) _).setCell (by show w.heap.size ≤ w.heap.size + 1; omega) _).setCell (by show w.heap.size ≤ w.heap.size + 1; omega) _).setCell (by show w.heap.size ≤ w.heap.size + 1; omega) _).setCell (by show w.heap.size ≤ w.heap.size + 1 + 1; omega) _

theorem metN_open : MetN 212 (.agg #[.iface 222 (.agg #[]), .int .u8 8]) 144 := ⟨fun _ => by kernel_rfl, fun _ _ => by kernel_rfl⟩
set_option maxRecDepth 100000 in
set_option maxHeartbeats 2000000 in
theorem mustFace_np (w : World) :
    Calls Tryz.prog 111 #[.agg #[.int .i64 12, .int .i64 0, .int .u64 0, .string ⟨#[]⟩, .slice none 0 0], .int .i64 3] w fun e w' => e = .returned (.tuple #[.agg #[.int .i64 0, .int .i64 0], .int .i64 0]) ∧ Below w.heap.size w w' := by
  have HI : Hid (∀ wx, Tn w 12 0 0 ⟨#[]⟩ none 0 0 wx → Calls Tryz.prog 114 #[.int .i64 3] wx fun e w' => e = .returned (.agg #[.iface 222 (.agg #[]), .int .u8 8]) ∧ Tn w 12 0 0 ⟨#[]⟩ none 0 0 w') := fun wx hx => (interfaceOf_3 wx).mono fun e w' ⟨a, b⟩ => ⟨a, hx.step b⟩
  have HK : Hid (∀ wx, Tn w 12 0 0 ⟨#[]⟩ none 0 0 wx → Calls Tryz.prog 105 #[.int .i64 12] wx fun e w' => e = .returned (.iface 121 (.pointer none)) ∧ Tn w 12 0 0 ⟨#[]⟩ none 0 0 w') := fun wx hx => (ofKind_noptr wx).mono fun e w' ⟨a, d⟩ => ⟨a, hx.step d⟩
  have HC : Hid (∀ wx, Tn w 12 0 0 ⟨#[]⟩ none 0 0 wx → Calls Tryz.prog 113 #[.iface 212 (.agg #[.iface 222 (.agg #[]), .int .u8 8]), .iface 121 (.pointer none)] wx fun e w' => e = .returned (.tuple #[.iface 121 (.pointer none), .int .i64 0]) ∧ Tn w 12 0 0 ⟨#[]⟩ none 0 0 w') := fun wx hx => (caughtN_yes _ _ 144 _ wx metN_open must_box).mono fun e w' ⟨a, d⟩ => ⟨a, hx.step d⟩
  have HS : Hid (∀ wx, Tn w 12 0 0 ⟨#[]⟩ none 0 0 wx → wx.cell? ⟨w.heap.size, 0, none⟩ = some (.int .i64 12)) := fun wx h => h.c.1
  have hb0 := Tn.start w 12 0 0 ⟨#[]⟩ none 0 0
  go_enter Tryz.func111, Tryz.ntmps111
  go_wp2_with fail
  go_region_held3 (fun w' => w'.cell? ⟨w.heap.size, 0, none⟩ = some (.int .i64 12)) (exact HS.out _ (by first | assumption | exact Tn.drew (by assumption))) (first | (go_at_call 114; refine (HI.out _ (by first | assumption | exact Tn.drew (by assumption))).mono ?_; rintro e wa ⟨rfl, ba⟩) | (go_at_call 105; refine (HK.out _ (by first | assumption | exact Tn.drew (by assumption))).mono ?_; rintro e wo ⟨rfl, bo⟩) | (go_at_call 113; refine (HC.out _ (by first | assumption | exact Tn.drew (by assumption))).mono ?_; rintro e wc ⟨rfl, bc⟩))
  all_goals
    obtain ⟨c0, m0, m1, f1⟩ := bc.c
    have B := bc.below
    go_wp2
    refine bodyPost_ret (v := .tuple #[.agg #[.int .i64 0, .int .i64 0], .int .i64 0]) (by simp [results, Tryz.results111, go_sem, World.cell?_setCell_same, World.cell?_setCell_other, m0, m1]) rfl ⟨rfl, ?_⟩
    exact (B.setCell (by show w.heap.size ≤ w.heap.size + 1; omega) _).setCell (by show w.heap.size ≤ w.heap.size + 1; omega) _

set_option maxRecDepth 100000 in
set_option maxHeartbeats 1000000 in
theorem popen_np (w : World) : Calls Tryz.prog 110 #[.agg #[.int .i64 12, .int .i64 0, .int .u64 0, .string ⟨#[]⟩, .slice none 0 0]] w fun e w' => e = .panicked [{ v := .iface 153 (.agg #[]), recovered := false }] ∧ Below w.heap.size w w' := by
  have HM := Lib.hid mustFace_np
  have HO := Lib.hid fun w => opnN 12 0 0 ⟨#[]⟩ none 0 0 w fun wx _ => of_noptr wx
  have D0 : Bk ((w.alloc (.cells #[.int .i64 12, .int .i64 0, .int .u64 0, .string ⟨#[]⟩, .slice none 0 0] 25)).alloc (.cells #[.int .i64 0, .int .i64 0, .int .u64 0, .string ⟨#[]⟩, .slice none 0 0] 25)) w.heap.size #[.int .i64 12, .int .i64 0, .int .u64 0, .string ⟨#[]⟩, .slice none 0 0] 25 := (Bk.new w _ _).alloc _
  have B0 := below2 w (.cells #[.int .i64 12, .int .i64 0, .int .u64 0, .string ⟨#[]⟩, .slice none 0 0] 25) (.cells #[.int .i64 0, .int .i64 0, .int .u64 0, .string ⟨#[]⟩, .slice none 0 0] 25)
  go_enter Tryz.func110, Tryz.ntmps110
  go_wp2_with fail
  refine (HM.out _).mono ?_
  rintro e w1 ⟨rfl, b1⟩
  have D1 := D0.step b1
  have B1 := B0.trans (b1.mono B0.size)
  have b2 := below1 w1 (.cells #[.int .i64 0, .int .i64 0] 204)
  have D2 := D1.step b2
  have B2 := B1.trans (b2.mono B1.size)
  obtain ⟨c0, c1, c2, c3, c4⟩ := D2.c5
  clear D0 B0 b1 D1 B1 b2
  go_wp2_with fail
  refine (HO.out _).mono ?_
  rintro e w3 ⟨rfl, b3⟩
  have B3 := B2.trans (b3.mono B2.size)
  go_wp2_with fail
  exact ⟨rfl, rfl, B3.alloc (by have := B3.size; omega) _⟩

set_option maxRecDepth 100000 in
set_option maxHeartbeats 1000000 in
theorem unbox_np (w : World) : Calls Tryz.prog 109 #[.agg #[], .agg #[.int .i64 12, .int .i64 0, .int .u64 0, .string ⟨#[]⟩, .slice none 0 0]] w fun e w' => e = .panicked [{ v := .iface 153 (.agg #[]), recovered := false }] ∧ Below w.heap.size w w' := by
  have HP := Lib.hid popen_np
  have B0 := below3 w (.cells #[] 137) (.cells #[.int .i64 12, .int .i64 0, .int .u64 0, .string ⟨#[]⟩, .slice none 0 0] 25) (.cells #[.bool false, .int .i64 0, .int .i64 0, .int .u64 0, .string ⟨#[]⟩, .slice none 0 0] 101)
  go_enter Tryz.func109, Tryz.ntmps109
  go_wp2_with fail
  refine (HP.out _).mono ?_
  rintro e w1 ⟨rfl, b1⟩
  go_wp2_with fail
  exact ⟨rfl, rfl, B0.trans (b1.mono B0.size)⟩
end Go.Proofs.YtgijdiplhcoojaaGreatDoor
