/- The package's Face and MustFace at any value and any number: whether the kind has the interface; and the method that it lacks; no condition. -/
import Derived.Test.YtajagjcfmaggiaaGreatDoorKCcb
import Derived.Test.YtajagjcfmaggiaaGreatDoorKCcg
namespace Go.Proofs.YtajagjcfmaggiaaGreatDoor
open Go.RowKit

set_option maxRecDepth 100000 in
set_option maxHeartbeats 1000000 in
theorem caughtA_no (Q : Nat) (av : Value) (F : Nat) (u : Value) (w : World) (hm : MethA Q av F) (hF : ∀ w, Calls Tryz.prog F #[.agg #[], u] w fun e w' => Pan w w' e) :
    Calls Tryz.prog 131 #[.iface Q av, u] w fun e w' => e = .returned (.tuple #[.nilIface, .int .i64 20]) ∧ Below w.heap.size w w' := by
  have hmf : ∀ (fn : Fn) (first cap : Array Value) (w : World), (Instr.makeFunc fn first cap).run Tryz.prog w = .ok (.func fn first cap) w := fun _ _ _ _ => rfl
  obtain ⟨hmm, hcf⟩ := hm
  have HF := Lib.hid hF
  clear hF
  go_enter_defers Tryz.func131, Tryz.ntmps131
  go_wp2_with fail
  refine (HF.out _).mono ?_
  rintro e w1 ⟨pa, rfl, b1⟩
  have b0 := below1 w (.cells #[.int .i64 0] 29)
  have c1 : w1.cell? ⟨w.heap.size, 0, none⟩ = some (.int .i64 0) := (b1.cell (p := ⟨w.heap.size, 0, none⟩) (by simp)).trans (new_c w _ 29).1
  have f1 : w1.frozen? ⟨w.heap.size, 0, none⟩ = false := (b1.frozen (p := ⟨w.heap.size, 0, none⟩) (by simp)).trans (new_c w (.int .i64 0) 29).2
  have B1 := b0.trans (b1.mono b0.size)
  go_wp2
  refine leaves_cons (f := 138) (args := #[.pointer (some ⟨w.heap.size, 0, none⟩)]) (by simp) (by simp [go_sem]) ?_
  refine (cau_catch w.heap.size pa [] _ 0 c1 f1).mono ?_
  rintro e u' w'' ⟨rfl, rfl, rfl⟩
  have g1 : (w1.setCell ⟨w.heap.size, 0, none⟩ (.int .i64 20)).cell? ⟨w.heap.size, 0, none⟩ = some (.int .i64 20) := by simp [World.cell?_setCell_same, c1]
  simp [Leaves, settle, results, Tryz.results131, go_sem, g1]
  exact B1.setCell (Nat.le_refl _) _

set_option maxRecDepth 100000 in
set_option maxHeartbeats 1000000 in
theorem caughtA_yes (Q : Nat) (av : Value) (F : Nat) (u : Value) (w : World) (hm : MethA Q av F) (hF : ∀ w, Calls Tryz.prog F #[.agg #[], u] w fun e w' => e = .returned u ∧ Below w.heap.size w w') :
    Calls Tryz.prog 131 #[.iface Q av, u] w fun e w' => e = .returned (.tuple #[u, .int .i64 0]) ∧ Below w.heap.size w w' := by
  have hmf : ∀ (fn : Fn) (first cap : Array Value) (w : World), (Instr.makeFunc fn first cap).run Tryz.prog w = .ok (.func fn first cap) w := fun _ _ _ _ => rfl
  obtain ⟨hmm, hcf⟩ := hm
  have HF := Lib.hid hF
  clear hF
  go_enter_defers Tryz.func131, Tryz.ntmps131
  go_wp2_with fail
  refine (HF.out _).mono ?_
  rintro e w1 ⟨rfl, b1⟩
  have b0 := below1 w (.cells #[.int .i64 0] 29)
  have c1 : w1.cell? ⟨w.heap.size, 0, none⟩ = some (.int .i64 0) := (b1.cell (p := ⟨w.heap.size, 0, none⟩) (by simp)).trans (new_c w _ 29).1
  have f1 : w1.frozen? ⟨w.heap.size, 0, none⟩ = false := (b1.frozen (p := ⟨w.heap.size, 0, none⟩) (by simp)).trans (new_c w (.int .i64 0) 29).2
  have B1 := b0.trans (b1.mono b0.size)
  go_wp2
  refine leaves_cons (f := 138) (args := #[.pointer (some ⟨w.heap.size, 0, none⟩)]) (by simp) (by simp [go_sem]) ?_
  refine (cau_idle ⟨w.heap.size, 0, none⟩ _).mono ?_
  rintro e u' w'' ⟨rfl, rfl, rfl⟩
  have g1 : (w1.setCell ⟨w.heap.size, 0, none⟩ (.int .i64 0)).cell? ⟨w.heap.size, 0, none⟩ = some (.int .i64 0) := by simp [World.cell?_setCell_same, c1]
  simp [Leaves, settle, results, Tryz.results131, go_sem, g1]
  exact B1.setCell (Nat.le_refl _) _

/-- A value's block and one behind it. -/
def Tb (w : World) (k i b : Int) (s : ByteArray) (ad : Option Addr) (len cap : Nat) (w' : World) : Prop :=
  Below (w.heap.size + 2) ((w.alloc (.cells #[.int .i64 k, .int .i64 i, .int .u64 b, .string s, .slice ad len cap] 25)).alloc (.cells #[.int .i64 0, .int .i64 0] 188)) w'
theorem Tb.drew {w : World} {k i b : Int} {s : ByteArray} {ad : Option Addr} {len cap : Nat} {w' : World} (h : Tb w k i b s ad len cap w') : Tb w k i b s ad len cap w'.drew := Below.drew h
theorem Tb.below {w : World} {k i b : Int} {s : ByteArray} {ad : Option Addr} {len cap : Nat} {w' : World} (h : Tb w k i b s ad len cap w') : Below w.heap.size w w' := (below2 w _ _).trans (Below.mono h (by omega))
theorem Tb.step {w : World} {k i b : Int} {s : ByteArray} {ad : Option Addr} {len cap : Nat} {w1 w2 : World} (h : Tb w k i b s ad len cap w1) (hb : Below w1.heap.size w1 w2) : Tb w k i b s ad len cap w2 := by
  have := Below.size h
  simp at this
  exact Below.trans h (hb.mono (by omega))
theorem Tb.start (w : World) (k i b : Int) (s : ByteArray) (ad : Option Addr) (len cap : Nat) : Tb w k i b s ad len cap ((w.alloc (.cells #[.int .i64 k, .int .i64 i, .int .u64 b, .string s, .slice ad len cap] 25)).alloc (.cells #[.int .i64 0, .int .i64 0] 188)) := Below.refl _ _
theorem Tb.c {w : World} {k i b : Int} {s : ByteArray} {ad : Option Addr} {len cap : Nat} {w' : World} (h : Tb w k i b s ad len cap w') : w'.cell? ⟨w.heap.size, 0, none⟩ = some (.int .i64 k) ∧ w'.cell? ⟨w.heap.size + 1, 0, none⟩ = some (.int .i64 0) ∧ w'.cell? ⟨w.heap.size + 1, 1, none⟩ = some (.int .i64 0) ∧ (∀ o, w'.frozen? ⟨w.heap.size + 1, o, none⟩ = false) := by
  have e0 := heap_alloc_new w (.cells #[.int .i64 k, .int .i64 i, .int .u64 b, .string s, .slice ad len cap] 25)
  have e1 := heap_alloc_new (w.alloc (.cells #[.int .i64 k, .int .i64 i, .int .u64 b, .string s, .slice ad len cap] 25)) (.cells #[.int .i64 0, .int .i64 0] 188)
  simp only [World.size_alloc] at e1
  have h0 : w'.heap[w.heap.size]? = some (.cells #[.int .i64 k, .int .i64 i, .int .u64 b, .string s, .slice ad len cap] 25 (0, 0)) := (Below.block h w.heap.size (by omega)).trans (((below1 _ _).block _ (by simp)).trans e0)
  have h1 : w'.heap[w.heap.size + 1]? = some (.cells #[.int .i64 0, .int .i64 0] 188 (0, 0)) := (Below.block h (w.heap.size + 1) (by omega)).trans e1
  simp [World.cell?, World.frozen?, h0, h1]

/-- The method that MustFace tells. -/
def lackM (k f : Int) : Int := if k = 0 then -1 else lacks k f

set_option maxRecDepth 100000 in
set_option maxHeartbeats 2000000 in
theorem mustFace_yes (k i b : Int) (s : ByteArray) (ad : Option Addr) (len cap : Nat) (f : Int) (w : World) (hi : impl k f = true) :
    Calls Tryz.prog 118 #[.agg #[.int .i64 k, .int .i64 i, .int .u64 b, .string s, .slice ad len cap], .int .i64 f] w fun e w' => e = .returned (.tuple #[.agg #[.int .i64 0, .int .i64 0], .int .i64 0]) ∧ Below w.heap.size w w' := by
  obtain ⟨F, hm, hA⟩ := face_musts f
  have HI : Hid (∀ wx, Tb w k i b s ad len cap wx → Calls Tryz.prog 71 #[.int .i64 f] wx fun e w' => e = .returned (.agg #[.iface (qfc f) (.agg #[]), .int .u8 (mbits f)]) ∧ Tb w k i b s ad len cap w') := fun wx hx => (interfaceOf_any f wx).mono fun e w' ⟨a, b⟩ => ⟨a, hx.step b⟩
  have HK : Hid (∀ wx, Tb w k i b s ad len cap wx → Calls Tryz.prog 46 #[.int .i64 k] wx fun e w' => ∃ u, e = .returned u ∧ Kd k u ∧ Tb w k i b s ad len cap w') := fun wx hx => (ofKind_any k wx).mono fun e w' ⟨u, a, c, d⟩ => ⟨u, a, c, hx.step d⟩
  have HC : Hid (∀ u wx, Kd k u → Tb w k i b s ad len cap wx → Calls Tryz.prog 131 #[.iface 87 (.agg #[.iface (qfc f) (.agg #[]), .int .u8 (mbits f)]), u] wx fun e w' => e = .returned (.tuple #[u, .int .i64 0]) ∧ Tb w k i b s ad len cap w') := fun u wx hu hx => (caughtA_yes _ _ F u wx hm fun w => (hA k u w hu).1 hi).mono fun e w' ⟨a, d⟩ => ⟨a, hx.step d⟩
  have HS : Hid (∀ wx, Tb w k i b s ad len cap wx → wx.cell? ⟨w.heap.size, 0, none⟩ = some (.int .i64 k)) := fun wx h => h.c.1
  have hb0 := Tb.start w k i b s ad len cap
  clear hm hA hi
  generalize qfc f = Q at HI HC
  generalize mbits f = mb at HI HC
  go_enter Tryz.func118, Tryz.ntmps118
  go_wp2_with fail
  go_region_held3 (fun w' => w'.cell? ⟨w.heap.size, 0, none⟩ = some (.int .i64 k)) (exact HS.out _ (by first | assumption | exact Tb.drew (by assumption))) (first | (go_at_call 71; refine (HI.out _ (by first | assumption | exact Tb.drew (by assumption))).mono ?_; rintro e wa ⟨rfl, ba⟩) | (go_at_call 46; refine (HK.out _ (by first | assumption | exact Tb.drew (by assumption))).mono ?_; rintro e wo ⟨ua, rfl, hu, bo⟩) | (go_at_call 131; refine (HC.out _ _ (by assumption) (by first | assumption | exact Tb.drew (by assumption))).mono ?_; rintro e wc ⟨rfl, bc⟩))
  all_goals
    obtain ⟨c0, m0, m1, f1⟩ := bc.c
    have B := bc.below
    go_wp2
    refine bodyPost_ret (v := .tuple #[.agg #[.int .i64 0, .int .i64 0], .int .i64 0]) (by simp [results, Tryz.results118, go_sem, World.cell?_setCell_same, World.cell?_setCell_other, m0, m1]) rfl ⟨rfl, ?_⟩
    exact (B.setCell (by show w.heap.size ≤ w.heap.size + 1; omega) _).setCell (by show w.heap.size ≤ w.heap.size + 1; omega) _
set_option maxRecDepth 100000 in
set_option maxHeartbeats 2000000 in
theorem mustFace_no0 (i b : Int) (s : ByteArray) (ad : Option Addr) (len cap : Nat) (f : Int) (w : World) (hi : impl 0 f = false) :
    Calls Tryz.prog 118 #[.agg #[.int .i64 0, .int .i64 i, .int .u64 b, .string s, .slice ad len cap], .int .i64 f] w fun e w' => e = .returned (.tuple #[.agg #[.int .i64 0, .int .i64 (-1)], .int .i64 20]) ∧ Below w.heap.size w w' := by
  obtain ⟨F, hm, hA⟩ := face_musts f
  have HI : Hid (∀ wx, Tb w 0 i b s ad len cap wx → Calls Tryz.prog 71 #[.int .i64 f] wx fun e w' => e = .returned (.agg #[.iface (qfc f) (.agg #[]), .int .u8 (mbits f)]) ∧ Tb w 0 i b s ad len cap w') := fun wx hx => (interfaceOf_any f wx).mono fun e w' ⟨a, b⟩ => ⟨a, hx.step b⟩
  have HK : Hid (∀ wx, Tb w 0 i b s ad len cap wx → Calls Tryz.prog 46 #[.int .i64 0] wx fun e w' => ∃ u, e = .returned u ∧ Kd 0 u ∧ Tb w 0 i b s ad len cap w') := fun wx hx => (ofKind_any 0 wx).mono fun e w' ⟨u, a, c, d⟩ => ⟨u, a, c, hx.step d⟩
  have HC : Hid (∀ u wx, Kd 0 u → Tb w 0 i b s ad len cap wx → Calls Tryz.prog 131 #[.iface 87 (.agg #[.iface (qfc f) (.agg #[]), .int .u8 (mbits f)]), u] wx fun e w' => e = .returned (.tuple #[.nilIface, .int .i64 20]) ∧ Tb w 0 i b s ad len cap w') := fun u wx hu hx => (caughtA_no _ _ F u wx hm fun w => (hA 0 u w hu).2 hi).mono fun e w' ⟨a, d⟩ => ⟨a, hx.step d⟩
  have HS : Hid (∀ wx, Tb w 0 i b s ad len cap wx → wx.cell? ⟨w.heap.size, 0, none⟩ = some (.int .i64 0)) := fun wx h => h.c.1
  have hb0 := Tb.start w 0 i b s ad len cap
  clear hm hA hi
  generalize qfc f = Q at HI HC
  generalize mbits f = mb at HI HC
  go_enter Tryz.func118, Tryz.ntmps118
  go_wp2_with fail
  go_region_held3 (fun w' => w'.cell? ⟨w.heap.size, 0, none⟩ = some (.int .i64 0)) (exact HS.out _ (by first | assumption | exact Tb.drew (by assumption))) (first | (go_at_call 71; refine (HI.out _ (by first | assumption | exact Tb.drew (by assumption))).mono ?_; rintro e wa ⟨rfl, ba⟩) | (go_at_call 46; refine (HK.out _ (by first | assumption | exact Tb.drew (by assumption))).mono ?_; rintro e wo ⟨ua, rfl, hu, bo⟩) | (go_at_call 131; refine (HC.out _ _ (by assumption) (by first | assumption | exact Tb.drew (by assumption))).mono ?_; rintro e wc ⟨rfl, bc⟩))
  all_goals
    obtain ⟨c0, m0, m1, f1⟩ := bc.c
    have B := bc.below
    have hsz : w.heap.size + 1 < wc.heap.size := by have := Below.size bc; simp at this; omega
    have hm1 := below1 wc (.cells #[.int .i64 0, .int .i64 (-1)] 188)
    have c0' := (hm1.cell (p := ⟨w.heap.size, 0, none⟩) (show w.heap.size < wc.heap.size by omega)).trans c0
    go_wp2_with fail
    refine bodyPost_ret (v := .tuple #[.agg #[.int .i64 0, .int .i64 (-1)], .int .i64 20]) (by simp [results, Tryz.results118, go_sem, World.cell?_setCell_same, World.cell?_setCell_other, m0, m1, hsz]) rfl ⟨rfl, ?_⟩
    exact ((B.setCell (by show w.heap.size ≤ w.heap.size + 1; omega) _).setCell (by show w.heap.size ≤ w.heap.size + 1; omega) _).alloc (by simp; omega) _
set_option maxRecDepth 100000 in
set_option maxHeartbeats 2000000 in
theorem mustFace_noK (k i b : Int) (s : ByteArray) (ad : Option Addr) (len cap : Nat) (f : Int) (w : World) (hi : impl k f = false) (hk : (k != 0) = true) :
    Calls Tryz.prog 118 #[.agg #[.int .i64 k, .int .i64 i, .int .u64 b, .string s, .slice ad len cap], .int .i64 f] w fun e w' => e = .returned (.tuple #[.agg #[.int .i64 k, .int .i64 (lacks k f)], .int .i64 20]) ∧ Below w.heap.size w w' := by
  obtain ⟨F, hm, hA⟩ := face_musts f
  have HI : Hid (∀ wx, Tb w k i b s ad len cap wx → Calls Tryz.prog 71 #[.int .i64 f] wx fun e w' => e = .returned (.agg #[.iface (qfc f) (.agg #[]), .int .u8 (mbits f)]) ∧ Tb w k i b s ad len cap w') := fun wx hx => (interfaceOf_any f wx).mono fun e w' ⟨a, b⟩ => ⟨a, hx.step b⟩
  have HK : Hid (∀ wx, Tb w k i b s ad len cap wx → Calls Tryz.prog 46 #[.int .i64 k] wx fun e w' => ∃ u, e = .returned u ∧ Kd k u ∧ Tb w k i b s ad len cap w') := fun wx hx => (ofKind_any k wx).mono fun e w' ⟨u, a, c, d⟩ => ⟨u, a, c, hx.step d⟩
  have HC : Hid (∀ u wx, Kd k u → Tb w k i b s ad len cap wx → Calls Tryz.prog 131 #[.iface 87 (.agg #[.iface (qfc f) (.agg #[]), .int .u8 (mbits f)]), u] wx fun e w' => e = .returned (.tuple #[.nilIface, .int .i64 20]) ∧ Tb w k i b s ad len cap w') := fun u wx hu hx => (caughtA_no _ _ F u wx hm fun w => (hA k u w hu).2 hi).mono fun e w' ⟨a, d⟩ => ⟨a, hx.step d⟩
  have HS : Hid (∀ wx, Tb w k i b s ad len cap wx → wx.cell? ⟨w.heap.size, 0, none⟩ = some (.int .i64 k)) := fun wx h => h.c.1
  have hb0 := Tb.start w k i b s ad len cap
  clear hm hA hi
  generalize qfc f = Q at HI HC
  generalize mbits f = mb at HI HC
  have HM := Lib.hid (missing_any k f)
  generalize lacks k f = L at HM
  go_enter Tryz.func118, Tryz.ntmps118
  go_wp2_with fail
  go_region_held3 (fun w' => w'.cell? ⟨w.heap.size, 0, none⟩ = some (.int .i64 k)) (exact HS.out _ (by first | assumption | exact Tb.drew (by assumption))) (first | (go_at_call 71; refine (HI.out _ (by first | assumption | exact Tb.drew (by assumption))).mono ?_; rintro e wa ⟨rfl, ba⟩) | (go_at_call 46; refine (HK.out _ (by first | assumption | exact Tb.drew (by assumption))).mono ?_; rintro e wo ⟨ua, rfl, hu, bo⟩) | (go_at_call 131; refine (HC.out _ _ (by assumption) (by first | assumption | exact Tb.drew (by assumption))).mono ?_; rintro e wc ⟨rfl, bc⟩))
  all_goals
    obtain ⟨c0, m0, m1, f1⟩ := bc.c
    have B := bc.below
    have hsz : w.heap.size + 1 < wc.heap.size := by have := Below.size bc; simp at this; omega
    have hm1 := below1 wc (.cells #[.int .i64 k, .int .i64 (-1)] 188)
    have c0' := (hm1.cell (p := ⟨w.heap.size, 0, none⟩) (show w.heap.size < wc.heap.size by omega)).trans c0
    go_wp2_with fail
    have N0 : ∀ w', Below (wc.alloc (.cells #[.int .i64 k, .int .i64 (-1)] 188)).heap.size (wc.alloc (.cells #[.int .i64 k, .int .i64 (-1)] 188)) w' → (w'.cell? ⟨wc.heap.size, 0, none⟩ = some (.int .i64 k) ∧ w'.cell? ⟨wc.heap.size, 1, none⟩ = some (.int .i64 (-1)) ∧ (∀ o, w'.frozen? ⟨wc.heap.size, o, none⟩ = false)) ∧ w'.cell? ⟨w.heap.size + 1, 0, none⟩ = some (.int .i64 0) ∧ w'.cell? ⟨w.heap.size + 1, 1, none⟩ = some (.int .i64 0) ∧ (∀ o, w'.frozen? ⟨w.heap.size + 1, o, none⟩ = false) ∧ Below w.heap.size w w' := by
      intro w' hb
      have e0 := heap_alloc_new wc (.cells #[.int .i64 k, .int .i64 (-1)] 188)
      have h0 : w'.heap[wc.heap.size]? = some (.cells #[.int .i64 k, .int .i64 (-1)] 188 (0, 0)) := (hb.block wc.heap.size (by simp)).trans e0
      have lt1 : w.heap.size + 1 < (wc.alloc (.cells #[.int .i64 k, .int .i64 (-1)] 188)).heap.size := by simp; omega
      refine ⟨by simp [World.cell?, World.frozen?, h0], ((hb.cell (p := ⟨w.heap.size + 1, 0, none⟩) lt1).trans (hm1.cell (p := ⟨w.heap.size + 1, 0, none⟩) hsz)).trans m0, ((hb.cell (p := ⟨w.heap.size + 1, 1, none⟩) lt1).trans (hm1.cell (p := ⟨w.heap.size + 1, 1, none⟩) hsz)).trans m1, fun o => ((hb.frozen (p := ⟨w.heap.size + 1, o, none⟩) lt1).trans (hm1.frozen (p := ⟨w.heap.size + 1, o, none⟩) hsz)).trans (f1 o), (B.trans (hm1.mono (by omega))).trans (hb.mono (by simp; omega))⟩
    have hne : wc.heap.size ≠ w.heap.size + 1 := by omega
    refine (HM.out _).mono ?_
    rintro e w4 ⟨rfl, b4⟩
    obtain ⟨⟨e0, e1, e2⟩, g0, g1, g2, B4⟩ := N0 w4 b4
    clear N0 b4 m0 m1 f1 c0 c0' hm1 bc HI HK HC HS hb0 HM ba bo hu
    generalize wc.heap.size = N at e0 e1 e2 hne hsz
    have hne' : w.heap.size + 1 ≠ N := fun h => hne h.symm
    go_wp2_with fail
    refine bodyPost_ret (v := .tuple #[.agg #[.int .i64 k, .int .i64 L], .int .i64 20]) (by simp [results, Tryz.results118, go_sem, World.cell?_setCell_same, World.cell?_setCell_other, g0, g1]) rfl ⟨rfl, ?_⟩
    exact ((B4.setCell (by show w.heap.size ≤ N; omega) _).setCell (by show w.heap.size ≤ w.heap.size + 1; omega) _).setCell (by show w.heap.size ≤ w.heap.size + 1; omega) _

theorem mustFace_no (k i b : Int) (s : ByteArray) (ad : Option Addr) (len cap : Nat) (f : Int) (w : World) (hi : impl k f = false) :
    Calls Tryz.prog 118 #[.agg #[.int .i64 k, .int .i64 i, .int .u64 b, .string s, .slice ad len cap], .int .i64 f] w fun e w' => e = .returned (.tuple #[.agg #[.int .i64 k, .int .i64 (lackM k f)], .int .i64 20]) ∧ Below w.heap.size w w' := by
  by_cases hk : k = 0
  · subst hk
    have : lackM 0 f = -1 := by unfold lackM; rw [if_pos rfl]
    rw [this]
    exact mustFace_no0 i b s ad len cap f w hi
  · have : lackM k f = lacks k f := by unfold lackM; rw [if_neg hk]
    rw [this]
    exact mustFace_noK k i b s ad len cap f w hi (by simpa using hk)
end Go.Proofs.YtajagjcfmaggiaaGreatDoor
