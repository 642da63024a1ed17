/- The package's Face and MustFace at any value and any number: whether the kind has the interface; and the method that it lacks; no condition. -/
import Derived.Test.YthamafijjflfbaaGreatMba
import Derived.Test.YthamafijjflfbaaGreatMbc
import Derived.Test.YthamafijjflfbaaGreatMae
import Derived.Test.YthamafijjflfbaaGreatMaa
import Derived.Test.YthamafijjflfbaaGreatMah
namespace Go.Proofs.YthamafijjflfbaaGreat
open Go.RowKit

set_option maxRecDepth 100000 in
set_option maxHeartbeats 1000000 in
theorem caughtA_no (Q : Nat) (av : Value) (F : Nat) (u : Value) (w : World) (hm : MethA Q av F) (hF : ∀ w, Calls Tryz.prog F #[.agg #[], u] w fun e w' => Pan w w' e) :
    Calls Tryz.prog 70 #[.iface Q av, u] w fun e w' => e = .returned (.tuple #[.nilIface, .int .i64 20]) ∧ Below w.heap.size w w' := by
  have hmf : ∀ (fn : Fn) (first cap : Array Value) (w : World), (Instr.makeFunc fn first cap).run Tryz.prog w = .ok (.func fn first cap) w := fun _ _ _ _ => rfl
  obtain ⟨hmm, hcf⟩ := hm
  have HF := Lib.hid hF
  clear hF
  go_enter_defers Tryz.func70, Tryz.ntmps70
  go_wp2_with fail
  refine (HF.out _).mono ?_
  rintro e w1 ⟨pa, rfl, b1⟩
  have b0 := below1 w (.cells #[.int .i64 0] 31)
  have c1 : w1.cell? ⟨w.heap.size, 0, none⟩ = some (.int .i64 0) := (b1.cell (p := ⟨w.heap.size, 0, none⟩) (by simp)).trans (new_c w _ 31).1
  have f1 : w1.frozen? ⟨w.heap.size, 0, none⟩ = false := (b1.frozen (p := ⟨w.heap.size, 0, none⟩) (by simp)).trans (new_c w (.int .i64 0) 31).2
  have B1 := b0.trans (b1.mono b0.size)
  go_wp2
  refine leaves_cons (f := 86) (args := #[.pointer (some ⟨w.heap.size, 0, none⟩)]) (by simp) (by simp [go_sem]) ?_
  refine (cau_catch w.heap.size pa [] _ 0 c1 f1).mono ?_
  rintro e u' w'' ⟨rfl, rfl, rfl⟩
  have g1 : (w1.setCell ⟨w.heap.size, 0, none⟩ (.int .i64 20)).cell? ⟨w.heap.size, 0, none⟩ = some (.int .i64 20) := by simp [World.cell?_setCell_same, c1]
  simp [Leaves, settle, results, Tryz.results70, go_sem, g1]
  exact B1.setCell (Nat.le_refl _) _

set_option maxRecDepth 100000 in
set_option maxHeartbeats 1000000 in
theorem caughtA_yes (Q : Nat) (av : Value) (F : Nat) (u : Value) (w : World) (hm : MethA Q av F) (hF : ∀ w, Calls Tryz.prog F #[.agg #[], u] w fun e w' => e = .returned u ∧ Below w.heap.size w w') :
    Calls Tryz.prog 70 #[.iface Q av, u] w fun e w' => e = .returned (.tuple #[u, .int .i64 0]) ∧ Below w.heap.size w w' := by
  have hmf : ∀ (fn : Fn) (first cap : Array Value) (w : World), (Instr.makeFunc fn first cap).run Tryz.prog w = .ok (.func fn first cap) w := fun _ _ _ _ => rfl
  obtain ⟨hmm, hcf⟩ := hm
  have HF := Lib.hid hF
  clear hF
  go_enter_defers Tryz.func70, Tryz.ntmps70
  go_wp2_with fail
  refine (HF.out _).mono ?_
  rintro e w1 ⟨rfl, b1⟩
  have b0 := below1 w (.cells #[.int .i64 0] 31)
  have c1 : w1.cell? ⟨w.heap.size, 0, none⟩ = some (.int .i64 0) := (b1.cell (p := ⟨w.heap.size, 0, none⟩) (by simp)).trans (new_c w _ 31).1
  have f1 : w1.frozen? ⟨w.heap.size, 0, none⟩ = false := (b1.frozen (p := ⟨w.heap.size, 0, none⟩) (by simp)).trans (new_c w (.int .i64 0) 31).2
  have B1 := b0.trans (b1.mono b0.size)
  go_wp2
  refine leaves_cons (f := 86) (args := #[.pointer (some ⟨w.heap.size, 0, none⟩)]) (by simp) (by simp [go_sem]) ?_
  refine (cau_idle ⟨w.heap.size, 0, none⟩ _).mono ?_
  rintro e u' w'' ⟨rfl, rfl, rfl⟩
  have g1 : (w1.setCell ⟨w.heap.size, 0, none⟩ (.int .i64 0)).cell? ⟨w.heap.size, 0, none⟩ = some (.int .i64 0) := by simp [World.cell?_setCell_same, c1]
  simp [Leaves, settle, results, Tryz.results70, go_sem, g1]
  exact B1.setCell (Nat.le_refl _) _

/-- A value's block and one behind it. -/
def Tb (w : World) (k i b : Int) (s : ByteArray) (ad : Option Addr) (len cap : Nat) (w' : World) : Prop :=
  Below (w.heap.size + 2) ((w.alloc (.cells #[.int .i64 k, .int .i64 i, .int .u64 b, .string s, .slice ad len cap] 25)).alloc (.cells #[.int .i64 0, .int .i64 0] 92)) w'
theorem Tb.drew {w : World} {k i b : Int} {s : ByteArray} {ad : Option Addr} {len cap : Nat} {w' : World} (h : Tb w k i b s ad len cap w') : Tb w k i b s ad len cap w'.drew := Below.drew h
theorem Tb.below {w : World} {k i b : Int} {s : ByteArray} {ad : Option Addr} {len cap : Nat} {w' : World} (h : Tb w k i b s ad len cap w') : Below w.heap.size w w' := (below2 w _ _).trans (Below.mono h (by omega))
theorem Tb.step {w : World} {k i b : Int} {s : ByteArray} {ad : Option Addr} {len cap : Nat} {w1 w2 : World} (h : Tb w k i b s ad len cap w1) (hb : Below w1.heap.size w1 w2) : Tb w k i b s ad len cap w2 := by
  have := Below.size h
  simp at this
  exact Below.trans h (hb.mono (by omega))
theorem Tb.start (w : World) (k i b : Int) (s : ByteArray) (ad : Option Addr) (len cap : Nat) : Tb w k i b s ad len cap ((w.alloc (.cells #[.int .i64 k, .int .i64 i, .int .u64 b, .string s, .slice ad len cap] 25)).alloc (.cells #[.int .i64 0, .int .i64 0] 92)) := Below.refl _ _
theorem Tb.c {w : World} {k i b : Int} {s : ByteArray} {ad : Option Addr} {len cap : Nat} {w' : World} (h : Tb w k i b s ad len cap w') : w'.cell? ⟨w.heap.size, 0, none⟩ = some (.int .i64 k) ∧ w'.cell? ⟨w.heap.size + 1, 0, none⟩ = some (.int .i64 0) ∧ w'.cell? ⟨w.heap.size + 1, 1, none⟩ = some (.int .i64 0) ∧ (∀ o, w'.frozen? ⟨w.heap.size + 1, o, none⟩ = false) := by
  have e0 := heap_alloc_new w (.cells #[.int .i64 k, .int .i64 i, .int .u64 b, .string s, .slice ad len cap] 25)
  have e1 := heap_alloc_new (w.alloc (.cells #[.int .i64 k, .int .i64 i, .int .u64 b, .string s, .slice ad len cap] 25)) (.cells #[.int .i64 0, .int .i64 0] 92)
  simp only [World.size_alloc] at e1
  have h0 : w'.heap[w.heap.size]? = some (.cells #[.int .i64 k, .int .i64 i, .int .u64 b, .string s, .slice ad len cap] 25 (0, 0)) := (Below.block h w.heap.size (by omega)).trans (((below1 _ _).block _ (by simp)).trans e0)
  have h1 : w'.heap[w.heap.size + 1]? = some (.cells #[.int .i64 0, .int .i64 0] 92 (0, 0)) := (Below.block h (w.heap.size + 1) (by omega)).trans e1
  simp [World.cell?, World.frozen?, h0, h1]

/-- The method that MustFace tells. -/
def lackM (k f : Int) : Int := if k = 0 then -1 else lacks k f

set_option maxRecDepth 100000 in
set_option maxHeartbeats 2000000 in
theorem mustFace_yes (k i b : Int) (s : ByteArray) (ad : Option Addr) (len cap : Nat) (f : Int) (w : World) (hi : impl k f = true) :
    Calls Tryz.prog 55 #[.agg #[.int .i64 k, .int .i64 i, .int .u64 b, .string s, .slice ad len cap], .int .i64 f] w fun e w' => e = .returned (.tuple #[.agg #[.int .i64 0, .int .i64 0], .int .i64 0]) ∧ Below w.heap.size w w' := by
  obtain ⟨F, hm, hA⟩ := face_musts f
  have HI : Hid (∀ wx, Tb w k i b s ad len cap wx → Calls Tryz.prog 72 #[.int .i64 f] wx fun e w' => e = .returned (.agg #[.iface (qfc f) (.agg #[]), .int .u8 (mbits f)]) ∧ Tb w k i b s ad len cap w') := fun wx hx => (interfaceOf_any f wx).mono fun e w' ⟨a, b⟩ => ⟨a, hx.step b⟩
  have HK : Hid (∀ wx, Tb w k i b s ad len cap wx → Calls Tryz.prog 73 #[.int .i64 k] wx fun e w' => ∃ u, e = .returned u ∧ Kd k u ∧ Tb w k i b s ad len cap w') := fun wx hx => (ofKind_any k wx).mono fun e w' ⟨u, a, c, d⟩ => ⟨u, a, c, hx.step d⟩
  have HC : Hid (∀ u wx, Kd k u → Tb w k i b s ad len cap wx → Calls Tryz.prog 70 #[.iface 125 (.agg #[.iface (qfc f) (.agg #[]), .int .u8 (mbits f)]), u] wx fun e w' => e = .returned (.tuple #[u, .int .i64 0]) ∧ Tb w k i b s ad len cap w') := fun u wx hu hx => (caughtA_yes _ _ F u wx hm fun w => (hA k u w hu).1 hi).mono fun e w' ⟨a, d⟩ => ⟨a, hx.step d⟩
  have HS : Hid (∀ wx, Tb w k i b s ad len cap wx → wx.cell? ⟨w.heap.size, 0, none⟩ = some (.int .i64 k)) := fun wx h => h.c.1
  have hb0 := Tb.start w k i b s ad len cap
  clear hm hA hi
  generalize qfc f = Q at HI HC
  generalize mbits f = mb at HI HC
  go_enter Tryz.func55, Tryz.ntmps55
  go_wp2_with fail
  go_region_held3 (fun w' => w'.cell? ⟨w.heap.size, 0, none⟩ = some (.int .i64 k)) (exact HS.out _ (by first | assumption | exact Tb.drew (by assumption))) (first | (go_at_call 72; refine (HI.out _ (by first | assumption | exact Tb.drew (by assumption))).mono ?_; rintro e wa ⟨rfl, ba⟩) | (go_at_call 73; refine (HK.out _ (by first | assumption | exact Tb.drew (by assumption))).mono ?_; rintro e wo ⟨ua, rfl, hu, bo⟩) | (go_at_call 70; refine (HC.out _ _ (by assumption) (by first | assumption | exact Tb.drew (by assumption))).mono ?_; rintro e wc ⟨rfl, bc⟩))
  all_goals
    obtain ⟨c0, m0, m1, f1⟩ := bc.c
    have B := bc.below
    go_wp2
    refine bodyPost_ret (v := .tuple #[.agg #[.int .i64 0, .int .i64 0], .int .i64 0]) (by simp [results, Tryz.results55, go_sem, World.cell?_setCell_same, World.cell?_setCell_other, m0, m1]) rfl ⟨rfl, ?_⟩
    exact (B.setCell (by show w.heap.size ≤ w.heap.size + 1; omega) _).setCell (by show w.heap.size ≤ w.heap.size + 1; omega) _
set_option maxRecDepth 100000 in
set_option maxHeartbeats 2000000 in
theorem mustFace_no0 (i b : Int) (s : ByteArray) (ad : Option Addr) (len cap : Nat) (f : Int) (w : World) (hi : impl 0 f = false) :
    Calls Tryz.prog 55 #[.agg #[.int .i64 0, .int .i64 i, .int .u64 b, .string s, .slice ad len cap], .int .i64 f] w fun e w' => e = .returned (.tuple #[.agg #[.int .i64 0, .int .i64 (-1)], .int .i64 20]) ∧ Below w.heap.size w w' := by
  obtain ⟨F, hm, hA⟩ := face_musts f
  have HI : Hid (∀ wx, Tb w 0 i b s ad len cap wx → Calls Tryz.prog 72 #[.int .i64 f] wx fun e w' => e = .returned (.agg #[.iface (qfc f) (.agg #[]), .int .u8 (mbits f)]) ∧ Tb w 0 i b s ad len cap w') := fun wx hx => (interfaceOf_any f wx).mono fun e w' ⟨a, b⟩ => ⟨a, hx.step b⟩
  have HK : Hid (∀ wx, Tb w 0 i b s ad len cap wx → Calls Tryz.prog 73 #[.int .i64 0] wx fun e w' => ∃ u, e = .returned u ∧ Kd 0 u ∧ Tb w 0 i b s ad len cap w') := fun wx hx => (ofKind_any 0 wx).mono fun e w' ⟨u, a, c, d⟩ => ⟨u, a, c, hx.step d⟩
  have HC : Hid (∀ u wx, Kd 0 u → Tb w 0 i b s ad len cap wx → Calls Tryz.prog 70 #[.iface 125 (.agg #[.iface (qfc f) (.agg #[]), .int .u8 (mbits f)]), u] wx fun e w' => e = .returned (.tuple #[.nilIface, .int .i64 20]) ∧ Tb w 0 i b s ad len cap w') := fun u wx hu hx => (caughtA_no _ _ F u wx hm fun w => (hA 0 u w hu).2 hi).mono fun e w' ⟨a, d⟩ => ⟨a, hx.step d⟩
  have HS : Hid (∀ wx, Tb w 0 i b s ad len cap wx → wx.cell? ⟨w.heap.size, 0, none⟩ = some (.int .i64 0)) := fun wx h => h.c.1
  have hb0 := Tb.start w 0 i b s ad len cap
  clear hm hA hi
  generalize qfc f = Q at HI HC
  generalize mbits f = mb at HI HC
  go_enter Tryz.func55, Tryz.ntmps55
  go_wp2_with fail
  go_region_held3 (fun w' => w'.cell? ⟨w.heap.size, 0, none⟩ = some (.int .i64 0)) (exact HS.out _ (by first | assumption | exact Tb.drew (by assumption))) (first | (go_at_call 72; refine (HI.out _ (by first | assumption | exact Tb.drew (by assumption))).mono ?_; rintro e wa ⟨rfl, ba⟩) | (go_at_call 73; refine (HK.out _ (by first | assumption | exact Tb.drew (by assumption))).mono ?_; rintro e wo ⟨ua, rfl, hu, bo⟩) | (go_at_call 70; refine (HC.out _ _ (by assumption) (by first | assumption | exact Tb.drew (by assumption))).mono ?_; rintro e wc ⟨rfl, bc⟩))
  all_goals
    obtain ⟨c0, m0, m1, f1⟩ := bc.c
    have B := bc.below
    have hsz : w.heap.size + 1 < wc.heap.size := by have := Below.size bc; simp at this; omega
    have hm1 := below1 wc (.cells #[.int .i64 0, .int .i64 (-1)] 92)
    have c0' := (hm1.cell (p := ⟨w.heap.size, 0, none⟩) (show w.heap.size < wc.heap.size by omega)).trans c0
    go_wp2_with fail
    refine bodyPost_ret (v := .tuple #[.agg #[.int .i64 0, .int .i64 (-1)], .int .i64 20]) (by simp [results, Tryz.results55, go_sem, World.cell?_setCell_same, World.cell?_setCell_other, m0, m1, hsz]) rfl ⟨rfl, ?_⟩
    exact ((B.setCell (by show w.heap.size ≤ w.heap.size + 1; omega) _).setCell (by show w.heap.size ≤ w.heap.size + 1; omega) _).alloc (by simp; omega) _
set_option maxRecDepth 100000 in
set_option maxHeartbeats 2000000 in
theorem mustFace_noK (k i b : Int) (s : ByteArray) (ad : Option Addr) (len cap : Nat) (f : Int) (w : World) (hi : impl k f = false) (hk : (k != 0) = true) :
    Calls Tryz.prog 55 #[.agg #[.int .i64 k, .int .i64 i, .int .u64 b, .string s, .slice ad len cap], .int .i64 f] w fun e w' => e = .returned (.tuple #[.agg #[.int .i64 k, .int .i64 (lacks k f)], .int .i64 20]) ∧ Below w.heap.size w w' := by
  obtain ⟨F, hm, hA⟩ := face_musts f
  have HI : Hid (∀ wx, Tb w k i b s ad len cap wx → Calls Tryz.prog 72 #[.int .i64 f] wx fun e w' => e = .returned (.agg #[.iface (qfc f) (.agg #[]), .int .u8 (mbits f)]) ∧ Tb w k i b s ad len cap w') := fun wx hx => (interfaceOf_any f wx).mono fun e w' ⟨a, b⟩ => ⟨a, hx.step b⟩
  have HK : Hid (∀ wx, Tb w k i b s ad len cap wx → Calls Tryz.prog 73 #[.int .i64 k] wx fun e w' => ∃ u, e = .returned u ∧ Kd k u ∧ Tb w k i b s ad len cap w') := fun wx hx => (ofKind_any k wx).mono fun e w' ⟨u, a, c, d⟩ => ⟨u, a, c, hx.step d⟩
  have HC : Hid (∀ u wx, Kd k u → Tb w k i b s ad len cap wx → Calls Tryz.prog 70 #[.iface 125 (.agg #[.iface (qfc f) (.agg #[]), .int .u8 (mbits f)]), u] wx fun e w' => e = .returned (.tuple #[.nilIface, .int .i64 20]) ∧ Tb w k i b s ad len cap w') := fun u wx hu hx => (caughtA_no _ _ F u wx hm fun w => (hA k u w hu).2 hi).mono fun e w' ⟨a, d⟩ => ⟨a, hx.step d⟩
  have HS : Hid (∀ wx, Tb w k i b s ad len cap wx → wx.cell? ⟨w.heap.size, 0, none⟩ = some (.int .i64 k)) := fun wx h => h.c.1
  have hb0 := Tb.start w k i b s ad len cap
  clear hm hA hi
  generalize qfc f = Q at HI HC
  generalize mbits f = mb at HI HC
  have HM := Lib.hid (missing_any k f)
  generalize lacks k f = L at HM
  go_enter Tryz.func55, Tryz.ntmps55
  go_wp2_with fail
  go_region_held3 (fun w' => w'.cell? ⟨w.heap.size, 0, none⟩ = some (.int .i64 k)) (exact HS.out _ (by first | assumption | exact Tb.drew (by assumption))) (first | (go_at_call 72; refine (HI.out _ (by first | assumption | exact Tb.drew (by assumption))).mono ?_; rintro e wa ⟨rfl, ba⟩) | (go_at_call 73; refine (HK.out _ (by first | assumption | exact Tb.drew (by assumption))).mono ?_; rintro e wo ⟨ua, rfl, hu, bo⟩) | (go_at_call 70; refine (HC.out _ _ (by assumption) (by first | assumption | exact Tb.drew (by assumption))).mono ?_; rintro e wc ⟨rfl, bc⟩))
  all_goals
    obtain ⟨c0, m0, m1, f1⟩ := bc.c
    have B := bc.below
    have hsz : w.heap.size + 1 < wc.heap.size := by have := Below.size bc; simp at this; omega
    have hm1 := below1 wc (.cells #[.int .i64 k, .int .i64 (-1)] 92)
    have c0' := (hm1.cell (p := ⟨w.heap.size, 0, none⟩) (show w.heap.size < wc.heap.size by omega)).trans c0
    go_wp2_with fail
    have N0 : ∀ w', Below (wc.alloc (.cells #[.int .i64 k, .int .i64 (-1)] 92)).heap.size (wc.alloc (.cells #[.int .i64 k, .int .i64 (-1)] 92)) w' → (w'.cell? ⟨wc.heap.size, 0, none⟩ = some (.int .i64 k) ∧ w'.cell? ⟨wc.heap.size, 1, none⟩ = some (.int .i64 (-1)) ∧ (∀ o, w'.frozen? ⟨wc.heap.size, o, none⟩ = false)) ∧ w'.cell? ⟨w.heap.size + 1, 0, none⟩ = some (.int .i64 0) ∧ w'.cell? ⟨w.heap.size + 1, 1, none⟩ = some (.int .i64 0) ∧ (∀ o, w'.frozen? ⟨w.heap.size + 1, o, none⟩ = false) ∧ Below w.heap.size w w' := by
      intro w' hb
      have e0 := heap_alloc_new wc (.cells #[.int .i64 k, .int .i64 (-1)] 92)
      have h0 : w'.heap[wc.heap.size]? = some (.cells #[.int .i64 k, .int .i64 (-1)] 92 (0, 0)) := (hb.block wc.heap.size (by simp)).trans e0
      have lt1 : w.heap.size + 1 < (wc.alloc (.cells #[.int .i64 k, .int .i64 (-1)] 92)).heap.size := by simp; omega
      refine ⟨by simp [World.cell?, World.frozen?, h0], ((hb.cell (p := ⟨w.heap.size + 1, 0, none⟩) lt1).trans (hm1.cell (p := ⟨w.heap.size + 1, 0, none⟩) hsz)).trans m0, ((hb.cell (p := ⟨w.heap.size + 1, 1, none⟩) lt1).trans (hm1.cell (p := ⟨w.heap.size + 1, 1, none⟩) hsz)).trans m1, fun o => ((hb.frozen (p := ⟨w.heap.size + 1, o, none⟩) lt1).trans (hm1.frozen (p := ⟨w.heap.size + 1, o, none⟩) hsz)).trans (f1 o), (B.trans (hm1.mono (by omega))).trans (hb.mono (by simp; omega))⟩
    have hne : wc.heap.size ≠ w.heap.size + 1 := by omega
    refine (HM.out _).mono ?_
    rintro e w4 ⟨rfl, b4⟩
    obtain ⟨⟨e0, e1, e2⟩, g0, g1, g2, B4⟩ := N0 w4 b4
    clear N0 b4 m0 m1 f1 c0 c0' hm1 bc HI HK HC HS hb0 HM ba bo hu
    generalize wc.heap.size = N at e0 e1 e2 hne hsz
    have hne' : w.heap.size + 1 ≠ N := fun h => hne h.symm
    go_wp2_with fail
    refine bodyPost_ret (v := .tuple #[.agg #[.int .i64 k, .int .i64 L], .int .i64 20]) (by simp [results, Tryz.results55, go_sem, World.cell?_setCell_same, World.cell?_setCell_other, g0, g1]) rfl ⟨rfl, ?_⟩
    exact ((B4.setCell (by show w.heap.size ≤ N; omega) _).setCell (by show w.heap.size ≤ w.heap.size + 1; omega) _).setCell (by show w.heap.size ≤ w.heap.size + 1; omega) _

theorem mustFace_no (k i b : Int) (s : ByteArray) (ad : Option Addr) (len cap : Nat) (f : Int) (w : World) (hi : impl k f = false) :
    Calls Tryz.prog 55 #[.agg #[.int .i64 k, .int .i64 i, .int .u64 b, .string s, .slice ad len cap], .int .i64 f] w fun e w' => e = .returned (.tuple #[.agg #[.int .i64 k, .int .i64 (lackM k f)], .int .i64 20]) ∧ Below w.heap.size w w' := by
  by_cases hk : k = 0
  · subst hk
    have : lackM 0 f = -1 := by unfold lackM; rw [if_pos rfl]
    rw [this]
    exact mustFace_no0 i b s ad len cap f w hi
  · have : lackM k f = lacks k f := by unfold lackM; rw [if_neg hk]
    rw [this]
    exact mustFace_noK k i b s ad len cap f w hi (by simpa using hk)
end Go.Proofs.YthamafijjflfbaaGreat
/- The package's copies of values and of rows of values: the same trees in new memory; the conditions: the trees in memory, of a size that can be. -/
namespace Go.Proofs.YthamafijjflfbaaGreat.Dt
open Go.RowKit

/-- A row of trees in memory. -/
def Rl (w : World) (n : Nat) (ad : Option Addr) (ts : List (Tr n)) : Prop := ts = [] ∨ ∃ g o, ad = some ⟨g, o, none⟩ ∧ ∀ (j : Nat) (t' : Tr n), ts[j]? = some t' → ∃ v0 v1 v2 v3 v4, w.cell? ⟨g, o + j * 5, none⟩ = some v0 ∧ w.cell? ⟨g, o + j * 5 + 1, none⟩ = some v1 ∧ w.cell? ⟨g, o + j * 5 + 2, none⟩ = some v2 ∧ w.cell? ⟨g, o + j * 5 + 3, none⟩ = some v3 ∧ w.cell? ⟨g, o + j * 5 + 4, none⟩ = some v4 ∧ Rep w n [v0, v1, v2, v3, v4] t'
/-- .. in blocks of which F tells. -/
def Rlf (F : Nat → Prop) (w : World) (n : Nat) (ad : Option Addr) (ts : List (Tr n)) : Prop := ts = [] ∨ ∃ g, ad = some ⟨g, 0, none⟩ ∧ F g ∧ (∀ q, w.frozen? ⟨g, q, none⟩ = false) ∧ ∀ (j : Nat) (t' : Tr n), ts[j]? = some t' → ∃ v0 v1 v2 v3 v4, w.cell? ⟨g, j * 5, none⟩ = some v0 ∧ w.cell? ⟨g, j * 5 + 1, none⟩ = some v1 ∧ w.cell? ⟨g, j * 5 + 2, none⟩ = some v2 ∧ w.cell? ⟨g, j * 5 + 3, none⟩ = some v3 ∧ w.cell? ⟨g, j * 5 + 4, none⟩ = some v4 ∧ Rf F w n [v0, v1, v2, v3, v4] t'

/-- The contract of Copy at trees of one depth. -/
def CpOf (n : Nat) : Prop := ∀ (t : Tr n) (v0 v1 v2 v3 v4 : Value) (w : World), Rep w n [v0, v1, v2, v3, v4] t → (pts n t).1 ≤ 4096 →
  Calls Tryz.prog 39 #[.agg #[v0, v1, v2, v3, v4]] w fun e w' => ∃ (k i u : Int) (s : ByteArray) (ad : Option Addr) (len cap : Nat), e = .returned (.agg #[.int .i64 k, .int .i64 i, .int .u64 u, .string s, .slice ad len cap]) ∧ Rf (fun g => w.heap.size ≤ g ∧ g < w'.heap.size) w' n [.int .i64 k, .int .i64 i, .int .u64 u, .string s, .slice ad len cap] t ∧ Below w.heap.size w w'

set_option maxRecDepth 100000 in
set_option maxHeartbeats 2000000 in
theorem vall (m : Nat) (ih : CpOf m) (ks : List (Tr m)) (ad : Option Addr) (cap : Nat) (w : World) (hn : ks.length ≤ 2199023255551) (hps : ∀ t ∈ ks, (pts m t).1 ≤ 4096) (hk : Rl w m ad ks) :
    Calls Tryz.prog 53 #[.slice ad ks.length cap] w fun e w' => ∃ a c, e = .returned (.slice a ks.length c) ∧ ks.length ≤ c ∧ c ≤ maxLen ∧ Rlf (fun g => w.heap.size ≤ g ∧ g < w'.heap.size) w' m a ks ∧ Below w.heap.size w w' := by
  by_cases h0 : ks = []
  · subst h0
    exact (copyAll_none ad cap w).mono fun e w' ⟨he, hb⟩ => ⟨none, 0, he, Nat.le_refl _, by unfold maxLen; omega, .inl rfl, hb⟩
  have hpos : 0 < ks.length := List.length_pos_iff.2 h0
  obtain ⟨i0, hz20, hze, hsz, hby⟩ := infoDat_parts
  have hmk : ∀ w : World, (Instr.makeSlice 23 (.int .i64 ks.length) (.int .i64 ks.length)).run Tryz.prog w = .ok (.slice (some ⟨w.heap.size, 0, none⟩) ks.length ks.length) (w.alloc (.cells (madeCells (Value.cells (.agg #[.int .i64 0, .int .i64 0, .int .u64 0, .string ⟨#[]⟩, .slice none 0 0])) (ks.length * 5)) 25)) := fun w => by
    have := run_make (P := Tryz.prog) w 23 25 i0 _ Tryz.underlying23 hz20 hze .i64 .i64 ks.length ks.length (by omega) (Int.le_refl _) (by rw [hby]; omega) (by omega)
    simpa [hsz] using this
  have r2 : Rq (w.alloc (.cells (madeCells (Value.cells (.agg #[.int .i64 0, .int .i64 0, .int .u64 0, .string ⟨#[]⟩, .slice none 0 0])) (ks.length * 5)) 25)) w.heap.size ks.length := by
    exact ⟨_, heap_alloc_new w _, size_madeCells _ _⟩
  have b2 : Below w.heap.size w (w.alloc (.cells (madeCells (Value.cells (.agg #[.int .i64 0, .int .i64 0, .int .u64 0, .string ⟨#[]⟩, .slice none 0 0])) (ks.length * 5)) 25)) := below1 w _
  have HI := Lib.hid ih
  have HK := Lib.hid hk
  have HP := Lib.hid hps
  have hne0 : (ks.length == 0) = false := by simp; exact h0
  have hne1 : ((ks.length : Int) == 0) = false := by simp; omega
  clear ih hk hps hz20 hsz hby hze
  generalize madeCells (Value.cells (.agg #[.int .i64 0, .int .i64 0, .int .u64 0, .string ⟨#[]⟩, .slice none 0 0])) (ks.length * 5) = mc at *
  go_enter Tryz.func53, Tryz.ntmps53
  go_wp2_with fail
  go_loopw [14] (fun si wr => ∃ (j : Nat), si = .int .i64 j ∧ j ≤ ks.length ∧ Lq wr w.heap.size ks.length (fun g => w.heap.size + 1 ≤ g ∧ g < wr.heap.size) m ks j ∧ Below w.heap.size w wr) (fun si _ => ks.length - (intOf si).toNat)
  case atStart => exact ⟨0, rfl, Nat.zero_le _, ⟨r2, fun k _ hk => absurd hk (Nat.not_lt_zero _)⟩, b2⟩
  case round =>
    obtain ⟨j, rfl, hj, rw1, g1⟩ := hrel
    by_cases hlt : j < ks.length
    · rcases HK.out with hk | ⟨g, o, hk1, hk2⟩
      · exact absurd hk h0
      subst hk1
      obtain ⟨v0, v1, v2, v3, v4, e0, e1, e2, e3, e4, rk⟩ := hk2 j _ (List.getElem?_eq_getElem hlt)
      have hg : g < w.heap.size := World.block_lt_of_cell? w _ e0
      obtain ⟨u0, u1, u2, u3, a4, n4, c4, rfl, rfl, rfl, rfl, rfl⟩ := rep_shape' rk
      have y0 := (g1.cell (p := ⟨g, o + j * 5, none⟩) hg).trans e0
      have y1 := (g1.cell (p := ⟨g, o + j * 5 + 1, none⟩) hg).trans e1
      have y2 := (g1.cell (p := ⟨g, o + j * 5 + 2, none⟩) hg).trans e2
      have y3 := (g1.cell (p := ⟨g, o + j * 5 + 3, none⟩) hg).trans e3
      have y4 := (g1.cell (p := ⟨g, o + j * 5 + 4, none⟩) hg).trans e4
      have h4 := HP.out _ (List.getElem_mem hlt)
      have zr := rw1.1.lt
      have HV : Hid (∀ wx, Below wr.heap.size wr wx → Calls Tryz.prog 39 #[.agg #[.int .i64 u0, .int .i64 u1, .int .u64 u2, .string u3, .slice a4 n4 c4]] wx fun e w' => ∃ (k i u : Int) (s : ByteArray) (ad : Option Addr) (len cap : Nat), e = .returned (.agg #[.int .i64 k, .int .i64 i, .int .u64 u, .string s, .slice ad len cap]) ∧ Rf (fun g => wx.heap.size ≤ g ∧ g < w'.heap.size) w' m [.int .i64 k, .int .i64 i, .int .u64 u, .string s, .slice ad len cap] ks[j] ∧ Below wx.heap.size wx w') := fun wx hx => HI.out ks[j] _ _ _ _ _ wx (Rep.below (hx.mono (Nat.le_refl _)) m _ _ (Rep.below g1 m _ _ rk)) h4
      clear e0 e1 e2 e3 e4 hk2 HK rk
      have step : Hid (∀ w2 v0 v1 v2 v3 v4, Below wr.heap.size wr w2 → Rf (fun g => wr.heap.size ≤ g ∧ g < w2.heap.size) w2 m [v0, v1, v2, v3, v4] ks[j] → ∀ W, W = ((((w2.setCell ⟨w.heap.size, j * 5, none⟩ v0).setCell ⟨w.heap.size, j * 5 + 1, none⟩ v1).setCell ⟨w.heap.size, j * 5 + 2, none⟩ v2).setCell ⟨w.heap.size, j * 5 + 3, none⟩ v3).setCell ⟨w.heap.size, j * 5 + 4, none⟩ v4 → Lq W w.heap.size ks.length (fun g => w.heap.size + 1 ≤ g ∧ g < W.heap.size) m ks (j + 1) ∧ Below w.heap.size w W) := fun w2 v0 v1 v2 v3 v4 bw rf W hW => by
        have k2 := rw1.1.below bw
        have hs2 := bw.size
        obtain ⟨s1, s2, s3, s4, s5⟩ := set5_at w2 w.heap.size ks.length j k2 hlt v0 v1 v2 v3 v4 hW
        refine ⟨⟨s1, fun k t hk ht => ?_⟩, ?_⟩
        · by_cases e : k = j
          · subst e
            rw [List.getElem?_eq_getElem hlt] at ht
            obtain rfl := Option.some.inj ht
            obtain ⟨a0, a1, a2, a3, a4⟩ := s4
            exact ⟨v0, v1, v2, v3, v4, a0, a1, a2, a3, a4, Rf.to (fun q hq => ⟨⟨by have := hq.1; omega, by rw [s2]; exact hq.2⟩, s3 q (by have := hq.1; omega)⟩) _ _ _ rf⟩
          · obtain ⟨u0, u1, u2, u3, u4, a0, a1, a2, a3, a4, rr⟩ := rw1.2 k t (by omega) ht
            have tr : ∀ o x, (o < j * 5 ∨ j * 5 + 4 < o) → wr.cell? ⟨w.heap.size, o, none⟩ = some x → W.cell? ⟨w.heap.size, o, none⟩ = some x := fun o x ho hx => (s5 o ho).trans ((bw.cell (p := ⟨w.heap.size, o, none⟩) zr).trans hx)
            exact ⟨u0, u1, u2, u3, u4, tr _ _ (by omega) a0, tr _ _ (by omega) a1, tr _ _ (by omega) a2, tr _ _ (by omega) a3, tr _ _ (by omega) a4, Rf.to (fun q hq => ⟨⟨hq.1, by rw [s2]; have := hq.2; omega⟩, (s3 q (by have := hq.1; omega)).trans (bw.block q hq.2)⟩) _ _ _ rr⟩
        · subst hW
          have g2 : Below w.heap.size w w2 := g1.trans (bw.mono g1.size)
          exact ((((g2.setCell (Nat.le_refl _) _).setCell (Nat.le_refl _) _).setCell (Nat.le_refl _) _).setCell (Nat.le_refl _) _).setCell (Nat.le_refl _) _
      have kcs : Hid (∀ w2, Below wr.heap.size wr w2 → (∃ x, w2.cell? ⟨w.heap.size, j * 5, none⟩ = some x) ∧ (∃ x, w2.cell? ⟨w.heap.size, j * 5 + 1, none⟩ = some x) ∧ (∃ x, w2.cell? ⟨w.heap.size, j * 5 + 2, none⟩ = some x) ∧ (∃ x, w2.cell? ⟨w.heap.size, j * 5 + 3, none⟩ = some x) ∧ (∃ x, w2.cell? ⟨w.heap.size, j * 5 + 4, none⟩ = some x) ∧ ∀ o, w2.frozen? ⟨w.heap.size, o, none⟩ = false) := fun w2 bw => by
        have k2 := rw1.1.below bw
        exact ⟨k2.c (by omega), k2.c (by omega), k2.c (by omega), k2.c (by omega), k2.c (by omega), fun o => k2.f⟩
      have hjl : (0 : Int) ≤ j ∧ (j : Int) < ks.length := by omega
      have bA := below1 wr (.cells #[.int .i64 u0, .int .i64 u1, .int .u64 u2, .string u3, .slice a4 n4 c4] 25)
      clear rw1
      go_wp2_with fail
      refine (HV.out _ bA).mono ?_
      rintro e w2 ⟨k', i', u', s', ad', len', cap', rfl, rf, bw⟩
      have bw' : Below wr.heap.size wr w2 := bA.trans (bw.mono bA.size)
      have rf' := Rf.to (F' := fun g => wr.heap.size ≤ g ∧ g < w2.heap.size) (w' := w2) (fun q hq => ⟨⟨by have := hq.1; simp at this; omega, hq.2⟩, rfl⟩) _ _ _ rf
      have st := Lib.hid (step.out w2 _ _ _ _ _ bw' rf')
      obtain ⟨⟨x0, k0⟩, ⟨x1, k1⟩, ⟨x2, k2⟩, ⟨x3, k3⟩, ⟨x4, k4⟩, kf⟩ := kcs.out w2 bw'
      clear rf rf' HV
      go_wp2_with fail
      exact ⟨⟨j + 1, by go_num, by omega, st.out _ rfl⟩, by simp [intOf]; omega⟩
    · have hje : j = ks.length := by omega
      subst hje
      have zr := rw1.1.lt
      go_wp2_with fail
      go_ret
      exact ⟨_, _, rfl, Nat.le_refl _, by unfold maxLen; omega, .inr ⟨_, rfl, ⟨Nat.le_refl _, zr⟩, fun q => rw1.1.f, fun j t h => by
        obtain ⟨v0, v1, v2, v3, v4, a0, a1, a2, a3, a4, r⟩ := rw1.2 j t (List.getElem?_eq_some_iff.1 h).1 h
        exact ⟨v0, v1, v2, v3, v4, a0, a1, a2, a3, a4, Rf.to (fun q hq => ⟨⟨by have := hq.1; omega, hq.2⟩, rfl⟩) _ _ _ r⟩⟩, g1⟩

theorem Rlf.to {F F' : Nat → Prop} {w w' : World} (hF : ∀ g, F g → F' g ∧ w'.heap[g]? = w.heap[g]?) {n : Nat} {ad : Option Addr} {ts : List (Tr n)} (h : Rlf F w n ad ts) : Rlf F' w' n ad ts := by
  rcases h with h | ⟨g, h1, h2, h3, h4⟩
  · exact .inl h
  · obtain ⟨hg, hh⟩ := hF g h2
    refine .inr ⟨g, h1, hg, fun q => ?_, fun j t' hj => ?_⟩
    · have := h3 q
      simp only [World.frozen?, hh] at this ⊢
      exact this
    · obtain ⟨v0, v1, v2, v3, v4, c0, c1, c2, c3, c4, r⟩ := h4 j t' hj
      exact ⟨v0, v1, v2, v3, v4, (cell_heap hh).trans c0, (cell_heap hh).trans c1, (cell_heap hh).trans c2, (cell_heap hh).trans c3, (cell_heap hh).trans c4, Rf.to hF n _ _ r⟩
theorem Rlf.rl {F : Nat → Prop} {w : World} {n : Nat} {ad : Option Addr} {ts : List (Tr n)} (h : Rlf F w n ad ts) : Rl w n ad ts := by
  rcases h with h | ⟨g, h1, -, -, h4⟩
  · exact .inl h
  · refine .inr ⟨g, 0, h1, fun j t' hj => ?_⟩
    obtain ⟨v0, v1, v2, v3, v4, c0, c1, c2, c3, c4, r⟩ := h4 j t' hj
    refine ⟨v0, v1, v2, v3, v4, ?_, ?_, ?_, ?_, ?_, Rf.rep n _ _ r⟩
    all_goals (rw [Nat.zero_add]; assumption)
theorem vcopy : ∀ n, CpOf n
  | 0 => fun t => t.elim
  | n + 1 => by
    intro t v0 v1 v2 v3 v4 w hr hp
    obtain ⟨ad, cap, h1, h2, h3, h4, h5⟩ := hr
    simp only [List.cons.injEq, and_true] at h1
    obtain ⟨rfl, rfl, rfl, rfl, rfl⟩ := h1
    obtain ⟨hl, hk⟩ := pts_kids hp
    refine (copy_by t.kd t.it t.ut t.tx ad t.ks.length cap w (fun a l c w' => l = t.ks.length ∧ t.ks.length ≤ c ∧ c ≤ maxLen ∧ Rlf (fun g => w.heap.size + 2 ≤ g ∧ g < w'.heap.size) w' n a t.ks) (fun a l c w' w'' ⟨e1, e2, e3, e4⟩ hs hg => ⟨e1, e2, e3, e4.to fun g hg' => ⟨⟨hg'.1, by rw [hs]; exact hg'.2⟩, hg g hg'.1⟩⟩) fun wx hb hz => ?_).mono fun e w' ⟨a, l, c, he, hr, hb⟩ => ?_
    · refine (vall n (vcopy n) t.ks ad cap wx (by omega) hk ?_).mono fun e w' ⟨a, c, he, e1, e2, e3, hb'⟩ => ⟨a, _, c, he, ⟨rfl, e1, e2, e3.to fun g hg => ⟨⟨by omega, hg.2⟩, rfl⟩⟩, hb'⟩
      rcases h5 with h5 | ⟨g, o, h6, h7⟩
      · exact .inl h5
      · refine .inr ⟨g, o, h6, fun j t' hj => ?_⟩
        obtain ⟨x0, x1, x2, x3, x4, c0, c1, c2, c3, c4, r⟩ := h7 j t' hj
        have hgl : g < w.heap.size := World.block_lt_of_cell? w _ c0
        exact ⟨x0, x1, x2, x3, x4, (hb.cell (p := ⟨g, _, none⟩) hgl).trans c0, (hb.cell (p := ⟨g, _, none⟩) hgl).trans c1, (hb.cell (p := ⟨g, _, none⟩) hgl).trans c2, (hb.cell (p := ⟨g, _, none⟩) hgl).trans c3, (hb.cell (p := ⟨g, _, none⟩) hgl).trans c4, Rep.below hb n _ _ r⟩
    · obtain ⟨rfl, e2, e3, e4⟩ := hr.out
      refine ⟨_, _, _, _, _, _, _, he, ⟨a, c, rfl, h2, e2, e3, ?_⟩, hb⟩
      rcases e4 with e4 | ⟨g, e5, e6, ef, e7⟩
      · exact .inl e4
      · refine .inr ⟨g, 0, e5, ⟨⟨by have := e6.1; omega, e6.2⟩, ef⟩, fun j t' hj => ?_⟩
        obtain ⟨x0, x1, x2, x3, x4, c0, c1, c2, c3, c4, r⟩ := e7 j t' hj
        refine ⟨x0, x1, x2, x3, x4, ?_, ?_, ?_, ?_, ?_, Rf.to (fun q hq => ⟨⟨by have := hq.1; omega, hq.2⟩, rfl⟩) _ _ _ r⟩
        all_goals (rw [Nat.zero_add]; assumption)
end Go.Proofs.YthamafijjflfbaaGreat.Dt
/- Acts over a value's tree, tried: given, asserted to a kind or to an interface, asked for its size, and the acts that panic of themselves; the conditions: the tree in memory, valid, its bits within 64. -/
namespace Go.Proofs.YthamafijjflfbaaGreat
open Go.RowKit

theorem st_rf (H m : Nat) (t : Dt.Tr m) : St H (fun k i u s a n c w' => Dt.Rf (fun g => H ≤ g ∧ g < w'.heap.size) w' m [.int .i64 k, .int .i64 i, .int .u64 u, .string s, .slice a n c] t) := fun _ _ _ _ _ _ _ _ _ h h1 h2 =>
  Dt.Rf.to (fun g hg => ⟨⟨hg.1, Nat.lt_of_lt_of_le hg.2 h1⟩, h2 g hg.1 hg.2⟩) _ _ _ h
theorem st_four {H N : Nat} {P : BodyP} (h : St H P) (hN : N + 4 ≤ H) : ∀ k i u s a n c w' w'', P k i u s a n c w' → w'.heap.size ≤ w''.heap.size → (∀ g, g < w'.heap.size → g ≠ N + 1 → g ≠ N + 2 → g ≠ N + 3 → w''.heap[g]? = w'.heap[g]?) → P k i u s a n c w'' :=
  fun _ _ _ _ _ _ _ _ _ h1 h2 h3 => h _ _ _ _ _ _ _ _ _ h1 h2 fun g g1 g2 => h3 g g2 (by omega) (by omega) (by omega)

theorem copy_rf (W0 : World) (m : Nat) (t : Dt.Tr (m + 1)) (hps : (Dt.pts (m + 1) t).1 ≤ 4096) (k i u : Int) (s : ByteArray) (a : Option Addr) (n c : Nat) (hrep : Dt.Rep W0 (m + 1) [.int .i64 k, .int .i64 i, .int .u64 u, .string s, .slice a n c] t) (w : World) (hb : Below W0.heap.size W0 w) (H : Nat) (hH : H ≤ w.heap.size) :
    Calls Tryz.prog 39 #[.agg #[.int .i64 k, .int .i64 i, .int .u64 u, .string s, .slice a n c]] w fun e w' => ∃ k i u s a n c, e = .returned (.agg #[.int .i64 k, .int .i64 i, .int .u64 u, .string s, .slice a n c]) ∧ Dt.Rf (fun g => H ≤ g ∧ g < w'.heap.size) w' (m + 1) [.int .i64 k, .int .i64 i, .int .u64 u, .string s, .slice a n c] t ∧ Below w.heap.size w w' :=
  (Dt.vcopy (m + 1) t _ _ _ _ _ w (Dt.Rep.below hb _ _ _ hrep) hps).mono fun e w' ⟨k, i, u, s, a, n, c, he, rf, hb'⟩ => ⟨k, i, u, s, a, n, c, he, Dt.Rf.to (fun g hg => ⟨⟨by omega, hg.2⟩, rfl⟩) _ _ _ rf, hb'⟩

theorem tryGive (W0 : World) (m : Nat) (t : Dt.Tr (m + 1)) (hps : (Dt.pts (m + 1) t).1 ≤ 4096) (ak ai au : Int) (az : ByteArray) (aa : Option Addr) (an ac : Nat) (bk bi bu : Int) (bs : ByteArray) (ba : Option Addr) (bn bc : Nat) (num : Int) (hrep : Dt.Rep W0 (m + 1) [.int .i64 ak, .int .i64 ai, .int .u64 au, .string az, .slice aa an ac] t) (w : World) (hb : Below W0.heap.size W0 w) :
    Calls Tryz.prog 10 #[.agg (acs 1 ak ai au az aa an ac bk bi bu bs ba bn bc num)] w fun e w' => ∃ k i u s a n c, e = .returned (.agg (rcs 0 0 0 0 true k i u s a n c)) ∧ Dt.Rf (fun g => w.heap.size + 6 ≤ g ∧ g < w'.heap.size) w' (m + 1) [.int .i64 k, .int .i64 i, .int .u64 u, .string s, .slice a n c] t ∧ Below w.heap.size w w' := by
  have S := st_rf (w.heap.size + 6) (m + 1) t
  refine try_ret 1 ak ai au az aa an ac bk bi bu bs ba bn bc num w 0 0 0 0 true _ (st_four S (by omega)) fun wx hx zx => ?_
  refine done_give ak ai au az aa an ac bk bi bu bs ba bn bc num wx (w.heap.size + 6) (by omega) _ S fun wy hy zy => ?_
  exact copy_rf W0 m t hps ak ai au az aa an ac hrep wy ((hb.trans (hx.mono hb.size)).trans (hy.mono (by have := hb.size; omega))) _ (by omega)

theorem tryAssert (W0 : World) (m : Nat) (t : Dt.Tr (m + 1)) (hrg : Dt.rgt (m + 1) t = true) (hps : (Dt.pts (m + 1) t).1 ≤ 4096) (h6 : Dt.r64 (m + 1) t) (ak ai au : Int) (az : ByteArray) (aa : Option Addr) (an ac : Nat) (bk bi bu : Int) (bs : ByteArray) (ba : Option Addr) (bn bc : Nat) (num : Int) (hrep : Dt.Rep W0 (m + 1) [.int .i64 ak, .int .i64 ai, .int .u64 au, .string az, .slice aa an ac] t) (w : World) (hb : Below W0.heap.size W0 w) (hq : tkd num ak = true) :
    Calls Tryz.prog 10 #[.agg (acs 2 ak ai au az aa an ac bk bi bu bs ba bn bc num)] w fun e w' => ∃ k i u s a n c, e = .returned (.agg (rcs 0 0 0 0 true k i u s a n c)) ∧ Dt.Rf (fun g => w.heap.size + 8 ≤ g ∧ g < w'.heap.size) w' (m + 1) [.int .i64 k, .int .i64 i, .int .u64 u, .string s, .slice a n c] t ∧ Below w.heap.size w w' := by
  have S := st_rf (w.heap.size + 8) (m + 1) t
  refine try_ret 2 ak ai au az aa an ac bk bi bu bs ba bn bc num w 0 0 0 0 true _ (st_four S (by omega)) fun wx hx zx => ?_
  refine done_assert ak ai au az aa an ac bk bi bu bs ba bn bc num wx (w.heap.size + 8) (by omega) _ S fun wy hy zy => ?_
  refine pmust_yes ak ai au az aa an ac num wy (w.heap.size + 8) (by omega) _ S fun wz hz zz => ?_
  have hB : Below W0.heap.size W0 wz := ((hb.trans (hx.mono hb.size)).trans (hy.mono (by have := hb.size; omega))).trans (hz.mono (by have := hb.size; omega))
  refine (must_yes (m + 1) t hrg h6 hps ak ai au az aa an ac num wz hq fun wq hq' => of_val W0 m t ak ai au az aa an ac wq hrg hps hrep (hB.trans (hq'.mono hB.size))).mono fun e w' ⟨v0, v1, v2, v3, v4, he, rf, hb'⟩ => ?_
  obtain ⟨u0, u1, u2, u3, a4, n4, c4', rfl, rfl, rfl, rfl, rfl⟩ := Dt.rep_shape (Dt.Rf.rep _ _ _ rf)
  exact ⟨u0, u1, u2, u3, a4, n4, c4', he, Dt.Rf.to (fun g hg => ⟨⟨by omega, hg.2⟩, rfl⟩) _ _ _ rf, hb'⟩

theorem tryAssert_no (W0 : World) (m : Nat) (t : Dt.Tr (m + 1)) (hrg : Dt.rgt (m + 1) t = true) (hps : (Dt.pts (m + 1) t).1 ≤ 4096) (ak ai au : Int) (az : ByteArray) (aa : Option Addr) (an ac : Nat) (bk bi bu : Int) (bs : ByteArray) (ba : Option Addr) (bn bc : Nat) (num : Int) (hrep : Dt.Rep W0 (m + 1) [.int .i64 ak, .int .i64 ai, .int .u64 au, .string az, .slice aa an ac] t) (w : World) (hb : Below W0.heap.size W0 w) (hq : tkd num ak = false) :
    Calls Tryz.prog 10 #[.agg (acs 2 ak ai au az aa an ac bk bi bu bs ba bn bc num)] w fun e w' => e = .returned (.agg (rErr 110 0 2 ak)) ∧ Below w.heap.size w w' := by
  refine try_pan 2 ak ai au az aa an ac bk bi bu bs ba bn bc num w 84 (.int .i64 ak) 2 ak (ptold_assert ak) fun wx hx zx => ?_
  refine done_assert_no ak ai au az aa an ac bk bi bu bs ba bn bc num wx fun wy hy => ?_
  refine pmust_no ak ai au az aa an ac num wy fun wz hz => ?_
  have hB : Below W0.heap.size W0 wz := ((hb.trans (hx.mono hb.size)).trans (hy.mono (by have := hb.size; omega))).trans (hz.mono (by have := hb.size; have := hy.size; omega))
  obtain ⟨F, hm, hM⟩ := type_musts num
  exact must_fail ak ai au az aa an ac num (qty num) F wz rfl hm (fun u w hu => (hM ak u w hu).2 hq) fun wq hq' => (of_val W0 m t ak ai au az aa an ac wq hrg hps hrep (hB.trans (hq'.mono hB.size))).mono fun e w' ⟨u, a, c, _, d⟩ => ⟨u, a, c, d⟩

theorem tryFace (W0 : World) (m : Nat) (t : Dt.Tr (m + 1)) (hps : (Dt.pts (m + 1) t).1 ≤ 4096) (ak ai au : Int) (az : ByteArray) (aa : Option Addr) (an ac : Nat) (bk bi bu : Int) (bs : ByteArray) (ba : Option Addr) (bn bc : Nat) (num : Int) (hrep : Dt.Rep W0 (m + 1) [.int .i64 ak, .int .i64 ai, .int .u64 au, .string az, .slice aa an ac] t) (w : World) (hb : Below W0.heap.size W0 w) (hq : impl ak num = true) :
    Calls Tryz.prog 10 #[.agg (acs 3 ak ai au az aa an ac bk bi bu bs ba bn bc num)] w fun e w' => ∃ k i u s a n c, e = .returned (.agg (rcs 0 0 0 0 true k i u s a n c)) ∧ Dt.Rf (fun g => w.heap.size + 6 ≤ g ∧ g < w'.heap.size) w' (m + 1) [.int .i64 k, .int .i64 i, .int .u64 u, .string s, .slice a n c] t ∧ Below w.heap.size w w' := by
  have S := st_rf (w.heap.size + 6) (m + 1) t
  refine try_ret 3 ak ai au az aa an ac bk bi bu bs ba bn bc num w 0 0 0 0 true _ (st_four S (by omega)) fun wx hx zx => ?_
  refine done_face ak ai au az aa an ac bk bi bu bs ba bn bc num wx (w.heap.size + 6) (by omega) _ S (fun wy hy zy => ?_) fun wy hy zy => ?_
  · exact pface_yes ak ai au az aa an ac num wy fun wz hz => mustFace_yes ak ai au az aa an ac num wz hq
  · exact copy_rf W0 m t hps ak ai au az aa an ac hrep wy ((hb.trans (hx.mono hb.size)).trans (hy.mono (by have := hb.size; omega))) _ (by omega)

theorem tryFace_no (ak ai au : Int) (az : ByteArray) (aa : Option Addr) (an ac : Nat) (bk bi bu : Int) (bs : ByteArray) (ba : Option Addr) (bn bc : Nat) (num : Int) (w : World) (hq : impl ak num = false) :
    Calls Tryz.prog 10 #[.agg (acs 3 ak ai au az aa an ac bk bi bu bs ba bn bc num)] w fun e w' => e = .returned (.agg (rErr 110 0 2 (lackM ak num))) ∧ Below w.heap.size w w' := by
  refine try_pan 3 ak ai au az aa an ac bk bi bu bs ba bn bc num w 84 (.int .i64 (lackM ak num)) 2 (lackM ak num) (ptold_assert (lackM ak num)) fun wx hx zx => ?_
  refine done_face_no ak ai au az aa an ac bk bi bu bs ba bn bc num (lackM ak num) wx fun wy hy => ?_
  exact pface_no ak ai au az aa an ac num (lackM ak num) wy fun wz hz => mustFace_no ak ai au az aa an ac num wz hq

theorem tryOwn (ak ai au : Int) (az : ByteArray) (aa : Option Addr) (an ac : Nat) (bk bi bu : Int) (bs : ByteArray) (ba : Option Addr) (bn bc : Nat) (num : Int) (w : World) :
    Calls Tryz.prog 10 #[.agg (acs 8 ak ai au az aa an ac bk bi bu bs ba bn bc num)] w fun e w' => e = .returned (.agg (rErr 110 0 1 num)) ∧ Below w.heap.size w w' :=
  try_pan 8 ak ai au az aa an ac bk bi bu bs ba bn bc num w 73 (.int .i64 num) 1 num (ptold_own num) fun wx _ _ => done_own ak ai au az aa an ac bk bi bu bs ba bn bc num wx
theorem tryError (ak ai au : Int) (az : ByteArray) (aa : Option Addr) (an ac : Nat) (bk bi bu : Int) (bs : ByteArray) (ba : Option Addr) (bn bc : Nat) (num : Int) (w : World) :
    Calls Tryz.prog 10 #[.agg (acs 9 ak ai au az aa an ac bk bi bu bs ba bn bc num)] w fun e w' => e = .returned (.agg (rErr 110 0 7 num)) ∧ Below w.heap.size w w' :=
  try_pan 9 ak ai au az aa an ac bk bi bu bs ba bn bc num w 75 (.agg #[.int .i64 num, .string ⟨#[]⟩]) 7 num (ptold_error num _) fun wx _ _ => done_error ak ai au az aa an ac bk bi bu bs ba bn bc num wx

set_option maxRecDepth 100000 in
/-- What stands for a tree tells its size, where its kind has one. -/
theorem szd_of {F : Nat → Prop} {w : World} {m : Nat} {v : Value} {t : Dt.Tr (m + 1)} (h : Dt.VR F w (m + 1) v t) (h0 : (Dt.lenP t.kd t.tx.size t.ks.length).2 = 0) : Szd v (Dt.lenP t.kd t.tx.size t.ks.length).1 := by
  rcases Dt.vr_cases h with ⟨q, rfl⟩ | ⟨q, rfl⟩ | ⟨q, rfl⟩ | ⟨q, rfl⟩ | ⟨q, rfl⟩ | ⟨q, rfl⟩ | ⟨q, rfl⟩ | ⟨q, a, c, rfl⟩ | ⟨q, a, c, rfl⟩ | ⟨q, x, y, rfl, hx, hy⟩ | ⟨q, rfl⟩ | ⟨q, b, u, rfl, hh, hu⟩ | ⟨q, rfl⟩ | ⟨q, rfl⟩
  all_goals (simp [q, Dt.lenP] at h0 <;> simp [q, Dt.lenP])
  · exact ⟨_, _, 112, rfl, fun _ => by kernel_rfl, fun _ _ => by kernel_rfl, fun w => run_typeAssert_hasB Tryz.underlying115 (by kernel_rfl) _ _ w, fun w => (Dt.sizeText _ w).mono fun e w' ⟨h1, h2⟩ => ⟨h1, h2 ▸ Below.refl _ _⟩⟩
  · exact ⟨_, _, 114, rfl, fun _ => by kernel_rfl, fun _ _ => by kernel_rfl, fun w => run_typeAssert_hasB Tryz.underlying115 (by kernel_rfl) _ _ w, fun w => (Dt.sizeName _ w).mono fun e w' ⟨h1, h2⟩ => ⟨h1, h2 ▸ Below.refl _ _⟩⟩
  · exact ⟨_, _, 115, rfl, fun _ => by kernel_rfl, fun _ _ => by kernel_rfl, fun w => run_typeAssert_hasB Tryz.underlying115 (by kernel_rfl) _ _ w, fun w => (Dt.sizeOct _ _ _ w).mono fun e w' ⟨h1, h2⟩ => ⟨h1, h2 ▸ Below.refl _ _⟩⟩
  · exact ⟨_, _, 116, rfl, fun _ => by kernel_rfl, fun _ _ => by kernel_rfl, fun w => run_typeAssert_hasB Tryz.underlying115 (by kernel_rfl) _ _ w, fun w => (Dt.sizeRow _ _ _ w).mono fun e w' ⟨h1, h2⟩ => ⟨h1, h2 ▸ Below.refl _ _⟩⟩
  · exact ⟨_, _, 117, rfl, fun _ => by kernel_rfl, fun _ _ => by kernel_rfl, fun w => run_typeAssert_hasB Tryz.underlying115 (by kernel_rfl) _ _ w, fun w => Dt.sizePair _ _ hx hy w⟩
  · exact ⟨_, _, 120, rfl, fun _ => by kernel_rfl, fun _ _ => by kernel_rfl, fun w => run_typeAssert_hasB Tryz.underlying115 (by kernel_rfl) _ _ w, fun w => (Dt.sizeBox _ w).mono fun e w' ⟨h1, h2⟩ => ⟨h1, h2 ▸ Below.refl _ _⟩⟩
  · exact ⟨_, _, 120, rfl, fun _ => by kernel_rfl, fun _ _ => by kernel_rfl, fun w => run_typeAssert_hasB Tryz.underlying115 (by kernel_rfl) _ _ w, fun w => (Dt.sizeNob w).mono fun e w' ⟨h1, h2⟩ => ⟨h1, h2 ▸ Below.refl _ _⟩⟩
set_option maxRecDepth 100000 in
theorem nosz_of {F : Nat → Prop} {w : World} {m : Nat} {v : Value} {t : Dt.Tr (m + 1)} (h : Dt.VR F w (m + 1) v t) (h0 : (Dt.lenP t.kd t.tx.size t.ks.length).2 ≠ 0) : Sx v ∧ ∀ w : World, (Instr.typeAssert v 20 115 true).run Tryz.prog w = .ok (.tuple #[.nilIface, .bool false]) w := by
  rcases Dt.vr_cases h with ⟨q, rfl⟩ | ⟨q, rfl⟩ | ⟨q, rfl⟩ | ⟨q, rfl⟩ | ⟨q, rfl⟩ | ⟨q, rfl⟩ | ⟨q, rfl⟩ | ⟨q, a, c, rfl⟩ | ⟨q, a, c, rfl⟩ | ⟨q, x, y, rfl, hx, hy⟩ | ⟨q, rfl⟩ | ⟨q, b, u, rfl, hh, hu⟩ | ⟨q, rfl⟩ | ⟨q, rfl⟩
  all_goals first | (exfalso; simp [q, Dt.lenP] at h0; done) | exact ⟨.inl rfl, fun w => assert_nil Tryz.underlying115 (by kernel_rfl)⟩ | exact ⟨.inr ⟨_, _, rfl⟩, fun w => run_typeAssert_lacksB Tryz.underlying115 (by kernel_rfl) (by kernel_rfl) _ _ w⟩

theorem trySize (W0 : World) (m : Nat) (t : Dt.Tr (m + 1)) (hrg : Dt.rgt (m + 1) t = true) (hps : (Dt.pts (m + 1) t).1 ≤ 4096) (ak ai au : Int) (az : ByteArray) (aa : Option Addr) (an ac : Nat) (bk bi bu : Int) (bs : ByteArray) (ba : Option Addr) (bn bc : Nat) (num : Int) (hrep : Dt.Rep W0 (m + 1) [.int .i64 ak, .int .i64 ai, .int .u64 au, .string az, .slice aa an ac] t) (w : World) (hb : Below W0.heap.size W0 w) :
    Calls Tryz.prog 10 #[.agg (acs 10 ak ai au az aa an ac bk bi bu bs ba bn bc num)] w fun e w' => e = .returned (.agg (if (Dt.lenP t.kd t.tx.size t.ks.length).2 = 0 then rcs 0 0 0 0 true 1 (Dt.lenP t.kd t.tx.size t.ks.length).1 0 ⟨#[]⟩ none 0 0 else rErr 12 0 0 0)) ∧ Below w.heap.size w w' := by
  have hB : ∀ wx wy wz : World, Below w.heap.size w wx → Below wx.heap.size wx wy → Below wy.heap.size wy wz → Below W0.heap.size W0 wz := fun wx wy wz hx hy hz => ((hb.trans (hx.mono hb.size)).trans (hy.mono (by have := hb.size; have := hx.size; omega))).trans (hz.mono (by have := hb.size; have := hx.size; have := hy.size; omega))
  by_cases h0 : (Dt.lenP t.kd t.tx.size t.ks.length).2 = 0
  · simp only [if_pos h0]
    obtain ⟨r, hr⟩ : ∃ r, (Dt.lenP t.kd t.tx.size t.ks.length).1 = r := ⟨_, rfl⟩
    rw [hr]
    have S : St (w.heap.size + 6) (fun k i u s a n c _ => k = 1 ∧ i = r ∧ u = 0 ∧ s = ⟨#[]⟩ ∧ a = none ∧ n = 0 ∧ c = 0) := fun _ _ _ _ _ _ _ _ _ h _ _ => h
    refine (try_ret 10 ak ai au az aa an ac bk bi bu bs ba bn bc num w 0 0 0 0 true _ (st_four S (by omega)) fun wx hx zx => done_size ak ai au az aa an ac bk bi bu bs ba bn bc num wx 0 true (w.heap.size + 6) (by omega) _ S fun wy hy zy => (size_yes ak ai au r az aa an ac wy fun wz hz => (of_val W0 m t ak ai au az aa an ac wz hrg hps hrep (hB wx wy wz hx hy hz)).mono fun e w' ⟨v, he, _, vr, hb'⟩ => ⟨v, he, hr ▸ szd_of vr.out h0, hb'⟩).mono fun e w' ⟨he, hb'⟩ => ⟨1, r, 0, ⟨#[]⟩, none, 0, 0, he, ⟨rfl, rfl, rfl, rfl, rfl, rfl, rfl⟩, hb'⟩).mono fun e w' ⟨k, i, u, s, a, n, c, he, ⟨q1, q2, q3, q4, q5, q6, q7⟩, hb'⟩ => ?_
    subst q1 q2 q3 q4 q5 q6 q7
    exact ⟨he, hb'⟩
  · simp only [if_neg h0]
    have S : St (w.heap.size + 6) (fun k i u s a n c _ => k = 0 ∧ i = 0 ∧ u = 0 ∧ s = ⟨#[]⟩ ∧ a = none ∧ n = 0 ∧ c = 0) := fun _ _ _ _ _ _ _ _ _ h _ _ => h
    refine (try_ret 10 ak ai au az aa an ac bk bi bu bs ba bn bc num w 12 0 0 0 false _ (st_four S (by omega)) fun wx hx zx => done_size ak ai au az aa an ac bk bi bu bs ba bn bc num wx 12 false (w.heap.size + 6) (by omega) _ S fun wy hy zy => (size_no ak ai au az aa an ac wy fun wz hz => (of_val W0 m t ak ai au az aa an ac wz hrg hps hrep (hB wx wy wz hx hy hz)).mono fun e w' ⟨v, he, _, vr, hb'⟩ => ⟨v, he, (nosz_of vr.out h0).1, (nosz_of vr.out h0).2, hb'⟩).mono fun e w' ⟨he, hb'⟩ => ⟨0, 0, 0, ⟨#[]⟩, none, 0, 0, he, ⟨rfl, rfl, rfl, rfl, rfl, rfl, rfl⟩, hb'⟩).mono fun e w' ⟨k, i, u, s, a, n, c, he, ⟨q1, q2, q3, q4, q5, q6, q7⟩, hb'⟩ => ?_
    subst q1 q2 q3 q4 q5 q6 q7
    exact ⟨he, hb'⟩
end Go.Proofs.YthamafijjflfbaaGreat
