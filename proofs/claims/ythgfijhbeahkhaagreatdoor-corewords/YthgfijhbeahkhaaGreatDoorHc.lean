/- A work made of a core, a state and a tick, by the contract of the state's copy; the condition: the core's number is one. -/
import Derived.Test.YthgfijhbeahkhaaGreatDoorHb
namespace Go.Proofs.YthgfijhbeahkhaaGreatDoor
open Go.RowKit

/-- The cells of a work. -/
abbrev wcs (op num cp cn ac k i u : Int) (s : ByteArray) (a : Option Addr) (n c : Nat) (a' : Option Addr) (n' c' : Nat) (cl : Bool) (un now : Int) (hv : Value) : Array Value :=
  #[.int .i64 op, .int .i64 num, .int .u32 cp, .int .i64 cn, .int .i64 ac, .int .i64 k, .int .i64 i, .int .u64 u, .string s, .slice a n c, .slice a' n' c', .bool cl, .int .i64 un, .int .i64 now, hv]
abbrev scs (cn ac k i u : Int) (s : ByteArray) (a : Option Addr) (n c : Nat) (a' : Option Addr) (n' c' : Nat) (cl : Bool) (un : Int) : Array Value :=
  #[.int .i64 cn, .int .i64 ac, .int .i64 k, .int .i64 i, .int .u64 u, .string s, .slice a n c, .slice a' n' c', .bool cl, .int .i64 un]

/-- Two blocks of one's own at the front. -/
def Tw (w : World) (A B : Array Value) (S T : TypeId) (w' : World) : Prop := Below (w.heap.size + 2) ((w.alloc (.cells A S)).alloc (.cells B T)) w'
theorem Tw.start (w : World) (A B : Array Value) (S T : TypeId) : Tw w A B S T ((w.alloc (.cells A S)).alloc (.cells B T)) := Below.refl _ _
theorem Tw.drew {w : World} {A B : Array Value} {S T : TypeId} {w' : World} (h : Tw w A B S T w') : Tw w A B S T w'.drew := Below.drew h
theorem Tw.size {w : World} {A B : Array Value} {S T : TypeId} {w' : World} (h : Tw w A B S T w') : w.heap.size + 2 ≤ w'.heap.size := by have := Below.size h; simpa using this
theorem Tw.step {w : World} {A B : Array Value} {S T : TypeId} {w1 w2 : World} (h : Tw w A B S T w1) (hb : Below w1.heap.size w1 w2) : Tw w A B S T w2 := Below.trans h (hb.mono h.size)
theorem Tw.below {w : World} {A B : Array Value} {S T : TypeId} {w' : World} (h : Tw w A B S T w') : Below w.heap.size w w' := (below2 w _ _).trans (Below.mono h (by omega))
theorem Tw.one {w : World} {A B : Array Value} {S T : TypeId} {w' : World} (h : Tw w A B S T w') : Bk w' w.heap.size A S := Bk.under ((Bk.new w A S).alloc _) h (by omega)
theorem Tw.two {w : World} {A B : Array Value} {S T : TypeId} {w' : World} (h : Tw w A B S T w') : Bk w' (w.heap.size + 1) B T := Bk.under (Bk.new2 w _ B T) h (by omega)
theorem Tw.setLater {w : World} {A B : Array Value} {S T : TypeId} {w' : World} (h : Tw w A B S T w') {b : Nat} (hb : w.heap.size + 2 ≤ b) (o : Nat) (v : Value) : Tw w A B S T (w'.setCell ⟨b, o, none⟩ v) := Below.setCell h hb v
theorem hnd_iface (op num : Int) (p : Option Addr) (sb : Nat) : ∃ T z, hnd op num p sb = .iface T z := by
  unfold hnd
  by_cases h1 : op = 1; · exact ⟨_, _, if_pos h1⟩
  by_cases h2 : op = 2; · simp [h2]
  by_cases h3 : op = 3; · simp [h3]
  by_cases h4 : op = 4; · simp [h4]
  by_cases h5 : op = 5; · simp [h5]
  by_cases h6 : op = 6; · simp [h6]
  by_cases h7 : op = 7; · simp [h7]
  by_cases h8 : op = 8; · simp [h8]
  by_cases h9 : op = 9; · simp [h9]
  by_cases ha : op = 10; · simp [ha]
  by_cases hc : op = 12; · simp [hc]
  simp [h1, h2, h3, h4, h5, h6, h7, h8, h9, ha, hc]
theorem Bk.c3 {w : World} {N : Nat} {v0 v1 v2 : Value} {T : TypeId} (h : Bk w N #[v0, v1, v2] T) : w.cell? ⟨N, 0, none⟩ = some v0 ∧ w.cell? ⟨N, 1, none⟩ = some v1 ∧ w.cell? ⟨N, 2, none⟩ = some v2 := ⟨h.c 0, h.c 1, h.c 2⟩

set_option maxRecDepth 100000 in
set_option maxHeartbeats 1000000 in
theorem newWork_by (op num cp cn ac k i u : Int) (s : ByteArray) (a : Option Addr) (n c : Nat) (a' : Option Addr) (n' c' : Nat) (cl : Bool) (un now : Int) (w : World) (h1 : 1 ≤ op) (h2 : op ≤ 12)
    (Q : Int → Int → Int → ByteArray → Option Addr → Nat → Nat → Option Addr → Nat → Nat → World → Prop) (hQ : ∀ k i u s a n c a' n' c' w' w'', Q k i u s a n c a' n' c' w' → Below w'.heap.size w' w'' → Q k i u s a n c a' n' c' w'')
    (hC : ∀ wx, Below w.heap.size w wx → Calls Tryz.prog 64 #[.agg #[.int .i64 cn, .int .i64 ac, .int .i64 k, .int .i64 i, .int .u64 u, .string s, .slice a n c, .slice a' n' c', .bool cl, .int .i64 un]] wx fun e w' => ∃ k i u s a n c a' n' c', e = .returned (.agg #[.int .i64 cn, .int .i64 ac, .int .i64 k, .int .i64 i, .int .u64 u, .string s, .slice a n c, .slice a' n' c', .bool cl, .int .i64 un]) ∧ Q k i u s a n c a' n' c' w' ∧ Below wx.heap.size wx w') :
    Calls Tryz.prog 31 #[.agg #[.int .i64 op, .int .i64 num, .int .u32 cp], .agg #[.int .i64 cn, .int .i64 ac, .int .i64 k, .int .i64 i, .int .u64 u, .string s, .slice a n c, .slice a' n' c', .bool cl, .int .i64 un], .int .i64 now] w fun e w' => ∃ b sb k i u s a n c a' n' c', e = .returned (.pointer (some ⟨b, 0, none⟩)) ∧ Bk w' b (wcs op num cp cn ac k i u s a n c a' n' c' cl un now (hnd op num (some ⟨b, 3, none⟩) sb)) 69 ∧ (op = 3 → Bk w' sb #[.pointer (some ⟨b, 3, none⟩), .int .i64 num, .map none, .map none] 136 ∧ b < sb) ∧ Hid (Q k i u s a n c a' n' c' w') ∧ w.heap.size ≤ b ∧ Below w.heap.size w w' := by
  have HC := Lib.hid hC
  clear hC
  have HH : Hid (∀ (p : Addr) (wx : World), Calls Tryz.prog 65 #[.agg #[.int .i64 op, .int .i64 num, .int .u32 cp], .pointer (some p)] wx fun e w' => ∃ T z sb, e = .returned (.iface T z) ∧ Hid (hnd op num (some p) sb = .iface T z) ∧ HB op num (some p) sb wx w' ∧ Below wx.heap.size wx w') := fun p wx => (handlerOf_any op num cp p wx h1 h2).mono fun e w' ⟨sb, he, hb, b⟩ => by
    obtain ⟨T, z, hz⟩ := hnd_iface op num (some p) sb
    exact ⟨T, z, sb, by rw [he, hz], hz, hb, b⟩
  clear h1 h2
  have A0 := Tw.start w #[.int .i64 op, .int .i64 num, .int .u32 cp] #[.int .i64 cn, .int .i64 ac, .int .i64 k, .int .i64 i, .int .u64 u, .string s, .slice a n c, .slice a' n' c', .bool cl, .int .i64 un] 25 31
  have HS : Hid (∀ wx, Tw w #[.int .i64 op, .int .i64 num, .int .u32 cp] #[.int .i64 cn, .int .i64 ac, .int .i64 k, .int .i64 i, .int .u64 u, .string s, .slice a n c, .slice a' n' c', .bool cl, .int .i64 un] 25 31 wx → (wx.cell? ⟨w.heap.size, 0, none⟩ = some (.int .i64 op) ∧ wx.cell? ⟨w.heap.size, 1, none⟩ = some (.int .i64 num) ∧ wx.cell? ⟨w.heap.size, 2, none⟩ = some (.int .u32 cp)) ∧ wx.cell? ⟨w.heap.size + 1, 0, none⟩ = some (.int .i64 cn) ∧ wx.cell? ⟨w.heap.size + 1, 1, none⟩ = some (.int .i64 ac) ∧ wx.cell? ⟨w.heap.size + 1, 2, none⟩ = some (.int .i64 k) ∧ wx.cell? ⟨w.heap.size + 1, 3, none⟩ = some (.int .i64 i) ∧ wx.cell? ⟨w.heap.size + 1, 4, none⟩ = some (.int .u64 u) ∧ wx.cell? ⟨w.heap.size + 1, 5, none⟩ = some (.string s) ∧ wx.cell? ⟨w.heap.size + 1, 6, none⟩ = some (.slice a n c) ∧ wx.cell? ⟨w.heap.size + 1, 7, none⟩ = some (.slice a' n' c') ∧ wx.cell? ⟨w.heap.size + 1, 8, none⟩ = some (.bool cl) ∧ wx.cell? ⟨w.heap.size + 1, 9, none⟩ = some (.int .i64 un)) := fun wx h => ⟨h.one.c3, h.two.c10⟩
  go_enter Tryz.func31, Tryz.ntmps31
  go_wp2_with fail
  go_region_held3 (fun wx => (wx.cell? ⟨w.heap.size, 0, none⟩ = some (.int .i64 op) ∧ wx.cell? ⟨w.heap.size, 1, none⟩ = some (.int .i64 num) ∧ wx.cell? ⟨w.heap.size, 2, none⟩ = some (.int .u32 cp)) ∧ wx.cell? ⟨w.heap.size + 1, 0, none⟩ = some (.int .i64 cn) ∧ wx.cell? ⟨w.heap.size + 1, 1, none⟩ = some (.int .i64 ac) ∧ wx.cell? ⟨w.heap.size + 1, 2, none⟩ = some (.int .i64 k) ∧ wx.cell? ⟨w.heap.size + 1, 3, none⟩ = some (.int .i64 i) ∧ wx.cell? ⟨w.heap.size + 1, 4, none⟩ = some (.int .u64 u) ∧ wx.cell? ⟨w.heap.size + 1, 5, none⟩ = some (.string s) ∧ wx.cell? ⟨w.heap.size + 1, 6, none⟩ = some (.slice a n c) ∧ wx.cell? ⟨w.heap.size + 1, 7, none⟩ = some (.slice a' n' c') ∧ wx.cell? ⟨w.heap.size + 1, 8, none⟩ = some (.bool cl) ∧ wx.cell? ⟨w.heap.size + 1, 9, none⟩ = some (.int .i64 un)) (with_reducible exact HS.out _ (by first | assumption | exact Tw.drew (by assumption) | exact Tw.step (by assumption) (below1 _ _))) (first | (go_at_call 64; refine (HC.out _ (Tw.below (by first | assumption | exact Tw.drew (by assumption)))).mono ?_; rintro e w1 ⟨k2, i2, u2, s2, a2, n2, c2, a2', n2', c2', rfl, q1, b1⟩; have A1 := A0.drew.step b1))
  clear HC HS A0
  have A2 := A1.step (below1 w1 (.cells (wcs op num cp cn ac k2 i2 u2 s2 a2 n2 c2 a2' n2' c2' cl un now .nilIface) 69))
  have W2 := Bk.new w1 (wcs op num cp cn ac k2 i2 u2 s2 a2 n2 c2 a2' n2' c2' cl un now .nilIface) 69
  have Q1 := Lib.hid q1
  have bb := below1 w1 (.cells (wcs op num cp cn ac k2 i2 u2 s2 a2 n2 c2 a2' n2' c2' cl un now .nilIface) 69)
  have hlo := A1.size
  clear q1 b1 A1
  generalize w1.alloc (.cells (wcs op num cp cn ac k2 i2 u2 s2 a2 n2 c2 a2' n2' c2' cl un now .nilIface) 69) = w2 at *
  have hbe : ∃ b, w1.heap.size = b := ⟨_, rfl⟩
  obtain ⟨b, hbe⟩ := hbe
  rw [hbe] at W2 hlo bb ⊢
  have hbe := Lib.hid hbe
  have fw := W2.f
  have HS : Hid (∀ wx, Tw w #[.int .i64 op, .int .i64 num, .int .u32 cp] #[.int .i64 cn, .int .i64 ac, .int .i64 k, .int .i64 i, .int .u64 u, .string s, .slice a n c, .slice a' n' c', .bool cl, .int .i64 un] 25 31 wx → wx.cell? ⟨w.heap.size, 0, none⟩ = some (.int .i64 op) ∧ wx.cell? ⟨w.heap.size, 1, none⟩ = some (.int .i64 num) ∧ wx.cell? ⟨w.heap.size, 2, none⟩ = some (.int .u32 cp)) := fun wx h => h.one.c3
  go_wp2_with fail
  go_region_held3 (fun wx => wx.cell? ⟨w.heap.size, 0, none⟩ = some (.int .i64 op) ∧ wx.cell? ⟨w.heap.size, 1, none⟩ = some (.int .i64 num) ∧ wx.cell? ⟨w.heap.size, 2, none⟩ = some (.int .u32 cp)) (first | (with_reducible exact HS.out _ (by first | assumption | exact Tw.drew (by assumption))) | (with_reducible exact HS.out _ (Tw.setLater (by assumption) hlo _ _))) (first | (go_at_call 65; refine (HH.out _ _).mono ?_; rintro e w3 ⟨T, z, sb, rfl, HV, hb3, b3⟩; have A3 := A2.drew.step b3; have W3 := W2.drew.step b3; have fw3 := W3.f; have cw3 : w3.cell? ⟨b, 14, none⟩ = some .nilIface := W3.c 14; have hv3 := Lib.hid hb3; clear hb3))
  go_wp2
  go_ret
  have b3' : Below w2.heap.size w2 w3 := (Below.drew (Below.refl _ w2)).trans b3
  have hlt := W2.lt
  refine ⟨b, sb, k2, i2, u2, s2, a2, n2, c2, a2', n2', c2', rfl, ?_, ?_, ?_, by omega, ?_⟩
  · rw [HV.out]
    exact W3.set 14 _
  · intro h
    obtain ⟨h3, hlo3⟩ := hv3.out h
    have hlo3' : w2.heap.size ≤ sb := hlo3
    exact ⟨h3.other _ _ (by simp; omega), by omega⟩
  · refine hQ _ _ _ _ _ _ _ _ _ _ w1 _ Q1.out ?_
    rw [hbe.out]
    exact (bb.trans (b3'.mono (by omega))).setCell (Nat.le_refl _) _
  · exact Below.setCell A3.below (by simp; omega) _
end Go.Proofs.YthgfijhbeahkhaaGreatDoor
