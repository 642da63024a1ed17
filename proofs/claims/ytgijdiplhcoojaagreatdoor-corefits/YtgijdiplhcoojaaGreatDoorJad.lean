/- A work made of a core, a state and a tick, by the contract of the state's copy; the condition: the core's number is one. -/
import Derived.Test.YtgijdiplhcoojaaGreatDoorJac
namespace Go.Proofs.YtgijdiplhcoojaaGreatDoor
open Go.RowKit

/-- The cells of a work. -/
abbrev wcs (op num cp cn ac k i u : Int) (s : ByteArray) (a : Option Addr) (n c : Nat) (a' : Option Addr) (n' c' : Nat) (cl : Bool) (un now : Int) (hv : Value) : Array Value :=
  #[.int .i64 op, .int .i64 num, .int .u32 cp, .int .i64 cn, .int .i64 ac, .int .i64 k, .int .i64 i, .int .u64 u, .string s, .slice a n c, .slice a' n' c', .bool cl, .int .i64 un, .int .i64 now, hv]
abbrev scs (cn ac k i u : Int) (s : ByteArray) (a : Option Addr) (n c : Nat) (a' : Option Addr) (n' c' : Nat) (cl : Bool) (un : Int) : Array Value :=
  #[.int .i64 cn, .int .i64 ac, .int .i64 k, .int .i64 i, .int .u64 u, .string s, .slice a n c, .slice a' n' c', .bool cl, .int .i64 un]

/-- Two blocks of one's own at the front. -/
def Tw (w : World) (A B : Array Value) (S T : TypeId) (w' : World) : Prop := Below (w.heap.size + 2) ((w.alloc (.cells A S)).alloc (.cells B T)) w'
theorem Tw.start (w : World) (A B : Array Value) (S T : TypeId) : Tw w A B S T ((w.alloc (.cells A S)).alloc (.cells B T)) := Below.refl _ _
theorem Tw.drew {w : World} {A B : Array Value} {S T : TypeId} {w' : World} (h : Tw w A B S T w') : Tw w A B S T w'.drew := Below.drew h
theorem Tw.size {w : World} {A B : Array Value} {S T : TypeId} {w' : World} (h : Tw w A B S T w') : w.heap.size + 2 ≤ w'.heap.size := by have := Below.size h; simpa using this
theorem Tw.step {w : World} {A B : Array Value} {S T : TypeId} {w1 w2 : World} (h : Tw w A B S T w1) (hb : Below w1.heap.size w1 w2) : Tw w A B S T w2 := Below.trans h (hb.mono h.size)
theorem Tw.below {w : World} {A B : Array Value} {S T : TypeId} {w' : World} (h : Tw w A B S T w') : Below w.heap.size w w' := (below2 w _ _).trans (Below.mono h (by omega))
theorem Tw.one {w : World} {A B : Array Value} {S T : TypeId} {w' : World} (h : Tw w A B S T w') : Bk w' w.heap.size A S := Bk.under ((Bk.new w A S).alloc _) h (by omega)
theorem Tw.two {w : World} {A B : Array Value} {S T : TypeId} {w' : World} (h : Tw w A B S T w') : Bk w' (w.heap.size + 1) B T := Bk.under (Bk.new2 w _ B T) h (by omega)
theorem Tw.setLater {w : World} {A B : Array Value} {S T : TypeId} {w' : World} (h : Tw w A B S T w') {b : Nat} (hb : w.heap.size + 2 ≤ b) (o : Nat) (v : Value) : Tw w A B S T (w'.setCell ⟨b, o, none⟩ v) := Below.setCell h hb v
theorem hnd_iface (op num : Int) (p : Option Addr) (sb : Nat) : ∃ T z, hnd op num p sb = .iface T z := by
  unfold hnd
  by_cases h1 : op = 1; · exact ⟨_, _, if_pos h1⟩
  by_cases h2 : op = 2; · simp [h2]
  by_cases h3 : op = 3; · simp [h3]
  by_cases h4 : op = 4; · simp [h4]
  by_cases h5 : op = 5; · simp [h5]
  by_cases h6 : op = 6; · simp [h6]
  by_cases h7 : op = 7; · simp [h7]
  by_cases h8 : op = 8; · simp [h8]
  by_cases h9 : op = 9; · simp [h9]
  by_cases ha : op = 10; · simp [ha]
  by_cases hc : op = 12; · simp [hc]
  simp [h1, h2, h3, h4, h5, h6, h7, h8, h9, ha, hc]
theorem Bk.c3 {w : World} {N : Nat} {v0 v1 v2 : Value} {T : TypeId} (h : Bk w N #[v0, v1, v2] T) : w.cell? ⟨N, 0, none⟩ = some v0 ∧ w.cell? ⟨N, 1, none⟩ = some v1 ∧ w.cell? ⟨N, 2, none⟩ = some v2 := ⟨h.c 0, h.c 1, h.c 2⟩

set_option maxRecDepth 100000 in
set_option maxHeartbeats 1000000 in
theorem newWork_by (op num cp cn ac k i u : Int) (s : ByteArray) (a : Option Addr) (n c : Nat) (a' : Option Addr) (n' c' : Nat) (cl : Bool) (un now : Int) (w : World) (h1 : 1 ≤ op) (h2 : op ≤ 12)
    (Q : Int → Int → Int → ByteArray → Option Addr → Nat → Nat → Option Addr → Nat → Nat → World → Prop) (hQ : ∀ k i u s a n c a' n' c' w' w'', Q k i u s a n c a' n' c' w' → Below w'.heap.size w' w'' → Q k i u s a n c a' n' c' w'')
    (hC : ∀ wx, Below w.heap.size w wx → Calls Tryz.prog 37 #[.agg #[.int .i64 cn, .int .i64 ac, .int .i64 k, .int .i64 i, .int .u64 u, .string s, .slice a n c, .slice a' n' c', .bool cl, .int .i64 un]] wx fun e w' => ∃ k i u s a n c a' n' c', e = .returned (.agg #[.int .i64 cn, .int .i64 ac, .int .i64 k, .int .i64 i, .int .u64 u, .string s, .slice a n c, .slice a' n' c', .bool cl, .int .i64 un]) ∧ Q k i u s a n c a' n' c' w' ∧ Below wx.heap.size wx w') :
    Calls Tryz.prog 43 #[.agg #[.int .i64 op, .int .i64 num, .int .u32 cp], .agg #[.int .i64 cn, .int .i64 ac, .int .i64 k, .int .i64 i, .int .u64 u, .string s, .slice a n c, .slice a' n' c', .bool cl, .int .i64 un], .int .i64 now] w fun e w' => ∃ b sb k i u s a n c a' n' c', e = .returned (.pointer (some ⟨b, 0, none⟩)) ∧ Bk w' b (wcs op num cp cn ac k i u s a n c a' n' c' cl un now (hnd op num (some ⟨b, 3, none⟩) sb)) 82 ∧ (op = 3 → Bk w' sb #[.pointer (some ⟨b, 3, none⟩), .int .i64 num, .map none, .map none] 134 ∧ b < sb) ∧ Hid (Q k i u s a n c a' n' c' w') ∧ w.heap.size ≤ b ∧ Below w.heap.size w w' := by
  have HC := Lib.hid hC
  clear hC
  have HH : Hid (∀ (p : Addr) (wx : World), Calls Tryz.prog 53 #[.agg #[.int .i64 op, .int .i64 num, .int .u32 cp], .pointer (some p)] wx fun e w' => ∃ T z sb, e = .returned (.iface T z) ∧ Hid (hnd op num (some p) sb = .iface T z) ∧ HB op num (some p) sb wx w' ∧ Below wx.heap.size wx w') := fun p wx => (handlerOf_any op num cp p wx h1 h2).mono fun e w' ⟨sb, he, hb, b⟩ => by
    obtain ⟨T, z, hz⟩ := hnd_iface op num (some p) sb
    exact ⟨T, z, sb, by rw [he, hz], hz, hb, b⟩
  clear h1 h2
  have A0 := Tw.start w #[.int .i64 op, .int .i64 num, .int .u32 cp] #[.int .i64 cn, .int .i64 ac, .int .i64 k, .int .i64 i, .int .u64 u, .string s, .slice a n c, .slice a' n' c', .bool cl, .int .i64 un] 62 27
  have HS : Hid (∀ wx, Tw w #[.int .i64 op, .int .i64 num, .int .u32 cp] #[.int .i64 cn, .int .i64 ac, .int .i64 k, .int .i64 i, .int .u64 u, .string s, .slice a n c, .slice a' n' c', .bool cl, .int .i64 un] 62 27 wx → (wx.cell? ⟨w.heap.size, 0, none⟩ = some (.int .i64 op) ∧ wx.cell? ⟨w.heap.size, 1, none⟩ = some (.int .i64 num) ∧ wx.cell? ⟨w.heap.size, 2, none⟩ = some (.int .u32 cp)) ∧ wx.cell? ⟨w.heap.size + 1, 0, none⟩ = some (.int .i64 cn) ∧ wx.cell? ⟨w.heap.size + 1, 1, none⟩ = some (.int .i64 ac) ∧ wx.cell? ⟨w.heap.size + 1, 2, none⟩ = some (.int .i64 k) ∧ wx.cell? ⟨w.heap.size + 1, 3, none⟩ = some (.int .i64 i) ∧ wx.cell? ⟨w.heap.size + 1, 4, none⟩ = some (.int .u64 u) ∧ wx.cell? ⟨w.heap.size + 1, 5, none⟩ = some (.string s) ∧ wx.cell? ⟨w.heap.size + 1, 6, none⟩ = some (.slice a n c) ∧ wx.cell? ⟨w.heap.size + 1, 7, none⟩ = some (.slice a' n' c') ∧ wx.cell? ⟨w.heap.size + 1, 8, none⟩ = some (.bool cl) ∧ wx.cell? ⟨w.heap.size + 1, 9, none⟩ = some (.int .i64 un)) := fun wx h => ⟨h.one.c3, h.two.c10⟩
  go_enter Tryz.func43, Tryz.ntmps43
  go_wp2_with fail
  go_region_held3 (fun wx => (wx.cell? ⟨w.heap.size, 0, none⟩ = some (.int .i64 op) ∧ wx.cell? ⟨w.heap.size, 1, none⟩ = some (.int .i64 num) ∧ wx.cell? ⟨w.heap.size, 2, none⟩ = some (.int .u32 cp)) ∧ wx.cell? ⟨w.heap.size + 1, 0, none⟩ = some (.int .i64 cn) ∧ wx.cell? ⟨w.heap.size + 1, 1, none⟩ = some (.int .i64 ac) ∧ wx.cell? ⟨w.heap.size + 1, 2, none⟩ = some (.int .i64 k) ∧ wx.cell? ⟨w.heap.size + 1, 3, none⟩ = some (.int .i64 i) ∧ wx.cell? ⟨w.heap.size + 1, 4, none⟩ = some (.int .u64 u) ∧ wx.cell? ⟨w.heap.size + 1, 5, none⟩ = some (.string s) ∧ wx.cell? ⟨w.heap.size + 1, 6, none⟩ = some (.slice a n c) ∧ wx.cell? ⟨w.heap.size + 1, 7, none⟩ = some (.slice a' n' c') ∧ wx.cell? ⟨w.heap.size + 1, 8, none⟩ = some (.bool cl) ∧ wx.cell? ⟨w.heap.size + 1, 9, none⟩ = some (.int .i64 un)) (with_reducible exact HS.out _ (by first | assumption | exact Tw.drew (by assumption) | exact Tw.step (by assumption) (below1 _ _))) (first | (go_at_call 37; refine (HC.out _ (Tw.below (by first | assumption | exact Tw.drew (by assumption)))).mono ?_; rintro e w1 ⟨k2, i2, u2, s2, a2, n2, c2, a2', n2', c2', rfl, q1, b1⟩; have A1 := A0.drew.step b1))
  clear HC HS A0
  have A2 := A1.step (below1 w1 (.cells (wcs op num cp cn ac k2 i2 u2 s2 a2 n2 c2 a2' n2' c2' cl un now .nilIface) 82))
  have W2 := Bk.new w1 (wcs op num cp cn ac k2 i2 u2 s2 a2 n2 c2 a2' n2' c2' cl un now .nilIface) 82
  have Q1 := Lib.hid q1
  have bb := below1 w1 (.cells (wcs op num cp cn ac k2 i2 u2 s2 a2 n2 c2 a2' n2' c2' cl un now .nilIface) 82)
  have hlo := A1.size
  clear q1 b1 A1
  generalize w1.alloc (.cells (wcs op num cp cn ac k2 i2 u2 s2 a2 n2 c2 a2' n2' c2' cl un now .nilIface) 82) = w2 at *
  have hbe : ∃ b, w1.heap.size = b := ⟨_, rfl⟩
  obtain ⟨b, hbe⟩ := hbe
  rw [hbe] at W2 hlo bb ⊢
  have hbe := Lib.hid hbe
  have fw := W2.f
  have HS : Hid (∀ wx, Tw w #[.int .i64 op, .int .i64 num, .int .u32 cp] #[.int .i64 cn, .int .i64 ac, .int .i64 k, .int .i64 i, .int .u64 u, .string s, .slice a n c, .slice a' n' c', .bool cl, .int .i64 un] 62 27 wx → wx.cell? ⟨w.heap.size, 0, none⟩ = some (.int .i64 op) ∧ wx.cell? ⟨w.heap.size, 1, none⟩ = some (.int .i64 num) ∧ wx.cell? ⟨w.heap.size, 2, none⟩ = some (.int .u32 cp)) := fun wx h => h.one.c3
  go_wp2_with fail
  go_region_held3 (fun wx => wx.cell? ⟨w.heap.size, 0, none⟩ = some (.int .i64 op) ∧ wx.cell? ⟨w.heap.size, 1, none⟩ = some (.int .i64 num) ∧ wx.cell? ⟨w.heap.size, 2, none⟩ = some (.int .u32 cp)) (first | (with_reducible exact HS.out _ (by first | assumption | exact Tw.drew (by assumption))) | (with_reducible exact HS.out _ (Tw.setLater (by assumption) hlo _ _))) (first | (go_at_call 53; refine (HH.out _ _).mono ?_; rintro e w3 ⟨T, z, sb, rfl, HV, hb3, b3⟩; have A3 := A2.drew.step b3; have W3 := W2.drew.step b3; have fw3 := W3.f; have cw3 : w3.cell? ⟨b, 14, none⟩ = some .nilIface := W3.c 14; have hv3 := Lib.hid hb3; clear hb3))
  go_wp2
  go_ret
  have b3' : Below w2.heap.size w2 w3 := (Below.drew (Below.refl _ w2)).trans b3
  have hlt := W2.lt
  refine ⟨b, sb, k2, i2, u2, s2, a2, n2, c2, a2', n2', c2', rfl, ?_, ?_, ?_, by omega, ?_⟩
  · rw [HV.out]
    exact W3.set 14 _
  · intro h
    obtain ⟨h3, hlo3⟩ := hv3.out h
    have hlo3' : w2.heap.size ≤ sb := hlo3
    exact ⟨h3.other _ _ (by simp; omega), by omega⟩
  · refine hQ _ _ _ _ _ _ _ _ _ _ w1 _ Q1.out ?_
    rw [hbe.out]
    exact (bb.trans (b3'.mono (by omega))).setCell (Nat.le_refl _) _
  · exact Below.setCell A3.below (by simp; omega) _
end Go.Proofs.YtgijdiplhcoojaaGreatDoor
/- A work's handle by its handler's own Handle: the answer, the error or the panic told; the conditions: what that comes to. -/
namespace Go.Proofs.YtgijdiplhcoojaaGreatDoor
open Go.RowKit

/-- The method Handle of a type is function F. -/
def MH (T : TypeId) (z : Value) (F : Nat) : Prop := (∀ w : World, (method 374 T z "Handle").run Tryz.prog w = .ok (F, z) w) ∧ ∀ (args : Array Value) (w : World), (callFunc F args).run Tryz.prog w = .ok (.enter F args) w

/-- What the inner function sees: its two variables, the handler. -/
structure Xi (pw pd b : Nat) (T : TypeId) (z : Value) (dk di du : Int) (ds : ByteArray) (da : Option Addr) (dn dc : Nat) (w : World) : Prop where
  pw : Bk w pw #[.pointer (some ⟨b, 0, none⟩)] 76
  pd : Bk w pd #[.int .i64 dk, .int .i64 di, .int .u64 du, .string ds, .slice da dn dc] 25
  h : w.cell? ⟨b, 14, none⟩ = some (.iface T z) ∧ b < w.heap.size
theorem Xi.below {pw pd b : Nat} {T : TypeId} {z : Value} {dk di du : Int} {ds : ByteArray} {da : Option Addr} {dn dc : Nat} {w w' : World} (x : Xi pw pd b T z dk di du ds da dn dc w) (hb : Below w.heap.size w w') : Xi pw pd b T z dk di du ds da dn dc w' :=
  ⟨x.pw.step hb, x.pd.step hb, (hb.cell (p := ⟨b, 14, none⟩) x.h.2).trans x.h.1, Nat.lt_of_lt_of_le x.h.2 hb.size⟩
theorem Xi.drew {pw pd b : Nat} {T : TypeId} {z : Value} {dk di du : Int} {ds : ByteArray} {da : Option Addr} {dn dc : Nat} {w : World} (x : Xi pw pd b T z dk di du ds da dn dc w) : Xi pw pd b T z dk di du ds da dn dc w.drew := ⟨x.pw, x.pd, x.h⟩

theorem Xi.other {pw pd b : Nat} {T : TypeId} {z : Value} {dk di du : Int} {ds : ByteArray} {da : Option Addr} {dn dc : Nat} {w W : World} (x : Xi pw pd b T z dk di du ds da dn dc w) {A : Nat} (h : ∀ g, g ≠ A → W.heap[g]? = w.heap[g]?) (hs : W.heap.size = w.heap.size) (h1 : pw ≠ A) (h2 : pd ≠ A) (h3 : b ≠ A) : Xi pw pd b T z dk di du ds da dn dc W :=
  ⟨(h pw h1).trans x.pw, (h pd h2).trans x.pd, (World.cell?_of_block (w := w) (a := ⟨b, 14, none⟩) (h b h3)).trans x.h.1, by rw [hs]; exact x.h.2⟩
theorem Xi.ten {pw pd b : Nat} {T : TypeId} {z : Value} {dk di du : Int} {ds : ByteArray} {da : Option Addr} {dn dc : Nat} {w : World} {A : Nat} {y0 y1 y2 y3 y4 y5 y6 y7 y8 y9 : Value} {R : TypeId} (r : Bk w A #[y0, y1, y2, y3, y4, y5, y6, y7, y8, y9] R) (x : Xi pw pd b T z dk di du ds da dn dc w) (h1 : pw ≠ A) (h2 : pd ≠ A) (h3 : b ≠ A) (x0 x1 x2 x3 x4 x5 x6 x7 x8 x9 : Value) :
    Xi pw pd b T z dk di du ds da dn dc ((((((((((w.setCell ⟨A, 0, none⟩ x0).setCell ⟨A, 1, none⟩ x1).setCell ⟨A, 2, none⟩ x2).setCell ⟨A, 3, none⟩ x3).setCell ⟨A, 4, none⟩ x4).setCell ⟨A, 5, none⟩ x5).setCell ⟨A, 6, none⟩ x6).setCell ⟨A, 7, none⟩ x7).setCell ⟨A, 8, none⟩ x8).setCell ⟨A, 9, none⟩ x9) := by
  obtain ⟨-, k2, k3, -⟩ := set10 r x0 x1 x2 x3 x4 x5 x6 x7 x8 x9 rfl
  exact x.other k3 k2 h1 h2 h3

set_option maxRecDepth 100000 in
set_option maxHeartbeats 1000000 in
theorem inner_ret (pw pd b : Nat) (T : TypeId) (z : Value) (F : Nat) (dk di du : Int) (ds : ByteArray) (da : Option Addr) (dn dc : Nat) (has : Bool) (k i u : Int) (s : ByteArray) (a : Option Addr) (n c : Nat) (ev : Value) (hev : Sx ev)
    (er co pk pn : Int) (has' : Bool) (k' i' u' : Int) (s' : ByteArray) (a' : Option Addr) (n' c' : Nat) (w : World)
    (X : Xi pw pd b T z dk di du ds da dn dc w) (hm : MH T z F) (L N : Nat) (hL : L ≤ N) (hN : N ≤ w.heap.size) (hpw : N ≤ pw) (hpd : N ≤ pd) (P : World → Prop) (hP : ∀ w' w'', P w' → w'.heap.size ≤ w''.heap.size → (∀ g, g < w'.heap.size → g ≠ w.heap.size → w''.heap[g]? = w'.heap[g]?) → P w'') (hPb : ∀ w', P w' → w'.cell? ⟨b, 14, none⟩ = some (.iface T z))
    (hF : ∀ wx, Below w.heap.size w wx → wx.heap.size = w.heap.size + 1 → Calls Tryz.prog F #[z, .agg #[.int .i64 dk, .int .i64 di, .int .u64 du, .string ds, .slice da dn dc]] wx fun e w' => e = .returned (.tuple #[.agg #[.bool has, .int .i64 k, .int .i64 i, .int .u64 u, .string s, .slice a n c], ev]) ∧ P w' ∧ Fr L N wx w')
    (hT : ∀ wx, P wx → Calls Tryz.prog 56 #[.agg #[.bool has, .int .i64 k, .int .i64 i, .int .u64 u, .string s, .slice a n c], ev] wx fun e w' => e = .returned (.agg (rcs er co pk pn has' k' i' u' s' a' n' c')) ∧ Below wx.heap.size wx w') :
    Calls Tryz.prog 55 #[.pointer (some ⟨pw, 0, none⟩), .pointer (some ⟨pd, 0, none⟩)] w fun e w' => e = .returned (.agg (rcs er co pk pn has' k' i' u' s' a' n' c')) ∧ P w' ∧ Fr L N w w' := by
  have hbl := X.h.2
  have HF : Hid (∀ wx, Below w.heap.size w wx → wx.heap.size = w.heap.size + 1 → Bk wx w.heap.size (rErr 0 0 0 0) 56 → Xi pw pd b T z dk di du ds da dn dc wx → Calls Tryz.prog F #[z, .agg #[.int .i64 dk, .int .i64 di, .int .u64 du, .string ds, .slice da dn dc]] wx fun e w' => e = .returned (.tuple #[.agg #[.bool has, .int .i64 k, .int .i64 i, .int .u64 u, .string s, .slice a n c], ev]) ∧ Hid (P w') ∧ Fr L N w w' ∧ Bk w' w.heap.size (rErr 0 0 0 0) 56 ∧ Xi pw pd b T z dk di du ds da dn dc w') := fun wx hb hz hr hx => (hF wx hb hz).mono fun e w' ⟨he, hp, hf⟩ => ⟨he, hp, (Fr.of hb (by omega)).trans hf, hr.fr hf (.inr hN), hx.pw.fr hf (.inr hpw), hx.pd.fr hf (.inr hpd), hPb _ hp, Nat.lt_of_lt_of_le hx.h.2 hf.size⟩
  have HT : Hid (∀ wx, Hid (P wx) → Fr L N w wx → Bk wx w.heap.size (rErr 0 0 0 0) 56 → Xi pw pd b T z dk di du ds da dn dc wx → Calls Tryz.prog 56 #[.agg #[.bool has, .int .i64 k, .int .i64 i, .int .u64 u, .string s, .slice a n c], ev] wx fun e w' => e = .returned (.agg (rcs er co pk pn has' k' i' u' s' a' n' c')) ∧ Hid (P w') ∧ Fr L N w w' ∧ Bk w' w.heap.size (rErr 0 0 0 0) 56 ∧ Xi pw pd b T z dk di du ds da dn dc w') := fun wx hp hf hr hx => (hT wx hp.out).mono fun e w' ⟨he, hb⟩ => ⟨he, hP _ _ hp.out hb.size (fun g hg _ => hb.block g hg), hf.trans (Fr.of hb (by have := hf.size; omega)), hr.step hb, hx.below hb⟩
  have HS : Hid (∀ wx, Xi pw pd b T z dk di du ds da dn dc wx → wx.cell? ⟨pw, 0, none⟩ = some (.pointer (some ⟨b, 0, none⟩)) ∧ wx.cell? ⟨b, 14, none⟩ = some (.iface T z) ∧ wx.cell? ⟨pd, 0, none⟩ = some (.int .i64 dk) ∧ wx.cell? ⟨pd, 1, none⟩ = some (.int .i64 di) ∧ wx.cell? ⟨pd, 2, none⟩ = some (.int .u64 du) ∧ wx.cell? ⟨pd, 3, none⟩ = some (.string ds) ∧ wx.cell? ⟨pd, 4, none⟩ = some (.slice da dn dc)) := fun wx x => ⟨x.pw.c 0, x.h.1, x.pd.c5⟩
  obtain ⟨hmm, hcf⟩ := hm
  have B0 : Below w.heap.size w (w.alloc (.cells (rErr 0 0 0 0) 56)).drew := (below1 w _).drew
  have Z0 : (w.alloc (.cells (rErr 0 0 0 0) 56)).drew.heap.size = w.heap.size + 1 := by show (w.alloc (.cells (rErr 0 0 0 0) 56)).heap.size = _; simp
  have R0 : Bk (w.alloc (.cells (rErr 0 0 0 0) 56)).drew w.heap.size (rErr 0 0 0 0) 56 := Bk.new w _ _
  have X0 := X.below B0
  have hP' := Lib.hid hP
  have n1 : pw ≠ w.heap.size := by have := X.pw.lt; omega
  have n2 : pd ≠ w.heap.size := by have := X.pd.lt; omega
  have n3 : b ≠ w.heap.size := by omega
  clear hF hT X hP hPb
  rcases hev with rfl | ⟨eT, ez, rfl⟩
  all_goals
    go_enter Tryz.func55, Tryz.ntmps55
    go_wp2_with fail
    go_region_held3 (fun wx => wx.cell? ⟨pw, 0, none⟩ = some (.pointer (some ⟨b, 0, none⟩)) ∧ wx.cell? ⟨b, 14, none⟩ = some (.iface T z) ∧ wx.cell? ⟨pd, 0, none⟩ = some (.int .i64 dk) ∧ wx.cell? ⟨pd, 1, none⟩ = some (.int .i64 di) ∧ wx.cell? ⟨pd, 2, none⟩ = some (.int .u64 du) ∧ wx.cell? ⟨pd, 3, none⟩ = some (.string ds) ∧ wx.cell? ⟨pd, 4, none⟩ = some (.slice da dn dc)) (first | (with_reducible exact HS.out _ (by assumption)) | (with_reducible exact HS.out _ (Xi.ten r2 x2 n1 n2 n3 _ _ _ _ _ _ _ _ _ _))) (first | (go_at_call 56; refine (HT.out _ (by assumption) (by assumption) (by assumption) (by assumption)).mono ?_; rintro e w2 ⟨rfl, p2, f2, r2, x2⟩; obtain ⟨c0, c1, c2, c3, c4, c5, c6, c7, c8, c9⟩ := r2.c10; have z2 := r2.f) | (refine (HF.out _ B0 Z0 R0 X0).mono ?_; rintro e w1 ⟨rfl, p1, f1, r1, x1⟩))
    obtain ⟨k1, k2, k3, k4⟩ := set10 r2 (.int .i64 er) (.int .i64 co) (.int .i64 pk) (.int .i64 pn) (.bool has') (.int .i64 k') (.int .i64 i') (.int .u64 u') (.string s') (.slice a' n' c') rfl
    have KP : Hid (P _) := hP'.out w2 _ p2.out (Nat.le_of_eq k2.symm) fun g _ hg => k3 g hg
    have KF := f2.trans_own k4 (fun g _ hg => k3 g hg) hN hL
    obtain ⟨q0, q1, q2, q3, q4, q5, q6, q7, q8, q9⟩ := k1.c10
    go_wp2_with fail
    refine bodyPost_ret (v := .agg (rcs er co pk pn has' k' i' u' s' a' n' c')) ?_ rfl ⟨rfl, KP.out, KF⟩
    simp [results, Tryz.results55, go_sem, q0, q1, q2, q3, q4, q5, q6, q7, q8, q9]

set_option maxRecDepth 100000 in
set_option maxHeartbeats 1000000 in
theorem inner_pan (pw pd b : Nat) (T : TypeId) (z : Value) (F : Nat) (dk di du : Int) (ds : ByteArray) (da : Option Addr) (dn dc : Nat) (pT : TypeId) (pz : Value) (w : World)
    (X : Xi pw pd b T z dk di du ds da dn dc w) (hm : MH T z F) (L N : Nat) (hL : L ≤ w.heap.size) (P : World → Prop)
    (hF : ∀ wx, Below w.heap.size w wx → wx.heap.size = w.heap.size + 1 → Calls Tryz.prog F #[z, .agg #[.int .i64 dk, .int .i64 di, .int .u64 du, .string ds, .slice da dn dc]] wx fun e w' => e = .panicked [{ v := .iface pT pz, recovered := false }] ∧ P w' ∧ Fr L N wx w') :
    Calls Tryz.prog 55 #[.pointer (some ⟨pw, 0, none⟩), .pointer (some ⟨pd, 0, none⟩)] w fun e w' => e = .panicked [{ v := .iface pT pz, recovered := false }] ∧ P w' ∧ Fr L N w w' := by
  have HF : Hid (∀ wx, Below w.heap.size w wx → wx.heap.size = w.heap.size + 1 → Calls Tryz.prog F #[z, .agg #[.int .i64 dk, .int .i64 di, .int .u64 du, .string ds, .slice da dn dc]] wx fun e w' => e = .panicked [{ v := .iface pT pz, recovered := false }] ∧ Hid (P w') ∧ Fr L N w w') := fun wx hb hz => (hF wx hb hz).mono fun e w' ⟨he, hp, hf⟩ => ⟨he, hp, (Fr.of hb (by omega)).trans hf⟩
  have HS : Hid (∀ wx, Xi pw pd b T z dk di du ds da dn dc wx → wx.cell? ⟨pw, 0, none⟩ = some (.pointer (some ⟨b, 0, none⟩)) ∧ wx.cell? ⟨b, 14, none⟩ = some (.iface T z) ∧ wx.cell? ⟨pd, 0, none⟩ = some (.int .i64 dk) ∧ wx.cell? ⟨pd, 1, none⟩ = some (.int .i64 di) ∧ wx.cell? ⟨pd, 2, none⟩ = some (.int .u64 du) ∧ wx.cell? ⟨pd, 3, none⟩ = some (.string ds) ∧ wx.cell? ⟨pd, 4, none⟩ = some (.slice da dn dc)) := fun wx x => ⟨x.pw.c 0, x.h.1, x.pd.c5⟩
  obtain ⟨hmm, hcf⟩ := hm
  have B0 : Below w.heap.size w (w.alloc (.cells (rErr 0 0 0 0) 56)).drew := (below1 w _).drew
  have Z0 : (w.alloc (.cells (rErr 0 0 0 0) 56)).drew.heap.size = w.heap.size + 1 := by show (w.alloc (.cells (rErr 0 0 0 0) 56)).heap.size = _; simp
  have X0 := X.below B0
  clear hF X
  go_enter Tryz.func55, Tryz.ntmps55
  go_wp2_with fail
  refine wp_region_held_drew (S := fun wx => wx.cell? ⟨pw, 0, none⟩ = some (.pointer (some ⟨b, 0, none⟩)) ∧ wx.cell? ⟨b, 14, none⟩ = some (.iface T z) ∧ wx.cell? ⟨pd, 0, none⟩ = some (.int .i64 dk) ∧ wx.cell? ⟨pd, 1, none⟩ = some (.int .i64 di) ∧ wx.cell? ⟨pd, 2, none⟩ = some (.int .u64 du) ∧ wx.cell? ⟨pd, 3, none⟩ = some (.string ds) ∧ wx.cell? ⟨pd, 4, none⟩ = some (.slice da dn dc)) (by kernel_rfl) (HS.out _ X0) (fun hHeld => ?_)
  refine wpAnyH_take (i := 0) (oi := { dst := some 3, op := Op.load 76 (Operand.tmp 0), type := 76, pos := "work.go:30", after := #[], guard := none }) (v := ?tA0) rfl (by kernel_rfl) (by kernel_rfl) (by kernel_rfl) (fun _ _ _ h => h) (Or.inl ⟨by rfl, ?uA0⟩) (by assumption) ?rA0
  case uA0 => (intro w hSw; (try dsimp only at hSw); go_simp; (try with_reducible rfl))
  simp only [Act.put, List.setIfInBounds_toArray, List.set_cons_zero, List.set_cons_succ]
  refine wpAnyH_take (i := 1) (oi := { dst := some 4, op := Op.nilCheck (Operand.tmp 3), type := 0, pos := "work.go:30", after := #[{ on := 0, ground := Ground.data }], guard := none }) (v := ?tA1) rfl (by kernel_rfl) (by kernel_rfl) (by kernel_rfl) (fun _ _ _ h => h) (Or.inl ⟨by rfl, ?uA1⟩) (by assumption) ?rA1
  case uA1 => (intro w hSw; (try dsimp only at hSw); go_simp; (try with_reducible rfl))
  simp only [Act.put, List.setIfInBounds_toArray, List.set_cons_zero, List.set_cons_succ]
  refine wpAnyH_take (i := 2) (oi := { dst := some 5, op := Op.fieldAddr 82 (Operand.tmp 4) 3, type := 0, pos := "work.go:30", after := #[{ on := 1, ground := Ground.data }], guard := none }) (v := ?tA2) rfl (by kernel_rfl) (by kernel_rfl) (by kernel_rfl) (fun _ _ _ h => h) (Or.inl ⟨by rfl, ?uA2⟩) (by assumption) ?rA2
  case uA2 => (intro w hSw; (try dsimp only at hSw); go_simp; (try with_reducible rfl))
  simp only [Act.put, List.setIfInBounds_toArray, List.set_cons_zero, List.set_cons_succ]
  refine wpAnyH_take (i := 3) (oi := { dst := some 6, op := Op.load 80 (Operand.tmp 5), type := 80, pos := "work.go:30", after := #[{ on := 2, ground := Ground.data }], guard := none }) (v := ?tA3) rfl (by kernel_rfl) (by kernel_rfl) (by kernel_rfl) (fun _ _ _ h => h) (Or.inl ⟨by rfl, ?uA3⟩) (by assumption) ?rA3
  case uA3 => (intro w hSw; (try dsimp only at hSw); go_simp; (try with_reducible rfl))
  simp only [Act.put, List.setIfInBounds_toArray, List.set_cons_zero, List.set_cons_succ]
  refine wpAnyH_take (i := 4) (oi := { dst := some 7, op := Op.load 25 (Operand.tmp 1), type := 25, pos := "work.go:30", after := #[], guard := none }) (v := ?tA4) rfl (by kernel_rfl) (by kernel_rfl) (by kernel_rfl) (fun _ _ _ h => h) (Or.inl ⟨by rfl, ?uA4⟩) (by assumption) ?rA4
  case uA4 => (intro w hSw; (try dsimp only at hSw); go_simp; (try with_reducible rfl))
  simp only [Act.put, List.setIfInBounds_toArray, List.set_cons_zero, List.set_cons_succ]
  refine wpAnyH_ready (rs := [5]) (by kernel_rfl) (by simp) ?_
  refine AllReadyH.cons (o := { dst := some 8, op := Op.call { callee := Callee.invoke (Operand.tmp 6) "Handle", args := #[Operand.tmp 7], argTypes := #[25] }, type := 104, pos := "work.go:30", after := #[{ on := 3, ground := Ground.data }, { on := 4, ground := Ground.data }], guard := none }) rfl (fun K hK => ?_) AllReadyH.nil
  go_simp
  refine (HF.out _ B0 Z0).mono ?_
  rintro e w1 ⟨rfl, p1, f1⟩
  go_wp2_with fail
  exact ⟨rfl, rfl, p1.out, f1⟩
end Go.Proofs.YtgijdiplhcoojaaGreatDoor
