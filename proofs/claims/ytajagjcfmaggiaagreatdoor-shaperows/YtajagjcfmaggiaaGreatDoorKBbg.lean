/- An act over two_acts values: the program's try and the document's answer are one; the conditions: the values valid, their bits within 64. -/
import Derived.Test.YtajagjcfmaggiaaGreatDoorKBbf
import Derived.Test.YtajagjcfmaggiaaGreatDoorKBac
import Derived.Test.YtajagjcfmaggiaaGreatDoorKBbc
import Derived.Test.YtajagjcfmaggiaaGreatDoorKBbd
import Derived.Test.YtajagjcfmaggiaaGreatDoorKBbe
import Derived.Test.YtajagjcfmaggiaaGreatDoorKBad
namespace Go.Proofs.YtajagjcfmaggiaaGreatDoor
open Go.RowKit

theorem impl3 (k : Int) (h : 0 ≤ k ∧ k ≤ 13) (h1 : k ≠ 11) (h2 : k ≠ 12) : impl k 3 = false := by
  have : k = 0 ∨ k = 1 ∨ k = 2 ∨ k = 3 ∨ k = 4 ∨ k = 5 ∨ k = 6 ∨ k = 7 ∨ k = 8 ∨ k = 9 ∨ k = 10 ∨ k = 13 := by omega
  rcases this with rfl | rfl | rfl | rfl | rfl | rfl | rfl | rfl | rfl | rfl | rfl | rfl <;> decide

set_option maxRecDepth 100000 in
set_option maxHeartbeats 1000000 in
theorem rsame_any (er pk pn : Int) (has : Bool) (k i u : Int) (s : ByteArray) (a : Option Addr) (n c : Nat) (k' i' u' : Int) (s' : ByteArray) (a' : Option Addr) (n' c' : Nat) (w : World)
    (hS : ∀ wx, Below w.heap.size w wx → Calls Tryz.prog 13 #[.agg #[.int .i64 k, .int .i64 i, .int .u64 u, .string s, .slice a n c], .agg #[.int .i64 k', .int .i64 i', .int .u64 u', .string s', .slice a' n' c']] wx fun e w' => e = .returned (.bool true) ∧ Below wx.heap.size wx w') :
    Calls Tryz.prog 11 #[.agg (rcs er 0 pk pn has k i u s a n c), .agg (rcs er 0 pk pn has k' i' u' s' a' n' c')] w fun e w' => e = .returned (.bool true) ∧ Below w.heap.size w w' := by
  have HS := Lib.hid hS
  clear hS
  have B0 := below2 w (.cells (rcs er 0 pk pn has k i u s a n c) 33) (.cells (rcs er 0 pk pn has k' i' u' s' a' n' c') 33)
  go_enter Tryz.func11, Tryz.ntmps11
  go_wp2_with fail
  refine (HS.out _ B0).mono ?_
  rintro e w1 ⟨rfl, b1⟩
  have B1 := B0.trans (b1.mono B0.size)
  go_wp2
  go_ret
  exact ⟨rfl, B1⟩

end Go.Proofs.YtajagjcfmaggiaaGreatDoor
/- The package's maps that lay something together: told, around, nothing, key, list, pair; the conditions: the value in memory, valid, the package's table as it is laid. -/
namespace Go.Proofs.YtajagjcfmaggiaaGreatDoor
open Go.RowKit

/-- The tree t lies in w behind the five cells cs, its parts in blocks of which F tells. -/
def Rz (F : Nat → Prop) (w : World) : (n : Nat) → List Value → Dt.Tr n → Prop
  | 0, _, _ => False
  | n + 1, cs, t => ∃ (ad : Option Addr) (cap : Nat), cs = [.int .i64 t.kd, .int .i64 t.it, .int .u64 t.ut, .string t.tx, .slice ad t.ks.length cap] ∧ t.tx.size ≤ maxLen ∧ t.ks.length ≤ cap ∧ cap ≤ maxLen ∧
      (t.ks = [] ∨ ∃ g o, ad = some ⟨g, o, none⟩ ∧ F g ∧ ∀ (j : Nat) (t' : Dt.Tr n), t.ks[j]? = some t' → ∃ v0 v1 v2 v3 v4, w.cell? ⟨g, o + j * 5, none⟩ = some v0 ∧ w.cell? ⟨g, o + j * 5 + 1, none⟩ = some v1 ∧ w.cell? ⟨g, o + j * 5 + 2, none⟩ = some v2 ∧ w.cell? ⟨g, o + j * 5 + 3, none⟩ = some v3 ∧ w.cell? ⟨g, o + j * 5 + 4, none⟩ = some v4 ∧ Rz F w n [v0, v1, v2, v3, v4] t')
theorem Rz.rep {F : Nat → Prop} {w : World} : ∀ (n : Nat) (cs : List Value) (t : Dt.Tr n), Rz F w n cs t → Dt.Rep w n cs t
  | 0, _, _, h => h
  | n + 1, cs, t, h => by
    obtain ⟨ad, cap, h1, h2, h3, h4, h5⟩ := h
    refine ⟨ad, cap, h1, h2, h3, h4, ?_⟩
    rcases h5 with h5 | ⟨g, o, h6, -, h7⟩
    · exact .inl h5
    · refine .inr ⟨g, o, h6, fun j t' hj => ?_⟩
      obtain ⟨v0, v1, v2, v3, v4, c0, c1, c2, c3, c4, r⟩ := h7 j t' hj
      exact ⟨v0, v1, v2, v3, v4, c0, c1, c2, c3, c4, Rz.rep n _ _ r⟩
theorem Rz.of_rep {w : World} : ∀ (n : Nat) (cs : List Value) (t : Dt.Tr n), Dt.Rep w n cs t → Rz (fun g => g < w.heap.size) w n cs t
  | 0, _, _, h => h
  | n + 1, cs, t, h => by
    obtain ⟨ad, cap, h1, h2, h3, h4, h5⟩ := h
    refine ⟨ad, cap, h1, h2, h3, h4, ?_⟩
    by_cases h0 : t.ks = []
    · exact .inl h0
    rcases h5 with h5 | ⟨g, o, h6, h7⟩
    · exact absurd h5 h0
    · have hp : 0 < t.ks.length := List.length_pos_iff.2 h0
      obtain ⟨_, _, _, _, _, c0, _⟩ := h7 0 _ (List.getElem?_eq_getElem hp)
      refine .inr ⟨g, o, h6, World.block_lt_of_cell? w _ c0, fun j t' hj => ?_⟩
      obtain ⟨v0, v1, v2, v3, v4, c0, c1, c2, c3, c4, r⟩ := h7 j t' hj
      exact ⟨v0, v1, v2, v3, v4, c0, c1, c2, c3, c4, Rz.of_rep n _ _ r⟩
theorem Rz.of_rf {F : Nat → Prop} {w : World} : ∀ (n : Nat) (cs : List Value) (t : Dt.Tr n), Dt.Rf F w n cs t → Rz F w n cs t
  | 0, _, _, h => h
  | n + 1, cs, t, h => by
    obtain ⟨ad, cap, h1, h2, h3, h4, h5⟩ := h
    refine ⟨ad, cap, h1, h2, h3, h4, ?_⟩
    rcases h5 with h5 | ⟨g, o, h6, hg, h7⟩
    · exact .inl h5
    · refine .inr ⟨g, o, h6, hg.1, fun j t' hj => ?_⟩
      obtain ⟨v0, v1, v2, v3, v4, c0, c1, c2, c3, c4, r⟩ := h7 j t' hj
      exact ⟨v0, v1, v2, v3, v4, c0, c1, c2, c3, c4, Rz.of_rf n _ _ r⟩
theorem Rz.to {F F' : Nat → Prop} {w w' : World} (hF : ∀ g, F g → F' g ∧ w'.heap[g]? = w.heap[g]?) : ∀ (n : Nat) (cs : List Value) (t : Dt.Tr n), Rz F w n cs t → Rz F' w' n cs t
  | 0, _, _, h => h
  | n + 1, cs, t, h => by
    obtain ⟨ad, cap, h1, h2, h3, h4, h5⟩ := h
    refine ⟨ad, cap, h1, h2, h3, h4, ?_⟩
    rcases h5 with h5 | ⟨g, o, h6, hg, h7⟩
    · exact .inl h5
    · obtain ⟨hg', hh⟩ := hF g hg
      refine .inr ⟨g, o, h6, hg', fun j t' hj => ?_⟩
      obtain ⟨v0, v1, v2, v3, v4, c0, c1, c2, c3, c4, r⟩ := h7 j t' hj
      exact ⟨v0, v1, v2, v3, v4, (Dt.cell_heap hh).trans c0, (Dt.cell_heap hh).trans c1, (Dt.cell_heap hh).trans c2, (Dt.cell_heap hh).trans c3, (Dt.cell_heap hh).trans c4, Rz.to hF n _ _ r⟩

/-- A result in memory, its body's parts where D tells, or new. -/
def GR (D : Nat → Prop) (r : Rs) (w : World) (e : Ending) (w' : World) : Prop := ∃ k i u s a n c, e = .returned (.agg (rcs r.er 0 r.pk r.pn r.has k i u s a n c)) ∧ Rz (fun g => D g ∨ (w.heap.size ≤ g ∧ g < w'.heap.size)) w' r.n [.int .i64 k, .int .i64 i, .int .u64 u, .string s, .slice a n c] r.t ∧ Below w.heap.size w w'
theorem gr_bad {D : Nat → Prop} {er pk pn : Int} {w : World} {e : Ending} {w' : World} (h : e = .returned (.agg (rErr er 0 pk pn)) ∧ Below w.heap.size w w') : GR D (bad er pk pn) w e w' := ⟨0, 0, 0, ⟨#[]⟩, none, 0, 0, h.1, ⟨none, 0, rfl, Nat.zero_le _, Nat.zero_le _, Nat.zero_le _, .inl rfl⟩, h.2⟩
/-- What a key's Name gives, from here on. -/
def NameOk (L : Lb) (w : World) : Prop := ∀ i, Dt.I64 i → ∀ w', Below w.heap.size w w' → Calls Tryz.prog 211 #[.int .i64 i] w' fun e w'' => e = .returned (.string (L.1 i)) ∧ Below w'.heap.size w' w''
theorem NameOk.below {L : Lb} {w w' : World} (h : NameOk L w) (hb : Below w.heap.size w w') : NameOk L w' := fun i hi w2 h2 => h i hi w2 (hb.trans (h2.mono hb.size))
theorem nameOk_key {w : World} (h : Dt.P10 w) : NameOk keyL w := fun i hi w' hb => Dt.nameKey i hi w' (h.below hb)
theorem rz_of_cells {F : Nat → Prop} {w' : World} {m : Nat} {t : Dt.Tr m} (k i u : Int) (s : ByteArray) (a : Option Addr) (n c : Nat) (hr : Rz F w' m [.int .i64 k, .int .i64 i, .int .u64 u, .string s, .slice a n c] t) {N : Nat} (hF : F N) (hN : Bk w' N #[.int .i64 k, .int .i64 i, .int .u64 u, .string s, .slice a n c] 25) : Rz F w' (m + 1) [.int .i64 8, .int .i64 0, .int .u64 0, .string ⟨#[]⟩, .slice (some ⟨N, 0, none⟩) 1 1] (lsT t) := by
  obtain ⟨c0, c1, c2, c3, c4⟩ := hN.c5
  refine ⟨some ⟨N, 0, none⟩, 1, rfl, Nat.zero_le _, Nat.le_refl _, by unfold maxLen; omega, .inr ⟨N, 0, rfl, hF, fun j t' hj => ?_⟩⟩
  cases j with
  | zero =>
    obtain rfl : t = t' := by simpa [lsT, nd, Dt.Tr.ks] using hj
    exact ⟨_, _, _, _, _, c0, c1, c2, c3, c4, hr⟩
  | succ j => simp [lsT, nd, Dt.Tr.ks] at hj
def CS10 (tp : ByteArray) (k i u : Int) (s : ByteArray) (a : Option Addr) (n c : Nat) : Array Value := #[.int .i64 4, .int .i64 0, .int .u64 0, .string tp, .slice none 0 0, .int .i64 k, .int .i64 i, .int .u64 u, .string s, .slice a n c]
theorem rz_of_pair {F : Nat → Prop} {w' : World} {m : Nat} {t : Dt.Tr (m + 1)} (tp : ByteArray) (htp : tp.size ≤ maxLen) (k i u : Int) (s : ByteArray) (a : Option Addr) (n c : Nat) (hr : Rz F w' (m + 1) [.int .i64 k, .int .i64 i, .int .u64 u, .string s, .slice a n c] t) {N : Nat} (hF : F N) (hN : Bk w' N (CS10 tp k i u s a n c) 25) : Rz F w' (m + 1 + 1) [.int .i64 9, .int .i64 0, .int .u64 0, .string ⟨#[]⟩, .slice (some ⟨N, 0, none⟩) 2 2] (prT tp t) := by
  obtain ⟨c0, c1, c2, c3, c4, c5, c6, c7, c8, c9⟩ := Bk.c10 hN
  refine ⟨some ⟨N, 0, none⟩, 2, rfl, Nat.zero_le _, Nat.le_refl _, by unfold maxLen; omega, .inr ⟨N, 0, rfl, hF, fun j t' hj => ?_⟩⟩
  match j, hj with
  | 0, hj =>
    obtain rfl : txT m tp = t' := by simpa [prT, nd, Dt.Tr.ks] using hj
    exact ⟨_, _, _, _, _, c0, c1, c2, c3, c4, none, 0, rfl, htp, Nat.le_refl _, Nat.zero_le _, .inl rfl⟩
  | 1, hj =>
    obtain rfl : t = t' := by simpa [prT, nd, Dt.Tr.ks] using hj
    exact ⟨_, _, _, _, _, c5, c6, c7, c8, c9, hr⟩
  | j + 2, hj => simp [prT, nd, Dt.Tr.ks] at hj

set_option maxRecDepth 100000 in
set_option maxHeartbeats 1000000 in
theorem told_ok (k i u : Int) (s : ByteArray) (a : Option Addr) (n c : Nat) (w : World) : Calls Tryz.prog 34 #[.agg #[.int .i64 k, .int .i64 i, .int .u64 u, .string s, .slice a n c], .int .i64 0] w fun e w' => e = .returned (.agg (rcs 0 0 0 0 true k i u s a n c)) ∧ Below w.heap.size w w' := by
  go_enter Tryz.func34, Tryz.ntmps34
  go_wp2
  exact bodyPost_ret (v := .agg (rcs 0 0 0 0 true k i u s a n c)) (by simp [results, Tryz.results34, go_sem]) rfl ⟨rfl, below2 w _ _⟩

set_option maxRecDepth 100000 in
set_option maxHeartbeats 1000000 in
theorem told_12 (k i u : Int) (s : ByteArray) (a : Option Addr) (n c : Nat) (w : World) : Calls Tryz.prog 34 #[.agg #[.int .i64 k, .int .i64 i, .int .u64 u, .string s, .slice a n c], .int .i64 12] w fun e w' => e = .returned (.agg (rErr 12 0 0 0)) ∧ Below w.heap.size w w' := by
  go_enter Tryz.func34, Tryz.ntmps34
  go_wp2
  exact bodyPost_ret (v := .agg (rErr 12 0 0 0)) (by simp [results, Tryz.results34, go_sem]) rfl ⟨rfl, below2 w _ _⟩

set_option maxRecDepth 100000 in
set_option maxHeartbeats 1000000 in
theorem told_14 (k i u : Int) (s : ByteArray) (a : Option Addr) (n c : Nat) (w : World) : Calls Tryz.prog 34 #[.agg #[.int .i64 k, .int .i64 i, .int .u64 u, .string s, .slice a n c], .int .i64 14] w fun e w' => e = .returned (.agg (rErr 14 0 0 0)) ∧ Below w.heap.size w w' := by
  go_enter Tryz.func34, Tryz.ntmps34
  go_wp2
  exact bodyPost_ret (v := .agg (rErr 14 0 0 0)) (by simp [results, Tryz.results34, go_sem]) rfl ⟨rfl, below2 w _ _⟩

set_option maxRecDepth 100000 in
set_option maxHeartbeats 1000000 in
theorem around_yes (k i u : Int) (s : ByteArray) (a : Option Addr) (n c : Nat) {m : Nat} (t : Dt.Tr m) (w : World) (hr : Dt.Rep w m [.int .i64 k, .int .i64 i, .int .u64 u, .string s, .slice a n c] t) (hT : Dt.Tab14 w) (hv : Dt.vB m t = true) : Calls Tryz.prog 81 #[.agg #[.int .i64 k, .int .i64 i, .int .u64 u, .string s, .slice a n c]] w fun e w' => e = .returned (.agg (rcs 0 0 0 0 true k i u s a n c)) ∧ Below w.heap.size w w' := by
  have B0 := below2 w (.cells #[.int .i64 k, .int .i64 i, .int .u64 u, .string s, .slice a n c] 25) (.cells (rErr 0 0 0 0) 33)
  have D0 : Bk ((w.alloc (.cells #[.int .i64 k, .int .i64 i, .int .u64 u, .string s, .slice a n c] 25)).alloc (.cells (rErr 0 0 0 0) 33)) w.heap.size #[.int .i64 k, .int .i64 i, .int .u64 u, .string s, .slice a n c] 25 := (Bk.new w _ _).alloc _
  have R0 := Bk.new2 w (.cells #[.int .i64 k, .int .i64 i, .int .u64 u, .string s, .slice a n c] 25) (rErr 0 0 0 0) 33
  go_enter Tryz.func81, Tryz.ntmps81
  have HV := Lib.hid (Dt.ownValid m t _ _ _ _ _ _ (Dt.Rep.below B0 _ _ _ hr) (hT.below B0))
  rw [hv] at HV
  clear hr hT hv
  go_wp2_with fail
  refine HV.out.mono ?_
  rintro e w1 ⟨rfl, b1⟩
  have D1 := D0.step b1
  have RX := R0.step b1
  have BX := B0.trans (b1.mono B0.size)
  clear b1 B0 R0 D0 HV
  obtain ⟨d0, d1, d2, d3, d4⟩ := D1.c5
  go_wp2_with fail
  clear D1 d0 d1 d2 d3 d4
  refine (told_ok k i u s a n c _).mono ?_
  rintro e w2 ⟨rfl, b2⟩
  have r2 := RX.step b2
  have B2 := BX.trans (b2.mono BX.size)
  obtain ⟨c0, c1, c2, c3, c4, c5, c6, c7, c8, c9⟩ := r2.c10
  have z2 := r2.f
  go_wp2_with fail
  obtain ⟨k1, k2, k3, k4⟩ := set10 r2 (.int .i64 0) (.int .i64 0) (.int .i64 0) (.int .i64 0) (.bool true) (.int .i64 k) (.int .i64 i) (.int .u64 u) (.string s) (.slice a n c) rfl
  have KF := B2.trans (k4.mono (by omega))
  obtain ⟨q0, q1, q2, q3, q4, q5, q6, q7, q8, q9⟩ := k1.c10
  refine bodyPost_ret (v := .agg (rcs 0 0 0 0 true k i u s a n c)) ?_ rfl ⟨rfl, KF⟩
  simp [results, Tryz.results81, go_sem, q0, q1, q2, q3, q4, q5, q6, q7, q8, q9]

set_option maxRecDepth 100000 in
set_option maxHeartbeats 1000000 in
theorem around_no (k i u : Int) (s : ByteArray) (a : Option Addr) (n c : Nat) {m : Nat} (t : Dt.Tr m) (w : World) (hr : Dt.Rep w m [.int .i64 k, .int .i64 i, .int .u64 u, .string s, .slice a n c] t) (hT : Dt.Tab14 w) (hv : Dt.vB m t = false) : Calls Tryz.prog 81 #[.agg #[.int .i64 k, .int .i64 i, .int .u64 u, .string s, .slice a n c]] w fun e w' => e = .returned (.agg (rcs 14 0 0 0 false 0 0 0 ⟨#[]⟩ none 0 0)) ∧ Below w.heap.size w w' := by
  have B0 := below2 w (.cells #[.int .i64 k, .int .i64 i, .int .u64 u, .string s, .slice a n c] 25) (.cells (rErr 0 0 0 0) 33)
  have D0 : Bk ((w.alloc (.cells #[.int .i64 k, .int .i64 i, .int .u64 u, .string s, .slice a n c] 25)).alloc (.cells (rErr 0 0 0 0) 33)) w.heap.size #[.int .i64 k, .int .i64 i, .int .u64 u, .string s, .slice a n c] 25 := (Bk.new w _ _).alloc _
  have R0 := Bk.new2 w (.cells #[.int .i64 k, .int .i64 i, .int .u64 u, .string s, .slice a n c] 25) (rErr 0 0 0 0) 33
  go_enter Tryz.func81, Tryz.ntmps81
  have HV := Lib.hid (Dt.ownValid m t _ _ _ _ _ _ (Dt.Rep.below B0 _ _ _ hr) (hT.below B0))
  rw [hv] at HV
  clear hr hT hv
  go_wp2_with fail
  refine HV.out.mono ?_
  rintro e w1 ⟨rfl, b1⟩
  have D1 := D0.step b1
  have RX := R0.step b1
  have BX := B0.trans (b1.mono B0.size)
  clear b1 B0 R0 D0 HV
  obtain ⟨d0, d1, d2, d3, d4⟩ := D1.c5
  go_wp2_with fail
  clear D1 d0 d1 d2 d3 d4
  refine (told_14 k i u s a n c _).mono ?_
  rintro e w2 ⟨rfl, b2⟩
  have r2 := RX.step b2
  have B2 := BX.trans (b2.mono BX.size)
  obtain ⟨c0, c1, c2, c3, c4, c5, c6, c7, c8, c9⟩ := r2.c10
  have z2 := r2.f
  go_wp2_with fail
  obtain ⟨k1, k2, k3, k4⟩ := set10 r2 (.int .i64 14) (.int .i64 0) (.int .i64 0) (.int .i64 0) (.bool false) (.int .i64 0) (.int .i64 0) (.int .u64 0) (.string ⟨#[]⟩) (.slice none 0 0) rfl
  have KF := B2.trans (k4.mono (by omega))
  obtain ⟨q0, q1, q2, q3, q4, q5, q6, q7, q8, q9⟩ := k1.c10
  refine bodyPost_ret (v := .agg (rcs 14 0 0 0 false 0 0 0 ⟨#[]⟩ none 0 0)) ?_ rfl ⟨rfl, KF⟩
  simp [results, Tryz.results81, go_sem, q0, q1, q2, q3, q4, q5, q6, q7, q8, q9]

set_option maxRecDepth 100000 in
set_option maxHeartbeats 1000000 in
theorem nothing_any (tp : ByteArray) (k i u : Int) (s : ByteArray) (a : Option Addr) (n c : Nat) (w : World) : Calls Tryz.prog 49 #[.string tp, .agg #[.int .i64 k, .int .i64 i, .int .u64 u, .string s, .slice a n c]] w fun e w' => e = .returned (.agg (rErr 12 0 0 0)) ∧ Below w.heap.size w w' := by
  have B0 := below2 w (.cells #[.int .i64 k, .int .i64 i, .int .u64 u, .string s, .slice a n c] 25) (.cells (rErr 0 0 0 0) 33)
  have D0 : Bk ((w.alloc (.cells #[.int .i64 k, .int .i64 i, .int .u64 u, .string s, .slice a n c] 25)).alloc (.cells (rErr 0 0 0 0) 33)) w.heap.size #[.int .i64 k, .int .i64 i, .int .u64 u, .string s, .slice a n c] 25 := (Bk.new w _ _).alloc _
  have R0 := Bk.new2 w (.cells #[.int .i64 k, .int .i64 i, .int .u64 u, .string s, .slice a n c] 25) (rErr 0 0 0 0) 33
  go_enter Tryz.func49, Tryz.ntmps49
  go_wp2_with fail
  refine (told_12 0 0 0 ⟨#[]⟩ none 0 0 _).mono ?_
  rintro e w2 ⟨rfl, b2⟩
  have r2 := R0.step b2
  have B2 := B0.trans (b2.mono B0.size)
  obtain ⟨c0, c1, c2, c3, c4, c5, c6, c7, c8, c9⟩ := r2.c10
  have z2 := r2.f
  go_wp2_with fail
  obtain ⟨k1, k2, k3, k4⟩ := set10 r2 (.int .i64 12) (.int .i64 0) (.int .i64 0) (.int .i64 0) (.bool false) (.int .i64 0) (.int .i64 0) (.int .u64 0) (.string ⟨#[]⟩) (.slice none 0 0) rfl
  have KF := B2.trans (k4.mono (by omega))
  obtain ⟨q0, q1, q2, q3, q4, q5, q6, q7, q8, q9⟩ := k1.c10
  refine bodyPost_ret (v := .agg (rcs 12 0 0 0 false 0 0 0 ⟨#[]⟩ none 0 0)) ?_ rfl ⟨rfl, KF⟩
  simp [results, Tryz.results49, go_sem, q0, q1, q2, q3, q4, q5, q6, q7, q8, q9]

set_option maxRecDepth 100000 in
set_option maxHeartbeats 1000000 in
theorem keyKind_any (k : Int) (w : World) : Calls Tryz.prog 83 #[.int .i64 k] w fun e w' => e = .returned (.int .i64 (kyK k)) ∧ w' = w := by
  by_cases h1 : k = 1
  · subst h1
    go_enter Tryz.func83, Tryz.ntmps83
    go_wp2
    go_ret
    exact ⟨rfl, rfl⟩
  by_cases h4 : k = 4
  · subst h4
    go_enter Tryz.func83, Tryz.ntmps83
    go_wp2
    go_ret
    exact ⟨rfl, rfl⟩
  · have e : kyK k = k := by simp [kyK, h1, h4]
    rw [e]
    have g1 : (k == 1) = false := by simpa using h1
    have g4 : (k == 4) = false := by simpa using h4
    go_enter Tryz.func83, Tryz.ntmps83
    go_wp2
    go_ret
    exact ⟨rfl, rfl⟩

end Go.Proofs.YtajagjcfmaggiaaGreatDoor
/- The package's maps key, list, pair; the conditions: the value in memory, valid, the package's table as it is laid. -/
namespace Go.Proofs.YtajagjcfmaggiaaGreatDoor
open Go.RowKit

theorem rz_below {D : Nat → Prop} {w w' : World} (hD : ∀ g, D g → g < w.heap.size) (hb : Below w.heap.size w w') {n : Nat} {cs : List Value} {t : Dt.Tr n} (h : Rz D w n cs t) : Rz (fun g => D g ∨ (w.heap.size ≤ g ∧ g < w'.heap.size)) w' n cs t := Rz.to (fun g hg => ⟨.inl hg, hb.block g (hD g hg)⟩) _ _ _ h
theorem rz_like {F : Nat → Prop} {w : World} {m : Nat} {t : Dt.Tr (m + 1)} {k i u : Int} {s : ByteArray} {a : Option Addr} {n c : Nat} (h : Rz F w (m + 1) [.int .i64 k, .int .i64 i, .int .u64 u, .string s, .slice a n c] t) (k' i' : Int) : Rz F w (m + 1) [.int .i64 k', .int .i64 i', .int .u64 u, .string s, .slice a n c] (nd k' i' t.ut t.tx t.ks) := by
  obtain ⟨ad, cap, e, h1, h2, h3, h4⟩ := h
  simp only [List.cons.injEq, Value.int.injEq, Value.string.injEq, Value.slice.injEq, true_and, and_true] at e
  obtain ⟨-, -, rfl, rfl, rfl, rfl, rfl⟩ := e
  exact ⟨a, c, rfl, h1, h2, h3, h4⟩
theorem rz_kd {F : Nat → Prop} {w : World} {m : Nat} {t : Dt.Tr (m + 1)} {k i u : Int} {s : ByteArray} {a : Option Addr} {n c : Nat} (h : Rz F w (m + 1) [.int .i64 k, .int .i64 i, .int .u64 u, .string s, .slice a n c] t) : k = t.kd ∧ i = t.it ∧ u = t.ut ∧ s = t.tx ∧ n = t.ks.length ∧ s.size ≤ maxLen ∧ c ≤ maxLen := by
  obtain ⟨ad, cap, e, h1, h2, h3, h4⟩ := h
  simp only [List.cons.injEq, Value.int.injEq, Value.string.injEq, Value.slice.injEq, true_and, and_true] at e
  obtain ⟨rfl, rfl, rfl, rfl, rfl, rfl, rfl⟩ := e
  exact ⟨rfl, rfl, rfl, rfl, rfl, h1, h3⟩

set_option maxRecDepth 100000 in
set_option maxHeartbeats 1000000 in
theorem key_any (tp : ByteArray) (k i u : Int) (s : ByteArray) (a : Option Addr) (n c : Nat) {m : Nat} (t : Dt.Tr (m + 1)) (w : World) (D : Nat → Prop) (hD : ∀ g, D g → g < w.heap.size) (hr : Rz D w (m + 1) [.int .i64 k, .int .i64 i, .int .u64 u, .string s, .slice a n c] t) : Calls Tryz.prog 65 #[.string tp, .agg #[.int .i64 k, .int .i64 i, .int .u64 u, .string s, .slice a n c]] w (GR D (good (kyT t)) w) := by
  have HK := Lib.hid (keyKind_any k)
  have HR := Lib.hid hr
  have HD := Lib.hid hD
  clear hr hD
  have B0 := below2 w (.cells #[.int .i64 (kyK k), .int .i64 i, .int .u64 u, .string s, .slice a n c] 25) (.cells (rErr 0 0 0 0) 33)
  have R0 := Bk.new2 w (.cells #[.int .i64 (kyK k), .int .i64 i, .int .u64 u, .string s, .slice a n c] 25) (rErr 0 0 0 0) 33
  go_enter Tryz.func65, Tryz.ntmps65
  go_wp2_with fail
  refine (HK.out _).mono ?_
  rintro e w1 ⟨rfl, hw⟩
  subst hw
  go_wp2_with fail
  refine (told_ok (kyK k) i u s a n c _).mono ?_
  rintro e w2 ⟨rfl, b2⟩
  have r2 := R0.step b2
  have B2 := B0.trans (b2.mono B0.size)
  obtain ⟨c0, c1, c2, c3, c4, c5, c6, c7, c8, c9⟩ := r2.c10
  have z2 := r2.f
  go_wp2_with fail
  obtain ⟨k1, k2, k3, k4⟩ := set10 r2 (.int .i64 0) (.int .i64 0) (.int .i64 0) (.int .i64 0) (.bool true) (.int .i64 (kyK k)) (.int .i64 i) (.int .u64 u) (.string s) (.slice a n c) rfl
  have KF := B2.trans (k4.mono (by omega))
  obtain ⟨q0, q1, q2, q3, q4, q5, q6, q7, q8, q9⟩ := k1.c10
  refine bodyPost_ret (v := .agg (rcs 0 0 0 0 true (kyK k) i u s a n c)) ?_ rfl ⟨kyK k, i, u, s, a, n, c, rfl, ?hz, KF⟩
  case hz =>
    have e := rz_kd HR.out
    have hk : kyT t = nd (kyK k) i t.ut t.tx t.ks := by unfold kyT; rw [← e.1, ← e.2.1]
    show Rz _ _ (m + 1) _ (kyT t)
    rw [hk]
    exact rz_like (rz_below HD.out KF HR.out) (kyK k) i
  simp [results, Tryz.results65, go_sem, q0, q1, q2, q3, q4, q5, q6, q7, q8, q9]

set_option maxRecDepth 100000 in
set_option maxHeartbeats 1000000 in
theorem list_yes (tp : ByteArray) (k i u : Int) (s : ByteArray) (a : Option Addr) (n c : Nat) {m : Nat} (t : Dt.Tr (m + 1)) (w : World) (D : Nat → Prop) (hD : ∀ g, D g → g < w.heap.size) (hr : Rz D w (m + 1) [.int .i64 k, .int .i64 i, .int .u64 u, .string s, .slice a n c] t) (hT : Dt.Tab14 w) (hv : Dt.vB _ (lsT t) = true) : Calls Tryz.prog 53 #[.string tp, .agg #[.int .i64 k, .int .i64 i, .int .u64 u, .string s, .slice a n c]] w (GR D (good (lsT t)) w) := by
  have HR := Lib.hid hr
  have HD := Lib.hid hD
  have B1 : Below w.heap.size w (((w.alloc (.cells #[.int .i64 k, .int .i64 i, .int .u64 u, .string s, .slice a n c] 25)).alloc (.cells (rErr 0 0 0 0) 33)).alloc (.cells #[.int .i64 k, .int .i64 i, .int .u64 u, .string s, .slice a n c] 25)) := (below2 w _ _).trans ((below1 _ _).mono (by simp; omega))
  have R1 : Bk (((w.alloc (.cells #[.int .i64 k, .int .i64 i, .int .u64 u, .string s, .slice a n c] 25)).alloc (.cells (rErr 0 0 0 0) 33)).alloc (.cells #[.int .i64 k, .int .i64 i, .int .u64 u, .string s, .slice a n c] 25)) (w.heap.size + 1) (rErr 0 0 0 0) 33 := (Bk.new2 w _ _ _).alloc _
  have N1 : Bk (((w.alloc (.cells #[.int .i64 k, .int .i64 i, .int .u64 u, .string s, .slice a n c] 25)).alloc (.cells (rErr 0 0 0 0) 33)).alloc (.cells #[.int .i64 k, .int .i64 i, .int .u64 u, .string s, .slice a n c] 25)) (w.heap.size + 1 + 1) #[.int .i64 k, .int .i64 i, .int .u64 u, .string s, .slice a n c] 25 := by
    have := Bk.new ((w.alloc (.cells #[.int .i64 k, .int .i64 i, .int .u64 u, .string s, .slice a n c] 25)).alloc (.cells (rErr 0 0 0 0) 33)) #[.int .i64 k, .int .i64 i, .int .u64 u, .string s, .slice a n c] 25
    rwa [World.size_alloc, World.size_alloc] at this
  have HA := Lib.hid (around_yes 8 0 0 ⟨#[]⟩ (some ⟨w.heap.size + 1 + 1, 0, none⟩) 1 1 (lsT t) _ (Rz.rep _ _ _ (rz_of_cells k i u s a n c (rz_below hD B1 hr) (.inr ⟨by omega, N1.lt⟩) N1)) (hT.below B1) hv)
  clear hr hD hT hv
  go_enter Tryz.func53, Tryz.ntmps53
  go_wp2_with fail
  refine HA.out.mono ?_
  rintro e w2 ⟨rfl, b2⟩
  have r2 := R1.step b2
  have B2 := B1.trans (b2.mono B1.size)
  obtain ⟨c0, c1, c2, c3, c4, c5, c6, c7, c8, c9⟩ := r2.c10
  have z2 := r2.f
  go_wp2_with fail
  obtain ⟨k1, k2, k3, k4⟩ := set10 r2 (.int .i64 0) (.int .i64 0) (.int .i64 0) (.int .i64 0) (.bool true) (.int .i64 8) (.int .i64 0) (.int .u64 0) (.string ⟨#[]⟩) (.slice (some ⟨w.heap.size + 1 + 1, 0, none⟩) 1 1) rfl
  have KF := B2.trans (k4.mono (by omega))
  obtain ⟨q0, q1, q2, q3, q4, q5, q6, q7, q8, q9⟩ := k1.c10
  refine bodyPost_ret (v := .agg (rcs 0 0 0 0 true 8 0 0 ⟨#[]⟩ (some ⟨w.heap.size + 1 + 1, 0, none⟩) 1 1)) ?_ rfl ⟨8, 0, 0, ⟨#[]⟩, some ⟨w.heap.size + 1 + 1, 0, none⟩, 1, 1, rfl, ?hz, KF⟩
  case hz =>
    have N2 : Bk _ (w.heap.size + 1 + 1) #[.int .i64 k, .int .i64 i, .int .u64 u, .string s, .slice a n c] 25 := (k3 (w.heap.size + 1 + 1) (by omega)).trans (N1.step b2)
    exact rz_of_cells k i u s a n c (rz_below HD.out KF HR.out) (.inr ⟨by omega, N2.lt⟩) N2
  simp [results, Tryz.results53, go_sem, q0, q1, q2, q3, q4, q5, q6, q7, q8, q9]

set_option maxRecDepth 100000 in
set_option maxHeartbeats 1000000 in
theorem list_no (tp : ByteArray) (k i u : Int) (s : ByteArray) (a : Option Addr) (n c : Nat) {m : Nat} (t : Dt.Tr (m + 1)) (w : World) (D : Nat → Prop) (hD : ∀ g, D g → g < w.heap.size) (hr : Rz D w (m + 1) [.int .i64 k, .int .i64 i, .int .u64 u, .string s, .slice a n c] t) (hT : Dt.Tab14 w) (hv : Dt.vB _ (lsT t) = false) : Calls Tryz.prog 53 #[.string tp, .agg #[.int .i64 k, .int .i64 i, .int .u64 u, .string s, .slice a n c]] w (GR D (bad 14 0 0) w) := by
  have HR := Lib.hid hr
  have HD := Lib.hid hD
  have B1 : Below w.heap.size w (((w.alloc (.cells #[.int .i64 k, .int .i64 i, .int .u64 u, .string s, .slice a n c] 25)).alloc (.cells (rErr 0 0 0 0) 33)).alloc (.cells #[.int .i64 k, .int .i64 i, .int .u64 u, .string s, .slice a n c] 25)) := (below2 w _ _).trans ((below1 _ _).mono (by simp; omega))
  have R1 : Bk (((w.alloc (.cells #[.int .i64 k, .int .i64 i, .int .u64 u, .string s, .slice a n c] 25)).alloc (.cells (rErr 0 0 0 0) 33)).alloc (.cells #[.int .i64 k, .int .i64 i, .int .u64 u, .string s, .slice a n c] 25)) (w.heap.size + 1) (rErr 0 0 0 0) 33 := (Bk.new2 w _ _ _).alloc _
  have N1 : Bk (((w.alloc (.cells #[.int .i64 k, .int .i64 i, .int .u64 u, .string s, .slice a n c] 25)).alloc (.cells (rErr 0 0 0 0) 33)).alloc (.cells #[.int .i64 k, .int .i64 i, .int .u64 u, .string s, .slice a n c] 25)) (w.heap.size + 1 + 1) #[.int .i64 k, .int .i64 i, .int .u64 u, .string s, .slice a n c] 25 := by
    have := Bk.new ((w.alloc (.cells #[.int .i64 k, .int .i64 i, .int .u64 u, .string s, .slice a n c] 25)).alloc (.cells (rErr 0 0 0 0) 33)) #[.int .i64 k, .int .i64 i, .int .u64 u, .string s, .slice a n c] 25
    rwa [World.size_alloc, World.size_alloc] at this
  have HA := Lib.hid (around_no 8 0 0 ⟨#[]⟩ (some ⟨w.heap.size + 1 + 1, 0, none⟩) 1 1 (lsT t) _ (Rz.rep _ _ _ (rz_of_cells k i u s a n c (rz_below hD B1 hr) (.inr ⟨by omega, N1.lt⟩) N1)) (hT.below B1) hv)
  clear hr hD hT hv
  go_enter Tryz.func53, Tryz.ntmps53
  go_wp2_with fail
  refine HA.out.mono ?_
  rintro e w2 ⟨rfl, b2⟩
  have r2 := R1.step b2
  have B2 := B1.trans (b2.mono B1.size)
  obtain ⟨c0, c1, c2, c3, c4, c5, c6, c7, c8, c9⟩ := r2.c10
  have z2 := r2.f
  go_wp2_with fail
  obtain ⟨k1, k2, k3, k4⟩ := set10 r2 (.int .i64 14) (.int .i64 0) (.int .i64 0) (.int .i64 0) (.bool false) (.int .i64 0) (.int .i64 0) (.int .u64 0) (.string ⟨#[]⟩) (.slice none 0 0) rfl
  have KF := B2.trans (k4.mono (by omega))
  obtain ⟨q0, q1, q2, q3, q4, q5, q6, q7, q8, q9⟩ := k1.c10
  refine bodyPost_ret (v := .agg (rcs 14 0 0 0 false 0 0 0 ⟨#[]⟩ none 0 0)) ?_ rfl (gr_bad ⟨rfl, KF⟩)
  simp [results, Tryz.results53, go_sem, q0, q1, q2, q3, q4, q5, q6, q7, q8, q9]

set_option maxRecDepth 100000 in
set_option maxHeartbeats 1000000 in
theorem pair_yes (tp : ByteArray) (htp : tp.size ≤ maxLen) (k i u : Int) (s : ByteArray) (a : Option Addr) (n c : Nat) {m : Nat} (t : Dt.Tr (m + 1)) (w : World) (D : Nat → Prop) (hD : ∀ g, D g → g < w.heap.size) (hr : Rz D w (m + 1) [.int .i64 k, .int .i64 i, .int .u64 u, .string s, .slice a n c] t) (hT : Dt.Tab14 w) (hv : Dt.vB _ (prT tp t) = true) : Calls Tryz.prog 63 #[.string tp, .agg #[.int .i64 k, .int .i64 i, .int .u64 u, .string s, .slice a n c]] w (GR D (good (prT tp t)) w) := by
  have HR := Lib.hid hr
  have HD := Lib.hid hD
  have B1 : Below w.heap.size w (((w.alloc (.cells #[.int .i64 k, .int .i64 i, .int .u64 u, .string s, .slice a n c] 25)).alloc (.cells (rErr 0 0 0 0) 33)).alloc (.cells (CS10 tp k i u s a n c) 25)) := (below2 w _ _).trans ((below1 _ _).mono (by simp; omega))
  have R1 : Bk (((w.alloc (.cells #[.int .i64 k, .int .i64 i, .int .u64 u, .string s, .slice a n c] 25)).alloc (.cells (rErr 0 0 0 0) 33)).alloc (.cells (CS10 tp k i u s a n c) 25)) (w.heap.size + 1) (rErr 0 0 0 0) 33 := (Bk.new2 w _ _ _).alloc _
  have N1 : Bk (((w.alloc (.cells #[.int .i64 k, .int .i64 i, .int .u64 u, .string s, .slice a n c] 25)).alloc (.cells (rErr 0 0 0 0) 33)).alloc (.cells (CS10 tp k i u s a n c) 25)) (w.heap.size + 1 + 1) (CS10 tp k i u s a n c) 25 := by
    have := Bk.new ((w.alloc (.cells #[.int .i64 k, .int .i64 i, .int .u64 u, .string s, .slice a n c] 25)).alloc (.cells (rErr 0 0 0 0) 33)) (CS10 tp k i u s a n c) 25
    rwa [World.size_alloc, World.size_alloc] at this
  have HA := Lib.hid (around_yes 9 0 0 ⟨#[]⟩ (some ⟨w.heap.size + 1 + 1, 0, none⟩) 2 2 (prT tp t) _ (Rz.rep _ _ _ (rz_of_pair tp htp k i u s a n c (rz_below hD B1 hr) (.inr ⟨by omega, N1.lt⟩) N1)) (hT.below B1) hv)
  clear hr hD hT hv
  go_enter Tryz.func63, Tryz.ntmps63
  go_wp2_with fail
  refine HA.out.mono ?_
  rintro e w2 ⟨rfl, b2⟩
  have r2 := R1.step b2
  have B2 := B1.trans (b2.mono B1.size)
  obtain ⟨c0, c1, c2, c3, c4, c5, c6, c7, c8, c9⟩ := r2.c10
  have z2 := r2.f
  go_wp2_with fail
  obtain ⟨k1, k2, k3, k4⟩ := set10 r2 (.int .i64 0) (.int .i64 0) (.int .i64 0) (.int .i64 0) (.bool true) (.int .i64 9) (.int .i64 0) (.int .u64 0) (.string ⟨#[]⟩) (.slice (some ⟨w.heap.size + 1 + 1, 0, none⟩) 2 2) rfl
  have KF := B2.trans (k4.mono (by omega))
  obtain ⟨q0, q1, q2, q3, q4, q5, q6, q7, q8, q9⟩ := k1.c10
  refine bodyPost_ret (v := .agg (rcs 0 0 0 0 true 9 0 0 ⟨#[]⟩ (some ⟨w.heap.size + 1 + 1, 0, none⟩) 2 2)) ?_ rfl ⟨9, 0, 0, ⟨#[]⟩, some ⟨w.heap.size + 1 + 1, 0, none⟩, 2, 2, rfl, ?hz, KF⟩
  case hz =>
    have N2 : Bk _ (w.heap.size + 1 + 1) (CS10 tp k i u s a n c) 25 := (k3 (w.heap.size + 1 + 1) (by omega)).trans (N1.step b2)
    exact rz_of_pair tp htp k i u s a n c (rz_below HD.out KF HR.out) (.inr ⟨by omega, N2.lt⟩) N2
  simp [results, Tryz.results63, go_sem, q0, q1, q2, q3, q4, q5, q6, q7, q8, q9]

set_option maxRecDepth 100000 in
set_option maxHeartbeats 1000000 in
theorem pair_no (tp : ByteArray) (htp : tp.size ≤ maxLen) (k i u : Int) (s : ByteArray) (a : Option Addr) (n c : Nat) {m : Nat} (t : Dt.Tr (m + 1)) (w : World) (D : Nat → Prop) (hD : ∀ g, D g → g < w.heap.size) (hr : Rz D w (m + 1) [.int .i64 k, .int .i64 i, .int .u64 u, .string s, .slice a n c] t) (hT : Dt.Tab14 w) (hv : Dt.vB _ (prT tp t) = false) : Calls Tryz.prog 63 #[.string tp, .agg #[.int .i64 k, .int .i64 i, .int .u64 u, .string s, .slice a n c]] w (GR D (bad 14 0 0) w) := by
  have HR := Lib.hid hr
  have HD := Lib.hid hD
  have B1 : Below w.heap.size w (((w.alloc (.cells #[.int .i64 k, .int .i64 i, .int .u64 u, .string s, .slice a n c] 25)).alloc (.cells (rErr 0 0 0 0) 33)).alloc (.cells (CS10 tp k i u s a n c) 25)) := (below2 w _ _).trans ((below1 _ _).mono (by simp; omega))
  have R1 : Bk (((w.alloc (.cells #[.int .i64 k, .int .i64 i, .int .u64 u, .string s, .slice a n c] 25)).alloc (.cells (rErr 0 0 0 0) 33)).alloc (.cells (CS10 tp k i u s a n c) 25)) (w.heap.size + 1) (rErr 0 0 0 0) 33 := (Bk.new2 w _ _ _).alloc _
  have N1 : Bk (((w.alloc (.cells #[.int .i64 k, .int .i64 i, .int .u64 u, .string s, .slice a n c] 25)).alloc (.cells (rErr 0 0 0 0) 33)).alloc (.cells (CS10 tp k i u s a n c) 25)) (w.heap.size + 1 + 1) (CS10 tp k i u s a n c) 25 := by
    have := Bk.new ((w.alloc (.cells #[.int .i64 k, .int .i64 i, .int .u64 u, .string s, .slice a n c] 25)).alloc (.cells (rErr 0 0 0 0) 33)) (CS10 tp k i u s a n c) 25
    rwa [World.size_alloc, World.size_alloc] at this
  have HA := Lib.hid (around_no 9 0 0 ⟨#[]⟩ (some ⟨w.heap.size + 1 + 1, 0, none⟩) 2 2 (prT tp t) _ (Rz.rep _ _ _ (rz_of_pair tp htp k i u s a n c (rz_below hD B1 hr) (.inr ⟨by omega, N1.lt⟩) N1)) (hT.below B1) hv)
  clear hr hD hT hv
  go_enter Tryz.func63, Tryz.ntmps63
  go_wp2_with fail
  refine HA.out.mono ?_
  rintro e w2 ⟨rfl, b2⟩
  have r2 := R1.step b2
  have B2 := B1.trans (b2.mono B1.size)
  obtain ⟨c0, c1, c2, c3, c4, c5, c6, c7, c8, c9⟩ := r2.c10
  have z2 := r2.f
  go_wp2_with fail
  obtain ⟨k1, k2, k3, k4⟩ := set10 r2 (.int .i64 14) (.int .i64 0) (.int .i64 0) (.int .i64 0) (.bool false) (.int .i64 0) (.int .i64 0) (.int .u64 0) (.string ⟨#[]⟩) (.slice none 0 0) rfl
  have KF := B2.trans (k4.mono (by omega))
  obtain ⟨q0, q1, q2, q3, q4, q5, q6, q7, q8, q9⟩ := k1.c10
  refine bodyPost_ret (v := .agg (rcs 14 0 0 0 false 0 0 0 ⟨#[]⟩ none 0 0)) ?_ rfl (gr_bad ⟨rfl, KF⟩)
  simp [results, Tryz.results63, go_sem, q0, q1, q2, q3, q4, q5, q6, q7, q8, q9]

end Go.Proofs.YtajagjcfmaggiaaGreatDoor
/- The package's maps open, size, not, double; the conditions: the value in memory, valid. -/
namespace Go.Proofs.YtajagjcfmaggiaaGreatDoor
open Go.RowKit

theorem rz_leaf {F : Nat → Prop} {w w' : World} {m : Nat} {t : Dt.Tr (m + 1)} {cs : List Value} (hk : t.ks = []) (h : Dt.Rep w (m + 1) cs t) : Rz F w' (m + 1) cs t := by
  obtain ⟨ad, cap, e, h1, h2, h3, -⟩ := h
  exact ⟨ad, cap, e, h1, h2, h3, .inl hk⟩

set_option maxRecDepth 100000 in
set_option maxHeartbeats 1000000 in
theorem open_by (tp : ByteArray) (k i u : Int) (s : ByteArray) (a : Option Addr) (n c : Nat) (w : World) (D : Nat → Prop) (er pk pn : Int) (has : Bool) (m : Nat) (t : Dt.Tr m) (hT : ∀ wx, Below w.heap.size w wx → Calls Tryz.prog 77 #[.agg (acs 5 k i u s a n c 0 0 0 ⟨#[]⟩ none 0 0 0)] wx (GP er pk pn has m t wx)) : Calls Tryz.prog 55 #[.string tp, .agg #[.int .i64 k, .int .i64 i, .int .u64 u, .string s, .slice a n c]] w (GR D ⟨er, pk, pn, has, m, t⟩ w) := by
  have HT := Lib.hid hT
  clear hT
  have B0 := below2 w (.cells #[.int .i64 k, .int .i64 i, .int .u64 u, .string s, .slice a n c] 25) (.cells (rErr 0 0 0 0) 33)
  have D0 : Bk ((w.alloc (.cells #[.int .i64 k, .int .i64 i, .int .u64 u, .string s, .slice a n c] 25)).alloc (.cells (rErr 0 0 0 0) 33)) w.heap.size #[.int .i64 k, .int .i64 i, .int .u64 u, .string s, .slice a n c] 25 := (Bk.new w _ _).alloc _
  have R0 := Bk.new2 w (.cells #[.int .i64 k, .int .i64 i, .int .u64 u, .string s, .slice a n c] 25) (rErr 0 0 0 0) 33
  go_enter Tryz.func55, Tryz.ntmps55
  go_wp2_with fail
  refine (HT.out _ B0).mono ?_
  rintro e w2 ⟨k', i', u', s', a', n', c', rfl, rf, b2⟩
  have RF := Lib.hid rf
  clear rf
  have r2 := R0.step b2
  have B2 := B0.trans (b2.mono B0.size)
  obtain ⟨c0, c1, c2, c3, c4, c5, c6, c7, c8, c9⟩ := r2.c10
  have z2 := r2.f
  go_wp2_with fail
  obtain ⟨k1, k2, k3, k4⟩ := set10 r2 (.int .i64 er) (.int .i64 0) (.int .i64 pk) (.int .i64 pn) (.bool has) (.int .i64 k') (.int .i64 i') (.int .u64 u') (.string s') (.slice a' n' c') rfl
  have KF := B2.trans (k4.mono (by omega))
  obtain ⟨q0, q1, q2, q3, q4, q5, q6, q7, q8, q9⟩ := k1.c10
  refine bodyPost_ret (v := .agg (rcs er 0 pk pn has k' i' u' s' a' n' c')) ?_ rfl ⟨k', i', u', s', a', n', c', rfl, ?hz, KF⟩
  case hz =>
    exact Rz.to (fun g hg => by
      have hg1 : w.heap.size + 1 + 1 ≤ g := by simpa using hg.1
      exact ⟨.inr ⟨by omega, by have := hg.2; omega⟩, k3 g (by omega)⟩) _ _ _ (Rz.of_rf _ _ _ RF.out)
  simp [results, Tryz.results55, go_sem, q0, q1, q2, q3, q4, q5, q6, q7, q8, q9]

set_option maxRecDepth 100000 in
set_option maxHeartbeats 1000000 in
theorem size_by (tp : ByteArray) (k i u : Int) (s : ByteArray) (a : Option Addr) (n c : Nat) (w : World) (D : Nat → Prop) (er pk pn : Int) (has : Bool) (m : Nat) (t : Dt.Tr m) (hT : ∀ wx, Below w.heap.size w wx → Calls Tryz.prog 77 #[.agg (acs 10 k i u s a n c 0 0 0 ⟨#[]⟩ none 0 0 0)] wx (GP er pk pn has m t wx)) : Calls Tryz.prog 57 #[.string tp, .agg #[.int .i64 k, .int .i64 i, .int .u64 u, .string s, .slice a n c]] w (GR D ⟨er, pk, pn, has, m, t⟩ w) := by
  have HT := Lib.hid hT
  clear hT
  have B0 := below2 w (.cells #[.int .i64 k, .int .i64 i, .int .u64 u, .string s, .slice a n c] 25) (.cells (rErr 0 0 0 0) 33)
  have D0 : Bk ((w.alloc (.cells #[.int .i64 k, .int .i64 i, .int .u64 u, .string s, .slice a n c] 25)).alloc (.cells (rErr 0 0 0 0) 33)) w.heap.size #[.int .i64 k, .int .i64 i, .int .u64 u, .string s, .slice a n c] 25 := (Bk.new w _ _).alloc _
  have R0 := Bk.new2 w (.cells #[.int .i64 k, .int .i64 i, .int .u64 u, .string s, .slice a n c] 25) (rErr 0 0 0 0) 33
  go_enter Tryz.func57, Tryz.ntmps57
  go_wp2_with fail
  refine (HT.out _ B0).mono ?_
  rintro e w2 ⟨k', i', u', s', a', n', c', rfl, rf, b2⟩
  have RF := Lib.hid rf
  clear rf
  have r2 := R0.step b2
  have B2 := B0.trans (b2.mono B0.size)
  obtain ⟨c0, c1, c2, c3, c4, c5, c6, c7, c8, c9⟩ := r2.c10
  have z2 := r2.f
  go_wp2_with fail
  obtain ⟨k1, k2, k3, k4⟩ := set10 r2 (.int .i64 er) (.int .i64 0) (.int .i64 pk) (.int .i64 pn) (.bool has) (.int .i64 k') (.int .i64 i') (.int .u64 u') (.string s') (.slice a' n' c') rfl
  have KF := B2.trans (k4.mono (by omega))
  obtain ⟨q0, q1, q2, q3, q4, q5, q6, q7, q8, q9⟩ := k1.c10
  refine bodyPost_ret (v := .agg (rcs er 0 pk pn has k' i' u' s' a' n' c')) ?_ rfl ⟨k', i', u', s', a', n', c', rfl, ?hz, KF⟩
  case hz =>
    exact Rz.to (fun g hg => by
      have hg1 : w.heap.size + 1 + 1 ≤ g := by simpa using hg.1
      exact ⟨.inr ⟨by omega, by have := hg.2; omega⟩, k3 g (by omega)⟩) _ _ _ (Rz.of_rf _ _ _ RF.out)
  simp [results, Tryz.results57, go_sem, q0, q1, q2, q3, q4, q5, q6, q7, q8, q9]

theorem not_end {D : Nat → Prop} {m : Nat} {t : Dt.Tr (m + 1)} {w w2 W : World} {o : Obj} {k' i' u' : Int} {s' : ByteArray} {a' : Option Addr} {n' c' : Nat} {o1 o2 : Obj} (hk : t.kd = 6) (rf : Dt.Rf (fun g => ((w.alloc o1).alloc o2).heap.size ≤ g ∧ g < w2.heap.size) w2 (m + 1) [.int .i64 k', .int .i64 i', .int .u64 u', .string s', .slice a' n' c'] t) (k2 : W.heap.size = w2.heap.size) (k3 : ∀ g, g ≠ w.heap.size + 1 → W.heap[g]? = w2.heap[g]?) (KF : Below w.heap.size w (W.alloc o)) :
    GR D (good (nd 6 (wrap64 (1 - t.it)) t.ut t.tx t.ks)) w (.returned (.agg (rcs 0 0 0 0 true k' (wrap64 (1 - i')) u' s' a' n' c'))) (W.alloc o) := by
  have q := Rz.to (F' := fun g => D g ∨ (w.heap.size ≤ g ∧ g < (W.alloc o).heap.size)) (w' := W.alloc o) (fun g hg => by
    have hg1 : w.heap.size + 1 + 1 ≤ g := by simpa using hg.1
    have hg2 := hg.2
    exact ⟨.inr ⟨by omega, by rw [World.size_alloc, k2]; omega⟩, ((below1 _ _).block g (by rw [k2]; exact hg2)).trans (k3 g (by omega))⟩) _ _ _ (Rz.of_rf _ _ _ rf)
  have e := rz_kd q
  have z := rz_like q k' (wrap64 (1 - i'))
  rw [hk] at e
  obtain ⟨rfl, rfl, -⟩ := e
  exact ⟨_, _, _, _, _, _, _, rfl, z, KF⟩

set_option maxRecDepth 100000 in
set_option maxHeartbeats 1000000 in
theorem not_yes (tp : ByteArray) (k i u : Int) (s : ByteArray) (a : Option Addr) (n c : Nat) {m : Nat} (t : Dt.Tr (m + 1)) (w : World) (D : Nat → Prop) (hk : t.kd = 6) (hT : ∀ wx, Below w.heap.size w wx → Calls Tryz.prog 77 #[.agg (acs 2 k i u s a n c 0 0 0 ⟨#[]⟩ none 0 0 6)] wx (GP 0 0 0 true (m + 1) t wx)) : Calls Tryz.prog 61 #[.string tp, .agg #[.int .i64 k, .int .i64 i, .int .u64 u, .string s, .slice a n c]] w (GR D (good (nd 6 (wrap64 (1 - t.it)) t.ut t.tx t.ks)) w) := by
  have HT := Lib.hid hT
  have HK := Lib.hid hk
  clear hT hk
  have B0 := below2 w (.cells #[.int .i64 k, .int .i64 i, .int .u64 u, .string s, .slice a n c] 25) (.cells (rErr 0 0 0 0) 33)
  have D0 : Bk ((w.alloc (.cells #[.int .i64 k, .int .i64 i, .int .u64 u, .string s, .slice a n c] 25)).alloc (.cells (rErr 0 0 0 0) 33)) w.heap.size #[.int .i64 k, .int .i64 i, .int .u64 u, .string s, .slice a n c] 25 := (Bk.new w _ _).alloc _
  have R0 := Bk.new2 w (.cells #[.int .i64 k, .int .i64 i, .int .u64 u, .string s, .slice a n c] 25) (rErr 0 0 0 0) 33
  go_enter Tryz.func61, Tryz.ntmps61
  go_wp2_with fail
  refine (HT.out _ B0).mono ?_
  rintro e w2 ⟨k', i', u', s', a', n', c', rfl, rf, b2⟩
  have RF := Lib.hid rf
  clear rf
  have R1 := R0.step b2
  have B1 := B0.trans (b2.mono B0.size)
  obtain ⟨c0, c1, c2, c3, c4, c5, c6, c7, c8, c9⟩ := R1.c10
  have z2 := R1.f
  have hlt := R1.lt
  go_wp2_with fail
  obtain ⟨k1, k2, k3, k4⟩ := set10 R1 (.int .i64 0) (.int .i64 0) (.int .i64 0) (.int .i64 0) (.bool true) (.int .i64 k') (.int .i64 (wrap64 (1 - i'))) (.int .u64 u') (.string s') (.slice a' n' c') rfl
  have KE := B1.trans (k4.mono (by omega))
  have KF := KE.trans ((below1 _ (.cells #[.int .i64 0, .int .i64 0, .int .i64 0, .int .i64 0, .bool true, .int .i64 k', .int .i64 (wrap64 (1 - i')), .int .u64 u', .string s', .slice a' n' c'] 33)).mono KE.size)
  have k5 := k1.alloc (.cells #[.int .i64 0, .int .i64 0, .int .i64 0, .int .i64 0, .bool true, .int .i64 k', .int .i64 (wrap64 (1 - i')), .int .u64 u', .string s', .slice a' n' c'] 33)
  obtain ⟨q0, q1, q2, q3, q4, q5, q6, q7, q8, q9⟩ := k5.c10
  refine bodyPost_ret (v := .agg (rcs 0 0 0 0 true k' (wrap64 (1 - i')) u' s' a' n' c')) ?_ rfl (not_end HK.out RF.out k2 k3 KF)
  simp [results, Tryz.results61, go_sem, q0, q1, q2, q3, q4, q5, q6, q7, q8, q9]

set_option maxRecDepth 100000 in
set_option maxHeartbeats 1000000 in
theorem not_no (tp : ByteArray) (k i u : Int) (s : ByteArray) (a : Option Addr) (n c : Nat) (w : World) (D : Nat → Prop) (pn : Int) (hT : ∀ wx, Below w.heap.size w wx → Calls Tryz.prog 77 #[.agg (acs 2 k i u s a n c 0 0 0 ⟨#[]⟩ none 0 0 6)] wx (GP 110 2 pn false 1 (lfT 0 0) wx)) : Calls Tryz.prog 61 #[.string tp, .agg #[.int .i64 k, .int .i64 i, .int .u64 u, .string s, .slice a n c]] w (GR D (bad 110 2 pn) w) := by
  have HT := Lib.hid hT
  clear hT
  have B0 := below2 w (.cells #[.int .i64 k, .int .i64 i, .int .u64 u, .string s, .slice a n c] 25) (.cells (rErr 0 0 0 0) 33)
  have D0 : Bk ((w.alloc (.cells #[.int .i64 k, .int .i64 i, .int .u64 u, .string s, .slice a n c] 25)).alloc (.cells (rErr 0 0 0 0) 33)) w.heap.size #[.int .i64 k, .int .i64 i, .int .u64 u, .string s, .slice a n c] 25 := (Bk.new w _ _).alloc _
  have R0 := Bk.new2 w (.cells #[.int .i64 k, .int .i64 i, .int .u64 u, .string s, .slice a n c] 25) (rErr 0 0 0 0) 33
  go_enter Tryz.func61, Tryz.ntmps61
  go_wp2_with fail
  refine (HT.out _ B0).mono ?_
  rintro e w2 ⟨k', i', u', s', a', n', c', rfl, rf, b2⟩
  obtain ⟨e1, e2, e3, e4, e5, -⟩ := rz_kd (Rz.of_rf _ _ _ rf)
  obtain rfl : k' = 0 := e1
  obtain rfl : i' = 0 := e2
  obtain rfl : u' = 0 := e3
  obtain rfl : s' = ⟨#[]⟩ := e4
  obtain rfl : n' = 0 := e5
  have RF := Lib.hid rf
  clear rf
  have R1 := R0.step b2
  have B1 := B0.trans (b2.mono B0.size)
  obtain ⟨c0, c1, c2, c3, c4, c5, c6, c7, c8, c9⟩ := R1.c10
  have z2 := R1.f
  have hlt := R1.lt
  go_wp2_with fail
  obtain ⟨k1, k2, k3, k4⟩ := set10 R1 (.int .i64 110) (.int .i64 0) (.int .i64 2) (.int .i64 pn) (.bool false) (.int .i64 0) (.int .i64 0) (.int .u64 0) (.string ⟨#[]⟩) (.slice a' 0 c') rfl
  have KE := B1.trans (k4.mono (by omega))
  have KF := KE.trans ((below1 _ (.cells (rcs 110 0 2 pn false 0 0 0 ⟨#[]⟩ a' 0 c') 33)).mono KE.size)
  have k5 := k1.alloc (.cells (rcs 110 0 2 pn false 0 0 0 ⟨#[]⟩ a' 0 c') 33)
  obtain ⟨q0, q1, q2, q3, q4, q5, q6, q7, q8, q9⟩ := k5.c10
  refine bodyPost_ret (v := .agg (rcs 110 0 2 pn false 0 0 0 ⟨#[]⟩ a' 0 c')) ?_ rfl ⟨0, 0, 0, ⟨#[]⟩, a', 0, c', rfl, ⟨a', c', rfl, Nat.zero_le _, Nat.zero_le _, (rz_kd (Rz.of_rf _ _ _ RF.out)).2.2.2.2.2.2, .inl rfl⟩, KF⟩
  simp [results, Tryz.results61, go_sem, q0, q1, q2, q3, q4, q5, q6, q7, q8, q9]

set_option maxRecDepth 100000 in
set_option maxHeartbeats 1000000 in
theorem double_no (tp : ByteArray) (k i u : Int) (s : ByteArray) (a : Option Addr) (n c : Nat) (w : World) (D : Nat → Prop) (pn : Int) (hT : ∀ wx, Below w.heap.size w wx → Calls Tryz.prog 77 #[.agg (acs 3 k i u s a n c 0 0 0 ⟨#[]⟩ none 0 0 5)] wx (GP 110 2 pn false 1 (lfT 0 0) wx)) : Calls Tryz.prog 51 #[.string tp, .agg #[.int .i64 k, .int .i64 i, .int .u64 u, .string s, .slice a n c]] w (GR D (bad 110 2 pn) w) := by
  have HT := Lib.hid hT
  clear hT
  have B0 := below2 w (.cells #[.int .i64 k, .int .i64 i, .int .u64 u, .string s, .slice a n c] 25) (.cells (rErr 0 0 0 0) 33)
  have D0 : Bk ((w.alloc (.cells #[.int .i64 k, .int .i64 i, .int .u64 u, .string s, .slice a n c] 25)).alloc (.cells (rErr 0 0 0 0) 33)) w.heap.size #[.int .i64 k, .int .i64 i, .int .u64 u, .string s, .slice a n c] 25 := (Bk.new w _ _).alloc _
  have R0 := Bk.new2 w (.cells #[.int .i64 k, .int .i64 i, .int .u64 u, .string s, .slice a n c] 25) (rErr 0 0 0 0) 33
  go_enter Tryz.func51, Tryz.ntmps51
  go_wp2_with fail
  refine (HT.out _ B0).mono ?_
  rintro e w2 ⟨k', i', u', s', a', n', c', rfl, rf, b2⟩
  obtain ⟨e1, e2, e3, e4, e5, -⟩ := rz_kd (Rz.of_rf _ _ _ rf)
  obtain rfl : k' = 0 := e1
  obtain rfl : i' = 0 := e2
  obtain rfl : u' = 0 := e3
  obtain rfl : s' = ⟨#[]⟩ := e4
  obtain rfl : n' = 0 := e5
  have RF := Lib.hid rf
  clear rf
  have R1 := R0.step b2
  have B1 := B0.trans (b2.mono B0.size)
  obtain ⟨c0, c1, c2, c3, c4, c5, c6, c7, c8, c9⟩ := R1.c10
  have z2 := R1.f
  have hlt := R1.lt
  go_wp2_with fail
  obtain ⟨k1, k2, k3, k4⟩ := set10 R1 (.int .i64 110) (.int .i64 0) (.int .i64 2) (.int .i64 pn) (.bool false) (.int .i64 0) (.int .i64 0) (.int .u64 0) (.string ⟨#[]⟩) (.slice a' 0 c') rfl
  have KE := B1.trans (k4.mono (by omega))
  have KF := KE.trans ((below1 _ (.cells (rcs 110 0 2 pn false 0 0 0 ⟨#[]⟩ a' 0 c') 33)).mono KE.size)
  have k5 := k1.alloc (.cells (rcs 110 0 2 pn false 0 0 0 ⟨#[]⟩ a' 0 c') 33)
  obtain ⟨q0, q1, q2, q3, q4, q5, q6, q7, q8, q9⟩ := k5.c10
  refine bodyPost_ret (v := .agg (rcs 110 0 2 pn false 0 0 0 ⟨#[]⟩ a' 0 c')) ?_ rfl ⟨0, 0, 0, ⟨#[]⟩, a', 0, c', rfl, ⟨a', c', rfl, Nat.zero_le _, Nat.zero_le _, (rz_kd (Rz.of_rf _ _ _ RF.out)).2.2.2.2.2.2, .inl rfl⟩, KF⟩
  simp [results, Tryz.results51, go_sem, q0, q1, q2, q3, q4, q5, q6, q7, q8, q9]

set_option maxRecDepth 100000 in
set_option maxHeartbeats 1000000 in
theorem double_yes (tp : ByteArray) (k i u : Int) (s : ByteArray) (a : Option Addr) (n c : Nat) {m : Nat} (t : Dt.Tr (m + 1)) (L : Dt.Tr 1) (hL : L.ks = []) (w : World) (D : Nat → Prop) (hT : ∀ wx, Below w.heap.size w wx → Calls Tryz.prog 77 #[.agg (acs 3 k i u s a n c 0 0 0 ⟨#[]⟩ none 0 0 5)] wx (GP 0 0 0 true (m + 1) t wx))
    (hA : ∀ wx, Below w.heap.size w wx → Calls Tryz.prog 78 #[.agg #[.int .i64 k, .int .i64 i, .int .u64 u, .string s, .slice a n c], .agg #[.int .i64 k, .int .i64 i, .int .u64 u, .string s, .slice a n c]] wx fun e w' => ∃ (y0 y1 y2 : Int) (y3 : ByteArray) (y4 : Option Addr) (y5 y6 : Nat), e = .returned (.tuple #[.agg #[.int .i64 y0, .int .i64 y1, .int .u64 y2, .string y3, .slice y4 y5 y6], .int .i64 0]) ∧ Hid (Dt.Rep w' 1 [.int .i64 y0, .int .i64 y1, .int .u64 y2, .string y3, .slice y4 y5 y6] L) ∧ Below wx.heap.size wx w') : Calls Tryz.prog 51 #[.string tp, .agg #[.int .i64 k, .int .i64 i, .int .u64 u, .string s, .slice a n c]] w (GR D (good L) w) := by
  have HT := Lib.hid hT
  have HA := Lib.hid hA
  have HL := Lib.hid hL
  clear hT hA hL
  have B0 := below2 w (.cells #[.int .i64 k, .int .i64 i, .int .u64 u, .string s, .slice a n c] 25) (.cells (rErr 0 0 0 0) 33)
  have D0 : Bk ((w.alloc (.cells #[.int .i64 k, .int .i64 i, .int .u64 u, .string s, .slice a n c] 25)).alloc (.cells (rErr 0 0 0 0) 33)) w.heap.size #[.int .i64 k, .int .i64 i, .int .u64 u, .string s, .slice a n c] 25 := (Bk.new w _ _).alloc _
  have R0 := Bk.new2 w (.cells #[.int .i64 k, .int .i64 i, .int .u64 u, .string s, .slice a n c] 25) (rErr 0 0 0 0) 33
  go_enter Tryz.func51, Tryz.ntmps51
  go_wp2_with fail
  refine (HT.out _ B0).mono ?_
  rintro e w2 ⟨k', i', u', s', a', n', c', rfl, rf, b2⟩
  clear rf
  have b3 := b2.trans ((below1 w2 (.cells (rcs 0 0 0 0 true k' i' u' s' a' n' c') 33)).mono b2.size)
  have R1 := R0.step b3
  have D1 := D0.step b2
  have B1 := B0.trans (b3.mono B0.size)
  have hl1 := D1.lt
  obtain ⟨d0, d1, d2, d3, d4⟩ := D1.c5
  go_wp2_with fail
  refine (HA.out _ B1).mono ?_
  rintro e w3 ⟨y0, y1, y2, y3, y4, y5, y6, rfl, ry, b4⟩
  have R2 := R1.step b4
  have B2 := B1.trans (b4.mono B1.size)
  have RY := Lib.hid ry
  clear R1 D1 B1 d0 d1 d2 d3 d4 hl1 b3 b2 ry
  go_wp2_with fail
  refine (told_ok y0 y1 y2 y3 y4 y5 y6 _).mono ?_
  rintro e w4 ⟨rfl, b5⟩
  have r9 := R2.step b5
  have B9 := B2.trans (b5.mono B2.size)
  obtain ⟨c0, c1, c2, c3, c4, c5, c6, c7, c8, c9⟩ := r9.c10
  have z2 := r9.f
  go_wp2_with fail
  obtain ⟨k1, k2, k3, k4⟩ := set10 r9 (.int .i64 0) (.int .i64 0) (.int .i64 0) (.int .i64 0) (.bool true) (.int .i64 y0) (.int .i64 y1) (.int .u64 y2) (.string y3) (.slice y4 y5 y6) rfl
  have KF := B9.trans (k4.mono (by omega))
  obtain ⟨q0, q1, q2, q3, q4, q5, q6, q7, q8, q9⟩ := k1.c10
  refine bodyPost_ret (v := .agg (rcs 0 0 0 0 true y0 y1 y2 y3 y4 y5 y6)) ?_ rfl ⟨y0, y1, y2, y3, y4, y5, y6, rfl, rz_leaf HL.out RY.out.out, KF⟩
  simp [results, Tryz.results51, go_sem, q0, q1, q2, q3, q4, q5, q6, q7, q8, q9]

end Go.Proofs.YtajagjcfmaggiaaGreatDoor
/- The package's map name; the conditions: the value in memory, valid, the table of powers as it is laid. -/
namespace Go.Proofs.YtajagjcfmaggiaaGreatDoor
open Go.RowKit

/-- A text's value. -/
theorem vr_text (F : Nat → Prop) (w : World) (s : ByteArray) : Dt.VR F w 1 (.iface 101 (.string s)) (txT 0 s) := by
  simp only [Dt.VR]
  simp [txT, nd, Dt.Tr.kd, Dt.Tr.tx]
theorem pln_text (s : ByteArray) (hs : s.size ≤ 65535) (W : World) : Calls Tryz.prog 82 #[.iface 101 (.string s)] W fun e w' => ∃ (u0 u1 u2 : Int) (u3 : ByteArray) (a4 : Option Addr) (n4 c4 : Nat), e = .returned (.agg #[.int .i64 u0, .int .i64 u1, .int .u64 u2, .string u3, .slice a4 n4 c4]) ∧ Hid (Dt.Rep w' 1 [.int .i64 u0, .int .i64 u1, .int .u64 u2, .string u3, .slice a4 n4 c4] (txT 0 s)) ∧ Below W.heap.size W w' :=
  have o : Ok 1 (txT 0 s) := ok_leaf (m := 0) 4 0 0 s (by simp [Dt.okB]; exact hs) u00 i00
  Dt.pln (txT 0 s) _ (vB_to o.v).1 o.r6 (vB_to o.v).2.1 (fun F w => vr_text F w s) W

set_option maxRecDepth 100000 in
set_option maxHeartbeats 1000000 in
theorem name_Name (tp : ByteArray) (k i u : Int) (s : ByteArray) (a : Option Addr) (n c : Nat) (w : World) (D : Nat → Prop) (r : ByteArray) (hs : (ByteArray.size r) ≤ 65535)
    (hO : ∀ wx, Below w.heap.size w wx → Calls Tryz.prog 76 #[.agg #[.int .i64 k, .int .i64 i, .int .u64 u, .string s, .slice a n c]] wx fun e w' => e = .returned (.iface 143 (.string r)) ∧ Below wx.heap.size wx w') :
    Calls Tryz.prog 59 #[.string tp, .agg #[.int .i64 k, .int .i64 i, .int .u64 u, .string s, .slice a n c]] w (GR D (good (txT 0 r)) w) := by
  have hmf : ∀ (fn : Fn) (first cap : Array Value) (w : World), (Instr.makeFunc fn first cap).run Tryz.prog w = .ok (.func fn first cap) w := fun _ _ _ _ => rfl
  have hmm : ∀ (z : Value) (w : World), (method 367 143 z "Name").run Tryz.prog w = .ok (215, z) w := fun _ _ => by kernel_rfl
  have hcf : ∀ (args : Array Value) (w : World), (callFunc 215 args).run Tryz.prog w = .ok (.enter 215 args) w := fun _ _ => by kernel_rfl
  have has : ∀ (z : Value) (w : World), (Instr.typeAssert (.iface 143 z) 20 98 true).run Tryz.prog w = .ok (.tuple #[.iface 143 z, .bool true]) w := fun z w => run_typeAssert_hasB Tryz.underlying98 (by kernel_rfl) _ _ w
  have HO := Lib.hid hO
  have HP := Lib.hid (pln_text r hs)

  clear hO hs
  have B0 := below2 w (.cells #[.int .i64 k, .int .i64 i, .int .u64 u, .string s, .slice a n c] 25) (.cells (rErr 0 0 0 0) 33)
  have D0 : Bk ((w.alloc (.cells #[.int .i64 k, .int .i64 i, .int .u64 u, .string s, .slice a n c] 25)).alloc (.cells (rErr 0 0 0 0) 33)) w.heap.size #[.int .i64 k, .int .i64 i, .int .u64 u, .string s, .slice a n c] 25 := (Bk.new w _ _).alloc _
  have R0 := Bk.new2 w (.cells #[.int .i64 k, .int .i64 i, .int .u64 u, .string s, .slice a n c] 25) (rErr 0 0 0 0) 33
  go_enter Tryz.func59, Tryz.ntmps59
  go_wp2_with fail
  refine (HO.out _ B0).mono ?_
  rintro e w1 ⟨rfl, b1⟩
  have B1 := B0.trans (b1.mono B0.size)
  have R1 := R0.step b1
  clear D0 R0
  go_wp2_with fail
  refine (Dt.nameName r _).mono ?_
  rintro e w2 ⟨rfl, b2⟩
  have B2 := B1.trans (b2.mono B1.size)
  have R2 := R1.step b2
  clear R1 b1 b2
  go_wp2_with fail
  refine (HP.out _).mono ?_
  rintro e w3 ⟨y0, y1, y2, y3, y4, y5, y6, rfl, ry, b3⟩
  have RY := Lib.hid ry
  have R3 := R2.step b3
  have B3 := B2.trans (b3.mono B2.size)
  clear ry R2 b3
  go_wp2_with fail
  refine (told_ok y0 y1 y2 y3 y4 y5 y6 _).mono ?_
  rintro e w4 ⟨rfl, b5⟩
  have r9 := R3.step b5
  have B9 := B3.trans (b5.mono B3.size)
  obtain ⟨c0, c1, c2, c3, c4, c5, c6, c7, c8, c9⟩ := r9.c10
  have z2 := r9.f
  go_wp2_with fail
  obtain ⟨k1, k2, k3, k4⟩ := set10 r9 (.int .i64 0) (.int .i64 0) (.int .i64 0) (.int .i64 0) (.bool true) (.int .i64 y0) (.int .i64 y1) (.int .u64 y2) (.string y3) (.slice y4 y5 y6) rfl
  have KF := B9.trans (k4.mono (by omega))
  obtain ⟨q0, q1, q2, q3, q4, q5, q6, q7, q8, q9⟩ := k1.c10
  refine bodyPost_ret (v := .agg (rcs 0 0 0 0 true y0 y1 y2 y3 y4 y5 y6)) ?_ rfl ⟨y0, y1, y2, y3, y4, y5, y6, rfl, rz_leaf (t := txT 0 r) rfl RY.out.out, KF⟩
  simp [results, Tryz.results59, go_sem, q0, q1, q2, q3, q4, q5, q6, q7, q8, q9]

set_option maxRecDepth 100000 in
set_option maxHeartbeats 1000000 in
theorem name_Key (tp : ByteArray) (k i u : Int) (s : ByteArray) (a : Option Addr) (n c : Nat) (w : World) (D : Nat → Prop) (L : Lb) (j : Int) (hj : Dt.I64 j) (hT : NameOk L w) (hs : (ByteArray.size (L.1 j)) ≤ 65535)
    (hO : ∀ wx, Below w.heap.size w wx → Calls Tryz.prog 76 #[.agg #[.int .i64 k, .int .i64 i, .int .u64 u, .string s, .slice a n c]] wx fun e w' => e = .returned (.iface 141 (.int .i64 j)) ∧ Below wx.heap.size wx w') :
    Calls Tryz.prog 59 #[.string tp, .agg #[.int .i64 k, .int .i64 i, .int .u64 u, .string s, .slice a n c]] w (GR D (good (txT 0 (L.1 j))) w) := by
  have hmf : ∀ (fn : Fn) (first cap : Array Value) (w : World), (Instr.makeFunc fn first cap).run Tryz.prog w = .ok (.func fn first cap) w := fun _ _ _ _ => rfl
  have hmm : ∀ (z : Value) (w : World), (method 367 141 z "Name").run Tryz.prog w = .ok (211, z) w := fun _ _ => by kernel_rfl
  have hcf : ∀ (args : Array Value) (w : World), (callFunc 211 args).run Tryz.prog w = .ok (.enter 211 args) w := fun _ _ => by kernel_rfl
  have has : ∀ (z : Value) (w : World), (Instr.typeAssert (.iface 141 z) 20 98 true).run Tryz.prog w = .ok (.tuple #[.iface 141 z, .bool true]) w := fun z w => run_typeAssert_hasB Tryz.underlying98 (by kernel_rfl) _ _ w
  have HO := Lib.hid hO
  have HP := Lib.hid (pln_text (L.1 j) hs)
  have HT := Lib.hid hT
  clear hO hs hT
  have B0 := below2 w (.cells #[.int .i64 k, .int .i64 i, .int .u64 u, .string s, .slice a n c] 25) (.cells (rErr 0 0 0 0) 33)
  have D0 : Bk ((w.alloc (.cells #[.int .i64 k, .int .i64 i, .int .u64 u, .string s, .slice a n c] 25)).alloc (.cells (rErr 0 0 0 0) 33)) w.heap.size #[.int .i64 k, .int .i64 i, .int .u64 u, .string s, .slice a n c] 25 := (Bk.new w _ _).alloc _
  have R0 := Bk.new2 w (.cells #[.int .i64 k, .int .i64 i, .int .u64 u, .string s, .slice a n c] 25) (rErr 0 0 0 0) 33
  go_enter Tryz.func59, Tryz.ntmps59
  go_wp2_with fail
  refine (HO.out _ B0).mono ?_
  rintro e w1 ⟨rfl, b1⟩
  have B1 := B0.trans (b1.mono B0.size)
  have R1 := R0.step b1
  clear D0 R0
  go_wp2_with fail
  refine (HT.out j hj _ B1).mono ?_
  rintro e w2 ⟨rfl, b2⟩
  have B2 := B1.trans (b2.mono B1.size)
  have R2 := R1.step b2
  clear R1 b1 b2
  go_wp2_with fail
  refine (HP.out _).mono ?_
  rintro e w3 ⟨y0, y1, y2, y3, y4, y5, y6, rfl, ry, b3⟩
  have RY := Lib.hid ry
  have R3 := R2.step b3
  have B3 := B2.trans (b3.mono B2.size)
  clear ry R2 b3
  go_wp2_with fail
  refine (told_ok y0 y1 y2 y3 y4 y5 y6 _).mono ?_
  rintro e w4 ⟨rfl, b5⟩
  have r9 := R3.step b5
  have B9 := B3.trans (b5.mono B3.size)
  obtain ⟨c0, c1, c2, c3, c4, c5, c6, c7, c8, c9⟩ := r9.c10
  have z2 := r9.f
  go_wp2_with fail
  obtain ⟨k1, k2, k3, k4⟩ := set10 r9 (.int .i64 0) (.int .i64 0) (.int .i64 0) (.int .i64 0) (.bool true) (.int .i64 y0) (.int .i64 y1) (.int .u64 y2) (.string y3) (.slice y4 y5 y6) rfl
  have KF := B9.trans (k4.mono (by omega))
  obtain ⟨q0, q1, q2, q3, q4, q5, q6, q7, q8, q9⟩ := k1.c10
  refine bodyPost_ret (v := .agg (rcs 0 0 0 0 true y0 y1 y2 y3 y4 y5 y6)) ?_ rfl ⟨y0, y1, y2, y3, y4, y5, y6, rfl, rz_leaf (t := txT 0 (L.1 j)) rfl RY.out.out, KF⟩
  simp [results, Tryz.results59, go_sem, q0, q1, q2, q3, q4, q5, q6, q7, q8, q9]

set_option maxRecDepth 100000 in
set_option maxHeartbeats 1000000 in
theorem name_Fail (tp : ByteArray) (k i u : Int) (s : ByteArray) (a : Option Addr) (n c : Nat) (w : World) (D : Nat → Prop) (j : Int) (r : ByteArray) (hs : (ByteArray.size r) ≤ 65535)
    (hO : ∀ wx, Below w.heap.size w wx → Calls Tryz.prog 76 #[.agg #[.int .i64 k, .int .i64 i, .int .u64 u, .string s, .slice a n c]] wx fun e w' => e = .returned (.iface 154 (.agg #[.int .i64 j, .string r])) ∧ Below wx.heap.size wx w') :
    Calls Tryz.prog 59 #[.string tp, .agg #[.int .i64 k, .int .i64 i, .int .u64 u, .string s, .slice a n c]] w (GR D (good (txT 0 r)) w) := by
  have hmf : ∀ (fn : Fn) (first cap : Array Value) (w : World), (Instr.makeFunc fn first cap).run Tryz.prog w = .ok (.func fn first cap) w := fun _ _ _ _ => rfl
  have hmm : ∀ (z : Value) (w : World), (method 367 154 z "Name").run Tryz.prog w = .ok (221, z) w := fun _ _ => by kernel_rfl
  have hcf : ∀ (args : Array Value) (w : World), (callFunc 221 args).run Tryz.prog w = .ok (.enter 221 args) w := fun _ _ => by kernel_rfl
  have has : ∀ (z : Value) (w : World), (Instr.typeAssert (.iface 154 z) 20 98 true).run Tryz.prog w = .ok (.tuple #[.iface 154 z, .bool true]) w := fun z w => run_typeAssert_hasB Tryz.underlying98 (by kernel_rfl) _ _ w
  have HO := Lib.hid hO
  have HP := Lib.hid (pln_text r hs)

  clear hO hs
  have B0 := below2 w (.cells #[.int .i64 k, .int .i64 i, .int .u64 u, .string s, .slice a n c] 25) (.cells (rErr 0 0 0 0) 33)
  have D0 : Bk ((w.alloc (.cells #[.int .i64 k, .int .i64 i, .int .u64 u, .string s, .slice a n c] 25)).alloc (.cells (rErr 0 0 0 0) 33)) w.heap.size #[.int .i64 k, .int .i64 i, .int .u64 u, .string s, .slice a n c] 25 := (Bk.new w _ _).alloc _
  have R0 := Bk.new2 w (.cells #[.int .i64 k, .int .i64 i, .int .u64 u, .string s, .slice a n c] 25) (rErr 0 0 0 0) 33
  go_enter Tryz.func59, Tryz.ntmps59
  go_wp2_with fail
  refine (HO.out _ B0).mono ?_
  rintro e w1 ⟨rfl, b1⟩
  have B1 := B0.trans (b1.mono B0.size)
  have R1 := R0.step b1
  clear D0 R0
  go_wp2_with fail
  refine (Dt.nameFail j r _).mono ?_
  rintro e w2 ⟨rfl, b2⟩
  have B2 := B1.trans (b2.mono B1.size)
  have R2 := R1.step b2
  clear R1 b1 b2
  go_wp2_with fail
  refine (HP.out _).mono ?_
  rintro e w3 ⟨y0, y1, y2, y3, y4, y5, y6, rfl, ry, b3⟩
  have RY := Lib.hid ry
  have R3 := R2.step b3
  have B3 := B2.trans (b3.mono B2.size)
  clear ry R2 b3
  go_wp2_with fail
  refine (told_ok y0 y1 y2 y3 y4 y5 y6 _).mono ?_
  rintro e w4 ⟨rfl, b5⟩
  have r9 := R3.step b5
  have B9 := B3.trans (b5.mono B3.size)
  obtain ⟨c0, c1, c2, c3, c4, c5, c6, c7, c8, c9⟩ := r9.c10
  have z2 := r9.f
  go_wp2_with fail
  obtain ⟨k1, k2, k3, k4⟩ := set10 r9 (.int .i64 0) (.int .i64 0) (.int .i64 0) (.int .i64 0) (.bool true) (.int .i64 y0) (.int .i64 y1) (.int .u64 y2) (.string y3) (.slice y4 y5 y6) rfl
  have KF := B9.trans (k4.mono (by omega))
  obtain ⟨q0, q1, q2, q3, q4, q5, q6, q7, q8, q9⟩ := k1.c10
  refine bodyPost_ret (v := .agg (rcs 0 0 0 0 true y0 y1 y2 y3 y4 y5 y6)) ?_ rfl ⟨y0, y1, y2, y3, y4, y5, y6, rfl, rz_leaf (t := txT 0 r) rfl RY.out.out, KF⟩
  simp [results, Tryz.results59, go_sem, q0, q1, q2, q3, q4, q5, q6, q7, q8, q9]

set_option maxRecDepth 100000 in
set_option maxHeartbeats 1000000 in
theorem name_no (tp : ByteArray) (k i u : Int) (s : ByteArray) (a : Option Addr) (n c : Nat) (w : World) (D : Nat → Prop)
    (hO : ∀ wx, Below w.heap.size w wx → Calls Tryz.prog 76 #[.agg #[.int .i64 k, .int .i64 i, .int .u64 u, .string s, .slice a n c]] wx fun e w' => ∃ v, e = .returned v ∧ Sx v ∧ Hid (∀ w, (Instr.typeAssert v 20 98 true).run Tryz.prog w = .ok (.tuple #[.nilIface, .bool false]) w) ∧ Below wx.heap.size wx w') :
    Calls Tryz.prog 59 #[.string tp, .agg #[.int .i64 k, .int .i64 i, .int .u64 u, .string s, .slice a n c]] w (GR D (bad 12 0 0) w) := by
  have HO := Lib.hid hO
  clear hO
  have B0 := below2 w (.cells #[.int .i64 k, .int .i64 i, .int .u64 u, .string s, .slice a n c] 25) (.cells (rErr 0 0 0 0) 33)
  have D0 : Bk ((w.alloc (.cells #[.int .i64 k, .int .i64 i, .int .u64 u, .string s, .slice a n c] 25)).alloc (.cells (rErr 0 0 0 0) 33)) w.heap.size #[.int .i64 k, .int .i64 i, .int .u64 u, .string s, .slice a n c] 25 := (Bk.new w _ _).alloc _
  have R0 := Bk.new2 w (.cells #[.int .i64 k, .int .i64 i, .int .u64 u, .string s, .slice a n c] 25) (rErr 0 0 0 0) 33
  go_enter Tryz.func59, Tryz.ntmps59
  go_wp2_with fail
  refine (HO.out _ B0).mono ?_
  rintro e w1 ⟨v, rfl, hs, ha, b1⟩
  have B1 := B0.trans (b1.mono B0.size)
  have R1 := R0.step b1
  have D1 := D0.step b1
  obtain ⟨d0, d1, d2, d3, d4⟩ := D1.c5
  clear D0 R0
  rcases hs with rfl | ⟨T, z, rfl⟩
  all_goals
    have has := ha.out
    go_wp2_with fail
    refine (told_12 k i u s a n c _).mono ?_
    rintro e w2 ⟨rfl, b2⟩
    clear D1 d0 d1 d2 d3 d4
    have r2 := R1.step b2
    have B2 := B1.trans (b2.mono B1.size)
    obtain ⟨c0, c1, c2, c3, c4, c5, c6, c7, c8, c9⟩ := r2.c10
    have z2 := r2.f
    go_wp2_with fail
    obtain ⟨k1, k2, k3, k4⟩ := set10 r2 (.int .i64 12) (.int .i64 0) (.int .i64 0) (.int .i64 0) (.bool false) (.int .i64 0) (.int .i64 0) (.int .u64 0) (.string ⟨#[]⟩) (.slice none 0 0) rfl
    have KF := B2.trans (k4.mono (by omega))
    obtain ⟨q0, q1, q2, q3, q4, q5, q6, q7, q8, q9⟩ := k1.c10
    refine bodyPost_ret (v := .agg (rcs 12 0 0 0 false 0 0 0 ⟨#[]⟩ none 0 0)) ?_ rfl (gr_bad ⟨rfl, KF⟩)
    simp [results, Tryz.results59, go_sem, q0, q1, q2, q3, q4, q5, q6, q7, q8, q9]

end Go.Proofs.YtajagjcfmaggiaaGreatDoor
/- Each of the package's maps over a value's tree: what comes is what the document's table has; the conditions: the value in memory, valid, the tables as they are laid, the topic not too long. -/
namespace Go.Proofs.YtajagjcfmaggiaaGreatDoor
open Go.RowKit

/-- The function of a map. -/
def mfn (op : Int) : Nat := if op = 1 then 51 else if op = 2 then 53 else if op = 3 then 55 else if op = 4 then 57 else if op = 5 then 59 else if op = 6 then 61 else if op = 7 then 63 else if op = 8 then 65 else 49

set_option maxRecDepth 100000 in
theorem name_any (L : Lb) (tp : ByteArray) (k i u : Int) (s : ByteArray) (a : Option Addr) (n c : Nat) {m : Nat} (t : Dt.Tr (m + 1)) (ho : Ok (m + 1) t) (w : World) (D : Nat → Prop) (hv : Vl w m t k i u s a n c) (hT : NameOk L w) :
    Calls Tryz.prog 59 #[.string tp, .agg #[.int .i64 k, .int .i64 i, .int .u64 u, .string s, .slice a n c]] w (GR D (if (labL L t.kd t.it t.tx).2 = 0 then good (txT 0 (labL L t.kd t.it t.tx).1) else bad 12 0 0) w) := by
  have HO : ∀ wx, Below w.heap.size w wx → Calls Tryz.prog 76 #[.agg #[.int .i64 k, .int .i64 i, .int .u64 u, .string s, .slice a n c]] wx fun e w' => ∃ v, e = .returned v ∧ Hid (Dt.VR (fun g => wx.heap.size ≤ g ∧ g < w'.heap.size) w' (m + 1) v t) ∧ Below wx.heap.size wx w' := fun wx hx => (of_val w m t k i u s a n c wx hv.rg hv.ps hv.rep hx).mono fun e w' ⟨v, he, _, vr, hb'⟩ => ⟨v, he, vr, hb'⟩
  have hs := lab_size L ho
  by_cases h5 : t.kd = 5
  · have e1 : labL L t.kd t.it t.tx = (t.tx, 0) := by simp [labL, h5]
    rw [e1] at hs ⊢
    rw [if_pos rfl]
    refine name_Name tp k i u s a n c w D t.tx hs fun wx hx => (HO wx hx).mono fun e w' ⟨v, he, vr, hb'⟩ => ?_
    rcases Dt.vr_cases vr.out with ⟨q, rfl⟩ | ⟨q, rfl⟩ | ⟨q, rfl⟩ | ⟨q, rfl⟩ | ⟨q, rfl⟩ | ⟨q, rfl⟩ | ⟨q, rfl⟩ | ⟨q, a', c', rfl⟩ | ⟨q, a', c', rfl⟩ | ⟨q, x, y, rfl, hx, hy⟩ | ⟨q, rfl⟩ | ⟨q, b, u', rfl, hh, hu⟩ | ⟨q, rfl⟩ | ⟨q, rfl⟩
    all_goals first | omega | exact ⟨he, hb'⟩
  by_cases h10 : t.kd = 10
  · have e1 : labL L t.kd t.it t.tx = (t.tx, 0) := by simp [labL, h10]
    rw [e1] at hs ⊢
    rw [if_pos rfl]
    refine name_Fail tp k i u s a n c w D t.it t.tx hs fun wx hx => (HO wx hx).mono fun e w' ⟨v, he, vr, hb'⟩ => ?_
    rcases Dt.vr_cases vr.out with ⟨q, rfl⟩ | ⟨q, rfl⟩ | ⟨q, rfl⟩ | ⟨q, rfl⟩ | ⟨q, rfl⟩ | ⟨q, rfl⟩ | ⟨q, rfl⟩ | ⟨q, a', c', rfl⟩ | ⟨q, a', c', rfl⟩ | ⟨q, x, y, rfl, hx, hy⟩ | ⟨q, rfl⟩ | ⟨q, b, u', rfl, hh, hu⟩ | ⟨q, rfl⟩ | ⟨q, rfl⟩
    all_goals first | omega | exact ⟨he, hb'⟩
  by_cases h2 : t.kd = 2
  · have e1 : labL L t.kd t.it t.tx = (L.1 t.it, 0) := by simp [labL, h2]
    rw [e1] at hs ⊢
    rw [if_pos rfl]
    refine name_Key tp k i u s a n c w D L t.it ho.i6.1 hT hs fun wx hx => (HO wx hx).mono fun e w' ⟨v, he, vr, hb'⟩ => ?_
    rcases Dt.vr_cases vr.out with ⟨q, rfl⟩ | ⟨q, rfl⟩ | ⟨q, rfl⟩ | ⟨q, rfl⟩ | ⟨q, rfl⟩ | ⟨q, rfl⟩ | ⟨q, rfl⟩ | ⟨q, a', c', rfl⟩ | ⟨q, a', c', rfl⟩ | ⟨q, x, y, rfl, hx, hy⟩ | ⟨q, rfl⟩ | ⟨q, b, u', rfl, hh, hu⟩ | ⟨q, rfl⟩ | ⟨q, rfl⟩
    all_goals first | omega | exact ⟨he, hb'⟩
  · have e1 : labL L t.kd t.it t.tx = (⟨#[]⟩, 12) := by simp [labL, *]
    rw [e1]
    rw [if_neg (by decide)]
    refine name_no tp k i u s a n c w D fun wx hx => (HO wx hx).mono fun e w' ⟨v, he, vr, hb'⟩ => ?_
    rcases Dt.vr_cases vr.out with ⟨q, rfl⟩ | ⟨q, rfl⟩ | ⟨q, rfl⟩ | ⟨q, rfl⟩ | ⟨q, rfl⟩ | ⟨q, rfl⟩ | ⟨q, rfl⟩ | ⟨q, a', c', rfl⟩ | ⟨q, a', c', rfl⟩ | ⟨q, x, y, rfl, hx, hy⟩ | ⟨q, rfl⟩ | ⟨q, b, u', rfl, hh, hu⟩ | ⟨q, rfl⟩ | ⟨q, rfl⟩
    all_goals first | omega | exact ⟨_, he, .inl rfl, fun w => assert_nil Tryz.underlying98 (by kernel_rfl), hb'⟩ | exact ⟨_, he, .inr ⟨_, _, rfl⟩, fun w => run_typeAssert_lacksB Tryz.underlying98 (by kernel_rfl) (by kernel_rfl) _ _ w, hb'⟩

theorem Ok.vl {m : Nat} {t : Dt.Tr (m + 1)} (h : Ok (m + 1) t) {w : World} {D : Nat → Prop} {k i u : Int} {s : ByteArray} {a : Option Addr} {n c : Nat} (hr : Rz D w (m + 1) [.int .i64 k, .int .i64 i, .int .u64 u, .string s, .slice a n c] t) : Vl w m t k i u s a n c := ⟨(vB_to h.v).1, (vB_to h.v).2.1, h.r6, Rz.rep _ _ _ hr⟩

theorem body_any (L : Lb) (op : Int) (tp : ByteArray) (htp : tp.size ≤ maxLen) (k i u : Int) (s : ByteArray) (a : Option Addr) (n c : Nat) {m : Nat} (t : Dt.Tr (m + 1)) (ho : Ok (m + 1) t) (w : World) (D : Nat → Prop) (hD : ∀ g, D g → g < w.heap.size) (hr : Rz D w (m + 1) [.int .i64 k, .int .i64 i, .int .u64 u, .string s, .slice a n c] t) (hT : Dt.Tab14 w) (hP : op = 5 → NameOk L w) :
    Calls Tryz.prog (mfn op) #[.string tp, .agg #[.int .i64 k, .int .i64 i, .int .u64 u, .string s, .slice a n c]] w (GR D (mapP L op tp t) w) := by
  have hv : Vl w m t k i u s a n c := ho.vl hr
  have ek : t.kd = k := hv.eq.1
  have B := fun wx (hx : Below w.heap.size w wx) => hx
  unfold mfn mapP
  by_cases o1 : op = 1
  · rw [if_pos o1, if_pos o1]
    cases hq : impl t.kd 5 with
    | false =>
      rw [if_neg (by decide)]
      rw [ek] at hq ⊢
      exact double_no tp k i u s a n c w D _ fun wx hx => gpFace_no k i u s a n c 0 0 0 ⟨#[]⟩ none 0 0 5 hq wx
    | true =>
      rw [if_pos rfl]
      have hk := of_decide_eq_true ((impl5 ho.kind).symm.trans hq)
      obtain ⟨e1, e2, e3, -⟩ := rz_kd hr
      have hF : ∀ wx, Below w.heap.size w wx → Calls Tryz.prog 77 #[.agg (acs 3 k i u s a n c 0 0 0 ⟨#[]⟩ none 0 0 5)] wx (GP 0 0 0 true (m + 1) t wx) := fun wx hx => gpFace w m t k i u s a n c 0 0 0 ⟨#[]⟩ none 0 0 5 hv (ek ▸ hq) wx hx
      rw [← e1, ← e2, ← e3]
      rcases hk with e | e
      · obtain rfl : k = 1 := e1.trans e
        exact double_yes tp 1 i u s a n c t (Dt.lf 1 (wrap64 (i + i)) 0) rfl w D hF fun wx hx => Dt.adGo1S i u i u s s a a n c n c wx
      · obtain rfl : k = 3 := e1.trans e
        exact double_yes tp 3 i u s a n c t (Dt.lf 3 0 (Dt.addF u.toNat u.toNat : Nat)) rfl w D hF fun wx hx => Dt.adGo3S i u i u s s a a n c n c wx
  rw [if_neg o1, if_neg o1]
  by_cases o2 : op = 2
  · rw [if_pos o2, if_pos o2]
    cases hq : Dt.vB _ (lsT t) with
    | true => rw [if_pos rfl]; exact list_yes tp k i u s a n c t w D hD hr hT hq
    | false => rw [if_neg (by decide)]; exact list_no tp k i u s a n c t w D hD hr hT hq
  rw [if_neg o2, if_neg o2]
  by_cases o3 : op = 3
  · rw [if_pos o3, if_pos o3]
    by_cases k11 : t.kd = 11
    · rw [if_pos k11]
      have h1 := ho.ok
      rw [k11] at h1
      obtain ⟨kid, hkid⟩ := List.length_eq_one_iff.1 (Dt.ok11 h1).2.2.2
      rw [hkid]
      exact open_by tp k i u s a n c w D 0 0 0 true m kid fun wx hx => gpOpen w m t k i u s a n c 0 0 0 ⟨#[]⟩ none 0 0 0 hv (ek ▸ k11) kid hkid wx hx
    rw [if_neg k11]
    by_cases k12 : t.kd = 12
    · rw [if_pos k12]
      exact open_by tp k i u s a n c w D 110 3 0 false 1 (lfT 0 0) fun wx hx => gpOpen_nil w m t k i u s a n c 0 0 0 ⟨#[]⟩ none 0 0 0 hv (ek ▸ k12) wx hx
    · rw [if_neg k12]
      have hq := impl3 t.kd ho.kind k11 k12
      rw [ek] at hq ⊢
      exact open_by tp k i u s a n c w D 110 2 (lackM k 3) false 1 (lfT 0 0) fun wx hx => gpOpen_no k i u s a n c 0 0 0 ⟨#[]⟩ none 0 0 0 hq wx
  rw [if_neg o3, if_neg o3]
  by_cases o4 : op = 4
  · rw [if_pos o4, if_pos o4]
    by_cases h0 : (Dt.lenP t.kd t.tx.size t.ks.length).2 = 0
    · rw [if_pos h0]
      exact size_by tp k i u s a n c w D 0 0 0 true 1 _ fun wx hx => gpSize w m t k i u s a n c 0 0 0 ⟨#[]⟩ none 0 0 0 hv h0 wx hx
    · rw [if_neg h0]
      exact size_by tp k i u s a n c w D 12 0 0 false 1 _ fun wx hx => gpSize_no w m t k i u s a n c 0 0 0 ⟨#[]⟩ none 0 0 0 hv h0 wx hx
  rw [if_neg o4, if_neg o4]
  by_cases o5 : op = 5
  · rw [if_pos o5, if_pos o5]
    exact name_any L tp k i u s a n c t ho w D hv (hP o5)
  rw [if_neg o5, if_neg o5]
  by_cases o6 : op = 6
  · rw [if_pos o6, if_pos o6]
    by_cases k6 : t.kd = 6
    · rw [if_pos k6]
      exact not_yes tp k i u s a n c t w D k6 fun wx hx => gpAssert w m t k i u s a n c 0 0 0 ⟨#[]⟩ none 0 0 6 hv (by rw [← ek, k6]; decide) wx hx
    · rw [if_neg k6, ek]
      rw [ek] at k6
      exact not_no tp k i u s a n c w D k fun wx hx => gpAssert_no w m t k i u s a n c 0 0 0 ⟨#[]⟩ none 0 0 6 hv (by simp [tkd, k6]) wx hx
  rw [if_neg o6, if_neg o6]
  by_cases o7 : op = 7
  · rw [if_pos o7, if_pos o7]
    cases hq : Dt.vB _ (prT tp t) with
    | true => rw [if_pos rfl]; exact pair_yes tp htp k i u s a n c t w D hD hr hT hq
    | false => rw [if_neg (by decide)]; exact pair_no tp htp k i u s a n c t w D hD hr hT hq
  rw [if_neg o7, if_neg o7]
  by_cases o8 : op = 8
  · rw [if_pos o8, if_pos o8]
    exact key_any tp k i u s a n c t w D hD hr
  · rw [if_neg o8, if_neg o8]
    exact (nothing_any tp k i u s a n c w).mono fun _ _ h => gr_bad h
end Go.Proofs.YtajagjcfmaggiaaGreatDoor
