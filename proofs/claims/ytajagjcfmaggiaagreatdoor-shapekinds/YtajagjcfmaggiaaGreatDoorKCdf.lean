/- The package's maps that lay something together: told, around, nothing, key, list, pair; the conditions: the value in memory, valid, the package's table as it is laid. -/
import Derived.Test.YtajagjcfmaggiaaGreatDoorKCdd
import Derived.Test.YtajagjcfmaggiaaGreatDoorKCde
namespace Go.Proofs.YtajagjcfmaggiaaGreatDoor
open Go.RowKit

/-- The tree t lies in w behind the five cells cs, its parts in blocks of which F tells. -/
def Rz (F : Nat → Prop) (w : World) : (n : Nat) → List Value → Dt.Tr n → Prop
  | 0, _, _ => False
  | n + 1, cs, t => ∃ (ad : Option Addr) (cap : Nat), cs = [.int .i64 t.kd, .int .i64 t.it, .int .u64 t.ut, .string t.tx, .slice ad t.ks.length cap] ∧ t.tx.size ≤ maxLen ∧ t.ks.length ≤ cap ∧ cap ≤ maxLen ∧
      (t.ks = [] ∨ ∃ g o, ad = some ⟨g, o, none⟩ ∧ F g ∧ ∀ (j : Nat) (t' : Dt.Tr n), t.ks[j]? = some t' → ∃ v0 v1 v2 v3 v4, w.cell? ⟨g, o + j * 5, none⟩ = some v0 ∧ w.cell? ⟨g, o + j * 5 + 1, none⟩ = some v1 ∧ w.cell? ⟨g, o + j * 5 + 2, none⟩ = some v2 ∧ w.cell? ⟨g, o + j * 5 + 3, none⟩ = some v3 ∧ w.cell? ⟨g, o + j * 5 + 4, none⟩ = some v4 ∧ Rz F w n [v0, v1, v2, v3, v4] t')
theorem Rz.rep {F : Nat → Prop} {w : World} : ∀ (n : Nat) (cs : List Value) (t : Dt.Tr n), Rz F w n cs t → Dt.Rep w n cs t
  | 0, _, _, h => h
  | n + 1, cs, t, h => by
    obtain ⟨ad, cap, h1, h2, h3, h4, h5⟩ := h
    refine ⟨ad, cap, h1, h2, h3, h4, ?_⟩
    rcases h5 with h5 | ⟨g, o, h6, -, h7⟩
    · exact .inl h5
    · refine .inr ⟨g, o, h6, fun j t' hj => ?_⟩
      obtain ⟨v0, v1, v2, v3, v4, c0, c1, c2, c3, c4, r⟩ := h7 j t' hj
      exact ⟨v0, v1, v2, v3, v4, c0, c1, c2, c3, c4, Rz.rep n _ _ r⟩
theorem Rz.of_rep {w : World} : ∀ (n : Nat) (cs : List Value) (t : Dt.Tr n), Dt.Rep w n cs t → Rz (fun g => g < w.heap.size) w n cs t
  | 0, _, _, h => h
  | n + 1, cs, t, h => by
    obtain ⟨ad, cap, h1, h2, h3, h4, h5⟩ := h
    refine ⟨ad, cap, h1, h2, h3, h4, ?_⟩
    by_cases h0 : t.ks = []
    · exact .inl h0
    rcases h5 with h5 | ⟨g, o, h6, h7⟩
    · exact absurd h5 h0
    · have hp : 0 < t.ks.length := List.length_pos_iff.2 h0
      obtain ⟨_, _, _, _, _, c0, _⟩ := h7 0 _ (List.getElem?_eq_getElem hp)
      refine .inr ⟨g, o, h6, World.block_lt_of_cell? w _ c0, fun j t' hj => ?_⟩
      obtain ⟨v0, v1, v2, v3, v4, c0, c1, c2, c3, c4, r⟩ := h7 j t' hj
      exact ⟨v0, v1, v2, v3, v4, c0, c1, c2, c3, c4, Rz.of_rep n _ _ r⟩
theorem Rz.of_rf {F : Nat → Prop} {w : World} : ∀ (n : Nat) (cs : List Value) (t : Dt.Tr n), Dt.Rf F w n cs t → Rz F w n cs t
  | 0, _, _, h => h
  | n + 1, cs, t, h => by
    obtain ⟨ad, cap, h1, h2, h3, h4, h5⟩ := h
    refine ⟨ad, cap, h1, h2, h3, h4, ?_⟩
    rcases h5 with h5 | ⟨g, o, h6, hg, h7⟩
    · exact .inl h5
    · refine .inr ⟨g, o, h6, hg.1, fun j t' hj => ?_⟩
      obtain ⟨v0, v1, v2, v3, v4, c0, c1, c2, c3, c4, r⟩ := h7 j t' hj
      exact ⟨v0, v1, v2, v3, v4, c0, c1, c2, c3, c4, Rz.of_rf n _ _ r⟩
theorem Rz.to {F F' : Nat → Prop} {w w' : World} (hF : ∀ g, F g → F' g ∧ w'.heap[g]? = w.heap[g]?) : ∀ (n : Nat) (cs : List Value) (t : Dt.Tr n), Rz F w n cs t → Rz F' w' n cs t
  | 0, _, _, h => h
  | n + 1, cs, t, h => by
    obtain ⟨ad, cap, h1, h2, h3, h4, h5⟩ := h
    refine ⟨ad, cap, h1, h2, h3, h4, ?_⟩
    rcases h5 with h5 | ⟨g, o, h6, hg, h7⟩
    · exact .inl h5
    · obtain ⟨hg', hh⟩ := hF g hg
      refine .inr ⟨g, o, h6, hg', fun j t' hj => ?_⟩
      obtain ⟨v0, v1, v2, v3, v4, c0, c1, c2, c3, c4, r⟩ := h7 j t' hj
      exact ⟨v0, v1, v2, v3, v4, (Dt.cell_heap hh).trans c0, (Dt.cell_heap hh).trans c1, (Dt.cell_heap hh).trans c2, (Dt.cell_heap hh).trans c3, (Dt.cell_heap hh).trans c4, Rz.to hF n _ _ r⟩

/-- A result in memory, its body's parts where D tells, or new. -/
def GR (D : Nat → Prop) (r : Rs) (w : World) (e : Ending) (w' : World) : Prop := ∃ k i u s a n c, e = .returned (.agg (rcs r.er 0 r.pk r.pn r.has k i u s a n c)) ∧ Rz (fun g => D g ∨ (w.heap.size ≤ g ∧ g < w'.heap.size)) w' r.n [.int .i64 k, .int .i64 i, .int .u64 u, .string s, .slice a n c] r.t ∧ Below w.heap.size w w'
theorem gr_bad {D : Nat → Prop} {er pk pn : Int} {w : World} {e : Ending} {w' : World} (h : e = .returned (.agg (rErr er 0 pk pn)) ∧ Below w.heap.size w w') : GR D (bad er pk pn) w e w' := ⟨0, 0, 0, ⟨#[]⟩, none, 0, 0, h.1, ⟨none, 0, rfl, Nat.zero_le _, Nat.zero_le _, Nat.zero_le _, .inl rfl⟩, h.2⟩
/-- What a key's Name gives, from here on. -/
def NameOk (L : Lb) (w : World) : Prop := ∀ i, Dt.I64 i → ∀ w', Below w.heap.size w w' → Calls Tryz.prog 211 #[.int .i64 i] w' fun e w'' => e = .returned (.string (L.1 i)) ∧ Below w'.heap.size w' w''
theorem NameOk.below {L : Lb} {w w' : World} (h : NameOk L w) (hb : Below w.heap.size w w') : NameOk L w' := fun i hi w2 h2 => h i hi w2 (hb.trans (h2.mono hb.size))
theorem rz_of_cells {F : Nat → Prop} {w' : World} {m : Nat} {t : Dt.Tr m} (k i u : Int) (s : ByteArray) (a : Option Addr) (n c : Nat) (hr : Rz F w' m [.int .i64 k, .int .i64 i, .int .u64 u, .string s, .slice a n c] t) {N : Nat} (hF : F N) (hN : Bk w' N #[.int .i64 k, .int .i64 i, .int .u64 u, .string s, .slice a n c] 25) : Rz F w' (m + 1) [.int .i64 8, .int .i64 0, .int .u64 0, .string ⟨#[]⟩, .slice (some ⟨N, 0, none⟩) 1 1] (lsT t) := by
  obtain ⟨c0, c1, c2, c3, c4⟩ := hN.c5
  refine ⟨some ⟨N, 0, none⟩, 1, rfl, Nat.zero_le _, Nat.le_refl _, by unfold maxLen; omega, .inr ⟨N, 0, rfl, hF, fun j t' hj => ?_⟩⟩
  cases j with
  | zero =>
    obtain rfl : t = t' := by simpa [lsT, nd, Dt.Tr.ks] using hj
    exact ⟨_, _, _, _, _, c0, c1, c2, c3, c4, hr⟩
  | succ j => simp [lsT, nd, Dt.Tr.ks] at hj
def CS10 (tp : ByteArray) (k i u : Int) (s : ByteArray) (a : Option Addr) (n c : Nat) : Array Value := #[.int .i64 4, .int .i64 0, .int .u64 0, .string tp, .slice none 0 0, .int .i64 k, .int .i64 i, .int .u64 u, .string s, .slice a n c]
theorem rz_of_pair {F : Nat → Prop} {w' : World} {m : Nat} {t : Dt.Tr (m + 1)} (tp : ByteArray) (htp : tp.size ≤ maxLen) (k i u : Int) (s : ByteArray) (a : Option Addr) (n c : Nat) (hr : Rz F w' (m + 1) [.int .i64 k, .int .i64 i, .int .u64 u, .string s, .slice a n c] t) {N : Nat} (hF : F N) (hN : Bk w' N (CS10 tp k i u s a n c) 25) : Rz F w' (m + 1 + 1) [.int .i64 9, .int .i64 0, .int .u64 0, .string ⟨#[]⟩, .slice (some ⟨N, 0, none⟩) 2 2] (prT tp t) := by
  obtain ⟨c0, c1, c2, c3, c4, c5, c6, c7, c8, c9⟩ := Bk.c10 hN
  refine ⟨some ⟨N, 0, none⟩, 2, rfl, Nat.zero_le _, Nat.le_refl _, by unfold maxLen; omega, .inr ⟨N, 0, rfl, hF, fun j t' hj => ?_⟩⟩
  match j, hj with
  | 0, hj =>
    obtain rfl : txT m tp = t' := by simpa [prT, nd, Dt.Tr.ks] using hj
    exact ⟨_, _, _, _, _, c0, c1, c2, c3, c4, none, 0, rfl, htp, Nat.le_refl _, Nat.zero_le _, .inl rfl⟩
  | 1, hj =>
    obtain rfl : t = t' := by simpa [prT, nd, Dt.Tr.ks] using hj
    exact ⟨_, _, _, _, _, c5, c6, c7, c8, c9, hr⟩
  | j + 2, hj => simp [prT, nd, Dt.Tr.ks] at hj

set_option maxRecDepth 100000 in
set_option maxHeartbeats 1000000 in
theorem told_ok (k i u : Int) (s : ByteArray) (a : Option Addr) (n c : Nat) (w : World) : Calls Tryz.prog 34 #[.agg #[.int .i64 k, .int .i64 i, .int .u64 u, .string s, .slice a n c], .int .i64 0] w fun e w' => e = .returned (.agg (rcs 0 0 0 0 true k i u s a n c)) ∧ Below w.heap.size w w' := by
  go_enter Tryz.func34, Tryz.ntmps34
  go_wp2
  exact bodyPost_ret (v := .agg (rcs 0 0 0 0 true k i u s a n c)) (by simp [results, Tryz.results34, go_sem]) rfl ⟨rfl, below2 w _ _⟩

set_option maxRecDepth 100000 in
set_option maxHeartbeats 1000000 in
theorem told_12 (k i u : Int) (s : ByteArray) (a : Option Addr) (n c : Nat) (w : World) : Calls Tryz.prog 34 #[.agg #[.int .i64 k, .int .i64 i, .int .u64 u, .string s, .slice a n c], .int .i64 12] w fun e w' => e = .returned (.agg (rErr 12 0 0 0)) ∧ Below w.heap.size w w' := by
  go_enter Tryz.func34, Tryz.ntmps34
  go_wp2
  exact bodyPost_ret (v := .agg (rErr 12 0 0 0)) (by simp [results, Tryz.results34, go_sem]) rfl ⟨rfl, below2 w _ _⟩

set_option maxRecDepth 100000 in
set_option maxHeartbeats 1000000 in
theorem told_14 (k i u : Int) (s : ByteArray) (a : Option Addr) (n c : Nat) (w : World) : Calls Tryz.prog 34 #[.agg #[.int .i64 k, .int .i64 i, .int .u64 u, .string s, .slice a n c], .int .i64 14] w fun e w' => e = .returned (.agg (rErr 14 0 0 0)) ∧ Below w.heap.size w w' := by
  go_enter Tryz.func34, Tryz.ntmps34
  go_wp2
  exact bodyPost_ret (v := .agg (rErr 14 0 0 0)) (by simp [results, Tryz.results34, go_sem]) rfl ⟨rfl, below2 w _ _⟩

set_option maxRecDepth 100000 in
set_option maxHeartbeats 1000000 in
theorem around_yes (k i u : Int) (s : ByteArray) (a : Option Addr) (n c : Nat) {m : Nat} (t : Dt.Tr m) (w : World) (hr : Dt.Rep w m [.int .i64 k, .int .i64 i, .int .u64 u, .string s, .slice a n c] t) (hT : Dt.Tab14 w) (hv : Dt.vB m t = true) : Calls Tryz.prog 81 #[.agg #[.int .i64 k, .int .i64 i, .int .u64 u, .string s, .slice a n c]] w fun e w' => e = .returned (.agg (rcs 0 0 0 0 true k i u s a n c)) ∧ Below w.heap.size w w' := by
  have B0 := below2 w (.cells #[.int .i64 k, .int .i64 i, .int .u64 u, .string s, .slice a n c] 25) (.cells (rErr 0 0 0 0) 33)
  have D0 : Bk ((w.alloc (.cells #[.int .i64 k, .int .i64 i, .int .u64 u, .string s, .slice a n c] 25)).alloc (.cells (rErr 0 0 0 0) 33)) w.heap.size #[.int .i64 k, .int .i64 i, .int .u64 u, .string s, .slice a n c] 25 := (Bk.new w _ _).alloc _
  have R0 := Bk.new2 w (.cells #[.int .i64 k, .int .i64 i, .int .u64 u, .string s, .slice a n c] 25) (rErr 0 0 0 0) 33
  go_enter Tryz.func81, Tryz.ntmps81
  have HV := Lib.hid (Dt.ownValid m t _ _ _ _ _ _ (Dt.Rep.below B0 _ _ _ hr) (hT.below B0))
  rw [hv] at HV
  clear hr hT hv
  go_wp2_with fail
  refine HV.out.mono ?_
  rintro e w1 ⟨rfl, b1⟩
  have D1 := D0.step b1
  have RX := R0.step b1
  have BX := B0.trans (b1.mono B0.size)
  clear b1 B0 R0 D0 HV
  obtain ⟨d0, d1, d2, d3, d4⟩ := D1.c5
  go_wp2_with fail
  clear D1 d0 d1 d2 d3 d4
  refine (told_ok k i u s a n c _).mono ?_
  rintro e w2 ⟨rfl, b2⟩
  have r2 := RX.step b2
  have B2 := BX.trans (b2.mono BX.size)
  obtain ⟨c0, c1, c2, c3, c4, c5, c6, c7, c8, c9⟩ := r2.c10
  have z2 := r2.f
  go_wp2_with fail
  obtain ⟨k1, k2, k3, k4⟩ := set10 r2 (.int .i64 0) (.int .i64 0) (.int .i64 0) (.int .i64 0) (.bool true) (.int .i64 k) (.int .i64 i) (.int .u64 u) (.string s) (.slice a n c) rfl
  have KF := B2.trans (k4.mono (by omega))
  obtain ⟨q0, q1, q2, q3, q4, q5, q6, q7, q8, q9⟩ := k1.c10
  refine bodyPost_ret (v := .agg (rcs 0 0 0 0 true k i u s a n c)) ?_ rfl ⟨rfl, KF⟩
  simp [results, Tryz.results81, go_sem, q0, q1, q2, q3, q4, q5, q6, q7, q8, q9]

set_option maxRecDepth 100000 in
set_option maxHeartbeats 1000000 in
theorem around_no (k i u : Int) (s : ByteArray) (a : Option Addr) (n c : Nat) {m : Nat} (t : Dt.Tr m) (w : World) (hr : Dt.Rep w m [.int .i64 k, .int .i64 i, .int .u64 u, .string s, .slice a n c] t) (hT : Dt.Tab14 w) (hv : Dt.vB m t = false) : Calls Tryz.prog 81 #[.agg #[.int .i64 k, .int .i64 i, .int .u64 u, .string s, .slice a n c]] w fun e w' => e = .returned (.agg (rcs 14 0 0 0 false 0 0 0 ⟨#[]⟩ none 0 0)) ∧ Below w.heap.size w w' := by
  have B0 := below2 w (.cells #[.int .i64 k, .int .i64 i, .int .u64 u, .string s, .slice a n c] 25) (.cells (rErr 0 0 0 0) 33)
  have D0 : Bk ((w.alloc (.cells #[.int .i64 k, .int .i64 i, .int .u64 u, .string s, .slice a n c] 25)).alloc (.cells (rErr 0 0 0 0) 33)) w.heap.size #[.int .i64 k, .int .i64 i, .int .u64 u, .string s, .slice a n c] 25 := (Bk.new w _ _).alloc _
  have R0 := Bk.new2 w (.cells #[.int .i64 k, .int .i64 i, .int .u64 u, .string s, .slice a n c] 25) (rErr 0 0 0 0) 33
  go_enter Tryz.func81, Tryz.ntmps81
  have HV := Lib.hid (Dt.ownValid m t _ _ _ _ _ _ (Dt.Rep.below B0 _ _ _ hr) (hT.below B0))
  rw [hv] at HV
  clear hr hT hv
  go_wp2_with fail
  refine HV.out.mono ?_
  rintro e w1 ⟨rfl, b1⟩
  have D1 := D0.step b1
  have RX := R0.step b1
  have BX := B0.trans (b1.mono B0.size)
  clear b1 B0 R0 D0 HV
  obtain ⟨d0, d1, d2, d3, d4⟩ := D1.c5
  go_wp2_with fail
  clear D1 d0 d1 d2 d3 d4
  refine (told_14 k i u s a n c _).mono ?_
  rintro e w2 ⟨rfl, b2⟩
  have r2 := RX.step b2
  have B2 := BX.trans (b2.mono BX.size)
  obtain ⟨c0, c1, c2, c3, c4, c5, c6, c7, c8, c9⟩ := r2.c10
  have z2 := r2.f
  go_wp2_with fail
  obtain ⟨k1, k2, k3, k4⟩ := set10 r2 (.int .i64 14) (.int .i64 0) (.int .i64 0) (.int .i64 0) (.bool false) (.int .i64 0) (.int .i64 0) (.int .u64 0) (.string ⟨#[]⟩) (.slice none 0 0) rfl
  have KF := B2.trans (k4.mono (by omega))
  obtain ⟨q0, q1, q2, q3, q4, q5, q6, q7, q8, q9⟩ := k1.c10
  refine bodyPost_ret (v := .agg (rcs 14 0 0 0 false 0 0 0 ⟨#[]⟩ none 0 0)) ?_ rfl ⟨rfl, KF⟩
  simp [results, Tryz.results81, go_sem, q0, q1, q2, q3, q4, q5, q6, q7, q8, q9]

set_option maxRecDepth 100000 in
set_option maxHeartbeats 1000000 in
theorem nothing_any (tp : ByteArray) (k i u : Int) (s : ByteArray) (a : Option Addr) (n c : Nat) (w : World) : Calls Tryz.prog 49 #[.string tp, .agg #[.int .i64 k, .int .i64 i, .int .u64 u, .string s, .slice a n c]] w fun e w' => e = .returned (.agg (rErr 12 0 0 0)) ∧ Below w.heap.size w w' := by
  have B0 := below2 w (.cells #[.int .i64 k, .int .i64 i, .int .u64 u, .string s, .slice a n c] 25) (.cells (rErr 0 0 0 0) 33)
  have D0 : Bk ((w.alloc (.cells #[.int .i64 k, .int .i64 i, .int .u64 u, .string s, .slice a n c] 25)).alloc (.cells (rErr 0 0 0 0) 33)) w.heap.size #[.int .i64 k, .int .i64 i, .int .u64 u, .string s, .slice a n c] 25 := (Bk.new w _ _).alloc _
  have R0 := Bk.new2 w (.cells #[.int .i64 k, .int .i64 i, .int .u64 u, .string s, .slice a n c] 25) (rErr 0 0 0 0) 33
  go_enter Tryz.func49, Tryz.ntmps49
  go_wp2_with fail
  refine (told_12 0 0 0 ⟨#[]⟩ none 0 0 _).mono ?_
  rintro e w2 ⟨rfl, b2⟩
  have r2 := R0.step b2
  have B2 := B0.trans (b2.mono B0.size)
  obtain ⟨c0, c1, c2, c3, c4, c5, c6, c7, c8, c9⟩ := r2.c10
  have z2 := r2.f
  go_wp2_with fail
  obtain ⟨k1, k2, k3, k4⟩ := set10 r2 (.int .i64 12) (.int .i64 0) (.int .i64 0) (.int .i64 0) (.bool false) (.int .i64 0) (.int .i64 0) (.int .u64 0) (.string ⟨#[]⟩) (.slice none 0 0) rfl
  have KF := B2.trans (k4.mono (by omega))
  obtain ⟨q0, q1, q2, q3, q4, q5, q6, q7, q8, q9⟩ := k1.c10
  refine bodyPost_ret (v := .agg (rcs 12 0 0 0 false 0 0 0 ⟨#[]⟩ none 0 0)) ?_ rfl ⟨rfl, KF⟩
  simp [results, Tryz.results49, go_sem, q0, q1, q2, q3, q4, q5, q6, q7, q8, q9]

set_option maxRecDepth 100000 in
set_option maxHeartbeats 1000000 in
theorem keyKind_any (k : Int) (w : World) : Calls Tryz.prog 83 #[.int .i64 k] w fun e w' => e = .returned (.int .i64 (kyK k)) ∧ w' = w := by
  by_cases h1 : k = 1
  · subst h1
    go_enter Tryz.func83, Tryz.ntmps83
    go_wp2
    go_ret
    exact ⟨rfl, rfl⟩
  by_cases h4 : k = 4
  · subst h4
    go_enter Tryz.func83, Tryz.ntmps83
    go_wp2
    go_ret
    exact ⟨rfl, rfl⟩
  · have e : kyK k = k := by simp [kyK, h1, h4]
    rw [e]
    have g1 : (k == 1) = false := by simpa using h1
    have g4 : (k == 4) = false := by simpa using h4
    go_enter Tryz.func83, Tryz.ntmps83
    go_wp2
    go_ret
    exact ⟨rfl, rfl⟩

end Go.Proofs.YtajagjcfmaggiaaGreatDoor
