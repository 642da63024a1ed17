/- Less of two values' trees, the package's and the document's; the conditions: the trees in memory, valid. -/
import Derived.Test.YtlmebokbbhjbmaaGreatDoorCLsA
import Derived.Test.YtlmebokbbhjbmaaGreatDoorDpF
namespace Go.Proofs.YtlmebokbbhjbmaaGreatDoor.Dt
open Go.RowKit
theorem less_same (k i u j v : Int) (hk : 1 ≤ k ∧ k ≤ 5) (s z : ByteArray) (ad bd : Option Addr) (len cap len' cap' : Nat) (w : World) :
    Calls Tryz.prog 15 #[.agg #[.int .i64 k, .int .i64 i, .int .u64 u, .string s, .slice ad len cap], .agg #[.int .i64 k, .int .i64 j, .int .u64 v, .string z, .slice bd len' cap']] w fun e w' => e = .returned (.tuple #[.bool (ltV k i u s j v z), .int .i64 0]) ∧ Below w.heap.size w w' := by
  obtain h | h | h | h | h : k = 1 ∨ k = 2 ∨ k = 3 ∨ k = 4 ∨ k = 5 := by omega
  · subst h; exact odLess1 _ _ _ _ _ _ _ _ _ _ _ _ _
  · subst h; exact odLess2 _ _ _ _ _ _ _ _ _ _ _ _ _
  · subst h; exact odLess3 _ _ _ _ _ _ _ _ _ _ _ _ _
  · subst h; exact odLess4 _ _ _ _ _ _ _ _ _ _ _ _ _
  · subst h; exact odLess5 _ _ _ _ _ _ _ _ _ _ _ _ _
theorem rep_eq {W : World} {m : Nat} {t : Tr (m + 1)} {k i u : Int} {s : ByteArray} {ad : Option Addr} {len cap : Nat} (h : Rep W (m + 1) [.int .i64 k, .int .i64 i, .int .u64 u, .string s, .slice ad len cap] t) : k = t.kd ∧ i = t.it ∧ u = t.ut ∧ s = t.tx ∧ len = t.ks.length := by
  obtain ⟨ad', cap', e, -⟩ := h
  simp only [List.cons.injEq, Value.int.injEq, Value.string.injEq, Value.slice.injEq, true_and, and_true] at e
  obtain ⟨h1, h2, h3, h4, h5, h6, h7⟩ := e
  exact ⟨h1, h2, h3, h4, h6⟩
theorem kd_bd {m : Nat} {t : Tr (m + 1)} (h : rgt (m + 1) t = true) : 0 ≤ t.kd ∧ t.kd ≤ 13 := by
  simp only [rgt, Bool.and_eq_true] at h
  have := ok_all h.1
  exact ⟨this.2.2.2.2.2.2.2.2.1, this.2.2.2.2.2.2.2.2.2⟩
theorem tyk_ne {k k' : Int} (h1 : 1 ≤ k) (h2 : k ≤ 5) (h3 : 1 ≤ k') (h4 : k' ≤ 13) (hne : k ≠ k') : tyk k' ≠ tyk k := by
  have a : k = 1 ∨ k = 2 ∨ k = 3 ∨ k = 4 ∨ k = 5 := by omega
  have b : k' = 1 ∨ k' = 2 ∨ k' = 3 ∨ k' = 4 ∨ k' = 5 ∨ k' = 6 ∨ k' = 7 ∨ k' = 8 ∨ k' = 9 ∨ k' = 10 ∨ k' = 11 ∨ k' = 12 ∨ k' = 13 := by omega
  rcases a with rfl | rfl | rfl | rfl | rfl <;> rcases b with rfl | rfl | rfl | rfl | rfl | rfl | rfl | rfl | rfl | rfl | rfl | rfl | rfl <;> first | (exact absurd rfl hne) | decide

set_option maxRecDepth 100000 in
set_option maxHeartbeats 1000000 in
/-- The package's Less of two trees. -/
theorem ls_any (W0 : World) (m n : Nat) (t : Tr (m + 1)) (t' : Tr (n + 1)) (k i u k' j v : Int) (s z : ByteArray) (ad bd : Option Addr) (len cap len' cap' : Nat) (w : World) (hrg : rgt (m + 1) t = true) (hps : (pts (m + 1) t).1 ≤ 4096) (hrep : Rep W0 (m + 1) [.int .i64 k, .int .i64 i, .int .u64 u, .string s, .slice ad len cap] t)
    (hrg' : rgt (n + 1) t' = true) (hps' : (pts (n + 1) t').1 ≤ 4096) (hrep' : Rep W0 (n + 1) [.int .i64 k', .int .i64 j, .int .u64 v, .string z, .slice bd len' cap'] t') (hb : Below W0.heap.size W0 w) :
    Calls Tryz.prog 15 #[.agg #[.int .i64 k, .int .i64 i, .int .u64 u, .string s, .slice ad len cap], .agg #[.int .i64 k', .int .i64 j, .int .u64 v, .string z, .slice bd len' cap']] w fun e w' => e = .returned (.tuple #[.bool (lesP k i u s k' j v z).1, .int .i64 (lesP k i u s k' j v z).2]) ∧ Below w.heap.size w w' := by
  have ek := (rep_eq hrep).1
  have ek' := (rep_eq hrep').1
  have hbd' := kd_bd hrg'
  have HOa : ∀ wx, Below w.heap.size w wx → Calls Tryz.prog 24 #[.agg #[.int .i64 k, .int .i64 i, .int .u64 u, .string s, .slice ad len cap]] wx fun e w' => ∃ v, e = .returned v ∧ Hid (VR (fun g => wx.heap.size ≤ g ∧ g < w'.heap.size) w' (m + 1) v t) ∧ Below wx.heap.size wx w' := fun wx hx => of_any W0 (m + 1) t k i u s ad len cap wx hrg hps hrep (hb.trans (hx.mono hb.size))
  have HOb : ∀ wx, Below w.heap.size w wx → Calls Tryz.prog 24 #[.agg #[.int .i64 k', .int .i64 j, .int .u64 v, .string z, .slice bd len' cap']] wx fun e w' => ((t'.kd = 0 ∧ e = .returned .nilIface) ∨ (t'.kd ≠ 0 ∧ ∃ q, e = .returned (.iface (tyk t'.kd) q))) ∧ Below wx.heap.size wx w' := fun wx hx => of_ty W0 n t' k' j v z bd len' cap' wx hrg' hps' hrep' (hb.trans (hx.mono hb.size))
  by_cases hk : 1 ≤ k ∧ k ≤ 5
  · by_cases he : k = k'
    · subst he
      have e1 : lesP k i u s k j v z = (ltV k i u s j v z, 0) := by simp [lesP, refHas4, hk]
      rw [e1]
      exact less_same k i u j v hk s z ad bd len cap len' cap' w
    · have e1 : lesP k i u s k' j v z = (false, 15) := by simp [lesP, refHas4, hk, he]
      rw [e1]
      by_cases h0 : t'.kd = 0
      · have HA : ∀ wx, Below w.heap.size w wx → Calls Tryz.prog 24 #[.agg #[.int .i64 k', .int .i64 j, .int .u64 v, .string z, .slice bd len' cap']] wx fun e w' => e = .returned .nilIface ∧ Below wx.heap.size wx w' := fun wx hx => (HOb wx hx).mono fun e w' ⟨q, hb'⟩ => ⟨q.elim (fun q => q.2) (fun q => absurd h0 q.1), hb'⟩
        obtain h | h | h | h | h : k = 1 ∨ k = 2 ∨ k = 3 ∨ k = 4 ∨ k = 5 := by omega
        · subst h; exact lsDiff1A _ _ _ _ _ _ _ _ _ _ _ _ _ _ HA
        · subst h; exact lsDiff2A _ _ _ _ _ _ _ _ _ _ _ _ _ _ HA
        · subst h; exact lsDiff3A _ _ _ _ _ _ _ _ _ _ _ _ _ _ HA
        · subst h; exact lsDiff4A _ _ _ _ _ _ _ _ _ _ _ _ _ _ HA
        · subst h; exact lsDiff5A _ _ _ _ _ _ _ _ _ _ _ _ _ _ HA
      · have HB : ∀ wx, Below w.heap.size w wx → Calls Tryz.prog 24 #[.agg #[.int .i64 k', .int .i64 j, .int .u64 v, .string z, .slice bd len' cap']] wx fun e w' => ∃ q, e = .returned (.iface (tyk t'.kd) q) ∧ Below wx.heap.size wx w' := fun wx hx => (HOb wx hx).mono fun e w' ⟨q, hb'⟩ => by
          obtain ⟨_, q, hq⟩ := q.resolve_left (fun q => h0 q.1)
          exact ⟨q, hq, hb'⟩
        have hne := tyk_ne hk.1 hk.2 (k' := t'.kd) (by omega) hbd'.2 (by rw [← ek']; exact he)
        obtain h | h | h | h | h : k = 1 ∨ k = 2 ∨ k = 3 ∨ k = 4 ∨ k = 5 := by omega
        · subst h; exact lsDiff1B _ _ _ _ _ _ _ _ _ _ _ _ _ _ _ hne HB
        · subst h; exact lsDiff2B _ _ _ _ _ _ _ _ _ _ _ _ _ _ _ hne HB
        · subst h; exact lsDiff3B _ _ _ _ _ _ _ _ _ _ _ _ _ _ _ hne HB
        · subst h; exact lsDiff4B _ _ _ _ _ _ _ _ _ _ _ _ _ _ _ hne HB
        · subst h; exact lsDiff5B _ _ _ _ _ _ _ _ _ _ _ _ _ _ _ hne HB
  · have e1 : lesP k i u s k' j v z = (false, 12) := by simp [lesP, refHas4, hk]
    rw [e1]
    refine lsNo k i u k' j v s z ad bd len cap len' cap' w fun wx hx => (HOa wx hx).mono fun e w' ⟨vv, he, vr, hb'⟩ => ?_
    rcases vr_cases vr.out with ⟨q, rfl⟩ | ⟨q, rfl⟩ | ⟨q, rfl⟩ | ⟨q, rfl⟩ | ⟨q, rfl⟩ | ⟨q, rfl⟩ | ⟨q, rfl⟩ | ⟨q, a, c, rfl⟩ | ⟨q, a, c, rfl⟩ | ⟨q, x, y, rfl, hx, hy⟩ | ⟨q, rfl⟩ | ⟨q, b, u, rfl, hh, hu⟩ | ⟨q, rfl⟩ | ⟨q, rfl⟩
    all_goals first | omega | exact ⟨_, he, .inl rfl, fun w => assert_nil Tryz.underlying71 (by kernel_rfl), hb'⟩ | exact ⟨_, he, .inr ⟨_, _, rfl⟩, fun w => run_typeAssert_lacksB Tryz.underlying71 (by kernel_rfl) (by kernel_rfl) _ _ w, hb'⟩

set_option maxRecDepth 100000 in
set_option maxHeartbeats 2000000 in
/-- The document's, of two floats. -/
theorem refLes3 (i u j v : Int) (s z : ByteArray) (ad bd : Option Addr) (len cap len' cap' : Nat) (w : World) :
    Calls Tryz.prog 16 #[.agg #[.int .i64 3, .int .i64 i, .int .u64 u, .string s, .slice ad len cap], .agg #[.int .i64 3, .int .i64 j, .int .u64 v, .string z, .slice bd len' cap']] w fun e w' => e = .returned (.tuple #[.bool (FloatKind.f64.format.order u.toNat v.toNat == some .lt), .int .i64 0]) ∧ Below w.heap.size w w' := by
  have hf := frombits
  have B := below2 w (.cells #[.int .i64 3, .int .i64 i, .int .u64 u, .string s, .slice ad len cap] 25) (.cells #[.int .i64 3, .int .i64 j, .int .u64 v, .string z, .slice bd len' cap'] 25)
  have HH : Hid (∀ W, Calls Tryz.prog 30 #[.int .i64 3, .int .i64 4] W fun e w' => e = .returned (.bool true) ∧ w' = W) := fun W => refHas_any 3 4 W
  go_enter Tryz.func16, Tryz.ntmps16
  go_wp2_with fail
  refine (HH.out _).mono ?_
  rintro e w1 ⟨rfl, rfl⟩
  go_wp2
  have da := (D5.new w (.int .i64 3) (.int .i64 i) (.int .u64 u) (.string s) (.slice ad len cap)).below (below1 _ (.cells #[.int .i64 3, .int .i64 j, .int .u64 v, .string z, .slice bd len' cap'] 25))
  have db := D5.new (w.alloc (.cells #[.int .i64 3, .int .i64 i, .int .u64 u, .string s, .slice ad len cap] 25)) (.int .i64 3) (.int .i64 j) (.int .u64 v) (.string z) (.slice bd len' cap')
  rw [World.size_alloc] at db
  obtain ⟨_, _, x2, _, _⟩ := da.c
  obtain ⟨_, _, y2, _, _⟩ := db.c
  clear da db
  go_region_held3 (fun W => W.cell? ⟨w.heap.size, 2, none⟩ = some (.int .u64 u) ∧ W.cell? ⟨w.heap.size + 1, 2, none⟩ = some (.int .u64 v)) (first | go_keep | exact ⟨x2, y2⟩) (fail)
  all_goals go_wp2
  all_goals go_ret2
  all_goals exact ⟨rfl, Below.drew B⟩
/-- The document's Less of any two. -/
theorem refLes_any (k i u k' j v : Int) (s z : ByteArray) (ad bd : Option Addr) (len cap len' cap' : Nat) (w : World) :
    Calls Tryz.prog 16 #[.agg #[.int .i64 k, .int .i64 i, .int .u64 u, .string s, .slice ad len cap], .agg #[.int .i64 k', .int .i64 j, .int .u64 v, .string z, .slice bd len' cap']] w fun e w' => e = .returned (.tuple #[.bool (lesP k i u s k' j v z).1, .int .i64 (lesP k i u s k' j v z).2]) ∧ Below w.heap.size w w' := by
  by_cases h3 : k = 3
  · subst h3
    by_cases hk : k' = 3
    · subst hk
      have e1 : lesP 3 i u s 3 j v z = (FloatKind.f64.format.order u.toNat v.toNat == some .lt, 0) := by simp [lesP, refHas4, ltV]
      rw [e1]
      exact refLes3 i u j v s z ad bd len cap len' cap' w
    · have e1 : lesP 3 i u s k' j v z = (false, 15) := by
        have : ¬ (3 : Int) = k' := fun e => hk e.symm
        simp [lesP, refHas4, this]
      rw [e1]
      have e2 : ((3 : Int) != k') = true := by simp; omega
      have B := below2 w (.cells #[.int .i64 3, .int .i64 i, .int .u64 u, .string s, .slice ad len cap] 25) (.cells #[.int .i64 k', .int .i64 j, .int .u64 v, .string z, .slice bd len' cap'] 25)
      have HH : Hid (∀ W, Calls Tryz.prog 30 #[.int .i64 3, .int .i64 4] W fun e w' => e = .returned (.bool true) ∧ w' = W) := fun W => refHas_any 3 4 W
      clear e1
      go_enter Tryz.func16, Tryz.ntmps16
      go_wp2_with fail
      refine (HH.out _).mono ?_
      rintro e w1 ⟨rfl, rfl⟩
      go_wp2
      go_ret2
      exact ⟨rfl, B⟩
  · exact refLes k i u k' j v s z ad bd len cap len' cap' w h3
end Go.Proofs.YtlmebokbbhjbmaaGreatDoor.Dt
