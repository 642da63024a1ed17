/- The law's nan over a valid value's tree; the conditions: the tree in memory and valid. -/
import Derived.Test.YtgpbnmlcfimnnaaDoorMir
import Derived.Test.YtgpbnmlcfimnnaaDoorKeys
namespace Go.Proofs.YtgpbnmlcfimnnaaDoor
open Go.RowKit
theorem nan3 (i u : Int) (s : ByteArray) (ad : Option Addr) (len cap : Nat) (w : World) :
    Calls Tryd.prog 21 #[.agg #[.int .i64 3, .int .i64 i, .int .u64 u, .string s, .slice ad len cap]] w fun e w' => e = .returned (.bool (nanB u)) ∧ Below w.heap.size w w' := by
  have hn : nanB u = ((bits .and .u64 u 9218868437227405312 == 9218868437227405312) && (bits .and .u64 u 4503599627370495 != 0)) := rfl
  by_cases h : bits .and .u64 u 9218868437227405312 = 9218868437227405312
  · have hn' : nanB u = (bits .and .u64 u 4503599627370495 != 0) := by rw [hn, h]; simp
    rw [hn']
    clear hn hn'
    go_enter Tryd.func21, Tryd.ntmps21
    go_wp2
    go_ret
    exact ⟨rfl, (Below.refl _ w).alloc (Nat.le_refl _) _⟩
  · have hn' : nanB u = false := by rw [hn]; simp [h]
    rw [hn']
    clear hn hn'
    go_enter Tryd.func21, Tryd.ntmps21
    go_wp2
    go_ret
    exact ⟨rfl, (Below.refl _ w).alloc (Nat.le_refl _) _⟩
theorem nanO (k i u : Int) (hk : k ≠ 3) (hk' : k ≠ 9) (s : ByteArray) (ad : Option Addr) (len cap : Nat) (w : World) :
    Calls Tryd.prog 21 #[.agg #[.int .i64 k, .int .i64 i, .int .u64 u, .string s, .slice ad len cap]] w fun e w' => e = .returned (.bool false) ∧ Below w.heap.size w w' := by
  go_enter Tryd.func21, Tryd.ntmps21
  go_wp2
  go_ret
  exact ⟨rfl, (Below.refl _ w).alloc (Nat.le_refl _) _⟩

set_option maxRecDepth 100000 in
set_option maxHeartbeats 2000000 in
theorem nan_any : ∀ (n : Nat) (t : Tr n) (v0 v1 v2 v3 v4 : Value) (w : World), rgt n t = true → Rep w n [v0, v1, v2, v3, v4] t →
    Calls Tryd.prog 21 #[.agg #[v0, v1, v2, v3, v4]] w fun e w' => e = .returned (.bool (nanT n t)) ∧ Below w.heap.size w w' := by
  intro n
  induction n with
  | zero => intro t; exact t.elim
  | succ n ih =>
    intro t v0 v1 v2 v3 v4 w hr h
    simp only [rgt, Bool.and_eq_true] at hr
    have ok := ok_plain hr.1
    obtain ⟨ad, cap, e, htx, hlen, hcap, hk⟩ := h
    simp only [List.cons.injEq, and_true] at e
    obtain ⟨rfl, rfl, rfl, rfl, rfl⟩ := e
    by_cases h3 : t.kd = 3
    · have hs : nanT (n + 1) t = nanB t.ut := by simp [nanT, h3]
      rw [hs, h3]
      exact nan3 _ _ _ _ _ _ _
    by_cases h9 : t.kd = 9
    case neg =>
      have hs : nanT (n + 1) t = false := by simp [nanT, h3, h9]
      rw [hs]
      exact nanO _ _ _ h3 h9 _ _ _ _ _
    have b0 : ∀ o1 : Obj, Below w.heap.size w (w.alloc o1) := fun o1 => below1 w o1
    have l2 : t.ks.length = 2 := ok.2.1 h9
    obtain ⟨s0, s1, ea⟩ := list_two l2
    have hs : nanT (n + 1) t = (nanT n s0 || nanT n s1) := by simp [nanT, h9, ea, nanP]
    rw [hs, h9, l2]
    rcases hk with hk | ⟨g, o, hk1, hk2⟩
    · rw [ea] at hk; cases hk
    subst hk1
    obtain ⟨v0, v1, v2, v3, v4, c0, c1, c2, c3, c4, ra0⟩ := hk2 0 s0 (by rw [ea]; rfl)
    obtain ⟨y0, y1, y2, y3, y4, d0, d1, d2, d3, d4, ra1⟩ := hk2 1 s1 (by rw [ea]; rfl)
    have hall := hr.2
    rw [ea] at hall
    simp only [List.all_cons, List.all_nil, Bool.and_true, Bool.and_eq_true] at hall
    simp only [Nat.zero_mul, Nat.one_mul, Nat.add_zero] at c0 c1 c2 c3 c4 d0 d1 d2 d3 d4
    have hg : g < w.heap.size := World.block_lt_of_cell? w _ c0
    have da := D5.new w (.int .i64 9) (.int .i64 t.it) (.int .u64 t.ut) (.string t.tx) (.slice (some ⟨g, o, none⟩) 2 cap)
    have KS : Hid (∀ w' : World, Below (w.alloc (.cells #[.int .i64 9, .int .i64 t.it, .int .u64 t.ut, .string t.tx, .slice (some ⟨g, o, none⟩) 2 cap] 25)).heap.size (w.alloc (.cells #[.int .i64 9, .int .i64 t.it, .int .u64 t.ut, .string t.tx, .slice (some ⟨g, o, none⟩) 2 cap] 25)) w' → w'.cell? ⟨w.heap.size, 0, none⟩ = some (.int .i64 9) ∧ w'.cell? ⟨w.heap.size, 4, none⟩ = some (.slice (some ⟨g, o, none⟩) 2 cap) ∧ w'.cell? ⟨g, o, none⟩ = some v0 ∧ w'.cell? ⟨g, o + 1, none⟩ = some v1 ∧ w'.cell? ⟨g, o + 2, none⟩ = some v2 ∧ w'.cell? ⟨g, o + 3, none⟩ = some v3 ∧ w'.cell? ⟨g, o + 4, none⟩ = some v4 ∧ w'.cell? ⟨g, o + 5, none⟩ = some y0 ∧ w'.cell? ⟨g, o + 5 + 1, none⟩ = some y1 ∧ w'.cell? ⟨g, o + 5 + 2, none⟩ = some y2 ∧ w'.cell? ⟨g, o + 5 + 3, none⟩ = some y3 ∧ w'.cell? ⟨g, o + 5 + 4, none⟩ = some y4) := fun w' h => by
      have hw : Below w.heap.size w w' := (b0 _).trans (h.mono (by simp))
      exact ⟨(da.below h).c.1, (da.below h).c.2.2.2.2, (hw.cell (p := ⟨g, o, none⟩) hg).trans c0, (hw.cell (p := ⟨g, o + 1, none⟩) hg).trans c1, (hw.cell (p := ⟨g, o + 2, none⟩) hg).trans c2, (hw.cell (p := ⟨g, o + 3, none⟩) hg).trans c3, (hw.cell (p := ⟨g, o + 4, none⟩) hg).trans c4, (hw.cell (p := ⟨g, o + 5, none⟩) hg).trans d0, (hw.cell (p := ⟨g, o + 5 + 1, none⟩) hg).trans d1, (hw.cell (p := ⟨g, o + 5 + 2, none⟩) hg).trans d2, (hw.cell (p := ⟨g, o + 5 + 3, none⟩) hg).trans d3, (hw.cell (p := ⟨g, o + 5 + 4, none⟩) hg).trans d4⟩
    have BF : Hid (∀ w' : World, Below (w.alloc (.cells #[.int .i64 9, .int .i64 t.it, .int .u64 t.ut, .string t.tx, .slice (some ⟨g, o, none⟩) 2 cap] 25)).heap.size (w.alloc (.cells #[.int .i64 9, .int .i64 t.it, .int .u64 t.ut, .string t.tx, .slice (some ⟨g, o, none⟩) 2 cap] 25)) w' → Below w.heap.size w w') := fun w' h => (b0 _).trans (h.mono (by simp))
    have KA : Hid (∀ wx : World, Below (w.alloc (.cells #[.int .i64 9, .int .i64 t.it, .int .u64 t.ut, .string t.tx, .slice (some ⟨g, o, none⟩) 2 cap] 25)).heap.size (w.alloc (.cells #[.int .i64 9, .int .i64 t.it, .int .u64 t.ut, .string t.tx, .slice (some ⟨g, o, none⟩) 2 cap] 25)) wx → Calls Tryd.prog 21 #[.agg #[v0, v1, v2, v3, v4]] wx fun e w' => e = .returned (.bool (nanT n s0)) ∧ Below (w.alloc (.cells #[.int .i64 9, .int .i64 t.it, .int .u64 t.ut, .string t.tx, .slice (some ⟨g, o, none⟩) 2 cap] 25)).heap.size (w.alloc (.cells #[.int .i64 9, .int .i64 t.it, .int .u64 t.ut, .string t.tx, .slice (some ⟨g, o, none⟩) 2 cap] 25)) w') := fun wx hx =>
      (ih s0 v0 v1 v2 v3 v4 wx hall.1 (Rep.below (BF.out _ hx) n _ _ ra0)).mono fun e w' ⟨he, hb'⟩ => ⟨he, hx.trans (hb'.mono hx.size)⟩
    have KB : Hid (∀ wx : World, Below (w.alloc (.cells #[.int .i64 9, .int .i64 t.it, .int .u64 t.ut, .string t.tx, .slice (some ⟨g, o, none⟩) 2 cap] 25)).heap.size (w.alloc (.cells #[.int .i64 9, .int .i64 t.it, .int .u64 t.ut, .string t.tx, .slice (some ⟨g, o, none⟩) 2 cap] 25)) wx → Calls Tryd.prog 21 #[.agg #[y0, y1, y2, y3, y4]] wx fun e w' => e = .returned (.bool (nanT n s1)) ∧ Below (w.alloc (.cells #[.int .i64 9, .int .i64 t.it, .int .u64 t.ut, .string t.tx, .slice (some ⟨g, o, none⟩) 2 cap] 25)).heap.size (w.alloc (.cells #[.int .i64 9, .int .i64 t.it, .int .u64 t.ut, .string t.tx, .slice (some ⟨g, o, none⟩) 2 cap] 25)) w') := fun wx hx =>
      (ih s1 y0 y1 y2 y3 y4 wx hall.2 (Rep.below (BF.out _ hx) n _ _ ra1)).mono fun e w' ⟨he, hb'⟩ => ⟨he, hx.trans (hb'.mono hx.size)⟩
    clear ih c0 c1 c2 c3 c4 d0 d1 d2 d3 d4 da ra0 ra1 hall hk2 hr ok hs h9 l2 ea b0 hlen h3
    generalize nanT n s0 = k0 at *
    generalize nanT n s1 = k1 at *
    obtain ⟨x0, x4, c0, c1, c2, c3, c4, d0, d1, d2, d3, d4⟩ := KS.out (w.alloc (.cells #[.int .i64 9, .int .i64 t.it, .int .u64 t.ut, .string t.tx, .slice (some ⟨g, o, none⟩) 2 cap] 25)) (Below.refl _ _)
    go_enter Tryd.func21, Tryd.ntmps21
    go_wp2_with fail
    refine (KA.out _ (Below.refl _ _)).mono ?_
    rintro e w1 ⟨rfl, b1⟩
    clear x0 x4 c0 c1 c2 c3 c4 d0 d1 d2 d3 d4
    obtain ⟨x0, x4, c0, c1, c2, c3, c4, d0, d1, d2, d3, d4⟩ := KS.out w1 b1
    cases k0 with
    | true =>
      go_wp2_with fail
      all_goals go_ret
      all_goals exact ⟨rfl, BF.out _ b1⟩
    | false =>
      go_wp2_with fail
      refine (KB.out _ b1).mono ?_
      rintro e w2 ⟨rfl, b2⟩
      go_wp2_with fail
      all_goals go_ret
      all_goals exact ⟨rfl, BF.out _ b2⟩
end Go.Proofs.YtgpbnmlcfimnnaaDoor
