/- The document's key over a valid value's tree; the conditions: the tree in memory and valid. -/
import Derived.Test.YtgijdiplhcoojaaGreatDoorJca
import Derived.Test.YtgijdiplhcoojaaGreatDoorXVal
namespace Go.Proofs.YtgijdiplhcoojaaGreatDoor.Dt
open Go.RowKit

set_option maxRecDepth 100000 in
set_option maxHeartbeats 2000000 in
theorem rkey_any : ∀ (n : Nat) (t : Tr n) (v0 v1 v2 v3 v4 : Value) (w : World), rgt n t = true → Rep w n [v0, v1, v2, v3, v4] t →
    Calls Tryz.prog 35 #[.agg #[v0, v1, v2, v3, v4]] w fun e w' => e = .returned (.bool (keyT n t)) ∧ Below w.heap.size w w' := by
  intro n
  induction n with
  | zero => intro t; exact t.elim
  | succ n ih =>
    intro t v0 v1 v2 v3 v4 w hr h
    simp only [rgt, Bool.and_eq_true] at hr
    have ok := ok_plain hr.1
    obtain ⟨ad, cap, e, htx, hlen, hcap, hk⟩ := h
    simp only [List.cons.injEq, and_true] at e
    obtain ⟨rfl, rfl, rfl, rfl, rfl⟩ := e
    have b0 : ∀ o1 : Obj, Below w.heap.size w (w.alloc o1) := fun o1 => below1 w o1
    by_cases h9 : t.kd = 9
    case neg =>
      have n9 : (t.kd == 9) = false := by simpa using h9
      by_cases h7 : t.kd = 7
      · have hs : keyT (n + 1) t = false := by simp [keyT, h7]
        rw [hs, h7]
        clear hs h7 h9 n9 ok hr
        go_enter Tryz.func35, Tryz.ntmps35
        go_wp2_with fail
        all_goals go_ret
        all_goals exact ⟨rfl, b0 _⟩
      by_cases h8 : t.kd = 8
      · have hs : keyT (n + 1) t = false := by simp [keyT, h8]
        rw [hs, h8]
        clear hs h7 h8 h9 n9 ok hr
        go_enter Tryz.func35, Tryz.ntmps35
        go_wp2_with fail
        all_goals go_ret
        all_goals exact ⟨rfl, b0 _⟩
      · have hs : keyT (n + 1) t = true := by simp [keyT, h7, h8, h9]
        rw [hs]
        have n7 : (t.kd != 7) = true := by simpa using h7
        have n8 : (t.kd != 8) = true := by simpa using h8
        clear hs ok hr
        go_enter Tryz.func35, Tryz.ntmps35
        go_wp2_with fail
        all_goals go_ret
        all_goals exact ⟨rfl, b0 _⟩
    have l2 : t.ks.length = 2 := ok.2.1 h9
    obtain ⟨s0, s1, ea⟩ := list_two l2
    have hs : keyT (n + 1) t = (keyT n s0 && keyT n s1) := by simp [keyT, h9, ea, keyP]
    rw [hs, h9, l2]
    rcases hk with hk | ⟨g, o, hk1, hk2⟩
    · rw [ea] at hk; cases hk
    subst hk1
    obtain ⟨v0, v1, v2, v3, v4, c0, c1, c2, c3, c4, ra0⟩ := hk2 0 s0 (by rw [ea]; rfl)
    obtain ⟨y0, y1, y2, y3, y4, d0, d1, d2, d3, d4, ra1⟩ := hk2 1 s1 (by rw [ea]; rfl)
    have hall := hr.2
    rw [ea] at hall
    simp only [List.all_cons, List.all_nil, Bool.and_true, Bool.and_eq_true] at hall
    simp only [Nat.zero_mul, Nat.one_mul, Nat.add_zero] at c0 c1 c2 c3 c4 d0 d1 d2 d3 d4
    have hg : g < w.heap.size := World.block_lt_of_cell? w _ c0
    have da := D5.new w (.int .i64 9) (.int .i64 t.it) (.int .u64 t.ut) (.string t.tx) (.slice (some ⟨g, o, none⟩) 2 cap)
    have KS : Hid (∀ w' : World, Below (w.alloc (.cells #[.int .i64 9, .int .i64 t.it, .int .u64 t.ut, .string t.tx, .slice (some ⟨g, o, none⟩) 2 cap] 25)).heap.size (w.alloc (.cells #[.int .i64 9, .int .i64 t.it, .int .u64 t.ut, .string t.tx, .slice (some ⟨g, o, none⟩) 2 cap] 25)) w' → w'.cell? ⟨w.heap.size, 4, none⟩ = some (.slice (some ⟨g, o, none⟩) 2 cap) ∧ w'.cell? ⟨g, o, none⟩ = some v0 ∧ w'.cell? ⟨g, o + 1, none⟩ = some v1 ∧ w'.cell? ⟨g, o + 2, none⟩ = some v2 ∧ w'.cell? ⟨g, o + 3, none⟩ = some v3 ∧ w'.cell? ⟨g, o + 4, none⟩ = some v4 ∧ w'.cell? ⟨g, o + 5, none⟩ = some y0 ∧ w'.cell? ⟨g, o + 5 + 1, none⟩ = some y1 ∧ w'.cell? ⟨g, o + 5 + 2, none⟩ = some y2 ∧ w'.cell? ⟨g, o + 5 + 3, none⟩ = some y3 ∧ w'.cell? ⟨g, o + 5 + 4, none⟩ = some y4) := fun w' h => by
      have hw : Below w.heap.size w w' := (b0 _).trans (h.mono (by simp))
      exact ⟨(da.below h).c.2.2.2.2, (hw.cell (p := ⟨g, o, none⟩) hg).trans c0, (hw.cell (p := ⟨g, o + 1, none⟩) hg).trans c1, (hw.cell (p := ⟨g, o + 2, none⟩) hg).trans c2, (hw.cell (p := ⟨g, o + 3, none⟩) hg).trans c3, (hw.cell (p := ⟨g, o + 4, none⟩) hg).trans c4, (hw.cell (p := ⟨g, o + 5, none⟩) hg).trans d0, (hw.cell (p := ⟨g, o + 5 + 1, none⟩) hg).trans d1, (hw.cell (p := ⟨g, o + 5 + 2, none⟩) hg).trans d2, (hw.cell (p := ⟨g, o + 5 + 3, none⟩) hg).trans d3, (hw.cell (p := ⟨g, o + 5 + 4, none⟩) hg).trans d4⟩
    have BF : Hid (∀ w' : World, Below (w.alloc (.cells #[.int .i64 9, .int .i64 t.it, .int .u64 t.ut, .string t.tx, .slice (some ⟨g, o, none⟩) 2 cap] 25)).heap.size (w.alloc (.cells #[.int .i64 9, .int .i64 t.it, .int .u64 t.ut, .string t.tx, .slice (some ⟨g, o, none⟩) 2 cap] 25)) w' → Below w.heap.size w w') := fun w' h => (b0 _).trans (h.mono (by simp))
    have KA : Hid (∀ wx : World, Below (w.alloc (.cells #[.int .i64 9, .int .i64 t.it, .int .u64 t.ut, .string t.tx, .slice (some ⟨g, o, none⟩) 2 cap] 25)).heap.size (w.alloc (.cells #[.int .i64 9, .int .i64 t.it, .int .u64 t.ut, .string t.tx, .slice (some ⟨g, o, none⟩) 2 cap] 25)) wx → Calls Tryz.prog 35 #[.agg #[v0, v1, v2, v3, v4]] wx fun e w' => e = .returned (.bool (keyT n s0)) ∧ Below (w.alloc (.cells #[.int .i64 9, .int .i64 t.it, .int .u64 t.ut, .string t.tx, .slice (some ⟨g, o, none⟩) 2 cap] 25)).heap.size (w.alloc (.cells #[.int .i64 9, .int .i64 t.it, .int .u64 t.ut, .string t.tx, .slice (some ⟨g, o, none⟩) 2 cap] 25)) w') := fun wx hx =>
      (ih s0 v0 v1 v2 v3 v4 wx hall.1 (Rep.below (BF.out _ hx) n _ _ ra0)).mono fun e w' ⟨he, hb'⟩ => ⟨he, hx.trans (hb'.mono hx.size)⟩
    have KB : Hid (∀ wx : World, Below (w.alloc (.cells #[.int .i64 9, .int .i64 t.it, .int .u64 t.ut, .string t.tx, .slice (some ⟨g, o, none⟩) 2 cap] 25)).heap.size (w.alloc (.cells #[.int .i64 9, .int .i64 t.it, .int .u64 t.ut, .string t.tx, .slice (some ⟨g, o, none⟩) 2 cap] 25)) wx → Calls Tryz.prog 35 #[.agg #[y0, y1, y2, y3, y4]] wx fun e w' => e = .returned (.bool (keyT n s1)) ∧ Below (w.alloc (.cells #[.int .i64 9, .int .i64 t.it, .int .u64 t.ut, .string t.tx, .slice (some ⟨g, o, none⟩) 2 cap] 25)).heap.size (w.alloc (.cells #[.int .i64 9, .int .i64 t.it, .int .u64 t.ut, .string t.tx, .slice (some ⟨g, o, none⟩) 2 cap] 25)) w') := fun wx hx =>
      (ih s1 y0 y1 y2 y3 y4 wx hall.2 (Rep.below (BF.out _ hx) n _ _ ra1)).mono fun e w' ⟨he, hb'⟩ => ⟨he, hx.trans (hb'.mono hx.size)⟩
    clear ih c0 c1 c2 c3 c4 d0 d1 d2 d3 d4 da ra0 ra1 hall hk2 hr ok hs h9 l2 ea b0 hlen
    generalize keyT n s0 = k0 at *
    generalize keyT n s1 = k1 at *
    obtain ⟨x4, c0, c1, c2, c3, c4, d0, d1, d2, d3, d4⟩ := KS.out (w.alloc (.cells #[.int .i64 9, .int .i64 t.it, .int .u64 t.ut, .string t.tx, .slice (some ⟨g, o, none⟩) 2 cap] 25)) (Below.refl _ _)
    have hz : w.heap.size < w.heap.size + 1 := by omega
    go_enter Tryz.func35, Tryz.ntmps35
    go_wp2_with fail
    refine (KA.out _ (Below.refl _ _)).mono ?_
    rintro e w1 ⟨rfl, b1⟩
    clear x4 c0 c1 c2 c3 c4 d0 d1 d2 d3 d4
    obtain ⟨x4, c0, c1, c2, c3, c4, d0, d1, d2, d3, d4⟩ := KS.out w1 b1
    cases k0 with
    | false =>
      go_wp2_with fail
      all_goals go_ret
      all_goals exact ⟨rfl, BF.out _ b1⟩
    | true =>
      go_wp2_with fail
      refine (KB.out _ b1).mono ?_
      rintro e w2 ⟨rfl, b2⟩
      go_wp2_with fail
      all_goals go_ret
      all_goals exact ⟨rfl, BF.out _ b2⟩
end Go.Proofs.YtgijdiplhcoojaaGreatDoor.Dt
/- The document's Equal over two valid values' trees; the conditions: the trees in memory and valid. -/
namespace Go.Proofs.YtgijdiplhcoojaaGreatDoor.Dt
open Go.RowKit

set_option maxRecDepth 100000 in
set_option maxHeartbeats 2000000 in
theorem requal_any : ∀ (n m : Nat) (a : Tr n) (b : Tr m) (v0 v1 v2 v3 v4 x0 x1 x2 x3 x4 : Value) (w : World), rgt n a = true → rgt m b = true → Rep w n [v0, v1, v2, v3, v4] a → Rep w m [x0, x1, x2, x3, x4] b →
    Calls Tryz.prog 36 #[.agg #[v0, v1, v2, v3, v4], .agg #[x0, x1, x2, x3, x4]] w fun e w' => e = .returned (.tuple #[.bool (eqT n m a b).1, .int .i64 (eqT n m a b).2]) ∧ Below w.heap.size w w' := by
  intro n
  induction n with
  | zero => intro m a; exact a.elim
  | succ n ih =>
    intro m a b v0 v1 v2 v3 v4 x0 x1 x2 x3 x4 w ra rb ha hb
    match m, b, rb, hb with
    | m + 1, b, rb, hb =>
      simp only [rgt, Bool.and_eq_true] at ra rb
      have oa := ok_plain ra.1
      have ob := ok_plain rb.1
      obtain ⟨ad, cap, e, htx, hlen, hcap, hk⟩ := ha
      obtain ⟨bd, bcap, eb, htx', hlen', hcap', hk'⟩ := hb
      simp only [List.cons.injEq, and_true] at e eb
      obtain ⟨rfl, rfl, rfl, rfl, rfl⟩ := e
      obtain ⟨rfl, rfl, rfl, rfl, rfl⟩ := eb
      have HI := Lib.hid ih
      have HK := Lib.hid hk
      have HK' := Lib.hid hk'
      have HA := Lib.hid (And.intro ra.2 rb.2)
      clear ih hk hk' ra rb
      have b0 : ∀ o1 o2 : Obj, Below w.heap.size w ((w.alloc o1).alloc o2) := fun o1 o2 => ((Below.refl _ w).alloc (Nat.le_refl _) _).alloc (by simp) _
      by_cases h1 : a.kd = b.kd
      case neg =>
        have hs : eqT (n + 1) (m + 1) a b = (false, 0) := by simp [eqT, h1]
        rw [hs]
        have g : (a.kd != b.kd) = true := by simpa using h1
        clear hs oa ob
        go_enter Tryz.func36, Tryz.ntmps36
        go_wp2_with fail
        go_ret2
        exact ⟨rfl, b0 _ _⟩
      by_cases h7 : a.kd = 7
      · have hs : eqT (n + 1) (m + 1) a b = (false, 10) := by simp [eqT, ← h1, h7]
        rw [hs, ← h1, h7]
        clear hs oa ob h1 h7
        go_enter Tryz.func36, Tryz.ntmps36
        go_wp2_with fail
        go_ret2
        exact ⟨rfl, b0 _ _⟩
      by_cases h8 : a.kd = 8
      · have hs : eqT (n + 1) (m + 1) a b = (false, 10) := by simp [eqT, ← h1, h8]
        rw [hs, ← h1, h8]
        clear hs oa ob h1 h7 h8
        go_enter Tryz.func36, Tryz.ntmps36
        go_wp2_with fail
        go_ret2
        exact ⟨rfl, b0 _ _⟩
      by_cases h3 : a.kd = 3
      · have hs : eqT (n + 1) (m + 1) a b = (FloatKind.f64.format.order a.ut.toNat b.ut.toNat == some .eq, 0) := by simp [eqT, ← h1, h3]
        rw [hs, ← h1, h3]
        have f1 := frombits a.ut
        have f2 := frombits b.ut
        clear hs oa ob h1 h7 h8 h3
        go_enter Tryz.func36, Tryz.ntmps36
        go_wp2
        go_region_held3 (fun w' => w'.cell? ⟨w.heap.size, 2, none⟩ = some (.int .u64 a.ut) ∧ w'.cell? ⟨w.heap.size + 1, 2, none⟩ = some (.int .u64 b.ut)) (go_keep) (fail)
        all_goals go_wp2
        all_goals go_ret2
        all_goals exact ⟨rfl, (b0 _ _).drew⟩
      by_cases h9 : a.kd = 9
      case neg =>
        have hs : eqT (n + 1) (m + 1) a b = (a.it == b.it && a.tx == b.tx, 0) := by
          simp only [eqT]
          rw [if_neg (by simp [h1]), if_neg (by omega), if_neg h3, if_neg h9]
        rw [hs, h1]
        have q7 : (b.kd == 7) = false := by simp; omega
        have q8 : (b.kd == 8) = false := by simp; omega
        have q3 : (b.kd == 3) = false := by simp; omega
        have q9 : (b.kd == 9) = false := by simp; omega
        have n7 : ¬ b.kd = 7 := by omega
        have n8 : ¬ b.kd = 8 := by omega
        have n3 : ¬ b.kd = 3 := by omega
        have n9 : ¬ b.kd = 9 := by omega
        clear hs oa ob h1 h7 h8 h3 h9
        by_cases hi : a.it = b.it
        · rw [hi]
          by_cases ht : a.tx = b.tx
          · rw [ht, show (b.it == b.it && b.tx == b.tx) = true by simp [(ba_beq b.tx b.tx).2 rfl]]
            clear hi ht
            go_enter Tryz.func36, Tryz.ntmps36
            go_wp2_with fail
            all_goals go_ret2
            all_goals exact ⟨rfl, b0 _ _⟩
          · have g := toList_ne ht
            have g' : ¬ a.tx.toList = b.tx.toList := by simpa using g
            have g2 : (a.tx == b.tx) = false := by
              cases hq : a.tx == b.tx with
              | false => rfl
              | true => exact absurd ((ba_beq _ _).1 hq) ht
            rw [g2, Bool.and_false]
            clear hi ht
            go_enter Tryz.func36, Tryz.ntmps36
            go_wp2_with fail
            all_goals go_ret2
            all_goals exact ⟨rfl, b0 _ _⟩
        · have g : (a.it == b.it) = false := by simpa using hi
          rw [g, Bool.false_and]
          go_enter Tryz.func36, Tryz.ntmps36
          go_wp2_with fail
          all_goals go_ret2
          all_goals exact ⟨rfl, b0 _ _⟩
      have h9b : b.kd = 9 := h1.symm.trans h9
      have la : a.ks.length = 2 := oa.2.1 h9
      have lb : b.ks.length = 2 := ob.2.1 h9b
      obtain ⟨s0, s1, ea⟩ := list_two la
      obtain ⟨r0, r1, eb⟩ := list_two lb
      have hs : eqT (n + 1) (m + 1) a b = eqP (eqT n m) [s0, s1] [r0, r1] := by simp [eqT, h9, h9b, ea, eb]
      rw [hs, h9, h9b]
      have hka := HK.out
      have hkb := HK'.out
      rcases hka with hka | ⟨g, o, hka1, hka2⟩
      · rw [ea] at hka; cases hka
      rcases hkb with hkb | ⟨p, q, hkb1, hkb2⟩
      · rw [eb] at hkb; cases hkb
      subst hka1; subst hkb1
      obtain ⟨v0, v1, v2, v3, v4, c0, c1, c2, c3, c4, ra0⟩ := hka2 0 s0 (by rw [ea]; rfl)
      obtain ⟨y0, y1, y2, y3, y4, d0, d1, d2, d3, d4, ra1⟩ := hka2 1 s1 (by rw [ea]; rfl)
      obtain ⟨k0, k1, k2, k3, k4, e0, e1, e2, e3, e4, rb0⟩ := hkb2 0 r0 (by rw [eb]; rfl)
      obtain ⟨z0, z1, z2, z3, z4, f0, f1, f2, f3, f4, rb1⟩ := hkb2 1 r1 (by rw [eb]; rfl)
      obtain ⟨g1a, g1b⟩ := HA.out
      rw [ea] at g1a
      rw [eb] at g1b
      simp only [List.all_cons, List.all_nil, Bool.and_true, Bool.and_eq_true] at g1a g1b
      simp only [Nat.zero_mul, Nat.one_mul, Nat.add_zero] at c0 c1 c2 c3 c4 d0 d1 d2 d3 d4 e0 e1 e2 e3 e4 f0 f1 f2 f3 f4
      have hg : g < w.heap.size := World.block_lt_of_cell? w _ c0
      have hp : p < w.heap.size := World.block_lt_of_cell? w _ e0
      clear HK HK' HA hka2 hkb2 hs oa ob h1 h7 h8 h3 h9 h9b ea eb
      rw [la, lb]
      clear la lb
      have da : D5 ((w.alloc (.cells #[.int .i64 9, .int .i64 a.it, .int .u64 a.ut, .string a.tx, .slice (some ⟨g, o, none⟩) 2 cap] 25)).alloc (.cells #[.int .i64 9, .int .i64 b.it, .int .u64 b.ut, .string b.tx, .slice (some ⟨p, q, none⟩) 2 bcap] 25)) w.heap.size (.int .i64 9) (.int .i64 a.it) (.int .u64 a.ut) (.string a.tx) (.slice (some ⟨g, o, none⟩) 2 cap) := (D5.new w _ _ _ _ _).below (below1 _ _)
      have db : D5 ((w.alloc (.cells #[.int .i64 9, .int .i64 a.it, .int .u64 a.ut, .string a.tx, .slice (some ⟨g, o, none⟩) 2 cap] 25)).alloc (.cells #[.int .i64 9, .int .i64 b.it, .int .u64 b.ut, .string b.tx, .slice (some ⟨p, q, none⟩) 2 bcap] 25)) (w.heap.size + 1) (.int .i64 9) (.int .i64 b.it) (.int .u64 b.ut) (.string b.tx) (.slice (some ⟨p, q, none⟩) 2 bcap) := by
        have := D5.new (w.alloc (.cells #[.int .i64 9, .int .i64 a.it, .int .u64 a.ut, .string a.tx, .slice (some ⟨g, o, none⟩) 2 cap] 25)) (.int .i64 9) (.int .i64 b.it) (.int .u64 b.ut) (.string b.tx) (.slice (some ⟨p, q, none⟩) 2 bcap)
        rw [World.size_alloc] at this
        exact this
      have KS : Hid (∀ w' : World, Below ((w.alloc (.cells #[.int .i64 9, .int .i64 a.it, .int .u64 a.ut, .string a.tx, .slice (some ⟨g, o, none⟩) 2 cap] 25)).alloc (.cells #[.int .i64 9, .int .i64 b.it, .int .u64 b.ut, .string b.tx, .slice (some ⟨p, q, none⟩) 2 bcap] 25)).heap.size ((w.alloc (.cells #[.int .i64 9, .int .i64 a.it, .int .u64 a.ut, .string a.tx, .slice (some ⟨g, o, none⟩) 2 cap] 25)).alloc (.cells #[.int .i64 9, .int .i64 b.it, .int .u64 b.ut, .string b.tx, .slice (some ⟨p, q, none⟩) 2 bcap] 25)) w' → w'.cell? ⟨w.heap.size, 4, none⟩ = some (.slice (some ⟨g, o, none⟩) 2 cap) ∧ w'.cell? ⟨w.heap.size + 1, 4, none⟩ = some (.slice (some ⟨p, q, none⟩) 2 bcap) ∧ w'.cell? ⟨g, o, none⟩ = some v0 ∧ w'.cell? ⟨g, o + 1, none⟩ = some v1 ∧ w'.cell? ⟨g, o + 2, none⟩ = some v2 ∧ w'.cell? ⟨g, o + 3, none⟩ = some v3 ∧ w'.cell? ⟨g, o + 4, none⟩ = some v4 ∧ w'.cell? ⟨p, q, none⟩ = some k0 ∧ w'.cell? ⟨p, q + 1, none⟩ = some k1 ∧ w'.cell? ⟨p, q + 2, none⟩ = some k2 ∧ w'.cell? ⟨p, q + 3, none⟩ = some k3 ∧ w'.cell? ⟨p, q + 4, none⟩ = some k4) := fun w' h => by
        have hw : Below w.heap.size w w' := (b0 _ _).trans (h.mono (by simp; omega))
        exact ⟨(da.below h).c.2.2.2.2, (db.below h).c.2.2.2.2, (hw.cell (p := ⟨g, o, none⟩) hg).trans c0, (hw.cell (p := ⟨g, o + 1, none⟩) hg).trans c1, (hw.cell (p := ⟨g, o + 2, none⟩) hg).trans c2, (hw.cell (p := ⟨g, o + 3, none⟩) hg).trans c3, (hw.cell (p := ⟨g, o + 4, none⟩) hg).trans c4, (hw.cell (p := ⟨p, q, none⟩) hp).trans e0, (hw.cell (p := ⟨p, q + 1, none⟩) hp).trans e1, (hw.cell (p := ⟨p, q + 2, none⟩) hp).trans e2, (hw.cell (p := ⟨p, q + 3, none⟩) hp).trans e3, (hw.cell (p := ⟨p, q + 4, none⟩) hp).trans e4⟩
      have KT : Hid (∀ w' : World, Below ((w.alloc (.cells #[.int .i64 9, .int .i64 a.it, .int .u64 a.ut, .string a.tx, .slice (some ⟨g, o, none⟩) 2 cap] 25)).alloc (.cells #[.int .i64 9, .int .i64 b.it, .int .u64 b.ut, .string b.tx, .slice (some ⟨p, q, none⟩) 2 bcap] 25)).heap.size ((w.alloc (.cells #[.int .i64 9, .int .i64 a.it, .int .u64 a.ut, .string a.tx, .slice (some ⟨g, o, none⟩) 2 cap] 25)).alloc (.cells #[.int .i64 9, .int .i64 b.it, .int .u64 b.ut, .string b.tx, .slice (some ⟨p, q, none⟩) 2 bcap] 25)) w' → w'.cell? ⟨w.heap.size, 4, none⟩ = some (.slice (some ⟨g, o, none⟩) 2 cap) ∧ w'.cell? ⟨w.heap.size + 1, 4, none⟩ = some (.slice (some ⟨p, q, none⟩) 2 bcap) ∧ w'.cell? ⟨g, o + 5, none⟩ = some y0 ∧ w'.cell? ⟨g, o + 5 + 1, none⟩ = some y1 ∧ w'.cell? ⟨g, o + 5 + 2, none⟩ = some y2 ∧ w'.cell? ⟨g, o + 5 + 3, none⟩ = some y3 ∧ w'.cell? ⟨g, o + 5 + 4, none⟩ = some y4 ∧ w'.cell? ⟨p, q + 5, none⟩ = some z0 ∧ w'.cell? ⟨p, q + 5 + 1, none⟩ = some z1 ∧ w'.cell? ⟨p, q + 5 + 2, none⟩ = some z2 ∧ w'.cell? ⟨p, q + 5 + 3, none⟩ = some z3 ∧ w'.cell? ⟨p, q + 5 + 4, none⟩ = some z4) := fun w' h => by
        have hw : Below w.heap.size w w' := (b0 _ _).trans (h.mono (by simp; omega))
        exact ⟨(da.below h).c.2.2.2.2, (db.below h).c.2.2.2.2, (hw.cell (p := ⟨g, o + 5, none⟩) hg).trans d0, (hw.cell (p := ⟨g, o + 5 + 1, none⟩) hg).trans d1, (hw.cell (p := ⟨g, o + 5 + 2, none⟩) hg).trans d2, (hw.cell (p := ⟨g, o + 5 + 3, none⟩) hg).trans d3, (hw.cell (p := ⟨g, o + 5 + 4, none⟩) hg).trans d4, (hw.cell (p := ⟨p, q + 5, none⟩) hp).trans f0, (hw.cell (p := ⟨p, q + 5 + 1, none⟩) hp).trans f1, (hw.cell (p := ⟨p, q + 5 + 2, none⟩) hp).trans f2, (hw.cell (p := ⟨p, q + 5 + 3, none⟩) hp).trans f3, (hw.cell (p := ⟨p, q + 5 + 4, none⟩) hp).trans f4⟩
      have BF : Hid (∀ w' : World, Below ((w.alloc (.cells #[.int .i64 9, .int .i64 a.it, .int .u64 a.ut, .string a.tx, .slice (some ⟨g, o, none⟩) 2 cap] 25)).alloc (.cells #[.int .i64 9, .int .i64 b.it, .int .u64 b.ut, .string b.tx, .slice (some ⟨p, q, none⟩) 2 bcap] 25)).heap.size ((w.alloc (.cells #[.int .i64 9, .int .i64 a.it, .int .u64 a.ut, .string a.tx, .slice (some ⟨g, o, none⟩) 2 cap] 25)).alloc (.cells #[.int .i64 9, .int .i64 b.it, .int .u64 b.ut, .string b.tx, .slice (some ⟨p, q, none⟩) 2 bcap] 25)) w' → Below w.heap.size w w') := fun w' h => (b0 _ _).trans (h.mono (by simp; omega))
      have bd : Below w.heap.size w ((w.alloc (.cells #[.int .i64 9, .int .i64 a.it, .int .u64 a.ut, .string a.tx, .slice (some ⟨g, o, none⟩) 2 cap] 25)).alloc (.cells #[.int .i64 9, .int .i64 b.it, .int .u64 b.ut, .string b.tx, .slice (some ⟨p, q, none⟩) 2 bcap] 25)).drew := (b0 _ _).drew
      have KC : Hid (Calls Tryz.prog 36 #[.agg #[v0, v1, v2, v3, v4], .agg #[k0, k1, k2, k3, k4]] ((w.alloc (.cells #[.int .i64 9, .int .i64 a.it, .int .u64 a.ut, .string a.tx, .slice (some ⟨g, o, none⟩) 2 cap] 25)).alloc (.cells #[.int .i64 9, .int .i64 b.it, .int .u64 b.ut, .string b.tx, .slice (some ⟨p, q, none⟩) 2 bcap] 25)).drew fun e w' => e = .returned (.tuple #[.bool (eqT n m s0 r0).1, .int .i64 (eqT n m s0 r0).2]) ∧ Below ((w.alloc (.cells #[.int .i64 9, .int .i64 a.it, .int .u64 a.ut, .string a.tx, .slice (some ⟨g, o, none⟩) 2 cap] 25)).alloc (.cells #[.int .i64 9, .int .i64 b.it, .int .u64 b.ut, .string b.tx, .slice (some ⟨p, q, none⟩) 2 bcap] 25)).heap.size ((w.alloc (.cells #[.int .i64 9, .int .i64 a.it, .int .u64 a.ut, .string a.tx, .slice (some ⟨g, o, none⟩) 2 cap] 25)).alloc (.cells #[.int .i64 9, .int .i64 b.it, .int .u64 b.ut, .string b.tx, .slice (some ⟨p, q, none⟩) 2 bcap] 25)) w') :=
        (HI.out m s0 r0 v0 v1 v2 v3 v4 k0 k1 k2 k3 k4 _ g1a.1 g1b.1 (Rep.below bd n _ _ ra0) (Rep.below bd m _ _ rb0)).mono fun e w' ⟨he, hb'⟩ => ⟨he, (Below.drew (Below.refl _ _)).trans hb'⟩
      have KD : Hid (∀ wx : World, Below ((w.alloc (.cells #[.int .i64 9, .int .i64 a.it, .int .u64 a.ut, .string a.tx, .slice (some ⟨g, o, none⟩) 2 cap] 25)).alloc (.cells #[.int .i64 9, .int .i64 b.it, .int .u64 b.ut, .string b.tx, .slice (some ⟨p, q, none⟩) 2 bcap] 25)).heap.size ((w.alloc (.cells #[.int .i64 9, .int .i64 a.it, .int .u64 a.ut, .string a.tx, .slice (some ⟨g, o, none⟩) 2 cap] 25)).alloc (.cells #[.int .i64 9, .int .i64 b.it, .int .u64 b.ut, .string b.tx, .slice (some ⟨p, q, none⟩) 2 bcap] 25)) wx → Calls Tryz.prog 36 #[.agg #[y0, y1, y2, y3, y4], .agg #[z0, z1, z2, z3, z4]] wx fun e w' => e = .returned (.tuple #[.bool (eqT n m s1 r1).1, .int .i64 (eqT n m s1 r1).2]) ∧ Below ((w.alloc (.cells #[.int .i64 9, .int .i64 a.it, .int .u64 a.ut, .string a.tx, .slice (some ⟨g, o, none⟩) 2 cap] 25)).alloc (.cells #[.int .i64 9, .int .i64 b.it, .int .u64 b.ut, .string b.tx, .slice (some ⟨p, q, none⟩) 2 bcap] 25)).heap.size ((w.alloc (.cells #[.int .i64 9, .int .i64 a.it, .int .u64 a.ut, .string a.tx, .slice (some ⟨g, o, none⟩) 2 cap] 25)).alloc (.cells #[.int .i64 9, .int .i64 b.it, .int .u64 b.ut, .string b.tx, .slice (some ⟨p, q, none⟩) 2 bcap] 25)) w') := fun wx hx =>
        (HI.out m s1 r1 y0 y1 y2 y3 y4 z0 z1 z2 z3 z4 wx g1a.2 g1b.2 (Rep.below (BF.out _ hx) n _ _ ra1) (Rep.below (BF.out _ hx) m _ _ rb1)).mono fun e w' ⟨he, hb'⟩ => ⟨he, hx.trans (hb'.mono hx.size)⟩
      clear c0 c1 c2 c3 c4 d0 d1 d2 d3 d4 e0 e1 e2 e3 e4 f0 f1 f2 f3 f4 da db ra0 ra1 rb0 rb1 g1a g1b HI b0 bd
      simp only [eqP]
      generalize eqT n m s0 r0 = R0 at *
      generalize eqT n m s1 r1 = R1 at *
      obtain ⟨fi, er⟩ := R0
      obtain ⟨f2, e2⟩ := R1
      by_cases hE : er = 0
      case neg =>
        have ge : (er != 0) = true := by simpa using hE
        rw [if_pos (Or.inl hE)]
        go_enter Tryz.func36, Tryz.ntmps36
        go_wp2_with fail
        go_region_held3 (fun w' => w'.cell? ⟨w.heap.size, 4, none⟩ = some (.slice (some ⟨g, o, none⟩) 2 cap) ∧ w'.cell? ⟨w.heap.size + 1, 4, none⟩ = some (.slice (some ⟨p, q, none⟩) 2 bcap) ∧ w'.cell? ⟨g, o, none⟩ = some v0 ∧ w'.cell? ⟨g, o + 1, none⟩ = some v1 ∧ w'.cell? ⟨g, o + 2, none⟩ = some v2 ∧ w'.cell? ⟨g, o + 3, none⟩ = some v3 ∧ w'.cell? ⟨g, o + 4, none⟩ = some v4 ∧ w'.cell? ⟨p, q, none⟩ = some k0 ∧ w'.cell? ⟨p, q + 1, none⟩ = some k1 ∧ w'.cell? ⟨p, q + 2, none⟩ = some k2 ∧ w'.cell? ⟨p, q + 3, none⟩ = some k3 ∧ w'.cell? ⟨p, q + 4, none⟩ = some k4) (first | exact KS.out _ (by assumption) | exact KS.out _ (Below.drew (Below.refl _ _))) ((go_at_call 36; refine KC.out.mono ?_; rintro e w1 ⟨rfl, b1⟩))
        all_goals go_wp2_with fail
        all_goals go_ret2
        all_goals exact ⟨rfl, BF.out _ b1⟩
      subst hE
      cases fi with
      | false =>
        rw [if_pos (Or.inr rfl)]
        go_enter Tryz.func36, Tryz.ntmps36
        go_wp2_with fail
        go_region_held3 (fun w' => w'.cell? ⟨w.heap.size, 4, none⟩ = some (.slice (some ⟨g, o, none⟩) 2 cap) ∧ w'.cell? ⟨w.heap.size + 1, 4, none⟩ = some (.slice (some ⟨p, q, none⟩) 2 bcap) ∧ w'.cell? ⟨g, o, none⟩ = some v0 ∧ w'.cell? ⟨g, o + 1, none⟩ = some v1 ∧ w'.cell? ⟨g, o + 2, none⟩ = some v2 ∧ w'.cell? ⟨g, o + 3, none⟩ = some v3 ∧ w'.cell? ⟨g, o + 4, none⟩ = some v4 ∧ w'.cell? ⟨p, q, none⟩ = some k0 ∧ w'.cell? ⟨p, q + 1, none⟩ = some k1 ∧ w'.cell? ⟨p, q + 2, none⟩ = some k2 ∧ w'.cell? ⟨p, q + 3, none⟩ = some k3 ∧ w'.cell? ⟨p, q + 4, none⟩ = some k4) (first | exact KS.out _ (by assumption) | exact KS.out _ (Below.drew (Below.refl _ _))) ((go_at_call 36; refine KC.out.mono ?_; rintro e w1 ⟨rfl, b1⟩))
        all_goals go_wp2_with fail
        all_goals go_ret2
        all_goals exact ⟨rfl, BF.out _ b1⟩
      | true =>
        rw [if_neg (by simp)]
        go_enter Tryz.func36, Tryz.ntmps36
        go_wp2_with fail
        go_region_held3 (fun w' => w'.cell? ⟨w.heap.size, 4, none⟩ = some (.slice (some ⟨g, o, none⟩) 2 cap) ∧ w'.cell? ⟨w.heap.size + 1, 4, none⟩ = some (.slice (some ⟨p, q, none⟩) 2 bcap) ∧ w'.cell? ⟨g, o, none⟩ = some v0 ∧ w'.cell? ⟨g, o + 1, none⟩ = some v1 ∧ w'.cell? ⟨g, o + 2, none⟩ = some v2 ∧ w'.cell? ⟨g, o + 3, none⟩ = some v3 ∧ w'.cell? ⟨g, o + 4, none⟩ = some v4 ∧ w'.cell? ⟨p, q, none⟩ = some k0 ∧ w'.cell? ⟨p, q + 1, none⟩ = some k1 ∧ w'.cell? ⟨p, q + 2, none⟩ = some k2 ∧ w'.cell? ⟨p, q + 3, none⟩ = some k3 ∧ w'.cell? ⟨p, q + 4, none⟩ = some k4) (first | exact KS.out _ (by assumption) | exact KS.out _ (Below.drew (Below.refl _ _))) ((go_at_call 36; refine KC.out.mono ?_; rintro e w1 ⟨rfl, b1⟩))
        all_goals go_wp2_with fail
        all_goals go_region_held3 (fun w' => w'.cell? ⟨w.heap.size, 4, none⟩ = some (.slice (some ⟨g, o, none⟩) 2 cap) ∧ w'.cell? ⟨w.heap.size + 1, 4, none⟩ = some (.slice (some ⟨p, q, none⟩) 2 bcap) ∧ w'.cell? ⟨g, o + 5, none⟩ = some y0 ∧ w'.cell? ⟨g, o + 5 + 1, none⟩ = some y1 ∧ w'.cell? ⟨g, o + 5 + 2, none⟩ = some y2 ∧ w'.cell? ⟨g, o + 5 + 3, none⟩ = some y3 ∧ w'.cell? ⟨g, o + 5 + 4, none⟩ = some y4 ∧ w'.cell? ⟨p, q + 5, none⟩ = some z0 ∧ w'.cell? ⟨p, q + 5 + 1, none⟩ = some z1 ∧ w'.cell? ⟨p, q + 5 + 2, none⟩ = some z2 ∧ w'.cell? ⟨p, q + 5 + 3, none⟩ = some z3 ∧ w'.cell? ⟨p, q + 5 + 4, none⟩ = some z4) (first | exact KT.out _ (by assumption) | exact KT.out _ (Below.drew (by assumption))) ((go_at_call 36; refine (KD.out _ (by first | assumption | exact Below.drew (by assumption))).mono ?_; rintro e w2 ⟨rfl, b2⟩))
        all_goals go_wp2_with fail
        all_goals go_ret2
        all_goals exact ⟨rfl, BF.out _ b2⟩
end Go.Proofs.YtgijdiplhcoojaaGreatDoor.Dt
