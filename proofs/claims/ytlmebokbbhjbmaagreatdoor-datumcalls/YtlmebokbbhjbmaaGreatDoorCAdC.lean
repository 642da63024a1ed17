/- Add of two values' trees, the package's and the document's; the conditions: the trees in memory, valid. -/
import Derived.Test.YtlmebokbbhjbmaaGreatDoorCAdB
import Derived.Test.YtlmebokbbhjbmaaGreatDoorCHas
namespace Go.Proofs.YtlmebokbbhjbmaaGreatDoor.Dt
open Go.RowKit
theorem refHas5 (k : Int) : refHas k 5 = decide (k = 1 ∨ k = 3) := by
  rw [Bool.eq_iff_iff]
  simp [refHas]
theorem add_cases (x y : Nat) (T : TypeId) : (addF x y = 9221120237041090561 ∧ ∃ (R : World → Nat) (F : World → World), (∀ w, (binOp .add T (.float .f64 x) (.float .f64 y)).run Tryz.prog w = .ok (.float .f64 (R w)) (F w)) ∧ (∀ w, Below w.heap.size w (F w)) ∧ ∀ w, (FloatKind.f64.format.order (R w) (R w) != some Ordering.eq) = true) ∨
    ∃ (F : World → World), (∀ w, (binOp .add T (.float .f64 x) (.float .f64 y)).run Tryz.prog w = .ok (.float .f64 (addF x y)) (F w)) ∧ (∀ w, Below w.heap.size w (F w)) ∧ (FloatKind.f64.format.order (addF x y) (addF x y) != some Ordering.eq) = false := by
  cases h : FloatKind.f64.format.add x y with
  | some r =>
    cases hn : nanR r with
    | true => exact .inl ⟨by unfold addF; rw [h]; exact if_pos hn, fun _ => r, fun w => w, fun w => run_float_arith w .add T .f64 x y r h, fun w => Below.refl _ _, fun _ => hn⟩
    | false =>
      have e : addF x y = r := by unfold addF; rw [h]; exact if_neg (by rw [hn]; decide)
      rw [e]
      exact .inr ⟨fun w => w, fun w => run_float_arith w .add T .f64 x y r h, fun w => Below.refl _ _, hn⟩
  | none =>
    refine .inl ⟨by unfold addF; rw [h], fun w => Question.cut (.nanBits .f64 x y) (w.tape w.drawn (.nanBits .f64 x y)), fun w => w.drew, fun w => ?_, fun w => Below.drew (Below.refl _ _), fun w => nan_cut _⟩
    simp [binOp, Op.floatArith, h, Question.forced]
/-- What Add answers, in memory. -/
def AdA (w : World) (k i u k' j v : Int) (e : Ending) (w' : World) : Prop := ∃ (y0 y1 y2 : Int) (y3 : ByteArray) (y4 : Option Addr) (y5 y6 : Nat), e = .returned (.tuple #[.agg #[.int .i64 y0, .int .i64 y1, .int .u64 y2, .string y3, .slice y4 y5 y6], .int .i64 (addE k k')]) ∧ Hid (Rep w' 1 [.int .i64 y0, .int .i64 y1, .int .u64 y2, .string y3, .slice y4 y5 y6] (addT k i u k' j v)) ∧ Below w.heap.size w w'
theorem rep1 (w : World) (a b c : Int) : Rep w 1 [.int .i64 a, .int .i64 b, .int .u64 c, .string ⟨#[]⟩, .slice none 0 0] (lf a b c) := ⟨none, 0, rfl, Nat.zero_le _, Nat.le_refl _, Nat.zero_le _, .inl rfl⟩
theorem set5B {w W : World} {g : Nat} (h : Below w.heap.size w W) (hg : w.heap.size ≤ g) (v0 v1 v2 v3 v4 : Value) : Below w.heap.size w (((((W.setCell ⟨g, 0, none⟩ v0).setCell ⟨g, 1, none⟩ v1).setCell ⟨g, 2, none⟩ v2).setCell ⟨g, 3, none⟩ v3).setCell ⟨g, 4, none⟩ v4) := ((((h.setCell hg _).setCell hg _).setCell hg _).setCell hg _).setCell hg _
set_option maxRecDepth 100000 in
set_option maxHeartbeats 1000000 in
theorem refAd0 (k i u k' j v : Int) (s z : ByteArray) (ad bd : Option Addr) (len cap len' cap' : Nat) (w : World) (h5 : refHas k 5 = false) :
    Calls Tryz.prog 18 #[.agg #[.int .i64 k, .int .i64 i, .int .u64 u, .string s, .slice ad len cap], .agg #[.int .i64 k', .int .i64 j, .int .u64 v, .string z, .slice bd len' cap']] w fun e w' => e = .returned (.tuple #[zro, .int .i64 12]) ∧ Below w.heap.size w w' := by
  have B4 : Below w.heap.size w (((w.alloc (.cells #[.int .i64 k, .int .i64 i, .int .u64 u, .string s, .slice ad len cap] 25)).alloc (.cells #[.int .i64 k', .int .i64 j, .int .u64 v, .string z, .slice bd len' cap'] 25)).alloc (.cells #[.int .i64 0, .int .i64 0, .int .u64 0, .string ⟨#[]⟩, .slice none 0 0] 25)) := (((Below.refl _ w).alloc (Nat.le_refl _) _).alloc (by simp) _).alloc (by simp; omega) _
  have hg : w.heap.size ≤ w.heap.size + 1 + 1 := by omega
  have da := ((D5.new w (.int .i64 k) (.int .i64 i) (.int .u64 u) (.string s) (.slice ad len cap)).below (below1 _ (.cells #[.int .i64 k', .int .i64 j, .int .u64 v, .string z, .slice bd len' cap'] 25))).below (below1 _ (.cells #[.int .i64 0, .int .i64 0, .int .u64 0, .string ⟨#[]⟩, .slice none 0 0] 25))
  have db := (D5.new (w.alloc (.cells #[.int .i64 k, .int .i64 i, .int .u64 u, .string s, .slice ad len cap] 25)) (.int .i64 k') (.int .i64 j) (.int .u64 v) (.string z) (.slice bd len' cap')).below (below1 _ (.cells #[.int .i64 0, .int .i64 0, .int .u64 0, .string ⟨#[]⟩, .slice none 0 0] 25))
  have dr := D5.new ((w.alloc (.cells #[.int .i64 k, .int .i64 i, .int .u64 u, .string s, .slice ad len cap] 25)).alloc (.cells #[.int .i64 k', .int .i64 j, .int .u64 v, .string z, .slice bd len' cap'] 25)) (.int .i64 0) (.int .i64 0) (.int .u64 0) (.string ⟨#[]⟩) (.slice none 0 0)
  rw [World.size_alloc] at db
  rw [World.size_alloc, World.size_alloc] at dr
  have hsz := dr.lt
  have DR := Lib.hid dr
  go_enter Tryz.func18, Tryz.ntmps18
  go_wp2_with fail
  generalize (((w.alloc (.cells #[.int .i64 k, .int .i64 i, .int .u64 u, .string s, .slice ad len cap] 25)).alloc (.cells #[.int .i64 k', .int .i64 j, .int .u64 v, .string z, .slice bd len' cap'] 25)).alloc (.cells #[.int .i64 0, .int .i64 0, .int .u64 0, .string ⟨#[]⟩, .slice none 0 0] 25)) = W at *
  have HH := Lib.hid (fun w => refHas_any k 5 w)
  rw [h5] at HH
  clear h5
  refine (HH.out _).mono ?_
  rintro e w1 ⟨rfl, rfl⟩
  obtain ⟨x0, x1, x2, x3, x4⟩ := da.c
  obtain ⟨y0, y1, y2, y3, y4⟩ := db.c
  obtain ⟨d0, d1, d2, d3, d4⟩ := dr.c
  have fz : ∀ o, w1.frozen? ⟨w.heap.size + 1 + 1, o, none⟩ = false := fun o => dr.f (o := o)
  go_wp2
  refine bodyPost_ret (v := .tuple #[zro, .int .i64 12]) (by simp [zro, results, Tryz.results18, go_sem, World.cell?_setCell_same, World.cell?_setCell_other, d0, d1, d2, d3, d4]) rfl ⟨rfl, set5B B4 hg _ _ _ _ _⟩
set_option maxRecDepth 100000 in
set_option maxHeartbeats 1000000 in
theorem refAd15 (k i u k' j v : Int) (s z : ByteArray) (ad bd : Option Addr) (len cap len' cap' : Nat) (w : World) (h5 : refHas k 5 = true) (hk : k ≠ k') :
    Calls Tryz.prog 18 #[.agg #[.int .i64 k, .int .i64 i, .int .u64 u, .string s, .slice ad len cap], .agg #[.int .i64 k', .int .i64 j, .int .u64 v, .string z, .slice bd len' cap']] w fun e w' => e = .returned (.tuple #[zro, .int .i64 15]) ∧ Below w.heap.size w w' := by
  have B4 : Below w.heap.size w (((w.alloc (.cells #[.int .i64 k, .int .i64 i, .int .u64 u, .string s, .slice ad len cap] 25)).alloc (.cells #[.int .i64 k', .int .i64 j, .int .u64 v, .string z, .slice bd len' cap'] 25)).alloc (.cells #[.int .i64 0, .int .i64 0, .int .u64 0, .string ⟨#[]⟩, .slice none 0 0] 25)) := (((Below.refl _ w).alloc (Nat.le_refl _) _).alloc (by simp) _).alloc (by simp; omega) _
  have hg : w.heap.size ≤ w.heap.size + 1 + 1 := by omega
  have da := ((D5.new w (.int .i64 k) (.int .i64 i) (.int .u64 u) (.string s) (.slice ad len cap)).below (below1 _ (.cells #[.int .i64 k', .int .i64 j, .int .u64 v, .string z, .slice bd len' cap'] 25))).below (below1 _ (.cells #[.int .i64 0, .int .i64 0, .int .u64 0, .string ⟨#[]⟩, .slice none 0 0] 25))
  have db := (D5.new (w.alloc (.cells #[.int .i64 k, .int .i64 i, .int .u64 u, .string s, .slice ad len cap] 25)) (.int .i64 k') (.int .i64 j) (.int .u64 v) (.string z) (.slice bd len' cap')).below (below1 _ (.cells #[.int .i64 0, .int .i64 0, .int .u64 0, .string ⟨#[]⟩, .slice none 0 0] 25))
  have dr := D5.new ((w.alloc (.cells #[.int .i64 k, .int .i64 i, .int .u64 u, .string s, .slice ad len cap] 25)).alloc (.cells #[.int .i64 k', .int .i64 j, .int .u64 v, .string z, .slice bd len' cap'] 25)) (.int .i64 0) (.int .i64 0) (.int .u64 0) (.string ⟨#[]⟩) (.slice none 0 0)
  rw [World.size_alloc] at db
  rw [World.size_alloc, World.size_alloc] at dr
  have hsz := dr.lt
  have DR := Lib.hid dr
  go_enter Tryz.func18, Tryz.ntmps18
  go_wp2_with fail
  generalize (((w.alloc (.cells #[.int .i64 k, .int .i64 i, .int .u64 u, .string s, .slice ad len cap] 25)).alloc (.cells #[.int .i64 k', .int .i64 j, .int .u64 v, .string z, .slice bd len' cap'] 25)).alloc (.cells #[.int .i64 0, .int .i64 0, .int .u64 0, .string ⟨#[]⟩, .slice none 0 0] 25)) = W at *
  have HH := Lib.hid (fun w => refHas_any k 5 w)
  rw [h5] at HH
  clear h5
  refine (HH.out _).mono ?_
  rintro e w1 ⟨rfl, rfl⟩
  obtain ⟨x0, x1, x2, x3, x4⟩ := da.c
  obtain ⟨y0, y1, y2, y3, y4⟩ := db.c
  obtain ⟨d0, d1, d2, d3, d4⟩ := dr.c
  have fz : ∀ o, w1.frozen? ⟨w.heap.size + 1 + 1, o, none⟩ = false := fun o => dr.f (o := o)
  go_wp2
  refine bodyPost_ret (v := .tuple #[zro, .int .i64 15]) (by simp [zro, results, Tryz.results18, go_sem, World.cell?_setCell_same, World.cell?_setCell_other, d0, d1, d2, d3, d4]) rfl ⟨rfl, set5B B4 hg _ _ _ _ _⟩
set_option maxRecDepth 100000 in
set_option maxHeartbeats 1000000 in
theorem refAd1 (i u j v : Int) (s z : ByteArray) (ad bd : Option Addr) (len cap len' cap' : Nat) (w : World) :
    Calls Tryz.prog 18 #[.agg #[.int .i64 1, .int .i64 i, .int .u64 u, .string s, .slice ad len cap], .agg #[.int .i64 1, .int .i64 j, .int .u64 v, .string z, .slice bd len' cap']] w fun e w' => e = .returned (.tuple #[.agg #[.int .i64 1, .int .i64 (wrap64 (i + j)), .int .u64 0, .string ⟨#[]⟩, .slice none 0 0], .int .i64 0]) ∧ Below w.heap.size w w' := by
  have B4 : Below w.heap.size w (((w.alloc (.cells #[.int .i64 1, .int .i64 i, .int .u64 u, .string s, .slice ad len cap] 25)).alloc (.cells #[.int .i64 1, .int .i64 j, .int .u64 v, .string z, .slice bd len' cap'] 25)).alloc (.cells #[.int .i64 0, .int .i64 0, .int .u64 0, .string ⟨#[]⟩, .slice none 0 0] 25)) := (((Below.refl _ w).alloc (Nat.le_refl _) _).alloc (by simp) _).alloc (by simp; omega) _
  have hg : w.heap.size ≤ w.heap.size + 1 + 1 := by omega
  have da := ((D5.new w (.int .i64 1) (.int .i64 i) (.int .u64 u) (.string s) (.slice ad len cap)).below (below1 _ (.cells #[.int .i64 1, .int .i64 j, .int .u64 v, .string z, .slice bd len' cap'] 25))).below (below1 _ (.cells #[.int .i64 0, .int .i64 0, .int .u64 0, .string ⟨#[]⟩, .slice none 0 0] 25))
  have db := (D5.new (w.alloc (.cells #[.int .i64 1, .int .i64 i, .int .u64 u, .string s, .slice ad len cap] 25)) (.int .i64 1) (.int .i64 j) (.int .u64 v) (.string z) (.slice bd len' cap')).below (below1 _ (.cells #[.int .i64 0, .int .i64 0, .int .u64 0, .string ⟨#[]⟩, .slice none 0 0] 25))
  have dr := D5.new ((w.alloc (.cells #[.int .i64 1, .int .i64 i, .int .u64 u, .string s, .slice ad len cap] 25)).alloc (.cells #[.int .i64 1, .int .i64 j, .int .u64 v, .string z, .slice bd len' cap'] 25)) (.int .i64 0) (.int .i64 0) (.int .u64 0) (.string ⟨#[]⟩) (.slice none 0 0)
  rw [World.size_alloc] at db
  rw [World.size_alloc, World.size_alloc] at dr
  have hsz := dr.lt
  have DR := Lib.hid dr
  go_enter Tryz.func18, Tryz.ntmps18
  go_wp2_with fail
  generalize (((w.alloc (.cells #[.int .i64 1, .int .i64 i, .int .u64 u, .string s, .slice ad len cap] 25)).alloc (.cells #[.int .i64 1, .int .i64 j, .int .u64 v, .string z, .slice bd len' cap'] 25)).alloc (.cells #[.int .i64 0, .int .i64 0, .int .u64 0, .string ⟨#[]⟩, .slice none 0 0] 25)) = W at *
  have HH : Hid (∀ W, Calls Tryz.prog 30 #[.int .i64 1, .int .i64 5] W fun e w' => e = .returned (.bool true) ∧ w' = W) := fun W => refHas_any 1 5 W
  refine (HH.out _).mono ?_
  rintro e w1 ⟨rfl, rfl⟩
  obtain ⟨x0, x1, x2, x3, x4⟩ := da.c
  obtain ⟨y0, y1, y2, y3, y4⟩ := db.c
  obtain ⟨d0, d1, d2, d3, d4⟩ := dr.c
  have fz : ∀ o, w1.frozen? ⟨w.heap.size + 1 + 1, o, none⟩ = false := fun o => dr.f (o := o)
  go_wp2
  refine bodyPost_ret (v := .tuple #[.agg #[.int .i64 1, .int .i64 (wrap64 (i + j)), .int .u64 0, .string ⟨#[]⟩, .slice none 0 0], .int .i64 0]) (by simp [results, Tryz.results18, go_sem, World.cell?_setCell_same, World.cell?_setCell_other, d0, d1, d2, d3, d4]) rfl ⟨rfl, set5B B4 hg _ _ _ _ _⟩
set_option maxRecDepth 100000 in
set_option maxHeartbeats 1000000 in
theorem refAd3N (i u j v : Int) (s z : ByteArray) (ad bd : Option Addr) (len cap len' cap' : Nat) (w : World) (R : World → Nat) (F : World → World) (hx : ∀ w, (binOp .add 75 (.float .f64 u.toNat) (.float .f64 v.toNat)).run Tryz.prog w = .ok (.float .f64 (R w)) (F w)) (hF : ∀ w, Below w.heap.size w (F w)) (hn : ∀ w, (FloatKind.f64.format.order (R w) (R w) != some Ordering.eq) = true) :
    Calls Tryz.prog 18 #[.agg #[.int .i64 3, .int .i64 i, .int .u64 u, .string s, .slice ad len cap], .agg #[.int .i64 3, .int .i64 j, .int .u64 v, .string z, .slice bd len' cap']] w fun e w' => e = .returned (.tuple #[.agg #[.int .i64 3, .int .i64 0, .int .u64 9221120237041090561, .string ⟨#[]⟩, .slice none 0 0], .int .i64 0]) ∧ Below w.heap.size w w' := by
  have B4 : Below w.heap.size w (((w.alloc (.cells #[.int .i64 3, .int .i64 i, .int .u64 u, .string s, .slice ad len cap] 25)).alloc (.cells #[.int .i64 3, .int .i64 j, .int .u64 v, .string z, .slice bd len' cap'] 25)).alloc (.cells #[.int .i64 0, .int .i64 0, .int .u64 0, .string ⟨#[]⟩, .slice none 0 0] 25)) := (((Below.refl _ w).alloc (Nat.le_refl _) _).alloc (by simp) _).alloc (by simp; omega) _
  have hg : w.heap.size ≤ w.heap.size + 1 + 1 := by omega
  have da := ((D5.new w (.int .i64 3) (.int .i64 i) (.int .u64 u) (.string s) (.slice ad len cap)).below (below1 _ (.cells #[.int .i64 3, .int .i64 j, .int .u64 v, .string z, .slice bd len' cap'] 25))).below (below1 _ (.cells #[.int .i64 0, .int .i64 0, .int .u64 0, .string ⟨#[]⟩, .slice none 0 0] 25))
  have db := (D5.new (w.alloc (.cells #[.int .i64 3, .int .i64 i, .int .u64 u, .string s, .slice ad len cap] 25)) (.int .i64 3) (.int .i64 j) (.int .u64 v) (.string z) (.slice bd len' cap')).below (below1 _ (.cells #[.int .i64 0, .int .i64 0, .int .u64 0, .string ⟨#[]⟩, .slice none 0 0] 25))
  have dr := D5.new ((w.alloc (.cells #[.int .i64 3, .int .i64 i, .int .u64 u, .string s, .slice ad len cap] 25)).alloc (.cells #[.int .i64 3, .int .i64 j, .int .u64 v, .string z, .slice bd len' cap'] 25)) (.int .i64 0) (.int .i64 0) (.int .u64 0) (.string ⟨#[]⟩) (.slice none 0 0)
  rw [World.size_alloc] at db
  rw [World.size_alloc, World.size_alloc] at dr
  have hsz := dr.lt
  have DR := Lib.hid dr
  go_enter Tryz.func18, Tryz.ntmps18
  go_wp2_with fail
  generalize (((w.alloc (.cells #[.int .i64 3, .int .i64 i, .int .u64 u, .string s, .slice ad len cap] 25)).alloc (.cells #[.int .i64 3, .int .i64 j, .int .u64 v, .string z, .slice bd len' cap'] 25)).alloc (.cells #[.int .i64 0, .int .i64 0, .int .u64 0, .string ⟨#[]⟩, .slice none 0 0] 25)) = W at *
  have HH : Hid (∀ W, Calls Tryz.prog 30 #[.int .i64 3, .int .i64 5] W fun e w' => e = .returned (.bool true) ∧ w' = W) := fun W => refHas_any 3 5 W
  have hf := frombits9
  have ht := tobits
  refine (HH.out _).mono ?_
  rintro e w1 ⟨rfl, rfl⟩
  obtain ⟨x0, x1, x2, x3, x4⟩ := da.c
  obtain ⟨y0, y1, y2, y3, y4⟩ := db.c
  obtain ⟨d0, d1, d2, d3, d4⟩ := dr.c
  have fz : ∀ o, w1.frozen? ⟨w.heap.size + 1 + 1, o, none⟩ = false := fun o => dr.f (o := o)
  go_wp2
  have KF : Hid (∀ w', (fun W => W.cell? ⟨w.heap.size, 2, none⟩ = some (.int .u64 u) ∧ W.cell? ⟨w.heap.size + 1, 2, none⟩ = some (.int .u64 v)) w' → (fun W => W.cell? ⟨w.heap.size, 2, none⟩ = some (.int .u64 u) ∧ W.cell? ⟨w.heap.size + 1, 2, none⟩ = some (.int .u64 v)) (F w')) := fun w' h => ⟨((hF w').cell (World.block_lt_of_cell? w' _ h.1)).trans h.1, ((hF w').cell (World.block_lt_of_cell? w' _ h.2)).trans h.2⟩
  have HB := Lib.hid hF
  have HN := Lib.hid hn
  clear hF d0 d1 d2 d3 d4 fz
  clear x0 x1 x3 x4 y0 y1 y3 y4 da db dr KF hn
  go_region_with (fail)
  all_goals (
    have hn := HN.out
    have B5 : Below w1.heap.size w1 (F w1.drew) := (Below.drew (Below.refl _ w1)).trans (HB.out w1.drew)
    have D5 := DR.out.below B5
    obtain ⟨d0, d1, d2, d3, d4⟩ := D5.c
    have fz : ∀ o, (F w1.drew).frozen? ⟨w.heap.size + 1 + 1, o, none⟩ = false := fun o => D5.f (o := o)
    have B6 := B4.trans (B5.mono B4.size)
    go_wp2
    refine bodyPost_ret (v := .tuple #[.agg #[.int .i64 3, .int .i64 0, .int .u64 9221120237041090561, .string ⟨#[]⟩, .slice none 0 0], .int .i64 0]) (by simp [results, Tryz.results18, go_sem, World.cell?_setCell_same, World.cell?_setCell_other, d0, d1, d2, d3, d4]) rfl ⟨rfl, set5B B6 hg _ _ _ _ _⟩)
set_option maxRecDepth 100000 in
set_option maxHeartbeats 1000000 in
theorem refAd3R (i u j v : Int) (s z : ByteArray) (ad bd : Option Addr) (len cap len' cap' : Nat) (w : World) (r : Nat) (F : World → World) (hx : ∀ w, (binOp .add 75 (.float .f64 u.toNat) (.float .f64 v.toNat)).run Tryz.prog w = .ok (.float .f64 r) (F w)) (hF : ∀ w, Below w.heap.size w (F w)) (hn : (FloatKind.f64.format.order r r != some Ordering.eq) = false) :
    Calls Tryz.prog 18 #[.agg #[.int .i64 3, .int .i64 i, .int .u64 u, .string s, .slice ad len cap], .agg #[.int .i64 3, .int .i64 j, .int .u64 v, .string z, .slice bd len' cap']] w fun e w' => e = .returned (.tuple #[.agg #[.int .i64 3, .int .i64 0, .int .u64 (r : Nat), .string ⟨#[]⟩, .slice none 0 0], .int .i64 0]) ∧ Below w.heap.size w w' := by
  have B4 : Below w.heap.size w (((w.alloc (.cells #[.int .i64 3, .int .i64 i, .int .u64 u, .string s, .slice ad len cap] 25)).alloc (.cells #[.int .i64 3, .int .i64 j, .int .u64 v, .string z, .slice bd len' cap'] 25)).alloc (.cells #[.int .i64 0, .int .i64 0, .int .u64 0, .string ⟨#[]⟩, .slice none 0 0] 25)) := (((Below.refl _ w).alloc (Nat.le_refl _) _).alloc (by simp) _).alloc (by simp; omega) _
  have hg : w.heap.size ≤ w.heap.size + 1 + 1 := by omega
  have da := ((D5.new w (.int .i64 3) (.int .i64 i) (.int .u64 u) (.string s) (.slice ad len cap)).below (below1 _ (.cells #[.int .i64 3, .int .i64 j, .int .u64 v, .string z, .slice bd len' cap'] 25))).below (below1 _ (.cells #[.int .i64 0, .int .i64 0, .int .u64 0, .string ⟨#[]⟩, .slice none 0 0] 25))
  have db := (D5.new (w.alloc (.cells #[.int .i64 3, .int .i64 i, .int .u64 u, .string s, .slice ad len cap] 25)) (.int .i64 3) (.int .i64 j) (.int .u64 v) (.string z) (.slice bd len' cap')).below (below1 _ (.cells #[.int .i64 0, .int .i64 0, .int .u64 0, .string ⟨#[]⟩, .slice none 0 0] 25))
  have dr := D5.new ((w.alloc (.cells #[.int .i64 3, .int .i64 i, .int .u64 u, .string s, .slice ad len cap] 25)).alloc (.cells #[.int .i64 3, .int .i64 j, .int .u64 v, .string z, .slice bd len' cap'] 25)) (.int .i64 0) (.int .i64 0) (.int .u64 0) (.string ⟨#[]⟩) (.slice none 0 0)
  rw [World.size_alloc] at db
  rw [World.size_alloc, World.size_alloc] at dr
  have hsz := dr.lt
  have DR := Lib.hid dr
  go_enter Tryz.func18, Tryz.ntmps18
  go_wp2_with fail
  generalize (((w.alloc (.cells #[.int .i64 3, .int .i64 i, .int .u64 u, .string s, .slice ad len cap] 25)).alloc (.cells #[.int .i64 3, .int .i64 j, .int .u64 v, .string z, .slice bd len' cap'] 25)).alloc (.cells #[.int .i64 0, .int .i64 0, .int .u64 0, .string ⟨#[]⟩, .slice none 0 0] 25)) = W at *
  have HH : Hid (∀ W, Calls Tryz.prog 30 #[.int .i64 3, .int .i64 5] W fun e w' => e = .returned (.bool true) ∧ w' = W) := fun W => refHas_any 3 5 W
  have hf := frombits9
  have ht := tobits r
  refine (HH.out _).mono ?_
  rintro e w1 ⟨rfl, rfl⟩
  obtain ⟨x0, x1, x2, x3, x4⟩ := da.c
  obtain ⟨y0, y1, y2, y3, y4⟩ := db.c
  obtain ⟨d0, d1, d2, d3, d4⟩ := dr.c
  have fz : ∀ o, w1.frozen? ⟨w.heap.size + 1 + 1, o, none⟩ = false := fun o => dr.f (o := o)
  go_wp2
  have KF : Hid (∀ w', (fun W => W.cell? ⟨w.heap.size, 2, none⟩ = some (.int .u64 u) ∧ W.cell? ⟨w.heap.size + 1, 2, none⟩ = some (.int .u64 v)) w' → (fun W => W.cell? ⟨w.heap.size, 2, none⟩ = some (.int .u64 u) ∧ W.cell? ⟨w.heap.size + 1, 2, none⟩ = some (.int .u64 v)) (F w')) := fun w' h => ⟨((hF w').cell (World.block_lt_of_cell? w' _ h.1)).trans h.1, ((hF w').cell (World.block_lt_of_cell? w' _ h.2)).trans h.2⟩
  have HB := Lib.hid hF
  have HN := Lib.hid hn
  clear hF d0 d1 d2 d3 d4 fz
  clear x0 x1 x3 x4 y0 y1 y3 y4 da db dr KF hn
  go_region_with (fail)
  all_goals (
    have hn := HN.out
    have B5 : Below w1.heap.size w1 (F w1.drew) := (Below.drew (Below.refl _ w1)).trans (HB.out w1.drew)
    have D5 := DR.out.below B5
    obtain ⟨d0, d1, d2, d3, d4⟩ := D5.c
    have fz : ∀ o, (F w1.drew).frozen? ⟨w.heap.size + 1 + 1, o, none⟩ = false := fun o => D5.f (o := o)
    have B6 := B4.trans (B5.mono B4.size)
    go_wp2
    refine bodyPost_ret (v := .tuple #[.agg #[.int .i64 3, .int .i64 0, .int .u64 (r : Nat), .string ⟨#[]⟩, .slice none 0 0], .int .i64 0]) (by simp [results, Tryz.results18, go_sem, World.cell?_setCell_same, World.cell?_setCell_other, d0, d1, d2, d3, d4]) rfl ⟨rfl, set5B B6 hg _ _ _ _ _⟩)
set_option maxRecDepth 100000 in
set_option maxHeartbeats 1000000 in
theorem adNo (k i u k' j v : Int) (s z : ByteArray) (ad bd : Option Addr) (len cap len' cap' : Nat) (w : World)
    (hO : ∀ wx, Below w.heap.size w wx → Calls Tryz.prog 24 #[.agg #[.int .i64 k, .int .i64 i, .int .u64 u, .string s, .slice ad len cap]] wx fun e w' => ∃ v, e = .returned v ∧ Sx v ∧ Hid (∀ w, (Instr.typeAssert v 20 78 true).run Tryz.prog w = .ok (.tuple #[.nilIface, .bool false]) w) ∧ Below wx.heap.size wx w') :
    Calls Tryz.prog 17 #[.agg #[.int .i64 k, .int .i64 i, .int .u64 u, .string s, .slice ad len cap], .agg #[.int .i64 k', .int .i64 j, .int .u64 v, .string z, .slice bd len' cap']] w fun e w' => e = .returned (.tuple #[zro, .int .i64 12]) ∧ Below w.heap.size w w' := by
  have b0 : Below w.heap.size w (((w.alloc (.cells #[.int .i64 k, .int .i64 i, .int .u64 u, .string s, .slice ad len cap] 25)).alloc (.cells #[.int .i64 k', .int .i64 j, .int .u64 v, .string z, .slice bd len' cap'] 25)).alloc (.cells #[.int .i64 0, .int .i64 0, .int .u64 0, .string ⟨#[]⟩, .slice none 0 0] 25)) := (((Below.refl _ w).alloc (Nat.le_refl _) _).alloc (by simp) _).alloc (by simp; omega) _
  have dr := D5.new ((w.alloc (.cells #[.int .i64 k, .int .i64 i, .int .u64 u, .string s, .slice ad len cap] 25)).alloc (.cells #[.int .i64 k', .int .i64 j, .int .u64 v, .string z, .slice bd len' cap'] 25)) (.int .i64 0) (.int .i64 0) (.int .u64 0) (.string ⟨#[]⟩) (.slice none 0 0)
  rw [World.size_alloc, World.size_alloc] at dr
  have HO := Lib.hid hO
  clear hO
  go_enter Tryz.func17, Tryz.ntmps17
  go_wp2_with fail
  refine (HO.out _ b0).mono ?_
  rintro e w1 ⟨vv, rfl, hs, ha, b1⟩
  have D4 := dr.below b1
  have B4 := b0.trans (b1.mono (by simp; omega))
  obtain ⟨d0, d1, d2, d3, d4⟩ := D4.c
  have fz : ∀ o, w1.frozen? ⟨w.heap.size + 1 + 1, o, none⟩ = false := fun o => D4.f (o := o)
  clear dr b0 b1
  rcases hs with rfl | ⟨T, z, rfl⟩
  all_goals (
    have has := ha.out
    go_wp2
    refine bodyPost_ret (v := .tuple #[zro, .int .i64 12]) (by simp [zro, results, Tryz.results17, go_sem, World.cell?_setCell_same, World.cell?_setCell_other, d0, d1, d2, d3, d4]) rfl ⟨rfl, ?_⟩
    exact ((((B4.setCell (by show w.heap.size ≤ w.heap.size + 1 + 1; omega) _).setCell (by show w.heap.size ≤ w.heap.size + 1 + 1; omega) _).setCell (by show w.heap.size ≤ w.heap.size + 1 + 1; omega) _).setCell (by show w.heap.size ≤ w.heap.size + 1 + 1; omega) _).setCell (by show w.heap.size ≤ w.heap.size + 1 + 1; omega) _)

set_option maxRecDepth 100000 in
set_option maxHeartbeats 1000000 in
/-- The package's Add of two trees. -/
theorem ad_any (W0 : World) (m n : Nat) (t : Tr (m + 1)) (t' : Tr (n + 1)) (k i u k' j v : Int) (s z : ByteArray) (ad bd : Option Addr) (len cap len' cap' : Nat) (w : World) (hrg : rgt (m + 1) t = true) (hps : (pts (m + 1) t).1 ≤ 4096) (hrep : Rep W0 (m + 1) [.int .i64 k, .int .i64 i, .int .u64 u, .string s, .slice ad len cap] t)
    (hrg' : rgt (n + 1) t' = true) (hps' : (pts (n + 1) t').1 ≤ 4096) (hrep' : Rep W0 (n + 1) [.int .i64 k', .int .i64 j, .int .u64 v, .string z, .slice bd len' cap'] t') (hb : Below W0.heap.size W0 w) :
    Calls Tryz.prog 17 #[.agg #[.int .i64 k, .int .i64 i, .int .u64 u, .string s, .slice ad len cap], .agg #[.int .i64 k', .int .i64 j, .int .u64 v, .string z, .slice bd len' cap']] w fun e w' => AdA w k i u k' j v e w' := by
  have ek := (rep_eq hrep).1
  have ek' := (rep_eq hrep').1
  have hbd' := kd_bd hrg'
  have HOa : ∀ wx, Below w.heap.size w wx → Calls Tryz.prog 24 #[.agg #[.int .i64 k, .int .i64 i, .int .u64 u, .string s, .slice ad len cap]] wx fun e w' => ∃ v, e = .returned v ∧ Hid (VR (fun g => wx.heap.size ≤ g ∧ g < w'.heap.size) w' (m + 1) v t) ∧ Below wx.heap.size wx w' := fun wx hx => of_any W0 (m + 1) t k i u s ad len cap wx hrg hps hrep (hb.trans (hx.mono hb.size))
  have HOb : ∀ wx, Below w.heap.size w wx → Calls Tryz.prog 24 #[.agg #[.int .i64 k', .int .i64 j, .int .u64 v, .string z, .slice bd len' cap']] wx fun e w' => ((t'.kd = 0 ∧ e = .returned .nilIface) ∨ (t'.kd ≠ 0 ∧ ∃ q, e = .returned (.iface (tyk t'.kd) q))) ∧ Below wx.heap.size wx w' := fun wx hx => of_ty W0 n t' k' j v z bd len' cap' wx hrg' hps' hrep' (hb.trans (hx.mono hb.size))
  by_cases hk : k = 1 ∨ k = 3
  · by_cases he : k = k'
    · subst he
      have e2 : addE k k = 0 := by simp only [addE]; rw [if_neg (by omega), if_neg (by omega)]
      unfold AdA
      rw [e2]
      rcases hk with h | h
      · subst h
        have e1 : addT 1 i u 1 j v = lf 1 (wrap64 (i + j)) 0 := by simp [addT]
        rw [e1]
        exact adGo1S i u j v s z ad bd len cap len' cap' w
      · subst h
        have e1 : addT 3 i u 3 j v = lf 3 0 (addF u.toNat v.toNat : Nat) := by simp [addT]
        rw [e1]
        exact adGo3S i u j v s z ad bd len cap len' cap' w
    · have e2 : addE k k' = 15 := by simp only [addE]; rw [if_neg (by omega), if_pos he]
      have e1 : addT k i u k' j v = T0 := by simp only [addT]; rw [if_neg (by omega), if_neg (by omega)]
      unfold AdA
      rw [e2, e1]
      by_cases h0 : t'.kd = 0
      · have HA : ∀ wx, Below w.heap.size w wx → Calls Tryz.prog 24 #[.agg #[.int .i64 k', .int .i64 j, .int .u64 v, .string z, .slice bd len' cap']] wx fun e w' => e = .returned .nilIface ∧ Below wx.heap.size wx w' := fun wx hx => (HOb wx hx).mono fun e w' ⟨q, hb'⟩ => ⟨q.elim (fun q => q.2) (fun q => absurd h0 q.1), hb'⟩
        rcases hk with h | h
        · subst h; exact adGo1A _ _ _ _ _ _ _ _ _ _ _ _ _ _ HA
        · subst h; exact adGo3A _ _ _ _ _ _ _ _ _ _ _ _ _ _ HA
      · have HB : ∀ wx, Below w.heap.size w wx → Calls Tryz.prog 24 #[.agg #[.int .i64 k', .int .i64 j, .int .u64 v, .string z, .slice bd len' cap']] wx fun e w' => ∃ q, e = .returned (.iface (tyk t'.kd) q) ∧ Below wx.heap.size wx w' := fun wx hx => (HOb wx hx).mono fun e w' ⟨q, hb'⟩ => by
          obtain ⟨_, q, hq⟩ := q.resolve_left (fun q => h0 q.1)
          exact ⟨q, hq, hb'⟩
        have hne := tyk_ne (k := k) (by omega) (by omega) (k' := t'.kd) (by omega) hbd'.2 (by rw [← ek']; exact he)
        rcases hk with h | h
        · subst h; exact adGo1B _ _ _ _ _ _ _ _ _ _ _ _ _ _ _ hne HB
        · subst h; exact adGo3B _ _ _ _ _ _ _ _ _ _ _ _ _ _ _ hne HB
  · have e2 : addE k k' = 12 := by simp only [addE]; rw [if_pos (by omega)]
    have e1 : addT k i u k' j v = T0 := by simp only [addT]; rw [if_neg (by omega), if_neg (by omega)]
    unfold AdA
    rw [e2, e1]
    refine (adNo k i u k' j v s z ad bd len cap len' cap' w fun wx hx => (HOa wx hx).mono fun e w' ⟨vv, he, vr, hb'⟩ => ?_).mono fun e w' ⟨he, hb'⟩ => ⟨0, 0, 0, ⟨#[]⟩, none, 0, 0, he, rep0 _, hb'⟩
    rcases vr_cases vr.out with ⟨q, rfl⟩ | ⟨q, rfl⟩ | ⟨q, rfl⟩ | ⟨q, rfl⟩ | ⟨q, rfl⟩ | ⟨q, rfl⟩ | ⟨q, rfl⟩ | ⟨q, a, c, rfl⟩ | ⟨q, a, c, rfl⟩ | ⟨q, x, y, rfl, hx, hy⟩ | ⟨q, rfl⟩ | ⟨q, b, u, rfl, hh, hu⟩ | ⟨q, rfl⟩ | ⟨q, rfl⟩
    all_goals first | omega | exact ⟨_, he, .inl rfl, fun w => assert_nil Tryz.underlying78 (by kernel_rfl), hb'⟩ | exact ⟨_, he, .inr ⟨_, _, rfl⟩, fun w => run_typeAssert_lacksB Tryz.underlying78 (by kernel_rfl) (by kernel_rfl) _ _ w, hb'⟩
/-- The document's Add of any two. -/
theorem refAd_any (k i u k' j v : Int) (s z : ByteArray) (ad bd : Option Addr) (len cap len' cap' : Nat) (w : World) :
    Calls Tryz.prog 18 #[.agg #[.int .i64 k, .int .i64 i, .int .u64 u, .string s, .slice ad len cap], .agg #[.int .i64 k', .int .i64 j, .int .u64 v, .string z, .slice bd len' cap']] w fun e w' => AdA w k i u k' j v e w' := by
  by_cases hk : k = 1 ∨ k = 3
  · have h5 : refHas k 5 = true := by rw [refHas5]; exact decide_eq_true hk
    by_cases he : k = k'
    · subst he
      have e2 : addE k k = 0 := by simp only [addE]; rw [if_neg (by omega), if_neg (by omega)]
      unfold AdA
      rw [e2]
      rcases hk with h | h
      · subst h
        have e1 : addT 1 i u 1 j v = lf 1 (wrap64 (i + j)) 0 := by simp [addT]
        rw [e1]
        exact (refAd1 i u j v s z ad bd len cap len' cap' w).mono fun e w' ⟨he, hb'⟩ => ⟨1, wrap64 (i + j), 0, ⟨#[]⟩, none, 0, 0, he, rep1 _ _ _ _, hb'⟩
      · subst h
        have e1 : addT 3 i u 3 j v = lf 3 0 (addF u.toNat v.toNat : Nat) := by simp [addT]
        rw [e1]
        rcases add_cases u.toNat v.toNat 75 with ⟨e0, R, F, hx, hF, hn⟩ | ⟨F, hx, hF, hn⟩
        · rw [e0]
          exact (refAd3N i u j v s z ad bd len cap len' cap' w R F hx hF hn).mono fun e w' ⟨he, hb'⟩ => ⟨3, 0, 9221120237041090561, ⟨#[]⟩, none, 0, 0, he, rep1 _ _ _ _, hb'⟩
        · exact (refAd3R i u j v s z ad bd len cap len' cap' w _ F hx hF hn).mono fun e w' ⟨he, hb'⟩ => ⟨3, 0, (addF u.toNat v.toNat : Nat), ⟨#[]⟩, none, 0, 0, he, rep1 _ _ _ _, hb'⟩
    · have e2 : addE k k' = 15 := by simp only [addE]; rw [if_neg (by omega), if_pos he]
      have e1 : addT k i u k' j v = T0 := by simp only [addT]; rw [if_neg (by omega), if_neg (by omega)]
      unfold AdA
      rw [e2, e1]
      exact (refAd15 k i u k' j v s z ad bd len cap len' cap' w h5 he).mono fun e w' ⟨he, hb'⟩ => ⟨0, 0, 0, ⟨#[]⟩, none, 0, 0, he, rep0 _, hb'⟩
  · have h5 : refHas k 5 = false := by rw [refHas5]; exact decide_eq_false hk
    have e2 : addE k k' = 12 := by simp only [addE]; rw [if_pos (by omega)]
    have e1 : addT k i u k' j v = T0 := by simp only [addT]; rw [if_neg (by omega), if_neg (by omega)]
    unfold AdA
    rw [e2, e1]
    exact (refAd0 k i u k' j v s z ad bd len cap len' cap' w h5).mono fun e w' ⟨he, hb'⟩ => ⟨0, 0, 0, ⟨#[]⟩, none, 0, 0, he, rep0 _, hb'⟩
end Go.Proofs.YtlmebokbbhjbmaaGreatDoor.Dt
