/- The law DatumCalls of two trees; the conditions: the trees lie in memory, their bits and numbers are within 64 bits, the tables lie as the program's text lays them. -/
import Derived.Test.YtlmebokbbhjbmaaGreatDoorCAdB
import Derived.Test.YtlmebokbbhjbmaaGreatDoorCLbA
import Derived.Test.YtlmebokbbhjbmaaGreatDoorCNil
import Derived.Test.YtlmebokbbhjbmaaGreatDoorAwAwake
namespace Go.Proofs.YtlmebokbbhjbmaaGreatDoor.Dt
open Go.RowKit
theorem refHas5 (k : Int) : refHas k 5 = decide (k = 1 ∨ k = 3) := by
  rw [Bool.eq_iff_iff]
  simp [refHas]
theorem add_cases (x y : Nat) (T : TypeId) : (addF x y = 9221120237041090561 ∧ ∃ (R : World → Nat) (F : World → World), (∀ w, (binOp .add T (.float .f64 x) (.float .f64 y)).run Tryz.prog w = .ok (.float .f64 (R w)) (F w)) ∧ (∀ w, Below w.heap.size w (F w)) ∧ ∀ w, (FloatKind.f64.format.order (R w) (R w) != some Ordering.eq) = true) ∨
    ∃ (F : World → World), (∀ w, (binOp .add T (.float .f64 x) (.float .f64 y)).run Tryz.prog w = .ok (.float .f64 (addF x y)) (F w)) ∧ (∀ w, Below w.heap.size w (F w)) ∧ (FloatKind.f64.format.order (addF x y) (addF x y) != some Ordering.eq) = false := by
  cases h : FloatKind.f64.format.add x y with
  | some r =>
    cases hn : nanR r with
    | true => exact .inl ⟨by unfold addF; rw [h]; exact if_pos hn, fun _ => r, fun w => w, fun w => run_float_arith w .add T .f64 x y r h, fun w => Below.refl _ _, fun _ => hn⟩
    | false =>
      have e : addF x y = r := by unfold addF; rw [h]; exact if_neg (by rw [hn]; decide)
      rw [e]
      exact .inr ⟨fun w => w, fun w => run_float_arith w .add T .f64 x y r h, fun w => Below.refl _ _, hn⟩
  | none =>
    refine .inl ⟨by unfold addF; rw [h], fun w => Question.cut (.nanBits .f64 x y) (w.tape w.drawn (.nanBits .f64 x y)), fun w => w.drew, fun w => ?_, fun w => Below.drew (Below.refl _ _), fun w => nan_cut _⟩
    simp [binOp, Op.floatArith, h, Question.forced]
/-- What Add answers, in memory. -/
def AdA (w : World) (k i u k' j v : Int) (e : Ending) (w' : World) : Prop := ∃ (y0 y1 y2 : Int) (y3 : ByteArray) (y4 : Option Addr) (y5 y6 : Nat), e = .returned (.tuple #[.agg #[.int .i64 y0, .int .i64 y1, .int .u64 y2, .string y3, .slice y4 y5 y6], .int .i64 (addE k k')]) ∧ Hid (Rep w' 1 [.int .i64 y0, .int .i64 y1, .int .u64 y2, .string y3, .slice y4 y5 y6] (addT k i u k' j v)) ∧ Below w.heap.size w w'
theorem rep1 (w : World) (a b c : Int) : Rep w 1 [.int .i64 a, .int .i64 b, .int .u64 c, .string ⟨#[]⟩, .slice none 0 0] (lf a b c) := ⟨none, 0, rfl, Nat.zero_le _, Nat.le_refl _, Nat.zero_le _, .inl rfl⟩
theorem set5B {w W : World} {g : Nat} (h : Below w.heap.size w W) (hg : w.heap.size ≤ g) (v0 v1 v2 v3 v4 : Value) : Below w.heap.size w (((((W.setCell ⟨g, 0, none⟩ v0).setCell ⟨g, 1, none⟩ v1).setCell ⟨g, 2, none⟩ v2).setCell ⟨g, 3, none⟩ v3).setCell ⟨g, 4, none⟩ v4) := ((((h.setCell hg _).setCell hg _).setCell hg _).setCell hg _).setCell hg _
set_option maxRecDepth 100000 in
set_option maxHeartbeats 1000000 in
theorem refAd0 (k i u k' j v : Int) (s z : ByteArray) (ad bd : Option Addr) (len cap len' cap' : Nat) (w : World) (h5 : refHas k 5 = false) :
    Calls Tryz.prog 18 #[.agg #[.int .i64 k, .int .i64 i, .int .u64 u, .string s, .slice ad len cap], .agg #[.int .i64 k', .int .i64 j, .int .u64 v, .string z, .slice bd len' cap']] w fun e w' => e = .returned (.tuple #[zro, .int .i64 12]) ∧ Below w.heap.size w w' := by
  have B4 : Below w.heap.size w (((w.alloc (.cells #[.int .i64 k, .int .i64 i, .int .u64 u, .string s, .slice ad len cap] 25)).alloc (.cells #[.int .i64 k', .int .i64 j, .int .u64 v, .string z, .slice bd len' cap'] 25)).alloc (.cells #[.int .i64 0, .int .i64 0, .int .u64 0, .string ⟨#[]⟩, .slice none 0 0] 25)) := (((Below.refl _ w).alloc (Nat.le_refl _) _).alloc (by simp) _).alloc (by simp; omega) _
  have hg : w.heap.size ≤ w.heap.size + 1 + 1 := by omega
  have da := ((D5.new w (.int .i64 k) (.int .i64 i) (.int .u64 u) (.string s) (.slice ad len cap)).below (below1 _ (.cells #[.int .i64 k', .int .i64 j, .int .u64 v, .string z, .slice bd len' cap'] 25))).below (below1 _ (.cells #[.int .i64 0, .int .i64 0, .int .u64 0, .string ⟨#[]⟩, .slice none 0 0] 25))
  have db := (D5.new (w.alloc (.cells #[.int .i64 k, .int .i64 i, .int .u64 u, .string s, .slice ad len cap] 25)) (.int .i64 k') (.int .i64 j) (.int .u64 v) (.string z) (.slice bd len' cap')).below (below1 _ (.cells #[.int .i64 0, .int .i64 0, .int .u64 0, .string ⟨#[]⟩, .slice none 0 0] 25))
  have dr := D5.new ((w.alloc (.cells #[.int .i64 k, .int .i64 i, .int .u64 u, .string s, .slice ad len cap] 25)).alloc (.cells #[.int .i64 k', .int .i64 j, .int .u64 v, .string z, .slice bd len' cap'] 25)) (.int .i64 0) (.int .i64 0) (.int .u64 0) (.string ⟨#[]⟩) (.slice none 0 0)
  rw [World.size_alloc] at db
  rw [World.size_alloc, World.size_alloc] at dr
  have hsz := dr.lt
  have DR := Lib.hid dr
  go_enter Tryz.func18, Tryz.ntmps18
  go_wp2_with fail
  generalize (((w.alloc (.cells #[.int .i64 k, .int .i64 i, .int .u64 u, .string s, .slice ad len cap] 25)).alloc (.cells #[.int .i64 k', .int .i64 j, .int .u64 v, .string z, .slice bd len' cap'] 25)).alloc (.cells #[.int .i64 0, .int .i64 0, .int .u64 0, .string ⟨#[]⟩, .slice none 0 0] 25)) = W at *
  have HH := Lib.hid (fun w => refHas_any k 5 w)
  rw [h5] at HH
  clear h5
  refine (HH.out _).mono ?_
  rintro e w1 ⟨rfl, rfl⟩
  obtain ⟨x0, x1, x2, x3, x4⟩ := da.c
  obtain ⟨y0, y1, y2, y3, y4⟩ := db.c
  obtain ⟨d0, d1, d2, d3, d4⟩ := dr.c
  have fz : ∀ o, w1.frozen? ⟨w.heap.size + 1 + 1, o, none⟩ = false := fun o => dr.f (o := o)
  go_wp2
  refine bodyPost_ret (v := .tuple #[zro, .int .i64 12]) (by simp [zro, results, Tryz.results18, go_sem, World.cell?_setCell_same, World.cell?_setCell_other, d0, d1, d2, d3, d4]) rfl ⟨rfl, set5B B4 hg _ _ _ _ _⟩
set_option maxRecDepth 100000 in
set_option maxHeartbeats 1000000 in
theorem refAd15 (k i u k' j v : Int) (s z : ByteArray) (ad bd : Option Addr) (len cap len' cap' : Nat) (w : World) (h5 : refHas k 5 = true) (hk : k ≠ k') :
    Calls Tryz.prog 18 #[.agg #[.int .i64 k, .int .i64 i, .int .u64 u, .string s, .slice ad len cap], .agg #[.int .i64 k', .int .i64 j, .int .u64 v, .string z, .slice bd len' cap']] w fun e w' => e = .returned (.tuple #[zro, .int .i64 15]) ∧ Below w.heap.size w w' := by
  have B4 : Below w.heap.size w (((w.alloc (.cells #[.int .i64 k, .int .i64 i, .int .u64 u, .string s, .slice ad len cap] 25)).alloc (.cells #[.int .i64 k', .int .i64 j, .int .u64 v, .string z, .slice bd len' cap'] 25)).alloc (.cells #[.int .i64 0, .int .i64 0, .int .u64 0, .string ⟨#[]⟩, .slice none 0 0] 25)) := (((Below.refl _ w).alloc (Nat.le_refl _) _).alloc (by simp) _).alloc (by simp; omega) _
  have hg : w.heap.size ≤ w.heap.size + 1 + 1 := by omega
  have da := ((D5.new w (.int .i64 k) (.int .i64 i) (.int .u64 u) (.string s) (.slice ad len cap)).below (below1 _ (.cells #[.int .i64 k', .int .i64 j, .int .u64 v, .string z, .slice bd len' cap'] 25))).below (below1 _ (.cells #[.int .i64 0, .int .i64 0, .int .u64 0, .string ⟨#[]⟩, .slice none 0 0] 25))
  have db := (D5.new (w.alloc (.cells #[.int .i64 k, .int .i64 i, .int .u64 u, .string s, .slice ad len cap] 25)) (.int .i64 k') (.int .i64 j) (.int .u64 v) (.string z) (.slice bd len' cap')).below (below1 _ (.cells #[.int .i64 0, .int .i64 0, .int .u64 0, .string ⟨#[]⟩, .slice none 0 0] 25))
  have dr := D5.new ((w.alloc (.cells #[.int .i64 k, .int .i64 i, .int .u64 u, .string s, .slice ad len cap] 25)).alloc (.cells #[.int .i64 k', .int .i64 j, .int .u64 v, .string z, .slice bd len' cap'] 25)) (.int .i64 0) (.int .i64 0) (.int .u64 0) (.string ⟨#[]⟩) (.slice none 0 0)
  rw [World.size_alloc] at db
  rw [World.size_alloc, World.size_alloc] at dr
  have hsz := dr.lt
  have DR := Lib.hid dr
  go_enter Tryz.func18, Tryz.ntmps18
  go_wp2_with fail
  generalize (((w.alloc (.cells #[.int .i64 k, .int .i64 i, .int .u64 u, .string s, .slice ad len cap] 25)).alloc (.cells #[.int .i64 k', .int .i64 j, .int .u64 v, .string z, .slice bd len' cap'] 25)).alloc (.cells #[.int .i64 0, .int .i64 0, .int .u64 0, .string ⟨#[]⟩, .slice none 0 0] 25)) = W at *
  have HH := Lib.hid (fun w => refHas_any k 5 w)
  rw [h5] at HH
  clear h5
  refine (HH.out _).mono ?_
  rintro e w1 ⟨rfl, rfl⟩
  obtain ⟨x0, x1, x2, x3, x4⟩ := da.c
  obtain ⟨y0, y1, y2, y3, y4⟩ := db.c
  obtain ⟨d0, d1, d2, d3, d4⟩ := dr.c
  have fz : ∀ o, w1.frozen? ⟨w.heap.size + 1 + 1, o, none⟩ = false := fun o => dr.f (o := o)
  go_wp2
  refine bodyPost_ret (v := .tuple #[zro, .int .i64 15]) (by simp [zro, results, Tryz.results18, go_sem, World.cell?_setCell_same, World.cell?_setCell_other, d0, d1, d2, d3, d4]) rfl ⟨rfl, set5B B4 hg _ _ _ _ _⟩
set_option maxRecDepth 100000 in
set_option maxHeartbeats 1000000 in
theorem refAd1 (i u j v : Int) (s z : ByteArray) (ad bd : Option Addr) (len cap len' cap' : Nat) (w : World) :
    Calls Tryz.prog 18 #[.agg #[.int .i64 1, .int .i64 i, .int .u64 u, .string s, .slice ad len cap], .agg #[.int .i64 1, .int .i64 j, .int .u64 v, .string z, .slice bd len' cap']] w fun e w' => e = .returned (.tuple #[.agg #[.int .i64 1, .int .i64 (wrap64 (i + j)), .int .u64 0, .string ⟨#[]⟩, .slice none 0 0], .int .i64 0]) ∧ Below w.heap.size w w' := by
  have B4 : Below w.heap.size w (((w.alloc (.cells #[.int .i64 1, .int .i64 i, .int .u64 u, .string s, .slice ad len cap] 25)).alloc (.cells #[.int .i64 1, .int .i64 j, .int .u64 v, .string z, .slice bd len' cap'] 25)).alloc (.cells #[.int .i64 0, .int .i64 0, .int .u64 0, .string ⟨#[]⟩, .slice none 0 0] 25)) := (((Below.refl _ w).alloc (Nat.le_refl _) _).alloc (by simp) _).alloc (by simp; omega) _
  have hg : w.heap.size ≤ w.heap.size + 1 + 1 := by omega
  have da := ((D5.new w (.int .i64 1) (.int .i64 i) (.int .u64 u) (.string s) (.slice ad len cap)).below (below1 _ (.cells #[.int .i64 1, .int .i64 j, .int .u64 v, .string z, .slice bd len' cap'] 25))).below (below1 _ (.cells #[.int .i64 0, .int .i64 0, .int .u64 0, .string ⟨#[]⟩, .slice none 0 0] 25))
  have db := (D5.new (w.alloc (.cells #[.int .i64 1, .int .i64 i, .int .u64 u, .string s, .slice ad len cap] 25)) (.int .i64 1) (.int .i64 j) (.int .u64 v) (.string z) (.slice bd len' cap')).below (below1 _ (.cells #[.int .i64 0, .int .i64 0, .int .u64 0, .string ⟨#[]⟩, .slice none 0 0] 25))
  have dr := D5.new ((w.alloc (.cells #[.int .i64 1, .int .i64 i, .int .u64 u, .string s, .slice ad len cap] 25)).alloc (.cells #[.int .i64 1, .int .i64 j, .int .u64 v, .string z, .slice bd len' cap'] 25)) (.int .i64 0) (.int .i64 0) (.int .u64 0) (.string ⟨#[]⟩) (.slice none 0 0)
  rw [World.size_alloc] at db
  rw [World.size_alloc, World.size_alloc] at dr
  have hsz := dr.lt
  have DR := Lib.hid dr
  go_enter Tryz.func18, Tryz.ntmps18
  go_wp2_with fail
  generalize (((w.alloc (.cells #[.int .i64 1, .int .i64 i, .int .u64 u, .string s, .slice ad len cap] 25)).alloc (.cells #[.int .i64 1, .int .i64 j, .int .u64 v, .string z, .slice bd len' cap'] 25)).alloc (.cells #[.int .i64 0, .int .i64 0, .int .u64 0, .string ⟨#[]⟩, .slice none 0 0] 25)) = W at *
  have HH : Hid (∀ W, Calls Tryz.prog 30 #[.int .i64 1, .int .i64 5] W fun e w' => e = .returned (.bool true) ∧ w' = W) := fun W => refHas_any 1 5 W
  refine (HH.out _).mono ?_
  rintro e w1 ⟨rfl, rfl⟩
  obtain ⟨x0, x1, x2, x3, x4⟩ := da.c
  obtain ⟨y0, y1, y2, y3, y4⟩ := db.c
  obtain ⟨d0, d1, d2, d3, d4⟩ := dr.c
  have fz : ∀ o, w1.frozen? ⟨w.heap.size + 1 + 1, o, none⟩ = false := fun o => dr.f (o := o)
  go_wp2
  refine bodyPost_ret (v := .tuple #[.agg #[.int .i64 1, .int .i64 (wrap64 (i + j)), .int .u64 0, .string ⟨#[]⟩, .slice none 0 0], .int .i64 0]) (by simp [results, Tryz.results18, go_sem, World.cell?_setCell_same, World.cell?_setCell_other, d0, d1, d2, d3, d4]) rfl ⟨rfl, set5B B4 hg _ _ _ _ _⟩
set_option maxRecDepth 100000 in
set_option maxHeartbeats 1000000 in
theorem refAd3N (i u j v : Int) (s z : ByteArray) (ad bd : Option Addr) (len cap len' cap' : Nat) (w : World) (R : World → Nat) (F : World → World) (hx : ∀ w, (binOp .add 75 (.float .f64 u.toNat) (.float .f64 v.toNat)).run Tryz.prog w = .ok (.float .f64 (R w)) (F w)) (hF : ∀ w, Below w.heap.size w (F w)) (hn : ∀ w, (FloatKind.f64.format.order (R w) (R w) != some Ordering.eq) = true) :
    Calls Tryz.prog 18 #[.agg #[.int .i64 3, .int .i64 i, .int .u64 u, .string s, .slice ad len cap], .agg #[.int .i64 3, .int .i64 j, .int .u64 v, .string z, .slice bd len' cap']] w fun e w' => e = .returned (.tuple #[.agg #[.int .i64 3, .int .i64 0, .int .u64 9221120237041090561, .string ⟨#[]⟩, .slice none 0 0], .int .i64 0]) ∧ Below w.heap.size w w' := by
  have B4 : Below w.heap.size w (((w.alloc (.cells #[.int .i64 3, .int .i64 i, .int .u64 u, .string s, .slice ad len cap] 25)).alloc (.cells #[.int .i64 3, .int .i64 j, .int .u64 v, .string z, .slice bd len' cap'] 25)).alloc (.cells #[.int .i64 0, .int .i64 0, .int .u64 0, .string ⟨#[]⟩, .slice none 0 0] 25)) := (((Below.refl _ w).alloc (Nat.le_refl _) _).alloc (by simp) _).alloc (by simp; omega) _
  have hg : w.heap.size ≤ w.heap.size + 1 + 1 := by omega
  have da := ((D5.new w (.int .i64 3) (.int .i64 i) (.int .u64 u) (.string s) (.slice ad len cap)).below (below1 _ (.cells #[.int .i64 3, .int .i64 j, .int .u64 v, .string z, .slice bd len' cap'] 25))).below (below1 _ (.cells #[.int .i64 0, .int .i64 0, .int .u64 0, .string ⟨#[]⟩, .slice none 0 0] 25))
  have db := (D5.new (w.alloc (.cells #[.int .i64 3, .int .i64 i, .int .u64 u, .string s, .slice ad len cap] 25)) (.int .i64 3) (.int .i64 j) (.int .u64 v) (.string z) (.slice bd len' cap')).below (below1 _ (.cells #[.int .i64 0, .int .i64 0, .int .u64 0, .string ⟨#[]⟩, .slice none 0 0] 25))
  have dr := D5.new ((w.alloc (.cells #[.int .i64 3, .int .i64 i, .int .u64 u, .string s, .slice ad len cap] 25)).alloc (.cells #[.int .i64 3, .int .i64 j, .int .u64 v, .string z, .slice bd len' cap'] 25)) (.int .i64 0) (.int .i64 0) (.int .u64 0) (.string ⟨#[]⟩) (.slice none 0 0)
  rw [World.size_alloc] at db
  rw [World.size_alloc, World.size_alloc] at dr
  have hsz := dr.lt
  have DR := Lib.hid dr
  go_enter Tryz.func18, Tryz.ntmps18
  go_wp2_with fail
  generalize (((w.alloc (.cells #[.int .i64 3, .int .i64 i, .int .u64 u, .string s, .slice ad len cap] 25)).alloc (.cells #[.int .i64 3, .int .i64 j, .int .u64 v, .string z, .slice bd len' cap'] 25)).alloc (.cells #[.int .i64 0, .int .i64 0, .int .u64 0, .string ⟨#[]⟩, .slice none 0 0] 25)) = W at *
  have HH : Hid (∀ W, Calls Tryz.prog 30 #[.int .i64 3, .int .i64 5] W fun e w' => e = .returned (.bool true) ∧ w' = W) := fun W => refHas_any 3 5 W
  have hf := frombits9
  have ht := tobits
  refine (HH.out _).mono ?_
  rintro e w1 ⟨rfl, rfl⟩
  obtain ⟨x0, x1, x2, x3, x4⟩ := da.c
  obtain ⟨y0, y1, y2, y3, y4⟩ := db.c
  obtain ⟨d0, d1, d2, d3, d4⟩ := dr.c
  have fz : ∀ o, w1.frozen? ⟨w.heap.size + 1 + 1, o, none⟩ = false := fun o => dr.f (o := o)
  go_wp2
  have KF : Hid (∀ w', (fun W => W.cell? ⟨w.heap.size, 2, none⟩ = some (.int .u64 u) ∧ W.cell? ⟨w.heap.size + 1, 2, none⟩ = some (.int .u64 v)) w' → (fun W => W.cell? ⟨w.heap.size, 2, none⟩ = some (.int .u64 u) ∧ W.cell? ⟨w.heap.size + 1, 2, none⟩ = some (.int .u64 v)) (F w')) := fun w' h => ⟨((hF w').cell (World.block_lt_of_cell? w' _ h.1)).trans h.1, ((hF w').cell (World.block_lt_of_cell? w' _ h.2)).trans h.2⟩
  have HB := Lib.hid hF
  have HN := Lib.hid hn
  clear hF d0 d1 d2 d3 d4 fz
  clear x0 x1 x3 x4 y0 y1 y3 y4 da db dr KF hn
  go_region_with (fail)
  all_goals (
    have hn := HN.out
    have B5 : Below w1.heap.size w1 (F w1.drew) := (Below.drew (Below.refl _ w1)).trans (HB.out w1.drew)
    have D5 := DR.out.below B5
    obtain ⟨d0, d1, d2, d3, d4⟩ := D5.c
    have fz : ∀ o, (F w1.drew).frozen? ⟨w.heap.size + 1 + 1, o, none⟩ = false := fun o => D5.f (o := o)
    have B6 := B4.trans (B5.mono B4.size)
    go_wp2
    refine bodyPost_ret (v := .tuple #[.agg #[.int .i64 3, .int .i64 0, .int .u64 9221120237041090561, .string ⟨#[]⟩, .slice none 0 0], .int .i64 0]) (by simp [results, Tryz.results18, go_sem, World.cell?_setCell_same, World.cell?_setCell_other, d0, d1, d2, d3, d4]) rfl ⟨rfl, set5B B6 hg _ _ _ _ _⟩)
set_option maxRecDepth 100000 in
set_option maxHeartbeats 1000000 in
theorem refAd3R (i u j v : Int) (s z : ByteArray) (ad bd : Option Addr) (len cap len' cap' : Nat) (w : World) (r : Nat) (F : World → World) (hx : ∀ w, (binOp .add 75 (.float .f64 u.toNat) (.float .f64 v.toNat)).run Tryz.prog w = .ok (.float .f64 r) (F w)) (hF : ∀ w, Below w.heap.size w (F w)) (hn : (FloatKind.f64.format.order r r != some Ordering.eq) = false) :
    Calls Tryz.prog 18 #[.agg #[.int .i64 3, .int .i64 i, .int .u64 u, .string s, .slice ad len cap], .agg #[.int .i64 3, .int .i64 j, .int .u64 v, .string z, .slice bd len' cap']] w fun e w' => e = .returned (.tuple #[.agg #[.int .i64 3, .int .i64 0, .int .u64 (r : Nat), .string ⟨#[]⟩, .slice none 0 0], .int .i64 0]) ∧ Below w.heap.size w w' := by
  have B4 : Below w.heap.size w (((w.alloc (.cells #[.int .i64 3, .int .i64 i, .int .u64 u, .string s, .slice ad len cap] 25)).alloc (.cells #[.int .i64 3, .int .i64 j, .int .u64 v, .string z, .slice bd len' cap'] 25)).alloc (.cells #[.int .i64 0, .int .i64 0, .int .u64 0, .string ⟨#[]⟩, .slice none 0 0] 25)) := (((Below.refl _ w).alloc (Nat.le_refl _) _).alloc (by simp) _).alloc (by simp; omega) _
  have hg : w.heap.size ≤ w.heap.size + 1 + 1 := by omega
  have da := ((D5.new w (.int .i64 3) (.int .i64 i) (.int .u64 u) (.string s) (.slice ad len cap)).below (below1 _ (.cells #[.int .i64 3, .int .i64 j, .int .u64 v, .string z, .slice bd len' cap'] 25))).below (below1 _ (.cells #[.int .i64 0, .int .i64 0, .int .u64 0, .string ⟨#[]⟩, .slice none 0 0] 25))
  have db := (D5.new (w.alloc (.cells #[.int .i64 3, .int .i64 i, .int .u64 u, .string s, .slice ad len cap] 25)) (.int .i64 3) (.int .i64 j) (.int .u64 v) (.string z) (.slice bd len' cap')).below (below1 _ (.cells #[.int .i64 0, .int .i64 0, .int .u64 0, .string ⟨#[]⟩, .slice none 0 0] 25))
  have dr := D5.new ((w.alloc (.cells #[.int .i64 3, .int .i64 i, .int .u64 u, .string s, .slice ad len cap] 25)).alloc (.cells #[.int .i64 3, .int .i64 j, .int .u64 v, .string z, .slice bd len' cap'] 25)) (.int .i64 0) (.int .i64 0) (.int .u64 0) (.string ⟨#[]⟩) (.slice none 0 0)
  rw [World.size_alloc] at db
  rw [World.size_alloc, World.size_alloc] at dr
  have hsz := dr.lt
  have DR := Lib.hid dr
  go_enter Tryz.func18, Tryz.ntmps18
  go_wp2_with fail
  generalize (((w.alloc (.cells #[.int .i64 3, .int .i64 i, .int .u64 u, .string s, .slice ad len cap] 25)).alloc (.cells #[.int .i64 3, .int .i64 j, .int .u64 v, .string z, .slice bd len' cap'] 25)).alloc (.cells #[.int .i64 0, .int .i64 0, .int .u64 0, .string ⟨#[]⟩, .slice none 0 0] 25)) = W at *
  have HH : Hid (∀ W, Calls Tryz.prog 30 #[.int .i64 3, .int .i64 5] W fun e w' => e = .returned (.bool true) ∧ w' = W) := fun W => refHas_any 3 5 W
  have hf := frombits9
  have ht := tobits r
  refine (HH.out _).mono ?_
  rintro e w1 ⟨rfl, rfl⟩
  obtain ⟨x0, x1, x2, x3, x4⟩ := da.c
  obtain ⟨y0, y1, y2, y3, y4⟩ := db.c
  obtain ⟨d0, d1, d2, d3, d4⟩ := dr.c
  have fz : ∀ o, w1.frozen? ⟨w.heap.size + 1 + 1, o, none⟩ = false := fun o => dr.f (o := o)
  go_wp2
  have KF : Hid (∀ w', (fun W => W.cell? ⟨w.heap.size, 2, none⟩ = some (.int .u64 u) ∧ W.cell? ⟨w.heap.size + 1, 2, none⟩ = some (.int .u64 v)) w' → (fun W => W.cell? ⟨w.heap.size, 2, none⟩ = some (.int .u64 u) ∧ W.cell? ⟨w.heap.size + 1, 2, none⟩ = some (.int .u64 v)) (F w')) := fun w' h => ⟨((hF w').cell (World.block_lt_of_cell? w' _ h.1)).trans h.1, ((hF w').cell (World.block_lt_of_cell? w' _ h.2)).trans h.2⟩
  have HB := Lib.hid hF
  have HN := Lib.hid hn
  clear hF d0 d1 d2 d3 d4 fz
  clear x0 x1 x3 x4 y0 y1 y3 y4 da db dr KF hn
  go_region_with (fail)
  all_goals (
    have hn := HN.out
    have B5 : Below w1.heap.size w1 (F w1.drew) := (Below.drew (Below.refl _ w1)).trans (HB.out w1.drew)
    have D5 := DR.out.below B5
    obtain ⟨d0, d1, d2, d3, d4⟩ := D5.c
    have fz : ∀ o, (F w1.drew).frozen? ⟨w.heap.size + 1 + 1, o, none⟩ = false := fun o => D5.f (o := o)
    have B6 := B4.trans (B5.mono B4.size)
    go_wp2
    refine bodyPost_ret (v := .tuple #[.agg #[.int .i64 3, .int .i64 0, .int .u64 (r : Nat), .string ⟨#[]⟩, .slice none 0 0], .int .i64 0]) (by simp [results, Tryz.results18, go_sem, World.cell?_setCell_same, World.cell?_setCell_other, d0, d1, d2, d3, d4]) rfl ⟨rfl, set5B B6 hg _ _ _ _ _⟩)
set_option maxRecDepth 100000 in
set_option maxHeartbeats 1000000 in
theorem adNo (k i u k' j v : Int) (s z : ByteArray) (ad bd : Option Addr) (len cap len' cap' : Nat) (w : World)
    (hO : ∀ wx, Below w.heap.size w wx → Calls Tryz.prog 24 #[.agg #[.int .i64 k, .int .i64 i, .int .u64 u, .string s, .slice ad len cap]] wx fun e w' => ∃ v, e = .returned v ∧ Sx v ∧ Hid (∀ w, (Instr.typeAssert v 20 78 true).run Tryz.prog w = .ok (.tuple #[.nilIface, .bool false]) w) ∧ Below wx.heap.size wx w') :
    Calls Tryz.prog 17 #[.agg #[.int .i64 k, .int .i64 i, .int .u64 u, .string s, .slice ad len cap], .agg #[.int .i64 k', .int .i64 j, .int .u64 v, .string z, .slice bd len' cap']] w fun e w' => e = .returned (.tuple #[zro, .int .i64 12]) ∧ Below w.heap.size w w' := by
  have b0 : Below w.heap.size w (((w.alloc (.cells #[.int .i64 k, .int .i64 i, .int .u64 u, .string s, .slice ad len cap] 25)).alloc (.cells #[.int .i64 k', .int .i64 j, .int .u64 v, .string z, .slice bd len' cap'] 25)).alloc (.cells #[.int .i64 0, .int .i64 0, .int .u64 0, .string ⟨#[]⟩, .slice none 0 0] 25)) := (((Below.refl _ w).alloc (Nat.le_refl _) _).alloc (by simp) _).alloc (by simp; omega) _
  have dr := D5.new ((w.alloc (.cells #[.int .i64 k, .int .i64 i, .int .u64 u, .string s, .slice ad len cap] 25)).alloc (.cells #[.int .i64 k', .int .i64 j, .int .u64 v, .string z, .slice bd len' cap'] 25)) (.int .i64 0) (.int .i64 0) (.int .u64 0) (.string ⟨#[]⟩) (.slice none 0 0)
  rw [World.size_alloc, World.size_alloc] at dr
  have HO := Lib.hid hO
  clear hO
  go_enter Tryz.func17, Tryz.ntmps17
  go_wp2_with fail
  refine (HO.out _ b0).mono ?_
  rintro e w1 ⟨vv, rfl, hs, ha, b1⟩
  have D4 := dr.below b1
  have B4 := b0.trans (b1.mono (by simp; omega))
  obtain ⟨d0, d1, d2, d3, d4⟩ := D4.c
  have fz : ∀ o, w1.frozen? ⟨w.heap.size + 1 + 1, o, none⟩ = false := fun o => D4.f (o := o)
  clear dr b0 b1
  rcases hs with rfl | ⟨T, z, rfl⟩
  all_goals (
    have has := ha.out
    go_wp2
    refine bodyPost_ret (v := .tuple #[zro, .int .i64 12]) (by simp [zro, results, Tryz.results17, go_sem, World.cell?_setCell_same, World.cell?_setCell_other, d0, d1, d2, d3, d4]) rfl ⟨rfl, ?_⟩
    exact ((((B4.setCell (by show w.heap.size ≤ w.heap.size + 1 + 1; omega) _).setCell (by show w.heap.size ≤ w.heap.size + 1 + 1; omega) _).setCell (by show w.heap.size ≤ w.heap.size + 1 + 1; omega) _).setCell (by show w.heap.size ≤ w.heap.size + 1 + 1; omega) _).setCell (by show w.heap.size ≤ w.heap.size + 1 + 1; omega) _)

set_option maxRecDepth 100000 in
set_option maxHeartbeats 1000000 in
/-- The package's Add of two trees. -/
theorem ad_any (W0 : World) (m n : Nat) (t : Tr (m + 1)) (t' : Tr (n + 1)) (k i u k' j v : Int) (s z : ByteArray) (ad bd : Option Addr) (len cap len' cap' : Nat) (w : World) (hrg : rgt (m + 1) t = true) (hps : (pts (m + 1) t).1 ≤ 4096) (hrep : Rep W0 (m + 1) [.int .i64 k, .int .i64 i, .int .u64 u, .string s, .slice ad len cap] t)
    (hrg' : rgt (n + 1) t' = true) (hps' : (pts (n + 1) t').1 ≤ 4096) (hrep' : Rep W0 (n + 1) [.int .i64 k', .int .i64 j, .int .u64 v, .string z, .slice bd len' cap'] t') (hb : Below W0.heap.size W0 w) :
    Calls Tryz.prog 17 #[.agg #[.int .i64 k, .int .i64 i, .int .u64 u, .string s, .slice ad len cap], .agg #[.int .i64 k', .int .i64 j, .int .u64 v, .string z, .slice bd len' cap']] w fun e w' => AdA w k i u k' j v e w' := by
  have ek := (rep_eq hrep).1
  have ek' := (rep_eq hrep').1
  have hbd' := kd_bd hrg'
  have HOa : ∀ wx, Below w.heap.size w wx → Calls Tryz.prog 24 #[.agg #[.int .i64 k, .int .i64 i, .int .u64 u, .string s, .slice ad len cap]] wx fun e w' => ∃ v, e = .returned v ∧ Hid (VR (fun g => wx.heap.size ≤ g ∧ g < w'.heap.size) w' (m + 1) v t) ∧ Below wx.heap.size wx w' := fun wx hx => of_any W0 (m + 1) t k i u s ad len cap wx hrg hps hrep (hb.trans (hx.mono hb.size))
  have HOb : ∀ wx, Below w.heap.size w wx → Calls Tryz.prog 24 #[.agg #[.int .i64 k', .int .i64 j, .int .u64 v, .string z, .slice bd len' cap']] wx fun e w' => ((t'.kd = 0 ∧ e = .returned .nilIface) ∨ (t'.kd ≠ 0 ∧ ∃ q, e = .returned (.iface (tyk t'.kd) q))) ∧ Below wx.heap.size wx w' := fun wx hx => of_ty W0 n t' k' j v z bd len' cap' wx hrg' hps' hrep' (hb.trans (hx.mono hb.size))
  by_cases hk : k = 1 ∨ k = 3
  · by_cases he : k = k'
    · subst he
      have e2 : addE k k = 0 := by simp only [addE]; rw [if_neg (by omega), if_neg (by omega)]
      unfold AdA
      rw [e2]
      rcases hk with h | h
      · subst h
        have e1 : addT 1 i u 1 j v = lf 1 (wrap64 (i + j)) 0 := by simp [addT]
        rw [e1]
        exact adGo1S i u j v s z ad bd len cap len' cap' w
      · subst h
        have e1 : addT 3 i u 3 j v = lf 3 0 (addF u.toNat v.toNat : Nat) := by simp [addT]
        rw [e1]
        exact adGo3S i u j v s z ad bd len cap len' cap' w
    · have e2 : addE k k' = 15 := by simp only [addE]; rw [if_neg (by omega), if_pos he]
      have e1 : addT k i u k' j v = T0 := by simp only [addT]; rw [if_neg (by omega), if_neg (by omega)]
      unfold AdA
      rw [e2, e1]
      by_cases h0 : t'.kd = 0
      · have HA : ∀ wx, Below w.heap.size w wx → Calls Tryz.prog 24 #[.agg #[.int .i64 k', .int .i64 j, .int .u64 v, .string z, .slice bd len' cap']] wx fun e w' => e = .returned .nilIface ∧ Below wx.heap.size wx w' := fun wx hx => (HOb wx hx).mono fun e w' ⟨q, hb'⟩ => ⟨q.elim (fun q => q.2) (fun q => absurd h0 q.1), hb'⟩
        rcases hk with h | h
        · subst h; exact adGo1A _ _ _ _ _ _ _ _ _ _ _ _ _ _ HA
        · subst h; exact adGo3A _ _ _ _ _ _ _ _ _ _ _ _ _ _ HA
      · have HB : ∀ wx, Below w.heap.size w wx → Calls Tryz.prog 24 #[.agg #[.int .i64 k', .int .i64 j, .int .u64 v, .string z, .slice bd len' cap']] wx fun e w' => ∃ q, e = .returned (.iface (tyk t'.kd) q) ∧ Below wx.heap.size wx w' := fun wx hx => (HOb wx hx).mono fun e w' ⟨q, hb'⟩ => by
          obtain ⟨_, q, hq⟩ := q.resolve_left (fun q => h0 q.1)
          exact ⟨q, hq, hb'⟩
        have hne := tyk_ne (k := k) (by omega) (by omega) (k' := t'.kd) (by omega) hbd'.2 (by rw [← ek']; exact he)
        rcases hk with h | h
        · subst h; exact adGo1B _ _ _ _ _ _ _ _ _ _ _ _ _ _ _ hne HB
        · subst h; exact adGo3B _ _ _ _ _ _ _ _ _ _ _ _ _ _ _ hne HB
  · have e2 : addE k k' = 12 := by simp only [addE]; rw [if_pos (by omega)]
    have e1 : addT k i u k' j v = T0 := by simp only [addT]; rw [if_neg (by omega), if_neg (by omega)]
    unfold AdA
    rw [e2, e1]
    refine (adNo k i u k' j v s z ad bd len cap len' cap' w fun wx hx => (HOa wx hx).mono fun e w' ⟨vv, he, vr, hb'⟩ => ?_).mono fun e w' ⟨he, hb'⟩ => ⟨0, 0, 0, ⟨#[]⟩, none, 0, 0, he, rep0 _, hb'⟩
    rcases vr_cases vr.out with ⟨q, rfl⟩ | ⟨q, rfl⟩ | ⟨q, rfl⟩ | ⟨q, rfl⟩ | ⟨q, rfl⟩ | ⟨q, rfl⟩ | ⟨q, rfl⟩ | ⟨q, a, c, rfl⟩ | ⟨q, a, c, rfl⟩ | ⟨q, x, y, rfl, hx, hy⟩ | ⟨q, rfl⟩ | ⟨q, b, u, rfl, hh, hu⟩ | ⟨q, rfl⟩ | ⟨q, rfl⟩
    all_goals first | omega | exact ⟨_, he, .inl rfl, fun w => assert_nil Tryz.underlying78 (by kernel_rfl), hb'⟩ | exact ⟨_, he, .inr ⟨_, _, rfl⟩, fun w => run_typeAssert_lacksB Tryz.underlying78 (by kernel_rfl) (by kernel_rfl) _ _ w, hb'⟩
/-- The document's Add of any two. -/
theorem refAd_any (k i u k' j v : Int) (s z : ByteArray) (ad bd : Option Addr) (len cap len' cap' : Nat) (w : World) :
    Calls Tryz.prog 18 #[.agg #[.int .i64 k, .int .i64 i, .int .u64 u, .string s, .slice ad len cap], .agg #[.int .i64 k', .int .i64 j, .int .u64 v, .string z, .slice bd len' cap']] w fun e w' => AdA w k i u k' j v e w' := by
  by_cases hk : k = 1 ∨ k = 3
  · have h5 : refHas k 5 = true := by rw [refHas5]; exact decide_eq_true hk
    by_cases he : k = k'
    · subst he
      have e2 : addE k k = 0 := by simp only [addE]; rw [if_neg (by omega), if_neg (by omega)]
      unfold AdA
      rw [e2]
      rcases hk with h | h
      · subst h
        have e1 : addT 1 i u 1 j v = lf 1 (wrap64 (i + j)) 0 := by simp [addT]
        rw [e1]
        exact (refAd1 i u j v s z ad bd len cap len' cap' w).mono fun e w' ⟨he, hb'⟩ => ⟨1, wrap64 (i + j), 0, ⟨#[]⟩, none, 0, 0, he, rep1 _ _ _ _, hb'⟩
      · subst h
        have e1 : addT 3 i u 3 j v = lf 3 0 (addF u.toNat v.toNat : Nat) := by simp [addT]
        rw [e1]
        rcases add_cases u.toNat v.toNat 75 with ⟨e0, R, F, hx, hF, hn⟩ | ⟨F, hx, hF, hn⟩
        · rw [e0]
          exact (refAd3N i u j v s z ad bd len cap len' cap' w R F hx hF hn).mono fun e w' ⟨he, hb'⟩ => ⟨3, 0, 9221120237041090561, ⟨#[]⟩, none, 0, 0, he, rep1 _ _ _ _, hb'⟩
        · exact (refAd3R i u j v s z ad bd len cap len' cap' w _ F hx hF hn).mono fun e w' ⟨he, hb'⟩ => ⟨3, 0, (addF u.toNat v.toNat : Nat), ⟨#[]⟩, none, 0, 0, he, rep1 _ _ _ _, hb'⟩
    · have e2 : addE k k' = 15 := by simp only [addE]; rw [if_neg (by omega), if_pos he]
      have e1 : addT k i u k' j v = T0 := by simp only [addT]; rw [if_neg (by omega), if_neg (by omega)]
      unfold AdA
      rw [e2, e1]
      exact (refAd15 k i u k' j v s z ad bd len cap len' cap' w h5 he).mono fun e w' ⟨he, hb'⟩ => ⟨0, 0, 0, ⟨#[]⟩, none, 0, 0, he, rep0 _, hb'⟩
  · have h5 : refHas k 5 = false := by rw [refHas5]; exact decide_eq_false hk
    have e2 : addE k k' = 12 := by simp only [addE]; rw [if_pos (by omega)]
    have e1 : addT k i u k' j v = T0 := by simp only [addT]; rw [if_neg (by omega), if_neg (by omega)]
    unfold AdA
    rw [e2, e1]
    exact (refAd0 k i u k' j v s z ad bd len cap len' cap' w h5).mono fun e w' ⟨he, hb'⟩ => ⟨0, 0, 0, ⟨#[]⟩, none, 0, 0, he, rep0 _, hb'⟩
end Go.Proofs.YtlmebokbbhjbmaaGreatDoor.Dt
namespace Go.Proofs.YtlmebokbbhjbmaaGreatDoor.Dt
open Go.RowKit
theorem add_ks (k i u k' j v : Int) : (addT k i u k' j v).ks = [] := by
  unfold addT
  split
  · rfl
  · split <;> rfl
theorem valid_facts {n : Nat} {t : Tr n} (h : vB n t = true) : rgt n t = true ∧ (pts n t).1 ≤ 4096 := by
  have S := say 16 n t 1 4096 (by decide) (by decide) (by decide)
  obtain ⟨h1, h2, -⟩ := S.down h
  obtain ⟨h3, -, h4, -, -⟩ := S.fit h2
  refine ⟨h1, ?_⟩
  rw [h3]; exact h4
set_option maxRecDepth 100000 in
set_option maxHeartbeats 4000000 in
theorem law_calls (na nb : Nat) (ta : Tr na) (tb : Tr nb) (ka ia ua kb ib ub : Int) (sa sb : ByteArray) (pa pb : Option Addr) (la ca lb cb : Nat) (w : World)
    (ha : Rep w na [.int .i64 ka, .int .i64 ia, .int .u64 ua, .string sa, .slice pa la ca] ta) (hb : Rep w nb [.int .i64 kb, .int .i64 ib, .int .u64 ub, .string sb, .slice pb lb cb] tb) (h6 : r64 na ta) (hi : I64 ia) (hT : Aw.Tab w) (hP : Aw.Pow0 w) :
    Calls Tryz.prog 3 #[.agg #[.int .i64 ka, .int .i64 ia, .int .u64 ua, .string sa, .slice pa la ca], .agg #[.int .i64 kb, .int .i64 ib, .int .u64 ub, .string sb, .slice pb lb cb]] w fun e w' => e = .returned (.bool true) ∧ Below w.heap.size w w' := by
  have TS : Hid (T2 w (.int .i64 ka) (.int .i64 ia) (.int .u64 ua) (.string sa) (.slice pa la ca) (.int .i64 kb) (.int .i64 ib) (.int .u64 ub) (.string sb) (.slice pb lb cb) ((w.alloc (.cells #[.int .i64 ka, .int .i64 ia, .int .u64 ua, .string sa, .slice pa la ca] 25)).alloc (.cells #[.int .i64 kb, .int .i64 ib, .int .u64 ub, .string sb, .slice pb lb cb] 25))) := T2.start w _ _ _ _ _ _ _ _ _ _
  have HVa : Hid (∀ w', T2 w (.int .i64 ka) (.int .i64 ia) (.int .u64 ua) (.string sa) (.slice pa la ca) (.int .i64 kb) (.int .i64 ib) (.int .u64 ub) (.string sb) (.slice pb lb cb) w' → Calls Tryz.prog 4 #[.agg #[.int .i64 ka, .int .i64 ia, .int .u64 ua, .string sa, .slice pa la ca]] w' fun e w'' => e = .returned (.bool (vB na ta)) ∧ T2 w (.int .i64 ka) (.int .i64 ia) (.int .u64 ua) (.string sa) (.slice pa la ca) (.int .i64 kb) (.int .i64 ib) (.int .u64 ub) (.string sb) (.slice pb lb cb) w'') := fun w' h =>
    (refValid na ta _ _ _ _ _ w' (Rep.below h.below na _ _ ha)).mono fun e w'' ⟨he, h'⟩ => ⟨he, h.step h'⟩
  have HVb : Hid (∀ w', T2 w (.int .i64 ka) (.int .i64 ia) (.int .u64 ua) (.string sa) (.slice pa la ca) (.int .i64 kb) (.int .i64 ib) (.int .u64 ub) (.string sb) (.slice pb lb cb) w' → Calls Tryz.prog 4 #[.agg #[.int .i64 kb, .int .i64 ib, .int .u64 ub, .string sb, .slice pb lb cb]] w' fun e w'' => e = .returned (.bool (vB nb tb)) ∧ T2 w (.int .i64 ka) (.int .i64 ia) (.int .u64 ua) (.string sa) (.slice pa la ca) (.int .i64 kb) (.int .i64 ib) (.int .u64 ub) (.string sb) (.slice pb lb cb) w'') := fun w' h =>
    (refValid nb tb _ _ _ _ _ w' (Rep.below h.below nb _ _ hb)).mono fun e w'' ⟨he, h'⟩ => ⟨he, h.step h'⟩
  have HW : Hid (∀ w', T2 w (.int .i64 ka) (.int .i64 ia) (.int .u64 ua) (.string sa) (.slice pa la ca) (.int .i64 kb) (.int .i64 ib) (.int .u64 ub) (.string sb) (.slice pb lb cb) w' → Calls Tryz.prog 5 #[] w' fun e w'' => e = .returned (.bool true) ∧ Below w.heap.size w w'') := fun w' h =>
    (Aw.awake_any w' (hT.below h.below) ((Lib.tabBelow_of_tabIs hP).on h.below).here).mono fun e w'' ⟨he, h'⟩ => ⟨he, h.below.trans (h'.mono h.below.size)⟩
  have HC : Hid (∀ w', T2 w (.int .i64 ka) (.int .i64 ia) (.int .u64 ua) (.string sa) (.slice pa la ca) (.int .i64 kb) (.int .i64 ib) (.int .u64 ub) (.string sb) (.slice pb lb cb) w' → _) := fun w' h => T2.c h
  by_cases va : vB na ta = false
  · rw [va] at HVa
    clear ha hb HVb h6 hi hT hP va
    go_enter Tryz.func3, Tryz.ntmps3
    go_wp2_with fail
    refine (HVa.out _ TS.out).mono ?_
    rintro e w1 ⟨rfl, b1⟩
    go_wp2_with fail
    refine (HW.out _ b1).mono ?_
    rintro e w2 ⟨rfl, b2⟩
    go_wp2_with fail
    go_ret
    exact ⟨rfl, b2⟩
  have va' : vB na ta = true := by simpa using va
  rw [va'] at HVa
  by_cases vb : vB nb tb = false
  · rw [vb] at HVb
    clear ha hb h6 hi hT hP va va' vb
    go_enter Tryz.func3, Tryz.ntmps3
    go_wp2_with fail
    refine (HVa.out _ TS.out).mono ?_
    rintro e w1 ⟨rfl, b1⟩
    have k1 := HC.out _ b1
    go_wp2_with fail
    refine (HVb.out _ b1).mono ?_
    rintro e w2 ⟨rfl, b2⟩
    clear k1 b1
    go_wp2_with fail
    refine (HW.out _ b2).mono ?_
    rintro e w3 ⟨rfl, b3⟩
    go_wp2_with fail
    go_ret
    exact ⟨rfl, b3⟩
  have vb' : vB nb tb = true := by simpa using vb
  rw [vb'] at HVb
  obtain ⟨ra, qa⟩ := valid_facts va'
  obtain ⟨rb, qb⟩ := valid_facts vb'
  clear va va' vb vb' hT
  obtain _ | m := na
  · exact ta.elim
  obtain _ | n := nb
  · exact tb.elim
  obtain ⟨e0, e1, e2, e3, e4⟩ := rep_eq ha
  have HL : Hid (∀ w', T2 w (.int .i64 ka) (.int .i64 ia) (.int .u64 ua) (.string sa) (.slice pa la ca) (.int .i64 kb) (.int .i64 ib) (.int .u64 ub) (.string sb) (.slice pb lb cb) w' → Calls Tryz.prog 6 #[.agg #[.int .i64 ka, .int .i64 ia, .int .u64 ua, .string sa, .slice pa la ca]] w' fun e w'' => e = .returned (.tuple #[.int .i64 (lenP ka sa.size la).1, .int .i64 (lenP ka sa.size la).2]) ∧ T2 w (.int .i64 ka) (.int .i64 ia) (.int .u64 ua) (.string sa) (.slice pa la ca) (.int .i64 kb) (.int .i64 ib) (.int .u64 ub) (.string sb) (.slice pb lb cb) w'') := fun w' h =>
    (len_any w m ta ka ia ua sa pa la ca w' ra qa ha h.below).mono fun e w'' ⟨he, h'⟩ => ⟨by rw [he, e0, e3, e4], h.step h'⟩
  have HLR : Hid (∀ w', T2 w (.int .i64 ka) (.int .i64 ia) (.int .u64 ua) (.string sa) (.slice pa la ca) (.int .i64 kb) (.int .i64 ib) (.int .u64 ub) (.string sb) (.slice pb lb cb) w' → Calls Tryz.prog 7 #[.agg #[.int .i64 ka, .int .i64 ia, .int .u64 ua, .string sa, .slice pa la ca]] w' fun e w'' => e = .returned (.tuple #[.int .i64 (lenP ka sa.size la).1, .int .i64 (lenP ka sa.size la).2]) ∧ T2 w (.int .i64 ka) (.int .i64 ia) (.int .u64 ua) (.string sa) (.slice pa la ca) (.int .i64 kb) (.int .i64 ib) (.int .u64 ub) (.string sb) (.slice pb lb cb) w'') := fun w' h =>
    (refLen ka ia ua sa pa la ca w').mono fun e w'' ⟨he, h'⟩ => ⟨he, h.step h'⟩
  have HB : Hid (∀ w', T2 w (.int .i64 ka) (.int .i64 ia) (.int .u64 ua) (.string sa) (.slice pa la ca) (.int .i64 kb) (.int .i64 ib) (.int .u64 ub) (.string sb) (.slice pb lb cb) w' → Calls Tryz.prog 8 #[.agg #[.int .i64 ka, .int .i64 ia, .int .u64 ua, .string sa, .slice pa la ca]] w' fun e w'' => e = .returned (.tuple #[.string (labP ka ia sa).1, .int .i64 (labP ka ia sa).2]) ∧ T2 w (.int .i64 ka) (.int .i64 ia) (.int .u64 ua) (.string sa) (.slice pa la ca) (.int .i64 kb) (.int .i64 ib) (.int .u64 ub) (.string sb) (.slice pb lb cb) w'') := fun w' h =>
    (lab_any w m ta ka ia ua sa pa la ca w' ra qa ha h.below (by rw [← e1]; exact hi) hP).mono fun e w'' ⟨he, h'⟩ => ⟨by rw [he, e0, e1, e3], h.step h'⟩
  have HBR : Hid (∀ w', T2 w (.int .i64 ka) (.int .i64 ia) (.int .u64 ua) (.string sa) (.slice pa la ca) (.int .i64 kb) (.int .i64 ib) (.int .u64 ub) (.string sb) (.slice pb lb cb) w' → Calls Tryz.prog 9 #[.agg #[.int .i64 ka, .int .i64 ia, .int .u64 ua, .string sa, .slice pa la ca]] w' fun e w'' => e = .returned (.tuple #[.string (labP ka ia sa).1, .int .i64 (labP ka ia sa).2]) ∧ T2 w (.int .i64 ka) (.int .i64 ia) (.int .u64 ua) (.string sa) (.slice pa la ca) (.int .i64 kb) (.int .i64 ib) (.int .u64 ub) (.string sb) (.slice pb lb cb) w'') := fun w' h =>
    (refLab ka ia ua sa pa la ca w' hi (P10.below hP h.below)).mono fun e w'' ⟨he, h'⟩ => ⟨he, h.step h'⟩
  have HX : Hid (∀ w', T2 w (.int .i64 ka) (.int .i64 ia) (.int .u64 ua) (.string sa) (.slice pa la ca) (.int .i64 kb) (.int .i64 ib) (.int .u64 ub) (.string sb) (.slice pb lb cb) w' → Calls Tryz.prog 10 #[.agg #[.int .i64 ka, .int .i64 ia, .int .u64 ua, .string sa, .slice pa la ca]] w' fun e w'' => e = .returned (.tuple #[.string (worP ka ia sa).1, .int .i64 (worP ka ia sa).2]) ∧ T2 w (.int .i64 ka) (.int .i64 ia) (.int .u64 ua) (.string sa) (.slice pa la ca) (.int .i64 kb) (.int .i64 ib) (.int .u64 ub) (.string sb) (.slice pb lb cb) w'') := fun w' h =>
    (wor_any w m ta ka ia ua sa pa la ca w' ra qa ha h.below (by rw [← e1]; exact hi) hP).mono fun e w'' ⟨he, h'⟩ => ⟨by rw [he, e0, e1, e3], h.step h'⟩
  have HXR : Hid (∀ w', T2 w (.int .i64 ka) (.int .i64 ia) (.int .u64 ua) (.string sa) (.slice pa la ca) (.int .i64 kb) (.int .i64 ib) (.int .u64 ub) (.string sb) (.slice pb lb cb) w' → Calls Tryz.prog 11 #[.agg #[.int .i64 ka, .int .i64 ia, .int .u64 ua, .string sa, .slice pa la ca]] w' fun e w'' => e = .returned (.tuple #[.string (worP ka ia sa).1, .int .i64 (worP ka ia sa).2]) ∧ T2 w (.int .i64 ka) (.int .i64 ia) (.int .u64 ua) (.string sa) (.slice pa la ca) (.int .i64 kb) (.int .i64 ib) (.int .u64 ub) (.string sb) (.slice pb lb cb) w'') := fun w' h =>
    (refWor ka ia ua sa pa la ca w' hi (P10.below hP h.below)).mono fun e w'' ⟨he, h'⟩ => ⟨he, h.step h'⟩
  have HO : Hid (∀ w', T2 w (.int .i64 ka) (.int .i64 ia) (.int .u64 ua) (.string sa) (.slice pa la ca) (.int .i64 kb) (.int .i64 ib) (.int .u64 ub) (.string sb) (.slice pb lb cb) w' → Calls Tryz.prog 12 #[.agg #[.int .i64 ka, .int .i64 ia, .int .u64 ua, .string sa, .slice pa la ca]] w' fun e w'' => ∃ (y0 y1 y2 : Int) (y3 : ByteArray) (y4 : Option Addr) (y5 y6 : Nat), e = .returned (.tuple #[.agg #[.int .i64 y0, .int .i64 y1, .int .u64 y2, .string y3, .slice y4 y5 y6], .int .i64 (opnE ta.kd)]) ∧ Hid (IsO w'' m ta [.int .i64 y0, .int .i64 y1, .int .u64 y2, .string y3, .slice y4 y5 y6]) ∧ T2 w (.int .i64 ka) (.int .i64 ia) (.int .u64 ua) (.string sa) (.slice pa la ca) (.int .i64 kb) (.int .i64 ib) (.int .u64 ub) (.string sb) (.slice pb lb cb) w'') := fun w' h =>
    (opn_any w m ta ka ia ua sa pa la ca w' ra h6 qa ha h.below).mono fun e w'' ⟨y0, y1, y2, y3, y4, y5, y6, he, hi, h'⟩ => ⟨y0, y1, y2, y3, y4, y5, y6, he, hi, h.step h'⟩
  have HOR : Hid (∀ w', T2 w (.int .i64 ka) (.int .i64 ia) (.int .u64 ua) (.string sa) (.slice pa la ca) (.int .i64 kb) (.int .i64 ib) (.int .u64 ub) (.string sb) (.slice pb lb cb) w' → Calls Tryz.prog 13 #[.agg #[.int .i64 ka, .int .i64 ia, .int .u64 ua, .string sa, .slice pa la ca]] w' fun e w'' => ∃ (y0 y1 y2 : Int) (y3 : ByteArray) (y4 : Option Addr) (y5 y6 : Nat), e = .returned (.tuple #[.agg #[.int .i64 y0, .int .i64 y1, .int .u64 y2, .string y3, .slice y4 y5 y6], .int .i64 (opnE ta.kd)]) ∧ Hid (IsO w'' m ta [.int .i64 y0, .int .i64 y1, .int .u64 y2, .string y3, .slice y4 y5 y6]) ∧ Below w'.heap.size w' w'' ∧ T2 w (.int .i64 ka) (.int .i64 ia) (.int .u64 ua) (.string sa) (.slice pa la ca) (.int .i64 kb) (.int .i64 ib) (.int .u64 ub) (.string sb) (.slice pb lb cb) w'') := fun w' h =>
    (refOpn w m ta ka ia ua sa pa la ca w' ra qa ha h.below).mono fun e w'' ⟨y0, y1, y2, y3, y4, y5, y6, he, hi, h'⟩ => ⟨y0, y1, y2, y3, y4, y5, y6, he, hi, h', h.step h'⟩
  have HS : Hid (∀ w', T2 w (.int .i64 ka) (.int .i64 ia) (.int .u64 ua) (.string sa) (.slice pa la ca) (.int .i64 kb) (.int .i64 ib) (.int .u64 ub) (.string sb) (.slice pb lb cb) w' → Calls Tryz.prog 15 #[.agg #[.int .i64 ka, .int .i64 ia, .int .u64 ua, .string sa, .slice pa la ca], .agg #[.int .i64 kb, .int .i64 ib, .int .u64 ub, .string sb, .slice pb lb cb]] w' fun e w'' => e = .returned (.tuple #[.bool (lesP ka ia ua sa kb ib ub sb).1, .int .i64 (lesP ka ia ua sa kb ib ub sb).2]) ∧ Below w'.heap.size w' w'' ∧ T2 w (.int .i64 ka) (.int .i64 ia) (.int .u64 ua) (.string sa) (.slice pa la ca) (.int .i64 kb) (.int .i64 ib) (.int .u64 ub) (.string sb) (.slice pb lb cb) w'') := fun w' h =>
    (ls_any w m n ta tb ka ia ua kb ib ub sa sb pa pb la ca lb cb w' ra qa ha rb qb hb h.below).mono fun e w'' ⟨he, h'⟩ => ⟨he, h', h.step h'⟩
  have HSR : Hid (∀ w', T2 w (.int .i64 ka) (.int .i64 ia) (.int .u64 ua) (.string sa) (.slice pa la ca) (.int .i64 kb) (.int .i64 ib) (.int .u64 ub) (.string sb) (.slice pb lb cb) w' → Calls Tryz.prog 16 #[.agg #[.int .i64 ka, .int .i64 ia, .int .u64 ua, .string sa, .slice pa la ca], .agg #[.int .i64 kb, .int .i64 ib, .int .u64 ub, .string sb, .slice pb lb cb]] w' fun e w'' => e = .returned (.tuple #[.bool (lesP ka ia ua sa kb ib ub sb).1, .int .i64 (lesP ka ia ua sa kb ib ub sb).2]) ∧ Below w'.heap.size w' w'' ∧ T2 w (.int .i64 ka) (.int .i64 ia) (.int .u64 ua) (.string sa) (.slice pa la ca) (.int .i64 kb) (.int .i64 ib) (.int .u64 ub) (.string sb) (.slice pb lb cb) w'') := fun w' h =>
    (refLes_any ka ia ua kb ib ub sa sb pa pb la ca lb cb w').mono fun e w'' ⟨he, h'⟩ => ⟨he, h', h.step h'⟩
  have HD : Hid (∀ w', T2 w (.int .i64 ka) (.int .i64 ia) (.int .u64 ua) (.string sa) (.slice pa la ca) (.int .i64 kb) (.int .i64 ib) (.int .u64 ub) (.string sb) (.slice pb lb cb) w' → Calls Tryz.prog 17 #[.agg #[.int .i64 ka, .int .i64 ia, .int .u64 ua, .string sa, .slice pa la ca], .agg #[.int .i64 kb, .int .i64 ib, .int .u64 ub, .string sb, .slice pb lb cb]] w' fun e w'' => ∃ (y0 y1 y2 : Int) (y3 : ByteArray) (y4 : Option Addr) (y5 y6 : Nat), e = .returned (.tuple #[.agg #[.int .i64 y0, .int .i64 y1, .int .u64 y2, .string y3, .slice y4 y5 y6], .int .i64 (addE ka kb)]) ∧ Hid (Rep w'' 1 [.int .i64 y0, .int .i64 y1, .int .u64 y2, .string y3, .slice y4 y5 y6] (addT ka ia ua kb ib ub)) ∧ Below w'.heap.size w' w'' ∧ T2 w (.int .i64 ka) (.int .i64 ia) (.int .u64 ua) (.string sa) (.slice pa la ca) (.int .i64 kb) (.int .i64 ib) (.int .u64 ub) (.string sb) (.slice pb lb cb) w'') := fun w' h =>
    (ad_any w m n ta tb ka ia ua kb ib ub sa sb pa pb la ca lb cb w' ra qa ha rb qb hb h.below).mono fun e w'' ⟨y0, y1, y2, y3, y4, y5, y6, he, hi, h'⟩ => ⟨y0, y1, y2, y3, y4, y5, y6, he, hi, h', h.step h'⟩
  have HDR : Hid (∀ w', T2 w (.int .i64 ka) (.int .i64 ia) (.int .u64 ua) (.string sa) (.slice pa la ca) (.int .i64 kb) (.int .i64 ib) (.int .u64 ub) (.string sb) (.slice pb lb cb) w' → Calls Tryz.prog 18 #[.agg #[.int .i64 ka, .int .i64 ia, .int .u64 ua, .string sa, .slice pa la ca], .agg #[.int .i64 kb, .int .i64 ib, .int .u64 ub, .string sb, .slice pb lb cb]] w' fun e w'' => ∃ (y0 y1 y2 : Int) (y3 : ByteArray) (y4 : Option Addr) (y5 y6 : Nat), e = .returned (.tuple #[.agg #[.int .i64 y0, .int .i64 y1, .int .u64 y2, .string y3, .slice y4 y5 y6], .int .i64 (addE ka kb)]) ∧ Hid (Rep w'' 1 [.int .i64 y0, .int .i64 y1, .int .u64 y2, .string y3, .slice y4 y5 y6] (addT ka ia ua kb ib ub)) ∧ Below w'.heap.size w' w'' ∧ T2 w (.int .i64 ka) (.int .i64 ia) (.int .u64 ua) (.string sa) (.slice pa la ca) (.int .i64 kb) (.int .i64 ib) (.int .u64 ub) (.string sb) (.slice pb lb cb) w'') := fun w' h =>
    (refAd_any ka ia ua kb ib ub sa sb pa pb la ca lb cb w').mono fun e w'' ⟨y0, y1, y2, y3, y4, y5, y6, he, hi, h'⟩ => ⟨y0, y1, y2, y3, y4, y5, y6, he, hi, h', h.step h'⟩
  clear ha hb h6 hi hP e0 e1 e2 e3 e4 ra qa rb qb
  have HKs : Hid ((addT ka ia ua kb ib ub).ks = []) := add_ks _ _ _ _ _ _
  generalize addT ka ia ua kb ib ub = tt at *
  generalize (lenP ka sa.size la).1 = ln at *
  generalize hle : (lenP ka sa.size la).2 = le at *
  generalize (labP ka ia sa).1 = bn at *
  generalize hbe : (labP ka ia sa).2 = be at *
  generalize (worP ka ia sa).1 = xn at *
  generalize hxe : (worP ka ia sa).2 = xe at *
  generalize (lesP ka ia ua sa kb ib ub sb).1 = sn at *
  generalize hse : (lesP ka ia ua sa kb ib ub sb).2 = se at *
  generalize hoe : opnE ta.kd = oe at *
  generalize hde : addE ka kb = de at *
  clear hle hbe hxe hse hoe hde
  go_enter Tryz.func3, Tryz.ntmps3
  go_wp2_with fail
  refine (HVa.out _ TS.out).mono ?_
  rintro e w1 ⟨rfl, b1⟩
  have k1 := HC.out _ b1
  go_wp2_with fail
  refine (HVb.out _ b1).mono ?_
  rintro e w2 ⟨rfl, b2⟩
  clear k1 b1
  have k2 := HC.out _ b2
  go_wp2_with fail
  refine (HL.out _ b2).mono ?_
  rintro e w3 ⟨rfl, b3⟩
  clear k2 b2
  have k3 := HC.out _ b3
  go_wp2_with fail
  refine (HLR.out _ b3).mono ?_
  rintro e w4 ⟨rfl, b4⟩
  clear k3 b3
  have k4 := HC.out _ b4
  go_wp2_with fail
  refine (HB.out _ b4).mono ?_
  rintro e w5 ⟨rfl, b5⟩
  clear k4 b4
  have k5 := HC.out _ b5
  go_wp2_with fail
  refine (HBR.out _ b5).mono ?_
  rintro e w6 ⟨rfl, b6⟩
  clear k5 b5
  have k6 := HC.out _ b6
  go_wp2_with fail
  refine (HX.out _ b6).mono ?_
  rintro e w7 ⟨rfl, b7⟩
  clear k6 b6
  have k7 := HC.out _ b7
  go_wp2_with fail
  refine (HXR.out _ b7).mono ?_
  rintro e w8 ⟨rfl, b8⟩
  clear k7 b7
  have k8 := HC.out _ b8
  go_wp2_with fail
  refine (HO.out _ b8).mono ?_
  rintro e w9 ⟨y0, y1, y2, y3, y4, y5, y6, rfl, io, b9⟩
  clear k8 b8
  have hg : w.heap.size + 2 ≤ w9.heap.size := by have := Below.size b9; simpa using this
  have b10 := b9.step (below1 w9 (.cells #[.int .i64 y0, .int .i64 y1, .int .u64 y2, .string y3, .slice y4 y5 y6] 25))
  have k10 := HC.out _ b10
  have dx := D5.new w9 (.int .i64 y0) (.int .i64 y1) (.int .u64 y2) (.string y3) (.slice y4 y5 y6)
  have io1 := Lib.hid (io.out.below (below1 w9 (.cells #[.int .i64 y0, .int .i64 y1, .int .u64 y2, .string y3, .slice y4 y5 y6] 25)))
  clear io
  go_wp2_with fail
  generalize w9.alloc (.cells #[.int .i64 y0, .int .i64 y1, .int .u64 y2, .string y3, .slice y4 y5 y6] 25) = wa at *
  generalize w9.heap.size = gx at *
  refine (HOR.out _ b10).mono ?_
  rintro e w11 ⟨z0, z1, z2, z3, z4, z5, z6, rfl, jo, c11, b11⟩
  clear k10 b9
  have dx1 := (dx.below c11).below (below1 w11 (.cells #[.int .i64 z0, .int .i64 z1, .int .u64 z2, .string z3, .slice z4 z5 z6] 25))
  have io2 := Lib.hid ((io1.out.below c11).below (below1 w11 (.cells #[.int .i64 z0, .int .i64 z1, .int .u64 z2, .string z3, .slice z4 z5 z6] 25)))
  have jo1 := Lib.hid (jo.out.below (below1 w11 (.cells #[.int .i64 z0, .int .i64 z1, .int .u64 z2, .string z3, .slice z4 z5 z6] 25)))
  have b12 := b11.step (below1 w11 (.cells #[.int .i64 z0, .int .i64 z1, .int .u64 z2, .string z3, .slice z4 z5 z6] 25))
  have dy := D5.new w11 (.int .i64 z0) (.int .i64 z1) (.int .u64 z2) (.string z3) (.slice z4 z5 z6)
  have hgy : w.heap.size + 2 ≤ w11.heap.size := by have := Below.size b11; simpa using this
  have hxy : gx < w11.heap.size := Nat.lt_of_lt_of_le dx.lt c11.size
  have kx := dx1.c
  have ky := dy.c
  clear dx io1 jo
  go_wp2_with fail
  generalize w11.alloc (.cells #[.int .i64 z0, .int .i64 z1, .int .u64 z2, .string z3, .slice z4 z5 z6] 25) = wc at *
  generalize w11.heap.size = gy at *
  refine (sameO io2.out jo1.out).mono ?_
  rintro e w13 ⟨rfl, c13⟩
  have b13 := b12.step c13
  have k13 := HC.out _ b13
  clear kx ky io2 jo1
  go_wp2_with fail
  refine (HS.out _ b13).mono ?_
  rintro e w14 ⟨rfl, c14, b14⟩
  clear k13
  have k14 := HC.out _ b14
  go_wp2_with fail
  refine (HSR.out _ b14).mono ?_
  rintro e w15 ⟨rfl, c15, b15⟩
  clear k14
  have k15 := HC.out _ b15
  go_wp2_with fail
  refine (HD.out _ b15).mono ?_
  rintro e w16 ⟨u0, u1, u2, u3, u4, u5, u6, rfl, rd, c16, b16⟩
  clear k15
  have dx2 := (((dx1.below c13).below c14).below c15).below c16
  have dy2 := (((dy.below c13).below c14).below c15).below c16
  have kx := dx2.c
  have fx : ∀ o, w16.frozen? ⟨gx, o, none⟩ = false := fun o => dx2.f (o := o)
  have bX : T2 w (.int .i64 ka) (.int .i64 ia) (.int .u64 ua) (.string sa) (.slice pa la ca) (.int .i64 kb) (.int .i64 ib) (.int .u64 ub) (.string sb) (.slice pb lb cb) (((((w16.setCell ⟨gx, 0, none⟩ (.int .i64 u0)).setCell ⟨gx, 1, none⟩ (.int .i64 u1)).setCell ⟨gx, 2, none⟩ (.int .u64 u2)).setCell ⟨gx, 3, none⟩ (.string u3)).setCell ⟨gx, 4, none⟩ (.slice u4 u5 u6)) := ((((Below.setCell (show Below (w.heap.size + 2) _ _ from b16) hg _).setCell hg _).setCell hg _).setCell hg _).setCell hg _
  have kX := HC.out _ bX
  have dX : D5 (((((w16.setCell ⟨gx, 0, none⟩ (.int .i64 u0)).setCell ⟨gx, 1, none⟩ (.int .i64 u1)).setCell ⟨gx, 2, none⟩ (.int .u64 u2)).setCell ⟨gx, 3, none⟩ (.string u3)).setCell ⟨gx, 4, none⟩ (.slice u4 u5 u6)) gx (.int .i64 u0) (.int .i64 u1) (.int .u64 u2) (.string u3) (.slice u4 u5 u6) := dx2.set _ _ _ _ _
  have hne : gy ≠ gx := by omega
  have dY : D5 (((((w16.setCell ⟨gx, 0, none⟩ (.int .i64 u0)).setCell ⟨gx, 1, none⟩ (.int .i64 u1)).setCell ⟨gx, 2, none⟩ (.int .u64 u2)).setCell ⟨gx, 3, none⟩ (.string u3)).setCell ⟨gx, 4, none⟩ (.slice u4 u5 u6)) gy (.int .i64 z0) (.int .i64 z1) (.int .u64 z2) (.string z3) (.slice z4 z5 z6) := ((((dy2.set_other ⟨gx, 0, none⟩ _ hne).set_other ⟨gx, 1, none⟩ _ hne).set_other ⟨gx, 2, none⟩ _ hne).set_other ⟨gx, 3, none⟩ _ hne).set_other ⟨gx, 4, none⟩ _ hne
  clear dx1 dy dx2 dy2 b10 b11 b12 b13 b14 b15 c11 c13 c14 c15 c16
  go_wp2_with fail
  generalize (((((w16.setCell ⟨gx, 0, none⟩ (.int .i64 u0)).setCell ⟨gx, 1, none⟩ (.int .i64 u1)).setCell ⟨gx, 2, none⟩ (.int .u64 u2)).setCell ⟨gx, 3, none⟩ (.string u3)).setCell ⟨gx, 4, none⟩ (.slice u4 u5 u6)) = wd at *
  refine (HDR.out _ bX).mono ?_
  rintro e w17 ⟨v0, v1, v2, v3, v4, v5, v6, rfl, rd', c17, b17⟩
  clear kX kx fx
  have dx3 := dX.below c17
  have dy3 := dY.below c17
  have ky := dy3.c
  have fy : ∀ o, w17.frozen? ⟨gy, o, none⟩ = false := fun o => dy3.f (o := o)
  have bY : T2 w (.int .i64 ka) (.int .i64 ia) (.int .u64 ua) (.string sa) (.slice pa la ca) (.int .i64 kb) (.int .i64 ib) (.int .u64 ub) (.string sb) (.slice pb lb cb) (((((w17.setCell ⟨gy, 0, none⟩ (.int .i64 v0)).setCell ⟨gy, 1, none⟩ (.int .i64 v1)).setCell ⟨gy, 2, none⟩ (.int .u64 v2)).setCell ⟨gy, 3, none⟩ (.string v3)).setCell ⟨gy, 4, none⟩ (.slice v4 v5 v6)) := ((((Below.setCell (show Below (w.heap.size + 2) _ _ from b17) hgy _).setCell hgy _).setCell hgy _).setCell hgy _).setCell hgy _
  have hne' : gx ≠ gy := fun h => hne h.symm
  have dq : D5 (((((w17.setCell ⟨gy, 0, none⟩ (.int .i64 v0)).setCell ⟨gy, 1, none⟩ (.int .i64 v1)).setCell ⟨gy, 2, none⟩ (.int .u64 v2)).setCell ⟨gy, 3, none⟩ (.string v3)).setCell ⟨gy, 4, none⟩ (.slice v4 v5 v6)) gy (.int .i64 v0) (.int .i64 v1) (.int .u64 v2) (.string v3) (.slice v4 v5 v6) := dy3.set _ _ _ _ _
  have dp : D5 (((((w17.setCell ⟨gy, 0, none⟩ (.int .i64 v0)).setCell ⟨gy, 1, none⟩ (.int .i64 v1)).setCell ⟨gy, 2, none⟩ (.int .u64 v2)).setCell ⟨gy, 3, none⟩ (.string v3)).setCell ⟨gy, 4, none⟩ (.slice v4 v5 v6)) gx (.int .i64 u0) (.int .i64 u1) (.int .u64 u2) (.string u3) (.slice u4 u5 u6) := ((((dx3.set_other ⟨gy, 0, none⟩ _ hne').set_other ⟨gy, 1, none⟩ _ hne').set_other ⟨gy, 2, none⟩ _ hne').set_other ⟨gy, 3, none⟩ _ hne').set_other ⟨gy, 4, none⟩ _ hne'
  have kxx := dp.c
  have kyy := dq.c
  clear dX dY dx3 dy3 dq dp c17 bX
  go_wp2_with fail
  generalize (((((w17.setCell ⟨gy, 0, none⟩ (.int .i64 v0)).setCell ⟨gy, 1, none⟩ (.int .i64 v1)).setCell ⟨gy, 2, none⟩ (.int .u64 v2)).setCell ⟨gy, 3, none⟩ (.string v3)).setCell ⟨gy, 4, none⟩ (.slice v4 v5 v6)) = we at *
  refine (sameD 1 tt _ _ _ _ _ _ _ _ _ _ we (rep_leaf HKs.out rd.out) (rep_leaf HKs.out rd'.out)).mono ?_
  rintro e w18 ⟨rfl, c18⟩
  clear kxx kyy ky fy
  go_wp2_with fail
  refine (HW.out _ (bY.step c18)).mono ?_
  rintro e w19 ⟨rfl, b19⟩
  go_wp2_with fail
  go_ret
  exact ⟨rfl, b19⟩
end Go.Proofs.YtlmebokbbhjbmaaGreatDoor.Dt
