/- The package's Plain of values with parts: octets, rows, pairs and pointers; the conditions: the value in memory, and Plain's own contract for the parts. -/
import Derived.Test.YtajagjcfmaggiaaGreatDoorKCbc
namespace Go.Proofs.YtajagjcfmaggiaaGreatDoor.Dt
open Go.RowKit
/-- What Plain answers of a value of the tree t. -/
def PlOf (F0 : Nat → Prop) (W0 : World) (m : Nat) : Prop := ∀ (t : Tr m) (v : Value) (w : World), rgt m t = true → r64 m t → (pts m t).1 ≤ 4096 → VR F0 W0 m v t → Below W0.heap.size W0 w →
      Calls Tryz.prog 82 #[v] w fun e w' => ∃ v0 v1 v2 v3 v4, e = .returned (.agg #[v0, v1, v2, v3, v4]) ∧ Rf (fun g => w.heap.size ≤ g ∧ g < w'.heap.size) w' m [v0, v1, v2, v3, v4] t ∧ Below w.heap.size w w'
def zD (w : World) : World := w.alloc (.cells #[.int .i64 0, .int .i64 0, .int .u64 0, .string ⟨#[]⟩, .slice none 0 0] 25)
theorem put5 (w w2 : World) (S : Nat) (cs : Array Value) (x0 x1 x2 x3 x4 : Value) (hS : w.heap.size < S) (b2 : Below w.heap.size w w2) (hs : S ≤ w2.heap.size) {W : World} (hW : W = ((((((w2.alloc (.cells cs 25)).setCell ⟨w.heap.size, 0, none⟩ x0).setCell ⟨w.heap.size, 1, none⟩ x1).setCell ⟨w.heap.size, 2, none⟩ x2).setCell ⟨w.heap.size, 3, none⟩ x3).setCell ⟨w.heap.size, 4, none⟩ x4)) :
    W.heap.size = w2.heap.size + 1 ∧ (∀ q, S ≤ q → q < w2.heap.size → W.heap[q]? = w2.heap[q]?) ∧ W.heap[w2.heap.size]? = some (.cells cs 25 (0, 0)) ∧ Below w.heap.size w W := by
  subst hW
  refine ⟨by simp [World.setCell], fun q h1 h2 => ?_, ?_, ?_⟩
  · have hq : q ≠ w.heap.size := by omega
    rw [Below.heap_setCell _ _ _ q hq, Below.heap_setCell _ _ _ q hq, Below.heap_setCell _ _ _ q hq, Below.heap_setCell _ _ _ q hq, Below.heap_setCell _ _ _ q hq]
    exact (below1 w2 _).block q h2
  · have hq : w2.heap.size ≠ w.heap.size := by omega
    rw [Below.heap_setCell _ _ _ _ hq, Below.heap_setCell _ _ _ _ hq, Below.heap_setCell _ _ _ _ hq, Below.heap_setCell _ _ _ _ hq, Below.heap_setCell _ _ _ _ hq]
    exact heap_alloc_new w2 _
  · exact (((((b2.alloc b2.size _).setCell (Nat.le_refl _) _).setCell (Nat.le_refl _) _).setCell (Nat.le_refl _) _).setCell (Nat.le_refl _) _).setCell (Nat.le_refl _) _
set_option maxRecDepth 100000 in
set_option maxHeartbeats 2000000 in
theorem ptr_pl (F0 : Nat → Prop) (W0 : World) (m : Nat) (t : Tr m) (ih : PlOf F0 W0 m) (b : Nat) (i : Int) (v : Value) (w : World) (hb0 : Below W0.heap.size W0 w) (hh : W0.heap[b]? = some (.cells #[.int .i64 i, v] 176 (0, 0))) (hv : VR F0 W0 m v t) (hr : rgt m t = true) (h6 : r64 m t) (hp : (pts m t).1 ≤ 4096) :
    Calls Tryz.prog 93 #[.pointer (some ⟨b, 0, none⟩)] w fun e w' => ∃ g c v0 v1 v2 v3 v4, e = .returned (.agg #[.int .i64 11, .int .i64 i, .int .u64 0, .string ⟨#[]⟩, .slice (some ⟨g, 0, none⟩) 1 c]) ∧ 1 ≤ c ∧ c ≤ maxLen ∧ w.heap.size ≤ g ∧ g < w'.heap.size ∧ (∀ q, w'.frozen? ⟨g, q, none⟩ = false) ∧ w'.cell? ⟨g, 0, none⟩ = some v0 ∧ w'.cell? ⟨g, 1, none⟩ = some v1 ∧ w'.cell? ⟨g, 2, none⟩ = some v2 ∧ w'.cell? ⟨g, 3, none⟩ = some v3 ∧ w'.cell? ⟨g, 4, none⟩ = some v4 ∧ Rf (fun g => w.heap.size ≤ g ∧ g < w'.heap.size) w' m [v0, v1, v2, v3, v4] t ∧ Below w.heap.size w w' := by
  have hen : ∀ w, (binOp .eql 155 (.pointer (some ⟨b, 0, none⟩)) (.pointer none)).run Tryz.prog w = .ok (.bool false) w := fun _ => by kernel_rfl
  have hbl : b < W0.heap.size := (Array.getElem?_eq_some_iff.1 hh).1
  have b1 : Below w.heap.size w (zD w) := below1 w _
  have hs1 : (zD w).heap.size = w.heap.size + 1 := by simp [zD]
  have KA : Hid (∀ wx, Below (zD w).heap.size (zD w) wx → Calls Tryz.prog 82 #[v] wx fun e w' => ∃ (u0 u1 u2 : Int) (u3 : ByteArray) (a4 : Option Addr) (n4 c4 : Nat), e = .returned (.agg #[.int .i64 u0, .int .i64 u1, .int .u64 u2, .string u3, .slice a4 n4 c4]) ∧ Hid (Rf (fun g => w.heap.size + 1 ≤ g ∧ g < w'.heap.size) w' m [.int .i64 u0, .int .i64 u1, .int .u64 u2, .string u3, .slice a4 n4 c4] t) ∧ Below (zD w).heap.size (zD w) w') := fun wx bx => by
    have kw : Below W0.heap.size W0 wx := (hb0.trans (b1.mono hb0.size)).trans (bx.mono (by have := hb0.size; omega))
    refine (ih t v wx hr h6 hp hv kw).mono fun e w' ⟨v0, v1, v2, v3, v4, he, rf, hb⟩ => ?_
    obtain ⟨u0, u1, u2, u3, a4, n4, c4', rfl, rfl, rfl, rfl, rfl⟩ := rep_shape (Rf.rep _ _ _ rf)
    exact ⟨u0, u1, u2, u3, a4, n4, c4', he, Rf.to (fun q hq => ⟨⟨by have := hq.1; have := bx.size; omega, hq.2⟩, rfl⟩) _ _ _ rf, bx.trans (hb.mono bx.size)⟩
  have dz : D5 (zD w) w.heap.size (.int .i64 0) (.int .i64 0) (.int .u64 0) (.string ⟨#[]⟩) (.slice none 0 0) := D5.new w (.int .i64 0) (.int .i64 0) (.int .u64 0) (.string ⟨#[]⟩) (.slice none 0 0)
  have KS : Hid (∀ w' : World, Below (zD w).heap.size (zD w) w' → w'.cell? ⟨b, 0, none⟩ = some (.int .i64 i) ∧ w'.cell? ⟨b, 1, none⟩ = some v ∧ w'.cell? ⟨w.heap.size, 0, none⟩ = some (.int .i64 0) ∧ w'.cell? ⟨w.heap.size, 1, none⟩ = some (.int .i64 0) ∧ w'.cell? ⟨w.heap.size, 2, none⟩ = some (.int .u64 0) ∧ w'.cell? ⟨w.heap.size, 3, none⟩ = some (.string ⟨#[]⟩) ∧ w'.cell? ⟨w.heap.size, 4, none⟩ = some (.slice none 0 0) ∧ ∀ o, w'.frozen? ⟨w.heap.size, o, none⟩ = false) := fun w' h => by
    have k : w'.heap[b]? = some (.cells #[.int .i64 i, v] 176 (0, 0)) := by
      rw [h.block b (by have := hb0.size; omega), b1.block b (by have := hb0.size; omega), hb0.block b hbl]; exact hh
    obtain ⟨c0, c1, c2, c3, c4⟩ := (dz.below h).c
    exact ⟨by simp [World.cell?, k], by simp [World.cell?, k], c0, c1, c2, c3, c4, fun o => (dz.below h).f⟩
  have KD := Lib.hid (Below.drew (Below.refl (zD w).heap.size (zD w)))
  have KP : Hid (∀ (wx : World) (ob : Obj), Below (zD w).heap.size (zD w) wx → (wx.alloc ob).cell? ⟨b, 0, none⟩ = some (.int .i64 i) ∧ (wx.alloc ob).cell? ⟨b, 1, none⟩ = some (v) ∧ (wx.alloc ob).cell? ⟨w.heap.size, 0, none⟩ = some (.int .i64 0) ∧ (wx.alloc ob).cell? ⟨w.heap.size, 1, none⟩ = some (.int .i64 0) ∧ (wx.alloc ob).cell? ⟨w.heap.size, 2, none⟩ = some (.int .u64 0) ∧ (wx.alloc ob).cell? ⟨w.heap.size, 3, none⟩ = some (.string ⟨#[]⟩) ∧ (wx.alloc ob).cell? ⟨w.heap.size, 4, none⟩ = some (.slice none 0 0) ∧ ∀ o, (wx.alloc ob).frozen? ⟨w.heap.size, o, none⟩ = false) := fun wx ob h => KS.out _ (h.alloc h.size ob)
  have KQ : Hid (∀ (wx : World) (ob : Obj) (x0 x1 x2 x3 x4 : Value), Below (zD w).heap.size (zD w) wx → ((((((wx.alloc ob).setCell ⟨w.heap.size, 0, none⟩ x0).setCell ⟨w.heap.size, 1, none⟩ x1).setCell ⟨w.heap.size, 2, none⟩ x2).setCell ⟨w.heap.size, 3, none⟩ x3).setCell ⟨w.heap.size, 4, none⟩ x4).cell? ⟨b, 0, none⟩ = some (.int .i64 i) ∧ ((((((wx.alloc ob).setCell ⟨w.heap.size, 0, none⟩ x0).setCell ⟨w.heap.size, 1, none⟩ x1).setCell ⟨w.heap.size, 2, none⟩ x2).setCell ⟨w.heap.size, 3, none⟩ x3).setCell ⟨w.heap.size, 4, none⟩ x4).cell? ⟨b, 1, none⟩ = some v) := fun wx ob x0 x1 x2 x3 x4 h => by
    have k := KP.out wx ob h
    have hne : b ≠ w.heap.size := by have := hb0.size; omega
    constructor
    · rw [World.cell?_setCell_other, World.cell?_setCell_other, World.cell?_setCell_other, World.cell?_setCell_other, World.cell?_setCell_other]
      exact k.1
      all_goals (simp only [ne_eq, Addr.mk.injEq]; omega)
    · rw [World.cell?_setCell_other, World.cell?_setCell_other, World.cell?_setCell_other, World.cell?_setCell_other, World.cell?_setCell_other]
      exact k.2.1
      all_goals (simp only [ne_eq, Addr.mk.injEq]; omega)
  have FN : Hid (∀ (u0 u1 u2 : Int) (u3 : ByteArray) (a4 : Option Addr) (n4 c4 : Nat) (w2 : World), Hid (Rf (fun g => w.heap.size + 1 ≤ g ∧ g < w2.heap.size) w2 m [.int .i64 u0, .int .i64 u1, .int .u64 u2, .string u3, .slice a4 n4 c4] t) → Below (zD w).heap.size (zD w) w2 → ∀ W, W = ((((((w2.alloc (.cells #[.int .i64 u0, .int .i64 u1, .int .u64 u2, .string u3, .slice a4 n4 c4] 25)).setCell ⟨w.heap.size, 0, none⟩ (.int .i64 11)).setCell ⟨w.heap.size, 1, none⟩ (.int .i64 i)).setCell ⟨w.heap.size, 2, none⟩ (.int .u64 0)).setCell ⟨w.heap.size, 3, none⟩ (.string ⟨#[]⟩)).setCell ⟨w.heap.size, 4, none⟩ (.slice (some ⟨w2.heap.size, 0, none⟩) 1 1)) →
      ∃ g c v0 v1 v2 v3 v4, Ending.returned (.agg #[.int .i64 11, .int .i64 i, .int .u64 0, .string ⟨#[]⟩, .slice (some ⟨w2.heap.size, 0, none⟩) 1 1]) = .returned (.agg #[.int .i64 11, .int .i64 i, .int .u64 0, .string ⟨#[]⟩, .slice (some ⟨g, 0, none⟩) 1 c]) ∧ 1 ≤ c ∧ c ≤ maxLen ∧ w.heap.size ≤ g ∧ g < W.heap.size ∧ (∀ q, W.frozen? ⟨g, q, none⟩ = false) ∧ W.cell? ⟨g, 0, none⟩ = some v0 ∧ W.cell? ⟨g, 1, none⟩ = some v1 ∧ W.cell? ⟨g, 2, none⟩ = some v2 ∧ W.cell? ⟨g, 3, none⟩ = some v3 ∧ W.cell? ⟨g, 4, none⟩ = some v4 ∧ Rf (fun g => w.heap.size ≤ g ∧ g < W.heap.size) W m [v0, v1, v2, v3, v4] t ∧ Below w.heap.size w W) := fun u0 u1 u2 u3 a4 n4 c4 w2 rf b2 W hW => by
    have hz := b2.size
    obtain ⟨p1, p2, p3, p4⟩ := put5 w w2 (w.heap.size + 1) _ _ _ _ _ _ (by omega) (b1.trans (b2.mono (by omega))) (by omega) hW
    refine ⟨w2.heap.size, 1, _, _, _, _, _, rfl, Nat.le_refl _, by decide, by omega, by omega, (fun q => by simp [World.frozen?, p3]), by simp [World.cell?, p3], by simp [World.cell?, p3], by simp [World.cell?, p3], by simp [World.cell?, p3], by simp [World.cell?, p3], Rf.to (fun q hq => ⟨⟨by have := hq.1; omega, by have := hq.2; omega⟩, p2 q hq.1 hq.2⟩) _ _ _ rf.out, p4⟩
  have sx := vr_any hv
  clear ih hv hr h6 hp hh hb0 hbl dz
  rcases sx with rfl | ⟨T, z, rfl⟩
  · go_enter Tryz.func93, Tryz.ntmps93
    go_wp2_with fail
    unfold zD at *
    go_region_held3 (fun w' => w'.cell? ⟨b, 0, none⟩ = some (.int .i64 i) ∧ w'.cell? ⟨b, 1, none⟩ = some (.nilIface)) (first | (with_reducible refine ⟨(KS.out _ ?_).1, (KS.out _ ?_).2.1⟩ <;> with_reducible assumption) | with_reducible exact ⟨(KS.out _ KD.out).1, (KS.out _ KD.out).2.1⟩ | (with_reducible refine ⟨(KP.out _ _ ?_).1, (KP.out _ _ ?_).2.1⟩ <;> with_reducible assumption) | (with_reducible refine KQ.out _ _ _ _ _ _ _ ?_; with_reducible assumption) | trace_state) ((go_at_call 82; refine (KA.out _ (by first | with_reducible assumption | exact KD.out)).mono ?_; rintro e w2 ⟨u0, u1, u2, u3, a4, n4, c4, rfl, rf, b2⟩; obtain ⟨-, -, z0, z1, z2, z3, z4, fz⟩ := KP.out w2 (.cells #[.int .i64 u0, .int .i64 u1, .int .u64 u2, .string u3, .slice a4 n4 c4] 25) b2))
    all_goals go_wp2
    all_goals (refine bodyPost_ret (v := .agg #[.int .i64 11, .int .i64 i, .int .u64 0, .string ⟨#[]⟩, .slice (some ⟨w2.heap.size, 0, none⟩) 1 1]) (by simp [results, Tryz.results93, go_sem, World.cell?_setCell_same, World.cell?_setCell_other, z0, z1, z2, z3, z4]) rfl (FN.out _ _ _ _ _ _ _ w2 rf b2 _ rfl))
  · go_enter Tryz.func93, Tryz.ntmps93
    go_wp2_with fail
    unfold zD at *
    go_region_held3 (fun w' => w'.cell? ⟨b, 0, none⟩ = some (.int .i64 i) ∧ w'.cell? ⟨b, 1, none⟩ = some (.iface T z)) (first | (with_reducible refine ⟨(KS.out _ ?_).1, (KS.out _ ?_).2.1⟩ <;> with_reducible assumption) | with_reducible exact ⟨(KS.out _ KD.out).1, (KS.out _ KD.out).2.1⟩ | (with_reducible refine ⟨(KP.out _ _ ?_).1, (KP.out _ _ ?_).2.1⟩ <;> with_reducible assumption) | (with_reducible refine KQ.out _ _ _ _ _ _ _ ?_; with_reducible assumption) | trace_state) ((go_at_call 82; refine (KA.out _ (by first | with_reducible assumption | exact KD.out)).mono ?_; rintro e w2 ⟨u0, u1, u2, u3, a4, n4, c4, rfl, rf, b2⟩; obtain ⟨-, -, z0, z1, z2, z3, z4, fz⟩ := KP.out w2 (.cells #[.int .i64 u0, .int .i64 u1, .int .u64 u2, .string u3, .slice a4 n4 c4] 25) b2))
    all_goals go_wp2
    all_goals (refine bodyPost_ret (v := .agg #[.int .i64 11, .int .i64 i, .int .u64 0, .string ⟨#[]⟩, .slice (some ⟨w2.heap.size, 0, none⟩) 1 1]) (by simp [results, Tryz.results93, go_sem, World.cell?_setCell_same, World.cell?_setCell_other, z0, z1, z2, z3, z4]) rfl (FN.out _ _ _ _ _ _ _ w2 rf b2 _ rfl))
end Go.Proofs.YtajagjcfmaggiaaGreatDoor.Dt
