/- The law GuardOwn by its contracts; the conditions: the contracts. -/
import Derived.Test.YthamafijjflfbaaGreatMcc
import Derived.Deep.Cut
import Derived.Deep.CutRange
namespace Go.Proofs.YthamafijjflfbaaGreat
open Go.RowKit

/-- A value in new memory, from H on, the block X apart. -/
def Cq (H X m : Nat) (t : Dt.Tr (m + 1)) (p0 p1 p2 : Int) (p3 : ByteArray) (p4 : Option Addr) (p5 p6 : Nat) (w : World) : Prop := Dt.Rf (fun g => H ≤ g ∧ g ≠ X ∧ g < w.heap.size) w (m + 1) [.int .i64 p0, .int .i64 p1, .int .u64 p2, .string p3, .slice p4 p5 p6] t
theorem Cq.below {H X m : Nat} {t : Dt.Tr (m + 1)} {p0 p1 p2 : Int} {p3 : ByteArray} {p4 : Option Addr} {p5 p6 : Nat} {w w' : World} (h : Cq H X m t p0 p1 p2 p3 p4 p5 p6 w) (hb : Below w.heap.size w w') : Cq H X m t p0 p1 p2 p3 p4 p5 p6 w' :=
  Dt.Rf.to (fun g q => ⟨⟨q.1, q.2.1, Nat.lt_of_lt_of_le q.2.2 hb.size⟩, hb.block g q.2.2⟩) _ _ _ h
theorem Cq.old {H m : Nat} {t : Dt.Tr (m + 1)} {p0 p1 p2 : Int} {p3 : ByteArray} {p4 : Option Addr} {p5 p6 : Nat} {w : World} (h : Cp H m t p0 p1 p2 p3 p4 p5 p6 w) : Cq H w.heap.size m t p0 p1 p2 p3 p4 p5 p6 w :=
  Dt.Rf.to (fun g q => ⟨⟨q.1, by omega, q.2⟩, rfl⟩) _ _ _ h
theorem Cq.new {H X K m : Nat} {t : Dt.Tr (m + 1)} {p0 p1 p2 : Int} {p3 : ByteArray} {p4 : Option Addr} {p5 p6 : Nat} {w : World} (h : Cp K m t p0 p1 p2 p3 p4 p5 p6 w) (h1 : H ≤ K) (h2 : X < K) : Cq H X m t p0 p1 p2 p3 p4 p5 p6 w :=
  Dt.Rf.to (fun g q => ⟨⟨by have := q.1; omega, by have := q.1; omega, q.2⟩, rfl⟩) _ _ _ h
theorem Cq.set {H X m : Nat} {t : Dt.Tr (m + 1)} {p0 p1 p2 : Int} {p3 : ByteArray} {p4 : Option Addr} {p5 p6 : Nat} {w w' : World} (h : Cq H X m t p0 p1 p2 p3 p4 p5 p6 w) (hs : w'.heap.size = w.heap.size) (hg : ∀ g, g ≠ X → w'.heap[g]? = w.heap[g]?) : Cp H m t p0 p1 p2 p3 p4 p5 p6 w' :=
  Dt.Rf.to (fun g q => ⟨⟨q.1, by rw [hs]; exact q.2.2⟩, hg g q.2.1⟩) _ _ _ h
theorem set12 {w : World} {A : Nat} {y0 y1 y2 y3 y4 y5 y6 y7 y8 y9 y10 y11 : Value} {T : TypeId} (h : Bk w A #[y0, y1, y2, y3, y4, y5, y6, y7, y8, y9, y10, y11] T) (x0 x1 x2 x3 x4 x5 x6 x7 x8 x9 x10 x11 : Value) {W : World} (hW : W = (((((((((((w.setCell ⟨A, 0, none⟩ x0).setCell ⟨A, 1, none⟩ x1).setCell ⟨A, 2, none⟩ x2).setCell ⟨A, 3, none⟩ x3).setCell ⟨A, 4, none⟩ x4).setCell ⟨A, 5, none⟩ x5).setCell ⟨A, 6, none⟩ x6).setCell ⟨A, 7, none⟩ x7).setCell ⟨A, 8, none⟩ x8).setCell ⟨A, 9, none⟩ x9).setCell ⟨A, 10, none⟩ x10).setCell ⟨A, 11, none⟩ x11) :
    Bk W A #[x0, x1, x2, x3, x4, x5, x6, x7, x8, x9, x10, x11] T ∧ W.heap.size = w.heap.size ∧ (∀ g, g ≠ A → W.heap[g]? = w.heap[g]?) ∧ Below A w W := by
  subst hW
  have h0 : Bk _ A #[x0, y1, y2, y3, y4, y5, y6, y7, y8, y9, y10, y11] T := h.set 0 x0
  have h5 := set12A h0 x1 x2 x3 x4 x5 rfl
  have h10 := set12B h5.1 x6 x7 x8 x9 x10 rfl
  have h11 : Bk _ A #[x0, x1, x2, x3, x4, x5, x6, x7, x8, x9, x10, x11] T := h10.1.set 11 x11
  refine ⟨h11, by simp, fun g hg => ?_, ?_⟩
  · simp (disch := (simp; omega)) only [Below.heap_setCell]
  · exact (((Below.refl A w).setCell (Nat.le_refl A) _).trans (h5.2.2.2.trans h10.2.2.2)).setCell (Nat.le_refl A) _

/-- The cells of a list's block that may be written. -/
def Gx (w : World) (g o n : Nat) : Prop := (∀ j, j < n * 5 → ∃ x, w.cell? ⟨g, o + j, none⟩ = some x) ∧ ∀ q, w.frozen? ⟨g, q, none⟩ = false
theorem Gx.set {w : World} {g o n : Nat} (h : Gx w g o n) (a : Nat) (v : Value) : Gx (w.setCell ⟨g, a, none⟩ v) g o n := by
  refine ⟨fun j hj => ?_, fun q => by simpa using h.2 q⟩
  obtain ⟨x, hx⟩ := h.1 j hj
  by_cases e : a = o + j
  · subst e; exact ⟨v, by simp [World.cell?_setCell_same, hx]⟩
  · exact ⟨x, by rw [World.cell?_setCell_other]; exact hx; simp only [ne_eq, Addr.mk.injEq]; omega⟩
/-- All but the block g is as it was. -/
structure Bt (g : Nat) (w w' : World) : Prop where
  size : w'.heap.size = w.heap.size
  block : ∀ q, q ≠ g → w'.heap[q]? = w.heap[q]?
  b : Below g w w'
theorem Bt.refl (g : Nat) (w : World) : Bt g w w := ⟨rfl, fun _ _ => rfl, Below.refl _ _⟩
theorem Bt.set {g : Nat} {w w' : World} (h : Bt g w w') (a : Nat) (v : Value) : Bt g w (w'.setCell ⟨g, a, none⟩ v) := ⟨by simp [h.size], fun q hq => (Below.heap_setCell _ _ _ q (by show q ≠ g; exact hq)).trans (h.block q hq), h.b.setCell (Nat.le_refl g) v⟩
theorem Bt.bk {g : Nat} {w w' : World} (h : Bt g w w') {N : Nat} {cs : Array Value} {T : TypeId} (k : Bk w N cs T) (hN : N ≠ g) : Bk w' N cs T := (h.block N hN).trans k

/-- A body's list: nothing, or a block from H on whose cells may be written. -/
theorem list_cells {H m : Nat} {tr : Dt.Tr m} {w : World} {g0 g1 g2 : Int} {g3 : ByteArray} {g4 : Option Addr} {g5 g6 : Nat} (h : Dt.Rf (fun g => H ≤ g ∧ g < w.heap.size) w m [.int .i64 g0, .int .i64 g1, .int .u64 g2, .string g3, .slice g4 g5 g6] tr) :
    g5 ≤ maxLen ∧ (g5 = 0 ∨ ∃ g o, g4 = some ⟨g, o, none⟩ ∧ H ≤ g ∧ g < w.heap.size ∧ Gx w g o g5) := by
  match m, tr, h with
  | m + 1, tr, h =>
    obtain ⟨ad, cap, e1, e2, e3, e4, e5⟩ := h
    simp only [List.cons.injEq, Value.slice.injEq, and_true] at e1
    obtain ⟨-, -, -, -, rfl, rfl, rfl⟩ := e1
    refine ⟨by omega, ?_⟩
    rcases e5 with e5 | ⟨g, o, rfl, ⟨hg, hf⟩, e7⟩
    · exact .inl (by rw [e5]; rfl)
    · refine .inr ⟨g, o, rfl, hg.1, hg.2, fun j hj => ?_, hf⟩
      have hq : j / 5 < tr.ks.length := by omega
      obtain ⟨v0, v1, v2, v3, v4, a0, a1, a2, a3, a4, -⟩ := e7 (j / 5) tr.ks[j / 5] (List.getElem?_eq_getElem hq)
      have hm : j % 5 = 0 ∨ j % 5 = 1 ∨ j % 5 = 2 ∨ j % 5 = 3 ∨ j % 5 = 4 := by omega
      rcases hm with hm | hm | hm | hm | hm
      · exact ⟨v0, by rw [show o + j = o + j / 5 * 5 by omega]; exact a0⟩
      · exact ⟨v1, by rw [show o + j = o + j / 5 * 5 + 1 by omega]; exact a1⟩
      · exact ⟨v2, by rw [show o + j = o + j / 5 * 5 + 2 by omega]; exact a2⟩
      · exact ⟨v3, by rw [show o + j = o + j / 5 * 5 + 3 by omega]; exact a3⟩
      · exact ⟨v4, by rw [show o + j = o + j / 5 * 5 + 4 by omega]; exact a4⟩

set_option maxRecDepth 100000 in
set_option maxHeartbeats 4000000 in
theorem go_bad (op : Int) (ak ai au : Int) (az : ByteArray) (aa : Option Addr) (an ac : Nat) (bk bi bu : Int) (bs : ByteArray) (ba : Option Addr) (bn bc : Nat) (num : Int) (w : World)
    (hF : ∀ wx, Below w.heap.size w wx → Calls Tryz.prog 7 #[.agg (acs op ak ai au az aa an ac bk bi bu bs ba bn bc num)] wx fun e w' => e = .returned (.bool false) ∧ Below wx.heap.size wx w') :
    Calls Tryz.prog 6 #[.agg (acs op ak ai au az aa an ac bk bi bu bs ba bn bc num)] w fun e w' => e = .returned (.bool true) ∧ Below w.heap.size w w' := by
  have HF := Lib.hid hF
  have HW := Lib.hid awake_any
  clear hF
  have B0 := below1 w (.cells (acs op ak ai au az aa an ac bk bi bu bs ba bn bc num) 27)
  go_enter Tryz.func6, Tryz.ntmps6
  go_wp2_with fail
  refine (HF.out _ B0).mono ?_
  rintro e w1 ⟨rfl, b1⟩
  have B1 := B0.trans (b1.mono B0.size)
  go_wp2_with fail
  refine (HW.out _).mono ?_
  rintro e w2 ⟨rfl, b2⟩
  have B2 := B1.trans (b2.mono B1.size)
  go_wp2
  go_ret
  exact ⟨rfl, B2⟩

set_option maxRecDepth 100000 in
set_option maxHeartbeats 8000000 in
theorem go_good (op : Int) (ak ai au : Int) (az : ByteArray) (aa : Option Addr) (an ac : Nat) (bk bi bu : Int) (bs : ByteArray) (ba : Option Addr) (bn bc : Nat) (num : Int) (mA mB : Nat) (tA : Dt.Tr (mA + 1)) (tB : Dt.Tr (mB + 1)) (er pk pn : Int) (has : Bool) (m : Nat) (tr : Dt.Tr m) (w : World)
    (hF : ∀ wx, Below w.heap.size w wx → Calls Tryz.prog 7 #[.agg (acs op ak ai au az aa an ac bk bi bu bs ba bn bc num)] wx fun e w' => e = .returned (.bool true) ∧ Below wx.heap.size wx w')
    (hA : ∀ H wx, Below w.heap.size w wx → H ≤ wx.heap.size → Calls Tryz.prog 9 #[.agg #[.int .i64 ak, .int .i64 ai, .int .u64 au, .string az, .slice aa an ac]] wx fun e w' => ∃ p0 p1 p2 p3 p4 p5 p6, e = .returned (.agg #[.int .i64 p0, .int .i64 p1, .int .u64 p2, .string p3, .slice p4 p5 p6]) ∧ Cp H mA tA p0 p1 p2 p3 p4 p5 p6 w' ∧ Below wx.heap.size wx w')
    (hB : ∀ H wx, Below w.heap.size w wx → H ≤ wx.heap.size → Calls Tryz.prog 9 #[.agg #[.int .i64 bk, .int .i64 bi, .int .u64 bu, .string bs, .slice ba bn bc]] wx fun e w' => ∃ p0 p1 p2 p3 p4 p5 p6, e = .returned (.agg #[.int .i64 p0, .int .i64 p1, .int .u64 p2, .string p3, .slice p4 p5 p6]) ∧ Cp H mB tB p0 p1 p2 p3 p4 p5 p6 w' ∧ Below wx.heap.size wx w')
    (hT : ∀ H (p0 p1 p2 : Int) (p3 : ByteArray) (p4 : Option Addr) (p5 p6 : Nat) (q0 q1 q2 : Int) (q3 : ByteArray) (q4 : Option Addr) (q5 q6 : Nat) (wx : World), Cp H mA tA p0 p1 p2 p3 p4 p5 p6 wx → Cp H mB tB q0 q1 q2 q3 q4 q5 q6 wx → Calls Tryz.prog 10 #[.agg (acs op p0 p1 p2 p3 p4 p5 p6 q0 q1 q2 q3 q4 q5 q6 num)] wx (GP er pk pn has m tr wx))
    (hR : ∀ wx, Below w.heap.size w wx → Calls Tryz.prog 12 #[.agg (acs op ak ai au az aa an ac bk bi bu bs ba bn bc num)] wx (GP er pk pn has m tr wx))
    (hSA : ∀ H (p0 p1 p2 : Int) (p3 : ByteArray) (p4 : Option Addr) (p5 p6 : Nat) (wx : World), Below w.heap.size w wx → Cp H mA tA p0 p1 p2 p3 p4 p5 p6 wx → Calls Tryz.prog 13 #[.agg #[.int .i64 p0, .int .i64 p1, .int .u64 p2, .string p3, .slice p4 p5 p6], .agg #[.int .i64 ak, .int .i64 ai, .int .u64 au, .string az, .slice aa an ac]] wx fun e w' => e = .returned (.bool true) ∧ Below wx.heap.size wx w') :
    Calls Tryz.prog 6 #[.agg (acs op ak ai au az aa an ac bk bi bu bs ba bn bc num)] w fun e w' => e = .returned (.bool true) ∧ Below w.heap.size w w' := by
  have HF := Lib.hid hF
  have HA := Lib.hid hA
  have HB := Lib.hid hB
  have HT := Lib.hid hT
  have HR := Lib.hid hR
  have HSA := Lib.hid hSA
  have HW := Lib.hid awake_any
  clear hF hA hB hT hR hSA
  have B0 := below1 w (.cells (acs op ak ai au az aa an ac bk bi bu bs ba bn bc num) 27)
  have A0 := Bk.new w (acs op ak ai au az aa an ac bk bi bu bs ba bn bc num) 27
  go_enter Tryz.func6, Tryz.ntmps6
  go_wp2_with fail
  refine (HF.out _ B0).mono ?_
  rintro e w1 ⟨rfl, b1⟩
  have B1 := B0.trans (b1.mono B0.size)
  have A1 := A0.step b1
  have hs1 : w.heap.size + 1 ≤ w1.heap.size := by have := b1.size; simpa using this
  clear b1 B0 A0
  go_wp2_with fail
  have KS : Hid (∀ wx, Bk wx w.heap.size (acs op ak ai au az aa an ac bk bi bu bs ba bn bc num) 27 → (fun wx => wx.cell? ⟨w.heap.size, 0, none⟩ = some (.int .i64 op) ∧ wx.cell? ⟨w.heap.size, 1, none⟩ = some (.int .i64 ak) ∧ wx.cell? ⟨w.heap.size, 2, none⟩ = some (.int .i64 ai) ∧ wx.cell? ⟨w.heap.size, 3, none⟩ = some (.int .u64 au) ∧ wx.cell? ⟨w.heap.size, 4, none⟩ = some (.string az) ∧ wx.cell? ⟨w.heap.size, 5, none⟩ = some (.slice aa an ac) ∧ wx.cell? ⟨w.heap.size, 6, none⟩ = some (.int .i64 bk) ∧ wx.cell? ⟨w.heap.size, 7, none⟩ = some (.int .i64 bi) ∧ wx.cell? ⟨w.heap.size, 8, none⟩ = some (.int .u64 bu) ∧ wx.cell? ⟨w.heap.size, 9, none⟩ = some (.string bs) ∧ wx.cell? ⟨w.heap.size, 10, none⟩ = some (.slice ba bn bc) ∧ wx.cell? ⟨w.heap.size, 11, none⟩ = some (.int .i64 num)) wx) := fun wx h => h.c12
  go_cut [3] from 6 (fun s3 wc => ∃ (X : Nat) (p0 p1 p2 : Int) (p3 : ByteArray) (p4 : Option Addr) (p5 p6 : Nat) (q0 q1 q2 : Int) (q3 : ByteArray) (q4 : Option Addr) (q5 q6 : Nat), s3 = .pointer (some ⟨X, 0, none⟩) ∧ Bk wc X (acs op p0 p1 p2 p3 p4 p5 p6 q0 q1 q2 q3 q4 q5 q6 num) 27 ∧ Bk wc w.heap.size (acs op ak ai au az aa an ac bk bi bu bs ba bn bc num) 27 ∧ Cp w1.heap.size mA tA p0 p1 p2 p3 p4 p5 p6 wc ∧ Cp w1.heap.size mB tB q0 q1 q2 q3 q4 q5 q6 wc ∧ Below w.heap.size w wc ∧ w.heap.size < X)
  case first =>
    refine wp_region_held_drew (S := (fun wx => wx.cell? ⟨w.heap.size, 0, none⟩ = some (.int .i64 op) ∧ wx.cell? ⟨w.heap.size, 1, none⟩ = some (.int .i64 ak) ∧ wx.cell? ⟨w.heap.size, 2, none⟩ = some (.int .i64 ai) ∧ wx.cell? ⟨w.heap.size, 3, none⟩ = some (.int .u64 au) ∧ wx.cell? ⟨w.heap.size, 4, none⟩ = some (.string az) ∧ wx.cell? ⟨w.heap.size, 5, none⟩ = some (.slice aa an ac) ∧ wx.cell? ⟨w.heap.size, 6, none⟩ = some (.int .i64 bk) ∧ wx.cell? ⟨w.heap.size, 7, none⟩ = some (.int .i64 bi) ∧ wx.cell? ⟨w.heap.size, 8, none⟩ = some (.int .u64 bu) ∧ wx.cell? ⟨w.heap.size, 9, none⟩ = some (.string bs) ∧ wx.cell? ⟨w.heap.size, 10, none⟩ = some (.slice ba bn bc) ∧ wx.cell? ⟨w.heap.size, 11, none⟩ = some (.int .i64 num))) (by kernel_rfl) (KS.out _ (A1.step (Below.drew (Below.refl _ _)))) (fun hHeld => ?_)
    have A2 := A1.step (Below.drew (Below.refl _ _))
    have B2 := B1.drew
    have hs2 : w1.heap.size ≤ w1.drew.heap.size := Nat.le_refl _
    generalize w1.drew = w2 at *
    clear A1 B1
    generalize w1.heap.size = H at *
    refine wpAnyH_take (i := 0) (oi := { dst := some 10, op := Op.fieldAddr 27 (Operand.tmp 1) 0, type := 0, pos := "law.go:86", after := #[], guard := none }) (v := ?tT0) rfl (by kernel_rfl) (by kernel_rfl) (by kernel_rfl) (fun _ _ _ h => h) (Or.inl ⟨by rfl, ?uT0⟩) (by assumption) ?rT0
    case uT0 => (intro w hSw; (try dsimp only at hSw); go_simp; (try with_reducible rfl))
    simp only [Act.put, List.setIfInBounds_toArray, List.set_cons_zero, List.set_cons_succ]
    refine wpAnyH_take (i := 1) (oi := { dst := some 11, op := Op.load 3 (Operand.tmp 10), type := 3, pos := "law.go:86", after := #[{ on := 0, ground := Ground.data }], guard := none }) (v := ?tT1) rfl (by kernel_rfl) (by kernel_rfl) (by kernel_rfl) (fun _ _ _ h => h) (Or.inl ⟨by rfl, ?uT1⟩) (by assumption) ?rT1
    case uT1 => (intro w hSw; (try dsimp only at hSw); go_simp; (try with_reducible rfl))
    simp only [Act.put, List.setIfInBounds_toArray, List.set_cons_zero, List.set_cons_succ]
    refine wpAnyH_take (i := 2) (oi := { dst := some 12, op := Op.fieldAddr 27 (Operand.tmp 1) 1, type := 0, pos := "law.go:86", after := #[], guard := none }) (v := ?tT2) rfl (by kernel_rfl) (by kernel_rfl) (by kernel_rfl) (fun _ _ _ h => h) (Or.inl ⟨by rfl, ?uT2⟩) (by assumption) ?rT2
    case uT2 => (intro w hSw; (try dsimp only at hSw); go_simp; (try with_reducible rfl))
    simp only [Act.put, List.setIfInBounds_toArray, List.set_cons_zero, List.set_cons_succ]
    refine wpAnyH_take (i := 3) (oi := { dst := some 13, op := Op.load 25 (Operand.tmp 12), type := 25, pos := "law.go:86", after := #[{ on := 2, ground := Ground.data }], guard := none }) (v := ?tT3) rfl (by kernel_rfl) (by kernel_rfl) (by kernel_rfl) (fun _ _ _ h => h) (Or.inl ⟨by rfl, ?uT3⟩) (by assumption) ?rT3
    case uT3 => (intro w hSw; (try dsimp only at hSw); go_simp; (try with_reducible rfl))
    simp only [Act.put, List.setIfInBounds_toArray, List.set_cons_zero, List.set_cons_succ]
    refine wpAnyH_take (i := 5) (oi := { dst := some 15, op := Op.fieldAddr 27 (Operand.tmp 1) 2, type := 0, pos := "law.go:86", after := #[], guard := none }) (v := ?tT5) rfl (by kernel_rfl) (by kernel_rfl) (by kernel_rfl) (fun _ _ _ h => h) (Or.inl ⟨by rfl, ?uT5⟩) (by assumption) ?rT5
    case uT5 => (intro w hSw; (try dsimp only at hSw); go_simp; (try with_reducible rfl))
    simp only [Act.put, List.setIfInBounds_toArray, List.set_cons_zero, List.set_cons_succ]
    refine wpAnyH_take (i := 6) (oi := { dst := some 16, op := Op.load 25 (Operand.tmp 15), type := 25, pos := "law.go:86", after := #[{ on := 5, ground := Ground.data }], guard := none }) (v := ?tT6) rfl (by kernel_rfl) (by kernel_rfl) (by kernel_rfl) (fun _ _ _ h => h) (Or.inl ⟨by rfl, ?uT6⟩) (by assumption) ?rT6
    case uT6 => (intro w hSw; (try dsimp only at hSw); go_simp; (try with_reducible rfl))
    simp only [Act.put, List.setIfInBounds_toArray, List.set_cons_zero, List.set_cons_succ]
    refine wpAnyH_take (i := 8) (oi := { dst := some 18, op := Op.fieldAddr 27 (Operand.tmp 1) 3, type := 0, pos := "law.go:86", after := #[], guard := none }) (v := ?tT8) rfl (by kernel_rfl) (by kernel_rfl) (by kernel_rfl) (fun _ _ _ h => h) (Or.inl ⟨by rfl, ?uT8⟩) (by assumption) ?rT8
    case uT8 => (intro w hSw; (try dsimp only at hSw); go_simp; (try with_reducible rfl))
    simp only [Act.put, List.setIfInBounds_toArray, List.set_cons_zero, List.set_cons_succ]
    refine wpAnyH_take (i := 9) (oi := { dst := some 19, op := Op.load 2 (Operand.tmp 18), type := 2, pos := "law.go:86", after := #[{ on := 8, ground := Ground.data }], guard := none }) (v := ?tT9) rfl (by kernel_rfl) (by kernel_rfl) (by kernel_rfl) (fun _ _ _ h => h) (Or.inl ⟨by rfl, ?uT9⟩) (by assumption) ?rT9
    case uT9 => (intro w hSw; (try dsimp only at hSw); go_simp; (try with_reducible rfl))
    simp only [Act.put, List.setIfInBounds_toArray, List.set_cons_zero, List.set_cons_succ]
    refine wpAnyH_ready (rs := [4, 11]) (by kernel_rfl) (by simp) ?_
    refine AllReadyH.cons (o := { dst := some 14, op := Op.call { callee := Callee.value (Operand.func 9), args := #[Operand.tmp 13], argTypes := #[25] }, type := 25, pos := "law.go:86", after := #[{ on := 3, ground := Ground.data }], guard := none }) rfl (fun K hK => ?_) (AllReadyH.cons (o := { dst := some 3, op := Op.alloc 27, type := 0, pos := "law.go:86", after := #[], guard := none }) rfl (fun K hK => ?_) (AllReadyH.nil))
    · go_simp
      refine (HA.out H _ B2 (by omega)).mono ?_
      rintro e wy1 ⟨p0, p1, p2, p3, p4, p5, p6, rfl, c1, b1⟩
      have A1 := A2.step b1
      have B1 := B2.trans (b1.mono B2.size)
      have hs1 : H ≤ wy1.heap.size := Nat.le_trans hs2 b1.size
      have C1 := Lib.hid c1
      clear c1 b1
      go_wp2_with fail
      refine hK.out _ _ (KS.out _ A1) (fun hH1 => ?_)
      clear hK K
      (try simp only [Act.put, List.setIfInBounds_toArray, List.set_cons_zero, List.set_cons_succ])
      refine wpAnyH_ready (rs := [7, 11]) (by kernel_rfl) (by simp) ?_
      refine AllReadyH.cons (o := { dst := some 17, op := Op.call { callee := Callee.value (Operand.func 9), args := #[Operand.tmp 16], argTypes := #[25] }, type := 25, pos := "law.go:86", after := #[{ on := 6, ground := Ground.data }, { on := 4, ground := Ground.chain }], guard := none }) rfl (fun K hK => ?_) (AllReadyH.cons (o := { dst := some 3, op := Op.alloc 27, type := 0, pos := "law.go:86", after := #[], guard := none }) rfl (fun K hK => ?_) (AllReadyH.nil))
      · go_simp
        refine (HB.out H _ B1 (by omega)).mono ?_
        rintro e wy2 ⟨q0, q1, q2, q3, q4, q5, q6, rfl, c2, b2⟩
        have A2 := A1.step b2
        have B2 := B1.trans (b2.mono B1.size)
        have hs2 : H ≤ wy2.heap.size := Nat.le_trans hs1 b2.size
        have C2 := Lib.hid c2
        have D2 := Lib.hid (C1.out.below b2)
        clear c2 b2
        go_wp2_with fail
        refine hK.out _ _ (KS.out _ A2) (fun hH2 => ?_)
        clear hK K
        (try simp only [Act.put, List.setIfInBounds_toArray, List.set_cons_zero, List.set_cons_succ])
        refine wpAnyH_take (i := 10) (oi := { dst := some 20, op := Op.build 27 #[(0, Operand.tmp 11), (1, Operand.tmp 14), (2, Operand.tmp 17), (3, Operand.tmp 19)], type := 27, pos := "law.go:86", after := #[{ on := 1, ground := Ground.data }, { on := 4, ground := Ground.data }, { on := 7, ground := Ground.data }, { on := 9, ground := Ground.data }], guard := none }) (v := ?tZ110) rfl (by kernel_rfl) (by kernel_rfl) (by kernel_rfl) (fun _ _ _ h => h) (Or.inl ⟨by rfl, ?uZ110⟩) (by assumption) ?rZ110
        case uZ110 => (intro w hSw; (try dsimp only at hSw); go_simp; (try with_reducible rfl))
        simp only [Act.put, List.setIfInBounds_toArray, List.set_cons_zero, List.set_cons_succ]
        refine wpAnyH_ready (rs := [11]) (by kernel_rfl) (by simp) ?_
        refine AllReadyH.cons (o := { dst := some 3, op := Op.alloc 27, type := 0, pos := "law.go:86", after := #[], guard := none }) rfl (fun K hK => ?_) (AllReadyH.nil)
        go_simp
        have e3 := below1 (wy2) (.cells (acs 0 0 0 0 ⟨#[]⟩ none 0 0 0 0 0 ⟨#[]⟩ none 0 0 0) 27)
        have X3 := Bk.new (wy2) (acs 0 0 0 0 ⟨#[]⟩ none 0 0 0 0 0 ⟨#[]⟩ none 0 0 0) 27
        have A3 := A2.step e3
        have B3 := B2.trans (e3.mono B2.size)
        have hs3 : H ≤ ((wy2).alloc (.cells (acs 0 0 0 0 ⟨#[]⟩ none 0 0 0 0 0 ⟨#[]⟩ none 0 0 0) 27)).heap.size := Nat.le_trans hs2 e3.size
        have hx3 : H ≤ (wy2).heap.size := hs2
        have lx3 := X3.lt
        have PA3 := Lib.hid ((Cq.old D2.out).below e3)
        have PB3 := Lib.hid ((Cq.old C2.out).below e3)
        clear e3
        generalize hN3 : (wy2).heap.size = N3 at *
        generalize hW3 : (wy2).alloc (.cells (acs 0 0 0 0 ⟨#[]⟩ none 0 0 0 0 0 ⟨#[]⟩ none 0 0 0) 27) = wv3 at *
        refine hK.out _ _ (KS.out _ A3) (fun hH3 => ?_)
        clear hK K
        (try simp only [Act.put, List.setIfInBounds_toArray, List.set_cons_zero, List.set_cons_succ])
        obtain ⟨z0, z1, z2, z3, z4, z5, z6, z7, z8, z9, z10, z11⟩ := X3.c12
        have fX := X3.f
        refine wpAnyH_ready (rs := [12]) (by kernel_rfl) (by simp) ?_
        refine AllReadyH.cons (o := { dst := none, op := Op.store 27 (Operand.tmp 3) (Operand.tmp 20), type := 0, pos := "law.go:86", after := #[{ on := 11, ground := Ground.data }, { on := 10, ground := Ground.data }, { on := 7, ground := Ground.chain }, { on := 0, ground := Ground.phase }, { on := 1, ground := Ground.phase }, { on := 2, ground := Ground.phase }, { on := 3, ground := Ground.phase }, { on := 4, ground := Ground.phase }, { on := 5, ground := Ground.phase }, { on := 6, ground := Ground.phase }, { on := 7, ground := Ground.phase }, { on := 8, ground := Ground.phase }, { on := 9, ground := Ground.phase }, { on := 10, ground := Ground.phase }, { on := 11, ground := Ground.phase }], guard := none }) rfl (fun K hK => ?_) AllReadyH.nil
        go_simp
        obtain ⟨M1, M2, M3, M4⟩ := set12 X3 (.int .i64 op) (.int .i64 p0) (.int .i64 p1) (.int .u64 p2) (.string p3) (.slice p4 p5 p6) (.int .i64 q0) (.int .i64 q1) (.int .u64 q2) (.string q3) (.slice q4 q5 q6) (.int .i64 num) rfl
        have A9 : Bk _ w.heap.size (acs op ak ai au az aa an ac bk bi bu bs ba bn bc num) 27 := (M3 w.heap.size (by omega)).trans A3
        have B9 := B3.trans (M4.mono (by omega))
        have PA9 := Lib.hid (PA3.out.set M2 M3)
        have PB9 := Lib.hid (PB3.out.set M2 M3)
        have lX : w.heap.size < N3 := by omega
        clear z0 z1 z2 z3 z4 z5 z6 z7 z8 z9 z10 z11 fX
        refine hK.out _ _ (KS.out _ A9) (fun hH99 => ?_)
        clear hK K
        (try simp only [Act.put, List.setIfInBounds_toArray, List.set_cons_zero, List.set_cons_succ])
        refine wpAnyH_done (by kernel_rfl) ?_ _
        go_wp2_with fail
        go_meet
        exact ⟨_, p0, p1, p2, p3, p4, p5, p6, q0, q1, q2, q3, q4, q5, q6, rfl, M1, A9, PA9.out, PB9.out, B9, lX⟩
      · go_simp
        have e4 := below1 (wy1) (.cells (acs 0 0 0 0 ⟨#[]⟩ none 0 0 0 0 0 ⟨#[]⟩ none 0 0 0) 27)
        have X4 := Bk.new (wy1) (acs 0 0 0 0 ⟨#[]⟩ none 0 0 0 0 0 ⟨#[]⟩ none 0 0 0) 27
        have A4 := A1.step e4
        have B4 := B1.trans (e4.mono B1.size)
        have hs4 : H ≤ ((wy1).alloc (.cells (acs 0 0 0 0 ⟨#[]⟩ none 0 0 0 0 0 ⟨#[]⟩ none 0 0 0) 27)).heap.size := Nat.le_trans hs1 e4.size
        have hx4 : H ≤ (wy1).heap.size := hs1
        have lx4 := X4.lt
        have PA4 := Lib.hid ((Cq.old C1.out).below e4)
        clear e4
        generalize hN4 : (wy1).heap.size = N4 at *
        generalize hW4 : (wy1).alloc (.cells (acs 0 0 0 0 ⟨#[]⟩ none 0 0 0 0 0 ⟨#[]⟩ none 0 0 0) 27) = wv4 at *
        refine hK.out _ _ (KS.out _ A4) (fun hH4 => ?_)
        clear hK K
        (try simp only [Act.put, List.setIfInBounds_toArray, List.set_cons_zero, List.set_cons_succ])
        refine wpAnyH_ready (rs := [7]) (by kernel_rfl) (by simp) ?_
        refine AllReadyH.cons (o := { dst := some 17, op := Op.call { callee := Callee.value (Operand.func 9), args := #[Operand.tmp 16], argTypes := #[25] }, type := 25, pos := "law.go:86", after := #[{ on := 6, ground := Ground.data }, { on := 4, ground := Ground.chain }], guard := none }) rfl (fun K hK => ?_) (AllReadyH.nil)
        go_simp
        refine (HB.out (N4 + 1) _ B4 (by omega)).mono ?_
        rintro e wy5 ⟨q0, q1, q2, q3, q4, q5, q6, rfl, c5, b5⟩
        have A5 := A4.step b5
        have B5 := B4.trans (b5.mono B4.size)
        have hs5 : H ≤ wy5.heap.size := Nat.le_trans hs4 b5.size
        have X5 := X4.step b5
        have lx5 := X5.lt
        have C5 := Lib.hid (Cq.new (H := H) (X := N4) c5 (by omega) (by omega))
        have D5 := Lib.hid (PA4.out.below b5)
        clear c5 b5
        go_wp2_with fail
        refine hK.out _ _ (KS.out _ A5) (fun hH5 => ?_)
        clear hK K
        (try simp only [Act.put, List.setIfInBounds_toArray, List.set_cons_zero, List.set_cons_succ])
        refine wpAnyH_take (i := 10) (oi := { dst := some 20, op := Op.build 27 #[(0, Operand.tmp 11), (1, Operand.tmp 14), (2, Operand.tmp 17), (3, Operand.tmp 19)], type := 27, pos := "law.go:86", after := #[{ on := 1, ground := Ground.data }, { on := 4, ground := Ground.data }, { on := 7, ground := Ground.data }, { on := 9, ground := Ground.data }], guard := none }) (v := ?tZ210) rfl (by kernel_rfl) (by kernel_rfl) (by kernel_rfl) (fun _ _ _ h => h) (Or.inl ⟨by rfl, ?uZ210⟩) (by assumption) ?rZ210
        case uZ210 => (intro w hSw; (try dsimp only at hSw); go_simp; (try with_reducible rfl))
        simp only [Act.put, List.setIfInBounds_toArray, List.set_cons_zero, List.set_cons_succ]
        obtain ⟨z0, z1, z2, z3, z4, z5, z6, z7, z8, z9, z10, z11⟩ := X5.c12
        have fX := X5.f
        refine wpAnyH_ready (rs := [12]) (by kernel_rfl) (by simp) ?_
        refine AllReadyH.cons (o := { dst := none, op := Op.store 27 (Operand.tmp 3) (Operand.tmp 20), type := 0, pos := "law.go:86", after := #[{ on := 11, ground := Ground.data }, { on := 10, ground := Ground.data }, { on := 7, ground := Ground.chain }, { on := 0, ground := Ground.phase }, { on := 1, ground := Ground.phase }, { on := 2, ground := Ground.phase }, { on := 3, ground := Ground.phase }, { on := 4, ground := Ground.phase }, { on := 5, ground := Ground.phase }, { on := 6, ground := Ground.phase }, { on := 7, ground := Ground.phase }, { on := 8, ground := Ground.phase }, { on := 9, ground := Ground.phase }, { on := 10, ground := Ground.phase }, { on := 11, ground := Ground.phase }], guard := none }) rfl (fun K hK => ?_) AllReadyH.nil
        go_simp
        obtain ⟨M1, M2, M3, M4⟩ := set12 X5 (.int .i64 op) (.int .i64 p0) (.int .i64 p1) (.int .u64 p2) (.string p3) (.slice p4 p5 p6) (.int .i64 q0) (.int .i64 q1) (.int .u64 q2) (.string q3) (.slice q4 q5 q6) (.int .i64 num) rfl
        have A9 : Bk _ w.heap.size (acs op ak ai au az aa an ac bk bi bu bs ba bn bc num) 27 := (M3 w.heap.size (by omega)).trans A5
        have B9 := B5.trans (M4.mono (by omega))
        have PA9 := Lib.hid (D5.out.set M2 M3)
        have PB9 := Lib.hid (C5.out.set M2 M3)
        have lX : w.heap.size < N4 := by omega
        clear z0 z1 z2 z3 z4 z5 z6 z7 z8 z9 z10 z11 fX
        refine hK.out _ _ (KS.out _ A9) (fun hH99 => ?_)
        clear hK K
        (try simp only [Act.put, List.setIfInBounds_toArray, List.set_cons_zero, List.set_cons_succ])
        refine wpAnyH_done (by kernel_rfl) ?_ _
        go_wp2_with fail
        go_meet
        exact ⟨_, p0, p1, p2, p3, p4, p5, p6, q0, q1, q2, q3, q4, q5, q6, rfl, M1, A9, PA9.out, PB9.out, B9, lX⟩
    · go_simp
      have e6 := below1 (w2) (.cells (acs 0 0 0 0 ⟨#[]⟩ none 0 0 0 0 0 ⟨#[]⟩ none 0 0 0) 27)
      have X6 := Bk.new (w2) (acs 0 0 0 0 ⟨#[]⟩ none 0 0 0 0 0 ⟨#[]⟩ none 0 0 0) 27
      have A6 := A2.step e6
      have B6 := B2.trans (e6.mono B2.size)
      have hs6 : H ≤ ((w2).alloc (.cells (acs 0 0 0 0 ⟨#[]⟩ none 0 0 0 0 0 ⟨#[]⟩ none 0 0 0) 27)).heap.size := Nat.le_trans hs2 e6.size
      have hx6 : H ≤ (w2).heap.size := hs2
      have lx6 := X6.lt
      clear e6
      generalize hN6 : (w2).heap.size = N6 at *
      generalize hW6 : (w2).alloc (.cells (acs 0 0 0 0 ⟨#[]⟩ none 0 0 0 0 0 ⟨#[]⟩ none 0 0 0) 27) = wv6 at *
      refine hK.out _ _ (KS.out _ A6) (fun hH6 => ?_)
      clear hK K
      (try simp only [Act.put, List.setIfInBounds_toArray, List.set_cons_zero, List.set_cons_succ])
      refine wpAnyH_ready (rs := [4]) (by kernel_rfl) (by simp) ?_
      refine AllReadyH.cons (o := { dst := some 14, op := Op.call { callee := Callee.value (Operand.func 9), args := #[Operand.tmp 13], argTypes := #[25] }, type := 25, pos := "law.go:86", after := #[{ on := 3, ground := Ground.data }], guard := none }) rfl (fun K hK => ?_) (AllReadyH.nil)
      go_simp
      refine (HA.out (N6 + 1) _ B6 (by omega)).mono ?_
      rintro e wy7 ⟨p0, p1, p2, p3, p4, p5, p6, rfl, c7, b7⟩
      have A7 := A6.step b7
      have B7 := B6.trans (b7.mono B6.size)
      have hs7 : H ≤ wy7.heap.size := Nat.le_trans hs6 b7.size
      have X7 := X6.step b7
      have lx7 := X7.lt
      have C7 := Lib.hid (Cq.new (H := H) (X := N6) c7 (by omega) (by omega))
      clear c7 b7
      go_wp2_with fail
      refine hK.out _ _ (KS.out _ A7) (fun hH7 => ?_)
      clear hK K
      (try simp only [Act.put, List.setIfInBounds_toArray, List.set_cons_zero, List.set_cons_succ])
      refine wpAnyH_ready (rs := [7]) (by kernel_rfl) (by simp) ?_
      refine AllReadyH.cons (o := { dst := some 17, op := Op.call { callee := Callee.value (Operand.func 9), args := #[Operand.tmp 16], argTypes := #[25] }, type := 25, pos := "law.go:86", after := #[{ on := 6, ground := Ground.data }, { on := 4, ground := Ground.chain }], guard := none }) rfl (fun K hK => ?_) (AllReadyH.nil)
      go_simp
      refine (HB.out (N6 + 1) _ B7 (by omega)).mono ?_
      rintro e wy8 ⟨q0, q1, q2, q3, q4, q5, q6, rfl, c8, b8⟩
      have A8 := A7.step b8
      have B8 := B7.trans (b8.mono B7.size)
      have hs8 : H ≤ wy8.heap.size := Nat.le_trans hs7 b8.size
      have X8 := X7.step b8
      have lx8 := X8.lt
      have C8 := Lib.hid (Cq.new (H := H) (X := N6) c8 (by omega) (by omega))
      have D8 := Lib.hid (C7.out.below b8)
      clear c8 b8
      go_wp2_with fail
      refine hK.out _ _ (KS.out _ A8) (fun hH8 => ?_)
      clear hK K
      (try simp only [Act.put, List.setIfInBounds_toArray, List.set_cons_zero, List.set_cons_succ])
      refine wpAnyH_take (i := 10) (oi := { dst := some 20, op := Op.build 27 #[(0, Operand.tmp 11), (1, Operand.tmp 14), (2, Operand.tmp 17), (3, Operand.tmp 19)], type := 27, pos := "law.go:86", after := #[{ on := 1, ground := Ground.data }, { on := 4, ground := Ground.data }, { on := 7, ground := Ground.data }, { on := 9, ground := Ground.data }], guard := none }) (v := ?tZ310) rfl (by kernel_rfl) (by kernel_rfl) (by kernel_rfl) (fun _ _ _ h => h) (Or.inl ⟨by rfl, ?uZ310⟩) (by assumption) ?rZ310
      case uZ310 => (intro w hSw; (try dsimp only at hSw); go_simp; (try with_reducible rfl))
      simp only [Act.put, List.setIfInBounds_toArray, List.set_cons_zero, List.set_cons_succ]
      obtain ⟨z0, z1, z2, z3, z4, z5, z6, z7, z8, z9, z10, z11⟩ := X8.c12
      have fX := X8.f
      refine wpAnyH_ready (rs := [12]) (by kernel_rfl) (by simp) ?_
      refine AllReadyH.cons (o := { dst := none, op := Op.store 27 (Operand.tmp 3) (Operand.tmp 20), type := 0, pos := "law.go:86", after := #[{ on := 11, ground := Ground.data }, { on := 10, ground := Ground.data }, { on := 7, ground := Ground.chain }, { on := 0, ground := Ground.phase }, { on := 1, ground := Ground.phase }, { on := 2, ground := Ground.phase }, { on := 3, ground := Ground.phase }, { on := 4, ground := Ground.phase }, { on := 5, ground := Ground.phase }, { on := 6, ground := Ground.phase }, { on := 7, ground := Ground.phase }, { on := 8, ground := Ground.phase }, { on := 9, ground := Ground.phase }, { on := 10, ground := Ground.phase }, { on := 11, ground := Ground.phase }], guard := none }) rfl (fun K hK => ?_) AllReadyH.nil
      go_simp
      obtain ⟨M1, M2, M3, M4⟩ := set12 X8 (.int .i64 op) (.int .i64 p0) (.int .i64 p1) (.int .u64 p2) (.string p3) (.slice p4 p5 p6) (.int .i64 q0) (.int .i64 q1) (.int .u64 q2) (.string q3) (.slice q4 q5 q6) (.int .i64 num) rfl
      have A9 : Bk _ w.heap.size (acs op ak ai au az aa an ac bk bi bu bs ba bn bc num) 27 := (M3 w.heap.size (by omega)).trans A8
      have B9 := B8.trans (M4.mono (by omega))
      have PA9 := Lib.hid (D8.out.set M2 M3)
      have PB9 := Lib.hid (C8.out.set M2 M3)
      have lX : w.heap.size < N6 := by omega
      clear z0 z1 z2 z3 z4 z5 z6 z7 z8 z9 z10 z11 fX
      refine hK.out _ _ (KS.out _ A9) (fun hH99 => ?_)
      clear hK K
      (try simp only [Act.put, List.setIfInBounds_toArray, List.set_cons_zero, List.set_cons_succ])
      refine wpAnyH_done (by kernel_rfl) ?_ _
      go_wp2_with fail
      go_meet
      exact ⟨_, p0, p1, p2, p3, p4, p5, p6, q0, q1, q2, q3, q4, q5, q6, rfl, M1, A9, PA9.out, PB9.out, B9, lX⟩
  case rest =>
    obtain ⟨X, p0, p1, p2, p3, p4, p5, p6, q0, q1, q2, q3, q4, q5, q6, rfl, X2, A2, PA2, PB2, B2, lX⟩ := hcut
    clear A1 B1 KS HA HB
    have hXl := X2.lt
    obtain ⟨c0, c1, c2, c3, c4, c5, c6, c7, c8, c9, c10, c11⟩ := X2.c12
    go_wp2_with fail
    refine (HT.out w1.heap.size p0 p1 p2 p3 p4 p5 p6 q0 q1 q2 q3 q4 q5 q6 wc PA2 PB2).mono ?_
    rintro e w8 ⟨g0, g1, g2, g3, g4, g5, g6, rfl, rg, b8⟩
    obtain ⟨hml, hlc⟩ := list_cells rg
    have e8 := below1 w8 (.cells (rcs er 0 pk pn has g0 g1 g2 g3 g4 g5 g6) 35)
    have G9 := Bk.new w8 (rcs er 0 pk pn has g0 g1 g2 g3 g4 g5 g6) 35
    have A9 := (A2.step b8).step e8
    have X9 := (X2.step b8).step e8
    have B9 := (B2.trans (b8.mono B2.size)).trans (e8.mono (Nat.le_trans B2.size b8.size))
    have PA9 := Lib.hid ((PA2.below b8).below e8)
    have PB9 := Lib.hid ((PB2.below b8).below e8)
    have hs8 := b8.size
    have hwc := B2.size
    have hg0 : ∃ g o, wc.heap.size ≤ g ∧ g ≠ w8.heap.size ∧ (g5 = 0 ∨ (g4 = some ⟨g, o, none⟩ ∧ g < w8.heap.size ∧ Gx (w8.alloc (.cells (rcs er 0 pk pn has g0 g1 g2 g3 g4 g5 g6) 35)) g o g5)) := by
      rcases hlc with h | ⟨g, o, h1, h2, h3, h4⟩
      · exact ⟨w8.heap.size + 1, 0, by omega, by omega, .inl h⟩
      · refine ⟨g, o, h2, by omega, .inr ⟨h1, h3, fun j hj => ?_, fun q => (Dt.frozen_heap (e8.block g h3)).trans (h4.2 q)⟩⟩
        obtain ⟨x, hx⟩ := h4.1 j hj
        exact ⟨x, (e8.cell (p := ⟨g, o + j, none⟩) h3).trans hx⟩
    obtain ⟨g, o, hg1, hg2, hg3⟩ := hg0
    have HG3 := Lib.hid hg3
    have RG9 := Lib.hid rg
    have PAwc := Lib.hid PA2
    have PBwc := Lib.hid PB2
    have hbA := Lib.hid (b8.trans (e8.mono hs8))
    clear c0 c1 c2 c3 c4 c5 c6 c7 c8 c9 c10 c11 A2 X2 B2 b8 e8 rg hlc hg3 PA2 PB2
    have hml' : g5 ≤ 9223372036854775807 := by unfold maxLen at hml; omega
    obtain ⟨d0, d1, d2, d3, d4, d5, d6, d7, d8, d9⟩ := G9.c10
    go_wp2_with fail
    clear d0 d1 d2 d3 d4 d5 d6 d7 d8 d9
    generalize hG : w8.heap.size = G at *
    generalize hw9 : w8.alloc (.cells (rcs er 0 pk pn has g0 g1 g2 g3 g4 g5 g6) 35) = w9 at *
    clear hw9
    go_loopw [27] (fun si wr => ∃ (j : Nat), si = .int .i64 j ∧ j ≤ g5 ∧ Bt g w9 wr ∧ (g5 = 0 ∨ (g4 = some ⟨g, o, none⟩ ∧ g < G ∧ Gx wr g o g5))) (fun si _ => g5 - (intOf si).toNat)
    case atStart => exact ⟨0, rfl, Nat.zero_le _, Bt.refl g w9, HG3.out⟩
    case round =>
      obtain ⟨j, rfl, hj, hbt, hgx⟩ := hrel
      have G10 := hbt.bk G9 (Ne.symm hg2)
      by_cases hlt : j < g5
      · rcases hgx with hgx | ⟨rfl, hgl, hgx⟩
        · omega
        obtain ⟨y0, k0⟩ := hgx.1 (j * 5) (by omega)
        obtain ⟨y1, k1⟩ := hgx.1 (j * 5 + 1) (by omega)
        obtain ⟨y2, k2⟩ := hgx.1 (j * 5 + 2) (by omega)
        obtain ⟨y3, k3⟩ := hgx.1 (j * 5 + 3) (by omega)
        obtain ⟨y4, k4⟩ := hgx.1 (j * 5 + 4) (by omega)
        have k1' : wr.cell? ⟨g, o + j * 5 + 1, none⟩ = some y1 := k1
        have k2' : wr.cell? ⟨g, o + j * 5 + 2, none⟩ = some y2 := k2
        have k3' : wr.cell? ⟨g, o + j * 5 + 3, none⟩ = some y3 := k3
        have k4' : wr.cell? ⟨g, o + j * 5 + 4, none⟩ = some y4 := k4
        have kf := hgx.2
        have FB := Lib.hid hbt
        have FG := Lib.hid hgx
        clear k1 k2 k3 k4 hbt hgx
        obtain ⟨d0, d1, d2, d3, d4, d5, d6, d7, d8, d9⟩ := G10.c10
        go_wp2_with fail
        exact ⟨⟨j + 1, by go_num, by omega, ((((FB.out.set _ _).set _ _).set _ _).set _ _).set _ _, .inr ⟨by first | trivial | rfl, hgl, ((((FG.out.set _ _).set _ _).set _ _).set _ _).set _ _⟩⟩, by simp [intOf]; omega⟩
      · have hje : j = g5 := by omega
        subst hje
        have A10 := hbt.bk A9 (by omega)
        have X10 := hbt.bk X9 (by omega)
        have B10 := B9.trans (hbt.b.mono (by omega))
        have PA10 := Lib.hid (PAwc.out.keep (by have := hbA.out.size; have := hbt.size; omega) fun q hq hl => (hbt.block q (by omega)).trans (hbA.out.block q hl))
        have PB10 := Lib.hid (PBwc.out.keep (by have := hbA.out.size; have := hbt.size; omega) fun q hq hl => (hbt.block q (by omega)).trans (hbA.out.block q hl))
        clear hbt hgx G9 A9 X9 B9 PA9 PB9 G10 HG3 RG9 PAwc PBwc hbA
        go_wp2_with fail
        have KG : Hid (∀ wx, Bk wx X (acs op p0 p1 p2 p3 p4 p5 p6 q0 q1 q2 q3 q4 q5 q6 num) 27 → Bk wx w.heap.size (acs op ak ai au az aa an ac bk bi bu bs ba bn bc num) 27 → (fun wx => (wx.cell? ⟨X, 0, none⟩ = some (.int .i64 op) ∧ wx.cell? ⟨X, 1, none⟩ = some (.int .i64 p0) ∧ wx.cell? ⟨X, 2, none⟩ = some (.int .i64 p1) ∧ wx.cell? ⟨X, 3, none⟩ = some (.int .u64 p2) ∧ wx.cell? ⟨X, 4, none⟩ = some (.string p3) ∧ wx.cell? ⟨X, 5, none⟩ = some (.slice p4 p5 p6) ∧ wx.cell? ⟨X, 6, none⟩ = some (.int .i64 q0) ∧ wx.cell? ⟨X, 7, none⟩ = some (.int .i64 q1) ∧ wx.cell? ⟨X, 8, none⟩ = some (.int .u64 q2) ∧ wx.cell? ⟨X, 9, none⟩ = some (.string q3) ∧ wx.cell? ⟨X, 10, none⟩ = some (.slice q4 q5 q6) ∧ wx.cell? ⟨X, 11, none⟩ = some (.int .i64 num)) ∧ wx.cell? ⟨w.heap.size, 0, none⟩ = some (.int .i64 op) ∧ wx.cell? ⟨w.heap.size, 1, none⟩ = some (.int .i64 ak) ∧ wx.cell? ⟨w.heap.size, 2, none⟩ = some (.int .i64 ai) ∧ wx.cell? ⟨w.heap.size, 3, none⟩ = some (.int .u64 au) ∧ wx.cell? ⟨w.heap.size, 4, none⟩ = some (.string az) ∧ wx.cell? ⟨w.heap.size, 5, none⟩ = some (.slice aa an ac) ∧ wx.cell? ⟨w.heap.size, 6, none⟩ = some (.int .i64 bk) ∧ wx.cell? ⟨w.heap.size, 7, none⟩ = some (.int .i64 bi) ∧ wx.cell? ⟨w.heap.size, 8, none⟩ = some (.int .u64 bu) ∧ wx.cell? ⟨w.heap.size, 9, none⟩ = some (.string bs) ∧ wx.cell? ⟨w.heap.size, 10, none⟩ = some (.slice ba bn bc) ∧ wx.cell? ⟨w.heap.size, 11, none⟩ = some (.int .i64 num)) wx) := fun wx h h' => ⟨h.c12, h'.c12⟩
        refine wp_region_held_drew (S := (fun wx => (wx.cell? ⟨X, 0, none⟩ = some (.int .i64 op) ∧ wx.cell? ⟨X, 1, none⟩ = some (.int .i64 p0) ∧ wx.cell? ⟨X, 2, none⟩ = some (.int .i64 p1) ∧ wx.cell? ⟨X, 3, none⟩ = some (.int .u64 p2) ∧ wx.cell? ⟨X, 4, none⟩ = some (.string p3) ∧ wx.cell? ⟨X, 5, none⟩ = some (.slice p4 p5 p6) ∧ wx.cell? ⟨X, 6, none⟩ = some (.int .i64 q0) ∧ wx.cell? ⟨X, 7, none⟩ = some (.int .i64 q1) ∧ wx.cell? ⟨X, 8, none⟩ = some (.int .u64 q2) ∧ wx.cell? ⟨X, 9, none⟩ = some (.string q3) ∧ wx.cell? ⟨X, 10, none⟩ = some (.slice q4 q5 q6) ∧ wx.cell? ⟨X, 11, none⟩ = some (.int .i64 num)) ∧ wx.cell? ⟨w.heap.size, 0, none⟩ = some (.int .i64 op) ∧ wx.cell? ⟨w.heap.size, 1, none⟩ = some (.int .i64 ak) ∧ wx.cell? ⟨w.heap.size, 2, none⟩ = some (.int .i64 ai) ∧ wx.cell? ⟨w.heap.size, 3, none⟩ = some (.int .u64 au) ∧ wx.cell? ⟨w.heap.size, 4, none⟩ = some (.string az) ∧ wx.cell? ⟨w.heap.size, 5, none⟩ = some (.slice aa an ac) ∧ wx.cell? ⟨w.heap.size, 6, none⟩ = some (.int .i64 bk) ∧ wx.cell? ⟨w.heap.size, 7, none⟩ = some (.int .i64 bi) ∧ wx.cell? ⟨w.heap.size, 8, none⟩ = some (.int .u64 bu) ∧ wx.cell? ⟨w.heap.size, 9, none⟩ = some (.string bs) ∧ wx.cell? ⟨w.heap.size, 10, none⟩ = some (.slice ba bn bc) ∧ wx.cell? ⟨w.heap.size, 11, none⟩ = some (.int .i64 num))) (by kernel_rfl) (KG.out _ (X10.step (Below.drew (Below.refl _ _))) (A10.step (Below.drew (Below.refl _ _)))) (fun hHeld => ?_)
        have A11 := A10.step (Below.drew (Below.refl _ _))
        have X11 := X10.step (Below.drew (Below.refl _ _))
        have B11 := B10.drew
        have PA11 := Lib.hid (PA10.out.below (Below.drew (Below.refl _ _)))
        have PB11 := Lib.hid (PB10.out.below (Below.drew (Below.refl _ _)))
        clear A10 X10 B10 PA10 PB10
        generalize wr.drew = w11 at *
        refine wpAnyH_take (i := 0) (oi := { dst := some 37, op := Op.load 27 (Operand.tmp 3), type := 27, pos := "law.go:91", after := #[], guard := none }) (v := ?tJ0) rfl (by kernel_rfl) (by kernel_rfl) (by kernel_rfl) (fun _ _ _ h => h) (Or.inl ⟨by rfl, ?uJ0⟩) (by assumption) ?rJ0
        case uJ0 => (intro w hSw; (try dsimp only at hSw); go_simp; (try with_reducible rfl))
        simp only [Act.put, List.setIfInBounds_toArray, List.set_cons_zero, List.set_cons_succ]
        refine wpAnyH_take (i := 2) (oi := { dst := some 39, op := Op.load 27 (Operand.tmp 1), type := 27, pos := "law.go:91", after := #[], guard := none }) (v := ?tJ2) rfl (by kernel_rfl) (by kernel_rfl) (by kernel_rfl) (fun _ _ _ h => h) (Or.inl ⟨by rfl, ?uJ2⟩) (by assumption) ?rJ2
        case uJ2 => (intro w hSw; (try dsimp only at hSw); go_simp; (try with_reducible rfl))
        simp only [Act.put, List.setIfInBounds_toArray, List.set_cons_zero, List.set_cons_succ]
        refine wpAnyH_ready (rs := [1]) (by kernel_rfl) (by simp) ?_
        refine AllReadyH.cons (o := { dst := some 38, op := Op.call { callee := Callee.value (Operand.func 10), args := #[Operand.tmp 37], argTypes := #[27] }, type := 35, pos := "law.go:91", after := #[{ on := 0, ground := Ground.data }], guard := none }) rfl (fun K hK => ?_) AllReadyH.nil
        go_simp
        refine (HT.out w1.heap.size p0 p1 p2 p3 p4 p5 p6 q0 q1 q2 q3 q4 q5 q6 w11 PA11.out PB11.out).mono ?_
        rintro e w12 ⟨t0, t1, t2, t3, t4, t5, t6, rfl, rt, b12⟩
        have A12 := A11.step b12
        have X12 := X11.step b12
        have B12 := B11.trans (b12.mono B11.size)
        have PA12 := Lib.hid (PA11.out.below b12)
        clear A11 X11 B11 PA11
        have RG12 := Lib.hid (Dt.Rf.rep _ _ _ rt)
        clear rt b12 HT PB11
        go_wp2_with fail
        refine hK.out _ _ (KG.out _ X12 A12) (fun hH12 => ?_)
        clear hK K
        (try simp only [Act.put, List.setIfInBounds_toArray, List.set_cons_zero, List.set_cons_succ])
        refine wpAnyH_ready (rs := [3]) (by kernel_rfl) (by simp) ?_
        refine AllReadyH.cons (o := { dst := some 40, op := Op.call { callee := Callee.value (Operand.func 12), args := #[Operand.tmp 39], argTypes := #[27] }, type := 35, pos := "law.go:91", after := #[{ on := 2, ground := Ground.data }, { on := 1, ground := Ground.chain }], guard := none }) rfl (fun K hK => ?_) AllReadyH.nil
        go_simp
        refine (HR.out _ B12).mono ?_
        rintro e w13 ⟨h0, h1, h2, h3, h4, h5, h6, rfl, rh, b13⟩
        have A13 := A12.step b13
        have X13 := X12.step b13
        have B13 := B12.trans (b13.mono B12.size)
        have PA13 := Lib.hid (PA12.out.below b13)
        clear A12 X12 B12 PA12
        have RG13 := Lib.hid (Dt.Rep.below b13 _ _ _ RG12.out)
        have RH13 := Lib.hid (Dt.Rf.rep _ _ _ rh)
        clear rh b13 HR RG12
        go_wp2_with fail
        refine hK.out _ _ (KG.out _ X13 A13) (fun hH13 => ?_)
        clear hK K
        (try simp only [Act.put, List.setIfInBounds_toArray, List.set_cons_zero, List.set_cons_succ])
        refine wpAnyH_ready (rs := [4]) (by kernel_rfl) (by simp) ?_
        refine AllReadyH.cons (o := { dst := some 41, op := Op.call { callee := Callee.value (Operand.func 11), args := #[Operand.tmp 38, Operand.tmp 40], argTypes := #[35, 35] }, type := 4, pos := "law.go:91", after := #[{ on := 1, ground := Ground.data }, { on := 3, ground := Ground.data }, { on := 3, ground := Ground.chain }], guard := none }) rfl (fun K hK => ?_) AllReadyH.nil
        go_simp
        refine (rsame_any er pk pn has t0 t1 t2 t3 t4 t5 t6 h0 h1 h2 h3 h4 h5 h6 w13 fun wx hx => Dt.sameD m tr _ _ _ _ _ _ _ _ _ _ wx (Dt.Rep.below hx _ _ _ RG13.out) (Dt.Rep.below hx _ _ _ RH13.out)).mono ?_
        rintro e w14 ⟨rfl, b14⟩
        have A14 := A13.step b14
        have X14 := X13.step b14
        have B14 := B13.trans (b14.mono B13.size)
        have PA14 := Lib.hid (PA13.out.below b14)
        clear A13 X13 B13 PA13
        clear b14 RG13 RH13
        go_wp2_with fail
        refine hK.out _ _ (KG.out _ X14 A14) (fun hH14 => ?_)
        clear hK K
        (try simp only [Act.put, List.setIfInBounds_toArray, List.set_cons_zero, List.set_cons_succ])
        refine wpAnyH_take (i := 5) (oi := { dst := some 42, op := Op.move (Operand.tmp 41), type := 4, pos := "law.go:91", after := #[{ on := 4, ground := Ground.data }, { on := 4, ground := Ground.chain }], guard := none }) (v := ?tL5) rfl (by kernel_rfl) (by kernel_rfl) (by kernel_rfl) (fun _ _ _ h => h) (Or.inl ⟨by rfl, ?uL5⟩) (by assumption) ?rL5
        case uL5 => (intro w hSw; (try dsimp only at hSw); go_simp; (try with_reducible rfl))
        simp only [Act.put, List.setIfInBounds_toArray, List.set_cons_zero, List.set_cons_succ]
        refine wpAnyH_take (i := 6) (oi := { dst := some 43, op := Op.fieldAddr 27 (Operand.tmp 3) 1, type := 0, pos := "law.go:91", after := #[{ on := 5, ground := Ground.guard }], guard := some (5, true) }) (v := ?tL6) rfl (by kernel_rfl) (by kernel_rfl) (by kernel_rfl) (fun _ _ _ h => h) (Or.inl ⟨by rfl, ?uL6⟩) (by assumption) ?rL6
        case uL6 => (intro w hSw; (try dsimp only at hSw); go_simp; (try with_reducible rfl))
        simp only [Act.put, List.setIfInBounds_toArray, List.set_cons_zero, List.set_cons_succ]
        refine wpAnyH_take (i := 7) (oi := { dst := some 44, op := Op.load 25 (Operand.tmp 43), type := 25, pos := "law.go:91", after := #[{ on := 6, ground := Ground.data }, { on := 5, ground := Ground.guard }], guard := some (5, true) }) (v := ?tL7) rfl (by kernel_rfl) (by kernel_rfl) (by kernel_rfl) (fun _ _ _ h => h) (Or.inl ⟨by rfl, ?uL7⟩) (by assumption) ?rL7
        case uL7 => (intro w hSw; (try dsimp only at hSw); go_simp; (try with_reducible rfl))
        simp only [Act.put, List.setIfInBounds_toArray, List.set_cons_zero, List.set_cons_succ]
        refine wpAnyH_take (i := 8) (oi := { dst := some 45, op := Op.fieldAddr 27 (Operand.tmp 1) 1, type := 0, pos := "law.go:91", after := #[{ on := 5, ground := Ground.guard }], guard := some (5, true) }) (v := ?tL8) rfl (by kernel_rfl) (by kernel_rfl) (by kernel_rfl) (fun _ _ _ h => h) (Or.inl ⟨by rfl, ?uL8⟩) (by assumption) ?rL8
        case uL8 => (intro w hSw; (try dsimp only at hSw); go_simp; (try with_reducible rfl))
        simp only [Act.put, List.setIfInBounds_toArray, List.set_cons_zero, List.set_cons_succ]
        refine wpAnyH_take (i := 9) (oi := { dst := some 46, op := Op.load 25 (Operand.tmp 45), type := 25, pos := "law.go:91", after := #[{ on := 8, ground := Ground.data }, { on := 5, ground := Ground.guard }], guard := some (5, true) }) (v := ?tL9) rfl (by kernel_rfl) (by kernel_rfl) (by kernel_rfl) (fun _ _ _ h => h) (Or.inl ⟨by rfl, ?uL9⟩) (by assumption) ?rL9
        case uL9 => (intro w hSw; (try dsimp only at hSw); go_simp; (try with_reducible rfl))
        simp only [Act.put, List.setIfInBounds_toArray, List.set_cons_zero, List.set_cons_succ]
        refine wpAnyH_ready (rs := [10]) (by kernel_rfl) (by simp) ?_
        refine AllReadyH.cons (o := { dst := some 47, op := Op.call { callee := Callee.value (Operand.func 13), args := #[Operand.tmp 44, Operand.tmp 46], argTypes := #[25, 25] }, type := 4, pos := "law.go:91", after := #[{ on := 7, ground := Ground.data }, { on := 9, ground := Ground.data }, { on := 5, ground := Ground.chain }, { on := 5, ground := Ground.guard }], guard := some (5, true) }) rfl (fun K hK => ?_) AllReadyH.nil
        go_simp
        refine (HSA.out w1.heap.size p0 p1 p2 p3 p4 p5 p6 w14 B14 PA14.out).mono ?_
        rintro e w15 ⟨rfl, b15⟩
        have A15 := A14.step b15
        have X15 := X14.step b15
        have B15 := B14.trans (b15.mono B14.size)
        have PA15 := Lib.hid (PA14.out.below b15)
        clear A14 X14 B14 PA14
        clear b15 HSA
        go_wp2_with fail
        refine hK.out _ _ (KG.out _ X15 A15) (fun hH15 => ?_)
        clear hK K
        (try simp only [Act.put, List.setIfInBounds_toArray, List.set_cons_zero, List.set_cons_succ])
        refine wpAnyH_take (i := 11) (oi := { dst := some 48, op := Op.pick (Operand.tmp 42) (Operand.tmp 47) (Operand.const (Value.bool false)), type := 4, pos := "law.go:91", after := #[{ on := 5, ground := Ground.data }, { on := 10, ground := Ground.data }], guard := none }) (v := ?tM11) rfl (by kernel_rfl) (by kernel_rfl) (by kernel_rfl) (fun _ _ _ h => h) (Or.inl ⟨by rfl, ?uM11⟩) (by assumption) ?rM11
        case uM11 => (intro w hSw; (try dsimp only at hSw); go_simp; (try with_reducible rfl))
        simp only [Act.put, List.setIfInBounds_toArray, List.set_cons_zero, List.set_cons_succ]
        refine wpAnyH_take (i := 12) (oi := { dst := some 49, op := Op.move (Operand.tmp 48), type := 4, pos := "law.go:91", after := #[{ on := 11, ground := Ground.data }, { on := 10, ground := Ground.chain }], guard := none }) (v := ?tM12) rfl (by kernel_rfl) (by kernel_rfl) (by kernel_rfl) (fun _ _ _ h => h) (Or.inl ⟨by rfl, ?uM12⟩) (by assumption) ?rM12
        case uM12 => (intro w hSw; (try dsimp only at hSw); go_simp; (try with_reducible rfl))
        simp only [Act.put, List.setIfInBounds_toArray, List.set_cons_zero, List.set_cons_succ]
        refine wpAnyH_ready (rs := [13]) (by kernel_rfl) (by simp) ?_
        refine AllReadyH.cons (o := { dst := some 50, op := Op.call { callee := Callee.value (Operand.func 8), args := #[], argTypes := #[] }, type := 4, pos := "law.go:91", after := #[{ on := 12, ground := Ground.chain }, { on := 12, ground := Ground.guard }], guard := some (12, true) }) rfl (fun K hK => ?_) AllReadyH.nil
        go_simp
        refine (HW.out _).mono ?_
        rintro e w16 ⟨rfl, b16⟩
        have A16 := A15.step b16
        have X16 := X15.step b16
        have B16 := B15.trans (b16.mono B15.size)
        have PA16 := Lib.hid (PA15.out.below b16)
        clear A15 X15 B15 PA15
        clear b16 HW
        go_wp2_with fail
        refine hK.out _ _ (KG.out _ X16 A16) (fun hH16 => ?_)
        clear hK K
        (try simp only [Act.put, List.setIfInBounds_toArray, List.set_cons_zero, List.set_cons_succ])
        refine wpAnyH_take (i := 14) (oi := { dst := some 51, op := Op.pick (Operand.tmp 49) (Operand.tmp 50) (Operand.const (Value.bool false)), type := 4, pos := "law.go:91", after := #[{ on := 12, ground := Ground.data }, { on := 13, ground := Ground.data }], guard := none }) (v := ?tN14) rfl (by kernel_rfl) (by kernel_rfl) (by kernel_rfl) (fun _ _ _ h => h) (Or.inl ⟨by rfl, ?uN14⟩) (by assumption) ?rN14
        case uN14 => (intro w hSw; (try dsimp only at hSw); go_simp; (try with_reducible rfl))
        simp only [Act.put, List.setIfInBounds_toArray, List.set_cons_zero, List.set_cons_succ]
        refine wpAnyH_take (i := 15) (oi := { dst := some 2, op := Op.assign (Operand.tmp 51), type := 4, pos := "law.go:91", after := #[{ on := 14, ground := Ground.data }, { on := 13, ground := Ground.chain }, { on := 0, ground := Ground.phase }, { on := 1, ground := Ground.phase }, { on := 2, ground := Ground.phase }, { on := 3, ground := Ground.phase }, { on := 4, ground := Ground.phase }, { on := 5, ground := Ground.phase }, { on := 6, ground := Ground.phase }, { on := 7, ground := Ground.phase }, { on := 8, ground := Ground.phase }, { on := 9, ground := Ground.phase }, { on := 10, ground := Ground.phase }, { on := 11, ground := Ground.phase }, { on := 12, ground := Ground.phase }, { on := 13, ground := Ground.phase }, { on := 14, ground := Ground.phase }], guard := none }) (v := ?tN15) rfl (by kernel_rfl) (by kernel_rfl) (by kernel_rfl) (fun _ _ _ h => h) (Or.inl ⟨by rfl, ?uN15⟩) (by assumption) ?rN15
        case uN15 => (intro w hSw; (try dsimp only at hSw); go_simp; (try with_reducible rfl))
        simp only [Act.put, List.setIfInBounds_toArray, List.set_cons_zero, List.set_cons_succ]
        refine wpAnyH_done (by kernel_rfl) ?_ _
        clear hHeld hH12 hH13 hH14 hH15 hH16 KG
        go_wp2
        go_ret
        exact ⟨rfl, B16⟩

theorem law_own (nA nB : Nat) (tA : Dt.Tr nA) (tB : Dt.Tr nB) (op : Int) (ak ai au : Int) (az : ByteArray) (aa : Option Addr) (an ac : Nat) (bk bi bu : Int) (bs : ByteArray) (ba : Option Addr) (bn bc : Nat) (num : Int) (w : World) (hA : Dt.Rep w nA [.int .i64 ak, .int .i64 ai, .int .u64 au, .string az, .slice aa an ac] tA) (hB : Dt.Rep w nB [.int .i64 bk, .int .i64 bi, .int .u64 bu, .string bs, .slice ba bn bc] tB) (r6A : Dt.r64 nA tA) (r6B : Dt.r64 nB tB) :
    Calls Tryz.prog 6 #[.agg (acs op ak ai au az aa an ac bk bi bu bs ba bn bc num)] w fun e w' => e = .returned (.bool true) ∧ Below w.heap.size w w' := by
  have HF : ∀ wx, Below w.heap.size w wx → Calls Tryz.prog 7 #[.agg (acs op ak ai au az aa an ac bk bi bu bs ba bn bc num)] wx fun e w' => e = .returned (.bool (Dt.vB nA tA && Dt.vB nB tB)) ∧ Below wx.heap.size wx w' := fun wx hx =>
    act_fit op ak ai au az aa an ac bk bi bu bs ba bn bc num _ _ wx (fun wy hy => Dt.refValid nA tA _ _ _ _ _ wy (Dt.Rep.below (hx.trans (hy.mono hx.size)) _ _ _ hA)) (fun wy hy => Dt.refValid nB tB _ _ _ _ _ wy (Dt.Rep.below (hx.trans (hy.mono hx.size)) _ _ _ hB))
  cases hv : (Dt.vB nA tA && Dt.vB nB tB) with
  | false =>
    rw [hv] at HF
    exact go_bad op ak ai au az aa an ac bk bi bu bs ba bn bc num w HF
  | true =>
    rw [hv] at HF
    simp only [Bool.and_eq_true] at hv
    obtain ⟨vA, vB⟩ := hv
    obtain ⟨rA, pA⟩ := valid_pts' vA
    obtain ⟨rB, pB⟩ := valid_pts' vB
    match nA, tA, hA, r6A, vA, rA, pA, nB, tB, hB, r6B, vB, rB, pB with
    | mA + 1, tA, hA, r6A, vA, rA, pA, mB + 1, tB, hB, r6B, vB, rB, pB =>
      have VA : Vl w mA tA ak ai au az aa an ac := ⟨rA, pA, r6A, hA⟩
      have VB : Vl w mB tB bk bi bu bs ba bn bc := ⟨rB, pB, r6B, hB⟩
      obtain ⟨er, pk, pn, has, m, tr, T1, T2⟩ := two op num mA mB tA tB vA vB (by rw [VA.eq.1]; exact VA.kind) (one_kid rA)
      refine go_good op ak ai au az aa an ac bk bi bu bs ba bn bc num mA mB tA tB er pk pn has m tr w HF (fun H wx hx hH => ?_) (fun H wx hx hH => ?_) (fun H p0 p1 p2 p3 p4 p5 p6 q0 q1 q2 q3 q4 q5 q6 wx ca cb => ?_) (fun wx hx => ?_) (fun H p0 p1 p2 p3 p4 p5 p6 wx hx ca => ?_)
      · exact rcopy_rf w (mA + 1) tA ak ai au az aa an ac pA hA wx hx H hH
      · exact rcopy_rf w (mB + 1) tB bk bi bu bs ba bn bc pB hB wx hx H hH
      · exact T1 wx p0 p1 p2 p3 p4 p5 p6 q0 q1 q2 q3 q4 q5 q6 ⟨rA, pA, r6A, Dt.Rf.rep _ _ _ ca⟩ ⟨rB, pB, r6B, Dt.Rf.rep _ _ _ cb⟩ wx (Below.refl _ _)
      · exact T2 w ak ai au az aa an ac bk bi bu bs ba bn bc VA VB wx hx
      · exact Dt.sameD (mA + 1) tA _ _ _ _ _ _ _ _ _ _ wx (Dt.Rf.rep _ _ _ ca) (Dt.Rep.below hx _ _ _ hA)
end Go.Proofs.YthamafijjflfbaaGreat
