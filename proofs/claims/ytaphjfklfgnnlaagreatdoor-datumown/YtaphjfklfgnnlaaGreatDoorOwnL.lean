/- The law DatumOwn over a value's tree: true, in new memory alone; the conditions: the tree in memory, its bits within 64, the two tables as the text lays them. -/
import Derived.Test.YtaphjfklfgnnlaaGreatDoorOpn
import Derived.Test.YtaphjfklfgnnlaaGreatDoorDCopy
import Derived.Test.YtaphjfklfgnnlaaGreatDoorAwAwake
namespace Go.Proofs.YtaphjfklfgnnlaaGreatDoor.Dt
open Go.RowKit
theorem text_any (s : ByteArray) (w : World) : Calls Tryz.prog 12 #[.string s] w fun e w' => e = .returned (.agg #[.int .i64 4, .int .i64 0, .int .u64 0, .string s, .slice none 0 0]) ∧ Below w.heap.size w w' := by
  go_enter Tryz.func12, Tryz.ntmps12
  go_wp2
  refine bodyPost_ret (v := .agg #[.int .i64 4, .int .i64 0, .int .u64 0, .string s, .slice none 0 0]) (by simp [results, Tryz.results12, go_sem]) rfl ⟨rfl, ?_⟩
  exact below1 w _
theorem rep_box {W : World} {L m : Nat} {t : Tr (m + 1)} {d0 d1 d2 d3 d4 : Value} (hL : D5 W L d0 d1 d2 d3 d4) (r : Rep W (m + 1) [d0, d1, d2, d3, d4] t) : Rep W (m + 2) [.int .i64 11, .int .i64 1, .int .u64 0, .string ⟨#[]⟩, .slice (some ⟨L, 0, none⟩) 1 1] ((11, 1, 0, ⟨#[]⟩, [t]) : Int × Int × Int × ByteArray × List (Tr (m + 1))) := by
  obtain ⟨c0, c1, c2, c3, c4⟩ := hL.c
  refine ⟨some ⟨L, 0, none⟩, 1, rfl, Nat.zero_le _, Nat.le_refl _, by decide, .inr ⟨L, 0, rfl, fun j t' hj => ?_⟩⟩
  match j, hj with
  | 0, hj =>
    obtain rfl := Option.some.inj hj
    exact ⟨d0, d1, d2, d3, d4, c0, c1, c2, c3, c4, r⟩
/-- The cells of a list's block that may be written. -/
def Gx (w : World) (g o n : Nat) : Prop := (∀ j, j < n * 5 → ∃ x, w.cell? ⟨g, o + j, none⟩ = some x) ∧ ∀ q, w.frozen? ⟨g, q, none⟩ = false
theorem Gx.below {w w' : World} {g o n : Nat} (h : Gx w g o n) (hn : 0 < n) (hb : Below w.heap.size w w') : Gx w' g o n := by
  obtain ⟨x0, hx0⟩ := h.1 0 (by omega)
  have hg : g < w.heap.size := World.block_lt_of_cell? w _ hx0
  have e := hb.block g hg
  refine ⟨fun j hj => ?_, fun q => frozen_q e (h.2 q)⟩
  obtain ⟨x, hx⟩ := h.1 j hj
  exact ⟨x, cell_q e hx⟩
theorem Gx.set {w : World} {g o n : Nat} (h : Gx w g o n) (a : Nat) (v : Value) : Gx (w.setCell ⟨g, a, none⟩ v) g o n := by
  refine ⟨fun j hj => ?_, fun q => by simpa using h.2 q⟩
  obtain ⟨x, hx⟩ := h.1 j hj
  by_cases e : a = o + j
  · subst e; exact ⟨v, by simp [World.cell?_setCell_same, hx]⟩
  · exact ⟨x, by rw [World.cell?_setCell_other]; exact hx; simp only [ne_eq, Addr.mk.injEq]; omega⟩

set_option maxRecDepth 100000 in
set_option maxHeartbeats 8000000 in
theorem law_own_walk (m : Nat) (t : Tr (m + 1)) (k i b : Int) (s : ByteArray) (ad : Option Addr) (len cap : Nat) (w : World) (hr : Rep w (m + 1) [.int .i64 k, .int .i64 i, .int .u64 b, .string s, .slice ad len cap] t)
    (HV : Hid (∀ wx, Below w.heap.size w wx → Calls Tryz.prog 8 #[.agg #[.int .i64 k, .int .i64 i, .int .u64 b, .string s, .slice ad len cap]] wx fun e w' => e = .returned (.bool true) ∧ Below wx.heap.size wx w'))
    (HB : Hid (∀ L wx, Hid (Rep wx (m + 2) [.int .i64 11, .int .i64 1, .int .u64 0, .string ⟨#[]⟩, .slice (some ⟨L, 0, none⟩) 1 1] ((11, 1, 0, ⟨#[]⟩, [t]) : Int × Int × Int × ByteArray × List (Tr (m + 1)))) → Calls Tryz.prog 8 #[.agg #[.int .i64 11, .int .i64 1, .int .u64 0, .string ⟨#[]⟩, .slice (some ⟨L, 0, none⟩) 1 1]] wx fun e w' => e = .returned (.bool true) ∧ Below wx.heap.size wx w'))
    (HO : Hid (∀ L wx, Hid (Rep wx (m + 2) [.int .i64 11, .int .i64 1, .int .u64 0, .string ⟨#[]⟩, .slice (some ⟨L, 0, none⟩) 1 1] ((11, 1, 0, ⟨#[]⟩, [t]) : Int × Int × Int × ByteArray × List (Tr (m + 1)))) → Calls Tryz.prog 9 #[.agg #[.int .i64 11, .int .i64 1, .int .u64 0, .string ⟨#[]⟩, .slice (some ⟨L, 0, none⟩) 1 1]] wx fun e w' => ∃ (x0 x1 x2 : Int) (x3 : ByteArray) (x4 : Option Addr) (x5 x6 : Nat), e = .returned (.tuple #[.agg #[.int .i64 x0, .int .i64 x1, .int .u64 x2, .string x3, .slice x4 x5 x6], .int .i64 0]) ∧ Hid (Rf (fun g => wx.heap.size ≤ g ∧ g < w'.heap.size) w' (m + 1) [.int .i64 x0, .int .i64 x1, .int .u64 x2, .string x3, .slice x4 x5 x6] t) ∧ Hid (∀ g o l c, Value.slice x4 x5 x6 = .slice (some ⟨g, o, none⟩) l c → ∀ q, w'.frozen? ⟨g, q, none⟩ = false) ∧ Below wx.heap.size wx w'))
    (HS : Hid (∀ (x0 x1 x2 : Int) (x3 : ByteArray) (x4 : Option Addr) (x5 x6 : Nat) (y0 y1 y2 : Int) (y3 : ByteArray) (y4 : Option Addr) (y5 y6 : Nat) wx, Hid (Rep wx (m + 1) [.int .i64 x0, .int .i64 x1, .int .u64 x2, .string x3, .slice x4 x5 x6] t) → Hid (Rep wx (m + 1) [.int .i64 y0, .int .i64 y1, .int .u64 y2, .string y3, .slice y4 y5 y6] t) → Calls Tryz.prog 10 #[.agg #[.int .i64 x0, .int .i64 x1, .int .u64 x2, .string x3, .slice x4 x5 x6], .agg #[.int .i64 y0, .int .i64 y1, .int .u64 y2, .string y3, .slice y4 y5 y6]] wx fun e w' => e = .returned (.bool true) ∧ Below wx.heap.size wx w'))
    (HC : Hid (∀ wx, Below w.heap.size w wx → Calls Tryz.prog 11 #[.agg #[.int .i64 k, .int .i64 i, .int .u64 b, .string s, .slice ad len cap]] wx fun e w' => ∃ (y0 y1 y2 : Int) (y3 : ByteArray) (y4 : Option Addr) (y5 y6 : Nat), e = .returned (.agg #[.int .i64 y0, .int .i64 y1, .int .u64 y2, .string y3, .slice y4 y5 y6]) ∧ Hid (Rf (fun g => wx.heap.size ≤ g ∧ g < w'.heap.size) w' (m + 1) [.int .i64 y0, .int .i64 y1, .int .u64 y2, .string y3, .slice y4 y5 y6] t) ∧ Below wx.heap.size wx w'))
    (HA : Hid (∀ wx, Below w.heap.size w wx → Calls Tryz.prog 7 #[] wx fun e w' => e = .returned (.bool true) ∧ Below wx.heap.size wx w')) :
    Calls Tryz.prog 4 #[.agg #[.int .i64 k, .int .i64 i, .int .u64 b, .string s, .slice ad len cap]] w fun e w' => e = .returned (.bool true) ∧ Below w.heap.size w w' := by
  have d0 := D5.new w (.int .i64 k) (.int .i64 i) (.int .u64 b) (.string s) (.slice ad len cap)
  have b0 := below1 w (.cells #[.int .i64 k, .int .i64 i, .int .u64 b, .string s, .slice ad len cap] 27)
  have HR : Hid (∀ wx, Below w.heap.size w wx → Rep wx (m + 1) [.int .i64 k, .int .i64 i, .int .u64 b, .string s, .slice ad len cap] t) := fun wx hb => Rep.below hb (m + 1) _ _ hr
  clear hr
  obtain ⟨c0, c1, c2, c3, c4⟩ := d0.c
  go_enter Tryz.func4, Tryz.ntmps4
  go_wp2_with fail
  refine (HV.out _ b0).mono ?_
  rintro e w1 ⟨rfl, b1⟩
  clear c0 c1 c2 c3 c4
  have d1 := d0.below b1
  have e1 : Below w.heap.size w w1 := b0.trans (b1.mono b0.size)
  obtain ⟨c0, c1, c2, c3, c4⟩ := d1.c
  have bb : Below w1.heap.size w1 ((w1.alloc (.cells #[.int .i64 k, .int .i64 i, .int .u64 b, .string s, .slice ad len cap] 27)).alloc (.cells #[.int .i64 11, .int .i64 1, .int .u64 0, .string ⟨#[]⟩, .slice (some ⟨w1.heap.size, 0, none⟩) 1 1] 27)) := below2 w1 _ _
  have D1 := d1.below bb
  have L1 := (D5.new w1 (.int .i64 k) (.int .i64 i) (.int .u64 b) (.string s) (.slice ad len cap)).below (below1 _ (.cells #[.int .i64 11, .int .i64 1, .int .u64 0, .string ⟨#[]⟩, .slice (some ⟨w1.heap.size, 0, none⟩) 1 1] 27))
  have X1 := D5.new (w1.alloc (.cells #[.int .i64 k, .int .i64 i, .int .u64 b, .string s, .slice ad len cap] 27)) (.int .i64 11) (.int .i64 1) (.int .u64 0) (.string ⟨#[]⟩) (.slice (some ⟨w1.heap.size, 0, none⟩) 1 1)
  rw [World.size_alloc] at X1
  have E1 := e1.trans (bb.mono e1.size)
  have r1 := Lib.hid (rep_box L1 (HR.out _ E1))
  clear d0 b0 b1 d1
  go_wp2_with fail
  refine (HB.out _ _ r1).mono ?_
  rintro e w2 ⟨rfl, b2⟩
  clear c0 c1 c2 c3 c4 r1
  have D2 := D1.below b2
  have L2 := L1.below b2
  have X2 := X1.below b2
  have E2 := E1.trans (b2.mono E1.size)
  have r2 := Lib.hid (rep_box L2 (HR.out _ E2))
  obtain ⟨x0', x1', x2', x3', x4'⟩ := X2.c
  have sL := L2.lt
  have sX := X2.lt
  have sD := D2.lt
  clear D1 L1 X1 E1 b2 bb
  go_wp2_with fail
  refine (HO.out _ _ r2).mono ?_
  rintro e w3 ⟨x0, x1, x2, x3, x4, x5, x6, rfl, rx, uf, b3⟩
  clear x0' x1' x2' x3' x4' r2
  have bb : Below w3.heap.size w3 (w3.alloc (.cells #[.int .i64 x0, .int .i64 x1, .int .u64 x2, .string x3, .slice x4 x5 x6] 27)) := below1 w3 _
  have D3 := (D2.below b3).below bb
  have L3 := (L2.below b3).below bb
  have X3 := (X2.below b3).below bb
  have V3 := D5.new w3 (.int .i64 x0) (.int .i64 x1) (.int .u64 x2) (.string x3) (.slice x4 x5 x6)
  have E3' := E2.trans (b3.mono E2.size)
  have E3 := E3'.trans (bb.mono E3'.size)
  have s23 := b3.size
  have rx3 := Lib.hid (Rep.below bb (m + 1) _ _ (Rf.rep _ _ _ rx.out))
  have rd3 := Lib.hid (HR.out _ E3)
  obtain ⟨c0, c1, c2, c3, c4⟩ := D3.c
  clear D2 L2 X2 b3
  go_wp2_with fail
  refine (HS.out _ _ _ _ _ _ _ _ _ _ _ _ _ _ _ rx3 rd3).mono ?_
  rintro e w4 ⟨rfl, b4⟩
  clear c0 c1 c2 c3 c4 rx3 rd3
  have D4 := D3.below b4
  have L4 := L3.below b4
  have X4 := X3.below b4
  have V4 := V3.below b4
  have E4 := E3.trans (b4.mono E3.size)
  have s34 := b4.size
  rw [World.size_alloc] at s34
  obtain ⟨c0, c1, c2, c3, c4⟩ := D4.c
  have b34 := bb.trans (b4.mono bb.size)
  clear D3 L3 X3 V3 bb b4
  go_wp2_with fail
  refine (HC.out _ E4).mono ?_
  rintro e w5 ⟨y0, y1, y2, y3, y4, y5, y6, rfl, ry, b5⟩
  clear c0 c1 c2 c3 c4
  have bb : Below w5.heap.size w5 (w5.alloc (.cells #[.int .i64 y0, .int .i64 y1, .int .u64 y2, .string y3, .slice y4 y5 y6] 27)) := below1 w5 _
  have D5' := (D4.below b5).below bb
  have L5 := (L4.below b5).below bb
  have X5 := (X4.below b5).below bb
  have V5 := (V4.below b5).below bb
  have S5 := D5.new w5 (.int .i64 y0) (.int .i64 y1) (.int .u64 y2) (.string y3) (.slice y4 y5 y6)
  have s45 := b5.size
  have E5' := E4.trans (b5.mono E4.size)
  have E5 := E5'.trans (bb.mono E5'.size)
  have b35 := (b34.trans (b5.mono b34.size)).trans (bb.mono (by have := b34.size; omega))
  obtain ⟨g, o, hg0, gw, g1, g2, g3, g4, g5, g6, hcp⟩ : ∃ g o : Nat, (x5 = 0 ∨ (x4 = some ⟨g, o, none⟩ ∧ Gx (w5.alloc (.cells #[.int .i64 y0, .int .i64 y1, .int .u64 y2, .string y3, .slice y4 y5 y6] 27)) g o x5)) ∧ w.heap.size ≤ g ∧ g ≠ w.heap.size ∧ g ≠ w1.heap.size ∧ g ≠ w1.heap.size + 1 ∧ g ≠ w3.heap.size ∧ g ≠ w5.heap.size ∧ (∀ q, w4.heap.size ≤ q → q < w5.heap.size → q ≠ g) ∧ (x5 ≤ x6 ∧ x6 ≤ maxLen) := by
    obtain ⟨ad', cap', e, hs, hl, hc, hk⟩ := rx.out
    simp only [List.cons.injEq, and_true, Value.slice.injEq] at e
    obtain ⟨-, -, -, -, rfl, rfl, rfl⟩ := e
    have hw : w.heap.size ≤ w5.heap.size := by have := E5'.size; omega
    rcases hk with hk | ⟨g, o, hk1, hk2, hk3⟩
    · exact ⟨w5.heap.size + 1, 0, .inl (by rw [hk]; rfl), by omega, by omega, by omega, by omega, by omega, by omega, fun q h1 h2 => by omega, hl, hc⟩
    · have hF1 := hk2.1
      have hF2 := hk2.2
      refine ⟨g, o, .inr ⟨hk1, fun j hj => ?_, fun q => ?_⟩, by have := E2.size; omega, by omega, by omega, by omega, by omega, by omega, fun q h1 h2 => by omega, hl, hc⟩
      · have hq : j / 5 < t.ks.length := by omega
        obtain ⟨v0, v1, v2, v3, v4, a0, a1, a2, a3, a4, -⟩ := hk3 (j / 5) _ (List.getElem?_eq_getElem hq)
        have eb := b35.block g hF2
        have hr : j % 5 = 0 ∨ j % 5 = 1 ∨ j % 5 = 2 ∨ j % 5 = 3 ∨ j % 5 = 4 := by omega
        rcases hr with hr | hr | hr | hr | hr
        · exact ⟨v0, by rw [show o + j = o + j / 5 * 5 by omega]; exact cell_q eb a0⟩
        · exact ⟨v1, by rw [show o + j = o + j / 5 * 5 + 1 by omega]; exact cell_q eb a1⟩
        · exact ⟨v2, by rw [show o + j = o + j / 5 * 5 + 2 by omega]; exact cell_q eb a2⟩
        · exact ⟨v3, by rw [show o + j = o + j / 5 * 5 + 3 by omega]; exact cell_q eb a3⟩
        · exact ⟨v4, by rw [show o + j = o + j / 5 * 5 + 4 by omega]; exact cell_q eb a4⟩
      · exact frozen_q (b35.block g hF2) (uf.out g o _ _ (by rw [hk1]) q)
  have rs5 : Hid (∀ wr, World.grownBy (w5.alloc (.cells #[.int .i64 y0, .int .i64 y1, .int .u64 y2, .string y3, .slice y4 y5 y6] 27)) wr (some g) → Rep wr (m + 1) [.int .i64 y0, .int .i64 y1, .int .u64 y2, .string y3, .slice y4 y5 y6] t) := fun wr hg => Rf.rep _ _ _ (Rf.to (F' := fun _ => True) (fun q hq => ⟨True.intro, (hg.block q (by rw [World.size_alloc]; have := hq.2; omega) (fun e => g6 q hq.1 hq.2 (Option.some.inj e))).trans (bb.block q hq.2)⟩) _ _ _ ry.out)
  have KD : Hid (∀ wr, World.grownBy (w5.alloc (.cells #[.int .i64 y0, .int .i64 y1, .int .u64 y2, .string y3, .slice y4 y5 y6] 27)) wr (some g) → D5 wr w.heap.size (.int .i64 k) (.int .i64 i) (.int .u64 b) (.string s) (.slice ad len cap) ∧ D5 wr w1.heap.size (.int .i64 k) (.int .i64 i) (.int .u64 b) (.string s) (.slice ad len cap) ∧ D5 wr (w1.heap.size + 1) (.int .i64 11) (.int .i64 1) (.int .u64 0) (.string ⟨#[]⟩) (.slice (some ⟨w1.heap.size, 0, none⟩) 1 1) ∧ D5 wr w3.heap.size (.int .i64 x0) (.int .i64 x1) (.int .u64 x2) (.string x3) (.slice x4 x5 x6) ∧ D5 wr w5.heap.size (.int .i64 y0) (.int .i64 y1) (.int .u64 y2) (.string y3) (.slice y4 y5 y6) ∧ Below w.heap.size w wr) := fun wr hg => ⟨D5'.kept hg (Ne.symm g1), L5.kept hg (Ne.symm g2), X5.kept hg (Ne.symm g3), V5.kept hg (Ne.symm g4), S5.kept hg (Ne.symm g5), Below.grown E5 hg E5.size (fun k hk => by obtain rfl := Option.some.inj hk; exact gw)⟩
  have G0 : World.grownBy (w5.alloc (.cells #[.int .i64 y0, .int .i64 y1, .int .u64 y2, .string y3, .slice y4 y5 y6] 27)) (w5.alloc (.cells #[.int .i64 y0, .int .i64 y1, .int .u64 y2, .string y3, .slice y4 y5 y6] 27)) (some g) := ⟨rfl, rfl, rfl, Nat.le_refl _, fun _ _ _ => rfl⟩
  have HG := Lib.hid hg0
  obtain ⟨v0', v1', v2', v3', v4'⟩ := V5.c
  have hcl : x5 ≤ 9223372036854775807 := by unfold maxLen at hcp; omega
  clear rx uf ry b34 b35 b5 bb D5' L5 X5 V5 S5 E5 E5' hg0 hcp E4 E3 E3' E2
  go_wp2_with fail
  clear v0' v1' v2' v3' v4'
  go_loopw [38] (fun si wr => ∃ (j : Nat), si = .int .i64 j ∧ j ≤ x5 ∧ World.grownBy (w5.alloc (.cells #[.int .i64 y0, .int .i64 y1, .int .u64 y2, .string y3, .slice y4 y5 y6] 27)) wr (some g) ∧ (x5 = 0 ∨ (x4 = some ⟨g, o, none⟩ ∧ Gx wr g o x5))) (fun si _ => x5 - (intOf si).toNat)
  case atStart => exact ⟨0, rfl, Nat.zero_le _, G0, HG.out⟩
  case round =>
    obtain ⟨j, rfl, hj, hgr, hgx⟩ := hrel
    obtain ⟨kd, kl, kx, kv, ks', kb⟩ := KD.out _ hgr
    by_cases hlt : j < x5
    · rcases hgx with hgx | ⟨rfl, hgx⟩
      · omega
      have hgl : g < wr.heap.size := by obtain ⟨x, hx⟩ := hgx.1 0 (by omega); exact World.block_lt_of_cell? wr _ hx
      obtain ⟨v0', v1', v2', v3', v4'⟩ := kv.c
      have ST : Hid (∀ w6, Below wr.heap.size wr w6 → D5 w6 w3.heap.size (.int .i64 x0) (.int .i64 x1) (.int .u64 x2) (.string x3) (.slice (some ⟨g, o, none⟩) x5 x6) ∧ Gx w6 g o x5 ∧ World.grownBy (w5.alloc (.cells #[.int .i64 y0, .int .i64 y1, .int .u64 y2, .string y3, .slice y4 y5 y6] 27)) w6 (some g)) := fun w6 hb => ⟨kv.below hb, hgx.below (by omega) hb, grown_trans hgr (grown_below hb)⟩
      clear kd kl kx kv ks' kb v0' v1' v2' v3' v4'
      have HTx : Hid (∀ wx, Below wr.heap.size wr wx → Calls Tryz.prog 12 #[.string ⟨#[119, 114, 105, 116, 116, 101, 110, 32, 111, 118, 101, 114]⟩] wx fun e w' => e = .returned (.agg #[.int .i64 4, .int .i64 0, .int .u64 0, .string ⟨#[119, 114, 105, 116, 116, 101, 110, 32, 111, 118, 101, 114]⟩, .slice none 0 0]) ∧ Below wr.heap.size wr w') := fun wx hb => (text_any _ wx).mono fun e w' ⟨a, c⟩ => ⟨a, hb.trans (c.mono hb.size)⟩
      have KS : Hid (∀ w', Below wr.heap.size wr w' → w'.cell? ⟨w3.heap.size, 4, none⟩ = some (.slice (some ⟨g, o, none⟩) x5 x6)) := fun w' hb => (ST.out w' hb).1.c.2.2.2.2
      have K0 := Lib.hid (Below.drew (Below.refl wr.heap.size wr))
      have KQ : Hid (∀ w6, Below wr.heap.size wr w6 → (((((w6.setCell ⟨g, o + j * 5, none⟩ (.int .i64 4)).setCell ⟨g, o + j * 5 + 1, none⟩ (.int .i64 0)).setCell ⟨g, o + j * 5 + 2, none⟩ (.int .u64 0)).setCell ⟨g, o + j * 5 + 3, none⟩ (.string ⟨#[119, 114, 105, 116, 116, 101, 110, 32, 111, 118, 101, 114]⟩)).setCell ⟨g, o + j * 5 + 4, none⟩ (.slice none 0 0)).cell? ⟨w3.heap.size, 4, none⟩ = some (.slice (some ⟨g, o, none⟩) x5 x6)) := fun w6 hb => by
        rw [World.cell?_setCell_other, World.cell?_setCell_other, World.cell?_setCell_other, World.cell?_setCell_other, World.cell?_setCell_other]
        exact KS.out w6 hb
        all_goals (simp only [ne_eq, Addr.mk.injEq]; exact fun h => g4 h.1)
      have KC : Hid (∀ w6, Below wr.heap.size wr w6 → (∃ x, w6.cell? ⟨g, o + j * 5, none⟩ = some x) ∧ (∃ x, w6.cell? ⟨g, o + j * 5 + 1, none⟩ = some x) ∧ (∃ x, w6.cell? ⟨g, o + j * 5 + 2, none⟩ = some x) ∧ (∃ x, w6.cell? ⟨g, o + j * 5 + 3, none⟩ = some x) ∧ (∃ x, w6.cell? ⟨g, o + j * 5 + 4, none⟩ = some x) ∧ ∀ q, w6.frozen? ⟨g, q, none⟩ = false) := fun w6 hb => by
        have kg := (ST.out w6 hb).2.1
        exact ⟨kg.1 (j * 5) (by omega), kg.1 (j * 5 + 1) (by omega), kg.1 (j * 5 + 2) (by omega), kg.1 (j * 5 + 3) (by omega), kg.1 (j * 5 + 4) (by omega), kg.2⟩
      have fin : Hid (∀ w6, Below wr.heap.size wr w6 → ∀ W, W = (((((w6.setCell ⟨g, o + j * 5, none⟩ (.int .i64 4)).setCell ⟨g, o + j * 5 + 1, none⟩ (.int .i64 0)).setCell ⟨g, o + j * 5 + 2, none⟩ (.int .u64 0)).setCell ⟨g, o + j * 5 + 3, none⟩ (.string ⟨#[119, 114, 105, 116, 116, 101, 110, 32, 111, 118, 101, 114]⟩)).setCell ⟨g, o + j * 5 + 4, none⟩ (.slice none 0 0)) → World.grownBy (w5.alloc (.cells #[.int .i64 y0, .int .i64 y1, .int .u64 y2, .string y3, .slice y4 y5 y6] 27)) W (some g) ∧ Gx W g o x5) := fun w6 hb W hW => by
        obtain ⟨-, kg, kr⟩ := ST.out w6 hb
        subst hW
        exact ⟨grown_trans (grown_trans (grown_trans (grown_trans (grown_trans kr (grown_set _ _ _ _)) (grown_set _ _ _ _)) (grown_set _ _ _ _)) (grown_set _ _ _ _)) (grown_set _ _ _ _), ((((kg.set _ _).set _ _).set _ _).set _ _).set _ _⟩
      clear ST hgx hgr
      go_wp2_with fail
      go_region_held3 (fun w' => w'.cell? ⟨w3.heap.size, 4, none⟩ = some (.slice (some ⟨g, o, none⟩) x5 x6)) (first | (with_reducible refine KS.out _ ?_; with_reducible assumption) | with_reducible exact KS.out _ K0.out | (with_reducible refine KQ.out _ ?_; with_reducible assumption)) ((go_at_call 12; refine (HTx.out _ (by first | with_reducible assumption | exact K0.out)).mono ?_; rintro e w6 ⟨rfl, b6⟩; obtain ⟨⟨y0', k0⟩, ⟨y1', k1⟩, ⟨y2', k2⟩, ⟨y3', k3⟩, ⟨y4', k4⟩, kf⟩ := KC.out w6 b6))
      all_goals go_wp2_with fail
      all_goals exact ⟨⟨j + 1, by go_num, by omega, (fin.out w6 b6 _ rfl).1, .inr ⟨by first | exact True.intro | rfl, (fin.out w6 b6 _ rfl).2⟩⟩, by simp [intOf]; omega⟩
    · have hje : j = x5 := by omega
      subst hje
      have r6 := Lib.hid (rep_box kl (HR.out _ kb))
      obtain ⟨q0, q1, q2, q3, q4⟩ := kx.c
      obtain ⟨v0', v1', v2', v3', v4'⟩ := kv.c
      have rs6 := Lib.hid (rs5.out _ hgr)
      go_wp2_with fail
      refine (HO.out _ _ r6).mono ?_
      rintro e w6 ⟨z0, z1, z2, z3, z4, z5, z6, rfl, rz, -, b6⟩
      clear q0 q1 q2 q3 q4 v0' v1' v2' v3' v4' r6
      have bb : Below w6.heap.size w6 (w6.alloc (.cells #[.int .i64 z0, .int .i64 z1, .int .u64 z2, .string z3, .slice z4 z5 z6] 27)) := below1 w6 _
      have Z6 := D5.new w6 (.int .i64 z0) (.int .i64 z1) (.int .u64 z2) (.string z3) (.slice z4 z5 z6)
      have d6 := (kd.below b6).below bb
      have s6 := (ks'.below b6).below bb
      have e6' := kb.trans (b6.mono kb.size)
      have e6 := e6'.trans (bb.mono e6'.size)
      have rz6 := Lib.hid (Rep.below bb (m + 1) _ _ (Rf.rep _ _ _ rz.out))
      have rs7 := Lib.hid (Rep.below bb (m + 1) _ _ (Rep.below b6 (m + 1) _ _ rs6.out))
      obtain ⟨q0, q1, q2, q3, q4⟩ := s6.c
      clear rz rs6 kd kl kx kv ks' kb
      go_wp2_with fail
      refine (HS.out _ _ _ _ _ _ _ _ _ _ _ _ _ _ _ rz6 rs7).mono ?_
      rintro e w7 ⟨rfl, b7⟩
      have d7 := d6.below b7
      have s7 := s6.below b7
      have e7 := e6.trans (b7.mono e6.size)
      have rd8 := Lib.hid (HR.out _ e7)
      have rs8 := Lib.hid (Rep.below b7 (m + 1) _ _ rs7.out)
      clear q0 q1 q2 q3 q4 d6 s6 rz6 rs7 Z6
      obtain ⟨q0, q1, q2, q3, q4⟩ := s7.c
      obtain ⟨c0, c1, c2, c3, c4⟩ := d7.c
      go_wp2_with fail
      refine (HS.out _ _ _ _ _ _ _ _ _ _ _ _ _ _ _ rd8 rs8).mono ?_
      rintro e w8 ⟨rfl, b8⟩
      have e8 := e7.trans (b8.mono e7.size)
      clear q0 q1 q2 q3 q4 c0 c1 c2 c3 c4
      go_wp2_with fail
      refine (HA.out _ e8).mono ?_
      rintro e w9 ⟨rfl, b9⟩
      go_wp2
      go_ret
      exact ⟨rfl, e8.trans (b9.mono e8.size)⟩
set_option maxRecDepth 100000 in
set_option maxHeartbeats 2000000 in
theorem law_own_bad (k i b : Int) (s : ByteArray) (ad : Option Addr) (len cap : Nat) (w : World)
    (HV : Hid (∀ wx, Below w.heap.size w wx → Calls Tryz.prog 8 #[.agg #[.int .i64 k, .int .i64 i, .int .u64 b, .string s, .slice ad len cap]] wx fun e w' => e = .returned (.bool false) ∧ Below wx.heap.size wx w'))
    (HA : Hid (∀ wx, Below w.heap.size w wx → Calls Tryz.prog 7 #[] wx fun e w' => e = .returned (.bool true) ∧ Below wx.heap.size wx w')) :
    Calls Tryz.prog 4 #[.agg #[.int .i64 k, .int .i64 i, .int .u64 b, .string s, .slice ad len cap]] w fun e w' => e = .returned (.bool true) ∧ Below w.heap.size w w' := by
  have d0 := D5.new w (.int .i64 k) (.int .i64 i) (.int .u64 b) (.string s) (.slice ad len cap)
  have b0 := below1 w (.cells #[.int .i64 k, .int .i64 i, .int .u64 b, .string s, .slice ad len cap] 27)
  obtain ⟨c0, c1, c2, c3, c4⟩ := d0.c
  go_enter Tryz.func4, Tryz.ntmps4
  go_wp2_with fail
  refine (HV.out _ b0).mono ?_
  rintro e w1 ⟨rfl, b1⟩
  clear c0 c1 c2 c3 c4
  have e1 : Below w.heap.size w w1 := b0.trans (b1.mono b0.size)
  go_wp2_with fail
  refine (HA.out _ e1).mono ?_
  rintro e w2 ⟨rfl, b2⟩
  go_wp2
  go_ret
  exact ⟨rfl, e1.trans (b2.mono e1.size)⟩
set_option maxRecDepth 100000 in
set_option maxHeartbeats 2000000 in
theorem law_own_deep (m : Nat) (t : Tr (m + 1)) (k i b : Int) (s : ByteArray) (ad : Option Addr) (len cap : Nat) (w : World) (hr : Rep w (m + 1) [.int .i64 k, .int .i64 i, .int .u64 b, .string s, .slice ad len cap] t)
    (HV : Hid (∀ wx, Below w.heap.size w wx → Calls Tryz.prog 8 #[.agg #[.int .i64 k, .int .i64 i, .int .u64 b, .string s, .slice ad len cap]] wx fun e w' => e = .returned (.bool true) ∧ Below wx.heap.size wx w'))
    (HB : Hid (∀ L wx, Hid (Rep wx (m + 2) [.int .i64 11, .int .i64 1, .int .u64 0, .string ⟨#[]⟩, .slice (some ⟨L, 0, none⟩) 1 1] ((11, 1, 0, ⟨#[]⟩, [t]) : Int × Int × Int × ByteArray × List (Tr (m + 1)))) → Calls Tryz.prog 8 #[.agg #[.int .i64 11, .int .i64 1, .int .u64 0, .string ⟨#[]⟩, .slice (some ⟨L, 0, none⟩) 1 1]] wx fun e w' => e = .returned (.bool false) ∧ Below wx.heap.size wx w'))
    (HA : Hid (∀ wx, Below w.heap.size w wx → Calls Tryz.prog 7 #[] wx fun e w' => e = .returned (.bool true) ∧ Below wx.heap.size wx w')) :
    Calls Tryz.prog 4 #[.agg #[.int .i64 k, .int .i64 i, .int .u64 b, .string s, .slice ad len cap]] w fun e w' => e = .returned (.bool true) ∧ Below w.heap.size w w' := by
  have d0 := D5.new w (.int .i64 k) (.int .i64 i) (.int .u64 b) (.string s) (.slice ad len cap)
  have b0 := below1 w (.cells #[.int .i64 k, .int .i64 i, .int .u64 b, .string s, .slice ad len cap] 27)
  obtain ⟨c0, c1, c2, c3, c4⟩ := d0.c
  go_enter Tryz.func4, Tryz.ntmps4
  go_wp2_with fail
  refine (HV.out _ b0).mono ?_
  rintro e w1 ⟨rfl, b1⟩
  clear c0 c1 c2 c3 c4
  have d1 := d0.below b1
  have e1 : Below w.heap.size w w1 := b0.trans (b1.mono b0.size)
  obtain ⟨c0, c1, c2, c3, c4⟩ := d1.c
  have bb : Below w1.heap.size w1 ((w1.alloc (.cells #[.int .i64 k, .int .i64 i, .int .u64 b, .string s, .slice ad len cap] 27)).alloc (.cells #[.int .i64 11, .int .i64 1, .int .u64 0, .string ⟨#[]⟩, .slice (some ⟨w1.heap.size, 0, none⟩) 1 1] 27)) := below2 w1 _ _
  have L1 := (D5.new w1 (.int .i64 k) (.int .i64 i) (.int .u64 b) (.string s) (.slice ad len cap)).below (below1 _ (.cells #[.int .i64 11, .int .i64 1, .int .u64 0, .string ⟨#[]⟩, .slice (some ⟨w1.heap.size, 0, none⟩) 1 1] 27))
  have E1 := e1.trans (bb.mono e1.size)
  have r1 := Lib.hid (rep_box L1 (Rep.below E1 (m + 1) _ _ hr))
  clear d0 b0 b1 d1
  go_wp2_with fail
  refine (HB.out _ _ r1).mono ?_
  rintro e w2 ⟨rfl, b2⟩
  clear c0 c1 c2 c3 c4 r1
  have E2 := E1.trans (b2.mono E1.size)
  go_wp2_with fail
  refine (HA.out _ E2).mono ?_
  rintro e w3 ⟨rfl, b3⟩
  go_wp2
  go_ret
  exact ⟨rfl, E2.trans (b3.mono E2.size)⟩

theorem vr_ptr {F : Nat → Prop} {w : World} {n : Nat} {v : Value} {t : Tr (n + 1)} (h : VR F w (n + 1) v t) (k : t.kd = 11) : ∃ b u t0, v = .iface 90 (.pointer (some ⟨b, 0, none⟩)) ∧ t.ks = [t0] ∧ w.heap[b]? = some (.cells #[.int .i64 t.it, u] 108 (0, 0)) ∧ VR F w n u t0 := by
  simp only [VR] at h
  rcases h with ⟨q, -⟩ | ⟨q, -⟩ | ⟨q, -⟩ | ⟨q, -⟩ | ⟨q, -⟩ | ⟨q, -⟩ | ⟨q, -⟩ | ⟨q, -⟩ | ⟨q, -⟩ | ⟨q, -⟩ | ⟨q, -⟩ | ⟨-, b, u, t0, e1, -, e3, e4, e5⟩ | ⟨q, -⟩ | ⟨q, -⟩
  all_goals first | omega | exact ⟨b, u, t0, e1, e3, e4, e5⟩
theorem valid_facts {n : Nat} {t : Tr n} (h : vB n t = true) : rgt n t = true ∧ (pts n t).1 ≤ 4096 := by
  have S := say 16 n t 1 4096 (by decide) (by decide) (by decide)
  obtain ⟨h1, h2, -⟩ := S.down h
  obtain ⟨h3, -, h4, -, -⟩ := S.fit h2
  refine ⟨h1, ?_⟩
  rw [h3]; exact h4

set_option maxRecDepth 100000 in
set_option maxHeartbeats 1000000 in
theorem of_box (W0 : World) (m : Nat) (t : Tr (m + 1)) (ad : Option Addr) (cap : Nat) (w : World) (hrg : rgt (m + 2) ((11, 1, 0, ⟨#[]⟩, [t]) : Int × Int × Int × ByteArray × List (Tr (m + 1))) = true) (hps : (pts (m + 2) ((11, 1, 0, ⟨#[]⟩, [t]) : Int × Int × Int × ByteArray × List (Tr (m + 1)))).1 ≤ 4096) (hrep : Rep W0 (m + 2) [.int .i64 11, .int .i64 1, .int .u64 0, .string ⟨#[]⟩, .slice ad 1 cap] ((11, 1, 0, ⟨#[]⟩, [t]) : Int × Int × Int × ByteArray × List (Tr (m + 1)))) (hb : Below W0.heap.size W0 w) :
    Calls Tryz.prog 21 #[.agg #[.int .i64 11, .int .i64 1, .int .u64 0, .string ⟨#[]⟩, .slice ad 1 cap]] w fun e w' => ∃ bx u F0, e = .returned (.iface 90 (.pointer (some ⟨bx, 0, none⟩))) ∧ Hid (w'.heap[bx]? = some (.cells #[.int .i64 1, u] 108 (0, 0)) ∧ VR F0 w' (m + 1) u t) ∧ Below w.heap.size w w' := by
  have HO : Hid (Calls Tryz.prog 26 #[.agg #[.map none], .agg #[.int .i64 11, .int .i64 1, .int .u64 0, .string ⟨#[]⟩, .slice ad 1 cap]] (w.alloc (.cells #[.int .i64 11, .int .i64 1, .int .u64 0, .string ⟨#[]⟩, .slice ad 1 cap] 27)) fun e w' => ∃ bx u F0, e = .returned (.iface 90 (.pointer (some ⟨bx, 0, none⟩))) ∧ Hid (w'.heap[bx]? = some (.cells #[.int .i64 1, u] 108 (0, 0)) ∧ VR F0 w' (m + 1) u t) ∧ Below w.heap.size w w') := by
    have b1 := below1 w (.cells #[.int .i64 11, .int .i64 1, .int .u64 0, .string ⟨#[]⟩, .slice ad 1 cap] 27)
    refine (value_nb W0 (m + 2) ((11, 1, 0, ⟨#[]⟩, [t]) : Int × Int × Int × ByteArray × List (Tr (m + 1))) _ _ _ _ _ _ hrg hps hrep (hb.trans (b1.mono hb.size))).mono fun e w' ⟨u, he, vr, hb'⟩ => ?_
    have hkd : Tr.kd (n := m + 1) ((11, 1, 0, ⟨#[]⟩, [t]) : Int × Int × Int × ByteArray × List (Tr (m + 1))) = 11 := rfl
    have hks : Tr.ks (n := m + 1) ((11, 1, 0, ⟨#[]⟩, [t]) : Int × Int × Int × ByteArray × List (Tr (m + 1))) = [t] := rfl
    have hit : Tr.it (n := m + 1) ((11, 1, 0, ⟨#[]⟩, [t]) : Int × Int × Int × ByteArray × List (Tr (m + 1))) = 1 := rfl
    obtain ⟨bx, ux, t0, rfl, e2, e3, e4⟩ := vr_ptr vr hkd
    rw [hks] at e2
    rw [hit] at e3
    obtain rfl : t = t0 := by simpa using e2
    exact ⟨bx, ux, _, he, ⟨e3, e4⟩, b1.trans (hb'.mono (by simp))⟩
  clear hrg hps hrep hb
  go_enter Tryz.func21, Tryz.ntmps21
  go_wp2_with fail
  refine HO.out.mono ?_
  rintro e w1 ⟨bx, u, F0, rfl, hx, b1⟩
  go_wp2
  go_ret
  exact ⟨bx, u, F0, rfl, hx, b1⟩

theorem law_own (m : Nat) (t : Tr m) (v0 v1 v2 v3 v4 : Value) (w : World) (h : Rep w m [v0, v1, v2, v3, v4] t) (h6 : r64 m t) (hT : Aw.Tab w) (hP : Aw.Pow0 w) :
    Calls Tryz.prog 4 #[.agg #[v0, v1, v2, v3, v4]] w fun e w' => e = .returned (.bool true) ∧ Below w.heap.size w w' := by
  obtain ⟨k, i, b, s, ad, len, cap, rfl, rfl, rfl, rfl, rfl⟩ := rep_shape h
  have HA : Hid (∀ wx, Below w.heap.size w wx → Calls Tryz.prog 7 #[] wx fun e w' => e = .returned (.bool true) ∧ Below wx.heap.size wx w') := fun wx hb => Aw.awake_any wx (hT.below hb) ((Lib.tabBelow_of_tabIs hP).on hb).here
  have HV : ∀ wx, Below w.heap.size w wx → Calls Tryz.prog 8 #[.agg #[.int .i64 k, .int .i64 i, .int .u64 b, .string s, .slice ad len cap]] wx fun e w' => e = .returned (.bool (vB m t)) ∧ Below wx.heap.size wx w' := fun wx hb => refValid m t _ _ _ _ _ wx (Rep.below hb m _ _ h)
  cases hv : vB m t with
  | false =>
    rw [hv] at HV
    exact law_own_bad k i b s ad len cap w HV HA
  | true =>
    rw [hv] at HV
    match m, t, h, h6, hv with
    | m + 1, t, h, h6, hv =>
      obtain ⟨hr, hp⟩ := valid_facts hv
      have HB : ∀ L wx, Hid (Rep wx (m + 2) [.int .i64 11, .int .i64 1, .int .u64 0, .string ⟨#[]⟩, .slice (some ⟨L, 0, none⟩) 1 1] ((11, 1, 0, ⟨#[]⟩, [t]) : Int × Int × Int × ByteArray × List (Tr (m + 1)))) → Calls Tryz.prog 8 #[.agg #[.int .i64 11, .int .i64 1, .int .u64 0, .string ⟨#[]⟩, .slice (some ⟨L, 0, none⟩) 1 1]] wx fun e w' => e = .returned (.bool (vB (m + 2) ((11, 1, 0, ⟨#[]⟩, [t]) : Int × Int × Int × ByteArray × List (Tr (m + 1))))) ∧ Below wx.heap.size wx w' := fun L wx hx => refValid (m + 2) ((11, 1, 0, ⟨#[]⟩, [t]) : Int × Int × Int × ByteArray × List (Tr (m + 1))) _ _ _ _ _ wx hx.out
      cases hb : vB (m + 2) ((11, 1, 0, ⟨#[]⟩, [t]) : Int × Int × Int × ByteArray × List (Tr (m + 1))) with
      | false =>
        rw [hb] at HB
        exact law_own_deep m t k i b s ad len cap w h HV HB HA
      | true =>
        rw [hb] at HB
        obtain ⟨hr2, hp2⟩ := valid_facts hb
        refine law_own_walk m t k i b s ad len cap w h HV HB (fun L wx hx => ?_) (fun x0 x1 x2 x3 x4 x5 x6 y0 y1 y2 y3 y4 y5 y6 wx hx hy => sameD (m + 1) t _ _ _ _ _ _ _ _ _ _ wx hx.out hy.out) (fun wx hb => copy_any (m + 1) t _ _ _ _ _ wx (Rep.below hb (m + 1) _ _ h) hp) HA
        refine (open_box m t 1 _ 1 wx hr h6 hp fun wy hy => of_box wx m t _ 1 wy hr2 hp2 hx.out hy).mono fun e w' ⟨v0, v1, v2, v3, v4, he, rf, uf, hb⟩ => ?_
        obtain ⟨u0, u1, u2, u3, a4, n4, c4', rfl, rfl, rfl, rfl, rfl⟩ := rep_shape (Rf.rep _ _ _ rf)
        exact ⟨u0, u1, u2, u3, a4, n4, c4', he, rf, uf, hb⟩
end Go.Proofs.YtaphjfklfgnnlaaGreatDoor.Dt
