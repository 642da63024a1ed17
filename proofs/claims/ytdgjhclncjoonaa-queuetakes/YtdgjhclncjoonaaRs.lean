/- The document's look at two messages, two inboxes that are the same: yes; the conditions: what lies in memory. -/
import Derived.Test.YtdgjhclncjoonaaQi
import Derived.Test.YtdgjhclncjoonaaDSam
import Derived.Deep.RegionHeld3
namespace Go.Proofs.Ytdgjhclncjoonaa
open Go.RowKit

set_option maxRecDepth 100000 in
set_option maxHeartbeats 2000000 in
theorem smsg_any (x : Ms) (d d' : Bo) (w : World) (h : Dt.Rep w x.n d.vs x.t) (h' : Dt.Rep w x.n d'.vs x.t) :
    Calls Try.prog 13 #[.agg (x.cs d), .agg (x.cs d')] w fun e w' => e = .returned (.bool true) ∧ Below w.heap.size w w' := by
  have B0 := below2 w (.cells (x.cs d) 30) (.cells (x.cs d') 30)
  have X0 := (Bk.new w (x.cs d) 30).alloc (.cells (x.cs d') 30)
  have Y0 := Bk.new2 w (.cells (x.cs d) 30) (x.cs d') 30
  have HC := Lib.hid (Dt.sameD x.n x.t _ _ _ _ _ _ _ _ _ _ _ (Dt.Rep.below B0 _ _ _ h) (Dt.Rep.below B0 _ _ _ h'))
  clear h h'
  go_enter Try.func13, Try.ntmps13
  go_wp2_with (go_at_call 28; refine HC.out.mono ?_; rintro e w1 ⟨rfl, b1⟩; obtain ⟨x0, x1, x2, x3, x4, x5, x6, x7, x8, x9, x10, x11, x12⟩ := (X0.step b1).c13; obtain ⟨y0, y1, y2, y3, y4, y5, y6, y7, y8, y9, y10, y11, y12⟩ := (Y0.step b1).c13; have B1 := B0.trans (b1.mono B0.size); clear b1)
  go_ret
  exact ⟨rfl, B1⟩

set_option maxRecDepth 100000 in
set_option maxHeartbeats 4000000 in
theorem same_any (l : List Ms) (a1 a2 : Option Addr) (c1 c2 : Nat) (r dr : Int) (w : World) (hl : l.length ≤ 1000000) (h1 : Mw w a1 l) (h2 : Mw w a2 l) :
    Calls Try.prog 12 #[.agg #[.slice a1 l.length c1, .int .i64 r, .int .i64 dr], .agg #[.slice a2 l.length c2, .int .i64 r, .int .i64 dr]] w fun e w' => e = .returned (.bool true) ∧ Below w.heap.size w w' := by
  obtain ⟨W, hW⟩ : ∃ W, W = (w.alloc (.cells #[.slice a1 l.length c1, .int .i64 r, .int .i64 dr] 24)).alloc (.cells #[.slice a2 l.length c2, .int .i64 r, .int .i64 dr] 24) := ⟨_, rfl⟩
  have B0 : Below w.heap.size w W := by rw [hW]; exact below2 w _ _
  have X0 : Bk W w.heap.size #[.slice a1 l.length c1, .int .i64 r, .int .i64 dr] 24 := by rw [hW]; exact (Bk.new w _ _).alloc _
  have Y0 : Bk W (w.heap.size + 1) #[.slice a2 l.length c2, .int .i64 r, .int .i64 dr] 24 := by rw [hW]; exact Bk.new2 w _ _ _
  have H1 := Lib.hid (Mw.below h1 B0)
  have H2 := Lib.hid (Mw.below h2 B0)
  have HW := Lib.hid hW.symm
  obtain ⟨x0, x1, x2⟩ := X0.c3
  obtain ⟨y0, y1, y2⟩ := Y0.c3
  clear h1 h2 hW
  go_enter Try.func12, Try.ntmps12
  go_wp2_with (rw [HW.out])
  go_loopw [30] (fun si wr => ∃ (j : Nat), si = .int .i64 j ∧ j ≤ l.length ∧ Below W.heap.size W wr) (fun si _ => l.length - (intOf si).toNat)
  case atStart => exact ⟨0, rfl, Nat.zero_le _, Below.refl _ _⟩
  case round =>
    obtain ⟨j, rfl, hj, hb⟩ := hrel
    by_cases hlt : j < l.length
    · have hne : l ≠ [] := by intro e; rw [e] at hlt; simp at hlt
      rcases H1.out with h | ⟨b, o, rfl, hb1, h2⟩
      · exact absurd h hne
      rcases H2.out with h | ⟨b', o', rfl, hb2, h2'⟩
      · exact absurd h hne
      obtain ⟨x, hx⟩ : ∃ x, l[j]? = some x := ⟨_, List.getElem?_eq_getElem hlt⟩
      obtain ⟨d, c, rr⟩ := h2 j x hx
      obtain ⟨d', c', rr'⟩ := h2' j x hx
      have j0 : (0 : Int) ≤ (j : Int) := by omega
      have j1 : (j : Int) < (l.length : Int) := by omega
      have HX : Hid (∀ wx, Below W.heap.size W wx → (wx.cell? ⟨w.heap.size, 0, none⟩ = some (.slice (some ⟨b, o, none⟩) l.length c1) ∧ wx.cell? ⟨w.heap.size + 1, 0, none⟩ = some (.slice (some ⟨b', o', none⟩) l.length c2)) ∧ (wx.cell? ⟨b, o + j * 13, none⟩ = some (.int .i64 x.id) ∧ wx.cell? ⟨b, o + j * 13 + 1, none⟩ = some (.string x.tp) ∧ wx.cell? ⟨b, o + j * 13 + 2, none⟩ = some (.int .i64 d.k) ∧ wx.cell? ⟨b, o + j * 13 + 3, none⟩ = some (.int .i64 d.i) ∧ wx.cell? ⟨b, o + j * 13 + 4, none⟩ = some (.int .u64 d.u) ∧ wx.cell? ⟨b, o + j * 13 + 5, none⟩ = some (.string d.s) ∧ wx.cell? ⟨b, o + j * 13 + 6, none⟩ = some (.slice d.a d.l d.c) ∧ wx.cell? ⟨b, o + j * 13 + 7, none⟩ = some (.int .i64 x.ti) ∧ wx.cell? ⟨b, o + j * 13 + 8, none⟩ = some (.int .i64 x.un) ∧ wx.cell? ⟨b, o + j * 13 + 9, none⟩ = some (.string x.rp) ∧ wx.cell? ⟨b, o + j * 13 + 10, none⟩ = some (.int .i64 x.co) ∧ wx.cell? ⟨b, o + j * 13 + 11, none⟩ = some (.int .i64 x.pr) ∧ wx.cell? ⟨b, o + j * 13 + 12, none⟩ = some (.int .i64 x.ho)) ∧ (wx.cell? ⟨b', o' + j * 13, none⟩ = some (.int .i64 x.id) ∧ wx.cell? ⟨b', o' + j * 13 + 1, none⟩ = some (.string x.tp) ∧ wx.cell? ⟨b', o' + j * 13 + 2, none⟩ = some (.int .i64 d'.k) ∧ wx.cell? ⟨b', o' + j * 13 + 3, none⟩ = some (.int .i64 d'.i) ∧ wx.cell? ⟨b', o' + j * 13 + 4, none⟩ = some (.int .u64 d'.u) ∧ wx.cell? ⟨b', o' + j * 13 + 5, none⟩ = some (.string d'.s) ∧ wx.cell? ⟨b', o' + j * 13 + 6, none⟩ = some (.slice d'.a d'.l d'.c) ∧ wx.cell? ⟨b', o' + j * 13 + 7, none⟩ = some (.int .i64 x.ti) ∧ wx.cell? ⟨b', o' + j * 13 + 8, none⟩ = some (.int .i64 x.un) ∧ wx.cell? ⟨b', o' + j * 13 + 9, none⟩ = some (.string x.rp) ∧ wx.cell? ⟨b', o' + j * 13 + 10, none⟩ = some (.int .i64 x.co) ∧ wx.cell? ⟨b', o' + j * 13 + 11, none⟩ = some (.int .i64 x.pr) ∧ wx.cell? ⟨b', o' + j * 13 + 12, none⟩ = some (.int .i64 x.ho))) := fun wx hbx => ⟨⟨(X0.step hbx).c 0, (Y0.step hbx).c 0⟩, c.heap (hbx.block b hb1), c'.heap (hbx.block b' hb2)⟩
      have HC : Hid (Calls Try.prog 13 #[.agg (x.cs d), .agg (x.cs d')] wr.drew fun e w' => e = .returned (.bool true) ∧ Below W.heap.size W w') := (smsg_any x d d' wr.drew (Dt.Rep.below hb.drew _ _ _ (Rz.rep _ _ _ rr)) (Dt.Rep.below hb.drew _ _ _ (Rz.rep _ _ _ rr'))).mono fun e w' ⟨h1, h2⟩ => ⟨h1, hb.drew.trans (h2.mono hb.drew.size)⟩
      have hbd := hb.drew
      clear h2 h2' H1 H2 c c' rr rr' hx x0 x1 x2 y0 y1 y2 X0 Y0
      go_wp2_with fail
      go_region_held3 (fun wx => (wx.cell? ⟨w.heap.size, 0, none⟩ = some (.slice (some ⟨b, o, none⟩) l.length c1) ∧ wx.cell? ⟨w.heap.size + 1, 0, none⟩ = some (.slice (some ⟨b', o', none⟩) l.length c2)) ∧ (wx.cell? ⟨b, o + j * 13, none⟩ = some (.int .i64 x.id) ∧ wx.cell? ⟨b, o + j * 13 + 1, none⟩ = some (.string x.tp) ∧ wx.cell? ⟨b, o + j * 13 + 2, none⟩ = some (.int .i64 d.k) ∧ wx.cell? ⟨b, o + j * 13 + 3, none⟩ = some (.int .i64 d.i) ∧ wx.cell? ⟨b, o + j * 13 + 4, none⟩ = some (.int .u64 d.u) ∧ wx.cell? ⟨b, o + j * 13 + 5, none⟩ = some (.string d.s) ∧ wx.cell? ⟨b, o + j * 13 + 6, none⟩ = some (.slice d.a d.l d.c) ∧ wx.cell? ⟨b, o + j * 13 + 7, none⟩ = some (.int .i64 x.ti) ∧ wx.cell? ⟨b, o + j * 13 + 8, none⟩ = some (.int .i64 x.un) ∧ wx.cell? ⟨b, o + j * 13 + 9, none⟩ = some (.string x.rp) ∧ wx.cell? ⟨b, o + j * 13 + 10, none⟩ = some (.int .i64 x.co) ∧ wx.cell? ⟨b, o + j * 13 + 11, none⟩ = some (.int .i64 x.pr) ∧ wx.cell? ⟨b, o + j * 13 + 12, none⟩ = some (.int .i64 x.ho)) ∧ (wx.cell? ⟨b', o' + j * 13, none⟩ = some (.int .i64 x.id) ∧ wx.cell? ⟨b', o' + j * 13 + 1, none⟩ = some (.string x.tp) ∧ wx.cell? ⟨b', o' + j * 13 + 2, none⟩ = some (.int .i64 d'.k) ∧ wx.cell? ⟨b', o' + j * 13 + 3, none⟩ = some (.int .i64 d'.i) ∧ wx.cell? ⟨b', o' + j * 13 + 4, none⟩ = some (.int .u64 d'.u) ∧ wx.cell? ⟨b', o' + j * 13 + 5, none⟩ = some (.string d'.s) ∧ wx.cell? ⟨b', o' + j * 13 + 6, none⟩ = some (.slice d'.a d'.l d'.c) ∧ wx.cell? ⟨b', o' + j * 13 + 7, none⟩ = some (.int .i64 x.ti) ∧ wx.cell? ⟨b', o' + j * 13 + 8, none⟩ = some (.int .i64 x.un) ∧ wx.cell? ⟨b', o' + j * 13 + 9, none⟩ = some (.string x.rp) ∧ wx.cell? ⟨b', o' + j * 13 + 10, none⟩ = some (.int .i64 x.co) ∧ wx.cell? ⟨b', o' + j * 13 + 11, none⟩ = some (.int .i64 x.pr) ∧ wx.cell? ⟨b', o' + j * 13 + 12, none⟩ = some (.int .i64 x.ho))) (with_reducible exact HX.out _ (by with_reducible assumption)) ((go_at_call 13; refine HC.out.mono ?_; rintro e w2 ⟨rfl, b2⟩))
      all_goals go_wp2_with fail
      all_goals exact ⟨⟨j + 1, by go_num, by omega, by with_reducible assumption⟩, by simp [intOf]; omega⟩
    · have hje : j = l.length := by omega
      go_wp2_with fail
      go_ret
      exact ⟨rfl, B0.trans (hb.mono B0.size)⟩
end Go.Proofs.Ytdgjhclncjoonaa
