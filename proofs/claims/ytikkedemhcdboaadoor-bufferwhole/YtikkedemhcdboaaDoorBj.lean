/- The document's look at two messages, two rows, two states that are the same: yes; the conditions: what lies in memory. -/
import Derived.Test.YtikkedemhcdboaaDoorBa
namespace Go.Proofs.YtikkedemhcdboaaDoor
open Go.RowKit


set_option maxRecDepth 100000 in
set_option maxHeartbeats 2000000 in
theorem smsg_any (x : Ms) (d d' : Bo) (w : World) (h : Dt.Rep w x.n d.vs x.t) (h' : Dt.Rep w x.n d'.vs x.t) :
    Calls Tryd.prog 27 #[.agg (x.cs d), .agg (x.cs d')] w fun e w' => e = .returned (.bool true) ∧ Below w.heap.size w w' := by
  have B0 := below2 w (.cells (x.cs d) 30) (.cells (x.cs d') 30)
  have HC := Lib.hid (Dt.sameD x.n x.t _ _ _ _ _ _ _ _ _ _ _ (Dt.Rep.below B0 _ _ _ h) (Dt.Rep.below B0 _ _ _ h'))
  clear h h'
  go_enter Tryd.func27, Tryd.ntmps27
  go_wp2_with (go_at_call 33; refine HC.out.mono ?_; rintro e w1 ⟨rfl, b1⟩)
  go_ret
  exact ⟨rfl, B0.trans (b1.mono B0.size)⟩

set_option maxRecDepth 100000 in
set_option maxHeartbeats 2000000 in
theorem smsgs_any (l : List Ms) (a1 a2 : Option Addr) (c1 c2 : Nat) (w : World) (hl : l.length ≤ 1000000) (h1 : Mw w a1 l) (h2 : Mw w a2 l) :
    Calls Tryd.prog 14 #[.slice a1 l.length c1, .slice a2 l.length c2] w fun e w' => e = .returned (.bool true) ∧ Below w.heap.size w w' := by
  have H1 := Lib.hid h1
  have H2 := Lib.hid h2
  clear h1 h2
  go_enter Tryd.func14, Tryd.ntmps14
  go_wp2_with fail
  go_loopw [5] (fun si wr => ∃ (j : Nat), si = .int .i64 j ∧ j ≤ l.length ∧ Below w.heap.size w wr) (fun si _ => l.length - (intOf si).toNat)
  case atStart => exact ⟨0, rfl, Nat.zero_le _, Below.refl _ _⟩
  case round =>
    obtain ⟨j, rfl, hj, hb⟩ := hrel
    by_cases hlt : j < l.length
    · have hne : l ≠ [] := by intro e; rw [e] at hlt; simp at hlt
      rcases H1.out with h | ⟨b, o, rfl, hb1, h2⟩
      · exact absurd h hne
      rcases H2.out with h | ⟨b', o', rfl, hb2, h2'⟩
      · exact absurd h hne
      obtain ⟨x, hx⟩ : ∃ x, l[j]? = some x := ⟨_, List.getElem?_eq_getElem hlt⟩
      obtain ⟨d, c, r⟩ := h2 j x hx
      obtain ⟨d', c', r'⟩ := h2' j x hx
      have j0 : (0 : Int) ≤ (j : Int) := by omega
      have j1 : (j : Int) < (l.length : Int) := by omega
      have HX : Hid (∀ wx, Below w.heap.size w wx → (wx.cell? ⟨b, o + j * 13, none⟩ = some (.int .i64 x.id) ∧ wx.cell? ⟨b, o + j * 13 + 1, none⟩ = some (.string x.tp) ∧ wx.cell? ⟨b, o + j * 13 + 2, none⟩ = some (.int .i64 d.k) ∧ wx.cell? ⟨b, o + j * 13 + 3, none⟩ = some (.int .i64 d.i) ∧ wx.cell? ⟨b, o + j * 13 + 4, none⟩ = some (.int .u64 d.u) ∧ wx.cell? ⟨b, o + j * 13 + 5, none⟩ = some (.string d.s) ∧ wx.cell? ⟨b, o + j * 13 + 6, none⟩ = some (.slice d.a d.l d.c) ∧ wx.cell? ⟨b, o + j * 13 + 7, none⟩ = some (.int .i64 x.ti) ∧ wx.cell? ⟨b, o + j * 13 + 8, none⟩ = some (.int .i64 x.un) ∧ wx.cell? ⟨b, o + j * 13 + 9, none⟩ = some (.string x.rp) ∧ wx.cell? ⟨b, o + j * 13 + 10, none⟩ = some (.int .i64 x.co) ∧ wx.cell? ⟨b, o + j * 13 + 11, none⟩ = some (.int .i64 x.pr) ∧ wx.cell? ⟨b, o + j * 13 + 12, none⟩ = some (.int .i64 x.ho)) ∧ wx.cell? ⟨b', o' + j * 13, none⟩ = some (.int .i64 x.id) ∧ wx.cell? ⟨b', o' + j * 13 + 1, none⟩ = some (.string x.tp) ∧ wx.cell? ⟨b', o' + j * 13 + 2, none⟩ = some (.int .i64 d'.k) ∧ wx.cell? ⟨b', o' + j * 13 + 3, none⟩ = some (.int .i64 d'.i) ∧ wx.cell? ⟨b', o' + j * 13 + 4, none⟩ = some (.int .u64 d'.u) ∧ wx.cell? ⟨b', o' + j * 13 + 5, none⟩ = some (.string d'.s) ∧ wx.cell? ⟨b', o' + j * 13 + 6, none⟩ = some (.slice d'.a d'.l d'.c) ∧ wx.cell? ⟨b', o' + j * 13 + 7, none⟩ = some (.int .i64 x.ti) ∧ wx.cell? ⟨b', o' + j * 13 + 8, none⟩ = some (.int .i64 x.un) ∧ wx.cell? ⟨b', o' + j * 13 + 9, none⟩ = some (.string x.rp) ∧ wx.cell? ⟨b', o' + j * 13 + 10, none⟩ = some (.int .i64 x.co) ∧ wx.cell? ⟨b', o' + j * 13 + 11, none⟩ = some (.int .i64 x.pr) ∧ wx.cell? ⟨b', o' + j * 13 + 12, none⟩ = some (.int .i64 x.ho)) := fun wx hx => ⟨c.heap (hx.block b hb1), c'.heap (hx.block b' hb2)⟩
      have HC : Hid (Calls Tryd.prog 27 #[.agg (x.cs d), .agg (x.cs d')] wr.drew fun e w' => e = .returned (.bool true) ∧ Below w.heap.size w w') := (smsg_any x d d' wr.drew (Dt.Rep.below hb.drew _ _ _ (Rz.rep _ _ _ r)) (Dt.Rep.below hb.drew _ _ _ (Rz.rep _ _ _ r'))).mono fun e w' ⟨h1, h2⟩ => ⟨h1, hb.drew.trans (h2.mono hb.drew.size)⟩
      clear h2 h2' H1 H2 c c' r r' hx
      go_wp2_with fail
      go_region_held3 (fun wx => (wx.cell? ⟨b, o + j * 13, none⟩ = some (.int .i64 x.id) ∧ wx.cell? ⟨b, o + j * 13 + 1, none⟩ = some (.string x.tp) ∧ wx.cell? ⟨b, o + j * 13 + 2, none⟩ = some (.int .i64 d.k) ∧ wx.cell? ⟨b, o + j * 13 + 3, none⟩ = some (.int .i64 d.i) ∧ wx.cell? ⟨b, o + j * 13 + 4, none⟩ = some (.int .u64 d.u) ∧ wx.cell? ⟨b, o + j * 13 + 5, none⟩ = some (.string d.s) ∧ wx.cell? ⟨b, o + j * 13 + 6, none⟩ = some (.slice d.a d.l d.c) ∧ wx.cell? ⟨b, o + j * 13 + 7, none⟩ = some (.int .i64 x.ti) ∧ wx.cell? ⟨b, o + j * 13 + 8, none⟩ = some (.int .i64 x.un) ∧ wx.cell? ⟨b, o + j * 13 + 9, none⟩ = some (.string x.rp) ∧ wx.cell? ⟨b, o + j * 13 + 10, none⟩ = some (.int .i64 x.co) ∧ wx.cell? ⟨b, o + j * 13 + 11, none⟩ = some (.int .i64 x.pr) ∧ wx.cell? ⟨b, o + j * 13 + 12, none⟩ = some (.int .i64 x.ho)) ∧ wx.cell? ⟨b', o' + j * 13, none⟩ = some (.int .i64 x.id) ∧ wx.cell? ⟨b', o' + j * 13 + 1, none⟩ = some (.string x.tp) ∧ wx.cell? ⟨b', o' + j * 13 + 2, none⟩ = some (.int .i64 d'.k) ∧ wx.cell? ⟨b', o' + j * 13 + 3, none⟩ = some (.int .i64 d'.i) ∧ wx.cell? ⟨b', o' + j * 13 + 4, none⟩ = some (.int .u64 d'.u) ∧ wx.cell? ⟨b', o' + j * 13 + 5, none⟩ = some (.string d'.s) ∧ wx.cell? ⟨b', o' + j * 13 + 6, none⟩ = some (.slice d'.a d'.l d'.c) ∧ wx.cell? ⟨b', o' + j * 13 + 7, none⟩ = some (.int .i64 x.ti) ∧ wx.cell? ⟨b', o' + j * 13 + 8, none⟩ = some (.int .i64 x.un) ∧ wx.cell? ⟨b', o' + j * 13 + 9, none⟩ = some (.string x.rp) ∧ wx.cell? ⟨b', o' + j * 13 + 10, none⟩ = some (.int .i64 x.co) ∧ wx.cell? ⟨b', o' + j * 13 + 11, none⟩ = some (.int .i64 x.pr) ∧ wx.cell? ⟨b', o' + j * 13 + 12, none⟩ = some (.int .i64 x.ho)) (with_reducible exact HX.out _ (by with_reducible first | assumption | exact Below.drew (by assumption))) ((go_at_call 27; refine HC.out.mono ?_; rintro e w1 ⟨rfl, b1⟩))
      all_goals go_wp2_with fail
      all_goals exact ⟨⟨j + 1, by go_num, by omega, by with_reducible assumption⟩, by simp [intOf]; omega⟩
    · have hje : j = l.length := by omega
      go_wp2_with fail
      go_ret
      exact ⟨rfl, hb⟩

set_option maxHeartbeats 2000000 in
theorem sbuf_any (l : List Ms) (a1 a2 : Option Addr) (c1 c2 : Nat) (s : Int) (w : World) (hl : l.length ≤ 1000000) (h1 : Mw w a1 l) (h2 : Mw w a2 l) :
    Calls Tryd.prog 13 #[.agg #[.slice a1 l.length c1, .int .i64 s], .agg #[.slice a2 l.length c2, .int .i64 s]] w fun e w' => e = .returned (.bool true) ∧ Below w.heap.size w w' := by
  have B0 := below2 w (.cells #[.slice a1 l.length c1, .int .i64 s] 24) (.cells #[.slice a2 l.length c2, .int .i64 s] 24)
  have HC := Lib.hid (smsgs_any l a1 a2 c1 c2 _ hl (Mw.below h1 B0) (Mw.below h2 B0))
  clear h1 h2
  go_enter Tryd.func13, Tryd.ntmps13
  go_wp2_with (go_at_call 14; refine HC.out.mono ?_; rintro e w1 ⟨rfl, b1⟩)
  go_ret
  exact ⟨rfl, B0.trans (b1.mono B0.size)⟩
end Go.Proofs.YtikkedemhcdboaaDoor
