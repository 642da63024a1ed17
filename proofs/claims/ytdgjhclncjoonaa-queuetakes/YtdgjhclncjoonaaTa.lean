/- The document's Take; the conditions: the messages in memory, of a size that can be. -/
import Derived.Test.YtdgjhclncjoonaaRx
import Derived.Test.YtdgjhclncjoonaaQk
namespace Go.Proofs.Ytdgjhclncjoonaa
open Go.RowKit

theorem Best.noT {pr : Nat → Int} {i k : Nat} (h : Best true pr i k) (hc : ¬ pr k < pr i) : Best true pr (i + 1) k := by
  refine ⟨by have := h.1; omega, fun c hc' => ?_⟩
  by_cases e : c = i
  · subst e
    have hk := h.1
    unfold nb ahd gf
    simp only [ne_eq, ite_not, if_true]
    split
    · simp; omega
    · simp; omega
  · exact h.2 c (by omega)
theorem Best.yesT {pr : Nat → Int} {i k : Nat} (h : Best true pr i k) (hc : pr k < pr i) : Best true pr (i + 1) i := by
  refine ⟨by omega, fun c hc' => ?_⟩
  by_cases e : c = i
  · subst e; exact nb.refl _ _
  · have hb := h.2 c (by omega)
    unfold nb ahd gf at *
    simp only [ne_eq, ite_not, if_true] at *
    split at hb
    · split
      · omega
      · simp; omega
    · simp at hb
      split
      · omega
      · simp; omega
theorem Best.one0T (pr : Nat → Int) : Best true pr 1 0 := ⟨by decide, fun c hc => by
  obtain rfl : c = 0 := by omega
  exact nb.refl _ _⟩

set_option maxRecDepth 100000 in
set_option maxHeartbeats 8000000 in
theorem rtake_any (l : List Ms) (ad : Option Addr) (cap : Nat) (r dr : Int) (w : World) (hl : l.length ≤ 1500) (hI : Mw w ad l) (hp : Sm l) :
    Calls Try.prog 15 #[.agg #[.slice ad l.length cap, .int .i64 r, .int .i64 dr]] w (TakeP w l r dr) := by
  obtain ⟨W, hW⟩ : ∃ W, W = ((w.alloc (.cells #[.slice ad l.length cap, .int .i64 r, .int .i64 dr] 24)).alloc (.cells #[.slice none 0 0, .int .i64 0, .int .i64 0] 24)).alloc (.cells #[.int .i64 0, .string ⟨#[]⟩, .int .i64 0, .int .i64 0, .int .u64 0, .string ⟨#[]⟩, .slice none 0 0, .int .i64 0, .int .i64 0, .string ⟨#[]⟩, .int .i64 0, .int .i64 0, .int .i64 0] 30) := ⟨_, rfl⟩
  have B0 : Below w.heap.size w W := by rw [hW]; exact (below2 w _ _).alloc (by simp; omega) _
  have Q0 : Bk W w.heap.size #[.slice ad l.length cap, .int .i64 r, .int .i64 dr] 24 := by rw [hW]; exact ((Bk.new w _ _).alloc _).alloc _
  have RQ0 : Bk W (w.heap.size + 1) #[.slice none 0 0, .int .i64 0, .int .i64 0] 24 := by rw [hW]; exact (Bk.new2 w _ _ _).alloc _
  have RM0 : Bk W (w.heap.size + 1 + 1) #[.int .i64 0, .string ⟨#[]⟩, .int .i64 0, .int .i64 0, .int .u64 0, .string ⟨#[]⟩, .slice none 0 0, .int .i64 0, .int .i64 0, .string ⟨#[]⟩, .int .i64 0, .int .i64 0, .int .i64 0] 30 := by
    rw [hW]
    have := Bk.new2 (w.alloc (.cells #[.slice ad l.length cap, .int .i64 r, .int .i64 dr] 24)) (.cells #[.slice none 0 0, .int .i64 0, .int .i64 0] 24) #[.int .i64 0, .string ⟨#[]⟩, .int .i64 0, .int .i64 0, .int .u64 0, .string ⟨#[]⟩, .slice none 0 0, .int .i64 0, .int .i64 0, .string ⟨#[]⟩, .int .i64 0, .int .i64 0, .int .i64 0] 30
    simpa only [World.size_alloc] using this
  have hWs : W.heap.size = w.heap.size + 3 := by rw [hW]; show _ = _; simp
  obtain ⟨q0, q1, q2⟩ := Q0.c3
  by_cases h0 : l = []
  · subst h0
    have HC := Lib.hid (rcopy_any [] ad cap r dr W (by simp) (.inl rfl) (fun x hx => by simp at hx))
    have TOP : Hid (∀ e w', TaP w [] r dr mZ false e w' → TakeP w [] r dr e w') := fun e w' h => ⟨fun _ => h, fun h => absurd rfl h⟩
    simp only [List.length_nil] at *
    have HW := Lib.hid hW.symm
    clear hI hp hW
    go_enter Try.func15, Try.ntmps15
    go_wp2_with (rw [HW.out])
    refine HC.out.mono ?_
    rintro e w0 ⟨sl, xs, rfl, m0, b0⟩
    obtain ⟨a1, c1, rfl, mz1⟩ := m0.mz (F' := fun g => w.heap.size + 3 ≤ g ∧ g < w0.heap.size) (fun g hg => ⟨by have := hg.1; omega, hg.2.1⟩) (fun g hg => ⟨by have := (m0.own_lt g hg).1; omega, (m0.own_lt g hg).2⟩)
    have RQ1 := RQ0.step b0
    have RM1 := RM0.step b0
    have BW1 : Below w.heap.size w w0 := B0.trans (b0.mono (by omega))
    obtain ⟨p0, p1, p2⟩ := RQ1.c3
    have pf := RQ1.f
    obtain ⟨g0, g1, g2, g3, g4, g5, g6, g7, g8, g9, g10, g11, g12⟩ := RM1.c13
    have gf := RM1.f
    have BH := Lib.hid BW1
    have MH := Lib.hid mz1
    clear mz1 m0 b0 RQ1 RM1 BW1 RQ0 RM0 Q0 B0 HC HW q0 q1 q2
    simp only [List.length_nil] at *
    go_wp2_with fail
    exact bodyPost_ret (v := .tuple #[.agg #[.slice a1 0 c1, .int .i64 r, .int .i64 dr], .agg (mZ.cs zD), .bool false]) (by simp [results, Try.results15, go_sem, World.cell?_setCell_same, World.cell?_setCell_other, p0, p1, p2, g0, g1, g2, g3, g4, g5, g6, g7, g8, g9, g10, g11, g12, mZ, zD]) rfl (TOP.out _ _ (TaP.of rfl (Nat.le_add_right _ _) MH.out (mZ_rz _ _) (below_set13 (below_set3 BH.out (by omega) _ _ _) (by omega) _ _ _ _ _ _ _ _ _ _ _ _ _) (by simp) (fun g hg => by rw [set13_heap _ _ _ (by omega), set3_heap _ _ _ (by omega)])))
  · have hpos : 0 < l.length := List.length_pos_iff.2 h0
    have TOP : Hid (∀ k y e w', Best true (prl l) l.length k → l[k]? = some y → TaP w (l.eraseIdx k) r dr y true e w' → TakeP w l r dr e w') := fun k y e w' hb hy h => ⟨fun h => absurd h h0, fun _ => ⟨k, y, hb, hy, h⟩⟩
    have HWo1 : Hid (∀ k wx, Below w.heap.size w wx → Calls Try.prog 27 #[.agg #[.slice ad l.length cap, .int .i64 r, .int .i64 dr], .int .i64 (k : Nat)] wx (CqP wx (l.eraseIdx k) r dr)) := fun k wx hb => without_any l ad cap r dr k wx hl (Mw.below hI hb) hp
    have hne0 : ((l.length : Int) == 0) = false := by simpa using h0
    have HI := Lib.hid hI
    have HP := Lib.hid hp
    have HW := Lib.hid hW.symm
    rcases hI with h | ⟨b, o, rfl, hb, h2⟩
    · exact absurd h h0
    have H2 := Lib.hid h2
    clear hp hW h2 h0
    go_enter Try.func15, Try.ntmps15
    go_wp2_with (rw [HW.out])
    clear HW q0 q1 q2 hne0
    go_loopw [5, 17] (fun s5 s17 wr => ∃ (i k : Nat), s17 = .int .i64 i ∧ s5 = .int .i64 k ∧ i ≤ l.length ∧ ((i = 0 ∧ k = 0) ∨ Best true (prl l) i k) ∧ Below W.heap.size W wr) (fun _ s17 _ => l.length - (intOf s17).toNat)
    case atStart => exact ⟨0, 0, rfl, rfl, Nat.zero_le _, .inl ⟨rfl, rfl⟩, Below.refl _ _⟩
    case round =>
      obtain ⟨i, k, rfl, rfl, hi, hbk, hbw⟩ := hrel
      have BW0 : Below w.heap.size w wr := B0.trans (hbw.mono B0.size)
      by_cases hlt : i < l.length
      · have hkl : k < l.length := by
          rcases hbk with ⟨-, rfl⟩ | h
          · omega
          · have := h.1; omega
        obtain ⟨xi, hxi⟩ : ∃ y, l[i]? = some y := ⟨_, List.getElem?_eq_getElem hlt⟩
        obtain ⟨xk, hxk⟩ : ∃ y, l[k]? = some y := ⟨_, List.getElem?_eq_getElem hkl⟩
        obtain ⟨di, ci, -⟩ := H2.out i xi hxi
        obtain ⟨dk, ck, -⟩ := H2.out k xk hxk
        have ui : wr.cell? ⟨b, o + i * 13 + 11, none⟩ = some (.int .i64 xi.pr) := (ci.heap (BW0.block b hb)).2.2.2.2.2.2.2.2.2.2.2.1
        have uk : wr.cell? ⟨b, o + k * 13 + 11, none⟩ = some (.int .i64 xk.pr) := (ck.heap (BW0.block b hb)).2.2.2.2.2.2.2.2.2.2.2.1
        obtain ⟨q0, q1, q2⟩ := (Q0.step hbw).c3
        have i0 : (0 : Int) ≤ (i : Int) := by omega
        have i1 : (i : Int) < (l.length : Int) := by omega
        have kk0 : (0 : Int) ≤ (k : Int) := by omega
        have kk1 : (k : Int) < (l.length : Int) := by omega
        have hpi := prl_at hxi
        have hpk := prl_at hxk
        have HBK := Lib.hid hbk
        have HPI := Lib.hid hpi
        have HPK := Lib.hid hpk
        clear ci ck hxi hxk hpi hpk hbk
        by_cases hc : xk.pr < xi.pr
        · have hcd : decide (xk.pr < xi.pr) = true := decide_eq_true hc
          go_wp2_with fail
          go_quiet (fail)
          go_wp2_with fail
          refine ⟨⟨i + 1, i, by go_num, rfl, by omega, .inr ?_, ⟨hbw.os, hbw.tape, hbw.output, hbw.size, hbw.block⟩⟩, by simp [intOf]; omega⟩
          rcases HBK.out with ⟨rfl, rfl⟩ | h
          · exact Best.one0T _
          · exact h.yesT (by rw [HPI.out, HPK.out]; exact hc)
        · have hcd : decide (xk.pr < xi.pr) = false := decide_eq_false hc
          go_wp2_with fail
          go_quiet (fail)
          go_wp2_with fail
          refine ⟨⟨i + 1, k, by go_num, rfl, by omega, .inr ?_, ⟨hbw.os, hbw.tape, hbw.output, hbw.size, hbw.block⟩⟩, by simp [intOf]; omega⟩
          rcases HBK.out with ⟨rfl, rfl⟩ | h
          · exact Best.one0T _
          · exact h.noT (by rw [HPI.out, HPK.out]; omega)
      · have hie : i = l.length := by omega
        subst hie
        have hbest : Best true (prl l) l.length k := by
          rcases hbk with ⟨h, -⟩ | h
          · omega
          · exact h
        obtain ⟨y, hy⟩ : ∃ y, l[k]? = some y := ⟨_, List.getElem?_eq_getElem hbest.1⟩
        obtain ⟨dy, cy, ry⟩ := H2.out k y hy
        obtain ⟨le, hle⟩ : ∃ le, le = l.eraseIdx k := ⟨_, rfl⟩
        have TOP1 : Hid (∀ e w', TaP w le r dr y true e w' → TakeP w l r dr e w') := fun e w' h => TOP.out k y e w' hbest hy (by rw [← hle]; exact h)
        have HWo : Hid (∀ wx, Below w.heap.size w wx → Calls Try.prog 27 #[.agg #[.slice (some ⟨b, o, none⟩) l.length cap, .int .i64 r, .int .i64 dr], .int .i64 k] wx (CqP wx le r dr)) := fun wx h => by rw [hle]; exact HWo1.out k wx h
        have HM : Hid (∀ wx, Below w.heap.size w wx → Calls Try.prog 22 #[.agg (y.cs dy)] wx fun e w' => ∃ d' : Bo, e = .returned (.agg (y.cs d')) ∧ Rz (fun g => wx.heap.size ≤ g ∧ g < w'.heap.size) w' y.n d'.vs y.t ∧ Below wx.heap.size wx w') := fun wx h => cmsg_any y dy wx (Dt.Rep.below h _ _ _ (Rz.rep _ _ _ ry)) (HP.out y (List.mem_of_getElem? hy))
        have Q5 : Bk wr.drew w.heap.size #[.slice (some ⟨b, o, none⟩) l.length cap, .int .i64 r, .int .i64 dr] 24 := Q0.step hbw.drew
        have RQ5 : Bk wr.drew (w.heap.size + 1) #[.slice none 0 0, .int .i64 0, .int .i64 0] 24 := RQ0.step hbw.drew
        have RM5 : Bk wr.drew (w.heap.size + 1 + 1) #[.int .i64 0, .string ⟨#[]⟩, .int .i64 0, .int .i64 0, .int .u64 0, .string ⟨#[]⟩, .slice none 0 0, .int .i64 0, .int .i64 0, .string ⟨#[]⟩, .int .i64 0, .int .i64 0, .int .i64 0] 30 := RM0.step hbw.drew
        have BW5 : Hid (Below w.heap.size w wr.drew) := BW0.drew
        have CYH := Lib.hid cy
        have kk0 : (0 : Int) ≤ (k : Int) := by omega
        have kk1 : (k : Int) < (l.length : Int) := by have := hbest.1; omega
        clear cy ry hle hbest hy hbk hi BW0 hbw HWo1 TOP H2 HI HP RQ0 RM0 Q0 B0 hlt
        go_wp2_with fail
        have XS : Hid (∀ wx, Bk wx w.heap.size #[.slice (some ⟨b, o, none⟩) l.length cap, .int .i64 r, .int .i64 dr] 24 → Below w.heap.size w wx → ((wx.cell? ⟨w.heap.size, 0, none⟩ = some (.slice (some ⟨b, o, none⟩) l.length cap) ∧ wx.cell? ⟨w.heap.size, 1, none⟩ = some (.int .i64 r) ∧ wx.cell? ⟨w.heap.size, 2, none⟩ = some (.int .i64 dr)) ∧ (wx.cell? ⟨b, o + k * 13, none⟩ = some (.int .i64 y.id) ∧ wx.cell? ⟨b, o + k * 13 + 1, none⟩ = some (.string y.tp) ∧ wx.cell? ⟨b, o + k * 13 + 2, none⟩ = some (.int .i64 dy.k) ∧ wx.cell? ⟨b, o + k * 13 + 3, none⟩ = some (.int .i64 dy.i) ∧ wx.cell? ⟨b, o + k * 13 + 4, none⟩ = some (.int .u64 dy.u) ∧ wx.cell? ⟨b, o + k * 13 + 5, none⟩ = some (.string dy.s) ∧ wx.cell? ⟨b, o + k * 13 + 6, none⟩ = some (.slice dy.a dy.l dy.c) ∧ wx.cell? ⟨b, o + k * 13 + 7, none⟩ = some (.int .i64 y.ti) ∧ wx.cell? ⟨b, o + k * 13 + 8, none⟩ = some (.int .i64 y.un) ∧ wx.cell? ⟨b, o + k * 13 + 9, none⟩ = some (.string y.rp) ∧ wx.cell? ⟨b, o + k * 13 + 10, none⟩ = some (.int .i64 y.co) ∧ wx.cell? ⟨b, o + k * 13 + 11, none⟩ = some (.int .i64 y.pr) ∧ wx.cell? ⟨b, o + k * 13 + 12, none⟩ = some (.int .i64 y.ho)))) := fun wx h h2 => ⟨h.c3, CYH.out.heap (h2.block b hb)⟩
        refine wp_region_held_drew (S := (fun wx => (wx.cell? ⟨w.heap.size, 0, none⟩ = some (.slice (some ⟨b, o, none⟩) l.length cap) ∧ wx.cell? ⟨w.heap.size, 1, none⟩ = some (.int .i64 r) ∧ wx.cell? ⟨w.heap.size, 2, none⟩ = some (.int .i64 dr)) ∧ (wx.cell? ⟨b, o + k * 13, none⟩ = some (.int .i64 y.id) ∧ wx.cell? ⟨b, o + k * 13 + 1, none⟩ = some (.string y.tp) ∧ wx.cell? ⟨b, o + k * 13 + 2, none⟩ = some (.int .i64 dy.k) ∧ wx.cell? ⟨b, o + k * 13 + 3, none⟩ = some (.int .i64 dy.i) ∧ wx.cell? ⟨b, o + k * 13 + 4, none⟩ = some (.int .u64 dy.u) ∧ wx.cell? ⟨b, o + k * 13 + 5, none⟩ = some (.string dy.s) ∧ wx.cell? ⟨b, o + k * 13 + 6, none⟩ = some (.slice dy.a dy.l dy.c) ∧ wx.cell? ⟨b, o + k * 13 + 7, none⟩ = some (.int .i64 y.ti) ∧ wx.cell? ⟨b, o + k * 13 + 8, none⟩ = some (.int .i64 y.un) ∧ wx.cell? ⟨b, o + k * 13 + 9, none⟩ = some (.string y.rp) ∧ wx.cell? ⟨b, o + k * 13 + 10, none⟩ = some (.int .i64 y.co) ∧ wx.cell? ⟨b, o + k * 13 + 11, none⟩ = some (.int .i64 y.pr) ∧ wx.cell? ⟨b, o + k * 13 + 12, none⟩ = some (.int .i64 y.ho)))) (by kernel_rfl) (XS.out _ Q5 BW5.out) (fun hHeld => ?_)
        generalize wr.drew = v9 at *
        refine wpAnyH_take (i := 0) (oi := { dst := some 35, op := Op.load 24 (Operand.tmp 1), type := 24, pos := _, after := #[], guard := none }) (v := ?ttk1) rfl (by kernel_rfl) (by kernel_rfl) (by kernel_rfl) (fun _ _ _ h => h) (Or.inl ⟨by rfl, ?utk1⟩) (by assumption) ?rtk1
        case utk1 => (intro w hSw; (try dsimp only at hSw); go_simp; (try with_reducible rfl))
        simp only [Act.put, List.setIfInBounds_toArray, List.set_cons_zero, List.set_cons_succ]
        refine wpAnyH_take (i := 1) (oi := { dst := some 36, op := Op.move (Operand.tmp 5), type := 3, pos := _, after := #[], guard := none }) (v := ?ttk2) rfl (by kernel_rfl) (by kernel_rfl) (by kernel_rfl) (fun _ _ _ h => h) (Or.inl ⟨by rfl, ?utk2⟩) (by assumption) ?rtk2
        case utk2 => (intro w hSw; (try dsimp only at hSw); go_simp; (try with_reducible rfl))
        simp only [Act.put, List.setIfInBounds_toArray, List.set_cons_zero, List.set_cons_succ]
        refine wpAnyH_take (i := 3) (oi := { dst := some 38, op := Op.fieldAddr 24 (Operand.tmp 1) 0, type := 0, pos := _, after := #[], guard := none }) (v := ?ttk3) rfl (by kernel_rfl) (by kernel_rfl) (by kernel_rfl) (fun _ _ _ h => h) (Or.inl ⟨by rfl, ?utk3⟩) (by assumption) ?rtk3
        case utk3 => (intro w hSw; (try dsimp only at hSw); go_simp; (try with_reducible rfl))
        simp only [Act.put, List.setIfInBounds_toArray, List.set_cons_zero, List.set_cons_succ]
        refine wpAnyH_take (i := 4) (oi := { dst := some 39, op := Op.load 22 (Operand.tmp 38), type := 22, pos := _, after := #[{ on := 3, ground := Ground.data }], guard := none }) (v := ?ttk4) rfl (by kernel_rfl) (by kernel_rfl) (by kernel_rfl) (fun _ _ _ h => h) (Or.inl ⟨by rfl, ?utk4⟩) (by assumption) ?rtk4
        case utk4 => (intro w hSw; (try dsimp only at hSw); go_simp; (try with_reducible rfl))
        simp only [Act.put, List.setIfInBounds_toArray, List.set_cons_zero, List.set_cons_succ]
        refine wpAnyH_take (i := 5) (oi := { dst := some 40, op := Op.move (Operand.tmp 5), type := 3, pos := _, after := #[], guard := none }) (v := ?ttk5) rfl (by kernel_rfl) (by kernel_rfl) (by kernel_rfl) (fun _ _ _ h => h) (Or.inl ⟨by rfl, ?utk5⟩) (by assumption) ?rtk5
        case utk5 => (intro w hSw; (try dsimp only at hSw); go_simp; (try with_reducible rfl))
        simp only [Act.put, List.setIfInBounds_toArray, List.set_cons_zero, List.set_cons_succ]
        refine wpAnyH_take (i := 6) (oi := { dst := some 41, op := Op.indexAddr 22 (Operand.tmp 39) (Operand.tmp 40), type := 0, pos := _, after := #[{ on := 4, ground := Ground.data }, { on := 5, ground := Ground.data }], guard := none }) (v := ?ttk6) rfl (by kernel_rfl) (by kernel_rfl) (by kernel_rfl) (fun _ _ _ h => h) (Or.inl ⟨by rfl, ?utk6⟩) (by assumption) ?rtk6
        case utk6 => (intro w hSw; (try dsimp only at hSw); go_simp; (try with_reducible rfl))
        simp only [Act.put, List.setIfInBounds_toArray, List.set_cons_zero, List.set_cons_succ]
        refine wpAnyH_take (i := 7) (oi := { dst := some 42, op := Op.load 30 (Operand.tmp 41), type := 30, pos := _, after := #[{ on := 6, ground := Ground.data }], guard := none }) (v := ?ttk7) rfl (by kernel_rfl) (by kernel_rfl) (by kernel_rfl) (fun _ _ _ h => h) (Or.inl ⟨by rfl, ?utk7⟩) (by assumption) ?rtk7
        case utk7 => (intro w hSw; (try dsimp only at hSw); go_simp; (try with_reducible rfl))
        simp only [Act.put, List.setIfInBounds_toArray, List.set_cons_zero, List.set_cons_succ]
        refine wpAnyH_ready (rs := [2]) (by kernel_rfl) (by simp) ?_
        refine AllReadyH.cons (o := { dst := some 37, op := Op.call { callee := Callee.value (Operand.func 27), args := #[Operand.tmp 35, Operand.tmp 36], argTypes := #[24, 3] }, type := 24, pos := _, after := #[{ on := 0, ground := Ground.data }, { on := 1, ground := Ground.data }], guard := none }) rfl (fun K hK => ?_) AllReadyH.nil
        go_simp
        refine (HWo.out _ BW5.out).mono ?_
        rintro e v32 ⟨sl3, xs3, rfl, m3, e32⟩
        have hs32 := BW5.out.size
        have ss32 := e32.size
        have hlt32 := RM5.lt
        have Q32 := Bk.step Q5 e32
        have RQ32 := Bk.step RQ5 e32
        have RM32 := Bk.step RM5 e32
        obtain ⟨a5, c5, rfl, mz6⟩ := m3.mz (F' := fun g => w.heap.size + 3 ≤ g ∧ g < v32.heap.size) (fun g hg => ⟨by have := hg.1; omega, hg.2.1⟩) (fun g hg => ⟨by have := (m3.own_lt g hg).1; omega, (m3.own_lt g hg).2⟩)
        have mz32 := Lib.hid mz6
        have bb32 := Lib.hid (BW5.out.trans (e32.mono BW5.out.size))
        clear m3 mz6 e32
        refine hK.out _ _ (XS.out _ Q32 bb32.out) (fun hH32 => ?_)
        clear hK K
        (try simp only [Act.put, List.setIfInBounds_toArray, List.set_cons_zero, List.set_cons_succ])
        refine wpAnyH_ready (rs := [8]) (by kernel_rfl) (by simp) ?_
        refine AllReadyH.cons (o := { dst := some 43, op := Op.call { callee := Callee.value (Operand.func 22), args := #[Operand.tmp 42], argTypes := #[30] }, type := 30, pos := _, after := #[{ on := 7, ground := Ground.data }, { on := 2, ground := Ground.chain }], guard := none }) rfl (fun K hK => ?_) AllReadyH.nil
        go_simp
        refine (HM.out _ bb32.out).mono ?_
        rintro e v33 ⟨d', rfl, r33, e33⟩
        have hs33 := bb32.out.size
        have ss33 := e33.size
        have hlt33 := RM32.lt
        have Q33 := Bk.step Q32 e33
        have RQ33 := Bk.step RQ32 e33
        have RM33 := Bk.step RM32 e33
        have mz33 := Lib.hid (mz_stepq mz32.out e33)
        have bb33 := Lib.hid (bb32.out.trans (e33.mono bb32.out.size))
        have rz33 : Hid (Rz (fun g => w.heap.size + 3 ≤ g ∧ g < v33.heap.size) v33 y.n d'.vs y.t) := Rz.to (fun g hg => ⟨⟨by omega, hg.2⟩, rfl⟩) _ _ _ r33
        clear r33 e33
        refine hK.out _ _ (XS.out _ Q33 bb33.out) (fun hH33 => ?_)
        clear hK K
        (try simp only [Act.put, List.setIfInBounds_toArray, List.set_cons_zero, List.set_cons_succ])
        refine wpAnyH_ready (rs := [9]) (by kernel_rfl) (by simp) ?_
        refine AllReadyH.cons (o := { dst := none, op := Op.store 24 (Operand.tmp 2) (Operand.tmp 37), type := 0, pos := _, after := #[{ on := 2, ground := Ground.data }, { on := 8, ground := Ground.chain }, { on := 0, ground := Ground.phase }, { on := 1, ground := Ground.phase }, { on := 2, ground := Ground.phase }, { on := 3, ground := Ground.textOnly Departure.lateStores }, { on := 4, ground := Ground.textOnly Departure.lateStores }, { on := 5, ground := Ground.textOnly Departure.lateStores }, { on := 6, ground := Ground.textOnly Departure.lateStores }, { on := 7, ground := Ground.textOnly Departure.lateStores }, { on := 8, ground := Ground.textOnly Departure.lateStoresUnsure }], guard := none }) rfl (fun K hK => ?_) AllReadyH.nil
        obtain ⟨p0, p1, p2⟩ := Bk.c3 RQ33
        have pf := Bk.f RQ33
        go_simp
        clear pf p0 p1 p2
        have Q34 := Bk.set3 (M := w.heap.size + 1) Q33 (by omega) (.slice a5 le.length c5) (.int .i64 r) (.int .i64 dr)
        have RM34 := Bk.set3 (M := w.heap.size + 1) RM33 (by omega) (.slice a5 le.length c5) (.int .i64 r) (.int .i64 dr)
        have RQ34 := Bk.full3 RQ33 (.slice a5 le.length c5) (.int .i64 r) (.int .i64 dr)
        have mz34 := Lib.hid (mz_set mz33.out (W' := (((v33.setCell ⟨w.heap.size + 1, 0, none⟩ (.slice a5 le.length c5)).setCell ⟨w.heap.size + 1, 1, none⟩ (.int .i64 r)).setCell ⟨w.heap.size + 1, 2, none⟩ (.int .i64 dr))) (by simp only [World.size_setCell]) (fun g hg => set3_heap _ _ _ (by omega) _ _ _))
        have bb34 := Lib.hid (below_set3 (M := w.heap.size + 1) bb33.out (by omega) (.slice a5 le.length c5) (.int .i64 r) (.int .i64 dr))
        have rz34 := Lib.hid (rz_set rz33.out (W' := (((v33.setCell ⟨w.heap.size + 1, 0, none⟩ (.slice a5 le.length c5)).setCell ⟨w.heap.size + 1, 1, none⟩ (.int .i64 r)).setCell ⟨w.heap.size + 1, 2, none⟩ (.int .i64 dr))) (by simp only [World.size_setCell]) (fun g hg => set3_heap _ _ _ (by omega) _ _ _))
        refine hK.out _ _ (XS.out _ Q34 bb34.out) (fun hH34 => ?_)
        generalize (((v33.setCell ⟨w.heap.size + 1, 0, none⟩ (.slice a5 le.length c5)).setCell ⟨w.heap.size + 1, 1, none⟩ (.int .i64 r)).setCell ⟨w.heap.size + 1, 2, none⟩ (.int .i64 dr)) = u34 at *
        clear hK K
        (try simp only [Act.put, List.setIfInBounds_toArray, List.set_cons_zero, List.set_cons_succ])
        refine wpAnyH_ready (rs := [10]) (by kernel_rfl) (by simp) ?_
        refine AllReadyH.cons (o := { dst := none, op := Op.store 30 (Operand.tmp 3) (Operand.tmp 43), type := 0, pos := _, after := #[{ on := 8, ground := Ground.data }, { on := 9, ground := Ground.chain }, { on := 0, ground := Ground.phase }, { on := 1, ground := Ground.phase }, { on := 2, ground := Ground.phase }, { on := 3, ground := Ground.phase }, { on := 4, ground := Ground.phase }, { on := 5, ground := Ground.phase }, { on := 6, ground := Ground.phase }, { on := 7, ground := Ground.phase }, { on := 8, ground := Ground.phase }, { on := 9, ground := Ground.phase }], guard := none }) rfl (fun K hK => ?_) AllReadyH.nil
        obtain ⟨p0, p1, p2, p3, p4, p5, p6, p7, p8, p9, p10, p11, p12⟩ := Bk.c13 RM34
        have pf := Bk.f RM34
        go_simp
        clear pf p0 p1 p2 p3 p4 p5 p6 p7 p8 p9 p10 p11 p12
        have Q35 := Bk.set13 (M := w.heap.size + 1 + 1) Q34 (by omega) (.int .i64 y.id) (.string y.tp) (.int .i64 d'.k) (.int .i64 d'.i) (.int .u64 d'.u) (.string d'.s) (.slice d'.a d'.l d'.c) (.int .i64 y.ti) (.int .i64 y.un) (.string y.rp) (.int .i64 y.co) (.int .i64 y.pr) (.int .i64 y.ho)
        have RQ35 := Bk.set13 (M := w.heap.size + 1 + 1) RQ34 (by omega) (.int .i64 y.id) (.string y.tp) (.int .i64 d'.k) (.int .i64 d'.i) (.int .u64 d'.u) (.string d'.s) (.slice d'.a d'.l d'.c) (.int .i64 y.ti) (.int .i64 y.un) (.string y.rp) (.int .i64 y.co) (.int .i64 y.pr) (.int .i64 y.ho)
        have RM35 := Bk.full13 RM34 (.int .i64 y.id) (.string y.tp) (.int .i64 d'.k) (.int .i64 d'.i) (.int .u64 d'.u) (.string d'.s) (.slice d'.a d'.l d'.c) (.int .i64 y.ti) (.int .i64 y.un) (.string y.rp) (.int .i64 y.co) (.int .i64 y.pr) (.int .i64 y.ho)
        have mz35 := Lib.hid (mz_set mz34.out (W' := (((((((((((((u34.setCell ⟨w.heap.size + 1 + 1, 0, none⟩ (.int .i64 y.id)).setCell ⟨w.heap.size + 1 + 1, 1, none⟩ (.string y.tp)).setCell ⟨w.heap.size + 1 + 1, 2, none⟩ (.int .i64 d'.k)).setCell ⟨w.heap.size + 1 + 1, 3, none⟩ (.int .i64 d'.i)).setCell ⟨w.heap.size + 1 + 1, 4, none⟩ (.int .u64 d'.u)).setCell ⟨w.heap.size + 1 + 1, 5, none⟩ (.string d'.s)).setCell ⟨w.heap.size + 1 + 1, 6, none⟩ (.slice d'.a d'.l d'.c)).setCell ⟨w.heap.size + 1 + 1, 7, none⟩ (.int .i64 y.ti)).setCell ⟨w.heap.size + 1 + 1, 8, none⟩ (.int .i64 y.un)).setCell ⟨w.heap.size + 1 + 1, 9, none⟩ (.string y.rp)).setCell ⟨w.heap.size + 1 + 1, 10, none⟩ (.int .i64 y.co)).setCell ⟨w.heap.size + 1 + 1, 11, none⟩ (.int .i64 y.pr)).setCell ⟨w.heap.size + 1 + 1, 12, none⟩ (.int .i64 y.ho))) (by simp only [World.size_setCell]) (fun g hg => set13_heap _ _ _ (by omega) _ _ _ _ _ _ _ _ _ _ _ _ _))
        have bb35 := Lib.hid (below_set13 (M := w.heap.size + 1 + 1) bb34.out (by omega) (.int .i64 y.id) (.string y.tp) (.int .i64 d'.k) (.int .i64 d'.i) (.int .u64 d'.u) (.string d'.s) (.slice d'.a d'.l d'.c) (.int .i64 y.ti) (.int .i64 y.un) (.string y.rp) (.int .i64 y.co) (.int .i64 y.pr) (.int .i64 y.ho))
        have rz35 := Lib.hid (rz_set rz34.out (W' := (((((((((((((u34.setCell ⟨w.heap.size + 1 + 1, 0, none⟩ (.int .i64 y.id)).setCell ⟨w.heap.size + 1 + 1, 1, none⟩ (.string y.tp)).setCell ⟨w.heap.size + 1 + 1, 2, none⟩ (.int .i64 d'.k)).setCell ⟨w.heap.size + 1 + 1, 3, none⟩ (.int .i64 d'.i)).setCell ⟨w.heap.size + 1 + 1, 4, none⟩ (.int .u64 d'.u)).setCell ⟨w.heap.size + 1 + 1, 5, none⟩ (.string d'.s)).setCell ⟨w.heap.size + 1 + 1, 6, none⟩ (.slice d'.a d'.l d'.c)).setCell ⟨w.heap.size + 1 + 1, 7, none⟩ (.int .i64 y.ti)).setCell ⟨w.heap.size + 1 + 1, 8, none⟩ (.int .i64 y.un)).setCell ⟨w.heap.size + 1 + 1, 9, none⟩ (.string y.rp)).setCell ⟨w.heap.size + 1 + 1, 10, none⟩ (.int .i64 y.co)).setCell ⟨w.heap.size + 1 + 1, 11, none⟩ (.int .i64 y.pr)).setCell ⟨w.heap.size + 1 + 1, 12, none⟩ (.int .i64 y.ho))) (by simp only [World.size_setCell]) (fun g hg => set13_heap _ _ _ (by omega) _ _ _ _ _ _ _ _ _ _ _ _ _))
        refine hK.out _ _ (XS.out _ Q35 bb35.out) (fun hH35 => ?_)
        generalize (((((((((((((u34.setCell ⟨w.heap.size + 1 + 1, 0, none⟩ (.int .i64 y.id)).setCell ⟨w.heap.size + 1 + 1, 1, none⟩ (.string y.tp)).setCell ⟨w.heap.size + 1 + 1, 2, none⟩ (.int .i64 d'.k)).setCell ⟨w.heap.size + 1 + 1, 3, none⟩ (.int .i64 d'.i)).setCell ⟨w.heap.size + 1 + 1, 4, none⟩ (.int .u64 d'.u)).setCell ⟨w.heap.size + 1 + 1, 5, none⟩ (.string d'.s)).setCell ⟨w.heap.size + 1 + 1, 6, none⟩ (.slice d'.a d'.l d'.c)).setCell ⟨w.heap.size + 1 + 1, 7, none⟩ (.int .i64 y.ti)).setCell ⟨w.heap.size + 1 + 1, 8, none⟩ (.int .i64 y.un)).setCell ⟨w.heap.size + 1 + 1, 9, none⟩ (.string y.rp)).setCell ⟨w.heap.size + 1 + 1, 10, none⟩ (.int .i64 y.co)).setCell ⟨w.heap.size + 1 + 1, 11, none⟩ (.int .i64 y.pr)).setCell ⟨w.heap.size + 1 + 1, 12, none⟩ (.int .i64 y.ho)) = u35 at *
        clear hK K
        (try simp only [Act.put, List.setIfInBounds_toArray, List.set_cons_zero, List.set_cons_succ])
        refine wpAnyH_take (i := 11) (oi := { dst := some 4, op := Op.assign (Operand.const (Value.bool true)), type := 4, pos := _, after := #[{ on := 10, ground := Ground.chain }, { on := 0, ground := Ground.phase }, { on := 1, ground := Ground.phase }, { on := 2, ground := Ground.phase }, { on := 3, ground := Ground.phase }, { on := 4, ground := Ground.phase }, { on := 5, ground := Ground.phase }, { on := 6, ground := Ground.phase }, { on := 7, ground := Ground.phase }, { on := 8, ground := Ground.phase }, { on := 9, ground := Ground.phase }, { on := 10, ground := Ground.phase }], guard := none }) (v := ?ttk8) rfl (by kernel_rfl) (by kernel_rfl) (by kernel_rfl) (fun _ _ _ h => h) (Or.inl ⟨by rfl, ?utk8⟩) (by assumption) ?rtk8
        case utk8 => (intro w hSw; (try dsimp only at hSw); go_simp; (try with_reducible rfl))
        simp only [Act.put, List.setIfInBounds_toArray, List.set_cons_zero, List.set_cons_succ]
        refine wpAnyH_done (by kernel_rfl) ?_ _
        go_wp2_with fail
        obtain ⟨p0, p1, p2⟩ := Bk.c3 RQ35
        obtain ⟨g0, g1, g2, g3, g4, g5, g6, g7, g8, g9, g10, g11, g12⟩ := Bk.c13 RM35
        exact bodyPost_ret (v := .tuple #[.agg #[.slice a5 le.length c5, .int .i64 r, .int .i64 dr], .agg (y.cs d'), .bool true]) (by simp [results, Try.results15, go_sem, p0, p1, p2, g0, g1, g2, g3, g4, g5, g6, g7, g8, g9, g10, g11, g12]) rfl (TOP1.out _ _ (TaP.of rfl (Nat.le_add_right _ _) mz35.out rz35.out bb35.out rfl (fun _ _ => rfl)))
end Go.Proofs.Ytdgjhclncjoonaa
