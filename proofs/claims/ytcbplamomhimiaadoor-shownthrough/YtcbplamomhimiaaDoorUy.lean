/- Levels of the document: what each level shows; what is asked of the world: the chain where it is told to lie. -/
import Derived.Test.YtcbplamomhimiaaDoorUa
namespace Go.Proofs.YtcbplamomhimiaaDoor
open Go.RowKit

theorem sh_succ (c : Nat) (qs : List Wq) (j : Nat) (h : j < qs.length) : sh c (rv qs (j + 1)) = giv qs[j].x ||| kp qs[j].x (sh c (rv qs j)) := by
  rw [rv_succ qs j h]; show kp _ _ ||| giv _ = _; rw [Nat.or_comm]

set_option maxRecDepth 100000 in
set_option maxHeartbeats 4000000 in
theorem rlevels_any (op num : Int) (c : Nat) (qs : List Wq) (ad : Option Addr) (cap : Nat) (w : World) (h : ChOk w c ad qs) :
    Calls Tryd.prog 15 #[.agg #[.int .i64 op, .int .i64 num, .int .u32 (c : Nat), .slice ad qs.length cap]] w fun e w' => ∃ g cp, e = .returned (.slice (some ⟨g, 0, none⟩) (qs.length + 1) cp) ∧
      w'.ownsRow w.heap.size 23 1 (.slice (some ⟨g, 0, none⟩) (qs.length + 1) cp) (qs.length + 1) (srow c qs (qs.length + 1)) ∧ Below w.heap.size w w' := by
  have hRow := Lib.hid h.r
  have HQ := Lib.hid h.q
  have HLT := Lib.hid h.lt
  have hl := h.l
  obtain ⟨i0, hi0, hz0, hz1, hz2⟩ := capInfo
  have HI := Lib.hid hi0
  have HZ : Hid (i0.zero = some (.int .u32 0) ∧ i0.size = 1 ∧ i0.bytes = 4) := ⟨hz0, hz1, hz2⟩
  clear hi0 hz0 hz1 hz2 h
  go_enter Tryd.func15, Tryd.ntmps15
  go_wp2
  go_loopw [3, 13] (fun s3 s13 wr => ∃ (j g cp : Nat), s13 = .int .i64 j ∧ j ≤ qs.length ∧ s3 = .slice (some ⟨g, 0, none⟩) (j + 1) cp ∧ wr.ownsRow w.heap.size 23 1 (.slice (some ⟨g, 0, none⟩) (j + 1) cp) (j + 1) (srow c qs (j + 1)) ∧ Below w.heap.size w wr) (fun _ s13 _ => qs.length - (intOf s13).toNat)
  case atStart => exact ⟨0, _, 1, rfl, Nat.zero_le _, rfl, own_new (w := w.alloc _) w.heap.size _ _ (w.heap.size + 1) (by simp) (by omega), (below1 w _).trans ((below1 _ _).mono (by simp))⟩
  case round =>
    obtain ⟨j, g, cp, rfl, hj, rfl, ho, hb⟩ := hrel
    by_cases hlt : j < qs.length
    · have hne : qs ≠ [] := by intro e; rw [e] at hlt; exact absurd hlt (Nat.not_lt_zero _)
      have hk := hRow.out
      rcases hk with hk | ⟨gw, ow, hk1, hk2, hk3⟩
      · exact absurd hk hne
      subst hk1
      have hk4 := hk3 j _ (List.getElem?_eq_getElem hlt)
      have hok := HQ.out qs[j] (List.getElem_mem hlt)
      have HA : Hid (sh c (rv qs (j + 1)) = giv qs[j].x ||| kp qs[j].x (sh c (rv qs j))) := Lib.hid (sh_succ c qs j hlt)
      generalize qs[j] = q at hk4 hok HA
      obtain ⟨⟨qo, qc, qn⟩, qA, qB, q0, q1, qa, ql, qcc⟩ := q
      have X : ∀ i, i < 8 → wr.cell? ⟨gw, ow + j * 8 + i, none⟩ = _ := fun i hi => (hb.cell (p := ⟨gw, _, none⟩) hk2).trans (hk4 i hi)
      have x0 : wr.cell? ⟨gw, ow + j * 8, none⟩ = some (.int .i64 qo) := X 0 (by decide)
      have x1 : wr.cell? ⟨gw, ow + j * 8 + 1, none⟩ = some (.int .i64 qA) := X 1 (by decide)
      have x2 : wr.cell? ⟨gw, ow + j * 8 + 2, none⟩ = some (.int .i64 qB) := X 2 (by decide)
      have x3 : wr.cell? ⟨gw, ow + j * 8 + 3, none⟩ = some (.int .u32 (qc : Nat)) := X 3 (by decide)
      have x4 : wr.cell? ⟨gw, ow + j * 8 + 4, none⟩ = some (.int .i64 q0) := X 4 (by decide)
      have x5 : wr.cell? ⟨gw, ow + j * 8 + 5, none⟩ = some (.int .i64 q1) := X 5 (by decide)
      have x6 : wr.cell? ⟨gw, ow + j * 8 + 6, none⟩ = some (.slice qa ql qcc) := X 6 (by decide)
      have x7 : wr.cell? ⟨gw, ow + j * 8 + 7, none⟩ = some (.bool qn) := X 7 (by decide)
      have hS := HLT.out j
      have LJ : Hid ((srow c qs (j + 1))[j]? = some (.int .u32 (sh c (rv qs j) : Nat))) := Lib.hid (srow_at c qs (j + 1) j (by omega))
      have lj : wr.cell? ⟨g, j, none⟩ = some (.int .u32 (sh c (rv qs j) : Nat)) := own_cell ho j _ (srow_at c qs (j + 1) j (by omega))
      have hgl : g < wr.heap.size := World.block_lt_of_cell? wr _ lj
      have HE : Hid (srow c qs (j + 1 + 1) = srow c qs (j + 1) ++ [.int .u32 (giv ⟨qo, qc, qn⟩ ||| kp ⟨qo, qc, qn⟩ (sh c (rv qs j)) : Nat)]) := Lib.hid (by rw [srow_succ, HA.out])
      have KG : Hid (∀ wx, On wr (.cells #[.int .i64 qo, .int .i64 qA, .int .i64 qB, .int .u32 (qc : Nat), .int .i64 q0, .int .i64 q1, .slice qa ql qcc, .bool qn] 35) wx → Calls Tryd.prog 12 #[.agg #[.int .i64 qo, .int .i64 qA, .int .i64 qB, .int .u32 (qc : Nat), .int .i64 q0, .int .i64 q1, .slice qa ql qcc, .bool qn]] wx fun e w' => e = .returned (.int .u32 (giv ⟨qo, qc, qn⟩ : Nat)) ∧ On wr (.cells #[.int .i64 qo, .int .i64 qA, .int .i64 qB, .int .u32 (qc : Nat), .int .i64 q0, .int .i64 q1, .slice qa ql qcc, .bool qn] 35) w') := fun wx hx => (rgives_any ⟨qo, qc, qn⟩ hok qA qB q0 q1 qa ql qcc wx).mono fun e w' ⟨a, b⟩ => ⟨a, hx.step b⟩
      have KK : Hid (∀ wx, On wr (.cells #[.int .i64 qo, .int .i64 qA, .int .i64 qB, .int .u32 (qc : Nat), .int .i64 q0, .int .i64 q1, .slice qa ql qcc, .bool qn] 35) wx → Calls Tryd.prog 34 #[.agg #[.int .i64 qo, .int .i64 qA, .int .i64 qB, .int .u32 (qc : Nat), .int .i64 q0, .int .i64 q1, .slice qa ql qcc, .bool qn], .int .u32 (sh c (rv qs j) : Nat)] wx fun e w' => e = .returned (.int .u32 (kp ⟨qo, qc, qn⟩ (sh c (rv qs j)) : Nat)) ∧ On wr (.cells #[.int .i64 qo, .int .i64 qA, .int .i64 qB, .int .u32 (qc : Nat), .int .i64 q0, .int .i64 q1, .slice qa ql qcc, .bool qn] 35) w') := fun wx hx => (rkeeps_any ⟨qo, qc, qn⟩ hok qA qB q0 q1 qa ql qcc _ hS wx).mono fun e w' ⟨a, b⟩ => ⟨a, hx.step b⟩
      have hgv : giv ⟨qo, qc, qn⟩ < 2048 := giv_lt hok.2.2
      have hkp := kp_le ⟨qo, qc, qn⟩ (sh c (rv qs j))
      have e1 := (u32_bits (giv ⟨qo, qc, qn⟩) (kp ⟨qo, qc, qn⟩ (sh c (rv qs j))) (by omega) (by omega)).2.1
      generalize giv ⟨qo, qc, qn⟩ = G at HE KG e1 hgv
      generalize kp ⟨qo, qc, qn⟩ (sh c (rv qs j)) = Kx at HE KK e1 hkp
      generalize sh c (rv qs j) = S at KK lj hS hkp LJ
      have HS : Hid (∀ wx, On wr (.cells #[.int .i64 qo, .int .i64 qA, .int .i64 qB, .int .u32 (qc : Nat), .int .i64 q0, .int .i64 q1, .slice qa ql qcc, .bool qn] 35) wx → wx.cell? ⟨g, j, none⟩ = some (.int .u32 (S : Nat)) ∧ wx.cell? ⟨wr.heap.size, 0, none⟩ = some (.int .i64 qo) ∧ wx.cell? ⟨wr.heap.size, 1, none⟩ = some (.int .i64 qA) ∧ wx.cell? ⟨wr.heap.size, 2, none⟩ = some (.int .i64 qB) ∧ wx.cell? ⟨wr.heap.size, 3, none⟩ = some (.int .u32 (qc : Nat)) ∧ wx.cell? ⟨wr.heap.size, 4, none⟩ = some (.int .i64 q0) ∧ wx.cell? ⟨wr.heap.size, 5, none⟩ = some (.int .i64 q1) ∧ wx.cell? ⟨wr.heap.size, 6, none⟩ = some (.slice qa ql qcc) ∧ wx.cell? ⟨wr.heap.size, 7, none⟩ = some (.bool qn)) := fun wx h => ⟨(h.below.cell (p := ⟨g, j, none⟩) hgl).trans lj, h.cell 0, h.cell 1, h.cell 2, h.cell 3, h.cell 4, h.cell 5, h.cell 6, h.cell 7⟩
      have hcp : j + 1 ≤ cp ∧ cp ≤ 9223372036854775807 := by
        obtain ⟨_, (⟨h1, _⟩ | ⟨g', c', cur, h1, h2, h3, h4, h5, h6, h7⟩)⟩ := ho
        · cases h1
        · injection h1 with e1 e2 e3
          unfold maxLen at h5; omega
      obtain ⟨hcp1, hcp2⟩ := hcp
      have b0 := On.start wr (.cells #[.int .i64 qo, .int .i64 qA, .int .i64 qB, .int .u32 (qc : Nat), .int .i64 q0, .int .i64 q1, .slice qa ql qcc, .bool qn] 35)
      have HO : Hid (∀ wx, On wr (.cells #[.int .i64 qo, .int .i64 qA, .int .i64 qB, .int .u32 (qc : Nat), .int .i64 q0, .int .i64 q1, .slice qa ql qcc, .bool qn] 35) wx → wx.ownsRow w.heap.size 23 1 (.slice (some ⟨g, 0, none⟩) (j + 1) cp) (j + 1) (srow c qs (j + 1))) := fun wx h => own_kept ho h.below
      have HF : Hid (∀ (wy wx : World), On wr (.cells #[.int .i64 qo, .int .i64 qA, .int .i64 qB, .int .u32 (qc : Nat), .int .i64 q0, .int .i64 q1, .slice qa ql qcc, .bool qn] 35) wy → (wy.alloc (.cells #[.int .u32 (G ||| Kx : Nat)] 23)).grownBy wx (some g) → wx.ownsRow w.heap.size 23 1 (.slice (some ⟨g, 0, none⟩) (j + 1) cp) (j + 1) (srow c qs (j + 1)) → wx.cell? ⟨g, j, none⟩ = some (.int .u32 (S : Nat)) ∧ wx.cell? ⟨wr.heap.size, 0, none⟩ = some (.int .i64 qo) ∧ wx.cell? ⟨wr.heap.size, 1, none⟩ = some (.int .i64 qA) ∧ wx.cell? ⟨wr.heap.size, 2, none⟩ = some (.int .i64 qB) ∧ wx.cell? ⟨wr.heap.size, 3, none⟩ = some (.int .u32 (qc : Nat)) ∧ wx.cell? ⟨wr.heap.size, 4, none⟩ = some (.int .i64 q0) ∧ wx.cell? ⟨wr.heap.size, 5, none⟩ = some (.int .i64 q1) ∧ wx.cell? ⟨wr.heap.size, 6, none⟩ = some (.slice qa ql qcc) ∧ wx.cell? ⟨wr.heap.size, 7, none⟩ = some (.bool qn)) := fun wy wx h1 h2 h3 => by
        have h4 : On wr (.cells #[.int .i64 qo, .int .i64 qA, .int .i64 qB, .int .u32 (qc : Nat), .int .i64 q0, .int .i64 q1, .slice qa ql qcc, .bool qn] 35) (wy.alloc (.cells #[.int .u32 (G ||| Kx : Nat)] 23)) := h1.step (below1 _ _)
        have hz := h4.size
        have far : ∀ i, wx.cell? ⟨wr.heap.size, i, none⟩ = (wy.alloc (.cells #[.int .u32 (G ||| Kx : Nat)] 23)).cell? ⟨wr.heap.size, i, none⟩ := fun i => h2.cell_far ⟨wr.heap.size, i, none⟩ (by show wr.heap.size < _; omega) (by simp; omega)
        exact ⟨own_cell h3 j _ LJ.out, (far 0).trans (h4.cell 0), (far 1).trans (h4.cell 1), (far 2).trans (h4.cell 2), (far 3).trans (h4.cell 3), (far 4).trans (h4.cell 4), (far 5).trans (h4.cell 5), (far 6).trans (h4.cell 6), (far 7).trans (h4.cell 7)⟩
      have hbg : w.heap.size ≤ g := own_base ho g rfl
      have HB : Hid (∀ (wy wx : World), On wr (.cells #[.int .i64 qo, .int .i64 qA, .int .i64 qB, .int .u32 (qc : Nat), .int .i64 q0, .int .i64 q1, .slice qa ql qcc, .bool qn] 35) wy → (wy.alloc (.cells #[.int .u32 (G ||| Kx : Nat)] 23)).grownBy wx (some g) → Below w.heap.size w wx) := fun wy wx h1 h2 => by
        have hb1 := hb.trans (h1.below.mono hb.size)
        exact (hb1.alloc hb1.size _).grown h2 (by have := hb1.size; simp; omega) (fun k hk => by cases hk; exact hbg)
      clear hk3 hk4 hok X ho HA
      have hij : ((j : Nat) : Int) < (j : Int) + 1 := by omega
      go_wp2_with fail
      go_region_held3 (fun w' => w'.cell? ⟨g, j, none⟩ = some (.int .u32 (S : Nat)) ∧ w'.cell? ⟨wr.heap.size, 0, none⟩ = some (.int .i64 qo) ∧ w'.cell? ⟨wr.heap.size, 1, none⟩ = some (.int .i64 qA) ∧ w'.cell? ⟨wr.heap.size, 2, none⟩ = some (.int .i64 qB) ∧ w'.cell? ⟨wr.heap.size, 3, none⟩ = some (.int .u32 (qc : Nat)) ∧ w'.cell? ⟨wr.heap.size, 4, none⟩ = some (.int .i64 q0) ∧ w'.cell? ⟨wr.heap.size, 5, none⟩ = some (.int .i64 q1) ∧ w'.cell? ⟨wr.heap.size, 6, none⟩ = some (.slice qa ql qcc) ∧ w'.cell? ⟨wr.heap.size, 7, none⟩ = some (.bool qn)) (first | exact hS4 | exact HS.out _ (by first | assumption | exact On.drew (by assumption)) | exact HS.out _ (On.step (by assumption) (below1 _ _))) (first
        | (refine step_append_keeps _ (by rfl) _ _ 38 (by rfl) w.heap.size 23 i0 (.int .u32 0) 4 Tryd.underlying38 HI.out HZ.out.1 HZ.out.2.1 HZ.out.2.2 rfl (.slice (some ⟨g, 0, none⟩) (j + 1) cp) _ _ (by rfl) ((HO.out _ (by assumption)).alloc _) ⟨_, 0, none⟩ 1 [.int .u32 ((G ||| Kx : Nat))] (by rfl) rfl (cell_one_new _ _ _) (by simp [Value.oneCell']) (by unfold maxLen; omega) (by omega) (by simp; have := hb.size; have := On.size (by assumption); omega) _ rfl ?_; intro g4 d4 w4 ho4 hg4 ha4 hl4 ho5; have hS4 := HF.out _ _ (by assumption) hg4 ho5; have hB4 := HB.out _ _ (by assumption) hg4)
        | (go_at_call 12; refine (KG.out _ (by first | assumption | exact On.drew (by assumption))).mono ?_; rintro e wa ⟨rfl, ba⟩)
        | (go_at_call 34; refine (KK.out _ (by first | assumption | exact On.drew (by assumption))).mono ?_; rintro e wb ⟨rfl, bb⟩))
      all_goals go_wp2
      all_goals
        refine ⟨⟨j + 1, g4, d4, by go_num, by omega, rfl, ?_, hB4⟩, by simp [intOf]; omega⟩
        rw [HE.out]; exact ho4
    · have hje : j = qs.length := by omega
      subst hje
      go_wp2
      go_ret
      exact ⟨g, cp, rfl, ho, hb⟩
end Go.Proofs.YtcbplamomhimiaaDoor
