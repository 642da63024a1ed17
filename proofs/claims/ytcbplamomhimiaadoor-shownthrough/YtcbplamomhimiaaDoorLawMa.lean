/- Wrappers put around a chain, and what is then shown; what is asked of the world: the chain where it is told to lie, the table of words as its text lays it. -/
import Derived.Test.YtcbplamomhimiaaDoorLawL
namespace Go.Proofs.YtcbplamomhimiaaDoor
open Go.RowKit

theorem add_pl (b o i : Nat) : (⟨b, o, none⟩ : Addr).add i = ⟨b, o + i, none⟩ := by simp [Addr.add]
def flat (qs : List Wq) : List Value := qs.flatMap fun q => q.cs.toList
theorem flat_len (qs : List Wq) : (flat qs).length = qs.length * 8 := by
  induction qs with
  | nil => rfl
  | cons q r ih => simp only [flat, List.flatMap_cons, List.length_append] at ih ⊢; rw [ih, List.length_cons]; show 8 + _ = _; omega
theorem flat_at : ∀ (qs : List Wq) (j : Nat) (q : Wq) (i : Nat), qs[j]? = some q → i < 8 → (flat qs)[j * 8 + i]? = q.cs[i]?
  | [], j, q, i, h, _ => by simp at h
  | q' :: r, 0, q, i, h, hi => by
    cases h
    simp only [flat, List.flatMap_cons]
    rw [List.getElem?_append_left (by show _ < 8; omega), Array.getElem?_toList, Nat.zero_mul, Nat.zero_add]
  | q' :: r, j + 1, q, i, h, hi => by
    have ih := flat_at r j q i (by simpa using h) hi
    simp only [flat, List.flatMap_cons] at ih ⊢
    rw [List.getElem?_append_right (by show 8 ≤ _; omega), ← ih]
    congr 1
    show (j + 1) * 8 + i - 8 = _
    omega
theorem flat_app (a b : List Wq) : flat (a ++ b) = flat a ++ flat b := by simp [flat]
theorem flat_one (qs : List Wq) : ∀ u ∈ flat qs, u.oneCell' = true := by
  intro u hu
  simp only [flat, List.mem_flatMap] at hu
  obtain ⟨q, _, hq⟩ := hu
  simp [Wq.cs, wcs] at hq
  rcases hq with rfl | rfl | rfl | rfl | rfl | rfl | rfl | rfl <;> rfl
theorem flat_split {qs : List Wq} {k : Nat} {u : Value} (h : (flat qs)[k]? = some u) : ∃ j q i, qs[j]? = some q ∧ i < 8 ∧ k = j * 8 + i ∧ q.cs[i]? = some u := by
  have hk : k < (flat qs).length := (List.getElem?_eq_some_iff.1 h).1
  rw [flat_len] at hk
  have hj : k / 8 < qs.length := by omega
  refine ⟨k / 8, qs[k / 8], k % 8, List.getElem?_eq_getElem hj, by omega, by omega, ?_⟩
  rw [← flat_at qs (k / 8) _ (k % 8) (List.getElem?_eq_getElem hj) (by omega), ← h]
  congr 1; omega
/-- The cells of a row of wrappers, as an append asks for them. -/
theorem WRow.news {W : World} {g o : Nat} {qs : List Wq} (h : WRow W (some ⟨g, o, none⟩) qs) (hne : qs ≠ []) : ∀ j u, (flat qs)[j]? = some u → W.cell? ((⟨g, o, none⟩ : Addr).add j) = some u := by
  intro k u hu
  rcases h with h | ⟨g', o', h1, h2, h3⟩
  · exact absurd h hne
  · cases h1
    obtain ⟨j, q, i, hj, hi, rfl, hq⟩ := flat_split hu
    have : (⟨g, o, none⟩ : Addr).add (j * 8 + i) = ⟨g, o + j * 8 + i, none⟩ := by simp [Addr.add, Nat.add_assoc]
    rw [this, h3 j q hj i hi, hq]
theorem own_cellN {w : World} {base : Nat} {e : TypeId} {size g n cap : Nat} {xs : List Value} (h : w.ownsRow base e size (.slice (some ⟨g, 0, none⟩) n cap) n xs) (j : Nat) (u : Value) (hj : xs[j]? = some u) : w.cell? ⟨g, j, none⟩ = some u := by
  obtain ⟨h0, (⟨h1, _⟩ | ⟨g', c, cur, h1, h2, h3, h4, h5, h6, h7⟩)⟩ := h
  · cases h1
  · injection h1 with e1 e2 e3
    injection e1 with e1
    injection e1 with e1
    subst e1
    rw [cell_at h3 j, ← Array.getElem?_toList]
    have hjl : j < xs.length := (List.getElem?_eq_some_iff.1 hj).1
    have := congrArg (·[j]?) h7
    simp only [hj] at this
    rw [List.getElem?_take_of_lt (by omega)] at this
    exact this
theorem wrow_own {w : World} {base g cap n : Nat} {qs : List Wq} (hn : n = qs.length) (h : w.ownsRow base 35 8 (.slice (some ⟨g, 0, none⟩) n cap) n (flat qs)) : WRow w (some ⟨g, 0, none⟩) qs := by
  subst hn
  rcases Nat.eq_zero_or_pos qs.length with h0 | h0
  · exact .inl (List.eq_nil_of_length_eq_zero h0)
  · refine .inr ⟨g, 0, rfl, ?_, fun j q hj i hi => ?_⟩
    · have hc : (qs[0]).cs[0]? = some (.int .i64 (qs[0]).x.op) := rfl
      exact World.block_lt_of_cell? w _ (own_cellN h (0 * 8 + 0) _ ((flat_at qs 0 qs[0] 0 (List.getElem?_eq_getElem h0) (by decide)).trans hc))
    · have e := flat_at qs j q i hj hi
      cases hq : q.cs[i]? with
      | none =>
        have : q.cs.size ≤ i := Array.getElem?_eq_none_iff.1 hq
        have h8 : q.cs.size = 8 := rfl
        omega
      | some u =>
        rw [hq] at e
        rw [Nat.zero_add]
        exact own_cellN h _ u e
theorem infoWrap : (Tryd.prog.info? 35).map (fun i => (i.zero, i.size, i.bytes)) = some (some (.agg #[.int .i64 0, .int .i64 0, .int .i64 0, .int .u32 0, .int .i64 0, .int .i64 0, .slice none 0 0, .bool false]), 8, 80) := by kernel_rfl
theorem wrapInfo : ∃ i0, Tryd.prog.info? 35 = some i0 ∧ i0.zero = some (.agg #[.int .i64 0, .int .i64 0, .int .i64 0, .int .u32 0, .int .i64 0, .int .i64 0, .slice none 0 0, .bool false]) ∧ i0.size = 8 ∧ i0.bytes = 80 := by
  have := infoWrap
  cases h : Tryd.prog.info? 35 with
  | none => rw [h] at this; cases this
  | some i0 => rw [h] at this; simp at this; exact ⟨i0, rfl, this.1, this.2.1, this.2.2⟩
theorem rv_app (qs ls : List Wq) (j : Nat) (h : j ≤ qs.length) : rv (qs ++ ls) j = rv qs j := by unfold rv; rw [List.take_append_of_le_length h]

set_option maxRecDepth 100000 in
set_option maxHeartbeats 4000000 in
theorem with_any (op num : Int) (c : Nat) (qs ls : List Wq) (ad : Option Addr) (cap B gl lc : Nat) (w : World) (h : ChOk w c ad qs) (hl8 : qs.length ≤ 8) (hne : qs ≠ []) (hls : ls ≠ []) (hl2 : ls.length ≤ 2) (hlo : ∀ q ∈ ls, okr q.x) (hL : WRow w (some ⟨gl, 0, none⟩) ls)
    (c0 : w.cell? ⟨B, 0, none⟩ = some (.int .i64 op)) (c1 : w.cell? ⟨B, 1, none⟩ = some (.int .i64 num)) (c2 : w.cell? ⟨B, 2, none⟩ = some (.int .u32 (c : Nat))) (c3 : w.cell? ⟨B, 3, none⟩ = some (.slice ad qs.length cap)) :
    Calls Tryd.prog 25 #[.slice (some ⟨gl, 0, none⟩) ls.length lc, .pointer (some ⟨B, 0, none⟩)] w fun e w' => e = .returned (.int .u32 (sh c (rv (qs ++ ls) (qs.length + ls.length)) : Nat)) ∧ Below w.heap.size w w' := by
  have hBl : B < w.heap.size := World.block_lt_of_cell? w _ c0
  obtain ⟨g, o, hk1, hk2, hk3⟩ := h.r.resolve_left hne
  subst hk1
  have hk4 := h.r.news hne
  have hk5 := hL.news hls
  obtain ⟨gl', ol', hl1', hl2', hl3'⟩ := hL.resolve_left hls
  cases hl1'
  obtain ⟨i0, hi0, hz0, hz1, hz2⟩ := wrapInfo
  have HI := Lib.hid hi0
  have HZ : Hid (i0.zero = some (.agg #[.int .i64 0, .int .i64 0, .int .i64 0, .int .u32 0, .int .i64 0, .int .i64 0, .slice none 0 0, .bool false]) ∧ i0.size = 8 ∧ i0.bytes = 80) := ⟨hz0, hz1, hz2⟩
  clear hi0 hz0 hz1 hz2
  have hq0 : 0 < qs.length := by cases qs with | nil => exact absurd rfl hne | cons => simp
  have hq1 : 0 < ls.length := by cases ls with | nil => exact absurd rfl hls | cons => simp
  have N1 : Hid (∀ j u, (flat qs)[j]? = some u → (w.alloc (.cells #[.int .i64 op, .int .i64 num, .int .u32 (c : Nat), .slice none 0 0] 28)).cell? ((⟨g, o, none⟩ : Addr).add j) = some u) := fun j u hu => by
    rw [← hk4 j u hu]; exact (below1 w (.cells #[.int .i64 op, .int .i64 num, .int .u32 (c : Nat), .slice none 0 0] 28)).cell (p := (⟨g, o, none⟩ : Addr).add j) (by rw [add_pl]; exact hk2)
  have N2 : Hid (∀ w1, (w.alloc (.cells #[.int .i64 op, .int .i64 num, .int .u32 (c : Nat), .slice none 0 0] 28)).grownBy w1 none → ∀ j u, (flat ls)[j]? = some u → w1.cell? ((⟨gl, 0, none⟩ : Addr).add j) = some u) := fun w1 hg j u hu => by
    have hlt : ((⟨gl, 0, none⟩ : Addr).add j).block < w.heap.size := by rw [add_pl]; exact hl2'
    rw [hg.cell_far _ (by simp; omega) (by simp), ← hk5 j u hu]
    exact (below1 w (.cells #[.int .i64 op, .int .i64 num, .int .u32 (c : Nat), .slice none 0 0] 28)).cell (p := (⟨gl, 0, none⟩ : Addr).add j) hlt
  have FIN : Hid (∀ g1 cap1 w1 g2 cap2 w2, (w.alloc (.cells #[.int .i64 op, .int .i64 num, .int .u32 (c : Nat), .slice none 0 0] 28)).grownBy w1 none → w1.ownsRow (w.heap.size + 1) 35 8 (.slice (some ⟨g1, 0, none⟩) qs.length cap1) qs.length (flat qs) → w1.grownBy w2 (some g1) → w2.ownsRow (w.heap.size + 1) 35 8 (.slice (some ⟨g2, 0, none⟩) (qs.length + ls.length) cap2) (qs.length + ls.length) (flat qs ++ flat ls) →
      (w2.cell? ⟨w.heap.size, 0, none⟩ = some (.int .i64 op) ∧ w2.cell? ⟨w.heap.size, 1, none⟩ = some (.int .i64 num) ∧ w2.cell? ⟨w.heap.size, 2, none⟩ = some (.int .u32 (c : Nat)) ∧ w2.cell? ⟨w.heap.size, 3, none⟩ = some (.slice none 0 0) ∧ w2.frozen? ⟨w.heap.size, 3, none⟩ = false) ∧
      Calls Tryd.prog 16 #[.agg #[.int .i64 op, .int .i64 num, .int .u32 (c : Nat), .slice (some ⟨g2, 0, none⟩) (qs.length + ls.length) cap2]] (w2.setCell ⟨w.heap.size, 3, none⟩ (.slice (some ⟨g2, 0, none⟩) (qs.length + ls.length) cap2)) fun e w' => e = .returned (.int .u32 (sh c (rv (qs ++ ls) (qs.length + ls.length)) : Nat)) ∧ Below w.heap.size w w') := fun g1 cap1 w1 g2 cap2 w2 hg1 ho1 hg2 ho2 => by
    have b1 := own_base ho1 g1 rfl
    have s1 : w.heap.size + 1 ≤ w1.heap.size := by have := hg1.size; simpa using this
    have blk : w2.heap[w.heap.size]? = some (.cells #[.int .i64 op, .int .i64 num, .int .u32 (c : Nat), .slice none 0 0] 28) := by
      rw [hg2.block w.heap.size (by omega) (by simp; omega), hg1.block w.heap.size (by simp) (by simp)]; exact heap_alloc_new w _
    have hB : Below w.heap.size w w2 := by
      have a1 := (below1 w (.cells #[.int .i64 op, .int .i64 num, .int .u32 (c : Nat), .slice none 0 0] 28)).grown hg1 (by simp) (fun k hk => by cases hk)
      exact a1.grown hg2 (by omega) (fun k hk => by cases hk; omega)
    refine ⟨⟨by rw [cell_at blk]; rfl, by rw [cell_at blk]; rfl, by rw [cell_at blk]; rfl, by rw [cell_at blk]; rfl, by simp [World.frozen?, blk]⟩, ?_⟩
    have hB3 : Below w.heap.size w (w2.setCell ⟨w.heap.size, 3, none⟩ (.slice (some ⟨g2, 0, none⟩) (qs.length + ls.length) cap2)) := hB.setCell (Nat.le_refl _) _
    have ho3 := ownsRow_setCell_below ho2 (a := ⟨w.heap.size, 3, none⟩) (by show w.heap.size < w.heap.size + 1; omega) (.slice (some ⟨g2, 0, none⟩) (qs.length + ls.length) cap2)
    rw [← flat_app] at ho3
    have hok : ChOk (w2.setCell ⟨w.heap.size, 3, none⟩ (.slice (some ⟨g2, 0, none⟩) (qs.length + ls.length) cap2)) c (some ⟨g2, 0, none⟩) (qs ++ ls) :=
      ⟨h.c, fun q hq => by rcases List.mem_append.1 hq with hq | hq; exact h.q q hq; exact hlo q hq, by rw [List.length_append]; omega, wrow_own (by rw [List.length_append]) ho3, h.n.below hB3⟩
    have := shown_any op num c (qs ++ ls) (some ⟨g2, 0, none⟩) cap2 _ hok
    rw [List.length_append] at this
    exact this.mono fun e w' ⟨a, b⟩ => ⟨a, hB3.trans (b.mono hB3.size)⟩
  have HO1 := flat_one qs
  have HO2 := flat_one ls
  have HF1 := Lib.hid HO1
  have HF2 := Lib.hid HO2
  have HL1 := Lib.hid (flat_len qs)
  have HL2 := Lib.hid (flat_len ls)
  clear hk3 hk4 hk5 hl3' hL h HO1 HO2 hlo
  go_enter Tryd.func25, Tryd.ntmps25
  go_wp2_with (first
    | (at_builtin; refine wpList_append_lies _ rfl _ _ 26 rfl (w.heap.size + 1) 35 i0 (.agg #[.int .i64 0, .int .i64 0, .int .i64 0, .int .u32 0, .int .i64 0, .int .i64 0, .slice none 0 0, .bool false]) 8 80 Tryd.underlying26 HI.out HZ.out.1 HZ.out.2.1 HZ.out.2.2 rfl (by decide) (.slice (some ⟨g1, 0, none⟩) qs.length d1) qs.length (flat qs) rfl ho1.out ⟨gl, 0, none⟩ ls.length lc (flat ls) rfl HL2.out (N2.out w1 hg1) HF2.out hq1 (by unfold maxLen; omega) (by omega) (by have := hg1.size; simp at this; omega) _ rfl ?_; intro g2 d2 w2 ho2 hg2 ha2 hl2; obtain ⟨⟨z0, z1, z2, z3, z4⟩, KS⟩ := FIN.out g1 d1 w1 g2 d2 w2 hg1 ho1.out hg2 ho2; have KSh := Lib.hid KS; clear KS)
    | (at_builtin; refine wpList_append_lies _ rfl _ _ 26 rfl (w.heap.size + 1) 35 i0 (.agg #[.int .i64 0, .int .i64 0, .int .i64 0, .int .u32 0, .int .i64 0, .int .i64 0, .slice none 0 0, .bool false]) 8 80 Tryd.underlying26 HI.out HZ.out.1 HZ.out.2.1 HZ.out.2.2 rfl (by decide) (.slice none 0 0) 0 [] rfl ⟨rfl, .inl ⟨rfl, rfl⟩⟩ ⟨g, o, none⟩ qs.length cap (flat qs) rfl HL1.out N1.out HF1.out hq0 (by unfold maxLen; omega) (by omega) (by simp) _ rfl ?_; intro g1 d1 w1 ho1' hg1 ha1 hl1; rw [Nat.zero_add, List.nil_append] at ho1'; have ho1 := Lib.hid ho1'; clear ho1'; rw [Nat.zero_add])
    | (go_at_call 16; refine KSh.out.mono ?_; rintro e w3 ⟨rfl, b3⟩))
  go_ret
  exact ⟨rfl, b3⟩
end Go.Proofs.YtcbplamomhimiaaDoor
