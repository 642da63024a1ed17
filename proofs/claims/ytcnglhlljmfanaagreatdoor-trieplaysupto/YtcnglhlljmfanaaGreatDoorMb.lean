/- The document's own list of subscriptions in memory: Add, Remove; what is asked of the world: the two tables of unicode/utf8 as their text lays them. -/
import Derived.Test.YtcnglhlljmfanaaGreatDoorMa
import Derived.Maps.AppendAt
namespace Go.Proofs.YtcnglhlljmfanaaGreatDoor
open Go.RowKit Tp Go.Maps Go.Shelf

theorem infoSub : (Tryz.prog.info? 59).map (fun i => (i.zero, i.size, i.bytes)) = some (some (.agg #[.string ⟨#[]⟩, .int .i64 0]), 2, 24) := by kernel_rfl

theorem plc_mem {A : List (Bs × Int)} {f : Bs} {i : Int} : plc A f i = none ↔ (f, i) ∉ A := by
  unfold plc
  rw [List.findIdx?_eq_none_iff]
  constructor
  · intro h hm; simpa using h _ hm
  · intro h e he; simp only [decide_eq_false_iff_not]; exact fun e' => h (e' ▸ he)

theorem row_slice {W : World} {B : Nat} {e : TypeId} {z : Nat} {v : Value} {n : Nat} {xs : List Value} (h : W.ownsRow B e z v n xs) : ∃ a c, v = .slice a n c := by
  rcases h.2 with ⟨rfl, h0⟩ | ⟨g', c', cur, rfl, _⟩
  · exact ⟨_, _, by rw [h0]⟩
  · exact ⟨_, _, rfl⟩
theorem cell_two_new (w : World) (x y : Value) (t : TypeId) : ∀ j u, [x, y][j]? = some u → (w.alloc (.cells #[x, y] t)).cell? ((⟨w.heap.size, 0, none⟩ : Addr).add j) = some u := by
  intro j u hj
  match j, hj with
  | 0, hj => simp at hj; subst hj; simp [Addr.add]
  | 1, hj => simp at hj; subst hj; simp [Addr.add]

section
variable {w : World} {lb B : Nat} {v : Value} {A : List (Bs × Int)}

set_option maxRecDepth 100000 in
set_option maxHeartbeats 4000000 in
theorem ladd_any (h : ListAt w lb B v A) (hBw : B ≤ w.heap.size) (f : ByteArray) (hf : f.size ≤ 9223372036854775807) (hT : Tabs w) (i : Int) (hA : A.length < 4398046511104) :
    Calls Tryz.prog 9 #[.pointer (some ⟨lb, 0, none⟩), .string f, .int .i64 i] w fun e w' => e = .returned (.bool (isFilter (tl f) && !Sof A (lvs (tl f)) i)) ∧ ∃ v', ListAt w' lb B v' (addA A (tl f) i) ∧
      But (fun k => k = lb ∨ v.ownBlock = some k) w w' ∧ (∀ g, v'.ownBlock = some g → v.ownBlock = some g ∨ w.heap.size ≤ g) := by
  obtain ⟨i0, hi0, hz0, hz1, hz2⟩ := info_parts infoSub
  have hF := rfilter_any f w hf hT
  have KP : Hid (∀ W, Below w.heap.size w W → Calls Tryz.prog 27 #[.pointer (some ⟨lb, 0, none⟩), .string f, .int .i64 i] W fun e w' => e = .returned (.int .i64 (plcI (plc A (tl f) i))) ∧ Below W.heap.size W w') := fun W hW => place_any (h.below hW) f i (by omega)
  have hlt := h.lt
  have same : addA A (tl f) i = A → ∀ w', Below w.heap.size w w' → ∃ v', ListAt w' lb B v' (addA A (tl f) i) ∧ But (fun k => k = lb ∨ v.ownBlock = some k) w w' ∧ (∀ g, v'.ownBlock = some g → v.ownBlock = some g ∨ w.heap.size ≤ g) := fun e w' hb =>
    ⟨v, by rw [e]; exact h.below hb, But.of_below hb, fun g hg => .inl hg⟩
  cases h1 : isFilter (tl f) with
  | false =>
    rw [h1] at hF
    have hs := Lib.hid (same (if_neg (fun hc => by rw [h1] at hc; exact absurd hc.1 (by simp))))
    clear same
    go_enter Tryz.func9, Tryz.ntmps9
    go_wp2_with (first
      | (go_at_call 26; refine hF.mono ?_; rintro e w1 ⟨rfl, hb1⟩))
    go_ret
    exact ⟨rfl, hs.out _ hb1⟩
  | true =>
    rw [h1] at hF
    cases h2 : plc A (tl f) i with
    | some k =>
      have hm : (tl f, i) ∈ A := Classical.byContradiction fun hc => by rw [plc_mem.2 hc] at h2; cases h2
      have hs := Lib.hid (same (if_neg (fun hc => hc.2 hm)))
      have hS : Sof A (lvs (tl f)) i = true := Sof_lvs.2 hm
      rw [h2] at KP
      have hk : (0 : Int) ≤ ((k : Nat) : Int) := by omega
      simp only [plcI] at KP
      clear same
      go_enter Tryz.func9, Tryz.ntmps9
      go_wp2_with (first
        | (go_at_call 26; refine hF.mono ?_; rintro e w1 ⟨rfl, hb1⟩)
        | (go_at_call 27; refine (KP.out _ hb1).mono ?_; rintro e w2 ⟨rfl, hb2⟩))
      go_ret
      exact ⟨by rw [hS]; rfl, hs.out _ (hb1.trans (hb2.mono hb1.size))⟩
    | none =>
      have hm : (tl f, i) ∉ A := plc_mem.1 h2
      have hS : Sof A (lvs (tl f)) i = false := by
        cases h3 : Sof A (lvs (tl f)) i with
        | false => rfl
        | true => exact absurd (Sof_lvs.1 h3) hm
      have hadd : addA A (tl f) i = A ++ [(tl f, i)] := if_pos ⟨h1, hm⟩
      rw [h2] at KP
      simp only [plcI] at KP
      clear same
      have KL : Hid (∀ W, Below w.heap.size w W → W.cell? ⟨lb, 0, none⟩ = some v ∧ W.ownsRow B 59 2 v A.length (cellsL A)) := fun W hW => by
        have := h.below hW
        exact ⟨by rw [cell_at this.1 0]; rfl, this.2.1⟩
      have h1' : ∀ u ∈ [Value.string f, Value.int .i64 i], u.oneCell' = true := by simp [Value.oneCell']
      go_enter Tryz.func9, Tryz.ntmps9
      go_wp2_with (first
        | (go_at_call 26; refine hF.mono ?_; rintro e w1 ⟨rfl, hb1⟩)
        | (go_at_call 27; refine (KP.out _ hb1).mono ?_; rintro e w2 ⟨rfl, hb2⟩; have hb := hb1.trans (hb2.mono hb1.size); obtain ⟨k1, k2⟩ := KL.out _ hb)
        | (at_builtin; refine wpList_append_own_at _ rfl _ _ 26 rfl B 59 i0 (.agg #[.string ⟨#[]⟩, .int .i64 0]) 2 24 Tryz.underlying26 hi0 hz0 hz1 hz2 rfl (by decide) v A.length _ rfl ((KL.out _ (hb.alloc hb.size (.cells #[.string f, .int .i64 i] 59))).2) ⟨w2.heap.size, 0, none⟩ 1 1 [.string f, .int .i64 i] rfl rfl (cell_two_new _ _ _ _) h1' (by unfold maxLen; omega) (by omega) (by have := hb.size; simp; omega) ?_; intro v3 w3 ho3 hg3 hn3 ha3
           have hbl := (Below.heap_alloc w2 (.cells #[.string f, .int .i64 i] 59) lb (by have := hb.size; omega)).trans ((hb.block lb hlt.1).trans h.1)
           have hb3 := (hg3.block lb (by have := hb.size; simp; omega) (fun e => h.2.2.1 e.symm)).trans hbl
           have hc3 := cell_at hb3 0
           have hf3 := frozen_at hb3 0
           simp at hc3
           have hat := ha3
           obtain ⟨a3, d3, rfl⟩ := row_slice ho3))
      go_ret
      refine ⟨by rw [hS]; rfl, .slice a3 (A.length + 1) d3, ?_⟩
      have hz := hb.size
      have hb5 := block_set (i := 0) hb3 (.slice a3 (A.length + 1) d3)
      simp at hb5
      have hne : (Value.slice a3 (A.length + 1) d3).ownBlock ≠ some lb := fun e => by
        rcases hat with h5 | h5
        · rw [h5] at e; exact h.2.2.1 e
        · rw [h5] at e; have := Option.some.inj e; simp at this; omega
      have hB3 : But (fun k => v.ownBlock = some k) w w3 := ((But.of_below hb).trans (But.alloc (C := fun _ => False) w2 _) (fun _ _ h => h.elim)).trans (But.grown (C := fun k => v.ownBlock = some k) hg3 (fun k e _ => e)) (fun _ _ h => h)
      refine ⟨⟨hb5, ?_, hne, h.2.2.2⟩, (hB3.mono (fun k _ e => .inr e)).trans (But.set (C := fun k => k = lb) w3 ⟨lb, 0, none⟩ _ rfl) (fun k _ e => .inl e), fun g e => ?_⟩
      · have e : cellsL (addA A (tl f) i) = cellsL A ++ [.string f, .int .i64 i] := by rw [hadd]; simp [cellsL, bs_tl]
        rw [e, show (addA A (tl f) i).length = A.length + 1 by rw [hadd]; simp]
        obtain ⟨q1, q2⟩ := ho3
        refine ⟨q1, ?_⟩
        rcases q2 with q2 | ⟨g, c', cur, q2, q3, q4, q5⟩
        · exact .inl q2
        · refine .inr ⟨g, c', cur, q2, q3, ?_, q5⟩
          rw [RowKit.Below.heap_setCell _ _ _ _ (fun e => hne (by rw [q2]; show some g = some lb; rw [e]))]; exact q4
      · rcases hat with h5 | h5
        · exact .inl (h5 ▸ e)
        · rw [h5] at e; have := Option.some.inj e; simp at this; exact .inr (by omega)
end
end Go.Proofs.YtcnglhlljmfanaaGreatDoor
