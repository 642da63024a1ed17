/- The document's own list of subscriptions in memory: Remove; no condition but those that each theorem names. -/
import Derived.Test.YtcnglhlljmfanaaGreatDoorMb
namespace Go.Proofs.YtcnglhlljmfanaaGreatDoor
open Go.RowKit Tp Go.Maps Go.Shelf

theorem plc_erase {f : Bs} {i : Int} : ∀ {A : List (Bs × Int)} {k : Nat}, plc A f i = some k → k < A.length ∧ remA A f i = A.take k ++ A.drop (k + 1)
  | [], k, h => by cases h
  | e :: A, k, h => by
    unfold plc at h
    rw [List.findIdx?_cons] at h
    by_cases he : e = (f, i)
    · simp only [he, decide_true, if_true, Option.some.injEq] at h
      subst h
      unfold remA
      rw [he, List.erase_cons_head]; simp
    · simp only [he, decide_false, Bool.false_eq_true, if_false, Option.map_eq_some_iff] at h
      obtain ⟨k', h1, rfl⟩ := h
      obtain ⟨h2, h3⟩ := plc_erase (A := A) (k := k') h1
      unfold remA at h3 ⊢
      rw [List.erase_cons_tail (by simpa using he), h3]
      exact ⟨by simp; omega, by simp⟩

theorem addr_add (g o j : Nat) : ((⟨g, o, none⟩ : Addr).add j) = ⟨g, o + j, none⟩ := by
  cases j <;> simp [Addr.add]
theorem cellsL_take (A : List (Bs × Int)) (k : Nat) : cellsL (A.take k) = (cellsL A).take (k * 2) := by
  induction A generalizing k with
  | nil => simp [cellsL]
  | cons e A ih =>
    cases k with
    | zero => simp [cellsL]
    | succ k =>
      rw [List.take_succ_cons]
      show [Value.string (bs e.1), .int .i64 e.2] ++ cellsL (A.take k) = ([Value.string (bs e.1), .int .i64 e.2] ++ cellsL A).take ((k + 1) * 2)
      rw [ih k, show (k + 1) * 2 = k * 2 + 2 by omega]; rfl
theorem cellsL_drop (A : List (Bs × Int)) (k : Nat) : cellsL (A.drop k) = (cellsL A).drop (k * 2) := by
  induction A generalizing k with
  | nil => simp [cellsL]
  | cons e A ih =>
    cases k with
    | zero => simp
    | succ k =>
      rw [List.drop_succ_cons, ih k]
      show _ = ([Value.string (bs e.1), .int .i64 e.2] ++ cellsL A).drop ((k + 1) * 2)
      rw [show (k + 1) * 2 = k * 2 + 2 by omega]; rfl
theorem cellsL_one (A : List (Bs × Int)) : ∀ u ∈ cellsL A, u.oneCell' = true := by
  intro u hu
  obtain ⟨e, _, he⟩ := List.mem_flatMap.1 hu
  simp at he
  rcases he with rfl | rfl <;> simp [Value.oneCell']
theorem cellsL_append (A A' : List (Bs × Int)) : cellsL (A ++ A') = cellsL A ++ cellsL A' := by simp [cellsL]

section
variable {w : World} {lb B : Nat} {v : Value} {A : List (Bs × Int)}

set_option maxRecDepth 100000 in
set_option maxHeartbeats 4000000 in
theorem lrem_any (h : ListAt w lb B v A) (hBw : B ≤ w.heap.size) (f : ByteArray) (i : Int) (hA : A.length ≤ 4398046511104) :
    Calls Tryz.prog 11 #[.pointer (some ⟨lb, 0, none⟩), .string f, .int .i64 i] w fun e w' => e = .returned (.bool (Sof A (lvs (tl f)) i)) ∧ ∃ v', ListAt w' lb B v' (remA A (tl f) i) ∧
      But (fun k => k = lb ∨ v.ownBlock = some k) w w' ∧ (∀ g, v'.ownBlock = some g → v.ownBlock = some g ∨ w.heap.size ≤ g) := by
  obtain ⟨i0, hi0, hz0, hz1, hz2⟩ := info_parts infoSub
  have hP := place_any h f i hA
  have hlt := h.lt
  cases h2 : plc A (tl f) i with
  | none =>
    have hm : (tl f, i) ∉ A := plc_mem.1 h2
    have hS : Sof A (lvs (tl f)) i = false := by
      cases h3 : Sof A (lvs (tl f)) i with
      | false => rfl
      | true => exact absurd (Sof_lvs.1 h3) hm
    have e : remA A (tl f) i = A := List.erase_of_not_mem hm
    rw [h2] at hP
    simp only [plcI] at hP
    go_enter Tryz.func11, Tryz.ntmps11
    go_wp2_with (first
      | (go_at_call 27; refine hP.mono ?_; rintro e w2 ⟨rfl, hb2⟩))
    go_ret
    exact ⟨by rw [hS]; rfl, v, by rw [e]; exact h.below hb2, But.of_below hb2, fun g hg => .inl hg⟩
  | some k =>
    obtain ⟨hk, her⟩ := plc_erase h2
    have hS : Sof A (lvs (tl f)) i = true := Sof_lvs.2 (Classical.byContradiction fun hc => by rw [plc_mem.2 hc] at h2; cases h2)
    rw [h2] at hP
    simp only [plcI] at hP
    obtain ⟨g, cp, cur, rfl, hBg, hg, hlc, hcm, hcs, htk⟩ := h.2.1.2.resolve_left (fun h0 => by omega)
    have HL := Lib.hid h
    have k0 : (0 : Int) ≤ ((k : Nat) : Int) := by omega
    have k0' : ¬ ((k : Nat) : Int) < 0 := by omega
    have k1 : ((k : Nat) : Int) ≤ (cp : Int) := by omega
    have k2 : k ≤ cp := by omega
    have k3 : IntKind.i64.wrap (((k : Nat) : Int) + 1) = (k : Int) + 1 := by rw [IntWalk.i64_left]; exact IntWalk.wrap64_in _ (by omega)
    have k4 : ((k : Nat) : Int) + 1 ≤ (A.length : Int) := by omega
    have k5 : (A.length : Int) ≤ (cp : Int) := by omega
    have k6 : (0 : Int) ≤ ((k : Nat) : Int) + 1 := by omega
    have KL : Hid (∀ W, Below w.heap.size w W → W.cell? ⟨lb, 0, none⟩ = some (.slice (some ⟨g, 0, none⟩) A.length cp) ∧ ∀ j u, (cellsL A)[j]? = some u → W.cell? ⟨g, j, none⟩ = some u) := fun W hW => by
      have := h.below hW
      refine ⟨by rw [cell_at this.1 0]; rfl, fun j u hj => ?_⟩
      rw [cell_at ((hW.block g (hlt.2 g rfl).2).trans hg) j]
      have hjl := (List.getElem?_eq_some_iff.1 hj).1
      rw [← htk, List.getElem?_take_of_lt (by rw [cellsL_len] at hjl; omega)] at hj
      simpa using hj
    clear h
    have n1 : ∀ W, Below w.heap.size w W → ∀ j u, (cellsL (A.take k))[j]? = some u → W.cell? ((⟨g, 0, none⟩ : Addr).add j) = some u := fun W hW j u hj => by
      have := (KL.out W hW).2 j u (by rw [cellsL_take] at hj; have hl := (List.getElem?_eq_some_iff.1 hj).1; rw [List.length_take] at hl; rw [List.getElem?_take_of_lt (by omega)] at hj; exact hj)
      rw [addr_add, Nat.zero_add]; exact this
    have N1 := Lib.hid n1
    have hlen1 : (cellsL (A.take k)).length = k * 2 := by rw [cellsL_len, List.length_take]; omega
    clear n1
    have hlen2 : (cellsL (A.drop (k + 1))).length = (A.length - (k + 1)) * 2 := by rw [cellsL_len, List.length_drop]
    have FN : Hid (∀ (w2 w3 w4 : World) (v1 v4 : Value), Below w.heap.size w w3 → w3.ownsRow w.heap.size 59 2 v1 (0 + k) ([] ++ cellsL (A.take k)) → (v1.ownBlock = (Value.slice none 0 0).ownBlock ∨ v1.ownBlock = some w2.heap.size) → w4.ownsRow w.heap.size 59 2 v4 (0 + k + (A.length - (k + 1))) ([] ++ cellsL (A.take k) ++ cellsL (A.drop (k + 1))) → w3.grownBy w4 v1.ownBlock → (v4.ownBlock = v1.ownBlock ∨ v4.ownBlock = some w3.heap.size) →
        w4.cell? ⟨lb, 0, none⟩ = some (.slice (some ⟨g, 0, none⟩) A.length cp) ∧ w4.frozen? ⟨lb, 0, none⟩ = false ∧ ∃ v', ListAt (w4.setCell ⟨lb, 0, none⟩ v4) lb B v' (remA A (tl f) i) ∧ But (fun k => k = lb ∨ (Value.slice (some ⟨g, 0, none⟩) A.length cp).ownBlock = some k) w (w4.setCell ⟨lb, 0, none⟩ v4) ∧ (∀ g', v'.ownBlock = some g' → (Value.slice (some ⟨g, 0, none⟩) A.length cp).ownBlock = some g' ∨ w.heap.size ≤ g')) := fun w2 w3 w4 v1 v4 hb3 ho1 ha1 ho4 hg4 ha4 => by
      have hl := HL.out
      have hz := hb3.size
      have hv1 : ∀ g', v1.ownBlock = some g' → w.heap.size ≤ g' := fun g' e => by
        obtain ⟨_, ⟨rfl, _⟩ | ⟨g2, c2, cur2, rfl, h3, _⟩⟩ := ho1
        · cases e
        · cases e; exact h3
      have hv4 : ∀ g', v4.ownBlock = some g' → w.heap.size ≤ g' := fun g' e => by
        obtain ⟨_, ⟨rfl, _⟩ | ⟨g2, c2, cur2, rfl, h3, _⟩⟩ := ho4
        · cases e
        · cases e; exact h3
      have hB4 : But (fun k => v1.ownBlock = some k) w w4 := (But.of_below hb3).trans (But.grown (C := fun k => v1.ownBlock = some k) hg4 (fun k e _ => e)) (fun _ _ h => h)
      have hb4 := hB4.at hl.1 (fun e => by have := hv1 lb e; omega)
      refine ⟨by rw [cell_at hb4 0]; rfl, frozen_at hb4 0, v4, ⟨?_, ?_, fun e => by have := hv4 lb e; omega, hl.2.2.2⟩, ?_, fun g' e => .inr (hv4 g' e)⟩
      · have := block_set (i := 0) hb4 v4; simpa using this
      · have e : cellsL (remA A (tl f) i) = [] ++ cellsL (A.take k) ++ cellsL (A.drop (k + 1)) := by rw [her, cellsL_append]; simp
        have e2 : (remA A (tl f) i).length = 0 + k + (A.length - (k + 1)) := by rw [her]; simp; omega
        rw [e, e2]
        obtain ⟨p1, p2⟩ := ho4
        refine ⟨p1, ?_⟩
        rcases p2 with p2 | ⟨g2, c2, cur2, rfl, p3, p4, p5⟩
        · exact .inl p2
        · refine .inr ⟨g2, c2, cur2, rfl, by omega, ?_, p5⟩
          rw [RowKit.Below.heap_setCell _ _ _ _ (fun e => by have : g2 = lb := e; omega)]; exact p4
      · exact (hB4.mono (fun k hk e => by have := hv1 k e; omega)).trans (But.set (C := fun k => k = lb) w4 ⟨lb, 0, none⟩ _ rfl) (fun k _ e => .inl e)
    have HS := Lib.hid hS
    clear her hS h2
    by_cases hcp : cp = k + 1
    · have hN : A.length - (k + 1) = 0 := by omega
      have N2 : Hid (∀ W, Below w.heap.size w W → ∀ j u, (cellsL (A.drop (k + 1)))[j]? = some u → W.cell? ((⟨g, 0, none⟩ : Addr).add j) = some u) := fun W hW j u hj => by
        have := (List.getElem?_eq_some_iff.1 hj).1; rw [hlen2, hN] at this; omega
      subst hcp
      have hd0 : cellsL (A.drop (k + 1)) = [] := List.eq_nil_of_length_eq_zero (by rw [hlen2, hN])
      rw [hd0, hN] at FN
      clear hN N2
      go_enter Tryz.func11, Tryz.ntmps11
      go_wp2_with (first
        | (go_at_call 27; refine hP.mono ?_; rintro e w2 ⟨rfl, hb2⟩; obtain ⟨q1, q2⟩ := KL.out _ hb2)
        | (at_builtin; refine wpList_append_own_at _ rfl _ _ 26 rfl w.heap.size 59 i0 (.agg #[.string ⟨#[]⟩, .int .i64 0]) 2 24 Tryz.underlying26 hi0 hz0 hz1 hz2 rfl (by decide) (.slice none 0 0) 0 [] rfl (World.ownsRow_nil _ _ _ _) ⟨g, 0, none⟩ k _ (cellsL (A.take k)) rfl hlen1 (N1.out _ hb2) (cellsL_one _) (by unfold maxLen; omega) (by omega) hb2.size ?_; intro v1 w3 ho1 hg1 hn1 ha1
           have hb3 : Below w.heap.size w w3 := hb2.trans ⟨hg1.os, hg1.tape, hg1.output, hg1.size, fun k hk => hg1.block k (by have := hb2.size; omega) (by simp [Value.ownBlock])⟩
           obtain ⟨q3, q4⟩ := KL.out _ hb3
           have O1 := Lib.hid ho1
           have A1 := Lib.hid ha1
           clear ho1 ha1 hn1 hg1 q1 q2)
        | (at_builtin; refine wpList_append_own_at _ rfl _ _ 26 rfl w.heap.size 59 i0 (.agg #[.string ⟨#[]⟩, .int .i64 0]) 2 24 Tryz.underlying26 hi0 hz0 hz1 hz2 rfl (by decide) v1 (0 + k) _ rfl O1.out ⟨g, 0, none⟩ 0 0 [] rfl rfl (by simp) (by simp) (by unfold maxLen; omega) (by omega) hb3.size ?_; intro v4 w4 ho4 hg4 hn4 ha4
           obtain ⟨f4, f5, f6⟩ := FN.out _ _ _ _ _ hb3 O1.out A1.out ho4 hg4 ha4
           obtain ⟨a4, d4, rfl⟩ := row_slice ho4))
      go_ret
      simp only [Nat.zero_add, Nat.add_zero] at f6
      exact ⟨by rw [HS.out]; rfl, f6⟩
    · have N2 : Hid (∀ W, Below w.heap.size w W → ∀ j u, (cellsL (A.drop (k + 1)))[j]? = some u → W.cell? ((⟨g, (k + 1) * 2, none⟩ : Addr).add j) = some u) := fun W hW j u hj => by
        rw [cellsL_drop, List.getElem?_drop] at hj
        have := (KL.out W hW).2 _ u hj
        rw [addr_add]; exact this
      have hcp' : ¬ k + 1 = cp := fun e => hcp e.symm
      go_enter Tryz.func11, Tryz.ntmps11
      go_wp2_with (first
        | (go_at_call 27; refine hP.mono ?_; rintro e w2 ⟨rfl, hb2⟩; obtain ⟨q1, q2⟩ := KL.out _ hb2)
        | (at_builtin; refine wpList_append_own_at _ rfl _ _ 26 rfl w.heap.size 59 i0 (.agg #[.string ⟨#[]⟩, .int .i64 0]) 2 24 Tryz.underlying26 hi0 hz0 hz1 hz2 rfl (by decide) (.slice none 0 0) 0 [] rfl (World.ownsRow_nil _ _ _ _) ⟨g, 0, none⟩ k _ (cellsL (A.take k)) rfl hlen1 (N1.out _ hb2) (cellsL_one _) (by unfold maxLen; omega) (by omega) hb2.size ?_; intro v1 w3 ho1 hg1 hn1 ha1
           have hb3 : Below w.heap.size w w3 := hb2.trans ⟨hg1.os, hg1.tape, hg1.output, hg1.size, fun k hk => hg1.block k (by have := hb2.size; omega) (by simp [Value.ownBlock])⟩
           obtain ⟨q3, q4⟩ := KL.out _ hb3
           have O1 := Lib.hid ho1
           have A1 := Lib.hid ha1
           clear ho1 ha1 hn1 hg1 q1 q2)
        | (at_builtin; refine wpList_append_own_at _ rfl _ _ 26 rfl w.heap.size 59 i0 (.agg #[.string ⟨#[]⟩, .int .i64 0]) 2 24 Tryz.underlying26 hi0 hz0 hz1 hz2 rfl (by decide) v1 (0 + k) _ rfl O1.out ⟨g, (k + 1) * 2, none⟩ (A.length - (k + 1)) (cp - (k + 1)) (cellsL (A.drop (k + 1))) rfl hlen2 (N2.out _ hb3) (cellsL_one _) (by unfold maxLen; omega) (by omega) hb3.size ?_; intro v4 w4 ho4 hg4 hn4 ha4
           obtain ⟨f4, f5, f6⟩ := FN.out _ _ _ _ _ hb3 O1.out A1.out ho4 hg4 ha4
           obtain ⟨a4, d4, rfl⟩ := row_slice ho4))
      go_ret
      simp only [Nat.zero_add] at f6
      exact ⟨by rw [HS.out]; rfl, f6⟩
end
end Go.Proofs.YtcnglhlljmfanaaGreatDoor
