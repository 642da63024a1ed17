/- The package's Parse, at every text; what is asked of the world: the table of words as its text lays it. -/
import Derived.Test.YtanjkljcoccblaaDoorCs
import Derived.Shelf.RegionOpen
namespace Go.Proofs.YtanjkljcoccblaaDoor
open Go.RowKit Go.Maps
attribute [local go_sem] Oper.semAt_some

theorem num_cases (s : Bs) : num s = -1 ∨ ∃ k : Nat, k < 11 ∧ num s = (k : Int) := by
  have : ∀ (l : List Bs) (j : Nat), j + l.length = 11 → numF l j s = -1 ∨ ∃ k : Nat, k < 11 ∧ numF l j s = (k : Int) := by
    intro l
    induction l with
    | nil => intro j _; exact .inl rfl
    | cons x r ih =>
      intro j hj
      unfold numF
      by_cases h : x = s
      · rw [if_pos h]; exact .inr ⟨j, by simp at hj; omega, rfl⟩
      · rw [if_neg h]; exact ih (j + 1) (by simp at hj ⊢; omega)
  exact this wds 0 rfl
/-- The set of some words. -/
def colS (c : Nat) (x : Bs) : Nat := if 0 ≤ num x then c ||| 2 ^ (num x).toNat else c
def col (l : List Bs) : Nat := l.foldl colS 0
theorem col_snoc (l : List Bs) (x : Bs) : col (l ++ [x]) = colS (col l) x := by unfold col; rw [List.foldl_append]; rfl
theorem colS_lt (c : Nat) (x : Bs) (h : c < 2048) : colS c x < 2048 := by
  unfold colS
  rcases num_cases x with e | ⟨k, hk, e⟩
  · rw [e]; exact h
  · rw [e, if_pos (by omega)]
    exact Nat.or_lt_two_pow (n := 11) h (by rw [Int.toNat_natCast]; exact Nat.pow_lt_pow_right (by decide) hk)
theorem col_lt (l : List Bs) : col l < 2048 := by
  have : ∀ (l : List Bs) (c : Nat), c < 2048 → l.foldl colS c < 2048 := by
    intro l
    induction l with
    | nil => intro c h; exact h
    | cons x r ih => intro c h; exact ih _ (colS_lt c x h)
  exact this l 0 (by decide)
/-- What Parse answers. -/
def prs (s : Bs) : Nat × Bool := if txt (col (spl s)) = s then (col (spl s), true) else (0, false)

/-- Parse's own cell, and the world below. -/
def PI (w : World) (pre : List ByteArray) (W : World) : Prop := W.heap[w.heap.size]? = some (.cells #[.int .u32 (col (pre.map tl) : Nat)] 23 (0, 0)) ∧ Below w.heap.size w W ∧ w.heap.size + 4 ≤ W.heap.size

theorem PI.put {w : World} {pre : List ByteArray} {A : World} (h : PI w pre A) (k : Nat) (o : Obj) (hk : w.heap.size < k) : PI w pre (A.putObj k o) :=
  ⟨(World.putObj_heap_other (by omega)).trans h.1, ⟨h.2.1.os, h.2.1.tape, h.2.1.output, by rw [World.putObj_size]; exact h.2.1.size, fun j hj => (World.putObj_heap_other (by omega)).trans (h.2.1.block j hj)⟩, by rw [World.putObj_size]; exact h.2.2⟩
theorem PI.set {w : World} {pre : List ByteArray} {A : World} (h : PI w pre A) (k : Nat) (v : Value) (hk : w.heap.size < k) : PI w pre (A.setCell ⟨k, 0, none⟩ v) :=
  ⟨(Below.heap_setCell _ _ _ _ (by show w.heap.size ≠ k; omega)).trans h.1, h.2.1.setCell (p := ⟨k, 0, none⟩) (by show w.heap.size ≤ k; omega) _, by have := h.2.2; simpa using this⟩
theorem PI.alloc {w : World} {pre : List ByteArray} {A : World} (h : PI w pre A) (o : Obj) : PI w pre (A.alloc o) := by
  have h2 := h.2.2
  exact ⟨(Below.heap_alloc _ _ _ (by omega)).trans h.1, h.2.1.alloc (by omega) _, by rw [World.size_alloc]; omega⟩

set_option maxRecDepth 100000 in
set_option maxHeartbeats 4000000 in
theorem parse_in (s : ByteArray) (hs : s.size ≤ 9223372036854775807) (w : World) (hN : Wds w) :
    CallsIn Fence.wide 6 Tryd.prog 8 #[.string s] w fun e w' => e = .returned (.tuple #[.int .u32 (prs (tl s)).1, .bool (prs (tl s)).2]) ∧ Below w.heap.size w w' := by
  have hN0 := hN.1
  refine callsIn_of_wp_marks Tryd.func8 rfl trivial ?_ rfl
  simp only [Tryd.ntmps8, List.size_toArray, List.length_cons, List.length_nil, Nat.reduceAdd, Nat.reduceSub, Array.replicate_succ, Array.replicate_zero, List.push_toArray, List.append_toArray, List.nil_append, List.cons_append]
  have KS := Lib.hid (SplitSeq_any s (w.alloc (.cells #[.int .u32 0] 23)))
  gi_wp2_with (first
    | (refine ⟨trivial, ?_⟩; gi_at_call 27; refine (callsIn_wide.2 KS.out).mono ?_; rintro e w2 ⟨rfl, h2, h3, h4⟩))
  simp only [World.size_alloc] at h2 h3 h4
  have hc2 : w2.heap[w.heap.size]? = some (.cells #[.int .u32 0] 23 (0, 0)) := (h3.block _ (by omega)).trans (heap_alloc_new w _)
  have hB2 : Below w.heap.size w w2 := (below1 w _).trans (h3.mono (by omega))
  have KN : Hid (∀ W (x : ByteArray), Below w.heap.size w W → Calls Tryd.prog 15 #[.string x] W fun e w' => e = .returned (.int .i64 (num (tl x))) ∧ w' = W) := fun W x hW => num_any x W (hN.below hW)
  have KT : Hid (∀ W (c : Nat), c < 2048 → Below w.heap.size w W → Calls Tryd.prog 10 #[.int .u32 (c : Nat)] W fun e w' => e = .returned (.string (bs (txt c))) ∧ Below W.heap.size W w') := fun W c hc hW => text_any c (by omega) W (hN.below hW)
  refine range_gives (α := ByteArray) (gf := 43) (lb := #[.pointer (some ⟨w.heap.size + 1 + 1, 0, none⟩), .pointer (some ⟨w.heap.size + 1, 0, none⟩), .pointer (some ⟨w.heap.size + 1 + 1 + 1, 0, none⟩)]) rfl (enters_of Tryd.func43 (by kernel_rfl) rfl) (enc := fun x => #[.string x]) (fun _ => rfl) (b := w.heap.size + 1) (by omega) (K := Kb (w.heap.size + 1)) (fun k hk => by rcases hk with rfl | rfl | rfl <;> omega)
    (seq_gives (6 - 1) (w.heap.size + 1) (by decide) s hs w2 h2) (PI w) (fun pre A q h => ⟨by rw [drewN_heap]; exact h.1, below_drewN h.2.1 q, by rw [drewN_heap]; exact h.2.2⟩) (fun pre A v h => h.set _ v (by omega)) (fun pre A k o hk h => h.put k o (by omega)) (fun pre A o _ h => h.alloc o) ⟨hc2, hB2, by omega⟩
    (fun x => { tmps := #[.string s, undef, .int .u32 0, .bool false, .pointer (some ⟨w.heap.size, 0, none⟩), .string x, undef, .string s, .func (.func 43) #[] #[.pointer (some ⟨w.heap.size + 1 + 1, 0, none⟩), .pointer (some ⟨w.heap.size + 1, 0, none⟩), .pointer (some ⟨w.heap.size + 1 + 1 + 1, 0, none⟩)], .string x, undef, undef, undef, undef, undef, undef, undef, undef, undef, undef, undef, undef, undef], defers := [] }) ?assign ?body ?done
  case assign =>
    intro l x W K hK
    gi_wp2
    exact hK
  case body =>
    rintro l pre x W hx hI
    obtain ⟨c0, hB, hsz⟩ := id hI
    have hcl := col_lt (pre.map tl)
    generalize hC : col (pre.map tl) = C at c0 hcl
    have x0 : W.cell? ⟨w.heap.size, 0, none⟩ = some (.int .u32 (C : Nat)) := by rw [cell_at c0 0]; rfl
    have x1 := frozen_at c0 0
    have KNx := Lib.hid (KN.out W x hB)
    have hcs := col_snoc (pre.map tl) (tl x)
    rw [hC] at hcs
    have hpm : (pre ++ [x]).map tl = pre.map tl ++ [tl x] := by simp
    rcases num_cases (tl x) with e | ⟨k, hk, e⟩
    · rw [e] at KNx
      have e2 : col ((pre ++ [x]).map tl) = C := by rw [hpm, hcs]; unfold colS; rw [e]; rfl
      have HI : Hid (PI w (pre ++ [x]) W) := ⟨by rw [e2]; exact c0, hB, hsz⟩
      clear c0 hI hcs hpm
      gi_wp2_with (first
        | (refine ⟨trivial, ?_⟩; gi_at_call 15; refine (CallsIn.inRound l (callsIn_wide.2 KNx.out)).mono ?_; rintro e w4 ⟨rfl, rfl⟩))
      exact ⟨rfl, HI.out, fun _ _ => rfl, KeepsFrom.refl _ _⟩
    · rw [e] at KNx
      have e2 : col ((pre ++ [x]).map tl) = C ||| 2 ^ k := by rw [hpm, hcs]; unfold colS; rw [e, if_pos (by omega), Int.toNat_natCast]
      have b1 := bit_at k hk
      have b2 := (u32_bits C (2 ^ k) (by omega) (pow_lt k hk)).2.1
      have k0 : (0 : Int) ≤ (k : Nat) := by omega
      have k0' : ¬ ((k : Nat) : Int) < 0 := by omega
      have b3 : bits .or .u32 (C : Int) (IntKind.u32.wrap (2 ^ k)) = ((C ||| 2 ^ k : Nat) : Int) := by rw [show IntKind.u32.wrap ((2 : Int) ^ k) = (2 : Int) ^ k % 4294967296 from rfl, b1, b2]
      have B3 := Lib.hid b3
      have FIN : Hid (∀ a, GP (PI w (pre ++ [x])) (Kb (w.heap.size + 1)) w2.heap.size W .normal a ((W.setCell ⟨w.heap.size, 0, none⟩ (.int .u32 ((C ||| 2 ^ k : Nat) : Int))).drew)) := fun a => by
        refine ⟨rfl, ⟨?_, (hB.setCell (p := ⟨w.heap.size, 0, none⟩) (Nat.le_refl _) _).drew, ?_⟩, fun j hj => ?_, ((KeepsOthers.setCell _ _ _).trans (KeepsOthers.drew _)).from _⟩
        · rw [e2]
          show (W.setCell _ _).heap[w.heap.size]? = _
          rw [block_set (i := 0) c0 (.int .u32 ((C ||| 2 ^ k : Nat) : Int))]; rfl
        · show w.heap.size + 4 ≤ (W.setCell _ _).heap.size
          simpa using hsz
        · show (W.setCell _ _).heap[j]? = _
          exact Below.heap_setCell _ _ _ _ (by show j ≠ w.heap.size; rcases hj with rfl | rfl | rfl <;> omega)
      clear hI hcs hpm e2 c0 b1 b2 b3
      gi_wp2_with (first
        | (refine ⟨trivial, ?_⟩; gi_at_call 15; refine (CallsIn.inRound l (callsIn_wide.2 KNx.out)).mono ?_; rintro e w4 ⟨rfl, rfl⟩))
      have hmix : Tryd.prog.follows .mixedOrders = true := by kernel_rfl
      gi_region_with_o (fail)
      all_goals (rw [B3.out]; exact FIN.out { tmps := #[], defers := [] })
  case done =>
    rintro W ⟨c0, hB, hsz⟩ hD
    have e0 : ((spl (tl s)).map bs).map tl = spl (tl s) := by
      rw [List.map_map, show (tl ∘ bs) = id by funext x; exact tl_bs x, List.map_id]
    rw [e0] at c0
    have hcl := col_lt (spl (tl s))
    have HP : Hid (prs (tl s) = if txt (col (spl (tl s))) = tl s then (col (spl (tl s)), true) else (0, false)) := rfl
    generalize col (spl (tl s)) = C at c0 hcl HP
    have x0 : W.cell? ⟨w.heap.size, 0, none⟩ = some (.int .u32 (C : Nat)) := by rw [cell_at c0 0]; rfl
    rw [h4] at hD
    have hD2 : w.heap.size + 1 + 3 < W.heap.size := (Array.getElem?_eq_some_iff.1 hD).1
    have KTx := Lib.hid (KT.out W C hcl hB)
    have XC : Hid (∀ W', Below W.heap.size W W' → W'.cell? ⟨w.heap.size, 0, none⟩ = some (.int .u32 (C : Nat))) := fun W' h => by rw [cell_at ((h.block _ (by omega)).trans c0) 0]; rfl
    have FB : Hid (∀ W', Below W.heap.size W W' → Below w.heap.size w (W'.putObj (w.heap.size + 1 + 3) (.deferred none))) := fun W' h => by
      have h9 := hB.trans (h.mono hB.size)
      exact ⟨h9.os, h9.tape, h9.output, by rw [World.putObj_size]; exact h9.size, fun j hj => (World.putObj_heap_other (by omega)).trans (h9.block j hj)⟩
    by_cases hq : txt C = tl s
    · have b1 : ((bs (txt C)).toList == s.toList) = true := by
        rw [beqq, decide_eq_true hq]
      have HQ := Lib.hid hq
      clear hq c0
      gi_wp2_with (first
        | (refine ⟨trivial, ?_⟩; gi_at_call 10; refine (callsIn_wide.2 KTx.out).mono ?_; rintro e w4 ⟨rfl, h5⟩; have x1 := XC.out _ h5))
      have hD4 := (h5.block _ hD2).trans hD
      refine ⟨by simp, .inl ⟨_, _, rfl, run_takeDeferred hD4, ?_⟩⟩
      refine ⟨.tuple #[.int .u32 (C : Nat), .bool true], by simp [results, Tryd.f8, go_sem], ?_, ?_⟩
      · rw [HP.out, if_pos HQ.out]
      · exact (FB.out _ h5)
    · have b1 : ((bs (txt C)).toList == s.toList) = false := by
        rw [beqq, decide_eq_false hq]
      have HQ := Lib.hid hq
      clear hq c0
      gi_wp2_with (first
        | (refine ⟨trivial, ?_⟩; gi_at_call 10; refine (callsIn_wide.2 KTx.out).mono ?_; rintro e w4 ⟨rfl, h5⟩; have x1 := XC.out _ h5))
      have hD4 := (h5.block _ hD2).trans hD
      refine ⟨by simp, .inl ⟨_, _, rfl, run_takeDeferred hD4, ?_⟩⟩
      refine ⟨.tuple #[.int .u32 0, .bool false], by simp [results, Tryd.f8, go_sem], ?_, ?_⟩
      · rw [HP.out, if_neg HQ.out]; rfl
      · exact (FB.out _ h5)
theorem parse_any (s : ByteArray) (hs : s.size ≤ 9223372036854775807) (w : World) (hN : Wds w) :
    Calls Tryd.prog 8 #[.string s] w fun e w' => e = .returned (.tuple #[.int .u32 (prs (tl s)).1, .bool (prs (tl s)).2]) ∧ Below w.heap.size w w' := (callsIn_wide (n := 6)).1 (parse_in s hs w hN)
end Go.Proofs.YtanjkljcoccblaaDoor
