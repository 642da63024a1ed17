/- The law CapsEmbeds at every two sets; what is asked of the world: the table of words as its text lays it. -/
import Derived.Test.YtanjkljcoccblaaDoorLawG
import Derived.Laws.MakeOwn
namespace Go.Proofs.YtanjkljcoccblaaDoor
open Go.RowKit Go.Maps

theorem sub_iff (c x : Nat) : c &&& x = x ↔ subS x c := by
  constructor
  · intro h i hi
    rw [← h, Nat.testBit_and, Bool.and_eq_true] at hi; exact hi.1
  · intro h
    refine Nat.eq_of_testBit_eq fun i => ?_
    rw [Nat.testBit_and]
    cases hx : x.testBit i with
    | false => simp
    | true => rw [h i hx]; rfl
theorem sub_or (c a b : Nat) : c &&& (a ||| b) = a ||| b ↔ c &&& a = a ∧ c &&& b = b := by
  rw [sub_iff, sub_iff, sub_iff]
  constructor
  · intro h
    exact ⟨fun i hi => h i (by rw [Nat.testBit_or, hi]; rfl), fun i hi => h i (by rw [Nat.testBit_or, hi]; simp)⟩
  · rintro ⟨h1, h2⟩ i hi
    rw [Nat.testBit_or, Bool.or_eq_true] at hi
    exact hi.elim (h1 i) (h2 i)
theorem mem_grs (c k : Nat) : ∀ n, k ∈ grs c n ↔ k < n ∧ c &&& pts k = pts k
  | 0 => by simp [grs]
  | n + 1 => by
    have ih := mem_grs c k n
    unfold grs
    split
    · rename_i h
      rw [List.mem_append, List.mem_singleton, ih]
      constructor
      · rintro (⟨h1, h2⟩ | rfl)
        · exact ⟨by omega, h2⟩
        · exact ⟨by omega, h⟩
      · rintro ⟨h1, h2⟩
        rcases Nat.lt_or_ge k n with h3 | h3
        · exact .inl ⟨h3, h2⟩
        · exact .inr (by omega)
    · rename_i h
      rw [ih]
      constructor
      · rintro ⟨h1, h2⟩; exact ⟨by omega, h2⟩
      · rintro ⟨h1, h2⟩
        refine ⟨?_, h2⟩
        rcases Nat.lt_or_ge k n with h3 | h3
        · exact h3
        · obtain rfl : k = n := by omega
          exact absurd h2 h

/-- Five bools in a row. -/
def bls (f : Nat → Bool) : Array Value := #[.bool (f 0), .bool (f 1), .bool (f 2), .bool (f 3), .bool (f 4)]
def HB (W : World) (b : Nat) (f : Nat → Bool) : Prop := W.heap[b]? = some (.cells (bls f) 4 (0, 0))
theorem HB.c {W : World} {b : Nat} {f : Nat → Bool} (h : HB W b f) (i : Nat) (hi : i < 5) : W.cell? ⟨b, i, none⟩ = some (.bool (f i)) ∧ W.frozen? ⟨b, i, none⟩ = false := by
  refine ⟨?_, frozen_at h i⟩
  rw [cell_at h i]
  have : i = 0 ∨ i = 1 ∨ i = 2 ∨ i = 3 ∨ i = 4 := by omega
  rcases this with rfl | rfl | rfl | rfl | rfl <;> rfl
theorem HB.set {W : World} {b : Nat} {f : Nat → Bool} (h : HB W b f) (i : Nat) (hi : i < 5) (v : Bool) : HB (W.setCell ⟨b, i, none⟩ (.bool v)) b (fun k => if k = i then v else f k) := by
  unfold HB
  rw [block_set (i := i) h (.bool v)]
  have : i = 0 ∨ i = 1 ∨ i = 2 ∨ i = 3 ∨ i = 4 := by omega
  rcases this with rfl | rfl | rfl | rfl | rfl <;> rfl
theorem HB.congr {W : World} {b : Nat} {f g : Nat → Bool} (h : HB W b f) (he : ∀ i, i < 5 → f i = g i) : HB W b g := by
  unfold HB bls at h ⊢
  rw [← he 0 (by decide), ← he 1 (by decide), ← he 2 (by decide), ← he 3 (by decide), ← he 4 (by decide)]; exact h
theorem mk_any (u : World) : (Instr.makeSlice 38 (.int .i64 5) (.int .i64 5)).run Tryd.prog u = .ok (.slice (some ⟨u.heap.size, 0, none⟩) 5 5) (u.alloc (.cells (bls fun _ => false) 4)) := by
  obtain ⟨i, hi, h1, h2, h3⟩ := info_parts (show (Tryd.prog.info? 4).map (fun i => (i.zero, i.size, i.bytes)) = some (some (.bool false), 1, 1) by kernel_rfl)
  have := run_makeSlice (P := Tryd.prog) u 38 4 i (.bool false) Tryd.underlying38 hi h1 .i64 .i64 5 5 (by decide) (by decide) (by rw [h2]; decide) (by rw [h3]; decide) (by decide)
  rw [this, h2, show madeCells (Value.bool false).cells (Int.toNat 5 * 1) = bls fun _ => false by kernel_rfl]; rfl

/-- Nothing but block b has turned. -/
structure Frm (b : Nat) (A W : World) : Prop where
  os : W.os = A.os
  tape : W.tape = A.tape
  output : W.output = A.output
  size : A.heap.size ≤ W.heap.size
  block : ∀ k, k < A.heap.size → k ≠ b → W.heap[k]? = A.heap[k]?
theorem Frm.refl (b : Nat) (A : World) : Frm b A A := ⟨rfl, rfl, rfl, Nat.le_refl _, fun _ _ _ => rfl⟩
theorem Frm.trans {b : Nat} {A B C : World} (h : Frm b A B) (k : Frm b B C) : Frm b A C :=
  ⟨k.os.trans h.os, k.tape.trans h.tape, k.output.trans h.output, Nat.le_trans h.size k.size, fun j hj hb => (k.block j (Nat.lt_of_lt_of_le hj h.size) hb).trans (h.block j hj hb)⟩
theorem Frm.set {b : Nat} {A W : World} (h : Frm b A W) (i : Nat) (v : Value) : Frm b A (W.setCell ⟨b, i, none⟩ v) :=
  ⟨h.os, h.tape, h.output, by have := h.size; simpa using this, fun j hj hb => (Below.heap_setCell _ _ _ _ (by show j ≠ b; exact hb)).trans (h.block j hj hb)⟩
theorem Frm.of_below {b : Nat} {A W : World} (h : Below A.heap.size A W) : Frm b A W := ⟨h.os, h.tape, h.output, h.size, fun j hj _ => h.block j hj⟩
theorem Frm.below {w W : World} {o : Obj} (h : Frm w.heap.size (w.alloc o) W) : Below w.heap.size w W :=
  ⟨h.os, h.tape, h.output, Nat.le_trans (by simp) h.size, fun j hj => (h.block j (by simp; omega) (by omega)).trans (Below.heap_alloc w o j hj)⟩
theorem row_frm {W W' : World} {b B : Nat} {e : TypeId} {z : Nat} {v : Value} {n : Nat} {xs : List Value} (h : W.ownsRow B e z v n xs) (hB : Frm b W W') (hb : b < B) : W'.ownsRow B e z v n xs := by
  obtain ⟨h1, h2 | ⟨g, c, cur, h2, h3, h4, h5⟩⟩ := h
  · exact ⟨h1, .inl h2⟩
  · exact ⟨h1, .inr ⟨g, c, cur, h2, h3, (hB.block g (Array.getElem?_eq_some_iff.1 h4).1 (by omega)).trans h4, h5⟩⟩
theorem HB.below {W W' : World} {b : Nat} {f : Nat → Bool} (h : HB W b f) (hB : Below W.heap.size W W') : HB W' b f := (hB.block b (Array.getElem?_eq_some_iff.1 h).1).trans h

set_option maxRecDepth 100000 in
set_option maxHeartbeats 4000000 in
theorem law_embeds (c : Nat) (hc : c < 4294967296) (d : Nat) (hd : d < 4294967296) (w : World) (hN : Wds w) : Calls Tryd.prog 7 #[.int .u32 (c : Nat), .int .u32 (d : Nat)] w fun e w' => e = .returned (.bool true) ∧ Below w.heap.size w w' := by
  have K1 := Lib.hid (groups_any c hc)
  have hmk := mk_any
  go_enter Tryd.func7, Tryd.ntmps7
  go_wp2_with (first
    | (go_at_call 19; refine (K1.out _).mono ?_; rintro e w2 ⟨a2, c2, rfl, t2, h2⟩))
  have hb2 : HB w2 w.heap.size (fun _ => false) := HB.below (heap_alloc_new w _) h2
  have f2 : Frm w.heap.size (w.alloc (.cells (bls fun _ => false) 4)) w2 := Frm.of_below h2
  have hl := grs_len c 5
  have hm : ∀ k, k ∈ grs c 5 ↔ k < 5 ∧ c &&& pts k = pts k := fun k => mem_grs c k 5
  obtain ⟨L, hL⟩ : ∃ L, grs c 5 = L := ⟨_, rfl⟩
  rw [hL] at t2 hl hm ⊢
  have X2 : Hid (∀ W, Frm w.heap.size w2 W → ∀ j (hj : j < L.length), ∃ g, a2 = some ⟨g, 0, none⟩ ∧ W.cell? ⟨g, j, none⟩ = some (.int .i64 ((L[j] : Nat) : Int))) := fun W hW j hj => by
    obtain ⟨g, q1, q2, _, q3⟩ := ints_cell (row_frm t2 hW (by simp)) j hj
    exact ⟨g, q1, q3⟩
  have HM := Lib.hid hm
  clear t2 hL hm hmk
  go_loopg [16] L.length (fun gk s16 wx => ∃ j : Nat, j + gk = L.length ∧ s16 = .int .i64 j ∧ Frm w.heap.size w2 wx ∧ HB wx w.heap.size (fun k => decide (k ∈ L.take j)))
  case atStart => exact ⟨0, by omega, rfl, Frm.refl _ _, by simpa using hb2⟩
  case round =>
    obtain ⟨j, hjg, rfl, hF, hH⟩ := hrel
    cases gk with
    | zero =>
      obtain rfl : j = L.length := by omega
      rw [List.take_length] at hH
      clear X2
      have HH := Lib.hid hH
      clear hH
      go_wp2_with fail
      go_loopg [32] 5 (fun gk s32 wx => ∃ j : Nat, j + gk = 5 ∧ s32 = .int .i64 j ∧ Below wr.heap.size wr wx)
      case atStart => exact ⟨0, by omega, rfl, Below.refl _ _⟩
      case round =>
        obtain ⟨j, hjg2, rfl, hB⟩ := hrel
        cases gk with
        | zero =>
          obtain rfl : j = 5 := by omega
          have hH := HH.out.below hB
          have hF2 := hF.trans (Frm.of_below hB)
          have m3 : decide (3 ∈ L) = (decide (1 ∈ L) && decide (2 ∈ L)) := by
            rw [← Bool.decide_and]
            refine decide_eq_decide.2 ?_
            rw [HM.out, HM.out, HM.out]
            have := sub_or c (pts 1) (pts 2)
            have e : pts 1 ||| pts 2 = pts 3 := by decide
            rw [e] at this
            exact ⟨fun h => ⟨⟨by decide, (this.1 h.2).1⟩, ⟨by decide, (this.1 h.2).2⟩⟩, fun h => ⟨by decide, this.2 ⟨h.1.2, h.2.2⟩⟩⟩
          have m4 : decide (4 ∈ L) = (decide (0 ∈ L) && decide (3 ∈ L)) := by
            rw [← Bool.decide_and]
            refine decide_eq_decide.2 ?_
            rw [HM.out, HM.out, HM.out]
            have := sub_or c (pts 0) (pts 3)
            have e : pts 0 ||| pts 3 = pts 4 := by decide
            rw [show ((0 : Nat) : Int) = 0 from rfl, show ((3 : Nat) : Int) = 3 from rfl, show ((4 : Nat) : Int) = 4 from rfl]
            rw [e] at this
            exact ⟨fun h => ⟨⟨by decide, (this.1 h.2).1⟩, ⟨by decide, (this.1 h.2).2⟩⟩, fun h => ⟨by decide, this.2 ⟨h.1.2, h.2.2⟩⟩⟩
          obtain ⟨y0, -⟩ := hH.c 0 (by decide)
          obtain ⟨y1, -⟩ := hH.c 1 (by decide)
          obtain ⟨y2, -⟩ := hH.c 2 (by decide)
          obtain ⟨y3, -⟩ := hH.c 3 (by decide)
          obtain ⟨y4, -⟩ := hH.c 4 (by decide)
          have hcd : c ||| d < 4294967296 := Nat.or_lt_two_pow (n := 32) hc hd
          have e1 : bits .or .u32 (c : Int) (d : Int) = ((c ||| d : Nat) : Int) := (u32_bits c d hc hd).2.1
          have hsub : ∀ k, k ∈ L → k ∈ grs (c ||| d) 5 := fun k hk => by
            obtain ⟨q1, q2⟩ := (HM.out k).1 hk
            rw [mem_grs]
            refine ⟨q1, (sub_iff _ _).2 fun i hi => ?_⟩
            rw [Nat.testBit_or, (sub_iff _ _).1 q2 i hi]; rfl
          have hm5 : ∀ k, k ∈ grs (c ||| d) 5 → k < 5 := fun k hk => ((mem_grs _ k 5).1 hk).1
          have KG : Hid (∀ W, Below wr.heap.size wr W → Calls Tryd.prog 19 #[.int .u32 ((c ||| d : Nat) : Int)] W fun e w' => ∃ a cp, e = .returned (.slice a (grs (c ||| d) 5).length cp) ∧ Frm w.heap.size w2 w' ∧ HB w' w.heap.size (fun k => decide (k ∈ L)) ∧ (∀ W', Frm w.heap.size w' W' → ∀ j (hj : j < (grs (c ||| d) 5).length), ∃ g, a = some ⟨g, 0, none⟩ ∧ W'.cell? ⟨g, j, none⟩ = some (.int .i64 (((grs (c ||| d) 5)[j] : Nat) : Int)))) :=
            fun W0 h0 => (groups_any (c ||| d) hcd W0).mono fun e w' ⟨a, cp, q1, q2, q3⟩ => ⟨a, cp, q1, hF2.trans (Frm.of_below (h0.trans (q3.mono h0.size))), hH.below (h0.trans (q3.mono h0.size)), fun W' hW j hj => by
              obtain ⟨g, p1, p2, _, p3⟩ := ints_cell (row_frm q2 hW (by have x1 := f2.size; have x2 := hF2.size; have x3 := h0.size; rw [World.size_alloc] at x1; omega)) j hj
              exact ⟨g, p1, p3⟩⟩
          have hM5 := grs_len (c ||| d) 5
          obtain ⟨M, hM⟩ : ∃ M, grs (c ||| d) 5 = M := ⟨_, rfl⟩
          rw [hM] at hsub hm5 hM5
          have KG2 : Hid (∀ W, Below wr.heap.size wr W → Calls Tryd.prog 19 #[.int .u32 ((c ||| d : Nat) : Int)] W fun e w' => ∃ a cp, e = .returned (.slice a M.length cp) ∧ Frm w.heap.size w2 w' ∧ HB w' w.heap.size (fun k => decide (k ∈ L)) ∧ Hid (∀ W', Frm w.heap.size w' W' → ∀ j (hj : j < M.length), ∃ g, a = some ⟨g, 0, none⟩ ∧ W'.cell? ⟨g, j, none⟩ = some (.int .i64 ((M[j] : Nat) : Int)))) := by subst hM; exact KG.out
          have HSub := Lib.hid hsub
          have HM5 := Lib.hid hm5
          have KA : Hid (∀ W, Frm w.heap.size w2 W → Calls Tryd.prog 18 #[] W fun e w' => e = .returned (.bool true) ∧ Below w.heap.size w w') := fun W h => (awake_any W (hN.below (f2.trans h).below)).mono fun e w' ⟨q1, q2⟩ => ⟨q1, (f2.trans h).below.trans (q2.mono (f2.trans h).below.size)⟩
          generalize decide (0 ∈ L) = f0 at y0 m4
          generalize decide (1 ∈ L) = f1 at y1 m3
          generalize decide (2 ∈ L) = f2' at y2 m3
          generalize decide (3 ∈ L) = f3 at y3 m3 m4
          generalize decide (4 ∈ L) = f4 at y4 m4
          subst m4 m3
          clear hH HH K1 KG hM hsub hm5 hN
          cases f0 <;> cases f1 <;> cases f2'
          all_goals simp only [Bool.and_true, Bool.and_false] at y3 y4
          all_goals
            go_wp2_with fail
            go_quiet (fail)
            go_wp2_with (first
              | (go_at_call 19; refine (KG2.out _ (below_drewN (Below.refl _ _) nq)).mono ?_; rintro e w5 ⟨a5, c5, rfl, t5, h5, X5⟩))
            have H5 := Lib.hid h5
            clear y0 y1 y2 y3 y4 KG2 h5
            go_loopg [79] M.length (fun gk s79 wx => ∃ j : Nat, j + gk = M.length ∧ s79 = .int .i64 j ∧ Frm w.heap.size w5 wx ∧ HB wx w.heap.size (fun k => decide (k ∈ L) && !decide (k ∈ M.take j)))
            case atStart => exact ⟨0, by omega, rfl, Frm.refl _ _, H5.out.congr fun k _ => by simp⟩
            case round =>
              obtain ⟨j, hjg3, rfl, hF3, hH3⟩ := hrel
              cases gk with
              | zero =>
                obtain rfl : j = M.length := by omega
                rw [List.take_length] at hH3
                have hH4 : HB wr w.heap.size (fun _ => false) := hH3.congr fun k _ => by
                  by_cases h : k ∈ L
                  · simp [h, HSub.out k h]
                  · simp [h]
                have HH4 := Lib.hid hH4
                clear hH3 hH4 X5 H5
                go_wp2_with fail
                go_loopg [89] 5 (fun gk s89 wx => ∃ j : Nat, j + gk = 5 ∧ s89 = .int .i64 j ∧ wx = wr)
                case atStart => exact ⟨0, by omega, rfl, rfl⟩
                case round =>
                  obtain ⟨j, hjg4, rfl, rfl⟩ := hrel
                  cases gk with
                  | zero =>
                    obtain rfl : j = 5 := by omega
                    have KAw := Lib.hid (KA.out _ (t5.trans hF3))
                    go_wp2_with (first
                      | (go_at_call 18; refine KAw.out.mono ?_; rintro e w6 ⟨rfl, h6⟩))
                    go_ret
                    exact ⟨rfl, h6⟩
                  | succ gq =>
                    have hj : j < 5 := by omega
                    have hj' : ((j : Nat) : Int) < 5 := by omega
                    obtain ⟨y0, -⟩ := HH4.out.c j hj
                    go_wp2
                    go_roundg gq
                    case measure => omega
                    case rel => exact ⟨j + 1, by omega, by first | rfl | rw [wrap64_nat (by omega)] | simp, rfl⟩
              | succ gq =>
                have hj : j < M.length := by omega
                have hj' : ((j : Nat) : Int) < (M.length : Int) := by omega
                obtain ⟨g, rfl, y0⟩ := X5.out wr hF3 j hj
                have hz5 : M[j] < 5 := HM5.out _ (List.getElem_mem hj)
                have HT : Hid (∀ k, k < 5 → (if k = M[j] then false else (decide (k ∈ L) && !decide (k ∈ M.take j))) = (decide (k ∈ L) && !decide (k ∈ M.take (j + 1)))) := fun k _ => by
                  have hmem : k ∈ M.take (j + 1) ↔ k ∈ M.take j ∨ k = M[j] := by rw [List.take_succ_eq_append_getElem hj, List.mem_append, List.mem_singleton]
                  by_cases h : k = M[j]
                  · rw [if_pos h, decide_eq_true (hmem.2 (.inr h))]; simp
                  · rw [if_neg h, decide_eq_decide.2 (show k ∈ M.take (j + 1) ↔ k ∈ M.take j from ⟨fun q => (hmem.1 q).resolve_right h, fun q => hmem.2 (.inl q)⟩)]
                generalize M[j] = z at y0 hz5 HT
                obtain ⟨y1, y2⟩ := hH3.c z hz5
                have z1 : ¬ ((z : Nat) : Int) < 0 := by omega
                have z2 : ((z : Nat) : Int) < 5 := by omega
                have HH := Lib.hid hH3
                clear X5 hH3 H5
                go_wp2
                go_roundg gq
                case measure => omega
                case rel => exact ⟨j + 1, by omega, by first | rfl | rw [wrap64_nat (by omega)] | simp, hF3.set _ _, (HH.out.set z hz5 false).congr HT.out⟩
        | succ gq =>
          have hj : j < 5 := by omega
          have hj' : ((j : Nat) : Int) < 5 := by omega
          have XC : Hid (∀ W, Below wr.heap.size wr W → W.cell? ⟨w.heap.size, j, none⟩ = some (.bool (decide (c &&& pts j = pts j)))) := fun W h => by
            have h1 := ((HH.out.below hB).below h).c j hj
            rw [h1.1, decide_eq_decide.2 (show j ∈ L ↔ c &&& pts j = pts j by rw [HM.out]; exact ⟨fun q => q.2, fun q => ⟨hj, q⟩⟩)]
          have x0 := XC.out _ (Below.refl _ _)
          have e1 := (u32_bits c (pts j) hc (Nat.lt_trans (pts_lt j) (by decide))).1
          have e2 : (((c &&& pts j : Nat) : Int) == ((pts j : Nat) : Int)) = decide (c &&& pts j = pts j) := by
            by_cases h : c &&& pts j = pts j
            · rw [decide_eq_true h, h]; simp
            · rw [decide_eq_false h]; simp; omega
          have KP1 := Lib.hid (parts_any j (wr.drew))
          have KP2 : Hid (∀ W W', Below W.heap.size W W' → Calls Tryd.prog 21 #[.int .i64 (j : Nat)] W' fun e w' => e = .returned (.int .u32 (pts j : Nat)) ∧ Below W'.heap.size W' w') := fun _ W' _ => parts_any j W'
          generalize decide (c &&& pts j = pts j) = bj at XC x0 e2
          clear HH K1
          go_wp2_with fail
          go_region_held3 (fun W => W.cell? ⟨w.heap.size, j, none⟩ = some (.bool bj)) (first | with_reducible assumption | exact x0) (first
            | (go_at_call 21; refine (KP2.out _ _ q1).mono ?_; rintro e w4 ⟨rfl, q2⟩; have q4 := q3.trans (q2.mono q3.size); have x2 := XC.out _ q4)
            | (go_at_call 21; refine KP1.out.mono ?_; rintro e w3 ⟨rfl, q1⟩; have q3 := (Below.drew (Below.refl _ wr)).trans q1; have x1 := XC.out _ q3))
          go_wp2
          go_roundg gq
          case measure => omega
          case rel => exact ⟨j + 1, by omega, by first | rfl | rw [wrap64_nat (by omega)] | simp, hB.trans (q4.mono hB.size)⟩
    | succ gq =>
      have hj : j < L.length := by omega
      have hj' : ((j : Nat) : Int) < (L.length : Int) := by omega
      obtain ⟨g, rfl, y2⟩ := X2.out wr hF j hj
      have hz5 : L[j] < 5 := ((HM.out _).1 (List.getElem_mem hj)).1
      have HT : Hid (∀ k, k < 5 → (if k = L[j] then true else decide (k ∈ L.take j)) = decide (k ∈ L.take (j + 1))) := fun k _ => by
        have hmem : k ∈ L.take (j + 1) ↔ k ∈ L.take j ∨ k = L[j] := by rw [List.take_succ_eq_append_getElem hj, List.mem_append, List.mem_singleton]
        by_cases h : k = L[j]
        · rw [if_pos h]; exact (decide_eq_true (hmem.2 (.inr h))).symm
        · rw [if_neg h]; exact decide_eq_decide.2 ⟨fun q => hmem.2 (.inl q), fun q => (hmem.1 q).resolve_right h⟩
      generalize L[j] = z at y2 hz5 HT
      obtain ⟨y4, y5⟩ := hH.c z hz5
      have z1 : ¬ ((z : Nat) : Int) < 0 := by omega
      have z2 : ((z : Nat) : Int) < 5 := by omega
      have z3 : ¬ (5 : Int) ≤ ((z : Nat) : Int) := by omega
      have HH := Lib.hid hH
      clear X2 hH
      go_wp2
      go_roundg gq
      case measure => omega
      case rel => exact ⟨j + 1, by omega, by first | rfl | rw [wrap64_nat (by omega)] | simp, hF.set _ _, (HH.out.set z hz5 true).congr HT.out⟩
end Go.Proofs.YtanjkljcoccblaaDoor
