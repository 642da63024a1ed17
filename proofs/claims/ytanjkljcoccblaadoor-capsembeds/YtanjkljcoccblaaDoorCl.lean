/- Groups of a set, in the package and in the document; no condition. -/
import Derived.Test.YtanjkljcoccblaaDoorCk
namespace Go.Proofs.YtanjkljcoccblaaDoor
open Go.RowKit Go.Maps

/-- The groups below n that a set has. -/
def grs (c : Nat) : Nat → List Nat
  | 0 => []
  | n + 1 => if c &&& pts n = pts n then grs c n ++ [n] else grs c n
theorem grs_len (c : Nat) : ∀ n, (grs c n).length ≤ n
  | 0 => Nat.le_refl _
  | n + 1 => by have := grs_len c n; unfold grs; split <;> simp <;> omega
def IntsAt (w : World) (base : Nat) (v : Value) (l : List Nat) : Prop := w.ownsRow base 3 1 v l.length (l.map fun (k : Nat) => .int .i64 (k : Int))
theorem row_below {W W' : World} {B : Nat} {e : TypeId} {z : Nat} {v : Value} {n : Nat} {xs : List Value} (h : W.ownsRow B e z v n xs) (hB : Below W.heap.size W W') : W'.ownsRow B e z v n xs := by
  obtain ⟨h1, h2 | ⟨g, c, cur, h2, h3, h4, h5⟩⟩ := h
  · exact ⟨h1, .inl h2⟩
  · exact ⟨h1, .inr ⟨g, c, cur, h2, h3, (hB.block g (Array.getElem?_eq_some_iff.1 h4).1).trans h4, h5⟩⟩
theorem infoInt : (Tryd.prog.info? 3).map (fun i => (i.zero, i.size, i.bytes)) = some (some (.int .i64 0), 1, 8) := by kernel_rfl

set_option maxRecDepth 100000 in
set_option maxHeartbeats 4000000 in
theorem groups_any (c : Nat) (hc : c < 4294967296) (w : World) : Calls Tryd.prog 19 #[.int .u32 (c : Nat)] w fun e w' => ∃ a cp, e = .returned (.slice a (grs c 5).length cp) ∧ IntsAt w' w.heap.size (.slice a (grs c 5).length cp) (grs c 5) ∧ Below w.heap.size w w' := by
  obtain ⟨i0, hi0, hz0, hz1, hz2⟩ := info_parts infoInt
  have KP := Lib.hid (fun g W => parts_any g W)
  have KH : Hid (∀ (g : Int) (W : World), Calls Tryd.prog 28 #[.int .u32 (c : Nat), .int .u32 (pts g : Nat)] W fun e w' => e = .returned (.bool (decide (c &&& pts g = pts g))) ∧ w' = W) := fun g W => has_any c (pts g) W hc (Nat.lt_trans (pts_lt g) (by decide))
  go_enter Tryd.func19, Tryd.ntmps19
  go_wp2
  go_loopg [3, 5] 5 (fun gk s3 s5 wx => ∃ (j : Nat) (a : Option Addr) (cp : Nat), j + gk = 5 ∧ s5 = .int .i64 j ∧ s3 = .slice a (grs c j).length cp ∧ IntsAt wx w.heap.size s3 (grs c j) ∧ Below w.heap.size w wx)
  case atStart => exact ⟨0, none, 0, rfl, rfl, rfl, World.ownsRow_nil _ _ _ _, Below.refl _ _⟩
  case round =>
    obtain ⟨j, a, cp, hjg, rfl, rfl, ht, hB⟩ := hrel
    have HT := Lib.hid ht
    clear ht
    cases gk with
    | zero =>
      obtain rfl : j = 5 := by omega
      go_wp2
      go_ret
      exact ⟨a, cp, rfl, HT.out, hB⟩
    | succ gq =>
      have hj : j < 5 := by omega
      have hj' : ((j : Nat) : Int) < 5 := by omega
      have hl := grs_len c j
      by_cases hb : c &&& pts j = pts j
      · have HE : Hid (grs c (j + 1) = grs c j ++ [j]) := by show grs c (j + 1) = _; rw [grs, if_pos hb]
        go_wp2_with (first
          | (go_at_call 21; refine (KP.out _ _).mono ?_; rintro e w2 ⟨rfl, h2⟩; have hB2 := hB.trans (h2.mono hB.size); have KHj := Lib.hid (KH.out j w2); rw [decide_eq_true hb] at KHj)
          | (go_at_call 28; refine KHj.out.mono ?_; rintro e w3 ⟨rfl, rfl⟩; have R3 := Lib.hid (row_below HT.out h2))
          | (at_builtin; refine wpList_append_own_at _ rfl _ _ 32 rfl w.heap.size 3 i0 (.int .i64 0) 1 8 Tryd.underlying32 hi0 hz0 hz1 hz2 rfl (by decide) (.slice a (grs c j).length cp) _ _ rfl (R3.out.alloc _) ⟨w3.heap.size, 0, none⟩ 1 1 [.int .i64 (j : Nat)] rfl rfl (cell_one_new _ _ _) (by simp [Value.oneCell']) (by unfold maxLen; omega) (by omega) (by have := hB2.size; simp; omega) ?_; intro v4 w4 ho4 hg4 hn4 ha4
             obtain ⟨a4, d4, rfl⟩ : ∃ a4 d4, v4 = .slice a4 ((grs c j).length + 1) d4 := by
               obtain ⟨_, ⟨rfl, h2⟩ | ⟨g, d, cur, h2, _⟩⟩ := ho4
               · omega
               · exact ⟨_, _, h2⟩))
        go_roundg gq
        case measure => omega
        case rel =>
          refine ⟨j + 1, a4, d4, by omega, by first | rfl | rw [wrap64_nat (by omega)] | simp, ?_, ?_, ?_⟩
          · rw [HE.out, List.length_append]; rfl
          · unfold IntsAt
            rw [HE.out, List.length_append, List.map_append]
            exact ho4
          · exact below_grown (hB2.alloc hB2.size _) hg4 (R3.out.alloc _) (Nat.le_refl _)
      · have HE : Hid (grs c (j + 1) = grs c j) := by show grs c (j + 1) = _; rw [grs, if_neg hb]
        go_wp2_with (first
          | (go_at_call 21; refine (KP.out _ _).mono ?_; rintro e w2 ⟨rfl, h2⟩; have hB2 := hB.trans (h2.mono hB.size); have KHj := Lib.hid (KH.out j w2); rw [decide_eq_false hb] at KHj)
          | (go_at_call 28; refine KHj.out.mono ?_; rintro e w3 ⟨rfl, rfl⟩; have R3 := Lib.hid (row_below HT.out h2)))
        go_roundg gq
        case measure => omega
        case rel => exact ⟨j + 1, a, cp, by omega, by first | rfl | rw [wrap64_nat (by omega)] | simp, by rw [HE.out], by rw [HE.out]; exact R3.out, hB2⟩

set_option maxRecDepth 100000 in
set_option maxHeartbeats 4000000 in
theorem rgroups_any (c : Nat) (hc : c < 4294967296) (w : World) : Calls Tryd.prog 20 #[.int .u32 (c : Nat)] w fun e w' => ∃ a cp, e = .returned (.slice a (grs c 5).length cp) ∧ IntsAt w' w.heap.size (.slice a (grs c 5).length cp) (grs c 5) ∧ Below w.heap.size w w' := by
  obtain ⟨i0, hi0, hz0, hz1, hz2⟩ := info_parts infoInt
  have KP := Lib.hid (fun g W => rparts_any g W)
  have KP2 : Hid (∀ (g : Int) (W W' : World), Below W.heap.size W W' → Calls Tryd.prog 22 #[.int .i64 g] W' fun e w' => e = .returned (.int .u32 (pts g : Nat)) ∧ Below W'.heap.size W' w') := fun g _ W' _ => rparts_any g W'
  go_enter Tryd.func20, Tryd.ntmps20
  go_wp2
  go_loopg [3, 4] 5 (fun gk s3 s5 wx => ∃ (j : Nat) (a : Option Addr) (cp : Nat), j + gk = 5 ∧ s5 = .int .i64 j ∧ s3 = .slice a (grs c j).length cp ∧ IntsAt wx w.heap.size s3 (grs c j) ∧ Below w.heap.size w wx)
  case atStart => exact ⟨0, none, 0, rfl, rfl, rfl, World.ownsRow_nil _ _ _ _, Below.refl _ _⟩
  case round =>
    obtain ⟨j, a, cp, hjg, rfl, rfl, ht, hB⟩ := hrel
    have HT := Lib.hid ht
    clear ht
    cases gk with
    | zero =>
      obtain rfl : j = 5 := by omega
      go_wp2
      go_ret
      exact ⟨a, cp, rfl, HT.out, hB⟩
    | succ gq =>
      have hj : j < 5 := by omega
      have hj' : ((j : Nat) : Int) < 5 := by omega
      have hl := grs_len c j
      by_cases hb : c &&& pts j = pts j
      · have HE : Hid (grs c (j + 1) = grs c j ++ [j]) := by show grs c (j + 1) = _; rw [grs, if_pos hb]
        have b2 := (u32_bits c (pts j) hc (Nat.lt_trans (pts_lt j) (by decide))).1
        have b3 : (((c &&& pts j : Nat) : Int) == ((pts j : Nat) : Int)) = true := by
          rw [hb]; simp
        have HB := Lib.hid hb
        clear hb
        go_wp2_with (first
          | (go_at_call 22; refine (KP2.out _ _ _ h2).mono ?_; rintro e w3 ⟨rfl, h3⟩; have hB2 := hB.trans ((h2.trans (h3.mono h2.size)).mono hB.size); have R3 := Lib.hid (row_below HT.out (h2.trans (h3.mono h2.size))))
          | (go_at_call 22; refine (KP.out _ _).mono ?_; rintro e w2 ⟨rfl, h2⟩)
          | (at_builtin; refine wpList_append_own_at _ rfl _ _ 32 rfl w.heap.size 3 i0 (.int .i64 0) 1 8 Tryd.underlying32 hi0 hz0 hz1 hz2 rfl (by decide) (.slice a (grs c j).length cp) _ _ rfl (R3.out.alloc _) ⟨w3.heap.size, 0, none⟩ 1 1 [.int .i64 (j : Nat)] rfl rfl (cell_one_new _ _ _) (by simp [Value.oneCell']) (by unfold maxLen; omega) (by omega) (by have := hB2.size; simp; omega) ?_; intro v4 w4 ho4 hg4 hn4 ha4
             obtain ⟨a4, d4, rfl⟩ : ∃ a4 d4, v4 = .slice a4 ((grs c j).length + 1) d4 := by
               obtain ⟨_, ⟨rfl, h2⟩ | ⟨g, d, cur, h2, _⟩⟩ := ho4
               · omega
               · exact ⟨_, _, h2⟩))
        go_roundg gq
        case measure => omega
        case rel =>
          refine ⟨j + 1, a4, d4, by omega, by first | rfl | rw [wrap64_nat (by omega)] | simp, ?_, ?_, ?_⟩
          · rw [HE.out, List.length_append]; rfl
          · unfold IntsAt
            rw [HE.out, List.length_append, List.map_append]
            exact ho4
          · exact below_grown (hB2.alloc hB2.size _) hg4 (R3.out.alloc _) (Nat.le_refl _)
      · have HE : Hid (grs c (j + 1) = grs c j) := by show grs c (j + 1) = _; rw [grs, if_neg hb]
        have b2 := (u32_bits c (pts j) hc (Nat.lt_trans (pts_lt j) (by decide))).1
        have b3 : (((c &&& pts j : Nat) : Int) == ((pts j : Nat) : Int)) = false := by
          simp; omega
        have HB := Lib.hid hb
        clear hb
        go_wp2_with (first
          | (go_at_call 22; refine (KP2.out _ _ _ h2).mono ?_; rintro e w3 ⟨rfl, h3⟩; have hB2 := hB.trans ((h2.trans (h3.mono h2.size)).mono hB.size); have R3 := Lib.hid (row_below HT.out (h2.trans (h3.mono h2.size))))
          | (go_at_call 22; refine (KP.out _ _).mono ?_; rintro e w2 ⟨rfl, h2⟩))
        go_roundg gq
        case measure => omega
        case rel => exact ⟨j + 1, a, cp, by omega, by first | rfl | rw [wrap64_nat (by omega)] | simp, by rw [HE.out], by rw [HE.out]; exact R3.out, hB2⟩
end Go.Proofs.YtanjkljcoccblaaDoor
