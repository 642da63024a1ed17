/- The document's own Words, Has, Number, Word; the package's Word, Valid; no condition but those that each theorem names. -/
import Derived.Test.YtanjkljcoccblaaDoorCw
namespace Go.Proofs.YtanjkljcoccblaaDoor
open Go.RowKit Go.Maps

set_option maxRecDepth 100000 in
set_option maxHeartbeats 2000000 in
theorem rwords_any (w : World) : Calls Tryd.prog 30 #[] w fun e w' => ∃ b, e = .returned (.slice (some ⟨b, 0, none⟩) 11 11) ∧ w.heap.size ≤ b ∧ b < w'.heap.size ∧ (∀ j, j < 11 → w'.cell? ⟨b, j, none⟩ = some (.string (bs (wd j)))) ∧ Below w.heap.size w w' := by
  go_enter Tryd.func30, Tryd.ntmps30
  go_wp2
  go_ret
  refine ⟨w.heap.size, rfl, Nat.le_refl _, by simp, fun j hj => ?_, below1 _ _⟩
  rw [cell_at (heap_alloc_new _ _) j]
  have : j = 0 ∨ j = 1 ∨ j = 2 ∨ j = 3 ∨ j = 4 ∨ j = 5 ∨ j = 6 ∨ j = 7 ∨ j = 8 ∨ j = 9 ∨ j = 10 := by omega
  rcases this with rfl | rfl | rfl | rfl | rfl | rfl | rfl | rfl | rfl | rfl | rfl <;> rfl

set_option maxRecDepth 100000 in
set_option maxHeartbeats 2000000 in
theorem rhas_int (c k : Int) (k0 : 0 ≤ k) (k1 : k < 11) (w : World) : Calls Tryd.prog 31 #[.int .u32 c, .int .i64 k] w fun e w' => e = .returned (.bool (bits .and .u32 (c / 2 ^ k.toNat) 1 == 1)) ∧ w' = w := by
  go_enter Tryd.func31, Tryd.ntmps31
  go_wp2
  all_goals first | omega | (go_ret; exact ⟨rfl, rfl⟩)
theorem rhas_any (c k : Nat) (hc : c < 4294967296) (hk : k < 11) (w : World) : Calls Tryd.prog 31 #[.int .u32 (c : Nat), .int .i64 (k : Nat)] w fun e w' => e = .returned (.bool (c.testBit k)) ∧ w' = w := by
  have e1 : (((c : Nat) : Int) / 2 ^ k) = ((c / 2 ^ k : Nat) : Int) := by rw [Int.natCast_ediv]; simp
  have e2 : bits .and .u32 ((c / 2 ^ k : Nat) : Int) 1 = ((c / 2 ^ k % 2 : Nat) : Int) := by
    have := (u32_bits (c / 2 ^ k) 1 (Nat.lt_of_le_of_lt (Nat.div_le_self _ _) hc) (by decide)).1
    rw [Nat.and_one_is_mod] at this; exact this
  have e3 : (((c / 2 ^ k % 2 : Nat) : Int) == 1) = c.testBit k := by
    rw [Nat.testBit_eq_decide_div_mod_eq]
    by_cases h : c / 2 ^ k % 2 = 1
    · rw [decide_eq_true h, h]; rfl
    · rw [decide_eq_false h]; simp; omega
  have := rhas_int c k (by omega) (by omega) w
  rw [Int.toNat_natCast, e1, e2, e3] at this
  exact this

set_option maxRecDepth 100000 in
set_option maxHeartbeats 2000000 in
theorem rnum_any (s : ByteArray) (w : World) : Calls Tryd.prog 16 #[.string s] w fun e w' => e = .returned (.int .i64 (num (tl s))) ∧ Below w.heap.size w w' := by
  go_enter Tryd.func16, Tryd.ntmps16
  go_wp2_with (first
    | (go_at_call 30; refine (rwords_any _).mono ?_; rintro e w2 ⟨b, rfl, h1, h2, h3, h4⟩))
  have H3 := Lib.hid h3
  clear h3
  go_loopg [7] 11 (fun gk s7 wx => ∃ j : Nat, j + gk = 11 ∧ s7 = .int .i64 j ∧ num (tl s) = numF (wds.drop j) j (tl s) ∧ wx = w2)
  case atStart => exact ⟨0, rfl, rfl, rfl, rfl⟩
  case round =>
    obtain ⟨j, hjg, rfl, hn, rfl⟩ := hrel
    cases gk with
    | zero =>
      obtain rfl : j = 11 := by omega
      go_wp2
      go_ret
      exact ⟨rfl, h4⟩
    | succ gq =>
      have hj : j < 11 := by omega
      have hj' : ((j : Nat) : Int) < 11 := by omega
      have x0 := H3.out j hj
      rw [wds_drop j hj] at hn
      have HN := Lib.hid hn
      clear hn
      by_cases hw : wd j = tl s
      · have b1 : ((bs (wd j)).toList == s.toList) = true := by rw [beqq]; exact decide_eq_true hw
        have HW := Lib.hid hw
        clear hw
        go_wp2
        go_ret
        refine ⟨?_, h4⟩
        rw [HN.out]; unfold numF; rw [if_pos HW.out]
        rfl
      · have b1 : ((bs (wd j)).toList == s.toList) = false := by rw [beqq]; exact decide_eq_false hw
        go_wp2
        go_roundg gq
        case measure => omega
        case rel => exact ⟨j + 1, by omega, by first | rfl | rw [wrap64_nat (by omega)] | simp, by rw [HN.out, numF, if_neg hw], rfl⟩

/-- The text so far. -/
def pre (c n : Nat) : Bs := Lib.join (sel c n) [32]
theorem wd_ne (k : Nat) (hk : k < 11) : wd k ≠ [] := by
  have : k = 0 ∨ k = 1 ∨ k = 2 ∨ k = 3 ∨ k = 4 ∨ k = 5 ∨ k = 6 ∨ k = 7 ∨ k = 8 ∨ k = 9 ∨ k = 10 := by omega
  rcases this with rfl | rfl | rfl | rfl | rfl | rfl | rfl | rfl | rfl | rfl | rfl <;> decide
theorem joinTail_snoc (sep x : Bs) (r : List Bs) : Lib.joinTail sep (r ++ [x]) = Lib.joinTail sep r ++ sep ++ x := by simp [Lib.joinTail]
theorem pre_yes (c n : Nat) (hn : n < 11) (hb : c.testBit n = true) : pre c (n + 1) = if pre c n = [] then wd n else pre c n ++ [32] ++ wd n := by
  have e : sel c (n + 1) = sel c n ++ [wd n] := by rw [sel, hb]; rfl
  unfold pre
  rw [e]
  cases h : sel c n with
  | nil => rw [if_pos (Lib.join_nil _)]; simp [Lib.join_one]
  | cons x r =>
    obtain ⟨k, hk, rfl⟩ := sel_words c n (by omega) x (by rw [h]; exact List.mem_cons_self)
    have h1 : Lib.join (wd k :: r) [32] ≠ [] := by
      rw [Lib.join_cons]; intro h2
      exact wd_ne k hk (List.append_eq_nil_iff.1 h2).1
    rw [if_neg h1, List.cons_append, Lib.join_cons, Lib.join_cons, joinTail_snoc]
    simp [List.append_assoc]
theorem pre_no (c n : Nat) (hb : c.testBit n = false) : pre c (n + 1) = pre c n := by
  have e : sel c (n + 1) = sel c n := by rw [sel, hb]; rfl
  unfold pre; rw [e]
theorem pre_len (c n : Nat) (hn : n ≤ 11) : (pre c n).length ≤ 66 := by
  have := join_len (sel c n) 5 (fun x hx => by obtain ⟨k, hk, rfl⟩ := sel_words c n hn x hx; exact wd_len k hk)
  have h2 := sel_len c n
  unfold pre
  have : (sel c n).length * (5 + 1) ≤ 66 := by omega
  omega
theorem bs_app (a b : Bs) : bs a ++ bs b = bs (a ++ b) := by
  rw [← tl_inj, tl_bs, tl_data, ByteArray.data_append, Array.toList_append]; simp [bs]
theorem bs_size (a : Bs) : (bs a).size = a.length := by rw [← tl_size, tl_bs]

set_option maxRecDepth 100000 in
set_option maxHeartbeats 4000000 in
theorem rtext_any (c : Nat) (hc : c < 4294967296) (w : World) : Calls Tryd.prog 17 #[.int .u32 (c : Nat)] w fun e w' => e = .returned (.string (bs (txt c))) ∧ Below w.heap.size w w' := by
  have KH := Lib.hid (fun j hj W => rhas_any c j hc hj W)
  go_enter Tryd.func17, Tryd.ntmps17
  go_wp2_with (first
    | (go_at_call 30; refine (rwords_any _).mono ?_; rintro e w2 ⟨b, rfl, h1, h2, h3, h4⟩))
  have H3 := Lib.hid h3
  clear h3
  go_loopg [3, 8] 11 (fun gk s3 s8 wx => ∃ j : Nat, j + gk = 11 ∧ s8 = .int .i64 j ∧ s3 = .string (bs (pre c j)) ∧ wx = w2)
  case atStart => exact ⟨0, rfl, rfl, rfl, rfl⟩
  case round =>
    obtain ⟨j, hjg, rfl, rfl, rfl⟩ := hrel
    cases gk with
    | zero =>
      obtain rfl : j = 11 := by omega
      go_wp2
      go_ret
      exact ⟨rfl, h4⟩
    | succ gq =>
      have hj : j < 11 := by omega
      have hj' : ((j : Nat) : Int) < 11 := by omega
      have x0 := H3.out j hj
      have KHj := Lib.hid (KH.out j hj wr)
      have hpl := pre_len c j (by omega)
      have hwl := wd_len j hj
      obtain ⟨X, hX⟩ : ∃ X, X = bs (pre c j) := ⟨_, rfl⟩
      obtain ⟨Y, hY⟩ : ∃ Y, Y = bs (wd j) := ⟨_, rfl⟩
      rw [← hX]
      rw [← hY] at x0
      have s1 : X.size ≤ 66 := by rw [hX, bs_size]; omega
      have s2 : Y.size ≤ 5 := by rw [hY, bs_size]; omega
      have HX := Lib.hid hX
      have HY := Lib.hid hY
      clear hX hY hpl hwl
      cases hb : c.testBit j with
      | false =>
        rw [hb] at KHj
        go_wp2_with (first
          | (go_at_call 31; refine KHj.out.mono ?_; rintro e w3 ⟨rfl, rfl⟩))
        go_roundg gq
        case measure => omega
        case rel => exact ⟨j + 1, by omega, by first | rfl | rw [wrap64_nat (by omega)] | simp, by rw [HX.out, pre_no c j hb], rfl⟩
      | true =>
        rw [hb] at KHj
        have HP := Lib.hid (pre_yes c j hj hb)
        have eX : X.toList = pre c j := by rw [HX.out]; exact tl_bs _
        by_cases hp : pre c j = []
        · have b1 : (!X.toList.isEmpty) = false := by rw [eX, hp]; rfl
          have HE := Lib.hid hp
          clear eX hp
          go_wp2_with (first
            | (go_at_call 31; refine KHj.out.mono ?_; rintro e w3 ⟨rfl, rfl⟩))
          all_goals first | (exfalso; omega) | skip
          go_roundg gq
          case measure => omega
          case rel =>
            refine ⟨j + 1, by omega, by first | rfl | rw [wrap64_nat (by omega)] | simp, ?_, rfl⟩
            rw [HP.out, if_pos HE.out, HX.out, HY.out, bs_app, HE.out]; rfl
        · have b1 : (!X.toList.isEmpty) = true := by
            rw [eX]; cases h : pre c j with
            | nil => exact absurd h hp
            | cons x r => rfl
          have HE := Lib.hid hp
          clear eX hp
          go_wp2_with (first
            | (go_at_call 31; refine KHj.out.mono ?_; rintro e w3 ⟨rfl, rfl⟩))
          all_goals first | (exfalso; omega) | skip
          go_roundg gq
          case measure => omega
          case rel =>
            refine ⟨j + 1, by omega, by first | rfl | rw [wrap64_nat (by omega)] | simp, ?_, rfl⟩
            rw [HP.out, if_neg HE.out, HX.out, HY.out, show (⟨#[32]⟩ : ByteArray) = bs [32] from rfl, bs_app, bs_app]
end Go.Proofs.YtanjkljcoccblaaDoor
