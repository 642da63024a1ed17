/- The document's own Parse is the package's; what is asked: what each theorem names. -/
import Derived.Test.YtanjkljcoccblaaDoorCq
namespace Go.Proofs.YtanjkljcoccblaaDoor
open Go.RowKit Go.Maps

theorem wd_blank (k : Nat) (hk : k < 11) : (32 : UInt8) ∉ wd k := by
  have : k = 0 ∨ k = 1 ∨ k = 2 ∨ k = 3 ∨ k = 4 ∨ k = 5 ∨ k = 6 ∨ k = 7 ∨ k = 8 ∨ k = 9 ∨ k = 10 := by omega
  rcases this with rfl | rfl | rfl | rfl | rfl | rfl | rfl | rfl | rfl | rfl | rfl <;> decide
theorem num_wd (k : Nat) (hk : k < 11) : num (wd k) = (k : Int) := by
  have : k = 0 ∨ k = 1 ∨ k = 2 ∨ k = 3 ∨ k = 4 ∨ k = 5 ∨ k = 6 ∨ k = 7 ∨ k = 8 ∨ k = 9 ∨ k = 10 := by omega
  rcases this with rfl | rfl | rfl | rfl | rfl | rfl | rfl | rfl | rfl | rfl | rfl <;> decide
theorem spl_join : ∀ (xs : List Bs), xs ≠ [] → (∀ x ∈ xs, (32 : UInt8) ∉ x) → spl (Lib.join xs [32]) = xs
  | [], h, _ => absurd rfl h
  | [x], _, h => by rw [Lib.join_one]; exact spl_flat x (h x (by simp))
  | x :: y :: r, _, h => by
    have e : Lib.join (x :: y :: r) [32] = x ++ 32 :: Lib.join (y :: r) [32] := by
      rw [Lib.join_cons, Lib.join_cons]; simp [Lib.joinTail]
    rw [e, spl_cut x _ (h x (by simp)), spl_join (y :: r) (by simp) (fun z hz => h z (List.mem_cons_of_mem _ hz))]
theorem col_sel (c : Nat) : ∀ n, n ≤ 11 → col (sel c n) = c % 2 ^ n
  | 0, _ => by simp [sel, col, Nat.mod_one]
  | n + 1, h => by
    have ih := col_sel c n (by omega)
    have e : ∀ i, (c % 2 ^ (n + 1)).testBit i = ((c % 2 ^ n).testBit i || (decide (n = i) && c.testBit n)) := fun i => by
      rw [Nat.testBit_mod_two_pow, Nat.testBit_mod_two_pow]
      by_cases h1 : n = i
      · subst h1; simp
      · by_cases h2 : i < n
        · simp [h1, h2, Nat.lt_succ_of_lt h2]
        · have h3 : ¬ i < n + 1 := by omega
          simp [h1, h2, h3]
    unfold sel
    cases hb : c.testBit n with
    | true =>
      rw [if_pos rfl, col_snoc, ih]
      unfold colS
      rw [num_wd n (by omega), if_pos (by omega), Int.toNat_natCast]
      refine Nat.eq_of_testBit_eq fun i => ?_
      rw [Nat.testBit_or, Nat.testBit_two_pow, e i, hb]; simp
    | false =>
      rw [if_neg (by simp), ih]
      refine Nat.eq_of_testBit_eq fun i => ?_
      rw [e i, hb]; simp
theorem col_txt (c : Nat) : col (spl (txt c)) = c % 2048 := by
  have h := col_sel c 11 (Nat.le_refl _)
  unfold txt
  by_cases hs : sel c 11 = []
  · rw [hs] at h ⊢
    rw [← show c % 2 ^ 11 = c % 2048 from rfl, ← h, Lib.join_nil]; decide
  · rw [spl_join _ hs (fun x hx => by obtain ⟨k, hk, rfl⟩ := sel_words c 11 (Nat.le_refl _) x hx; exact wd_blank k hk)]; exact h
theorem sel_mod (c : Nat) : ∀ n, n ≤ 11 → sel (c % 2048) n = sel c n
  | 0, _ => rfl
  | n + 1, h => by
    have e : (c % 2048).testBit n = c.testBit n := by
      rw [show (2048 : Nat) = 2 ^ 11 from rfl, Nat.testBit_mod_two_pow]; simp [show n < 11 by omega]
    unfold sel
    rw [sel_mod c n (by omega), e]
theorem txt_mod (c : Nat) : txt (c % 2048) = txt c := by unfold txt; rw [sel_mod c 11 (Nat.le_refl _)]
theorem prs_txt (c : Nat) : prs (txt c) = (c % 2048, true) := by unfold prs; rw [col_txt, txt_mod, if_pos rfl]
theorem prs_yes {c : Nat} {s : Bs} (hc : c < 2048) (h : txt c = s) : prs s = (c, true) := by rw [← h, prs_txt, Nat.mod_eq_of_lt hc]
theorem prs_no {s : Bs} (h : ∀ c, c < 2048 → txt c ≠ s) : prs s = (0, false) := by unfold prs; rw [if_neg (h _ (col_lt _))]

set_option maxRecDepth 100000 in
set_option maxHeartbeats 4000000 in
theorem rparse_any (s : ByteArray) (w : World) :
    Calls Tryd.prog 9 #[.string s] w fun e w' => e = .returned (.tuple #[.int .u32 (prs (tl s)).1, .bool (prs (tl s)).2]) ∧ Below w.heap.size w w' := by
  have KT : Hid (∀ W (c : Nat), c < 2048 → Calls Tryd.prog 17 #[.int .u32 (c : Nat)] W fun e w' => e = .returned (.string (bs (txt c))) ∧ Below W.heap.size W w') := fun W c hc => rtext_any c (by omega) W
  go_enter Tryd.func9, Tryd.ntmps9
  go_wp2
  go_loopg [4] 2048 (fun gk s4 wx => ∃ j : Nat, j + gk = 2048 ∧ s4 = .int .u32 j ∧ (∀ i, i < j → txt i ≠ tl s) ∧ Below w.heap.size w wx)
  case atStart => exact ⟨0, rfl, rfl, fun i h => by omega, Below.refl _ _⟩
  case round =>
    obtain ⟨j, hjg, rfl, hno, hB⟩ := hrel
    have HN := Lib.hid hno
    clear hno
    cases gk with
    | zero =>
      obtain rfl : j = 2048 := by omega
      go_wp2
      refine bodyPost_ret (v := .tuple #[.int .u32 0, .bool false]) ?_ rfl ⟨by rw [prs_no HN.out]; rfl, hB⟩
      simp [results, Tryd.f9, go_sem]
    | succ gq =>
      have hj : j < 2048 := by omega
      have hj' : ((j : Nat) : Int) ≤ 2047 := by omega
      have KTj := Lib.hid (KT.out wr j hj)
      by_cases hq : txt j = tl s
      · have b1 : ((bs (txt j)).toList == s.toList) = true := by rw [beqq, decide_eq_true hq]
        have HQ := Lib.hid hq
        clear hq
        go_wp2_with (first
          | (go_at_call 17; refine KTj.out.mono ?_; rintro e w2 ⟨rfl, h2⟩))
        refine bodyPost_ret (v := .tuple #[.int .u32 (j : Nat), .bool true]) ?_ rfl ⟨by rw [prs_yes hj HQ.out], hB.trans (h2.mono hB.size)⟩
        simp [results, Tryd.f9, go_sem]
      · have b1 : ((bs (txt j)).toList == s.toList) = false := by rw [beqq, decide_eq_false hq]
        have HQ := Lib.hid hq
        clear hq
        go_wp2_with (first
          | (go_at_call 17; refine KTj.out.mono ?_; rintro e w2 ⟨rfl, h2⟩))
        go_roundg gq
        case measure => omega
        case rel =>
          refine ⟨j + 1, by omega, ?_, fun i hi => ?_, hB.trans (h2.mono hB.size)⟩
          · first | rfl | (congr 1; omega) | (congr 1; show (((j : Nat) : Int) + 1) % 4294967296 = _; omega)
          · rcases Nat.lt_or_ge i j with h | h
            · exact HN.out i h
            · obtain rfl : i = j := by omega
              exact HQ.out

/-! ### Word, Valid -/
set_option maxRecDepth 100000 in
set_option maxHeartbeats 2000000 in
theorem valid_any (c : Nat) (hc : c < 4294967296) (w : World) : Calls Tryd.prog 11 #[.int .u32 (c : Nat)] w fun e w' => e = .returned (.bool (decide (c ≤ 2047))) ∧ w' = w := by
  have K : Hid (∀ W, Calls Tryd.prog 28 #[.int .u32 2047, .int .u32 (c : Nat)] W fun e w' => e = .returned (.bool (decide (c ≤ 2047))) ∧ w' = W) := fun W => by
    have := has_any 2047 c W (by decide) hc
    rw [show decide (2047 &&& c = c) = decide (c ≤ 2047) by
      rw [Nat.and_comm]
      by_cases h : c ≤ 2047
      · rw [decide_eq_true h, decide_eq_true (low_of (by omega))]
      · rw [decide_eq_false h, decide_eq_false (fun e => by have := low_lt c; omega)]] at this
    exact this
  go_enter Tryd.func11, Tryd.ntmps11
  go_wp2_with (first
    | (go_at_call 28; refine (K.out _).mono ?_; rintro e w2 ⟨rfl, rfl⟩))
  go_ret
  exact ⟨rfl, rfl⟩
set_option maxRecDepth 100000 in
set_option maxHeartbeats 2000000 in
theorem rvalid_any (c : Nat) (w : World) : Calls Tryd.prog 12 #[.int .u32 (c : Nat)] w fun e w' => e = .returned (.bool (decide (c ≤ 2047))) ∧ w' = w := by
  have e1 : decide (((c : Nat) : Int) ≤ 2047) = decide (c ≤ 2047) := by
    by_cases h : c ≤ 2047
    · rw [decide_eq_true h, decide_eq_true (by omega)]
    · rw [decide_eq_false h, decide_eq_false (by omega)]
  go_enter Tryd.func12, Tryd.ntmps12
  go_wp2
  go_ret
  refine ⟨?_, rfl⟩
  first | rfl | (show Ending.returned (.bool _) = _; rw [e1])
/-- The word of a number. -/
def wrd (k : Int) : Bs := if 0 ≤ k ∧ k < 11 then wd k.toNat else []
set_option maxRecDepth 100000 in
set_option maxHeartbeats 2000000 in
theorem word_any (k : Int) (w : World) (hN : Wds w) : Calls Tryd.prog 13 #[.int .i64 k] w fun e w' => e = .returned (.string (bs (wrd k))) ∧ w' = w := by
  by_cases h : 0 ≤ k ∧ k < 11
  · obtain ⟨j, rfl⟩ : ∃ j : Nat, k = j := ⟨k.toNat, by omega⟩
    have hj : j < 11 := by omega
    have x0 := hN.2 j (wd j) (by rw [List.getElem?_eq_getElem (show j < wds.length from hj)]; simp [wd, List.getD, List.getElem?_eq_getElem (show j < wds.length from hj)])
    have e0 : wrd (j : Int) = wd j := by unfold wrd; rw [if_pos h, Int.toNat_natCast]
    have j0 : ¬ ((j : Nat) : Int) < 0 := by omega
    have j1 : ((j : Nat) : Int) < 11 := by omega
    have j2 : ¬ (11 : Int) ≤ ((j : Nat) : Int) := by omega
    rw [e0]
    clear e0 h hN
    go_enter Tryd.func13, Tryd.ntmps13
    go_wp2
    go_ret
    exact ⟨rfl, rfl⟩
  · have e0 : wrd k = [] := by unfold wrd; rw [if_neg h]
    rw [e0]
    go_enter Tryd.func13, Tryd.ntmps13
    go_wp2
    all_goals first | (exfalso; omega) | (go_ret; exact ⟨rfl, rfl⟩)
set_option maxRecDepth 100000 in
set_option maxHeartbeats 2000000 in
theorem rword_any (k : Int) (w : World) : Calls Tryd.prog 14 #[.int .i64 k] w fun e w' => e = .returned (.string (bs (wrd k))) ∧ Below w.heap.size w w' := by
  by_cases h : 0 ≤ k ∧ k < 11
  · obtain ⟨j, rfl⟩ : ∃ j : Nat, k = j := ⟨k.toNat, by omega⟩
    have hj : j < 11 := by omega
    have e0 : wrd (j : Int) = wd j := by unfold wrd; rw [if_pos h, Int.toNat_natCast]
    have j0 : ¬ ((j : Nat) : Int) < 0 := by omega
    have j1 : ((j : Nat) : Int) < 11 := by omega
    have j2 : ¬ (11 : Int) ≤ ((j : Nat) : Int) := by omega
    rw [e0]
    clear e0 h
    go_enter Tryd.func14, Tryd.ntmps14
    go_wp2_with (first
      | (go_at_call 30; refine (rwords_any _).mono ?_; rintro e w2 ⟨b, rfl, h1, h2, h3, h4⟩; have x0 := h3 j hj; clear h3))
    go_ret
    exact ⟨rfl, h4⟩
  · have e0 : wrd k = [] := by unfold wrd; rw [if_neg h]
    rw [e0]
    go_enter Tryd.func14, Tryd.ntmps14
    go_wp2
    all_goals first | (exfalso; omega) | (go_ret; exact ⟨rfl, Below.refl _ _⟩)
end Go.Proofs.YtanjkljcoccblaaDoor
