/- Words and numbers of capabilities, and the text of a set, in the package; what is asked of the world: the table of words as its text lays it. -/
import Derived.Test.YtanjkljcoccblaaDoorCt
import Derived.Test.YtanjkljcoccblaaDoorShelf
namespace Go.Proofs.YtanjkljcoccblaaDoor
open Go.RowKit Go.Maps

theorem Wds.cells {w : World} (h : Wds w) : w.cell? ⟨0, 0, none⟩ = some (.string (bs [102, 108, 117, 115, 104])) ∧ w.cell? ⟨0, 1, none⟩ = some (.string (bs [99, 108, 111, 115, 101])) ∧ w.cell? ⟨0, 2, none⟩ = some (.string (bs [98, 97, 116, 99, 104])) ∧ w.cell? ⟨0, 3, none⟩ = some (.string (bs [97, 99, 107])) ∧ w.cell? ⟨0, 4, none⟩ = some (.string (bs [112, 105, 110, 103])) ∧ w.cell? ⟨0, 5, none⟩ = some (.string (bs [114, 101, 115, 101, 116])) ∧ w.cell? ⟨0, 6, none⟩ = some (.string (bs [115, 97, 118, 101])) ∧ w.cell? ⟨0, 7, none⟩ = some (.string (bs [108, 111, 97, 100])) ∧ w.cell? ⟨0, 8, none⟩ = some (.string (bs [110, 97, 109, 101])) ∧ w.cell? ⟨0, 9, none⟩ = some (.string (bs [117, 110, 116, 105, 108])) ∧ w.cell? ⟨0, 10, none⟩ = some (.string (bs [111, 112, 101, 110])) :=
  ⟨h.2 0 _ rfl, h.2 1 _ rfl, h.2 2 _ rfl, h.2 3 _ rfl, h.2 4 _ rfl, h.2 5 _ rfl, h.2 6 _ rfl, h.2 7 _ rfl, h.2 8 _ rfl, h.2 9 _ rfl, h.2 10 _ rfl⟩
theorem cell_at {W : World} {b : Nat} {cur : Array Value} {e : TypeId} {f : Nat × Nat} (h : W.heap[b]? = some (.cells cur e f)) (j : Nat) : W.cell? ⟨b, j, none⟩ = cur[j]? := by simp [World.cell?, h]
def wd (k : Nat) : Bs := wds.getD k []
theorem idx_any (j : Nat) (hj : j < 11) (W : World) : (Instr.index 43 (Value.agg #[Value.string (bs [102, 108, 117, 115, 104]), Value.string (bs [99, 108, 111, 115, 101]), Value.string (bs [98, 97, 116, 99, 104]), Value.string (bs [97, 99, 107]), Value.string (bs [112, 105, 110, 103]), Value.string (bs [114, 101, 115, 101, 116]), Value.string (bs [115, 97, 118, 101]), Value.string (bs [108, 111, 97, 100]), Value.string (bs [110, 97, 109, 101]), Value.string (bs [117, 110, 116, 105, 108]), Value.string (bs [111, 112, 101, 110])]) (.int .i64 (j : Nat))).run Tryd.prog W = .ok (.string (bs (wd j))) W := by
  have : j = 0 ∨ j = 1 ∨ j = 2 ∨ j = 3 ∨ j = 4 ∨ j = 5 ∨ j = 6 ∨ j = 7 ∨ j = 8 ∨ j = 9 ∨ j = 10 := by omega
  rcases this with rfl | rfl | rfl | rfl | rfl | rfl | rfl | rfl | rfl | rfl | rfl
  all_goals (show _ = _; kernel_rfl)

/-- The number of a word. -/
def numF : List Bs → Nat → Bs → Int
  | [], _, _ => -1
  | x :: r, k, s => if x = s then (k : Int) else numF r (k + 1) s
def num (s : Bs) : Int := numF wds 0 s
theorem wds_drop (j : Nat) (hj : j < 11) : wds.drop j = wd j :: wds.drop (j + 1) := by
  rw [List.drop_eq_getElem_cons (show j < wds.length from hj)]
  simp [wd, List.getD, List.getElem?_eq_getElem (show j < wds.length from hj)]
theorem beqq (a : Bs) (s : ByteArray) : ((bs a).toList == s.toList) = decide (a = tl s) := by
  have : (bs a).toList = a := tl_bs a
  rw [this]
  by_cases h : a = tl s
  · rw [decide_eq_true h, h]; simp [tl]
  · rw [decide_eq_false h]; simpa [tl] using h

set_option maxRecDepth 100000 in
set_option maxHeartbeats 2000000 in
theorem num_any (s : ByteArray) (w : World) (hN : Wds w) : Calls Tryd.prog 15 #[.string s] w fun e w' => e = .returned (.int .i64 (num (tl s))) ∧ w' = w := by
  obtain ⟨c0, c1, c2, c3, c4, c5, c6, c7, c8, c9, c10⟩ := hN.cells
  have IX := Lib.hid idx_any
  go_enter Tryd.func15, Tryd.ntmps15
  go_wp2
  clear c0 c1 c2 c3 c4 c5 c6 c7 c8 c9 c10 hN
  generalize (Value.agg #[Value.string (bs [102, 108, 117, 115, 104]), Value.string (bs [99, 108, 111, 115, 101]), Value.string (bs [98, 97, 116, 99, 104]), Value.string (bs [97, 99, 107]), Value.string (bs [112, 105, 110, 103]), Value.string (bs [114, 101, 115, 101, 116]), Value.string (bs [115, 97, 118, 101]), Value.string (bs [108, 111, 97, 100]), Value.string (bs [110, 97, 109, 101]), Value.string (bs [117, 110, 116, 105, 108]), Value.string (bs [111, 112, 101, 110])]) = ag at IX ⊢
  go_loopg [6] 11 (fun gk s6 wx => ∃ j : Nat, j + gk = 11 ∧ s6 = .int .i64 j ∧ num (tl s) = numF (wds.drop j) j (tl s) ∧ wx = w)
  case atStart => exact ⟨0, rfl, rfl, rfl, rfl⟩
  case round =>
    obtain ⟨j, hjg, rfl, hn, rfl⟩ := hrel
    cases gk with
    | zero =>
      obtain rfl : j = 11 := by omega
      clear IX
      go_wp2
      go_ret
      exact ⟨rfl, rfl⟩
    | succ gq =>
      have hj : j < 11 := by omega
      have hj' : ((j : Nat) : Int) < 11 := by omega
      have ix := IX.out j hj
      rw [wds_drop j hj] at hn
      have HN := Lib.hid hn
      clear hn
      by_cases hw : wd j = tl s
      · have b1 : ((bs (wd j)).toList == s.toList) = true := by rw [beqq]; exact decide_eq_true hw
        have HW := Lib.hid hw
        clear hw
        go_wp2
        go_ret
        refine ⟨?_, rfl⟩
        rw [HN.out]; unfold numF; rw [if_pos HW.out]
        rfl
      · have b1 : ((bs (wd j)).toList == s.toList) = false := by rw [beqq]; exact decide_eq_false hw
        go_wp2
        go_roundg gq
        case measure => omega
        case rel => exact ⟨j + 1, by omega, by first | rfl | rw [wrap64_nat (by omega)] | simp, by rw [HN.out, numF, if_neg hw], rfl⟩

/-- The words of a set's capabilities below n; their text. -/
def sel (c : Nat) : Nat → List Bs
  | 0 => []
  | n + 1 => if c.testBit n = true then sel c n ++ [wd n] else sel c n
def txt (c : Nat) : Bs := Lib.join (sel c 11) [32]
theorem sel_len (c : Nat) : ∀ n, (sel c n).length ≤ n
  | 0 => Nat.le_refl _
  | n + 1 => by have := sel_len c n; unfold sel; split <;> simp <;> omega
theorem bit_at (j : Nat) (h : j < 11) : (2 : Int) ^ j % 4294967296 = ((2 ^ j : Nat) : Int) := by
  have : j = 0 ∨ j = 1 ∨ j = 2 ∨ j = 3 ∨ j = 4 ∨ j = 5 ∨ j = 6 ∨ j = 7 ∨ j = 8 ∨ j = 9 ∨ j = 10 := by omega
  rcases this with rfl | rfl | rfl | rfl | rfl | rfl | rfl | rfl | rfl | rfl | rfl <;> decide
theorem pow_lt (j : Nat) (h : j < 11) : 2 ^ j < 4294967296 := Nat.lt_of_lt_of_le (Nat.pow_lt_pow_right (by decide) h) (by decide)

def TextsAt (w : World) (base : Nat) (v : Value) (l : List Bs) : Prop := w.ownsRow base 9 1 v l.length (l.map fun x => .string (bs x))
theorem join_len : ∀ (xs : List Bs) (n : Nat), (∀ x ∈ xs, x.length ≤ n) → (Lib.join xs [32]).length ≤ xs.length * (n + 1)
  | [], n, _ => by simp [Lib.join_nil]
  | x :: r, n, h => by
    rw [Lib.join_length]
    have : ∀ ys : List Bs, (∀ y ∈ ys, y.length ≤ n) → Lib.lens ys ≤ ys.length * n := fun ys => by
      induction ys with
      | nil => intro _; simp [Lib.lens]
      | cons y ys ih =>
        intro h
        have h1 := ih (fun z hz => h z (List.mem_cons_of_mem _ hz))
        have h2 := h y List.mem_cons_self
        have h3 : Lib.lens (y :: ys) = y.length + Lib.lens ys := by simp [Lib.lens]
        rw [h3, List.length_cons, Nat.add_mul]; omega
    have h1 := this (x :: r) h
    simp only [List.length_cons, List.length_nil] at h1 ⊢
    rw [Nat.mul_add]; omega
theorem wd_len (k : Nat) (hk : k < 11) : (wd k).length ≤ 5 := by
  have : k = 0 ∨ k = 1 ∨ k = 2 ∨ k = 3 ∨ k = 4 ∨ k = 5 ∨ k = 6 ∨ k = 7 ∨ k = 8 ∨ k = 9 ∨ k = 10 := by omega
  rcases this with rfl | rfl | rfl | rfl | rfl | rfl | rfl | rfl | rfl | rfl | rfl <;> decide
theorem sel_words (c : Nat) : ∀ n, n ≤ 11 → ∀ x ∈ sel c n, ∃ k, k < 11 ∧ x = wd k
  | 0, _, x, h => by cases h
  | n + 1, hn, x, h => by
    unfold sel at h
    split at h
    · rcases List.mem_append.1 h with h | h
      · exact sel_words c n (by omega) x h
      · exact ⟨n, by omega, by simpa using h⟩
    · exact sel_words c n (by omega) x h

set_option maxRecDepth 100000 in
set_option maxHeartbeats 4000000 in
theorem text_any (c : Nat) (hc : c < 4294967296) (w : World) (hN : Wds w) : Calls Tryd.prog 10 #[.int .u32 (c : Nat)] w fun e w' => e = .returned (.string (bs (txt c))) ∧ Below w.heap.size w w' := by
  obtain ⟨c0, c1, c2, c3, c4, c5, c6, c7, c8, c9, c10⟩ := hN.cells
  obtain ⟨i0, hi0, hz0, hz1, hz2⟩ := info_parts infoStr
  have IX := Lib.hid idx_any
  have KH : Hid (∀ (j : Nat) (W : World), j < 11 → Calls Tryd.prog 28 #[.int .u32 (c : Nat), .int .u32 (2 ^ j : Nat)] W fun e w' => e = .returned (.bool (c.testBit j)) ∧ w' = W) := fun j W hj => by
    have := has_any c (2 ^ j) W hc (pow_lt j hj)
    rw [show decide (c &&& 2 ^ j = 2 ^ j) = c.testBit j by
      cases h : c.testBit j with
      | true => exact decide_eq_true ((has_bit c j).2 h)
      | false => exact decide_eq_false (fun e => by rw [(has_bit c j).1 e] at h; cases h)] at this
    exact this
  go_enter Tryd.func10, Tryd.ntmps10
  go_wp2
  clear c0 c1 c2 c3 c4 c5 c6 c7 c8 c9 c10 hN
  generalize (Value.agg #[Value.string (bs [102, 108, 117, 115, 104]), Value.string (bs [99, 108, 111, 115, 101]), Value.string (bs [98, 97, 116, 99, 104]), Value.string (bs [97, 99, 107]), Value.string (bs [112, 105, 110, 103]), Value.string (bs [114, 101, 115, 101, 116]), Value.string (bs [115, 97, 118, 101]), Value.string (bs [108, 111, 97, 100]), Value.string (bs [110, 97, 109, 101]), Value.string (bs [117, 110, 116, 105, 108]), Value.string (bs [111, 112, 101, 110])]) = ag at IX ⊢
  go_loopg [3, 7] 11 (fun gk s3 s7 wx => ∃ (j : Nat) (a : Option Addr) (cp : Nat), j + gk = 11 ∧ s7 = .int .i64 j ∧ s3 = .slice a (sel c j).length cp ∧ TextsAt wx w.heap.size s3 (sel c j) ∧ Below w.heap.size w wx)
  case atStart => exact ⟨0, none, 0, rfl, rfl, rfl, World.ownsRow_nil _ _ _ _, Below.refl _ _⟩
  case round =>
    obtain ⟨j, a, cp, hjg, rfl, rfl, ht, hB⟩ := hrel
    cases gk with
    | zero =>
      obtain rfl : j = 11 := by omega
      clear IX KH
      have hl := sel_len c 11
      have KJ : Hid (Calls Tryd.prog 29 #[.slice a (sel c 11).length cp, .string ⟨#[32]⟩] wr fun e w' => e = .returned (.string (bs (txt c))) ∧ Below w.heap.size w w') := by
        obtain ⟨h1, ⟨h2, h3⟩ | ⟨g, cap, cur, h2, h3, h4, h5, h6, h7, h8⟩⟩ := id ht
        · simp only [Value.slice.injEq] at h2
          obtain ⟨rfl, h4, rfl⟩ := h2
          rw [h4]
          refine (Tryd.strings_Join_none none 0 ⟨#[32]⟩ wr).mono fun e w' ⟨q1, q2⟩ => ⟨?_, q2 ▸ hB⟩
          rw [q1, txt, List.eq_nil_of_length_eq_zero h4]; rfl
        · simp only [Value.slice.injEq, true_and] at h2
          obtain ⟨rfl, rfl⟩ := h2
          have := Tryd.strings_Join g 0 cp ((sel c 11).map bs) ⟨#[32]⟩ wr (fun j x hj => ?_) (Array.getElem?_eq_some_iff.1 h4).1 (by rw [List.length_map]; omega) (by rw [List.length_map]; omega) ?_
          · rw [List.length_map] at this
            refine this.mono fun e w' ⟨q1, q2⟩ => ⟨?_, hB.trans (q2.mono hB.size)⟩
            rw [q1, List.map_map]
            have e1 : ((fun x : ByteArray => x.data.toList) ∘ bs) = id := by funext x; simp [bs]
            rw [e1, List.map_id]; rfl
          · rw [Nat.zero_add, cell_at h4 j]
            have hjl : j < (sel c 11).length := by have := (List.getElem?_eq_some_iff.1 hj).1; rwa [List.length_map] at this
            have h9 : (cur.toList.take ((sel c 11).length * 1))[j]? = ((sel c 11).map fun x => Value.string (bs x))[j]? := by rw [h8]
            rw [List.getElem?_take_of_lt (by omega)] at h9
            rw [List.getElem?_map] at hj h9
            obtain ⟨y, hy, rfl⟩ := Option.map_eq_some_iff.1 hj
            rw [hy] at h9
            simpa using h9
          · rw [List.map_map]
            have e1 : ((fun x : ByteArray => x.data.toList) ∘ bs) = id := by funext x; simp [bs]
            rw [e1, List.map_id]
            have := join_len (sel c 11) 5 (fun x hx => by obtain ⟨k, hk, rfl⟩ := sel_words c 11 (Nat.le_refl _) x hx; exact wd_len k hk)
            have e2 : (⟨#[32]⟩ : ByteArray).data.toList = [32] := rfl
            rw [e2]; omega
      clear ht
      go_wp2_with (first
        | (go_at_call 29; refine KJ.out.mono ?_; rintro e w2 ⟨rfl, h2⟩))
      go_ret
      exact ⟨rfl, h2⟩
    | succ gq =>
      have hj : j < 11 := by omega
      have hj' : ((j : Nat) : Int) < 11 := by omega
      have ix := IX.out j hj
      have b1 := bit_at j hj
      have KHj := Lib.hid (KH.out j wr hj)
      have hl := sel_len c j
      have HT := Lib.hid ht
      clear ht
      cases hb : c.testBit j with
      | false =>
        rw [hb] at KHj
        go_wp2_with (first
          | (go_at_call 28; refine KHj.out.mono ?_; rintro e w2 ⟨rfl, rfl⟩))
        go_roundg gq
        case measure => omega
        case rel =>
          have e : sel c (j + 1) = sel c j := by rw [sel, hb]; rfl
          exact ⟨j + 1, a, cp, by omega, by first | rfl | rw [wrap64_nat (by omega)] | simp, by rw [e], by rw [e]; exact HT.out, hB⟩
      | true =>
        rw [hb] at KHj
        go_wp2_with (first
          | (go_at_call 28; refine KHj.out.mono ?_; rintro e w2 ⟨rfl, rfl⟩)
          | (at_builtin; refine wpList_append_own_at _ rfl _ _ 42 rfl w.heap.size 9 i0 (.string ⟨#[]⟩) 1 16 Tryd.underlying42 hi0 hz0 hz1 hz2 rfl (by decide) (.slice a (sel c j).length cp) _ _ rfl (HT.out.alloc _) ⟨w2.heap.size, 0, none⟩ 1 1 [.string (bs (wd j))] rfl rfl (cell_one_new _ _ _) (by simp [Value.oneCell']) (by unfold maxLen; omega) (by omega) (by have := hB.size; simp; omega) ?_; intro v4 w4 ho4 hg4 hn4 ha4
             obtain ⟨a4, d4, rfl⟩ : ∃ a4 d4, v4 = .slice a4 ((sel c j).length + 1) d4 := by
               obtain ⟨_, ⟨rfl, h2⟩ | ⟨g, d, cur, h2, _⟩⟩ := ho4
               · omega
               · exact ⟨_, _, h2⟩))
        go_roundg gq
        case measure => omega
        case rel =>
          have e : sel c (j + 1) = sel c j ++ [wd j] := by rw [sel, hb]; rfl
          refine ⟨j + 1, a4, d4, by omega, by first | rfl | rw [wrap64_nat (by omega)] | simp, ?_, ?_, ?_⟩
          · rw [e, List.length_append]; rfl
          · unfold TextsAt
            rw [e, List.length_append, List.map_append]
            exact ho4
          · exact below_grown (hB.alloc hB.size _) hg4 (HT.out.alloc _) (Nat.le_refl _)
end Go.Proofs.YtanjkljcoccblaaDoor
