/- The law CapsTexts at every set, number and text; what is asked of the world: the table of words as its text lays it. -/
import Derived.Test.YtanjkljcoccblaaDoorCm
namespace Go.Proofs.YtanjkljcoccblaaDoor
open Go.RowKit Go.Maps
set_option maxRecDepth 100000 in
set_option maxHeartbeats 4000000 in
theorem law_texts (c : Nat) (hc : c < 4294967296) (k : Int) (s : ByteArray) (hs : s.size ≤ 9223372036854775807) (w : World) (hN : Wds w) : Calls Tryd.prog 3 #[.int .u32 (c : Nat), .int .i64 k, .string s] w fun e w' => e = .returned (.bool true) ∧ Below w.heap.size w w' := by
  have up : ∀ {e : Ending} {W w' : World} {v : Ending}, Below w.heap.size w W → (e = v ∧ Below W.heap.size W w') → (e = v ∧ Below w.heap.size w w') := fun h ⟨q1, q2⟩ => ⟨q1, h.trans (q2.mono h.size)⟩
  have up0 : ∀ {e : Ending} {W w' : World} {v : Ending}, Below w.heap.size w W → (e = v ∧ w' = W) → (e = v ∧ Below w.heap.size w w') := fun h ⟨q1, q2⟩ => ⟨q1, q2 ▸ h⟩
  have ht : (txt c).length ≤ 66 := by have := pre_len c 11 (Nat.le_refl _); exact this
  have hpt := prs_txt c
  obtain ⟨T, hT⟩ : ∃ T, bs (txt c) = T := ⟨_, rfl⟩
  have hTt : tl T = txt c := by rw [← hT, tl_bs]
  have hTs : T.size ≤ 9223372036854775807 := by rw [← hT, bs_size]; omega
  obtain ⟨X, bo, hX⟩ : ∃ X bo, prs (tl s) = (X, bo) := ⟨_, _, rfl⟩
  obtain ⟨nm, hnm⟩ : ∃ n, num (tl s) = n := ⟨_, rfl⟩
  obtain ⟨wk, hwk⟩ : ∃ x, bs (wrd k) = x := ⟨_, rfl⟩
  have K1 : Hid (∀ W, Below w.heap.size w W → Calls Tryd.prog 8 #[.string s] W fun e w' => e = .returned (.tuple #[.int .u32 (X : Nat), .bool bo]) ∧ Below w.heap.size w w') := fun W h => by
    have := parse_any s hs W (hN.below h); rw [hX] at this; exact this.mono fun e w' q => up h q
  have K2 : Hid (∀ W, Below w.heap.size w W → Calls Tryd.prog 9 #[.string s] W fun e w' => e = .returned (.tuple #[.int .u32 (X : Nat), .bool bo]) ∧ Below w.heap.size w w') := fun W h => by
    have := rparse_any s W; rw [hX] at this; exact this.mono fun e w' q => up h q
  have K3 : Hid (∀ W, Below w.heap.size w W → Calls Tryd.prog 10 #[.int .u32 (c : Nat)] W fun e w' => e = .returned (.string T) ∧ Below w.heap.size w w') := fun W h => by
    have := text_any c hc W (hN.below h); rw [hT] at this; exact this.mono fun e w' q => up h q
  have K4 : Hid (∀ W, Below w.heap.size w W → True → Calls Tryd.prog 8 #[.string T] W fun e w' => e = .returned (.tuple #[.int .u32 (c % 2048 : Nat), .bool true]) ∧ Below w.heap.size w w') := fun W h _ => by
    have := parse_any T hTs W (hN.below h); rw [hTt, hpt] at this; exact this.mono fun e w' q => up h q
  have K5 : Hid (∀ W, Below w.heap.size w W → Calls Tryd.prog 11 #[.int .u32 (c : Nat)] W fun e w' => e = .returned (.bool (decide (c ≤ 2047))) ∧ Below w.heap.size w w') := fun W h => (valid_any c hc W).mono fun e w' q => up0 h q
  have K6 : Hid (∀ W, Below w.heap.size w W → Calls Tryd.prog 12 #[.int .u32 (c : Nat)] W fun e w' => e = .returned (.bool (decide (c ≤ 2047))) ∧ Below w.heap.size w w') := fun W h => (rvalid_any c W).mono fun e w' q => up0 h q
  have K7 : Hid (∀ W, Below w.heap.size w W → Calls Tryd.prog 13 #[.int .i64 k] W fun e w' => e = .returned (.string wk) ∧ Below w.heap.size w w') := fun W h => by
    have := word_any k W (hN.below h); rw [hwk] at this; exact this.mono fun e w' q => up0 h q
  have K8 : Hid (∀ W, Below w.heap.size w W → Calls Tryd.prog 14 #[.int .i64 k] W fun e w' => e = .returned (.string wk) ∧ Below w.heap.size w w') := fun W h => by
    have := rword_any k W; rw [hwk] at this; exact this.mono fun e w' q => up h q
  have K9 : Hid (∀ W, Below w.heap.size w W → Calls Tryd.prog 15 #[.string s] W fun e w' => e = .returned (.int .i64 nm) ∧ Below w.heap.size w w') := fun W h => by
    have := num_any s W (hN.below h); rw [hnm] at this; exact this.mono fun e w' q => up0 h q
  have K10 : Hid (∀ W, Below w.heap.size w W → Calls Tryd.prog 16 #[.string s] W fun e w' => e = .returned (.int .i64 nm) ∧ Below w.heap.size w w') := fun W h => by
    have := rnum_any s W; rw [hnm] at this; exact this.mono fun e w' q => up h q
  have K11 : Hid (∀ W, Below w.heap.size w W → Calls Tryd.prog 17 #[.int .u32 (c : Nat)] W fun e w' => e = .returned (.string T) ∧ Below w.heap.size w w') := fun W h => by
    have := rtext_any c hc W; rw [hT] at this; exact this.mono fun e w' q => up h q
  have K12 : Hid (∀ W, Below w.heap.size w W → Calls Tryd.prog 18 #[] W fun e w' => e = .returned (.bool true) ∧ Below w.heap.size w w') := fun W h => (awake_any W (hN.below h)).mono fun e w' q => up h q
  have e0 : bits .and .u32 (c : Int) 2047 = ((c % 2048 : Nat) : Int) := by
    have := (u32_bits c 2047 hc (by decide)).1
    rw [show c &&& 2047 = c % 2048 from Nat.and_two_pow_sub_one_eq_mod c 11] at this; exact this
  obtain ⟨Q, hQ⟩ : ∃ Q, c % 2048 = Q := ⟨_, rfl⟩
  rw [hQ] at e0 K4
  obtain ⟨vb, hvb⟩ : ∃ b, decide (c ≤ 2047) = b := ⟨_, rfl⟩
  rw [hvb] at K5 K6
  have hb0 := Below.refl w.heap.size w
  clear up up0 ht hpt hT hTt hTs hX hnm hwk hN hs hc hQ hvb
  go_enter Tryd.func3, Tryd.ntmps3
  go_wp2_with (first
    | (go_at_call 8; refine (K4.out _ hk ht3).mono ?_; rintro e w2 ⟨rfl, hk⟩)
    | (go_at_call 8; refine (K1.out _ hb0).mono ?_; rintro e w2 ⟨rfl, hk⟩)
    | (go_at_call 9; refine (K2.out _ hk).mono ?_; rintro e w2 ⟨rfl, hk⟩)
    | (go_at_call 10; refine (K3.out _ hk).mono ?_; rintro e w2 ⟨rfl, hk⟩; have ht3 : True := trivial)
    | (go_at_call 11; refine (K5.out _ hk).mono ?_; rintro e w2 ⟨rfl, hk⟩)
    | (go_at_call 12; refine (K6.out _ hk).mono ?_; rintro e w2 ⟨rfl, hk⟩)
    | (go_at_call 13; refine (K7.out _ hk).mono ?_; rintro e w2 ⟨rfl, hk⟩)
    | (go_at_call 14; refine (K8.out _ hk).mono ?_; rintro e w2 ⟨rfl, hk⟩)
    | (go_at_call 15; refine (K9.out _ hk).mono ?_; rintro e w2 ⟨rfl, hk⟩)
    | (go_at_call 16; refine (K10.out _ hk).mono ?_; rintro e w2 ⟨rfl, hk⟩)
    | (go_at_call 17; refine (K11.out _ hk).mono ?_; rintro e w2 ⟨rfl, hk⟩)
    | (go_at_call 18; refine (K12.out _ hk).mono ?_; rintro e w2 ⟨rfl, hk⟩))
  go_ret
  exact ⟨rfl, hk⟩
end Go.Proofs.YtanjkljcoccblaaDoor
