/- strings.ContainsAny at the plus and the hash, at every text of at most 1048577 bytes: does one of the two bytes stand in it; the walk of IndexAny's and IndexRune's own text where the shelf has no contract; no condition but those that each theorem names. -/
import Derived.Test.YtkgbpildikjoiaaGreatDoorShelf
import Derived.ScopeJumps
import Derived.WalkMore
import Derived.Deep.LoopGhost
import Derived.Laws.RangeAny
import Derived.Laws.Runes
import Derived.Lib.TrimUEq
import Derived.Lib.ValidLaws
import Derived.Lib.MapLaws
import Derived.Lib.OthersKept
import Derived.Test.YtkgbpildikjoiaaGreatDoorTb
namespace Go.Proofs.YtkgbpildikjoiaaGreatDoor
open Go.RowKit Tp

set_option maxRecDepth 1000000 in
set_option maxHeartbeats 2000000 in
theorem indexRune_err (w : World) :
    Calls Tryz.prog 95 #[.string ⟨#[43, 35]⟩, .int .i32 65533] w fun e w' => e = .returned (.int .i64 (-1)) ∧ Below w.heap.size w w' := by
  obtain ⟨s, hs⟩ : ∃ s : ByteArray, ⟨#[43, 35]⟩ = s := ⟨_, rfl⟩
  have hsz : s.size = 2 := by rw [← hs]; rfl
  have hlow : ∀ i (h : i < s.size), (s[i]'h).toNat < 128 := by
    subst hs
    intro i h
    have : i = 0 ∨ i = 1 := by have : i < 2 := h; omega
    rcases this with rfl | rfl
    · show (43 : UInt8).toNat < 128; decide
    · show (35 : UInt8).toNat < 128; decide
  rw [hs]
  go_enter Tryz.func95, Tryz.ntmps95
  go_wp2
  go_loopg [5, 6] 2 (fun g _ _ wx => ∃ i : Nat, i + g = 2 ∧ wx = w.iter s i)
  case atStart => exact ⟨0, rfl, rfl⟩
  case round =>
    obtain ⟨i, hig, rfl⟩ := hrel
    cases gk with
    | zero =>
      obtain rfl : i = s.size := by omega
      have hnx := run_next_end (P := Tryz.prog) w s s.size
      rw [hsz] at hnx
      go_wp2
      go_ret
      exact ⟨rfl, (Below.refl _ w).alloc (Nat.le_refl _) _⟩
    | succ g =>
      have hi : i < s.size := by omega
      have hnx := fun ty => run_next_ascii (P := Tryz.prog) w s i ty hi (hlow i hi)
      have hl := hlow i hi
      have hne : ((((s[i]'hi).toNat : Nat) : Int) == 65533) = false := by simp; omega
      go_wp2
      go_roundg g
      case measure => omega
      case rel => exact ⟨i + 1, by omega, rfl⟩

set_option maxRecDepth 1000000 in
set_option maxHeartbeats 2000000 in
theorem indexRune_high (r : Int) (h : 128 ≤ r) (h2 : r ≤ 1114111) (hv : Lib.validRune r = true) (he : r ≠ 65533) (w : World) :
    Calls Tryz.prog 95 #[.string ⟨#[43, 35]⟩, .int .i32 r] w fun e w' => e = .returned (.int .i64 (-1)) ∧ Below w.heap.size w w' := by
  have h0 : 0 ≤ r := by omega
  have h1 : ¬ r < 128 := by omega
  have he' : (r == 65533) = false := by simpa using he
  have hvu : Utf8.valid r = true := by simp [Lib.validRune] at hv; simp [Utf8.valid]; omega
  obtain ⟨f1, f2, f3⟩ := encode_facts r hvu h
  obtain ⟨rs, hrs⟩ : ∃ rs, Utf8.encode r = rs := ⟨_, rfl⟩
  rw [hrs] at f1 f2 f3
  have f4 := f3 (by omega)
  obtain ⟨c, hc⟩ : ∃ c, rs[rs.size - 1]'(by omega) = c := ⟨_, rfl⟩
  rw [hc] at f4
  clear f3
  go_enter Tryz.func95, Tryz.ntmps95
  go_wp2_with (go_at_call 107; refine (Tryz.utf8_ValidRune _ _).mono ?_; rintro e w' ⟨rfl, hw⟩; rw [hw, hv])
  go_step3
  go_wp2
  go_loopg [9] 0 (fun g s9 wx => wx = w ∧ s9 = .int .i64 ((rs.size : Int) - 1))
  case atStart => exact ⟨rfl, rfl⟩
  case round =>
    obtain ⟨rfl, rfl⟩ := hrel
    by_cases h3 : rs.size = 2
    · have e1 : (rs.size : Int) - 1 = 1 := by omega
      have hc1 : rs[1]'(by omega) = c := by rw [← hc]; congr 1; omega
      rw [e1]
      have hne : ((35 : Int) == (c.toNat : Int)) = false := by simp; omega
      have h35 : ((⟨#[43, 35]⟩ : ByteArray)[1]'(by decide)).toNat = 35 := rfl
      have hi0 : ∀ c, Lib.indexByte ByteArray.empty.data.toList c = -1 := fun _ => rfl
      have hw2 : IntKind.i64.wrap 2 = 2 := by decide
      have hw3 : (⟨#[43, 35]⟩ : ByteArray).size = 2 := rfl
      go_wp2
      go_step3
      go_wp2
      go_quiet (fail)
      have hB5 : Below wr.heap.size wr (wr.drewN nq) := below_drewN (Below.refl _ _) nq
      generalize wr.drewN nq = w5 at hB5 ⊢
      go_wp2
      go_quiet ((go_at_call 81; exact Calls.quiet_of_same (Tryz.strings_IndexByte _ _ _)))
      have hB6 : Below wr.heap.size wr (w5.drewN nq) := below_drewN hB5 nq
      generalize w5.drewN nq = w6 at hB6 ⊢
      go_wp2
      simp only [Exit.noGoto, Exit.inBlock, Exit.then]
      go_ret
      exact ⟨rfl, hB6⟩
    · have e1 : ¬ ((rs.size : Int) - 1 < 2) := by omega
      go_wp2
      go_ret
      exact ⟨rfl, Below.refl _ _⟩

/-- A rune that begins with a byte from 128 on: its bytes, its value. -/
theorem dec_high (l : Bs) (hn : l ≠ []) (h : 128 ≤ (l.getD 0 0).toNat) :
    (Lib.decodeL l).2 ≤ l.length ∧ (∀ j, j < (Lib.decodeL l).2 → 128 ≤ (l.getD j 0).toNat) ∧ 128 ≤ (Lib.decodeL l).1 ∧ (Lib.decodeL l).1 ≤ 1114111 ∧ Lib.validRune ((Lib.decodeL l).1 : Int) = true := by
  have hl := List.length_pos_iff.2 hn
  rw [Lib.decodeL_N]
  have b0 := (l.getD 0 0).toNat_lt
  have b1 := (l.getD 1 0).toNat_lt
  have b2 := (l.getD 2 0).toNat_lt
  have b3 := (l.getD 3 0).toNat_lt
  have key : ∀ k r : Nat, k ≤ l.length → (∀ j, j < k → 128 ≤ (l.getD j 0).toNat) → 128 ≤ r → (r < 55296 ∨ (57344 ≤ r ∧ r ≤ 1114111)) → k ≤ l.length ∧ (∀ j, j < k → 128 ≤ (l.getD j 0).toNat) ∧ 128 ≤ r ∧ r ≤ 1114111 ∧ Lib.validRune (r : Int) = true := by
    intro k r h1 h2 h3 h4
    refine ⟨h1, h2, h3, by omega, ?_⟩
    simp only [Lib.validRune, decide_eq_true_eq]
    omega
  have one : ∀ j, j < 1 → 128 ≤ (l.getD j 0).toNat := by
    intro j hj
    obtain rfl : j = 0 := by omega
    exact h
  unfold Lib.decodeN
  rw [if_neg (by omega)]
  split
  · rename_i c
    split
    · exact key 2 _ (by omega) (fun j hj => by
        have : j = 0 ∨ j = 1 := by omega
        rcases this with rfl | rfl <;> omega) (by omega) (by omega)
    · exact key 1 _ (by omega) one (by omega) (by omega)
  · split
    · rename_i c
      split
      · rename_i d
        exact key 3 _ (by omega) (fun j hj => by
          have : j = 0 ∨ j = 1 ∨ j = 2 := by omega
          rcases this with rfl | rfl | rfl <;> omega) (by omega) (by omega)
      · exact key 1 _ (by omega) one (by omega) (by omega)
    · split
      · rename_i c
        split
        · rename_i d
          exact key 4 _ (by omega) (fun j hj => by
            have : j = 0 ∨ j = 1 ∨ j = 2 ∨ j = 3 := by omega
            rcases this with rfl | rfl | rfl | rfl <;> omega) (by omega) (by omega)
        · exact key 1 _ (by omega) one (by omega) (by omega)
      · exact key 1 _ (by omega) one (by omega) (by omega)

/-- IndexRune at the plus and the hash of a rune from 128 on. -/
theorem indexRune_no (r : Int) (h : 128 ≤ r) (h2 : r ≤ 1114111) (hv : Lib.validRune r = true) (w : World) :
    Calls Tryz.prog 95 #[.string ⟨#[43, 35]⟩, .int .i32 r] w fun e w' => e = .returned (.int .i64 (-1)) ∧ Below w.heap.size w w' := by
  by_cases he : r = 65533
  · subst he; exact indexRune_err w
  · exact indexRune_high r h h2 hv he w

/-- Neither byte stands ahead of a place. -/
def NoW (l : Bs) (i : Nat) : Prop := ∀ j b, j < i → l[j]? = some b → b ≠ 43 ∧ b ≠ 35
theorem NoW.wc {l : Bs} (h : NoW l l.length) : wc l = false := by
  rw [Tp.wc, List.any_eq_false]
  intro b hb
  obtain ⟨j, hj, rfl⟩ := List.getElem_of_mem hb
  have := h j _ hj (List.getElem?_eq_getElem hj)
  simpa using this
theorem wc_at {l : Bs} {j : Nat} {b : UInt8} (h : l[j]? = some b) (hb : b = 43 ∨ b = 35) : wc l = true := by
  rw [Tp.wc, List.any_eq_true]
  exact ⟨b, List.mem_of_getElem? h, by rcases hb with rfl | rfl <;> rfl⟩

theorem tl_get (s : ByteArray) (i : Nat) (h : i < s.size) : (tl s)[i]? = some (s[i]'h) := by
  rw [tl_data]; exact Lib.data_getElem? s i h

theorem idx_no (x : UInt8) (h1 : x ≠ 43) (h2 : x ≠ 35) : Lib.indexByte [43, 35] x = -1 := by
  have a1 : ((43 : UInt8) == x) = false := by simpa using Ne.symm h1
  have a2 : ((35 : UInt8) == x) = false := by simpa using Ne.symm h2
  simp [Lib.indexByte, a1, a2]
theorem idx_yes (x : UInt8) (h : x = 43 ∨ x = 35) : (0 : Int) ≤ Lib.indexByte [43, 35] x := by
  rcases h with rfl | rfl <;> decide

set_option maxRecDepth 1000000 in
set_option maxHeartbeats 4000000 in
theorem indexAny_short (s : ByteArray) (w : World) (h8 : s.size ≤ 8) :
    Calls Tryz.prog 82 #[.string s, .string ⟨#[43, 35]⟩] w fun e w' => ∃ q : Int, e = .returned (.int .i64 q) ∧ decide (0 ≤ q) = wc (tl s) ∧ Below w.heap.size w w' := by
  have h8z : decide ((8 : Int) < (s.size : Int)) = false := decide_eq_false (by omega)
  go_enter Tryz.func82, Tryz.ntmps82
  go_wp2_with (go_at_call 96; refine (Tryz.strings_shouldUseASCIISet _ _).mono ?_; rintro e w' ⟨rfl, hw⟩; rw [hw, h8z])
  go_loopg [9, 10] s.size (fun g _ _ wx => ∃ i : Nat, i ≤ s.size ∧ s.size - i ≤ g ∧ wx.heap[w.heap.size]? = some (.stringIter s i) ∧ Below w.heap.size w wx ∧ NoW (tl s) i)
  case atStart => exact ⟨0, Nat.zero_le _, Nat.le_refl _, heap_alloc_new w _, (Below.refl _ w).alloc (Nat.le_refl _) _, fun j b hj => absurd hj (Nat.not_lt_zero _)⟩
  case round =>
    obtain ⟨i, his, hig, hit, hB, hno⟩ := hrel
    have HN : Hid (NoW (tl s) i) := hno
    clear hno
    have HB := hB.size
    by_cases hi : i < s.size
    · obtain ⟨g, rfl⟩ : ∃ g, gk = g + 1 := ⟨gk - 1, by omega⟩
      obtain ⟨x, hx⟩ : ∃ x : UInt8, s[i]'hi = x := ⟨_, rfl⟩
      have hxl : Hid ((tl s)[i]? = some x) := by rw [← hx]; exact tl_get s i hi
      by_cases hasc : x.toNat < 128
      · have hnx := fun ty => Lib.run_next_ascii_at (P := Tryz.prog) wr _ s i ty hit hi (by rw [hx]; exact hasc)
        rw [hx] at hnx
        have hit' := Lib.iterAt_heap wr _ s i (i + 1) hit
        have hB' : Below w.heap.size w (wr.iterAt w.heap.size s (i + 1)) := Lib.below_iterAt hB (Nat.le_refl _) s (i + 1)
        generalize wr.iterAt w.heap.size s (i + 1) = w1 at hnx hit' hB'
        have hback : ((x.toNat : Int)).toNat.toUInt8 = x := by simp
        clear hx
        by_cases h43 : x = 43 ∨ x = 35
        · have hge : (0 : Int) ≤ Lib.indexByte [43, 35] x := idx_yes x h43
          go_wp2_with (go_at_call 95; refine (Tryz.strings_IndexRune_ascii _ _ _ (by omega) (by omega)).mono ?_; rintro e w' ⟨rfl, hw⟩; rw [hw, hback])
          go_ret
          exact ⟨_, rfl, by rw [wc_at hxl h43]; simp, hB'⟩
        · have hlt : ¬ ((0 : Int) ≤ Lib.indexByte [43, 35] x) := by rw [idx_no x (fun e => h43 (.inl e)) (fun e => h43 (.inr e))]; decide
          go_wp2_with (go_at_call 95; refine (Tryz.strings_IndexRune_ascii _ _ _ (by omega) (by omega)).mono ?_; rintro e w' ⟨rfl, hw⟩; rw [hw, hback])
          go_roundg g
          case measure => omega
          case rel =>
            refine ⟨i + 1, by omega, by omega, hit', hB', ?_⟩
            intro j b hj hb
            by_cases hji : j < i
            · exact HN j b hji hb
            · obtain rfl : j = i := by omega
              rw [show (tl s)[j]? = some x from hxl] at hb
              cases hb
              exact ⟨fun e => h43 (.inl e), fun e => h43 (.inr e)⟩
      · have hnx := fun ty => Lib.run_next_any_at (P := Tryz.prog) wr _ s i ty hit hi
        have hd := Lib.decodeL_drop s i
        rw [← tl_data] at hd
        have hnn : (tl s).drop i ≠ [] := by
          intro e
          have := congrArg List.length e
          rw [List.length_drop, tl_size, List.length_nil] at this
          omega
        have h0 : ((tl s).drop i).getD 0 0 = x := by
          rw [Lib.getD_dropU, Nat.add_zero, List.getD, show (tl s)[i]? = some x from hxl]; rfl
        obtain ⟨d1, d2, d3, d4, d5⟩ := dec_high ((tl s).drop i) hnn (by rw [h0]; omega)
        rw [hd] at d1 d2 d3 d4 d5
        rw [List.length_drop, tl_size] at d1
        have hwd : 1 ≤ (Utf8.decode s i).2 := by rw [← hd]; exact Lib.decodeL_width _
        generalize (Utf8.decode s i).1 = r at hnx d3 d4 d5
        generalize (Utf8.decode s i).2 = k at hnx d1 d2 hwd
        have D2 : Hid (∀ j, j < k → 128 ≤ (((tl s).drop i).getD j 0).toNat) := d2
        clear d2 hd h0 hnn hx
        have hit' := Lib.iterAt_heap wr _ s i (i + k) hit
        have hB' : Below w.heap.size w (wr.iterAt w.heap.size s (i + k)) := Lib.below_iterAt hB (Nat.le_refl _) s (i + k)
        have hsz : w.heap.size < (wr.iterAt w.heap.size s (i + k)).heap.size := (Array.getElem?_eq_some_iff.1 hit').1
        generalize wr.iterAt w.heap.size s (i + k) = w1 at hnx hit' hB' hsz
        go_wp2_with (go_at_call 95; refine (indexRune_no _ (by omega) (by omega) d5 _).mono ?_; rintro e w2 ⟨rfl, hB2⟩)
        have hit2 := (hB2.block w.heap.size hsz).trans hit'
        go_roundg g
        case measure => omega
        case rel =>
          refine ⟨i + k, by omega, by omega, hit2, hB'.trans (hB2.mono (by omega)), ?_⟩
          intro j b hj hb
          by_cases hji : j < i
          · exact HN j b hji hb
          · have := D2 (j - i) (by omega)
            rw [Lib.getD_dropU, show i + (j - i) = j by omega, List.getD, hb] at this
            simp only [Option.getD_some] at this
            constructor <;> (rintro rfl; exact absurd this (by decide))
    · have hnx := fun ty => Lib.run_next_end_at (P := Tryz.prog) wr _ s i ty hit hi
      have hno : wc (tl s) = false := NoW.wc (l := tl s) (by rw [tl_size, show s.size = i by omega]; exact HN)
      go_wp2
      go_ret
      exact ⟨_, rfl, by rw [hno]; decide, hB⟩

theorem v55 : ∀ w, (zeroValue 153).run Tryz.prog w = .ok (.agg (Array.replicate 256 (.bool false))) w := by
  have h : (Tryz.prog.info? 153).map (·.zero) = some (some (.agg (Array.replicate 256 (.bool false)))) := by kernel_rfl
  intro w
  obtain ⟨i, hi, hz⟩ := Option.map_eq_some_iff.1 h
  simp [zeroValue, typeInfo, hi, hz]

theorem indexAny_wc (l : Bs) : decide ((0 : Int) ≤ Lib.indexAny l [43, 35]) = wc l := by
  induction l with
  | nil => rfl
  | cons b l ih =>
    have hge := Lib.indexAny_ge [43, 35] l
    rw [Lib.indexAny]
    by_cases hb : [(43 : UInt8), 35].contains b = true
    · rw [if_pos hb]
      have h : b = 43 ∨ b = 35 := by simpa using hb
      rw [wc_at (j := 0) (b := b) rfl h]
      decide
    · rw [if_neg hb]
      have h : ¬ (b = 43 ∨ b = 35) := by simpa using hb
      have e : wc (b :: l) = wc l := by
        have h1 : (b == 43) = false := by simpa using fun e => h (.inl e)
        have h2 : (b == 35) = false := by simpa using fun e => h (.inr e)
        simp [Tp.wc, h1, h2]
      rw [e, ← ih]
      split
      · rename_i h1
        have h1 : Lib.indexAny l [43, 35] = -1 := by simpa using h1
        rw [h1]
      · rename_i h1
        have h1 : Lib.indexAny l [43, 35] ≠ -1 := by simpa using h1
        exact decide_eq_decide.2 (by omega)

theorem containsAny_any (s : ByteArray) (w : World) (hs : s.size ≤ 1048577) :
    Calls Tryz.prog 70 #[.string s, .string ⟨#[43, 35]⟩] w fun e w' => e = .returned (.bool (wc (tl s))) ∧ Below w.heap.size w w' := by
  have key : Calls Tryz.prog 82 #[.string s, .string ⟨#[43, 35]⟩] w fun e w' => ∃ q : Int, e = .returned (.int .i64 q) ∧ decide (0 ≤ q) = wc (tl s) ∧ Below w.heap.size w w' := by
    by_cases h8 : s.size ≤ 8
    · exact indexAny_short s w h8
    · refine (Tryz.strings_IndexAny_long v55 s ⟨#[43, 35]⟩ w (by decide) (by omega) (by omega) (by decide) ?_).mono ?_
      · intro j b hj
        have : b ∈ [(43 : UInt8), 35] := List.mem_of_getElem? hj
        simp at this
        rcases this with rfl | rfl <;> decide
      · rintro e w' ⟨rfl, rfl⟩
        exact ⟨_, rfl, by rw [← tl_data]; exact indexAny_wc _, ((Below.refl _ w).alloc (Nat.le_refl _) _).alloc (by simp) _⟩
  go_enter Tryz.func70, Tryz.ntmps70
  go_wp2_with (go_at_call 82; refine key.mono ?_; rintro e w' ⟨q, rfl, hq, hB⟩)
  go_ret
  exact ⟨rfl, hB⟩
end Go.Proofs.YtkgbpildikjoiaaGreatDoor
