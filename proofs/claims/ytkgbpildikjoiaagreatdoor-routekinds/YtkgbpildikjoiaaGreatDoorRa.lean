/- The document's own answers, walked: has, plain, Name, Levels, Filter of the reference; what is asked of the world: the two tables of unicode/utf8 as their text lays them. -/
import Derived.Test.YtkgbpildikjoiaaGreatDoorTf
import Derived.Test.YtkgbpildikjoiaaGreatDoorTq
namespace Go.Proofs.YtkgbpildikjoiaaGreatDoor
open Go.RowKit Tp

theorem u8eq (x c : UInt8) : (((x.toNat : Nat) : Int) == (c.toNat : Int)) = (x == c) := by
  by_cases h : x = c
  · subst h; simp
  · have h1 : (x == c) = false := by simpa using h
    rw [h1]
    have : x.toNat ≠ c.toNat := fun e => h (UInt8.toNat_inj.1 e)
    simp; omega

theorem u43 (x : UInt8) : (((x.toNat : Nat) : Int) == 43) = (x == 43) := u8eq x 43
theorem u35 (x : UInt8) : (((x.toNat : Nat) : Int) == 35) = (x == 35) := u8eq x 35
theorem u47 (x : UInt8) : (((x.toNat : Nat) : Int) == 47) = (x == 47) := u8eq x 47
theorem u36 (x : UInt8) : (((x.toNat : Nat) : Int) == 36) = (x == 36) := u8eq x 36
theorem u0 (x : UInt8) : (((x.toNat : Nat) : Int) == 0) = (x == 0) := u8eq x 0

set_option maxRecDepth 100000 in
set_option maxHeartbeats 1000000 in
theorem rhas_any (s : ByteArray) (w : World) (hs : s.size ≤ 1048577) :
    Calls Tryz.prog 36 #[.string s, .int .u8 43, .int .u8 35] w fun e w' => e = .returned (.bool (wc (tl s))) ∧ w' = w := by
  go_enter Tryz.func36, Tryz.ntmps36
  go_wp2
  go_loopg [7] s.size (fun g s7 wx => ∃ i : Nat, i + g = s.size ∧ s7 = .int .i64 i ∧ wx = w ∧ NoW (tl s) i)
  case atStart => exact ⟨0, by omega, rfl, rfl, fun j b hj => absurd hj (Nat.not_lt_zero _)⟩
  case round =>
    obtain ⟨i, hig, rfl, rfl, hno⟩ := hrel
    have HN : Hid (NoW (tl s) i) := hno
    clear hno
    cases gk with
    | zero =>
      obtain rfl : i = s.size := by omega
      have hw : wc (tl s) = false := NoW.wc (l := tl s) (by rw [tl_size]; exact HN)
      go_wp2
      go_ret
      exact ⟨ret_b hw.symm, rfl⟩
    | succ g =>
      have hi : i < s.size := by omega
      have hxl : Hid ((tl s)[i]? = some (s[i]'hi)) := tl_get s i hi
      by_cases h1 : s[i]'hi = 43
      · have hw : wc (tl s) = true := wc_at hxl (.inl h1)
        have e1 : (((s[i]'hi).toNat : Int) == 43) = true := by rw [u43]; simpa using h1
        clear h1
        go_wp2
        go_ret
        exact ⟨ret_b hw.symm, rfl⟩
      · have e1 : (((s[i]'hi).toNat : Int) == 43) = false := by rw [u43]; simpa using h1
        by_cases h2 : s[i]'hi = 35
        · have hw : wc (tl s) = true := wc_at hxl (.inr h2)
          have e2 : (((s[i]'hi).toNat : Int) == 35) = true := by rw [u35]; simpa using h2
          clear h1 h2
          go_wp2
          go_ret
          exact ⟨ret_b hw.symm, rfl⟩
        · have e2 : (((s[i]'hi).toNat : Int) == 35) = false := by rw [u35]; simpa using h2
          go_wp2
          go_roundg g
          case measure => omega
          case rel =>
            refine ⟨i + 1, by omega, by simp, rfl, ?_⟩
            intro j b hj hb
            by_cases hji : j < i
            · exact HN j b hji hb
            · obtain rfl : j = i := by omega
              rw [show (tl s)[j]? = some (s[j]'hi) from hxl] at hb
              cases hb
              exact ⟨h1, h2⟩

/-- No byte 0 stands ahead of a place. -/
def NoZ (l : Bs) (i : Nat) : Prop := ∀ j b, j < i → l[j]? = some b → b ≠ 0
theorem NoZ.all {l : Bs} (h : NoZ l l.length) : (0 : UInt8) ∉ l := by
  intro hm
  obtain ⟨j, hj, e⟩ := List.getElem_of_mem hm
  exact h j _ hj (List.getElem?_eq_getElem hj) e

set_option maxRecDepth 100000 in
set_option maxHeartbeats 1000000 in
theorem rplain_any (s : ByteArray) (w : World) (hs : s.size ≤ 9223372036854775807) (hT : Tabs w) :
    Calls Tryz.prog 35 #[.string s] w fun e w' => e = .returned (.bool (okText (tl s))) ∧ Below w.heap.size w w' := by
  have cV := Tryz.utf8_ValidString s w (by omega) hT
  rw [← tl_data] at cV
  have hl := tl_size s
  by_cases h0 : tl s = []
  · have h0' : s.toList.isEmpty = true := by rw [show s.toList = [] from h0]; rfl
    have e : okText (tl s) = false := by simp [okText, h0]
    rw [e]
    clear cV e
    go_enter Tryz.func35, Tryz.ntmps35
    go_wp2
    go_ret
    exact ⟨rfl, Below.refl _ _⟩
  · have h0' : s.toList.isEmpty = false := by simpa using h0
    by_cases h1 : s.size ≤ 65535
    · have h1' : ¬ (65535 < (s.size : Int)) := by omega
      cases hv : Lib.validD (tl s) with
      | false =>
        rw [hv] at cV
        have e : okText (tl s) = false := by simp [okText, hv]
        rw [e]
        go_enter Tryz.func35, Tryz.ntmps35
        go_wp2_with (go_at_call 44; refine cV.mono ?_; rintro e w' ⟨rfl, hb⟩)
        go_ret
        exact ⟨rfl, hb⟩
      | true =>
        rw [hv] at cV
        have e : okText (tl s) = decide ((0 : UInt8) ∉ tl s) := by simp [okText, hv, h0, hl, h1]
        rw [e]
        clear h0
        go_enter Tryz.func35, Tryz.ntmps35
        go_wp2_with (go_at_call 44; refine cV.mono ?_; rintro e w1 ⟨rfl, hb⟩)
        go_loopg [3] s.size (fun g s3 wx => ∃ i : Nat, i + g = s.size ∧ s3 = .int .i64 i ∧ wx = w1 ∧ NoZ (tl s) i)
        case atStart => exact ⟨0, by omega, rfl, rfl, fun j b hj => absurd hj (Nat.not_lt_zero _)⟩
        case round =>
          obtain ⟨i, hig, rfl, rfl, hno⟩ := hrel
          have HN : Hid (NoZ (tl s) i) := hno
          clear hno
          cases gk with
          | zero =>
            obtain rfl : i = s.size := by omega
            have hw : (0 : UInt8) ∉ tl s := NoZ.all (by rw [tl_size]; exact HN)
            have hw' : decide ((0 : UInt8) ∉ tl s) = true := by simpa using hw
            clear hw
            go_wp2
            go_ret
            exact ⟨ret_b hw'.symm, hb⟩
          | succ g =>
            have hi : i < s.size := by omega
            have hxl : Hid ((tl s)[i]? = some (s[i]'hi)) := tl_get s i hi
            by_cases h1 : s[i]'hi = 0
            · have hw : (0 : UInt8) ∈ tl s := by rw [← h1]; exact List.mem_of_getElem? hxl
              have hw' : decide ((0 : UInt8) ∉ tl s) = false := by simpa using hw
              have e1 : (((s[i]'hi).toNat : Int) == 0) = true := by rw [u0]; simpa using h1
              clear h1 hw
              go_wp2
              go_ret
              exact ⟨ret_b hw'.symm, hb⟩
            · have e1 : (((s[i]'hi).toNat : Int) == 0) = false := by rw [u0]; simpa using h1
              have H1 : Hid (¬ s[i]'hi = 0) := h1
              clear h1
              go_wp2
              go_roundg g
              case measure => omega
              case rel =>
                refine ⟨i + 1, by omega, by simp, rfl, ?_⟩
                intro j b hj hb
                by_cases hji : j < i
                · exact HN j b hji hb
                · obtain rfl : j = i := by omega
                  rw [show (tl s)[j]? = some (s[j]'hi) from hxl] at hb
                  cases hb
                  exact H1
    · have h1' : 65535 < (s.size : Int) := by omega
      have e : okText (tl s) = false := by simp [okText, hl, h1]
      rw [e]
      clear cV e
      go_enter Tryz.func35, Tryz.ntmps35
      go_wp2
      go_ret
      exact ⟨rfl, Below.refl _ _⟩

set_option maxHeartbeats 1000000 in
theorem rname_any (s : ByteArray) (w : World) (hs : s.size ≤ 9223372036854775807) (hT : Tabs w) :
    Calls Tryz.prog 20 #[.string s] w fun e w' => e = .returned (.bool (isName (tl s))) ∧ Below w.heap.size w w' := by
  have c1 := rplain_any s w hs hT
  unfold isName
  cases h : okText (tl s) with
  | false =>
    rw [h] at c1
    rw [Bool.false_and]
    go_enter Tryz.func20, Tryz.ntmps20
    go_wp2_with (go_at_call 35; refine c1.mono ?_; rintro e w' ⟨rfl, hb⟩)
    go_ret
    exact ⟨rfl, hb⟩
  | true =>
    rw [h] at c1
    have hz := okText_size h
    rw [Bool.true_and]
    go_enter Tryz.func20, Tryz.ntmps20
    go_wp2_with (first | (go_at_call 35; refine c1.mono ?_; rintro e w' ⟨rfl, hb⟩) | (go_at_call 36; refine (rhas_any s _ (by omega)).mono ?_; rintro e w2 ⟨rfl, rfl⟩))
    go_ret
    exact ⟨rfl, hb⟩
end Go.Proofs.YtkgbpildikjoiaaGreatDoor
