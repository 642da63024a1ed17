/- Sifting down and up, of the library's heap; conditions: the row in memory. -/
import Derived.Test.YtblpafmcnhhdpaaHc
namespace Go.Proofs.Ytblpafmcnhhdpaa
open Go.RowKit

/-- The heap as an interface's value. -/
abbrev hv (Wb : Nat) : Value := .iface 45 (.pointer (some ⟨Wb, 2, none⟩))
/-- Where sifting down stands. -/
structure Dn (w : World) (Wb X G : Nat) (v0 v1 : Value) (F : List Nat) (m : Nat) (i : Nat) (F' : List Nat) (sv : Value) (wx : World) : Prop where
  h : Hs wx Wb X G v0 v1 F' sv
  fx : Fx X G Wb w wx
  p : F'.Perm F
  k : Sk m (gt F') i
  o : ∀ q, m ≤ q → gt F' q = gt F q
theorem Dn.len {w : World} {Wb X G : Nat} {v0 v1 : Value} {F : List Nat} {m i : Nat} {F' : List Nat} {sv : Value} {wx : World} (h : Dn w Wb X G v0 v1 F m i F' sv wx) : F'.length = F.length := h.p.length_eq
theorem Dn.below {w : World} {Wb X G : Nat} {v0 v1 : Value} {F : List Nat} {m i : Nat} {F' : List Nat} {sv : Value} {wx wy : World} (h : Dn w Wb X G v0 v1 F m i F' sv wx) (hX : X ≤ wx.heap.size) (hb : Below wx.heap.size wx wy) : Dn w Wb X G v0 v1 F m i F' sv wy := ⟨h.h.below hb, h.fx.trans (Fx.of hb hX h.h.gs), h.p, h.k, h.o⟩
theorem Dn.next {w : World} {Wb X G : Nat} {v0 v1 : Value} {F : List Nat} {m i c : Nat} {F' : List Nat} {sv : Value} {wx wy : World} (h : Dn w Wb X G v0 v1 F m i F' sv wx) (hs : Hs wy Wb X G v0 v1 (swl F' i c) sv) (hf : Fx X G Wb wx wy) (hc : Fm m (gt F') i c) (ha : gt F' c < gt F' i) (hm : m ≤ F.length) : Dn w Wb X G v0 v1 F m c (swl F' i c) sv wy := by
  have hl := h.len
  have hc1 := hc.1
  have hc2 := hc.2.1
  have hic : i < c := by unfold Ch at hc1; omega
  refine ⟨hs, h.fx.trans hf, (swl_perm (by omega) (by omega)).trans h.p, (h.k.step hc ha).congr fun q => (swl_gt (by omega) (by omega) q).symm, fun q hq => ?_⟩
  rw [swl_gt (by omega) (by omega), sp_o _ _ _ q (by omega) (by omega)]
  exact h.o q hq

set_option maxRecDepth 100000 in
set_option maxHeartbeats 2000000 in
theorem down_any {Wb X G : Nat} {v0 v1 sv : Value} {F : List Nat} {m : Nat} (w : World) (h : Hs w Wb X G v0 v1 F sv) (hX : X ≤ w.heap.size) (hm : m ≤ F.length) (hF : F.length ≤ 1000) (hk : Sk m (gt F) 0) : Calls Try.prog 21 #[hv Wb, .int .i64 0, .int .i64 m] w fun e w' => (∃ b, e = .returned (.bool b)) ∧ ∃ F', Hs w' Wb X G v0 v1 F' sv ∧ Fx X G Wb w w' ∧ F'.Perm F ∧ Hp m (gt F') ∧ ∀ q, m ≤ q → gt F' q = gt F q := by
  have ST := Lib.hid (show Dn w Wb X G v0 v1 F m 0 F sv w from ⟨h, Fx.refl _ _ _ _, .refl _, hk, fun _ _ => rfl⟩)
  clear h hk
  have cl := cf_less
  have cs := cf_swap
  go_enter Try.func21, Try.ntmps21
  go_wp2
  go_loopg [7, 8, 9, 10] (m + 1) (fun g s7 s8 s9 s10 wx => ∃ (i : Nat) (F' : List Nat), i + g = m + 1 ∧ s7 = .int .i64 i ∧ Dn w Wb X G v0 v1 F m i F' sv wx)
  case atStart => exact ⟨0, F, by omega, rfl, ST.out⟩
  case round =>
    obtain ⟨i, F', hg, rfl, hD⟩ := hrel
    have hl := hD.len
    have HD := Lib.hid hD
    have X1 : X ≤ wr.heap.size := Nat.le_trans hX hD.fx.size
    clear hD ST
    by_cases h1 : m ≤ 2 * i + 1
    · have h1' : (m : Int) ≤ 2 * (i : Int) + 1 := by omega
      go_wp2
      go_ret
      exact ⟨⟨_, rfl⟩, F', HD.out.h, HD.out.fx, HD.out.p, HD.out.k.none h1, HD.out.o⟩
    · obtain ⟨j1, hj1⟩ : ∃ j, j = 2 * i + 1 := ⟨_, rfl⟩
      have e1 : 2 * (i : Int) + 1 = (j1 : Int) := by omega
      have h1' : ¬ (m : Int) ≤ (j1 : Int) := by omega
      have h1n : ¬ (j1 : Int) < 0 := by omega
      have ml := me_less HD.out.h.c
      have ch1 : Ch i j1 := by unfold Ch; omega
      have HE1 := Lib.hid hj1
      have HL := Lib.hid hl
      by_cases h2 : j1 + 1 < m
      · obtain ⟨j2, hj2⟩ : ∃ j, j = j1 + 1 := ⟨_, rfl⟩
        have e2 : (j1 : Int) + 1 = (j2 : Int) := by omega
        have h2' : (j2 : Int) < (m : Int) := by omega
        have LS := Lib.hid (less_any j2 j1 wr HD.out.h.row (by omega) (by omega))
        have HE2 := Lib.hid hj2
        clear hj1 hj2 hl h2 h1 ch1
        go_wp2_with fail
        refine LS.out.mono ?_
        rintro e w1 ⟨rfl, b1⟩
        have HD1 := Lib.hid (HD.out.below X1 b1)
        have X2 : X ≤ w1.heap.size := Nat.le_trans X1 b1.size
        have ml1 := me_less HD1.out.h.c
        cases hq : decide (gt F' j2 < gt F' j1) with
        | true =>
          have hFm : Fm m (gt F') i j2 := by
            have := HE1.out
            have := HE2.out
            have := of_decide_eq_true hq
            refine ⟨by unfold Ch; omega, by omega, fun d hd hdm => ?_⟩
            have : d = j1 ∨ d = j2 := by unfold Ch at hd; omega
            rcases this with rfl | rfl <;> omega
          have HF := Lib.hid hFm
          have LS2 := Lib.hid (less_any j2 i w1 HD1.out.h.row (by have := HL.out; have := HF.out.2.1; omega) (by have := HL.out; have := HF.out.2.1; have := HF.out.1; unfold Ch at this; omega))
          clear hFm
          go_wp2_with fail
          refine LS2.out.mono ?_
          rintro e w2 ⟨rfl, b2⟩
          have HD2 := Lib.hid (HD1.out.below X2 b2)
          have X3 : X ≤ w2.heap.size := Nat.le_trans X2 b2.size
          cases hr : decide (gt F' j2 < gt F' i) with
          | false =>
            go_wp2
            go_ret
            exact ⟨⟨_, rfl⟩, F', HD2.out.h, HD2.out.fx, HD2.out.p, HD2.out.k.done HF.out (of_decide_eq_false hr), HD2.out.o⟩
          | true =>
            have ms2 := me_swap HD2.out.h.c
            have SW := Lib.hid (swap_any i j2 w2 HD2.out.h (by have := HL.out; have := HF.out.2.1; have := HF.out.1; unfold Ch at this; omega) (by have := HL.out; have := HF.out.2.1; omega))
            go_wp2_with fail
            refine SW.out.mono ?_
            rintro e w3 ⟨rfl, s3, f3⟩
            have N3 := Lib.hid (HD2.out.next s3 f3 HF.out (of_decide_eq_true hr) hm)
            have hji : i < j2 ∧ j2 < m := by have := HF.out.2.1; have := HF.out.1; unfold Ch at this; omega
            clear s3 f3 ms2 ml
            go_wp2
            go_roundg (m + 1 - j2)
            case measure => omega
            case rel => exact ⟨j2, _, by omega, rfl, N3.out⟩
        | false =>
          have hFm : Fm m (gt F') i j1 := by
            have := HE1.out
            have := HE2.out
            have := of_decide_eq_false hq
            refine ⟨by unfold Ch; omega, by omega, fun d hd hdm => ?_⟩
            have : d = j1 ∨ d = j2 := by unfold Ch at hd; omega
            rcases this with rfl | rfl <;> omega
          have HF := Lib.hid hFm
          have LS2 := Lib.hid (less_any j1 i w1 HD1.out.h.row (by have := HL.out; have := HF.out.2.1; omega) (by have := HL.out; have := HF.out.2.1; have := HF.out.1; unfold Ch at this; omega))
          clear hFm
          go_wp2_with fail
          refine LS2.out.mono ?_
          rintro e w2 ⟨rfl, b2⟩
          have HD2 := Lib.hid (HD1.out.below X2 b2)
          have X3 : X ≤ w2.heap.size := Nat.le_trans X2 b2.size
          cases hr : decide (gt F' j1 < gt F' i) with
          | false =>
            go_wp2
            go_ret
            exact ⟨⟨_, rfl⟩, F', HD2.out.h, HD2.out.fx, HD2.out.p, HD2.out.k.done HF.out (of_decide_eq_false hr), HD2.out.o⟩
          | true =>
            have ms2 := me_swap HD2.out.h.c
            have SW := Lib.hid (swap_any i j1 w2 HD2.out.h (by have := HL.out; have := HF.out.2.1; have := HF.out.1; unfold Ch at this; omega) (by have := HL.out; have := HF.out.2.1; omega))
            go_wp2_with fail
            refine SW.out.mono ?_
            rintro e w3 ⟨rfl, s3, f3⟩
            have N3 := Lib.hid (HD2.out.next s3 f3 HF.out (of_decide_eq_true hr) hm)
            have hji : i < j1 ∧ j1 < m := by have := HF.out.2.1; have := HF.out.1; unfold Ch at this; omega
            clear s3 f3 ms2 ml
            go_wp2
            go_roundg (m + 1 - j1)
            case measure => omega
            case rel => exact ⟨j1, _, by omega, rfl, N3.out⟩
      · obtain ⟨j2, hj2⟩ : ∃ j, j = j1 + 1 := ⟨_, rfl⟩
        have e2 : (j1 : Int) + 1 = (j2 : Int) := by omega
        have h2' : ¬ (j2 : Int) < (m : Int) := by omega
        have hFm : Fm m (gt F') i j1 := ⟨ch1, by omega, fun d hd hdm => by
          have : d = j1 := by unfold Ch at hd; omega
          subst this
          omega⟩
        have HD1 := HD
        have X2 := X1
        clear hj1 hj2 hl h2 h1 ch1
        have HF := Lib.hid hFm
        have LS2 := Lib.hid (less_any j1 i wr HD1.out.h.row (by have := HL.out; have := HF.out.2.1; omega) (by have := HL.out; have := HF.out.2.1; have := HF.out.1; unfold Ch at this; omega))
        clear hFm
        go_wp2_with fail
        refine LS2.out.mono ?_
        rintro e w2 ⟨rfl, b2⟩
        have HD2 := Lib.hid (HD1.out.below X2 b2)
        have X3 : X ≤ w2.heap.size := Nat.le_trans X2 b2.size
        cases hr : decide (gt F' j1 < gt F' i) with
        | false =>
          go_wp2
          go_ret
          exact ⟨⟨_, rfl⟩, F', HD2.out.h, HD2.out.fx, HD2.out.p, HD2.out.k.done HF.out (of_decide_eq_false hr), HD2.out.o⟩
        | true =>
          have ms2 := me_swap HD2.out.h.c
          have SW := Lib.hid (swap_any i j1 w2 HD2.out.h (by have := HL.out; have := HF.out.2.1; have := HF.out.1; unfold Ch at this; omega) (by have := HL.out; have := HF.out.2.1; omega))
          go_wp2_with fail
          refine SW.out.mono ?_
          rintro e w3 ⟨rfl, s3, f3⟩
          have N3 := Lib.hid (HD2.out.next s3 f3 HF.out (of_decide_eq_true hr) hm)
          have hji : i < j1 ∧ j1 < m := by have := HF.out.2.1; have := HF.out.1; unfold Ch at this; omega
          clear s3 f3 ms2 ml
          go_wp2
          go_roundg (m + 1 - j1)
          case measure => omega
          case rel => exact ⟨j1, _, by omega, rfl, N3.out⟩
end Go.Proofs.Ytblpafmcnhhdpaa
