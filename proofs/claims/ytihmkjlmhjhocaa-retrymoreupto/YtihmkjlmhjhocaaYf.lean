/- Two results that are the same; the document's count of tries; bodies that are valid; the conditions: what lies in memory. -/
import Derived.Test.YtihmkjlmhjhocaaYe
import Derived.Test.YtihmkjlmhjhocaaDSam
namespace Go.Proofs.Ytihmkjlmhjhocaa
open Go.RowKit

set_option maxRecDepth 100000 in
set_option maxHeartbeats 2000000 in
theorem same_res (x : Re) (m : Nat) (t : Dt.Tr m) (k i u : Int) (s : ByteArray) (a : Option Addr) (n c : Nat) (k' i' u' : Int) (s' : ByteArray) (a' : Option Addr) (n' c' : Nat) (w : World)
    (R : Dt.Rep w m [.int .i64 k, .int .i64 i, .int .u64 u, .string s, .slice a n c] t) (R' : Dt.Rep w m [.int .i64 k', .int .i64 i', .int .u64 u', .string s', .slice a' n' c'] t) :
    Calls Try.prog 14 #[.agg #[.int .i64 x.er, .int .i64 x.co, .int .i64 x.pk, .int .i64 x.pn, .bool x.has, .int .i64 k, .int .i64 i, .int .u64 u, .string s, .slice a n c], .agg #[.int .i64 x.er, .int .i64 x.co, .int .i64 x.pk, .int .i64 x.pn, .bool x.has, .int .i64 k', .int .i64 i', .int .u64 u', .string s', .slice a' n' c']] w fun e w' => e = .returned (.bool true) ∧ Below w.heap.size w w' := by
  have HS := Lib.hid (fun wx (hx : Below w.heap.size w wx) => Dt.sameD m t _ _ _ _ _ _ _ _ _ _ wx (Dt.Rep.below hx m _ _ R) (Dt.Rep.below hx m _ _ R'))
  have hb := below2 w (.cells #[.int .i64 x.er, .int .i64 x.co, .int .i64 x.pk, .int .i64 x.pn, .bool x.has, .int .i64 k, .int .i64 i, .int .u64 u, .string s, .slice a n c] 30) (.cells #[.int .i64 x.er, .int .i64 x.co, .int .i64 x.pk, .int .i64 x.pn, .bool x.has, .int .i64 k', .int .i64 i', .int .u64 u', .string s', .slice a' n' c'] 30)
  have HB := Lib.hid hb
  clear R R' hb
  go_enter Try.func14, Try.ntmps14
  go_wp2_with (go_at_call 22; refine (HS.out _ HB.out).mono ?_; rintro e w1 ⟨rfl, b1⟩)
  go_ret
  exact ⟨rfl, HB.out.trans (b1.mono HB.out.size)⟩

theorem md_cases {tries : Int} {zs : List Re} {m : Nat} {x : Re} (h : Md (most tries zs.length) zs m x) (i : Nat) (hi : i < m) (y : Re) (hy : zs[i]? = some y) :
    (i + 1 < m ∧ y.ag = true ∧ i + 1 ≠ zs.length ∧ ((i : Int) + 1 < max tries 1)) ∨ (i + 1 = m ∧ (y.ag = false ∨ i + 1 = zs.length ∨ max tries 1 ≤ (i : Int) + 1)) := by
  have hle := h.le
  unfold most at hle
  by_cases h1 : i + 1 < m
  · exact .inl ⟨h1, h.ahead i y h1 hy, by omega, by omega⟩
  · have e : i + 1 = m := by omega
    refine .inr ⟨e, ?_⟩
    rcases h.fin with hf | ⟨h0, hf⟩
    · unfold most at hf; omega
    · have hl := h.last h0
      rw [show m - 1 = i by omega, hy] at hl
      cases hl
      exact .inl hf

set_option maxRecDepth 100000 in
set_option maxHeartbeats 2000000 in
theorem rrun_any (tries : Int) (ad : Option Addr) (zs : List Re) (cap m : Nat) (x : Re) (w : World) (hreach : zs.length ≤ 9223372036854775807) (hI : Rrow w ad zs) (hM : Md (most tries zs.length) zs m x) :
    Calls Try.prog 13 #[.int .i64 tries, .slice ad zs.length cap] w fun e w' => e = .returned (.int .i64 ((m : Int) - 1)) ∧ Below w.heap.size w w' := by
  have HM := Lib.hid hM
  have HI := Lib.hid hI
  have hm : m ≤ zs.length := by have := hM.le; unfold most at this; omega
  have hm0 : m = 0 → zs.length = 0 := fun e => by
    rcases hM.fin with h | ⟨h, -⟩
    · unfold most at h; omega
    · omega
  clear hM hI
  go_enter Try.func13, Try.ntmps13
  go_wp2_with fail
  go_loopw [5] (fun si wr => ∃ (j : Nat), si = .int .i64 j ∧ (j < m ∨ (m = 0 ∧ j = 0)) ∧ Below w.heap.size w wr) (fun si _ => zs.length - (intOf si).toNat)
  case atStart => exact ⟨0, rfl, by omega, Below.refl _ _⟩
  case round =>
    obtain ⟨j, rfl, hj, hb⟩ := hrel
    by_cases hlt : j < zs.length
    · have hjm : j < m := by omega
      rcases HI.out with h | ⟨b, o, rfl, h1, h2⟩
      · rw [h] at hlt; simp at hlt
      obtain ⟨y, hy⟩ : ∃ y, zs[j]? = some y := ⟨_, List.getElem?_eq_getElem hlt⟩
      obtain ⟨x0, x1, x2, x3, x4, x5, x6, x7, x8, x9⟩ := (h2 j y hy).below hb h1
      have j0 : (0 : Int) ≤ (j : Int) := by omega
      have j1 : (j : Int) < (zs.length : Int) := by omega
      have hms := md_cases HM.out j hjm y hy
      unfold Re.ag at hms
      clear hj h2 HI HM hy
      rcases hms with ⟨d1, d2, d3, d4⟩ | ⟨d1, d2⟩
      · have d5 : (((j : Int) + 1) == (zs.length : Int)) = false := by simp; omega
        have dA : Hid (agB y.er y.co y.pk = true) := Lib.hid d2
        have ht : ¬ tries < 1 := by omega
        have d4' : (j : Int) + 1 < tries := by omega
        have d6 : decide (tries ≤ (j : Int) + 1) = false := by simp; omega
        clear d3 d2 d4
        go_wp2_with (go_at_call 10; refine (ragain_any y.er y.co y.pk y.pn y.has _ _ _ _ _ _).mono ?_; rintro e w1 ⟨rfl, b1⟩; rw [dA.out])
        refine ⟨⟨j + 1, by go_num, .inl (by omega), hb.trans (b1.mono hb.size)⟩, by simp [intOf]; omega⟩
      · by_cases hag : agB y.er y.co y.pk = true
        · have dA : Hid (agB y.er y.co y.pk = true) := Lib.hid hag
          rw [hag] at d2
          clear hag
          by_cases d5 : (j : Int) + 1 = (zs.length : Int)
          · go_wp2_with (go_at_call 10; refine (ragain_any y.er y.co y.pk y.pn y.has _ _ _ _ _ _).mono ?_; rintro e w1 ⟨rfl, b1⟩; rw [dA.out])
            all_goals go_ret
            all_goals exact ⟨by simp; omega, hb.trans (b1.mono hb.size)⟩
          · have d7 : max tries 1 ≤ (j : Int) + 1 := by rcases d2 with h | h | h <;> first | (cases h; done) | omega
            have d5' : (((j : Int) + 1) == (zs.length : Int)) = false := by simp; omega
            clear d2 d5
            by_cases ht : tries < 1
            · have d8 : (1 : Int) ≤ (j : Int) + 1 := by omega
              clear d7
              go_wp2_with (go_at_call 10; refine (ragain_any y.er y.co y.pk y.pn y.has _ _ _ _ _ _).mono ?_; rintro e w1 ⟨rfl, b1⟩; rw [dA.out])
              all_goals go_ret
              all_goals exact ⟨by simp; omega, hb.trans (b1.mono hb.size)⟩
            · have d8 : tries ≤ (j : Int) + 1 := by omega
              clear d7
              go_wp2_with (go_at_call 10; refine (ragain_any y.er y.co y.pk y.pn y.has _ _ _ _ _ _).mono ?_; rintro e w1 ⟨rfl, b1⟩; rw [dA.out])
              all_goals go_ret
              all_goals exact ⟨by simp; omega, hb.trans (b1.mono hb.size)⟩
        · have dA : Hid (agB y.er y.co y.pk = false) := Lib.hid (by simpa using hag)
          clear hag d2
          go_wp2_with (go_at_call 10; refine (ragain_any y.er y.co y.pk y.pn y.has _ _ _ _ _ _).mono ?_; rintro e w1 ⟨rfl, b1⟩; rw [dA.out])
          all_goals go_ret
          all_goals exact ⟨by simp; omega, hb.trans (b1.mono hb.size)⟩
    · go_wp2_with fail
      go_ret
      exact ⟨by have : m = 0 := by omega
                subst this; rfl, hb⟩
end Go.Proofs.Ytihmkjlmhjhocaa
