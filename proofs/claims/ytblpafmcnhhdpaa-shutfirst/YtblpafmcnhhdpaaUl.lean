/- The law's rings, walked; the conditions that each theorem names. -/
import Derived.Test.YtblpafmcnhhdpaaUk
namespace Go.Proofs.Ytblpafmcnhhdpaa
open Go.RowKit

theorem rc_lt {A : List (List Int)} {x y : Nat} (h : Rc A x y) : y < A.length := by
  obtain ⟨m, h⟩ := h
  exact h.lt

set_option maxRecDepth 100000 in
set_option maxHeartbeats 4000000 in
theorem rings_any (A : List (List Int)) (ad : Option Addr) (cap : Nat) (i : Nat) (w : World) (h : Rj w ad A) (hi : i < A.length) (hl : A.length ≤ 400) (hll : ∀ l ∈ A, l.length ≤ 400) :
    Calls Try.prog 11 #[.slice ad A.length cap, .int .i64 i] w fun e w' => ∃ b : Bool, e = .returned (.bool b) ∧ (b = true ↔ Rg A i) ∧ Below w.heap.size w w' := by
  have KR : Hid (∀ (j : Nat) (wx : World), j < A.length → Below w.heap.size w wx → Calls Try.prog 17 #[.slice ad A.length cap, .int .i64 j] wx fun e w' => ∃ (sv : Value) (l : List Nat), e = .returned sv ∧ Ri w' sv (l.map fun (i : Nat) => (i : Int)) ∧ (∀ y, y ∈ l ↔ Rc A j y) ∧ l.length ≤ A.length ∧ Below wx.heap.size wx w') := fun j wx hj hb => reached_any A ad cap j wx (h.below hb) hj hl hll
  clear h hll
  go_enter Try.func11, Try.ntmps11
  go_wp2_with fail
  refine (KR.out i w hi (Below.refl _ _)).mono ?_
  rintro e w1 ⟨sv, l, rfl, hr, hm, hlen, b1⟩
  obtain ⟨T, hT⟩ : ∃ T, T = l.map fun (i : Nat) => (i : Int) := ⟨_, rfl⟩
  rw [← hT] at hr
  have HT : Hid (T.length = l.length ∧ ∀ (q k : Nat), l[q]? = some k → T[q]? = some (k : Int)) := ⟨by rw [hT, List.length_map], fun q k hq => by rw [hT]; simp [hq]⟩
  have htl : T.length ≤ 400 := by rw [hT, List.length_map]; omega
  obtain ⟨sa, sc, rfl, -⟩ := id hr
  have HR : Hid (∀ wx, Below w1.heap.size w1 wx → Ri wx (.slice sa T.length sc) T) := fun wx hb => hr.below hb
  have HM := Lib.hid hm
  have HB1 : Hid (∀ wx, Below w1.heap.size w1 wx → Below w.heap.size w wx) := fun wx hb => b1.trans (hb.mono b1.size)
  clear hT hr hm hlen b1
  go_wp2
  go_loopg [6, 15] T.length (fun g s6 s15 wx => ∃ q : Nat, q + g = T.length ∧ s15 = .int .i64 q ∧ (∀ k ∈ l.take q, ¬ Rc A k k) ∧ Below w1.heap.size w1 wx)
  case atStart => exact ⟨0, by omega, rfl, fun k hk => by simp at hk, Below.refl _ _⟩
  case round =>
    obtain ⟨q, hqg, rfl, hno, hB⟩ := hrel
    have HNO := Lib.hid hno
    clear hno
    cases gk with
    | zero =>
      obtain rfl : q = T.length := by omega
      have HN : Hid (∀ k, Rc A i k → ¬ Rc A k k) := fun k hk => by
        have h9 := HNO.out
        rw [HT.out.1, List.take_length] at h9
        exact h9 k ((HM.out k).2 hk)
      go_wp2_with fail
      refine (KR.out i wr hi (HB1.out _ hB)).mono ?_
      rintro e w5 ⟨sv5, l5, rfl, hr5, hm5, hlen5, b5⟩
      obtain ⟨T5, hT5⟩ : ∃ T5, T5 = l5.map fun (i : Nat) => (i : Int) := ⟨_, rfl⟩
      rw [← hT5] at hr5
      have HT5 : Hid (T5.length = l5.length ∧ ∀ (q k : Nat), l5[q]? = some k → T5[q]? = some (k : Int)) := ⟨by rw [hT5, List.length_map], fun q k hq => by rw [hT5]; simp [hq]⟩
      have htl5 : T5.length ≤ 400 := by rw [hT5, List.length_map]; omega
      obtain ⟨sa5, sc5, rfl, -⟩ := id hr5
      have HR5 := Lib.hid hr5
      have HM5 := Lib.hid hm5
      have HBE : Hid (Below w.heap.size w w5) := (HB1.out _ hB).trans (b5.mono (HB1.out _ hB).size)
      clear hT5 hr5 hm5 hlen5 b5 hB
      go_wp2
      go_loopg [10, 36] T5.length (fun g s10 s36 wx => ∃ c : Nat, c + g = T5.length ∧ s36 = .int .i64 c ∧ (∀ y ∈ l5.take c, y ≠ i) ∧ wx = w5)
      case atStart => exact ⟨0, by omega, rfl, fun k hk => by simp at hk, rfl⟩
      case round =>
        obtain ⟨c, hcg, rfl, hne, rfl⟩ := hrel
        have HNE := Lib.hid hne
        clear hne
        cases gk with
        | zero =>
          obtain rfl : c = T5.length := by omega
          go_wp2
          go_ret
          refine ⟨false, rfl, ⟨fun h => (by cases h), fun hg => ?_⟩, HBE.out⟩
          rcases hg with ⟨k, h1, h2⟩ | h1
          · exact absurd h2 (HN.out k h1)
          · have h9 := HNE.out
            rw [HT5.out.1, List.take_length] at h9
            exact absurd rfl (h9 i ((HM5.out i).2 h1))
        | succ g =>
          have hc : c < l5.length := by have := HT5.out.1; omega
          obtain ⟨y, hy⟩ : ∃ y, l5[c]? = some y := ⟨_, List.getElem?_eq_getElem hc⟩
          obtain ⟨g3, o3, c3, e3, hc3⟩ := HR5.out.at (by omega)
          simp only [Value.slice.injEq] at e3
          obtain ⟨rfl, -, rfl⟩ := e3
          have t0 := hc3 c y (HT5.out.2 c y hy)
          have hcc : (c : Int) < (T5.length : Int) := by omega
          by_cases hyi : y = i
          · subst hyi
            have e9 : ((y : Int) == (y : Int)) = true := by simp
            have HRY := Lib.hid ((HM5.out y).1 (List.mem_of_getElem? hy))
            clear hy hc3
            go_wp2
            go_ret
            exact ⟨true, rfl, ⟨fun _ => .inr HRY.out, fun _ => rfl⟩, HBE.out⟩
          · have e9 : ((y : Int) == (i : Int)) = false := beq_false_of_ne (by omega)
            have HNX : Hid (∀ z ∈ l5.take (c + 1), z ≠ i) := fun z hz => by
              rw [List.take_add_one, hy] at hz
              simp only [Option.toList, List.mem_append, List.mem_singleton] at hz
              rcases hz with hz | rfl
              · exact HNE.out z hz
              · exact hyi
            clear hy hc3 hyi
            go_wp2
            go_roundg g
            case measure => omega
            case rel => exact ⟨c + 1, by omega, by simp, HNX.out, rfl⟩
    | succ g =>
      have hq : q < l.length := by have := HT.out.1; omega
      obtain ⟨k, hk⟩ : ∃ k, l[q]? = some k := ⟨_, List.getElem?_eq_getElem hq⟩
      have hik := (HM.out k).1 (List.mem_of_getElem? hk)
      have hkl := rc_lt hik
      have HIK := Lib.hid hik
      obtain ⟨g3, o3, c3, e3, hc3⟩ := (HR.out wr hB).at (by omega)
      simp only [Value.slice.injEq] at e3
      obtain ⟨rfl, -, rfl⟩ := e3
      have t0 := hc3 q k (HT.out.2 q k hk)
      have hqq : (q : Int) < (T.length : Int) := by omega
      have HNX : Hid (¬ Rc A k k → ∀ z ∈ l.take (q + 1), ¬ Rc A z z) := fun hn z hz => by
        rw [List.take_add_one, hk] at hz
        simp only [Option.toList, List.mem_append, List.mem_singleton] at hz
        rcases hz with hz | rfl
        · exact HNO.out z hz
        · exact hn
      clear hk hc3 hik
      go_wp2_with fail
      refine (KR.out k wr hkl (HB1.out _ hB)).mono ?_
      rintro e w5 ⟨sv5, l5, rfl, hr5, hm5, hlen5, b5⟩
      obtain ⟨T5, hT5⟩ : ∃ T5, T5 = l5.map fun (i : Nat) => (i : Int) := ⟨_, rfl⟩
      rw [← hT5] at hr5
      have HT5 : Hid (T5.length = l5.length ∧ ∀ (q k : Nat), l5[q]? = some k → T5[q]? = some (k : Int)) := ⟨by rw [hT5, List.length_map], fun q k hq => by rw [hT5]; simp [hq]⟩
      have htl5 : T5.length ≤ 400 := by rw [hT5, List.length_map]; omega
      obtain ⟨sa5, sc5, rfl, -⟩ := id hr5
      have HR5 := Lib.hid hr5
      have HM5 := Lib.hid hm5
      have HB5 : Hid (Below w1.heap.size w1 w5) := hB.trans (b5.mono hB.size)
      clear hT5 hr5 hm5 hlen5 b5 hB t0
      go_wp2
      go_loopg [8, 23] T5.length (fun g s8 s23 wx => ∃ c : Nat, c + g = T5.length ∧ s23 = .int .i64 c ∧ (∀ y ∈ l5.take c, y ≠ k) ∧ wx = w5)
      case atStart => exact ⟨0, by omega, rfl, fun k hk => by simp at hk, rfl⟩
      case round =>
        obtain ⟨c, hcg, rfl, hne, rfl⟩ := hrel
        have HNE := Lib.hid hne
        clear hne
        cases gk with
        | zero =>
          obtain rfl : c = T5.length := by omega
          go_wp2
          go_roundg g
          case measure => omega
          case rel =>
            refine ⟨q + 1, by omega, by simp, HNX.out (fun hr => ?_), HB5.out⟩
            have h9 := HNE.out
            rw [HT5.out.1, List.take_length] at h9
            exact absurd rfl (h9 k ((HM5.out k).2 hr))
        | succ g2 =>
          have hc : c < l5.length := by have := HT5.out.1; omega
          obtain ⟨y, hy⟩ : ∃ y, l5[c]? = some y := ⟨_, List.getElem?_eq_getElem hc⟩
          obtain ⟨g4, o4, c4, e4, hc4⟩ := HR5.out.at (by omega)
          simp only [Value.slice.injEq] at e4
          obtain ⟨rfl, -, rfl⟩ := e4
          have t0 := hc4 c y (HT5.out.2 c y hy)
          have hcc : (c : Int) < (T5.length : Int) := by omega
          by_cases hyi : y = k
          · subst hyi
            have e9 : ((y : Int) == (y : Int)) = true := by simp
            have HRY := Lib.hid ((HM5.out y).1 (List.mem_of_getElem? hy))
            clear hy hc4
            go_wp2
            go_ret
            exact ⟨true, rfl, ⟨fun _ => .inl ⟨y, HIK.out, HRY.out⟩, fun _ => rfl⟩, HB1.out _ HB5.out⟩
          · have e9 : ((y : Int) == (k : Int)) = false := beq_false_of_ne (by omega)
            have HNX2 : Hid (∀ z ∈ l5.take (c + 1), z ≠ k) := fun z hz => by
              rw [List.take_add_one, hy] at hz
              simp only [Option.toList, List.mem_append, List.mem_singleton] at hz
              rcases hz with hz | rfl
              · exact HNE.out z hz
              · exact hyi
            clear hy hc4 hyi
            go_wp2
            go_roundg g2
            case measure => omega
            case rel => exact ⟨c + 1, by omega, by simp, HNX2.out, rfl⟩
end Go.Proofs.Ytblpafmcnhhdpaa
