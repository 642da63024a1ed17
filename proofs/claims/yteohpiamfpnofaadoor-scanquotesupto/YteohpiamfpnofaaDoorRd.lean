/- The document's own answer: Unquote; what is asked: fewer than 2^47 bytes. -/
import Derived.Test.YteohpiamfpnofaaDoorRb
import Derived.Test.YteohpiamfpnofaaDoorSo
namespace Go.Proofs.YteohpiamfpnofaaDoor
open Go.RowKit Go.Maps

set_option maxRecDepth 100000 in
set_option maxHeartbeats 2000000 in
theorem runquote_any (s : ByteArray) (w : World) (hs : s.size < 140737488355328) : Calls Tryd.prog 25 #[.string s] w fun e w' => e = .returned (.tuple #[.string (bs ((unq (tl s)).getD [])), .bool (unq (tl s)).isSome]) ∧ Below w.heap.size w w' := by
  by_cases h0 : s.size = 0
  · have e0 : tl s = [] := by apply List.eq_nil_of_length_eq_zero; rw [tl_size]; exact h0
    have es : s = ⟨#[]⟩ := by
      have : s.data.size = 0 := h0
      cases s with | mk d => simp at this; rw [this]
    rw [e0]
    subst es
    clear e0 h0 hs
    go_enter Tryd.func25, Tryd.ntmps25
    go_wp2_with fail
    go_ret2
    exact ⟨rfl, Below.refl _ _⟩
  · have h1 : 0 < s.size := by omega
    have hne : s.toList.isEmpty = false := by
      cases h : s.toList with
      | nil => have h2 : (tl s).length = s.size := tl_size s; rw [show tl s = s.toList from rfl, h] at h2; simp at h2; omega
      | cons a b => rfl
    obtain ⟨h2, h3⟩ := byte_at s 0 h1
    have hcons : ∃ t, tl s = s[0] :: t := by
      cases ht : tl s with
      | nil => rw [ht] at h2; simp at h2
      | cons a b => refine ⟨b, ?_⟩; simp only [ht] at h3; rw [← h3]; rfl
    obtain ⟨t, ht⟩ := hcons
    have kb := Lib.run_convert_string_bytes (P := Tryd.prog) w 9 35 5 s und9 und22 und5
    have hB := Lib.hid (Lib.bytesWorld_below w 5 s)
    have K := rquoted_any w.heap.size 0 (grownCap w s.size 0 5) 0 (tl s) (Lib.bytesWorld w 5 s) (byt_world w s) (by rw [Lib.bytesWorld_size]; omega) (by rw [tl_size]; omega) (by rw [tl_size]; omega) (by rw [tl_size]; exact grown_ge _ _ _)
    unfold RQ at K
    have hlen : t.length + 1 = s.size := by rw [← tl_size s, ht]; simp
    rw [tl_size, ht] at K
    have hd : (s[0] :: t).drop (0 + 1) = t := rfl
    rw [hd] at K
    have KK := Lib.hid K
    clear K hd h2 h3
    rw [ht]
    clear ht
    by_cases h34 : (s[0]).toNat = 34
    · have q1 : (((s[0]).toNat : Int) == 34) = true := by simp [h34]
      have q2 : (((s[0]).toNat : Int) != 34) = false := by simp [h34]
      cases hT : txt t with
      | none =>
        have HU : Hid (unq (s[0] :: t) = none) := by show unq _ = none; simp [unq, h34, hT]
        rw [hT] at KK
        have q3 : ((-1 : Int) == s.size) = false := by rw [beq_eq_false_iff_ne]; omega
        have q4 : ((-1 : Int) != s.size) = true := by rw [bne_iff_ne]; omega
        clear hT
        go_enter Tryd.func25, Tryd.ntmps25
        go_wp2_with fail
        refine KK.out.mono ?_
        rintro e w2 ⟨rfl, b2⟩
        have B := Lib.hid (hB.out.trans (b2.mono (by rw [Lib.bytesWorld_size]; omega)))
        clear kb KK b2
        simp only [Option.elim]
        go_wp2_with fail
        go_ret2
        exact ⟨by rw [HU.out]; rfl, B.out⟩
      | some p =>
        rw [hT] at KK
        by_cases he : p.2 = t.length
        · have HU : Hid (unq (s[0] :: t) = some p.1) := by show unq _ = _; simp [unq, h34, hT, he]
          have q3 : ((0 + 1 + p.2 : Nat) : Int) = (s.size : Int) := by omega
          have q5 : ((s.size : Int) == s.size) = true := by simp
          have HQ := Lib.hid q3
          clear hT he q3
          go_enter Tryd.func25, Tryd.ntmps25
          go_wp2_with fail
          refine KK.out.mono ?_
          rintro e w2 ⟨rfl, b2⟩
          have B := Lib.hid (hB.out.trans (b2.mono (by rw [Lib.bytesWorld_size]; omega)))
          clear kb KK b2
          simp only [Option.elim]
          rw [HQ.out]
          go_wp2_with fail
          go_ret2
          exact ⟨by rw [HU.out]; rfl, B.out⟩
        · have HU : Hid (unq (s[0] :: t) = none) := by show unq _ = _; simp [unq, h34, hT, he]
          obtain ⟨m, hm⟩ : ∃ m : Nat, 0 + 1 + p.2 = m := ⟨_, rfl⟩
          have q3 : ((m : Int) == s.size) = false := by rw [beq_eq_false_iff_ne]; omega
          have q4 : ((m : Int) != s.size) = true := by rw [bne_iff_ne]; omega
          have HM := Lib.hid hm
          clear hT he hm
          go_enter Tryd.func25, Tryd.ntmps25
          go_wp2_with fail
          refine KK.out.mono ?_
          rintro e w2 ⟨rfl, b2⟩
          have B := Lib.hid (hB.out.trans (b2.mono (by rw [Lib.bytesWorld_size]; omega)))
          clear kb KK b2
          simp only [Option.elim]
          rw [HM.out]
          go_wp2_with fail
          go_ret2
          exact ⟨by rw [HU.out]; rfl, B.out⟩
    · have q1 : (((s[0]).toNat : Int) == 34) = false := by simp; omega
      have q2 : (((s[0]).toNat : Int) != 34) = true := by simp; omega
      have HU : Hid (unq (s[0] :: t) = none) := by show unq _ = none; simp [unq, h34]
      clear kb KK
      go_enter Tryd.func25, Tryd.ntmps25
      go_wp2_with fail
      go_ret2
      exact ⟨by rw [HU.out]; rfl, Below.refl _ _⟩
end Go.Proofs.YteohpiamfpnofaaDoor
