/- Unquote in the package; no condition but those that each theorem names. -/
import Derived.Test.YteohpiamfpnofaaDoorSi
namespace Go.Proofs.YteohpiamfpnofaaDoor
open Go.RowKit Go.Maps

/-- What one text alone says. -/
def unq : Bs → Option Bs
  | [] => none
  | x :: t => if x.toNat = 34 then match txt t with
    | none => none
    | some p => if p.2 = t.length then some p.1 else none
    else none

set_option maxRecDepth 100000 in
set_option maxHeartbeats 2000000 in
theorem unquoted_no (p : Option Addr) (c : Nat) (w : World) : Calls Tryd.prog 44 #[.slice p 0 c] w fun e w' => e = .returned (.tuple #[.slice none 0 0, .int .i64 0]) ∧ w' = w := by
  go_enter Tryd.func44, Tryd.ntmps44
  go_wp2
  refine wp_scope_straight ?_
  go_wp2
  rw [Exit.noGoto_ret]
  go_ret2
  exact ⟨rfl, rfl⟩

set_option maxRecDepth 100000 in
set_option maxHeartbeats 2000000 in
theorem unquoted_other (b o n c : Nat) (x : UInt8) (w : World) (hx : w.cell? ⟨b, o, none⟩ = some (.int .u8 x.toNat)) (h : x.toNat ≠ 34) (hn : n < 140737488355328) : Calls Tryd.prog 44 #[.slice (some ⟨b, o, none⟩) (n + 1) c] w fun e w' => e = .returned (.tuple #[.slice none 0 0, .int .i64 0]) ∧ w' = w := by
  have q1 : ((x.toNat : Int) == 34) = false := by simp; omega
  have q2 : (((n : Int) + 1) == 0) = false := by simp; omega
  have q3 : ((x.toNat : Int) != 34) = true := by simp; omega
  go_enter Tryd.func44, Tryd.ntmps44
  go_wp2
  refine wp_scope_straight ?_
  go_wp2
  rw [Exit.noGoto_ret]
  go_ret2
  exact ⟨rfl, rfl⟩

theorem byt_world (w : World) (s : ByteArray) : Byt (Lib.bytesWorld w 5 s) w.heap.size 0 (tl s) := fun i hi => by
  have hi' : i < s.size := by rw [tl_size] at hi; exact hi
  rw [Nat.zero_add, Lib.bytesWorld_cell w _ s i hi']
  have e : tl s = s.data.toList := tl_data s
  simp only [e] at hi ⊢
  simp [List.getD, List.getElem?_eq_getElem hi]
theorem grown_ge (w : World) (n : Nat) (e : TypeId) : n ≤ grownCap w n 0 e := grownCap_ge w n 0 e

/-- What unquoted leaves for a text. -/
def UQ (w : World) (l : Bs) (e : Ending) (w' : World) : Prop := ∃ (v : Value) (n : Nat), e = .returned (.tuple #[v, .int .i64 n]) ∧ Below w.heap.size w w' ∧ n ≤ l.length ∧ match unq l with
  | none => n = 0 ∨ n ≠ l.length
  | some d => n = l.length ∧ n ≠ 0 ∧ Own w' w.heap.size v d
theorem unquoted_all (b o c : Nat) (l : Bs) (w : World) (hl : Byt w b o l) (hb : b < w.heap.size) (hs : l.length < 140737488355328) (hc : l.length ≤ c) :
    Calls Tryd.prog 44 #[.slice (some ⟨b, o, none⟩) l.length c] w (UQ w l) := by
  cases l with
  | nil => exact (unquoted_no _ c w).mono fun e w' ⟨h1, h2⟩ => ⟨_, 0, h1, h2 ▸ Below.refl _ _, Nat.le_refl _, .inl rfl⟩
  | cons x t =>
    simp only [List.length_cons] at hs hc
    by_cases hx : x.toNat = 34
    · have hx' : x = 34 := UInt8.toNat_inj.1 hx
      subst hx'
      refine (unquoted_yes b o c t w hl hb (by omega) hc).mono ?_
      rintro e w' ⟨v, h1, h2, h3, h4⟩
      cases hT : txt t with
      | none =>
        rw [hT] at h1
        exact ⟨v, 0, h1, h4, Nat.zero_le _, by simp [unq, hT]⟩
      | some p =>
        rw [hT] at h1
        have hp := txt_len t.length t (Nat.le_refl _) p hT
        refine ⟨v, p.2 + 1, h1, h4, by simp; omega, ?_⟩
        by_cases he : p.2 = t.length
        · have : unq (34 :: t) = some p.1 := by simp [unq, hT, he]
          rw [this]
          exact ⟨by simp [he], by omega, h3 p hT⟩
        · have : unq (34 :: t) = none := by simp [unq, hT, he]
          rw [this]
          exact .inr (by simp; omega)
    · have hc0 := hl 0 (by simp)
      simp only [List.getElem_cons_zero, Nat.add_zero] at hc0
      refine (unquoted_other b o t.length c x w hc0 hx (by omega)).mono ?_
      rintro e w' ⟨h1, h2⟩
      exact ⟨_, 0, h1, h2 ▸ Below.refl _ _, Nat.zero_le _, by simp [unq, hx]⟩

set_option maxRecDepth 100000 in
set_option maxHeartbeats 2000000 in
theorem unquote_any (s : ByteArray) (w : World) (hs : s.size < 140737488355328) : Calls Tryd.prog 24 #[.string s] w fun e w' => e = .returned (.tuple #[.string (bs ((unq (tl s)).getD [])), .bool (unq (tl s)).isSome]) ∧ Below w.heap.size w w' := by
  have kb := Lib.run_convert_string_bytes (P := Tryd.prog) w 9 35 5 s und9 und22 und5
  have hB := Lib.hid (Lib.bytesWorld_below w 5 s)
  have K := unquoted_all w.heap.size 0 (grownCap w s.size 0 5) (tl s) (Lib.bytesWorld w 5 s) (byt_world w s) (by rw [Lib.bytesWorld_size]; omega) (by rw [tl_size]; exact hs) (by rw [tl_size]; exact grown_ge _ _ _)
  unfold UQ at K
  rw [tl_size] at K
  have KK := Lib.hid K
  clear K
  cases hU : unq (tl s) with
  | none =>
    rw [hU] at KK
    go_enter Tryd.func24, Tryd.ntmps24
    go_wp2_with fail
    refine KK.out.mono ?_
    rintro e w2 ⟨v, n, rfl, b2, hn, h2⟩
    have B := Lib.hid (hB.out.trans (b2.mono (by rw [Lib.bytesWorld_size]; omega)))
    clear kb KK hU
    by_cases h0 : n = 0
    · subst h0
      go_wp2_with fail
      go_ret2
      exact ⟨rfl, B.out⟩
    · have q1 : ((n : Int) == 0) = false := by simp; omega
      have q2 : ((n : Int) == s.size) = false := by have := h2.resolve_left h0; simp; omega
      have q3 : ((n : Int) != s.size) = true := by have := h2.resolve_left h0; simp; omega
      clear h2
      go_wp2_with fail
      go_ret2
      exact ⟨rfl, B.out⟩
  | some d =>
    rw [hU] at KK
    go_enter Tryd.func24, Tryd.ntmps24
    go_wp2_with fail
    refine KK.out.mono ?_
    rintro e w2 ⟨v, n, rfl, b2, hn, h2, h3, h4⟩
    have B := Lib.hid (hB.out.trans (b2.mono (by rw [Lib.bytesWorld_size]; omega)))
    have kv := conv_own h4
    clear kb KK hU
    subst h2
    have q1 : ((s.size : Int) == 0) = false := by rw [beq_eq_false_iff_ne]; omega
    clear h4
    go_wp2_with fail
    go_ret2
    exact ⟨rfl, B.out⟩
end Go.Proofs.YteohpiamfpnofaaDoor
