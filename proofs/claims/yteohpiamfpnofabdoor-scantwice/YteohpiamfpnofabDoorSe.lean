/- What a text says: escaped; what is asked: the bytes lie in memory. -/
import Derived.Test.YteohpiamfpnofabDoorSd
namespace Go.Proofs.YteohpiamfpnofabDoor
open Go.RowKit

/-- What stands behind a slash: the byte, and how many bytes with the slash. -/
def esc : Bs → Nat × Nat
  | [] => (0, 0)
  | x :: t' => if x.toNat = 34 ∨ x.toNat = 92 then (x.toNat, 2) else match t' with
    | h :: l :: _ => if x.toNat = 120 ∧ hx h < 16 ∧ hx l < 16 then (16 * hx h + hx l, 4) else (0, 0)
    | _ => (0, 0)

theorem hx_le (b : UInt8) : hx b ≤ 16 := by
  unfold hx
  have := b.toNat_lt
  split
  · omega
  · split
    · omega
    · split <;> omega
theorem shl_or (x y : Nat) (hx : x < 16) (hy : y < 16) : bits BinOp.or IntKind.u8 ((x : Int) * 16) (y : Int) = ((16 * x + y : Nat) : Int) := by
  have : ∀ x y : Fin 16, bits BinOp.or IntKind.u8 ((x.val : Int) * 16) (y.val : Int) = ((16 * x.val + y.val : Nat) : Int) := by decide
  exact this ⟨x, hx⟩ ⟨y, hy⟩

theorem ret_2 {a b c d : Int} {k k' : IntKind} (h1 : a = c) (h2 : b = d) : Ending.returned (.tuple #[.int k a, .int k' b]) = .returned (.tuple #[.int k c, .int k' d]) := by rw [h1, h2]
theorem esc_q {x : UInt8} {t : Bs} (h : x.toNat = 34 ∨ x.toNat = 92) : esc (x :: t) = (x.toNat, 2) := by simp [esc, h]
theorem esc_1 {x : UInt8} (h : ¬ (x.toNat = 34 ∨ x.toNat = 92)) : esc [x] = (0, 0) := by simp [esc, h]
theorem esc_2 {x y : UInt8} (h : ¬ (x.toNat = 34 ∨ x.toNat = 92)) : esc [x, y] = (0, 0) := by simp [esc, h]
theorem esc_n {x y z : UInt8} {t : Bs} (h : ¬ (x.toNat = 34 ∨ x.toNat = 92)) : esc (x :: y :: z :: t) = if x.toNat = 120 ∧ hx y < 16 ∧ hx z < 16 then (16 * hx y + hx z, 4) else (0, 0) := by simp [esc, h]

set_option maxRecDepth 100000 in
set_option maxHeartbeats 2000000 in
theorem escaped_any (b o c : Nat) (x0 : UInt8) (t : Bs) (w : World) (hl : Byt w b o (x0 :: t)) (hs : t.length ≤ 140737488355328) :
    Calls Tryd.prog 27 #[.slice (some ⟨b, o, none⟩) (t.length + 1) c] w fun e w' => e = .returned (.tuple #[.int .u8 (esc t).1, .int .i64 (esc t).2]) ∧ ∃ q, w' = w.drewN q := by
  match t, hl, hs with
  | [], hl, hs =>
    clear hl
    go_enter Tryd.func27, Tryd.ntmps27
    go_wp2
    go_ret2
    exact ⟨rfl, 0, rfl⟩
  | [x], hl, hs =>
    have c1 := hl 1 (by simp)
    simp only [List.getElem_cons_succ, List.getElem_cons_zero] at c1
    clear hl
    obtain ⟨z, hz⟩ : ∃ z, esc [x] = z := ⟨_, rfl⟩
    rw [hz]
    have HZ := Lib.hid hz
    clear hz
    go_enter Tryd.func27, Tryd.ntmps27
    go_wp2
    all_goals try simp only [beq_iff_eq, beq_eq_false_iff_ne, ne_eq] at *
    · go_ret2
      refine ⟨?_, 0, rfl⟩
      rw [← HZ.out, esc_q (by omega)]
      exact ret_2 (by show _ = (x.toNat : Int); omega) rfl
    · go_ret2
      refine ⟨?_, 0, rfl⟩
      rw [← HZ.out, esc_q (by omega)]
      exact ret_2 rfl rfl
    · go_ret2
      refine ⟨?_, 0, rfl⟩
      rw [← HZ.out, esc_1 (by omega)]
      exact ret_2 rfl rfl
  | [x, y], hl, hs =>
    have c1 := hl 1 (by simp)
    simp only [List.getElem_cons_succ, List.getElem_cons_zero] at c1
    clear hl
    obtain ⟨z, hz⟩ : ∃ z, esc [x, y] = z := ⟨_, rfl⟩
    rw [hz]
    have HZ := Lib.hid hz
    clear hz
    go_enter Tryd.func27, Tryd.ntmps27
    go_wp2
    all_goals try simp only [beq_iff_eq, beq_eq_false_iff_ne, ne_eq] at *
    · go_ret2
      refine ⟨?_, 0, rfl⟩
      rw [← HZ.out, esc_q (by omega)]
      exact ret_2 (by show _ = (x.toNat : Int); omega) rfl
    · go_ret2
      refine ⟨?_, 0, rfl⟩
      rw [← HZ.out, esc_q (by omega)]
      exact ret_2 rfl rfl
    · go_ret2
      refine ⟨?_, 0, rfl⟩
      rw [← HZ.out, esc_2 (by omega)]
      exact ret_2 rfl rfl
  | x :: y :: z :: t', hl, hs =>
    have c1 := hl 1 (by simp)
    have c2 := hl 2 (by simp)
    have c3 := hl 3 (by simp)
    simp only [List.getElem_cons_succ, List.getElem_cons_zero] at c1 c2 c3
    clear hl
    obtain ⟨v, hv⟩ : ∃ v, esc (x :: y :: z :: t') = v := ⟨_, rfl⟩
    rw [hv]
    have HZ := Lib.hid hv
    clear hv
    simp only [List.length_cons] at hs ⊢
    generalize t'.length = m at hs
    have d1 : (1 : Int) < (m : Int) + 1 + 1 + 1 + 1 := by omega
    have d2 : (2 : Int) < (m : Int) + 1 + 1 + 1 + 1 := by omega
    have d3 : (3 : Int) < (m : Int) + 1 + 1 + 1 + 1 := by omega
    by_cases hq : x.toNat = 34 ∨ x.toNat = 92
    · go_enter Tryd.func27, Tryd.ntmps27
      go_wp2
      all_goals try simp only [beq_iff_eq, beq_eq_false_iff_ne, ne_eq] at *
      · go_ret2
        refine ⟨?_, 0, rfl⟩
        rw [← HZ.out, esc_q (by omega)]
        exact ret_2 (by show _ = (x.toNat : Int); omega) rfl
      · go_ret2
        refine ⟨?_, 0, rfl⟩
        rw [← HZ.out, esc_q (by omega)]
        exact ret_2 rfl rfl
      all_goals (exfalso; omega)
    · have q1 : ((x.toNat : Int) == 34) = false := by simp; omega
      have q2 : ((x.toNat : Int) == 92) = false := by simp; omega
      have q3 : ¬ (x.toNat : Int) = 34 := by omega
      have HE := Lib.hid (esc_n (t := t') (y := y) (z := z) hq)
      clear hq
      by_cases hx1 : x.toNat = 120
      · have q4 : ((x.toNat : Int) == 120) = true := by simp; omega
        go_enter Tryd.func27, Tryd.ntmps27
        go_wp2
        clear c1
        go_region_held3 (fun w' => w'.cell? ⟨b, o + 2, none⟩ = some (.int .u8 y.toNat) ∧ w'.cell? ⟨b, o + 3, none⟩ = some (.int .u8 z.toNat)) (first | go_keep) (first | (go_at_call 34; refine (digit_any _ _).mono ?_; rintro e w2 ⟨rfl, rfl⟩))
        have hy := hx_le y
        have hz := hx_le z
        have HX := Lib.hid hx1
        clear c2 c3 q1 q2 q3 q4 d1 d2 d3 hx1
        generalize hx y = Y at HE hy
        generalize hx z = Z at HE hz
        go_wp2
        · go_ret2
          refine ⟨?_, 1, rfl⟩
          rw [← HZ.out, HE.out, if_pos ⟨HX.out, by omega, by omega⟩]
          exact ret_2 (shl_or Y Z (by omega) (by omega)) rfl
        · go_ret2
          refine ⟨?_, 1, rfl⟩
          rw [← HZ.out, HE.out, if_neg (by omega)]
          exact ret_2 rfl rfl
        · go_ret2
          refine ⟨?_, 1, rfl⟩
          rw [← HZ.out, HE.out, if_neg (by omega)]
          exact ret_2 rfl rfl
      · have q4 : ((x.toNat : Int) == 120) = false := by simp; omega
        go_enter Tryd.func27, Tryd.ntmps27
        go_wp2
        go_ret2
        refine ⟨?_, 0, rfl⟩
        rw [← HZ.out, HE.out, if_neg (fun h => hx1 h.1)]
        exact ret_2 rfl rfl
end Go.Proofs.YteohpiamfpnofabDoor
