/- A text, quoted and read: there and back (plain). -/
import Derived.Test.YteohpiamfpnofaaDoorRc
import Derived.Test.YteohpiamfpnofaaDoorRd
namespace Go.Proofs.YteohpiamfpnofaaDoor

theorem hxd_ok (n : Nat) (h : n < 16) : hx (hxd n) = n ∧ 32 ≤ (hxd n).toNat ∧ (hxd n).toNat ≤ 126 := by
  have : ∀ n : Fin 16, hx (hxd n.val) = n.val ∧ 32 ≤ (hxd n.val).toNat ∧ (hxd n.val).toNat ≤ 126 := by decide
  exact this ⟨n, h⟩
theorem of_toNat (b : UInt8) : UInt8.ofNat b.toNat = b := by simp
theorem qb_txt (b : UInt8) (r : Bs) : txt (qb b ++ r) = (txt r).map fun p => (b :: p.1, p.2 + (qb b).length) := by
  unfold qb
  by_cases h1 : b.toNat = 34 ∨ b.toNat = 92
  · rw [if_pos h1]
    show txt (92 :: b :: r) = _
    rw [txt_esc (by decide), esc_q h1]
    simp only [of_toNat]
    rfl
  · rw [if_neg h1]
    by_cases h2 : b.toNat < 32 ∨ 126 < b.toNat
    · rw [if_pos h2]
      have hb := b.toNat_lt
      obtain ⟨a1, _, _⟩ := hxd_ok (b.toNat / 16) (by omega)
      obtain ⟨a2, _, _⟩ := hxd_ok (b.toNat % 16) (by omega)
      show txt (92 :: 120 :: hxd (b.toNat / 16) :: hxd (b.toNat % 16) :: r) = _
      have e : 16 * (b.toNat / 16) + b.toNat % 16 = b.toNat := by omega
      have he : esc (120 :: hxd (b.toNat / 16) :: hxd (b.toNat % 16) :: r) = (b.toNat, 4) := by
        rw [esc_n (by decide), a1, a2]
        show (if _ then (_, _) else _) = _
        rw [if_pos ⟨by decide, by omega, by omega⟩, e]
      rw [txt_esc (by decide), he]
      simp only [of_toNat]
      rfl
    · rw [if_neg h2]
      show txt (b :: r) = _
      rw [txt_plain h2 (fun h => h1 (.inl h)) (fun h => h1 (.inr h))]
      rfl
theorem flat_txt : ∀ l : Bs, txt (l.flatMap qb ++ [34]) = some (l, (l.flatMap qb).length + 1)
  | [] => by show txt [34] = _; rw [txt_quote (by decide)]; rfl
  | b :: l => by
    rw [List.flatMap_cons, List.append_assoc, qb_txt, flat_txt l]
    simp [Nat.add_comm, Nat.add_left_comm]
theorem unq_qt (l : Bs) : unq (qt l) = some l := by
  show unq (34 :: _) = _
  simp [unq, flat_txt]
theorem qb_seen (b : UInt8) : ∀ x ∈ qb b, 32 ≤ x.toNat ∧ x.toNat ≤ 126 := by
  intro x hx
  unfold qb at hx
  by_cases h1 : b.toNat = 34 ∨ b.toNat = 92
  · rw [if_pos h1] at hx
    simp at hx
    rcases hx with rfl | rfl
    · decide
    · omega
  · rw [if_neg h1] at hx
    by_cases h2 : b.toNat < 32 ∨ 126 < b.toNat
    · rw [if_pos h2] at hx
      have hb := b.toNat_lt
      obtain ⟨_, a1⟩ := hxd_ok (b.toNat / 16) (by omega)
      obtain ⟨_, a2⟩ := hxd_ok (b.toNat % 16) (by omega)
      simp at hx
      rcases hx with rfl | rfl | rfl | rfl
      · decide
      · decide
      · exact a1
      · exact a2
    · rw [if_neg h2] at hx
      simp at hx
      subst hx
      omega
theorem qt_seen (l : Bs) : ∀ x ∈ qt l, 32 ≤ x.toNat ∧ x.toNat ≤ 126 := by
  intro x hx
  unfold qt at hx
  simp only [List.mem_cons, List.mem_append, List.mem_flatMap, List.not_mem_nil, or_false] at hx
  rcases hx with rfl | ⟨b, _, h⟩ | rfl
  · decide
  · exact qb_seen b x h
  · decide
theorem qt_len (l : Bs) : (qt l).length ≤ 4 * l.length + 2 := by
  unfold qt
  have := flat_len l
  simp only [List.length_cons, List.length_append, List.length_nil]
  omega
end Go.Proofs.YteohpiamfpnofaaDoor
