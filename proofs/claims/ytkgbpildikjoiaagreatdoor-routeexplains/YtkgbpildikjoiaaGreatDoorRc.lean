/- The document's own answers, walked: agree and covers of the reference, by recursion over the two rows; no condition but those that each theorem names. -/
import Derived.Test.YtkgbpildikjoiaaGreatDoorTq
namespace Go.Proofs.YtkgbpildikjoiaaGreatDoor
open Go.RowKit Tp

def agr : List Bs → List Bs → Bool
  | [], n => n.isEmpty
  | x :: f, n => if x = ha then true else match n with
    | [] => false
    | y :: n' => if x = pl ∨ x = y then agr f n' else false

/-- The row behind its first element, as the model's slice expression names it. -/
theorem step_row {w : World} {b o c : Nat} {x : ByteArray} {F : List ByteArray} (h : Row w b o (x :: F)) (hc : F.length + 1 ≤ c) :
    ∃ p, (if c = 1 then some (⟨b, o, none⟩ : Addr) else some ⟨b, o + 1, none⟩) = some ⟨b, p, none⟩ ∧ Row w b p F := by
  by_cases h1 : c = 1
  · refine ⟨o, by rw [if_pos h1], ?_⟩
    have : F = [] := List.length_eq_zero_iff.1 (by omega)
    subst this
    intro j y hy
    simp at hy
  · exact ⟨o + 1, by rw [if_neg h1], h.tail⟩

set_option maxRecDepth 100000 in
set_option maxHeartbeats 2000000 in
theorem agree_any : ∀ (F G : List ByteArray) (b1 o1 c1 b2 o2 c2 : Nat) (w : World), Row w b1 o1 F → Row w b2 o2 G → F.length ≤ c1 → G.length ≤ c2 →
    Calls Tryz.prog 31 #[.slice (some ⟨b1, o1, none⟩) F.length c1, .slice (some ⟨b2, o2, none⟩) G.length c2] w fun e w' => e = .returned (.bool (agr (F.map tl) (G.map tl))) ∧ ∃ q, w' = w.drewN q
  | [], G, b1, o1, c1, b2, o2, c2, w, hF, hG, h1, h2 => by
    cases G with
    | nil =>
      go_enter Tryz.func31, Tryz.ntmps31
      go_wp2
      go_ret
      exact ⟨rfl, 0, rfl⟩
    | cons y G =>
      have e : (((y :: G).length : Int) == 0) = false := by simp; omega
      generalize (y :: G).length = n at *
      go_enter Tryz.func31, Tryz.ntmps31
      go_wp2
      go_ret
      exact ⟨rfl, 0, rfl⟩
  | x :: F, G, b1, o1, c1, b2, o2, c2, w, hF, hG, h1, h2 => by
    have hx := hF 0 x rfl
    rw [Nat.add_zero] at hx
    rw [List.length_cons] at h1 ⊢
    have e0 : (((F.length + 1 : Nat) : Int) == 0) = false := by simp; omega
    by_cases hha : tl x = ha
    · have hha' : (x.toList == [35]) = true := by simpa using hha
      have e : agr ((x :: F).map tl) (G.map tl) = true := by simp [agr, hha]
      rw [e]
      clear hha
      go_enter Tryz.func31, Tryz.ntmps31
      go_wp2
      go_ret
      exact ⟨rfl, 0, rfl⟩
    · have hha' : (x.toList == [35]) = false := by simpa using hha
      cases G with
      | nil =>
        have e : agr ((x :: F).map tl) (([] : List ByteArray).map tl) = false := by simp [agr, hha]
        rw [e]
        go_enter Tryz.func31, Tryz.ntmps31
        go_wp2
        go_ret
        exact ⟨rfl, 0, rfl⟩
      | cons y G =>
        have hy := hG 0 y rfl
        rw [Nat.add_zero] at hy
        rw [List.length_cons] at h2 ⊢
        have e1 : (((G.length + 1 : Nat) : Int) == 0) = false := by simp; omega
        obtain ⟨p1, hp1, hF'⟩ := step_row hF h1
        obtain ⟨p2, hp2, hG'⟩ := step_row hG h2
        have ih := fun w hF hG => agree_any F G b1 p1 (c1 - 1) b2 p2 (c2 - 1) w hF hG (by omega) (by omega)
        have e : agr ((x :: F).map tl) ((y :: G).map tl) = if tl x = pl ∨ tl x = tl y then agr (F.map tl) (G.map tl) else false := by simp [agr, hha]
        rw [e]
        clear e hF hG
        by_cases h3 : tl x = pl
        · have h3' : (x.toList == [43]) = true := by simpa using h3
          rw [if_pos (.inl h3)]
          generalize agr (F.map tl) (G.map tl) = A at ih ⊢
          clear h3
          go_enter Tryz.func31, Tryz.ntmps31
          go_wp2
          go_quiet ((go_at_call 31; (try rw [hp1]); (try rw [hp2]); exact Calls.quiet_of (ih _ hF' hG')))
          go_wp2
          go_ret
          exact ⟨rfl, _, rfl⟩
        · have h3' : (x.toList == [43]) = false := by simpa using h3
          by_cases h4 : tl x = tl y
          · have h4' : (x.toList == y.toList) = true := by simpa using h4
            rw [if_pos (.inr h4)]
            generalize agr (F.map tl) (G.map tl) = A at ih ⊢
            clear h4
            go_enter Tryz.func31, Tryz.ntmps31
            go_wp2
            go_quiet ((go_at_call 31; (try rw [hp1]); (try rw [hp2]); exact Calls.quiet_of (ih _ hF' hG')))
            go_wp2
            go_ret
            exact ⟨rfl, _, rfl⟩
          · have h4' : (x.toList == y.toList) = false := by simpa using h4
            rw [if_neg (fun h => h.elim h3 h4)]
            clear ih
            go_enter Tryz.func31, Tryz.ntmps31
            go_wp2
            go_quiet (fail)
            go_wp2
            go_ret
            exact ⟨rfl, _, rfl⟩

end Go.Proofs.YtkgbpildikjoiaaGreatDoor
