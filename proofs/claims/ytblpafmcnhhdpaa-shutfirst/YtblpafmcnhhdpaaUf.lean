/- The law ShutOrders, over what it asks of the package; the conditions that the theorem names. -/
import Derived.Test.YtblpafmcnhhdpaaUe
namespace Go.Proofs.Ytblpafmcnhhdpaa
open Go.RowKit

theorem ord_len (A : List (List Int)) : (ord A).length ≤ A.length := by
  have key : ∀ m acc, Wy A acc → (run A m acc).length ≤ A.length := by
    intro m
    induction m with
    | zero => intro acc h; exact h.le
    | succ m ih =>
      intro acc h
      simp only [run]
      split
      · exact h.le
      · next i hi => exact ih _ (h.go hi).1
  exact key _ _ (Wy.nil A)
theorem cyc_len (A : List (List Int)) : (cyc A).length ≤ A.length := Nat.le_trans (List.length_filter_le _ _) (by simp)

set_option maxRecDepth 100000 in
set_option maxHeartbeats 4000000 in
theorem law_orders (K : KOrd) (A : List (List Int)) (ad : Option Addr) (cap : Nat) (w : World) (h : Rj w ad A) (hA : A.length ≤ 4611686018427387904) (hx : ∀ l ∈ A, l.length ≤ 4611686018427387904) :
    Calls Try.prog 3 #[.slice ad A.length cap] w fun e w' => e = .returned (.bool true) ∧ Below w.heap.size w w' := by
  have HSM := Lib.hid (small_any A ad cap w h hA hx)
  have KA : Hid (∀ wx, Calls Try.prog 7 #[] wx fun e w' => e = .returned (.bool true) ∧ Below wx.heap.size wx w') := fun wx => awake_any K wx
  cases hs : sml A with
  | false =>
    rw [hs] at HSM
    clear hs h hA hx K
    go_enter Try.func3, Try.ntmps3
    go_wp2_with fail
    refine HSM.out.mono ?_
    rintro e w1 ⟨rfl, rfl⟩
    go_wp2_with fail
    refine (KA.out _).mono ?_
    rintro e w2 ⟨rfl, b2⟩
    go_wp2
    go_ret
    exact ⟨rfl, b2⟩
  | true =>
    rw [hs] at HSM
    have hs' : (A.map fun l => l.length + 1).sum ≤ 400 := of_decide_eq_true hs
    obtain ⟨hl, hll⟩ := sml_len hs'
    have HX : Hid (∀ wx, Below w.heap.size w wx → Calls Try.prog 8 #[.slice ad A.length cap] wx fun e w' => ∃ s1 s2, e = .returned (.agg #[s1, s2]) ∧ Ri w' s1 ((ord A).map fun (i : Nat) => (i : Int)) ∧ Ri w' s2 ((cyc A).map fun (i : Nat) => (i : Int)) ∧ Below wx.heap.size wx w') := fun wx hb => K A ad cap wx (h.below hb) hs'
    have HY : Hid (∀ wx, Below w.heap.size w wx → Calls Try.prog 9 #[.slice ad A.length cap] wx fun e w' => ∃ s1 s2, e = .returned (.agg #[s1, s2]) ∧ Ri w' s1 ((ord A).map fun (i : Nat) => (i : Int)) ∧ Ri w' s2 ((cyc A).map fun (i : Nat) => (i : Int)) ∧ Below wx.heap.size wx w') := fun wx hb => rorder_any A ad cap wx (h.below hb) hl hll
    have hO : ((ord A).map fun (i : Nat) => (i : Int)).length ≤ 400 := by rw [List.length_map]; exact Nat.le_trans (ord_len A) hl
    have hC : ((cyc A).map fun (i : Nat) => (i : Int)).length ≤ 400 := by rw [List.length_map]; exact Nat.le_trans (cyc_len A) hl
    have HI : Hid (∀ (a b : Value) (l : List Int) (wx : World), l.length ≤ 400 → Ri wx a l → Ri wx b l → Calls Try.prog 10 #[a, b] wx fun e w' => e = .returned (.bool true) ∧ Below wx.heap.size wx w') := fun a b l wx hll ha hb => (ints_any a b l l wx ha hb (by omega) (by omega)).mono fun e w' ⟨p, q⟩ => ⟨by rw [p]; simp, q⟩
    generalize ((ord A).map fun (i : Nat) => (i : Int)) = O at HX HY hO
    generalize ((cyc A).map fun (i : Nat) => (i : Int)) = C at HX HY hC
    have HO := Lib.hid hO
    have HC := Lib.hid hC
    clear hs hs' hl hll h hA hx K hO hC
    go_enter Try.func3, Try.ntmps3
    go_wp2_with fail
    refine HSM.out.mono ?_
    rintro e w1 ⟨rfl, rfl⟩
    go_wp2_with fail
    refine (HX.out _ (Below.refl _ _)).mono ?_
    rintro e w2 ⟨s1, s2, rfl, r1, r2, b2⟩
    go_wp2_with fail
    refine (HY.out _ b2).mono ?_
    rintro e w3 ⟨s3, s4, rfl, r3, r4, b3⟩
    obtain ⟨a1, c1, rfl, -⟩ := id r1
    obtain ⟨a2, c2, rfl, -⟩ := id r2
    obtain ⟨a3, c3, rfl, -⟩ := id r3
    obtain ⟨a4, c4, rfl, -⟩ := id r4
    have B3 := b2.trans (b3.mono b2.size)
    have b4 := below1 w3 (.cells #[.slice a1 O.length c1, .slice a2 C.length c2] 27)
    have n4 := Bk.new w3 #[.slice a1 O.length c1, .slice a2 C.length c2] 27
    obtain ⟨w4, hw4⟩ : ∃ w4, w4 = w3.alloc (.cells #[.slice a1 O.length c1, .slice a2 C.length c2] 27) := ⟨_, rfl⟩
    rw [← hw4] at b4 n4
    have z4 : w4.heap.size = w3.heap.size + 1 := by rw [hw4]; simp
    have b5 := below1 w4 (.cells #[.slice a3 O.length c3, .slice a4 C.length c4] 27)
    have n5 := Bk.new w4 #[.slice a3 O.length c3, .slice a4 C.length c4] 27
    obtain ⟨w5, hw5⟩ : ∃ w5, w5 = w4.alloc (.cells #[.slice a3 O.length c3, .slice a4 C.length c4] 27) := ⟨_, rfl⟩
    rw [← hw5] at b5 n5
    rw [z4] at n5
    have HW := Lib.hid (show (w3.alloc (.cells #[.slice a1 O.length c1, .slice a2 C.length c2] 27)).alloc (.cells #[.slice a3 O.length c3, .slice a4 C.length c4] 27) = w5 by rw [hw5, hw4])
    have B45 : Below w3.heap.size w3 w5 := b4.trans (b5.mono (by omega))
    have N4 := n4.below b5
    have r1' := (r1.below b3).below B45
    have r2' := (r2.below b3).below B45
    have r3' := r3.below B45
    have r4' := r4.below B45
    have B5 := B3.trans (B45.mono B3.size)
    have HN := Lib.hid (And.intro N4 n5)
    have H1 := Lib.hid (And.intro r1' r3')
    have H2 := Lib.hid (And.intro r2' r4')
    obtain ⟨k0, k1⟩ := N4.c2
    obtain ⟨k2, k3⟩ := n5.c2
    clear r1 r2 r3 r4 r1' r2' r3' r4' hw4 hw5 z4 n4 n5 N4 b4 b5 B45 b2 b3 B3
    go_wp2_with (rw [HW.out])
    refine (HI.out _ _ O _ HO.out H1.out.1 H1.out.2).mono ?_
    rintro e w6 ⟨rfl, b6⟩
    clear k0 k1 k2 k3
    obtain ⟨k0, k1⟩ := (HN.out.1.below b6).c2
    obtain ⟨k2, k3⟩ := (HN.out.2.below b6).c2
    go_wp2_with fail
    refine (HI.out _ _ C _ HC.out (H2.out.1.below b6) (H2.out.2.below b6)).mono ?_
    rintro e w7 ⟨rfl, b7⟩
    clear k0 k1 k2 k3
    go_wp2_with fail
    refine (KA.out _).mono ?_
    rintro e w8 ⟨rfl, b8⟩
    go_wp2
    go_ret
    have B6 := B5.trans (b6.mono B5.size)
    have B7 := B6.trans (b7.mono B6.size)
    exact ⟨rfl, B7.trans (b8.mono B7.size)⟩
end Go.Proofs.Ytblpafmcnhhdpaa
