/- The law TopicTells at every text of at most 1048576 bytes: names, filters and levels as the document tells them; what is asked of the world: the two tables of unicode/utf8 as their text lays them. -/
import Derived.Test.YtkkahijacbboiaaDoorLaw1
namespace Go.Proofs.YtkkahijacbboiaaDoor
open Go.RowKit Tp

set_option maxRecDepth 100000 in
set_option maxHeartbeats 4000000 in
theorem law_tells (s : ByteArray) (w : World) (hs : s.size ≤ 1048576) (hT : Tabs w) :
    Calls Tryd.prog 3 #[.string s] w fun e w' => e = .returned (.bool true) ∧ Below w.heap.size w w' := by
  have z : s.size ≤ 9223372036854775807 := by omega
  have cl := fun w => levels_any s w hs
  have cr := fun w => rlevels_any s w hs
  have hlen : (lvs (tl s)).length ≤ 1048577 := by
    rw [lvs_len]
    have := List.count_le_length (a := (47 : UInt8)) (l := tl s)
    rw [tl_size] at this
    omega
  have hne := lvs_ne (tl s)
  obtain ⟨N, hN⟩ : ∃ N, isName (tl s) = N := ⟨_, rfl⟩
  obtain ⟨I, hI⟩ : ∃ I, isFilter (tl s) = I := ⟨_, rfl⟩
  generalize lvs (tl s) = L at *
  have hml : (L.map bs).length = L.length := List.length_map _
  go_enter Tryd.func3, Tryd.ntmps3
  go_wp2_with fail
  refine (name_any s w z hT).mono ?_
  rintro e w1 ⟨rfl, hb1⟩
  rw [hN]
  go_wp2_with fail
  refine (rname_any s w1 z (hT.below hb1)).mono ?_
  rintro e w2 ⟨rfl, hb2⟩
  rw [hN]
  have B2 := hb1.trans (hb2.mono hb1.size)
  go_wp2_with fail
  refine (filter_any s w2 z (hT.below B2)).mono ?_
  rintro e w3 ⟨rfl, hb3⟩
  rw [hI]
  have B3 := B2.trans (hb3.mono B2.size)
  go_wp2_with fail
  refine (rfilter_any s w3 z (hT.below B3)).mono ?_
  rintro e w4 ⟨rfl, hb4⟩
  rw [hI]
  have B4 := B3.trans (hb4.mono B3.size)
  go_wp2_with fail
  refine (cl w4).mono ?_
  rintro e w5 ⟨v1, rfl, ho1, hb5⟩
  rw [← hml] at ho1
  obtain ⟨g1, m1, rfl, a1, a2, a3, r1⟩ := owns_row ho1 (by simpa using hne)
  have B5 := B4.trans (hb5.mono B4.size)
  go_wp2_with fail
  refine (cr w5).mono ?_
  rintro e w6 ⟨v2, rfl, ho2, hb6⟩
  obtain ⟨g2, m2, rfl, a4, a5, a6, r2⟩ := owns_row ho2 (by simpa using hne)
  have B6 := B5.trans (hb6.mono B5.size)
  have r1' := r1.below hb6 a2
  rw [hml] at a3 a6 ⊢
  clear ho1 ho2 cl cr hb1 hb2 hb3 hb4 hb5 hb6 r1 B2 B3 B4 B5 hml
  go_wp2
  go_loopg [29] L.length (fun g s29 wx => ∃ k q : Nat, k + g = L.length ∧ s29 = .int .i64 k ∧ wx = w6.drewN q)
  case atStart => exact ⟨0, 0, by omega, rfl, rfl⟩
  case round =>
    obtain ⟨k, q, hkg, rfl, rfl⟩ := hrel
    have BB := below_drewN B6 q
    have R1 : Row (w6.drewN q) g1 0 (L.map bs) := r1'
    have R2 : Row (w6.drewN q) g2 0 (L.map bs) := r2
    cases gk with
    | zero =>
      obtain rfl : k = L.length := by omega
      generalize w6.drewN q = w7 at *
      go_wp2_with fail
      refine (awake_any w7 (hT.below BB)).mono ?_
      rintro e w8 ⟨rfl, hb8⟩
      go_wp2
      go_ret
      exact ⟨rfl, BB.trans (hb8.mono BB.size)⟩
    | succ g =>
      have hk : k < L.length := by omega
      have c1 := R1.bs k hk
      have c2 := R2.bs k hk
      rw [Nat.zero_add] at c1 c2
      generalize bs L[k] = X at c1 c2
      obtain ⟨w7, hw7⟩ : ∃ w7, w6.drewN q = w7 := ⟨_, rfl⟩
      rw [hw7] at c1 c2 ⊢
      go_wp2
      go_quiet (fail)
      go_wp2
      go_roundg g
      case measure => omega
      case rel => exact ⟨k + 1, _, by omega, by simp, by rw [← hw7, World.drewN_drewN]⟩
end Go.Proofs.YtkkahijacbboiaaDoor
