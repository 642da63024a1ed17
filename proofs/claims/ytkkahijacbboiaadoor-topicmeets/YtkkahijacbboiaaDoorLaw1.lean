/- The laws' own check (awake), and the laws TopicMatches and TopicCovers at every two texts; what is asked of the world: the two tables of unicode/utf8 as their text lays them. -/
import Derived.Test.YtkkahijacbboiaaDoorRe
namespace Go.Proofs.YtkkahijacbboiaaDoor
open Go.RowKit Tp

theorem aw1 : matches' (tl ⟨#[97, 47, 43, 47, 99]⟩) (tl ⟨#[97, 47, 98, 47, 99]⟩) = true := by rw [tl_data, tl_data]; decide +kernel
theorem aw2 : matches' (tl ⟨#[97, 47, 43]⟩) (tl ⟨#[97, 47, 98, 47, 99]⟩) = false := by rw [tl_data, tl_data]; decide +kernel
theorem aw3 : covers (tl ⟨#[97, 47, 35]⟩) (tl ⟨#[97, 47, 98]⟩) = true := by rw [tl_data, tl_data]; decide +kernel

set_option maxHeartbeats 1000000 in
theorem awake_any (w : World) (hT : Tabs w) :
    Calls Tryd.prog 15 #[] w fun e w' => e = .returned (.bool true) ∧ Below w.heap.size w w' := by
  go_enter Tryd.func15, Tryd.ntmps15
  go_wp2_with fail
  refine (match_any _ _ w (by decide) (by decide) hT).mono ?_
  rintro e w1 ⟨rfl, hb1⟩
  rw [aw1]
  go_wp2_with fail
  refine (match_any _ _ w1 (by decide) (by decide) (hT.below hb1)).mono ?_
  rintro e w2 ⟨rfl, hb2⟩
  rw [aw2]
  have B2 := hb1.trans (hb2.mono hb1.size)
  go_wp2_with fail
  refine (covers_any _ _ w2 (by decide) (by decide) (hT.below B2)).mono ?_
  rintro e w3 ⟨rfl, hb3⟩
  rw [aw3]
  go_wp2
  go_ret
  exact ⟨rfl, B2.trans (hb3.mono B2.size)⟩

set_option maxHeartbeats 1000000 in
theorem law_matches (f n : ByteArray) (w : World) (hf : f.size ≤ 9223372036854775807) (hn : n.size ≤ 9223372036854775807) (hT : Tabs w) :
    Calls Tryd.prog 4 #[.string f, .string n] w fun e w' => e = .returned (.bool true) ∧ Below w.heap.size w w' := by
  have h := match_ref (tl f) (tl n)
  go_enter Tryd.func4, Tryd.ntmps4
  go_wp2_with fail
  refine (match_any f n w hf hn hT).mono ?_
  rintro e w1 ⟨rfl, hb1⟩
  rw [h]
  go_wp2_with fail
  refine (rmatch_any f n w1 hf hn (hT.below hb1)).mono ?_
  rintro e w2 ⟨rfl, hb2⟩
  clear h
  have B2 := hb1.trans (hb2.mono hb1.size)
  generalize matchesR (tl f) (tl n) = A
  go_wp2_with fail
  refine (awake_any w2 (hT.below B2)).mono ?_
  rintro e w3 ⟨rfl, hb3⟩
  go_wp2
  go_ret
  exact ⟨rfl, B2.trans (hb3.mono B2.size)⟩

set_option maxHeartbeats 1000000 in
theorem law_covers (f g : ByteArray) (w : World) (hf : f.size ≤ 9223372036854775807) (hg : g.size ≤ 9223372036854775807) (hT : Tabs w) :
    Calls Tryd.prog 5 #[.string f, .string g] w fun e w' => e = .returned (.bool true) ∧ Below w.heap.size w w' := by
  have h := covers_ref (tl f) (tl g)
  go_enter Tryd.func5, Tryd.ntmps5
  go_wp2_with fail
  refine (covers_any f g w hf hg hT).mono ?_
  rintro e w1 ⟨rfl, hb1⟩
  rw [h]
  go_wp2_with fail
  refine (rcovers_any f g w1 hf hg (hT.below hb1)).mono ?_
  rintro e w2 ⟨rfl, hb2⟩
  clear h
  have B2 := hb1.trans (hb2.mono hb1.size)
  generalize coversR (tl f) (tl g) = A
  go_wp2_with fail
  refine (awake_any w2 (hT.below B2)).mono ?_
  rintro e w3 ⟨rfl, hb3⟩
  go_wp2
  go_ret
  exact ⟨rfl, B2.trans (hb3.mono B2.size)⟩
end Go.Proofs.YtkkahijacbboiaaDoor
