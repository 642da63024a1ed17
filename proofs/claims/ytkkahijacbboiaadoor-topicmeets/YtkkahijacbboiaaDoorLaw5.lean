/- The law TopicMeets at every two texts: the program meets where the document does, and the name that it gives is one that both have; what is asked of the world: the two tables of unicode/utf8 as their text lays them. -/
import Derived.Test.YtkkahijacbboiaaDoorLaw1
import Derived.Test.YtkkahijacbboiaaDoorRg
namespace Go.Proofs.YtkkahijacbboiaaDoor
open Go.RowKit Tp

theorem common_size {f g n : Bs} (h : common f g = some n) : n.length ≤ 65535 := by
  unfold common at h
  split at h
  · cases h
  · split at h
    · cases h; assumption
    · cases h

set_option maxRecDepth 100000 in
set_option maxHeartbeats 2000000 in
theorem law_meets (f g : ByteArray) (w : World) (hf : f.size ≤ 9223372036854775807) (hg : g.size ≤ 9223372036854775807) (hT : Tabs w) :
    Calls Tryd.prog 6 #[.string f, .string g] w fun e w' => e = .returned (.bool true) ∧ Below w.heap.size w w' := by
  have cm := fun w => rmeets_any f g w hf hg
  rw [← meets_ref] at cm
  have cc := fun w => common_any f g w hf hg
  have ck := fun w => meets_any f g w hf hg
  cases hc : common (tl f) (tl g) with
  | none =>
    simp only [hc, Option.getD_none, Option.isSome_none] at cm cc ck
    have hne : (bs []).toList.isEmpty = true := by rw [show (bs []).toList = [] from tl_bs []]; rfl
    generalize bs [] = E at *
    go_enter Tryd.func6, Tryd.ntmps6
    go_wp2_with fail
    refine (cm w hT).mono ?_
    rintro e w1 ⟨rfl, hb1⟩
    go_wp2_with fail
    refine (cc w1 (hT.below hb1)).mono ?_
    rintro e w2 ⟨rfl, hb2⟩
    have B2 := hb1.trans (hb2.mono hb1.size)
    go_wp2_with fail
    refine (ck w2 (hT.below B2)).mono ?_
    rintro e w3 ⟨rfl, hb3⟩
    have B3 := B2.trans (hb3.mono B2.size)
    go_wp2_with fail
    refine (awake_any w3 (hT.below B3)).mono ?_
    rintro e w4 ⟨rfl, hb4⟩
    go_wp2
    go_ret
    exact ⟨rfl, B3.trans (hb4.mono B3.size)⟩
  | some n =>
    have hok := common_ok hc
    have hz := common_size hc
    simp only [hc, Option.getD_some, Option.isSome_some] at cm cc ck
    have m1 : matchesR (tl f) (tl (bs n)) = true := by rw [tl_bs, ← match_ref]; exact hok.1
    have m2 : matchesR (tl g) (tl (bs n)) = true := by rw [tl_bs, ← match_ref]; exact hok.2
    have hsz : (bs n).size ≤ 9223372036854775807 := by rw [← tl_size, tl_bs]; omega
    clear hok hz hc
    generalize bs n = N at *
    go_enter Tryd.func6, Tryd.ntmps6
    go_wp2_with fail
    refine (cm w hT).mono ?_
    rintro e w1 ⟨rfl, hb1⟩
    go_wp2_with fail
    refine (cc w1 (hT.below hb1)).mono ?_
    rintro e w2 ⟨rfl, hb2⟩
    have B2 := hb1.trans (hb2.mono hb1.size)
    go_wp2_with fail
    refine (ck w2 (hT.below B2)).mono ?_
    rintro e w3 ⟨rfl, hb3⟩
    have B3 := B2.trans (hb3.mono B2.size)
    go_wp2_with fail
    refine (rmatch_any f N w3 hf hsz (hT.below B3)).mono ?_
    rintro e w4 ⟨rfl, hb4⟩
    rw [m1]
    have B4 := B3.trans (hb4.mono B3.size)
    go_wp2_with fail
    refine (rmatch_any g N w4 hg hsz (hT.below B4)).mono ?_
    rintro e w5 ⟨rfl, hb5⟩
    rw [m2]
    have B5 := B4.trans (hb5.mono B4.size)
    go_wp2_with fail
    refine (awake_any w5 (hT.below B5)).mono ?_
    rintro e w6 ⟨rfl, hb6⟩
    go_wp2
    go_ret
    exact ⟨rfl, B5.trans (hb6.mono B5.size)⟩
end Go.Proofs.YtkkahijacbboiaaDoor
