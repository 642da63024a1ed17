/- The law TopicHolds at every four texts: covering is an order, and what covers a filter meets all that it meets; what is asked of the world: the two tables of unicode/utf8 as their text lays them. -/
import Derived.Test.YtkkahijacbboiaaDoorLaw1
import Derived.Test.YtkkahijacbboiaaDoorTz
namespace Go.Proofs.YtkkahijacbboiaaDoor
open Go.RowKit Tp

set_option maxRecDepth 100000 in
set_option maxHeartbeats 2000000 in
theorem holds_f (f g h n : ByteArray) (w : World) (zf : f.size ≤ 9223372036854775807) (zg : g.size ≤ 9223372036854775807) (zh : h.size ≤ 9223372036854775807) (zn : n.size ≤ 9223372036854775807) (hT : Tabs w) (hf : isFilter (tl f) = false) :
    Calls Tryd.prog 7 #[.string f, .string g, .string h, .string n] w fun e w' => e = .returned (.bool true) ∧ Below w.heap.size w w' := by
  have _u := And.intro zf (And.intro zg (And.intro zh zn))
  clear _u
  go_enter Tryd.func7, Tryd.ntmps7
  go_wp2_with fail
  refine (rfilter_any f w zf hT).mono ?_
  rintro e w1 ⟨rfl, hb1⟩
  rw [hf]
  have B1 := hb1
  go_wp2_with fail
  refine (awake_any w1 (hT.below B1)).mono ?_
  rintro e w2 ⟨rfl, hb2⟩
  have B2 := B1.trans (hb2.mono B1.size)
  go_wp2
  go_ret
  exact ⟨rfl, B2⟩

set_option maxRecDepth 100000 in
set_option maxHeartbeats 2000000 in
theorem holds_g (f g h n : ByteArray) (w : World) (zf : f.size ≤ 9223372036854775807) (zg : g.size ≤ 9223372036854775807) (zh : h.size ≤ 9223372036854775807) (zn : n.size ≤ 9223372036854775807) (hT : Tabs w) (hf : isFilter (tl f) = true) (hg : isFilter (tl g) = false) :
    Calls Tryd.prog 7 #[.string f, .string g, .string h, .string n] w fun e w' => e = .returned (.bool true) ∧ Below w.heap.size w w' := by
  have _u := And.intro zf (And.intro zg (And.intro zh zn))
  clear _u
  go_enter Tryd.func7, Tryd.ntmps7
  go_wp2_with fail
  refine (rfilter_any f w zf hT).mono ?_
  rintro e w1 ⟨rfl, hb1⟩
  rw [hf]
  have B1 := hb1
  go_wp2_with fail
  refine (rfilter_any g w1 zg (hT.below B1)).mono ?_
  rintro e w2 ⟨rfl, hb2⟩
  rw [hg]
  have B2 := B1.trans (hb2.mono B1.size)
  go_wp2_with fail
  refine (awake_any w2 (hT.below B2)).mono ?_
  rintro e w3 ⟨rfl, hb3⟩
  have B3 := B2.trans (hb3.mono B2.size)
  go_wp2
  go_ret
  exact ⟨rfl, B3⟩

set_option maxRecDepth 100000 in
set_option maxHeartbeats 2000000 in
theorem holds_h (f g h n : ByteArray) (w : World) (zf : f.size ≤ 9223372036854775807) (zg : g.size ≤ 9223372036854775807) (zh : h.size ≤ 9223372036854775807) (zn : n.size ≤ 9223372036854775807) (hT : Tabs w) (hf : isFilter (tl f) = true) (hg : isFilter (tl g) = true) (hh : isFilter (tl h) = false) :
    Calls Tryd.prog 7 #[.string f, .string g, .string h, .string n] w fun e w' => e = .returned (.bool true) ∧ Below w.heap.size w w' := by
  have _u := And.intro zf (And.intro zg (And.intro zh zn))
  clear _u
  go_enter Tryd.func7, Tryd.ntmps7
  go_wp2_with fail
  refine (rfilter_any f w zf hT).mono ?_
  rintro e w1 ⟨rfl, hb1⟩
  rw [hf]
  have B1 := hb1
  go_wp2_with fail
  refine (rfilter_any g w1 zg (hT.below B1)).mono ?_
  rintro e w2 ⟨rfl, hb2⟩
  rw [hg]
  have B2 := B1.trans (hb2.mono B1.size)
  go_wp2_with fail
  refine (rfilter_any h w2 zh (hT.below B2)).mono ?_
  rintro e w3 ⟨rfl, hb3⟩
  rw [hh]
  have B3 := B2.trans (hb3.mono B2.size)
  go_wp2_with fail
  refine (awake_any w3 (hT.below B3)).mono ?_
  rintro e w4 ⟨rfl, hb4⟩
  have B4 := B3.trans (hb4.mono B3.size)
  go_wp2
  go_ret
  exact ⟨rfl, B4⟩

set_option maxRecDepth 100000 in
set_option maxHeartbeats 2000000 in
theorem holds_no (f g h n : ByteArray) (w : World) (zf : f.size ≤ 9223372036854775807) (zg : g.size ≤ 9223372036854775807) (zh : h.size ≤ 9223372036854775807) (zn : n.size ≤ 9223372036854775807) (hT : Tabs w) (hf : isFilter (tl f) = true) (hg : isFilter (tl g) = true) (hh : isFilter (tl h) = true) (eff : covers (tl f) (tl f) = true) (esy : (common (tl g) (tl f)).isSome = (common (tl f) (tl g)).isSome) (efg : covers (tl f) (tl g) = false) :
    Calls Tryd.prog 7 #[.string f, .string g, .string h, .string n] w fun e w' => e = .returned (.bool true) ∧ Below w.heap.size w w' := by
  have _u := And.intro zf (And.intro zg (And.intro zh zn))
  clear _u
  go_enter Tryd.func7, Tryd.ntmps7
  go_wp2_with fail
  refine (rfilter_any f w zf hT).mono ?_
  rintro e w1 ⟨rfl, hb1⟩
  rw [hf]
  have B1 := hb1
  go_wp2_with fail
  refine (rfilter_any g w1 zg (hT.below B1)).mono ?_
  rintro e w2 ⟨rfl, hb2⟩
  rw [hg]
  have B2 := B1.trans (hb2.mono B1.size)
  go_wp2_with fail
  refine (rfilter_any h w2 zh (hT.below B2)).mono ?_
  rintro e w3 ⟨rfl, hb3⟩
  rw [hh]
  have B3 := B2.trans (hb3.mono B2.size)
  go_wp2_with fail
  refine (covers_any f f w3 zf zf (hT.below B3)).mono ?_
  rintro e w4 ⟨rfl, hb4⟩
  rw [eff]
  have B4 := B3.trans (hb4.mono B3.size)
  go_wp2_with fail
  refine (covers_any f g w4 zf zg (hT.below B4)).mono ?_
  rintro e w5 ⟨rfl, hb5⟩
  rw [efg]
  have B5 := B4.trans (hb5.mono B4.size)
  go_wp2_with fail
  refine (meets_any f g w5 zf zg (hT.below B5)).mono ?_
  rintro e w6 ⟨rfl, hb6⟩
  have B6 := B5.trans (hb6.mono B5.size)
  go_wp2_with fail
  refine (meets_any g f w6 zg zf (hT.below B6)).mono ?_
  rintro e w7 ⟨rfl, hb7⟩
  rw [esy]
  have B7 := B6.trans (hb7.mono B6.size)
  go_wp2_with fail
  refine (awake_any w7 (hT.below B7)).mono ?_
  rintro e w8 ⟨rfl, hb8⟩
  have B8 := B7.trans (hb8.mono B7.size)
  go_wp2
  go_ret
  exact ⟨rfl, B8⟩

set_option maxRecDepth 100000 in
set_option maxHeartbeats 2000000 in
theorem holds_000 (f g h n : ByteArray) (w : World) (zf : f.size ≤ 9223372036854775807) (zg : g.size ≤ 9223372036854775807) (zh : h.size ≤ 9223372036854775807) (zn : n.size ≤ 9223372036854775807) (hT : Tabs w) (hf : isFilter (tl f) = true) (hg : isFilter (tl g) = true) (hh : isFilter (tl h) = true) (eff : covers (tl f) (tl f) = true) (efg : covers (tl f) (tl g) = true) (mfg : (common (tl f) (tl g)).isSome = true) (mgf : (common (tl g) (tl f)).isSome = true) (ma : matches' (tl g) (tl n) = false) (cb : covers (tl g) (tl h) = false) (md : (common (tl g) (tl h)).isSome = false) :
    Calls Tryd.prog 7 #[.string f, .string g, .string h, .string n] w fun e w' => e = .returned (.bool true) ∧ Below w.heap.size w w' := by
  have _u := And.intro zf (And.intro zg (And.intro zh zn))
  clear _u
  go_enter Tryd.func7, Tryd.ntmps7
  go_wp2_with fail
  refine (rfilter_any f w zf hT).mono ?_
  rintro e w1 ⟨rfl, hb1⟩
  rw [hf]
  have B1 := hb1
  go_wp2_with fail
  refine (rfilter_any g w1 zg (hT.below B1)).mono ?_
  rintro e w2 ⟨rfl, hb2⟩
  rw [hg]
  have B2 := B1.trans (hb2.mono B1.size)
  go_wp2_with fail
  refine (rfilter_any h w2 zh (hT.below B2)).mono ?_
  rintro e w3 ⟨rfl, hb3⟩
  rw [hh]
  have B3 := B2.trans (hb3.mono B2.size)
  go_wp2_with fail
  refine (covers_any f f w3 zf zf (hT.below B3)).mono ?_
  rintro e w4 ⟨rfl, hb4⟩
  rw [eff]
  have B4 := B3.trans (hb4.mono B3.size)
  go_wp2_with fail
  refine (covers_any f g w4 zf zg (hT.below B4)).mono ?_
  rintro e w5 ⟨rfl, hb5⟩
  rw [efg]
  have B5 := B4.trans (hb5.mono B4.size)
  go_wp2_with fail
  refine (meets_any f g w5 zf zg (hT.below B5)).mono ?_
  rintro e w6 ⟨rfl, hb6⟩
  rw [mfg]
  have B6 := B5.trans (hb6.mono B5.size)
  go_wp2_with fail
  refine (match_any g n w6 zg zn (hT.below B6)).mono ?_
  rintro e w7 ⟨rfl, hb7⟩
  rw [ma]
  have B7 := B6.trans (hb7.mono B6.size)
  go_wp2_with fail
  refine (covers_any g h w7 zg zh (hT.below B7)).mono ?_
  rintro e w8 ⟨rfl, hb8⟩
  rw [cb]
  have B8 := B7.trans (hb8.mono B7.size)
  go_wp2_with fail
  refine (meets_any g h w8 zg zh (hT.below B8)).mono ?_
  rintro e w9 ⟨rfl, hb9⟩
  rw [md]
  have B9 := B8.trans (hb9.mono B8.size)
  go_wp2_with fail
  refine (meets_any f g w9 zf zg (hT.below B9)).mono ?_
  rintro e w10 ⟨rfl, hb10⟩
  rw [mfg]
  have B10 := B9.trans (hb10.mono B9.size)
  go_wp2_with fail
  refine (meets_any g f w10 zg zf (hT.below B10)).mono ?_
  rintro e w11 ⟨rfl, hb11⟩
  rw [mgf]
  have B11 := B10.trans (hb11.mono B10.size)
  go_wp2_with fail
  refine (awake_any w11 (hT.below B11)).mono ?_
  rintro e w12 ⟨rfl, hb12⟩
  have B12 := B11.trans (hb12.mono B11.size)
  go_wp2
  go_ret
  exact ⟨rfl, B12⟩

set_option maxRecDepth 100000 in
set_option maxHeartbeats 2000000 in
theorem holds_001 (f g h n : ByteArray) (w : World) (zf : f.size ≤ 9223372036854775807) (zg : g.size ≤ 9223372036854775807) (zh : h.size ≤ 9223372036854775807) (zn : n.size ≤ 9223372036854775807) (hT : Tabs w) (hf : isFilter (tl f) = true) (hg : isFilter (tl g) = true) (hh : isFilter (tl h) = true) (eff : covers (tl f) (tl f) = true) (efg : covers (tl f) (tl g) = true) (mfg : (common (tl f) (tl g)).isSome = true) (mgf : (common (tl g) (tl f)).isSome = true) (ma : matches' (tl g) (tl n) = false) (cb : covers (tl g) (tl h) = false) (md : (common (tl g) (tl h)).isSome = true) (md2 : (common (tl f) (tl h)).isSome = true) :
    Calls Tryd.prog 7 #[.string f, .string g, .string h, .string n] w fun e w' => e = .returned (.bool true) ∧ Below w.heap.size w w' := by
  have _u := And.intro zf (And.intro zg (And.intro zh zn))
  clear _u
  go_enter Tryd.func7, Tryd.ntmps7
  go_wp2_with fail
  refine (rfilter_any f w zf hT).mono ?_
  rintro e w1 ⟨rfl, hb1⟩
  rw [hf]
  have B1 := hb1
  go_wp2_with fail
  refine (rfilter_any g w1 zg (hT.below B1)).mono ?_
  rintro e w2 ⟨rfl, hb2⟩
  rw [hg]
  have B2 := B1.trans (hb2.mono B1.size)
  go_wp2_with fail
  refine (rfilter_any h w2 zh (hT.below B2)).mono ?_
  rintro e w3 ⟨rfl, hb3⟩
  rw [hh]
  have B3 := B2.trans (hb3.mono B2.size)
  go_wp2_with fail
  refine (covers_any f f w3 zf zf (hT.below B3)).mono ?_
  rintro e w4 ⟨rfl, hb4⟩
  rw [eff]
  have B4 := B3.trans (hb4.mono B3.size)
  go_wp2_with fail
  refine (covers_any f g w4 zf zg (hT.below B4)).mono ?_
  rintro e w5 ⟨rfl, hb5⟩
  rw [efg]
  have B5 := B4.trans (hb5.mono B4.size)
  go_wp2_with fail
  refine (meets_any f g w5 zf zg (hT.below B5)).mono ?_
  rintro e w6 ⟨rfl, hb6⟩
  rw [mfg]
  have B6 := B5.trans (hb6.mono B5.size)
  go_wp2_with fail
  refine (match_any g n w6 zg zn (hT.below B6)).mono ?_
  rintro e w7 ⟨rfl, hb7⟩
  rw [ma]
  have B7 := B6.trans (hb7.mono B6.size)
  go_wp2_with fail
  refine (covers_any g h w7 zg zh (hT.below B7)).mono ?_
  rintro e w8 ⟨rfl, hb8⟩
  rw [cb]
  have B8 := B7.trans (hb8.mono B7.size)
  go_wp2_with fail
  refine (meets_any g h w8 zg zh (hT.below B8)).mono ?_
  rintro e w9 ⟨rfl, hb9⟩
  rw [md]
  have B9 := B8.trans (hb9.mono B8.size)
  go_wp2_with fail
  refine (meets_any f h w9 zf zh (hT.below B9)).mono ?_
  rintro e w10 ⟨rfl, hb10⟩
  rw [md2]
  have B10 := B9.trans (hb10.mono B9.size)
  go_wp2_with fail
  refine (meets_any f g w10 zf zg (hT.below B10)).mono ?_
  rintro e w11 ⟨rfl, hb11⟩
  rw [mfg]
  have B11 := B10.trans (hb11.mono B10.size)
  go_wp2_with fail
  refine (meets_any g f w11 zg zf (hT.below B11)).mono ?_
  rintro e w12 ⟨rfl, hb12⟩
  rw [mgf]
  have B12 := B11.trans (hb12.mono B11.size)
  go_wp2_with fail
  refine (awake_any w12 (hT.below B12)).mono ?_
  rintro e w13 ⟨rfl, hb13⟩
  have B13 := B12.trans (hb13.mono B12.size)
  go_wp2
  go_ret
  exact ⟨rfl, B13⟩

set_option maxRecDepth 100000 in
set_option maxHeartbeats 2000000 in
theorem holds_010 (f g h n : ByteArray) (w : World) (zf : f.size ≤ 9223372036854775807) (zg : g.size ≤ 9223372036854775807) (zh : h.size ≤ 9223372036854775807) (zn : n.size ≤ 9223372036854775807) (hT : Tabs w) (hf : isFilter (tl f) = true) (hg : isFilter (tl g) = true) (hh : isFilter (tl h) = true) (eff : covers (tl f) (tl f) = true) (efg : covers (tl f) (tl g) = true) (mfg : (common (tl f) (tl g)).isSome = true) (mgf : (common (tl g) (tl f)).isSome = true) (ma : matches' (tl g) (tl n) = false) (cb : covers (tl g) (tl h) = true) (cb2 : covers (tl f) (tl h) = true) (md : (common (tl g) (tl h)).isSome = false) :
    Calls Tryd.prog 7 #[.string f, .string g, .string h, .string n] w fun e w' => e = .returned (.bool true) ∧ Below w.heap.size w w' := by
  have _u := And.intro zf (And.intro zg (And.intro zh zn))
  clear _u
  go_enter Tryd.func7, Tryd.ntmps7
  go_wp2_with fail
  refine (rfilter_any f w zf hT).mono ?_
  rintro e w1 ⟨rfl, hb1⟩
  rw [hf]
  have B1 := hb1
  go_wp2_with fail
  refine (rfilter_any g w1 zg (hT.below B1)).mono ?_
  rintro e w2 ⟨rfl, hb2⟩
  rw [hg]
  have B2 := B1.trans (hb2.mono B1.size)
  go_wp2_with fail
  refine (rfilter_any h w2 zh (hT.below B2)).mono ?_
  rintro e w3 ⟨rfl, hb3⟩
  rw [hh]
  have B3 := B2.trans (hb3.mono B2.size)
  go_wp2_with fail
  refine (covers_any f f w3 zf zf (hT.below B3)).mono ?_
  rintro e w4 ⟨rfl, hb4⟩
  rw [eff]
  have B4 := B3.trans (hb4.mono B3.size)
  go_wp2_with fail
  refine (covers_any f g w4 zf zg (hT.below B4)).mono ?_
  rintro e w5 ⟨rfl, hb5⟩
  rw [efg]
  have B5 := B4.trans (hb5.mono B4.size)
  go_wp2_with fail
  refine (meets_any f g w5 zf zg (hT.below B5)).mono ?_
  rintro e w6 ⟨rfl, hb6⟩
  rw [mfg]
  have B6 := B5.trans (hb6.mono B5.size)
  go_wp2_with fail
  refine (match_any g n w6 zg zn (hT.below B6)).mono ?_
  rintro e w7 ⟨rfl, hb7⟩
  rw [ma]
  have B7 := B6.trans (hb7.mono B6.size)
  go_wp2_with fail
  refine (covers_any g h w7 zg zh (hT.below B7)).mono ?_
  rintro e w8 ⟨rfl, hb8⟩
  rw [cb]
  have B8 := B7.trans (hb8.mono B7.size)
  go_wp2_with fail
  refine (covers_any f h w8 zf zh (hT.below B8)).mono ?_
  rintro e w9 ⟨rfl, hb9⟩
  rw [cb2]
  have B9 := B8.trans (hb9.mono B8.size)
  go_wp2_with fail
  refine (meets_any g h w9 zg zh (hT.below B9)).mono ?_
  rintro e w10 ⟨rfl, hb10⟩
  rw [md]
  have B10 := B9.trans (hb10.mono B9.size)
  go_wp2_with fail
  refine (meets_any f g w10 zf zg (hT.below B10)).mono ?_
  rintro e w11 ⟨rfl, hb11⟩
  rw [mfg]
  have B11 := B10.trans (hb11.mono B10.size)
  go_wp2_with fail
  refine (meets_any g f w11 zg zf (hT.below B11)).mono ?_
  rintro e w12 ⟨rfl, hb12⟩
  rw [mgf]
  have B12 := B11.trans (hb12.mono B11.size)
  go_wp2_with fail
  refine (awake_any w12 (hT.below B12)).mono ?_
  rintro e w13 ⟨rfl, hb13⟩
  have B13 := B12.trans (hb13.mono B12.size)
  go_wp2
  go_ret
  exact ⟨rfl, B13⟩

set_option maxRecDepth 100000 in
set_option maxHeartbeats 2000000 in
theorem holds_011 (f g h n : ByteArray) (w : World) (zf : f.size ≤ 9223372036854775807) (zg : g.size ≤ 9223372036854775807) (zh : h.size ≤ 9223372036854775807) (zn : n.size ≤ 9223372036854775807) (hT : Tabs w) (hf : isFilter (tl f) = true) (hg : isFilter (tl g) = true) (hh : isFilter (tl h) = true) (eff : covers (tl f) (tl f) = true) (efg : covers (tl f) (tl g) = true) (mfg : (common (tl f) (tl g)).isSome = true) (mgf : (common (tl g) (tl f)).isSome = true) (ma : matches' (tl g) (tl n) = false) (cb : covers (tl g) (tl h) = true) (cb2 : covers (tl f) (tl h) = true) (md : (common (tl g) (tl h)).isSome = true) (md2 : (common (tl f) (tl h)).isSome = true) :
    Calls Tryd.prog 7 #[.string f, .string g, .string h, .string n] w fun e w' => e = .returned (.bool true) ∧ Below w.heap.size w w' := by
  have _u := And.intro zf (And.intro zg (And.intro zh zn))
  clear _u
  go_enter Tryd.func7, Tryd.ntmps7
  go_wp2_with fail
  refine (rfilter_any f w zf hT).mono ?_
  rintro e w1 ⟨rfl, hb1⟩
  rw [hf]
  have B1 := hb1
  go_wp2_with fail
  refine (rfilter_any g w1 zg (hT.below B1)).mono ?_
  rintro e w2 ⟨rfl, hb2⟩
  rw [hg]
  have B2 := B1.trans (hb2.mono B1.size)
  go_wp2_with fail
  refine (rfilter_any h w2 zh (hT.below B2)).mono ?_
  rintro e w3 ⟨rfl, hb3⟩
  rw [hh]
  have B3 := B2.trans (hb3.mono B2.size)
  go_wp2_with fail
  refine (covers_any f f w3 zf zf (hT.below B3)).mono ?_
  rintro e w4 ⟨rfl, hb4⟩
  rw [eff]
  have B4 := B3.trans (hb4.mono B3.size)
  go_wp2_with fail
  refine (covers_any f g w4 zf zg (hT.below B4)).mono ?_
  rintro e w5 ⟨rfl, hb5⟩
  rw [efg]
  have B5 := B4.trans (hb5.mono B4.size)
  go_wp2_with fail
  refine (meets_any f g w5 zf zg (hT.below B5)).mono ?_
  rintro e w6 ⟨rfl, hb6⟩
  rw [mfg]
  have B6 := B5.trans (hb6.mono B5.size)
  go_wp2_with fail
  refine (match_any g n w6 zg zn (hT.below B6)).mono ?_
  rintro e w7 ⟨rfl, hb7⟩
  rw [ma]
  have B7 := B6.trans (hb7.mono B6.size)
  go_wp2_with fail
  refine (covers_any g h w7 zg zh (hT.below B7)).mono ?_
  rintro e w8 ⟨rfl, hb8⟩
  rw [cb]
  have B8 := B7.trans (hb8.mono B7.size)
  go_wp2_with fail
  refine (covers_any f h w8 zf zh (hT.below B8)).mono ?_
  rintro e w9 ⟨rfl, hb9⟩
  rw [cb2]
  have B9 := B8.trans (hb9.mono B8.size)
  go_wp2_with fail
  refine (meets_any g h w9 zg zh (hT.below B9)).mono ?_
  rintro e w10 ⟨rfl, hb10⟩
  rw [md]
  have B10 := B9.trans (hb10.mono B9.size)
  go_wp2_with fail
  refine (meets_any f h w10 zf zh (hT.below B10)).mono ?_
  rintro e w11 ⟨rfl, hb11⟩
  rw [md2]
  have B11 := B10.trans (hb11.mono B10.size)
  go_wp2_with fail
  refine (meets_any f g w11 zf zg (hT.below B11)).mono ?_
  rintro e w12 ⟨rfl, hb12⟩
  rw [mfg]
  have B12 := B11.trans (hb12.mono B11.size)
  go_wp2_with fail
  refine (meets_any g f w12 zg zf (hT.below B12)).mono ?_
  rintro e w13 ⟨rfl, hb13⟩
  rw [mgf]
  have B13 := B12.trans (hb13.mono B12.size)
  go_wp2_with fail
  refine (awake_any w13 (hT.below B13)).mono ?_
  rintro e w14 ⟨rfl, hb14⟩
  have B14 := B13.trans (hb14.mono B13.size)
  go_wp2
  go_ret
  exact ⟨rfl, B14⟩

set_option maxRecDepth 100000 in
set_option maxHeartbeats 2000000 in
theorem holds_100 (f g h n : ByteArray) (w : World) (zf : f.size ≤ 9223372036854775807) (zg : g.size ≤ 9223372036854775807) (zh : h.size ≤ 9223372036854775807) (zn : n.size ≤ 9223372036854775807) (hT : Tabs w) (hf : isFilter (tl f) = true) (hg : isFilter (tl g) = true) (hh : isFilter (tl h) = true) (eff : covers (tl f) (tl f) = true) (efg : covers (tl f) (tl g) = true) (mfg : (common (tl f) (tl g)).isSome = true) (mgf : (common (tl g) (tl f)).isSome = true) (ma : matches' (tl g) (tl n) = true) (ma2 : matches' (tl f) (tl n) = true) (cb : covers (tl g) (tl h) = false) (md : (common (tl g) (tl h)).isSome = false) :
    Calls Tryd.prog 7 #[.string f, .string g, .string h, .string n] w fun e w' => e = .returned (.bool true) ∧ Below w.heap.size w w' := by
  have _u := And.intro zf (And.intro zg (And.intro zh zn))
  clear _u
  go_enter Tryd.func7, Tryd.ntmps7
  go_wp2_with fail
  refine (rfilter_any f w zf hT).mono ?_
  rintro e w1 ⟨rfl, hb1⟩
  rw [hf]
  have B1 := hb1
  go_wp2_with fail
  refine (rfilter_any g w1 zg (hT.below B1)).mono ?_
  rintro e w2 ⟨rfl, hb2⟩
  rw [hg]
  have B2 := B1.trans (hb2.mono B1.size)
  go_wp2_with fail
  refine (rfilter_any h w2 zh (hT.below B2)).mono ?_
  rintro e w3 ⟨rfl, hb3⟩
  rw [hh]
  have B3 := B2.trans (hb3.mono B2.size)
  go_wp2_with fail
  refine (covers_any f f w3 zf zf (hT.below B3)).mono ?_
  rintro e w4 ⟨rfl, hb4⟩
  rw [eff]
  have B4 := B3.trans (hb4.mono B3.size)
  go_wp2_with fail
  refine (covers_any f g w4 zf zg (hT.below B4)).mono ?_
  rintro e w5 ⟨rfl, hb5⟩
  rw [efg]
  have B5 := B4.trans (hb5.mono B4.size)
  go_wp2_with fail
  refine (meets_any f g w5 zf zg (hT.below B5)).mono ?_
  rintro e w6 ⟨rfl, hb6⟩
  rw [mfg]
  have B6 := B5.trans (hb6.mono B5.size)
  go_wp2_with fail
  refine (match_any g n w6 zg zn (hT.below B6)).mono ?_
  rintro e w7 ⟨rfl, hb7⟩
  rw [ma]
  have B7 := B6.trans (hb7.mono B6.size)
  go_wp2_with fail
  refine (match_any f n w7 zf zn (hT.below B7)).mono ?_
  rintro e w8 ⟨rfl, hb8⟩
  rw [ma2]
  have B8 := B7.trans (hb8.mono B7.size)
  go_wp2_with fail
  refine (covers_any g h w8 zg zh (hT.below B8)).mono ?_
  rintro e w9 ⟨rfl, hb9⟩
  rw [cb]
  have B9 := B8.trans (hb9.mono B8.size)
  go_wp2_with fail
  refine (meets_any g h w9 zg zh (hT.below B9)).mono ?_
  rintro e w10 ⟨rfl, hb10⟩
  rw [md]
  have B10 := B9.trans (hb10.mono B9.size)
  go_wp2_with fail
  refine (meets_any f g w10 zf zg (hT.below B10)).mono ?_
  rintro e w11 ⟨rfl, hb11⟩
  rw [mfg]
  have B11 := B10.trans (hb11.mono B10.size)
  go_wp2_with fail
  refine (meets_any g f w11 zg zf (hT.below B11)).mono ?_
  rintro e w12 ⟨rfl, hb12⟩
  rw [mgf]
  have B12 := B11.trans (hb12.mono B11.size)
  go_wp2_with fail
  refine (awake_any w12 (hT.below B12)).mono ?_
  rintro e w13 ⟨rfl, hb13⟩
  have B13 := B12.trans (hb13.mono B12.size)
  go_wp2
  go_ret
  exact ⟨rfl, B13⟩

set_option maxRecDepth 100000 in
set_option maxHeartbeats 2000000 in
theorem holds_101 (f g h n : ByteArray) (w : World) (zf : f.size ≤ 9223372036854775807) (zg : g.size ≤ 9223372036854775807) (zh : h.size ≤ 9223372036854775807) (zn : n.size ≤ 9223372036854775807) (hT : Tabs w) (hf : isFilter (tl f) = true) (hg : isFilter (tl g) = true) (hh : isFilter (tl h) = true) (eff : covers (tl f) (tl f) = true) (efg : covers (tl f) (tl g) = true) (mfg : (common (tl f) (tl g)).isSome = true) (mgf : (common (tl g) (tl f)).isSome = true) (ma : matches' (tl g) (tl n) = true) (ma2 : matches' (tl f) (tl n) = true) (cb : covers (tl g) (tl h) = false) (md : (common (tl g) (tl h)).isSome = true) (md2 : (common (tl f) (tl h)).isSome = true) :
    Calls Tryd.prog 7 #[.string f, .string g, .string h, .string n] w fun e w' => e = .returned (.bool true) ∧ Below w.heap.size w w' := by
  have _u := And.intro zf (And.intro zg (And.intro zh zn))
  clear _u
  go_enter Tryd.func7, Tryd.ntmps7
  go_wp2_with fail
  refine (rfilter_any f w zf hT).mono ?_
  rintro e w1 ⟨rfl, hb1⟩
  rw [hf]
  have B1 := hb1
  go_wp2_with fail
  refine (rfilter_any g w1 zg (hT.below B1)).mono ?_
  rintro e w2 ⟨rfl, hb2⟩
  rw [hg]
  have B2 := B1.trans (hb2.mono B1.size)
  go_wp2_with fail
  refine (rfilter_any h w2 zh (hT.below B2)).mono ?_
  rintro e w3 ⟨rfl, hb3⟩
  rw [hh]
  have B3 := B2.trans (hb3.mono B2.size)
  go_wp2_with fail
  refine (covers_any f f w3 zf zf (hT.below B3)).mono ?_
  rintro e w4 ⟨rfl, hb4⟩
  rw [eff]
  have B4 := B3.trans (hb4.mono B3.size)
  go_wp2_with fail
  refine (covers_any f g w4 zf zg (hT.below B4)).mono ?_
  rintro e w5 ⟨rfl, hb5⟩
  rw [efg]
  have B5 := B4.trans (hb5.mono B4.size)
  go_wp2_with fail
  refine (meets_any f g w5 zf zg (hT.below B5)).mono ?_
  rintro e w6 ⟨rfl, hb6⟩
  rw [mfg]
  have B6 := B5.trans (hb6.mono B5.size)
  go_wp2_with fail
  refine (match_any g n w6 zg zn (hT.below B6)).mono ?_
  rintro e w7 ⟨rfl, hb7⟩
  rw [ma]
  have B7 := B6.trans (hb7.mono B6.size)
  go_wp2_with fail
  refine (match_any f n w7 zf zn (hT.below B7)).mono ?_
  rintro e w8 ⟨rfl, hb8⟩
  rw [ma2]
  have B8 := B7.trans (hb8.mono B7.size)
  go_wp2_with fail
  refine (covers_any g h w8 zg zh (hT.below B8)).mono ?_
  rintro e w9 ⟨rfl, hb9⟩
  rw [cb]
  have B9 := B8.trans (hb9.mono B8.size)
  go_wp2_with fail
  refine (meets_any g h w9 zg zh (hT.below B9)).mono ?_
  rintro e w10 ⟨rfl, hb10⟩
  rw [md]
  have B10 := B9.trans (hb10.mono B9.size)
  go_wp2_with fail
  refine (meets_any f h w10 zf zh (hT.below B10)).mono ?_
  rintro e w11 ⟨rfl, hb11⟩
  rw [md2]
  have B11 := B10.trans (hb11.mono B10.size)
  go_wp2_with fail
  refine (meets_any f g w11 zf zg (hT.below B11)).mono ?_
  rintro e w12 ⟨rfl, hb12⟩
  rw [mfg]
  have B12 := B11.trans (hb12.mono B11.size)
  go_wp2_with fail
  refine (meets_any g f w12 zg zf (hT.below B12)).mono ?_
  rintro e w13 ⟨rfl, hb13⟩
  rw [mgf]
  have B13 := B12.trans (hb13.mono B12.size)
  go_wp2_with fail
  refine (awake_any w13 (hT.below B13)).mono ?_
  rintro e w14 ⟨rfl, hb14⟩
  have B14 := B13.trans (hb14.mono B13.size)
  go_wp2
  go_ret
  exact ⟨rfl, B14⟩

set_option maxRecDepth 100000 in
set_option maxHeartbeats 2000000 in
theorem holds_110 (f g h n : ByteArray) (w : World) (zf : f.size ≤ 9223372036854775807) (zg : g.size ≤ 9223372036854775807) (zh : h.size ≤ 9223372036854775807) (zn : n.size ≤ 9223372036854775807) (hT : Tabs w) (hf : isFilter (tl f) = true) (hg : isFilter (tl g) = true) (hh : isFilter (tl h) = true) (eff : covers (tl f) (tl f) = true) (efg : covers (tl f) (tl g) = true) (mfg : (common (tl f) (tl g)).isSome = true) (mgf : (common (tl g) (tl f)).isSome = true) (ma : matches' (tl g) (tl n) = true) (ma2 : matches' (tl f) (tl n) = true) (cb : covers (tl g) (tl h) = true) (cb2 : covers (tl f) (tl h) = true) (md : (common (tl g) (tl h)).isSome = false) :
    Calls Tryd.prog 7 #[.string f, .string g, .string h, .string n] w fun e w' => e = .returned (.bool true) ∧ Below w.heap.size w w' := by
  have _u := And.intro zf (And.intro zg (And.intro zh zn))
  clear _u
  go_enter Tryd.func7, Tryd.ntmps7
  go_wp2_with fail
  refine (rfilter_any f w zf hT).mono ?_
  rintro e w1 ⟨rfl, hb1⟩
  rw [hf]
  have B1 := hb1
  go_wp2_with fail
  refine (rfilter_any g w1 zg (hT.below B1)).mono ?_
  rintro e w2 ⟨rfl, hb2⟩
  rw [hg]
  have B2 := B1.trans (hb2.mono B1.size)
  go_wp2_with fail
  refine (rfilter_any h w2 zh (hT.below B2)).mono ?_
  rintro e w3 ⟨rfl, hb3⟩
  rw [hh]
  have B3 := B2.trans (hb3.mono B2.size)
  go_wp2_with fail
  refine (covers_any f f w3 zf zf (hT.below B3)).mono ?_
  rintro e w4 ⟨rfl, hb4⟩
  rw [eff]
  have B4 := B3.trans (hb4.mono B3.size)
  go_wp2_with fail
  refine (covers_any f g w4 zf zg (hT.below B4)).mono ?_
  rintro e w5 ⟨rfl, hb5⟩
  rw [efg]
  have B5 := B4.trans (hb5.mono B4.size)
  go_wp2_with fail
  refine (meets_any f g w5 zf zg (hT.below B5)).mono ?_
  rintro e w6 ⟨rfl, hb6⟩
  rw [mfg]
  have B6 := B5.trans (hb6.mono B5.size)
  go_wp2_with fail
  refine (match_any g n w6 zg zn (hT.below B6)).mono ?_
  rintro e w7 ⟨rfl, hb7⟩
  rw [ma]
  have B7 := B6.trans (hb7.mono B6.size)
  go_wp2_with fail
  refine (match_any f n w7 zf zn (hT.below B7)).mono ?_
  rintro e w8 ⟨rfl, hb8⟩
  rw [ma2]
  have B8 := B7.trans (hb8.mono B7.size)
  go_wp2_with fail
  refine (covers_any g h w8 zg zh (hT.below B8)).mono ?_
  rintro e w9 ⟨rfl, hb9⟩
  rw [cb]
  have B9 := B8.trans (hb9.mono B8.size)
  go_wp2_with fail
  refine (covers_any f h w9 zf zh (hT.below B9)).mono ?_
  rintro e w10 ⟨rfl, hb10⟩
  rw [cb2]
  have B10 := B9.trans (hb10.mono B9.size)
  go_wp2_with fail
  refine (meets_any g h w10 zg zh (hT.below B10)).mono ?_
  rintro e w11 ⟨rfl, hb11⟩
  rw [md]
  have B11 := B10.trans (hb11.mono B10.size)
  go_wp2_with fail
  refine (meets_any f g w11 zf zg (hT.below B11)).mono ?_
  rintro e w12 ⟨rfl, hb12⟩
  rw [mfg]
  have B12 := B11.trans (hb12.mono B11.size)
  go_wp2_with fail
  refine (meets_any g f w12 zg zf (hT.below B12)).mono ?_
  rintro e w13 ⟨rfl, hb13⟩
  rw [mgf]
  have B13 := B12.trans (hb13.mono B12.size)
  go_wp2_with fail
  refine (awake_any w13 (hT.below B13)).mono ?_
  rintro e w14 ⟨rfl, hb14⟩
  have B14 := B13.trans (hb14.mono B13.size)
  go_wp2
  go_ret
  exact ⟨rfl, B14⟩

set_option maxRecDepth 100000 in
set_option maxHeartbeats 2000000 in
theorem holds_111 (f g h n : ByteArray) (w : World) (zf : f.size ≤ 9223372036854775807) (zg : g.size ≤ 9223372036854775807) (zh : h.size ≤ 9223372036854775807) (zn : n.size ≤ 9223372036854775807) (hT : Tabs w) (hf : isFilter (tl f) = true) (hg : isFilter (tl g) = true) (hh : isFilter (tl h) = true) (eff : covers (tl f) (tl f) = true) (efg : covers (tl f) (tl g) = true) (mfg : (common (tl f) (tl g)).isSome = true) (mgf : (common (tl g) (tl f)).isSome = true) (ma : matches' (tl g) (tl n) = true) (ma2 : matches' (tl f) (tl n) = true) (cb : covers (tl g) (tl h) = true) (cb2 : covers (tl f) (tl h) = true) (md : (common (tl g) (tl h)).isSome = true) (md2 : (common (tl f) (tl h)).isSome = true) :
    Calls Tryd.prog 7 #[.string f, .string g, .string h, .string n] w fun e w' => e = .returned (.bool true) ∧ Below w.heap.size w w' := by
  have _u := And.intro zf (And.intro zg (And.intro zh zn))
  clear _u
  go_enter Tryd.func7, Tryd.ntmps7
  go_wp2_with fail
  refine (rfilter_any f w zf hT).mono ?_
  rintro e w1 ⟨rfl, hb1⟩
  rw [hf]
  have B1 := hb1
  go_wp2_with fail
  refine (rfilter_any g w1 zg (hT.below B1)).mono ?_
  rintro e w2 ⟨rfl, hb2⟩
  rw [hg]
  have B2 := B1.trans (hb2.mono B1.size)
  go_wp2_with fail
  refine (rfilter_any h w2 zh (hT.below B2)).mono ?_
  rintro e w3 ⟨rfl, hb3⟩
  rw [hh]
  have B3 := B2.trans (hb3.mono B2.size)
  go_wp2_with fail
  refine (covers_any f f w3 zf zf (hT.below B3)).mono ?_
  rintro e w4 ⟨rfl, hb4⟩
  rw [eff]
  have B4 := B3.trans (hb4.mono B3.size)
  go_wp2_with fail
  refine (covers_any f g w4 zf zg (hT.below B4)).mono ?_
  rintro e w5 ⟨rfl, hb5⟩
  rw [efg]
  have B5 := B4.trans (hb5.mono B4.size)
  go_wp2_with fail
  refine (meets_any f g w5 zf zg (hT.below B5)).mono ?_
  rintro e w6 ⟨rfl, hb6⟩
  rw [mfg]
  have B6 := B5.trans (hb6.mono B5.size)
  go_wp2_with fail
  refine (match_any g n w6 zg zn (hT.below B6)).mono ?_
  rintro e w7 ⟨rfl, hb7⟩
  rw [ma]
  have B7 := B6.trans (hb7.mono B6.size)
  go_wp2_with fail
  refine (match_any f n w7 zf zn (hT.below B7)).mono ?_
  rintro e w8 ⟨rfl, hb8⟩
  rw [ma2]
  have B8 := B7.trans (hb8.mono B7.size)
  go_wp2_with fail
  refine (covers_any g h w8 zg zh (hT.below B8)).mono ?_
  rintro e w9 ⟨rfl, hb9⟩
  rw [cb]
  have B9 := B8.trans (hb9.mono B8.size)
  go_wp2_with fail
  refine (covers_any f h w9 zf zh (hT.below B9)).mono ?_
  rintro e w10 ⟨rfl, hb10⟩
  rw [cb2]
  have B10 := B9.trans (hb10.mono B9.size)
  go_wp2_with fail
  refine (meets_any g h w10 zg zh (hT.below B10)).mono ?_
  rintro e w11 ⟨rfl, hb11⟩
  rw [md]
  have B11 := B10.trans (hb11.mono B10.size)
  go_wp2_with fail
  refine (meets_any f h w11 zf zh (hT.below B11)).mono ?_
  rintro e w12 ⟨rfl, hb12⟩
  rw [md2]
  have B12 := B11.trans (hb12.mono B11.size)
  go_wp2_with fail
  refine (meets_any f g w12 zf zg (hT.below B12)).mono ?_
  rintro e w13 ⟨rfl, hb13⟩
  rw [mfg]
  have B13 := B12.trans (hb13.mono B12.size)
  go_wp2_with fail
  refine (meets_any g f w13 zg zf (hT.below B13)).mono ?_
  rintro e w14 ⟨rfl, hb14⟩
  rw [mgf]
  have B14 := B13.trans (hb14.mono B13.size)
  go_wp2_with fail
  refine (awake_any w14 (hT.below B14)).mono ?_
  rintro e w15 ⟨rfl, hb15⟩
  have B15 := B14.trans (hb15.mono B14.size)
  go_wp2
  go_ret
  exact ⟨rfl, B15⟩

theorem law_holds (f g h n : ByteArray) (w : World) (zf : f.size ≤ 9223372036854775807) (zg : g.size ≤ 9223372036854775807) (zh : h.size ≤ 9223372036854775807) (zn : n.size ≤ 9223372036854775807) (hT : Tabs w) :
    Calls Tryd.prog 7 #[.string f, .string g, .string h, .string n] w fun e w' => e = .returned (.bool true) ∧ Below w.heap.size w w' := by
  cases hf : isFilter (tl f) with
  | false => exact holds_f f g h n w zf zg zh zn hT hf
  | true =>
    cases hg : isFilter (tl g) with
    | false => exact holds_g f g h n w zf zg zh zn hT hf hg
    | true =>
      cases hh : isFilter (tl h) with
      | false => exact holds_h f g h n w zf zg zh zn hT hf hg hh
      | true =>
        have eff := covers_refl hf
        have esy : (common (tl g) (tl f)).isSome = (common (tl f) (tl g)).isSome := by rw [common_symm]
        cases efg : covers (tl f) (tl g) with
        | false => exact holds_no f g h n w zf zg zh zn hT hf hg hh eff esy efg
        | true =>
          have mfg := covers_meets efg
          have mgf := esy.trans mfg
          cases ma : matches' (tl g) (tl n) with
          | false =>
            cases cb : covers (tl g) (tl h) with
            | false =>
              cases md : (common (tl g) (tl h)).isSome with
              | false => exact holds_000 f g h n w zf zg zh zn hT hf hg hh eff efg mfg mgf ma cb md
              | true => exact holds_001 f g h n w zf zg zh zn hT hf hg hh eff efg mfg mgf ma cb md (covers_meet efg md)
            | true =>
              cases md : (common (tl g) (tl h)).isSome with
              | false => exact holds_010 f g h n w zf zg zh zn hT hf hg hh eff efg mfg mgf ma cb (covers_trans efg cb) md
              | true => exact holds_011 f g h n w zf zg zh zn hT hf hg hh eff efg mfg mgf ma cb (covers_trans efg cb) md (covers_meet efg md)
          | true =>
            cases cb : covers (tl g) (tl h) with
            | false =>
              cases md : (common (tl g) (tl h)).isSome with
              | false => exact holds_100 f g h n w zf zg zh zn hT hf hg hh eff efg mfg mgf ma (matches_covers efg ma) cb md
              | true => exact holds_101 f g h n w zf zg zh zn hT hf hg hh eff efg mfg mgf ma (matches_covers efg ma) cb md (covers_meet efg md)
            | true =>
              cases md : (common (tl g) (tl h)).isSome with
              | false => exact holds_110 f g h n w zf zg zh zn hT hf hg hh eff efg mfg mgf ma (matches_covers efg ma) cb (covers_trans efg cb) md
              | true => exact holds_111 f g h n w zf zg zh zn hT hf hg hh eff efg mfg mgf ma (matches_covers efg ma) cb (covers_trans efg cb) md (covers_meet efg md)
end Go.Proofs.YtkkahijacbboiaaDoor
