/- The three calls of the chapter's examples: a store, an error that is a nil pointer, a nil pointer opened; no condition. -/
import Derived.Test.YtgijdiplhcoojaaGreatDoorHi
import Derived.Test.YtgijdiplhcoojaaGreatDoorHk
import Derived.Test.YtgijdiplhcoojaaGreatDoorHm
import Derived.Test.YtgijdiplhcoojaaGreatDoorHn
namespace Go.Proofs.YtgijdiplhcoojaaGreatDoor
open Go.RowKit

abbrev zst : Value := .agg #[.int .i64 0, .int .i64 0, .int .i64 0, .int .i64 0, .int .u64 0, .string ⟨#[]⟩, .slice none 0 0, .slice none 0 0, .bool false, .int .i64 0]

theorem PS.const (B M : Nat) (p : Prop) : PS B M (fun _ => p) := fun _ _ h _ _ => h

theorem H_none (w : World) (x : Int) : Calls Tryz.prog 30 #[.agg #[.int .i64 10, .int .i64 0, .int .u32 0], zst, .agg #[.int .i64 1, .int .i64 x, .int .u64 0, .string ⟨#[]⟩, .slice none 0 0], .int .i64 0] w fun e w' => e = .returned (.tuple #[zst, .agg (rErr 101 0 0 0)]) ∧ Below w.heap.size w w' := by
  refine (Handle_by 10 0 0 0 0 0 0 0 ⟨#[]⟩ none 0 0 none 0 0 false 0 0 1 x 0 ⟨#[]⟩ none 0 0 w (fun b wx => ∃ sb, Bk wx b (wcs 10 0 0 0 0 0 0 0 ⟨#[]⟩ none 0 0 none 0 0 false 0 0 (hnd 10 0 (some ⟨b, 3, none⟩) sb)) 82)
    (fun wx _ => (newWork_zero 10 0 0 0 wx (by decide) (by decide)).mono fun e w' ⟨b, sb, he, hw, _, hlo, hb⟩ => ⟨b, he, ⟨sb, hw⟩, hlo, hw.lt, hb⟩)
    (fun cn ac lk li lu ls la ln lc ta tn tc cl un er co pk pn has k i u s a n c _ => (cn = 0 ∧ ac = 0 ∧ lk = 0 ∧ li = 0 ∧ lu = 0 ∧ ls = ⟨#[]⟩ ∧ la = none ∧ ln = 0 ∧ lc = 0 ∧ ta = none ∧ tn = 0 ∧ tc = 0 ∧ cl = false ∧ un = 0) ∧ er = 101 ∧ co = 0 ∧ pk = 0 ∧ pn = 0 ∧ has = false ∧ k = 0 ∧ i = 0 ∧ u = 0 ∧ s = ⟨#[]⟩ ∧ a = none ∧ n = 0 ∧ c = 0) (fun _ _ _ _ _ _ _ _ _ _ _ _ _ _ _ _ _ _ _ _ _ _ _ _ _ _ => PS.const _ _ _)
    (fun b wx ⟨sb, hw⟩ hbl hM hbx => ?_)).mono fun e w' ⟨cn, ac, lk, li, lu, ls, la, ln, lc, ta, tn, tc, cl, un, er, co, pk, pn, has, k, i, u, s, a, n, c, he, hp, hb⟩ => ?_
  · refine (handle_ret b 10 0 0 0 0 0 0 0 ⟨#[]⟩ none 0 0 none 0 0 0 0 144 (.agg #[]) 130 1 x 0 ⟨#[]⟩ none 0 0 false 0 0 0 ⟨#[]⟩ none 0 0 (.iface 148 (.pointer none)) (.inr ⟨_, _, rfl⟩) 101 0 0 0 false 0 0 0 ⟨#[]⟩ none 0 0 wx hw (by omega) mh_none (w.heap.size + 5) wx.heap.size (by omega) (Nat.le_refl _)
      (fun w' => Bk w' b (wcs 10 0 0 0 0 0 0 0 ⟨#[]⟩ none 0 0 none 0 0 false 0 0 (.iface 144 (.agg #[]))) 82) (fun w' w'' h hs hg => (hg b h.lt (.inl hbx)).trans h) (fun w' h => h.c 14)
      (fun wy hy hz => (none_handle _ wy).mono fun e w' ⟨he, hb⟩ => ⟨he, (hw.step hy).step hb, Fr.of hb (by omega)⟩) (fun wy _ => told_nobody _ _ _ _ _ _ _ _ wy)).mono fun e w' ⟨he, hp, hf⟩ => ?_
    exact ⟨_, _, _, _, _, _, _, _, _, _, _, _, _, _, _, _, _, _, _, _, _, _, _, _, _, _, _, he, hp, ⟨⟨rfl, rfl, rfl, rfl, rfl, rfl, rfl, rfl, rfl, rfl, rfl, rfl, rfl, rfl⟩, rfl, rfl, rfl, rfl, rfl, rfl, rfl, rfl, rfl, rfl, rfl, rfl⟩, hf⟩
  · obtain ⟨⟨rfl, rfl, rfl, rfl, rfl, rfl, rfl, rfl, rfl, rfl, rfl, rfl, rfl, rfl⟩, rfl, rfl, rfl, rfl, rfl, rfl, rfl, rfl, rfl, rfl, rfl, rfl⟩ := hp.out
    exact ⟨he, hb⟩

theorem H_unbox (w : World) : Calls Tryz.prog 30 #[.agg #[.int .i64 6, .int .i64 0, .int .u32 0], zst, .agg #[.int .i64 12, .int .i64 0, .int .u64 0, .string ⟨#[]⟩, .slice none 0 0], .int .i64 0] w fun e w' => e = .returned (.tuple #[zst, .agg (rErr 110 0 3 0)]) ∧ Below w.heap.size w w' := by
  refine (Handle_by 6 0 0 0 0 0 0 0 ⟨#[]⟩ none 0 0 none 0 0 false 0 0 12 0 0 ⟨#[]⟩ none 0 0 w (fun b wx => ∃ sb, Bk wx b (wcs 6 0 0 0 0 0 0 0 ⟨#[]⟩ none 0 0 none 0 0 false 0 0 (hnd 6 0 (some ⟨b, 3, none⟩) sb)) 82)
    (fun wx _ => (newWork_zero 6 0 0 0 wx (by decide) (by decide)).mono fun e w' ⟨b, sb, he, hw, _, hlo, hb⟩ => ⟨b, he, ⟨sb, hw⟩, hlo, hw.lt, hb⟩)
    (fun cn ac lk li lu ls la ln lc ta tn tc cl un er co pk pn has k i u s a n c _ => (cn = 0 ∧ ac = 0 ∧ lk = 0 ∧ li = 0 ∧ lu = 0 ∧ ls = ⟨#[]⟩ ∧ la = none ∧ ln = 0 ∧ lc = 0 ∧ ta = none ∧ tn = 0 ∧ tc = 0 ∧ cl = false ∧ un = 0) ∧ er = 110 ∧ co = 0 ∧ pk = 3 ∧ pn = 0 ∧ has = false ∧ k = 0 ∧ i = 0 ∧ u = 0 ∧ s = ⟨#[]⟩ ∧ a = none ∧ n = 0 ∧ c = 0) (fun _ _ _ _ _ _ _ _ _ _ _ _ _ _ _ _ _ _ _ _ _ _ _ _ _ _ => PS.const _ _ _)
    (fun b wx ⟨sb, hw⟩ hbl hM hbx => ?_)).mono fun e w' ⟨cn, ac, lk, li, lu, ls, la, ln, lc, ta, tn, tc, cl, un, er, co, pk, pn, has, k, i, u, s, a, n, c, he, hp, hb⟩ => ?_
  · refine (handle_pan b 6 0 0 0 0 0 0 0 ⟨#[]⟩ none 0 0 none 0 0 0 0 137 (.agg #[]) 109 12 0 0 ⟨#[]⟩ none 0 0 153 (.agg #[]) 3 0 wx hw (by omega) mh_unbox (w.heap.size + 5) wx.heap.size (by omega) (Nat.le_refl _)
      (fun w' => Bk w' b (wcs 6 0 0 0 0 0 0 0 ⟨#[]⟩ none 0 0 none 0 0 false 0 0 (.iface 137 (.agg #[]))) 82) (fun w' w'' h hs hg => (hg b h.lt (.inl hbx)).trans h)
      (fun wy hy hz => (unbox_np wy).mono fun e w' ⟨he, hb⟩ => ⟨he, (hw.step hy).step hb, Fr.of hb (by omega)⟩) (fun wy => ptold_nil wy)).mono fun e w' ⟨he, hp, hf⟩ => ?_
    exact ⟨_, _, _, _, _, _, _, _, _, _, _, _, _, _, _, _, _, _, _, _, _, _, _, _, _, _, _, he, hp, ⟨⟨rfl, rfl, rfl, rfl, rfl, rfl, rfl, rfl, rfl, rfl, rfl, rfl, rfl, rfl⟩, rfl, rfl, rfl, rfl, rfl, rfl, rfl, rfl, rfl, rfl, rfl, rfl⟩, hf⟩
  · obtain ⟨⟨rfl, rfl, rfl, rfl, rfl, rfl, rfl, rfl, rfl, rfl, rfl, rfl, rfl, rfl⟩, rfl, rfl, rfl, rfl, rfl, rfl, rfl, rfl, rfl, rfl, rfl, rfl⟩ := hp.out
    exact ⟨he, hb⟩

theorem H_store (w : World) (x : Int) : Calls Tryz.prog 30 #[.agg #[.int .i64 3, .int .i64 0, .int .u32 0], zst, .agg #[.int .i64 1, .int .i64 x, .int .u64 0, .string ⟨#[]⟩, .slice none 0 0], .int .i64 0] w fun e w' => ∃ g c, e = .returned (.tuple #[.agg (scs 0 0 0 0 0 ⟨#[]⟩ none 0 0 (some ⟨g, 0, none⟩) 1 c false 0), .agg (rcs 0 0 0 0 true 1 0 0 ⟨#[]⟩ none 0 0)]) ∧ Below w.heap.size w w' := by
  refine (Handle_by 3 0 0 0 0 0 0 0 ⟨#[]⟩ none 0 0 none 0 0 false 0 0 1 x 0 ⟨#[]⟩ none 0 0 w (fun b wx => ∃ sb, Bk wx b (wcs 3 0 0 0 0 0 0 0 ⟨#[]⟩ none 0 0 none 0 0 false 0 0 (hnd 3 0 (some ⟨b, 3, none⟩) sb)) 82 ∧ Bk wx sb #[.pointer (some ⟨b, 3, none⟩), .int .i64 0, .map none, .map none] 134 ∧ b < sb)
    (fun wx _ => (newWork_zero 3 0 0 0 wx (by decide) (by decide)).mono fun e w' ⟨b, sb, he, hw, hs, hlo, hb⟩ => ⟨b, he, ⟨sb, hw, hs rfl⟩, hlo, hw.lt, hb⟩)
    (fun cn ac lk li lu ls la ln lc ta tn tc cl un er co pk pn has k i u s a n c _ => ((cn = 0 ∧ ac = 0 ∧ lk = 0 ∧ li = 0 ∧ lu = 0 ∧ ls = ⟨#[]⟩ ∧ la = none ∧ ln = 0 ∧ lc = 0) ∧ (∃ g, ta = some ⟨g, 0, none⟩) ∧ tn = 1 ∧ cl = false ∧ un = 0) ∧ er = 0 ∧ co = 0 ∧ pk = 0 ∧ pn = 0 ∧ has = true ∧ k = 1 ∧ i = 0 ∧ u = 0 ∧ s = ⟨#[]⟩ ∧ a = none ∧ n = 0 ∧ c = 0) (fun _ _ _ _ _ _ _ _ _ _ _ _ _ _ _ _ _ _ _ _ _ _ _ _ _ _ => PS.const _ _ _)
    (fun b wx ⟨sb, hw, hs, hbs⟩ hbl hM hbx => ?_)).mono fun e w' ⟨cn, ac, lk, li, lu, ls, la, ln, lc, ta, tn, tc, cl, un, er, co, pk, pn, has, k, i, u, s, a, n, c, he, hp, hb⟩ => ?_
  · have hsl := hs.lt
    refine (handle_ret b 3 0 0 0 0 0 0 0 ⟨#[]⟩ none 0 0 none 0 0 0 0 132 (.pointer (some ⟨sb, 0, none⟩)) 98 1 x 0 ⟨#[]⟩ none 0 0 true 1 0 0 ⟨#[]⟩ none 0 0 .nilIface (.inl rfl) 0 0 0 0 true 1 0 0 ⟨#[]⟩ none 0 0 wx hw (by omega) (mh_store _) (w.heap.size + 5) wx.heap.size (by omega) (Nat.le_refl _)
      (fun w' => ∃ g c, Bk w' b (wcs 3 0 0 0 0 0 0 0 ⟨#[]⟩ none 0 0 (some ⟨g, 0, none⟩) 1 c false 0 0 (.iface 132 (.pointer (some ⟨sb, 0, none⟩)))) 82) (fun w' w'' ⟨g, c, h⟩ hs hg => ⟨g, c, (hg b h.lt (.inl hbx)).trans h⟩) (fun w' ⟨g, c, h⟩ => h.c 14)
      (fun wy hy hz => (store_first b sb 0 0 x _ wy (hs.step hy) (hw.step hy) (w.heap.size + 5) wx.heap.size hM hbs hsl (by omega)).mono fun e w' ⟨g, c, he, hk, hf⟩ => ⟨he, ⟨g, c, hk⟩, hf⟩) (fun wy _ => told_answer _ _ _ _ _ _ _ _ wy)).mono fun e w' ⟨he, ⟨g, c, hp⟩, hf⟩ => ?_
    exact ⟨_, _, _, _, _, _, _, _, _, _, _, _, _, _, _, _, _, _, _, _, _, _, _, _, _, _, _, he, hp, ⟨⟨⟨rfl, rfl, rfl, rfl, rfl, rfl, rfl, rfl, rfl⟩, ⟨g, rfl⟩, rfl, rfl, rfl⟩, rfl, rfl, rfl, rfl, rfl, rfl, rfl, rfl, rfl, rfl, rfl, rfl⟩, hf⟩
  · obtain ⟨⟨⟨rfl, rfl, rfl, rfl, rfl, rfl, rfl, rfl, rfl⟩, ⟨g, rfl⟩, rfl, rfl, rfl⟩, rfl, rfl, rfl, rfl, rfl, rfl, rfl, rfl, rfl, rfl, rfl, rfl⟩ := hp.out
    exact ⟨g, tc, he, hb⟩

set_option maxRecDepth 100000 in
set_option maxHeartbeats 2000000 in
theorem awake_any (w : World) (hw : Wc w) : Calls Tryz.prog 13 #[] w fun e w' => e = .returned (.bool true) ∧ Below w.heap.size w w' := by
  have H1 := Lib.hid H_store
  have H2 := Lib.hid H_none
  have H3 := Lib.hid H_unbox
  have H4 := Lib.hid word_6
  go_enter Tryz.func13, Tryz.ntmps13
  go_wp2_with fail
  have F0 := Bk.new w #[.int .i64 1, .int .i64 5, .int .u64 0, .string ⟨#[]⟩, .slice none 0 0] 25
  have B0 := below1 w (.cells #[.int .i64 1, .int .i64 5, .int .u64 0, .string ⟨#[]⟩, .slice none 0 0] 25)
  refine (H1.out _ 5).mono ?_
  rintro e w1 ⟨g, c, rfl, b1⟩
  have F1 := F0.step b1
  have B1 := B0.trans (b1.mono B0.size)
  have b2 := below2 w1 (.cells (scs 0 0 0 0 0 ⟨#[]⟩ none 0 0 (some ⟨g, 0, none⟩) 1 c false 0) 27) (.cells (rcs 0 0 0 0 true 1 0 0 ⟨#[]⟩ none 0 0) 56)
  have F2 := F1.step b2
  have S2 : Bk ((w1.alloc (.cells (scs 0 0 0 0 0 ⟨#[]⟩ none 0 0 (some ⟨g, 0, none⟩) 1 c false 0) 27)).alloc (.cells (rcs 0 0 0 0 true 1 0 0 ⟨#[]⟩ none 0 0) 56)) w1.heap.size (scs 0 0 0 0 0 ⟨#[]⟩ none 0 0 (some ⟨g, 0, none⟩) 1 c false 0) 27 := (Bk.new w1 _ _).alloc _
  have R2 := Bk.new2 w1 (.cells (scs 0 0 0 0 0 ⟨#[]⟩ none 0 0 (some ⟨g, 0, none⟩) 1 c false 0) 27) (rcs 0 0 0 0 true 1 0 0 ⟨#[]⟩ none 0 0) 56
  have B2 := B1.trans (b2.mono B1.size)
  clear F0 B0 b1 H1 F1 B1 b2
  obtain ⟨f0, f1, f2, f3, f4⟩ := F2.c5
  go_wp2_with fail
  generalize ((w1.alloc (.cells (scs 0 0 0 0 0 ⟨#[]⟩ none 0 0 (some ⟨g, 0, none⟩) 1 c false 0) 27)).alloc (.cells (rcs 0 0 0 0 true 1 0 0 ⟨#[]⟩ none 0 0) 56)) = w2 at *
  generalize w1.heap.size = sN at *
  refine (H2.out _ 5).mono ?_
  rintro e w3 ⟨rfl, b3⟩
  have b4 := below2 w3 (.cells (scs 0 0 0 0 0 ⟨#[]⟩ none 0 0 none 0 0 false 0) 27) (.cells (rErr 101 0 0 0) 56)
  have S4 := (S2.step b3).step b4
  have R4 := (R2.step b3).step b4
  have Q4 := Bk.new2 w3 (.cells (scs 0 0 0 0 0 ⟨#[]⟩ none 0 0 none 0 0 false 0) 27) (rErr 101 0 0 0) 56
  have B4 := (B2.trans (b3.mono B2.size)).trans (b4.mono (Nat.le_trans B2.size b3.size))
  clear F2 S2 R2 B2 f0 f1 f2 f3 f4 H2 b3 b4
  go_wp2_with fail
  generalize ((w3.alloc (.cells (scs 0 0 0 0 0 ⟨#[]⟩ none 0 0 none 0 0 false 0) 27)).alloc (.cells (rErr 101 0 0 0) 56)) = w4 at *
  generalize w3.heap.size = qN at *
  refine (H3.out _).mono ?_
  rintro e w5 ⟨rfl, b5⟩
  have b6 := below2 w5 (.cells (scs 0 0 0 0 0 ⟨#[]⟩ none 0 0 none 0 0 false 0) 27) (.cells (rErr 110 0 3 0) 56)
  have S6 := (S4.step b5).step b6
  have R6 := (R4.step b5).step b6
  have Q6 := (Q4.step b5).step b6
  have U6 := Bk.new2 w5 (.cells (scs 0 0 0 0 0 ⟨#[]⟩ none 0 0 none 0 0 false 0) 27) (rErr 110 0 3 0) 56
  have B6 := (B4.trans (b5.mono B4.size)).trans (b6.mono (Nat.le_trans B4.size b5.size))
  clear S4 R4 Q4 B4 H3 b5 b6
  have hw6 := hw.below B6
  have s7 := S6.c10.2.2.2.2.2.2.2.1
  have r4 := R6.c10.2.2.2.2.1
  have r5 := R6.c10.2.2.2.2.2.1
  have q0 := Q6.c10.1
  have u0 := U6.c10.1
  have u2 := U6.c10.2.2.1
  go_wp2_with fail
  generalize ((w5.alloc (.cells (scs 0 0 0 0 0 ⟨#[]⟩ none 0 0 none 0 0 false 0) 27)).alloc (.cells (rErr 110 0 3 0) 56)) = w6 at *
  refine (H4.out _ hw6).mono ?_
  rintro e w7 ⟨rfl, b7⟩
  have B7 := B6.trans (b7.mono B6.size)
  go_wp2
  go_ret
  exact ⟨rfl, B7⟩

set_option maxRecDepth 100000 in
set_option maxHeartbeats 1000000 in
/-- The law CoreWords. -/
theorem law_words (op : Int) (w : World) (hw : Wc w) : Calls Tryz.prog 4 #[.int .i64 op] w fun e w' => e = .returned (.bool true) ∧ Below w.heap.size w w' := by
  obtain ⟨s, h1, h2⟩ := words_one op
  have H1 := Lib.hid h1
  have H2 := Lib.hid h2
  have H3 := Lib.hid awake_any
  clear h1 h2
  go_enter Tryz.func4, Tryz.ntmps4
  go_wp2_with fail
  refine (H1.out _ hw).mono ?_
  rintro e w1 ⟨rfl, b1⟩
  go_wp2_with fail
  refine (H2.out _).mono ?_
  rintro e w2 ⟨rfl, b2⟩
  have B2 := b1.trans (b2.mono b1.size)
  have hw2 := hw.below B2
  go_wp2_with fail
  refine (H3.out _ hw2).mono ?_
  rintro e w3 ⟨rfl, b3⟩
  go_wp2
  go_ret
  exact ⟨rfl, B2.trans (b3.mono B2.size)⟩
end Go.Proofs.YtgijdiplhcoojaaGreatDoor
