/- What the reader's calls word, letter, quoted, whole answer at texts that this statement's own check comes to; each theorem names its conditions. -/
import Derived.Test.YtfanoiomiijlgaaDoorBase
import Derived.Lib.Hide
import Derived.Laws.IdiomStrings
import Derived.OwnWalk
namespace Go.Proofs.YtfanoiomiijlgaaDoor
open Go.RowKit

set_option maxHeartbeats 400000 in
theorem word_none (b : Nat) (s : ByteArray) (a n : Nat) (w : World) (h : Rd w b s a n) (ha : a ≤ s.size) (hs : s.size ≤ maxLen)
    (p1 : Lib.hasPrefix (List.drop a s.data.toList) [110, 105, 108] = false)
    (p2 : Lib.hasPrefix (List.drop a s.data.toList) [116, 114, 117, 101] = false)
    (p3 : Lib.hasPrefix (List.drop a s.data.toList) [102, 97, 108, 115, 101] = false)
    (p4 : Lib.hasPrefix (List.drop a s.data.toList) [38, 110, 105, 108] = false)
    (p5 : Lib.hasPrefix (List.drop a s.data.toList) [123, 125] = false) :
    Calls Tryd.prog 32 #[.pointer (some ⟨b, 0, none⟩)] w fun e w' => e = .returned (.tuple #[.agg #[.int .i64 0, .int .i64 0, .int .u64 0, .string ⟨#[]⟩, .slice none 0 0], .bool false]) ∧ Rd w' b s a n ∧ w.grownBy w' (some b) := by
  have hb := h.lt
  have d0 := D5.new w (.int .i64 0) (.int .i64 0) (.int .u64 0) (.string ⟨#[]⟩) (.slice none 0 0)
  have r0 := h.alloc (.cells #[.int .i64 0, .int .i64 0, .int .u64 0, .string ⟨#[]⟩, .slice none 0 0] 25)
  have g0 : w.grownBy (w.alloc (.cells #[.int .i64 0, .int .i64 0, .int .u64 0, .string ⟨#[]⟩, .slice none 0 0] 25)) (some b) := World.grownBy_alloc w _ _
  go_enter Tryd.func32, Tryd.ntmps32
  go_wp2_with fail
  refine (skipN b s _ a n _ r0 ha hs p1).mono ?_
  rintro e w1 ⟨rfl, r1, g1⟩
  go_wp2_with fail
  refine (skipN b s _ a n _ r1 ha hs p2).mono ?_
  rintro e w2 ⟨rfl, r2, g2⟩
  go_wp2_with fail
  refine (skipN b s _ a n _ r2 ha hs p3).mono ?_
  rintro e w3 ⟨rfl, r3, g3⟩
  go_wp2_with fail
  refine (skipN b s _ a n _ r3 ha hs p4).mono ?_
  rintro e w4 ⟨rfl, r4, g4⟩
  go_wp2_with fail
  refine (skipN b s _ a n _ r4 ha hs p5).mono ?_
  rintro e w5 ⟨rfl, r5, g5⟩
  have gg := grown_trans (grown_trans (grown_trans (grown_trans g1 g2) g3) g4) g5
  have d5 := d0.kept gg (by omega)
  have hN : w.heap.size < w5.heap.size := by have := gg.size; simp at this; omega
  obtain ⟨c0, c1, c2, c3, c4⟩ := d5.c
  have f0 := d5.f (o := 0)
  have f1 := d5.f (o := 1)
  have f2 := d5.f (o := 2)
  have f3 := d5.f (o := 3)
  have f4 := d5.f (o := 4)
  have G := grown_trans g0 gg
  clear r0 r1 r2 r3 r4 g0 g1 g2 g3 g4 g5 d0 p1 p2 p3 p4 p5 gg h
  go_wp2
  exact bodyPost_ret (res_dat Tryd.results32 (d5.set _ _ _ _ _) rfl) rfl ⟨rfl, r5.set5 (by omega) _ _ _ _ _, grown_set5 G (Nat.le_refl _) _ _ _ _ _⟩

theorem needs_any (c : Int) (w : World) :
    Calls Tryd.prog 51 #[.int .u8 c] w fun e w' => e = .returned (.bool (decide (c < 32) || decide (126 < c))) ∧ w' = w := by
  by_cases h : c < 32
  · have e : (decide (c < 32) || decide (126 < c)) = true := by simp [h]
    rw [e]
    go_enter Tryd.func51, Tryd.ntmps51
    go_wp2
    go_ret
    exact ⟨rfl, rfl⟩
  · have e : (decide (c < 32) || decide (126 < c)) = decide (126 < c) := by simp [h]
    rw [e]
    have h' : decide (c < 32) = false := by simpa using h
    go_enter Tryd.func51, Tryd.ntmps51
    go_wp2
    go_ret
    exact ⟨rfl, rfl⟩

set_option maxHeartbeats 400000 in
theorem letter_plain (b : Nat) (s : ByteArray) (a n : Nat) (w : World) (h : Rd w b s a n) (ha : a < s.size) (hs : s.size ≤ maxLen)
    (p1 : Lib.hasPrefix (List.drop a s.data.toList) [92, 34] = false)
    (p2 : Lib.hasPrefix (List.drop a s.data.toList) [92, 92] = false)
    (p3 : Lib.hasPrefix (List.drop a s.data.toList) [92, 120] = false)
    (q1 : ((s[a].toNat : Int) == 92) = false) (q2 : ¬ (s[a].toNat : Int) < 32) (q3 : ¬ 126 < (s[a].toNat : Int)) :
    Calls Tryd.prog 58 #[.pointer (some ⟨b, 0, none⟩)] w fun e w' => e = .returned (.tuple #[.int .u8 s[a].toNat, .bool true]) ∧ Rd w' b s ↑(a + 1) n ∧ w.grownBy w' (some b) := by
  go_enter Tryd.func58, Tryd.ntmps58
  go_wp2_with fail
  refine (skipN b s _ a n _ h (by omega) hs p1).mono ?_
  rintro e w1 ⟨rfl, r1, g1⟩
  go_wp2_with fail
  refine (skipN b s _ a n _ r1 (by omega) hs p2).mono ?_
  rintro e w2 ⟨rfl, r2, g2⟩
  go_wp2_with fail
  refine (skipN b s _ a n _ r2 (by omega) hs p3).mono ?_
  rintro e w3 ⟨rfl, r3, g3⟩
  have G := grown_trans (grown_trans g1 g2) g3
  clear g1 g2 g3 r1 r2 p1 p2 p3 h
  have c0 := r3.c0
  have c1 := r3.c1
  have f1 := r3.f (o := 1)
  unfold maxLen at hs
  have e1 : ((a : Int) == (s.size : Int)) = false := by simp; omega
  go_wp2_with fail
  go_quiet ((go_at_call 51; exact Calls.quiet_of_same (needs_any _ _)))
  go_wp2
  have R := Rd.set1 (w := w3.drewN nq) r3 ((a : Int) + 1)
  have GG := grown_trans (grown_trans G (grown_drewN w3 nq (some b))) (grown_set (w3.drewN nq) b 1 (.int .i64 ((a : Int) + 1)))
  go_quiet (fail)
  go_wp2
  go_ret2
  exact ⟨rfl, R, grown_trans GG (grown_drewN _ _ _)⟩


theorem Rd.kept {w w' : World} {b : Nat} {s : ByteArray} {a n : Int} {row : Option Nat} (h : Rd w b s a n) (hg : w.grownBy w' row) (hne : some b ≠ row) : Rd w' b s a n := by
  have := h.lt
  unfold Rd at h ⊢
  rw [hg.block b this hne]; exact h
theorem grown_some {w w' : World} {row : Option Nat} (h : w.grownBy w' none) : w.grownBy w' row :=
  ⟨h.os, h.tape, h.output, h.size, fun k hk _ => h.block k hk (by simp)⟩

theorem infoByte : (Tryd.prog.info? 5).map (fun i => (i.zero, i.size, i.bytes)) = some (some (.int .u8 0), 1, 1) := by kernel_rfl

set_option maxHeartbeats 400000 in
set_option maxRecDepth 100000 in
theorem quoted_one (b : Nat) (s : ByteArray) (a n : Nat) (w : World) (h : Rd w b s a n) (ha : a + 1 < s.size) (hs : s.size ≤ maxLen)
    (p0 : Lib.hasPrefix (List.drop a s.data.toList) [34] = false)
    (p1 : Lib.hasPrefix (List.drop a s.data.toList) [92, 34] = false)
    (p2 : Lib.hasPrefix (List.drop a s.data.toList) [92, 92] = false)
    (p3 : Lib.hasPrefix (List.drop a s.data.toList) [92, 120] = false)
    (q1 : ((s[a].toNat : Int) == 92) = false) (q2 : ¬ (s[a].toNat : Int) < 32) (q3 : ¬ 126 < (s[a].toNat : Int))
    (p4 : Lib.hasPrefix (List.drop (a + 1) s.data.toList) [34] = true) :
    Calls Tryd.prog 45 #[.pointer (some ⟨b, 0, none⟩)] w fun e w' => e = .returned (.tuple #[.string ⟨#[s[a]]⟩, .bool true]) ∧ Rd w' b s ↑(a + 2) n ∧ w.grownBy w' (some b) := by
  obtain ⟨i0, hi, hz0, hz1, hz2⟩ := info_parts infoByte
  go_enter Tryd.func45, Tryd.ntmps45
  go_wp2_with fail
  go_step3
  go_wp2_with fail
  refine wp_loop_rounds 2 ?_
  rw [rounds_succ]
  go_wp2_with fail
  refine (skipN b s _ a n _ h (by omega) hs p0).mono ?_
  rintro e w1 ⟨rfl, r1, g1⟩
  go_wp2_with fail
  refine (letter_plain b s a n _ r1 (by omega) hs p1 p2 p3 q1 (by omega) (by omega)).mono ?_
  rintro e w2 ⟨rfl, r2, g2⟩
  clear p0 p1 p2 p3 q1 q2 q3 h r1
  have ob := World.ownsRow_nil w2 w2.heap.size 5 1
  go_wp2_with (at_builtin; refine wpList_append_own _ rfl _ _ 54 rfl w2.heap.size 5 i0 (.int .u8 0) 1 1 Tryd.underlying54 hi hz0 hz1 hz2 rfl (by decide) (.slice none 0 0) 0 [] rfl (ob.alloc _) ⟨w2.heap.size, 0, none⟩ 1 1 [Value.int .u8 s[a].toNat] rfl rfl ?hnews ?h1 ?h63 ?hby ?hbase ?next)
  case hnews => exact cell_one_new _ _ _
  case h1 => intro u hu; simp at hu; subst hu; rfl
  case h63 => unfold maxLen; omega
  case hby => omega
  case hbase => simp
  intro v3 w3 own3 g3 hne
  have r3 := (r2.alloc (.cells #[.int .u8 s[a].toNat] 5)).kept g3 (by simp [Value.ownBlock])
  have hb2 := r2.lt
  have G : w.grownBy w3 (some b) := grown_trans (grown_trans g1 g2) (grown_some (grown_trans (World.grownBy_alloc w2 _ none) g3))
  clear r2 g1 g2 g3 ob
  rcases own3.2 with ⟨e0, -⟩ | ⟨g, cap, cur, rfl, hgb, -, -, -, -, -⟩
  · exact absurd e0 hne
  have hbg : b ≠ g := by omega
  clear hne hgb
  go_wp2_with fail
  rw [rounds_succ]
  go_wp2_with fail
  refine (skipY b s ⟨#[34]⟩ (a + 1) n _ r3 (by omega) hs p4 (by show a + 1 + 1 ≤ s.size; omega)).mono ?_
  rintro e w4 ⟨rfl, r4, g4⟩
  have own4 := own3.kept g4 (.inr (fun e => hbg (Option.some.inj e).symm))
  have hcv := run_convert_bytes_back (P := Tryd.prog) w4 54 9 5 ⟨g, 0, none⟩ cap [s[a]] Tryd.underlying54 Tryd.underlying5 Tryd.underlying9 (fun j hj => own4.cells (g := g) rfl j _ (by simp at hj; subst hj; simp))
  simp only [List.length_singleton] at hcv
  have GG := grown_trans G g4
  clear own3 own4 r3 G g4 p4
  go_wp2
  rw [Exit.noGoto_ret]
  go_ret2
  exact ⟨rfl, r4, GG⟩
end Go.Proofs.YtfanoiomiijlgaaDoor
