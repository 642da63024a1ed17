/- The reader's call row at a row of two values without lists, and its calls marked and value and the package's Parse above them; each theorem names its conditions. -/
import Derived.Test.YtfanoiomiijlgaaDoorValue
namespace Go.Proofs.YtfanoiomiijlgaaDoor
open Go.RowKit

theorem infoDatum : (Tryd.prog.info? 25).map (fun i => (i.zero, i.size, i.bytes)) = some (some (.agg #[.int .i64 0, .int .i64 0, .int .u64 0, .string ⟨#[]⟩, .slice none 0 0]), 5, 64) := by kernel_rfl

theorem five_new (w : World) (o : Obj) (v0 v1 v2 v3 v4 : Value) : ∀ (j : Nat) (u : Value), [v0, v1, v2, v3, v4][j]? = some u →
    ((w.alloc o).alloc (.cells #[v0, v1, v2, v3, v4] 25)).cell? ((⟨w.heap.size + 1, 0, none⟩ : Addr).add j) = some u := by
  have d := D5.new (w.alloc o) v0 v1 v2 v3 v4
  rw [World.size_alloc] at d
  obtain ⟨c0, c1, c2, c3, c4⟩ := d.c
  intro j u hj
  match j, hj with
  | 0, hj => simp at hj; subst hj; exact c0
  | 1, hj => simp at hj; subst hj; exact c1
  | 2, hj => simp at hj; subst hj; exact c2
  | 3, hj => simp at hj; subst hj; exact c3
  | 4, hj => simp at hj; subst hj; exact c4
  | k + 5, hj => simp at hj
/-- A row of the call's own may have turned beside. -/
theorem grown_over {w0 w w' : World} {row : Option Nat} {g : Nat} (h : w0.grownBy w row) (k : w.grownBy w' (some g)) (hg : w0.heap.size ≤ g) : w0.grownBy w' row :=
  ⟨k.os.trans h.os, k.tape.trans h.tape, k.output.trans h.output, Nat.le_trans h.size k.size, fun i hi hn => (k.block i (Nat.lt_of_lt_of_le hi h.size) (fun e => by have := Option.some.inj e; omega)).trans (h.block i hi hn)⟩

theorem ownsRow_base {w : World} {base : Nat} {e : TypeId} {size : Nat} {v : Value} {n : Nat} {xs : List Value} (h : w.ownsRow base e size v n xs) (base' : Nat) (hb : base' ≤ base) : w.ownsRow base' e size v n xs := by
  obtain ⟨h1, h2⟩ := h
  refine ⟨h1, ?_⟩
  rcases h2 with h2 | ⟨g, cap, cur, e1, e2, e3⟩
  · exact .inl h2
  · exact .inr ⟨g, cap, cur, e1, Nat.le_trans hb e2, e3⟩
theorem ownsRow_set5 {w : World} {base : Nat} {e : TypeId} {size : Nat} {v : Value} {n : Nat} {xs : List Value} (h : w.ownsRow base e size v n xs) {N : Nat} (hN : N < base) (u0 u1 u2 u3 u4 : Value) :
    (((((w.setCell ⟨N, 0, none⟩ u0).setCell ⟨N, 1, none⟩ u1).setCell ⟨N, 2, none⟩ u2).setCell ⟨N, 3, none⟩ u3).setCell ⟨N, 4, none⟩ u4).ownsRow base e size v n xs :=
  ownsRow_setCell_below (ownsRow_setCell_below (ownsRow_setCell_below (ownsRow_setCell_below (ownsRow_setCell_below h hN u0) hN u1) hN u2) hN u3) hN u4

/-- What a value without a list answers at a place. -/
def Leaf (b : Nat) (s : ByteArray) (a n a' n' : Nat) (deep u0 u1 u2 : Int) (u3 : ByteArray) : Prop :=
  ∀ w1 : World, Rd w1 b s a n → Calls Tryd.prog 25 #[.pointer (some ⟨b, 0, none⟩), .int .i64 deep] w1 fun e w' => e = .returned (.tuple #[.agg #[.int .i64 u0, .int .i64 u1, .int .u64 u2, .string u3, .slice none 0 0], .bool true]) ∧ Rd w' b s a' n' ∧ w1.grownBy w' (some b)

set_option maxRecDepth 100000 in
set_option maxHeartbeats 1000000 in
theorem row_two (b : Nat) (s : ByteArray) (a n a1 n1 a2 n2 : Nat) (deep : Int) (w : World) (h : Rd w b s a n) (ha : a ≤ s.size) (ha1 : a1 + 2 ≤ s.size) (ha2 : a2 + 1 ≤ s.size) (hs : s.size ≤ maxLen)
    (p1 : Lib.hasPrefix (List.drop a s.data.toList) [93] = false)
    (p2 : Lib.hasPrefix (List.drop a1 s.data.toList) [93] = false)
    (p3 : Lib.hasPrefix (List.drop a1 s.data.toList) [44, 32] = true)
    (p4 : Lib.hasPrefix (List.drop a2 s.data.toList) [93] = true)
    (u0 u1 u2 x0 x1 x2 : Int) (u3 x3 : ByteArray) (H1 : Leaf b s a n a1 n1 deep u0 u1 u2 u3) (H2 : Leaf b s (a1 + 2) n1 a2 n2 deep x0 x1 x2 x3) :
    Calls Tryd.prog 47 #[.pointer (some ⟨b, 0, none⟩), .string ⟨#[93]⟩, .int .i64 deep] w fun e w' => ∃ ad cap, e = .returned (.tuple #[.slice ad 2 cap, .bool true]) ∧ Rd w' b s ↑(a2 + 1) n2 ∧ w.grownBy w' (some b) ∧
      w'.ownsRow w.heap.size 25 5 (.slice ad 2 cap) 2 [.int .i64 u0, .int .i64 u1, .int .u64 u2, .string u3, .slice none 0 0, .int .i64 x0, .int .i64 x1, .int .u64 x2, .string x3, .slice none 0 0] := by
  obtain ⟨i0, hi, hz0, hz1, hz2⟩ := info_parts infoDatum
  have hb := h.lt
  go_enter Tryd.func47, Tryd.ntmps47
  go_wp2_with fail
  go_step3
  go_wp2_with fail
  refine (skipN b s _ a n _ h (by omega) hs p1).mono ?_
  rintro e w1 ⟨rfl, r1, g1⟩
  go_wp2_with fail
  refine wp_loop_rounds 2 ?_
  rw [rounds_succ]
  go_wp2_with fail
  refine (H1 _ r1).mono ?_
  rintro e w2 ⟨rfl, r2, g2⟩
  have G2 := grown_trans g1 g2
  clear h r1 g1 g2 p1
  have hz : w.heap.size ≤ w2.heap.size := G2.size
  have ob := World.ownsRow_nil w2 w.heap.size 25 5
  go_wp2_with (at_builtin; refine wpList_append_own _ rfl _ _ 23 rfl w.heap.size 25 i0 (.agg #[.int .i64 0, .int .i64 0, .int .u64 0, .string ⟨#[]⟩, .slice none 0 0]) 5 64 Tryd.underlying23 hi hz0 hz1 hz2 rfl (by decide) (.slice none 0 0) 0 [] rfl ((ob.alloc _).alloc _) ⟨w2.heap.size + 1, 0, none⟩ 1 1 [.int .i64 u0, .int .i64 u1, .int .u64 u2, .string u3, .slice none 0 0] rfl rfl ?hnews ?h1 ?h63 ?hby ?hbase ?next)
  case hnews => exact five_new _ _ _ _ _ _ _
  case h1 => intro u hu; simp at hu; rcases hu with rfl | rfl | rfl | rfl | rfl <;> rfl
  case h63 => unfold maxLen; omega
  case hby => omega
  case hbase => simp; omega
  intro v3 w3 own3 g3 hne
  have r3 := ((r2.alloc (.cells #[.int .i64 u0, .int .i64 u1, .int .u64 u2, .string u3, .slice none 0 0] 25)).alloc (.cells #[.int .i64 u0, .int .i64 u1, .int .u64 u2, .string u3, .slice none 0 0] 25)).kept g3 (by simp [Value.ownBlock])
  have G3 : w.grownBy w3 (some b) := grown_trans G2 (grown_some (grown_trans (grown_trans (World.grownBy_alloc w2 _ none) (World.grownBy_alloc _ _ none)) g3))
  clear r2 G2 g3 ob hz
  rcases own3.2 with ⟨e0, -⟩ | ⟨g, cap, cur, rfl, hgb, -, -, -, -, -⟩
  · exact absurd e0 hne
  have hbg : b ≠ g := by omega
  clear hne
  go_wp2_with fail
  refine (skipN b s _ a1 n1 _ r3 (by omega) hs p2).mono ?_
  rintro e w4 ⟨rfl, r4, g4⟩
  go_wp2_with fail
  refine (skipY b s ⟨#[44, 32]⟩ a1 n1 _ r4 (by omega) hs p3 (by show a1 + 2 ≤ s.size; omega)).mono ?_
  rintro e w5 ⟨rfl, r5, g5⟩
  have r5 : Rd w5 b s ↑(a1 + 2) n1 := r5
  have g45 := grown_trans g4 g5
  have own5 := own3.kept g45 (.inr (fun e => hbg (Option.some.inj e).symm))
  have G5 := grown_trans G3 g45
  clear r3 r4 g4 g5 g45 own3 G3 p2 p3
  go_wp2_with fail
  rw [rounds_succ]
  go_wp2_with fail
  refine (H2 _ r5).mono ?_
  rintro e w6 ⟨rfl, r6, g6⟩
  have own6 := own5.kept g6 (.inr (fun e => hbg (Option.some.inj e).symm))
  have G6 := grown_trans G5 g6
  have hz : w.heap.size ≤ w6.heap.size := G6.size
  clear r5 g6 own5 G5
  go_wp2_with (at_builtin; refine wpList_append_own _ rfl _ _ 23 rfl w.heap.size 25 i0 (.agg #[.int .i64 0, .int .i64 0, .int .u64 0, .string ⟨#[]⟩, .slice none 0 0]) 5 64 Tryd.underlying23 hi hz0 hz1 hz2 rfl (by decide) (.slice (some ⟨g, 0, none⟩) 1 cap) 1 [.int .i64 u0, .int .i64 u1, .int .u64 u2, .string u3, .slice none 0 0] rfl ((own6.alloc _).alloc _) ⟨w6.heap.size + 1, 0, none⟩ 1 1 [.int .i64 x0, .int .i64 x1, .int .u64 x2, .string x3, .slice none 0 0] rfl rfl ?hnewsB ?h1B ?h63B ?hbyB ?hbaseB ?nextB)
  case hnewsB => exact five_new _ _ _ _ _ _ _
  case h1B => intro u hu; simp at hu; rcases hu with rfl | rfl | rfl | rfl | rfl <;> rfl
  case h63B => unfold maxLen; omega
  case hbyB => omega
  case hbaseB => simp; omega
  intro v7 w7 own7 g7 hne
  have r7 := ((r6.alloc (.cells #[.int .i64 x0, .int .i64 x1, .int .u64 x2, .string x3, .slice none 0 0] 25)).alloc (.cells #[.int .i64 x0, .int .i64 x1, .int .u64 x2, .string x3, .slice none 0 0] 25)).kept g7 (fun e => hbg (Option.some.inj e))
  have G7 : w.grownBy w7 (some b) := grown_over G6 (grown_trans (grown_trans (World.grownBy_alloc w6 _ (some g)) (World.grownBy_alloc _ _ (some g))) g7) hgb
  clear r6 G6 g7 own6 hz
  rcases own7.2 with ⟨e0, -⟩ | ⟨g', cap', cur', rfl, hgb', -, -, -, -, -⟩
  · exact absurd e0 hne
  have hbg' : b ≠ g' := by omega
  clear hne
  go_wp2_with fail
  refine (skipY b s ⟨#[93]⟩ a2 n2 _ r7 (by omega) hs p4 (by show a2 + 1 ≤ s.size; omega)).mono ?_
  rintro e w8 ⟨rfl, r8, g8⟩
  have own8 := own7.kept g8 (.inr (fun e => hbg' (Option.some.inj e).symm))
  have G8 := grown_trans G7 g8
  clear own7 G7 g8 r7 p4
  go_wp2
  rw [Exit.noGoto_ret]
  go_ret2
  exact ⟨_, _, rfl, r8, G8, own8⟩

set_option maxRecDepth 100000 in
set_option maxHeartbeats 1000000 in
theorem marked_list (b : Nat) (s : ByteArray) (a n a' n' : Nat) (deep : Int) (hd0 : 0 ≤ deep) (hd : deep ≤ 16) (w : World) (h : Rd w b s a n) (ha : a + 1 ≤ s.size) (hs : s.size ≤ maxLen)
    (p1 : Lib.hasPrefix (List.drop a s.data.toList) [35] = false)
    (p2 : Lib.hasPrefix (List.drop a s.data.toList) [102] = false)
    (p3 : Lib.hasPrefix (List.drop a s.data.toList) [34] = false)
    (p4 : Lib.hasPrefix (List.drop a s.data.toList) [64, 34] = false)
    (p5 : Lib.hasPrefix (List.drop a s.data.toList) [37] = false)
    (p6 : Lib.hasPrefix (List.drop a s.data.toList) [91] = true) (xs : List Value)
    (H : ∀ w1 : World, Rd w1 b s ↑(a + 1) n → Calls Tryd.prog 47 #[.pointer (some ⟨b, 0, none⟩), .string ⟨#[93]⟩, .int .i64 (deep + 1)] w1 fun e w' => ∃ ad cap, e = .returned (.tuple #[.slice ad 2 cap, .bool true]) ∧ Rd w' b s a' n' ∧ w1.grownBy w' (some b) ∧ w'.ownsRow w1.heap.size 25 5 (.slice ad 2 cap) 2 xs) :
    Calls Tryd.prog 33 #[.pointer (some ⟨b, 0, none⟩), .int .i64 deep] w fun e w' => ∃ ad cap, e = .returned (.tuple #[.agg #[.int .i64 8, .int .i64 0, .int .u64 0, .string ⟨#[]⟩, .slice ad 2 cap], .bool true]) ∧ Rd w' b s a' n' ∧ w.grownBy w' (some b) ∧ w'.ownsRow (w.heap.size + 1) 25 5 (.slice ad 2 cap) 2 xs := by
  have HH := Lib.hid H
  clear H
  have hb := h.lt
  have d0 := D5.new w (.int .i64 0) (.int .i64 0) (.int .u64 0) (.string ⟨#[]⟩) (.slice none 0 0)
  have r0 := h.alloc (.cells #[.int .i64 0, .int .i64 0, .int .u64 0, .string ⟨#[]⟩, .slice none 0 0] 25)
  have g0 : w.grownBy (w.alloc (.cells #[.int .i64 0, .int .i64 0, .int .u64 0, .string ⟨#[]⟩, .slice none 0 0] 25)) (some b) := World.grownBy_alloc w _ _
  go_enter Tryd.func33, Tryd.ntmps33
  go_wp2_with fail
  refine (skipN b s _ a n _ r0 (by omega) hs p1).mono ?_
  rintro e w1 ⟨rfl, r1, g1⟩
  go_wp2_with fail
  refine (skipN b s _ a n _ r1 (by omega) hs p2).mono ?_
  rintro e w2 ⟨rfl, r2, g2⟩
  go_wp2_with fail
  refine (skipN b s _ a n _ r2 (by omega) hs p3).mono ?_
  rintro e w3 ⟨rfl, r3, g3⟩
  go_wp2_with fail
  refine (skipN b s _ a n _ r3 (by omega) hs p4).mono ?_
  rintro e w4 ⟨rfl, r4, g4⟩
  go_wp2_with fail
  refine (skipN b s _ a n _ r4 (by omega) hs p5).mono ?_
  rintro e w5 ⟨rfl, r5, g5⟩
  go_wp2_with fail
  refine (skipY b s ⟨#[91]⟩ a n _ r5 (by omega) hs p6 (by show a + 1 ≤ s.size; omega)).mono ?_
  rintro e w6 ⟨rfl, r6, g6⟩
  have r6 : Rd w6 b s ↑(a + 1) n := r6
  have gg := (grown_trans (grown_trans (grown_trans (grown_trans (grown_trans g1 g2) g3) g4) g5) g6)
  have d6 := d0.kept gg (by omega)
  have G := grown_trans g0 gg
  have hN : w.heap.size < w6.heap.size := d6.lt
  have cc := d6.c.1
  have ff := d6.f (o := 0)
  clear r0 r1 r2 r3 r4 r5 g0 g1 g2 g3 g4 g5 g6 d0 p1 p2 p3 p4 p5 p6 gg h
  go_wp2_with fail
  have r10 := r6.setOther (k := w.heap.size) (o := 0) (by omega) (.int .i64 8)
  have d10 := d6.set0 (.int .i64 8)
  have g10 := grown_setNew (o := 0) G (Nat.le_refl _) (.int .i64 8)
  clear cc ff r6 d6 G
  refine (HH.out _ r10).mono ?_
  rintro e w11 ⟨ad, cap, rfl, r11, g11, own11⟩
  have d11 := d10.kept g11 (by omega)
  have G := grown_trans g10 g11
  obtain ⟨k0, k1, k2, k3, k4⟩ := d11.c
  have f0 := d11.f (o := 0)
  have f1 := d11.f (o := 1)
  have f2 := d11.f (o := 2)
  have f3 := d11.f (o := 3)
  have f4 := d11.f (o := 4)
  have hN' : w.heap.size < w11.heap.size := d11.lt
  have HO := Lib.hid (ownsRow_base own11 (w.heap.size + 1) (by rw [size_setCell']; omega))
  clear r10 d10 g10 g11 own11 hN
  go_wp2
  exact bodyPost_ret (res_dat Tryd.results33 ((d11.set4 _).set _ _ _ _ _) rfl) rfl
    ⟨ad, cap, rfl, (r11.setOther (by omega) _).set5 (by omega) _ _ _ _ _, grown_set5 (grown_setNew G (Nat.le_refl _) _) (Nat.le_refl _) _ _ _ _ _,
      ownsRow_set5 (ownsRow_setCell_below HO.out (Nat.lt_succ_self _) _) (Nat.lt_succ_self _) _ _ _ _ _⟩
end Go.Proofs.YtfanoiomiijlgaaDoor
