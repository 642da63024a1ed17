/- The package's Handle by the contracts of newWork and handle; the conditions: those. -/
import Derived.Test.YtgijdiplhcoojaaGreatDoorJae
namespace Go.Proofs.YtgijdiplhcoojaaGreatDoor
open Go.RowKit

/-- Two blocks that are read, a state's within a work's and a result's. -/
structure Ed (b rb : Nat) (A B : Array Value) (S T : TypeId) (w : World) : Prop where
  a : Bk w b A S
  b : Bk w rb B T
theorem Ed.drew {b rb : Nat} {A B : Array Value} {S T : TypeId} {w : World} (h : Ed b rb A B S T w) : Ed b rb A B S T w.drew := ⟨h.a, h.b⟩
theorem Ed.ten {b rb : Nat} {A B : Array Value} {S T : TypeId} {w : World} {N : Nat} {y0 y1 y2 y3 y4 y5 y6 y7 y8 y9 : Value} {R : TypeId} (r : Bk w N #[y0, y1, y2, y3, y4, y5, y6, y7, y8, y9] R) (h : Ed b rb A B S T w) (h1 : b ≠ N) (h2 : rb ≠ N) (x0 x1 x2 x3 x4 x5 x6 x7 x8 x9 : Value) :
    Ed b rb A B S T ((((((((((w.setCell ⟨N, 0, none⟩ x0).setCell ⟨N, 1, none⟩ x1).setCell ⟨N, 2, none⟩ x2).setCell ⟨N, 3, none⟩ x3).setCell ⟨N, 4, none⟩ x4).setCell ⟨N, 5, none⟩ x5).setCell ⟨N, 6, none⟩ x6).setCell ⟨N, 7, none⟩ x7).setCell ⟨N, 8, none⟩ x8).setCell ⟨N, 9, none⟩ x9) := by
  obtain ⟨-, k2, k3, -⟩ := set10 r x0 x1 x2 x3 x4 x5 x6 x7 x8 x9 rfl
  exact ⟨(k3 b h1).trans h.a, (k3 rb h2).trans h.b⟩

set_option maxRecDepth 100000 in
set_option maxHeartbeats 1000000 in
theorem Handle_by (op num cp cn ac lk li lu : Int) (ls : ByteArray) (la : Option Addr) (ln lc : Nat) (ta : Option Addr) (tn tc : Nat) (cl : Bool) (un now : Int) (dk di du : Int) (ds : ByteArray) (da : Option Addr) (dn dc : Nat) (w : World)
    (J : Nat → World → Prop)
    (hW : ∀ wx, Below w.heap.size w wx → Calls Tryz.prog 43 #[.agg #[.int .i64 op, .int .i64 num, .int .u32 cp], .agg #[.int .i64 cn, .int .i64 ac, .int .i64 lk, .int .i64 li, .int .u64 lu, .string ls, .slice la ln lc, .slice ta tn tc, .bool cl, .int .i64 un], .int .i64 now] wx fun e w' => ∃ b, e = .returned (.pointer (some ⟨b, 0, none⟩)) ∧ J b w' ∧ wx.heap.size ≤ b ∧ b < w'.heap.size ∧ Below wx.heap.size wx w')
    (P : Int → Int → Int → Int → Int → ByteArray → Option Addr → Nat → Nat → Option Addr → Nat → Nat → Bool → Int → Int → Int → Int → Int → Bool → Int → Int → Int → ByteArray → Option Addr → Nat → Nat → World → Prop) (hP : ∀ cn ac lk li lu ls la ln lc ta tn tc cl un er co pk pn has k i u s a n c, PS w.heap.size (w.heap.size + 5) (P cn ac lk li lu ls la ln lc ta tn tc cl un er co pk pn has k i u s a n c))
    (hH : ∀ b wx, J b wx → Below w.heap.size w wx → w.heap.size + 5 ≤ b → b < wx.heap.size → Calls Tryz.prog 44 #[.pointer (some ⟨b, 0, none⟩), .agg #[.int .i64 dk, .int .i64 di, .int .u64 du, .string ds, .slice da dn dc]] wx fun e w' => ∃ cn ac lk li lu ls la ln lc ta tn tc cl un er co pk pn has k i u s a n c hv, e = .returned (.agg (rcs er co pk pn has k i u s a n c)) ∧ Bk w' b (wcs op num cp cn ac lk li lu ls la ln lc ta tn tc cl un now hv) 82 ∧ P cn ac lk li lu ls la ln lc ta tn tc cl un er co pk pn has k i u s a n c w' ∧ Fr (w.heap.size + 5) wx.heap.size wx w') :
    Calls Tryz.prog 30 #[.agg #[.int .i64 op, .int .i64 num, .int .u32 cp], .agg #[.int .i64 cn, .int .i64 ac, .int .i64 lk, .int .i64 li, .int .u64 lu, .string ls, .slice la ln lc, .slice ta tn tc, .bool cl, .int .i64 un], .agg #[.int .i64 dk, .int .i64 di, .int .u64 du, .string ds, .slice da dn dc], .int .i64 now] w fun e w' => ∃ cn ac lk li lu ls la ln lc ta tn tc cl un er co pk pn has k i u s a n c, e = .returned (.tuple #[.agg (scs cn ac lk li lu ls la ln lc ta tn tc cl un), .agg (rcs er co pk pn has k i u s a n c)]) ∧ Hid (P cn ac lk li lu ls la ln lc ta tn tc cl un er co pk pn has k i u s a n c w') ∧ Below w.heap.size w w' := by
  have HW := Lib.hid hW
  have HH := Lib.hid hH
  clear hW hH
  have B0 : Below w.heap.size w (((((w.alloc (.cells #[.int .i64 op, .int .i64 num, .int .u32 cp] 62)).alloc (.cells #[.int .i64 cn, .int .i64 ac, .int .i64 lk, .int .i64 li, .int .u64 lu, .string ls, .slice la ln lc, .slice ta tn tc, .bool cl, .int .i64 un] 27)).alloc (.cells #[.int .i64 dk, .int .i64 di, .int .u64 du, .string ds, .slice da dn dc] 25)).alloc (.cells (scs 0 0 0 0 0 ⟨#[]⟩ none 0 0 none 0 0 false 0) 27)).alloc (.cells (rErr 0 0 0 0) 56)) := ((below3 w _ _ _).alloc (by simp; omega) _).alloc (by simp; omega) _
  have Z0 : (((((w.alloc (.cells #[.int .i64 op, .int .i64 num, .int .u32 cp] 62)).alloc (.cells #[.int .i64 cn, .int .i64 ac, .int .i64 lk, .int .i64 li, .int .u64 lu, .string ls, .slice la ln lc, .slice ta tn tc, .bool cl, .int .i64 un] 27)).alloc (.cells #[.int .i64 dk, .int .i64 di, .int .u64 du, .string ds, .slice da dn dc] 25)).alloc (.cells (scs 0 0 0 0 0 ⟨#[]⟩ none 0 0 none 0 0 false 0) 27)).alloc (.cells (rErr 0 0 0 0) 56)).heap.size = w.heap.size + 5 := by simp
  have D0 : Bk (((((w.alloc (.cells #[.int .i64 op, .int .i64 num, .int .u32 cp] 62)).alloc (.cells #[.int .i64 cn, .int .i64 ac, .int .i64 lk, .int .i64 li, .int .u64 lu, .string ls, .slice la ln lc, .slice ta tn tc, .bool cl, .int .i64 un] 27)).alloc (.cells #[.int .i64 dk, .int .i64 di, .int .u64 du, .string ds, .slice da dn dc] 25)).alloc (.cells (scs 0 0 0 0 0 ⟨#[]⟩ none 0 0 none 0 0 false 0) 27)).alloc (.cells (rErr 0 0 0 0) 56)) (w.heap.size + 1 + 1) #[.int .i64 dk, .int .i64 di, .int .u64 du, .string ds, .slice da dn dc] 25 := ((Bk.new3 w _ _ _ _).alloc _).alloc _
  have S0 : Bk (((((w.alloc (.cells #[.int .i64 op, .int .i64 num, .int .u32 cp] 62)).alloc (.cells #[.int .i64 cn, .int .i64 ac, .int .i64 lk, .int .i64 li, .int .u64 lu, .string ls, .slice la ln lc, .slice ta tn tc, .bool cl, .int .i64 un] 27)).alloc (.cells #[.int .i64 dk, .int .i64 di, .int .u64 du, .string ds, .slice da dn dc] 25)).alloc (.cells (scs 0 0 0 0 0 ⟨#[]⟩ none 0 0 none 0 0 false 0) 27)).alloc (.cells (rErr 0 0 0 0) 56)) (w.heap.size + 1 + 1 + 1) (scs 0 0 0 0 0 ⟨#[]⟩ none 0 0 none 0 0 false 0) 27 := by have := (Bk.new3 (w.alloc (.cells #[.int .i64 op, .int .i64 num, .int .u32 cp] 62)) (.cells #[.int .i64 cn, .int .i64 ac, .int .i64 lk, .int .i64 li, .int .u64 lu, .string ls, .slice la ln lc, .slice ta tn tc, .bool cl, .int .i64 un] 27) (.cells #[.int .i64 dk, .int .i64 di, .int .u64 du, .string ds, .slice da dn dc] 25) (scs 0 0 0 0 0 ⟨#[]⟩ none 0 0 none 0 0 false 0) 27).alloc (.cells (rErr 0 0 0 0) 56); rwa [World.size_alloc] at this
  have R0 : Bk (((((w.alloc (.cells #[.int .i64 op, .int .i64 num, .int .u32 cp] 62)).alloc (.cells #[.int .i64 cn, .int .i64 ac, .int .i64 lk, .int .i64 li, .int .u64 lu, .string ls, .slice la ln lc, .slice ta tn tc, .bool cl, .int .i64 un] 27)).alloc (.cells #[.int .i64 dk, .int .i64 di, .int .u64 du, .string ds, .slice da dn dc] 25)).alloc (.cells (scs 0 0 0 0 0 ⟨#[]⟩ none 0 0 none 0 0 false 0) 27)).alloc (.cells (rErr 0 0 0 0) 56)) (w.heap.size + 1 + 1 + 1 + 1) (rErr 0 0 0 0) 56 := by have := (Bk.new3 ((w.alloc (.cells #[.int .i64 op, .int .i64 num, .int .u32 cp] 62)).alloc (.cells #[.int .i64 cn, .int .i64 ac, .int .i64 lk, .int .i64 li, .int .u64 lu, .string ls, .slice la ln lc, .slice ta tn tc, .bool cl, .int .i64 un] 27)) (.cells #[.int .i64 dk, .int .i64 di, .int .u64 du, .string ds, .slice da dn dc] 25) (.cells (scs 0 0 0 0 0 ⟨#[]⟩ none 0 0 none 0 0 false 0) 27) (rErr 0 0 0 0) 56); rwa [World.size_alloc, World.size_alloc] at this
  go_enter Tryz.func30, Tryz.ntmps30
  go_wp2_with fail
  generalize (((((w.alloc (.cells #[.int .i64 op, .int .i64 num, .int .u32 cp] 62)).alloc (.cells #[.int .i64 cn, .int .i64 ac, .int .i64 lk, .int .i64 li, .int .u64 lu, .string ls, .slice la ln lc, .slice ta tn tc, .bool cl, .int .i64 un] 27)).alloc (.cells #[.int .i64 dk, .int .i64 di, .int .u64 du, .string ds, .slice da dn dc] 25)).alloc (.cells (scs 0 0 0 0 0 ⟨#[]⟩ none 0 0 none 0 0 false 0) 27)).alloc (.cells (rErr 0 0 0 0) 56)) = w1 at *
  refine (HW.out _ B0).mono ?_
  rintro e w2 ⟨b, rfl, j2, hb, hb', b2⟩
  have B2 := B0.trans (b2.mono B0.size)
  have D2 := D0.step b2
  have S2 := S0.step b2
  have R2 := R0.step b2
  have J2 := Lib.hid j2
  clear B0 D0 S0 R0 j2 HW
  obtain ⟨d0, d1, d2, d3, d4⟩ := D2.c5
  go_wp2_with fail
  refine (HH.out _ _ J2.out B2 (by omega) hb').mono ?_
  rintro e w3 ⟨cn3, ac3, lk3, li3, lu3, ls3, la3, ln3, lc3, ta3, tn3, tc3, cl3, un3, er, co, pk, pn, has, k, i, u, s, a, n, c, hv, rfl, W3, p3, f3⟩
  have S3 := S2.fr f3 (.inl (by omega))
  have R3 := R2.fr f3 (.inl (by omega))
  have B3 : Below w.heap.size w w3 := B2.trans (f3.b.mono (by omega))
  have P3 := Lib.hid p3
  clear p3 f3 D2 S2 R2 HH d0 d1 d2 d3 d4 J2
  have b4 := below1 w3 (.cells (rcs er co pk pn has k i u s a n c) 56)
  have Q4 := Bk.new w3 (rcs er co pk pn has k i u s a n c) 56
  have P4 : Hid (P cn3 ac3 lk3 li3 lu3 ls3 la3 ln3 lc3 ta3 tn3 tc3 cl3 un3 er co pk pn has k i u s a n c (w3.alloc (.cells (rcs er co pk pn has k i u s a n c) 56))) := hP _ _ _ _ _ _ _ _ _ _ _ _ _ _ _ _ _ _ _ _ _ _ _ _ _ _ _ _ P3.out b4.size fun g hg _ => b4.block g hg
  have B4 := B3.trans (b4.mono B3.size)
  have S4 := S3.step b4
  have R4 := R3.step b4
  have E4 : Ed b w3.heap.size (wcs op num cp cn3 ac3 lk3 li3 lu3 ls3 la3 ln3 lc3 ta3 tn3 tc3 cl3 un3 now hv) (rcs er co pk pn has k i u s a n c) 82 56 (w3.alloc (.cells (rcs er co pk pn has k i u s a n c) 56)) := ⟨W3.step b4, Q4⟩
  have hz3 := R3.lt
  go_wp2_with fail
  have hrb : ∃ rb, w3.heap.size = rb := ⟨_, rfl⟩
  obtain ⟨rb, hrb⟩ := hrb
  have hsS : ∃ sS, w.heap.size + 1 + 1 + 1 = sS := ⟨_, rfl⟩
  obtain ⟨sS, hsS⟩ := hsS
  have hsR : ∃ sR, w.heap.size + 1 + 1 + 1 + 1 = sR := ⟨_, rfl⟩
  obtain ⟨sR, hsR⟩ := hsR
  generalize w3.alloc (.cells (rcs er co pk pn has k i u s a n c) 56) = w4 at *
  rw [hrb] at E4 hz3 ⊢
  rw [hsR] at R4 hz3 ⊢
  rw [hsS] at S4 ⊢
  have n1 : b ≠ sS := by omega
  have n2 : b ≠ sR := by omega
  have n3 : rb ≠ sS := by omega
  have n4 : rb ≠ sR := by omega
  have n5 : sS ≠ sR := by omega
  have hsS' := Lib.hid hsS
  have hsR' := Lib.hid hsR
  have hlo : w.heap.size ≤ sS := by omega
  have hlo' : w.heap.size ≤ sR := by omega
  clear hsS hsR hrb hz3 Q4 P3 B3 S3 R3 W3 b4 hb hb' b2 B2 Z0
  have HS : Hid (∀ wx, Ed b rb (wcs op num cp cn3 ac3 lk3 li3 lu3 ls3 la3 ln3 lc3 ta3 tn3 tc3 cl3 un3 now hv) (rcs er co pk pn has k i u s a n c) 82 56 wx → wx.cell? ⟨b, 3, none⟩ = some (.int .i64 cn3) ∧ wx.cell? ⟨b, 4, none⟩ = some (.int .i64 ac3) ∧ wx.cell? ⟨b, 5, none⟩ = some (.int .i64 lk3) ∧ wx.cell? ⟨b, 6, none⟩ = some (.int .i64 li3) ∧ wx.cell? ⟨b, 7, none⟩ = some (.int .u64 lu3) ∧ wx.cell? ⟨b, 8, none⟩ = some (.string ls3) ∧ wx.cell? ⟨b, 9, none⟩ = some (.slice la3 ln3 lc3) ∧ wx.cell? ⟨b, 10, none⟩ = some (.slice ta3 tn3 tc3) ∧ wx.cell? ⟨b, 11, none⟩ = some (.bool cl3) ∧ wx.cell? ⟨b, 12, none⟩ = some (.int .i64 un3) ∧ wx.cell? ⟨rb, 0, none⟩ = some (.int .i64 er) ∧ wx.cell? ⟨rb, 1, none⟩ = some (.int .i64 co) ∧ wx.cell? ⟨rb, 2, none⟩ = some (.int .i64 pk) ∧ wx.cell? ⟨rb, 3, none⟩ = some (.int .i64 pn) ∧ wx.cell? ⟨rb, 4, none⟩ = some (.bool has) ∧ wx.cell? ⟨rb, 5, none⟩ = some (.int .i64 k) ∧ wx.cell? ⟨rb, 6, none⟩ = some (.int .i64 i) ∧ wx.cell? ⟨rb, 7, none⟩ = some (.int .u64 u) ∧ wx.cell? ⟨rb, 8, none⟩ = some (.string s) ∧ wx.cell? ⟨rb, 9, none⟩ = some (.slice a n c)) := fun wx h => ⟨h.a.c 3, h.a.c 4, h.a.c 5, h.a.c 6, h.a.c 7, h.a.c 8, h.a.c 9, h.a.c 10, h.a.c 11, h.a.c 12, h.b.c 0, h.b.c 1, h.b.c 2, h.b.c 3, h.b.c 4, h.b.c 5, h.b.c 6, h.b.c 7, h.b.c 8, h.b.c 9⟩
  have S5 : Bk w4.drew sS _ _ := S4.drew
  have R5 : Bk w4.drew sR _ _ := R4.drew
  have E5 := E4.drew
  obtain ⟨s0, s1, s2, s3, s4, s5, s6, s7, s8, s9⟩ := S4.c10
  obtain ⟨r0, r1, r2, r3, r4, r5, r6, r7, r8, r9⟩ := R4.c10
  have fs := S4.f
  have fr := R4.f
  refine wp_region_held_drew (S := fun wx => wx.cell? ⟨b, 3, none⟩ = some (.int .i64 cn3) ∧ wx.cell? ⟨b, 4, none⟩ = some (.int .i64 ac3) ∧ wx.cell? ⟨b, 5, none⟩ = some (.int .i64 lk3) ∧ wx.cell? ⟨b, 6, none⟩ = some (.int .i64 li3) ∧ wx.cell? ⟨b, 7, none⟩ = some (.int .u64 lu3) ∧ wx.cell? ⟨b, 8, none⟩ = some (.string ls3) ∧ wx.cell? ⟨b, 9, none⟩ = some (.slice la3 ln3 lc3) ∧ wx.cell? ⟨b, 10, none⟩ = some (.slice ta3 tn3 tc3) ∧ wx.cell? ⟨b, 11, none⟩ = some (.bool cl3) ∧ wx.cell? ⟨b, 12, none⟩ = some (.int .i64 un3) ∧ wx.cell? ⟨rb, 0, none⟩ = some (.int .i64 er) ∧ wx.cell? ⟨rb, 1, none⟩ = some (.int .i64 co) ∧ wx.cell? ⟨rb, 2, none⟩ = some (.int .i64 pk) ∧ wx.cell? ⟨rb, 3, none⟩ = some (.int .i64 pn) ∧ wx.cell? ⟨rb, 4, none⟩ = some (.bool has) ∧ wx.cell? ⟨rb, 5, none⟩ = some (.int .i64 k) ∧ wx.cell? ⟨rb, 6, none⟩ = some (.int .i64 i) ∧ wx.cell? ⟨rb, 7, none⟩ = some (.int .u64 u) ∧ wx.cell? ⟨rb, 8, none⟩ = some (.string s) ∧ wx.cell? ⟨rb, 9, none⟩ = some (.slice a n c)) (by kernel_rfl) (HS.out _ E5) (fun hHeld => ?_)
  refine wpAnyH_take (i := 0) (oi := { dst := some 19, op := Op.move (Operand.tmp 10), type := 76, pos := "core.go:13", after := #[], guard := none }) (v := ?tA0) rfl (by kernel_rfl) (by kernel_rfl) (by kernel_rfl) (fun _ _ _ h => h) (Or.inl ⟨by rfl, ?uA0⟩) (by assumption) ?rA0
  case uA0 => (intro w hSw; (try dsimp only at hSw); go_simp; (try with_reducible rfl))
  simp only [Act.put, List.setIfInBounds_toArray, List.set_cons_zero, List.set_cons_succ]
  refine wpAnyH_take (i := 1) (oi := { dst := some 20, op := Op.nilCheck (Operand.tmp 19), type := 0, pos := "core.go:13", after := #[{ on := 0, ground := Ground.data }], guard := none }) (v := ?tA1) rfl (by kernel_rfl) (by kernel_rfl) (by kernel_rfl) (fun _ _ _ h => h) (Or.inl ⟨by rfl, ?uA1⟩) (by assumption) ?rA1
  case uA1 => (intro w hSw; (try dsimp only at hSw); go_simp; (try with_reducible rfl))
  simp only [Act.put, List.setIfInBounds_toArray, List.set_cons_zero, List.set_cons_succ]
  refine wpAnyH_take (i := 2) (oi := { dst := some 21, op := Op.fieldAddr 82 (Operand.tmp 20) 1, type := 0, pos := "core.go:13", after := #[{ on := 1, ground := Ground.data }], guard := none }) (v := ?tA2) rfl (by kernel_rfl) (by kernel_rfl) (by kernel_rfl) (fun _ _ _ h => h) (Or.inl ⟨by rfl, ?uA2⟩) (by assumption) ?rA2
  case uA2 => (intro w hSw; (try dsimp only at hSw); go_simp; (try with_reducible rfl))
  simp only [Act.put, List.setIfInBounds_toArray, List.set_cons_zero, List.set_cons_succ]
  refine wpAnyH_take (i := 3) (oi := { dst := some 22, op := Op.load 27 (Operand.tmp 21), type := 27, pos := "core.go:13", after := #[{ on := 2, ground := Ground.data }], guard := none }) (v := ?tA3) rfl (by kernel_rfl) (by kernel_rfl) (by kernel_rfl) (fun _ _ _ h => h) (Or.inl ⟨by rfl, ?uA3⟩) (by assumption) ?rA3
  case uA3 => (intro w hSw; (try dsimp only at hSw); go_simp; (try with_reducible rfl))
  simp only [Act.put, List.setIfInBounds_toArray, List.set_cons_zero, List.set_cons_succ]
  refine wpAnyH_take (i := 4) (oi := { dst := some 23, op := Op.load 56 (Operand.tmp 11), type := 56, pos := "core.go:13", after := #[{ on := 5, ground := Ground.gcOnly Departure.lateStores }], guard := none }) (v := ?tA4) rfl (by kernel_rfl) (by kernel_rfl) (by kernel_rfl) (fun _ _ _ h => h) (Or.inl ⟨by rfl, ?uA4⟩) (by assumption) ?rA4
  case uA4 => (intro w hSw; (try dsimp only at hSw); go_simp; (try with_reducible rfl))
  simp only [Act.put, List.setIfInBounds_toArray, List.set_cons_zero, List.set_cons_succ]
  refine wpAnyH_ready (rs := [5]) (by kernel_rfl) (by simp) ?_
  refine AllReadyH.cons (o := { dst := none, op := Op.store 27 (Operand.tmp 8) (Operand.tmp 22), type := 0, pos := "core.go:13", after := #[{ on := 3, ground := Ground.data }, { on := 0, ground := Ground.phase }, { on := 1, ground := Ground.phase }, { on := 2, ground := Ground.phase }, { on := 3, ground := Ground.phase }, { on := 4, ground := Ground.textOnly Departure.lateStores }], guard := none }) rfl (fun K hK => ?_) AllReadyH.nil
  go_simp
  obtain ⟨K1, K2, K3, K4⟩ := set10 S4 (.int .i64 cn3) (.int .i64 ac3) (.int .i64 lk3) (.int .i64 li3) (.int .u64 lu3) (.string ls3) (.slice la3 ln3 lc3) (.slice ta3 tn3 tc3) (.bool cl3) (.int .i64 un3) rfl
  have E5' := Ed.ten S4 E4 n1 n3 (.int .i64 cn3) (.int .i64 ac3) (.int .i64 lk3) (.int .i64 li3) (.int .u64 lu3) (.string ls3) (.slice la3 ln3 lc3) (.slice ta3 tn3 tc3) (.bool cl3) (.int .i64 un3)
  have R6 : Bk ((((((((((w4.setCell ⟨sS, 0, none⟩ (.int .i64 cn3)).setCell ⟨sS, 1, none⟩ (.int .i64 ac3)).setCell ⟨sS, 2, none⟩ (.int .i64 lk3)).setCell ⟨sS, 3, none⟩ (.int .i64 li3)).setCell ⟨sS, 4, none⟩ (.int .u64 lu3)).setCell ⟨sS, 5, none⟩ (.string ls3)).setCell ⟨sS, 6, none⟩ (.slice la3 ln3 lc3)).setCell ⟨sS, 7, none⟩ (.slice ta3 tn3 tc3)).setCell ⟨sS, 8, none⟩ (.bool cl3)).setCell ⟨sS, 9, none⟩ (.int .i64 un3)) sR _ _ := (K3 sR n5.symm).trans R4
  have P6 : Hid (P cn3 ac3 lk3 li3 lu3 ls3 la3 ln3 lc3 ta3 tn3 tc3 cl3 un3 er co pk pn has k i u s a n c ((((((((((w4.setCell ⟨sS, 0, none⟩ (.int .i64 cn3)).setCell ⟨sS, 1, none⟩ (.int .i64 ac3)).setCell ⟨sS, 2, none⟩ (.int .i64 lk3)).setCell ⟨sS, 3, none⟩ (.int .i64 li3)).setCell ⟨sS, 4, none⟩ (.int .u64 lu3)).setCell ⟨sS, 5, none⟩ (.string ls3)).setCell ⟨sS, 6, none⟩ (.slice la3 ln3 lc3)).setCell ⟨sS, 7, none⟩ (.slice ta3 tn3 tc3)).setCell ⟨sS, 8, none⟩ (.bool cl3)).setCell ⟨sS, 9, none⟩ (.int .i64 un3))) := hP _ _ _ _ _ _ _ _ _ _ _ _ _ _ _ _ _ _ _ _ _ _ _ _ _ _ _ _ P4.out (Nat.le_of_eq K2.symm) fun g _ hg => K3 g (by have := hsS'.out; omega)
  have B6 := B4.trans (K4.mono hlo)
  generalize ((((((((((w4.setCell ⟨sS, 0, none⟩ (.int .i64 cn3)).setCell ⟨sS, 1, none⟩ (.int .i64 ac3)).setCell ⟨sS, 2, none⟩ (.int .i64 lk3)).setCell ⟨sS, 3, none⟩ (.int .i64 li3)).setCell ⟨sS, 4, none⟩ (.int .u64 lu3)).setCell ⟨sS, 5, none⟩ (.string ls3)).setCell ⟨sS, 6, none⟩ (.slice la3 ln3 lc3)).setCell ⟨sS, 7, none⟩ (.slice ta3 tn3 tc3)).setCell ⟨sS, 8, none⟩ (.bool cl3)).setCell ⟨sS, 9, none⟩ (.int .i64 un3)) = w5 at *
  refine hK.out _ _ (HS.out _ E5'.drew) (fun hHeld2 => ?_)
  clear s0 s1 s2 s3 s4 s5 s6 s7 s8 s9 r0 r1 r2 r3 r4 r5 r6 r7 r8 r9 fs fr S5 R5 E5 S4 R4 E4 P4 B4 K2 K4 hK
  obtain ⟨r0, r1, r2, r3, r4, r5, r6, r7, r8, r9⟩ := R6.c10
  have fr := R6.f
  refine wpAnyH_ready (rs := [6]) (by kernel_rfl) (by simp) ?_
  refine AllReadyH.cons (o := { dst := none, op := Op.store 56 (Operand.tmp 9) (Operand.tmp 23), type := 0, pos := "core.go:13", after := #[{ on := 4, ground := Ground.data }, { on := 5, ground := Ground.chain }, { on := 0, ground := Ground.phase }, { on := 1, ground := Ground.phase }, { on := 2, ground := Ground.phase }, { on := 3, ground := Ground.phase }, { on := 4, ground := Ground.phase }, { on := 5, ground := Ground.phase }], guard := none }) rfl (fun K hK => ?_) AllReadyH.nil
  go_simp
  obtain ⟨M1, M2, M3, M4⟩ := set10 R6 (.int .i64 er) (.int .i64 co) (.int .i64 pk) (.int .i64 pn) (.bool has) (.int .i64 k) (.int .i64 i) (.int .u64 u) (.string s) (.slice a n c) rfl
  have E7 := Ed.ten R6 E5' n2 n4 (.int .i64 er) (.int .i64 co) (.int .i64 pk) (.int .i64 pn) (.bool has) (.int .i64 k) (.int .i64 i) (.int .u64 u) (.string s) (.slice a n c)
  have S7 : Bk ((((((((((w5.setCell ⟨sR, 0, none⟩ (.int .i64 er)).setCell ⟨sR, 1, none⟩ (.int .i64 co)).setCell ⟨sR, 2, none⟩ (.int .i64 pk)).setCell ⟨sR, 3, none⟩ (.int .i64 pn)).setCell ⟨sR, 4, none⟩ (.bool has)).setCell ⟨sR, 5, none⟩ (.int .i64 k)).setCell ⟨sR, 6, none⟩ (.int .i64 i)).setCell ⟨sR, 7, none⟩ (.int .u64 u)).setCell ⟨sR, 8, none⟩ (.string s)).setCell ⟨sR, 9, none⟩ (.slice a n c)) sS _ _ := (M3 sS n5).trans K1
  have P7 : Hid (P cn3 ac3 lk3 li3 lu3 ls3 la3 ln3 lc3 ta3 tn3 tc3 cl3 un3 er co pk pn has k i u s a n c ((((((((((w5.setCell ⟨sR, 0, none⟩ (.int .i64 er)).setCell ⟨sR, 1, none⟩ (.int .i64 co)).setCell ⟨sR, 2, none⟩ (.int .i64 pk)).setCell ⟨sR, 3, none⟩ (.int .i64 pn)).setCell ⟨sR, 4, none⟩ (.bool has)).setCell ⟨sR, 5, none⟩ (.int .i64 k)).setCell ⟨sR, 6, none⟩ (.int .i64 i)).setCell ⟨sR, 7, none⟩ (.int .u64 u)).setCell ⟨sR, 8, none⟩ (.string s)).setCell ⟨sR, 9, none⟩ (.slice a n c))) := hP _ _ _ _ _ _ _ _ _ _ _ _ _ _ _ _ _ _ _ _ _ _ _ _ _ _ _ _ P6.out (Nat.le_of_eq M2.symm) fun g _ hg => M3 g (by have := hsR'.out; omega)
  have B7 := B6.trans (M4.mono hlo')
  generalize ((((((((((w5.setCell ⟨sR, 0, none⟩ (.int .i64 er)).setCell ⟨sR, 1, none⟩ (.int .i64 co)).setCell ⟨sR, 2, none⟩ (.int .i64 pk)).setCell ⟨sR, 3, none⟩ (.int .i64 pn)).setCell ⟨sR, 4, none⟩ (.bool has)).setCell ⟨sR, 5, none⟩ (.int .i64 k)).setCell ⟨sR, 6, none⟩ (.int .i64 i)).setCell ⟨sR, 7, none⟩ (.int .u64 u)).setCell ⟨sR, 8, none⟩ (.string s)).setCell ⟨sR, 9, none⟩ (.slice a n c)) = w6 at *
  refine hK.out _ _ (HS.out _ E7.drew) (fun hHeld3 => ?_)
  refine wpAnyH_done (by kernel_rfl) ?_ _
  go_wp2_with fail
  obtain ⟨s0, s1, s2, s3, s4, s5, s6, s7, s8, s9⟩ := S7.c10
  obtain ⟨q0, q1, q2, q3, q4, q5, q6, q7, q8, q9⟩ := M1.c10
  refine bodyPost_ret (v := .tuple #[.agg (scs cn3 ac3 lk3 li3 lu3 ls3 la3 ln3 lc3 ta3 tn3 tc3 cl3 un3), .agg (rcs er co pk pn has k i u s a n c)]) ?_ rfl ⟨_, _, _, _, _, _, _, _, _, _, _, _, _, _, _, _, _, _, _, _, _, _, _, _, _, _, rfl, ?_, ?_⟩
  · simp [results, Tryz.results30, go_sem, s0, s1, s2, s3, s4, s5, s6, s7, s8, s9, q0, q1, q2, q3, q4, q5, q6, q7, q8, q9]
  · exact hP _ _ _ _ _ _ _ _ _ _ _ _ _ _ _ _ _ _ _ _ _ _ _ _ _ _ _ _ P7.out (Nat.le_refl _) fun g _ _ => rfl
  · exact B7.drew
end Go.Proofs.YtgijdiplhcoojaaGreatDoor
