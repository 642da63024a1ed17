/- A wheel in memory, and a timer put into it; the conditions: the wheel and the timer in memory, ticks within their bounds. -/
import Derived.Test.YtignphkfknjllaaDoorWi
import Derived.Test.YtignphkfknjllaaDoorWd
namespace Go.Proofs.YtignphkfknjllaaDoor
open Go.RowKit

/-- A wheel in memory: its time, its slots with their marks, its words. -/
structure Wl (w : World) (b m T : Nat) (q : Nat → List Tm) (mx : Nat → Bool) (ls : Nat → Int) (us : Nat → Nat) : Prop where
  wm : Wm w b q
  now : mem w b 0 = some (.int .i64 T)
  mp : mem w b 1 = some (.map (some m))
  c2 : ∀ k, k < 448 → mem w b (2 + 4 * k + 2) = some (.bool (mx k))
  c3 : ∀ k, k < 448 → mem w b (2 + 4 * k + 3) = some (.int .i64 (ls k))
  us : ∀ l, l < 7 → mem w b (1794 + l) = some (.int .u64 (us l))
theorem bk_lt {w : World} {N : Nat} {T : TypeId} (h : ∃ cs, Bk w N cs T) : N < w.heap.size := by
  obtain ⟨cs, h⟩ := h
  exact h.lt
theorem mem_blk {w w' : World} {N : Nat} (h : w'.heap[N]? = w.heap[N]?) (o : Nat) : mem w' N o = mem w N o := World.cell?_of_block (a := ⟨N, o, none⟩) h
theorem Wl.lt {w : World} {b m T : Nat} {q : Nat → List Tm} {mx : Nat → Bool} {ls : Nat → Int} {us : Nat → Nat} (h : Wl w b m T q mx ls us) {B : Nat} (hB : Own b q B) : B < w.heap.size := by
  rcases hB with rfl | ⟨k, t, hk, ht, rfl⟩
  · exact bk_lt h.wm.bb
  · exact bk_lt (h.wm.tb k t hk ht)
theorem Wl.but {C : Nat → Prop} {w w' : World} {b m T : Nat} {q : Nat → List Tm} {mx : Nat → Bool} {ls : Nat → Int} {us : Nat → Nat} (h : Wl w b m T q mx ls us) (hB : But C w w') (hC : ∀ B, C B → ¬ Own b q B) : Wl w' b m T q mx ls us := by
  have hb : ∀ B, Own b q B → w'.heap[B]? = w.heap[B]? := fun B ho => hB.block B (h.lt ho) (fun c => hC B c ho)
  have hbb := fun o => mem_blk (hb b (.inl rfl)) o
  have hbt : ∀ k t, k < 448 → t ∈ q k → w'.heap[t.b]? = w.heap[t.b]? := fun k t hk ht => hb t.b (.inr ⟨k, t, hk, ht, rfl⟩)
  refine ⟨⟨h.wm.ls.same (fun o _ _ => hbb o) (fun k t o hk ht => mem_blk (hbt k t hk ht) o), ?_, fun k t hk ht => ?_⟩, (hbb _).trans h.now, (hbb _).trans h.mp, fun k hk => (hbb _).trans (h.c2 k hk), fun k hk => (hbb _).trans (h.c3 k hk), fun l hl => (hbb _).trans (h.us l hl)⟩
  · obtain ⟨cs, hc⟩ := h.wm.bb
    exact ⟨cs, (hb b (.inl rfl)).trans hc⟩
  · obtain ⟨cs, hc⟩ := h.wm.tb k t hk ht
    exact ⟨cs, (hbt k t hk ht).trans hc⟩
theorem Wl.below {w w' : World} {b m T : Nat} {q : Nat → List Tm} {mx : Nat → Bool} {ls : Nat → Int} {us : Nat → Nat} (h : Wl w b m T q mx ls us) (hB : Below w.heap.size w w') : Wl w' b m T q mx ls us :=
  h.but (But.of_below (C := fun _ => False) hB) (fun _ c => c.elim)
/-- A number turned at one place. -/
def at' {α : Type} (f : Nat → α) (k : Nat) (v : α) : Nat → α := fun j => if j = k then v else f j
theorem at_same {α : Type} (f : Nat → α) (k : Nat) (v : α) : at' f k v k = v := by simp [at']
theorem at_other {α : Type} (f : Nat → α) {k j : Nat} (v : α) (h : j ≠ k) : at' f k v j = f j := by simp [at', h]

theorem wrap_pow {S : Nat} (hs : S < 64) : IntKind.u64.wrap (2 ^ S) = ((2 ^ S : Nat) : Int) := by
  have h : 2 ^ S < 2 ^ 64 := Nat.pow_lt_pow_right (by decide) hs
  rw [IntKind.wrap_u64, show (2 : Int) ^ S = ((2 ^ S : Nat) : Int) by simp]
  generalize 2 ^ S = z at h ⊢
  omega
theorem But.like {C : Nat → Prop} {w W w' : World} (h : But C w W) (l : Like W w') : But C w w' :=
  ⟨l.2.1.trans h.os, l.2.2.1.trans h.tape, l.2.2.2.trans h.output, by rw [l.1]; exact h.size, fun k hk hn => by rw [l.1]; exact h.block k hk hn⟩
section
variable {w : World} {b m T : Nat} {q : Nat → List Tm} {mx : Nat → Bool} {ls : Nat → Int} {us : Nat → Nat}
theorem Wl.like {w' : World} (h : Wl w b m T q mx ls us) (l : Like w w') : Wl w' b m T q mx ls us := by
  refine h.but (C := fun _ => False) ⟨l.2.1, l.2.2.1, l.2.2.2, by rw [l.1]; exact Nat.le_refl _, fun k _ _ => by rw [l.1]⟩ (fun _ c => c.elim)
theorem mem_at {w : World} {b o : Nat} {x : Value} (v : Value) (h : mem w b o = some x) (B o' : Nat) (hne : ¬ (B = b ∧ o' = o)) : mem (w.setCell ⟨b, o, none⟩ v) B o' = mem w B o' := by
  rw [mem_set v h, upd_other _ _ hne]
/-- One of a wheel's own cells, but for its links, written. -/
theorem Wm.cell {b' o : Nat} (h : Wm w b' q) {x : Value} (v : Value) (hx : mem w b' o = some x) (ho : ¬ (o < 1794 ∧ (o % 4 = 2 ∨ o % 4 = 3))) : Wm (w.setCell ⟨b', o, none⟩ v) b' q := by
  have kp := (Kp.refl (fun B => B = b') w).set b' o v rfl
  refine ⟨h.ls.same (fun o' h1 h2 => mem_at v hx _ _ (by omega)) (fun k t o' hk ht => mem_at v hx _ _ (fun e => h.ls.ne k t hk ht e.1)), kp.bk _ _ h.bb, fun k t hk ht => kp.bk _ _ (h.tb k t hk ht)⟩
theorem Wl.used (h : Wl w b m T q mx ls us) {L : Nat} (hL : L < 7) (v : Nat) : Wl (w.setCell ⟨b, 1794 + L, none⟩ (.int .u64 v)) b m T q mx ls (at' us L v) := by
  have hx := h.us L hL
  have ma := fun o' hne => mem_at (.int .u64 v) hx b o' hne
  refine ⟨h.wm.cell _ hx (by omega), (ma _ (by omega)).trans h.now, (ma _ (by omega)).trans h.mp, fun k hk => (ma _ (by omega)).trans (h.c2 k hk), fun k hk => (ma _ (by omega)).trans (h.c3 k hk), fun l hl => ?_⟩
  by_cases c : l = L
  · subst c; rw [at_same, mem_set _ hx, upd_same]
  · rw [at_other _ _ c]; exact (ma _ (by omega)).trans (h.us l hl)
theorem Wl.time (h : Wl w b m T q mx ls us) (T' : Nat) : Wl (w.setCell ⟨b, 0, none⟩ (.int .i64 T')) b m T' q mx ls us := by
  have hx := h.now
  have ma := fun o' hne => mem_at (.int .i64 T') hx b o' hne
  refine ⟨h.wm.cell _ hx (by omega), by rw [mem_set _ hx, upd_same], (ma _ (by omega)).trans h.mp, fun k hk => (ma _ (by omega)).trans (h.c2 k hk), fun k hk => (ma _ (by omega)).trans (h.c3 k hk), fun l hl => (ma _ (by omega)).trans (h.us l hl)⟩
theorem Wl.put {w' : World} {k : Nat} {t : Tm} (h : Wl w b m T q mx ls us) (hk : k < 448) (z : Pu w b k q t (mx k) (ls k) w') : Wl w' b m T (up q k (q k ++ [t])) (at' mx k (putm (q k) t (mx k) (ls k)).1) (at' ls k (putm (q k) t (mx k) (ls k)).2) us := by
  refine ⟨z.wm, (z.ot _ (by omega)).trans h.now, (z.ot _ (by omega)).trans h.mp, fun j hj => ?_, fun j hj => ?_, fun l hl => (z.ot _ (by omega)).trans (h.us l hl)⟩
  · by_cases c : j = k
    · subst c; rw [at_same]; exact z.c2
    · rw [at_other _ _ c]; exact (z.ot _ (by omega)).trans (h.c2 j hj)
  · by_cases c : j = k
    · subst c; rw [at_same]; exact z.c3
    · rw [at_other _ _ c]; exact (z.ot _ (by omega)).trans (h.c3 j hj)
theorem Wl.leave {w' : World} {k : Nat} {p0 : List Tm} {t : Tm} {r0 : List Tm} (h : Wl w b m T q mx ls us) (hk : k < 448) (z : Le w b k q p0 t r0 (ls k) w') : Wl w' b m T (up q k (p0 ++ r0)) mx (at' ls k (if (t.a : Int) = ls k then 0 else ls k)) us := by
  refine ⟨z.wm, (z.ot _ (by omega)).trans h.now, (z.ot _ (by omega)).trans h.mp, fun j hj => (z.ot _ (by omega)).trans (h.c2 j hj), fun j hj => ?_, fun l hl => (z.ot _ (by omega)).trans (h.us l hl)⟩
  by_cases c : j = k
  · subst c; rw [at_same]; exact z.c3
  · rw [at_other _ _ c]; exact (z.ot _ (by omega)).trans (h.c3 j hj)
end

set_option maxRecDepth 100000 in
set_option maxHeartbeats 1000000 in
theorem wput_any {w : World} {b m T : Nat} {q : Nat → List Tm} {mx : Nat → Bool} {ls : Nat → Int} {us : Nat → Nat} (h : Wl w b m T q mx ls us) (t : Tm) (x0 x1 : Value) (hT : T ≤ 1099511627776) (ha : t.a ≤ 1099511627776) (hu : ∀ l, l < 7 → us l < 18446744073709551616)
    (ht : ∃ cs, Bk w t.b cs 71) (t0 : mem w t.b 0 = some x0) (t1 : mem w t.b 1 = some x1) (t2 : mem w t.b 2 = some (.int .i64 t.a)) (t3 : mem w t.b 3 = some (.int .i64 t.i)) (hn : ∀ k t', k < 448 → t' ∈ q k → t'.b ≠ t.b) :
    Calls Tryd.prog 32 #[.pointer (some ⟨b, 0, none⟩), .pointer (some ⟨t.b, 0, none⟩)] w fun e w' => e = .returned (.tuple #[]) ∧ Wl w' b m T (up q (plc T t.a) (q (plc T t.a) ++ [t])) (at' mx (plc T t.a) (putm (q (plc T t.a)) t (mx (plc T t.a)) (ls (plc T t.a))).1) (at' ls (plc T t.a) (putm (q (plc T t.a)) t (mx (plc T t.a)) (ls (plc T t.a))).2) (at' us (lev T t.a) (us (lev T t.a) ||| 2 ^ slo T t.a)) ∧ But (fun B => Own b q B ∨ B = t.b) w w' := by
  have hk := plc_lt hT ha
  have hl := lev_lt7 hT ha
  have hs := slo_lt T t.a
  have hbl := bk_lt h.wm.bb
  have htl := bk_lt ht
  have c0 : w.cell? ⟨b, 0, none⟩ = _ := h.now
  have d2 : w.cell? ⟨t.b, 2, none⟩ = _ := t2
  have H := Lib.hid h
  have HT := Lib.hid ht
  have HK := Lib.hid (place_any b T t.a w hT ha c0 hbl)
  clear h ht c0
  go_enter Tryd.func32, Tryd.ntmps32
  go_wp2_with fail
  refine HK.out.mono ?_
  rintro e w1 ⟨rfl, B1⟩
  have s1 := B1.size
  have B2 : Below w.heap.size w (w1.alloc (.cells #[.int .i64 (lev T t.a), .int .i64 (slo T t.a)] 64)) := B1.alloc s1 _
  have P2 := Bk.new w1 #[.int .i64 (lev T t.a), .int .i64 (slo T t.a)] 64
  have HS := Lib.hid (slotAt_any b (lev T t.a) (slo T t.a) (w1.alloc (.cells #[.int .i64 (lev T t.a), .int .i64 (slo T t.a)] 64)) hl hs)
  go_wp2_with fail
  refine HS.out.mono ?_
  rintro e w3 ⟨rfl, B3⟩
  clear HS HK
  have P3 := Lib.hid ((B3.block w1.heap.size P2.lt).trans P2)
  have B4 := B2.trans (B3.mono B2.size)
  have s3 := B3.size
  simp only [World.size_alloc] at s3
  clear P2 B2 B3
  have hP0 : w.heap.size ≤ w1.heap.size := s1
  generalize w1.heap.size = P at *
  have HP := Lib.hid (slotput_any (w := w3) (k := plc T t.a) (H.out.below B4).wm hk t (mx (plc T t.a)) (ls (plc T t.a)) x0 x1 (by obtain ⟨cs, hc⟩ := HT.out; exact ⟨cs, (B4.block _ htl).trans hc⟩) ((mem_blk (B4.block _ htl) 0).trans t0) ((mem_blk (B4.block _ htl) 1).trans t1) ((mem_blk (B4.block _ htl) 2).trans t2) ((mem_blk (B4.block _ htl) 3).trans t3) hn ((H.out.below B4).c2 _ hk) ((H.out.below B4).c3 _ hk))
  have U3 := (H.out.below B4).us _ hl
  go_wp2_with fail
  refine HP.out.mono ?_
  rintro e w4 ⟨rfl, Z⟩
  clear HP B1
  have hbP : b ≠ P := by omega
  have hPb : P ≠ b := by omega
  have hPo : ¬ (Own b q P ∨ P = t.b) := by
    rintro (c | c)
    · have := H.out.lt c; omega
    · omega
  have P4 := (Z.kp.but.block P (by omega) hPo).trans P3.out
  have p0 : w4.cell? ⟨P, 0, none⟩ = some (.int .i64 (lev T t.a)) := Bk.c P4 0
  have p1 : w4.cell? ⟨P, 1, none⟩ = some (.int .i64 (slo T t.a)) := Bk.c P4 1
  have uu : w4.cell? ⟨b, 1794 + lev T t.a, none⟩ = some (.int .u64 (us (lev T t.a))) := (Z.ot _ (by omega)).trans U3
  have fb := bk_f Z.wm.bb
  have Z' := Lib.hid Z
  have B5 := Lib.hid ((But.of_below (C := fun B => Own b q B ∨ B = t.b) B4).trans Z.kp.but (fun _ _ h => h))
  have W3 := Lib.hid (H.out.below B4)
  clear P4 P3 U3 Z B4 d2 t0 t1 t2 t3 HT
  have hu' := hu _ hl
  have BITS := Lib.hid (bits_or_u64_nat (us (lev T t.a)) (2 ^ slo T t.a) hu' (Nat.pow_lt_pow_right (by decide) hs))
  have l1 : ((lev T t.a : Nat) : Int) < 7 := by omega
  have l2 : ((slo T t.a : Nat) : Int) < 64 := by omega
  generalize hgl : lev T t.a = L at *
  generalize hgs : slo T t.a = S at *
  generalize hgu : us L = U at *
  go_wp2_with fail
  change w4.drew.cell? _ = _ at p0 p1 uu
  change ∀ o, w4.drew.frozen? ⟨b, o, none⟩ = _ at fb
  have LK := Lib.hid (Like.drewN w4 1)
  change Hid (Like w4 w4.drew) at LK
  refine wp_region_held_drew (S := (fun wx => wx.cell? ⟨P, 0, none⟩ = some (.int .i64 L) ∧ wx.cell? ⟨P, 1, none⟩ = some (.int .i64 S))) (by kernel_rfl) ⟨p0, p1⟩ (fun hHeld => ?_)
  generalize w4.drew = v4 at *
  refine wpAnyH_take (i := 0) (oi := { dst := some 16, op := Op.move (Operand.tmp 0), type := 23, pos := _, after := #[], guard := none }) (v := ?tu1) rfl (by kernel_rfl) (by kernel_rfl) (by kernel_rfl) (fun _ _ _ h => h) (Or.inl ⟨by rfl, ?uu1⟩) (by assumption) ?ru1
  case uu1 => (intro w hSw; (try dsimp only at hSw); go_simp; (try with_reducible rfl))
  simp only [Act.put, List.setIfInBounds_toArray, List.set_cons_zero, List.set_cons_succ]
  refine wpAnyH_take (i := 1) (oi := { dst := some 17, op := Op.fieldAddr 64 (Operand.tmp 4) 0, type := 0, pos := _, after := #[], guard := none }) (v := ?tu2) rfl (by kernel_rfl) (by kernel_rfl) (by kernel_rfl) (fun _ _ _ h => h) (Or.inl ⟨by rfl, ?uu2⟩) (by assumption) ?ru2
  case uu2 => (intro w hSw; (try dsimp only at hSw); go_simp; (try with_reducible rfl))
  simp only [Act.put, List.setIfInBounds_toArray, List.set_cons_zero, List.set_cons_succ]
  refine wpAnyH_take (i := 2) (oi := { dst := some 18, op := Op.load 3 (Operand.tmp 17), type := 3, pos := _, after := #[{ on := 1, ground := Ground.data }], guard := none }) (v := ?tu3) rfl (by kernel_rfl) (by kernel_rfl) (by kernel_rfl) (fun _ _ _ h => h) (Or.inl ⟨by rfl, ?uu3⟩) (by assumption) ?ru3
  case uu3 => (intro w hSw; (try dsimp only at hSw); go_simp; (try with_reducible rfl))
  simp only [Act.put, List.setIfInBounds_toArray, List.set_cons_zero, List.set_cons_succ]
  refine wpAnyH_take (i := 3) (oi := { dst := some 19, op := Op.nilCheck (Operand.tmp 16), type := 0, pos := _, after := #[{ on := 0, ground := Ground.data }], guard := none }) (v := ?tu4) rfl (by kernel_rfl) (by kernel_rfl) (by kernel_rfl) (fun _ _ _ h => h) (Or.inl ⟨by rfl, ?uu4⟩) (by assumption) ?ru4
  case uu4 => (intro w hSw; (try dsimp only at hSw); go_simp; (try with_reducible rfl))
  simp only [Act.put, List.setIfInBounds_toArray, List.set_cons_zero, List.set_cons_succ]
  refine wpAnyH_take (i := 4) (oi := { dst := some 20, op := Op.fieldAddr 58 (Operand.tmp 19) 3, type := 0, pos := _, after := #[{ on := 3, ground := Ground.data }], guard := none }) (v := ?tu5) rfl (by kernel_rfl) (by kernel_rfl) (by kernel_rfl) (fun _ _ _ h => h) (Or.inl ⟨by rfl, ?uu5⟩) (by assumption) ?ru5
  case uu5 => (intro w hSw; (try dsimp only at hSw); go_simp; (try with_reducible rfl))
  simp only [Act.put, List.setIfInBounds_toArray, List.set_cons_zero, List.set_cons_succ]
  refine wpAnyH_take (i := 5) (oi := { dst := some 21, op := Op.indexAddr 56 (Operand.tmp 20) (Operand.tmp 18), type := 0, pos := _, after := #[{ on := 4, ground := Ground.data }, { on := 2, ground := Ground.data }], guard := none }) (v := ?tu6) rfl (by kernel_rfl) (by kernel_rfl) (by kernel_rfl) (fun _ _ _ h => h) (Or.inl ⟨by rfl, ?uu6⟩) (by assumption) ?ru6
  case uu6 => (intro w hSw; (try dsimp only at hSw); go_simp; (try with_reducible rfl))
  simp only [Act.put, List.setIfInBounds_toArray, List.set_cons_zero, List.set_cons_succ]
  refine wpAnyH_take (i := 7) (oi := { dst := some 23, op := Op.fieldAddr 64 (Operand.tmp 4) 1, type := 0, pos := _, after := #[], guard := none }) (v := ?tu7) rfl (by kernel_rfl) (by kernel_rfl) (by kernel_rfl) (fun _ _ _ h => h) (Or.inl ⟨by rfl, ?uu7⟩) (by assumption) ?ru7
  case uu7 => (intro w hSw; (try dsimp only at hSw); go_simp; (try with_reducible rfl))
  simp only [Act.put, List.setIfInBounds_toArray, List.set_cons_zero, List.set_cons_succ]
  refine wpAnyH_take (i := 8) (oi := { dst := some 24, op := Op.load 3 (Operand.tmp 23), type := 3, pos := _, after := #[{ on := 7, ground := Ground.data }], guard := none }) (v := ?tu8) rfl (by kernel_rfl) (by kernel_rfl) (by kernel_rfl) (fun _ _ _ h => h) (Or.inl ⟨by rfl, ?uu8⟩) (by assumption) ?ru8
  case uu8 => (intro w hSw; (try dsimp only at hSw); go_simp; (try with_reducible rfl))
  simp only [Act.put, List.setIfInBounds_toArray, List.set_cons_zero, List.set_cons_succ]
  refine wpAnyH_take (i := 9) (oi := { dst := some 25, op := Op.binOp BinOp.shl 55 (Operand.const (Value.int IntKind.u64 1)) (Operand.tmp 24) 3, type := 55, pos := _, after := #[{ on := 8, ground := Ground.data }], guard := none }) (v := ?tu9) rfl (by kernel_rfl) (by kernel_rfl) (by kernel_rfl) (fun _ _ _ h => h) (Or.inl ⟨by rfl, ?uu9⟩) (by assumption) ?ru9
  case uu9 => (intro w hSw; (try dsimp only at hSw); go_simp; (try with_reducible rfl))
  simp only [Act.put, List.setIfInBounds_toArray, List.set_cons_zero, List.set_cons_succ]
  refine wpAnyH_take (i := 11) (oi := { dst := some 27, op := Op.nilCheck (Operand.tmp 16), type := 0, pos := _, after := #[{ on := 0, ground := Ground.data }], guard := none }) (v := ?tu10) rfl (by kernel_rfl) (by kernel_rfl) (by kernel_rfl) (fun _ _ _ h => h) (Or.inl ⟨by rfl, ?uu10⟩) (by assumption) ?ru10
  case uu10 => (intro w hSw; (try dsimp only at hSw); go_simp; (try with_reducible rfl))
  simp only [Act.put, List.setIfInBounds_toArray, List.set_cons_zero, List.set_cons_succ]
  refine wpAnyH_take (i := 12) (oi := { dst := some 28, op := Op.fieldAddr 58 (Operand.tmp 27) 3, type := 0, pos := _, after := #[{ on := 11, ground := Ground.data }], guard := none }) (v := ?tu11) rfl (by kernel_rfl) (by kernel_rfl) (by kernel_rfl) (fun _ _ _ h => h) (Or.inl ⟨by rfl, ?uu11⟩) (by assumption) ?ru11
  case uu11 => (intro w hSw; (try dsimp only at hSw); go_simp; (try with_reducible rfl))
  simp only [Act.put, List.setIfInBounds_toArray, List.set_cons_zero, List.set_cons_succ]
  refine wpAnyH_ready (rs := [6]) (by kernel_rfl) (by simp) ?_
  refine AllReadyH.cons (o := { dst := some 22, op := Op.load 55 (Operand.tmp 21), type := 55, pos := _, after := #[{ on := 5, ground := Ground.data }], guard := none }) rfl (fun K hK => ?_) AllReadyH.nil
  go_simp
  refine hK.out _ _ ⟨p0, p1⟩ (fun hH1 => ?_)
  clear hK K
  (try simp only [Act.put, List.setIfInBounds_toArray, List.set_cons_zero, List.set_cons_succ])
  refine wpAnyH_take (i := 10) (oi := { dst := some 26, op := Op.binOp BinOp.or 55 (Operand.tmp 22) (Operand.tmp 25) 55, type := 55, pos := _, after := #[{ on := 6, ground := Ground.data }, { on := 9, ground := Ground.data }], guard := none }) (v := ?tu12) rfl (by kernel_rfl) (by kernel_rfl) (by kernel_rfl) (fun _ _ _ h => h) (Or.inl ⟨by rfl, ?uu12⟩) (by assumption) ?ru12
  case uu12 => (intro w hSw; (try dsimp only at hSw); go_simp; (try with_reducible rfl))
  simp only [Act.put, List.setIfInBounds_toArray, List.set_cons_zero, List.set_cons_succ]
  refine wpAnyH_take (i := 13) (oi := { dst := some 29, op := Op.indexAddr 56 (Operand.tmp 28) (Operand.tmp 18), type := 0, pos := _, after := #[{ on := 12, ground := Ground.data }, { on := 2, ground := Ground.data }, { on := 0, ground := Ground.phase }, { on := 1, ground := Ground.phase }, { on := 2, ground := Ground.phase }, { on := 3, ground := Ground.phase }, { on := 4, ground := Ground.phase }, { on := 5, ground := Ground.phase }, { on := 6, ground := Ground.phase }, { on := 7, ground := Ground.phase }, { on := 8, ground := Ground.phase }, { on := 9, ground := Ground.phase }, { on := 10, ground := Ground.phase }], guard := none }) (v := ?tu13) rfl (by kernel_rfl) (by kernel_rfl) (by kernel_rfl) (fun _ _ _ h => h) (Or.inl ⟨by rfl, ?uu13⟩) (by assumption) ?ru13
  case uu13 => (intro w hSw; (try dsimp only at hSw); go_simp; (try with_reducible rfl))
  simp only [Act.put, List.setIfInBounds_toArray, List.set_cons_zero, List.set_cons_succ]
  refine wpAnyH_ready (rs := [14]) (by kernel_rfl) (by simp) ?_
  refine AllReadyH.cons (o := { dst := none, op := Op.store 55 (Operand.tmp 29) (Operand.tmp 26), type := 0, pos := _, after := #[{ on := 13, ground := Ground.data }, { on := 10, ground := Ground.data }, { on := 0, ground := Ground.phase }, { on := 1, ground := Ground.phase }, { on := 2, ground := Ground.phase }, { on := 3, ground := Ground.phase }, { on := 4, ground := Ground.phase }, { on := 5, ground := Ground.phase }, { on := 6, ground := Ground.phase }, { on := 7, ground := Ground.phase }, { on := 8, ground := Ground.phase }, { on := 9, ground := Ground.phase }, { on := 10, ground := Ground.phase }], guard := none }) rfl (fun K hK => ?_) AllReadyH.nil
  go_simp
  refine hK.out _ _ ⟨by go_simp; (try assumption), by go_simp; (try assumption)⟩ (fun hH2 => ?_)
  clear hK K
  (try simp only [Act.put, List.setIfInBounds_toArray, List.set_cons_zero, List.set_cons_succ])
  refine wpAnyH_done (by kernel_rfl) ?_ _
  go_wp2_with fail
  go_end0
  rw [wrap_pow hs, BITS.out]
  rw [hgl, hgs, hgu]
  exact ⟨rfl, ((W3.out.put hk Z'.out).like LK.out).used hl _, ((B5.out.like LK.out).trans (But.set v4 ⟨b, 1794 + L, none⟩ _ (C := fun B => Own b q B ∨ B = t.b) (.inl (.inl rfl))) (fun _ _ h => h))⟩
end Go.Proofs.YtignphkfknjllaaDoor
