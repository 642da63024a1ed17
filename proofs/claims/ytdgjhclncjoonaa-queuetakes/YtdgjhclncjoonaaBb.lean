/- The document's copies of messages; the conditions: the messages in memory, their bodies of a size that can be. -/
import Derived.Test.YtdgjhclncjoonaaBa
namespace Go.Proofs.Ytdgjhclncjoonaa
open Go.RowKit

theorem Bk.c13 {w : World} {N : Nat} {v0 v1 v2 v3 v4 v5 v6 v7 v8 v9 v10 v11 v12 : Value} {T : TypeId} (h : Bk w N #[v0, v1, v2, v3, v4, v5, v6, v7, v8, v9, v10, v11, v12] T) : w.cell? ⟨N, 0, none⟩ = some v0 ∧ w.cell? ⟨N, 1, none⟩ = some v1 ∧ w.cell? ⟨N, 2, none⟩ = some v2 ∧ w.cell? ⟨N, 3, none⟩ = some v3 ∧ w.cell? ⟨N, 4, none⟩ = some v4 ∧ w.cell? ⟨N, 5, none⟩ = some v5 ∧ w.cell? ⟨N, 6, none⟩ = some v6 ∧ w.cell? ⟨N, 7, none⟩ = some v7 ∧ w.cell? ⟨N, 8, none⟩ = some v8 ∧ w.cell? ⟨N, 9, none⟩ = some v9 ∧ w.cell? ⟨N, 10, none⟩ = some v10 ∧ w.cell? ⟨N, 11, none⟩ = some v11 ∧ w.cell? ⟨N, 12, none⟩ = some v12 := ⟨h.c 0, h.c 1, h.c 2, h.c 3, h.c 4, h.c 5, h.c 6, h.c 7, h.c 8, h.c 9, h.c 10, h.c 11, h.c 12⟩
/-- The body's five cells written. -/
theorem set_body {w : World} {N : Nat} {x : Ms} {d : Bo} {T : TypeId} (h : Bk w N (x.cs d) T) (d' : Bo) {W : World} (hW : W = ((((w.setCell ⟨N, 2, none⟩ (.int .i64 d'.k)).setCell ⟨N, 3, none⟩ (.int .i64 d'.i)).setCell ⟨N, 4, none⟩ (.int .u64 d'.u)).setCell ⟨N, 5, none⟩ (.string d'.s)).setCell ⟨N, 6, none⟩ (.slice d'.a d'.l d'.c)) :
    Bk W N (x.cs d') T ∧ W.heap.size = w.heap.size ∧ (∀ g, g ≠ N → W.heap[g]? = w.heap[g]?) ∧ Below N w W := by
  subst hW
  have h1 := (((((h.set 2 (.int .i64 d'.k)).set 3 (.int .i64 d'.i)).set 4 (.int .u64 d'.u)).set 5 (.string d'.s)).set 6 (.slice d'.a d'.l d'.c))
  refine ⟨h1, by simp, fun g hg => ?_, ?_⟩
  · simp (disch := (simp; omega)) only [Below.heap_setCell]
  · exact (((((Below.refl N w).setCell (Nat.le_refl N) _).setCell (Nat.le_refl N) _).setCell (Nat.le_refl N) _).setCell (Nat.le_refl N) _).setCell (Nat.le_refl N) _
/-- The contract of a copy of a body. -/
theorem body_copy {w : World} {x : Ms} {d : Bo} (h : Dt.Rep w x.n d.vs x.t) (hp : (Dt.pts x.n x.t).1 ≤ 4096) :
    Calls Try.prog 30 #[.agg #[.int .i64 d.k, .int .i64 d.i, .int .u64 d.u, .string d.s, .slice d.a d.l d.c]] w fun e w' => ∃ d' : Bo, e = .returned (.agg #[.int .i64 d'.k, .int .i64 d'.i, .int .u64 d'.u, .string d'.s, .slice d'.a d'.l d'.c]) ∧ Rz (fun g => w.heap.size ≤ g ∧ g < w'.heap.size) w' x.n d'.vs x.t ∧ Below w.heap.size w w' :=
  (Dt.copy_any x.n x.t _ _ _ _ _ w h hp).mono fun _ _ ⟨k, i, u, s, a, l, c, he, hr, hb⟩ => ⟨⟨k, i, u, s, a, l, c⟩, he, Rz.of_rf _ _ _ hr, hb⟩

set_option maxRecDepth 100000 in
set_option maxHeartbeats 2000000 in
theorem cmsg_any (x : Ms) (d : Bo) (w : World) (h : Dt.Rep w x.n d.vs x.t) (hp : (Dt.pts x.n x.t).1 ≤ 4096) :
    Calls Try.prog 22 #[.agg (x.cs d)] w fun e w' => ∃ d' : Bo, e = .returned (.agg (x.cs d')) ∧ Rz (fun g => w.heap.size ≤ g ∧ g < w'.heap.size) w' x.n d'.vs x.t ∧ Below w.heap.size w w' := by
  obtain ⟨Z, hZ⟩ : ∃ Z : Array Value, Z = #[.int .i64 0, .string ⟨#[]⟩, .int .i64 0, .int .i64 0, .int .u64 0, .string ⟨#[]⟩, .slice none 0 0, .int .i64 0, .int .i64 0, .string ⟨#[]⟩, .int .i64 0, .int .i64 0, .int .i64 0] := ⟨_, rfl⟩
  have D0 : Bk ((w.alloc (.cells (x.cs d) 30)).alloc (.cells Z 30)) w.heap.size (x.cs d) 30 := (Bk.new w _ _).alloc _
  have E0 := Bk.new2 w (.cells (x.cs d) 30) Z 30
  have B0 := below2 w (.cells (x.cs d) 30) (.cells Z 30)
  have HC := Lib.hid (body_copy (Dt.Rep.below B0 _ _ _ h) hp)
  subst hZ
  clear h hp
  go_enter Try.func22, Try.ntmps22
  go_wp2_with fail
  refine HC.out.mono ?_
  rintro e w1 ⟨d', rfl, r1, b1⟩
  have D1 := D0.step b1
  have E1 := E0.step b1
  have B1 := B0.trans (b1.mono B0.size)
  have hs1 := b1.size
  simp only [World.size_alloc] at hs1
  have R1 := Lib.hid r1
  clear D0 E0 r1 HC b1 B0
  obtain ⟨c0, c1, c2, c3, c4, c5, c6, c7, c8, c9, c10, c11, c12⟩ := D1.c13
  obtain ⟨z0, z1, z2, z3, z4, z5, z6, z7, z8, z9, z10, z11, z12⟩ := E1.c13
  have f1 := D1.f
  have f2 := E1.f
  go_wp2
  refine bodyPost_ret (v := .agg (x.cs d')) (by simp [results, Try.results22, go_sem, World.cell?_setCell_same, World.cell?_setCell_other, z0, z1, z2, z3, z4, z5, z6, z7, z8, z9, z10, z11, z12]) rfl ⟨d', rfl, ?_, ?_⟩
  · refine Rz.to (fun g hg => ⟨⟨by have := hg.1; simp at this; omega, by simpa using hg.2⟩, ?_⟩) _ _ _ R1.out
    have := hg.1
    simp only [World.size_alloc] at this
    simp (disch := (simp; omega)) only [Below.heap_setCell]
  · repeat' refine Below.setCell ?_ (by simp) _
    exact B1

/-- A row of messages laid behind a row that grows. -/
theorem wpList_mapp {ops : Array Oper} {rest : List Oper} {o : Oper} {a : Act} {Q : Exit → Act → World → Prop} {w : World} (hgd : o.guard = none) (s x : Operand)
    (ho : o.op = .call { callee := .builtin .append, args := #[s, x], argTypes := #[22, 22] })
    (L : Nat) (F : Nat → Prop) (l : List Ms) (sl : Value) (xs : List Value) (hs : a.eval s = sl) (hp : Mp L F l sl xs w)
    (ad2 : Option Addr) (c2 : Nat) (m : List Ms) (hx : a.eval x = .slice ad2 m.length c2) (hm : Mz F w ad2 m) (h0 : m = [] → ad2 = none ∧ c2 = 0) (hlen : l.length + m.length ≤ 1000000) (hF : ∀ g, F g → g < w.heap.size ∧ some g ≠ sl.ownBlock)
    (h : ∀ sl' xs' w', Mp L F (l ++ m) sl' xs' w' → w.grownBy w' sl.ownBlock → (sl'.ownBlock = sl.ownBlock ∨ sl'.ownBlock = some w.heap.size) → wpList Try.prog ops Q rest (a.put o.dst sl') w') : wpList Try.prog ops Q (o :: rest) a w := by
  obtain ⟨i0, hi0, hz0, hz1, hz2⟩ := infoM_parts
  by_cases hm0 : m = []
  · obtain ⟨rfl, rfl⟩ := h0 hm0
    subst hm0
    refine wpList_plain hgd fun K hK' => ?_
    have hrun := run_append_owned_none (P := Try.prog) w L 22 o.type 30 i0 13 Try.underlying22 hi0 _ _ _ hp.o
    unfold Oper.wp
    simp only [List.length_nil] at hx
    simp [execOp, ho, resolve, invoke, builtin, hs, hx, hrun, Result.andThen]
    exact hK' _ _ (by simpa using h sl xs w (by simpa using hp) ⟨rfl, rfl, rfl, Nat.le_refl _, fun _ _ _ => rfl⟩ (.inl rfl))
  · rcases hm with hm | ⟨b, of, rfl, hb, hm⟩
    · exact absurd hm hm0
    obtain ⟨news, n1, n2, n3, n4⟩ := Mz.news hm
    have hpos : 0 < m.length := List.length_pos_iff.2 hm0
    refine wpList_append_lies _ hgd s x 22 ho L 30 i0 _ 13 144 Try.underlying22 hi0 hz0 hz1 hz2 rfl (by decide) sl l.length xs hs hp.o ⟨b, of, none⟩ m.length c2 news hx n1 n2 n3 hpos (by unfold maxLen; omega) (by omega) hp.s _ rfl ?_
    intro g cap w' own gr at' lt'
    exact h _ (xs ++ news) w' (hp.step n4 own gr (fun g hg => ⟨hg, hF g hg⟩)) gr (at'.elim (fun e => .inl e.symm) (fun e => .inr (by rw [e]; rfl)))

/-- A message alone in a block is a row of one. -/
theorem mz_one {F : Nat → Prop} {w : World} {N : Nat} {x : Ms} {d : Bo} {T : TypeId} (h : Bk w N (x.cs d) T) (hF : F N) (hr : Rz F w x.n d.vs x.t) : Mz F w (some ⟨N, 0, none⟩) [x] := by
  refine .inr ⟨N, 0, rfl, hF, fun j y hj => ?_⟩
  cases j with
  | zero =>
    simp at hj
    subst hj
    exact ⟨d, C13.of fun q hq => by simpa using h.c q, hr⟩
  | succ j => simp at hj

end Go.Proofs.Ytdgjhclncjoonaa
