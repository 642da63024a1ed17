/- A place put off: what run defers, once it comes to be done; the conditions: the blocks apart. -/
import Derived.Test.YthamafijjflfbaaGreatMcc
import Derived.Deep.AppendLies
namespace Go.Proofs.YthamafijjflfbaaGreat
open Go.RowKit

theorem infoInt_q : (Tryz.prog.info? 3).map (fun i => (i.zero, i.size, i.bytes)) = some (some (.int .i64 0), 1, 8) := by kernel_rfl
theorem infoInt_p : ∃ i0, Tryz.prog.info? 3 = some i0 ∧ i0.zero = some (.int .i64 0) ∧ i0.size = 1 ∧ i0.bytes = 8 := by
  obtain ⟨i0, h, e⟩ := Option.map_eq_some_iff.1 infoInt_q
  simp only [Prod.mk.injEq] at e
  exact ⟨i0, h, e.1, e.2.1, e.2.2⟩
theorem Bk.c1 {w : World} {N : Nat} {v0 : Value} {T : TypeId} (h : Bk w N #[v0] T) : w.cell? ⟨N, 0, none⟩ = some v0 := h.c 0
theorem Bk.c2 {w : World} {N : Nat} {v0 v1 : Value} {T : TypeId} (h : Bk w N #[v0, v1] T) : w.cell? ⟨N, 0, none⟩ = some v0 ∧ w.cell? ⟨N, 1, none⟩ = some v1 := ⟨h.c 0, h.c 1⟩
theorem owns_lt {w : World} {L : Nat} {e : TypeId} {size : Nat} {v : Value} {n : Nat} {xs : List Value} (h : w.ownsRow L e size v n xs) (g : Nat) (hg : v.ownBlock = some g) : L ≤ g ∧ g < w.heap.size := by
  rcases h.2 with ⟨e, -⟩ | ⟨g', cap, cur, e1, e2, e3, e4⟩
  · rw [e] at hg; cases hg
  · rw [e1] at hg
    have : g' = g := Option.some.inj hg
    subst this
    exact ⟨e2, (Array.getElem?_eq_some_iff.1 e3).1⟩
theorem owns_to {w w' : World} {L : Nat} {e : TypeId} {size : Nat} {v : Value} {n : Nat} {xs : List Value} (h : w.ownsRow L e size v n xs) (hb : ∀ g, v.ownBlock = some g → w'.heap[g]? = w.heap[g]?) : w'.ownsRow L e size v n xs := by
  obtain ⟨o1, o2⟩ := h
  refine ⟨o1, ?_⟩
  rcases o2 with o2 | ⟨g, cap, cur, e1, e2, e3, e4⟩
  · exact .inl o2
  · exact .inr ⟨g, cap, cur, e1, e2, (hb g (by rw [e1]; rfl)).trans e3, e4⟩

/-- What a place put off leaves. -/
structure Pq (w : World) (b L : Nat) (sl pl : Value) (n : Nat) (ys : List Value) (i : Int) (w' : World) : Prop where
  row : ∃ pl', Bk w' b #[sl, pl'] 64 ∧ w'.ownsRow L 3 1 pl' (n + 1) (ys ++ [.int .i64 i]) ∧ (pl'.ownBlock = pl.ownBlock ∨ ∀ g, pl'.ownBlock = some g → w.heap.size ≤ g)
  size : w.heap.size ≤ w'.heap.size
  block : ∀ g, g < w.heap.size → g ≠ b → some g ≠ pl.ownBlock → w'.heap[g]? = w.heap[g]?
  low : Below b w w'

set_option maxRecDepth 100000 in
set_option maxHeartbeats 2000000 in
theorem run1_any (rb ib b L : Nat) (sl pl : Value) (n : Nat) (ys : List Value) (i : Int) (u : FrameMode) (w : World) (hR : Bk w rb #[.pointer (some ⟨b, 0, none⟩)] 81) (hI : Bk w ib #[.int .i64 i] 3) (hB : Bk w b #[sl, pl] 64)
    (hO : w.ownsRow L 3 1 pl n ys) (hL : L ≤ w.heap.size) (h1 : b < rb) (h2 : b < ib) (h3 : rb < L) (h4 : ib < L) (hn : n + 1 ≤ 1048576) :
    CallsD Tryz.prog 50 #[.pointer (some ⟨rb, 0, none⟩), .pointer (some ⟨ib, 0, none⟩)] u w fun e u' w' => u' = u ∧ e = .returned (.tuple #[]) ∧ Pq w b L sl pl n ys i w' := by
  obtain ⟨i0, hi, hz0, hz1, hz2⟩ := infoInt_p
  have OW := Lib.hid hO
  have lB := hB.lt
  go_enter_d Tryz.func50, Tryz.ntmps50
  have KS : Hid (∀ wx, Bk wx rb #[.pointer (some ⟨b, 0, none⟩)] 81 → Bk wx ib #[.int .i64 i] 3 → (fun wx => wx.cell? ⟨rb, 0, none⟩ = some (.pointer (some ⟨b, 0, none⟩)) ∧ wx.cell? ⟨ib, 0, none⟩ = some (.int .i64 i)) wx) := fun wx h h' => ⟨h.c1, h'.c1⟩
  refine wp_region_held_drew (S := (fun wx => wx.cell? ⟨rb, 0, none⟩ = some (.pointer (some ⟨b, 0, none⟩)) ∧ wx.cell? ⟨ib, 0, none⟩ = some (.int .i64 i))) (by kernel_rfl) (KS.out _ (hR.step (Below.drew (Below.refl _ _))) (hI.step (Below.drew (Below.refl _ _)))) (fun hHeld => ?_)
  have R0 := hR.step (Below.drew (Below.refl _ _))
  have I0 := hI.step (Below.drew (Below.refl _ _))
  have C0 := hB.step (Below.drew (Below.refl _ _))
  have B0 : Below w.heap.size w w.drew := Below.drew (Below.refl _ _)
  clear hR hI hB hO
  generalize hw0 : w.drew = w0 at *
  clear hw0
  have hs0 := B0.size
  refine wpAnyH_take (i := 0) (oi := { dst := some 2, op := Op.load 81 (Operand.tmp 0), type := 81, pos := "guard.go:33", after := #[], guard := none }) (v := ?tT0) rfl (by kernel_rfl) (by kernel_rfl) (by kernel_rfl) (fun _ _ _ h => h) (Or.inl ⟨by rfl, ?uT0⟩) (by assumption) ?rT0
  case uT0 => (intro w hSw; (try dsimp only at hSw); go_simp; (try with_reducible rfl))
  simp only [Act.put, List.setIfInBounds_toArray, List.set_cons_zero, List.set_cons_succ]
  refine wpAnyH_take (i := 1) (oi := { dst := some 3, op := Op.load 81 (Operand.tmp 0), type := 81, pos := "guard.go:33", after := #[], guard := none }) (v := ?tT1) rfl (by kernel_rfl) (by kernel_rfl) (by kernel_rfl) (fun _ _ _ h => h) (Or.inl ⟨by rfl, ?uT1⟩) (by assumption) ?rT1
  case uT1 => (intro w hSw; (try dsimp only at hSw); go_simp; (try with_reducible rfl))
  simp only [Act.put, List.setIfInBounds_toArray, List.set_cons_zero, List.set_cons_succ]
  refine wpAnyH_take (i := 2) (oi := { dst := some 4, op := Op.nilCheck (Operand.tmp 3), type := 0, pos := "guard.go:33", after := #[{ on := 1, ground := Ground.data }], guard := none }) (v := ?tT2) rfl (by kernel_rfl) (by kernel_rfl) (by kernel_rfl) (fun _ _ _ h => h) (Or.inl ⟨by rfl, ?uT2⟩) (by assumption) ?rT2
  case uT2 => (intro w hSw; (try dsimp only at hSw); go_simp; (try with_reducible rfl))
  simp only [Act.put, List.setIfInBounds_toArray, List.set_cons_zero, List.set_cons_succ]
  refine wpAnyH_take (i := 3) (oi := { dst := some 5, op := Op.fieldAddr 64 (Operand.tmp 4) 1, type := 0, pos := "guard.go:33", after := #[{ on := 2, ground := Ground.data }], guard := none }) (v := ?tT3) rfl (by kernel_rfl) (by kernel_rfl) (by kernel_rfl) (fun _ _ _ h => h) (Or.inl ⟨by rfl, ?uT3⟩) (by assumption) ?rT3
  case uT3 => (intro w hSw; (try dsimp only at hSw); go_simp; (try with_reducible rfl))
  simp only [Act.put, List.setIfInBounds_toArray, List.set_cons_zero, List.set_cons_succ]
  refine wpAnyH_take (i := 5) (oi := { dst := some 7, op := Op.load 3 (Operand.tmp 1), type := 3, pos := "guard.go:33", after := #[], guard := none }) (v := ?tT5) rfl (by kernel_rfl) (by kernel_rfl) (by kernel_rfl) (fun _ _ _ h => h) (Or.inl ⟨by rfl, ?uT5⟩) (by assumption) ?rT5
  case uT5 => (intro w hSw; (try dsimp only at hSw); go_simp; (try with_reducible rfl))
  simp only [Act.put, List.setIfInBounds_toArray, List.set_cons_zero, List.set_cons_succ]
  have cb0 : w0.cell? ⟨b, 1, none⟩ = some pl := C0.c 1
  have e1 := below1 w0 (.cells #[.int .i64 i] 3)
  have RA := R0.step e1
  have IA := I0.step e1
  have CA := C0.step e1
  have cbA : (w0.alloc (.cells #[.int .i64 i] 3)).cell? ⟨b, 1, none⟩ = some pl := CA.c 1
  have BA := B0.trans (e1.mono hs0)
  have OA := owns_to OW.out (fun g hg => BA.block g (owns_lt OW.out g hg).2)
  have HN : Hid _ := World.news_of_block (heap_alloc_new w0 (.cells #[.int .i64 i] 3))
  have hsA := BA.size
  refine wpAnyH_ready (rs := [4, 6]) (by kernel_rfl) (by simp) ?_
  refine AllReadyH.cons (o := { dst := some 6, op := Op.load 43 (Operand.tmp 5), type := 43, pos := "guard.go:33", after := #[{ on := 3, ground := Ground.data }], guard := none }) rfl (fun K hK => ?_) (AllReadyH.cons (o := { dst := some 8, op := Op.buildSlice 43 1 #[(0, Operand.tmp 7)], type := 43, pos := "guard.go:33", after := #[{ on := 5, ground := Ground.data }], guard := none }) rfl (fun K hK => ?_) AllReadyH.nil)
  · go_simp
    refine hK.out _ _ (KS.out _ R0 I0) (fun hH1 => ?_)
    clear hK K
    (try simp only [Act.put, List.setIfInBounds_toArray, List.set_cons_zero, List.set_cons_succ])
    refine wpAnyH_ready (rs := [6]) (by kernel_rfl) (by simp) ?_
    refine AllReadyH.cons (o := { dst := some 8, op := Op.buildSlice 43 1 #[(0, Operand.tmp 7)], type := 43, pos := "guard.go:33", after := #[{ on := 5, ground := Ground.data }], guard := none }) rfl (fun K hK => ?_) AllReadyH.nil
    go_simp
    refine hK.out _ _ (KS.out _ RA IA) (fun hH2 => ?_)
    clear hK K
    (try simp only [Act.put, List.setIfInBounds_toArray, List.set_cons_zero, List.set_cons_succ])
    refine wpAnyH_ready (rs := [7]) (by kernel_rfl) (by simp) ?_
    refine AllReadyH.cons (o := { dst := some 9, op := Op.call { callee := Callee.builtin Builtin.append, args := #[Operand.tmp 6, Operand.tmp 8], argTypes := #[43, 43] }, type := 43, pos := "guard.go:33", after := #[{ on := 4, ground := Ground.data }, { on := 6, ground := Ground.data }], guard := none }) rfl (fun K hK => ?_) AllReadyH.nil
    refine step_append_lies _ rfl _ _ 43 rfl L 3 i0 (.int .i64 0) 1 8 Tryz.underlying43 hi hz0 hz1 hz2 rfl (by decide) pl n ys (by simp [Act.eval]) OA ⟨w0.heap.size, 0, none⟩ 1 1 [.int .i64 i] (by simp [Act.eval]) rfl HN.out (by intro u hu; simp at hu; subst hu; rfl) (by decide) (by unfold maxLen; omega) (by omega) (by omega) _ rfl ?_
    intro g5 c5 w5 own5 gr5 at5 lt5
    have R5 : Bk w5 rb #[.pointer (some ⟨b, 0, none⟩)] 81 := (gr5.block rb (by omega) (fun e => by have := (owns_lt OA rb e.symm).1; omega)).trans RA
    have I5 : Bk w5 ib #[.int .i64 i] 3 := (gr5.block ib (by omega) (fun e => by have := (owns_lt OA ib e.symm).1; omega)).trans IA
    have C5 : Bk w5 b #[sl, pl] 64 := (gr5.block b (by omega) (fun e => by have := (owns_lt OA b e.symm).1; omega)).trans CA
    have fb : w5.frozen? ⟨b, 1, none⟩ = false := C5.f 1
    have cb : w5.cell? ⟨b, 1, none⟩ = some pl := C5.c 1
    refine hK.out _ _ (KS.out _ R5 I5) (fun hH5 => ?_)
    clear hK K
    (try simp only [Act.put, List.setIfInBounds_toArray, List.set_cons_zero, List.set_cons_succ])
    refine wpAnyH_take (i := 8) (oi := { dst := some 10, op := Op.nilCheck (Operand.tmp 2), type := 0, pos := "guard.go:33", after := #[{ on := 0, ground := Ground.data }, { on := 0, ground := Ground.phase }, { on := 1, ground := Ground.phase }, { on := 2, ground := Ground.phase }, { on := 3, ground := Ground.phase }, { on := 4, ground := Ground.phase }, { on := 5, ground := Ground.phase }, { on := 6, ground := Ground.phase }, { on := 7, ground := Ground.phase }], guard := none }) (v := ?tY18) rfl (by kernel_rfl) (by kernel_rfl) (by kernel_rfl) (fun _ _ _ h => h) (Or.inl ⟨by rfl, ?uY18⟩) (by assumption) ?rY18
    case uY18 => (intro w hSw; (try dsimp only at hSw); go_simp; (try with_reducible rfl))
    simp only [Act.put, List.setIfInBounds_toArray, List.set_cons_zero, List.set_cons_succ]
    refine wpAnyH_take (i := 9) (oi := { dst := some 11, op := Op.fieldAddr 64 (Operand.tmp 10) 1, type := 0, pos := "guard.go:33", after := #[{ on := 8, ground := Ground.data }, { on := 0, ground := Ground.phase }, { on := 1, ground := Ground.phase }, { on := 2, ground := Ground.phase }, { on := 3, ground := Ground.phase }, { on := 4, ground := Ground.phase }, { on := 5, ground := Ground.phase }, { on := 6, ground := Ground.phase }, { on := 7, ground := Ground.phase }], guard := none }) (v := ?tY19) rfl (by kernel_rfl) (by kernel_rfl) (by kernel_rfl) (fun _ _ _ h => h) (Or.inl ⟨by rfl, ?uY19⟩) (by assumption) ?rY19
    case uY19 => (intro w hSw; (try dsimp only at hSw); go_simp; (try with_reducible rfl))
    simp only [Act.put, List.setIfInBounds_toArray, List.set_cons_zero, List.set_cons_succ]
    refine wpAnyH_ready (rs := [10]) (by kernel_rfl) (by simp) ?_
    refine AllReadyH.cons (o := { dst := none, op := Op.store 43 (Operand.tmp 11) (Operand.tmp 9), type := 0, pos := "guard.go:33", after := #[{ on := 9, ground := Ground.data }, { on := 7, ground := Ground.data }, { on := 7, ground := Ground.chain }, { on := 0, ground := Ground.phase }, { on := 1, ground := Ground.phase }, { on := 2, ground := Ground.phase }, { on := 3, ground := Ground.phase }, { on := 4, ground := Ground.phase }, { on := 5, ground := Ground.phase }, { on := 6, ground := Ground.phase }, { on := 7, ground := Ground.phase }], guard := none }) rfl (fun K hK => ?_) AllReadyH.nil
    go_simp
    have C6 : Bk (w5.setCell ⟨b, 1, none⟩ (.slice (some ⟨g5, 0, none⟩) (n + 1) c5)) b #[sl, .slice (some ⟨g5, 0, none⟩) (n + 1) c5] 64 := C5.set 1 _
    have R6 := R5.other ⟨b, 1, none⟩ (.slice (some ⟨g5, 0, none⟩) (n + 1) c5) (by show rb ≠ b; omega)
    have I6 := I5.other ⟨b, 1, none⟩ (.slice (some ⟨g5, 0, none⟩) (n + 1) c5) (by show ib ≠ b; omega)
    have hgb : g5 ≠ b := by rcases at5 with h | h <;> first | (have := (owns_lt OA g5 h).1; omega) | omega
    have own6 := owns_to (w' := w5.setCell ⟨b, 1, none⟩ (.slice (some ⟨g5, 0, none⟩) (n + 1) c5)) own5 (fun g hg => by have : g5 = g := Option.some.inj hg; subst this; exact Below.heap_setCell _ _ _ _ hgb)
    have Z6 : Hid (Pq w b L sl pl n ys i (w5.setCell ⟨b, 1, none⟩ (.slice (some ⟨g5, 0, none⟩) (n + 1) c5))) := by
      refine ⟨⟨_, C6, own6, ?_⟩, by have := gr5.size; simp; omega, fun g q1 q2 q3 => ?_, ?_⟩
      · rcases at5 with h | h
        · exact .inl h.symm
        · exact .inr fun g hg => by have : g5 = g := Option.some.inj hg; omega
      · exact (Below.heap_setCell _ _ _ _ q2).trans ((gr5.block g (by omega) q3).trans (BA.block g q1))
      · exact (((BA.mono (by omega)).grown gr5 (by omega) (fun k hk => by have := (owns_lt OA k hk).1; omega))).setCell (Nat.le_refl b) _
    refine hK.out _ _ (KS.out _ R6 I6) (fun hH6 => ?_)
    clear hK K
    (try simp only [Act.put, List.setIfInBounds_toArray, List.set_cons_zero, List.set_cons_succ])
    refine wpAnyH_done (by kernel_rfl) ?_ _
    clear C6 R6 I6 own6 own5 gr5 C5 R5 I5 fb cb hHeld hH5 hH6
    go_end0
    exact ⟨rfl, Z6.out⟩
  · go_simp
    refine hK.out _ _ (KS.out _ RA IA) (fun hH1 => ?_)
    clear hK K
    (try simp only [Act.put, List.setIfInBounds_toArray, List.set_cons_zero, List.set_cons_succ])
    refine wpAnyH_ready (rs := [4]) (by kernel_rfl) (by simp) ?_
    refine AllReadyH.cons (o := { dst := some 6, op := Op.load 43 (Operand.tmp 5), type := 43, pos := "guard.go:33", after := #[{ on := 3, ground := Ground.data }], guard := none }) rfl (fun K hK => ?_) AllReadyH.nil
    go_simp
    refine hK.out _ _ (KS.out _ RA IA) (fun hH2 => ?_)
    clear hK K
    (try simp only [Act.put, List.setIfInBounds_toArray, List.set_cons_zero, List.set_cons_succ])
    refine wpAnyH_ready (rs := [7]) (by kernel_rfl) (by simp) ?_
    refine AllReadyH.cons (o := { dst := some 9, op := Op.call { callee := Callee.builtin Builtin.append, args := #[Operand.tmp 6, Operand.tmp 8], argTypes := #[43, 43] }, type := 43, pos := "guard.go:33", after := #[{ on := 4, ground := Ground.data }, { on := 6, ground := Ground.data }], guard := none }) rfl (fun K hK => ?_) AllReadyH.nil
    refine step_append_lies _ rfl _ _ 43 rfl L 3 i0 (.int .i64 0) 1 8 Tryz.underlying43 hi hz0 hz1 hz2 rfl (by decide) pl n ys (by simp [Act.eval]) OA ⟨w0.heap.size, 0, none⟩ 1 1 [.int .i64 i] (by simp [Act.eval]) rfl HN.out (by intro u hu; simp at hu; subst hu; rfl) (by decide) (by unfold maxLen; omega) (by omega) (by omega) _ rfl ?_
    intro g5 c5 w5 own5 gr5 at5 lt5
    have R5 : Bk w5 rb #[.pointer (some ⟨b, 0, none⟩)] 81 := (gr5.block rb (by omega) (fun e => by have := (owns_lt OA rb e.symm).1; omega)).trans RA
    have I5 : Bk w5 ib #[.int .i64 i] 3 := (gr5.block ib (by omega) (fun e => by have := (owns_lt OA ib e.symm).1; omega)).trans IA
    have C5 : Bk w5 b #[sl, pl] 64 := (gr5.block b (by omega) (fun e => by have := (owns_lt OA b e.symm).1; omega)).trans CA
    have fb : w5.frozen? ⟨b, 1, none⟩ = false := C5.f 1
    have cb : w5.cell? ⟨b, 1, none⟩ = some pl := C5.c 1
    refine hK.out _ _ (KS.out _ R5 I5) (fun hH5 => ?_)
    clear hK K
    (try simp only [Act.put, List.setIfInBounds_toArray, List.set_cons_zero, List.set_cons_succ])
    refine wpAnyH_take (i := 8) (oi := { dst := some 10, op := Op.nilCheck (Operand.tmp 2), type := 0, pos := "guard.go:33", after := #[{ on := 0, ground := Ground.data }, { on := 0, ground := Ground.phase }, { on := 1, ground := Ground.phase }, { on := 2, ground := Ground.phase }, { on := 3, ground := Ground.phase }, { on := 4, ground := Ground.phase }, { on := 5, ground := Ground.phase }, { on := 6, ground := Ground.phase }, { on := 7, ground := Ground.phase }], guard := none }) (v := ?tY28) rfl (by kernel_rfl) (by kernel_rfl) (by kernel_rfl) (fun _ _ _ h => h) (Or.inl ⟨by rfl, ?uY28⟩) (by assumption) ?rY28
    case uY28 => (intro w hSw; (try dsimp only at hSw); go_simp; (try with_reducible rfl))
    simp only [Act.put, List.setIfInBounds_toArray, List.set_cons_zero, List.set_cons_succ]
    refine wpAnyH_take (i := 9) (oi := { dst := some 11, op := Op.fieldAddr 64 (Operand.tmp 10) 1, type := 0, pos := "guard.go:33", after := #[{ on := 8, ground := Ground.data }, { on := 0, ground := Ground.phase }, { on := 1, ground := Ground.phase }, { on := 2, ground := Ground.phase }, { on := 3, ground := Ground.phase }, { on := 4, ground := Ground.phase }, { on := 5, ground := Ground.phase }, { on := 6, ground := Ground.phase }, { on := 7, ground := Ground.phase }], guard := none }) (v := ?tY29) rfl (by kernel_rfl) (by kernel_rfl) (by kernel_rfl) (fun _ _ _ h => h) (Or.inl ⟨by rfl, ?uY29⟩) (by assumption) ?rY29
    case uY29 => (intro w hSw; (try dsimp only at hSw); go_simp; (try with_reducible rfl))
    simp only [Act.put, List.setIfInBounds_toArray, List.set_cons_zero, List.set_cons_succ]
    refine wpAnyH_ready (rs := [10]) (by kernel_rfl) (by simp) ?_
    refine AllReadyH.cons (o := { dst := none, op := Op.store 43 (Operand.tmp 11) (Operand.tmp 9), type := 0, pos := "guard.go:33", after := #[{ on := 9, ground := Ground.data }, { on := 7, ground := Ground.data }, { on := 7, ground := Ground.chain }, { on := 0, ground := Ground.phase }, { on := 1, ground := Ground.phase }, { on := 2, ground := Ground.phase }, { on := 3, ground := Ground.phase }, { on := 4, ground := Ground.phase }, { on := 5, ground := Ground.phase }, { on := 6, ground := Ground.phase }, { on := 7, ground := Ground.phase }], guard := none }) rfl (fun K hK => ?_) AllReadyH.nil
    go_simp
    have C6 : Bk (w5.setCell ⟨b, 1, none⟩ (.slice (some ⟨g5, 0, none⟩) (n + 1) c5)) b #[sl, .slice (some ⟨g5, 0, none⟩) (n + 1) c5] 64 := C5.set 1 _
    have R6 := R5.other ⟨b, 1, none⟩ (.slice (some ⟨g5, 0, none⟩) (n + 1) c5) (by show rb ≠ b; omega)
    have I6 := I5.other ⟨b, 1, none⟩ (.slice (some ⟨g5, 0, none⟩) (n + 1) c5) (by show ib ≠ b; omega)
    have hgb : g5 ≠ b := by rcases at5 with h | h <;> first | (have := (owns_lt OA g5 h).1; omega) | omega
    have own6 := owns_to (w' := w5.setCell ⟨b, 1, none⟩ (.slice (some ⟨g5, 0, none⟩) (n + 1) c5)) own5 (fun g hg => by have : g5 = g := Option.some.inj hg; subst this; exact Below.heap_setCell _ _ _ _ hgb)
    have Z6 : Hid (Pq w b L sl pl n ys i (w5.setCell ⟨b, 1, none⟩ (.slice (some ⟨g5, 0, none⟩) (n + 1) c5))) := by
      refine ⟨⟨_, C6, own6, ?_⟩, by have := gr5.size; simp; omega, fun g q1 q2 q3 => ?_, ?_⟩
      · rcases at5 with h | h
        · exact .inl h.symm
        · exact .inr fun g hg => by have : g5 = g := Option.some.inj hg; omega
      · exact (Below.heap_setCell _ _ _ _ q2).trans ((gr5.block g (by omega) q3).trans (BA.block g q1))
      · exact (((BA.mono (by omega)).grown gr5 (by omega) (fun k hk => by have := (owns_lt OA k hk).1; omega))).setCell (Nat.le_refl b) _
    refine hK.out _ _ (KS.out _ R6 I6) (fun hH6 => ?_)
    clear hK K
    (try simp only [Act.put, List.setIfInBounds_toArray, List.set_cons_zero, List.set_cons_succ])
    refine wpAnyH_done (by kernel_rfl) ?_ _
    clear C6 R6 I6 own6 own5 gr5 C5 R5 I5 fb cb hHeld hH5 hH6
    go_end0
    exact ⟨rfl, Z6.out⟩
end Go.Proofs.YthamafijjflfbaaGreat
