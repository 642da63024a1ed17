/- Swapping, putting in and taking out, of the heap's own methods; conditions: the row in memory. -/
import Derived.Test.YtblpafmcnhhdpaaHb
import Derived.Deep.AppendLies
import Derived.Great.Walk
namespace Go.Proofs.Ytblpafmcnhhdpaa
open Go.RowKit

theorem nv_swl {F : List Nat} (i j : Nat) : ((nv F).set i (.int .i64 (gt F j : Nat))).set j (.int .i64 (gt F i : Nat)) = nv (swl F i j) := by
  unfold swl nv
  rw [List.map_set, List.map_set]
theorem Hs.swap {w : World} {Wb X G g c : Nat} {v0 v1 : Value} {F : List Nat} (h : Hs w Wb X G v0 v1 F (.slice (some ⟨g, 0, none⟩) F.length c)) (hX : X ≤ g) (i j : Nat) :
    Hs ((w.setCell ⟨g, i, none⟩ (.int .i64 (gt F j : Nat))).setCell ⟨g, j, none⟩ (.int .i64 (gt F i : Nat))) Wb X G v0 v1 (swl F i j) (.slice (some ⟨g, 0, none⟩) F.length c) ∧ Fx X G Wb w ((w.setCell ⟨g, i, none⟩ (.int .i64 (gt F j : Nat))).setCell ⟨g, j, none⟩ (.int .i64 (gt F i : Nat))) := by
  have hl := h.lt
  have hng : g ≠ G := fun e => h.ng (by rw [e]; rfl)
  have r1 := World.ownsRow.stored (show w.ownsRow X 3 1 (.slice (some ⟨g, 0, none⟩) F.length c) F.length (nv F) from h.row) i (.int .i64 (gt F j : Nat))
  have r2 := r1.1.stored j (.int .i64 (gt F i : Nat))
  have gr := r1.2.trans r2.2
  refine ⟨⟨h.bk.grown gr (by intro e; have := Option.some.inj e; omega), ?_, hl, h.ng, Nat.lt_of_lt_of_le h.gs gr.size⟩, ⟨gr.os, gr.tape, gr.output, gr.size, fun k hk _ => ?_⟩⟩
  · unfold Nr
    rw [swl_len, ← nv_swl]
    exact r2.1
  · rw [Below.heap_setCell _ _ _ k (by show k ≠ g; omega), Below.heap_setCell _ _ _ k (by show k ≠ g; omega)]

set_option maxRecDepth 100000 in
set_option maxHeartbeats 2000000 in
theorem swap_any {Wb X G : Nat} {v0 v1 sv : Value} {F : List Nat} (i j : Nat) (w : World) (h : Hs w Wb X G v0 v1 F sv) (hi : i < F.length) (hj : j < F.length) : Calls Try.prog 41 #[sv, .int .i64 i, .int .i64 j] w fun e w' => e = .returned (.tuple #[]) ∧ Hs w' Wb X G v0 v1 (swl F i j) sv ∧ Fx X G Wb w w' := by
  obtain ⟨g, c, rfl, hX, hgs, cur, hcur, hcl, -, -⟩ := h.row.at (by omega)
  have h5 := h.below (w' := w.drew) ((Below.refl _ w).drew)
  have F5 : Fx X G Wb w w.drew := Fx.of ((Below.refl w.heap.size w).drew) (by omega) h.gs
  have c1 := h5.row.cell hi
  have c2 := h5.row.cell hj
  have B5 := hcur.below ((Below.refl w.heap.size w).drew)
  have cf := B5.f
  obtain ⟨y4, c4⟩ : ∃ y, (w.drew.setCell ⟨g, i, none⟩ (.int .i64 (gt F j : Nat))).cell? ⟨g, j, none⟩ = some y := by
    by_cases e : i = j
    · subst e
      exact ⟨_, World.cell?_setCell_same w.drew ⟨g, i, none⟩ _ c1⟩
    · exact ⟨_, (World.cell?_setCell_other w.drew ⟨g, i, none⟩ ⟨g, j, none⟩ _ (by simp only [ne_eq, Addr.mk.injEq, true_and, and_true]; omega)).trans c2⟩
  have NX := Lib.hid (h5.swap hX i j)
  have FX := Lib.hid F5
  have hi' : (i : Int) < (F.length : Int) := by omega
  have hj' : (j : Int) < (F.length : Int) := by omega
  have HS5 := Lib.hid h5
  clear h h5 F5 hcur B5 hcl
  go_enter Try.func41, Try.ntmps41
  go_wp2_with fail
  refine wp_region_held_drew (S := fun _ => True) (by kernel_rfl) trivial (fun hHeld => ?_)
  generalize w.drew = v4 at *
  refine wpAnyH_take (i := 0) (oi := { dst := some 6, op := Op.move (Operand.tmp 0), type := 39, pos := _, after := #[], guard := none }) (v := ?ts1) rfl (by kernel_rfl) (by kernel_rfl) (by kernel_rfl) (fun _ _ _ h => h) (Or.inl ⟨by rfl, ?us1⟩) (by assumption) ?rs1
  case us1 => (intro w hSw; (try dsimp only at hSw); go_simp; (try with_reducible rfl))
  simp only [Act.put, List.setIfInBounds_toArray, List.set_cons_zero, List.set_cons_succ]
  refine wpAnyH_take (i := 1) (oi := { dst := some 7, op := Op.move (Operand.tmp 1), type := 3, pos := _, after := #[], guard := none }) (v := ?ts2) rfl (by kernel_rfl) (by kernel_rfl) (by kernel_rfl) (fun _ _ _ h => h) (Or.inl ⟨by rfl, ?us2⟩) (by assumption) ?rs2
  case us2 => (intro w hSw; (try dsimp only at hSw); go_simp; (try with_reducible rfl))
  simp only [Act.put, List.setIfInBounds_toArray, List.set_cons_zero, List.set_cons_succ]
  refine wpAnyH_take (i := 2) (oi := { dst := some 8, op := Op.move (Operand.tmp 0), type := 39, pos := _, after := #[{ on := 13, ground := Ground.gcOnly Departure.lateStores }], guard := none }) (v := ?ts3) rfl (by kernel_rfl) (by kernel_rfl) (by kernel_rfl) (fun _ _ _ h => h) (Or.inl ⟨by rfl, ?us3⟩) (by assumption) ?rs3
  case us3 => (intro w hSw; (try dsimp only at hSw); go_simp; (try with_reducible rfl))
  simp only [Act.put, List.setIfInBounds_toArray, List.set_cons_zero, List.set_cons_succ]
  refine wpAnyH_take (i := 3) (oi := { dst := some 9, op := Op.move (Operand.tmp 2), type := 3, pos := _, after := #[{ on := 13, ground := Ground.gcOnly Departure.lateStores }], guard := none }) (v := ?ts4) rfl (by kernel_rfl) (by kernel_rfl) (by kernel_rfl) (fun _ _ _ h => h) (Or.inl ⟨by rfl, ?us4⟩) (by assumption) ?rs4
  case us4 => (intro w hSw; (try dsimp only at hSw); go_simp; (try with_reducible rfl))
  simp only [Act.put, List.setIfInBounds_toArray, List.set_cons_zero, List.set_cons_succ]
  refine wpAnyH_take (i := 4) (oi := { dst := some 10, op := Op.move (Operand.tmp 0), type := 39, pos := _, after := #[], guard := none }) (v := ?ts5) rfl (by kernel_rfl) (by kernel_rfl) (by kernel_rfl) (fun _ _ _ h => h) (Or.inl ⟨by rfl, ?us5⟩) (by assumption) ?rs5
  case us5 => (intro w hSw; (try dsimp only at hSw); go_simp; (try with_reducible rfl))
  simp only [Act.put, List.setIfInBounds_toArray, List.set_cons_zero, List.set_cons_succ]
  refine wpAnyH_take (i := 5) (oi := { dst := some 11, op := Op.move (Operand.tmp 2), type := 3, pos := _, after := #[], guard := none }) (v := ?ts6) rfl (by kernel_rfl) (by kernel_rfl) (by kernel_rfl) (fun _ _ _ h => h) (Or.inl ⟨by rfl, ?us6⟩) (by assumption) ?rs6
  case us6 => (intro w hSw; (try dsimp only at hSw); go_simp; (try with_reducible rfl))
  simp only [Act.put, List.setIfInBounds_toArray, List.set_cons_zero, List.set_cons_succ]
  refine wpAnyH_take (i := 6) (oi := { dst := some 12, op := Op.indexAddr 39 (Operand.tmp 10) (Operand.tmp 11), type := 0, pos := _, after := #[{ on := 4, ground := Ground.data }, { on := 5, ground := Ground.data }], guard := none }) (v := ?ts7) rfl (by kernel_rfl) (by kernel_rfl) (by kernel_rfl) (fun _ _ _ h => h) (Or.inl ⟨by rfl, ?us7⟩) (by assumption) ?rs7
  case us7 => (intro w hSw; (try dsimp only at hSw); go_simp; (try with_reducible rfl))
  simp only [Act.put, List.setIfInBounds_toArray, List.set_cons_zero, List.set_cons_succ]
  refine wpAnyH_take (i := 8) (oi := { dst := some 14, op := Op.move (Operand.tmp 0), type := 39, pos := _, after := #[], guard := none }) (v := ?ts8) rfl (by kernel_rfl) (by kernel_rfl) (by kernel_rfl) (fun _ _ _ h => h) (Or.inl ⟨by rfl, ?us8⟩) (by assumption) ?rs8
  case us8 => (intro w hSw; (try dsimp only at hSw); go_simp; (try with_reducible rfl))
  simp only [Act.put, List.setIfInBounds_toArray, List.set_cons_zero, List.set_cons_succ]
  refine wpAnyH_take (i := 9) (oi := { dst := some 15, op := Op.move (Operand.tmp 1), type := 3, pos := _, after := #[], guard := none }) (v := ?ts9) rfl (by kernel_rfl) (by kernel_rfl) (by kernel_rfl) (fun _ _ _ h => h) (Or.inl ⟨by rfl, ?us9⟩) (by assumption) ?rs9
  case us9 => (intro w hSw; (try dsimp only at hSw); go_simp; (try with_reducible rfl))
  simp only [Act.put, List.setIfInBounds_toArray, List.set_cons_zero, List.set_cons_succ]
  refine wpAnyH_take (i := 10) (oi := { dst := some 16, op := Op.indexAddr 39 (Operand.tmp 14) (Operand.tmp 15), type := 0, pos := _, after := #[{ on := 8, ground := Ground.data }, { on := 9, ground := Ground.data }], guard := none }) (v := ?ts10) rfl (by kernel_rfl) (by kernel_rfl) (by kernel_rfl) (fun _ _ _ h => h) (Or.inl ⟨by rfl, ?us10⟩) (by assumption) ?rs10
  case us10 => (intro w hSw; (try dsimp only at hSw); go_simp; (try with_reducible rfl))
  simp only [Act.put, List.setIfInBounds_toArray, List.set_cons_zero, List.set_cons_succ]
  refine wpAnyH_ready (rs := [7, 11]) (by kernel_rfl) (by simp) ?_
  refine AllReadyH.cons (o := { dst := some 13, op := Op.load 3 (Operand.tmp 12), type := 3, pos := _, after := #[{ on := 6, ground := Ground.data }], guard := none }) rfl (fun K hK => ?_) (AllReadyH.cons (o := { dst := some 17, op := Op.load 3 (Operand.tmp 16), type := 3, pos := _, after := #[{ on := 10, ground := Ground.data }], guard := none }) rfl (fun K hK => ?_) AllReadyH.nil)
  · go_simp
    refine hK.out _ _ trivial (fun hH1 => ?_)
    clear hK K
    (try simp only [Act.put, List.setIfInBounds_toArray, List.set_cons_zero, List.set_cons_succ])
    refine wpAnyH_ready (rs := [11]) (by kernel_rfl) (by simp) ?_
    refine AllReadyH.cons (o := { dst := some 17, op := Op.load 3 (Operand.tmp 16), type := 3, pos := _, after := #[{ on := 10, ground := Ground.data }], guard := none }) rfl (fun K hK => ?_) AllReadyH.nil
    go_simp
    refine hK.out _ _ trivial (fun hH2 => ?_)
    clear hK K
    (try simp only [Act.put, List.setIfInBounds_toArray, List.set_cons_zero, List.set_cons_succ])
    refine wpAnyH_take (i := 12) (oi := { dst := some 18, op := Op.indexAddr 39 (Operand.tmp 6) (Operand.tmp 7), type := 0, pos := _, after := #[{ on := 0, ground := Ground.data }, { on := 1, ground := Ground.data }, { on := 0, ground := Ground.phase }, { on := 1, ground := Ground.phase }, { on := 2, ground := Ground.textOnly Departure.lateStores }, { on := 3, ground := Ground.textOnly Departure.lateStores }, { on := 4, ground := Ground.phase }, { on := 5, ground := Ground.phase }, { on := 6, ground := Ground.phase }, { on := 7, ground := Ground.phase }, { on := 8, ground := Ground.textOnly Departure.lateStores }, { on := 9, ground := Ground.textOnly Departure.lateStores }, { on := 10, ground := Ground.textOnly Departure.lateStoresUnsure }, { on := 11, ground := Ground.phase }], guard := none }) (v := ?ts11) rfl (by kernel_rfl) (by kernel_rfl) (by kernel_rfl) (fun _ _ _ h => h) (Or.inl ⟨by rfl, ?us11⟩) (by assumption) ?rs11
    case us11 => (intro w hSw; (try dsimp only at hSw); go_simp; (try with_reducible rfl))
    simp only [Act.put, List.setIfInBounds_toArray, List.set_cons_zero, List.set_cons_succ]
    refine wpAnyH_ready (rs := [13]) (by kernel_rfl) (by simp) ?_
    refine AllReadyH.cons (o := { dst := none, op := Op.store 3 (Operand.tmp 18) (Operand.tmp 13), type := 0, pos := _, after := #[{ on := 12, ground := Ground.data }, { on := 7, ground := Ground.data }, { on := 0, ground := Ground.phase }, { on := 1, ground := Ground.phase }, { on := 2, ground := Ground.textOnly Departure.lateStores }, { on := 3, ground := Ground.textOnly Departure.lateStores }, { on := 4, ground := Ground.phase }, { on := 5, ground := Ground.phase }, { on := 6, ground := Ground.phase }, { on := 7, ground := Ground.phase }, { on := 8, ground := Ground.textOnly Departure.lateStores }, { on := 9, ground := Ground.textOnly Departure.lateStores }, { on := 10, ground := Ground.textOnly Departure.lateStoresUnsure }, { on := 11, ground := Ground.phase }], guard := none }) rfl (fun K hK => ?_) AllReadyH.nil
    go_simp
    refine hK.out _ _ trivial (fun hH3 => ?_)
    clear hK K
    (try simp only [Act.put, List.setIfInBounds_toArray, List.set_cons_zero, List.set_cons_succ])
    refine wpAnyH_take (i := 14) (oi := { dst := some 19, op := Op.indexAddr 39 (Operand.tmp 8) (Operand.tmp 9), type := 0, pos := _, after := #[{ on := 2, ground := Ground.data }, { on := 3, ground := Ground.data }, { on := 0, ground := Ground.phase }, { on := 1, ground := Ground.phase }, { on := 2, ground := Ground.phase }, { on := 3, ground := Ground.phase }, { on := 4, ground := Ground.phase }, { on := 5, ground := Ground.phase }, { on := 6, ground := Ground.phase }, { on := 7, ground := Ground.phase }, { on := 8, ground := Ground.phase }, { on := 9, ground := Ground.phase }, { on := 10, ground := Ground.phase }, { on := 11, ground := Ground.phase }, { on := 12, ground := Ground.phase }, { on := 13, ground := Ground.phase }], guard := none }) (v := ?ts12) rfl (by kernel_rfl) (by kernel_rfl) (by kernel_rfl) (fun _ _ _ h => h) (Or.inl ⟨by rfl, ?us12⟩) (by assumption) ?rs12
    case us12 => (intro w hSw; (try dsimp only at hSw); go_simp; (try with_reducible rfl))
    simp only [Act.put, List.setIfInBounds_toArray, List.set_cons_zero, List.set_cons_succ]
    refine wpAnyH_ready (rs := [15]) (by kernel_rfl) (by simp) ?_
    refine AllReadyH.cons (o := { dst := none, op := Op.store 3 (Operand.tmp 19) (Operand.tmp 17), type := 0, pos := _, after := #[{ on := 14, ground := Ground.data }, { on := 11, ground := Ground.data }, { on := 13, ground := Ground.chain }, { on := 0, ground := Ground.phase }, { on := 1, ground := Ground.phase }, { on := 2, ground := Ground.phase }, { on := 3, ground := Ground.phase }, { on := 4, ground := Ground.phase }, { on := 5, ground := Ground.phase }, { on := 6, ground := Ground.phase }, { on := 7, ground := Ground.phase }, { on := 8, ground := Ground.phase }, { on := 9, ground := Ground.phase }, { on := 10, ground := Ground.phase }, { on := 11, ground := Ground.phase }, { on := 12, ground := Ground.phase }, { on := 13, ground := Ground.phase }], guard := none }) rfl (fun K hK => ?_) AllReadyH.nil
    go_simp
    refine hK.out _ _ trivial (fun hH4 => ?_)
    clear hK K
    (try simp only [Act.put, List.setIfInBounds_toArray, List.set_cons_zero, List.set_cons_succ])
    refine wpAnyH_done (by kernel_rfl) ?_ _
    go_wp2_with fail
    go_end0
    exact ⟨rfl, NX.out.1, FX.out.trans NX.out.2⟩
  · go_simp
    refine hK.out _ _ trivial (fun hH5 => ?_)
    clear hK K
    (try simp only [Act.put, List.setIfInBounds_toArray, List.set_cons_zero, List.set_cons_succ])
    refine wpAnyH_ready (rs := [7]) (by kernel_rfl) (by simp) ?_
    refine AllReadyH.cons (o := { dst := some 13, op := Op.load 3 (Operand.tmp 12), type := 3, pos := _, after := #[{ on := 6, ground := Ground.data }], guard := none }) rfl (fun K hK => ?_) AllReadyH.nil
    go_simp
    refine hK.out _ _ trivial (fun hH6 => ?_)
    clear hK K
    (try simp only [Act.put, List.setIfInBounds_toArray, List.set_cons_zero, List.set_cons_succ])
    refine wpAnyH_take (i := 12) (oi := { dst := some 18, op := Op.indexAddr 39 (Operand.tmp 6) (Operand.tmp 7), type := 0, pos := _, after := #[{ on := 0, ground := Ground.data }, { on := 1, ground := Ground.data }, { on := 0, ground := Ground.phase }, { on := 1, ground := Ground.phase }, { on := 2, ground := Ground.textOnly Departure.lateStores }, { on := 3, ground := Ground.textOnly Departure.lateStores }, { on := 4, ground := Ground.phase }, { on := 5, ground := Ground.phase }, { on := 6, ground := Ground.phase }, { on := 7, ground := Ground.phase }, { on := 8, ground := Ground.textOnly Departure.lateStores }, { on := 9, ground := Ground.textOnly Departure.lateStores }, { on := 10, ground := Ground.textOnly Departure.lateStoresUnsure }, { on := 11, ground := Ground.phase }], guard := none }) (v := ?ts13) rfl (by kernel_rfl) (by kernel_rfl) (by kernel_rfl) (fun _ _ _ h => h) (Or.inl ⟨by rfl, ?us13⟩) (by assumption) ?rs13
    case us13 => (intro w hSw; (try dsimp only at hSw); go_simp; (try with_reducible rfl))
    simp only [Act.put, List.setIfInBounds_toArray, List.set_cons_zero, List.set_cons_succ]
    refine wpAnyH_ready (rs := [13]) (by kernel_rfl) (by simp) ?_
    refine AllReadyH.cons (o := { dst := none, op := Op.store 3 (Operand.tmp 18) (Operand.tmp 13), type := 0, pos := _, after := #[{ on := 12, ground := Ground.data }, { on := 7, ground := Ground.data }, { on := 0, ground := Ground.phase }, { on := 1, ground := Ground.phase }, { on := 2, ground := Ground.textOnly Departure.lateStores }, { on := 3, ground := Ground.textOnly Departure.lateStores }, { on := 4, ground := Ground.phase }, { on := 5, ground := Ground.phase }, { on := 6, ground := Ground.phase }, { on := 7, ground := Ground.phase }, { on := 8, ground := Ground.textOnly Departure.lateStores }, { on := 9, ground := Ground.textOnly Departure.lateStores }, { on := 10, ground := Ground.textOnly Departure.lateStoresUnsure }, { on := 11, ground := Ground.phase }], guard := none }) rfl (fun K hK => ?_) AllReadyH.nil
    go_simp
    refine hK.out _ _ trivial (fun hH7 => ?_)
    clear hK K
    (try simp only [Act.put, List.setIfInBounds_toArray, List.set_cons_zero, List.set_cons_succ])
    refine wpAnyH_take (i := 14) (oi := { dst := some 19, op := Op.indexAddr 39 (Operand.tmp 8) (Operand.tmp 9), type := 0, pos := _, after := #[{ on := 2, ground := Ground.data }, { on := 3, ground := Ground.data }, { on := 0, ground := Ground.phase }, { on := 1, ground := Ground.phase }, { on := 2, ground := Ground.phase }, { on := 3, ground := Ground.phase }, { on := 4, ground := Ground.phase }, { on := 5, ground := Ground.phase }, { on := 6, ground := Ground.phase }, { on := 7, ground := Ground.phase }, { on := 8, ground := Ground.phase }, { on := 9, ground := Ground.phase }, { on := 10, ground := Ground.phase }, { on := 11, ground := Ground.phase }, { on := 12, ground := Ground.phase }, { on := 13, ground := Ground.phase }], guard := none }) (v := ?ts14) rfl (by kernel_rfl) (by kernel_rfl) (by kernel_rfl) (fun _ _ _ h => h) (Or.inl ⟨by rfl, ?us14⟩) (by assumption) ?rs14
    case us14 => (intro w hSw; (try dsimp only at hSw); go_simp; (try with_reducible rfl))
    simp only [Act.put, List.setIfInBounds_toArray, List.set_cons_zero, List.set_cons_succ]
    refine wpAnyH_ready (rs := [15]) (by kernel_rfl) (by simp) ?_
    refine AllReadyH.cons (o := { dst := none, op := Op.store 3 (Operand.tmp 19) (Operand.tmp 17), type := 0, pos := _, after := #[{ on := 14, ground := Ground.data }, { on := 11, ground := Ground.data }, { on := 13, ground := Ground.chain }, { on := 0, ground := Ground.phase }, { on := 1, ground := Ground.phase }, { on := 2, ground := Ground.phase }, { on := 3, ground := Ground.phase }, { on := 4, ground := Ground.phase }, { on := 5, ground := Ground.phase }, { on := 6, ground := Ground.phase }, { on := 7, ground := Ground.phase }, { on := 8, ground := Ground.phase }, { on := 9, ground := Ground.phase }, { on := 10, ground := Ground.phase }, { on := 11, ground := Ground.phase }, { on := 12, ground := Ground.phase }, { on := 13, ground := Ground.phase }], guard := none }) rfl (fun K hK => ?_) AllReadyH.nil
    go_simp
    refine hK.out _ _ trivial (fun hH8 => ?_)
    clear hK K
    (try simp only [Act.put, List.setIfInBounds_toArray, List.set_cons_zero, List.set_cons_succ])
    refine wpAnyH_done (by kernel_rfl) ?_ _
    go_wp2_with fail
    go_end0
    exact ⟨rfl, NX.out.1, FX.out.trans NX.out.2⟩

theorem ta_int (k : Int) (w : World) : (Instr.typeAssert (.iface 3 (.int .i64 k)) 20 3 false).run Try.prog w = .ok (.int .i64 k) w := by kernel_rfl
theorem infoInt_parts : ∃ i0, Try.prog.info? 3 = some i0 ∧ i0.zero = some (.int .i64 0) ∧ i0.size = 1 ∧ i0.bytes = 8 := by
  have h := infoInt
  cases hi : Try.prog.info? 3 with
  | none => rw [hi] at h; simp at h
  | some i0 =>
    rw [hi] at h
    simp only [Option.map_some, Option.some.injEq, Prod.mk.injEq] at h
    exact ⟨i0, rfl, h.1, h.2.1, h.2.2⟩
theorem nv_app (F : List Nat) (k : Nat) : nv (F ++ [k]) = nv F ++ [.int .i64 (k : Int)] := by simp
/-- What has grown at its end, stored. -/
theorem Hs.grown {w w1 : World} {Wb X G : Nat} {v0 v1 sv : Value} {F : List Nat} (h : Hs w Wb X G v0 v1 F sv) (hX : X ≤ w.heap.size) {k gg cc : Nat} {sv2 : Value} (hsv : sv2 = .slice (some ⟨gg, 0, none⟩) (F.length + 1) cc) (own : w1.ownsRow X 3 1 sv2 (F.length + 1) (nv F ++ [.int .i64 (k : Int)])) (gr : (w.alloc (.cells #[.int .i64 (k : Int)] 3)).grownBy w1 sv.ownBlock) (at7 : sv.ownBlock = some gg ∨ gg = (w.alloc (.cells #[.int .i64 (k : Int)] 3)).heap.size) : Hs (w1.setCell ⟨Wb, 2, none⟩ sv2) Wb X G v0 v1 (F ++ [k]) sv2 ∧ Fx X G Wb w (w1.setCell ⟨Wb, 2, none⟩ sv2) ∧ Bk w1 Wb #[v0, v1, sv] 43 := by
  have hl := h.lt
  have hne := own_ne h.row hl
  have b1 := below1 w (.cells #[.int .i64 (k : Int)] 3)
  have B1 : Bk w1 Wb #[v0, v1, sv] 43 := (h.bk.below b1).grown gr hne
  refine ⟨⟨B1.set 2 sv2, ?_, hl, ?_, ?_⟩, ⟨gr.os.trans b1.os, gr.tape.trans b1.tape, gr.output.trans b1.output, ?_, fun j hj hn => ?_⟩, B1⟩
  · unfold Nr
    rw [List.length_append, nv_app]
    exact ownsRow_setCell_below own (a := ⟨Wb, 2, none⟩) hl sv2
  · subst hsv
    intro e
    obtain rfl : gg = G := Option.some.inj e
    rcases at7 with e7 | e7
    · exact h.ng e7
    · have := h.gs
      simp at e7
      omega
  · have := gr.size
    have := b1.size
    have := h.gs
    simp only [World.setCell, Array.size_modify]
    omega
  · have := gr.size
    have := b1.size
    simp only [World.setCell, Array.size_modify]
    omega
  · rw [Below.heap_setCell _ _ _ j (by show j ≠ Wb; omega)]
    have hjs : j < w.heap.size := by
      have := h.gs
      omega
    have hjn : sv.ownBlock ≠ some j := by
      rcases hj with hj | rfl
      · exact own_ne h.row hj
      · exact h.ng
    rw [gr.block j (by have := b1.size; omega) (fun e => hjn e.symm)]
    exact b1.block j hjs

set_option maxRecDepth 100000 in
set_option maxHeartbeats 2000000 in
theorem push_any {Wb X G : Nat} {v0 v1 sv : Value} {F : List Nat} (k : Nat) (w : World) (h : Hs w Wb X G v0 v1 F sv) (hX : X ≤ w.heap.size) (hF : F.length ≤ 1000) : Calls Try.prog 43 #[.pointer (some ⟨Wb, 2, none⟩), .iface 3 (.int .i64 (k : Int))] w fun e w' => e = .returned (.tuple #[]) ∧ (∃ sv', Hs w' Wb X G v0 v1 (F ++ [k]) sv') ∧ Fx X G Wb w w' := by
  have h5 := h.below (w' := w.drew) ((Below.refl _ w).drew)
  have F5 : Fx X G Wb w w.drew := Fx.of ((Below.refl w.heap.size w).drew) hX h.gs
  have X5 : X ≤ w.drew.heap.size := hX
  obtain ⟨i0, hi0, hz0, hz1, hz2⟩ := infoInt_parts
  have ta := ta_int (k : Int)
  have FX := Lib.hid F5
  have HS5 := Lib.hid h5
  clear h h5 F5 hX
  go_enter Try.func43, Try.ntmps43
  go_wp2_with fail
  refine wp_region_held_drew (S := fun _ => True) (by kernel_rfl) trivial (fun hHeld => ?_)
  generalize w.drew = v4 at *
  refine wpAnyH_take (i := 0) (oi := { dst := some 4, op := Op.move (Operand.tmp 0), type := 45, pos := _, after := #[], guard := none }) (v := ?tp1) rfl (by kernel_rfl) (by kernel_rfl) (by kernel_rfl) (fun _ _ _ h => h) (Or.inl ⟨by rfl, ?up1⟩) (by assumption) ?rp1
  case up1 => (intro w hSw; (try dsimp only at hSw); go_simp; (try with_reducible rfl))
  simp only [Act.put, List.setIfInBounds_toArray, List.set_cons_zero, List.set_cons_succ]
  refine wpAnyH_take (i := 1) (oi := { dst := some 5, op := Op.move (Operand.tmp 0), type := 45, pos := _, after := #[], guard := none }) (v := ?tp2) rfl (by kernel_rfl) (by kernel_rfl) (by kernel_rfl) (fun _ _ _ h => h) (Or.inl ⟨by rfl, ?up2⟩) (by assumption) ?rp2
  case up2 => (intro w hSw; (try dsimp only at hSw); go_simp; (try with_reducible rfl))
  simp only [Act.put, List.setIfInBounds_toArray, List.set_cons_zero, List.set_cons_succ]
  refine wpAnyH_take (i := 2) (oi := { dst := some 6, op := Op.nilCheck (Operand.tmp 5), type := 0, pos := _, after := #[{ on := 1, ground := Ground.data }], guard := none }) (v := ?tp3) rfl (by kernel_rfl) (by kernel_rfl) (by kernel_rfl) (fun _ _ _ h => h) (Or.inl ⟨by rfl, ?up3⟩) (by assumption) ?rp3
  case up3 => (intro w hSw; (try dsimp only at hSw); go_simp; (try with_reducible rfl))
  simp only [Act.put, List.setIfInBounds_toArray, List.set_cons_zero, List.set_cons_succ]
  refine wpAnyH_take (i := 3) (oi := { dst := some 7, op := Op.fieldAddr 41 (Operand.tmp 6) 0, type := 0, pos := _, after := #[{ on := 2, ground := Ground.data }], guard := none }) (v := ?tp4) rfl (by kernel_rfl) (by kernel_rfl) (by kernel_rfl) (fun _ _ _ h => h) (Or.inl ⟨by rfl, ?up4⟩) (by assumption) ?rp4
  case up4 => (intro w hSw; (try dsimp only at hSw); go_simp; (try with_reducible rfl))
  simp only [Act.put, List.setIfInBounds_toArray, List.set_cons_zero, List.set_cons_succ]
  refine wpAnyH_take (i := 5) (oi := { dst := some 9, op := Op.move (Operand.tmp 1), type := 20, pos := _, after := #[], guard := none }) (v := ?tp5) rfl (by kernel_rfl) (by kernel_rfl) (by kernel_rfl) (fun _ _ _ h => h) (Or.inl ⟨by rfl, ?up5⟩) (by assumption) ?rp5
  case up5 => (intro w hSw; (try dsimp only at hSw); go_simp; (try with_reducible rfl))
  simp only [Act.put, List.setIfInBounds_toArray, List.set_cons_zero, List.set_cons_succ]
  refine wpAnyH_take (i := 6) (oi := { dst := some 10, op := Op.typeAssert (Operand.tmp 9) 20 3 false, type := 3, pos := _, after := #[{ on := 5, ground := Ground.data }], guard := none }) (v := ?tp6) rfl (by kernel_rfl) (by kernel_rfl) (by kernel_rfl) (fun _ _ _ h => h) (Or.inl ⟨by rfl, ?up6⟩) (by assumption) ?rp6
  case up6 => (intro w hSw; (try dsimp only at hSw); go_simp; (try with_reducible rfl))
  simp only [Act.put, List.setIfInBounds_toArray, List.set_cons_zero, List.set_cons_succ]
  refine wpAnyH_ready (rs := [4, 7]) (by kernel_rfl) (by simp) ?_
  refine AllReadyH.cons (o := { dst := some 8, op := Op.load 39 (Operand.tmp 7), type := 39, pos := _, after := #[{ on := 3, ground := Ground.data }], guard := none }) rfl (fun K hK => ?_) (AllReadyH.cons (o := { dst := some 11, op := Op.buildSlice 39 1 #[(0, Operand.tmp 10)], type := 39, pos := _, after := #[{ on := 6, ground := Ground.data }], guard := none }) rfl (fun K hK => ?_) AllReadyH.nil)
  · have p0 := HS5.out.c
    go_simp
    refine hK.out _ _ trivial (fun hH9 => ?_)
    clear p0
    clear hK K
    (try simp only [Act.put, List.setIfInBounds_toArray, List.set_cons_zero, List.set_cons_succ])
    refine wpAnyH_ready (rs := [7]) (by kernel_rfl) (by simp) ?_
    refine AllReadyH.cons (o := { dst := some 11, op := Op.buildSlice 39 1 #[(0, Operand.tmp 10)], type := 39, pos := _, after := #[{ on := 6, ground := Ground.data }], guard := none }) rfl (fun K hK => ?_) AllReadyH.nil
    go_simp
    have H6 := Lib.hid (HS5.out.below (below1 v4 (.cells #[.int .i64 (k : Int)] 3)))
    refine hK.out _ _ trivial (fun hH10 => ?_)
    clear hK K
    (try simp only [Act.put, List.setIfInBounds_toArray, List.set_cons_zero, List.set_cons_succ])
    refine wpAnyH_ready (rs := [8]) (by kernel_rfl) (by simp) ?_
    refine AllReadyH.cons (o := { dst := some 12, op := Op.call { callee := Callee.builtin Builtin.append, args := #[Operand.tmp 8, Operand.tmp 11], argTypes := #[39, 39] }, type := 39, pos := _, after := #[{ on := 4, ground := Ground.data }, { on := 7, ground := Ground.data }], guard := none }) rfl (fun K hK => ?_) AllReadyH.nil
    rw [if_pos (by rfl)]
    refine wp_append_lies _ (.tmp 8) (.tmp 11) 39 rfl X 3 i0 _ 1 8 Try.underlying39 hi0 hz0 hz1 hz2 rfl (by decide) sv _ _ rfl H6.out.row ⟨v4.heap.size, 0, none⟩ 1 1 [.int .i64 (k : Int)] rfl rfl (cell_one_new _ _ _) (by intro u hu; simp at hu; subst hu; rfl) (by decide) (by unfold maxLen; omega) (by omega) (by simp; omega) _ rfl ?_
    intro gg cc w7 own7 gr7 at7 lt7
    obtain ⟨E1, E2, E3⟩ := HS5.out.grown X5 rfl own7 gr7 at7
    have E1h := Lib.hid E1
    have E2h := Lib.hid E2
    have E3h := Lib.hid E3
    clear E1 E2 E3 own7 gr7 at7 lt7
    refine hK.out _ _ trivial (fun hH11 => ?_)
    clear hK K
    (try simp only [Act.put, List.setIfInBounds_toArray, List.set_cons_zero, List.set_cons_succ])
    refine wpAnyH_take (i := 9) (oi := { dst := some 13, op := Op.nilCheck (Operand.tmp 4), type := 0, pos := _, after := #[{ on := 0, ground := Ground.data }, { on := 0, ground := Ground.phase }, { on := 1, ground := Ground.phase }, { on := 2, ground := Ground.phase }, { on := 3, ground := Ground.phase }, { on := 4, ground := Ground.phase }, { on := 5, ground := Ground.phase }, { on := 6, ground := Ground.phase }, { on := 7, ground := Ground.phase }, { on := 8, ground := Ground.phase }], guard := none }) (v := ?tp7) rfl (by kernel_rfl) (by kernel_rfl) (by kernel_rfl) (fun _ _ _ h => h) (Or.inl ⟨by rfl, ?up7⟩) (by assumption) ?rp7
    case up7 => (intro w hSw; (try dsimp only at hSw); go_simp; (try with_reducible rfl))
    simp only [Act.put, List.setIfInBounds_toArray, List.set_cons_zero, List.set_cons_succ]
    refine wpAnyH_take (i := 10) (oi := { dst := some 14, op := Op.fieldAddr 41 (Operand.tmp 13) 0, type := 0, pos := _, after := #[{ on := 9, ground := Ground.data }, { on := 0, ground := Ground.phase }, { on := 1, ground := Ground.phase }, { on := 2, ground := Ground.phase }, { on := 3, ground := Ground.phase }, { on := 4, ground := Ground.phase }, { on := 5, ground := Ground.phase }, { on := 6, ground := Ground.phase }, { on := 7, ground := Ground.phase }, { on := 8, ground := Ground.phase }], guard := none }) (v := ?tp8) rfl (by kernel_rfl) (by kernel_rfl) (by kernel_rfl) (fun _ _ _ h => h) (Or.inl ⟨by rfl, ?up8⟩) (by assumption) ?rp8
    case up8 => (intro w hSw; (try dsimp only at hSw); go_simp; (try with_reducible rfl))
    simp only [Act.put, List.setIfInBounds_toArray, List.set_cons_zero, List.set_cons_succ]
    refine wpAnyH_ready (rs := [11]) (by kernel_rfl) (by simp) ?_
    refine AllReadyH.cons (o := { dst := none, op := Op.store 39 (Operand.tmp 14) (Operand.tmp 12), type := 0, pos := _, after := #[{ on := 10, ground := Ground.data }, { on := 8, ground := Ground.data }, { on := 8, ground := Ground.chain }, { on := 0, ground := Ground.phase }, { on := 1, ground := Ground.phase }, { on := 2, ground := Ground.phase }, { on := 3, ground := Ground.phase }, { on := 4, ground := Ground.phase }, { on := 5, ground := Ground.phase }, { on := 6, ground := Ground.phase }, { on := 7, ground := Ground.phase }, { on := 8, ground := Ground.phase }], guard := none }) rfl (fun K hK => ?_) AllReadyH.nil
    have p0 := E3h.out.c 2
    have pf := E3h.out.f 2
    simp only [List.getElem?_toArray, List.getElem?_cons_succ, List.getElem?_cons_zero] at p0
    go_simp
    refine hK.out _ _ trivial (fun hH12 => ?_)
    clear p0 pf
    clear hK K
    (try simp only [Act.put, List.setIfInBounds_toArray, List.set_cons_zero, List.set_cons_succ])
    refine wpAnyH_done (by kernel_rfl) ?_ _
    go_wp2_with fail
    go_end0
    exact ⟨rfl, ⟨_, E1h.out⟩, FX.out.trans E2h.out⟩
  · go_simp
    have H6 := Lib.hid (HS5.out.below (below1 v4 (.cells #[.int .i64 (k : Int)] 3)))
    refine hK.out _ _ trivial (fun hH13 => ?_)
    clear hK K
    (try simp only [Act.put, List.setIfInBounds_toArray, List.set_cons_zero, List.set_cons_succ])
    refine wpAnyH_ready (rs := [4]) (by kernel_rfl) (by simp) ?_
    refine AllReadyH.cons (o := { dst := some 8, op := Op.load 39 (Operand.tmp 7), type := 39, pos := _, after := #[{ on := 3, ground := Ground.data }], guard := none }) rfl (fun K hK => ?_) AllReadyH.nil
    have p0 := H6.out.c
    go_simp
    refine hK.out _ _ trivial (fun hH14 => ?_)
    clear p0
    clear hK K
    (try simp only [Act.put, List.setIfInBounds_toArray, List.set_cons_zero, List.set_cons_succ])
    refine wpAnyH_ready (rs := [8]) (by kernel_rfl) (by simp) ?_
    refine AllReadyH.cons (o := { dst := some 12, op := Op.call { callee := Callee.builtin Builtin.append, args := #[Operand.tmp 8, Operand.tmp 11], argTypes := #[39, 39] }, type := 39, pos := _, after := #[{ on := 4, ground := Ground.data }, { on := 7, ground := Ground.data }], guard := none }) rfl (fun K hK => ?_) AllReadyH.nil
    rw [if_pos (by rfl)]
    refine wp_append_lies _ (.tmp 8) (.tmp 11) 39 rfl X 3 i0 _ 1 8 Try.underlying39 hi0 hz0 hz1 hz2 rfl (by decide) sv _ _ rfl H6.out.row ⟨v4.heap.size, 0, none⟩ 1 1 [.int .i64 (k : Int)] rfl rfl (cell_one_new _ _ _) (by intro u hu; simp at hu; subst hu; rfl) (by decide) (by unfold maxLen; omega) (by omega) (by simp; omega) _ rfl ?_
    intro gg cc w7 own7 gr7 at7 lt7
    obtain ⟨E1, E2, E3⟩ := HS5.out.grown X5 rfl own7 gr7 at7
    have E1h := Lib.hid E1
    have E2h := Lib.hid E2
    have E3h := Lib.hid E3
    clear E1 E2 E3 own7 gr7 at7 lt7
    refine hK.out _ _ trivial (fun hH15 => ?_)
    clear hK K
    (try simp only [Act.put, List.setIfInBounds_toArray, List.set_cons_zero, List.set_cons_succ])
    refine wpAnyH_take (i := 9) (oi := { dst := some 13, op := Op.nilCheck (Operand.tmp 4), type := 0, pos := _, after := #[{ on := 0, ground := Ground.data }, { on := 0, ground := Ground.phase }, { on := 1, ground := Ground.phase }, { on := 2, ground := Ground.phase }, { on := 3, ground := Ground.phase }, { on := 4, ground := Ground.phase }, { on := 5, ground := Ground.phase }, { on := 6, ground := Ground.phase }, { on := 7, ground := Ground.phase }, { on := 8, ground := Ground.phase }], guard := none }) (v := ?tp9) rfl (by kernel_rfl) (by kernel_rfl) (by kernel_rfl) (fun _ _ _ h => h) (Or.inl ⟨by rfl, ?up9⟩) (by assumption) ?rp9
    case up9 => (intro w hSw; (try dsimp only at hSw); go_simp; (try with_reducible rfl))
    simp only [Act.put, List.setIfInBounds_toArray, List.set_cons_zero, List.set_cons_succ]
    refine wpAnyH_take (i := 10) (oi := { dst := some 14, op := Op.fieldAddr 41 (Operand.tmp 13) 0, type := 0, pos := _, after := #[{ on := 9, ground := Ground.data }, { on := 0, ground := Ground.phase }, { on := 1, ground := Ground.phase }, { on := 2, ground := Ground.phase }, { on := 3, ground := Ground.phase }, { on := 4, ground := Ground.phase }, { on := 5, ground := Ground.phase }, { on := 6, ground := Ground.phase }, { on := 7, ground := Ground.phase }, { on := 8, ground := Ground.phase }], guard := none }) (v := ?tp10) rfl (by kernel_rfl) (by kernel_rfl) (by kernel_rfl) (fun _ _ _ h => h) (Or.inl ⟨by rfl, ?up10⟩) (by assumption) ?rp10
    case up10 => (intro w hSw; (try dsimp only at hSw); go_simp; (try with_reducible rfl))
    simp only [Act.put, List.setIfInBounds_toArray, List.set_cons_zero, List.set_cons_succ]
    refine wpAnyH_ready (rs := [11]) (by kernel_rfl) (by simp) ?_
    refine AllReadyH.cons (o := { dst := none, op := Op.store 39 (Operand.tmp 14) (Operand.tmp 12), type := 0, pos := _, after := #[{ on := 10, ground := Ground.data }, { on := 8, ground := Ground.data }, { on := 8, ground := Ground.chain }, { on := 0, ground := Ground.phase }, { on := 1, ground := Ground.phase }, { on := 2, ground := Ground.phase }, { on := 3, ground := Ground.phase }, { on := 4, ground := Ground.phase }, { on := 5, ground := Ground.phase }, { on := 6, ground := Ground.phase }, { on := 7, ground := Ground.phase }, { on := 8, ground := Ground.phase }], guard := none }) rfl (fun K hK => ?_) AllReadyH.nil
    have p0 := E3h.out.c 2
    have pf := E3h.out.f 2
    simp only [List.getElem?_toArray, List.getElem?_cons_succ, List.getElem?_cons_zero] at p0
    go_simp
    refine hK.out _ _ trivial (fun hH16 => ?_)
    clear p0 pf
    clear hK K
    (try simp only [Act.put, List.setIfInBounds_toArray, List.set_cons_zero, List.set_cons_succ])
    refine wpAnyH_done (by kernel_rfl) ?_ _
    go_wp2_with fail
    go_end0
    exact ⟨rfl, ⟨_, E1h.out⟩, FX.out.trans E2h.out⟩
set_option maxRecDepth 100000 in
set_option maxHeartbeats 2000000 in
theorem pop_any {Wb X G : Nat} {v0 v1 sv : Value} {F : List Nat} {m : Nat} (w : World) (h : Hs w Wb X G v0 v1 F sv) (hm : F.length = m + 1) (hF : F.length ≤ 1000) : Calls Try.prog 42 #[.pointer (some ⟨Wb, 2, none⟩)] w fun e w' => e = .returned (.iface 3 (.int .i64 (gt F m : Nat))) ∧ (∃ sv', Hs w' Wb X G v0 v1 (F.take m) sv') ∧ Fx X G Wb w w' := by
  obtain ⟨g, c, rfl, hX, hg, cur, hcur, hcl, hcc, hct⟩ := h.row.at (by omega)
  have c1 := h.row.cell (q := m) (by omega)
  have c0 := h.c
  have cf := h.bk.f 2
  have hl := h.lt
  have hm' : (F.length : Int) = (m : Int) + 1 := by omega
  have R2 : Nr (w.setCell ⟨Wb, 2, none⟩ (.slice (some ⟨g, 0, none⟩) m c)) X (.slice (some ⟨g, 0, none⟩) m c) (F.take m) := by
    have hb : (w.setCell ⟨Wb, 2, none⟩ (.slice (some ⟨g, 0, none⟩) m c)).heap[g]? = w.heap[g]? := Below.heap_setCell _ _ _ g (by show g ≠ Wb; omega)
    have h9 := h.row
    unfold Nr at h9 ⊢
    obtain ⟨q1, ⟨e, -⟩ | ⟨g', cap', cur', e, q2, q3, q4, q5, q6, q7⟩⟩ := h9
    · simp at e
    · simp only [Value.slice.injEq, Option.some.injEq, Addr.mk.injEq] at e
      obtain ⟨⟨rfl, -⟩, -, rfl⟩ := e
      have e3 : (F.take m).length = m := by simp; omega
      rw [e3]
      refine ⟨by simp; omega, .inr ⟨g, c, cur', rfl, q2, hb.trans q3, by omega, by omega, q6, ?_⟩⟩
      show _ = List.map _ (List.take m F)
      rw [List.map_take]
      show _ = List.take m (nv F)
      rw [← q7, List.take_take]
      congr 1
      omega
  have HR := Lib.hid (show Hs (w.setCell ⟨Wb, 2, none⟩ (.slice (some ⟨g, 0, none⟩) m c)) Wb X G v0 v1 (F.take m) (.slice (some ⟨g, 0, none⟩) m c) from ⟨h.bk.set 2 _, R2, hl, h.ng, by simpa using h.gs⟩)
  have hFx : Fx X G Wb w (w.setCell ⟨Wb, 2, none⟩ (.slice (some ⟨g, 0, none⟩) m c)) := ⟨rfl, rfl, rfl, by simp, fun k _ hn => Below.heap_setCell _ _ _ k (by show k ≠ Wb; omega)⟩
  have hcm : (m : Int) ≤ (c : Int) := by omega
  rw [hm] at c0
  clear R2 hcur hct h
  go_enter Try.func42, Try.ntmps42
  go_wp2
  go_ret
  exact ⟨rfl, ⟨_, HR.out⟩, hFx⟩
end Go.Proofs.Ytblpafmcnhhdpaa
