/- Time comes to the first tick of a slot; the conditions: the wheel, its map and the row of what has fired in memory. -/
import Derived.Test.YtignphkfknjllaaDoorWr
namespace Go.Proofs.YtignphkfknjllaaDoor
open Go.RowKit
variable {zf : Bool}

theorem Cd.begin {w w' : World} {b m T : Nat} {LL : List Tm} {q : Nat → List Tm} {mx : Nat → Bool} {ls : Nat → Int} {us us' : Nat → Nat} (h : Ws zf w b m T LL q mx ls us) {k0 L : Nat} (hk : k0 < 448) (hne : q k0 ≠ []) (hf : ∀ k, k < k0 → q k = []) {F : List Tm} {sl : Value} (fr : FR w' L F sl)
    (hw : Wl w' b m (beg T (k0 / 64) (k0 % 64)) q mx ls us') (hmp : Mp w' m (im LL)) (bt : But (fun B => OwL b m LL B ∨ L ≤ B) w w') (hus : us' = at' us (k0 / 64) (clr (us (k0 / 64)) (k0 % 64))) :
    Cd zf w b m (beg T (k0 / 64) (k0 % 64)) k0 L LL F [] (q k0) sl q mx ls us' LL w' := by
  refine ⟨hw, Jd.start h.gd hk hne hf us' (fun l hl => ?_) (fun l s hl hs => ?_) ?_, h.ma, fun hz k hk _ => h.st hz k hk, hmp, by simpa [fl] using fr, bt⟩
  · rw [hus]
    by_cases c : l = k0 / 64
    · subst c; rw [at_same]; exact clr_lt _ _
    · rw [at_other _ _ c]; exact h.gd.ul l hl
  · rw [hus]
    by_cases c : l = k0 / 64
    · subst c
      rw [at_same, clr_bit _ hs]
      congr 1
      by_cases e : k0 % 64 = s
      · have : k0 / 64 * 64 + s = k0 := by omega
        simp [e, this]
      · have : k0 / 64 * 64 + s ≠ k0 := by omega
        simp [e, this]
    · rw [at_other _ _ c]
      have : l * 64 + s ≠ k0 := by omega
      simp [this]
  · refine List.pairwise_map.2 (List.pairwise_iff_forall_sublist.2 (fun {x y} hxy e => ?_))
    obtain ⟨h1, _⟩ := h.gd.mem hk (hxy.subset (by simp) : x ∈ q k0)
    obtain ⟨h2, _⟩ := h.gd.mem hk (hxy.subset (by simp) : y ∈ q k0)
    have := nd_inj h.gd.nd h1 h2 e
    subst this
    -- x stands twice in its slot
    have hf2 : [x, x].Sublist (fl x.a LL) := by
      have e1 := h.gd.fi k0 x.a hk
      have h3 : [x, x].Sublist (fl x.a (q k0)) := by
        have := hxy.filter (fun t => t.a == x.a)
        simpa [fl] using this
      rw [e1] at h3
      by_cases c : plc T x.a = k0
      · rw [if_pos c] at h3; exact h3
      · rw [if_neg c] at h3; simp at h3
    have h4 : [x, x].Sublist LL := hf2.trans List.filter_sublist
    have h5 := (h4.map Tm.i).nodup h.gd.nd
    simp at h5

theorem fl_first {T : Nat} {q : Nat → List Tm} {us : Nat → Nat} {LL : List Tm} (g : Gd T q us LL) {k0 : Nat} (hk : k0 < 448) (hne : q k0 ≠ []) (hf : ∀ k, k < k0 → q k = []) : fl (beg T (k0 / 64) (k0 % 64)) (q k0) = fl (beg T (k0 / 64) (k0 % 64)) LL := by
  obtain ⟨_, _, _, f4, _⟩ := first_ticks g hk hne hf
  rw [g.fi k0 _ hk]
  by_cases he : fl (beg T (k0 / 64) (k0 % 64)) LL = []
  · rw [he]; simp
  · obtain ⟨t, ht⟩ := List.exists_mem_of_ne_nil _ he
    obtain ⟨h1, h2⟩ := mem_fl.1 ht
    rw [if_pos]
    rw [← h2]
    by_cases c : plc T t.a = k0
    · exact c
    · have := (f4 t h1 c).1; omega

set_option maxRecDepth 100000 in
set_option maxHeartbeats 2000000 in
theorem come_any {w : World} {b m T : Nat} {LL : List Tm} {q : Nat → List Tm} {mx : Nat → Bool} {ls : Nat → Int} {us : Nat → Nat} (h : Ws zf w b m T LL q mx ls us) {k0 L : Nat} (hk : k0 < 448) (hne : q k0 ≠ []) (hf : ∀ k, k < k0 → q k = []) {F : List Tm} {sl : Value} (fr : FR w L F sl) (hL : L ≤ w.heap.size) (hlen : F.length + LL.length ≤ 8796093022208) (hLb : ∀ B, OwL b m LL B → B < L) :
    Calls Tryd.prog 37 #[.pointer (some ⟨b, 0, none⟩), .agg #[.int .i64 (k0 / 64 : Nat), .int .i64 (k0 % 64 : Nat)], sl] w fun e w' => ∃ sl', e = .returned sl' ∧ FR w' L (F ++ fl (beg T (k0 / 64) (k0 % 64)) LL) sl' ∧ Wh zf w' b m (beg T (k0 / 64) (k0 % 64)) (LL.filter fun t => t.a != beg T (k0 / 64) (k0 % 64)) ∧ But (fun B => OwL b m LL B ∨ L ≤ B) w w' := by
  have FF := Lib.hid (fl_first h.gd hk hne hf)
  obtain ⟨ft1, ft2, _⟩ := first_ticks h.gd hk hne hf
  have hl7 : k0 / 64 < 7 := by omega
  have hs64 : k0 % 64 < 64 := by omega
  have hT := h.gd.t
  have hul := h.gd.ul _ hl7
  have H := Lib.hid h
  have FRh := Lib.hid fr
  have HF := Lib.hid (fun w' us' => @Cd.begin zf w w' b m T LL q mx ls us us' h k0 L hk hne hf F sl)
  have hb0 := hLb b (.inl rfl)
  have hbw : b < w.heap.size := by omega
  clear h hf fr
  generalize hgl : k0 / 64 = l at *
  generalize hgs : k0 % 64 = s at *
  have hkk : k0 = l * 64 + s := by omega
  clear hgl hgs
  have B1 := below1 w (.cells #[.int .i64 (l : Nat), .int .i64 (s : Nat)] 64)
  have P1 := Bk.new w #[.int .i64 (l : Nat), .int .i64 (s : Nat)] 64
  have c1 : (w.alloc (.cells #[.int .i64 (l : Nat), .int .i64 (s : Nat)] 64)).cell? ⟨b, 0, none⟩ = some (.int .i64 T) := (H.out.wl.below B1).now
  have HB := Lib.hid (begin_any b T l s _ hl7 hs64 hT c1 (by simp; omega))
  clear c1
  go_enter Tryd.func37, Tryd.ntmps37
  go_wp2_with fail
  refine HB.out.mono ?_
  rintro e w2 ⟨rfl, B2⟩
  clear HB
  have P2 := (B2.block w.heap.size P1.lt).trans P1
  have B3 := B1.trans (B2.mono B1.size)
  have s2 := B2.size
  simp only [World.size_alloc] at s2
  clear P1 B1 B2
  have W2 := H.out.wl.below B3
  have n2 : w2.cell? ⟨b, 0, none⟩ = some (.int .i64 T) := W2.now
  have fb := bk_f W2.wm.bb
  have hPb : w.heap.size ≠ b := by omega
  have hbP : b ≠ w.heap.size := by omega
  have W3 := Lib.hid (W2.time (beg T l s))
  have fb3 := fun o => (frozen_s w2 ⟨b, 0, none⟩ ⟨b, o, none⟩ (.int .i64 (beg T l s))).trans (fb o)
  have P3 : Bk (w2.setCell ⟨b, 0, none⟩ (.int .i64 (beg T l s))) w.heap.size #[.int .i64 (l : Nat), .int .i64 (s : Nat)] 64 := Bk.other P2 _ _ hPb
  have p0 : (w2.setCell ⟨b, 0, none⟩ (.int .i64 (beg T l s))).cell? ⟨w.heap.size, 0, none⟩ = some (.int .i64 (l : Nat)) := P3.c 0
  have p1 : (w2.setCell ⟨b, 0, none⟩ (.int .i64 (beg T l s))).cell? ⟨w.heap.size, 1, none⟩ = some (.int .i64 (s : Nat)) := P3.c 1
  have uu : (w2.setCell ⟨b, 0, none⟩ (.int .i64 (beg T l s))).cell? ⟨b, 1794 + l, none⟩ = some (.int .u64 (us l)) := W3.out.us l hl7
  have bt3 := Lib.hid ((But.of_below (C := fun B => B = b) B3).trans (But.set w2 ⟨b, 0, none⟩ (.int .i64 (beg T l s)) (C := fun B => B = b) rfl) (fun _ _ h => h))
  have z3 : w.heap.size < (w2.setCell ⟨b, 0, none⟩ (.int .i64 (beg T l s))).heap.size := by simp; omega
  clear W2 P2 B3
  have PH := Lib.hid P3
  clear P3
  go_wp2_with fail
  clear n2
  generalize hw3 : w2.setCell ⟨b, 0, none⟩ (.int .i64 (beg T l s)) = w3 at *
  clear hw3 fb s2
  have fb := fb3
  clear fb3
  have l1 : ((l : Nat) : Int) < 7 := by omega
  have l2 : ((s : Nat) : Int) < 64 := by omega
  generalize hgu : us l = U at *
  change w3.drew.cell? _ = _ at p0 p1 uu
  change ∀ o, w3.drew.frozen? ⟨b, o, none⟩ = _ at fb
  have LK := Lib.hid (Like.drewN w3 1)
  change Hid (Like w3 w3.drew) at LK
  refine wp_region_held_drew (S := (fun wx => wx.cell? ⟨w.heap.size, 0, none⟩ = some (.int .i64 l) ∧ wx.cell? ⟨w.heap.size, 1, none⟩ = some (.int .i64 s))) (by kernel_rfl) ⟨p0, p1⟩ (fun hHeld => ?_)
  generalize w3.drew = v3 at *
  refine wpAnyH_take (i := 0) (oi := { dst := some 15, op := Op.move (Operand.tmp 0), type := 23, pos := _, after := #[], guard := none }) (v := ?tu1) rfl (by kernel_rfl) (by kernel_rfl) (by kernel_rfl) (fun _ _ _ h => h) (Or.inl ⟨by rfl, ?uu1⟩) (by assumption) ?ru1
  case uu1 => (intro w hSw; (try dsimp only at hSw); go_simp; (try with_reducible rfl))
  simp only [Act.put, List.setIfInBounds_toArray, List.set_cons_zero, List.set_cons_succ]
  refine wpAnyH_take (i := 1) (oi := { dst := some 16, op := Op.fieldAddr 64 (Operand.tmp 4) 0, type := 0, pos := _, after := #[], guard := none }) (v := ?tu2) rfl (by kernel_rfl) (by kernel_rfl) (by kernel_rfl) (fun _ _ _ h => h) (Or.inl ⟨by rfl, ?uu2⟩) (by assumption) ?ru2
  case uu2 => (intro w hSw; (try dsimp only at hSw); go_simp; (try with_reducible rfl))
  simp only [Act.put, List.setIfInBounds_toArray, List.set_cons_zero, List.set_cons_succ]
  refine wpAnyH_take (i := 2) (oi := { dst := some 17, op := Op.load 3 (Operand.tmp 16), type := 3, pos := _, after := #[{ on := 1, ground := Ground.data }], guard := none }) (v := ?tu3) rfl (by kernel_rfl) (by kernel_rfl) (by kernel_rfl) (fun _ _ _ h => h) (Or.inl ⟨by rfl, ?uu3⟩) (by assumption) ?ru3
  case uu3 => (intro w hSw; (try dsimp only at hSw); go_simp; (try with_reducible rfl))
  simp only [Act.put, List.setIfInBounds_toArray, List.set_cons_zero, List.set_cons_succ]
  refine wpAnyH_take (i := 3) (oi := { dst := some 18, op := Op.nilCheck (Operand.tmp 15), type := 0, pos := _, after := #[{ on := 0, ground := Ground.data }], guard := none }) (v := ?tu4) rfl (by kernel_rfl) (by kernel_rfl) (by kernel_rfl) (fun _ _ _ h => h) (Or.inl ⟨by rfl, ?uu4⟩) (by assumption) ?ru4
  case uu4 => (intro w hSw; (try dsimp only at hSw); go_simp; (try with_reducible rfl))
  simp only [Act.put, List.setIfInBounds_toArray, List.set_cons_zero, List.set_cons_succ]
  refine wpAnyH_take (i := 4) (oi := { dst := some 19, op := Op.fieldAddr 58 (Operand.tmp 18) 3, type := 0, pos := _, after := #[{ on := 3, ground := Ground.data }], guard := none }) (v := ?tu5) rfl (by kernel_rfl) (by kernel_rfl) (by kernel_rfl) (fun _ _ _ h => h) (Or.inl ⟨by rfl, ?uu5⟩) (by assumption) ?ru5
  case uu5 => (intro w hSw; (try dsimp only at hSw); go_simp; (try with_reducible rfl))
  simp only [Act.put, List.setIfInBounds_toArray, List.set_cons_zero, List.set_cons_succ]
  refine wpAnyH_take (i := 5) (oi := { dst := some 20, op := Op.indexAddr 56 (Operand.tmp 19) (Operand.tmp 17), type := 0, pos := _, after := #[{ on := 4, ground := Ground.data }, { on := 2, ground := Ground.data }], guard := none }) (v := ?tu6) rfl (by kernel_rfl) (by kernel_rfl) (by kernel_rfl) (fun _ _ _ h => h) (Or.inl ⟨by rfl, ?uu6⟩) (by assumption) ?ru6
  case uu6 => (intro w hSw; (try dsimp only at hSw); go_simp; (try with_reducible rfl))
  simp only [Act.put, List.setIfInBounds_toArray, List.set_cons_zero, List.set_cons_succ]
  refine wpAnyH_take (i := 7) (oi := { dst := some 22, op := Op.fieldAddr 64 (Operand.tmp 4) 1, type := 0, pos := _, after := #[], guard := none }) (v := ?tu7) rfl (by kernel_rfl) (by kernel_rfl) (by kernel_rfl) (fun _ _ _ h => h) (Or.inl ⟨by rfl, ?uu7⟩) (by assumption) ?ru7
  case uu7 => (intro w hSw; (try dsimp only at hSw); go_simp; (try with_reducible rfl))
  simp only [Act.put, List.setIfInBounds_toArray, List.set_cons_zero, List.set_cons_succ]
  refine wpAnyH_take (i := 8) (oi := { dst := some 23, op := Op.load 3 (Operand.tmp 22), type := 3, pos := _, after := #[{ on := 7, ground := Ground.data }], guard := none }) (v := ?tu8) rfl (by kernel_rfl) (by kernel_rfl) (by kernel_rfl) (fun _ _ _ h => h) (Or.inl ⟨by rfl, ?uu8⟩) (by assumption) ?ru8
  case uu8 => (intro w hSw; (try dsimp only at hSw); go_simp; (try with_reducible rfl))
  simp only [Act.put, List.setIfInBounds_toArray, List.set_cons_zero, List.set_cons_succ]
  refine wpAnyH_take (i := 9) (oi := { dst := some 24, op := Op.binOp BinOp.shl 55 (Operand.const (Value.int IntKind.u64 1)) (Operand.tmp 23) 3, type := 55, pos := _, after := #[{ on := 8, ground := Ground.data }], guard := none }) (v := ?tu9) rfl (by kernel_rfl) (by kernel_rfl) (by kernel_rfl) (fun _ _ _ h => h) (Or.inl ⟨by rfl, ?uu9⟩) (by assumption) ?ru9
  case uu9 => (intro w hSw; (try dsimp only at hSw); go_simp; (try with_reducible rfl))
  simp only [Act.put, List.setIfInBounds_toArray, List.set_cons_zero, List.set_cons_succ]
  refine wpAnyH_take (i := 11) (oi := { dst := some 26, op := Op.nilCheck (Operand.tmp 15), type := 0, pos := _, after := #[{ on := 0, ground := Ground.data }], guard := none }) (v := ?tu10) rfl (by kernel_rfl) (by kernel_rfl) (by kernel_rfl) (fun _ _ _ h => h) (Or.inl ⟨by rfl, ?uu10⟩) (by assumption) ?ru10
  case uu10 => (intro w hSw; (try dsimp only at hSw); go_simp; (try with_reducible rfl))
  simp only [Act.put, List.setIfInBounds_toArray, List.set_cons_zero, List.set_cons_succ]
  refine wpAnyH_take (i := 12) (oi := { dst := some 27, op := Op.fieldAddr 58 (Operand.tmp 26) 3, type := 0, pos := _, after := #[{ on := 11, ground := Ground.data }], guard := none }) (v := ?tu11) rfl (by kernel_rfl) (by kernel_rfl) (by kernel_rfl) (fun _ _ _ h => h) (Or.inl ⟨by rfl, ?uu11⟩) (by assumption) ?ru11
  case uu11 => (intro w hSw; (try dsimp only at hSw); go_simp; (try with_reducible rfl))
  simp only [Act.put, List.setIfInBounds_toArray, List.set_cons_zero, List.set_cons_succ]
  refine wpAnyH_ready (rs := [6]) (by kernel_rfl) (by simp) ?_
  refine AllReadyH.cons (o := { dst := some 21, op := Op.load 55 (Operand.tmp 20), type := 55, pos := _, after := #[{ on := 5, ground := Ground.data }], guard := none }) rfl (fun K hK => ?_) AllReadyH.nil
  go_simp
  refine hK.out _ _ ⟨p0, p1⟩ (fun hH1 => ?_)
  clear hK K
  (try simp only [Act.put, List.setIfInBounds_toArray, List.set_cons_zero, List.set_cons_succ])
  refine wpAnyH_take (i := 10) (oi := { dst := some 25, op := Op.binOp BinOp.andNot 55 (Operand.tmp 21) (Operand.tmp 24) 55, type := 55, pos := _, after := #[{ on := 6, ground := Ground.data }, { on := 9, ground := Ground.data }], guard := none }) (v := ?tu12) rfl (by kernel_rfl) (by kernel_rfl) (by kernel_rfl) (fun _ _ _ h => h) (Or.inl ⟨by rfl, ?uu12⟩) (by assumption) ?ru12
  case uu12 => (intro w hSw; (try dsimp only at hSw); go_simp; (try with_reducible rfl))
  simp only [Act.put, List.setIfInBounds_toArray, List.set_cons_zero, List.set_cons_succ]
  refine wpAnyH_take (i := 13) (oi := { dst := some 28, op := Op.indexAddr 56 (Operand.tmp 27) (Operand.tmp 17), type := 0, pos := _, after := #[{ on := 12, ground := Ground.data }, { on := 2, ground := Ground.data }, { on := 0, ground := Ground.phase }, { on := 1, ground := Ground.phase }, { on := 2, ground := Ground.phase }, { on := 3, ground := Ground.phase }, { on := 4, ground := Ground.phase }, { on := 5, ground := Ground.phase }, { on := 6, ground := Ground.phase }, { on := 7, ground := Ground.phase }, { on := 8, ground := Ground.phase }, { on := 9, ground := Ground.phase }, { on := 10, ground := Ground.phase }], guard := none }) (v := ?tu13) rfl (by kernel_rfl) (by kernel_rfl) (by kernel_rfl) (fun _ _ _ h => h) (Or.inl ⟨by rfl, ?uu13⟩) (by assumption) ?ru13
  case uu13 => (intro w hSw; (try dsimp only at hSw); go_simp; (try with_reducible rfl))
  simp only [Act.put, List.setIfInBounds_toArray, List.set_cons_zero, List.set_cons_succ]
  refine wpAnyH_ready (rs := [14]) (by kernel_rfl) (by simp) ?_
  refine AllReadyH.cons (o := { dst := none, op := Op.store 55 (Operand.tmp 28) (Operand.tmp 25), type := 0, pos := _, after := #[{ on := 13, ground := Ground.data }, { on := 10, ground := Ground.data }, { on := 0, ground := Ground.phase }, { on := 1, ground := Ground.phase }, { on := 2, ground := Ground.phase }, { on := 3, ground := Ground.phase }, { on := 4, ground := Ground.phase }, { on := 5, ground := Ground.phase }, { on := 6, ground := Ground.phase }, { on := 7, ground := Ground.phase }, { on := 8, ground := Ground.phase }, { on := 9, ground := Ground.phase }, { on := 10, ground := Ground.phase }], guard := none }) rfl (fun K hK => ?_) AllReadyH.nil
  go_simp
  refine hK.out _ _ ⟨by go_simp; (try assumption), by go_simp; (try assumption)⟩ (fun hH2 => ?_)
  clear hK K
  (try simp only [Act.put, List.setIfInBounds_toArray, List.set_cons_zero, List.set_cons_succ])
  refine wpAnyH_done (by kernel_rfl) ?_ _
  rw [wrap_pow hs64, clr_bits]
  have W4 := Lib.hid ((W3.out.like LK.out).used hl7 (clr U s))
  have bt4 := Lib.hid ((bt3.out.like LK.out).trans (But.set v3 ⟨b, 1794 + l, none⟩ (.int .u64 (clr U s)) (C := fun B => B = b) rfl) (fun _ _ h => h))
  have P4 : Bk (v3.setCell ⟨b, 1794 + l, none⟩ (.int .u64 (clr U s))) w.heap.size #[.int .i64 (l : Nat), .int .i64 (s : Nat)] 64 := Bk.other (show Bk v3 _ _ _ from (by have := PH.out; unfold Bk at this ⊢; rw [LK.out.1]; exact this)) _ _ hPb
  have p0' := P4.c 0
  have p1' := P4.c 1
  have z4 : w.heap.size < (v3.setCell ⟨b, 1794 + l, none⟩ (.int .u64 (clr U s))).heap.size := by simp; rw [LK.out.1]; exact z3
  clear p0 p1 uu fb W3 bt3 PH LK hHeld z3 P4
  simp only [List.getElem?_toArray, List.getElem?_cons_zero, List.getElem?_cons_succ] at p0' p1'
  have p0 := p0'
  have p1 := p1'
  clear p0' p1'
  generalize v3.setCell ⟨b, 1794 + l, none⟩ (.int .u64 (clr U s)) = w4 at *
  have HS := Lib.hid (slotAt_any b l s w4 hl7 hs64)
  go_wp2_with fail
  refine HS.out.mono ?_
  rintro e w5 ⟨rfl, B5⟩
  clear HS p0 p1
  rw [← hkk]
  clear hkk
  have hmw := H.out.mp.lt
  have hbm : m ≠ b := (Mp.ne H.out.mp H.out.wl.wm.bb).symm
  have C5 := Lib.hid (HF.out w5 _ (FRh.out.blk (w' := w5) (fun g hg => by
    obtain ⟨g1, g2, _⟩ := FRh.out.own hg
    have := bt4.out.size
    rw [B5.block g (by omega)]
    exact bt4.out.block g g2 (fun c => by omega))) (W4.out.below B5) ((H.out.mp.blk (bt4.out.block m hmw hbm)).blk (B5.block m (by have := bt4.out.size; omega))) ((bt4.out.mono (fun k _ c => .inl (.inl c))).trans (But.of_below B5) (fun _ _ c => c)) rfl)
  clear HF W4 bt4 B5 FRh hmw hbm H
  go_wp2_with fail
  generalize hTb : beg T l s = T' at *
  have TB := Lib.hid hTb
  clear hTb
  go_loopw [2] (fun s2 wr => ∃ n, Cr zf w b m T' k0 L LL F (q k0) s2 wr n) (fun s2 wr => least (Cr zf w b m T' k0 L LL F (q k0) s2 wr))
  case atStart => exact ⟨_, [], q k0, _, _, _, _, _, rfl, rfl, C5.out⟩
  case round =>
    obtain ⟨n, hn⟩ := hrel
    obtain ⟨hmin, hle⟩ := least_is hn
    obtain ⟨d, r, q', mx', ls', us', LC, e0, elen, C⟩ := hmin
    have hbe := C.wl.wm.ls.be k0 hk
    rw [C.jd.qr] at hbe
    have LE := Lib.hid hle
    have EL := Lib.hid elen
    have E0 := Lib.hid e0
    clear hn hle elen e0 n
    cases r with
    | nil =>
      have cE : wr.cell? ⟨b, 2 + 4 * k0 + 1, none⟩ = some (.pointer none) := hbe
      have HE := Lib.hid (empty_yes b (2 + 4 * k0) wr cE)
      have CH := Lib.hid C
      clear C hbe cE
      go_wp2_with (go_at_call 42; refine HE.out.mono ?_; rintro e w9 ⟨rfl, hw9⟩; rw [hw9]; clear hw9 w9)
      go_ret
      rw [TB.out]
      obtain ⟨hc, hg⟩ := CH.out.jd.done
      have e0' : q k0 = d := by simpa using E0.out
      refine ⟨_, rfl, ?_, ⟨q', mx', ls', us', CH.out.wl, hc ▸ hg, CH.out.ma, fun hz k hk' => (by by_cases c : k = k0 <;> first | (subst c; intro _; exact .inl CH.out.jd.qr) | exact CH.out.st hz k hk' c), by rw [← hc]; exact CH.out.mp⟩, CH.out.bt⟩
      rw [← FF.out, e0']; exact CH.out.fr
    | cons u r =>
      have cE : wr.cell? ⟨b, 2 + 4 * k0 + 1, none⟩ = some (.pointer (some ⟨u.b, 0, none⟩)) := hbe
      have HE := Lib.hid (empty_no b (2 + 4 * k0) u.b wr cE)
      have HL := Lib.hid (slotleave_any C.wl.wm hk [] u r C.jd.qr (ls' k0) (C.wl.c3 k0 hk))
      have CH := Lib.hid C
      have hbr := C.wl.lt (.inl rfl)
      clear C hbe
      go_wp2_with (first | (go_at_call 42; refine HE.out.mono ?_; rintro e w9 ⟨rfl, hw9⟩; rw [hw9]; clear hw9 w9) | (go_at_call 41; refine HL.out.mono ?_; rintro e w1 ⟨rfl, z⟩; have a2 : w1.cell? ⟨u.b, 2, none⟩ = some (.int .i64 u.a) := (z.tm 2).trans CH.out.cells.2.2.1; have a0 : w1.cell? ⟨b, 0, none⟩ = some (.int .i64 T') := (CH.out.wll z).now; have Z := Lib.hid z; clear z HL HE cE))
      have hlo := CH.out.jd.lo u (CH.out.jd.rl u (by simp))
      have hul' := CH.out.jd.rl u (by simp)
      by_cases hlt : T' < u.a
      · have hlt' : ((T' : Nat) : Int) < ((u.a : Nat) : Int) := by omega
        have HPT := Lib.hid (fun nq => wput_any ((CH.out.wll Z.out).like (Like.drewN w1 nq)) u (pt none) (pt (r.head?.map Tm.b)) CH.out.jd.t hlo.2 CH.out.jd.ul (Z.out.kp.bk _ _ CH.out.cells.2.2.2.2) ((Z.out.tm 0).trans CH.out.cells.1) ((Z.out.tm 1).trans CH.out.cells.2.1) ((Z.out.tm 2).trans CH.out.cells.2.2.1) ((Z.out.tm 3).trans CH.out.cells.2.2.2.1) CH.out.fresh)
        go_quiet (fail)
        go_wp2_with (go_at_call 32; refine (HPT.out _).mono ?_; rintro e w3 ⟨rfl, W3, B3⟩)
        have C2 := CH.out.down hLb hlt Z.out W3 ⟨B3.os, B3.tape, B3.output, B3.size, B3.block⟩
        refine ⟨⟨r.length, d ++ [u], r, _, _, _, _, _, by rw [E0.out]; simp, rfl, C2⟩, ?_⟩
        have h9 := (least_is (P := Cr zf w b m T' k0 L LL F (q k0) u2 w3) (n := r.length) ⟨d ++ [u], r, _, _, _, _, _, by rw [E0.out]; simp, rfl, C2⟩).2 r.length ⟨d ++ [u], r, _, _, _, _, _, by rw [E0.out]; simp, rfl, C2⟩
        have h8 := EL.out
        rw [List.length_cons] at h8
        omega
      · have hlt' : ¬ ((T' : Nat) : Int) < ((u.a : Nat) : Int) := by omega
        have HUE : Hid (u.a = T') := Lib.hid (by omega)
        go_quiet (fail)
        go_wp2_with fail
        have LK1 := Lib.hid (Like.drewN w1 (nq + 1))
        change Hid (Like w1 (w1.drewN nq).drew) at LK1
        have a1 : w1.cell? ⟨b, 1, none⟩ = some (.map (some m)) := (CH.out.wll Z.out).mp
        have a3 : w1.cell? ⟨u.b, 3, none⟩ = some (.int .i64 u.i) := (Z.out.tm 3).trans CH.out.cells.2.2.2.1
        have hum : u.b ≠ m := CH.out.mp.ne CH.out.cells.2.2.2.2
        have hbm : b ≠ m := CH.out.mp.ne CH.out.wl.wm.bb
        have MP : Hid (Mp (w1.drewN nq).drew m (im LC)) := Lib.hid ((CH.out.mpb Z.out).blk rfl)
        have ND : Hid (((im LC).map (·.1)).Nodup) := Lib.hid (by rw [im_fst, CH.out.jd.lc]; exact (List.filter_sublist.map Tm.i).nodup CH.out.jd.nd)
        have hsz : u.b < (w1.drewN nq).drew.heap.size := bk_lt (Z.out.kp.bk _ _ CH.out.cells.2.2.2.2)
        have hbz : b < (w1.drewN nq).drew.heap.size := bk_lt (CH.out.wll Z.out).wm.bb
        have hLz : L ≤ (w1.drewN nq).drew.heap.size := by
          have h1 := CH.out.bt.size
          have h2 := Z.out.kp.but.size
          show L ≤ w1.heap.size
          omega
        have huL : u.b < L := hLb u.b (.inr (.inr ⟨u, hul', rfl⟩))
        have FRf : Hid (∀ w5, (w1.drewN nq).drew.grownBy w5 (some m) → FR w5 L (F ++ fl T' d) u2) := Lib.hid (fun w5 g5 => CH.out.frb hLb ((Z.out.kp.but.mono (C' := OwL b m LL) (fun k _ c => CH.out.jd.own c)).like LK1.out |>.trans (But.grown (C := OwL b m LL) g5 (fun k e _ => by cases e; exact .inr (.inl rfl))) (fun _ _ c => c)) (fun _ c => c))
        have hlen' : (F ++ fl T' d).length + 1 ≤ 8796093022208 := by
          have h1 : (fl T' (d ++ u :: r)).length ≤ LL.length := by
            rw [← E0.out, FF.out]; exact List.length_filter_le _ _
          rw [fl_app, fl_cons_same r HUE.out] at h1
          simp at h1 ⊢
          omega
        change (w1.drewN nq).drew.cell? _ = _ at a1 a2 a3
        clear a0 hlt hlt'
        refine wp_region_held_drew (S := (fun wx => wx.cell? ⟨b, 1, none⟩ = some (.map (some m)) ∧ wx.cell? ⟨u.b, 3, none⟩ = some (.int .i64 u.i))) (by kernel_rfl) ⟨a1, a3⟩ (fun hHeld9 => ?_)
        generalize (w1.drewN nq).drew = v1 at *
        refine wpAnyH_take (i := 0) (oi := { dst := some 55, op := Op.move (Operand.tmp 0), type := 23, pos := _, after := #[], guard := none }) (v := ?tx1) rfl (by kernel_rfl) (by kernel_rfl) (by kernel_rfl) (fun _ _ _ h => h) (Or.inl ⟨by rfl, ?ux1⟩) (by assumption) ?rx1
        case ux1 => (intro w hSw; (try dsimp only at hSw); go_simp; (try with_reducible rfl))
        simp only [Act.put, List.setIfInBounds_toArray, List.set_cons_zero, List.set_cons_succ]
        refine wpAnyH_take (i := 1) (oi := { dst := some 56, op := Op.nilCheck (Operand.tmp 55), type := 0, pos := _, after := #[{ on := 0, ground := Ground.data }], guard := none }) (v := ?tx2) rfl (by kernel_rfl) (by kernel_rfl) (by kernel_rfl) (fun _ _ _ h => h) (Or.inl ⟨by rfl, ?ux2⟩) (by assumption) ?rx2
        case ux2 => (intro w hSw; (try dsimp only at hSw); go_simp; (try with_reducible rfl))
        simp only [Act.put, List.setIfInBounds_toArray, List.set_cons_zero, List.set_cons_succ]
        refine wpAnyH_take (i := 2) (oi := { dst := some 57, op := Op.fieldAddr 58 (Operand.tmp 56) 1, type := 0, pos := _, after := #[{ on := 1, ground := Ground.data }], guard := none }) (v := ?tx3) rfl (by kernel_rfl) (by kernel_rfl) (by kernel_rfl) (fun _ _ _ h => h) (Or.inl ⟨by rfl, ?ux3⟩) (by assumption) ?rx3
        case ux3 => (intro w hSw; (try dsimp only at hSw); go_simp; (try with_reducible rfl))
        simp only [Act.put, List.setIfInBounds_toArray, List.set_cons_zero, List.set_cons_succ]
        refine wpAnyH_take (i := 3) (oi := { dst := some 58, op := Op.load 47 (Operand.tmp 57), type := 47, pos := _, after := #[{ on := 2, ground := Ground.data }], guard := none }) (v := ?tx4) rfl (by kernel_rfl) (by kernel_rfl) (by kernel_rfl) (fun _ _ _ h => h) (Or.inl ⟨by rfl, ?ux4⟩) (by assumption) ?rx4
        case ux4 => (intro w hSw; (try dsimp only at hSw); go_simp; (try with_reducible rfl))
        simp only [Act.put, List.setIfInBounds_toArray, List.set_cons_zero, List.set_cons_succ]
        refine wpAnyH_take (i := 4) (oi := { dst := some 59, op := Op.move (Operand.tmp 8), type := 48, pos := _, after := #[], guard := none }) (v := ?tx5) rfl (by kernel_rfl) (by kernel_rfl) (by kernel_rfl) (fun _ _ _ h => h) (Or.inl ⟨by rfl, ?ux5⟩) (by assumption) ?rx5
        case ux5 => (intro w hSw; (try dsimp only at hSw); go_simp; (try with_reducible rfl))
        simp only [Act.put, List.setIfInBounds_toArray, List.set_cons_zero, List.set_cons_succ]
        refine wpAnyH_take (i := 5) (oi := { dst := some 60, op := Op.nilCheck (Operand.tmp 59), type := 0, pos := _, after := #[{ on := 4, ground := Ground.data }], guard := none }) (v := ?tx6) rfl (by kernel_rfl) (by kernel_rfl) (by kernel_rfl) (fun _ _ _ h => h) (Or.inl ⟨by rfl, ?ux6⟩) (by assumption) ?rx6
        case ux6 => (intro w hSw; (try dsimp only at hSw); go_simp; (try with_reducible rfl))
        simp only [Act.put, List.setIfInBounds_toArray, List.set_cons_zero, List.set_cons_succ]
        refine wpAnyH_take (i := 6) (oi := { dst := some 61, op := Op.fieldAddr 71 (Operand.tmp 60) 2, type := 0, pos := _, after := #[{ on := 5, ground := Ground.data }], guard := none }) (v := ?tx7) rfl (by kernel_rfl) (by kernel_rfl) (by kernel_rfl) (fun _ _ _ h => h) (Or.inl ⟨by rfl, ?ux7⟩) (by assumption) ?rx7
        case ux7 => (intro w hSw; (try dsimp only at hSw); go_simp; (try with_reducible rfl))
        simp only [Act.put, List.setIfInBounds_toArray, List.set_cons_zero, List.set_cons_succ]
        refine wpAnyH_take (i := 7) (oi := { dst := some 62, op := Op.load 2 (Operand.tmp 61), type := 2, pos := _, after := #[{ on := 6, ground := Ground.data }], guard := none }) (v := ?tx8) rfl (by kernel_rfl) (by kernel_rfl) (by kernel_rfl) (fun _ _ _ h => h) (Or.inl ⟨by rfl, ?ux8⟩) (by assumption) ?rx8
        case ux8 => (intro w hSw; (try dsimp only at hSw); go_simp; (try with_reducible rfl))
        simp only [Act.put, List.setIfInBounds_toArray, List.set_cons_zero, List.set_cons_succ]
        refine wpAnyH_ready (rs := [8]) (by kernel_rfl) (by simp) ?_
        refine AllReadyH.cons (o := { dst := none, op := Op.call { callee := Callee.builtin Builtin.delete, args := #[Operand.tmp 58, Operand.tmp 62], argTypes := #[47, 2] }, type := 0, pos := _, after := #[{ on := 3, ground := Ground.data }, { on := 7, ground := Ground.data }], guard := none }) rfl (fun K hK => ?_) AllReadyH.nil
        rw [if_pos (by rfl)]
        refine wp_del (.tmp 58) (.tmp 62) rfl m u.i (im LC) rfl rfl MP.out ND.out ?_
        intro w5 m5 g5 z5
        have hb5 := g5.block u.b (by omega) (fun e => hum (Option.some.inj e))
        have i2 : w5.cell? ⟨u.b, 2, none⟩ = some (.int .i64 u.a) := (mem_blk hb5 2).trans a2
        have i3 : w5.cell? ⟨u.b, 3, none⟩ = some (.int .i64 u.i) := (mem_blk hb5 3).trans a3
        have i1 : w5.cell? ⟨b, 1, none⟩ = some (.map (some m)) := (mem_blk (g5.block b (by omega) (fun e => hbm (Option.some.inj e))) 1).trans a1
        refine hK.out _ _ ⟨i1, i3⟩ (fun hH9 => ?_)
        clear hK K
        (try simp only [Act.put])
        refine wpAnyH_done (by kernel_rfl) ?_ _
        go_wp2_with fail
        change w5.drew.cell? _ = _ at i2 i3
        have FR5 := Lib.hid (FRf.out w5 g5)
        have GG := Lib.hid g5
        have MM := Lib.hid m5
        have z5d : v1.heap.size ≤ w5.drew.heap.size := Nat.le_of_eq z5.symm
        change Hid (FR w5.drew _ _ _) at FR5
        have L5 := Lib.hid (Like.drewN w5 1)
        change Hid (Like w5 w5.drew) at L5
        clear a1 a2 a3 i1 m5 g5 hb5 z5
        refine wp_region_held_drew (S := (fun wx => wx.cell? ⟨u.b, 2, none⟩ = some (.int .i64 u.a) ∧ wx.cell? ⟨u.b, 3, none⟩ = some (.int .i64 u.i))) (by kernel_rfl) ⟨i2, i3⟩ (fun hHeld10 => ?_)
        generalize w5.drew = v5 at *
        refine wpAnyH_take (i := 0) (oi := { dst := some 63, op := Op.move (Operand.tmp 2), type := 35, pos := _, after := #[], guard := none }) (v := ?ty1) rfl (by kernel_rfl) (by kernel_rfl) (by kernel_rfl) (fun _ _ _ h => h) (Or.inl ⟨by rfl, ?uy1⟩) (by assumption) ?ry1
        case uy1 => (intro w hSw; (try dsimp only at hSw); go_simp; (try with_reducible rfl))
        simp only [Act.put, List.setIfInBounds_toArray, List.set_cons_zero, List.set_cons_succ]
        refine wpAnyH_take (i := 1) (oi := { dst := some 64, op := Op.move (Operand.tmp 8), type := 48, pos := _, after := #[], guard := none }) (v := ?ty2) rfl (by kernel_rfl) (by kernel_rfl) (by kernel_rfl) (fun _ _ _ h => h) (Or.inl ⟨by rfl, ?uy2⟩) (by assumption) ?ry2
        case uy2 => (intro w hSw; (try dsimp only at hSw); go_simp; (try with_reducible rfl))
        simp only [Act.put, List.setIfInBounds_toArray, List.set_cons_zero, List.set_cons_succ]
        refine wpAnyH_take (i := 2) (oi := { dst := some 65, op := Op.nilCheck (Operand.tmp 64), type := 0, pos := _, after := #[{ on := 1, ground := Ground.data }], guard := none }) (v := ?ty3) rfl (by kernel_rfl) (by kernel_rfl) (by kernel_rfl) (fun _ _ _ h => h) (Or.inl ⟨by rfl, ?uy3⟩) (by assumption) ?ry3
        case uy3 => (intro w hSw; (try dsimp only at hSw); go_simp; (try with_reducible rfl))
        simp only [Act.put, List.setIfInBounds_toArray, List.set_cons_zero, List.set_cons_succ]
        refine wpAnyH_take (i := 3) (oi := { dst := some 66, op := Op.fieldAddr 71 (Operand.tmp 65) 1, type := 0, pos := _, after := #[{ on := 2, ground := Ground.data }], guard := none }) (v := ?ty4) rfl (by kernel_rfl) (by kernel_rfl) (by kernel_rfl) (fun _ _ _ h => h) (Or.inl ⟨by rfl, ?uy4⟩) (by assumption) ?ry4
        case uy4 => (intro w hSw; (try dsimp only at hSw); go_simp; (try with_reducible rfl))
        simp only [Act.put, List.setIfInBounds_toArray, List.set_cons_zero, List.set_cons_succ]
        refine wpAnyH_take (i := 4) (oi := { dst := some 67, op := Op.load 2 (Operand.tmp 66), type := 2, pos := _, after := #[{ on := 3, ground := Ground.data }], guard := none }) (v := ?ty5) rfl (by kernel_rfl) (by kernel_rfl) (by kernel_rfl) (fun _ _ _ h => h) (Or.inl ⟨by rfl, ?uy5⟩) (by assumption) ?ry5
        case uy5 => (intro w hSw; (try dsimp only at hSw); go_simp; (try with_reducible rfl))
        simp only [Act.put, List.setIfInBounds_toArray, List.set_cons_zero, List.set_cons_succ]
        refine wpAnyH_take (i := 5) (oi := { dst := some 68, op := Op.move (Operand.tmp 8), type := 48, pos := _, after := #[], guard := none }) (v := ?ty6) rfl (by kernel_rfl) (by kernel_rfl) (by kernel_rfl) (fun _ _ _ h => h) (Or.inl ⟨by rfl, ?uy6⟩) (by assumption) ?ry6
        case uy6 => (intro w hSw; (try dsimp only at hSw); go_simp; (try with_reducible rfl))
        simp only [Act.put, List.setIfInBounds_toArray, List.set_cons_zero, List.set_cons_succ]
        refine wpAnyH_take (i := 6) (oi := { dst := some 69, op := Op.nilCheck (Operand.tmp 68), type := 0, pos := _, after := #[{ on := 5, ground := Ground.data }], guard := none }) (v := ?ty7) rfl (by kernel_rfl) (by kernel_rfl) (by kernel_rfl) (fun _ _ _ h => h) (Or.inl ⟨by rfl, ?uy7⟩) (by assumption) ?ry7
        case uy7 => (intro w hSw; (try dsimp only at hSw); go_simp; (try with_reducible rfl))
        simp only [Act.put, List.setIfInBounds_toArray, List.set_cons_zero, List.set_cons_succ]
        refine wpAnyH_take (i := 7) (oi := { dst := some 70, op := Op.fieldAddr 71 (Operand.tmp 69) 2, type := 0, pos := _, after := #[{ on := 6, ground := Ground.data }], guard := none }) (v := ?ty8) rfl (by kernel_rfl) (by kernel_rfl) (by kernel_rfl) (fun _ _ _ h => h) (Or.inl ⟨by rfl, ?uy8⟩) (by assumption) ?ry8
        case uy8 => (intro w hSw; (try dsimp only at hSw); go_simp; (try with_reducible rfl))
        simp only [Act.put, List.setIfInBounds_toArray, List.set_cons_zero, List.set_cons_succ]
        refine wpAnyH_take (i := 8) (oi := { dst := some 71, op := Op.load 2 (Operand.tmp 70), type := 2, pos := _, after := #[{ on := 7, ground := Ground.data }], guard := none }) (v := ?ty9) rfl (by kernel_rfl) (by kernel_rfl) (by kernel_rfl) (fun _ _ _ h => h) (Or.inl ⟨by rfl, ?uy9⟩) (by assumption) ?ry9
        case uy9 => (intro w hSw; (try dsimp only at hSw); go_simp; (try with_reducible rfl))
        simp only [Act.put, List.setIfInBounds_toArray, List.set_cons_zero, List.set_cons_succ]
        refine wpAnyH_take (i := 9) (oi := { dst := some 72, op := Op.build 45 #[(0, Operand.tmp 67), (1, Operand.tmp 71)], type := 45, pos := _, after := #[{ on := 4, ground := Ground.data }, { on := 8, ground := Ground.data }], guard := none }) (v := ?ty10) rfl (by kernel_rfl) (by kernel_rfl) (by kernel_rfl) (fun _ _ _ h => h) (Or.inl ⟨by rfl, ?uy10⟩) (by assumption) ?ry10
        case uy10 => (intro w hSw; (try dsimp only at hSw); go_simp; (try with_reducible rfl))
        simp only [Act.put, List.setIfInBounds_toArray, List.set_cons_zero, List.set_cons_succ]
        refine wpAnyH_ready (rs := [10]) (by kernel_rfl) (by simp) ?_
        refine AllReadyH.cons (o := { dst := some 73, op := Op.buildSlice 35 1 #[(0, Operand.tmp 72)], type := 35, pos := _, after := #[{ on := 9, ground := Ground.data }], guard := none }) rfl (fun K hK => ?_) AllReadyH.nil
        go_simp
        have bY := below1 v5 (.cells #[.int .i64 u.a, .int .i64 u.i] 45)
        have kY := Bk.new v5 #[.int .i64 u.a, .int .i64 u.i] 45
        have FR6 := Lib.hid (FR5.out.blk (fun g hg => bY.block g (FR5.out.own hg).2.1))
        have j2 : (v5.alloc (.cells #[.int .i64 u.a, .int .i64 u.i] 45)).cell? ⟨u.b, 2, none⟩ = some (.int .i64 u.a) := (mem_blk (bY.block u.b (by omega)) 2).trans i2
        have j3 : (v5.alloc (.cells #[.int .i64 u.a, .int .i64 u.i] 45)).cell? ⟨u.b, 3, none⟩ = some (.int .i64 u.i) := (mem_blk (bY.block u.b (by omega)) 3).trans i3
        have zY : (v5.alloc (.cells #[.int .i64 u.a, .int .i64 u.i] 45)).heap.size = v5.heap.size + 1 := by simp
        generalize hY : v5.heap.size = Y at *
        generalize v5.alloc (.cells #[.int .i64 u.a, .int .i64 u.i] 45) = v6 at *
        refine hK.out _ _ ⟨j2, j3⟩ (fun hHa => ?_)
        clear hK K
        (try simp only [Act.put, List.setIfInBounds_toArray, List.set_cons_zero, List.set_cons_succ])
        refine wpAnyH_ready (rs := [11]) (by kernel_rfl) (by simp) ?_
        refine AllReadyH.cons (o := { dst := some 74, op := Op.call { callee := Callee.builtin Builtin.append, args := #[Operand.tmp 63, Operand.tmp 73], argTypes := #[35, 35] }, type := 35, pos := _, after := #[{ on := 0, ground := Ground.data }, { on := 10, ground := Ground.data }], guard := none }) rfl (fun K hK => ?_) AllReadyH.nil
        rw [if_pos (by rfl)]
        refine wp_fr (.tmp 63) (.tmp 73) rfl L (F ++ fl T' d) u2 rfl FR6.out Y u rfl kY hlen' (by omega) ?_
        intro sl7 w7 f7 g7
        have hb7 := g7.block u.b (by omega) (fun e => by have := (FR6.out.own e.symm).1; omega)
        refine hK.out _ _ ⟨(mem_blk hb7 2).trans j2, (mem_blk hb7 3).trans j3⟩ (fun hHb => ?_)
        clear hK K
        (try simp only [Act.put, List.setIfInBounds_toArray, List.set_cons_zero, List.set_cons_succ])
        refine wpAnyH_take (i := 12) (oi := { dst := some 2, op := Op.assign (Operand.tmp 74), type := 35, pos := _, after := #[{ on := 11, ground := Ground.data }, { on := 11, ground := Ground.chain }, { on := 0, ground := Ground.phase }, { on := 1, ground := Ground.phase }, { on := 2, ground := Ground.phase }, { on := 3, ground := Ground.phase }, { on := 4, ground := Ground.phase }, { on := 5, ground := Ground.phase }, { on := 6, ground := Ground.phase }, { on := 7, ground := Ground.phase }, { on := 8, ground := Ground.phase }, { on := 9, ground := Ground.phase }, { on := 10, ground := Ground.phase }, { on := 11, ground := Ground.phase }], guard := none }) (v := ?ty11) rfl (by kernel_rfl) (by kernel_rfl) (by kernel_rfl) (fun _ _ _ h => h) (Or.inl ⟨by rfl, ?uy11⟩) (by assumption) ?ry11
        case uy11 => (intro w hSw; (try dsimp only at hSw); go_simp; (try with_reducible rfl))
        simp only [Act.put, List.setIfInBounds_toArray, List.set_cons_zero, List.set_cons_succ]
        refine wpAnyH_done (by kernel_rfl) ?_ _
        go_wp2_with fail
        have b6 : But (fun B => L ≤ B) v5 v6 := But.of_below (by rw [hY]; exact bY)
        have b7 : But (fun B => L ≤ B) w5 w7 := ((But.refl _ w5).like L5.out).trans (b6.trans (But.grown (C := fun B => L ≤ B) g7 (fun k e _ => (FR6.out.own e).1)) (fun _ _ c => c)) (fun _ _ c => c)
        have C2 := CH.out.fire hLb HUE.out Z.out LK1.out MM.out GG.out f7 b7
        refine ⟨⟨r.length, d ++ [u], r, _, _, _, _, _, by rw [E0.out]; simp, rfl, C2⟩, ?_⟩
        have h9 := (least_is (P := Cr zf w b m T' k0 L LL F (q k0) sl7 w7) (n := r.length) ⟨d ++ [u], r, _, _, _, _, _, by rw [E0.out]; simp, rfl, C2⟩).2 r.length ⟨d ++ [u], r, _, _, _, _, _, by rw [E0.out]; simp, rfl, C2⟩
        have h8 := EL.out
        rw [List.length_cons] at h8
        omega
end Go.Proofs.YtignphkfknjllaaDoor
