/- What sinks in a heap; the conditions: the row in memory, the closure's box. -/
import Derived.Test.YtdgjhclncjoonaaQc
import Derived.Deep.RegionHeld3
namespace Go.Proofs.Ytdgjhclncjoonaa
open Go.RowKit

/-- Between two worlds only block A was written. -/
structure Ke (A : Nat) (w w' : World) : Prop where
  os : w'.os = w.os
  tape : w'.tape = w.tape
  output : w'.output = w.output
  size : w.heap.size ≤ w'.heap.size
  block : ∀ k, k < w.heap.size → k ≠ A → w'.heap[k]? = w.heap[k]?
theorem Ke.refl (A : Nat) (w : World) : Ke A w w := ⟨rfl, rfl, rfl, Nat.le_refl _, fun _ _ _ => rfl⟩
theorem Ke.of {A : Nat} {w w' : World} (h : Below w.heap.size w w') : Ke A w w' := ⟨h.os, h.tape, h.output, h.size, fun k hk _ => h.block k hk⟩
theorem Ke.trans {A : Nat} {a b c : World} (h : Ke A a b) (k : Ke A b c) : Ke A a c :=
  ⟨k.os.trans h.os, k.tape.trans h.tape, k.output.trans h.output, Nat.le_trans h.size k.size, fun i hi hn => (k.block i (Nat.lt_of_lt_of_le hi h.size) hn).trans (h.block i hi hn)⟩
theorem Ke.below {A L : Nat} {a b c : World} (h : Below L a b) (k : Ke A b c) (hL : L ≤ A) (hs : L ≤ b.heap.size) : Below L a c :=
  ⟨k.os.trans h.os, k.tape.trans h.tape, k.output.trans h.output, Nat.le_trans h.size k.size, fun i hi => (k.block i (by omega) (by omega)).trans (h.block i hi)⟩
theorem Ke.set {A : Nat} {w w' : World} (h : Ke A w w') (o : Nat) (v : Value) : Ke A w (w'.setCell ⟨A, o, none⟩ v) :=
  h.trans ⟨rfl, rfl, rfl, by simp, fun k _ hk => Below.heap_setCell _ _ _ _ hk⟩
theorem Ke.drew {A : Nat} {w w' : World} (h : Ke A w w') : Ke A w w'.drew := ⟨h.os, h.tape, h.output, h.size, h.block⟩
theorem Hm.ke {w w' : World} {A n G : Nat} {up : Bool} {f f' : Nat → Int × Int} (h : Hm w A n G up f) (k : Ke A w w') (q : Pq w' A n f') : Hm w' A n G up f' :=
  ⟨q, (World.cell?_of_block (w := w) (a := ⟨G, 0, none⟩) (k.block G h.l h.ne)).trans h.g, Nat.lt_of_lt_of_le h.l k.size, h.ne⟩
/-- Two pairs swapped. -/
theorem Pq.swap {w : World} {A n : Nat} {f : Nat → Int × Int} (h : Pq w A n f) (i j : Nat) (hi : i < n) (hj : j < n) (hne : i ≠ j) : Pq ((((w.setCell ⟨A, i * 2, none⟩ (.int .i64 (f j).1)).setCell ⟨A, i * 2 + 1, none⟩ (.int .i64 (f j).2)).setCell ⟨A, j * 2, none⟩ (.int .i64 (f i).1)).setCell ⟨A, j * 2 + 1, none⟩ (.int .i64 (f i).2)) A n (swp f i j) := by
  have h1 := (h.set i hi (f j)).set j hj (f i)
  have e : (fun q => if q = j then f i else if q = i then f j else f q) = swp f i j := by
    funext q
    unfold swp
    by_cases e1 : q = i
    · subst e1; rw [if_neg hne, if_pos rfl, if_pos rfl]
    · rw [if_neg e1, if_neg e1]
  rw [e] at h1
  exact h1

set_option maxRecDepth 100000 in
set_option maxHeartbeats 4000000 in
theorem sink_any (up : Bool) (A n G k : Nat) (f : Nat → Int × Int) (w : World) (h : Hm w A n G up f) (hn : n ≤ 1000000) (hk : k < n) (hp : Hp up n f (k + 1)) :
    Calls Try.prog 37 #[.agg #[.slice (some ⟨A, 0, none⟩) n n, fv G], .int .i64 k] w fun e w' => ∃ f', e = .returned (.tuple #[]) ∧ Pq w' A n f' ∧ Hp up n f' k ∧ Im n f' f ∧ Ke A w w' := by
  have B0 := below1 w (.cells #[.slice (some ⟨A, 0, none⟩) n n, fv G] 68)
  have S0 := Bk.new w #[.slice (some ⟨A, 0, none⟩) n n, fv G] 68
  have hA := h.q.lt
  have H1 := Lib.hid (h.step B0)
  have HP := Lib.hid hp
  clear h hp
  go_enter Try.func37, Try.ntmps37
  go_wp2_with fail
  generalize hW : w.alloc (.cells #[.slice (some ⟨A, 0, none⟩) n n, fv G] 68) = W at *
  have HW : Hid (W = w.alloc (.cells #[.slice (some ⟨A, 0, none⟩) n n, fv G] 68)) := hW.symm
  have hWs : W.heap.size = w.heap.size + 1 := by rw [HW.out]; simp
  have HWs := Lib.hid hWs
  clear hW hWs
  go_loopw [1] (fun s1 wr => ∃ (i : Nat) (f' : Nat → Int × Int), s1 = .int .i64 i ∧ i < n ∧ Hm wr A n G up f' ∧ Sk up n f' k i ∧ Im n f' f ∧ Ke A W wr) (fun s1 _ => n - (intOf s1).toNat)
  case atStart => exact ⟨k, f, rfl, hk, H1.out, HP.out.start, Im.refl _ _, Ke.refl _ _⟩
  case round =>
    obtain ⟨i, f', rfl, hi, hm, hsk, him, hke⟩ := hrel
    have hws := HWs.out
    have hnA : w.heap.size ≠ A := by omega
    have Sr : Bk wr w.heap.size #[.slice (some ⟨A, 0, none⟩) n n, fv G] 68 := (hke.block _ (by omega) hnA).trans S0
    have s0 : wr.cell? ⟨w.heap.size, 0, none⟩ = some (.slice (some ⟨A, 0, none⟩) n n) := Sr.c 0
    have s1 : wr.cell? ⟨w.heap.size, 1, none⟩ = some (fv G) := Sr.c 1
    have wz := HWs.out
    have hkz := hke.size
    by_cases h2 : 2 * i + 1 < n
    · have l2 : decide (2 * (i : Int) + 1 < (n : Int)) = true := decide_eq_true (by omega)
      have HFo := Lib.hid (foremost_any up A n G i f' wr hm h2 hn)
      have M := Lib.hid hm
      have K := Lib.hid hke
      have SK := Lib.hid hsk
      have IM := Lib.hid him
      clear hm hke hsk him
      go_wp2_with fail
      refine HFo.out.mono ?_
      rintro e w1 ⟨c, rfl, fm, b1⟩
      have M1 := Lib.hid (M.out.step b1)
      have S1 := Sr.step b1
      have K1 := Lib.hid (K.out.trans (Ke.of b1))
      have FM := Lib.hid fm
      have hz1 := b1.size
      have hcn : c < n := fm.2.1
      have hic : i < c := by have := fm.1; unfold Ch at this; omega
      clear HFo M K b1 fm s0 s1 Sr l2
      have c0 : (0 : Int) ≤ (c : Int) := by omega
      have c1 : (c : Int) < (n : Int) := by omega
      have i0 : (0 : Int) ≤ (i : Int) := by omega
      have i1 : (i : Int) < (n : Int) := by omega
      have HX : Hid (∀ wx, Below w1.heap.size w1 wx → (wx.cell? ⟨w.heap.size, 0, none⟩ = some (.slice (some ⟨A, 0, none⟩) n n) ∧ wx.cell? ⟨w.heap.size, 1, none⟩ = some (fv G) ∧ wx.cell? ⟨A, c * 2, none⟩ = some (.int .i64 (f' c).1) ∧ wx.cell? ⟨A, c * 2 + 1, none⟩ = some (.int .i64 (f' c).2) ∧ wx.cell? ⟨A, i * 2, none⟩ = some (.int .i64 (f' i).1) ∧ wx.cell? ⟨A, i * 2 + 1, none⟩ = some (.int .i64 (f' i).2))) := fun wx hb => by
        have Hx := M1.out.step hb
        have Sx := S1.step hb
        exact ⟨Sx.c 0, Sx.c 1, (Hx.q.c _ (by omega)).1, (Hx.q.c _ (by omega)).2, (Hx.q.c _ (by omega)).1, (Hx.q.c _ (by omega)).2⟩
      have b0 : Below w1.heap.size w1 w1.drew := (Below.refl _ _).drew
      have HA1 := Lib.hid (ahead_any up (f' c) (f' i) G w1.drew ((M1.out.step b0).g) ((M1.out.step b0).l))
      go_wp2_with fail
      go_region_held3 (fun wx => (wx.cell? ⟨w.heap.size, 0, none⟩ = some (.slice (some ⟨A, 0, none⟩) n n) ∧ wx.cell? ⟨w.heap.size, 1, none⟩ = some (fv G) ∧ wx.cell? ⟨A, c * 2, none⟩ = some (.int .i64 (f' c).1) ∧ wx.cell? ⟨A, c * 2 + 1, none⟩ = some (.int .i64 (f' c).2) ∧ wx.cell? ⟨A, i * 2, none⟩ = some (.int .i64 (f' i).1) ∧ wx.cell? ⟨A, i * 2 + 1, none⟩ = some (.int .i64 (f' i).2))) (with_reducible exact HX.out _ (by with_reducible assumption)) ((go_at_call 33; refine HA1.out.mono ?_; rintro e w2 ⟨rfl, b2⟩; have K2 : Below w1.heap.size w1 w2 := b0.trans b2; clear b2))
      cases ha : ahd up (f' c) (f' i) with
      | false =>
        go_wp2_with fail
        have hp' := SK.out.done FM.out ha
        have q2 := M1.out.q.step K2
        have k2 := K1.out.trans (Ke.of K2)
        have kk : Ke A w w2 := Ke.trans (Ke.of B0) k2
        exact bodyPost_ret (v := .tuple #[]) (by simp [results, Try.results37]) rfl ⟨f', rfl, q2, hp', IM.out, kk⟩
      | true =>
        go_wp2_with fail
        have M2 := M1.out.step K2
        have S2 := S1.step K2
        have k2 := K1.out.trans (Ke.of K2)
        have NX : Hid (Pq _ A n (swp f' i c)) := (M2.q.heap (w' := w2.drew) rfl).swap i c hi hcn (by omega)
        have SW := Lib.hid (SK.out.step FM.out ha)
        have IW := Lib.hid (IM.out.swp hi hcn)
        have s0 : w2.drew.cell? ⟨w.heap.size, 0, none⟩ = some (.slice (some ⟨A, 0, none⟩) n n) := S2.c 0
        obtain ⟨a0, a1⟩ := (M2.q.heap (w' := w2.drew) rfl).c i hi
        obtain ⟨d0, d1⟩ := (M2.q.heap (w' := w2.drew) rfl).c c hcn
        have af : ∀ o, w2.drew.frozen? ⟨A, o, none⟩ = false := (M2.q.heap (w' := w2.drew) rfl).f
        have KS : Hid (∀ (wx : World) (o1 o2 : Nat) (v1 v2 : Value), wx.cell? ⟨w.heap.size, 0, none⟩ = some (.slice (some ⟨A, 0, none⟩) n n) → ((wx.setCell ⟨A, o1, none⟩ v1).setCell ⟨A, o2, none⟩ v2).cell? ⟨w.heap.size, 0, none⟩ = some (.slice (some ⟨A, 0, none⟩) n n)) := fun wx o1 o2 v1 v2 e => by
          rw [World.cell?_setCell_other _ _ _ _ (by simp), World.cell?_setCell_other _ _ _ _ (by simp)]
          exact e
        have KF : Hid (∀ (o1 o2 o3 o4 : Nat) (v1 v2 v3 v4 : Value), Ke A w2 ((((w2.drew.setCell ⟨A, o1, none⟩ v1).setCell ⟨A, o2, none⟩ v2).setCell ⟨A, o3, none⟩ v3).setCell ⟨A, o4, none⟩ v4)) := fun o1 o2 o3 o4 v1 v2 v3 v4 => ((((Ke.refl A w2).drew.set _ _).set _ _).set _ _).set _ _
        have M2h := Lib.hid M2
        have k2h := Lib.hid k2
        clear M2 k2 S2 HX HA1 K2 M1 S1 K1 b0 ha SK IM FM
        refine wp_region_held_drew (S := (fun wx => wx.cell? ⟨w.heap.size, 0, none⟩ = some (.slice (some ⟨A, 0, none⟩) n n))) (by kernel_rfl) s0 (fun hHeld => ?_)
        generalize w2.drew = w3 at *
        refine wpAnyH_take (i := 0) (oi := { dst := some 29, op := Op.fieldAddr 68 (Operand.tmp 2) 0, type := 0, pos := _, after := #[], guard := none }) (v := ?ts1) rfl (by kernel_rfl) (by kernel_rfl) (by kernel_rfl) (fun _ _ _ h => h) (Or.inl ⟨by rfl, ?us1⟩) (by assumption) ?rs1
        case us1 => (intro w hSw; (try dsimp only at hSw); go_simp; (try with_reducible rfl))
        simp only [Act.put, List.setIfInBounds_toArray, List.set_cons_zero, List.set_cons_succ]
        refine wpAnyH_take (i := 1) (oi := { dst := some 30, op := Op.load 63 (Operand.tmp 29), type := 63, pos := _, after := #[{ on := 0, ground := Ground.data }], guard := none }) (v := ?ts2) rfl (by kernel_rfl) (by kernel_rfl) (by kernel_rfl) (fun _ _ _ h => h) (Or.inl ⟨by rfl, ?us2⟩) (by assumption) ?rs2
        case us2 => (intro w hSw; (try dsimp only at hSw); go_simp; (try with_reducible rfl))
        simp only [Act.put, List.setIfInBounds_toArray, List.set_cons_zero, List.set_cons_succ]
        refine wpAnyH_take (i := 2) (oi := { dst := some 31, op := Op.move (Operand.tmp 1), type := 3, pos := _, after := #[], guard := none }) (v := ?ts3) rfl (by kernel_rfl) (by kernel_rfl) (by kernel_rfl) (fun _ _ _ h => h) (Or.inl ⟨by rfl, ?us3⟩) (by assumption) ?rs3
        case us3 => (intro w hSw; (try dsimp only at hSw); go_simp; (try with_reducible rfl))
        simp only [Act.put, List.setIfInBounds_toArray, List.set_cons_zero, List.set_cons_succ]
        refine wpAnyH_take (i := 3) (oi := { dst := some 32, op := Op.fieldAddr 68 (Operand.tmp 2) 0, type := 0, pos := _, after := #[{ on := 17, ground := Ground.gcOnly Departure.lateStores }], guard := none }) (v := ?ts4) rfl (by kernel_rfl) (by kernel_rfl) (by kernel_rfl) (fun _ _ _ h => h) (Or.inl ⟨by rfl, ?us4⟩) (by assumption) ?rs4
        case us4 => (intro w hSw; (try dsimp only at hSw); go_simp; (try with_reducible rfl))
        simp only [Act.put, List.setIfInBounds_toArray, List.set_cons_zero, List.set_cons_succ]
        refine wpAnyH_take (i := 4) (oi := { dst := some 33, op := Op.load 63 (Operand.tmp 32), type := 63, pos := _, after := #[{ on := 3, ground := Ground.data }, { on := 17, ground := Ground.gcOnly Departure.lateStores }], guard := none }) (v := ?ts5) rfl (by kernel_rfl) (by kernel_rfl) (by kernel_rfl) (fun _ _ _ h => h) (Or.inl ⟨by rfl, ?us5⟩) (by assumption) ?rs5
        case us5 => (intro w hSw; (try dsimp only at hSw); go_simp; (try with_reducible rfl))
        simp only [Act.put, List.setIfInBounds_toArray, List.set_cons_zero, List.set_cons_succ]
        refine wpAnyH_take (i := 5) (oi := { dst := some 34, op := Op.move (Operand.tmp 4), type := 3, pos := _, after := #[{ on := 17, ground := Ground.gcOnly Departure.lateStores }], guard := none }) (v := ?ts6) rfl (by kernel_rfl) (by kernel_rfl) (by kernel_rfl) (fun _ _ _ h => h) (Or.inl ⟨by rfl, ?us6⟩) (by assumption) ?rs6
        case us6 => (intro w hSw; (try dsimp only at hSw); go_simp; (try with_reducible rfl))
        simp only [Act.put, List.setIfInBounds_toArray, List.set_cons_zero, List.set_cons_succ]
        refine wpAnyH_take (i := 6) (oi := { dst := some 35, op := Op.fieldAddr 68 (Operand.tmp 2) 0, type := 0, pos := _, after := #[], guard := none }) (v := ?ts7) rfl (by kernel_rfl) (by kernel_rfl) (by kernel_rfl) (fun _ _ _ h => h) (Or.inl ⟨by rfl, ?us7⟩) (by assumption) ?rs7
        case us7 => (intro w hSw; (try dsimp only at hSw); go_simp; (try with_reducible rfl))
        simp only [Act.put, List.setIfInBounds_toArray, List.set_cons_zero, List.set_cons_succ]
        refine wpAnyH_take (i := 7) (oi := { dst := some 36, op := Op.load 63 (Operand.tmp 35), type := 63, pos := _, after := #[{ on := 6, ground := Ground.data }], guard := none }) (v := ?ts8) rfl (by kernel_rfl) (by kernel_rfl) (by kernel_rfl) (fun _ _ _ h => h) (Or.inl ⟨by rfl, ?us8⟩) (by assumption) ?rs8
        case us8 => (intro w hSw; (try dsimp only at hSw); go_simp; (try with_reducible rfl))
        simp only [Act.put, List.setIfInBounds_toArray, List.set_cons_zero, List.set_cons_succ]
        refine wpAnyH_take (i := 8) (oi := { dst := some 37, op := Op.move (Operand.tmp 4), type := 3, pos := _, after := #[], guard := none }) (v := ?ts9) rfl (by kernel_rfl) (by kernel_rfl) (by kernel_rfl) (fun _ _ _ h => h) (Or.inl ⟨by rfl, ?us9⟩) (by assumption) ?rs9
        case us9 => (intro w hSw; (try dsimp only at hSw); go_simp; (try with_reducible rfl))
        simp only [Act.put, List.setIfInBounds_toArray, List.set_cons_zero, List.set_cons_succ]
        refine wpAnyH_take (i := 9) (oi := { dst := some 38, op := Op.indexAddr 63 (Operand.tmp 36) (Operand.tmp 37), type := 0, pos := _, after := #[{ on := 7, ground := Ground.data }, { on := 8, ground := Ground.data }], guard := none }) (v := ?ts10) rfl (by kernel_rfl) (by kernel_rfl) (by kernel_rfl) (fun _ _ _ h => h) (Or.inl ⟨by rfl, ?us10⟩) (by assumption) ?rs10
        case us10 => (intro w hSw; (try dsimp only at hSw); go_simp; (try with_reducible rfl))
        simp only [Act.put, List.setIfInBounds_toArray, List.set_cons_zero, List.set_cons_succ]
        refine wpAnyH_take (i := 11) (oi := { dst := some 40, op := Op.fieldAddr 68 (Operand.tmp 2) 0, type := 0, pos := _, after := #[], guard := none }) (v := ?ts11) rfl (by kernel_rfl) (by kernel_rfl) (by kernel_rfl) (fun _ _ _ h => h) (Or.inl ⟨by rfl, ?us11⟩) (by assumption) ?rs11
        case us11 => (intro w hSw; (try dsimp only at hSw); go_simp; (try with_reducible rfl))
        simp only [Act.put, List.setIfInBounds_toArray, List.set_cons_zero, List.set_cons_succ]
        refine wpAnyH_take (i := 12) (oi := { dst := some 41, op := Op.load 63 (Operand.tmp 40), type := 63, pos := _, after := #[{ on := 11, ground := Ground.data }], guard := none }) (v := ?ts12) rfl (by kernel_rfl) (by kernel_rfl) (by kernel_rfl) (fun _ _ _ h => h) (Or.inl ⟨by rfl, ?us12⟩) (by assumption) ?rs12
        case us12 => (intro w hSw; (try dsimp only at hSw); go_simp; (try with_reducible rfl))
        simp only [Act.put, List.setIfInBounds_toArray, List.set_cons_zero, List.set_cons_succ]
        refine wpAnyH_take (i := 13) (oi := { dst := some 42, op := Op.move (Operand.tmp 1), type := 3, pos := _, after := #[], guard := none }) (v := ?ts13) rfl (by kernel_rfl) (by kernel_rfl) (by kernel_rfl) (fun _ _ _ h => h) (Or.inl ⟨by rfl, ?us13⟩) (by assumption) ?rs13
        case us13 => (intro w hSw; (try dsimp only at hSw); go_simp; (try with_reducible rfl))
        simp only [Act.put, List.setIfInBounds_toArray, List.set_cons_zero, List.set_cons_succ]
        refine wpAnyH_take (i := 14) (oi := { dst := some 43, op := Op.indexAddr 63 (Operand.tmp 41) (Operand.tmp 42), type := 0, pos := _, after := #[{ on := 12, ground := Ground.data }, { on := 13, ground := Ground.data }], guard := none }) (v := ?ts14) rfl (by kernel_rfl) (by kernel_rfl) (by kernel_rfl) (fun _ _ _ h => h) (Or.inl ⟨by rfl, ?us14⟩) (by assumption) ?rs14
        case us14 => (intro w hSw; (try dsimp only at hSw); go_simp; (try with_reducible rfl))
        simp only [Act.put, List.setIfInBounds_toArray, List.set_cons_zero, List.set_cons_succ]
        refine wpAnyH_ready (rs := [10, 15]) (by kernel_rfl) (by simp) ?_
        refine AllReadyH.cons (o := { dst := some 39, op := Op.load 65 (Operand.tmp 38), type := 65, pos := _, after := #[{ on := 9, ground := Ground.data }], guard := none }) rfl (fun K hK => ?_) (AllReadyH.cons (o := { dst := some 44, op := Op.load 65 (Operand.tmp 43), type := 65, pos := _, after := #[{ on := 14, ground := Ground.data }], guard := none }) rfl (fun K hK => ?_) AllReadyH.nil)
        · go_simp
          refine hK.out _ _ (by assumption) (fun hH1 => ?_)
          clear hK K
          (try simp only [Act.put, List.setIfInBounds_toArray, List.set_cons_zero, List.set_cons_succ])
          refine wpAnyH_ready (rs := [15]) (by kernel_rfl) (by simp) ?_
          refine AllReadyH.cons (o := { dst := some 44, op := Op.load 65 (Operand.tmp 43), type := 65, pos := _, after := #[{ on := 14, ground := Ground.data }], guard := none }) rfl (fun K hK => ?_) AllReadyH.nil
          go_simp
          refine hK.out _ _ (by assumption) (fun hH2 => ?_)
          clear hK K
          (try simp only [Act.put, List.setIfInBounds_toArray, List.set_cons_zero, List.set_cons_succ])
          refine wpAnyH_take (i := 16) (oi := { dst := some 45, op := Op.indexAddr 63 (Operand.tmp 30) (Operand.tmp 31), type := 0, pos := _, after := #[{ on := 1, ground := Ground.data }, { on := 2, ground := Ground.data }, { on := 0, ground := Ground.phase }, { on := 1, ground := Ground.phase }, { on := 2, ground := Ground.phase }, { on := 3, ground := Ground.textOnly Departure.lateStores }, { on := 4, ground := Ground.textOnly Departure.lateStores }, { on := 5, ground := Ground.textOnly Departure.lateStores }, { on := 6, ground := Ground.phase }, { on := 7, ground := Ground.phase }, { on := 8, ground := Ground.phase }, { on := 9, ground := Ground.phase }, { on := 10, ground := Ground.phase }, { on := 11, ground := Ground.textOnly Departure.lateStores }, { on := 12, ground := Ground.textOnly Departure.lateStores }, { on := 13, ground := Ground.textOnly Departure.lateStores }, { on := 14, ground := Ground.textOnly Departure.lateStoresUnsure }, { on := 15, ground := Ground.phase }], guard := none }) (v := ?ts15) rfl (by kernel_rfl) (by kernel_rfl) (by kernel_rfl) (fun _ _ _ h => h) (Or.inl ⟨by rfl, ?us15⟩) (by assumption) ?rs15
          case us15 => (intro w hSw; (try dsimp only at hSw); go_simp; (try with_reducible rfl))
          simp only [Act.put, List.setIfInBounds_toArray, List.set_cons_zero, List.set_cons_succ]
          refine wpAnyH_ready (rs := [17]) (by kernel_rfl) (by simp) ?_
          refine AllReadyH.cons (o := { dst := none, op := Op.store 65 (Operand.tmp 45) (Operand.tmp 39), type := 0, pos := _, after := #[{ on := 16, ground := Ground.data }, { on := 10, ground := Ground.data }, { on := 0, ground := Ground.phase }, { on := 1, ground := Ground.phase }, { on := 2, ground := Ground.phase }, { on := 3, ground := Ground.textOnly Departure.lateStores }, { on := 4, ground := Ground.textOnly Departure.lateStores }, { on := 5, ground := Ground.textOnly Departure.lateStores }, { on := 6, ground := Ground.phase }, { on := 7, ground := Ground.phase }, { on := 8, ground := Ground.phase }, { on := 9, ground := Ground.phase }, { on := 10, ground := Ground.phase }, { on := 11, ground := Ground.textOnly Departure.lateStores }, { on := 12, ground := Ground.textOnly Departure.lateStores }, { on := 13, ground := Ground.textOnly Departure.lateStores }, { on := 14, ground := Ground.textOnly Departure.lateStoresUnsure }, { on := 15, ground := Ground.phase }], guard := none }) rfl (fun K hK => ?_) AllReadyH.nil
          go_simp
          refine hK.out _ _ (KS.out _ _ _ _ _ s0) (fun hH3 => ?_)
          clear hK K
          (try simp only [Act.put, List.setIfInBounds_toArray, List.set_cons_zero, List.set_cons_succ])
          refine wpAnyH_take (i := 18) (oi := { dst := some 46, op := Op.indexAddr 63 (Operand.tmp 33) (Operand.tmp 34), type := 0, pos := _, after := #[{ on := 4, ground := Ground.data }, { on := 5, ground := Ground.data }, { on := 0, ground := Ground.phase }, { on := 1, ground := Ground.phase }, { on := 2, ground := Ground.phase }, { on := 3, ground := Ground.phase }, { on := 4, ground := Ground.phase }, { on := 5, ground := Ground.phase }, { on := 6, ground := Ground.phase }, { on := 7, ground := Ground.phase }, { on := 8, ground := Ground.phase }, { on := 9, ground := Ground.phase }, { on := 10, ground := Ground.phase }, { on := 11, ground := Ground.phase }, { on := 12, ground := Ground.phase }, { on := 13, ground := Ground.phase }, { on := 14, ground := Ground.phase }, { on := 15, ground := Ground.phase }, { on := 16, ground := Ground.phase }, { on := 17, ground := Ground.phase }], guard := none }) (v := ?ts16) rfl (by kernel_rfl) (by kernel_rfl) (by kernel_rfl) (fun _ _ _ h => h) (Or.inl ⟨by rfl, ?us16⟩) (by assumption) ?rs16
          case us16 => (intro w hSw; (try dsimp only at hSw); go_simp; (try with_reducible rfl))
          simp only [Act.put, List.setIfInBounds_toArray, List.set_cons_zero, List.set_cons_succ]
          refine wpAnyH_ready (rs := [19]) (by kernel_rfl) (by simp) ?_
          refine AllReadyH.cons (o := { dst := none, op := Op.store 65 (Operand.tmp 46) (Operand.tmp 44), type := 0, pos := _, after := #[{ on := 18, ground := Ground.data }, { on := 15, ground := Ground.data }, { on := 17, ground := Ground.chain }, { on := 0, ground := Ground.phase }, { on := 1, ground := Ground.phase }, { on := 2, ground := Ground.phase }, { on := 3, ground := Ground.phase }, { on := 4, ground := Ground.phase }, { on := 5, ground := Ground.phase }, { on := 6, ground := Ground.phase }, { on := 7, ground := Ground.phase }, { on := 8, ground := Ground.phase }, { on := 9, ground := Ground.phase }, { on := 10, ground := Ground.phase }, { on := 11, ground := Ground.phase }, { on := 12, ground := Ground.phase }, { on := 13, ground := Ground.phase }, { on := 14, ground := Ground.phase }, { on := 15, ground := Ground.phase }, { on := 16, ground := Ground.phase }, { on := 17, ground := Ground.phase }], guard := none }) rfl (fun K hK => ?_) AllReadyH.nil
          go_simp
          refine hK.out _ _ (KS.out _ _ _ _ _ (KS.out _ _ _ _ _ s0)) (fun hH4 => ?_)
          clear hK K
          (try simp only [Act.put, List.setIfInBounds_toArray, List.set_cons_zero, List.set_cons_succ])
          refine wpAnyH_done (by kernel_rfl) ?_ _
          go_wp2_with fail
          exact ⟨⟨c, swp f' i c, rfl, hcn, M2h.out.ke (KF.out _ _ _ _ _ _ _ _) NX.out, SW.out, IW.out, k2h.out.trans (KF.out _ _ _ _ _ _ _ _)⟩, by simp [intOf]; omega⟩
        · go_simp
          refine hK.out _ _ (by assumption) (fun hH5 => ?_)
          clear hK K
          (try simp only [Act.put, List.setIfInBounds_toArray, List.set_cons_zero, List.set_cons_succ])
          refine wpAnyH_ready (rs := [10]) (by kernel_rfl) (by simp) ?_
          refine AllReadyH.cons (o := { dst := some 39, op := Op.load 65 (Operand.tmp 38), type := 65, pos := _, after := #[{ on := 9, ground := Ground.data }], guard := none }) rfl (fun K hK => ?_) AllReadyH.nil
          go_simp
          refine hK.out _ _ (by assumption) (fun hH6 => ?_)
          clear hK K
          (try simp only [Act.put, List.setIfInBounds_toArray, List.set_cons_zero, List.set_cons_succ])
          refine wpAnyH_take (i := 16) (oi := { dst := some 45, op := Op.indexAddr 63 (Operand.tmp 30) (Operand.tmp 31), type := 0, pos := _, after := #[{ on := 1, ground := Ground.data }, { on := 2, ground := Ground.data }, { on := 0, ground := Ground.phase }, { on := 1, ground := Ground.phase }, { on := 2, ground := Ground.phase }, { on := 3, ground := Ground.textOnly Departure.lateStores }, { on := 4, ground := Ground.textOnly Departure.lateStores }, { on := 5, ground := Ground.textOnly Departure.lateStores }, { on := 6, ground := Ground.phase }, { on := 7, ground := Ground.phase }, { on := 8, ground := Ground.phase }, { on := 9, ground := Ground.phase }, { on := 10, ground := Ground.phase }, { on := 11, ground := Ground.textOnly Departure.lateStores }, { on := 12, ground := Ground.textOnly Departure.lateStores }, { on := 13, ground := Ground.textOnly Departure.lateStores }, { on := 14, ground := Ground.textOnly Departure.lateStoresUnsure }, { on := 15, ground := Ground.phase }], guard := none }) (v := ?ts17) rfl (by kernel_rfl) (by kernel_rfl) (by kernel_rfl) (fun _ _ _ h => h) (Or.inl ⟨by rfl, ?us17⟩) (by assumption) ?rs17
          case us17 => (intro w hSw; (try dsimp only at hSw); go_simp; (try with_reducible rfl))
          simp only [Act.put, List.setIfInBounds_toArray, List.set_cons_zero, List.set_cons_succ]
          refine wpAnyH_ready (rs := [17]) (by kernel_rfl) (by simp) ?_
          refine AllReadyH.cons (o := { dst := none, op := Op.store 65 (Operand.tmp 45) (Operand.tmp 39), type := 0, pos := _, after := #[{ on := 16, ground := Ground.data }, { on := 10, ground := Ground.data }, { on := 0, ground := Ground.phase }, { on := 1, ground := Ground.phase }, { on := 2, ground := Ground.phase }, { on := 3, ground := Ground.textOnly Departure.lateStores }, { on := 4, ground := Ground.textOnly Departure.lateStores }, { on := 5, ground := Ground.textOnly Departure.lateStores }, { on := 6, ground := Ground.phase }, { on := 7, ground := Ground.phase }, { on := 8, ground := Ground.phase }, { on := 9, ground := Ground.phase }, { on := 10, ground := Ground.phase }, { on := 11, ground := Ground.textOnly Departure.lateStores }, { on := 12, ground := Ground.textOnly Departure.lateStores }, { on := 13, ground := Ground.textOnly Departure.lateStores }, { on := 14, ground := Ground.textOnly Departure.lateStoresUnsure }, { on := 15, ground := Ground.phase }], guard := none }) rfl (fun K hK => ?_) AllReadyH.nil
          go_simp
          refine hK.out _ _ (KS.out _ _ _ _ _ s0) (fun hH7 => ?_)
          clear hK K
          (try simp only [Act.put, List.setIfInBounds_toArray, List.set_cons_zero, List.set_cons_succ])
          refine wpAnyH_take (i := 18) (oi := { dst := some 46, op := Op.indexAddr 63 (Operand.tmp 33) (Operand.tmp 34), type := 0, pos := _, after := #[{ on := 4, ground := Ground.data }, { on := 5, ground := Ground.data }, { on := 0, ground := Ground.phase }, { on := 1, ground := Ground.phase }, { on := 2, ground := Ground.phase }, { on := 3, ground := Ground.phase }, { on := 4, ground := Ground.phase }, { on := 5, ground := Ground.phase }, { on := 6, ground := Ground.phase }, { on := 7, ground := Ground.phase }, { on := 8, ground := Ground.phase }, { on := 9, ground := Ground.phase }, { on := 10, ground := Ground.phase }, { on := 11, ground := Ground.phase }, { on := 12, ground := Ground.phase }, { on := 13, ground := Ground.phase }, { on := 14, ground := Ground.phase }, { on := 15, ground := Ground.phase }, { on := 16, ground := Ground.phase }, { on := 17, ground := Ground.phase }], guard := none }) (v := ?ts18) rfl (by kernel_rfl) (by kernel_rfl) (by kernel_rfl) (fun _ _ _ h => h) (Or.inl ⟨by rfl, ?us18⟩) (by assumption) ?rs18
          case us18 => (intro w hSw; (try dsimp only at hSw); go_simp; (try with_reducible rfl))
          simp only [Act.put, List.setIfInBounds_toArray, List.set_cons_zero, List.set_cons_succ]
          refine wpAnyH_ready (rs := [19]) (by kernel_rfl) (by simp) ?_
          refine AllReadyH.cons (o := { dst := none, op := Op.store 65 (Operand.tmp 46) (Operand.tmp 44), type := 0, pos := _, after := #[{ on := 18, ground := Ground.data }, { on := 15, ground := Ground.data }, { on := 17, ground := Ground.chain }, { on := 0, ground := Ground.phase }, { on := 1, ground := Ground.phase }, { on := 2, ground := Ground.phase }, { on := 3, ground := Ground.phase }, { on := 4, ground := Ground.phase }, { on := 5, ground := Ground.phase }, { on := 6, ground := Ground.phase }, { on := 7, ground := Ground.phase }, { on := 8, ground := Ground.phase }, { on := 9, ground := Ground.phase }, { on := 10, ground := Ground.phase }, { on := 11, ground := Ground.phase }, { on := 12, ground := Ground.phase }, { on := 13, ground := Ground.phase }, { on := 14, ground := Ground.phase }, { on := 15, ground := Ground.phase }, { on := 16, ground := Ground.phase }, { on := 17, ground := Ground.phase }], guard := none }) rfl (fun K hK => ?_) AllReadyH.nil
          go_simp
          refine hK.out _ _ (KS.out _ _ _ _ _ (KS.out _ _ _ _ _ s0)) (fun hH8 => ?_)
          clear hK K
          (try simp only [Act.put, List.setIfInBounds_toArray, List.set_cons_zero, List.set_cons_succ])
          refine wpAnyH_done (by kernel_rfl) ?_ _
          go_wp2_with fail
          exact ⟨⟨c, swp f' i c, rfl, hcn, M2h.out.ke (KF.out _ _ _ _ _ _ _ _) NX.out, SW.out, IW.out, k2h.out.trans (KF.out _ _ _ _ _ _ _ _)⟩, by simp [intOf]; omega⟩
    · have hp' := hsk.none (by omega)
      have l2 : decide (2 * (i : Int) + 1 < (n : Int)) = false := decide_eq_false (by omega)
      have kk : Ke A w wr := Ke.trans (Ke.of B0) hke
      have Q := Lib.hid hm.q
      clear hm hsk
      go_wp2_with fail
      exact bodyPost_end (v := .tuple #[]) (by simp [results, Try.results37]) rfl ⟨f', rfl, Q.out, hp', him, kk⟩
end Go.Proofs.Ytdgjhclncjoonaa
