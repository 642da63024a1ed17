/- A wheel with some timers; the conditions: the script in memory. -/
import Derived.Test.YtignphkfknjllaaDoorWw
namespace Go.Proofs.YtignphkfknjllaaDoor
open Go.RowKit
variable {zf : Bool}

theorem but_below {n : Nat} {C : Nat → Prop} {w wr w' : World} (h : Below n w wr) (hB : But C wr w') (hC : ∀ B, C B → n ≤ B) (hn : n ≤ wr.heap.size) : Below n w w' :=
  ⟨hB.os.trans h.os, hB.tape.trans h.tape, hB.output.trans h.output, Nat.le_trans h.size hB.size, fun k hk => (hB.block k (by omega) (fun c => by have := hC k c; omega)).trans (h.block k hk)⟩
/-- A script in memory. -/
def Sc (w : World) (ad : Option Addr) (S : List (Int × Int × Int)) : Prop := S = [] ∨ ∃ g o, ad = some ⟨g, o, none⟩ ∧ g < w.heap.size ∧ ∀ j x, S[j]? = some x → w.cell? ⟨g, o + j * 3, none⟩ = some (.int .i64 x.1) ∧ w.cell? ⟨g, o + j * 3 + 1, none⟩ = some (.int .i64 x.2.1) ∧ w.cell? ⟨g, o + j * 3 + 2, none⟩ = some (.int .i64 x.2.2)
/-- One timer more, if it can be. -/
def stp (T : Nat) (l : List (Nat × Int)) (y i : Int) : List (Nat × Int) := if i ∈ l.map Prod.snd ∨ 1099511627776 < ad T y then l else l ++ [((ad T y).toNat, i)]
def whn (T : Nat) (x : Int × Int × Int) : Int := if x.1 = 1 then x.2.1 else fa T x.2.1
def setP (T : Nat) (S : List (Int × Int × Int)) : List (Nat × Int) := S.foldl (fun l x => stp T l (whn T x) x.2.2) []
theorem setP_take (T : Nat) (S : List (Int × Int × Int)) (j : Nat) (x : Int × Int × Int) (h : S[j]? = some x) : setP T (S.take (j + 1)) = stp T (setP T (S.take j)) (whn T x) x.2.2 := by
  have e : S.take (j + 1) = S.take j ++ [x] := by rw [List.take_add_one, h]; rfl
  unfold setP
  rw [e, List.foldl_append]; rfl
theorem stp_len (T : Nat) (l : List (Nat × Int)) (y i : Int) : (stp T l y i).length ≤ l.length + 1 := by unfold stp; split <;> simp
theorem setP_len (T : Nat) (S : List (Int × Int × Int)) : (setP T S).length ≤ S.length := by
  have : ∀ (S : List (Int × Int × Int)) (l : List (Nat × Int)), (S.foldl (fun l x => stp T l (whn T x) x.2.2) l).length ≤ l.length + S.length := by
    intro S
    induction S with
    | nil => intro l; simp
    | cons x S ih => intro l; have h1 := ih (stp T l (whn T x) x.2.2); have h2 := stp_len T l (whn T x) x.2.2; simp only [List.foldl_cons, List.length_cons] at *; omega
  simpa [setP] using this S []
theorem ids_kv (LL : List Tm) : (LL.map kv).map Prod.snd = LL.map Tm.i := by simp [kv]
/-- A wheel of one's own, made since n. -/
def Wn (zf : Bool) (n : Nat) (w wr : World) (b m T : Nat) (P : List (Nat × Int)) (LL : List Tm) : Prop := Wh zf wr b m T LL ∧ LL.map kv = P ∧ Below n w wr ∧ ∀ B, OwL b m LL B → n ≤ B
theorem Wh.like {w w' : World} {b m T : Nat} {LL : List Tm} (h : Wh zf w b m T LL) (l : Like w w') : Wh zf w' b m T LL := h.but (C := fun _ => False) ⟨l.2.1, l.2.2.1, l.2.2.2, by rw [l.1]; exact Nat.le_refl _, fun k _ _ => by rw [l.1]⟩ (fun _ c => c.elim)
theorem Wn.like {n : Nat} {w wr w' : World} {b m T : Nat} {P : List (Nat × Int)} {LL : List Tm} (h : Wn zf n w wr b m T P LL) (l : Like wr w') : Wn zf n w w' b m T P LL :=
  ⟨h.1.like l, h.2.1, ⟨l.2.1.trans h.2.2.1.os, l.2.2.1.trans h.2.2.1.tape, l.2.2.2.trans h.2.2.1.output, by rw [l.1]; exact h.2.2.1.size, fun k hk => by rw [l.1]; exact h.2.2.1.block k hk⟩, h.2.2.2⟩
theorem like_drew (w : World) : Like w w.drew := ⟨rfl, rfl, rfl, rfl⟩
theorem add_step {n : Nat} {w wr w' : World} {b m T : Nat} {P : List (Nat × Int)} {LL : List Tm} (h : Wn zf n w wr b m T P LL) (hn : n ≤ wr.heap.size) {y i : Int} {e : Ending} (ha : Ad zf wr b m T LL y i e w') : (∃ B, e = .returned (.bool B)) ∧ ∃ LL', Wn zf n w w' b m T (stp T P y i) LL' := by
  obtain ⟨h1, h2, h3, h4⟩ := h
  rcases ha with ⟨rfl, hc, rfl⟩ | ⟨rfl, hi, hx, hw, hb⟩
  · refine ⟨⟨_, rfl⟩, LL, h1, ?_, h3, h4⟩
    rw [h2]
    unfold stp
    rw [if_pos]
    rw [← h2, ids_kv]
    exact hc
  · refine ⟨⟨_, rfl⟩, _, hw, ?_, but_below h3 hb h4 hn, ?_⟩
    · rw [List.map_append, h2]
      unfold stp
      rw [if_neg]
      · rfl
      · rw [← h2, ids_kv]
        rintro (c | c)
        · exact hi c
        · omega
    · rintro B (c | c | ⟨t, ht, c⟩)
      · exact h4 B (.inl c)
      · exact h4 B (.inr (.inl c))
      · rcases List.mem_append.1 ht with ht | ht
        · exact h4 B (.inr (.inr ⟨t, ht, c⟩))
        · simp at ht; subst ht; rw [← c]; exact hn

set_option maxRecDepth 100000 in
set_option maxHeartbeats 2000000 in
theorem set_any (x0 : Int) (S : List (Int × Int × Int)) (ad : Option Addr) (cap : Nat) (w : World) (hS : Sc w ad S) (hl : S.length ≤ 9223372036854775807) : Calls Tryd.prog 12 #[.int .i64 x0, .slice ad S.length cap] w fun e w' => ∃ b m LL, e = .returned (.pointer (some ⟨b, 0, none⟩)) ∧ Wn zf w.heap.size w w' b m (t0 x0) (setP (t0 x0) S) LL := by
  have HS := Lib.hid hS
  have ht := (t0_is x0).2
  clear hS
  go_enter Tryd.func12, Tryd.ntmps12
  go_wp2_with (go_at_call 7; refine (new_any (zf := zf) x0 w).mono ?_; rintro e w1 ⟨rfl, hw1, hb1⟩)
  have hmb : w.heap.size ≠ w.heap.size + 1 := by omega
  have START : Hid (Wn zf w.heap.size w w1 (w.heap.size + 1) w.heap.size (t0 x0) (setP (t0 x0) (S.take 0)) []) := Lib.hid ⟨hw1, rfl, hb1, by rintro B (c | c | ⟨t, ht, _⟩) <;> first | omega | simp at ht⟩
  clear hw1 hb1
  generalize hT : t0 x0 = T at *
  have TT := Lib.hid hT
  clear hT
  obtain ⟨b, hb⟩ : ∃ b, w.heap.size + 1 = b := ⟨_, rfl⟩
  rw [hb] at START ⊢
  have HB := Lib.hid hb
  clear hb hmb
  go_wp2_with fail
  go_loopw [6] (fun s6 wr => ∃ (j : Nat) (LL : List Tm), j ≤ S.length ∧ s6 = .int .i64 j ∧ Wn zf w.heap.size w wr b w.heap.size T (setP T (S.take j)) LL) (fun s6 _ => S.length - (intOf s6).toNat)
  case atStart => exact ⟨0, [], Nat.zero_le _, rfl, START.out⟩
  case round =>
    obtain ⟨j, LL, hj, rfl, hwn⟩ := hrel
    by_cases hlt : j < S.length
    · obtain ⟨x, hx⟩ : ∃ x, S[j]? = some x := ⟨_, List.getElem?_eq_getElem hlt⟩
      rcases HS.out with h | ⟨g, o, rfl, hg, h1⟩
      · rw [h] at hlt; simp at hlt
      obtain ⟨s0, s1, s2⟩ := h1 j x hx
      have j1 : ((j : Nat) : Int) < (S.length : Int) := by omega
      have be := hwn.2.2.1
      have hsz := be.size
      have c0 := (be.cell (p := ⟨g, o + j * 3, none⟩) hg).trans s0
      have c1 := (be.cell (p := ⟨g, o + j * 3 + 1, none⟩) hg).trans s1
      have c2 := (be.cell (p := ⟨g, o + j * 3 + 2, none⟩) hg).trans s2
      have STP := setP_take T S j x hx
      have HW := Lib.hid (hwn.like (like_drew wr))
      clear HS h1 hx START be hwn
      by_cases hk : x.1 = 1
      · have hk' : (x.1 == 1) = true := by simpa using hk
        have hw1 : whn T x = x.2.1 := by unfold whn; rw [if_pos hk]
        have STEP : Hid (∀ e w5, Ad zf wr.drew b w.heap.size T LL x.2.1 x.2.2 e w5 → (∃ B, e = .returned (.bool B)) ∧ ∃ LL', Wn zf w.heap.size w w5 b w.heap.size T (setP T (S.take (j + 1))) LL') := Lib.hid (fun e w5 ha => by rw [STP, hw1]; exact add_step HW.out hsz ha)
        have HA := Lib.hid (add_any HW.out.1 x.2.1 x.2.2)
        clear STP hw1 hk
        go_wp2_with fail
        change wr.drew.cell? _ = _ at c0 c1 c2
        refine wp_region_held_drew (S := (fun wx => wx.cell? ⟨g, o + j * 3, none⟩ = some (.int .i64 x.1) ∧ wx.cell? ⟨g, o + j * 3 + 1, none⟩ = some (.int .i64 x.2.1) ∧ wx.cell? ⟨g, o + j * 3 + 2, none⟩ = some (.int .i64 x.2.2))) (by kernel_rfl) ⟨c0, c1, c2⟩ (fun hHeld => ?_)
        generalize wr.drew = v1 at *
        refine wpAnyH_take (i := 0) (oi := { dst := some 21, op := Op.move (Operand.tmp 5), type := 23, pos := _, after := #[], guard := none }) (v := ?tp1) rfl (by kernel_rfl) (by kernel_rfl) (by kernel_rfl) (fun _ _ _ h => h) (Or.inl ⟨by rfl, ?up1⟩) (by assumption) ?rp1
        case up1 => (intro w hSw; (try dsimp only at hSw); go_simp; (try with_reducible rfl))
        simp only [Act.put, List.setIfInBounds_toArray, List.set_cons_zero, List.set_cons_succ]
        refine wpAnyH_take (i := 1) (oi := { dst := some 22, op := Op.move (Operand.tmp 1), type := 22, pos := _, after := #[], guard := none }) (v := ?tp2) rfl (by kernel_rfl) (by kernel_rfl) (by kernel_rfl) (fun _ _ _ h => h) (Or.inl ⟨by rfl, ?up2⟩) (by assumption) ?rp2
        case up2 => (intro w hSw; (try dsimp only at hSw); go_simp; (try with_reducible rfl))
        simp only [Act.put, List.setIfInBounds_toArray, List.set_cons_zero, List.set_cons_succ]
        refine wpAnyH_take (i := 2) (oi := { dst := some 23, op := Op.move (Operand.tmp 6), type := 3, pos := _, after := #[], guard := none }) (v := ?tp3) rfl (by kernel_rfl) (by kernel_rfl) (by kernel_rfl) (fun _ _ _ h => h) (Or.inl ⟨by rfl, ?up3⟩) (by assumption) ?rp3
        case up3 => (intro w hSw; (try dsimp only at hSw); go_simp; (try with_reducible rfl))
        simp only [Act.put, List.setIfInBounds_toArray, List.set_cons_zero, List.set_cons_succ]
        refine wpAnyH_take (i := 3) (oi := { dst := some 24, op := Op.indexAddr 22 (Operand.tmp 22) (Operand.tmp 23), type := 0, pos := _, after := #[{ on := 1, ground := Ground.data }, { on := 2, ground := Ground.data }], guard := none }) (v := ?tp4) rfl (by kernel_rfl) (by kernel_rfl) (by kernel_rfl) (fun _ _ _ h => h) (Or.inl ⟨by rfl, ?up4⟩) (by assumption) ?rp4
        case up4 => (intro w hSw; (try dsimp only at hSw); go_simp; (try with_reducible rfl))
        simp only [Act.put, List.setIfInBounds_toArray, List.set_cons_zero, List.set_cons_succ]
        refine wpAnyH_take (i := 4) (oi := { dst := some 25, op := Op.fieldAddr 29 (Operand.tmp 24) 1, type := 0, pos := _, after := #[{ on := 3, ground := Ground.data }], guard := none }) (v := ?tp5) rfl (by kernel_rfl) (by kernel_rfl) (by kernel_rfl) (fun _ _ _ h => h) (Or.inl ⟨by rfl, ?up5⟩) (by assumption) ?rp5
        case up5 => (intro w hSw; (try dsimp only at hSw); go_simp; (try with_reducible rfl))
        simp only [Act.put, List.setIfInBounds_toArray, List.set_cons_zero, List.set_cons_succ]
        refine wpAnyH_take (i := 5) (oi := { dst := some 26, op := Op.load 2 (Operand.tmp 25), type := 2, pos := _, after := #[{ on := 4, ground := Ground.data }], guard := none }) (v := ?tp6) rfl (by kernel_rfl) (by kernel_rfl) (by kernel_rfl) (fun _ _ _ h => h) (Or.inl ⟨by rfl, ?up6⟩) (by assumption) ?rp6
        case up6 => (intro w hSw; (try dsimp only at hSw); go_simp; (try with_reducible rfl))
        simp only [Act.put, List.setIfInBounds_toArray, List.set_cons_zero, List.set_cons_succ]
        refine wpAnyH_take (i := 6) (oi := { dst := some 27, op := Op.move (Operand.tmp 1), type := 22, pos := _, after := #[], guard := none }) (v := ?tp7) rfl (by kernel_rfl) (by kernel_rfl) (by kernel_rfl) (fun _ _ _ h => h) (Or.inl ⟨by rfl, ?up7⟩) (by assumption) ?rp7
        case up7 => (intro w hSw; (try dsimp only at hSw); go_simp; (try with_reducible rfl))
        simp only [Act.put, List.setIfInBounds_toArray, List.set_cons_zero, List.set_cons_succ]
        refine wpAnyH_take (i := 7) (oi := { dst := some 28, op := Op.move (Operand.tmp 6), type := 3, pos := _, after := #[], guard := none }) (v := ?tp8) rfl (by kernel_rfl) (by kernel_rfl) (by kernel_rfl) (fun _ _ _ h => h) (Or.inl ⟨by rfl, ?up8⟩) (by assumption) ?rp8
        case up8 => (intro w hSw; (try dsimp only at hSw); go_simp; (try with_reducible rfl))
        simp only [Act.put, List.setIfInBounds_toArray, List.set_cons_zero, List.set_cons_succ]
        refine wpAnyH_take (i := 8) (oi := { dst := some 29, op := Op.indexAddr 22 (Operand.tmp 27) (Operand.tmp 28), type := 0, pos := _, after := #[{ on := 6, ground := Ground.data }, { on := 7, ground := Ground.data }], guard := none }) (v := ?tp9) rfl (by kernel_rfl) (by kernel_rfl) (by kernel_rfl) (fun _ _ _ h => h) (Or.inl ⟨by rfl, ?up9⟩) (by assumption) ?rp9
        case up9 => (intro w hSw; (try dsimp only at hSw); go_simp; (try with_reducible rfl))
        simp only [Act.put, List.setIfInBounds_toArray, List.set_cons_zero, List.set_cons_succ]
        refine wpAnyH_take (i := 9) (oi := { dst := some 30, op := Op.fieldAddr 29 (Operand.tmp 29) 2, type := 0, pos := _, after := #[{ on := 8, ground := Ground.data }], guard := none }) (v := ?tp10) rfl (by kernel_rfl) (by kernel_rfl) (by kernel_rfl) (fun _ _ _ h => h) (Or.inl ⟨by rfl, ?up10⟩) (by assumption) ?rp10
        case up10 => (intro w hSw; (try dsimp only at hSw); go_simp; (try with_reducible rfl))
        simp only [Act.put, List.setIfInBounds_toArray, List.set_cons_zero, List.set_cons_succ]
        refine wpAnyH_take (i := 10) (oi := { dst := some 31, op := Op.load 2 (Operand.tmp 30), type := 2, pos := _, after := #[{ on := 9, ground := Ground.data }], guard := none }) (v := ?tp11) rfl (by kernel_rfl) (by kernel_rfl) (by kernel_rfl) (fun _ _ _ h => h) (Or.inl ⟨by rfl, ?up11⟩) (by assumption) ?rp11
        case up11 => (intro w hSw; (try dsimp only at hSw); go_simp; (try with_reducible rfl))
        simp only [Act.put, List.setIfInBounds_toArray, List.set_cons_zero, List.set_cons_succ]
        refine wpAnyH_ready (rs := [11]) (by kernel_rfl) (by simp) ?_
        refine AllReadyH.cons (o := { dst := some 32, op := Op.call { callee := Callee.value (Operand.func 20), args := #[Operand.tmp 21, Operand.tmp 26, Operand.tmp 31], argTypes := #[23, 2, 2] }, type := 4, pos := _, after := #[{ on := 0, ground := Ground.data }, { on := 5, ground := Ground.data }, { on := 10, ground := Ground.data }], guard := none }) rfl (fun K hK => ?_) AllReadyH.nil
        go_simp
        refine HA.out.mono ?_
        intro e w5 hAd
        obtain ⟨e5, LL5, wh5, kv5, be5, ow5⟩ := STEP.out _ w5 hAd
        have z0 := (be5.cell (p := ⟨g, o + j * 3, none⟩) hg).trans s0
        have z1 := (be5.cell (p := ⟨g, o + j * 3 + 1, none⟩) hg).trans s1
        have z2 := (be5.cell (p := ⟨g, o + j * 3 + 2, none⟩) hg).trans s2
        obtain ⟨B5, rfl⟩ := e5
        have be6 := Lib.hid be5
        have ow6 := Lib.hid ow5
        have kv6 := Lib.hid kv5
        have wh6 := Lib.hid wh5
        clear be5 ow5 kv5 wh5
        go_wp2_with fail
        refine hK.out _ _ ⟨z0, z1, z2⟩ (fun hH1 => ?_)
        clear hK K
        (try simp only [Act.put, List.setIfInBounds_toArray, List.set_cons_zero, List.set_cons_succ])
        refine wpAnyH_done (by kernel_rfl) ?_ _
        go_wp2_with fail
        exact ⟨⟨j + 1, LL5, by omega, by go_num, wh6.out, kv6.out, be6.out, ow6.out⟩, by simp [intOf]; omega⟩
      · have hk' : (x.1 == 1) = false := by simpa using hk
        have hw1 : whn T x = fa T x.2.1 := by unfold whn; rw [if_neg hk]
        have STEP : Hid (∀ e w5, Ad zf wr.drew b w.heap.size T LL (fa T x.2.1) x.2.2 e w5 → (∃ B, e = .returned (.bool B)) ∧ ∃ LL', Wn zf w.heap.size w w5 b w.heap.size T (setP T (S.take (j + 1))) LL') := Lib.hid (fun e w5 ha => by rw [STP, hw1]; exact add_step HW.out hsz ha)
        have HA := Lib.hid (add_any HW.out.1 (fa T x.2.1) x.2.2)
        have HN := Lib.hid (now_any HW.out.1)
        have HFa := Lib.hid (fun w => far_any T x.2.1 w ht)
        clear STP hw1 hk
        go_wp2_with fail
        change wr.drew.cell? _ = _ at c0 c1 c2
        refine wp_region_held_drew (S := (fun wx => wx.cell? ⟨g, o + j * 3, none⟩ = some (.int .i64 x.1) ∧ wx.cell? ⟨g, o + j * 3 + 1, none⟩ = some (.int .i64 x.2.1) ∧ wx.cell? ⟨g, o + j * 3 + 2, none⟩ = some (.int .i64 x.2.2))) (by kernel_rfl) ⟨c0, c1, c2⟩ (fun hHeld => ?_)
        generalize wr.drew = v1 at *
        refine wpAnyH_take (i := 0) (oi := { dst := some 33, op := Op.move (Operand.tmp 5), type := 23, pos := _, after := #[], guard := none }) (v := ?tq1) rfl (by kernel_rfl) (by kernel_rfl) (by kernel_rfl) (fun _ _ _ h => h) (Or.inl ⟨by rfl, ?uq1⟩) (by assumption) ?rq1
        case uq1 => (intro w hSw; (try dsimp only at hSw); go_simp; (try with_reducible rfl))
        simp only [Act.put, List.setIfInBounds_toArray, List.set_cons_zero, List.set_cons_succ]
        refine wpAnyH_take (i := 1) (oi := { dst := some 34, op := Op.move (Operand.tmp 5), type := 23, pos := _, after := #[], guard := none }) (v := ?tq2) rfl (by kernel_rfl) (by kernel_rfl) (by kernel_rfl) (fun _ _ _ h => h) (Or.inl ⟨by rfl, ?uq2⟩) (by assumption) ?rq2
        case uq2 => (intro w hSw; (try dsimp only at hSw); go_simp; (try with_reducible rfl))
        simp only [Act.put, List.setIfInBounds_toArray, List.set_cons_zero, List.set_cons_succ]
        refine wpAnyH_take (i := 3) (oi := { dst := some 36, op := Op.move (Operand.tmp 1), type := 22, pos := _, after := #[], guard := none }) (v := ?tq3) rfl (by kernel_rfl) (by kernel_rfl) (by kernel_rfl) (fun _ _ _ h => h) (Or.inl ⟨by rfl, ?uq3⟩) (by assumption) ?rq3
        case uq3 => (intro w hSw; (try dsimp only at hSw); go_simp; (try with_reducible rfl))
        simp only [Act.put, List.setIfInBounds_toArray, List.set_cons_zero, List.set_cons_succ]
        refine wpAnyH_take (i := 4) (oi := { dst := some 37, op := Op.move (Operand.tmp 6), type := 3, pos := _, after := #[], guard := none }) (v := ?tq4) rfl (by kernel_rfl) (by kernel_rfl) (by kernel_rfl) (fun _ _ _ h => h) (Or.inl ⟨by rfl, ?uq4⟩) (by assumption) ?rq4
        case uq4 => (intro w hSw; (try dsimp only at hSw); go_simp; (try with_reducible rfl))
        simp only [Act.put, List.setIfInBounds_toArray, List.set_cons_zero, List.set_cons_succ]
        refine wpAnyH_take (i := 5) (oi := { dst := some 38, op := Op.indexAddr 22 (Operand.tmp 36) (Operand.tmp 37), type := 0, pos := _, after := #[{ on := 3, ground := Ground.data }, { on := 4, ground := Ground.data }], guard := none }) (v := ?tq5) rfl (by kernel_rfl) (by kernel_rfl) (by kernel_rfl) (fun _ _ _ h => h) (Or.inl ⟨by rfl, ?uq5⟩) (by assumption) ?rq5
        case uq5 => (intro w hSw; (try dsimp only at hSw); go_simp; (try with_reducible rfl))
        simp only [Act.put, List.setIfInBounds_toArray, List.set_cons_zero, List.set_cons_succ]
        refine wpAnyH_take (i := 6) (oi := { dst := some 39, op := Op.fieldAddr 29 (Operand.tmp 38) 1, type := 0, pos := _, after := #[{ on := 5, ground := Ground.data }], guard := none }) (v := ?tq6) rfl (by kernel_rfl) (by kernel_rfl) (by kernel_rfl) (fun _ _ _ h => h) (Or.inl ⟨by rfl, ?uq6⟩) (by assumption) ?rq6
        case uq6 => (intro w hSw; (try dsimp only at hSw); go_simp; (try with_reducible rfl))
        simp only [Act.put, List.setIfInBounds_toArray, List.set_cons_zero, List.set_cons_succ]
        refine wpAnyH_take (i := 7) (oi := { dst := some 40, op := Op.load 2 (Operand.tmp 39), type := 2, pos := _, after := #[{ on := 6, ground := Ground.data }], guard := none }) (v := ?tq7) rfl (by kernel_rfl) (by kernel_rfl) (by kernel_rfl) (fun _ _ _ h => h) (Or.inl ⟨by rfl, ?uq7⟩) (by assumption) ?rq7
        case uq7 => (intro w hSw; (try dsimp only at hSw); go_simp; (try with_reducible rfl))
        simp only [Act.put, List.setIfInBounds_toArray, List.set_cons_zero, List.set_cons_succ]
        refine wpAnyH_take (i := 9) (oi := { dst := some 42, op := Op.move (Operand.tmp 1), type := 22, pos := _, after := #[], guard := none }) (v := ?tq8) rfl (by kernel_rfl) (by kernel_rfl) (by kernel_rfl) (fun _ _ _ h => h) (Or.inl ⟨by rfl, ?uq8⟩) (by assumption) ?rq8
        case uq8 => (intro w hSw; (try dsimp only at hSw); go_simp; (try with_reducible rfl))
        simp only [Act.put, List.setIfInBounds_toArray, List.set_cons_zero, List.set_cons_succ]
        refine wpAnyH_take (i := 10) (oi := { dst := some 43, op := Op.move (Operand.tmp 6), type := 3, pos := _, after := #[], guard := none }) (v := ?tq9) rfl (by kernel_rfl) (by kernel_rfl) (by kernel_rfl) (fun _ _ _ h => h) (Or.inl ⟨by rfl, ?uq9⟩) (by assumption) ?rq9
        case uq9 => (intro w hSw; (try dsimp only at hSw); go_simp; (try with_reducible rfl))
        simp only [Act.put, List.setIfInBounds_toArray, List.set_cons_zero, List.set_cons_succ]
        refine wpAnyH_take (i := 11) (oi := { dst := some 44, op := Op.indexAddr 22 (Operand.tmp 42) (Operand.tmp 43), type := 0, pos := _, after := #[{ on := 9, ground := Ground.data }, { on := 10, ground := Ground.data }], guard := none }) (v := ?tq10) rfl (by kernel_rfl) (by kernel_rfl) (by kernel_rfl) (fun _ _ _ h => h) (Or.inl ⟨by rfl, ?uq10⟩) (by assumption) ?rq10
        case uq10 => (intro w hSw; (try dsimp only at hSw); go_simp; (try with_reducible rfl))
        simp only [Act.put, List.setIfInBounds_toArray, List.set_cons_zero, List.set_cons_succ]
        refine wpAnyH_take (i := 12) (oi := { dst := some 45, op := Op.fieldAddr 29 (Operand.tmp 44) 2, type := 0, pos := _, after := #[{ on := 11, ground := Ground.data }], guard := none }) (v := ?tq11) rfl (by kernel_rfl) (by kernel_rfl) (by kernel_rfl) (fun _ _ _ h => h) (Or.inl ⟨by rfl, ?uq11⟩) (by assumption) ?rq11
        case uq11 => (intro w hSw; (try dsimp only at hSw); go_simp; (try with_reducible rfl))
        simp only [Act.put, List.setIfInBounds_toArray, List.set_cons_zero, List.set_cons_succ]
        refine wpAnyH_take (i := 13) (oi := { dst := some 46, op := Op.load 2 (Operand.tmp 45), type := 2, pos := _, after := #[{ on := 12, ground := Ground.data }], guard := none }) (v := ?tq12) rfl (by kernel_rfl) (by kernel_rfl) (by kernel_rfl) (fun _ _ _ h => h) (Or.inl ⟨by rfl, ?uq12⟩) (by assumption) ?rq12
        case uq12 => (intro w hSw; (try dsimp only at hSw); go_simp; (try with_reducible rfl))
        simp only [Act.put, List.setIfInBounds_toArray, List.set_cons_zero, List.set_cons_succ]
        refine wpAnyH_ready (rs := [2]) (by kernel_rfl) (by simp) ?_
        refine AllReadyH.cons (o := { dst := some 35, op := Op.call { callee := Callee.value (Operand.func 13), args := #[Operand.tmp 34], argTypes := #[23] }, type := 2, pos := _, after := #[{ on := 1, ground := Ground.data }], guard := none }) rfl (fun K hK => ?_) AllReadyH.nil
        go_simp
        refine HN.out.mono ?_
        rintro e w9 ⟨rfl, hw9⟩
        rw [hw9]
        clear hw9 w9
        go_wp2_with fail
        refine hK.out _ _ ⟨c0, c1, c2⟩ (fun hH2 => ?_)
        clear hK K
        (try simp only [Act.put, List.setIfInBounds_toArray, List.set_cons_zero, List.set_cons_succ])
        refine wpAnyH_ready (rs := [8]) (by kernel_rfl) (by simp) ?_
        refine AllReadyH.cons (o := { dst := some 41, op := Op.call { callee := Callee.value (Operand.func 14), args := #[Operand.tmp 35, Operand.tmp 40], argTypes := #[2, 2] }, type := 2, pos := _, after := #[{ on := 2, ground := Ground.data }, { on := 7, ground := Ground.data }, { on := 2, ground := Ground.chain }], guard := none }) rfl (fun K hK => ?_) AllReadyH.nil
        go_simp
        refine (HFa.out _).mono ?_
        rintro e w9 ⟨rfl, hw9⟩
        rw [hw9]
        clear hw9 w9
        go_wp2_with fail
        refine hK.out _ _ ⟨c0, c1, c2⟩ (fun hH3 => ?_)
        clear hK K
        (try simp only [Act.put, List.setIfInBounds_toArray, List.set_cons_zero, List.set_cons_succ])
        refine wpAnyH_ready (rs := [14]) (by kernel_rfl) (by simp) ?_
        refine AllReadyH.cons (o := { dst := some 47, op := Op.call { callee := Callee.value (Operand.func 20), args := #[Operand.tmp 33, Operand.tmp 41, Operand.tmp 46], argTypes := #[23, 2, 2] }, type := 4, pos := _, after := #[{ on := 0, ground := Ground.data }, { on := 8, ground := Ground.data }, { on := 13, ground := Ground.data }, { on := 8, ground := Ground.chain }], guard := none }) rfl (fun K hK => ?_) AllReadyH.nil
        go_simp
        refine HA.out.mono ?_
        intro e w5 hAd
        obtain ⟨e5, LL5, wh5, kv5, be5, ow5⟩ := STEP.out _ w5 hAd
        have z0 := (be5.cell (p := ⟨g, o + j * 3, none⟩) hg).trans s0
        have z1 := (be5.cell (p := ⟨g, o + j * 3 + 1, none⟩) hg).trans s1
        have z2 := (be5.cell (p := ⟨g, o + j * 3 + 2, none⟩) hg).trans s2
        obtain ⟨B5, rfl⟩ := e5
        have be6 := Lib.hid be5
        have ow6 := Lib.hid ow5
        have kv6 := Lib.hid kv5
        have wh6 := Lib.hid wh5
        clear be5 ow5 kv5 wh5
        go_wp2_with fail
        refine hK.out _ _ ⟨z0, z1, z2⟩ (fun hH4 => ?_)
        clear hK K
        (try simp only [Act.put, List.setIfInBounds_toArray, List.set_cons_zero, List.set_cons_succ])
        refine wpAnyH_done (by kernel_rfl) ?_ _
        go_wp2_with fail
        exact ⟨⟨j + 1, LL5, by omega, by go_num, wh6.out, kv6.out, be6.out, ow6.out⟩, by simp [intOf]; omega⟩
    · obtain rfl : j = S.length := by omega
      have HW := Lib.hid hwn
      clear hwn START
      go_wp2_with fail
      go_ret
      have := HW.out
      rw [List.take_length] at this
      rw [TT.out]
      exact ⟨b, w.heap.size, LL, rfl, this⟩
end Go.Proofs.YtignphkfknjllaaDoor
