/- The token that begins at a place: numbers and words; what is asked: the bytes lie in memory, and the package's variables as their text lays them. -/
import Derived.Test.YteohpiamfpnofabDoorSg
import Derived.Lib.SlBytesRow
namespace Go.Proofs.YteohpiamfpnofabDoor
open Go.RowKit

/-- The package's variables. -/
def Sv (w : World) : Prop := Spl w ∧ 3 < w.heap.size ∧ ∃ te pe, w.cell? ⟨3, 0, none⟩ = some (.iface te pe)
theorem Sv.below {w W : World} {n : Nat} (h : Sv w) (hB : Below n w W) (hn : w.heap.size ≤ n) : Sv W := by
  obtain ⟨h1, h2, te, pe, h3⟩ := h
  exact ⟨h1.below hB hn, Nat.lt_of_lt_of_le h2 (by have := hB.size; omega), te, pe, (hB.cell (p := ⟨3, 0, none⟩) (Nat.lt_of_lt_of_le h2 hn)).trans h3⟩

def tokV (k p q v : Nat) (s : Bs) : Value := .agg #[.int .i64 k, .int .i64 p, .int .i64 q, .int .u64 v, .string (bs s)]
def oneV (p : Nat) : One → Value
  | .inl e => .tuple #[tokV 0 0 0 0 [], .int .i64 e]
  | .inr (k, n, v, s) => .tuple #[tokV k p (p + n) v s, .int .i64 0]

theorem byt_bytes {w : World} {b o : Nat} {l : Bs} (h : Byt w b o l) : Lib.Bytes w b o (bs l) := fun i hi => by
  have hi' : i < l.length := by rw [bs_size] at hi; exact hi
  have e : (bs l)[i] = l[i] := by show l.toArray[i] = l[i]; simp
  rw [h i hi']
  exact congrArg (fun x : UInt8 => some (Value.int IntKind.u8 (x.toNat : Int))) e.symm
theorem conv_win {w : World} {b o : Nat} {l : Bs} (h : Byt w b o l) (k n cap : Nat) (hk : k + n ≤ l.length) : (convert 22 9 (.slice (some ⟨b, o + k, none⟩) n cap)).run Tryd.prog w = .ok (.string (bs ((l.drop k).take n))) w := by
  have := Lib.run_convert_window (P := Tryd.prog) w 22 5 9 und22 und5 und9 b o (bs l) (byt_bytes h) k n cap (by rw [bs_size]; exact hk)
  rw [this]
  have e : (bs l).extract k (k + n) = bs ((l.drop k).take n) := tl_inj.1 ?_
  · rw [e]
  rw [tl_bs, tl_data, ByteArray.data_extract, Array.toList_extract, List.extract_eq_take_drop]
  simp [bs]
theorem take_tw (P : UInt8 → Bool) (r : Bs) : r.take (r.takeWhile P).length = r.takeWhile P := by
  induction r with
  | nil => rfl
  | cons x t ih =>
    rw [List.takeWhile_cons]
    split
    · simp [ih]
    · rfl

theorem cls_num (x : UInt8) : (bits BinOp.and IntKind.u8 (cls x : Nat) (1 : Nat) != 0) = dig x := by
  unfold cls
  cases h1 : dig x with
  | true => simp only [if_true]; decide
  | false =>
    cases h2 : ltr x with
    | true => simp only [if_true, Bool.false_eq_true, if_false]; decide
    | false => cases blk x <;> (simp only [if_true, Bool.false_eq_true, if_false]; decide)
theorem cls_wrd (x : UInt8) : (bits BinOp.and IntKind.u8 (cls x : Nat) (2 : Nat) != 0) = wch x := by
  unfold cls wch
  cases h1 : dig x with
  | true => simp only [if_true, Bool.true_or]; decide
  | false =>
    cases h2 : ltr x with
    | true => simp only [if_true, Bool.false_eq_true, if_false, Bool.false_or]; decide
    | false => cases blk x <;> (simp only [if_true, Bool.false_eq_true, if_false, Bool.false_or]; decide)

/-- The world with the room that a call has for its token. -/
abbrev tz (w : World) : World := w.alloc (.cells #[.int .i64 0, .int .i64 0, .int .i64 0, .int .u64 0, .string ⟨#[]⟩] 32)
/-- A token's room. -/
def T5 (W : World) (B : Nat) (a b c d e : Value) : Prop := W.heap[B]? = some (.cells #[a, b, c, d, e] 32 (0, 0))
theorem T5.new (w : World) : T5 (tz w) w.heap.size (.int .i64 0) (.int .i64 0) (.int .i64 0) (.int .u64 0) (.string ⟨#[]⟩) := heap_alloc_new w _
theorem T5.below {A W : World} {B n : Nat} {a b c d e : Value} (h : T5 A B a b c d e) (hB : Below n A W) (hn : B < n) : T5 W B a b c d e := (hB.block B hn).trans h
theorem T5.c {W : World} {B : Nat} {a b c d e : Value} (h : T5 W B a b c d e) : W.cell? ⟨B, 0, none⟩ = some a ∧ W.cell? ⟨B, 1, none⟩ = some b ∧ W.cell? ⟨B, 2, none⟩ = some c ∧ W.cell? ⟨B, 3, none⟩ = some d ∧ W.cell? ⟨B, 4, none⟩ = some e := by
  unfold T5 at h
  refine ⟨?_, ?_, ?_, ?_, ?_⟩ <;> (simp only [World.cell?, h]; rfl)
theorem T5.f {W : World} {B o : Nat} {a b c d e : Value} (h : T5 W B a b c d e) : W.frozen? ⟨B, o, none⟩ = false := by
  unfold T5 at h
  simp [World.frozen?, h]

set_option maxRecDepth 100000 in
set_option maxHeartbeats 2000000 in
theorem word_any (b o c p : Nat) (l : Bs) (w : World) (hl : Byt w b o l) (hb : b < w.heap.size) (hp : p < l.length) (hs : l.length ≤ 65536) (hc : l.length ≤ c) (hv : Sv w) (hpos : 0 < ((l.drop p).takeWhile wch).length) :
    Calls Tryd.prog 16 #[.slice (some ⟨b, o, none⟩) l.length c, .int .i64 p] w fun e w' => e = .returned (oneV p (wrdT ((l.drop p).takeWhile wch))) ∧ Below w.heap.size w w' := by
  have HB := Lib.hid (below1 w (.cells #[.int .i64 0, .int .i64 0, .int .i64 0, .int .u64 0, .string ⟨#[]⟩] 32))
  have hl1 := hl.below HB.out hb
  have K1 := Lib.hid (run_any wch 2 cls_wrd b o c p l (tz w) hl1 (Nat.le_of_lt hp) hs)
  have h1 := tw_le wch (l.drop p)
  rw [List.length_drop] at h1
  have k2 := conv_win hl1 p ((l.drop p).takeWhile wch).length (c - p) (by omega)
  rw [take_tw] at k2
  generalize (l.drop p).takeWhile wch = d at K1 h1 k2 hpos
  generalize l.length = n at hp hs hc K1 h1
  have K3 := Lib.hid (kind_any (bs d) (tz w) (hv.below HB.out (Nat.le_refl _)).1)
  rw [tl_bs] at K3
  obtain ⟨R, hR⟩ : ∃ R, oneV p (wrdT d) = R := ⟨_, rfl⟩
  rw [hR]
  have HR := Lib.hid hR
  clear hl hl1 hR hv hb
  obtain ⟨m, hm⟩ : ∃ m, d.length = m := ⟨_, rfl⟩
  rw [hm] at K1 h1 k2 hpos
  have HM := Lib.hid hm
  clear hm
  go_enter Tryd.func16, Tryd.ntmps16
  go_wp2_with (first
    | (go_at_call 21; refine K1.out.mono ?_; rintro e w2 ⟨rfl, h2⟩; have h2' := h2.symm; subst h2')
    | (go_at_call 8; refine K3.out.mono ?_; rintro e w3 ⟨rfl, h3⟩; have h3' := h3.symm; subst h3'))
  · rename_i hh
    refine bodyPost_ret (v := .tuple #[.agg #[.int .i64 0, .int .i64 0, .int .i64 0, .int .u64 0, .string ⟨#[]⟩], .int .i64 63]) (by simp [results, Tryd.results16, go_sem]) rfl ⟨?_, HB.out⟩
    rw [← HR.out, wrdT, if_pos (by have := HM.out; omega)]; rfl
  · rename_i h4 h5
    refine bodyPost_ret (v := .tuple #[.agg #[.int .i64 1, .int .i64 p, .int .i64 (p + m : Nat), .int .u64 0, .string ⟨#[]⟩], .int .i64 0]) (by simp [results, Tryd.results16, go_sem]) rfl ⟨?_, below1 _ _⟩
    have h6 : kd d = 0 := by simp only [beq_iff_eq] at h5; omega
    rw [← HR.out, wrdT, if_neg (by have := HM.out; omega), if_pos h6, HM.out]; rfl
  · rename_i h4 h5
    refine bodyPost_ret (v := .tuple #[.agg #[.int .i64 (kd d), .int .i64 p, .int .i64 (p + m : Nat), .int .u64 0, .string ⟨#[]⟩], .int .i64 0]) (by simp [results, Tryd.results16, go_sem]) rfl ⟨?_, below1 _ _⟩
    have h6 : kd d ≠ 0 := by simp only [beq_eq_false_iff_ne, ne_eq] at h5; omega
    rw [← HR.out, wrdT, if_neg (by have := HM.out; omega), if_neg h6, HM.out]; rfl

theorem digs_ok : ∀ (l : Bs) (acc : Nat), (∀ x ∈ l, dig x = true) → Lib.parseUintM (2 ^ 64 - 1) acc l ≠ .«syntax»
  | [], acc, _ => by simp [Lib.parseUintM]
  | x :: r, acc, h => by
    have hx := h x List.mem_cons_self
    unfold dig at hx
    simp only [decide_eq_true_eq] at hx
    unfold Lib.parseUintM
    rw [if_pos hx]
    split
    · intro h; cases h
    · split
      · intro h; cases h
      · exact digs_ok r _ fun y hy => h y (List.mem_cons_of_mem _ hy)
theorem tw_all (P : UInt8 → Bool) : ∀ (l : Bs), ∀ x ∈ l.takeWhile P, P x = true
  | [], x, h => by cases h
  | y :: r, x, h => by
    rw [List.takeWhile_cons] at h
    split at h
    · rename_i hy
      rcases List.mem_cons.1 h with rfl | h
      · exact hy
      · exact tw_all P r x h
    · cases h

set_option maxRecDepth 100000 in
set_option maxHeartbeats 2000000 in
theorem number_any (b o c p : Nat) (l : Bs) (w : World) (hl : Byt w b o l) (hb : b < w.heap.size) (hp : p < l.length) (hs : l.length ≤ 65536) (hc : l.length ≤ c) (hv : Sv w) (hpos : 0 < ((l.drop p).takeWhile dig).length) :
    Calls Tryd.prog 15 #[.slice (some ⟨b, o, none⟩) l.length c, .int .i64 p] w fun e w' => e = .returned (oneV p (numT ((l.drop p).takeWhile dig))) ∧ Below w.heap.size w w' := by
  have HB := Lib.hid (below1 w (.cells #[.int .i64 0, .int .i64 0, .int .i64 0, .int .u64 0, .string ⟨#[]⟩] 32))
  have HV := Lib.hid (hv.below HB.out (Nat.le_refl _))
  have hl1 := hl.below HB.out hb
  have K1 := Lib.hid (run_any dig 1 cls_num b o c p l (tz w) hl1 (Nat.le_of_lt hp) hs)
  have h1 := tw_le dig (l.drop p)
  rw [List.length_drop] at h1
  have k2 := conv_win hl1 p ((l.drop p).takeWhile dig).length (c - p) (by omega)
  rw [take_tw] at k2
  have HA := Lib.hid (tw_all dig (l.drop p))
  have c1 := hl1 p hp
  have hd := drop_cons_of hp
  generalize l[p] = x at c1 hd
  have HH : Hid (((l.drop p).takeWhile dig).head? = some x) := by
    show ((l.drop p).takeWhile dig).head? = some x
    rw [hd] at hpos ⊢
    rw [List.takeWhile_cons] at hpos ⊢
    split
    · rfl
    · rename_i h; rw [if_neg h] at hpos; simp at hpos
  generalize (l.drop p).takeWhile dig = d at K1 h1 k2 hpos HA HH
  generalize l.length = n at hp hs hc K1 h1
  obtain ⟨R, hR⟩ : ∃ R, oneV p (numT d) = R := ⟨_, rfl⟩
  rw [hR]
  have HR := Lib.hid hR
  clear hl hl1 hR hv hb hd
  obtain ⟨m, hm⟩ : ∃ m, d.length = m := ⟨_, rfl⟩
  rw [hm] at K1 h1 k2 hpos
  have HM := Lib.hid hm
  clear hm
  by_cases hz : x.toNat = 48 ∧ 1 < m
  · have q1 : ((x.toNat : Int) == 48) = true := by simp; omega
    have q3 : (x.toNat : Int) = 48 := by omega
    have q2 : (p : Int) + 1 < (p : Int) + m := by omega
    go_enter Tryd.func15, Tryd.ntmps15
    go_wp2_with (first
      | (go_at_call 21; refine K1.out.mono ?_; rintro e w2 ⟨rfl, h2⟩; have h2' := h2.symm; subst h2'))
    refine bodyPost_ret (v := .tuple #[.agg #[.int .i64 0, .int .i64 0, .int .i64 0, .int .u64 0, .string ⟨#[]⟩], .int .i64 64]) (by simp [results, Tryd.results15, go_sem]) rfl ⟨?_, HB.out⟩
    rw [← HR.out, numT, if_pos ⟨by rw [HH.out]; exact congrArg some (UInt8.toNat_inj.1 hz.1), by rw [HM.out]; exact hz.2⟩]; rfl
  · have HE : Hid (numT d = numO d) := by
      show numT d = numO d
      rw [numT, if_neg]
      rintro ⟨h3, h4⟩
      rw [HH.out] at h3
      have := HM.out
      cases h3
      exact hz ⟨rfl, by omega⟩
    have HL : Hid (∀ W, Below (tz w).heap.size (tz w) W → T5 W w.heap.size (.int .i64 0) (.int .i64 0) (.int .i64 0) (.int .u64 0) (.string ⟨#[]⟩)) := fun W h => (T5.new w).below h (by simp)
    have hbd : (bs d).data.toList = d := by rw [← tl_data, tl_bs]
    have hbs : (bs d).size ≤ 65536 := by rw [bs_size, HM.out]; omega
    cases hE : Lib.parseUintB 64 d with
    | ok u =>
      have KP : Hid (Calls Tryd.prog 22 #[.string (bs d), .int .i64 10, .int .i64 64] (tz w) fun e w' => e = .returned (.tuple #[.int .u64 u, .nilIface]) ∧ Below (tz w).heap.size (tz w) w') :=
        (Tryd.strconv_ParseUint_10_at64_ok (bs d) (by omega) u (by rw [hbd]; exact hE) (tz w)).mono fun e w' ⟨h3, h4⟩ => ⟨h3, by
          rcases h4 with rfl | rfl
          · exact Below.refl _ _
          · exact Lib.bytesWorld_below _ _ _⟩
      go_enter Tryd.func15, Tryd.ntmps15
      go_wp2_with (first
        | (go_at_call 21; refine K1.out.mono ?_; rintro e w2 ⟨rfl, h2⟩; have h2' := h2.symm; subst h2')
        | (go_at_call 22; refine KP.out.mono ?_; rintro e w3 ⟨rfl, b3⟩; obtain ⟨c0, c1, c2, c3, c4⟩ := (HL.out w3 b3).c; have fz : ∀ o, w3.frozen? ⟨w.heap.size, o, none⟩ = false := fun o => (HL.out w3 b3).f))
      all_goals (
        have B := HB.out.trans (b3.mono (by simp))
        refine bodyPost_ret (v := .tuple #[.agg #[.int .i64 2, .int .i64 p, .int .i64 (p + m : Nat), .int .u64 u, .string ⟨#[]⟩], .int .i64 0]) (by simp [results, Tryd.results15, go_sem, World.cell?_setCell_same, World.cell?_setCell_other, c0, c1, c2, c3, c4]) rfl ⟨?_, ((((B.setCell (Nat.le_refl _) _).setCell (Nat.le_refl _) _).setCell (Nat.le_refl _) _).setCell (Nat.le_refl _) _).setCell (Nat.le_refl _) _⟩
        rw [← HR.out, HE.out, numO, hE, HM.out]; rfl)
    | «range» =>
      obtain ⟨_, _, te, pe, hev⟩ := HV.out
      have KP : Hid (Calls Tryd.prog 22 #[.string (bs d), .int .i64 10, .int .i64 64] (tz w) fun e w' => ∃ N, e = .returned (.tuple #[.int .u64 18446744073709551615, .iface 61 (.pointer (some ⟨N, 0, none⟩))]) ∧ Below (tz w).heap.size (tz w) w') :=
        (Tryd.strconv_ParseUint_10_at64_range (bs d) (by omega) (by rw [hbd]; exact hE) (.iface te pe) (tz w) hev (.inr ⟨te, pe, rfl⟩)).mono fun e w' ⟨N, h3, h4, h5, h6⟩ => ⟨N, h3, h6⟩
      clear hev
      go_enter Tryd.func15, Tryd.ntmps15
      go_wp2_with (first
        | (go_at_call 21; refine K1.out.mono ?_; rintro e w2 ⟨rfl, h2⟩; have h2' := h2.symm; subst h2')
        | (go_at_call 22; refine KP.out.mono ?_; rintro e w3 ⟨N, rfl, b3⟩; obtain ⟨c0, c1, c2, c3, c4⟩ := (HL.out w3 b3).c; have fz : ∀ o, w3.frozen? ⟨w.heap.size, o, none⟩ = false := fun o => (HL.out w3 b3).f))
      all_goals (
        have B := HB.out.trans (b3.mono (by simp))
        refine bodyPost_ret (v := .tuple #[.agg #[.int .i64 0, .int .i64 0, .int .i64 0, .int .u64 0, .string ⟨#[]⟩], .int .i64 64]) (by simp [results, Tryd.results15, go_sem, World.cell?_setCell_same, World.cell?_setCell_other, c0, c1, c2, c3, c4]) rfl ⟨?_, ((((B.setCell (Nat.le_refl _) _).setCell (Nat.le_refl _) _).setCell (Nat.le_refl _) _).setCell (Nat.le_refl _) _).setCell (Nat.le_refl _) _⟩
        rw [← HR.out, HE.out, numO, hE]; rfl)
    | «syntax» =>
      exfalso
      unfold Lib.parseUintB at hE
      split at hE
      · rename_i h; rw [h] at HM; have := HM.out; simp at this; omega
      · exact digs_ok d 0 HA.out hE
end Go.Proofs.YteohpiamfpnofabDoor
