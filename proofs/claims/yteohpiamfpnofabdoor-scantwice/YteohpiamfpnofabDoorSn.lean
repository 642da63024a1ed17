/- Quote and Unquote in the package; no condition but those that each theorem names. -/
import Derived.Test.YteohpiamfpnofabDoorSi
namespace Go.Proofs.YteohpiamfpnofabDoor
open Go.RowKit Go.Maps

theorem idx16 (n : Nat) (hn : n < 16) (W : World) : (Instr.index 9 (.string ⟨#[48, 49, 50, 51, 52, 53, 54, 55, 56, 57, 97, 98, 99, 100, 101, 102]⟩) (.int .u8 (n : Nat))).run Tryd.prog W = .ok (.int .u8 ((hxd n).toNat : Int)) W := by
  have : n = 0 ∨ n = 1 ∨ n = 2 ∨ n = 3 ∨ n = 4 ∨ n = 5 ∨ n = 6 ∨ n = 7 ∨ n = 8 ∨ n = 9 ∨ n = 10 ∨ n = 11 ∨ n = 12 ∨ n = 13 ∨ n = 14 ∨ n = 15 := by omega
  rcases this with rfl | rfl | rfl | rfl | rfl | rfl | rfl | rfl | rfl | rfl | rfl | rfl | rfl | rfl | rfl | rfl
  all_goals (show _ = _; kernel_rfl)

theorem qb_len (b : UInt8) : (qb b).length ≤ 4 := by
  unfold qb
  split
  · simp
  · split <;> simp
theorem cellsN (w : World) (xs : List Value) (t : TypeId) : ∀ j u, xs[j]? = some u → (w.alloc (.cells xs.toArray t)).cell? ((⟨w.heap.size, 0, none⟩ : Addr).add j) = some u := fun j u h => by
  rw [WideShapes.add_plain, Nat.zero_add, cell_new w xs.toArray t (0, 0) j]
  simpa using h
theorem byte_at (s : ByteArray) (j : Nat) (h : j < s.size) : ∃ h2 : j < (tl s).length, (tl s)[j] = s[j] := by
  have e : tl s = s.data.toList := tl_data s
  refine ⟨by rw [tl_size]; exact h, ?_⟩
  simp only [e, Array.getElem_toList]
  rfl
theorem flat_len : ∀ l : Bs, (l.flatMap qb).length ≤ 4 * l.length
  | [] => by simp
  | b :: r => by have := flat_len r; have := qb_len b; simp only [List.flatMap_cons, List.length_append, List.length_cons]; omega
theorem flat_take (l : Bs) (j : Nat) (hj : j < l.length) : (l.take (j + 1)).flatMap qb = (l.take j).flatMap qb ++ qb l[j] := by
  rw [List.take_add_one, List.getElem?_eq_getElem hj, List.flatMap_append]
  simp
theorem own_lit (w : World) (x : UInt8) : Own (w.alloc (.cells #[.int .u8 (x.toNat : Int)] 5)) w.heap.size (.slice (some ⟨w.heap.size, 0, none⟩) 1 1) [x] :=
  ⟨rfl, .inr ⟨w.heap.size, 1, _, rfl, Nat.le_refl _, heap_alloc_new w _, Nat.le_refl _, by decide, rfl, rfl⟩⟩

set_option maxRecDepth 100000 in
theorem and15 (x : UInt8) : bits BinOp.and IntKind.u8 (x.toNat : Int) 15 = ((x.toNat % 16 : Nat) : Int) := by
  have : ∀ x : Fin 256, bits BinOp.and IntKind.u8 ((x.val : Nat) : Int) 15 = ((x.val % 16 : Nat) : Int) := by decide
  exact this ⟨x.toNat, x.toNat_lt⟩
theorem own_app {W : World} {B : Nat} {v : Value} {pre new : Bs} (h : W.ownsRow B 5 1 v (pre.length + new.length) ((pre.map fun x => .int .u8 (x.toNat : Int)) ++ new.map fun x => .int .u8 (x.toNat : Int))) : Own W B v (pre ++ new) := by
  unfold Own
  rw [List.length_append, List.map_append]
  exact h

set_option maxRecDepth 100000 in
set_option maxHeartbeats 4000000 in
theorem quote_any (s : ByteArray) (w : World) (hs : s.size ≤ 1048576) : Calls Tryd.prog 10 #[.string s] w fun e w' => e = .returned (.string (bs (qt (tl s)))) ∧ Below w.heap.size w w' := by
  obtain ⟨i0, hi0, hz0, hz1, hz2⟩ := info_parts infoU8
  obtain ⟨Q, hQ⟩ : ∃ Q, bs (qt (tl s)) = Q := ⟨_, rfl⟩
  rw [hQ]
  have HQ := Lib.hid hQ
  clear hQ
  have hl0 := Lib.hid (own_lit w 34)
  go_enter Tryd.func10, Tryd.ntmps10
  go_wp2
  go_loopg [3, 4] s.size (fun gk s3 s4 wx => ∃ (j : Nat) (a : Option Addr) (cp : Nat) (pre : Bs), j ≤ s.size ∧ gk = s.size - j ∧ s4 = .int .i64 j ∧ s3 = .slice a pre.length cp ∧ Own wx w.heap.size s3 pre ∧ pre = 34 :: ((tl s).take j).flatMap qb ∧ Below w.heap.size w wx)
  case atStart => exact ⟨0, _, _, [34], Nat.zero_le _, rfl, rfl, rfl, hl0.out, rfl, below1 _ _⟩
  case round =>
    obtain ⟨j, a, cp, pre, hjn, rfl, rfl, rfl, ho, hpre, hbw⟩ := hrel
    have HP := Lib.hid hpre
    have HW := Lib.hid hbw
    have HO := Lib.hid ho
    have hpl : pre.length ≤ 1 + 4 * j := by
      rw [hpre, List.length_cons]
      have := flat_len ((tl s).take j)
      have h2 : ((tl s).take j).length ≤ j := by simp; omega
      omega
    have hz := hbw.size
    clear hpre hbw ho hl0
    by_cases hj : j = s.size
    · have hj1 : ((j : Int) < (s.size : Int)) = False := by simp; omega
      go_wp2_with (first
        | (at_builtin; refine wpList_append_own_at _ rfl _ _ 22 rfl w.heap.size 5 i0 (.int .u8 0) 1 1 Tryd.underlying22 hi0 hz0 hz1 hz2 rfl (by decide) (.slice a pre.length cp) _ _ rfl (HO.out.alloc _) ⟨wr.heap.size, 0, none⟩ 1 1 [.int .u8 34] rfl rfl (cell_one_new _ _ _) (by simp [Value.oneCell']) (by unfold maxLen; omega) (by omega) (by simp; omega) ?_; intro v4 w4 ho4 hg4 hn4 ha4; have kv := conv_own (own_app (new := [34]) ho4)))
      go_ret
      refine ⟨?_, below_grown (HW.out.alloc hz _) hg4 (HO.out.alloc _) (Nat.le_refl _)⟩
      rw [← HQ.out, HP.out, hj, qt, List.take_of_length_le (by rw [tl_size]; exact Nat.le_refl _)]
      rfl
    · have hj3 : j < s.size := by omega
      have hj2 : (j : Int) < (s.size : Int) := by omega
      have HX : Hid (((tl s).take (j + 1)).flatMap qb = ((tl s).take j).flatMap qb ++ qb s[j]) := by
        obtain ⟨h2, h3⟩ := byte_at s j hj3
        show _ = _
        rw [flat_take _ _ h2, h3]
      by_cases h34 : (s[j]).toNat = 34
      · have q1 : (((s[j]).toNat : Int) == 34) = true := by simp [h34]
        have HB : Hid (qb s[j] = [92, 34]) := by show qb s[j] = _; rw [qb, if_pos (.inl h34), UInt8.toNat_inj.1 (show (s[j]).toNat = (34 : UInt8).toNat from h34)]
        go_wp2_with (first
          | (at_builtin; refine wpList_append_own_at _ rfl _ _ 22 rfl w.heap.size 5 i0 (.int .u8 0) 1 1 Tryd.underlying22 hi0 hz0 hz1 hz2 rfl (by decide) (.slice a pre.length cp) _ _ rfl (HO.out.alloc _) ⟨wr.heap.size, 0, none⟩ 2 2 [.int .u8 92, .int .u8 34] rfl rfl (cellsN _ _ _) (by simp [Value.oneCell']) (by unfold maxLen; omega) (by omega) (by simp; omega) ?_; intro v4 w4 ho4 hg4 hn4 ha4; obtain ⟨a4, d4, rfl⟩ := own_slice ho4))
        go_roundg (s.size - (j + 1))
        case measure => omega
        case rel =>
          refine ⟨j + 1, a4, d4, pre ++ [92, 34], by omega, rfl, by first | rfl | simp, by simp, own_app ho4, ?_, below_grown (HW.out.alloc hz _) hg4 (HO.out.alloc _) (Nat.le_refl _)⟩
          rw [HX.out, HB.out, HP.out]; rfl
      · have q1 : (((s[j]).toNat : Int) == 34) = false := by simp; omega
        by_cases h92 : (s[j]).toNat = 92
        · have q2 : (((s[j]).toNat : Int) == 92) = true := by simp [h92]
          have HB : Hid (qb s[j] = [92, 92]) := by show qb s[j] = _; rw [qb, if_pos (.inr h92), UInt8.toNat_inj.1 (show (s[j]).toNat = (92 : UInt8).toNat from h92)]
          go_wp2_with (first
            | (at_builtin; refine wpList_append_own_at _ rfl _ _ 22 rfl w.heap.size 5 i0 (.int .u8 0) 1 1 Tryd.underlying22 hi0 hz0 hz1 hz2 rfl (by decide) (.slice a pre.length cp) _ _ rfl (HO.out.alloc _) ⟨wr.heap.size, 0, none⟩ 2 2 [.int .u8 92, .int .u8 92] rfl rfl (cellsN _ _ _) (by simp [Value.oneCell']) (by unfold maxLen; omega) (by omega) (by simp; omega) ?_; intro v4 w4 ho4 hg4 hn4 ha4; obtain ⟨a4, d4, rfl⟩ := own_slice ho4))
          go_roundg (s.size - (j + 1))
          case measure => omega
          case rel =>
            refine ⟨j + 1, a4, d4, pre ++ [92, 92], by omega, rfl, by first | rfl | simp, by simp, own_app ho4, ?_, below_grown (HW.out.alloc hz _) hg4 (HO.out.alloc _) (Nat.le_refl _)⟩
            rw [HX.out, HB.out, HP.out]; rfl
        · have q2 : (((s[j]).toNat : Int) == 92) = false := by simp; omega
          by_cases hlow : (s[j]).toNat < 32 ∨ 126 < (s[j]).toNat
          · have HB : Hid (qb s[j] = [92, 120, hxd ((s[j]).toNat / 16), hxd ((s[j]).toNat % 16)]) := by show qb s[j] = _; rw [qb, if_neg (by omega), if_pos hlow]
            have q3 : (((s[j]).toNat : Int) < 32 ∨ 126 < ((s[j]).toNat : Int)) := by omega
            have hu := u8_lt s[j]
            have ix1 : ∀ W, (Instr.index 9 (.string ⟨#[48, 49, 50, 51, 52, 53, 54, 55, 56, 57, 97, 98, 99, 100, 101, 102]⟩) (.int .u8 (((s[j]).toNat : Int) / 16))).run Tryd.prog W = .ok (.int .u8 ((hxd ((s[j]).toNat / 16)).toNat : Int)) W := fun W => idx16 ((s[j]).toNat / 16) (by omega) W
            have ix2 : ∀ W, (Instr.index 9 (.string ⟨#[48, 49, 50, 51, 52, 53, 54, 55, 56, 57, 97, 98, 99, 100, 101, 102]⟩) (.int .u8 (bits BinOp.and IntKind.u8 ((s[j]).toNat : Int) 15))).run Tryd.prog W = .ok (.int .u8 ((hxd ((s[j]).toNat % 16)).toNat : Int)) W := fun W => by rw [and15]; exact idx16 ((s[j]).toNat % 16) (by omega) W
            by_cases hl32 : (s[j]).toNat < 32
            · have q4 : ((s[j]).toNat : Int) < 32 := by omega
              go_wp2
              refine wp_region_held_drew (S := fun _ => True) (by kernel_rfl) trivial (fun hHeld => ?_)
              refine wpAnyH_take (i := 0) (oi := { dst := some 38, op := Op.move (Operand.tmp 3), type := 22, pos := "quote.go:16", after := #[], guard := none }) (v := ?tv0a) rfl (by kernel_rfl) (by kernel_rfl) (by kernel_rfl) (fun _ _ _ h => h) (Or.inl ⟨by rfl, ?ty0a⟩) (by assumption) ?tr0a
              case ty0a => (intro w hSw; go_simp; (try with_reducible rfl))
              simp only [Act.put, List.setIfInBounds_toArray, List.set_cons_zero, List.set_cons_succ]
              refine wpAnyH_take (i := 1) (oi := { dst := some 39, op := Op.move (Operand.tmp 5), type := 5, pos := "quote.go:16", after := #[], guard := none }) (v := ?tv1a) rfl (by kernel_rfl) (by kernel_rfl) (by kernel_rfl) (fun _ _ _ h => h) (Or.inl ⟨by rfl, ?ty1a⟩) (by assumption) ?tr1a
              case ty1a => (intro w hSw; go_simp; (try with_reducible rfl))
              simp only [Act.put, List.setIfInBounds_toArray, List.set_cons_zero, List.set_cons_succ]
              refine wpAnyH_take (i := 2) (oi := { dst := some 40, op := Op.binOp BinOp.shr 5 (Operand.tmp 39) (Operand.const (Value.int IntKind.u64 4)) 46, type := 5, pos := "quote.go:16", after := #[{ on := 1, ground := Ground.data }], guard := none }) (v := ?tv2a) rfl (by kernel_rfl) (by kernel_rfl) (by kernel_rfl) (fun _ _ _ h => h) (Or.inl ⟨by rfl, ?ty2a⟩) (by assumption) ?tr2a
              case ty2a => (intro w hSw; go_simp; (try with_reducible rfl))
              simp only [Act.put, List.setIfInBounds_toArray, List.set_cons_zero, List.set_cons_succ]
              refine wpAnyH_take (i := 3) (oi := { dst := some 41, op := Op.index 9 (Operand.const (Value.string { data := #[48, 49, 50, 51, 52, 53, 54, 55, 56, 57, 97, 98, 99, 100, 101, 102] })) (Operand.tmp 40), type := 5, pos := "quote.go:16", after := #[{ on := 2, ground := Ground.data }], guard := none }) (v := ?tv3a) rfl (by kernel_rfl) (by kernel_rfl) (by kernel_rfl) (fun _ _ _ h => h) (Or.inl ⟨by rfl, ?ty3a⟩) (by assumption) ?tr3a
              case ty3a => (intro w hSw; go_simp; (try with_reducible rfl))
              simp only [Act.put, List.setIfInBounds_toArray, List.set_cons_zero, List.set_cons_succ]
              refine wpAnyH_take (i := 4) (oi := { dst := some 42, op := Op.move (Operand.tmp 5), type := 5, pos := "quote.go:16", after := #[], guard := none }) (v := ?tv4a) rfl (by kernel_rfl) (by kernel_rfl) (by kernel_rfl) (fun _ _ _ h => h) (Or.inl ⟨by rfl, ?ty4a⟩) (by assumption) ?tr4a
              case ty4a => (intro w hSw; go_simp; (try with_reducible rfl))
              simp only [Act.put, List.setIfInBounds_toArray, List.set_cons_zero, List.set_cons_succ]
              refine wpAnyH_take (i := 5) (oi := { dst := some 43, op := Op.binOp BinOp.and 5 (Operand.tmp 42) (Operand.const (Value.int IntKind.u8 15)) 5, type := 5, pos := "quote.go:16", after := #[{ on := 4, ground := Ground.data }], guard := none }) (v := ?tv5a) rfl (by kernel_rfl) (by kernel_rfl) (by kernel_rfl) (fun _ _ _ h => h) (Or.inl ⟨by rfl, ?ty5a⟩) (by assumption) ?tr5a
              case ty5a => (intro w hSw; go_simp; (try with_reducible rfl))
              simp only [Act.put, List.setIfInBounds_toArray, List.set_cons_zero, List.set_cons_succ]
              refine wpAnyH_take (i := 6) (oi := { dst := some 44, op := Op.index 9 (Operand.const (Value.string { data := #[48, 49, 50, 51, 52, 53, 54, 55, 56, 57, 97, 98, 99, 100, 101, 102] })) (Operand.tmp 43), type := 5, pos := "quote.go:16", after := #[{ on := 5, ground := Ground.data }], guard := none }) (v := ?tv6a) rfl (by kernel_rfl) (by kernel_rfl) (by kernel_rfl) (fun _ _ _ h => h) (Or.inl ⟨by rfl, ?ty6a⟩) (by assumption) ?tr6a
              case ty6a => (intro w hSw; go_simp; (try with_reducible rfl))
              simp only [Act.put, List.setIfInBounds_toArray, List.set_cons_zero, List.set_cons_succ]
              refine wpAnyH_ready (rs := [7]) (by kernel_rfl) (by simp) ?_
              refine AllReadyH.cons (o := { dst := some 45, op := Op.buildSlice 22 4 #[(0, Operand.const (Value.int IntKind.u8 92)), (1, Operand.const (Value.int IntKind.u8 120)), (2, Operand.tmp 41), (3, Operand.tmp 44)], type := 22, pos := "quote.go:16", after := #[{ on := 3, ground := Ground.data }, { on := 6, ground := Ground.data }], guard := none }) rfl (fun K hK => ?_) AllReadyH.nil
              go_simp
              refine hK.out _ _ trivial (fun hHeld2 => ?_)
              clear hK K hHeld
              refine wpAnyH_ready (rs := [8]) (by kernel_rfl) (by simp) ?_
              refine AllReadyH.cons (o := { dst := some 46, op := Op.call { callee := Callee.builtin Builtin.append, args := #[Operand.tmp 38, Operand.tmp 45], argTypes := #[22, 22] }, type := 22, pos := "quote.go:16", after := #[{ on := 0, ground := Ground.data }, { on := 7, ground := Ground.data }], guard := none }) rfl (fun K hK => ?_) AllReadyH.nil
              rw [if_pos (by rfl)]
              refine wp_append_own _ _ _ 22 rfl w.heap.size 5 i0 (.int .u8 0) 1 1 Tryd.underlying22 hi0 hz0 hz1 hz2 rfl (by decide) (.slice a pre.length cp) _ _ rfl (HO.out.drew.alloc _) ⟨wr.heap.size, 0, none⟩ 4 4 [.int .u8 92, .int .u8 120, .int .u8 ((hxd ((s[j]).toNat / 16)).toNat : Int), .int .u8 ((hxd ((s[j]).toNat % 16)).toNat : Int)] rfl rfl (cellsN wr.drew _ _) (by simp [Value.oneCell']) (by unfold maxLen; omega) (by omega) (by simp; omega) ?_
              intro v4 w4 ho4 hg4 hn4
              obtain ⟨a4, d4, rfl⟩ := own_slice ho4
              refine hK.out _ _ trivial (fun hHeld3 => ?_)
              clear hK K hHeld2
              refine wpAnyH_take (i := 9) (oi := { dst := some 3, op := Op.assign (Operand.tmp 46), type := 22, pos := "quote.go:16", after := #[{ on := 8, ground := Ground.data }, { on := 8, ground := Ground.chain }, { on := 0, ground := Ground.phase }, { on := 1, ground := Ground.phase }, { on := 2, ground := Ground.phase }, { on := 3, ground := Ground.phase }, { on := 4, ground := Ground.phase }, { on := 5, ground := Ground.phase }, { on := 6, ground := Ground.phase }, { on := 7, ground := Ground.phase }, { on := 8, ground := Ground.phase }], guard := none }) (v := ?tv9a) rfl (by kernel_rfl) (by kernel_rfl) (by kernel_rfl) (fun _ _ _ h => h) (Or.inl ⟨by rfl, ?ty9a⟩) (by assumption) ?tr9a
              case ty9a => (intro w hSw; go_simp; (try with_reducible rfl))
              simp only [Act.put, List.setIfInBounds_toArray, List.set_cons_zero, List.set_cons_succ]
              refine wpAnyH_done (by kernel_rfl) ?_ _
              go_wp2
              go_roundg (s.size - (j + 1))
              case measure => omega
              case rel =>
                refine ⟨j + 1, a4, d4, pre ++ [92, 120, hxd ((s[j]).toNat / 16), hxd ((s[j]).toNat % 16)], by omega, rfl, by first | rfl | simp, by simp, own_app ho4, ?_, below_grown ((Below.drew HW.out).alloc hz _) hg4 (HO.out.drew.alloc _) (Nat.le_refl _)⟩
                rw [HX.out, HB.out, HP.out]; rfl
            · have q4 : ¬ ((s[j]).toNat : Int) < 32 := by omega
              have q5 : 126 < ((s[j]).toNat : Int) := by omega
              go_wp2
              refine wp_region_held_drew (S := fun _ => True) (by kernel_rfl) trivial (fun hHeld => ?_)
              refine wpAnyH_take (i := 0) (oi := { dst := some 38, op := Op.move (Operand.tmp 3), type := 22, pos := "quote.go:16", after := #[], guard := none }) (v := ?tv0b) rfl (by kernel_rfl) (by kernel_rfl) (by kernel_rfl) (fun _ _ _ h => h) (Or.inl ⟨by rfl, ?ty0b⟩) (by assumption) ?tr0b
              case ty0b => (intro w hSw; go_simp; (try with_reducible rfl))
              simp only [Act.put, List.setIfInBounds_toArray, List.set_cons_zero, List.set_cons_succ]
              refine wpAnyH_take (i := 1) (oi := { dst := some 39, op := Op.move (Operand.tmp 5), type := 5, pos := "quote.go:16", after := #[], guard := none }) (v := ?tv1b) rfl (by kernel_rfl) (by kernel_rfl) (by kernel_rfl) (fun _ _ _ h => h) (Or.inl ⟨by rfl, ?ty1b⟩) (by assumption) ?tr1b
              case ty1b => (intro w hSw; go_simp; (try with_reducible rfl))
              simp only [Act.put, List.setIfInBounds_toArray, List.set_cons_zero, List.set_cons_succ]
              refine wpAnyH_take (i := 2) (oi := { dst := some 40, op := Op.binOp BinOp.shr 5 (Operand.tmp 39) (Operand.const (Value.int IntKind.u64 4)) 46, type := 5, pos := "quote.go:16", after := #[{ on := 1, ground := Ground.data }], guard := none }) (v := ?tv2b) rfl (by kernel_rfl) (by kernel_rfl) (by kernel_rfl) (fun _ _ _ h => h) (Or.inl ⟨by rfl, ?ty2b⟩) (by assumption) ?tr2b
              case ty2b => (intro w hSw; go_simp; (try with_reducible rfl))
              simp only [Act.put, List.setIfInBounds_toArray, List.set_cons_zero, List.set_cons_succ]
              refine wpAnyH_take (i := 3) (oi := { dst := some 41, op := Op.index 9 (Operand.const (Value.string { data := #[48, 49, 50, 51, 52, 53, 54, 55, 56, 57, 97, 98, 99, 100, 101, 102] })) (Operand.tmp 40), type := 5, pos := "quote.go:16", after := #[{ on := 2, ground := Ground.data }], guard := none }) (v := ?tv3b) rfl (by kernel_rfl) (by kernel_rfl) (by kernel_rfl) (fun _ _ _ h => h) (Or.inl ⟨by rfl, ?ty3b⟩) (by assumption) ?tr3b
              case ty3b => (intro w hSw; go_simp; (try with_reducible rfl))
              simp only [Act.put, List.setIfInBounds_toArray, List.set_cons_zero, List.set_cons_succ]
              refine wpAnyH_take (i := 4) (oi := { dst := some 42, op := Op.move (Operand.tmp 5), type := 5, pos := "quote.go:16", after := #[], guard := none }) (v := ?tv4b) rfl (by kernel_rfl) (by kernel_rfl) (by kernel_rfl) (fun _ _ _ h => h) (Or.inl ⟨by rfl, ?ty4b⟩) (by assumption) ?tr4b
              case ty4b => (intro w hSw; go_simp; (try with_reducible rfl))
              simp only [Act.put, List.setIfInBounds_toArray, List.set_cons_zero, List.set_cons_succ]
              refine wpAnyH_take (i := 5) (oi := { dst := some 43, op := Op.binOp BinOp.and 5 (Operand.tmp 42) (Operand.const (Value.int IntKind.u8 15)) 5, type := 5, pos := "quote.go:16", after := #[{ on := 4, ground := Ground.data }], guard := none }) (v := ?tv5b) rfl (by kernel_rfl) (by kernel_rfl) (by kernel_rfl) (fun _ _ _ h => h) (Or.inl ⟨by rfl, ?ty5b⟩) (by assumption) ?tr5b
              case ty5b => (intro w hSw; go_simp; (try with_reducible rfl))
              simp only [Act.put, List.setIfInBounds_toArray, List.set_cons_zero, List.set_cons_succ]
              refine wpAnyH_take (i := 6) (oi := { dst := some 44, op := Op.index 9 (Operand.const (Value.string { data := #[48, 49, 50, 51, 52, 53, 54, 55, 56, 57, 97, 98, 99, 100, 101, 102] })) (Operand.tmp 43), type := 5, pos := "quote.go:16", after := #[{ on := 5, ground := Ground.data }], guard := none }) (v := ?tv6b) rfl (by kernel_rfl) (by kernel_rfl) (by kernel_rfl) (fun _ _ _ h => h) (Or.inl ⟨by rfl, ?ty6b⟩) (by assumption) ?tr6b
              case ty6b => (intro w hSw; go_simp; (try with_reducible rfl))
              simp only [Act.put, List.setIfInBounds_toArray, List.set_cons_zero, List.set_cons_succ]
              refine wpAnyH_ready (rs := [7]) (by kernel_rfl) (by simp) ?_
              refine AllReadyH.cons (o := { dst := some 45, op := Op.buildSlice 22 4 #[(0, Operand.const (Value.int IntKind.u8 92)), (1, Operand.const (Value.int IntKind.u8 120)), (2, Operand.tmp 41), (3, Operand.tmp 44)], type := 22, pos := "quote.go:16", after := #[{ on := 3, ground := Ground.data }, { on := 6, ground := Ground.data }], guard := none }) rfl (fun K hK => ?_) AllReadyH.nil
              go_simp
              refine hK.out _ _ trivial (fun hHeld2 => ?_)
              clear hK K hHeld
              refine wpAnyH_ready (rs := [8]) (by kernel_rfl) (by simp) ?_
              refine AllReadyH.cons (o := { dst := some 46, op := Op.call { callee := Callee.builtin Builtin.append, args := #[Operand.tmp 38, Operand.tmp 45], argTypes := #[22, 22] }, type := 22, pos := "quote.go:16", after := #[{ on := 0, ground := Ground.data }, { on := 7, ground := Ground.data }], guard := none }) rfl (fun K hK => ?_) AllReadyH.nil
              rw [if_pos (by rfl)]
              refine wp_append_own _ _ _ 22 rfl w.heap.size 5 i0 (.int .u8 0) 1 1 Tryd.underlying22 hi0 hz0 hz1 hz2 rfl (by decide) (.slice a pre.length cp) _ _ rfl (HO.out.drew.alloc _) ⟨wr.heap.size, 0, none⟩ 4 4 [.int .u8 92, .int .u8 120, .int .u8 ((hxd ((s[j]).toNat / 16)).toNat : Int), .int .u8 ((hxd ((s[j]).toNat % 16)).toNat : Int)] rfl rfl (cellsN wr.drew _ _) (by simp [Value.oneCell']) (by unfold maxLen; omega) (by omega) (by simp; omega) ?_
              intro v4 w4 ho4 hg4 hn4
              obtain ⟨a4, d4, rfl⟩ := own_slice ho4
              refine hK.out _ _ trivial (fun hHeld3 => ?_)
              clear hK K hHeld2
              refine wpAnyH_take (i := 9) (oi := { dst := some 3, op := Op.assign (Operand.tmp 46), type := 22, pos := "quote.go:16", after := #[{ on := 8, ground := Ground.data }, { on := 8, ground := Ground.chain }, { on := 0, ground := Ground.phase }, { on := 1, ground := Ground.phase }, { on := 2, ground := Ground.phase }, { on := 3, ground := Ground.phase }, { on := 4, ground := Ground.phase }, { on := 5, ground := Ground.phase }, { on := 6, ground := Ground.phase }, { on := 7, ground := Ground.phase }, { on := 8, ground := Ground.phase }], guard := none }) (v := ?tv9b) rfl (by kernel_rfl) (by kernel_rfl) (by kernel_rfl) (fun _ _ _ h => h) (Or.inl ⟨by rfl, ?ty9b⟩) (by assumption) ?tr9b
              case ty9b => (intro w hSw; go_simp; (try with_reducible rfl))
              simp only [Act.put, List.setIfInBounds_toArray, List.set_cons_zero, List.set_cons_succ]
              refine wpAnyH_done (by kernel_rfl) ?_ _
              go_wp2
              go_roundg (s.size - (j + 1))
              case measure => omega
              case rel =>
                refine ⟨j + 1, a4, d4, pre ++ [92, 120, hxd ((s[j]).toNat / 16), hxd ((s[j]).toNat % 16)], by omega, rfl, by first | rfl | simp, by simp, own_app ho4, ?_, below_grown ((Below.drew HW.out).alloc hz _) hg4 (HO.out.drew.alloc _) (Nat.le_refl _)⟩
                rw [HX.out, HB.out, HP.out]; rfl
          · have HB : Hid (qb s[j] = [s[j]]) := by show qb s[j] = _; rw [qb, if_neg (by omega), if_neg hlow]
            have q3 : ¬ ((s[j]).toNat : Int) < 32 := by omega
            have q4 : ¬ 126 < ((s[j]).toNat : Int) := by omega
            go_wp2_with (first
              | (at_builtin; refine wpList_append_own_at _ rfl _ _ 22 rfl w.heap.size 5 i0 (.int .u8 0) 1 1 Tryd.underlying22 hi0 hz0 hz1 hz2 rfl (by decide) (.slice a pre.length cp) _ _ rfl (HO.out.alloc _) ⟨wr.heap.size, 0, none⟩ 1 1 [.int .u8 (s[j]).toNat] rfl rfl (cellsN _ _ _) (by simp [Value.oneCell']) (by unfold maxLen; omega) (by omega) (by simp; omega) ?_; intro v4 w4 ho4 hg4 hn4 ha4; obtain ⟨a4, d4, rfl⟩ := own_slice ho4))
            go_roundg (s.size - (j + 1))
            case measure => omega
            case rel =>
              refine ⟨j + 1, a4, d4, pre ++ [s[j]], by omega, rfl, by first | rfl | simp, by simp, own_app ho4, ?_, below_grown (HW.out.alloc hz _) hg4 (HO.out.alloc _) (Nat.le_refl _)⟩
              rw [HX.out, HB.out, HP.out]; rfl
end Go.Proofs.YteohpiamfpnofabDoor
