/- The document's own answer: the text that begins at a place; what is asked: the bytes lie in memory. -/
import Derived.Test.YteohpiamfpnofaaDoorRa
import Derived.Test.YteohpiamfpnofaaDoorSn
namespace Go.Proofs.YteohpiamfpnofaaDoor
open Go.RowKit Go.Maps

/-- What the call leaves. -/
def RQ (w : World) (p : Nat) (T : Option (Bs × Nat)) (e : Ending) (w' : World) : Prop := e = .returned (.tuple #[.string (bs (T.elim [] fun q => q.1)), .int .i64 (T.elim (-1) fun q => ((p + 1 + q.2 : Nat) : Int))]) ∧ Below w.heap.size w w'
theorem esc_y {y : UInt8} {t : Bs} (h : y.toNat = 34 ∨ y.toNat = 92) : esc (y :: t) = (y.toNat, 2) := by simp [esc, h]

set_option maxRecDepth 100000 in
set_option maxHeartbeats 8000000 in
theorem rquoted_any (b o c p : Nat) (l : Bs) (w : World) (hl : Byt w b o l) (hb : b < w.heap.size) (hp : p < l.length) (hs : l.length ≤ 140737488355328) (hc : l.length ≤ c) :
    Calls Tryd.prog 45 #[.slice (some ⟨b, o, none⟩) l.length c, .int .i64 p] w (RQ w p (txt (l.drop (p + 1)))) := by
  obtain ⟨i0, hi0, hz0, hz1, hz2⟩ := info_parts infoU8
  obtain ⟨T, hT⟩ : ∃ T, txt (l.drop (p + 1)) = T := ⟨_, rfl⟩
  rw [hT]
  have HT1 : Hid (T = (txt (l.drop (p + 1))).map fun q => ([] ++ q.1, q.2 + 0)) := by
    show T = _
    rw [hT]; cases T <;> rfl
  obtain ⟨n, hn⟩ : ∃ n, l.length = n := ⟨_, rfl⟩
  have HN := Lib.hid hn
  have HL := Lib.hid hl
  have HB := Lib.hid hb
  rw [hn] at hp hs hc ⊢
  clear hl hb hT hn
  go_enter Tryd.func45, Tryd.ntmps45
  go_wp2
  go_loopg [6, 7] (n - (p + 1)) (fun gk s6 s7 wx => ∃ (j : Nat) (a : Option Addr) (cp : Nat) (pre : Bs), p + 1 ≤ j ∧ j ≤ n ∧ gk = n - j ∧ s7 = .int .i64 j ∧ s6 = .slice a pre.length cp ∧ Own wx w.heap.size s6 pre ∧ pre.length < j ∧ T = (txt (l.drop j)).map (fun q => (pre ++ q.1, q.2 + (j - (p + 1)))) ∧ Below w.heap.size w wx)
  case atStart => exact ⟨p + 1, none, 0, [], Nat.le_refl _, by omega, rfl, by first | rfl | simp, rfl, World.ownsRow_nil _ _ _ _, by simp, by rw [Nat.sub_self]; exact HT1.out, Below.refl _ _⟩
  case round =>
    obtain ⟨j, a, cp, pre, h1j, hjn, rfl, rfl, rfl, ho, hpl, hq, hbw⟩ := hrel
    have HQ := Lib.hid hq
    have HW := Lib.hid hbw
    have HO := Lib.hid ho
    have hz := hbw.size
    clear hq hbw ho HT1
    by_cases hj : j = n
    · subst hj
      have HT0 : Hid (T = none) := by show T = none; rw [HQ.out, List.drop_eq_nil_of_le (Nat.le_of_eq HN.out)]; rfl
      go_wp2
      go_ret2
      exact ⟨by rw [HT0.out]; rfl, HW.out⟩
    · have hj1 : j < l.length := by have := HN.out; omega
      have hj' : ((j : Nat) : Int) < n := by omega
      have HC := Lib.hid (HL.out.below HW.out HB.out)
      have c1 := HC.out j hj1
      have HD := Lib.hid (drop_cons_of hj1)
      generalize l[j] = x at c1 HD
      by_cases h34 : x.toNat = 34
      · have q1 : ((x.toNat : Int) == 34) = true := by simp [h34]
        have HT0 : Hid (T = some (pre, j - p)) := by
          show T = _
          rw [HQ.out, HD.out, txt_quote h34]
          simp; omega
        have kv := conv_own HO.out
        go_wp2
        go_ret2
        refine ⟨?_, HW.out⟩
        rw [HT0.out]
        show Ending.returned (.tuple #[.string (bs pre), .int .i64 ((j : Int) + 1)]) = .returned (.tuple #[.string (bs pre), .int .i64 ((p + 1 + (j - p) : Nat) : Int)])
        rw [show ((p + 1 + (j - p) : Nat) : Int) = (j : Int) + 1 by omega]
      · have q1 : ((x.toNat : Int) == 34) = false := by simp; omega
        by_cases hlow : x.toNat < 32 ∨ 126 < x.toNat
        · have HT0 : Hid (T = none) := by show T = none; rw [HQ.out, HD.out, txt_low hlow]; rfl
          by_cases hlo : x.toNat < 32
          · have l1 : (x.toNat : Int) < 32 := by omega
            go_wp2
            go_ret2
            exact ⟨by rw [HT0.out]; rfl, HW.out⟩
          · have l1 : ¬ (x.toNat : Int) < 32 := by omega
            have l2 : (126 : Int) < x.toNat := by omega
            go_wp2
            go_ret2
            exact ⟨by rw [HT0.out]; rfl, HW.out⟩
        · have l1 : ¬ (x.toNat : Int) < 32 := by omega
          have l2 : ¬ (126 : Int) < x.toNat := by omega
          by_cases h92 : x.toNat = 92
          · have q2 : ((x.toNat : Int) == 92) = true := by simp [h92]
            have q3 : ((x.toNat : Int) != 92) = false := by simp [h92]
            have HE := Lib.hid (txt_esc (t := l.drop (j + 1)) h92)
            have HF := Lib.hid (esc_lt (l.drop (j + 1)))
            by_cases hj2 : j + 1 < n
            · have hj3 : ((j : Int) + 1) < n := by omega
              have hj2l : j + 1 < l.length := by have := HN.out; omega
              have c2 := HC.out (j + 1) hj2l
              have HD2 := Lib.hid (drop_cons_of hj2l)
              generalize l[j + 1] = y at c2 HD2
              by_cases hy : y.toNat = 34 ∨ y.toNat = 92
              · have HT9 : Hid (T = (txt (l.drop (j + 2))).map (fun q => ((pre ++ [y]) ++ q.1, q.2 + (j + 2 - (p + 1))))) := by
                  show T = _
                  rw [HQ.out, HD.out, HE.out, HD2.out, esc_y hy, if_neg (by simp)]
                  show Option.map _ (Option.map _ (txt ((y :: l.drop (j + 1 + 1)).drop 1))) = _
                  rw [List.drop_succ_cons, List.drop_zero, show j + 1 + 1 = j + 2 by omega, UInt8.ofNat_toNat]
                  cases txt (l.drop (j + 2)) with
                  | none => rfl
                  | some q => simp; omega
                by_cases hyv : y.toNat = 34
                · have r1 : ((y.toNat : Int) == 34) = true := by simp [hyv]
                  clear hyv hy HE HF HQ HD HD2
                  go_wp2_with (first
                    | (at_builtin; refine wpList_append_own_at _ rfl _ _ 35 rfl w.heap.size 5 i0 (.int .u8 0) 1 1 Tryd.underlying35 hi0 hz0 hz1 hz2 rfl (by decide) (.slice a pre.length cp) _ _ rfl (HO.out.alloc _) ⟨wr.heap.size, 0, none⟩ 1 1 [.int .u8 y.toNat] rfl rfl (cell_one_new _ _ _) (by simp [Value.oneCell']) (by unfold maxLen; omega) (by omega) (by simp; omega) ?_; intro v4 w4 ho4 hg4 hn4 ha4; obtain ⟨a4, d4, rfl⟩ := own_slice ho4))
                  go_roundg (n - (j + 2))
                  case measure => omega
                  case rel =>
                    exact ⟨j + 2, a4, d4, pre ++ [y], by omega, by omega, rfl, by first | rfl | (congr 1; omega), by simp, own_app (new := [y]) ho4, by simp; omega, HT9.out, below_grown (HW.out.alloc hz _) hg4 (HO.out.alloc _) (Nat.le_refl _)⟩
                · have r1 : ((y.toNat : Int) == 34) = false := by rw [beq_eq_false_iff_ne]; omega
                  have r2 : ((y.toNat : Int) == 92) = true := by rw [beq_iff_eq]; omega
                  clear hyv hy HE HF HQ HD HD2
                  go_wp2_with (first
                    | (at_builtin; refine wpList_append_own_at _ rfl _ _ 35 rfl w.heap.size 5 i0 (.int .u8 0) 1 1 Tryd.underlying35 hi0 hz0 hz1 hz2 rfl (by decide) (.slice a pre.length cp) _ _ rfl (HO.out.alloc _) ⟨wr.heap.size, 0, none⟩ 1 1 [.int .u8 y.toNat] rfl rfl (cell_one_new _ _ _) (by simp [Value.oneCell']) (by unfold maxLen; omega) (by omega) (by simp; omega) ?_; intro v4 w4 ho4 hg4 hn4 ha4; obtain ⟨a4, d4, rfl⟩ := own_slice ho4))
                  go_roundg (n - (j + 2))
                  case measure => omega
                  case rel =>
                    exact ⟨j + 2, a4, d4, pre ++ [y], by omega, by omega, rfl, by first | rfl | (congr 1; omega), by simp, own_app (new := [y]) ho4, by simp; omega, HT9.out, below_grown (HW.out.alloc hz _) hg4 (HO.out.alloc _) (Nat.le_refl _)⟩
              · have r1 : ((y.toNat : Int) == 34) = false := by simp; omega
                have r2 : ((y.toNat : Int) == 92) = false := by simp; omega
                by_cases hj4 : j + 3 < n
                · have hj5 : ((j : Int) + 3) < n := by omega
                  have hj6 : ((j : Int) + 2) < n := by omega
                  have hz2l : j + 2 < l.length := by have := HN.out; omega
                  have hz3l : j + 3 < l.length := by have := HN.out; omega
                  have c3 := HC.out (j + 2) hz2l
                  have c4 := HC.out (j + 3) hz3l
                  have HD3 := Lib.hid (drop_cons_of hz2l)
                  have HD4 := Lib.hid (drop_cons_of hz3l)
                  generalize l[j + 2] = z at c3 HD3
                  generalize l[j + 3] = u at c4 HD4
                  have KZ := Lib.hid (rhex_any z)
                  have KU := Lib.hid (rhex_any u)
                  have HEE : Hid (esc (l.drop (j + 1)) = if y.toNat = 120 ∧ hx z < 16 ∧ hx u < 16 then (16 * hx z + hx u, 4) else (0, 0)) := by
                    show esc _ = _
                    rw [HD2.out, show j + 1 + 1 = j + 2 by omega, HD3.out, show j + 2 + 1 = j + 3 by omega, HD4.out, esc_n hy]
                  have HTN : Hid (¬ (y.toNat = 120 ∧ hx z < 16 ∧ hx u < 16) → T = none) := fun h => by
                    rw [HQ.out, HD.out, HE.out, HEE.out, if_neg h]; rfl
                  by_cases h120 : y.toNat = 120
                  · have r3 : ((y.toNat : Int) == 120) = true := by rw [beq_iff_eq]; omega
                    go_wp2_with fail
                    refine (KZ.out _).mono ?_
                    rintro e w2 ⟨rfl, rfl⟩
                    by_cases hzz : hx z < 16
                    · have ez : rhx z = (hx z : Int) := by unfold rhx; rw [if_pos hzz]
                      have ez1 : (0 : Int) ≤ (hx z : Int) := by omega
                      rw [ez] at KZ ⊢
                      go_wp2_with fail
                      refine (KU.out _).mono ?_
                      rintro e w3 ⟨rfl, rfl⟩
                      by_cases huu : hx u < 16
                      · have eu : rhx u = (hx u : Int) := by unfold rhx; rw [if_pos huu]
                        have eu1 : (0 : Int) ≤ (hx u : Int) := by omega
                        rw [eu] at KU ⊢
                        have HT9 : Hid (T = (txt (l.drop (j + 4))).map (fun q => ((pre ++ [UInt8.ofNat (16 * hx z + hx u)]) ++ q.1, q.2 + (j + 4 - (p + 1))))) := by
                          show T = _
                          have hep : esc (l.drop (j + 1)) = (16 * hx z + hx u, 4) := by rw [HEE.out, if_pos ⟨h120, hzz, huu⟩]
                          rw [HQ.out, HD.out, HE.out, hep, if_neg (by simp), List.drop_drop]
                          show Option.map _ (Option.map _ (txt (l.drop (j + 1 + 3)))) = _
                          rw [show j + 1 + 3 = j + 4 by omega]
                          cases txt (l.drop (j + 4)) with
                          | none => rfl
                          | some q => simp; omega
                        have wz : IntKind.u8.wrap (16 * (hx z : Int) + (hx u : Int)) = 16 * (hx z : Int) + (hx u : Int) := u8_wrap (by omega) (by omega)
                        have HZ := Lib.hid hzz
                        have HU := Lib.hid huu
                        clear HQ HD HD2 HD3 HD4 HE HEE HTN HF ez eu
                        generalize hx z = Z at *
                        generalize hx u = U at *
                        have z15 : (Z : Int) ≤ 15 := by omega
                        have u15 : (U : Int) ≤ 15 := by omega
                        obtain ⟨J2, hJ2⟩ : ∃ J, j + 2 = J := ⟨_, rfl⟩
                        obtain ⟨J3, hJ3⟩ : ∃ J, j + 3 = J := ⟨_, rfl⟩
                        have f2 : (J2 : Int) < (n : Int) := by omega
                        have f3 : (J3 : Int) < (n : Int) := by omega
                        have HJ := Lib.hid (And.intro hJ2 hJ3)
                        rw [hJ2] at c3
                        rw [hJ3] at c4
                        clear hJ2 hJ3
                        have KKS : Hid (∀ ob w4, (w3.drew.alloc ob).grownBy w4 (Value.slice a pre.length cp).ownBlock → w4.cell? ⟨b, o + J2, none⟩ = some (.int .u8 z.toNat) ∧ w4.cell? ⟨b, o + J3, none⟩ = some (.int .u8 u.toNat)) := fun ob w4 hg => by
                          have hne : some b ≠ (Value.slice a pre.length cp).ownBlock := fun h => by
                            have := (HO.out.lt _ h.symm).1
                            have := HB.out
                            omega
                          have hbl : b < w3.drew.heap.size := by have := HB.out; show b < w3.heap.size; omega
                          have m3 : (w3.drew.alloc ob).cell? ⟨b, o + J2, none⟩ = some (.int .u8 z.toNat) := ((below1 w3.drew ob).cell (p := ⟨b, o + J2, none⟩) hbl).trans (by simpa using c3)
                          have m4 : (w3.drew.alloc ob).cell? ⟨b, o + J3, none⟩ = some (.int .u8 u.toNat) := ((below1 w3.drew ob).cell (p := ⟨b, o + J3, none⟩) hbl).trans (by simpa using c4)
                          exact ⟨hg.cell m3 hne, hg.cell m4 hne⟩
                        have nb := World.new_ne w3 _ c3
                        have KAL : Hid (∀ ob, (w3.drew.alloc ob).cell? ⟨b, o + J2, none⟩ = some (.int .u8 z.toNat) ∧ (w3.drew.alloc ob).cell? ⟨b, o + J3, none⟩ = some (.int .u8 u.toNat)) := fun ob => by
                          have hbl : b < w3.drew.heap.size := by have := HB.out; show b < w3.heap.size; omega
                          exact ⟨((below1 w3.drew ob).cell (p := ⟨b, o + J2, none⟩) hbl).trans (by simpa using c3), ((below1 w3.drew ob).cell (p := ⟨b, o + J3, none⟩) hbl).trans (by simpa using c4)⟩
                        clear c1 c2 HC HL hj5 hj6
                        go_wp2_with fail
                        refine wp_region_held_drew (S := fun w' => w'.cell? ⟨b, o + J2, none⟩ = some (.int .u8 z.toNat) ∧ w'.cell? ⟨b, o + J3, none⟩ = some (.int .u8 u.toNat)) (by kernel_rfl) ⟨by simpa using c3, by simpa using c4⟩ (fun hHeld => ?_)
                        refine wpAnyH_take (i := 0) (oi := { dst := some 106, op := Op.move (Operand.tmp 6), type := 35, pos := "ref.go:95", after := #[], guard := none }) (v := ?tv0) rfl (by kernel_rfl) (by kernel_rfl) (by kernel_rfl) (fun _ _ _ h => h) (Or.inl ⟨by rfl, ?ty0⟩) (by assumption) ?tr0
                        case ty0 => (intro w hSw; (try dsimp only at hSw); go_simp; (try with_reducible rfl))
                        simp only [Act.put, List.setIfInBounds_toArray, List.set_cons_zero, List.set_cons_succ]
                        refine wpAnyH_take (i := 1) (oi := { dst := some 107, op := Op.move (Operand.tmp 0), type := 35, pos := "ref.go:95", after := #[], guard := none }) (v := ?tv1) rfl (by kernel_rfl) (by kernel_rfl) (by kernel_rfl) (fun _ _ _ h => h) (Or.inl ⟨by rfl, ?ty1⟩) (by assumption) ?tr1
                        case ty1 => (intro w hSw; (try dsimp only at hSw); go_simp; (try with_reducible rfl))
                        simp only [Act.put, List.setIfInBounds_toArray, List.set_cons_zero, List.set_cons_succ]
                        refine wpAnyH_take (i := 2) (oi := { dst := some 108, op := Op.move (Operand.tmp 7), type := 3, pos := "ref.go:95", after := #[], guard := none }) (v := ?tv2) rfl (by kernel_rfl) (by kernel_rfl) (by kernel_rfl) (fun _ _ _ h => h) (Or.inl ⟨by rfl, ?ty2⟩) (by assumption) ?tr2
                        case ty2 => (intro w hSw; (try dsimp only at hSw); go_simp; (try with_reducible rfl))
                        simp only [Act.put, List.setIfInBounds_toArray, List.set_cons_zero, List.set_cons_succ]
                        refine wpAnyH_take (i := 3) (oi := { dst := some 109, op := Op.binOp BinOp.add 3 (Operand.tmp 108) (Operand.const (Value.int IntKind.i64 2)) 3, type := 3, pos := "ref.go:95", after := #[{ on := 2, ground := Ground.data }], guard := none }) (v := .int .i64 (J2 : Int)) rfl (by kernel_rfl) (by kernel_rfl) (by kernel_rfl) (fun _ _ _ h => h) (Or.inl ⟨by rfl, ?ty3⟩) (by assumption) ?tr3
                        case ty3 => (intro w hSw; (try dsimp only at hSw); go_simp; (try (first | rfl | (rw [IntKind.wrap_i64]; have := HJ.out; omega) | (congr 1; rw [IntKind.wrap_i64]; have := HJ.out; omega) | (show wrap64 _ = _; simp only [wrap64]; have := HJ.out; omega) | (congr 1; first | (have := HJ.out; omega) | (simp only [wrap64]; have := HJ.out; omega)))))
                        simp only [Act.put, List.setIfInBounds_toArray, List.set_cons_zero, List.set_cons_succ]
                        refine wpAnyH_take (i := 4) (oi := { dst := some 110, op := Op.indexAddr 35 (Operand.tmp 107) (Operand.tmp 109), type := 0, pos := "ref.go:95", after := #[{ on := 1, ground := Ground.data }, { on := 3, ground := Ground.data }], guard := none }) (v := .pointer (some ⟨b, o + J2, none⟩)) rfl (by kernel_rfl) (by kernel_rfl) (by kernel_rfl) (fun _ _ _ h => h) (Or.inl ⟨by rfl, ?ty4⟩) (by assumption) ?tr4
                        case ty4 => (intro w hSw; (try dsimp only at hSw); go_simp; (try (first | rfl | (rw [IntKind.wrap_i64]; have := HJ.out; omega) | (congr 1; rw [IntKind.wrap_i64]; have := HJ.out; omega) | (show wrap64 _ = _; simp only [wrap64]; have := HJ.out; omega) | (congr 1; first | (have := HJ.out; omega) | (simp only [wrap64]; have := HJ.out; omega)))))
                        simp only [Act.put, List.setIfInBounds_toArray, List.set_cons_zero, List.set_cons_succ]
                        refine wpAnyH_take (i := 5) (oi := { dst := some 111, op := Op.load 5 (Operand.tmp 110), type := 5, pos := "ref.go:95", after := #[{ on := 4, ground := Ground.data }], guard := none }) (v := .int .u8 (z.toNat : Int)) rfl (by kernel_rfl) (by kernel_rfl) (by kernel_rfl) (fun _ _ _ h => h) (Or.inl ⟨by rfl, ?ty5⟩) (by assumption) ?tr5
                        case ty5 => (intro w hSw; (try dsimp only at hSw); go_simp; (try (first | rfl | (rw [IntKind.wrap_i64]; have := HJ.out; omega) | (congr 1; rw [IntKind.wrap_i64]; have := HJ.out; omega) | (show wrap64 _ = _; simp only [wrap64]; have := HJ.out; omega) | (congr 1; first | (have := HJ.out; omega) | (simp only [wrap64]; have := HJ.out; omega)))))
                        simp only [Act.put, List.setIfInBounds_toArray, List.set_cons_zero, List.set_cons_succ]
                        refine wpAnyH_take (i := 8) (oi := { dst := some 114, op := Op.move (Operand.tmp 0), type := 35, pos := "ref.go:95", after := #[], guard := none }) (v := ?tv8) rfl (by kernel_rfl) (by kernel_rfl) (by kernel_rfl) (fun _ _ _ h => h) (Or.inl ⟨by rfl, ?ty8⟩) (by assumption) ?tr8
                        case ty8 => (intro w hSw; (try dsimp only at hSw); go_simp; (try with_reducible rfl))
                        simp only [Act.put, List.setIfInBounds_toArray, List.set_cons_zero, List.set_cons_succ]
                        refine wpAnyH_take (i := 9) (oi := { dst := some 115, op := Op.move (Operand.tmp 7), type := 3, pos := "ref.go:95", after := #[], guard := none }) (v := ?tv9) rfl (by kernel_rfl) (by kernel_rfl) (by kernel_rfl) (fun _ _ _ h => h) (Or.inl ⟨by rfl, ?ty9⟩) (by assumption) ?tr9
                        case ty9 => (intro w hSw; (try dsimp only at hSw); go_simp; (try with_reducible rfl))
                        simp only [Act.put, List.setIfInBounds_toArray, List.set_cons_zero, List.set_cons_succ]
                        refine wpAnyH_take (i := 10) (oi := { dst := some 116, op := Op.binOp BinOp.add 3 (Operand.tmp 115) (Operand.const (Value.int IntKind.i64 3)) 3, type := 3, pos := "ref.go:95", after := #[{ on := 9, ground := Ground.data }], guard := none }) (v := .int .i64 (J3 : Int)) rfl (by kernel_rfl) (by kernel_rfl) (by kernel_rfl) (fun _ _ _ h => h) (Or.inl ⟨by rfl, ?ty10⟩) (by assumption) ?tr10
                        case ty10 => (intro w hSw; (try dsimp only at hSw); go_simp; (try (first | rfl | (rw [IntKind.wrap_i64]; have := HJ.out; omega) | (congr 1; rw [IntKind.wrap_i64]; have := HJ.out; omega) | (show wrap64 _ = _; simp only [wrap64]; have := HJ.out; omega) | (congr 1; first | (have := HJ.out; omega) | (simp only [wrap64]; have := HJ.out; omega)))))
                        simp only [Act.put, List.setIfInBounds_toArray, List.set_cons_zero, List.set_cons_succ]
                        refine wpAnyH_take (i := 11) (oi := { dst := some 117, op := Op.indexAddr 35 (Operand.tmp 114) (Operand.tmp 116), type := 0, pos := "ref.go:95", after := #[{ on := 8, ground := Ground.data }, { on := 10, ground := Ground.data }], guard := none }) (v := .pointer (some ⟨b, o + J3, none⟩)) rfl (by kernel_rfl) (by kernel_rfl) (by kernel_rfl) (fun _ _ _ h => h) (Or.inl ⟨by rfl, ?ty11⟩) (by assumption) ?tr11
                        case ty11 => (intro w hSw; (try dsimp only at hSw); go_simp; (try (first | rfl | (rw [IntKind.wrap_i64]; have := HJ.out; omega) | (congr 1; rw [IntKind.wrap_i64]; have := HJ.out; omega) | (show wrap64 _ = _; simp only [wrap64]; have := HJ.out; omega) | (congr 1; first | (have := HJ.out; omega) | (simp only [wrap64]; have := HJ.out; omega)))))
                        simp only [Act.put, List.setIfInBounds_toArray, List.set_cons_zero, List.set_cons_succ]
                        refine wpAnyH_take (i := 12) (oi := { dst := some 118, op := Op.load 5 (Operand.tmp 117), type := 5, pos := "ref.go:95", after := #[{ on := 11, ground := Ground.data }], guard := none }) (v := .int .u8 (u.toNat : Int)) rfl (by kernel_rfl) (by kernel_rfl) (by kernel_rfl) (fun _ _ _ h => h) (Or.inl ⟨by rfl, ?ty12⟩) (by assumption) ?tr12
                        case ty12 => (intro w hSw; (try dsimp only at hSw); go_simp; (try (first | rfl | (rw [IntKind.wrap_i64]; have := HJ.out; omega) | (congr 1; rw [IntKind.wrap_i64]; have := HJ.out; omega) | (show wrap64 _ = _; simp only [wrap64]; have := HJ.out; omega) | (congr 1; first | (have := HJ.out; omega) | (simp only [wrap64]; have := HJ.out; omega)))))
                        simp only [Act.put, List.setIfInBounds_toArray, List.set_cons_zero, List.set_cons_succ]
                        refine wpAnyH_ready (rs := [6]) (by kernel_rfl) (by simp) ?_
                        refine AllReadyH.cons (o := { dst := some 112, op := Op.call { callee := Callee.value (Operand.func 67), args := #[Operand.tmp 111], argTypes := #[5] }, type := 3, pos := "ref.go:95", after := #[{ on := 5, ground := Ground.data }], guard := none }) rfl (fun K hK => ?_) AllReadyH.nil
                        go_simp
                        refine (KZ.out _).mono ?_
                        rintro e w5 ⟨rfl, h5⟩
                        have h5' := h5.symm
                        subst h5'
                        go_wp2_with fail
                        refine hK.out _ _ hHeld (fun hHeld2 => ?_)
                        clear hK K
                        refine wpAnyH_take (i := 7) (oi := { dst := some 113, op := Op.binOp BinOp.mul 3 (Operand.const (Value.int IntKind.i64 16)) (Operand.tmp 112) 3, type := 3, pos := "ref.go:95", after := #[{ on := 6, ground := Ground.data }], guard := none }) (v := .int .i64 (16 * (Z : Int))) rfl (by kernel_rfl) (by kernel_rfl) (by kernel_rfl) (fun _ _ _ h => h) (Or.inl ⟨by rfl, ?ty7⟩) (by assumption) ?tr7
                        case ty7 => (intro w hSw; (try dsimp only at hSw); go_simp; (try (first | rfl | (rw [IntKind.wrap_i64]; have := HJ.out; omega) | (congr 1; rw [IntKind.wrap_i64]; have := HJ.out; omega) | (show wrap64 _ = _; simp only [wrap64]; have := HJ.out; omega) | (congr 1; first | (have := HJ.out; omega) | (simp only [wrap64]; have := HJ.out; omega)))))
                        simp only [Act.put, List.setIfInBounds_toArray, List.set_cons_zero, List.set_cons_succ]
                        refine wpAnyH_ready (rs := [13]) (by kernel_rfl) (by simp) ?_
                        refine AllReadyH.cons (o := { dst := some 119, op := Op.call { callee := Callee.value (Operand.func 67), args := #[Operand.tmp 118], argTypes := #[5] }, type := 3, pos := "ref.go:95", after := #[{ on := 12, ground := Ground.data }, { on := 6, ground := Ground.chain }], guard := none }) rfl (fun K hK => ?_) AllReadyH.nil
                        go_simp
                        refine (KU.out _).mono ?_
                        rintro e w6 ⟨rfl, h6⟩
                        have h6' := h6.symm
                        subst h6'
                        go_wp2_with fail
                        refine hK.out _ _ hHeld (fun hHeld3 => ?_)
                        clear hK K
                        refine wpAnyH_take (i := 14) (oi := { dst := some 120, op := Op.binOp BinOp.add 3 (Operand.tmp 113) (Operand.tmp 119) 3, type := 3, pos := "ref.go:95", after := #[{ on := 7, ground := Ground.data }, { on := 13, ground := Ground.data }], guard := none }) (v := .int .i64 (16 * (Z : Int) + (U : Int))) rfl (by kernel_rfl) (by kernel_rfl) (by kernel_rfl) (fun _ _ _ h => h) (Or.inl ⟨by rfl, ?ty14⟩) (by assumption) ?tr14
                        case ty14 => (intro w hSw; (try dsimp only at hSw); go_simp; (try (first | rfl | (rw [IntKind.wrap_i64]; have := HJ.out; omega) | (congr 1; rw [IntKind.wrap_i64]; have := HJ.out; omega) | (show wrap64 _ = _; simp only [wrap64]; have := HJ.out; omega) | (congr 1; first | (have := HJ.out; omega) | (simp only [wrap64]; have := HJ.out; omega)))))
                        simp only [Act.put, List.setIfInBounds_toArray, List.set_cons_zero, List.set_cons_succ]
                        refine wpAnyH_take (i := 15) (oi := { dst := some 121, op := Op.convert 3 5 (Operand.tmp 120), type := 5, pos := "ref.go:95", after := #[{ on := 14, ground := Ground.data }], guard := none }) (v := .int .u8 (16 * (Z : Int) + (U : Int))) rfl (by kernel_rfl) (by kernel_rfl) (by kernel_rfl) (fun _ _ _ h => h) (Or.inl ⟨by rfl, ?ty15⟩) (by assumption) ?tr15
                        case ty15 => (intro w hSw; (try dsimp only at hSw); go_simp; (try (first | rfl | (rw [IntKind.wrap_i64]; have := HJ.out; omega) | (congr 1; rw [IntKind.wrap_i64]; have := HJ.out; omega) | (show wrap64 _ = _; simp only [wrap64]; have := HJ.out; omega) | (congr 1; first | (have := HJ.out; omega) | (simp only [wrap64]; have := HJ.out; omega)))))
                        simp only [Act.put, List.setIfInBounds_toArray, List.set_cons_zero, List.set_cons_succ]
                        refine wpAnyH_ready (rs := [16]) (by kernel_rfl) (by simp) ?_
                        refine AllReadyH.cons (o := { dst := some 122, op := Op.buildSlice 35 1 #[(0, Operand.tmp 121)], type := 35, pos := "ref.go:95", after := #[{ on := 15, ground := Ground.data }], guard := none }) rfl (fun K hK => ?_) AllReadyH.nil
                        go_simp
                        refine hK.out _ _ (KAL.out _) (fun hHeld4 => ?_)
                        clear hK K
                        refine wpAnyH_ready (rs := [17]) (by kernel_rfl) (by simp) ?_
                        refine AllReadyH.cons (o := { dst := some 123, op := Op.call { callee := Callee.builtin Builtin.append, args := #[Operand.tmp 106, Operand.tmp 122], argTypes := #[35, 35] }, type := 35, pos := "ref.go:95", after := #[{ on := 0, ground := Ground.data }, { on := 16, ground := Ground.data }, { on := 13, ground := Ground.chain }], guard := none }) rfl (fun K hK => ?_) AllReadyH.nil
                        rw [if_pos (by rfl)]
                        refine wp_append_own _ _ _ 35 rfl w.heap.size 5 i0 (.int .u8 0) 1 1 Tryd.underlying35 hi0 hz0 hz1 hz2 rfl (by decide) (.slice a pre.length cp) _ _ rfl (HO.out.drew.alloc _) ⟨w3.heap.size, 0, none⟩ 1 1 [.int .u8 (16 * (Z : Int) + (U : Int))] rfl rfl (cellsN w3.drew _ _) (by simp [Value.oneCell']) (by unfold maxLen; omega) (by omega) (by simp; omega) ?_
                        intro v4 w4 ho4 hg4 hn4
                        refine hK.out _ _ (KKS.out _ _ hg4) (fun hHeld5 => ?_)
                        clear hK K
                        refine wpAnyH_take (i := 18) (oi := { dst := some 6, op := Op.assign (Operand.tmp 123), type := 35, pos := "ref.go:95", after := #[{ on := 17, ground := Ground.data }, { on := 17, ground := Ground.chain }, { on := 0, ground := Ground.phase }, { on := 1, ground := Ground.phase }, { on := 2, ground := Ground.phase }, { on := 3, ground := Ground.phase }, { on := 4, ground := Ground.phase }, { on := 5, ground := Ground.phase }, { on := 6, ground := Ground.phase }, { on := 7, ground := Ground.phase }, { on := 8, ground := Ground.phase }, { on := 9, ground := Ground.phase }, { on := 10, ground := Ground.phase }, { on := 11, ground := Ground.phase }, { on := 12, ground := Ground.phase }, { on := 13, ground := Ground.phase }, { on := 14, ground := Ground.phase }, { on := 15, ground := Ground.phase }, { on := 16, ground := Ground.phase }, { on := 17, ground := Ground.phase }], guard := none }) (v := ?tv18) rfl (by kernel_rfl) (by kernel_rfl) (by kernel_rfl) (fun _ _ _ h => h) (Or.inl ⟨by rfl, ?ty18⟩) (by assumption) ?tr18
                        case ty18 => (intro w hSw; (try dsimp only at hSw); go_simp; (try with_reducible rfl))
                        simp only [Act.put, List.setIfInBounds_toArray, List.set_cons_zero, List.set_cons_succ]
                        refine wpAnyH_done (by kernel_rfl) ?_ _
                        have eb : ((UInt8.ofNat (16 * Z + U)).toNat : Int) = 16 * (Z : Int) + (U : Int) := by
                          rw [UInt8.toNat_ofNat_of_lt' (by simp [UInt8.size]; have := HZ.out; have := HU.out; omega)]
                          omega
                        rw [← eb] at ho4
                        have ho5 := own_app (new := [UInt8.ofNat (16 * Z + U)]) ho4
                        obtain ⟨a4, d4, rfl⟩ := own_slice ho4
                        have HO5 := Lib.hid ho5
                        have HG4 := Lib.hid hg4
                        clear ho4 ho5 hg4 hn4 hHeld hHeld2 hHeld3 hHeld4 hHeld5 eb
                        go_wp2_with fail
                        go_roundg (n - (j + 4))
                        case measure => omega
                        case rel =>
                          exact ⟨j + 4, a4, d4, pre ++ [UInt8.ofNat (16 * Z + U)], by omega, by omega, rfl, by first | rfl | (congr 1; omega), by simp, HO5.out, by simp; omega, HT9.out, below_grown ((Below.drew HW.out).alloc hz _) HG4.out (HO.out.drew.alloc _) (Nat.le_refl _)⟩
                      · have eu : rhx u = -1 := by unfold rhx; rw [if_neg huu]
                        rw [eu]
                        have HT0 := HTN.out (fun h => huu h.2.2)
                        have HT00 := Lib.hid HT0
                        clear HT0 HQ HD HD2 HD3 HD4 HE HEE HTN HF
                        go_wp2_with fail
                        go_ret2
                        exact ⟨by rw [HT00.out]; rfl, HW.out⟩
                    · have ez : rhx z = -1 := by unfold rhx; rw [if_neg hzz]
                      rw [ez]
                      have HT0 := HTN.out (fun h => hzz h.2.1)
                      have HT00 := Lib.hid HT0
                      clear HT0 HQ HD HD2 HD3 HD4 HE HEE HTN HF
                      go_wp2_with fail
                      go_ret2
                      exact ⟨by rw [HT00.out]; rfl, HW.out⟩
                  · have r3 : ((y.toNat : Int) == 120) = false := by rw [beq_eq_false_iff_ne]; omega
                    have HT0 := HTN.out (fun h => h120 h.1)
                    have HT00 := Lib.hid HT0
                    clear HT0 HQ HD HD2 HD3 HD4 HE HEE HTN HF
                    go_wp2_with fail
                    go_ret2
                    exact ⟨by rw [HT00.out]; rfl, HW.out⟩
                · have hj5 : ¬ ((j : Int) + 3) < n := by omega
                  have HT0 : Hid (T = none) := by
                    show T = none
                    have hlen : (l.drop (j + 1 + 1)).length < 2 := by rw [List.length_drop, HN.out]; omega
                    have : (esc (l.drop (j + 1))).2 = 0 := by
                      rw [HD2.out]
                      match hd : l.drop (j + 1 + 1), hlen with
                      | [], _ => rw [esc_1 hy]
                      | [z], _ => rw [esc_2 hy]
                    rw [HQ.out, HD.out, HE.out, if_pos this]; rfl
                  go_wp2
                  go_ret2
                  exact ⟨by rw [HT0.out]; rfl, HW.out⟩
            · have hj3 : ¬ ((j : Int) + 1) < n := by omega
              have hj4 : ¬ ((j : Int) + 3) < n := by omega
              have HT0 : Hid (T = none) := by
                show T = none
                have : l.drop (j + 1) = [] := List.drop_eq_nil_of_le (by rw [HN.out]; omega)
                rw [HQ.out, HD.out, HE.out, this]; rfl
              go_wp2
              go_ret2
              exact ⟨by rw [HT0.out]; rfl, HW.out⟩
          · have q2 : ((x.toNat : Int) == 92) = false := by simp; omega
            have q3 : ((x.toNat : Int) != 92) = true := by simp; omega
            go_wp2_with (first
              | (at_builtin; refine wpList_append_own_at _ rfl _ _ 35 rfl w.heap.size 5 i0 (.int .u8 0) 1 1 Tryd.underlying35 hi0 hz0 hz1 hz2 rfl (by decide) (.slice a pre.length cp) _ _ rfl (HO.out.alloc _) ⟨wr.heap.size, 0, none⟩ 1 1 [.int .u8 x.toNat] rfl rfl (cell_one_new _ _ _) (by simp [Value.oneCell']) (by unfold maxLen; omega) (by omega) (by simp; omega) ?_; intro v4 w4 ho4 hg4 hn4 ha4; obtain ⟨a4, d4, rfl⟩ := own_slice ho4))
            go_roundg (n - (j + 1))
            case measure => omega
            case rel =>
              refine ⟨j + 1, a4, d4, pre ++ [x], by omega, by omega, rfl, by first | rfl | simp, by simp, own_app (new := [x]) ho4, by simp; omega, ?_, below_grown (HW.out.alloc hz _) hg4 (HO.out.alloc _) (Nat.le_refl _)⟩
              rw [HQ.out, HD.out, txt_plain hlow h34 h92]
              cases txt (l.drop (j + 1)) with
              | none => rfl
              | some q => simp; omega
end Go.Proofs.YteohpiamfpnofaaDoor
