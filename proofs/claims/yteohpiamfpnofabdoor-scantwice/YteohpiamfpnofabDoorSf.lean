/- What a text says: unquoted; what is asked: the bytes lie in memory. -/
import Derived.Test.YteohpiamfpnofabDoorSe
import Derived.Maps.AppendAt
namespace Go.Proofs.YteohpiamfpnofabDoor
open Go.RowKit Go.Maps

/-- Bytes in a row of one's own. -/
def Own (w : World) (base : Nat) (v : Value) (l : Bs) : Prop := w.ownsRow base 5 1 v l.length (l.map fun x => .int .u8 (x.toNat : Int))
theorem infoU8 : (Tryd.prog.info? 5).map (fun i => (i.zero, i.size, i.bytes)) = some (some (.int .u8 0), 1, 1) := by kernel_rfl
theorem owns_held {w w' : World} {base : Nat} {e : TypeId} {k n : Nat} {v : Value} {xs : List Value} (h : w.ownsRow base e k v n xs) (hB : Below w.heap.size w w') : w'.ownsRow base e k v n xs := by
  obtain ⟨h1, (h2 | ⟨g, c, cur, h2, h3, h4, h5⟩)⟩ := h
  · exact ⟨h1, .inl h2⟩
  · exact ⟨h1, .inr ⟨g, c, cur, h2, h3, (hB.block g (Array.getElem?_eq_some_iff.1 h4).1).trans h4, h5⟩⟩
theorem below_grown {B : Nat} {a w w' : World} {v : Value} {e : TypeId} {k n : Nat} {xs : List Value} (h : Below B a w) (hg : w.grownBy w' v.ownBlock) (ho : w.ownsRow B e k v n xs) (hB : B ≤ a.heap.size) : Below B a w' := by
  refine h.grown hg (Nat.le_trans hB h.size) ?_
  intro g hv
  obtain ⟨_, (⟨rfl, _⟩ | ⟨g', c, cur, rfl, h2, _⟩)⟩ := ho
  · cases hv
  · cases hv; exact h2
theorem own_slice {w : World} {B : Nat} {e : TypeId} {k n : Nat} {v : Value} {xs : List Value} (h : w.ownsRow B e k v (n + 1) xs) : ∃ a d, v = .slice a (n + 1) d := by
  obtain ⟨_, ⟨rfl, h2⟩ | ⟨g, d, cur, h2, _⟩⟩ := h
  · omega
  · exact ⟨_, _, h2⟩

theorem txt_low {x : UInt8} {t : Bs} (h : x.toNat < 32 ∨ 126 < x.toNat) : txt (x :: t) = none := by rw [txt.eq_def]; simp [h]
theorem txt_quote {t : Bs} {x : UInt8} (h : x.toNat = 34) : txt (x :: t) = some ([], 1) := by rw [txt.eq_def]; simp [h]
theorem txt_plain {x : UInt8} {t : Bs} (h1 : ¬ (x.toNat < 32 ∨ 126 < x.toNat)) (h2 : x.toNat ≠ 34) (h3 : x.toNat ≠ 92) : txt (x :: t) = (txt t).map fun p => (x :: p.1, p.2 + 1) := by
  conv => lhs; rw [txt.eq_def]
  simp only [h1, h2, h3, if_false, ne_eq, not_false_eq_true, if_true]
theorem txt_esc {x : UInt8} {t : Bs} (h : x.toNat = 92) : txt (x :: t) = if (esc t).2 = 0 then none else (txt (t.drop ((esc t).2 - 1))).map fun p => (UInt8.ofNat (esc t).1 :: p.1, p.2 + (esc t).2) := by
  conv => lhs; rw [txt.eq_def]
  simp only [h]
  rw [if_neg (by decide), if_neg (by decide), if_neg (by decide)]
  match t with
  | [] => rfl
  | [y] =>
    by_cases hq : y.toNat = 34 ∨ y.toNat = 92
    · simp [hq, esc]
    · simp [hq, esc]
  | [y, z] =>
    by_cases hq : y.toNat = 34 ∨ y.toNat = 92
    · simp [hq, esc]
    · simp [hq, esc]
  | y :: z :: u :: t' =>
    by_cases hq : y.toNat = 34 ∨ y.toNat = 92
    · simp [hq, esc]
    · simp only [hq, if_false, esc]
      by_cases hr : y.toNat = 120 ∧ hx z < 16 ∧ hx u < 16
      · simp [hr]
      · rw [if_neg hr, if_neg hr]; simp
theorem esc_lt (t : Bs) : (esc t).1 < 256 ∧ (esc t).2 ≤ t.length + 1 := by
  match t with
  | [] => simp [esc]
  | [y] => have := y.toNat_lt; by_cases hq : y.toNat = 34 ∨ y.toNat = 92 <;> simp [hq, esc]; omega
  | [y, z] => have := y.toNat_lt; by_cases hq : y.toNat = 34 ∨ y.toNat = 92 <;> simp [hq, esc]; omega
  | y :: z :: u :: t' =>
    have := y.toNat_lt
    by_cases hq : y.toNat = 34 ∨ y.toNat = 92
    · simp [hq, esc]; omega
    · simp only [hq, if_false, esc]
      by_cases hr : y.toNat = 120 ∧ hx z < 16 ∧ hx u < 16
      · rw [if_pos hr]; simp; omega
      · rw [if_neg hr]; simp

/-- What holds where a text that may not be is left. -/
def UJ (v0 : Value) (w : World) (T : Option (Bs × Nat)) (a' : Act) (w' : World) : Prop :=
  T = none ∧ Below w.heap.size w w' ∧ ∃ u1 u2 u3 u4 u5 u6 u7 u8 u9 u10 u11 u12 u13 u14 u15 u16 u17 u18 u19 u20 u21 u22 u23 u24 u25 u26 u27 u28 u29 u30 u31 u32 u33 u34 u35 u36 u37 u38 u39 u40 u41 u42 u43 u44 u45 u46 u47 u48 u49 u50 u51 u52 u53 u54 u55 u56 u57 u58 u59 u60 u61 u62 u63 u64 : Value, a' = { tmps := #[v0, u1, u2, u3, u4, u5, u6, u7, u8, u9, u10, u11, u12, u13, u14, u15, u16, u17, u18, u19, u20, u21, u22, u23, u24, u25, u26, u27, u28, u29, u30, u31, u32, u33, u34, u35, u36, u37, u38, u39, u40, u41, u42, u43, u44, u45, u46, u47, u48, u49, u50, u51, u52, u53, u54, u55, u56, u57, u58, u59, u60, u61, u62, u63, u64], defers := [] }
theorem UJ.mk {v0 : Value} {w w' : World} {T : Option (Bs × Nat)} {u1 u2 u3 u4 u5 u6 u7 u8 u9 u10 u11 u12 u13 u14 u15 u16 u17 u18 u19 u20 u21 u22 u23 u24 u25 u26 u27 u28 u29 u30 u31 u32 u33 u34 u35 u36 u37 u38 u39 u40 u41 u42 u43 u44 u45 u46 u47 u48 u49 u50 u51 u52 u53 u54 u55 u56 u57 u58 u59 u60 u61 u62 u63 u64 : Value} (h : T = none) (hB : Below w.heap.size w w') : UJ v0 w T { tmps := #[v0, u1, u2, u3, u4, u5, u6, u7, u8, u9, u10, u11, u12, u13, u14, u15, u16, u17, u18, u19, u20, u21, u22, u23, u24, u25, u26, u27, u28, u29, u30, u31, u32, u33, u34, u35, u36, u37, u38, u39, u40, u41, u42, u43, u44, u45, u46, u47, u48, u49, u50, u51, u52, u53, u54, u55, u56, u57, u58, u59, u60, u61, u62, u63, u64], defers := [] } w' := ⟨h, hB, u1, u2, u3, u4, u5, u6, u7, u8, u9, u10, u11, u12, u13, u14, u15, u16, u17, u18, u19, u20, u21, u22, u23, u24, u25, u26, u27, u28, u29, u30, u31, u32, u33, u34, u35, u36, u37, u38, u39, u40, u41, u42, u43, u44, u45, u46, u47, u48, u49, u50, u51, u52, u53, u54, u55, u56, u57, u58, u59, u60, u61, u62, u63, u64, rfl⟩
/-- What the call leaves. -/
def UP (w : World) (T : Option (Bs × Nat)) (e : Ending) (w' : World) : Prop := ∃ v : Value, e = .returned (.tuple #[v, .int .i64 ((T.elim 0 fun p => p.2 + 1 : Nat) : Int)]) ∧ (T = none → v = .slice none 0 0) ∧ (∀ p, T = some p → Own w' w.heap.size v p.1) ∧ Below w.heap.size w w'

set_option maxRecDepth 100000 in
set_option maxHeartbeats 4000000 in
theorem unquoted_yes (b o c : Nat) (t : Bs) (w : World) (hl : Byt w b o (34 :: t)) (hb : b < w.heap.size) (hs : t.length < 140737488355328) (hc : t.length + 1 ≤ c) :
    Calls Tryd.prog 23 #[.slice (some ⟨b, o, none⟩) (t.length + 1) c] w (UP w (txt t)) := by
  have c0 := hl 0 (by simp)
  simp only [List.getElem_cons_zero, Nat.add_zero] at c0
  obtain ⟨i0, hi0, hz0, hz1, hz2⟩ := info_parts infoU8
  obtain ⟨T, hT⟩ : ∃ T, txt t = T := ⟨_, rfl⟩
  rw [hT]
  obtain ⟨R, hR⟩ : ∃ R, R = (34 : UInt8) :: t := ⟨_, rfl⟩
  obtain ⟨N, hN⟩ : ∃ N, t.length + 1 = N := ⟨_, rfl⟩
  have hRl : R.length = N := by rw [hR, ← hN]; rfl
  have hT1 : T = (txt (R.drop 1)).map fun p => ([] ++ p.1, p.2 + 0) := by
    rw [hR, ← hT]
    show txt t = (txt t).map _
    cases txt t <;> rfl
  rw [← hR] at hl
  have hs' : N ≤ 140737488355328 := by omega
  have hN1 : 1 ≤ N := by omega
  have n0 : ((N : Int) == 0) = false := by simp; omega
  have HR := Lib.hid hRl
  have HL := Lib.hid hl
  have HB := Lib.hid hb
  have HT1 := Lib.hid hT1
  rw [hN] at hc ⊢
  clear hs hN hl hb hT1 hT hR hRl
  go_enter Tryd.func23, Tryd.ntmps23
  go_wp2
  refine wp_scope_jumps 0 (UJ (.slice (some ⟨b, o, none⟩) N c) w T) (fun _ _ => 0) rfl ?_ ?_
  · go_wp2
    clear c0
    go_loopg [4, 5] (N - 1) (fun gk s4 s5 wx => ∃ (j : Nat) (a : Option Addr) (cp : Nat) (pre : Bs), 1 ≤ j ∧ j ≤ N ∧ gk = N - j ∧ s5 = .int .i64 j ∧ s4 = .slice a pre.length cp ∧ Own wx w.heap.size s4 pre ∧ pre.length < j ∧ T = (txt (R.drop j)).map (fun p => (pre ++ p.1, p.2 + (j - 1))) ∧ Below w.heap.size w wx)
    case atStart => exact ⟨1, none, 0, [], Nat.le_refl _, hN1, rfl, rfl, rfl, World.ownsRow_nil _ _ _ _, by simp, HT1.out, Below.refl _ _⟩
    case round =>
      obtain ⟨j, a, cp, pre, h1j, hjn, rfl, rfl, rfl, ho, hpl, hq, hbw⟩ := hrel
      have HQ := Lib.hid hq
      have HW := Lib.hid hbw
      have HO := Lib.hid ho
      clear hq hbw ho HT1
      by_cases hj : j = N
      · subst hj
        have HT0 : Hid (T = none) := by show T = none; rw [HQ.out, List.drop_eq_nil_of_le (Nat.le_of_eq HR.out)]; rfl
        go_wp2
        go_step3
        exact ⟨rfl, UJ.mk HT0.out HW.out⟩
      · have hj1 : j < R.length := by have := HR.out; omega
        have hj' : ((j : Nat) : Int) < N := by omega
        have hj2 : ((j : Int) == N) = false := by simp; omega
        have HC := Lib.hid (HL.out.below HW.out HB.out)
        have c1 := HC.out j hj1
        have HD := Lib.hid (drop_cons_of hj1)
        generalize R[j] = x at c1 HD
        by_cases hlow : x.toNat < 32 ∨ 126 < x.toNat
        · have HT0 : Hid (T = none) := by show T = none; rw [HQ.out, HD.out, txt_low hlow]; rfl
          by_cases hlo : x.toNat < 32
          · have l1 : (x.toNat : Int) < 32 := by omega
            go_wp2
            go_step3
            exact ⟨rfl, UJ.mk HT0.out HW.out⟩
          · have l1 : ¬ (x.toNat : Int) < 32 := by omega
            have l2 : (126 : Int) < x.toNat := by omega
            go_wp2
            go_step3
            exact ⟨rfl, UJ.mk HT0.out HW.out⟩
        · have l1 : ¬ (x.toNat : Int) < 32 := by omega
          have l2 : ¬ (126 : Int) < x.toNat := by omega
          by_cases hqu : x.toNat = 34
          · have q1 : ((x.toNat : Int) == 34) = true := by simp; omega
            have HT0 : Hid (T = some (pre, j)) := by
              show T = some (pre, j)
              rw [HQ.out, HD.out, txt_quote hqu]
              simp; omega
            go_wp2
            simp only [Exit.jump]
            go_ret2
            refine ⟨_, by rw [HT0.out]; rfl, fun h => ?_, fun p h => ?_, HW.out⟩
            · rw [HT0.out] at h; cases h
            · rw [HT0.out] at h; cases h; exact HO.out
          · have q1 : ((x.toNat : Int) == 34) = false := by simp; omega
            by_cases hsl : x.toNat = 92
            · have q2 : ((x.toNat : Int) == 92) = true := by simp; omega
              have hdl : (R.drop (j + 1)).length = N - j - 1 := by rw [List.length_drop, HR.out]; omega
              have K := Lib.hid (fun cc => escaped_any b (o + j) cc x (R.drop (j + 1)) wr (by have := HC.out.drop j; rwa [HD.out] at this) (by rw [hdl]; omega))
              rw [hdl, show N - j - 1 + 1 = N - j by omega] at K
              have HE := Lib.hid (txt_esc (t := R.drop (j + 1)) hsl)
              have HF := Lib.hid (esc_lt (R.drop (j + 1)))
              rw [hdl] at HF
              obtain ⟨E, F⟩ : ∃ E, esc (R.drop (j + 1)) = E := ⟨_, rfl⟩
              rw [F] at K HE HF
              clear F
              obtain ⟨e1, e2⟩ := E
              by_cases he : e2 = 0
              · subst he
                have HT0 : Hid (T = none) := by show T = none; rw [HQ.out, HD.out, HE.out]; rfl
                go_wp2_with (first
                  | (go_at_call 27; refine (K.out _).mono ?_; rintro e w2 ⟨rfl, q, h2⟩; have b2 : Below wr.heap.size wr w2 := h2 ▸ below_drewN (Below.refl _ wr) q; clear h2))
                go_step3
                exact ⟨rfl, UJ.mk HT0.out (HW.out.trans (b2.mono HW.out.size))⟩
              · have q3 : ((e2 : Int) == 0) = false := by simp; omega
                go_wp2_with (first
                  | (go_at_call 27; refine (K.out _).mono ?_; rintro e w2 ⟨rfl, q, h2⟩; have b2 : Below wr.heap.size wr w2 := h2 ▸ below_drewN (Below.refl _ wr) q; clear h2; have o2 := owns_held HO.out b2; have HW2 := HW.out.trans (b2.mono HW.out.size); have hz2' := HW2.size)
                  | (at_builtin; refine wpList_append_own_at _ rfl _ _ 22 rfl w.heap.size 5 i0 (.int .u8 0) 1 1 Tryd.underlying22 hi0 hz0 hz1 hz2 rfl (by decide) (.slice a pre.length cp) _ _ rfl (o2.alloc _) ⟨w2.heap.size, 0, none⟩ 1 1 [.int .u8 e1] rfl rfl (cell_one_new _ _ _) (by simp [Value.oneCell']) (by unfold maxLen; omega) (by omega) (by simp; omega) ?_; intro v4 w4 ho4 hg4 hn4 ha4; obtain ⟨a4, d4, rfl⟩ := own_slice ho4))
                have HF1 := HF.out.1
                have HF2 := HF.out.2
                go_roundg (N - (j + e2))
                case measure => omega
                case rel =>
                  refine ⟨j + e2, a4, d4, pre ++ [UInt8.ofNat e1], by omega, by omega, rfl, ?_, by simp, ?_, by simp; omega, ?_, below_grown (HW2.alloc hz2' _) hg4 (o2.alloc _) (Nat.le_refl _)⟩
                  · congr 1; simp only [wrap64]; omega
                  · unfold Own
                    have : ((UInt8.ofNat e1).toNat : Int) = e1 := by rw [UInt8.toNat_ofNat_of_lt' (by simpa [UInt8.size] using HF1)]
                    simp only [List.length_append, List.length_cons, List.length_nil, List.map_append, List.map_cons, List.map_nil, this]
                    exact ho4
                  · rw [HQ.out, HD.out, HE.out, if_neg he, List.drop_drop, show j + 1 + (e2 - 1) = j + e2 by omega]
                    cases txt (R.drop (j + e2)) with
                    | none => rfl
                    | some p => simp; omega
            · have q2 : ((x.toNat : Int) == 92) = false := by simp; omega
              have hz2' := HW.out.size
              go_wp2_with (first
                  | (at_builtin; refine wpList_append_own_at _ rfl _ _ 22 rfl w.heap.size 5 i0 (.int .u8 0) 1 1 Tryd.underlying22 hi0 hz0 hz1 hz2 rfl (by decide) (.slice a pre.length cp) _ _ rfl (HO.out.alloc _) ⟨wr.heap.size, 0, none⟩ 1 1 [.int .u8 x.toNat] rfl rfl (cell_one_new _ _ _) (by simp [Value.oneCell']) (by unfold maxLen; omega) (by omega) (by simp; omega) ?_; intro v4 w4 ho4 hg4 hn4 ha4; obtain ⟨a4, d4, rfl⟩ := own_slice ho4))
              go_roundg (N - (j + 1))
              case measure => omega
              case rel =>
                refine ⟨j + 1, a4, d4, pre ++ [x], by omega, by omega, rfl, by first | rfl | simp, by simp, ?_, by simp; omega, ?_, below_grown (HW.out.alloc hz2' _) hg4 (HO.out.alloc _) (Nat.le_refl _)⟩
                · unfold Own
                  simpa using ho4
                · rw [HQ.out, HD.out, txt_plain hlow hqu hsl]
                  cases txt (R.drop (j + 1)) with
                  | none => rfl
                  | some p => simp; omega
  · rintro a' w' ⟨hz0, hB, u1, u2, u3, u4, u5, u6, u7, u8, u9, u10, u11, u12, u13, u14, u15, u16, u17, u18, u19, u20, u21, u22, u23, u24, u25, u26, u27, u28, u29, u30, u31, u32, u33, u34, u35, u36, u37, u38, u39, u40, u41, u42, u43, u44, u45, u46, u47, u48, u49, u50, u51, u52, u53, u54, u55, u56, u57, u58, u59, u60, u61, u62, u63, u64, rfl⟩
    go_wp2
    simp only [Exit.jump]
    go_ret2
    exact ⟨_, by rw [hz0]; rfl, fun _ => rfl, fun p h => (by rw [hz0] at h; cases h), hB⟩
end Go.Proofs.YteohpiamfpnofabDoor
