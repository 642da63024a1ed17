/- The call search: the levels that two rows of levels share, by one walk round its goto; no condition but those that each theorem names. -/
import Derived.Test.YtkgbpildikjoiaaGreatDoorShelf
import Derived.ScopeJumps
import Derived.WalkMore
import Derived.OwnWalk
import Derived.Laws.MakeOwn
import Derived.Maps.AppendAt
import Derived.Test.YtkgbpildikjoiaaGreatDoorTb
namespace Go.Proofs.YtkgbpildikjoiaaGreatDoor
open Go.RowKit Tp

/-- A scope whose code falls into its label: one walk from the label serves. -/
theorem scope_fall {P : Program} {a : Act} {w : World} {Q : Exit → Act → World → Prop} {c rest : Code} (l : Nat) (J : Act → World → Prop) (μ : Act → World → Nat) (hf : findLabel c l = some (Code.skip.seq rest))
    (pass : ∀ a w, J a w → rest.wp P (Exit.jump l (fun a' w' => J a' w' ∧ μ a' w' < μ a w) Q) a w)
    (first : (∀ a w, J a w → rest.wp P (Exit.jump l J Q) a w) → c.wp P (Exit.jump l J Q) a w) : (Code.scope c).wp P Q a w :=
  wp_scope_jumps l J μ hf (first fun a w h => Code.wp_mono (fun e a' w' hq => by
    cases e with
    | goto l' => exact ⟨hq.1, hq.2.1⟩
    | _ => exact hq) (pass a w h)) fun a w h => wp_seq (wp_skip (pass a w h))

theorem owns_held {w w' : World} {base : Nat} {e : TypeId} {k n : Nat} {v : Value} {xs : List Value} (h : w.ownsRow base e k v n xs) (hB : Below w.heap.size w w') : w'.ownsRow base e k v n xs := by
  obtain ⟨h1, (h2 | ⟨g, c, cur, h2, h3, h4, h5⟩)⟩ := h
  · exact ⟨h1, .inl h2⟩
  · exact ⟨h1, .inr ⟨g, c, cur, h2, h3, (hB.block g (Array.getElem?_eq_some_iff.1 h4).1).trans h4, h5⟩⟩

theorem pref_dol (x : ByteArray) : Lib.hasPrefix x.data.toList [36] = dol (tl x) := by
  rw [tl_data]
  cases x.data.toList with
  | nil => rfl
  | cons b r => simp [Lib.hasPrefix, dol, List.isPrefixOf]; rw [Bool.beq_eq_decide_eq, Bool.beq_eq_decide_eq]; exact decide_eq_decide.2 eq_comm

theorem hides_any (x y l : ByteArray) (w : World) :
    Calls Tryz.prog 103 #[.agg #[.string x, .string y], .string l] w fun e w' => e = .returned (.bool (!(tl x == tl y) && dol (tl l))) ∧ Below w.heap.size w w' := by
  obtain ⟨c0, c1⟩ := cells2 w (.string x) (.string y) 162
  have hB := below1 w (.cells #[.string x, .string y] 162)
  have hd := pref_dol l
  go_enter Tryz.func103, Tryz.ntmps103
  go_wp2_with (go_at_call 113; refine (Tryz.strings_HasPrefix _ _ _).mono ?_; rintro e w' ⟨rfl, rfl⟩)
  · rename_i h
    go_ret
    exact ⟨ret_b (by simp [h]), hB⟩
  · go_ret
    exact ⟨rfl, hB⟩

/-- What the walk from place k on appends. -/
def goS (F G : List ByteArray) : Nat → Nat → Option (List ByteArray)
  | 0, _ => some []
  | n + 1, k => match narr (tl (lvA F k)) (tl (lvA G k)) with
    | none => none
    | some l => if k = 0 ∧ lvA F k ≠ lvA G k ∧ dol l = true then none else if l = no then goS F G n (k + 1) else (goS F G n (k + 1)).map (bs l :: ·)

theorem goS_len (F G : List ByteArray) : ∀ n k s, goS F G n k = some s → s.length ≤ n
  | 0, _, s, h => by simp [goS] at h; subst h; simp
  | n + 1, k, s, h => by
    rw [goS] at h
    split at h
    · cases h
    · split at h
      · cases h
      · split at h
        · have := goS_len F G n (k + 1) s h; omega
        · obtain ⟨t, ht, rfl⟩ := Option.map_eq_some_iff.1 h
          have := goS_len F G n (k + 1) t ht
          simp; omega

/-- What holds at the label. -/
def SJ (w : World) (b1 o1 c1 b2 o2 c2 : Nat) (F G : List ByteArray) (N : Nat) (R : Option (List ByteArray)) (a' : Act) (w' : World) : Prop :=
  Below w.heap.size w w' ∧ ∃ (k : Nat) (v : Value) (pre : List ByteArray), k < N ∧ w'.ownsRow w.heap.size 9 1 v pre.length (pre.map Value.string) ∧ pre.length ≤ k ∧ (goS F G (N - k) k).map (pre ++ ·) = R ∧
      ∃ u4 u5 u9 u10 u11 u12 u13 u14 u15 u16 u17 u18 u19 u20 u21 u22 u23 u24 u25 u26 u27 u28 u29 u30 u31 u32 u33 u34 u35 u36 u37 u38 u39 u40 u41 u42 u43 u44 u45 u46 u47 u48 u49 u50 u51 u52 u53 : Value, a' = { tmps := #[.slice (some ⟨b1, o1, none⟩) F.length c1, .slice (some ⟨b2, o2, none⟩) G.length c2, undef, undef, u4, u5, .int .i64 N, v, .int .i64 k, u9, u10, u11, u12, u13, u14, u15, u16, u17, u18, u19, u20, u21, u22, u23, u24, u25, u26, u27, u28, u29, u30, u31, u32, u33, u34, u35, u36, u37, u38, u39, u40, u41, u42, u43, u44, u45, u46, u47, u48, u49, u50, u51, u52, u53], defers := [] }
theorem SJ.mk {w : World} {b1 o1 c1 b2 o2 c2 : Nat} {F G : List ByteArray} {N : Nat} {R : Option (List ByteArray)} {w' : World} {v : Value} {u4 u5 u9 u10 u11 u12 u13 u14 u15 u16 u17 u18 u19 u20 u21 u22 u23 u24 u25 u26 u27 u28 u29 u30 u31 u32 u33 u34 u35 u36 u37 u38 u39 u40 u41 u42 u43 u44 u45 u46 u47 u48 u49 u50 u51 u52 u53 : Value} {q qN : Int} (k : Nat) (pre : List ByteArray) (hq : q = (k : Int)) (hqN : qN = (N : Int)) (hB : Below w.heap.size w w') (hk : k < N)
    (ho : w'.ownsRow w.heap.size 9 1 v pre.length (pre.map Value.string)) (hl : pre.length ≤ k) (hr : (goS F G (N - k) k).map (pre ++ ·) = R) :
    SJ w b1 o1 c1 b2 o2 c2 F G N R { tmps := #[.slice (some ⟨b1, o1, none⟩) F.length c1, .slice (some ⟨b2, o2, none⟩) G.length c2, undef, undef, u4, u5, .int .i64 qN, v, .int .i64 q, u9, u10, u11, u12, u13, u14, u15, u16, u17, u18, u19, u20, u21, u22, u23, u24, u25, u26, u27, u28, u29, u30, u31, u32, u33, u34, u35, u36, u37, u38, u39, u40, u41, u42, u43, u44, u45, u46, u47, u48, u49, u50, u51, u52, u53], defers := [] } w' := by
  subst hq hqN
  exact ⟨hB, k, v, pre, hk, ho, hl, hr, u4, u5, u9, u10, u11, u12, u13, u14, u15, u16, u17, u18, u19, u20, u21, u22, u23, u24, u25, u26, u27, u28, u29, u30, u31, u32, u33, u34, u35, u36, u37, u38, u39, u40, u41, u42, u43, u44, u45, u46, u47, u48, u49, u50, u51, u52, u53, rfl⟩
def SM (N : Nat) (a' : Act) : Nat := N - (match a'.tmps.getD 8 undef with | .int _ q => q.toNat | _ => 0)
/-- What the call leaves. -/
def SP (w : World) (R : Option (List ByteArray)) (e : Ending) (w' : World) : Prop :=
  Below w.heap.size w w' ∧ ∃ v, e = .returned (.tuple #[v, .bool R.isSome]) ∧ (R = none → v = .slice none 0 0) ∧ (∀ s, R = some s → w'.ownsRow w.heap.size 9 1 v s.length (s.map Value.string))
theorem SP.no {w w' : World} {R : Option (List ByteArray)} (h : R = none) (hB : Below w.heap.size w w') : SP w R (.returned (.tuple #[.slice none 0 0, .bool false])) w' := by
  subst h
  exact ⟨hB, _, rfl, fun _ => rfl, fun s h => by cases h⟩
theorem SP.yes {w w' : World} {R : Option (List ByteArray)} {v : Value} (s : List ByteArray) (h : some s = R) (hB : Below w.heap.size w w') (ho : w'.ownsRow w.heap.size 9 1 v s.length (s.map Value.string)) : SP w R (.returned (.tuple #[v, .bool true])) w' := by
  subst h
  refine ⟨hB, v, rfl, ?_, ?_⟩
  · intro h; cases h
  · intro t h; cases h; exact ho

set_option maxRecDepth 1000000 in
set_option maxHeartbeats 4000000 in
theorem search_any (b1 o1 c1 b2 o2 c2 : Nat) (F G : List ByteArray) (w : World) (hF : Row w b1 o1 F) (hG : Row w b2 o2 G) (nF : F ≠ []) (nG : G ≠ []) (lF : F.length ≤ 65537) (lG : G.length ≤ 65537)
    (bF : b1 < w.heap.size) (bG : b2 < w.heap.size) :
    Calls Tryz.prog 84 #[.slice (some ⟨b1, o1, none⟩) F.length c1, .slice (some ⟨b2, o2, none⟩) G.length c2] w (SP w (goS F G (max F.length G.length) 0)) := by
  obtain ⟨i0, hi, hz0, hz1, hz2⟩ := info_parts infoStr
  have hp1 := List.length_pos_iff.2 nF
  obtain ⟨N, hN⟩ : ∃ N : Nat, max F.length G.length = N := ⟨_, rfl⟩
  rw [hN]
  obtain ⟨R, hR⟩ : ∃ R, goS F G N 0 = R := ⟨_, rfl⟩
  rw [hR]
  have hN0 : 0 < N := by omega
  have hNb : N ≤ 65537 := by omega
  have hNi : (if (F.length : Int) < (G.length : Int) then (G.length : Int) else (F.length : Int)) = (N : Int) := by split <;> omega
  go_enter Tryz.func84, Tryz.ntmps84
  go_wp2
  refine scope_fall 0 (SJ w b1 o1 c1 b2 o2 c2 F G N R) (fun a' _ => SM N a') rfl ?_ ?_
  · rintro a' w' ⟨hB, k, v, pre, hk, hown, hpl, hres, u4, u5, u9, u10, u11, u12, u13, u14, u15, u16, u17, u18, u19, u20, u21, u22, u23, u24, u25, u26, u27, u28, u29, u30, u31, u32, u33, u34, u35, u36, u37, u38, u39, u40, u41, u42, u43, u44, u45, u46, u47, u48, u49, u50, u51, u52, u53, rfl⟩
    have hF' := hF.below hB bF
    have hG' := hG.below hB bG
    obtain ⟨m, hm⟩ : ∃ m, N - k = m + 1 := ⟨N - k - 1, by omega⟩
    have hm' : N - (k + 1) = m := by omega
    rw [hm, goS] at hres
    go_wp2_with fail
    refine (levelAt_any b1 o1 c1 k F w' hF' nF (by omega)).mono ?_
    rintro e w1 ⟨rfl, rfl⟩
    go_wp2_with fail
    refine (levelAt_any b2 o2 c2 k G w1 hG' nG (by omega)).mono ?_
    rintro e w2 ⟨rfl, rfl⟩
    generalize lvA F k = x at hres ⊢
    generalize lvA G k = y at hres ⊢
    obtain ⟨c0, cc1⟩ := cells2 w2 (.string x) (.string y) 162
    have hB1 := hB.alloc hB.size (.cells #[.string x, .string y] 162)
    have hS1 : w2.heap.size < (w2.alloc (.cells #[.string x, .string y] 162)).heap.size := by simp
    have ho1 := hown.alloc (.cells #[.string x, .string y] 162)
    go_wp2_with fail
    refine (narrower_any x y _).mono ?_
    rintro e w3 ⟨rfl, hB3⟩
    have c0' := (hB3.cell (p := ⟨w2.heap.size, 0, none⟩) hS1).trans c0
    have c1' := (hB3.cell (p := ⟨w2.heap.size, 1, none⟩) hS1).trans cc1
    have hBB := hB1.trans (hB3.mono (Nat.le_trans hB.size (Nat.le_of_lt hS1)))
    have ho3 : w3.ownsRow w.heap.size 9 1 v pre.length (pre.map Value.string) := owns_held ho1 hB3
    clear hB1 hB3 ho1 cc1 c0 hF' hG' hown
    cases hnar : narr (tl x) (tl y) with
    | none =>
      rw [hnar] at hres
      simp only [Option.map_none] at hres
      go_wp2
      simp only [Exit.jump]
      go_ret2
      exact SP.no hres.symm hBB
    | some l =>
      rw [hnar] at hres
      simp only [Option.getD_some, Option.isSome_some] at hres ⊢
      obtain ⟨lb, hlb⟩ : ∃ lb, bs l = lb := ⟨_, rfl⟩
      have hlt : tl lb = l := by rw [← hlb, tl_bs]
      rw [hlb] at hres ⊢
      by_cases hh : k = 0 ∧ x ≠ y ∧ dol l = true
      · rw [if_pos hh] at hres
        obtain ⟨rfl, hxy, hd⟩ := hh
        simp only [Option.map_none] at hres
        have htr : (!(tl x == tl y) && dol (tl lb)) = true := by rw [hlt, hd, Bool.and_true]; simpa [tl_inj] using hxy
        go_wp2_with fail
        refine (hides_any x y lb w3).mono ?_
        rintro e w4 ⟨rfl, hB4⟩
        rw [htr]
        go_wp2
        simp only [Exit.jump]
        go_ret2
        exact SP.no hres.symm (hBB.trans (hB4.mono hBB.size))
      · rw [if_neg hh] at hres
        have hfa : k = 0 → (!(tl x == tl y) && dol (tl lb)) = false := by
          intro h0
          rw [hlt]
          by_cases hxy : x = y
          · subst hxy; simp
          · have : dol l = false := by
              cases hd : dol l with
              | false => rfl
              | true => exact absurd ⟨h0, hxy, hd⟩ hh
            simp [this]
        by_cases hl : l = no
        · rw [if_pos hl] at hres
          have hln : (lb.toList == [47]) = true := by rw [show lb.toList = l from hlt, hl]; rfl
          clear hlt
          by_cases hk0 : k = 0
          · have hfa := hfa hk0
            subst hk0
            go_wp2_with fail
            refine (hides_any x y lb w3).mono ?_
            rintro e w4 ⟨rfl, hB4⟩
            rw [hfa]
            have hB4' := hBB.trans (hB4.mono hBB.size)
            have ho4 := owns_held ho3 hB4
            clear hB4 ho3 hBB
            go_wp2
            all_goals (try exact trivial)
            · rename_i hlt
              go_step3
              refine ⟨rfl, SJ.mk (0 + 1) pre (by omega) rfl hB4' (by omega) (ho4) (by omega) (by rw [hm']; exact hres), ?_⟩
              · simp [SM]; omega
            · rename_i hlt
              have hm0 : m = 0 := by omega
              subst hm0
              simp only [goS, Option.map_some] at hres
              simp only [Exit.jump]
              go_ret2
              exact SP.yes _ hres hB4' (by simpa using ho4)
          · clear hfa
            have hk0' : ((k : Int) == 0) = false := by simp; omega
            have hB4' := hBB
            have ho4 := ho3
            go_wp2
            all_goals (try exact trivial)
            · rename_i hlt
              go_step3
              refine ⟨rfl, SJ.mk (k + 1) pre (by omega) rfl hB4' (by omega) (ho4) (by omega) (by rw [hm']; exact hres), ?_⟩
              · simp [SM]; omega
            · rename_i hlt
              have hm0 : m = 0 := by omega
              subst hm0
              simp only [goS, Option.map_some] at hres
              simp only [Exit.jump]
              go_ret2
              exact SP.yes _ hres hB4' (by simpa using ho4)
        · rw [if_neg hl] at hres
          have hln : (lb.toList == [47]) = false := by rw [show lb.toList = l from hlt]; simpa using hl
          clear hlt
          by_cases hk0 : k = 0
          · have hfa := hfa hk0
            subst hk0
            go_wp2_with fail
            refine (hides_any x y lb w3).mono ?_
            rintro e w4 ⟨rfl, hB4⟩
            rw [hfa]
            have hB4' := hBB.trans (hB4.mono hBB.size)
            have ho4 := owns_held ho3 hB4
            clear hB4 ho3 hBB
            go_wp2_with (at_builtin; refine wpList_append_own _ rfl _ _ 71 rfl w.heap.size 9 i0 (.string ⟨#[]⟩) 1 16 Tryz.underlying71 hi hz0 hz1 hz2 rfl (by decide) v _ _ rfl (ho4.alloc _) ⟨w4.heap.size, 0, none⟩ 1 1 [.string lb] rfl rfl (cell_one_new _ _ _) (by intro u hu; simp at hu; subst hu; rfl) (by unfold maxLen; omega) (by omega) (by have := hB4'.size; simp; omega) ?_; intro v1 w5 hown5 hgrow5 hnil5; have hB5 := below_grown (hB4'.alloc hB4'.size _) hgrow5 (ho4.alloc _) (Nat.le_refl _))
            all_goals (try exact trivial)
            · rename_i hlt
              go_step3
              refine ⟨rfl, SJ.mk (0 + 1) (pre ++ [lb]) (by omega) rfl hB5 (by omega) (by simpa using hown5) (by rw [List.length_append]; simp only [List.length_cons, List.length_nil]; omega) (by rw [hm', ← hres]; cases goS F G m _ <;> simp), ?_⟩
              · simp [SM]; omega
            · rename_i hlt
              have hm0 : m = 0 := by omega
              subst hm0
              simp only [goS, Option.map_some] at hres
              simp only [Exit.jump]
              go_ret2
              exact SP.yes _ hres hB5 (by simpa using hown5)
          · clear hfa
            have hk0' : ((k : Int) == 0) = false := by simp; omega
            have hB4' := hBB
            have ho4 := ho3
            go_wp2_with (at_builtin; refine wpList_append_own _ rfl _ _ 71 rfl w.heap.size 9 i0 (.string ⟨#[]⟩) 1 16 Tryz.underlying71 hi hz0 hz1 hz2 rfl (by decide) v _ _ rfl (ho4.alloc _) ⟨w3.heap.size, 0, none⟩ 1 1 [.string lb] rfl rfl (cell_one_new _ _ _) (by intro u hu; simp at hu; subst hu; rfl) (by unfold maxLen; omega) (by omega) (by have := hB4'.size; simp; omega) ?_; intro v1 w5 hown5 hgrow5 hnil5; have hB5 := below_grown (hB4'.alloc hB4'.size _) hgrow5 (ho4.alloc _) (Nat.le_refl _))
            all_goals (try exact trivial)
            · rename_i hlt
              go_step3
              refine ⟨rfl, SJ.mk (k + 1) (pre ++ [lb]) (by omega) rfl hB5 (by omega) (by simpa using hown5) (by rw [List.length_append]; simp only [List.length_cons, List.length_nil]; omega) (by rw [hm', ← hres]; cases goS F G m _ <;> simp), ?_⟩
              · simp [SM]; omega
            · rename_i hlt
              have hm0 : m = 0 := by omega
              subst hm0
              simp only [goS, Option.map_some] at hres
              simp only [Exit.jump]
              go_ret2
              exact SP.yes _ hres hB5 (by simpa using hown5)
  · intro pass
    go_wp2_with (at_make; refine wpList_make_own _ rfl _ _ 71 rfl w.heap.size 9 i0 (.string ⟨#[]⟩) 1 Tryz.underlying71 hi hz0 hz1 _ _ _ N rfl rfl (by omega) (by rw [hz2]; omega) (by unfold maxLen; omega) (Nat.le_refl _) ?_)
    intro wm hown hgm
    have hNm : max (F.length : Int) (G.length : Int) = (N : Int) := by omega
    go_wp2
    rename_i K hK
    exact wp_label (hK _ _ (pass _ _ (SJ.mk 0 [] rfl hNm ((Below.refl _ w).grown hgm (Nat.le_refl _) (fun k e => by cases e)) hN0 hown (Nat.le_refl _) (by simpa using hR))))
end Go.Proofs.YtkgbpildikjoiaaGreatDoor
