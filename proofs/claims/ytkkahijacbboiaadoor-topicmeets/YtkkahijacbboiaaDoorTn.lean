/- The calls shortestName, Common, Meets at every two texts; what is asked of the world: the two tables of unicode/utf8 as their text lays them. -/
import Derived.Test.YtkkahijacbboiaaDoorTg
import Derived.Test.YtkkahijacbboiaaDoorRb
namespace Go.Proofs.YtkkahijacbboiaaDoor
open Go.RowKit Tp

/-- The levels of the name that a row of levels gives. -/
def nmL : List Bs → List Bs
  | [] => []
  | x :: r => if x = ha then nmL r else (if x = pl then [] else x) :: nmL r

def sname (L : List Bs) : Bs := if nmL L = [[]] then [97] else glue (nmL L)

theorem nmL_len : ∀ L : List Bs, (nmL L).length ≤ L.length
  | [] => Nat.le_refl _
  | x :: r => by
    have := nmL_len r
    unfold nmL
    split
    · simp; omega
    · simp; omega

theorem nmL_lens : ∀ L : List Bs, Lib.lens (nmL L) ≤ Lib.lens L
  | [] => Nat.le_refl _
  | x :: r => by
    have := nmL_lens r
    unfold nmL
    simp only [Lib.lens, List.map_cons, List.sum_cons] at this ⊢
    split
    · omega
    · split
      · simp only [List.map_cons, List.sum_cons, List.length_nil]; omega
      · simp only [List.map_cons, List.sum_cons]; omega

set_option maxRecDepth 100000 in
set_option maxHeartbeats 4000000 in
theorem shortestName_any (b c : Nat) (L : List Bs) (w : World) (hR : Row w b 0 (L.map bs)) (hb : b < w.heap.size) (hl : L.length ≤ 140000) (hne : nmL L ≠ []) (hz : Lib.lens L ≤ 100000000000) :
    Calls Tryd.prog 38 #[.slice (some ⟨b, 0, none⟩) L.length c] w fun e w' => e = .returned (.string (bs (sname L))) ∧ Below w.heap.size w w' := by
  obtain ⟨i0, hi0, hz0, hz1, hz2⟩ := info_parts infoStr
  have hnl := nmL_len L
  have hnz := nmL_lens L
  obtain ⟨M, hM⟩ : ∃ M, nmL L = M := ⟨_, rfl⟩
  unfold sname
  rw [hM] at hne hnl hnz ⊢
  have hL0 : 0 < L.length := by have := List.length_pos_iff.2 hne; omega
  obtain ⟨RES, hRES⟩ : ∃ RES, bs (if M = [[]] then [97] else glue M) = RES := ⟨_, rfl⟩
  rw [hRES]
  have HR : Hid (bs (if M = [[]] then [97] else glue M) = RES) := hRES
  clear hRES
  go_enter Tryd.func38, Tryd.ntmps38
  go_wp2_with (at_make; refine wpList_make_own _ rfl _ _ 23 rfl w.heap.size 9 i0 (.string ⟨#[]⟩) 1 Tryd.underlying23 hi0 hz0 hz1 _ _ _ L.length rfl rfl (by omega) (by rw [hz2]; omega) (by unfold maxLen; omega) (Nat.le_refl _) ?_; intro wm hown hgm)
  go_loopg [3, 11] L.length (fun g s3 s11 wx => ∃ (k : Nat) (pre : List Bs), k + g = L.length ∧ s11 = .int .i64 k ∧ wx.ownsRow w.heap.size 9 1 s3 (pre.map bs).length ((pre.map bs).map Value.string) ∧ Below w.heap.size w wx ∧ M = pre ++ nmL (L.drop k) ∧ pre.length ≤ k)
  case atStart => exact ⟨0, [], by omega, rfl, hown, (Below.refl _ w).grown hgm (Nat.le_refl _) (fun k e => by cases e), by rw [← hM]; rfl, Nat.le_refl _⟩
  case round =>
    obtain ⟨k, pre, hkg, rfl, hown, hB, hpre, hpl⟩ := hrel
    clear hM hgm
    have hBs := hB.size
    cases gk with
    | zero =>
      obtain rfl : k = L.length := by omega
      rw [List.drop_length, show nmL [] = [] from rfl, List.append_nil] at hpre
      subst hpre
      have nP : M.map bs ≠ [] := by simpa using hne
      have hO := hown
      obtain ⟨g1, k1, rfl, q1, q2, q3, r1⟩ := owns_row hown nP
      have cj := Tryd.strings_Join g1 0 k1 (M.map bs) ⟨#[47]⟩ wr (fun j x hx => r1 j x hx) q2 (by rw [List.length_map]; omega) q3
      have ej : (M.map bs).map (fun x => x.data.toList) = M := by
        rw [List.map_map]
        conv => rhs; rw [← List.map_id M]
        exact List.map_congr_left fun x _ => by show (bs x).data.toList = x; rw [← tl_data, tl_bs]
      rw [ej, show (⟨#[47]⟩ : ByteArray).data.toList = [47] from rfl, glue_join] at cj
      have hgl := glue_len M hne
      have cj := cj (by omega)
      rw [List.length_map] at cj ⊢
      have c0 := r1.bs 0 (List.length_pos_iff.2 hne)
      rw [Nat.zero_add] at c0
      by_cases h1 : M.length = 1
      · obtain ⟨y, rfl⟩ : ∃ y, M = [y] := List.length_eq_one_iff.1 h1
        have hye : tl (bs y) = y := tl_bs _
        simp only [List.getElem_cons_zero] at c0
        by_cases hy : y = []
        · have hy' : (tl (bs y)).isEmpty = true := by rw [hye, hy]; rfl
          have hs : Hid (RES = bs [97]) := by rw [← show bs (if [y] = [[]] then [97] else glue [y]) = RES from HR, hy]; rfl
          clear cj hye hy hO r1
          obtain ⟨Y, hY⟩ : ∃ Y, bs y = Y := ⟨_, rfl⟩
          rw [hY] at c0 hy'
          go_wp2
          go_ret
          exact ⟨by rw [show RES = bs [97] from hs]; rfl, hB⟩
        · have hy' : (tl (bs y)).isEmpty = false := by rw [hye]; simpa using hy
          have hs : Hid (RES = bs (glue [y])) := by rw [← show bs (if [y] = [[]] then [97] else glue [y]) = RES from HR, if_neg (by simpa using hy)]; rfl
          clear hye hy hO r1
          obtain ⟨Y, hY⟩ : ∃ Y, bs y = Y := ⟨_, rfl⟩
          rw [hY] at c0 hy'
          go_wp2_with (go_at_call 49; refine cj.mono ?_; rintro e w5 ⟨rfl, hb5⟩)
          go_ret
          exact ⟨by rw [show RES = bs (glue [y]) from hs]; rfl, hB.trans (hb5.mono hB.size)⟩
      · have h1' : ((M.length : Int) == 1) = false := by simp; omega
        have hs : Hid (RES = bs (glue M)) := by rw [← show bs (if M = [[]] then [97] else glue M) = RES from HR, if_neg (fun e => h1 (by rw [e]; rfl))]; rfl
        clear c0
        go_wp2_with (go_at_call 49; refine cj.mono ?_; rintro e w5 ⟨rfl, hb5⟩)
        go_ret
        exact ⟨by rw [show RES = bs (glue M) from hs]; rfl, hB.trans (hb5.mono hB.size)⟩
    | succ g =>
      have hk : k < L.length := by omega
      have cx := (hR.below hB hb).bs k hk
      rw [Nat.zero_add] at cx
      rw [List.drop_eq_getElem_cons hk] at hpre
      have hxe : tl (bs L[k]) = L[k] := tl_bs _
      generalize L[k] = x at cx hpre hxe
      rw [nmL] at hpre
      by_cases h1 : x = ha
      · rw [if_pos h1] at hpre
        have HP : Hid (M = pre ++ nmL (L.drop (k + 1))) := hpre
        have h1' : (tl (bs x) == [35]) = true := by rw [hxe]; simpa using h1
        clear hpre hxe h1
        generalize bs x = X at *
        go_wp2
        go_roundg g
        case measure => omega
        case rel => exact ⟨k + 1, pre, by omega, by simp, hown, hB, HP, by omega⟩
      · rw [if_neg h1] at hpre
        have h1' : (tl (bs x) == [35]) = false := by rw [hxe]; simpa using h1
        by_cases h2 : x = pl
        · rw [if_pos h2] at hpre
          have HP : Hid (M = pre ++ [] :: nmL (L.drop (k + 1))) := hpre
          have h2' : (tl (bs x) == [43]) = true := by rw [hxe]; simpa using h2
          clear hpre hxe h1 h2
          generalize bs x = X at *
          go_wp2_with (at_builtin; refine wpList_append_own _ rfl _ _ 23 rfl w.heap.size 9 i0 (.string ⟨#[]⟩) 1 16 Tryd.underlying23 hi0 hz0 hz1 hz2 rfl (by decide) _ _ _ rfl (hown.alloc _) ⟨wr.heap.size, 0, none⟩ 1 1 [.string ⟨#[]⟩] rfl rfl (cell_one_new _ _ _) (by intro u hu; simp at hu; subst hu; rfl) (by unfold maxLen; simp only [List.length_map]; omega) (by simp only [List.length_map]; omega) (by simp; omega) ?_; intro v1 w5 hown5 hgrow5 hnil5; have hB5 := below_grown (hB.alloc hB.size _) hgrow5 (hown.alloc _) (Nat.le_refl _))
          go_roundg g
          case measure => omega
          case rel => exact ⟨k + 1, pre ++ [[]], by omega, by simp, by simpa [bs] using hown5, hB5, by rw [show M = _ from HP]; simp, by rw [List.length_append]; simp only [List.length_cons, List.length_nil]; omega⟩
        · rw [if_neg h2] at hpre
          have HP : Hid (M = pre ++ x :: nmL (L.drop (k + 1))) := hpre
          have h2' : (tl (bs x) == [43]) = false := by rw [hxe]; simpa using h2
          clear hpre hxe h1 h2
          obtain ⟨X, hX⟩ : ∃ X, bs x = X := ⟨_, rfl⟩
          rw [hX] at cx h1' h2'
          go_wp2_with (at_builtin; refine wpList_append_own _ rfl _ _ 23 rfl w.heap.size 9 i0 (.string ⟨#[]⟩) 1 16 Tryd.underlying23 hi0 hz0 hz1 hz2 rfl (by decide) _ _ _ rfl (hown.alloc _) ⟨wr.heap.size, 0, none⟩ 1 1 [.string X] rfl rfl (cell_one_new _ _ _) (by intro u hu; simp at hu; subst hu; rfl) (by unfold maxLen; simp only [List.length_map]; omega) (by simp only [List.length_map]; omega) (by simp; omega) ?_; intro v1 w5 hown5 hgrow5 hnil5; have hB5 := below_grown (hB.alloc hB.size _) hgrow5 (hown.alloc _) (Nat.le_refl _))
          go_roundg g
          case measure => omega
          case rel => exact ⟨k + 1, pre ++ [x], by omega, by simp, by simpa [hX] using hown5, hB5, by rw [show M = _ from HP]; simp, by rw [List.length_append]; simp only [List.length_cons, List.length_nil]; omega⟩

theorem lens_cons (x : Bs) (r : List Bs) : Lib.lens (x :: r) = x.length + Lib.lens r := by simp [Lib.lens]

theorem srch_lens : ∀ (f g s : List Bs), srch f g = some s → Lib.lens s ≤ Lib.lens f + Lib.lens g
  | [], [], s, h => by simp [srch] at h; subst h; simp [Lib.lens]
  | [], y :: g, s, h => by
    simp only [srch] at h
    split at h
    · cases h; simp [Lib.lens]
    · cases h
  | x :: f, [], s, h => by
    simp only [srch] at h
    split at h
    · cases h; simp [Lib.lens]
    · cases h
  | x :: f, y :: g, s, h => by
    have ih := srch_lens f g
    simp only [srch] at h
    rw [lens_cons x, lens_cons y]
    split at h
    · cases h; rw [lens_cons]; omega
    · split at h
      · cases h; rw [lens_cons]; omega
      · split at h
        · obtain ⟨t, ht, rfl⟩ := Option.map_eq_some_iff.1 h
          have := ih t ht
          rw [lens_cons]; omega
        · split at h
          · obtain ⟨t, ht, rfl⟩ := Option.map_eq_some_iff.1 h
            have := ih t ht
            rw [lens_cons]; omega
          · split at h
            · obtain ⟨t, ht, rfl⟩ := Option.map_eq_some_iff.1 h
              have := ih t ht
              rw [lens_cons]; omega
            · cases h

theorem srch_mem : ∀ (f g s : List Bs), srch f g = some s → ∀ z ∈ s, z ∈ f ∨ z ∈ g
  | [], [], s, h, z, hz => by simp [srch] at h; subst h; simp at hz
  | [], y :: g, s, h, z, hz => by
    simp only [srch] at h
    split at h
    · cases h; simp at hz
    · cases h
  | x :: f, [], s, h, z, hz => by
    simp only [srch] at h
    split at h
    · cases h; simp at hz
    · cases h
  | x :: f, y :: g, s, h, z, hz => by
    have ih := srch_mem f g
    have up : ∀ t, srch f g = some t → z ∈ t → z ∈ x :: f ∨ z ∈ y :: g := fun t ht hz => (ih t ht z hz).imp (List.mem_cons_of_mem _) (List.mem_cons_of_mem _)
    simp only [srch] at h
    split at h
    · cases h; exact .inr hz
    · split at h
      · cases h; exact .inl hz
      · split at h
        · obtain ⟨t, ht, rfl⟩ := Option.map_eq_some_iff.1 h
          rcases List.mem_cons.1 hz with rfl | hz
          · exact .inr (by simp)
          · exact up t ht hz
        · split at h
          · obtain ⟨t, ht, rfl⟩ := Option.map_eq_some_iff.1 h
            rcases List.mem_cons.1 hz with rfl | hz
            · exact .inl (by simp)
            · exact up t ht hz
          · split at h
            · obtain ⟨t, ht, rfl⟩ := Option.map_eq_some_iff.1 h
              rcases List.mem_cons.1 hz with rfl | hz
              · exact .inl (by simp)
              · exact up t ht hz
            · cases h

theorem last_cons {x : Bs} {r : List Bs} (h : ∀ k, (x :: r)[k]? = some ha → k + 1 = (x :: r).length) : ∀ k, r[k]? = some ha → k + 1 = r.length := by
  intro k hk
  have := h (k + 1) (by simpa using hk)
  rw [List.length_cons] at this
  omega
theorem cons_last {x : Bs} {r : List Bs} (hx : x ≠ ha) (h : ∀ k, r[k]? = some ha → k + 1 = r.length) : ∀ k, (x :: r)[k]? = some ha → k + 1 = (x :: r).length := by
  intro k hk
  cases k with
  | zero => exact absurd (Option.some.inj hk) hx
  | succ k =>
    have := h k (by simpa using hk)
    rw [List.length_cons]
    omega

theorem srch_last : ∀ (f g s : List Bs), srch f g = some s → (∀ k, f[k]? = some ha → k + 1 = f.length) → (∀ k, g[k]? = some ha → k + 1 = g.length) → ∀ k, s[k]? = some ha → k + 1 = s.length
  | [], [], s, h, _, _ => by simp [srch] at h; subst h; intro k hk; simp at hk
  | [], y :: g, s, h, _, _ => by
    simp only [srch] at h
    split at h
    · cases h; intro k hk; simp at hk
    · cases h
  | x :: f, [], s, h, _, _ => by
    simp only [srch] at h
    split at h
    · cases h; intro k hk; simp at hk
    · cases h
  | x :: f, y :: g, s, h, hf, hg => by
    have ih := fun t ht => srch_last f g t ht (last_cons hf) (last_cons hg)
    simp only [srch] at h
    split at h
    · cases h; exact hg
    · rename_i hx
      split at h
      · cases h; exact hf
      · rename_i hy
        split at h
        · obtain ⟨t, ht, rfl⟩ := Option.map_eq_some_iff.1 h
          exact cons_last hy (ih t ht)
        · split at h
          · obtain ⟨t, ht, rfl⟩ := Option.map_eq_some_iff.1 h
            exact cons_last hx (ih t ht)
          · split at h
            · obtain ⟨t, ht, rfl⟩ := Option.map_eq_some_iff.1 h
              exact cons_last hx (ih t ht)
            · cases h

theorem srch_head {f g s : List Bs} (h : srch f g = some s) (nf : f ≠ []) (ng : g ≠ []) (hf : f.headD [] ≠ ha) (hg : g.headD [] ≠ ha) : ∃ z r, s = z :: r ∧ z ≠ ha := by
  cases f with
  | nil => exact absurd rfl nf
  | cons x f =>
    cases g with
    | nil => exact absurd rfl ng
    | cons y g =>
      simp only [List.headD_cons] at hf hg
      simp only [srch, if_neg hf, if_neg hg] at h
      split at h
      · obtain ⟨t, ht, rfl⟩ := Option.map_eq_some_iff.1 h
        exact ⟨y, t, rfl, hg⟩
      · split at h
        · obtain ⟨t, ht, rfl⟩ := Option.map_eq_some_iff.1 h
          exact ⟨x, t, rfl, hf⟩
        · split at h
          · obtain ⟨t, ht, rfl⟩ := Option.map_eq_some_iff.1 h
            exact ⟨x, t, rfl, hf⟩
          · cases h

theorem srch_len (f g s : List Bs) (h : srch f g = some s) : s.length ≤ max f.length g.length := by
  induction f generalizing g s with
  | nil =>
    cases g with
    | nil => simp [srch] at h; subst h; simp
    | cons y g =>
      simp only [srch] at h
      split at h
      · cases h; simp
      · cases h
  | cons x f ih =>
    cases g with
    | nil =>
      simp only [srch] at h
      split at h
      · cases h; simp
      · cases h
    | cons y g =>
      simp only [srch] at h
      have up : ∀ t z, srch f g = some t → (z :: t).length ≤ max (x :: f).length (y :: g).length := fun t z ht => by
        have := ih g t ht
        simp only [List.length_cons]
        omega
      split at h
      · cases h; omega
      · split at h
        · cases h; omega
        · split at h
          · obtain ⟨t, ht, rfl⟩ := Option.map_eq_some_iff.1 h
            exact up t y ht
          · split at h
            · obtain ⟨t, ht, rfl⟩ := Option.map_eq_some_iff.1 h
              exact up t x ht
            · split at h
              · obtain ⟨t, ht, rfl⟩ := Option.map_eq_some_iff.1 h
                exact up t x ht
              · cases h

/-- Of two filters: what they share, if they share something. -/
theorem shared_some {f g : Bs} {L : List Bs} (h : shared f g = some L) : isFilter f = true ∧ isFilter g = true ∧ srch (spr f) (spr g) = some L := by
  unfold shared at h
  split at h
  · rename_i hh
    split at h
    · cases h
    · exact ⟨hh.1, hh.2, h⟩
  · cases h

theorem spr_lens {s : Bs} (h : isFilter s = true) : Lib.lens (spr s) ≤ 65535 := by
  unfold spr
  split
  · decide
  · split
    · decide
    · have h1 := glue_len (lvs s) (lvs_ne _)
      rw [glue_lvs] at h1
      have h2 : (lvs s).length ≥ 1 := List.length_pos_iff.2 (lvs_ne _)
      simp only [isFilter, okText, Bool.and_eq_true, decide_eq_true_eq] at h
      omega

/-- A name that two filters have in common. -/
def common (f g : Bs) : Option Bs := match shared f g with
  | none => none
  | some L => if (sname L).length ≤ 65535 then some (sname L) else none

set_option maxHeartbeats 2000000 in
theorem common_any (f g : ByteArray) (w : World) (hf : f.size ≤ 9223372036854775807) (hg : g.size ≤ 9223372036854775807) (hT : Tabs w) :
    Calls Tryd.prog 21 #[.string f, .string g] w fun e w' => e = .returned (.tuple #[.string (bs ((common (tl f) (tl g)).getD [])), .bool (common (tl f) (tl g)).isSome]) ∧ Below w.heap.size w w' := by
  have c1 := sharedLevels_any f g w hf hg hT
  unfold common
  cases hs : shared (tl f) (tl g) with
  | none =>
    rw [hs] at c1
    simp only [Option.getD_none, Option.isSome_none]
    go_enter Tryd.func21, Tryd.ntmps21
    go_wp2_with (go_at_call 32; refine c1.mono ?_; rintro e w1 ⟨hb1, v, rfl, hn, _⟩)
    go_ret2
    exact ⟨rfl, hb1⟩
  | some L =>
    rw [hs] at c1
    obtain ⟨h1, h2, h3⟩ := shared_some hs
    obtain ⟨z, r, hzr, hzh⟩ := srch_head h3 spr_ne spr_ne (spr_gd h1).2.1 (spr_gd h2).2.1
    have hnm : nmL L ≠ [] := by rw [hzr, nmL, if_neg hzh]; simp
    have hle := srch_lens _ _ _ h3
    have l1 := spr_lens h1
    have l2 := spr_lens h2
    have hll := srch_len _ _ _ h3
    have k1 := (spr_gd h1).2.2
    have k2 := (spr_gd h2).2.2
    have nL : L.map bs ≠ [] := by rw [hzr]; simp
    have hL1 : L.length ≤ 140000 := by omega
    have hL2 : Lib.lens L ≤ 100000000000 := by omega
    rw [show (Option.map (List.map bs) (some L)) = some (L.map bs) from rfl] at c1
    have cn := fun b c w hR hb => shortestName_any b c L w hR hb hL1 hnm hL2
    have hsz : (bs (sname L)).size = (sname L).length := by rw [← tl_size, tl_bs]
    have hML : (L.map bs).length = L.length := List.length_map _
    clear hs h3 hzr hle l1 l2 hll k1 k2 hnm
    dsimp only
    by_cases hlen : (sname L).length ≤ 65535
    · rw [if_pos hlen]
      simp only [Option.getD_some, Option.isSome_some]
      generalize sname L = N at *
      obtain ⟨X, hX⟩ : ∃ X, bs N = X := ⟨_, rfl⟩
      rw [hX] at hsz cn ⊢
      have h5 : ¬ (65535 < (X.size : Int)) := by omega
      go_enter Tryd.func21, Tryd.ntmps21
      go_wp2_with fail
      refine c1.mono ?_
      rintro e w1 ⟨hb1, v, rfl, _, ho⟩
      obtain ⟨g1, m1, rfl, q1, q2, q3, r1⟩ := owns_row (ho _ rfl) nL
      rw [hML]
      go_wp2_with fail
      refine (cn g1 m1 w1 r1 q2).mono ?_
      rintro e w2 ⟨rfl, hb2⟩
      clear hsz
      go_wp2
      go_ret2
      exact ⟨rfl, hb1.trans (hb2.mono hb1.size)⟩
    · rw [if_neg hlen]
      simp only [Option.getD_none, Option.isSome_none]
      generalize sname L = N at *
      obtain ⟨X, hX⟩ : ∃ X, bs N = X := ⟨_, rfl⟩
      rw [hX] at hsz cn
      have h5 : 65535 < (X.size : Int) := by omega
      go_enter Tryd.func21, Tryd.ntmps21
      go_wp2_with fail
      refine c1.mono ?_
      rintro e w1 ⟨hb1, v, rfl, _, ho⟩
      obtain ⟨g1, m1, rfl, q1, q2, q3, r1⟩ := owns_row (ho _ rfl) nL
      rw [hML]
      go_wp2_with fail
      refine (cn g1 m1 w1 r1 q2).mono ?_
      rintro e w2 ⟨rfl, hb2⟩
      clear hsz
      go_wp2
      go_ret2
      exact ⟨rfl, hb1.trans (hb2.mono hb1.size)⟩

set_option maxHeartbeats 1000000 in
theorem meets_any (f g : ByteArray) (w : World) (hf : f.size ≤ 9223372036854775807) (hg : g.size ≤ 9223372036854775807) (hT : Tabs w) :
    Calls Tryd.prog 22 #[.string f, .string g] w fun e w' => e = .returned (.bool (common (tl f) (tl g)).isSome) ∧ Below w.heap.size w w' := by
  have c1 := common_any f g w hf hg hT
  generalize common (tl f) (tl g) = R at *
  go_enter Tryd.func22, Tryd.ntmps22
  go_wp2_with (go_at_call 21; refine c1.mono ?_; rintro e w1 ⟨rfl, hb1⟩)
  go_ret
  exact ⟨rfl, hb1⟩
end Go.Proofs.YtkkahijacbboiaaDoor
