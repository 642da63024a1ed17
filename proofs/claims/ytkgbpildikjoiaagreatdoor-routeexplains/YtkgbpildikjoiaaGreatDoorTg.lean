/- The calls filterLevels, sharedLevels, Covers, Match at every two texts: what the plain theory says; what is asked of the world: the two tables of unicode/utf8 as their text lays them. -/
import Derived.Test.YtkgbpildikjoiaaGreatDoorTf
import Derived.Test.YtkgbpildikjoiaaGreatDoorTl
import Derived.Test.YtkgbpildikjoiaaGreatDoorTq
namespace Go.Proofs.YtkgbpildikjoiaaGreatDoor
open Go.RowKit Tp Go.Shelf

theorem spr_gd {s : Bs} (h : isFilter s = true) : Gd (spr s) ∧ (spr s).headD [] ≠ ha ∧ (spr s).length ≤ 65537 := by
  unfold spr
  split
  · exact ⟨⟨by simp, fun k hk => by
      match k, hk with
      | 0, hk => exact absurd hk (by decide)
      | 1, _ => rfl
      | k + 2, hk => simp at hk, by decide⟩, by decide, by decide⟩
  · split
    · exact ⟨⟨by simp, fun k hk => by
        match k, hk with
        | 0, hk => exact absurd hk (by decide)
        | 1, hk => exact absurd hk (by decide)
        | 2, _ => rfl
        | k + 3, hk => simp at hk, by decide⟩, by decide, by decide⟩
    · rename_i h1 _
      simp only [isFilter, Bool.and_eq_true] at h
      have hl := fl_last _ h.2
      refine ⟨⟨lvs_ne s, hl, fun x hx e => ?_⟩, fun e => ?_, ?_⟩
      · have := no_slash s x hx
        rw [e] at this
        simp at this
      · cases hc : lvs s with
        | nil => exact lvs_ne s hc
        | cons x r =>
          rw [hc] at e hl
          simp only [List.headD_cons] at e
          subst e
          have := hl 0 rfl
          rw [List.length_cons] at this
          have hr : r = [] := List.length_eq_zero_iff.1 (by omega)
          subst hr
          have := glue_lvs s
          rw [hc, glue_one] at this
          exact h1 this.symm
      · rw [lvs_len]
        have h2 := h.1
        simp only [okText, Bool.and_eq_true, decide_eq_true_eq] at h2
        have := List.count_le_length (a := (47 : UInt8)) (l := s)
        omega

theorem owns_lower {w : World} {a b : Nat} {e : TypeId} {k n : Nat} {v : Value} {xs : List Value} (h : w.ownsRow b e k v n xs) (hab : a ≤ b) : w.ownsRow a e k v n xs := by
  obtain ⟨h1, (h2 | ⟨g, c, cur, h2, h3, h4⟩)⟩ := h
  · exact ⟨h1, .inl h2⟩
  · exact ⟨h1, .inr ⟨g, c, cur, h2, Nat.le_trans hab h3, h4⟩⟩

theorem spr_ne {s : Bs} : spr s ≠ [] := by
  unfold spr
  split
  · simp
  · split
    · simp
    · exact lvs_ne s

theorem shared_shD {f g : Bs} (hf : isFilter f = true) (hg : isFilter g = true) : shared f g = shD (spr f) (spr g) := by
  unfold shared shD
  rw [if_pos ⟨hf, hg⟩]

theorem map_tl_bs (l : List Bs) : (l.map bs).map tl = l := by
  rw [List.map_map]
  conv => rhs; rw [← List.map_id l]
  exact List.map_congr_left fun x _ => tl_bs x

set_option maxHeartbeats 1000000 in
theorem filterLevels_any (s : ByteArray) (w : World) (hs : s.size ≤ 65535) :
    Calls Tryz.prog 73 #[.string s] w fun e W' => ∃ v, e = .returned v ∧ W'.ownsRow w.heap.size 9 1 v ((spr (tl s)).map bs).length (((spr (tl s)).map bs).map Value.string) ∧ Below w.heap.size w W' := by
  by_cases h1 : tl s = ha
  · have h1' : (s.toList == [35]) = true := by simpa using h1
    have e : spr (tl s) = lvs (tl ⟨#[43, 47, 35]⟩) := by rw [h1, tl_data]; rfl
    have c := levels_any ⟨#[43, 47, 35]⟩ w (by decide)
    rw [← e] at c
    rw [List.length_map]
    generalize spr (tl s) = L at c ⊢
    go_enter Tryz.func73, Tryz.ntmps73
    go_wp2_with (go_at_call 85; refine c.mono ?_; rintro e w' ⟨v, rfl, ho, hB⟩)
    go_ret
    exact ⟨v, rfl, ho, hB⟩
  · have h1' : (s.toList == [35]) = false := by simpa using h1
    by_cases h2 : tl s = [47, 35]
    · have h2' : (s.toList == [47, 35]) = true := by simpa using h2
      have e : spr (tl s) = lvs (tl ⟨#[47, 43, 47, 35]⟩) := by rw [h2, tl_data]; rfl
      have c := levels_any ⟨#[47, 43, 47, 35]⟩ w (by decide)
      rw [← e] at c
      rw [List.length_map]
      generalize spr (tl s) = L at c ⊢
      clear h2
      go_enter Tryz.func73, Tryz.ntmps73
      go_wp2_with (go_at_call 85; refine c.mono ?_; rintro e w' ⟨v, rfl, ho, hB⟩)
      go_ret
      exact ⟨v, rfl, ho, hB⟩
    · have h2' : (s.toList == [47, 35]) = false := by simpa using h2
      have e : spr (tl s) = lvs (tl s) := by rw [spr, if_neg h1, if_neg h2]
      have c := levels_any s w (by omega)
      rw [← e] at c
      rw [List.length_map]
      generalize spr (tl s) = L at c ⊢
      go_enter Tryz.func73, Tryz.ntmps73
      go_wp2_with (go_at_call 85; refine c.mono ?_; rintro e w' ⟨v, rfl, ho, hB⟩)
      go_ret
      exact ⟨v, rfl, ho, hB⟩

theorem isFilter_size {s : ByteArray} (h : isFilter (tl s) = true) : s.size ≤ 65535 := by
  simp only [isFilter, Bool.and_eq_true] at h
  exact okText_size h.1

set_option maxRecDepth 100000 in
set_option maxHeartbeats 2000000 in
theorem sharedLevels_any (f g : ByteArray) (w : World) (hf : f.size ≤ 9223372036854775807) (hg : g.size ≤ 9223372036854775807) (hT : Tabs w) :
    Calls Tryz.prog 71 #[.string f, .string g] w (SP w ((shared (tl f) (tl g)).map (List.map bs))) := by
  have c1 := filter_any f w hf hT
  cases h1 : isFilter (tl f) with
  | false =>
    rw [h1] at c1
    have e : (shared (tl f) (tl g)).map (List.map bs) = none := by simp [shared, h1]
    rw [e]
    go_enter Tryz.func71, Tryz.ntmps71
    go_wp2_with (go_at_call 83; refine c1.mono ?_; rintro e w1 ⟨rfl, hb1⟩)
    go_ret2
    exact SP.no rfl hb1
  | true =>
    rw [h1] at c1
    cases h2 : isFilter (tl g) with
    | false =>
      have e : (shared (tl f) (tl g)).map (List.map bs) = none := by simp [shared, h2]
      rw [e]
      go_enter Tryz.func71, Tryz.ntmps71
      go_wp2_with fail
      refine c1.mono ?_
      rintro e w1 ⟨rfl, hb1⟩
      go_wp2_with fail
      refine (filter_any g w1 hg (hT.below hb1)).mono ?_
      rintro e w2 ⟨rfl, hb2⟩
      rw [h2]
      go_wp2
      go_ret2
      exact SP.no rfl (hb1.trans (hb2.mono hb1.size))
    | true =>
      obtain ⟨gf, hf0, hfl⟩ := spr_gd h1
      obtain ⟨gg, hg0, hgl⟩ := spr_gd h2
      have zf := isFilter_size h1
      have zg := isFilter_size h2
      have e := goS_shD ((spr (tl f)).map bs) ((spr (tl g)).map bs) (by rw [map_tl_bs]; exact gf) (by rw [map_tl_bs]; exact gg) (by rw [map_tl_bs]; exact hf0) (by rw [map_tl_bs]; exact hg0)
      rw [map_tl_bs, map_tl_bs, ← shared_shD h1 h2] at e
      rw [← e]
      have nF : (spr (tl f)).map bs ≠ [] := by simpa using gf.ne
      have nG : (spr (tl g)).map bs ≠ [] := by simpa using gg.ne
      have cf := fun w => filterLevels_any f w zf
      have cg := fun w => filterLevels_any g w zg
      have lF : ((spr (tl f)).map bs).length ≤ 65537 := by rw [List.length_map]; exact hfl
      have lG : ((spr (tl g)).map bs).length ≤ 65537 := by rw [List.length_map]; exact hgl
      clear e gf gg hf0 hg0 hfl hgl
      generalize (spr (tl f)).map bs = F at *
      generalize (spr (tl g)).map bs = G at *
      go_enter Tryz.func71, Tryz.ntmps71
      go_wp2_with fail
      refine c1.mono ?_
      rintro e w1 ⟨rfl, hb1⟩
      go_wp2_with fail
      refine (filter_any g w1 hg (hT.below hb1)).mono ?_
      rintro e w2 ⟨rfl, hb2⟩
      rw [h2]
      have B2 := hb1.trans (hb2.mono hb1.size)
      go_wp2_with fail
      refine (cf w2).mono ?_
      rintro e w3 ⟨v1, rfl, ho1, hb3⟩
      obtain ⟨g1, k1, rfl, q1, q2, q3, r1⟩ := owns_row ho1 nF
      have B3 := B2.trans (hb3.mono B2.size)
      go_wp2_with fail
      refine (cg w3).mono ?_
      rintro e w4 ⟨v2, rfl, ho2, hb4⟩
      obtain ⟨g2, k2, rfl, q4, q5, q6, r2⟩ := owns_row ho2 nG
      have B4 := B3.trans (hb4.mono B3.size)
      go_wp2_with fail
      refine (search_any g1 0 k1 g2 0 k2 F G w4 (r1.below hb4 q2) r2 nF nG lF lG (Nat.lt_of_lt_of_le q2 hb4.size) q5).mono ?_
      rintro e w5 ⟨hb5, v, rfl, hn, ho⟩
      go_wp2
      go_ret2
      exact ⟨B4.trans (hb5.mono B4.size), v, rfl, hn, fun s hs => owns_lower (ho s hs) B4.size⟩

theorem Row.getD {W : World} {b o : Nat} {xs : List ByteArray} (h : Row W b o xs) : ∀ j, j < xs.length → W.cell? ⟨b, o + j, none⟩ = some (.string (xs.getD j ByteArray.empty)) := by
  intro j hj
  rw [h.at j hj]
  simp [List.getD, hj]

theorem map_bs_inj {a b : List Bs} (h : a.map bs = b.map bs) : a = b := by rw [← map_tl_bs a, h, map_tl_bs]

set_option maxRecDepth 100000 in
set_option maxHeartbeats 2000000 in
theorem covers_any (f g : ByteArray) (w : World) (hf : f.size ≤ 9223372036854775807) (hg : g.size ≤ 9223372036854775807) (hT : Tabs w) :
    Calls Tryz.prog 55 #[.string f, .string g] w fun e w' => e = .returned (.bool (covers (tl f) (tl g))) ∧ Below w.heap.size w w' := by
  have c1 := sharedLevels_any f g w hf hg hT
  unfold covers
  cases hs : shared (tl f) (tl g) with
  | none =>
    rw [hs] at c1
    rw [show decide ((none : Option (List Bs)) = some (spr (tl g))) = false from rfl]
    go_enter Tryz.func55, Tryz.ntmps55
    go_wp2_with (go_at_call 71; refine c1.mono ?_; rintro e w1 ⟨hb1, v, rfl, hn, _⟩)
    go_ret
    exact ⟨rfl, hb1⟩
  | some L =>
    rw [hs] at c1
    have h2 : isFilter (tl g) = true := by
      cases h : isFilter (tl g) with
      | true => rfl
      | false => simp [shared, h] at hs
    have zg := isFilter_size h2
    have hL := (spr_gd h2).2.2
    have hLL : L.length ≤ 140000 := by
      have h1 : isFilter (tl f) = true := by
        cases h : isFilter (tl f) with
        | true => rfl
        | false => simp [shared, h] at hs
      have e := goS_shD ((spr (tl f)).map bs) ((spr (tl g)).map bs) (by rw [map_tl_bs]; exact (spr_gd h1).1) (by rw [map_tl_bs]; exact (spr_gd h2).1) (by rw [map_tl_bs]; exact (spr_gd h1).2.1) (by rw [map_tl_bs]; exact (spr_gd h2).2.1)
      rw [map_tl_bs, map_tl_bs, ← shared_shD h1 h2, hs] at e
      have := goS_len _ _ _ _ _ e
      have k1 := (spr_gd h1).2.2
      simp only [List.length_map] at this
      omega
    by_cases hnil : L = []
    · subst hnil
      have e : decide (some ([] : List Bs) = some (spr (tl g))) = false := by
        rw [decide_eq_false_iff_not]
        intro h
        exact spr_ne (Option.some.inj h).symm
      rw [e]
      have nG : (spr (tl g)).map bs ≠ [] := by simpa using spr_ne
      have lG : ((spr (tl g)).map bs).length ≤ 65537 := by rw [List.length_map]; exact hL
      have cg := fun w => filterLevels_any g w zg
      generalize (spr (tl g)).map bs = G at *
      have lG0 := List.length_pos_iff.2 nG
      have e0 : decide (G.length = 0) = false := by simpa using nG
      go_enter Tryz.func55, Tryz.ntmps55
      go_wp2_with fail
      refine c1.mono ?_
      rintro e w1 ⟨hb1, v, rfl, _, ho⟩
      have ho := ho [] rfl
      obtain ⟨a, c, rfl⟩ : ∃ a c, v = .slice a 0 c := by
        obtain ⟨_, (⟨h1, _⟩ | ⟨g1, c, cur, h1, _⟩)⟩ := ho
        · exact ⟨_, _, h1⟩
        · exact ⟨_, _, h1⟩
      go_wp2_with fail
      refine (cg w1).mono ?_
      rintro e w2 ⟨v2, rfl, ho2, hb2⟩
      obtain ⟨g2, k2, rfl, q4, q5, q6, r2⟩ := owns_row ho2 nG
      go_wp2_with fail
      refine (Tryz.slices_Equal_string_empty _ _ _ _ _ _ (by omega)).mono ?_
      rintro e w3 ⟨rfl, rfl⟩
      rw [e0]
      go_wp2
      go_ret
      exact ⟨rfl, hb1.trans (hb2.mono hb1.size)⟩
    · have nL : L.map bs ≠ [] := by simpa using hnil
      have nG : (spr (tl g)).map bs ≠ [] := by simpa using spr_ne
      have lG : ((spr (tl g)).map bs).length ≤ 65537 := by rw [List.length_map]; exact hL
      have lL : (L.map bs).length ≤ 140000 := by rw [List.length_map]; exact hLL
      have e : decide (some L = some (spr (tl g))) = decide ((L.map bs).take (L.map bs).length = ((spr (tl g)).map bs).take ((spr (tl g)).map bs).length) := by
        rw [List.take_length, List.take_length]
        apply decide_eq_decide.2
        constructor
        · intro h; rw [Option.some.inj h]
        · intro h; rw [map_bs_inj h]
      rw [e]
      have cg := fun w => filterLevels_any g w zg
      rw [show (Option.map (List.map bs) (some L)) = some (L.map bs) from rfl] at c1
      generalize (spr (tl g)).map bs = G at *
      generalize L.map bs = M at *
      obtain ⟨B, hB⟩ : ∃ B, decide (M.take M.length = G.take G.length) = B := ⟨_, rfl⟩
      rw [hB]
      go_enter Tryz.func55, Tryz.ntmps55
      go_wp2_with fail
      refine c1.mono ?_
      rintro e w1 ⟨hb1, v, rfl, _, ho⟩
      have ho := ho M rfl
      obtain ⟨g1, k1, rfl, q1, q2, q3, r1⟩ := owns_row ho nL
      go_wp2_with fail
      refine (cg w1).mono ?_
      rintro e w2 ⟨v2, rfl, ho2, hb2⟩
      obtain ⟨g2, k2, rfl, q4, q5, q6, r2⟩ := owns_row ho2 nG
      go_wp2_with fail
      refine (Tryz.slices_Equal_string g1 0 M.length k1 g2 0 G.length k2 M G w2 (Nat.le_refl _) (Nat.le_refl _) (by omega) (by omega) (r1.below hb2 q2).getD r2.getD).mono ?_
      rintro e w3 ⟨rfl, q, rfl⟩
      rw [hB]
      go_wp2
      go_ret
      exact ⟨rfl, below_drewN (hb1.trans (hb2.mono hb1.size)) q⟩

def matches' (f n : Bs) : Bool := isName n && covers f n

set_option maxHeartbeats 1000000 in
theorem match_any (f n : ByteArray) (w : World) (hf : f.size ≤ 9223372036854775807) (hn : n.size ≤ 9223372036854775807) (hT : Tabs w) :
    Calls Tryz.prog 46 #[.string f, .string n] w fun e w' => e = .returned (.bool (matches' (tl f) (tl n))) ∧ Below w.heap.size w w' := by
  have c1 := name_any n w hn hT
  unfold matches'
  cases h : isName (tl n) with
  | false =>
    rw [h] at c1
    rw [Bool.false_and]
    go_enter Tryz.func46, Tryz.ntmps46
    go_wp2_with (go_at_call 54; refine c1.mono ?_; rintro e w' ⟨rfl, hb⟩)
    go_ret
    exact ⟨rfl, hb⟩
  | true =>
    rw [h] at c1
    rw [Bool.true_and]
    go_enter Tryz.func46, Tryz.ntmps46
    go_wp2_with (first | (go_at_call 54; refine c1.mono ?_; rintro e w1 ⟨rfl, hb1⟩) | (go_at_call 55; refine (covers_any f n _ hf hn (hT.below hb1)).mono ?_; rintro e w2 ⟨rfl, hb2⟩))
    go_ret
    exact ⟨rfl, hb1.trans (hb2.mono hb1.size)⟩
end Go.Proofs.YtkgbpildikjoiaaGreatDoor
