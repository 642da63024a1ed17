/- The law TopicLevels at every text of at most 1048576 bytes: levels put together are the text; what is asked of the world: the two tables of unicode/utf8 as their text lays them. -/
import Derived.Test.YtkkahijacbboiabDoorLawL
import Derived.Lib.AppendStr
import Derived.Lib.BufferRead
import Derived.Laws.IdiomStrings
import Derived.Deep.LoopGhost
namespace Go.Proofs.YtkkahijacbboiabDoor
open Go.RowKit Tp

def bv (l : Bs) : List Value := l.map fun b => Value.int .u8 (b.toNat : Int)

theorem infoU8 : (Tryd.prog.info? 5).map (fun i => (i.zero, i.size, i.bytes)) = some (some (.int .u8 0), 1, 1) := by kernel_rfl

theorem glue_snoc : ∀ (xs : List Bs) (x : Bs), xs ≠ [] → glue (xs ++ [x]) = glue xs ++ 47 :: x
  | [], _, h => absurd rfl h
  | [y], x, _ => by rw [List.singleton_append, glue_two, glue_one, glue_one]
  | y :: z :: r, x, _ => by
    rw [List.cons_append, List.cons_append, glue_two, glue_two, ← List.cons_append, glue_snoc (z :: r) x (by simp)]
    simp

theorem str_bv (s : ByteArray) : Lib.strCells s = bv (tl s) := by
  rw [tl_data]
  rfl

theorem glue_take (L : List Bs) (k : Nat) (hk : k < L.length) : (glue (L.take (k + 1))).length ≤ (glue L).length := by
  have hn : L ≠ [] := by intro e; rw [e] at hk; simp at hk
  have hn' : L.take (k + 1) ≠ [] := by
    intro e
    have := congrArg List.length e
    rw [List.length_take, List.length_nil] at this
    omega
  have h1 := glue_len L hn
  have h2 := glue_len _ hn'
  have h3 := Lib.lens_take_le L (k + 1)
  have h4 : (L.take (k + 1)).length ≤ L.length := by rw [List.length_take]; omega
  omega

theorem conv_back {w : World} {base : Nat} {v : Value} {t : Bs} (h : w.ownsRow base 5 1 v t.length (bv t)) : (convert 22 9 v).run Tryd.prog w = .ok (.string (bs t)) w := by
  obtain ⟨_, (⟨rfl, h2⟩ | ⟨g, c, cur, rfl, h2, h3, h4, _, _, h7⟩)⟩ := h
  · have : t = [] := List.length_eq_zero_iff.1 h2
    subst this
    exact Lib.run_convert_nil_bytes w _ _ _ _ Tryd.underlying22 Tryd.underlying5 Tryd.underlying9
  · refine run_convert_bytes_back w _ _ _ ⟨g, 0, none⟩ c t Tryd.underlying22 Tryd.underlying5 Tryd.underlying9 fun j hj => ?_
    have e : cur[j]? = some (.int .u8 (t[j].toNat : Int)) := by
      rw [← Array.getElem?_toList]
      have := congrArg (·[j]?) h7
      simp only [Nat.mul_one] at this
      rw [List.getElem?_take_of_lt hj] at this
      rw [this]
      simp [bv, hj]
    have : w.cell? ⟨g, j, none⟩ = some (.int .u8 (t[j].toNat : Int)) := by simp only [World.cell?, h3]; exact e
    by_cases h0 : j = 0
    · subst h0; simpa [Addr.add] using this
    · simpa [Addr.add, h0] using this

set_option maxRecDepth 100000 in
set_option maxHeartbeats 4000000 in
theorem law_levels (s : ByteArray) (w : World) (hs : s.size ≤ 1048576) (hT : Tabs w) :
    Calls Tryd.prog 3 #[.string s] w fun e w' => e = .returned (.bool true) ∧ Below w.heap.size w w' := by
  obtain ⟨i0, hi0, hz0, hz1, hz2⟩ := info_parts infoU8
  have c := levels_any s w hs
  have hgl := glue_lvs (tl s)
  have hne := lvs_ne (tl s)
  have hlen : (lvs (tl s)).length ≤ 1048577 := by
    rw [lvs_len]
    have := List.count_le_length (a := (47 : UInt8)) (l := tl s)
    rw [tl_size] at this
    omega
  generalize lvs (tl s) = L at *
  have hml : (L.map bs).length = L.length := List.length_map _
  have hgz : (glue L).length = s.size := by rw [hgl, tl_size]
  go_enter Tryd.func3, Tryd.ntmps3
  go_wp2_with fail
  refine c.mono ?_
  rintro e w1 ⟨v, rfl, ho, hb⟩
  rw [← hml] at ho
  obtain ⟨g1, m1, rfl, a1, a2, a3, r1⟩ := owns_row ho (by simpa using hne)
  rw [hml]
  clear ho c
  go_wp2
  go_loopg [3, 9] L.length (fun g s3 s9 wx => ∃ k : Nat, k + g = L.length ∧ s9 = .int .i64 k ∧ wx.ownsRow w1.heap.size 5 1 s3 (glue (L.take k)).length (bv (glue (L.take k))) ∧ Below w1.heap.size w1 wx ∧ (glue (L.take k)).length ≤ 1048576)
  case atStart => exact ⟨0, by omega, rfl, World.ownsRow_nil _ _ _ _, Below.refl _ _, Nat.zero_le _⟩
  case round =>
    obtain ⟨k, hkg, rfl, hown, hB, hb6⟩ := hrel
    have hBs := hB.size
    cases gk with
    | zero =>
      obtain rfl : k = L.length := by omega
      rw [List.take_length] at hown
      have hcv := conv_back hown
      rw [hgl, bs_tl] at hcv
      have BB := hb.trans (hB.mono hb.size)
      clear hown hgl
      go_wp2_with (go_at_call 5; refine (awake_any _ (hT.below BB)).mono ?_; rintro e w8 ⟨rfl, hb8⟩)
      go_ret
      exact ⟨rfl, BB.trans (hb8.mono BB.size)⟩
    | succ g =>
      have hk : k < L.length := by omega
      have cx : w1.cell? ⟨g1, 0 + k, none⟩ = some (.string (bs L[k])) := r1 k _ (by simp [hk])
      rw [Nat.zero_add] at cx
      have cx := (hB.cell (p := ⟨g1, k, none⟩) a2).trans cx
      have ht := glue_take L k hk
      have hts : L.take (k + 1) = L.take k ++ [L[k]] := by rw [List.take_add_one, List.getElem?_eq_getElem hk]; rfl
      have hxe : tl (bs L[k]) = L[k] := tl_bs _
      have hxz : (bs L[k]).size = L[k].length := by rw [← tl_size, hxe]
      generalize L[k] = x at cx hts hxe hxz
      generalize bs x = X at cx hxe hxz
      by_cases h0 : k = 0
      · subst h0
        have hg1 : glue (L.take (0 + 1)) = x := by rw [hts]; exact glue_one x
        have hg0 : glue (L.take 0) = [] := rfl
        rw [hg0] at hown
        rw [hg1] at ht
        have HG : Hid (glue (L.take (0 + 1)) = x) := hg1
        have HX : Hid (tl X = x) := hxe
        clear hg1 hts hxe hg0
        go_wp2_with (at_builtin; refine Lib.wpList_append_own_string _ rfl _ _ 22 9 rfl w1.heap.size 5 i0 Tryd.underlying22 Tryd.underlying9 hi0 hz0 hz1 hz2 _ _ _ rfl hown X rfl (by unfold maxLen; simp only [List.length_nil]; omega) (by simp only [List.length_nil]; omega) hBs ?_; intro v1 w5 hown5 hgrow5 hnil5; have hB5 := below_grown hB hgrow5 hown (Nat.le_refl _))
        go_roundg g
        case measure => omega
        case rel =>
          refine ⟨0 + 1, by omega, by simp, ?_, hB5, by rw [show glue (L.take (0 + 1)) = x from HG]; omega⟩
          rw [show glue (L.take (0 + 1)) = x from HG]
          rw [str_bv, show tl X = x from HX] at hown5
          simpa [bv, hxz] using hown5
      · have h0' : (0 : Int) < (k : Int) := by omega
        have hnn : L.take k ≠ [] := by
          intro e
          have := congrArg List.length e
          rw [List.length_take, List.length_nil] at this
          omega
        have hg1 : glue (L.take (k + 1)) = glue (L.take k) ++ 47 :: x := by rw [hts]; exact glue_snoc _ _ hnn
        have hl1 : (glue (L.take k)).length + 1 + x.length ≤ 1048576 := by
          rw [hg1, List.length_append, List.length_cons] at ht
          omega
        have HG : Hid (glue (L.take (k + 1)) = glue (L.take k) ++ 47 :: x) := hg1
        have HX : Hid (tl X = x) := hxe
        clear hg1 hts hxe ht hnn
        generalize glue (L.take k) = G at *
        go_wp2_with (first
          | (at_builtin; refine Lib.wpList_append_own_string _ rfl _ _ 22 9 rfl w1.heap.size 5 i0 Tryd.underlying22 Tryd.underlying9 hi0 hz0 hz1 hz2 _ _ _ rfl hown4 X rfl (by unfold maxLen; omega) (by omega) (by have := hB4.size; omega) ?_; intro v1 w5 hown5 hgrow5 hnil5; have hB5 := below_grown hB4 hgrow5 hown4 (Nat.le_refl _))
          | (at_builtin; refine wpList_append_own _ rfl _ _ 22 rfl w1.heap.size 5 i0 (.int .u8 0) 1 1 Tryd.underlying22 hi0 hz0 hz1 hz2 rfl (by decide) _ _ _ rfl (hown.alloc _) ⟨wr.heap.size, 0, none⟩ 1 1 [.int .u8 47] rfl rfl (cell_one_new _ _ _) (by intro u hu; simp at hu; subst hu; rfl) (by unfold maxLen; omega) (by omega) (by simp; omega) ?_; intro v4 w4 hown4 hgrow4 hnil4; have hB4 := below_grown (hB.alloc hB.size _) hgrow4 (hown.alloc _) (Nat.le_refl _)))
        go_roundg g
        case measure => omega
        case rel =>
          refine ⟨k + 1, by omega, by simp, ?_, hB5, by rw [show glue (L.take (k + 1)) = _ from HG, List.length_append, List.length_cons]; omega⟩
          rw [show glue (L.take (k + 1)) = _ from HG]
          rw [str_bv, show tl X = x from HX] at hown5
          have e1 : (G ++ 47 :: x).length = G.length + 1 + X.size := by rw [List.length_append, List.length_cons]; omega
          have e2 : bv (G ++ 47 :: x) = bv G ++ [.int .u8 47] ++ bv x := by simp [bv]
          rw [e1, e2]
          exact hown5
end Go.Proofs.YtkkahijacbboiabDoor
