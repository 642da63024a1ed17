/- The package's and the document's makers of the one form: the plain tree, in new memory; the conditions: the kinds' bits are below 2^14. -/
import Derived.Test.YtokiaolgdkikiaaGreatPln
import Derived.Test.YtokiaolgdkikiaaGreatRk
import Derived.Test.YtokiaolgdkikiaaGreatAwk
namespace Go.Proofs.YtokiaolgdkikiaaGreat
open Go.RowKit

theorem hp_old {w : World} {o x : Obj} {N : Nat} (h : w.heap[N]? = some x) : (w.alloc o).heap[N]? = some x := ((below1 w o).block N (lt_of_heap h)).trans h
theorem hp_new (w : World) (o : Obj) (N : Nat) (h : N = w.heap.size) : (w.alloc o).heap[N]? = some o := by subst h; exact heap_alloc_new w o
theorem below3 (w : World) (o p q : Obj) : Below w.heap.size w (((w.alloc o).alloc p).alloc q) := ((below2 w o p)).alloc (by simp; omega) _
theorem below4 (w : World) (o p q r : Obj) : Below w.heap.size w ((((w.alloc o).alloc p).alloc q).alloc r) := ((below3 w o p q)).alloc (by simp; omega) _

/-- The pattern t lies in w behind the three cells cs, its lists in blocks from B on. -/
def RepB (w : World) (B : Nat) : (n : Nat) → List Value → Wt n → Prop
  | 0, _, _ => False
  | n + 1, cs, t => ∃ (ad : Option Addr) (cap : Nat), cs = [.int .i64 t.op, .int .i64 t.nm, .slice ad t.ks.length cap] ∧ t.ks.length ≤ cap ∧ cap ≤ maxLen ∧
      (t.ks = [] ∨ ∃ g cur, ad = some ⟨g, 0, none⟩ ∧ B ≤ g ∧ w.heap[g]? = some (.cells cur 24 (0, 0)) ∧ ∀ (j : Nat) (t' : Wt n), t.ks[j]? = some t' → ∃ v0 v1 v2, cur[j * 3]? = some v0 ∧ cur[j * 3 + 1]? = some v1 ∧ cur[j * 3 + 2]? = some v2 ∧ RepB w B n [v0, v1, v2] t')
theorem RepB.rep {w : World} {B : Nat} : ∀ (n : Nat) (cs : List Value) (t : Wt n), RepB w B n cs t → RepW w n cs t
  | 0, _, _, h => h
  | n + 1, cs, t, h => by
    obtain ⟨ad, cap, h1, h3, h4, h5⟩ := h
    refine ⟨ad, cap, h1, h3, h4, ?_⟩
    rcases h5 with h5 | ⟨g, cur, h6, -, h8, h9⟩
    · exact .inl h5
    · refine .inr ⟨g, 0, h6, fun j t' hj => ?_⟩
      obtain ⟨v0, v1, v2, c0, c1, c2, r⟩ := h9 j t' hj
      exact ⟨v0, v1, v2, by simp [World.cell?, h8, c0], by simp [World.cell?, h8, c1], by simp [World.cell?, h8, c2], RepB.rep n _ _ r⟩
/-- What holds of blocks from B on is all that counts. -/
theorem RepB.kept {w w' : World} {B : Nat} (hk : ∀ g, B ≤ g → g < w.heap.size → w'.heap[g]? = w.heap[g]?) : ∀ (n : Nat) (cs : List Value) (t : Wt n), RepB w B n cs t → RepB w' B n cs t
  | 0, _, _, h => h
  | n + 1, cs, t, h => by
    obtain ⟨ad, cap, h1, h3, h4, h5⟩ := h
    refine ⟨ad, cap, h1, h3, h4, ?_⟩
    rcases h5 with h5 | ⟨g, cur, h6, h7, h8, h9⟩
    · exact .inl h5
    · refine .inr ⟨g, cur, h6, h7, (hk g h7 (Array.getElem?_eq_some_iff.1 h8).1).trans h8, fun j t' hj => ?_⟩
      obtain ⟨v0, v1, v2, c0, c1, c2, r⟩ := h9 j t' hj
      exact ⟨v0, v1, v2, c0, c1, c2, RepB.kept hk n _ _ r⟩
theorem RepB.below {w w' : World} {B : Nat} (hb : Below w.heap.size w w') {n : Nat} {cs : List Value} {t : Wt n} (h : RepB w B n cs t) : RepB w' B n cs t := RepB.kept (fun g _ hg => hb.block g hg) n cs t h
theorem RepB.mono {w : World} {B B' : Nat} (hB : B' ≤ B) : ∀ (n : Nat) (cs : List Value) (t : Wt n), RepB w B n cs t → RepB w B' n cs t
  | 0, _, _, h => h
  | n + 1, cs, t, h => by
    obtain ⟨ad, cap, h1, h3, h4, h5⟩ := h
    refine ⟨ad, cap, h1, h3, h4, ?_⟩
    rcases h5 with h5 | ⟨g, cur, h6, h7, h8, h9⟩
    · exact .inl h5
    · refine .inr ⟨g, cur, h6, Nat.le_trans hB h7, h8, fun j t' hj => ?_⟩
      obtain ⟨v0, v1, v2, c0, c1, c2, r⟩ := h9 j t' hj
      exact ⟨v0, v1, v2, c0, c1, c2, RepB.mono hB n _ _ r⟩
theorem repB_wk (w : World) (B n : Nat) (k : Int) : RepB w B (n + 1) [.int .i64 2, .int .i64 k, .slice none 0 0] (wk k) := ⟨none, 0, rfl, Nat.le_refl _, by unfold maxLen; omega, .inl rfl⟩
theorem repB_wa (w : World) (B n : Nat) : RepB w B (n + 1) [.int .i64 1, .int .i64 0, .slice none 0 0] wa := ⟨none, 0, rfl, Nat.le_refl _, by unfold maxLen; omega, .inl rfl⟩
theorem repB_one {w : World} {B N n : Nat} {o : Int} {t : Wt n} {x0 x1 x2 : Value} (hN : B ≤ N) (h : w.heap[N]? = some (.cells #[x0, x1, x2] 24 (0, 0))) (ha : RepB w B n [x0, x1, x2] t) : RepB w B (n + 1) [.int .i64 o, .int .i64 0, .slice (some ⟨N, 0, none⟩) 1 1] (wn o [t]) := by
  refine ⟨some ⟨N, 0, none⟩, 1, rfl, Nat.le_refl _, by unfold maxLen; omega, .inr ⟨N, _, rfl, hN, h, fun j t' hj => ?_⟩⟩
  match j, hj with
  | 0, hj =>
    obtain rfl : t = t' := Option.some.inj hj
    exact ⟨x0, x1, x2, rfl, rfl, rfl, ha⟩
theorem repB_two {w : World} {B N n : Nat} {o : Int} {t r : Wt n} {x0 x1 x2 y0 y1 y2 : Value} (hN : B ≤ N) (h : w.heap[N]? = some (.cells #[x0, x1, x2, y0, y1, y2] 24 (0, 0))) (ha : RepB w B n [x0, x1, x2] t) (hb : RepB w B n [y0, y1, y2] r) : RepB w B (n + 1) [.int .i64 o, .int .i64 0, .slice (some ⟨N, 0, none⟩) 2 2] (wn o [t, r]) := by
  refine ⟨some ⟨N, 0, none⟩, 2, rfl, Nat.le_refl _, by unfold maxLen; omega, .inr ⟨N, _, rfl, hN, h, fun j t' hj => ?_⟩⟩
  match j, hj with
  | 0, hj =>
    obtain rfl : t = t' := Option.some.inj hj
    exact ⟨x0, x1, x2, rfl, rfl, rfl, ha⟩
  | 1, hj =>
    obtain rfl : r = t' := Option.some.inj hj
    exact ⟨y0, y1, y2, rfl, rfl, rfl, hb⟩

set_option maxRecDepth 100000 in
theorem ofKindP (k : Int) (w : World) : Calls Tryz.prog 60 #[.int .i64 k] w fun e w' => e = .returned (.agg #[.int .i64 2, .int .i64 k, .slice none 0 0]) ∧ Below w.heap.size w w' := by
  go_enter Tryz.func60, Tryz.ntmps60
  go_wp2
  refine bodyPost_ret (v := .agg #[.int .i64 2, .int .i64 k, .slice none 0 0]) (by simp [results, Tryz.results60, go_sem]) rfl ⟨rfl, ?_⟩
  exact below1 w _
set_option maxRecDepth 100000 in
theorem kindR (k : Int) (w : World) : Calls Tryz.prog 61 #[.int .i64 k] w fun e w' => e = .returned (.agg #[.int .i64 2, .int .i64 k, .slice none 0 0]) ∧ Below w.heap.size w w' := by
  go_enter Tryz.func61, Tryz.ntmps61
  go_wp2
  refine bodyPost_ret (v := .agg #[.int .i64 2, .int .i64 k, .slice none 0 0]) (by simp [results, Tryz.results61, go_sem]) rfl ⟨rfl, ?_⟩
  exact below1 w _
set_option maxRecDepth 100000 in
theorem notP (o m : Int) (ad : Option Addr) (len cap : Nat) (w : World) : Calls Tryz.prog 58 #[.agg #[.int .i64 o, .int .i64 m, .slice ad len cap]] w fun e w' => ∃ N, e = .returned (.agg #[.int .i64 6, .int .i64 0, .slice (some ⟨N, 0, none⟩) 1 1]) ∧ w.heap.size ≤ N ∧ w'.heap[N]? = some (.cells #[.int .i64 o, .int .i64 m, .slice ad len cap] 24 (0, 0)) ∧ Below w.heap.size w w' := by
  go_enter Tryz.func58, Tryz.ntmps58
  go_wp2
  refine bodyPost_ret (v := .agg #[.int .i64 6, .int .i64 0, .slice (some ⟨w.heap.size + 1 + 1, 0, none⟩) 1 1]) (by simp [results, Tryz.results58, go_sem]) rfl ⟨_, rfl, by omega, ?_, ?_⟩
  · exact hp_new _ _ _ (by simp)
  · exact below3 w _ _ _
set_option maxRecDepth 100000 in
theorem andP (o m : Int) (ad : Option Addr) (len cap : Nat) (o' m' : Int) (ad' : Option Addr) (len' cap' : Nat) (w : World) : Calls Tryz.prog 57 #[.agg #[.int .i64 o, .int .i64 m, .slice ad len cap], .agg #[.int .i64 o', .int .i64 m', .slice ad' len' cap']] w fun e w' => ∃ N, e = .returned (.agg #[.int .i64 5, .int .i64 0, .slice (some ⟨N, 0, none⟩) 2 2]) ∧ w.heap.size ≤ N ∧ w'.heap[N]? = some (.cells #[.int .i64 o, .int .i64 m, .slice ad len cap, .int .i64 o', .int .i64 m', .slice ad' len' cap'] 24 (0, 0)) ∧ Below w.heap.size w w' := by
  go_enter Tryz.func57, Tryz.ntmps57
  go_wp2
  refine bodyPost_ret (v := .agg #[.int .i64 5, .int .i64 0, .slice (some ⟨w.heap.size + 1 + 1 + 1, 0, none⟩) 2 2]) (by simp [results, Tryz.results57, go_sem]) rfl ⟨_, rfl, by omega, ?_, ?_⟩
  · exact hp_new _ _ _ (by simp)
  · exact below4 w _ _ _ _

theorem infoWant : (Tryz.prog.info? 24).map (fun i => (i.zero, i.size, i.bytes)) = some (some (.agg #[.int .i64 0, .int .i64 0, .slice none 0 0]), 3, 40) := by kernel_rfl
theorem infoWant_parts : ∃ i0, Tryz.prog.info? 24 = some i0 ∧ i0.zero = some (.agg #[.int .i64 0, .int .i64 0, .slice none 0 0]) ∧ i0.size = 3 ∧ i0.bytes = 40 := by
  have h := infoWant
  cases hi : Tryz.prog.info? 24 with
  | none => rw [hi] at h; cases h
  | some i =>
    rw [hi] at h
    simp only [Option.map_some, Option.some.injEq, Prod.mk.injEq] at h
    exact ⟨i, rfl, h.1, h.2.1, h.2.2⟩
/-- The cells of a row of patterns of one kind each. -/
def wcs (l : List Int) : List Value := l.flatMap fun k => [.int .i64 2, .int .i64 k, .slice none 0 0]
theorem wcs_len : ∀ l : List Int, (wcs l).length = l.length * 3
  | [] => rfl
  | k :: l => by have := wcs_len l; simp only [wcs, List.flatMap_cons, List.length_append, List.length_cons, List.length_nil] at this ⊢; omega
theorem wcs_snoc (l : List Int) (k : Int) : wcs (l ++ [k]) = wcs l ++ [.int .i64 2, .int .i64 k, .slice none 0 0] := by simp [wcs]
theorem wcs_at : ∀ (l : List Int) (j : Nat) (k : Int), l[j]? = some k → (wcs l)[j * 3]? = some (.int .i64 2) ∧ (wcs l)[j * 3 + 1]? = some (.int .i64 k) ∧ (wcs l)[j * 3 + 2]? = some (.slice none 0 0)
  | [], j, k, h => by simp at h
  | x :: l, 0, k, h => by
    obtain rfl : x = k := by simpa using h
    simp [wcs]
  | x :: l, j + 1, k, h => by
    have := wcs_at l j k (by simpa using h)
    rw [show wcs (x :: l) = [.int .i64 2, .int .i64 x, .slice none 0 0] ++ wcs l from by simp [wcs]]
    rw [show (j + 1) * 3 = j * 3 + 3 by omega, show j * 3 + 3 + 1 = (j * 3 + 1) + 3 by omega, show j * 3 + 3 + 2 = (j * 3 + 2) + 3 by omega]
    rw [List.getElem?_append_right (by simp), List.getElem?_append_right (by simp), List.getElem?_append_right (by simp)]
    simpa using this
theorem mset_yes' (M j : Nat) (h : M / 2 ^ j % 2 = 1) : mset M (j + 1) = mset M j ++ [(j : Int)] := by
  simp [mset, List.range_succ, List.filter_append, h]
theorem repB_own {w : World} {B : Nat} {a : Option Addr} {l' c' : Nat} {l : List Int} {n : Nat} (hl : l ≠ []) (h : w.ownsRow B 24 3 (.slice a l' c') l.length (wcs l)) : RepB w B (n + 2) [.int .i64 4, .int .i64 0, .slice a l' c'] (wn 4 (l.map wk)) := by
  obtain ⟨-, h | ⟨g, cap, cur, hv, hB, hg, hc, hm, hs, ht⟩⟩ := h
  · exact absurd (List.eq_nil_of_length_eq_zero h.2) hl
  · injection hv with e1 e2 e3
    subst e1 e2 e3
    refine ⟨some ⟨g, 0, none⟩, c', by show _ = [_, _, Value.slice _ (l.map wk).length _]; rw [List.length_map]; rfl, by show (l.map wk).length ≤ c'; rw [List.length_map]; exact hc, hm, .inr ⟨g, cur, rfl, hB, hg, fun j t' hj => ?_⟩⟩
    have hj' : (l.map (wk (n := n)))[j]? = some t' := hj
    rw [List.getElem?_map] at hj'
    obtain ⟨k, hk, rfl⟩ := Option.map_eq_some_iff.1 hj'
    have hlt : j < l.length := (List.getElem?_eq_some_iff.1 hk).1
    obtain ⟨h0, h1, h2⟩ := wcs_at l j k hk
    rw [← ht, List.getElem?_take_of_lt (by omega), Array.getElem?_toList] at h0 h1 h2
    exact ⟨_, _, _, h0, h1, h2, repB_wk w B n k⟩

theorem and32 (M j : Nat) (hM : M < 4294967296) : bits .and .u32 ((M : Int) / 2 ^ j) 1 = ((M / 2 ^ j % 2 : Nat) : Int) := by
  have e : ((M : Int) / 2 ^ j) = ((M / 2 ^ j : Nat) : Int) := by norm_cast
  have hl : M / 2 ^ j ≤ M := Nat.div_le_self _ _
  rw [e, show (1 : Int) = ((1 : Nat) : Int) from rfl, u32_and_nat _ _ (by omega) (by decide), Nat.and_one_is_mod]
theorem One.f {w : World} {v0 v1 v2 : Value} {w' : World} (h : One w v0 v1 v2 w') (o : Nat) : w'.frozen? ⟨w.heap.size, o, none⟩ = false := by
  have := (Below.block h w.heap.size (by omega)).trans (P3.new w v0 v1 v2)
  simp [World.frozen?, this]
theorem One.grown {w : World} {v0 v1 v2 : Value} {w1 w2 : World} {row : Option Nat} (h : One w v0 v1 v2 w1) (hg : w1.grownBy w2 row) (hs : w.heap.size + 1 ≤ w1.heap.size) (hr : ∀ k, row = some k → w.heap.size + 1 ≤ k) : One w v0 v1 v2 w2 := Below.grown h hg hs hr

set_option maxRecDepth 100000 in
set_option maxHeartbeats 4000000 in
theorem eitherP (X : Nat) (hX : X < 16384) (h0 : X ≠ 0) (n : Nat) (w : World) : Calls Tryz.prog 59 #[.int .u32 (X : Int)] w fun e w' => ∃ v0 v1 v2, e = .returned (.agg #[v0, v1, v2]) ∧ RepB w' w.heap.size (n + 2) [v0, v1, v2] (eT (mset (dropN X) 14)) ∧ Below w.heap.size w w' := by
  obtain ⟨i0, hi, hz0, hz1, hz2⟩ := infoWant_parts
  have hne := drop_some X h0 hX
  have h11 := and32 X 11 (by omega)
  have h11' : bits .and .u32 ((X : Int) / 2048) 1 = ((X / 2 ^ 11 % 2 : Nat) : Int) := h11
  clear h11
  by_cases hb11 : X / 2 ^ 11 % 2 = 1
  · rw [hb11] at h11'
    have hM : dropN X < 4294967296 := by unfold dropN; rw [if_pos hb11]; exact Nat.lt_of_le_of_lt Nat.and_le_left (by omega)
    have hA : bits .andNot .u32 (X : Int) 4096 = ((dropN X : Nat) : Int) := by unfold dropN; rw [if_pos hb11]; exact u32_andNot_nat X 4096 (by omega) (by decide)
    generalize dropN X = M at hM hA hne
    clear hb11
    go_enter Tryz.func59, Tryz.ntmps59
    go_wp2_with fail
    go_loopw [3, 11] (fun sl si wr => ∃ (j : Nat) (a' : Option Addr) (l' c' : Nat), sl = .slice a' l' c' ∧ si = .int .i64 j ∧ j ≤ 14 ∧ wr.ownsRow (w.heap.size + 1) 24 3 (.slice a' l' c') (mset M j).length (wcs (mset M j)) ∧ One w (.int .i64 0) (.int .i64 0) (.slice none 0 0) wr) (fun _ si _ => 14 - (intOf si).toNat)
    case atStart => exact ⟨0, none, 0, 0, rfl, rfl, Nat.zero_le _, World.ownsRow_nil _ _ _ _, One.start w _ _ _⟩
    case round =>
      obtain ⟨j, a', l', c', rfl, rfl, hj, ow, bw⟩ := hrel
      by_cases hlt : j < 14
      · have j0 : (0 : Int) ≤ (j : Int) := by omega
        have j1 : (j : Int) ≤ 32 := by omega
        have j2 : (j : Int) < 14 := by omega
        have ha := and32 M j hM
        have hln := mset_len M j
        by_cases hb : M / 2 ^ j % 2 = 1
        · rw [hb] at ha
          have hsz : w.heap.size + 1 ≤ wr.heap.size := by have := Below.size bw; simpa using this
          have HO := Lib.hid ow
          go_wp2_with fail
          refine (ofKindP j wr).mono ?_
          rintro e w2 ⟨rfl, b2⟩
          have bw2 := bw.step b2
          have ow2 := own_below ow b2
          have hsz2 : w.heap.size + 1 ≤ w2.heap.size := by have := b2.size; omega
          clear ow bw
          go_wp2_with (at_builtin; refine wpList_append_lies _ rfl _ _ 22 rfl (w.heap.size + 1) 24 i0 (.agg #[.int .i64 0, .int .i64 0, .slice none 0 0]) 3 40 Tryz.underlying22 hi hz0 hz1 hz2 rfl (by decide) (.slice a' l' c') (mset M j).length (wcs (mset M j)) rfl (ow2.alloc _) ⟨w2.heap.size, 0, none⟩ 1 1 [.int .i64 2, .int .i64 j, .slice none 0 0] rfl rfl ?hnews ?h1 (by decide) ?h63 ?hby ?hbase _ rfl ?next)
          case hnews => intro a b hab; exact World.news_of_block (heap_alloc_new w2 _) a b (by simpa using hab)
          case h1 => intro a ha; simp at ha; rcases ha with rfl | rfl | rfl <;> rfl
          case h63 => unfold maxLen; omega
          case hby => omega
          case hbase => simp; omega
          intro g' cap2 w4 own4 gr4 at4 lt4
          have B4 : One w (.int .i64 0) (.int .i64 0) (.slice none 0 0) w4 := (bw2.step (below1 w2 _)).grown gr4 (by simp; omega) (fun k hk => by
            rcases HO.out.2 with ⟨e0, -⟩ | ⟨g2, c2, cu, e1, e2, -⟩
            · rw [e0] at hk; cases hk
            · rw [e1] at hk; have := Option.some.inj hk; simp at this; omega)
          have O4 : w4.ownsRow (w.heap.size + 1) 24 3 (.slice (some ⟨g', 0, none⟩) ((mset M j).length + 1) cap2) (mset M (j + 1)).length (wcs (mset M (j + 1))) := by rw [mset_yes' M j hb, wcs_snoc, List.length_append]; exact own4
          clear own4 gr4 at4 HO ha ow2
          go_wp2_with fail
          exact ⟨⟨j + 1, _, _, _, rfl, by go_num, by omega, O4, B4⟩, by simp [intOf]; omega⟩
        · have hb' : M / 2 ^ j % 2 = 0 := by omega
          rw [hb'] at ha
          rw [← mset_no M j hb] at ow
          go_wp2_with fail
          exact ⟨⟨j + 1, _, _, _, rfl, by go_num, by omega, ow, bw⟩, by simp [intOf]; omega⟩
      · obtain rfl : j = 14 := by omega
        have j2 : ¬ (((14 : Nat) : Int) < 14) := by omega
        have hlen : (mset M 14).length ≠ 0 := fun e => hne (List.eq_nil_of_length_eq_zero e)
        have hle := mset_len M 14
        obtain ⟨c0, c1, c2⟩ := bw.c
        have fz := bw.f
        have OW := Lib.hid ow
        obtain ⟨g, cap, cur, hv, hgB, hg, hcap, hmx, hsz, htk⟩ : ∃ g cap cur, Value.slice a' l' c' = .slice (some ⟨g, 0, none⟩) (mset M 14).length cap ∧ w.heap.size + 1 ≤ g ∧ wr.heap[g]? = some (.cells cur 24 (0, 0)) ∧ (mset M 14).length ≤ cap ∧ cap ≤ maxLen ∧ cur.size = cap * 3 ∧ cur.toList.take ((mset M 14).length * 3) = wcs (mset M 14) := by
          rcases ow.2 with ⟨-, h⟩ | h
          · exact absurd h hlen
          · exact h
        injection hv with e1 e2 e3
        subst e1 e2 e3
        have kp : ∀ (x y z : Value) (g : Nat), w.heap.size + 1 ≤ g → g < wr.heap.size → (((wr.setCell ⟨w.heap.size, 0, none⟩ x).setCell ⟨w.heap.size, 1, none⟩ y).setCell ⟨w.heap.size, 2, none⟩ z).heap[g]? = wr.heap[g]? := fun x y z g hg _ => by
          rw [Below.heap_setCell _ _ _ g (by show g ≠ w.heap.size; omega), Below.heap_setCell _ _ _ g (by show g ≠ w.heap.size; omega), Below.heap_setCell _ _ _ g (by show g ≠ w.heap.size; omega)]
        have bl : ∀ (x y z : Value), Below w.heap.size w (((wr.setCell ⟨w.heap.size, 0, none⟩ x).setCell ⟨w.heap.size, 1, none⟩ y).setCell ⟨w.heap.size, 2, none⟩ z) := fun x y z => ((bw.below.setCell (Nat.le_refl _) _).setCell (Nat.le_refl _) _).setCell (Nat.le_refl _) _
        by_cases h1 : (mset M 14).length = 1
        · obtain ⟨k, hk⟩ : ∃ k, mset M 14 = [k] := by
            match hms : mset M 14, h1 with
            | [k], _ => exact ⟨k, rfl⟩
          have heT : (eT (mset M 14) : Wt (n + 2)) = wk k := by unfold eT; rw [if_pos h1, hk]; rfl
          obtain ⟨q0, q1, q2⟩ := wcs_at (mset M 14) 0 k (by rw [hk]; rfl)
          rw [← htk, List.getElem?_take_of_lt (by omega), Array.getElem?_toList] at q0 q1 q2
          have y0 : wr.cell? ⟨g, 0, none⟩ = some (.int .i64 2) := by simpa [World.cell?, hg] using q0
          have y1 : wr.cell? ⟨g, 1, none⟩ = some (.int .i64 k) := by simpa [World.cell?, hg] using q1
          have y2 : wr.cell? ⟨g, 2, none⟩ = some (.slice none 0 0) := by simpa [World.cell?, hg] using q2
          have HT := Lib.hid heT
          clear heT hk q0 q1 q2 htk OW ow hlen hle
          go_wp2_with fail
          refine bodyPost_ret (v := .agg #[.int .i64 2, .int .i64 k, .slice none 0 0]) (by simp [results, Tryz.results59, go_sem, World.cell?_setCell_same, World.cell?_setCell_other, c0, c1, c2]) rfl ⟨_, _, _, rfl, by rw [HT.out]; exact repB_wk _ _ _ _, bl _ _ _⟩
        · have heT : (eT (mset M 14) : Wt (n + 2)) = wn 4 ((mset M 14).map wk) := by unfold eT; rw [if_neg h1]
          have RB : RepB wr (w.heap.size + 1) (n + 2) [.int .i64 4, .int .i64 0, .slice (some ⟨g, 0, none⟩) (mset M 14).length c'] (wn 4 ((mset M 14).map wk)) := repB_own hne OW.out
          have RB' := Lib.hid fun x y z => RepB.mono (Nat.le_succ _) _ _ _ (RepB.kept (kp x y z) _ _ _ RB)
          have HT := Lib.hid heT
          have hl1 : (((mset M 14).length : Int) == 1) = false := by simp; omega
          clear heT OW ow RB hlen hle
          go_wp2_with fail
          refine bodyPost_ret (v := .agg #[.int .i64 4, .int .i64 0, .slice (some ⟨g, 0, none⟩) (mset M 14).length c']) (by simp [results, Tryz.results59, go_sem, World.cell?_setCell_same, World.cell?_setCell_other, c0, c1, c2]) rfl ⟨_, _, _, rfl, by rw [HT.out]; exact RB'.out _ _ _, bl _ _ _⟩
  · have hb0 : X / 2 ^ 11 % 2 = 0 := by omega
    rw [hb0] at h11'
    have hD : dropN X = X := by unfold dropN; rw [if_neg hb11]
    have hM : X < 4294967296 := by omega
    rw [hD] at hne ⊢
    clear hb11 hD hb0
    go_enter Tryz.func59, Tryz.ntmps59
    go_wp2_with fail
    go_loopw [3, 11] (fun sl si wr => ∃ (j : Nat) (a' : Option Addr) (l' c' : Nat), sl = .slice a' l' c' ∧ si = .int .i64 j ∧ j ≤ 14 ∧ wr.ownsRow (w.heap.size + 1) 24 3 (.slice a' l' c') (mset X j).length (wcs (mset X j)) ∧ One w (.int .i64 0) (.int .i64 0) (.slice none 0 0) wr) (fun _ si _ => 14 - (intOf si).toNat)
    case atStart => exact ⟨0, none, 0, 0, rfl, rfl, Nat.zero_le _, World.ownsRow_nil _ _ _ _, One.start w _ _ _⟩
    case round =>
      obtain ⟨j, a', l', c', rfl, rfl, hj, ow, bw⟩ := hrel
      by_cases hlt : j < 14
      · have j0 : (0 : Int) ≤ (j : Int) := by omega
        have j1 : (j : Int) ≤ 32 := by omega
        have j2 : (j : Int) < 14 := by omega
        have ha := and32 X j hM
        have hln := mset_len X j
        by_cases hb : X / 2 ^ j % 2 = 1
        · rw [hb] at ha
          have hsz : w.heap.size + 1 ≤ wr.heap.size := by have := Below.size bw; simpa using this
          have HO := Lib.hid ow
          go_wp2_with fail
          refine (ofKindP j wr).mono ?_
          rintro e w2 ⟨rfl, b2⟩
          have bw2 := bw.step b2
          have ow2 := own_below ow b2
          have hsz2 : w.heap.size + 1 ≤ w2.heap.size := by have := b2.size; omega
          clear ow bw
          go_wp2_with (at_builtin; refine wpList_append_lies _ rfl _ _ 22 rfl (w.heap.size + 1) 24 i0 (.agg #[.int .i64 0, .int .i64 0, .slice none 0 0]) 3 40 Tryz.underlying22 hi hz0 hz1 hz2 rfl (by decide) (.slice a' l' c') (mset X j).length (wcs (mset X j)) rfl (ow2.alloc _) ⟨w2.heap.size, 0, none⟩ 1 1 [.int .i64 2, .int .i64 j, .slice none 0 0] rfl rfl ?hnews2 ?h12 (by decide) ?h632 ?hby2 ?hbase2 _ rfl ?next2)
          case hnews2 => intro a b hab; exact World.news_of_block (heap_alloc_new w2 _) a b (by simpa using hab)
          case h12 => intro a ha; simp at ha; rcases ha with rfl | rfl | rfl <;> rfl
          case h632 => unfold maxLen; omega
          case hby2 => omega
          case hbase2 => simp; omega
          intro g' cap2 w4 own4 gr4 at4 lt4
          have B4 : One w (.int .i64 0) (.int .i64 0) (.slice none 0 0) w4 := (bw2.step (below1 w2 _)).grown gr4 (by simp; omega) (fun k hk => by
            rcases HO.out.2 with ⟨e0, -⟩ | ⟨g2, c2, cu, e1, e2, -⟩
            · rw [e0] at hk; cases hk
            · rw [e1] at hk; have := Option.some.inj hk; simp at this; omega)
          have O4 : w4.ownsRow (w.heap.size + 1) 24 3 (.slice (some ⟨g', 0, none⟩) ((mset X j).length + 1) cap2) (mset X (j + 1)).length (wcs (mset X (j + 1))) := by rw [mset_yes' X j hb, wcs_snoc, List.length_append]; exact own4
          clear own4 gr4 at4 HO ha ow2
          go_wp2_with fail
          exact ⟨⟨j + 1, _, _, _, rfl, by go_num, by omega, O4, B4⟩, by simp [intOf]; omega⟩
        · have hb' : X / 2 ^ j % 2 = 0 := by omega
          rw [hb'] at ha
          rw [← mset_no X j hb] at ow
          go_wp2_with fail
          exact ⟨⟨j + 1, _, _, _, rfl, by go_num, by omega, ow, bw⟩, by simp [intOf]; omega⟩
      · obtain rfl : j = 14 := by omega
        have j2 : ¬ (((14 : Nat) : Int) < 14) := by omega
        have hlen : (mset X 14).length ≠ 0 := fun e => hne (List.eq_nil_of_length_eq_zero e)
        have hle := mset_len X 14
        obtain ⟨c0, c1, c2⟩ := bw.c
        have fz := bw.f
        have OW := Lib.hid ow
        obtain ⟨g, cap, cur, hv, hgB, hg, hcap, hmx, hsz, htk⟩ : ∃ g cap cur, Value.slice a' l' c' = .slice (some ⟨g, 0, none⟩) (mset X 14).length cap ∧ w.heap.size + 1 ≤ g ∧ wr.heap[g]? = some (.cells cur 24 (0, 0)) ∧ (mset X 14).length ≤ cap ∧ cap ≤ maxLen ∧ cur.size = cap * 3 ∧ cur.toList.take ((mset X 14).length * 3) = wcs (mset X 14) := by
          rcases ow.2 with ⟨-, h⟩ | h
          · exact absurd h hlen
          · exact h
        injection hv with e1 e2 e3
        subst e1 e2 e3
        have kp : ∀ (x y z : Value) (g : Nat), w.heap.size + 1 ≤ g → g < wr.heap.size → (((wr.setCell ⟨w.heap.size, 0, none⟩ x).setCell ⟨w.heap.size, 1, none⟩ y).setCell ⟨w.heap.size, 2, none⟩ z).heap[g]? = wr.heap[g]? := fun x y z g hg _ => by
          rw [Below.heap_setCell _ _ _ g (by show g ≠ w.heap.size; omega), Below.heap_setCell _ _ _ g (by show g ≠ w.heap.size; omega), Below.heap_setCell _ _ _ g (by show g ≠ w.heap.size; omega)]
        have bl : ∀ (x y z : Value), Below w.heap.size w (((wr.setCell ⟨w.heap.size, 0, none⟩ x).setCell ⟨w.heap.size, 1, none⟩ y).setCell ⟨w.heap.size, 2, none⟩ z) := fun x y z => ((bw.below.setCell (Nat.le_refl _) _).setCell (Nat.le_refl _) _).setCell (Nat.le_refl _) _
        by_cases h1 : (mset X 14).length = 1
        · obtain ⟨k, hk⟩ : ∃ k, mset X 14 = [k] := by
            match hms : mset X 14, h1 with
            | [k], _ => exact ⟨k, rfl⟩
          have heT : (eT (mset X 14) : Wt (n + 2)) = wk k := by unfold eT; rw [if_pos h1, hk]; rfl
          obtain ⟨q0, q1, q2⟩ := wcs_at (mset X 14) 0 k (by rw [hk]; rfl)
          rw [← htk, List.getElem?_take_of_lt (by omega), Array.getElem?_toList] at q0 q1 q2
          have y0 : wr.cell? ⟨g, 0, none⟩ = some (.int .i64 2) := by simpa [World.cell?, hg] using q0
          have y1 : wr.cell? ⟨g, 1, none⟩ = some (.int .i64 k) := by simpa [World.cell?, hg] using q1
          have y2 : wr.cell? ⟨g, 2, none⟩ = some (.slice none 0 0) := by simpa [World.cell?, hg] using q2
          have HT := Lib.hid heT
          clear heT hk q0 q1 q2 htk OW ow hlen hle
          go_wp2_with fail
          refine bodyPost_ret (v := .agg #[.int .i64 2, .int .i64 k, .slice none 0 0]) (by simp [results, Tryz.results59, go_sem, World.cell?_setCell_same, World.cell?_setCell_other, c0, c1, c2]) rfl ⟨_, _, _, rfl, by rw [HT.out]; exact repB_wk _ _ _ _, bl _ _ _⟩
        · have heT : (eT (mset X 14) : Wt (n + 2)) = wn 4 ((mset X 14).map wk) := by unfold eT; rw [if_neg h1]
          have RB : RepB wr (w.heap.size + 1) (n + 2) [.int .i64 4, .int .i64 0, .slice (some ⟨g, 0, none⟩) (mset X 14).length c'] (wn 4 ((mset X 14).map wk)) := repB_own hne OW.out
          have RB' := Lib.hid fun x y z => RepB.mono (Nat.le_succ _) _ _ _ (RepB.kept (kp x y z) _ _ _ RB)
          have HT := Lib.hid heT
          have hl1 : (((mset X 14).length : Int) == 1) = false := by simp; omega
          clear heT OW ow RB hlen hle
          go_wp2_with fail
          refine bodyPost_ret (v := .agg #[.int .i64 4, .int .i64 0, .slice (some ⟨g, 0, none⟩) (mset X 14).length c']) (by simp [results, Tryz.results59, go_sem, World.cell?_setCell_same, World.cell?_setCell_other, c0, c1, c2]) rfl ⟨_, _, _, rfl, by rw [HT.out]; exact RB'.out _ _ _, bl _ _ _⟩
end Go.Proofs.YtokiaolgdkikiaaGreat
