/- The document's one form of the kinds' bits, and its Plain: the plain tree, in new memory; the conditions: the kinds' bits are below 2^14, the pattern's tree lies in memory and is right. -/
import Derived.Test.YtokiaolgdkikiaaGreatPln3
namespace Go.Proofs.YtokiaolgdkikiaaGreat
open Go.RowKit

theorem drop_iff (X k : Nat) (hk : k < 14) : dropN X / 2 ^ k % 2 = 1 ↔ (X / 2 ^ k % 2 = 1 ∧ ¬ (k = 12 ∧ X / 2 ^ 11 % 2 = 1)) := by
  rw [bit_iff, bit_iff, bit_iff, drop_bit X k hk]
  simp only [Bool.and_eq_true, Bool.not_eq_true', Bool.and_eq_false_iff, beq_eq_false_iff_ne]
  constructor
  · rintro ⟨h1, h2⟩
    exact ⟨h1, fun h => by rcases h2 with h2 | h2; exact h2 h.1; rw [h.2] at h2; cases h2⟩
  · rintro ⟨h1, h2⟩
    refine ⟨h1, ?_⟩
    by_cases h : k = 12
    · right
      cases e : X.testBit 11 with
      | false => rfl
      | true => exact absurd ⟨h, e⟩ h2
    · left; exact h
theorem repB_set3 {W : World} {S n : Nat} {cs : List Value} {t : Wt n} (x y z : Value) (R : RepB W (S + 1) n cs t) : RepB (((W.setCell ⟨S, 0, none⟩ x).setCell ⟨S, 1, none⟩ y).setCell ⟨S, 2, none⟩ z) S n cs t :=
  RepB.mono (Nat.le_succ _) _ _ _ (RepB.kept (fun g hg _ => by
    rw [Below.heap_setCell _ _ _ g (by show g ≠ S; omega), Below.heap_setCell _ _ _ g (by show g ≠ S; omega), Below.heap_setCell _ _ _ g (by show g ≠ S; omega)]) _ _ _ R)

set_option maxRecDepth 100000 in
set_option maxHeartbeats 4000000 in
theorem of10 (X : Nat) (hX : X < 16384) (h0 : X ≠ 0) (h11 : X / 2 ^ 11 % 2 = 1) (h12 : X / 2 ^ 12 % 2 = 0) (w : World) : Calls Tryz.prog 43 #[.int .u32 (X : Int)] w fun e w' => ∃ v0 v1 v2, e = .returned (.agg #[v0, v1, v2]) ∧ RepB w' w.heap.size 3 [v0, v1, v2] (wn 5 [eT (mset (dropN X) 14), wn 6 [wk 12]]) ∧ Below w.heap.size w w' := by
  obtain ⟨i0, hi, hz0, hz1, hz2⟩ := infoWant_parts
  have hne := drop_some X h0 hX
  have hX32 : X < 4294967296 := by omega
  have q11 := and32 X 11 hX32
  rw [h11] at q11
  have q11' : bits .and .u32 ((X : Int) / 2048) 1 = 1 := q11
  have q12 := and32 X 12 hX32
  rw [h12] at q12
  have q12' : bits .and .u32 ((X : Int) / 4096) 1 = 0 := q12
  have hz : ((X : Int) == 0) = false := by simp; exact h0
  have HD := Lib.hid (drop_iff X)
  rw [h11] at HD
  generalize dropN X = M at HD hne
  have H12 := Lib.hid h12
  clear q11 q12 h11 h12
  go_enter Tryz.func43, Tryz.ntmps43
  go_wp2_with fail
  go_loopw [6, 7] (fun sl si wr => ∃ (j : Nat) (a' : Option Addr) (l' c' : Nat), sl = .slice a' l' c' ∧ si = .int .i64 j ∧ j ≤ 14 ∧ wr.ownsRow (w.heap.size + 1) 24 3 (.slice a' l' c') (mset M j).length (wcs (mset M j)) ∧ One w (.int .i64 0) (.int .i64 0) (.slice none 0 0) wr) (fun _ si _ => 14 - (intOf si).toNat)
  case atStart => exact ⟨0, none, 0, 0, rfl, rfl, Nat.zero_le _, World.ownsRow_nil _ _ _ _, One.start w _ _ _⟩
  case round =>
    obtain ⟨j, a', l', c', rfl, rfl, hj, ow, bw⟩ := hrel
    by_cases hlt : j < 14
    · have ha := and32 X j hX32
      have hln := mset_len M j
      have hD := HD.out j hlt
      by_cases hb : X / 2 ^ j % 2 = 1
      · rw [hb] at ha
        by_cases h12 : j = 12
        · subst h12
          exact absurd hb (by rw [H12.out]; decide)
        · have j0 : (0 : Int) ≤ (j : Int) := by omega
          have j1 : (j : Int) ≤ 32 := by omega
          have j2 : (j : Int) < 14 := by omega
          have j12 : ((j : Int) == 12) = false := by simp; omega
          have hbD : M / 2 ^ j % 2 = 1 := hD.2 ⟨hb, fun h => h12 h.1⟩
          clear hD
          have hsz : w.heap.size + 1 ≤ wr.heap.size := by have := Below.size bw; simpa using this
          have HO := Lib.hid ow
          go_wp2_with fail
          refine (kindR j wr).mono ?_
          rintro e w2 ⟨rfl, b2⟩
          have bw2 := bw.step b2
          have ow2 := own_below ow b2
          have hsz2 : w.heap.size + 1 ≤ w2.heap.size := by have := b2.size; omega
          clear ow bw
          go_wp2_with (at_builtin; refine wpList_append_lies _ rfl _ _ 22 rfl (w.heap.size + 1) 24 i0 (.agg #[.int .i64 0, .int .i64 0, .slice none 0 0]) 3 40 Tryz.underlying22 hi hz0 hz1 hz2 rfl (by decide) (.slice a' l' c') (mset M j).length (wcs (mset M j)) rfl (ow2.alloc _) ⟨w2.heap.size, 0, none⟩ 1 1 [.int .i64 2, .int .i64 j, .slice none 0 0] rfl rfl ?hnewsof10b ?h1of10b (by decide) ?h63of10b ?hbyof10b ?hbaseof10b _ rfl ?nextof10b)
          case hnewsof10b => intro a b hab; exact World.news_of_block (heap_alloc_new w2 _) a b (by simpa using hab)
          case h1of10b => intro a ha; simp at ha; rcases ha with rfl | rfl | rfl <;> rfl
          case h63of10b => unfold maxLen; omega
          case hbyof10b => omega
          case hbaseof10b => simp; omega
          intro g' cap2 w4 own4 gr4 at4 lt4
          have B4 : One w (.int .i64 0) (.int .i64 0) (.slice none 0 0) w4 := (bw2.step (below1 w2 _)).grown gr4 (by simp; omega) (fun k hk => by
            rcases HO.out.2 with ⟨e0, -⟩ | ⟨g2, c2, cu, e1, e2, -⟩
            · rw [e0] at hk; cases hk
            · rw [e1] at hk; have := Option.some.inj hk; simp at this; omega)
          have O4 : w4.ownsRow (w.heap.size + 1) 24 3 (.slice (some ⟨g', 0, none⟩) ((mset M j).length + 1) cap2) (mset M (j + 1)).length (wcs (mset M (j + 1))) := by rw [mset_yes' M j hbD, wcs_snoc, List.length_append]; exact own4
          clear own4 gr4 at4 HO ha ow2
          go_wp2_with fail
          exact ⟨⟨j + 1, _, _, _, rfl, by go_num, by omega, O4, B4⟩, by simp [intOf]; try omega⟩
      · have hb' : X / 2 ^ j % 2 = 0 := by omega
        rw [hb'] at ha
        have j0 : (0 : Int) ≤ (j : Int) := by omega
        have j1 : (j : Int) ≤ 32 := by omega
        have j2 : (j : Int) < 14 := by omega
        have hbD : ¬ M / 2 ^ j % 2 = 1 := fun h => hb (hD.1 h).1
        clear hD
        rw [← mset_no M j hbD] at ow
        go_wp2_with fail
        exact ⟨⟨j + 1, _, _, _, rfl, by go_num, by omega, ow, bw⟩, by simp [intOf]; try omega⟩
    · obtain rfl : j = 14 := by omega
      have j2 : ¬ (((14 : Nat) : Int) < 14) := by omega
      have hlen : (mset M 14).length ≠ 0 := fun e => hne (List.eq_nil_of_length_eq_zero e)
      have hle := mset_len M 14
      have OW := Lib.hid ow
      obtain ⟨g, cap, cur, hv, hgB, hg, hcap, hmx, hsz, htk⟩ : ∃ g cap cur, Value.slice a' l' c' = .slice (some ⟨g, 0, none⟩) (mset M 14).length cap ∧ w.heap.size + 1 ≤ g ∧ wr.heap[g]? = some (.cells cur 24 (0, 0)) ∧ (mset M 14).length ≤ cap ∧ cap ≤ maxLen ∧ cur.size = cap * 3 ∧ cur.toList.take ((mset M 14).length * 3) = wcs (mset M 14) := by
        rcases ow.2 with ⟨-, h⟩ | h
        · exact absurd h hlen
        · exact h
      injection hv with e1 e2 e3
      subst e1 e2 e3
      obtain ⟨k, hk⟩ : ∃ k, (mset M 14)[0]? = some k := ⟨_, List.getElem?_eq_getElem (by omega)⟩
      obtain ⟨y0, y1, y2⟩ : wr.cell? ⟨g, 0, none⟩ = some (.int .i64 2) ∧ wr.cell? ⟨g, 1, none⟩ = some (.int .i64 k) ∧ wr.cell? ⟨g, 2, none⟩ = some (.slice none 0 0) := by
        obtain ⟨q0, q1, q2⟩ := wcs_at (mset M 14) 0 k hk
        rw [← htk, List.getElem?_take_of_lt (by omega), Array.getElem?_toList] at q0 q1 q2
        exact ⟨by simpa [World.cell?, hg] using q0, by simpa [World.cell?, hg] using q1, by simpa [World.cell?, hg] using q2⟩
      have hl0 : (0 : Int) < ((mset M 14).length : Int) := by omega
      have hwr : w.heap.size + 1 ≤ wr.heap.size := by have := Below.size bw; simpa using this
      by_cases h1 : (mset M 14).length = 1
      · have hl1 : ¬ (1 : Int) < ((mset M 14).length : Int) := by omega
        have hl2 : ¬ 1 < (mset M 14).length := by omega
        have HT := Lib.hid (show ∀ W n, RepB W (w.heap.size + 1) (n + 2) [.int .i64 2, .int .i64 k, .slice none 0 0] (eT (mset M 14)) from fun W n => by
          have hms : mset M 14 = [k] := by
            match hm : mset M 14, h1, hk with
            | [x], _, hk => simp at hk; rw [hk]
          unfold eT; rw [if_pos h1, hms]; exact repB_wk W _ _ k)
        clear ow OW htk hk hlen hle hsz hmx hcap hg
        go_wp2_with fail
        have z8 := One.step bw (below1 wr (.cells #[.int .i64 2, .int .i64 k, .slice none 0 0] 24))
        refine (kindR 12 _).mono ?_
        rintro e w2 ⟨rfl, b2⟩
        have o2 := z8.step b2
        have hw2 : wr.heap.size + 1 ≤ w2.heap.size := by have := b2.size; simpa using this
        have H8 : w2.heap[wr.heap.size]? = some (.cells #[.int .i64 2, .int .i64 k, .slice none 0 0] 24 (0, 0)) := (b2.block wr.heap.size (by simp)).trans (heap_alloc_new wr _)
        have t8 : ∀ A B : Obj, ((w2.alloc A).alloc B).cell? ⟨wr.heap.size, 0, none⟩ = some (.int .i64 2) ∧ ((w2.alloc A).alloc B).cell? ⟨wr.heap.size, 1, none⟩ = some (.int .i64 k) ∧ ((w2.alloc A).alloc B).cell? ⟨wr.heap.size, 2, none⟩ = some (.slice none 0 0) := fun A B => by
          have h := hp_old (o := B) (hp_old (o := A) H8)
          generalize (w2.alloc A).alloc B = W at h
          simp [World.cell?, h]
        have r8 : ∀ A B C : Obj, (((w2.alloc A).alloc B).alloc C).cell? ⟨w.heap.size, 0, none⟩ = some (.int .i64 0) ∧ (((w2.alloc A).alloc B).alloc C).cell? ⟨w.heap.size, 1, none⟩ = some (.int .i64 0) ∧ (((w2.alloc A).alloc B).alloc C).cell? ⟨w.heap.size, 2, none⟩ = some (.slice none 0 0) ∧ ∀ o, (((w2.alloc A).alloc B).alloc C).frozen? ⟨w.heap.size, o, none⟩ = false := fun A B C => by
          have h := o2.step (below3 w2 A B C)
          exact ⟨h.c.1, h.c.2.1, h.c.2.2, h.f⟩
        obtain ⟨a0, a1, a2⟩ := t8 (.cells #[.int .i64 2, .int .i64 12, .slice none 0 0] 24) (.cells #[.int .i64 6, .int .i64 0, .slice (some ⟨w2.heap.size, 0, none⟩) 1 1] 24)
        obtain ⟨c0, c1, c2, fz⟩ := r8 (.cells #[.int .i64 2, .int .i64 12, .slice none 0 0] 24) (.cells #[.int .i64 6, .int .i64 0, .slice (some ⟨w2.heap.size, 0, none⟩) 1 1] 24) (.cells #[.int .i64 2, .int .i64 k, .slice none 0 0, .int .i64 6, .int .i64 0, .slice (some ⟨w2.heap.size, 0, none⟩) 1 1] 24)
        have BB : ∀ A B C : Obj, Below wr.heap.size wr (((w2.alloc A).alloc B).alloc C) := fun A B C => ((below1 wr _).trans (b2.mono (by simp))).trans ((below3 w2 A B C).mono (by omega))
        have BW := o2.step (below3 w2 (.cells #[.int .i64 2, .int .i64 12, .slice none 0 0] 24) (.cells #[.int .i64 6, .int .i64 0, .slice (some ⟨w2.heap.size, 0, none⟩) 1 1] 24) (.cells #[.int .i64 2, .int .i64 k, .slice none 0 0, .int .i64 6, .int .i64 0, .slice (some ⟨w2.heap.size, 0, none⟩) 1 1] 24))
        have RR : RepB (((w2.alloc (.cells #[.int .i64 2, .int .i64 12, .slice none 0 0] 24)).alloc (.cells #[.int .i64 6, .int .i64 0, .slice (some ⟨w2.heap.size, 0, none⟩) 1 1] 24)).alloc (.cells #[.int .i64 2, .int .i64 k, .slice none 0 0, .int .i64 6, .int .i64 0, .slice (some ⟨w2.heap.size, 0, none⟩) 1 1] 24)) (w.heap.size + 1) 3 [.int .i64 5, .int .i64 0, .slice (some ⟨w2.heap.size + 1 + 1, 0, none⟩) 2 2] (wn 5 [eT (mset M 14), wn 6 [wk 12]]) :=
          repB_two (by omega) (hp_new _ _ _ (by simp)) (have BB := BB (.cells #[.int .i64 2, .int .i64 12, .slice none 0 0] 24) (.cells #[.int .i64 6, .int .i64 0, .slice (some ⟨w2.heap.size, 0, none⟩) 1 1] 24) (.cells #[.int .i64 2, .int .i64 k, .slice none 0 0, .int .i64 6, .int .i64 0, .slice (some ⟨w2.heap.size, 0, none⟩) 1 1] 24); HT.out _ _) (repB_one (by omega) (hp_old (hp_old (hp_new _ _ _ rfl))) (repB_wk _ _ _ _))
        have R3 := Lib.hid fun x y z => repB_set3 x y z RR
        clear t8 r8 BB RR HT
        go_wp2_with fail
        exact bodyPost_ret (v := .agg #[.int .i64 5, .int .i64 0, .slice (some ⟨w2.heap.size + 1 + 1, 0, none⟩) 2 2]) (by simp [results, Tryz.results43, go_sem, World.cell?_setCell_same, World.cell?_setCell_other, c0, c1, c2]) rfl ⟨_, _, _, rfl, R3.out _ _ _, ((BW.below.setCell (Nat.le_refl _) _).setCell (Nat.le_refl _) _).setCell (Nat.le_refl _) _⟩
      · have hl1 : (1 : Int) < ((mset M 14).length : Int) := by omega
        have hl2 : 1 < (mset M 14).length := by omega
        have HT := Lib.hid (show ∀ n, RepB wr (w.heap.size + 1) (n + 2) [.int .i64 4, .int .i64 0, .slice (some ⟨g, 0, none⟩) (mset M 14).length c'] (eT (mset M 14)) from fun n => by
          unfold eT; rw [if_neg h1]; exact repB_own hne OW.out)
        clear ow OW htk hk hlen hle hsz hmx hcap hg
        go_wp2_with fail
        have z8 := One.step bw (below1 wr (.cells #[.int .i64 4, .int .i64 0, .slice (some ⟨g, 0, none⟩) (mset M 14).length c'] 24))
        refine (kindR 12 _).mono ?_
        rintro e w2 ⟨rfl, b2⟩
        have o2 := z8.step b2
        have hw2 : wr.heap.size + 1 ≤ w2.heap.size := by have := b2.size; simpa using this
        have H8 : w2.heap[wr.heap.size]? = some (.cells #[.int .i64 4, .int .i64 0, .slice (some ⟨g, 0, none⟩) (mset M 14).length c'] 24 (0, 0)) := (b2.block wr.heap.size (by simp)).trans (heap_alloc_new wr _)
        have t8 : ∀ A B : Obj, ((w2.alloc A).alloc B).cell? ⟨wr.heap.size, 0, none⟩ = some (.int .i64 4) ∧ ((w2.alloc A).alloc B).cell? ⟨wr.heap.size, 1, none⟩ = some (.int .i64 0) ∧ ((w2.alloc A).alloc B).cell? ⟨wr.heap.size, 2, none⟩ = some (.slice (some ⟨g, 0, none⟩) (mset M 14).length c') := fun A B => by
          have h := hp_old (o := B) (hp_old (o := A) H8)
          generalize (w2.alloc A).alloc B = W at h
          simp [World.cell?, h]
        have r8 : ∀ A B C : Obj, (((w2.alloc A).alloc B).alloc C).cell? ⟨w.heap.size, 0, none⟩ = some (.int .i64 0) ∧ (((w2.alloc A).alloc B).alloc C).cell? ⟨w.heap.size, 1, none⟩ = some (.int .i64 0) ∧ (((w2.alloc A).alloc B).alloc C).cell? ⟨w.heap.size, 2, none⟩ = some (.slice none 0 0) ∧ ∀ o, (((w2.alloc A).alloc B).alloc C).frozen? ⟨w.heap.size, o, none⟩ = false := fun A B C => by
          have h := o2.step (below3 w2 A B C)
          exact ⟨h.c.1, h.c.2.1, h.c.2.2, h.f⟩
        obtain ⟨a0, a1, a2⟩ := t8 (.cells #[.int .i64 2, .int .i64 12, .slice none 0 0] 24) (.cells #[.int .i64 6, .int .i64 0, .slice (some ⟨w2.heap.size, 0, none⟩) 1 1] 24)
        obtain ⟨c0, c1, c2, fz⟩ := r8 (.cells #[.int .i64 2, .int .i64 12, .slice none 0 0] 24) (.cells #[.int .i64 6, .int .i64 0, .slice (some ⟨w2.heap.size, 0, none⟩) 1 1] 24) (.cells #[.int .i64 4, .int .i64 0, .slice (some ⟨g, 0, none⟩) (mset M 14).length c', .int .i64 6, .int .i64 0, .slice (some ⟨w2.heap.size, 0, none⟩) 1 1] 24)
        have BB : ∀ A B C : Obj, Below wr.heap.size wr (((w2.alloc A).alloc B).alloc C) := fun A B C => ((below1 wr _).trans (b2.mono (by simp))).trans ((below3 w2 A B C).mono (by omega))
        have BW := o2.step (below3 w2 (.cells #[.int .i64 2, .int .i64 12, .slice none 0 0] 24) (.cells #[.int .i64 6, .int .i64 0, .slice (some ⟨w2.heap.size, 0, none⟩) 1 1] 24) (.cells #[.int .i64 4, .int .i64 0, .slice (some ⟨g, 0, none⟩) (mset M 14).length c', .int .i64 6, .int .i64 0, .slice (some ⟨w2.heap.size, 0, none⟩) 1 1] 24))
        have RR : RepB (((w2.alloc (.cells #[.int .i64 2, .int .i64 12, .slice none 0 0] 24)).alloc (.cells #[.int .i64 6, .int .i64 0, .slice (some ⟨w2.heap.size, 0, none⟩) 1 1] 24)).alloc (.cells #[.int .i64 4, .int .i64 0, .slice (some ⟨g, 0, none⟩) (mset M 14).length c', .int .i64 6, .int .i64 0, .slice (some ⟨w2.heap.size, 0, none⟩) 1 1] 24)) (w.heap.size + 1) 3 [.int .i64 5, .int .i64 0, .slice (some ⟨w2.heap.size + 1 + 1, 0, none⟩) 2 2] (wn 5 [eT (mset M 14), wn 6 [wk 12]]) :=
          repB_two (by omega) (hp_new _ _ _ (by simp)) (have BB := BB (.cells #[.int .i64 2, .int .i64 12, .slice none 0 0] 24) (.cells #[.int .i64 6, .int .i64 0, .slice (some ⟨w2.heap.size, 0, none⟩) 1 1] 24) (.cells #[.int .i64 4, .int .i64 0, .slice (some ⟨g, 0, none⟩) (mset M 14).length c', .int .i64 6, .int .i64 0, .slice (some ⟨w2.heap.size, 0, none⟩) 1 1] 24); RepB.below BB (HT.out _)) (repB_one (by omega) (hp_old (hp_old (hp_new _ _ _ rfl))) (repB_wk _ _ _ _))
        have R3 := Lib.hid fun x y z => repB_set3 x y z RR
        clear t8 r8 BB RR HT
        go_wp2_with fail
        exact bodyPost_ret (v := .agg #[.int .i64 5, .int .i64 0, .slice (some ⟨w2.heap.size + 1 + 1, 0, none⟩) 2 2]) (by simp [results, Tryz.results43, go_sem, World.cell?_setCell_same, World.cell?_setCell_other, c0, c1, c2]) rfl ⟨_, _, _, rfl, R3.out _ _ _, ((BW.below.setCell (Nat.le_refl _) _).setCell (Nat.le_refl _) _).setCell (Nat.le_refl _) _⟩
set_option maxRecDepth 100000 in
set_option maxHeartbeats 4000000 in
theorem of11 (X : Nat) (hX : X < 16384) (h0 : X ≠ 0) (h11 : X / 2 ^ 11 % 2 = 1) (h12 : X / 2 ^ 12 % 2 = 1) (w : World) : Calls Tryz.prog 43 #[.int .u32 (X : Int)] w fun e w' => ∃ v0 v1 v2, e = .returned (.agg #[v0, v1, v2]) ∧ RepB w' w.heap.size 3 [v0, v1, v2] (eT (mset (dropN X) 14)) ∧ Below w.heap.size w w' := by
  obtain ⟨i0, hi, hz0, hz1, hz2⟩ := infoWant_parts
  have hne := drop_some X h0 hX
  have hX32 : X < 4294967296 := by omega
  have q11 := and32 X 11 hX32
  rw [h11] at q11
  have q11' : bits .and .u32 ((X : Int) / 2048) 1 = 1 := q11
  have q12 := and32 X 12 hX32
  rw [h12] at q12
  have q12' : bits .and .u32 ((X : Int) / 4096) 1 = 1 := q12
  have hz : ((X : Int) == 0) = false := by simp; exact h0
  have HD := Lib.hid (drop_iff X)
  rw [h11] at HD
  generalize dropN X = M at HD hne
  have H12 := Lib.hid h12
  clear q11 q12 h11 h12
  go_enter Tryz.func43, Tryz.ntmps43
  go_wp2_with fail
  go_loopw [6, 7] (fun sl si wr => ∃ (j : Nat) (a' : Option Addr) (l' c' : Nat), sl = .slice a' l' c' ∧ si = .int .i64 j ∧ j ≤ 14 ∧ wr.ownsRow (w.heap.size + 1) 24 3 (.slice a' l' c') (mset M j).length (wcs (mset M j)) ∧ One w (.int .i64 0) (.int .i64 0) (.slice none 0 0) wr) (fun _ si _ => 14 - (intOf si).toNat)
  case atStart => exact ⟨0, none, 0, 0, rfl, rfl, Nat.zero_le _, World.ownsRow_nil _ _ _ _, One.start w _ _ _⟩
  case round =>
    obtain ⟨j, a', l', c', rfl, rfl, hj, ow, bw⟩ := hrel
    by_cases hlt : j < 14
    · have ha := and32 X j hX32
      have hln := mset_len M j
      have hD := HD.out j hlt
      by_cases hb : X / 2 ^ j % 2 = 1
      · rw [hb] at ha
        by_cases h12 : j = 12
        · subst h12
          have ha' : bits .and .u32 ((X : Int) / 4096) 1 = 1 := ha
          have hbD : ¬ M / 2 ^ 12 % 2 = 1 := fun h => (hD.1 h).2 ⟨rfl, by trivial⟩
          clear hD
          rw [← mset_no M 12 hbD] at ow
          go_wp2_with fail
          exact ⟨⟨12 + 1, _, _, _, rfl, by go_num, by omega, ow, bw⟩, by simp [intOf]; try omega⟩
        · have j0 : (0 : Int) ≤ (j : Int) := by omega
          have j1 : (j : Int) ≤ 32 := by omega
          have j2 : (j : Int) < 14 := by omega
          have j12 : ((j : Int) == 12) = false := by simp; omega
          have hbD : M / 2 ^ j % 2 = 1 := hD.2 ⟨hb, fun h => h12 h.1⟩
          clear hD
          have hsz : w.heap.size + 1 ≤ wr.heap.size := by have := Below.size bw; simpa using this
          have HO := Lib.hid ow
          go_wp2_with fail
          refine (kindR j wr).mono ?_
          rintro e w2 ⟨rfl, b2⟩
          have bw2 := bw.step b2
          have ow2 := own_below ow b2
          have hsz2 : w.heap.size + 1 ≤ w2.heap.size := by have := b2.size; omega
          clear ow bw
          go_wp2_with (at_builtin; refine wpList_append_lies _ rfl _ _ 22 rfl (w.heap.size + 1) 24 i0 (.agg #[.int .i64 0, .int .i64 0, .slice none 0 0]) 3 40 Tryz.underlying22 hi hz0 hz1 hz2 rfl (by decide) (.slice a' l' c') (mset M j).length (wcs (mset M j)) rfl (ow2.alloc _) ⟨w2.heap.size, 0, none⟩ 1 1 [.int .i64 2, .int .i64 j, .slice none 0 0] rfl rfl ?hnewsof11b ?h1of11b (by decide) ?h63of11b ?hbyof11b ?hbaseof11b _ rfl ?nextof11b)
          case hnewsof11b => intro a b hab; exact World.news_of_block (heap_alloc_new w2 _) a b (by simpa using hab)
          case h1of11b => intro a ha; simp at ha; rcases ha with rfl | rfl | rfl <;> rfl
          case h63of11b => unfold maxLen; omega
          case hbyof11b => omega
          case hbaseof11b => simp; omega
          intro g' cap2 w4 own4 gr4 at4 lt4
          have B4 : One w (.int .i64 0) (.int .i64 0) (.slice none 0 0) w4 := (bw2.step (below1 w2 _)).grown gr4 (by simp; omega) (fun k hk => by
            rcases HO.out.2 with ⟨e0, -⟩ | ⟨g2, c2, cu, e1, e2, -⟩
            · rw [e0] at hk; cases hk
            · rw [e1] at hk; have := Option.some.inj hk; simp at this; omega)
          have O4 : w4.ownsRow (w.heap.size + 1) 24 3 (.slice (some ⟨g', 0, none⟩) ((mset M j).length + 1) cap2) (mset M (j + 1)).length (wcs (mset M (j + 1))) := by rw [mset_yes' M j hbD, wcs_snoc, List.length_append]; exact own4
          clear own4 gr4 at4 HO ha ow2
          go_wp2_with fail
          exact ⟨⟨j + 1, _, _, _, rfl, by go_num, by omega, O4, B4⟩, by simp [intOf]; try omega⟩
      · have hb' : X / 2 ^ j % 2 = 0 := by omega
        rw [hb'] at ha
        have j0 : (0 : Int) ≤ (j : Int) := by omega
        have j1 : (j : Int) ≤ 32 := by omega
        have j2 : (j : Int) < 14 := by omega
        have hbD : ¬ M / 2 ^ j % 2 = 1 := fun h => hb (hD.1 h).1
        clear hD
        rw [← mset_no M j hbD] at ow
        go_wp2_with fail
        exact ⟨⟨j + 1, _, _, _, rfl, by go_num, by omega, ow, bw⟩, by simp [intOf]; try omega⟩
    · obtain rfl : j = 14 := by omega
      have j2 : ¬ (((14 : Nat) : Int) < 14) := by omega
      have hlen : (mset M 14).length ≠ 0 := fun e => hne (List.eq_nil_of_length_eq_zero e)
      have hle := mset_len M 14
      have OW := Lib.hid ow
      obtain ⟨g, cap, cur, hv, hgB, hg, hcap, hmx, hsz, htk⟩ : ∃ g cap cur, Value.slice a' l' c' = .slice (some ⟨g, 0, none⟩) (mset M 14).length cap ∧ w.heap.size + 1 ≤ g ∧ wr.heap[g]? = some (.cells cur 24 (0, 0)) ∧ (mset M 14).length ≤ cap ∧ cap ≤ maxLen ∧ cur.size = cap * 3 ∧ cur.toList.take ((mset M 14).length * 3) = wcs (mset M 14) := by
        rcases ow.2 with ⟨-, h⟩ | h
        · exact absurd h hlen
        · exact h
      injection hv with e1 e2 e3
      subst e1 e2 e3
      obtain ⟨k, hk⟩ : ∃ k, (mset M 14)[0]? = some k := ⟨_, List.getElem?_eq_getElem (by omega)⟩
      obtain ⟨y0, y1, y2⟩ : wr.cell? ⟨g, 0, none⟩ = some (.int .i64 2) ∧ wr.cell? ⟨g, 1, none⟩ = some (.int .i64 k) ∧ wr.cell? ⟨g, 2, none⟩ = some (.slice none 0 0) := by
        obtain ⟨q0, q1, q2⟩ := wcs_at (mset M 14) 0 k hk
        rw [← htk, List.getElem?_take_of_lt (by omega), Array.getElem?_toList] at q0 q1 q2
        exact ⟨by simpa [World.cell?, hg] using q0, by simpa [World.cell?, hg] using q1, by simpa [World.cell?, hg] using q2⟩
      have hl0 : (0 : Int) < ((mset M 14).length : Int) := by omega
      have hwr : w.heap.size + 1 ≤ wr.heap.size := by have := Below.size bw; simpa using this
      by_cases h1 : (mset M 14).length = 1
      · have hl1 : ¬ (1 : Int) < ((mset M 14).length : Int) := by omega
        have hl2 : ¬ 1 < (mset M 14).length := by omega
        have HT := Lib.hid (show ∀ W n, RepB W (w.heap.size + 1) (n + 2) [.int .i64 2, .int .i64 k, .slice none 0 0] (eT (mset M 14)) from fun W n => by
          have hms : mset M 14 = [k] := by
            match hm : mset M 14, h1, hk with
            | [x], _, hk => simp at hk; rw [hk]
          unfold eT; rw [if_pos h1, hms]; exact repB_wk W _ _ k)
        clear ow OW htk hk hlen hle hsz hmx hcap hg
        have z8 := One.step bw (below1 wr (.cells #[.int .i64 2, .int .i64 k, .slice none 0 0] 24))
        obtain ⟨c0, c1, c2⟩ := z8.c
        have fz := z8.f
        have BB := below1 wr (.cells #[.int .i64 2, .int .i64 k, .slice none 0 0] 24)
        have RR : RepB (wr.alloc (.cells #[.int .i64 2, .int .i64 k, .slice none 0 0] 24)) (w.heap.size + 1) 3 [.int .i64 2, .int .i64 k, .slice none 0 0] (eT (mset M 14)) := HT.out _ _
        have R3 := Lib.hid fun x y z => repB_set3 x y z RR
        clear BB RR HT
        go_wp2_with fail
        exact bodyPost_ret (v := .agg #[.int .i64 2, .int .i64 k, .slice none 0 0]) (by simp [results, Tryz.results43, go_sem, World.cell?_setCell_same, World.cell?_setCell_other, c0, c1, c2]) rfl ⟨_, _, _, rfl, R3.out _ _ _, ((z8.below.setCell (Nat.le_refl _) _).setCell (Nat.le_refl _) _).setCell (Nat.le_refl _) _⟩
      · have hl1 : (1 : Int) < ((mset M 14).length : Int) := by omega
        have hl2 : 1 < (mset M 14).length := by omega
        have HT := Lib.hid (show ∀ n, RepB wr (w.heap.size + 1) (n + 2) [.int .i64 4, .int .i64 0, .slice (some ⟨g, 0, none⟩) (mset M 14).length c'] (eT (mset M 14)) from fun n => by
          unfold eT; rw [if_neg h1]; exact repB_own hne OW.out)
        clear ow OW htk hk hlen hle hsz hmx hcap hg
        have z8 := One.step bw (below1 wr (.cells #[.int .i64 4, .int .i64 0, .slice (some ⟨g, 0, none⟩) (mset M 14).length c'] 24))
        obtain ⟨c0, c1, c2⟩ := z8.c
        have fz := z8.f
        have BB := below1 wr (.cells #[.int .i64 4, .int .i64 0, .slice (some ⟨g, 0, none⟩) (mset M 14).length c'] 24)
        have RR : RepB (wr.alloc (.cells #[.int .i64 4, .int .i64 0, .slice (some ⟨g, 0, none⟩) (mset M 14).length c'] 24)) (w.heap.size + 1) 3 [.int .i64 4, .int .i64 0, .slice (some ⟨g, 0, none⟩) (mset M 14).length c'] (eT (mset M 14)) := RepB.below BB (HT.out _)
        have R3 := Lib.hid fun x y z => repB_set3 x y z RR
        clear BB RR HT
        go_wp2_with fail
        exact bodyPost_ret (v := .agg #[.int .i64 4, .int .i64 0, .slice (some ⟨g, 0, none⟩) (mset M 14).length c']) (by simp [results, Tryz.results43, go_sem, World.cell?_setCell_same, World.cell?_setCell_other, c0, c1, c2]) rfl ⟨_, _, _, rfl, R3.out _ _ _, ((z8.below.setCell (Nat.le_refl _) _).setCell (Nat.le_refl _) _).setCell (Nat.le_refl _) _⟩
set_option maxRecDepth 100000 in
set_option maxHeartbeats 4000000 in
theorem of00 (X : Nat) (hX : X < 16384) (h0 : X ≠ 0) (h11 : X / 2 ^ 11 % 2 = 0) (h12 : X / 2 ^ 12 % 2 = 0) (w : World) : Calls Tryz.prog 43 #[.int .u32 (X : Int)] w fun e w' => ∃ v0 v1 v2, e = .returned (.agg #[v0, v1, v2]) ∧ RepB w' w.heap.size 3 [v0, v1, v2] (eT (mset (dropN X) 14)) ∧ Below w.heap.size w w' := by
  obtain ⟨i0, hi, hz0, hz1, hz2⟩ := infoWant_parts
  have hne := drop_some X h0 hX
  have hX32 : X < 4294967296 := by omega
  have q11 := and32 X 11 hX32
  rw [h11] at q11
  have q11' : bits .and .u32 ((X : Int) / 2048) 1 = 0 := q11
  have q12 := and32 X 12 hX32
  rw [h12] at q12
  have q12' : bits .and .u32 ((X : Int) / 4096) 1 = 0 := q12
  have hz : ((X : Int) == 0) = false := by simp; exact h0
  have HD := Lib.hid (drop_iff X)
  rw [h11] at HD
  generalize dropN X = M at HD hne
  have H12 := Lib.hid h12
  clear q11 q12 h11 h12
  go_enter Tryz.func43, Tryz.ntmps43
  go_wp2_with fail
  go_loopw [6, 7] (fun sl si wr => ∃ (j : Nat) (a' : Option Addr) (l' c' : Nat), sl = .slice a' l' c' ∧ si = .int .i64 j ∧ j ≤ 14 ∧ wr.ownsRow (w.heap.size + 1) 24 3 (.slice a' l' c') (mset M j).length (wcs (mset M j)) ∧ One w (.int .i64 0) (.int .i64 0) (.slice none 0 0) wr) (fun _ si _ => 14 - (intOf si).toNat)
  case atStart => exact ⟨0, none, 0, 0, rfl, rfl, Nat.zero_le _, World.ownsRow_nil _ _ _ _, One.start w _ _ _⟩
  case round =>
    obtain ⟨j, a', l', c', rfl, rfl, hj, ow, bw⟩ := hrel
    by_cases hlt : j < 14
    · have ha := and32 X j hX32
      have hln := mset_len M j
      have hD := HD.out j hlt
      by_cases hb : X / 2 ^ j % 2 = 1
      · rw [hb] at ha
        by_cases h12 : j = 12
        · subst h12
          exact absurd hb (by rw [H12.out]; decide)
        · have j0 : (0 : Int) ≤ (j : Int) := by omega
          have j1 : (j : Int) ≤ 32 := by omega
          have j2 : (j : Int) < 14 := by omega
          have j12 : ((j : Int) == 12) = false := by simp; omega
          have hbD : M / 2 ^ j % 2 = 1 := hD.2 ⟨hb, fun h => h12 h.1⟩
          clear hD
          have hsz : w.heap.size + 1 ≤ wr.heap.size := by have := Below.size bw; simpa using this
          have HO := Lib.hid ow
          go_wp2_with fail
          refine (kindR j wr).mono ?_
          rintro e w2 ⟨rfl, b2⟩
          have bw2 := bw.step b2
          have ow2 := own_below ow b2
          have hsz2 : w.heap.size + 1 ≤ w2.heap.size := by have := b2.size; omega
          clear ow bw
          go_wp2_with (at_builtin; refine wpList_append_lies _ rfl _ _ 22 rfl (w.heap.size + 1) 24 i0 (.agg #[.int .i64 0, .int .i64 0, .slice none 0 0]) 3 40 Tryz.underlying22 hi hz0 hz1 hz2 rfl (by decide) (.slice a' l' c') (mset M j).length (wcs (mset M j)) rfl (ow2.alloc _) ⟨w2.heap.size, 0, none⟩ 1 1 [.int .i64 2, .int .i64 j, .slice none 0 0] rfl rfl ?hnewsof00b ?h1of00b (by decide) ?h63of00b ?hbyof00b ?hbaseof00b _ rfl ?nextof00b)
          case hnewsof00b => intro a b hab; exact World.news_of_block (heap_alloc_new w2 _) a b (by simpa using hab)
          case h1of00b => intro a ha; simp at ha; rcases ha with rfl | rfl | rfl <;> rfl
          case h63of00b => unfold maxLen; omega
          case hbyof00b => omega
          case hbaseof00b => simp; omega
          intro g' cap2 w4 own4 gr4 at4 lt4
          have B4 : One w (.int .i64 0) (.int .i64 0) (.slice none 0 0) w4 := (bw2.step (below1 w2 _)).grown gr4 (by simp; omega) (fun k hk => by
            rcases HO.out.2 with ⟨e0, -⟩ | ⟨g2, c2, cu, e1, e2, -⟩
            · rw [e0] at hk; cases hk
            · rw [e1] at hk; have := Option.some.inj hk; simp at this; omega)
          have O4 : w4.ownsRow (w.heap.size + 1) 24 3 (.slice (some ⟨g', 0, none⟩) ((mset M j).length + 1) cap2) (mset M (j + 1)).length (wcs (mset M (j + 1))) := by rw [mset_yes' M j hbD, wcs_snoc, List.length_append]; exact own4
          clear own4 gr4 at4 HO ha ow2
          go_wp2_with fail
          exact ⟨⟨j + 1, _, _, _, rfl, by go_num, by omega, O4, B4⟩, by simp [intOf]; try omega⟩
      · have hb' : X / 2 ^ j % 2 = 0 := by omega
        rw [hb'] at ha
        have j0 : (0 : Int) ≤ (j : Int) := by omega
        have j1 : (j : Int) ≤ 32 := by omega
        have j2 : (j : Int) < 14 := by omega
        have hbD : ¬ M / 2 ^ j % 2 = 1 := fun h => hb (hD.1 h).1
        clear hD
        rw [← mset_no M j hbD] at ow
        go_wp2_with fail
        exact ⟨⟨j + 1, _, _, _, rfl, by go_num, by omega, ow, bw⟩, by simp [intOf]; try omega⟩
    · obtain rfl : j = 14 := by omega
      have j2 : ¬ (((14 : Nat) : Int) < 14) := by omega
      have hlen : (mset M 14).length ≠ 0 := fun e => hne (List.eq_nil_of_length_eq_zero e)
      have hle := mset_len M 14
      have OW := Lib.hid ow
      obtain ⟨g, cap, cur, hv, hgB, hg, hcap, hmx, hsz, htk⟩ : ∃ g cap cur, Value.slice a' l' c' = .slice (some ⟨g, 0, none⟩) (mset M 14).length cap ∧ w.heap.size + 1 ≤ g ∧ wr.heap[g]? = some (.cells cur 24 (0, 0)) ∧ (mset M 14).length ≤ cap ∧ cap ≤ maxLen ∧ cur.size = cap * 3 ∧ cur.toList.take ((mset M 14).length * 3) = wcs (mset M 14) := by
        rcases ow.2 with ⟨-, h⟩ | h
        · exact absurd h hlen
        · exact h
      injection hv with e1 e2 e3
      subst e1 e2 e3
      obtain ⟨k, hk⟩ : ∃ k, (mset M 14)[0]? = some k := ⟨_, List.getElem?_eq_getElem (by omega)⟩
      obtain ⟨y0, y1, y2⟩ : wr.cell? ⟨g, 0, none⟩ = some (.int .i64 2) ∧ wr.cell? ⟨g, 1, none⟩ = some (.int .i64 k) ∧ wr.cell? ⟨g, 2, none⟩ = some (.slice none 0 0) := by
        obtain ⟨q0, q1, q2⟩ := wcs_at (mset M 14) 0 k hk
        rw [← htk, List.getElem?_take_of_lt (by omega), Array.getElem?_toList] at q0 q1 q2
        exact ⟨by simpa [World.cell?, hg] using q0, by simpa [World.cell?, hg] using q1, by simpa [World.cell?, hg] using q2⟩
      have hl0 : (0 : Int) < ((mset M 14).length : Int) := by omega
      have hwr : w.heap.size + 1 ≤ wr.heap.size := by have := Below.size bw; simpa using this
      by_cases h1 : (mset M 14).length = 1
      · have hl1 : ¬ (1 : Int) < ((mset M 14).length : Int) := by omega
        have hl2 : ¬ 1 < (mset M 14).length := by omega
        have HT := Lib.hid (show ∀ W n, RepB W (w.heap.size + 1) (n + 2) [.int .i64 2, .int .i64 k, .slice none 0 0] (eT (mset M 14)) from fun W n => by
          have hms : mset M 14 = [k] := by
            match hm : mset M 14, h1, hk with
            | [x], _, hk => simp at hk; rw [hk]
          unfold eT; rw [if_pos h1, hms]; exact repB_wk W _ _ k)
        clear ow OW htk hk hlen hle hsz hmx hcap hg
        have z8 := One.step bw (below1 wr (.cells #[.int .i64 2, .int .i64 k, .slice none 0 0] 24))
        obtain ⟨c0, c1, c2⟩ := z8.c
        have fz := z8.f
        have BB := below1 wr (.cells #[.int .i64 2, .int .i64 k, .slice none 0 0] 24)
        have RR : RepB (wr.alloc (.cells #[.int .i64 2, .int .i64 k, .slice none 0 0] 24)) (w.heap.size + 1) 3 [.int .i64 2, .int .i64 k, .slice none 0 0] (eT (mset M 14)) := HT.out _ _
        have R3 := Lib.hid fun x y z => repB_set3 x y z RR
        clear BB RR HT
        go_wp2_with fail
        exact bodyPost_ret (v := .agg #[.int .i64 2, .int .i64 k, .slice none 0 0]) (by simp [results, Tryz.results43, go_sem, World.cell?_setCell_same, World.cell?_setCell_other, c0, c1, c2]) rfl ⟨_, _, _, rfl, R3.out _ _ _, ((z8.below.setCell (Nat.le_refl _) _).setCell (Nat.le_refl _) _).setCell (Nat.le_refl _) _⟩
      · have hl1 : (1 : Int) < ((mset M 14).length : Int) := by omega
        have hl2 : 1 < (mset M 14).length := by omega
        have HT := Lib.hid (show ∀ n, RepB wr (w.heap.size + 1) (n + 2) [.int .i64 4, .int .i64 0, .slice (some ⟨g, 0, none⟩) (mset M 14).length c'] (eT (mset M 14)) from fun n => by
          unfold eT; rw [if_neg h1]; exact repB_own hne OW.out)
        clear ow OW htk hk hlen hle hsz hmx hcap hg
        have z8 := One.step bw (below1 wr (.cells #[.int .i64 4, .int .i64 0, .slice (some ⟨g, 0, none⟩) (mset M 14).length c'] 24))
        obtain ⟨c0, c1, c2⟩ := z8.c
        have fz := z8.f
        have BB := below1 wr (.cells #[.int .i64 4, .int .i64 0, .slice (some ⟨g, 0, none⟩) (mset M 14).length c'] 24)
        have RR : RepB (wr.alloc (.cells #[.int .i64 4, .int .i64 0, .slice (some ⟨g, 0, none⟩) (mset M 14).length c'] 24)) (w.heap.size + 1) 3 [.int .i64 4, .int .i64 0, .slice (some ⟨g, 0, none⟩) (mset M 14).length c'] (eT (mset M 14)) := RepB.below BB (HT.out _)
        have R3 := Lib.hid fun x y z => repB_set3 x y z RR
        clear BB RR HT
        go_wp2_with fail
        exact bodyPost_ret (v := .agg #[.int .i64 4, .int .i64 0, .slice (some ⟨g, 0, none⟩) (mset M 14).length c']) (by simp [results, Tryz.results43, go_sem, World.cell?_setCell_same, World.cell?_setCell_other, c0, c1, c2]) rfl ⟨_, _, _, rfl, R3.out _ _ _, ((z8.below.setCell (Nat.le_refl _) _).setCell (Nat.le_refl _) _).setCell (Nat.le_refl _) _⟩
set_option maxRecDepth 100000 in
set_option maxHeartbeats 4000000 in
theorem of01 (X : Nat) (hX : X < 16384) (h0 : X ≠ 0) (h11 : X / 2 ^ 11 % 2 = 0) (h12 : X / 2 ^ 12 % 2 = 1) (w : World) : Calls Tryz.prog 43 #[.int .u32 (X : Int)] w fun e w' => ∃ v0 v1 v2, e = .returned (.agg #[v0, v1, v2]) ∧ RepB w' w.heap.size 3 [v0, v1, v2] (eT (mset (dropN X) 14)) ∧ Below w.heap.size w w' := by
  obtain ⟨i0, hi, hz0, hz1, hz2⟩ := infoWant_parts
  have hne := drop_some X h0 hX
  have hX32 : X < 4294967296 := by omega
  have q11 := and32 X 11 hX32
  rw [h11] at q11
  have q11' : bits .and .u32 ((X : Int) / 2048) 1 = 0 := q11
  have q12 := and32 X 12 hX32
  rw [h12] at q12
  have q12' : bits .and .u32 ((X : Int) / 4096) 1 = 1 := q12
  have hz : ((X : Int) == 0) = false := by simp; exact h0
  have HD := Lib.hid (drop_iff X)
  rw [h11] at HD
  generalize dropN X = M at HD hne
  have H12 := Lib.hid h12
  clear q11 q12 h11 h12
  go_enter Tryz.func43, Tryz.ntmps43
  go_wp2_with fail
  go_loopw [6, 7] (fun sl si wr => ∃ (j : Nat) (a' : Option Addr) (l' c' : Nat), sl = .slice a' l' c' ∧ si = .int .i64 j ∧ j ≤ 14 ∧ wr.ownsRow (w.heap.size + 1) 24 3 (.slice a' l' c') (mset M j).length (wcs (mset M j)) ∧ One w (.int .i64 0) (.int .i64 0) (.slice none 0 0) wr) (fun _ si _ => 14 - (intOf si).toNat)
  case atStart => exact ⟨0, none, 0, 0, rfl, rfl, Nat.zero_le _, World.ownsRow_nil _ _ _ _, One.start w _ _ _⟩
  case round =>
    obtain ⟨j, a', l', c', rfl, rfl, hj, ow, bw⟩ := hrel
    by_cases hlt : j < 14
    · have ha := and32 X j hX32
      have hln := mset_len M j
      have hD := HD.out j hlt
      by_cases hb : X / 2 ^ j % 2 = 1
      · rw [hb] at ha
        by_cases h12 : j = 12
        · subst h12
          have ha' : bits .and .u32 ((X : Int) / 4096) 1 = 1 := ha
          have hbD : M / 2 ^ 12 % 2 = 1 := hD.2 ⟨hb, fun h => absurd h.2 (by simp)⟩
          clear hD
          have hsz : w.heap.size + 1 ≤ wr.heap.size := by have := Below.size bw; simpa using this
          have HO := Lib.hid ow
          go_wp2_with fail
          refine (kindR 12 wr).mono ?_
          rintro e w2 ⟨rfl, b2⟩
          have bw2 := bw.step b2
          have ow2 := own_below ow b2
          have hsz2 : w.heap.size + 1 ≤ w2.heap.size := by have := b2.size; omega
          clear ow bw
          go_wp2_with (at_builtin; refine wpList_append_lies _ rfl _ _ 22 rfl (w.heap.size + 1) 24 i0 (.agg #[.int .i64 0, .int .i64 0, .slice none 0 0]) 3 40 Tryz.underlying22 hi hz0 hz1 hz2 rfl (by decide) (.slice a' l' c') (mset M 12).length (wcs (mset M 12)) rfl (ow2.alloc _) ⟨w2.heap.size, 0, none⟩ 1 1 [.int .i64 2, .int .i64 12, .slice none 0 0] rfl rfl ?hnewsof01a ?h1of01a (by decide) ?h63of01a ?hbyof01a ?hbaseof01a _ rfl ?nextof01a)
          case hnewsof01a => intro a b hab; exact World.news_of_block (heap_alloc_new w2 _) a b (by simpa using hab)
          case h1of01a => intro a ha; simp at ha; rcases ha with rfl | rfl | rfl <;> rfl
          case h63of01a => unfold maxLen; omega
          case hbyof01a => omega
          case hbaseof01a => simp; omega
          intro g' cap2 w4 own4 gr4 at4 lt4
          have B4 : One w (.int .i64 0) (.int .i64 0) (.slice none 0 0) w4 := (bw2.step (below1 w2 _)).grown gr4 (by simp; omega) (fun k hk => by
            rcases HO.out.2 with ⟨e0, -⟩ | ⟨g2, c2, cu, e1, e2, -⟩
            · rw [e0] at hk; cases hk
            · rw [e1] at hk; have := Option.some.inj hk; simp at this; omega)
          have O4 : w4.ownsRow (w.heap.size + 1) 24 3 (.slice (some ⟨g', 0, none⟩) ((mset M 12).length + 1) cap2) (mset M (12 + 1)).length (wcs (mset M (12 + 1))) := by rw [mset_yes' M 12 hbD, wcs_snoc, List.length_append]; exact own4
          clear own4 gr4 at4 HO ha ow2
          go_wp2_with fail
          exact ⟨⟨12 + 1, _, _, _, rfl, by go_num, by omega, O4, B4⟩, by simp [intOf]; try omega⟩
        · have j0 : (0 : Int) ≤ (j : Int) := by omega
          have j1 : (j : Int) ≤ 32 := by omega
          have j2 : (j : Int) < 14 := by omega
          have j12 : ((j : Int) == 12) = false := by simp; omega
          have hbD : M / 2 ^ j % 2 = 1 := hD.2 ⟨hb, fun h => h12 h.1⟩
          clear hD
          have hsz : w.heap.size + 1 ≤ wr.heap.size := by have := Below.size bw; simpa using this
          have HO := Lib.hid ow
          go_wp2_with fail
          refine (kindR j wr).mono ?_
          rintro e w2 ⟨rfl, b2⟩
          have bw2 := bw.step b2
          have ow2 := own_below ow b2
          have hsz2 : w.heap.size + 1 ≤ w2.heap.size := by have := b2.size; omega
          clear ow bw
          go_wp2_with (at_builtin; refine wpList_append_lies _ rfl _ _ 22 rfl (w.heap.size + 1) 24 i0 (.agg #[.int .i64 0, .int .i64 0, .slice none 0 0]) 3 40 Tryz.underlying22 hi hz0 hz1 hz2 rfl (by decide) (.slice a' l' c') (mset M j).length (wcs (mset M j)) rfl (ow2.alloc _) ⟨w2.heap.size, 0, none⟩ 1 1 [.int .i64 2, .int .i64 j, .slice none 0 0] rfl rfl ?hnewsof01b ?h1of01b (by decide) ?h63of01b ?hbyof01b ?hbaseof01b _ rfl ?nextof01b)
          case hnewsof01b => intro a b hab; exact World.news_of_block (heap_alloc_new w2 _) a b (by simpa using hab)
          case h1of01b => intro a ha; simp at ha; rcases ha with rfl | rfl | rfl <;> rfl
          case h63of01b => unfold maxLen; omega
          case hbyof01b => omega
          case hbaseof01b => simp; omega
          intro g' cap2 w4 own4 gr4 at4 lt4
          have B4 : One w (.int .i64 0) (.int .i64 0) (.slice none 0 0) w4 := (bw2.step (below1 w2 _)).grown gr4 (by simp; omega) (fun k hk => by
            rcases HO.out.2 with ⟨e0, -⟩ | ⟨g2, c2, cu, e1, e2, -⟩
            · rw [e0] at hk; cases hk
            · rw [e1] at hk; have := Option.some.inj hk; simp at this; omega)
          have O4 : w4.ownsRow (w.heap.size + 1) 24 3 (.slice (some ⟨g', 0, none⟩) ((mset M j).length + 1) cap2) (mset M (j + 1)).length (wcs (mset M (j + 1))) := by rw [mset_yes' M j hbD, wcs_snoc, List.length_append]; exact own4
          clear own4 gr4 at4 HO ha ow2
          go_wp2_with fail
          exact ⟨⟨j + 1, _, _, _, rfl, by go_num, by omega, O4, B4⟩, by simp [intOf]; try omega⟩
      · have hb' : X / 2 ^ j % 2 = 0 := by omega
        rw [hb'] at ha
        have j0 : (0 : Int) ≤ (j : Int) := by omega
        have j1 : (j : Int) ≤ 32 := by omega
        have j2 : (j : Int) < 14 := by omega
        have hbD : ¬ M / 2 ^ j % 2 = 1 := fun h => hb (hD.1 h).1
        clear hD
        rw [← mset_no M j hbD] at ow
        go_wp2_with fail
        exact ⟨⟨j + 1, _, _, _, rfl, by go_num, by omega, ow, bw⟩, by simp [intOf]; try omega⟩
    · obtain rfl : j = 14 := by omega
      have j2 : ¬ (((14 : Nat) : Int) < 14) := by omega
      have hlen : (mset M 14).length ≠ 0 := fun e => hne (List.eq_nil_of_length_eq_zero e)
      have hle := mset_len M 14
      have OW := Lib.hid ow
      obtain ⟨g, cap, cur, hv, hgB, hg, hcap, hmx, hsz, htk⟩ : ∃ g cap cur, Value.slice a' l' c' = .slice (some ⟨g, 0, none⟩) (mset M 14).length cap ∧ w.heap.size + 1 ≤ g ∧ wr.heap[g]? = some (.cells cur 24 (0, 0)) ∧ (mset M 14).length ≤ cap ∧ cap ≤ maxLen ∧ cur.size = cap * 3 ∧ cur.toList.take ((mset M 14).length * 3) = wcs (mset M 14) := by
        rcases ow.2 with ⟨-, h⟩ | h
        · exact absurd h hlen
        · exact h
      injection hv with e1 e2 e3
      subst e1 e2 e3
      obtain ⟨k, hk⟩ : ∃ k, (mset M 14)[0]? = some k := ⟨_, List.getElem?_eq_getElem (by omega)⟩
      obtain ⟨y0, y1, y2⟩ : wr.cell? ⟨g, 0, none⟩ = some (.int .i64 2) ∧ wr.cell? ⟨g, 1, none⟩ = some (.int .i64 k) ∧ wr.cell? ⟨g, 2, none⟩ = some (.slice none 0 0) := by
        obtain ⟨q0, q1, q2⟩ := wcs_at (mset M 14) 0 k hk
        rw [← htk, List.getElem?_take_of_lt (by omega), Array.getElem?_toList] at q0 q1 q2
        exact ⟨by simpa [World.cell?, hg] using q0, by simpa [World.cell?, hg] using q1, by simpa [World.cell?, hg] using q2⟩
      have hl0 : (0 : Int) < ((mset M 14).length : Int) := by omega
      have hwr : w.heap.size + 1 ≤ wr.heap.size := by have := Below.size bw; simpa using this
      by_cases h1 : (mset M 14).length = 1
      · have hl1 : ¬ (1 : Int) < ((mset M 14).length : Int) := by omega
        have hl2 : ¬ 1 < (mset M 14).length := by omega
        have HT := Lib.hid (show ∀ W n, RepB W (w.heap.size + 1) (n + 2) [.int .i64 2, .int .i64 k, .slice none 0 0] (eT (mset M 14)) from fun W n => by
          have hms : mset M 14 = [k] := by
            match hm : mset M 14, h1, hk with
            | [x], _, hk => simp at hk; rw [hk]
          unfold eT; rw [if_pos h1, hms]; exact repB_wk W _ _ k)
        clear ow OW htk hk hlen hle hsz hmx hcap hg
        have z8 := One.step bw (below1 wr (.cells #[.int .i64 2, .int .i64 k, .slice none 0 0] 24))
        obtain ⟨c0, c1, c2⟩ := z8.c
        have fz := z8.f
        have BB := below1 wr (.cells #[.int .i64 2, .int .i64 k, .slice none 0 0] 24)
        have RR : RepB (wr.alloc (.cells #[.int .i64 2, .int .i64 k, .slice none 0 0] 24)) (w.heap.size + 1) 3 [.int .i64 2, .int .i64 k, .slice none 0 0] (eT (mset M 14)) := HT.out _ _
        have R3 := Lib.hid fun x y z => repB_set3 x y z RR
        clear BB RR HT
        go_wp2_with fail
        exact bodyPost_ret (v := .agg #[.int .i64 2, .int .i64 k, .slice none 0 0]) (by simp [results, Tryz.results43, go_sem, World.cell?_setCell_same, World.cell?_setCell_other, c0, c1, c2]) rfl ⟨_, _, _, rfl, R3.out _ _ _, ((z8.below.setCell (Nat.le_refl _) _).setCell (Nat.le_refl _) _).setCell (Nat.le_refl _) _⟩
      · have hl1 : (1 : Int) < ((mset M 14).length : Int) := by omega
        have hl2 : 1 < (mset M 14).length := by omega
        have HT := Lib.hid (show ∀ n, RepB wr (w.heap.size + 1) (n + 2) [.int .i64 4, .int .i64 0, .slice (some ⟨g, 0, none⟩) (mset M 14).length c'] (eT (mset M 14)) from fun n => by
          unfold eT; rw [if_neg h1]; exact repB_own hne OW.out)
        clear ow OW htk hk hlen hle hsz hmx hcap hg
        have z8 := One.step bw (below1 wr (.cells #[.int .i64 4, .int .i64 0, .slice (some ⟨g, 0, none⟩) (mset M 14).length c'] 24))
        obtain ⟨c0, c1, c2⟩ := z8.c
        have fz := z8.f
        have BB := below1 wr (.cells #[.int .i64 4, .int .i64 0, .slice (some ⟨g, 0, none⟩) (mset M 14).length c'] 24)
        have RR : RepB (wr.alloc (.cells #[.int .i64 4, .int .i64 0, .slice (some ⟨g, 0, none⟩) (mset M 14).length c'] 24)) (w.heap.size + 1) 3 [.int .i64 4, .int .i64 0, .slice (some ⟨g, 0, none⟩) (mset M 14).length c'] (eT (mset M 14)) := RepB.below BB (HT.out _)
        have R3 := Lib.hid fun x y z => repB_set3 x y z RR
        clear BB RR HT
        go_wp2_with fail
        exact bodyPost_ret (v := .agg #[.int .i64 4, .int .i64 0, .slice (some ⟨g, 0, none⟩) (mset M 14).length c']) (by simp [results, Tryz.results43, go_sem, World.cell?_setCell_same, World.cell?_setCell_other, c0, c1, c2]) rfl ⟨_, _, _, rfl, R3.out _ _ _, ((z8.below.setCell (Nat.le_refl _) _).setCell (Nat.le_refl _) _).setCell (Nat.le_refl _) _⟩
set_option maxRecDepth 100000 in
set_option maxHeartbeats 2000000 in
theorem of0 (w : World) : Calls Tryz.prog 43 #[.int .u32 0] w fun e w' => ∃ v0 v1 v2, e = .returned (.agg #[v0, v1, v2]) ∧ RepB w' w.heap.size 3 [v0, v1, v2] (wn 5 [wa, wn 6 [wa]]) ∧ Below w.heap.size w w' := by
  go_enter Tryz.func43, Tryz.ntmps43
  go_wp2_with fail
  refine bodyPost_ret (v := .agg #[.int .i64 5, .int .i64 0, .slice (some ⟨w.heap.size + 1 + 1 + 1, 0, none⟩) 2 2]) (by simp [results, Tryz.results43, go_sem]) rfl ⟨_, _, _, rfl, ?_, below4 w _ _ _ _⟩
  exact repB_two (by omega) (hp_new _ _ _ (by simp)) (repB_wa _ _ _) (repB_one (by omega) (hp_old (hp_old (hp_new _ _ (w.heap.size + 1) (by simp)))) (repB_wa _ _ _))

theorem of_bits (X : Nat) (hX : X < 16384) (w : World) : Calls Tryz.prog 43 #[.int .u32 (X : Int)] w fun e w' => ∃ v0 v1 v2, e = .returned (.agg #[v0, v1, v2]) ∧ RepB w' w.heap.size 3 [v0, v1, v2] (pT X) ∧ Below w.heap.size w w' := by
  unfold pT
  by_cases h0 : X = 0
  · subst h0; exact of0 w
  · rw [if_neg h0]
    by_cases h1 : X / 2 ^ 11 % 2 = 1
    · by_cases h2 : X / 2 ^ 12 % 2 = 1
      · rw [if_neg (fun h => h.2 h2)]; exact of11 X hX h0 h1 h2 w
      · rw [if_pos ⟨h1, h2⟩]; exact of10 X hX h0 h1 (by omega) w
    · rw [if_neg (fun h => h1 h.1)]
      by_cases h2 : X / 2 ^ 12 % 2 = 1
      · exact of01 X hX h0 (by omega) h2 w
      · exact of00 X hX h0 (by omega) (by omega) w

set_option maxRecDepth 100000 in
set_option maxHeartbeats 2000000 in
theorem plainR (n : Nat) (t : Wt n) (v0 v1 v2 : Value) (w : World) (hr : RepW w n [v0, v1, v2] t) (hg : wgt n t = true) :
    Calls Tryz.prog 23 #[.agg #[v0, v1, v2]] w fun e w' => ∃ x0 x1 x2, e = .returned (.agg #[x0, x1, x2]) ∧ RepB w' w.heap.size 3 [x0, x1, x2] (pT (kset (evk n t) 14)) ∧ Below w.heap.size w w' := by
  obtain ⟨o, m, wd, wl, wc, rfl, rfl, rfl⟩ := repW_shape hr
  have hb0 := Tw.start w (.int .i64 o) (.int .i64 m) (.slice wd wl wc) (.int .i64 0) (.int .i64 0) (.slice none 0 0)
  have HK := Lib.hid (refKinds_any n t _ _ _ _ (RepW.below hb0.below n _ _ hr) hg)
  have hX := kset_lt (evk n t) 14
  have HP := Lib.hid (of_bits (kset (evk n t) 14) hX)
  generalize kset (evk n t) 14 = X at HK HP
  clear hr hg hX
  obtain ⟨⟨c0, c1, c2⟩, d0, d1, d2⟩ := hb0.c
  go_enter Tryz.func23, Tryz.ntmps23
  go_wp2_with fail
  refine HK.out.mono ?_
  rintro e w1 ⟨rfl, b1⟩
  go_wp2_with fail
  refine (HP.out _).mono ?_
  rintro e w2 ⟨v0, v1, v2, rfl, R1, b2⟩
  obtain ⟨o', m', ad, len, cap, rfl, rfl, rfl⟩ := repB_shape R1
  have T2 := (hb0.step b1).step b2
  clear c0 c1 c2 d0 d1 d2
  obtain ⟨-, c0, c1, c2⟩ := T2.c
  have fz := T2.f
  have s1 : w.heap.size + 2 ≤ w1.heap.size := by have := b1.size; simp at this; omega
  have R2 : RepB w2 (w.heap.size + 1 + 1) 3 [.int .i64 o', .int .i64 m', .slice ad len cap] (pT X) := RepB.mono (by omega) _ _ _ R1
  have R3 := Lib.hid fun x y z => RepB.mono (Nat.le_succ _) _ _ _ (repB_set3 x y z R2)
  clear R1 R2 b1 b2
  go_wp2_with fail
  exact bodyPost_ret (v := .agg #[.int .i64 o', .int .i64 m', .slice ad len cap]) (by simp [results, Tryz.results23, go_sem, World.cell?_setCell_same, World.cell?_setCell_other, c0, c1, c2]) rfl ⟨_, _, _, rfl, R3.out _ _ _, ((T2.below.setCell (by show w.heap.size ≤ w.heap.size + 1; omega) _).setCell (by show w.heap.size ≤ w.heap.size + 1; omega) _).setCell (by show w.heap.size ≤ w.heap.size + 1; omega) _⟩
end Go.Proofs.YtokiaolgdkikiaaGreat
