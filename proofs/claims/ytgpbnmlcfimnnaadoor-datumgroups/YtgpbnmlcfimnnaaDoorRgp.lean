/- The document's Group of a list of valid values: each one's place, or the fault of a value that is no key; the conditions: the list's trees in memory and valid, not too many. -/
import Derived.Test.YtgpbnmlcfimnnaaDoorGroup
import Derived.Test.YtgpbnmlcfimnnaaDoorRkey
import Derived.Test.YtgpbnmlcfimnnaaDoorReq
namespace Go.Proofs.YtgpbnmlcfimnnaaDoor
open Go.RowKit

set_option maxRecDepth 100000 in
set_option maxHeartbeats 4000000 in
theorem rgroup_any (ts : List (Tr 16)) (ad : Option Addr) (cap : Nat) (w : World) (hn : ts.length ≤ 65536) (hrg : ∀ t ∈ ts, rgt 16 t = true)
    (hk : (ts = [] ∨ ∃ g o, ad = some ⟨g, o, none⟩ ∧ ∀ (j : Nat) (t' : Tr 16), ts[j]? = some t' → ∃ v0 v1 v2 v3 v4, w.cell? ⟨g, o + j * 5, none⟩ = some v0 ∧ w.cell? ⟨g, o + j * 5 + 1, none⟩ = some v1 ∧ w.cell? ⟨g, o + j * 5 + 2, none⟩ = some v2 ∧ w.cell? ⟨g, o + j * 5 + 3, none⟩ = some v3 ∧ w.cell? ⟨g, o + j * 5 + 4, none⟩ = some v4 ∧ Rep w 16 [v0, v1, v2, v3, v4] t')) :
    Calls Tryd.prog 20 #[.slice ad ts.length cap] w fun e w' =>
      ((∀ t ∈ ts, keyT 16 t = true) → ∃ sl, e = .returned (.tuple #[sl, .int .i64 0]) ∧ w'.ownsRow w.heap.size 3 1 sl ts.length (plc ts ts.length)) ∧ ((∃ t ∈ ts, keyT 16 t = false) → e = .returned (.tuple #[.slice none 0 0, .int .i64 11])) ∧ Below w.heap.size w w' := by
  obtain ⟨i0, hi, hz0, hz1, hz2⟩ := infoInt_parts
  have HK := Lib.hid hk
  have HR := Lib.hid hrg
  clear hk hrg
  go_enter Tryd.func20, Tryd.ntmps20
  go_wp2_with fail
  go_loopw [4, 12] (fun so si wr => ∃ (j : Nat) (a' : Option Addr) (l' c' : Nat), so = .slice a' l' c' ∧ si = .int .i64 j ∧ j ≤ ts.length ∧ wr.ownsRow w.heap.size 3 1 (.slice a' l' c') j (plc ts j) ∧ Below w.heap.size w wr ∧ ∀ k t, k < j → ts[k]? = some t → keyT 16 t = true) (fun _ si _ => ts.length - (intOf si).toNat)
  case atStart => exact ⟨0, none, 0, 0, rfl, rfl, Nat.zero_le _, World.ownsRow_nil _ _ _ _, Below.refl _ _, fun k _ hk => absurd hk (Nat.not_lt_zero _)⟩
  case round =>
    obtain ⟨j, a', l', c', rfl, rfl, hj, ow, bw, hkeys⟩ := hrel
    have HY := Lib.hid hkeys
    clear hkeys
    have HO := Lib.hid ow
    clear ow
    by_cases hlt : j < ts.length
    · have hne : ts ≠ [] := by intro e; rw [e] at hlt; exact absurd hlt (Nat.not_lt_zero _)
      rcases HK.out with hk | ⟨g, o, hk1, hk2⟩
      · exact absurd hk hne
      subst hk1
      have HK2 := Lib.hid hk2
      obtain ⟨v0, v1, v2, v3, v4, e0, e1, e2, e3, e4, rk⟩ := hk2 j _ (List.getElem?_eq_getElem hlt)
      clear hk2
      have hg : g < w.heap.size := World.block_lt_of_cell? w _ e0
      have y0 := (bw.cell (p := ⟨g, o + j * 5, none⟩) hg).trans e0
      have y1 := (bw.cell (p := ⟨g, o + j * 5 + 1, none⟩) hg).trans e1
      have y2 := (bw.cell (p := ⟨g, o + j * 5 + 2, none⟩) hg).trans e2
      have y3 := (bw.cell (p := ⟨g, o + j * 5 + 3, none⟩) hg).trans e3
      have y4 := (bw.cell (p := ⟨g, o + j * 5 + 4, none⟩) hg).trans e4
      have KJ : Hid (∀ w' : World, Below w.heap.size w w' → w'.cell? ⟨g, o + j * 5, none⟩ = some v0 ∧ w'.cell? ⟨g, o + j * 5 + 1, none⟩ = some v1 ∧ w'.cell? ⟨g, o + j * 5 + 2, none⟩ = some v2 ∧ w'.cell? ⟨g, o + j * 5 + 3, none⟩ = some v3 ∧ w'.cell? ⟨g, o + j * 5 + 4, none⟩ = some v4) := fun w' h => ⟨(h.cell (p := ⟨g, o + j * 5, none⟩) hg).trans e0, (h.cell (p := ⟨g, o + j * 5 + 1, none⟩) hg).trans e1, (h.cell (p := ⟨g, o + j * 5 + 2, none⟩) hg).trans e2, (h.cell (p := ⟨g, o + j * 5 + 3, none⟩) hg).trans e3, (h.cell (p := ⟨g, o + j * 5 + 4, none⟩) hg).trans e4⟩
      clear e0 e1 e2 e3 e4
      have RJ := Lib.hid rk
      have htj : ts[j]? = some ts[j] := List.getElem?_eq_getElem hlt
      have HJ := Lib.hid htj
      clear rk htj
      go_wp2_with fail
      refine (rkey_any 16 ts[j] _ _ _ _ _ wr (HR.out _ (List.getElem_mem hlt)) (Rep.below bw 16 _ _ RJ.out)).mono ?_
      rintro e w1 ⟨rfl, b1⟩
      have B1 := bw.trans (b1.mono bw.size)
      have O1 := Lib.hid (own_below HO.out b1)
      clear y0 y1 y2 y3 y4 HO
      cases hkt : keyT 16 ts[j] with
      | false =>
        have HF : Hid (∃ t, t ∈ ts ∧ keyT 16 t = false) := ⟨_, List.getElem_mem hlt, hkt⟩
        clear hkt
        go_wp2_with fail
        go_ret2
        exact ⟨fun h => (by obtain ⟨t, t1, t2⟩ := HF.out; rw [h t t1] at t2; cases t2), fun _ => rfl, B1⟩
      | true =>
        have HY' : Hid (∀ k t, k < j + 1 → ts[k]? = some t → keyT 16 t = true) := fun k t hk ht => by
          by_cases e : k = j
          · subst e; rw [HJ.out] at ht; rw [← Option.some.inj ht]; exact hkt
          · exact HY.out k t (by omega) ht
        clear hkt
        go_wp2_with fail
        go_loopw [6, 7] (fun sa sk wq => ∃ (m at' : Nat), sk = .int .i64 ((m : Int) - 1) ∧ sa = .int .i64 at' ∧ m ≤ j ∧ down (fun k => eqB ts k j) m at' = refAt ts j ∧ Below w1.heap.size w1 wq) (fun _ sk _ => (intOf sk + 1).toNat)
        case atStart => exact ⟨j, j, by go_num, rfl, Nat.le_refl _, rfl, Below.refl _ _⟩
        case round =>
          obtain ⟨m, at', rfl, rfl, hm, hd, bq⟩ := hrel
          have HD := Lib.hid hd
          have BQ := B1.trans (bq.mono B1.size)
          clear hd
          cases m with
          | zero =>
            have hd0 : at' = refAt ts j := HD.out
            have HE := Lib.hid hd0
            clear hd0
            have o3 := own_below O1.out bq
            have HO3 := Lib.hid o3
            go_wp2_with (at_builtin; refine wpList_append_lies _ rfl _ _ 38 rfl w.heap.size 3 i0 (.int .i64 0) 1 8 Tryd.underlying38 hi hz0 hz1 hz2 rfl (by decide) (.slice a' l' c') j (plc ts j) rfl (o3.alloc _) ⟨wr.heap.size, 0, none⟩ 1 1 [.int .i64 at'] rfl rfl ?hnews ?h1 (by decide) ?h63 ?hby ?hbase _ rfl ?next)
            case hnews => intro a b hab; exact World.news_of_block (heap_alloc_new wr _) a b (by simpa using hab)
            case h1 => intro a ha; simp at ha; subst ha; rfl
            case h63 => unfold maxLen; omega
            case hby => omega
            case hbase => have := BQ.size; simp; omega
            intro g' cap2 w4 own4 gr4 at4 lt4
            have B4 : Below w.heap.size w w4 := (BQ.alloc BQ.size _).grown gr4 (by have := BQ.size; simp; omega) (fun k hk => by
              rcases HO3.out.2 with ⟨e0, -⟩ | ⟨g2, c2, cu, e1, e2, -⟩
              · rw [e0] at hk; cases hk
              · rw [e1] at hk; have := Option.some.inj hk; simp at this; omega)
            have O4 : w4.ownsRow w.heap.size 3 1 (.slice (some ⟨g', 0, none⟩) (j + 1) cap2) (j + 1) (plc ts (j + 1)) := by rw [plc_succ, ← HE.out]; exact own4
            clear own4 gr4 at4 o3
            go_wp2_with fail
            exact ⟨⟨j + 1, _, _, _, rfl, by go_num, by omega, O4, B4, HY'.out⟩, by simp [intOf]; omega⟩
          | succ q =>
            rw [show (((q + 1 : Nat) : Int) - 1) = (q : Int) by omega]
            have hqj : q < j := by omega
            have hql : q < ts.length := by omega
            obtain ⟨x0, x1, x2, x3, x4, f0, f1, f2, f3, f4, rq⟩ := HK2.out q _ (List.getElem?_eq_getElem hql)
            have KS : Hid (∀ w' : World, Below wr.heap.size wr w' → w'.cell? ⟨g, o + q * 5, none⟩ = some x0 ∧ w'.cell? ⟨g, o + q * 5 + 1, none⟩ = some x1 ∧ w'.cell? ⟨g, o + q * 5 + 2, none⟩ = some x2 ∧ w'.cell? ⟨g, o + q * 5 + 3, none⟩ = some x3 ∧ w'.cell? ⟨g, o + q * 5 + 4, none⟩ = some x4 ∧ w'.cell? ⟨g, o + j * 5, none⟩ = some v0 ∧ w'.cell? ⟨g, o + j * 5 + 1, none⟩ = some v1 ∧ w'.cell? ⟨g, o + j * 5 + 2, none⟩ = some v2 ∧ w'.cell? ⟨g, o + j * 5 + 3, none⟩ = some v3 ∧ w'.cell? ⟨g, o + j * 5 + 4, none⟩ = some v4) := fun w' h => by
              have hw := BQ.trans (h.mono BQ.size)
              obtain ⟨a0, a1, a2, a3, a4⟩ := KJ.out w' hw
              exact ⟨(hw.cell (p := ⟨g, o + q * 5, none⟩) hg).trans f0, (hw.cell (p := ⟨g, o + q * 5 + 1, none⟩) hg).trans f1, (hw.cell (p := ⟨g, o + q * 5 + 2, none⟩) hg).trans f2, (hw.cell (p := ⟨g, o + q * 5 + 3, none⟩) hg).trans f3, (hw.cell (p := ⟨g, o + q * 5 + 4, none⟩) hg).trans f4, a0, a1, a2, a3, a4⟩
            have KC : Hid (Calls Tryd.prog 15 #[.agg #[x0, x1, x2, x3, x4], .agg #[v0, v1, v2, v3, v4]] wr.drew fun e w' => e = .returned (.tuple #[.bool (eqT 16 16 ts[q] ts[j]).1, .int .i64 (eqT 16 16 ts[q] ts[j]).2]) ∧ Below wr.heap.size wr w') :=
              (requal_any 16 16 ts[q] ts[j] _ _ _ _ _ _ _ _ _ _ wr.drew (HR.out _ (List.getElem_mem hql)) (HR.out _ (List.getElem_mem hlt)) (Rep.below BQ.drew 16 _ _ rq) (Rep.below BQ.drew 16 _ _ RJ.out)).mono fun e w' ⟨he, hb⟩ => ⟨he, (Below.drew (Below.refl _ wr)).trans hb⟩
            have hdn : Hid (down (fun k => eqB ts k j) q (if (eqT 16 16 ts[q] ts[j]).1 = true then q else at') = refAt ts j) := by
              have e : eqB ts q j = (eqT 16 16 ts[q] ts[j]).1 := by simp [eqB, List.getElem?_eq_getElem hql, HJ.out]
              rw [← e]; exact HD.out
            generalize eqT 16 16 ts[q] ts[j] = R at KC hdn
            obtain ⟨sm', code⟩ := R
            have hqi : (0 : Int) ≤ q := by omega
            have hqi2 : (q : Int) < ts.length := by omega
            have hji : (0 : Int) ≤ j := by omega
            have hji2 : (j : Int) < ts.length := by omega
            clear f0 f1 f2 f3 f4 rq HD
            go_wp2_with fail
            go_region_held3 (fun w' => w'.cell? ⟨g, o + q * 5, none⟩ = some x0 ∧ w'.cell? ⟨g, o + q * 5 + 1, none⟩ = some x1 ∧ w'.cell? ⟨g, o + q * 5 + 2, none⟩ = some x2 ∧ w'.cell? ⟨g, o + q * 5 + 3, none⟩ = some x3 ∧ w'.cell? ⟨g, o + q * 5 + 4, none⟩ = some x4 ∧ w'.cell? ⟨g, o + j * 5, none⟩ = some v0 ∧ w'.cell? ⟨g, o + j * 5 + 1, none⟩ = some v1 ∧ w'.cell? ⟨g, o + j * 5 + 2, none⟩ = some v2 ∧ w'.cell? ⟨g, o + j * 5 + 3, none⟩ = some v3 ∧ w'.cell? ⟨g, o + j * 5 + 4, none⟩ = some v4) (first | (refine KS.out _ ?_; with_reducible assumption) | exact KS.out _ (Below.drew (Below.refl _ _))) ((go_at_call 15; refine KC.out.mono ?_; rintro e w2 ⟨rfl, b2⟩))
            cases sm' with
            | false =>
              go_wp2_with fail
              exact ⟨⟨q, at', rfl, rfl, by omega, hdn.out, bq.trans (b2.mono bq.size)⟩, by simp [intOf]⟩
            | true =>
              go_wp2_with fail
              exact ⟨⟨q, q, rfl, rfl, by omega, hdn.out, bq.trans (b2.mono bq.size)⟩, by simp [intOf]⟩
    · have hje : j = ts.length := by omega
      subst hje
      have HL : Hid (∀ t ∈ ts, keyT 16 t = true) := fun t ht => by
        obtain ⟨k, hk, rfl⟩ := List.getElem_of_mem ht
        exact HY.out k _ hk (List.getElem?_eq_getElem hk)
      go_wp2_with fail
      go_ret2
      exact ⟨fun _ => ⟨_, rfl, HO.out⟩, fun ⟨t, t1, t2⟩ => (by rw [HL.out t t1] at t2; cases t2), bw⟩
end Go.Proofs.YtgpbnmlcfimnnaaDoor
