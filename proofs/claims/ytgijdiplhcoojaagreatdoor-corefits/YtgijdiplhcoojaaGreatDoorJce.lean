/- The document's Group of a list of valid values: each one's place, or the fault of a value that is no key; the conditions: the list's trees in memory and valid, not too many. -/
import Derived.Test.YtgijdiplhcoojaaGreatDoorXGroup
import Derived.Test.YtgijdiplhcoojaaGreatDoorJcd
import Derived.Test.YtgijdiplhcoojaaGreatDoorJba
import Derived.Test.YtgijdiplhcoojaaGreatDoorJbg
import Derived.Test.YtgijdiplhcoojaaGreatDoorJca
namespace Go.Proofs.YtgijdiplhcoojaaGreatDoor.Dt
open Go.RowKit

set_option maxRecDepth 100000 in
set_option maxHeartbeats 4000000 in
theorem rgroup_any (ts : List (Tr 16)) (ad : Option Addr) (cap : Nat) (w : World) (hn : ts.length ≤ 2199023255551) (hrg : ∀ t ∈ ts, rgt 16 t = true)
    (hk : (ts = [] ∨ ∃ g o, ad = some ⟨g, o, none⟩ ∧ ∀ (j : Nat) (t' : Tr 16), ts[j]? = some t' → ∃ v0 v1 v2 v3 v4, w.cell? ⟨g, o + j * 5, none⟩ = some v0 ∧ w.cell? ⟨g, o + j * 5 + 1, none⟩ = some v1 ∧ w.cell? ⟨g, o + j * 5 + 2, none⟩ = some v2 ∧ w.cell? ⟨g, o + j * 5 + 3, none⟩ = some v3 ∧ w.cell? ⟨g, o + j * 5 + 4, none⟩ = some v4 ∧ Rep w 16 [v0, v1, v2, v3, v4] t')) :
    Calls Tryz.prog 21 #[.slice ad ts.length cap] w fun e w' =>
      ((∀ t ∈ ts, keyT 16 t = true) → ∃ sl, e = .returned (.tuple #[sl, .int .i64 0]) ∧ w'.ownsRow w.heap.size 3 1 sl ts.length (plc ts ts.length)) ∧ ((∃ t ∈ ts, keyT 16 t = false) → e = .returned (.tuple #[.slice none 0 0, .int .i64 11])) ∧ Below w.heap.size w w' := by
  obtain ⟨i0, hi, hz0, hz1, hz2⟩ := infoInt_parts
  have HK := Lib.hid hk
  have HR := Lib.hid hrg
  clear hk hrg
  go_enter Tryz.func21, Tryz.ntmps21
  go_wp2_with fail
  go_loopw [4, 12] (fun so si wr => ∃ (j : Nat) (a' : Option Addr) (l' c' : Nat), so = .slice a' l' c' ∧ si = .int .i64 j ∧ j ≤ ts.length ∧ wr.ownsRow w.heap.size 3 1 (.slice a' l' c') j (plc ts j) ∧ Below w.heap.size w wr ∧ ∀ k t, k < j → ts[k]? = some t → keyT 16 t = true) (fun _ si _ => ts.length - (intOf si).toNat)
  case atStart => exact ⟨0, none, 0, 0, rfl, rfl, Nat.zero_le _, World.ownsRow_nil _ _ _ _, Below.refl _ _, fun k _ hk => absurd hk (Nat.not_lt_zero _)⟩
  case round =>
    obtain ⟨j, a', l', c', rfl, rfl, hj, ow, bw, hkeys⟩ := hrel
    have HY := Lib.hid hkeys
    clear hkeys
    have HO := Lib.hid ow
    clear ow
    by_cases hlt : j < ts.length
    · have hne : ts ≠ [] := by intro e; rw [e] at hlt; exact absurd hlt (Nat.not_lt_zero _)
      rcases HK.out with hk | ⟨g, o, hk1, hk2⟩
      · exact absurd hk hne
      subst hk1
      have HK2 := Lib.hid hk2
      obtain ⟨v0, v1, v2, v3, v4, e0, e1, e2, e3, e4, rk⟩ := hk2 j _ (List.getElem?_eq_getElem hlt)
      clear hk2
      have hg : g < w.heap.size := World.block_lt_of_cell? w _ e0
      have y0 := (bw.cell (p := ⟨g, o + j * 5, none⟩) hg).trans e0
      have y1 := (bw.cell (p := ⟨g, o + j * 5 + 1, none⟩) hg).trans e1
      have y2 := (bw.cell (p := ⟨g, o + j * 5 + 2, none⟩) hg).trans e2
      have y3 := (bw.cell (p := ⟨g, o + j * 5 + 3, none⟩) hg).trans e3
      have y4 := (bw.cell (p := ⟨g, o + j * 5 + 4, none⟩) hg).trans e4
      have KJ : Hid (∀ w' : World, Below w.heap.size w w' → w'.cell? ⟨g, o + j * 5, none⟩ = some v0 ∧ w'.cell? ⟨g, o + j * 5 + 1, none⟩ = some v1 ∧ w'.cell? ⟨g, o + j * 5 + 2, none⟩ = some v2 ∧ w'.cell? ⟨g, o + j * 5 + 3, none⟩ = some v3 ∧ w'.cell? ⟨g, o + j * 5 + 4, none⟩ = some v4) := fun w' h => ⟨(h.cell (p := ⟨g, o + j * 5, none⟩) hg).trans e0, (h.cell (p := ⟨g, o + j * 5 + 1, none⟩) hg).trans e1, (h.cell (p := ⟨g, o + j * 5 + 2, none⟩) hg).trans e2, (h.cell (p := ⟨g, o + j * 5 + 3, none⟩) hg).trans e3, (h.cell (p := ⟨g, o + j * 5 + 4, none⟩) hg).trans e4⟩
      clear e0 e1 e2 e3 e4
      have RJ := Lib.hid rk
      have htj : ts[j]? = some ts[j] := List.getElem?_eq_getElem hlt
      have HJ := Lib.hid htj
      clear rk htj
      go_wp2_with fail
      refine (rkey_any 16 ts[j] _ _ _ _ _ wr (HR.out _ (List.getElem_mem hlt)) (Rep.below bw 16 _ _ RJ.out)).mono ?_
      rintro e w1 ⟨rfl, b1⟩
      have B1 := bw.trans (b1.mono bw.size)
      have O1 := Lib.hid (own_below HO.out b1)
      clear y0 y1 y2 y3 y4 HO
      cases hkt : keyT 16 ts[j] with
      | false =>
        have HF : Hid (∃ t, t ∈ ts ∧ keyT 16 t = false) := ⟨_, List.getElem_mem hlt, hkt⟩
        clear hkt
        go_wp2_with fail
        go_ret2
        exact ⟨fun h => (by obtain ⟨t, t1, t2⟩ := HF.out; rw [h t t1] at t2; cases t2), fun _ => rfl, B1⟩
      | true =>
        have HY' : Hid (∀ k t, k < j + 1 → ts[k]? = some t → keyT 16 t = true) := fun k t hk ht => by
          by_cases e : k = j
          · subst e; rw [HJ.out] at ht; rw [← Option.some.inj ht]; exact hkt
          · exact HY.out k t (by omega) ht
        clear hkt
        go_wp2_with fail
        go_loopw [6, 7] (fun sa sk wq => ∃ (m at' : Nat), sk = .int .i64 ((m : Int) - 1) ∧ sa = .int .i64 at' ∧ m ≤ j ∧ down (fun k => eqB ts k j) m at' = refAt ts j ∧ Below w1.heap.size w1 wq) (fun _ sk _ => (intOf sk + 1).toNat)
        case atStart => exact ⟨j, j, by go_num, rfl, Nat.le_refl _, rfl, Below.refl _ _⟩
        case round =>
          obtain ⟨m, at', rfl, rfl, hm, hd, bq⟩ := hrel
          have HD := Lib.hid hd
          have BQ := B1.trans (bq.mono B1.size)
          clear hd
          cases m with
          | zero =>
            have hd0 : at' = refAt ts j := HD.out
            have HE := Lib.hid hd0
            clear hd0
            have o3 := own_below O1.out bq
            have HO3 := Lib.hid o3
            go_wp2_with (at_builtin; refine wpList_append_lies _ rfl _ _ 42 rfl w.heap.size 3 i0 (.int .i64 0) 1 8 Tryz.underlying42 hi hz0 hz1 hz2 rfl (by decide) (.slice a' l' c') j (plc ts j) rfl (o3.alloc _) ⟨wr.heap.size, 0, none⟩ 1 1 [.int .i64 at'] rfl rfl ?hnews ?h1 (by decide) ?h63 ?hby ?hbase _ rfl ?next)
            case hnews => intro a b hab; exact World.news_of_block (heap_alloc_new wr _) a b (by simpa using hab)
            case h1 => intro a ha; simp at ha; subst ha; rfl
            case h63 => unfold maxLen; omega
            case hby => omega
            case hbase => have := BQ.size; simp; omega
            intro g' cap2 w4 own4 gr4 at4 lt4
            have B4 : Below w.heap.size w w4 := (BQ.alloc BQ.size _).grown gr4 (by have := BQ.size; simp; omega) (fun k hk => by
              rcases HO3.out.2 with ⟨e0, -⟩ | ⟨g2, c2, cu, e1, e2, -⟩
              · rw [e0] at hk; cases hk
              · rw [e1] at hk; have := Option.some.inj hk; simp at this; omega)
            have O4 : w4.ownsRow w.heap.size 3 1 (.slice (some ⟨g', 0, none⟩) (j + 1) cap2) (j + 1) (plc ts (j + 1)) := by rw [plc_succ, ← HE.out]; exact own4
            clear own4 gr4 at4 o3
            go_wp2_with fail
            exact ⟨⟨j + 1, _, _, _, rfl, by go_num, by omega, O4, B4, HY'.out⟩, by simp [intOf]; omega⟩
          | succ q =>
            rw [show (((q + 1 : Nat) : Int) - 1) = (q : Int) by omega]
            have hqj : q < j := by omega
            have hql : q < ts.length := by omega
            obtain ⟨x0, x1, x2, x3, x4, f0, f1, f2, f3, f4, rq⟩ := HK2.out q _ (List.getElem?_eq_getElem hql)
            have KS : Hid (∀ w' : World, Below wr.heap.size wr w' → w'.cell? ⟨g, o + q * 5, none⟩ = some x0 ∧ w'.cell? ⟨g, o + q * 5 + 1, none⟩ = some x1 ∧ w'.cell? ⟨g, o + q * 5 + 2, none⟩ = some x2 ∧ w'.cell? ⟨g, o + q * 5 + 3, none⟩ = some x3 ∧ w'.cell? ⟨g, o + q * 5 + 4, none⟩ = some x4 ∧ w'.cell? ⟨g, o + j * 5, none⟩ = some v0 ∧ w'.cell? ⟨g, o + j * 5 + 1, none⟩ = some v1 ∧ w'.cell? ⟨g, o + j * 5 + 2, none⟩ = some v2 ∧ w'.cell? ⟨g, o + j * 5 + 3, none⟩ = some v3 ∧ w'.cell? ⟨g, o + j * 5 + 4, none⟩ = some v4) := fun w' h => by
              have hw := BQ.trans (h.mono BQ.size)
              obtain ⟨a0, a1, a2, a3, a4⟩ := KJ.out w' hw
              exact ⟨(hw.cell (p := ⟨g, o + q * 5, none⟩) hg).trans f0, (hw.cell (p := ⟨g, o + q * 5 + 1, none⟩) hg).trans f1, (hw.cell (p := ⟨g, o + q * 5 + 2, none⟩) hg).trans f2, (hw.cell (p := ⟨g, o + q * 5 + 3, none⟩) hg).trans f3, (hw.cell (p := ⟨g, o + q * 5 + 4, none⟩) hg).trans f4, a0, a1, a2, a3, a4⟩
            have KC : Hid (Calls Tryz.prog 36 #[.agg #[x0, x1, x2, x3, x4], .agg #[v0, v1, v2, v3, v4]] wr.drew fun e w' => e = .returned (.tuple #[.bool (eqT 16 16 ts[q] ts[j]).1, .int .i64 (eqT 16 16 ts[q] ts[j]).2]) ∧ Below wr.heap.size wr w') :=
              (requal_any 16 16 ts[q] ts[j] _ _ _ _ _ _ _ _ _ _ wr.drew (HR.out _ (List.getElem_mem hql)) (HR.out _ (List.getElem_mem hlt)) (Rep.below BQ.drew 16 _ _ rq) (Rep.below BQ.drew 16 _ _ RJ.out)).mono fun e w' ⟨he, hb⟩ => ⟨he, (Below.drew (Below.refl _ wr)).trans hb⟩
            have hdn : Hid (down (fun k => eqB ts k j) q (if (eqT 16 16 ts[q] ts[j]).1 = true then q else at') = refAt ts j) := by
              have e : eqB ts q j = (eqT 16 16 ts[q] ts[j]).1 := by simp [eqB, List.getElem?_eq_getElem hql, HJ.out]
              rw [← e]; exact HD.out
            generalize eqT 16 16 ts[q] ts[j] = R at KC hdn
            obtain ⟨sm', code⟩ := R
            have hqi : (0 : Int) ≤ q := by omega
            have hqi2 : (q : Int) < ts.length := by omega
            have hji : (0 : Int) ≤ j := by omega
            have hji2 : (j : Int) < ts.length := by omega
            clear f0 f1 f2 f3 f4 rq HD
            go_wp2_with fail
            go_region_held3 (fun w' => w'.cell? ⟨g, o + q * 5, none⟩ = some x0 ∧ w'.cell? ⟨g, o + q * 5 + 1, none⟩ = some x1 ∧ w'.cell? ⟨g, o + q * 5 + 2, none⟩ = some x2 ∧ w'.cell? ⟨g, o + q * 5 + 3, none⟩ = some x3 ∧ w'.cell? ⟨g, o + q * 5 + 4, none⟩ = some x4 ∧ w'.cell? ⟨g, o + j * 5, none⟩ = some v0 ∧ w'.cell? ⟨g, o + j * 5 + 1, none⟩ = some v1 ∧ w'.cell? ⟨g, o + j * 5 + 2, none⟩ = some v2 ∧ w'.cell? ⟨g, o + j * 5 + 3, none⟩ = some v3 ∧ w'.cell? ⟨g, o + j * 5 + 4, none⟩ = some v4) (first | (refine KS.out _ ?_; with_reducible assumption) | exact KS.out _ (Below.drew (Below.refl _ _))) ((go_at_call 36; refine KC.out.mono ?_; rintro e w2 ⟨rfl, b2⟩))
            cases sm' with
            | false =>
              go_wp2_with fail
              exact ⟨⟨q, at', rfl, rfl, by omega, hdn.out, bq.trans (b2.mono bq.size)⟩, by simp [intOf]⟩
            | true =>
              go_wp2_with fail
              exact ⟨⟨q, q, rfl, rfl, by omega, hdn.out, bq.trans (b2.mono bq.size)⟩, by simp [intOf]⟩
    · have hje : j = ts.length := by omega
      subst hje
      have HL : Hid (∀ t ∈ ts, keyT 16 t = true) := fun t ht => by
        obtain ⟨k, hk, rfl⟩ := List.getElem_of_mem ht
        exact HY.out k _ hk (List.getElem?_eq_getElem hk)
      go_wp2_with fail
      go_ret2
      exact ⟨fun _ => ⟨_, rfl, HO.out⟩, fun ⟨t, t1, t2⟩ => (by rw [HL.out t t1] at t2; cases t2), bw⟩
end Go.Proofs.YtgijdiplhcoojaaGreatDoor.Dt
/- The law's look at a list: it returns, and where it says true all are valid and they are not too many; and valid trees cut to depth 16; the conditions: the list's trees in memory. -/
namespace Go.Proofs.YtgijdiplhcoojaaGreatDoor.Dt
open Go.RowKit
theorem cut_one (n : Nat) (t : Tr n) (h : vB n t = true) : ∃ t' : Tr 16, rgt 16 t' = true ∧ (pts 16 t').1 ≤ 4096 ∧ ∀ w cs, Rep w n cs t → Rep w 16 cs t' := by
  have S := say 16 n t 1 4096 (by decide) (by decide) (by decide)
  obtain ⟨hr, hC, -⟩ := S.down h
  obtain ⟨f1, f2, f3, f4, f5⟩ := S.fit hC
  obtain ⟨t', e1, e2, e3⟩ := shrink 16 n t (by rw [f1]; show (cnt 16 n t 1 4096).2 - 1 + 1 ≤ ((16 : Nat) : Int); omega)
  exact ⟨t', e1.trans hr, by rw [e2, f1]; exact f3, e3⟩
theorem cut_all (n : Nat) (ts : List (Tr n)) (h : ∀ t ∈ ts, vB n t = true) (ad : Option Addr) (w : World) (hk : (ts = [] ∨ ∃ g o, ad = some ⟨g, o, none⟩ ∧ ∀ (j : Nat) (t' : Tr n), ts[j]? = some t' → ∃ v0 v1 v2 v3 v4, w.cell? ⟨g, o + j * 5, none⟩ = some v0 ∧ w.cell? ⟨g, o + j * 5 + 1, none⟩ = some v1 ∧ w.cell? ⟨g, o + j * 5 + 2, none⟩ = some v2 ∧ w.cell? ⟨g, o + j * 5 + 3, none⟩ = some v3 ∧ w.cell? ⟨g, o + j * 5 + 4, none⟩ = some v4 ∧ Rep w n [v0, v1, v2, v3, v4] t')) :
    ∃ us : List (Tr 16), us.length = ts.length ∧ (∀ u ∈ us, rgt 16 u = true) ∧ (∀ u ∈ us, (pts 16 u).1 ≤ 4096) ∧ (us = [] ∨ ∃ g o, ad = some ⟨g, o, none⟩ ∧ ∀ (j : Nat) (t' : Tr 16), us[j]? = some t' → ∃ v0 v1 v2 v3 v4, w.cell? ⟨g, o + j * 5, none⟩ = some v0 ∧ w.cell? ⟨g, o + j * 5 + 1, none⟩ = some v1 ∧ w.cell? ⟨g, o + j * 5 + 2, none⟩ = some v2 ∧ w.cell? ⟨g, o + j * 5 + 3, none⟩ = some v3 ∧ w.cell? ⟨g, o + j * 5 + 4, none⟩ = some v4 ∧ Rep w 16 [v0, v1, v2, v3, v4] t') := by
  obtain ⟨us, hl, hp⟩ := list_at (fun i (u : Tr 16) => rgt 16 u = true ∧ (pts 16 u).1 ≤ 4096 ∧ ∀ t, ts[i]? = some t → ∀ w cs, Rep w n cs t → Rep w 16 cs u) ts.length (fun i hi => by
    obtain ⟨u, u1, u2, u3⟩ := cut_one n ts[i] (h _ (List.getElem_mem hi))
    refine ⟨u, u1, u2, fun t ht => ?_⟩
    rw [List.getElem?_eq_getElem hi] at ht
    rw [← Option.some.inj ht]; exact u3)
  have mem : ∀ u ∈ us, rgt 16 u = true ∧ (pts 16 u).1 ≤ 4096 := fun u hu => by
    obtain ⟨k, hk, rfl⟩ := List.getElem_of_mem hu
    have := hp k _ (List.getElem?_eq_getElem hk)
    exact ⟨this.1, this.2.1⟩
  refine ⟨us, hl, fun u hu => (mem u hu).1, fun u hu => (mem u hu).2, ?_⟩
  rcases hk with rfl | ⟨g, o, h1, h2⟩
  · exact .inl (List.length_eq_zero_iff.1 hl)
  · refine .inr ⟨g, o, h1, fun j u hj => ?_⟩
    have hlt : j < ts.length := by have := (List.getElem?_eq_some_iff.1 hj).1; omega
    obtain ⟨v0, v1, v2, v3, v4, c0, c1, c2, c3, c4, r⟩ := h2 j _ (List.getElem?_eq_getElem hlt)
    exact ⟨v0, v1, v2, v3, v4, c0, c1, c2, c3, c4, (hp j u hj).2.2 _ (List.getElem?_eq_getElem hlt) w _ r⟩
end Go.Proofs.YtgijdiplhcoojaaGreatDoor.Dt
/- The package's Fit and the document's give one answer at every state in memory; what is so where it is yes; the conditions: the state in memory, the table of fields as the text lays it. -/
namespace Go.Proofs.YtgijdiplhcoojaaGreatDoor.Dt
open Go.RowKit

def keysB (us : List (Tr 16)) : Bool := us.all (keyT 16)
theorem gr_own : GrOf 34 keysB (fun us => plc us us.length) := fun us ad cap w hn hr hp hk => (group_any us ad cap w hn hr hp hk).mono fun e w' ⟨h1, h2, h3⟩ =>
  ⟨fun h => h1 (by simpa [keysB] using h), fun h => h2 (by simpa [keysB] using h), h3⟩
theorem gr_doc : GrOf 21 keysB (fun us => plc us us.length) := fun us ad cap w hn hr hp hk => (rgroup_any us ad cap w hn hr hk).mono fun e w' ⟨h1, h2, h3⟩ =>
  ⟨fun h => h1 (by simpa [keysB] using h), fun h => h2 (by simpa [keysB] using h), h3⟩

/-- A state's trees as a fit one has them: right, small, apart as keys. -/
structure FitT (w : World) (l : Tr 16) (us : List (Tr 16)) (k i u : Int) (s : ByteArray) (a : Option Addr) (len cap : Nat) (la : Option Addr) (lc : Nat) : Prop where
  m : StR w 16 l us k i u s a len cap la lc
  lr : rgt 16 l = true ∧ (pts 16 l).1 ≤ 4096
  ur : ∀ u ∈ us, rgt 16 u = true ∧ (pts 16 u).1 ≤ 4096

theorem fit_both (n : Nat) (cn ac un k i u : Int) (s : ByteArray) (a : Option Addr) (len cap : Nat) (la : Option Addr) (lc : Nat) (cl : Bool) (l : Tr n) (ts : List (Tr n)) (w : World) (hS : StR w n l ts k i u s a len cap la lc) (hT : Tab14 w) :
    ∃ R, (∀ wx, Below w.heap.size w wx → Calls Tryz.prog 5 #[.agg #[.int .i64 cn, .int .i64 ac, .int .i64 k, .int .i64 i, .int .u64 u, .string s, .slice a len cap, .slice la ts.length lc, .bool cl, .int .i64 un]] wx fun e w' => e = .returned (.bool R) ∧ Below wx.heap.size wx w') ∧
      (∀ wx, Below w.heap.size w wx → Calls Tryz.prog 6 #[.agg #[.int .i64 cn, .int .i64 ac, .int .i64 k, .int .i64 i, .int .u64 u, .string s, .slice a len cap, .slice la ts.length lc, .bool cl, .int .i64 un]] wx fun e w' => e = .returned (.bool R) ∧ Below wx.heap.size wx w') ∧
      (R = true → cok cn ac un = true ∧ ∃ l' us, us.length = ts.length ∧ FitT w l' us k i u s a len cap la lc) := by
  by_cases hall : ∀ t ∈ ts, vB n t = true
  · obtain ⟨us, hl, hr, hp, hk⟩ := cut_all n ts hall la w hS.list
    refine ⟨cok cn ac un && (vB n l && (keysB us && decide (∀ k, k < us.length → refAt us k = k))), fun wx hb => ?_, fun wx hb => ?_, fun hR => ?_⟩
    · have h := fit_by cn ac un k i u s a len cap la ts.length lc cl _ _ _ (vB n l) (keysB us && decide (∀ k, k < us.length → refAt us k = k)) wx rfl rfl rfl (fun wy hy => ownValid n l _ _ _ _ _ wy (Rep.below hy n _ _ (Rep.below hb n _ _ hS.last)) ((hT.below hb).below hy))
        (fun wy hy => areKeys_yes n (fun t v0 v1 v2 v3 v4 w h h' => ownValid n t v0 v1 v2 v3 v4 w h h') keysB (fun us => plc us us.length) refAt (fun _ => rfl) gr_own ts us hl la lc wy hS.lt ((hS.list.below hb).below hy) ((Rl.below hk hb).below hy) hr hp ((hT.below hb).below hy) hall)
      exact h.mono fun e w' ⟨he, hb'⟩ => ⟨by rw [he]; simp only [cok, Bool.and_assoc], hb'⟩
    · cases hc : cok cn ac un with
      | false => exact (rfit_count cn ac un k i u s a len cap la ts.length lc cl wx hc).mono fun e w' ⟨he, hb'⟩ => ⟨by rw [he]; rfl, hb'⟩
      | true =>
        refine rfit_rest n cn ac un k i u s a len cap la lc cl l ts wx hc (hS.below hb) _ (fun h => by rw [h]; rfl) (fun ⟨t, ht, hv⟩ => by rw [hall t ht] at hv; cases hv) keysB (fun us => plc us us.length) refAt (fun _ => rfl) gr_doc us fun h1 _ => ⟨hl, Rl.below hk hb, hr, hp, by rw [h1]; rfl⟩
    · simp only [Bool.and_eq_true] at hR
      obtain ⟨h1, h2, -⟩ := hR
      obtain ⟨l', q1, q2, q3⟩ := cut_one n l h2
      exact ⟨h1, l', us, hl, ⟨q3 _ _ hS.last, hk, by rw [hl]; exact hS.lt, by rw [hl]; exact hS.cap⟩, ⟨q1, q2⟩, fun x hx => ⟨hr x hx, hp x hx⟩⟩
  · have hbad : ∃ t ∈ ts, vB n t = false := by
      apply Classical.byContradiction
      intro hc
      exact hall fun t ht => by
        cases hv : vB n t with
        | true => rfl
        | false => exact absurd ⟨t, ht, hv⟩ hc
    refine ⟨false, fun wx hb => ?_, fun wx hb => ?_, fun h => by cases h⟩
    · have h := fit_by cn ac un k i u s a len cap la ts.length lc cl _ _ _ (vB n l) false wx rfl rfl rfl (fun wy hy => ownValid n l _ _ _ _ _ wy (Rep.below hy n _ _ (Rep.below hb n _ _ hS.last)) ((hT.below hb).below hy))
        (fun wy hy => areKeys_no n (fun t v0 v1 v2 v3 v4 w h h' => ownValid n t v0 v1 v2 v3 v4 w h h') ts la lc wy hS.lt ((hS.list.below hb).below hy) ((hT.below hb).below hy) hbad)
      exact h.mono fun e w' ⟨he, hb'⟩ => ⟨by rw [he]; simp, hb'⟩
    · cases hc : cok cn ac un with
      | false => exact rfit_count cn ac un k i u s a len cap la ts.length lc cl wx hc
      | true =>
        exact rfit_rest n cn ac un k i u s a len cap la lc cl l ts wx hc (hS.below hb) false (fun _ => rfl) (fun _ => rfl) keysB (fun us => plc us us.length) refAt (fun _ => rfl) gr_doc [] fun _ h => by
          obtain ⟨t, ht, hv⟩ := hbad
          rw [h t ht] at hv; cases hv
end Go.Proofs.YtgijdiplhcoojaaGreatDoor.Dt
