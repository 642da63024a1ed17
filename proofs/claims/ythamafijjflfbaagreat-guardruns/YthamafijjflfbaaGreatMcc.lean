/- The law's look at a list: it returns, and where it says true all are valid and they are not too many; and valid trees cut to depth 16; the conditions: the list's trees in memory. -/
import Derived.Test.YthamafijjflfbaaGreatMaf
import Derived.Test.YthamafijjflfbaaGreatMbi
import Derived.Test.YthamafijjflfbaaGreatMcb
import Derived.Test.YthamafijjflfbaaGreatMbd
namespace Go.Proofs.YthamafijjflfbaaGreat.Dt
open Go.RowKit
theorem cut_one (n : Nat) (t : Tr n) (h : vB n t = true) : ∃ t' : Tr 16, rgt 16 t' = true ∧ (pts 16 t').1 ≤ 4096 ∧ ∀ w cs, Rep w n cs t → Rep w 16 cs t' := by
  have S := say 16 n t 1 4096 (by decide) (by decide) (by decide)
  obtain ⟨hr, hC, -⟩ := S.down h
  obtain ⟨f1, f2, f3, f4, f5⟩ := S.fit hC
  obtain ⟨t', e1, e2, e3⟩ := shrink 16 n t (by rw [f1]; show (cnt 16 n t 1 4096).2 - 1 + 1 ≤ ((16 : Nat) : Int); omega)
  exact ⟨t', e1.trans hr, by rw [e2, f1]; exact f3, e3⟩
theorem cut_all (n : Nat) (ts : List (Tr n)) (h : ∀ t ∈ ts, vB n t = true) (ad : Option Addr) (w : World) (hk : (ts = [] ∨ ∃ g o, ad = some ⟨g, o, none⟩ ∧ ∀ (j : Nat) (t' : Tr n), ts[j]? = some t' → ∃ v0 v1 v2 v3 v4, w.cell? ⟨g, o + j * 5, none⟩ = some v0 ∧ w.cell? ⟨g, o + j * 5 + 1, none⟩ = some v1 ∧ w.cell? ⟨g, o + j * 5 + 2, none⟩ = some v2 ∧ w.cell? ⟨g, o + j * 5 + 3, none⟩ = some v3 ∧ w.cell? ⟨g, o + j * 5 + 4, none⟩ = some v4 ∧ Rep w n [v0, v1, v2, v3, v4] t')) :
    ∃ us : List (Tr 16), us.length = ts.length ∧ (∀ u ∈ us, rgt 16 u = true) ∧ (∀ u ∈ us, (pts 16 u).1 ≤ 4096) ∧ (us = [] ∨ ∃ g o, ad = some ⟨g, o, none⟩ ∧ ∀ (j : Nat) (t' : Tr 16), us[j]? = some t' → ∃ v0 v1 v2 v3 v4, w.cell? ⟨g, o + j * 5, none⟩ = some v0 ∧ w.cell? ⟨g, o + j * 5 + 1, none⟩ = some v1 ∧ w.cell? ⟨g, o + j * 5 + 2, none⟩ = some v2 ∧ w.cell? ⟨g, o + j * 5 + 3, none⟩ = some v3 ∧ w.cell? ⟨g, o + j * 5 + 4, none⟩ = some v4 ∧ Rep w 16 [v0, v1, v2, v3, v4] t') := by
  obtain ⟨us, hl, hp⟩ := list_at (fun i (u : Tr 16) => rgt 16 u = true ∧ (pts 16 u).1 ≤ 4096 ∧ ∀ t, ts[i]? = some t → ∀ w cs, Rep w n cs t → Rep w 16 cs u) ts.length (fun i hi => by
    obtain ⟨u, u1, u2, u3⟩ := cut_one n ts[i] (h _ (List.getElem_mem hi))
    refine ⟨u, u1, u2, fun t ht => ?_⟩
    rw [List.getElem?_eq_getElem hi] at ht
    rw [← Option.some.inj ht]; exact u3)
  have mem : ∀ u ∈ us, rgt 16 u = true ∧ (pts 16 u).1 ≤ 4096 := fun u hu => by
    obtain ⟨k, hk, rfl⟩ := List.getElem_of_mem hu
    have := hp k _ (List.getElem?_eq_getElem hk)
    exact ⟨this.1, this.2.1⟩
  refine ⟨us, hl, fun u hu => (mem u hu).1, fun u hu => (mem u hu).2, ?_⟩
  rcases hk with rfl | ⟨g, o, h1, h2⟩
  · exact .inl (List.length_eq_zero_iff.1 hl)
  · refine .inr ⟨g, o, h1, fun j u hj => ?_⟩
    have hlt : j < ts.length := by have := (List.getElem?_eq_some_iff.1 hj).1; omega
    obtain ⟨v0, v1, v2, v3, v4, c0, c1, c2, c3, c4, r⟩ := h2 j _ (List.getElem?_eq_getElem hlt)
    exact ⟨v0, v1, v2, v3, v4, c0, c1, c2, c3, c4, (hp j u hj).2.2 _ (List.getElem?_eq_getElem hlt) w _ r⟩
end Go.Proofs.YthamafijjflfbaaGreat.Dt
/- An act over two values: the program's try and the document's answer are one; the conditions: the values valid, their bits within 64. -/
namespace Go.Proofs.YthamafijjflfbaaGreat
open Go.RowKit

/-- A function that tries an act over two values comes to this result. -/
def Ty (F : Nat) (op num : Int) (mA mB : Nat) (tA : Dt.Tr (mA + 1)) (tB : Dt.Tr (mB + 1)) (er pk pn : Int) (has : Bool) (m : Nat) (tr : Dt.Tr m) : Prop :=
  ∀ (W0 : World) (ak ai au : Int) (az : ByteArray) (aa : Option Addr) (an ac : Nat) (bk bi bu : Int) (bs : ByteArray) (ba : Option Addr) (bn bc : Nat), Vl W0 mA tA ak ai au az aa an ac → Vl W0 mB tB bk bi bu bs ba bn bc → ∀ w, Below W0.heap.size W0 w → Calls Tryz.prog F #[.agg (acs op ak ai au az aa an ac bk bi bu bs ba bn bc num)] w (GP er pk pn has m tr w)

theorem impl3 (k : Int) (h : 0 ≤ k ∧ k ≤ 13) (h1 : k ≠ 11) (h2 : k ≠ 12) : impl k 3 = false := by
  have : k = 0 ∨ k = 1 ∨ k = 2 ∨ k = 3 ∨ k = 4 ∨ k = 5 ∨ k = 6 ∨ k = 7 ∨ k = 8 ∨ k = 9 ∨ k = 10 ∨ k = 13 := by omega
  rcases this with rfl | rfl | rfl | rfl | rfl | rfl | rfl | rfl | rfl | rfl | rfl | rfl <;> decide

theorem two (op num : Int) (mA mB : Nat) (tA : Dt.Tr (mA + 1)) (tB : Dt.Tr (mB + 1)) (vA : Dt.vB (mA + 1) tA = true) (vB : Dt.vB (mB + 1) tB = true) (hkA : 0 ≤ tA.kd ∧ tA.kd ≤ 13) (h1A : tA.kd = 11 → tA.ks.length = 1) :
    ∃ er pk pn has m tr, Ty 10 op num mA mB tA tB er pk pn has m tr ∧ Ty 12 op num mA mB tA tB er pk pn has m tr := by
  by_cases o1 : op = 1
  · subst o1
    exact ⟨0, 0, 0, true, _, tA, fun W0 ak ai au az aa an ac bk bi bu bs ba bn bc hA _ w hb => gpGive W0 mA tA ak ai au az aa an ac bk bi bu bs ba bn bc num hA w hb, fun W0 ak ai au az aa an ac bk bi bu bs ba bn bc hA _ w hb => grGive W0 mA tA ak ai au az aa an ac bk bi bu bs ba bn bc num hA w hb⟩
  by_cases o2 : op = 2
  · subst o2
    cases hq : tkd num tA.kd with
    | true => exact ⟨0, 0, 0, true, _, tA, fun W0 ak ai au az aa an ac bk bi bu bs ba bn bc hA _ w hb => gpAssert W0 mA tA ak ai au az aa an ac bk bi bu bs ba bn bc num hA (hA.eq.1 ▸ hq) w hb, fun W0 ak ai au az aa an ac bk bi bu bs ba bn bc hA _ w hb => grAssert W0 mA tA ak ai au az aa an ac bk bi bu bs ba bn bc num hA (hA.eq.1 ▸ hq) w hb⟩
    | false => exact ⟨110, 2, tA.kd, false, _, lfT 0 0, fun W0 ak ai au az aa an ac bk bi bu bs ba bn bc hA _ w hb => by rw [hA.eq.1]; exact gpAssert_no W0 mA tA ak ai au az aa an ac bk bi bu bs ba bn bc num hA (hA.eq.1 ▸ hq) w hb, fun W0 ak ai au az aa an ac bk bi bu bs ba bn bc hA _ w _ => by rw [hA.eq.1]; exact grAssert_no W0 mA tA ak ai au az aa an ac bk bi bu bs ba bn bc num hA (hA.eq.1 ▸ hq) w⟩
  by_cases o3 : op = 3
  · subst o3
    cases hq : impl tA.kd num with
    | true => exact ⟨0, 0, 0, true, _, tA, fun W0 ak ai au az aa an ac bk bi bu bs ba bn bc hA _ w hb => gpFace W0 mA tA ak ai au az aa an ac bk bi bu bs ba bn bc num hA (hA.eq.1 ▸ hq) w hb, fun W0 ak ai au az aa an ac bk bi bu bs ba bn bc hA _ w hb => grFace W0 mA tA ak ai au az aa an ac bk bi bu bs ba bn bc num hA (hA.eq.1 ▸ hq) w hb⟩
    | false => exact ⟨110, 2, lackM tA.kd num, false, _, lfT 0 0, fun W0 ak ai au az aa an ac bk bi bu bs ba bn bc hA _ w _ => by rw [hA.eq.1]; exact gpFace_no ak ai au az aa an ac bk bi bu bs ba bn bc num (hA.eq.1 ▸ hq) w, fun W0 ak ai au az aa an ac bk bi bu bs ba bn bc hA _ w _ => by rw [hA.eq.1]; exact grFace_no ak ai au az aa an ac bk bi bu bs ba bn bc num hA.kind (hA.eq.1 ▸ hq) w⟩
  by_cases o4 : op = 4
  · subst o4
    by_cases k8 : tA.kd = 8
    · by_cases hj : 0 ≤ num ∧ num < tA.ks.length
      · obtain ⟨j, rfl⟩ : ∃ j : Nat, num = (j : Int) := ⟨num.toNat, by omega⟩
        have hjl : j < tA.ks.length := by omega
        have hget : tA.ks[j]? = some tA.ks[j] := List.getElem?_eq_getElem hjl
        exact ⟨0, 0, 0, true, _, tA.ks[j], fun W0 ak ai au az aa an ac bk bi bu bs ba bn bc hA _ w hb => gpIndex W0 mA tA ak ai au az aa an ac bk bi bu bs ba bn bc j hA (hA.eq.1 ▸ k8) _ hget w hb, fun W0 ak ai au az aa an ac bk bi bu bs ba bn bc hA _ w hb => grIndex W0 mA tA ak ai au az aa an ac bk bi bu bs ba bn bc j hA (hA.eq.1 ▸ k8) _ hget w hb⟩
      · have hj' : num < 0 ∨ (tA.ks.length : Int) ≤ num := by omega
        exact ⟨110, 4, num, false, _, lfT 0 0, fun W0 ak ai au az aa an ac bk bi bu bs ba bn bc hA _ w hb => gpIndex_no W0 mA tA ak ai au az aa an ac bk bi bu bs ba bn bc num hA (hA.eq.1 ▸ k8) hj' w hb, fun W0 ak ai au az aa an ac bk bi bu bs ba bn bc hA _ w _ => grIndex_no W0 mA tA ak ai au az aa an ac bk bi bu bs ba bn bc num hA (hA.eq.1 ▸ k8) hj' w⟩
    · exact ⟨110, 2, tA.kd, false, _, lfT 0 0, fun W0 ak ai au az aa an ac bk bi bu bs ba bn bc hA _ w hb => by rw [hA.eq.1]; exact gpIndex_bad W0 mA tA ak ai au az aa an ac bk bi bu bs ba bn bc num hA (hA.eq.1 ▸ k8) w hb, fun W0 ak ai au az aa an ac bk bi bu bs ba bn bc hA _ w _ => by rw [hA.eq.1]; exact grIndex_bad ak ai au az aa an ac bk bi bu bs ba bn bc num (hA.eq.1 ▸ k8) w⟩
  by_cases o5 : op = 5
  · subst o5
    by_cases k11 : tA.kd = 11
    · obtain ⟨kid, hkid⟩ := List.length_eq_one_iff.1 (h1A k11)
      exact ⟨0, 0, 0, true, _, kid, fun W0 ak ai au az aa an ac bk bi bu bs ba bn bc hA _ w hb => gpOpen W0 mA tA ak ai au az aa an ac bk bi bu bs ba bn bc num hA (hA.eq.1 ▸ k11) kid hkid w hb, fun W0 ak ai au az aa an ac bk bi bu bs ba bn bc hA _ w hb => grOpen W0 mA tA ak ai au az aa an ac bk bi bu bs ba bn bc num hA (hA.eq.1 ▸ k11) kid hkid w hb⟩
    by_cases k12 : tA.kd = 12
    · exact ⟨110, 3, 0, false, _, lfT 0 0, fun W0 ak ai au az aa an ac bk bi bu bs ba bn bc hA _ w hb => gpOpen_nil W0 mA tA ak ai au az aa an ac bk bi bu bs ba bn bc num hA (hA.eq.1 ▸ k12) w hb, fun W0 ak ai au az aa an ac bk bi bu bs ba bn bc hA _ w hb => grOpen_nil W0 mA tA ak ai au az aa an ac bk bi bu bs ba bn bc num hA (hA.eq.1 ▸ k12) w hb⟩
    · have hq := impl3 tA.kd hkA k11 k12
      exact ⟨110, 2, lackM tA.kd 3, false, _, lfT 0 0, fun W0 ak ai au az aa an ac bk bi bu bs ba bn bc hA _ w _ => by rw [hA.eq.1]; exact gpOpen_no ak ai au az aa an ac bk bi bu bs ba bn bc num (hA.eq.1 ▸ hq) w, fun W0 ak ai au az aa an ac bk bi bu bs ba bn bc hA _ w _ => by rw [hA.eq.1]; exact grOpen_no ak ai au az aa an ac bk bi bu bs ba bn bc num hA.kind (hA.eq.1 ▸ hq) w⟩
  by_cases o6 : op = 6
  · subst o6
    obtain ⟨a, a1, a2, a3⟩ := Dt.cut_one (mA + 1) tA vA
    obtain ⟨b, b1, b2, b3⟩ := Dt.cut_one (mB + 1) tB vB
    obtain ⟨res, code, hE⟩ : ∃ res code, Dt.eqT 16 16 a b = (res, code) := ⟨_, _, rfl⟩
    by_cases hc : code = 0
    · subst hc
      exact ⟨0, 0, 0, true, _, lfT 6 (Dt.bI res), fun W0 ak ai au az aa an ac bk bi bu bs ba bn bc hA hB w hb => gpCompare W0 16 16 a b (by decide) a1 b1 a2 b2 ak ai au az aa an ac bk bi bu bs ba bn bc num (a3 _ _ hA.rep) (b3 _ _ hB.rep) res hE w hb, fun W0 ak ai au az aa an ac bk bi bu bs ba bn bc hA hB w hb => grCompare W0 16 16 a b a1 b1 ak ai au az aa an ac bk bi bu bs ba bn bc num (a3 _ _ hA.rep) (b3 _ _ hB.rep) res hE w hb⟩
    · exact ⟨110, 5, 0, false, _, lfT 0 0, fun W0 ak ai au az aa an ac bk bi bu bs ba bn bc hA hB w hb => gpCompare_no W0 16 16 a b (by decide) a1 b1 a2 b2 ak ai au az aa an ac bk bi bu bs ba bn bc num (a3 _ _ hA.rep) (b3 _ _ hB.rep) res code hc hE w hb, fun W0 ak ai au az aa an ac bk bi bu bs ba bn bc hA hB w hb => grCompare_no W0 16 16 a b a1 b1 ak ai au az aa an ac bk bi bu bs ba bn bc num (a3 _ _ hA.rep) (b3 _ _ hB.rep) res code hc hE w hb⟩
  by_cases o7 : op = 7
  · subst o7
    by_cases k1 : tA.kd = 1
    · by_cases k2 : tB.kd = 1
      · by_cases hz : tB.it = 0
        · exact ⟨110, 6, 0, false, _, lfT 0 0, fun W0 ak ai au az aa an ac bk bi bu bs ba bn bc hA hB w hb => gpDivide_zero W0 mA mB tA tB ak ai au az aa an ac bk bi bu bs ba bn bc num hA hB (hA.eq.1 ▸ k1) (hB.eq.1 ▸ k2) (hB.eq.2.1 ▸ hz) w hb, fun W0 ak ai au az aa an ac bk bi bu bs ba bn bc hA hB w _ => grDivide_zero ak ai au az aa an ac bk bi bu bs ba bn bc num (hA.eq.1 ▸ k1) (hB.eq.1 ▸ k2) (hB.eq.2.1 ▸ hz) w⟩
        · exact ⟨0, 0, 0, true, _, lfT 1 (quoI tA.it tB.it), fun W0 ak ai au az aa an ac bk bi bu bs ba bn bc hA hB w hb => by rw [hA.eq.2.1, hB.eq.2.1]; exact gpDivide W0 mA mB tA tB ak ai au az aa an ac bk bi bu bs ba bn bc num hA hB (hA.eq.1 ▸ k1) (hB.eq.1 ▸ k2) (hB.eq.2.1 ▸ hz) w hb, fun W0 ak ai au az aa an ac bk bi bu bs ba bn bc hA hB w _ => by rw [hA.eq.2.1, hB.eq.2.1]; exact grDivide ak ai au az aa an ac bk bi bu bs ba bn bc num (hA.eq.1 ▸ k1) (hB.eq.1 ▸ k2) (hB.eq.2.1 ▸ hz) w⟩
      · exact ⟨110, 2, tB.kd, false, _, lfT 0 0, fun W0 ak ai au az aa an ac bk bi bu bs ba bn bc hA hB w hb => by rw [hB.eq.1]; exact gpDivide_b W0 mA mB tA tB ak ai au az aa an ac bk bi bu bs ba bn bc num hA hB (hA.eq.1 ▸ k1) (hB.eq.1 ▸ k2) w hb, fun W0 ak ai au az aa an ac bk bi bu bs ba bn bc hA hB w _ => by rw [hB.eq.1]; exact grDivide_b ak ai au az aa an ac bk bi bu bs ba bn bc num (hA.eq.1 ▸ k1) (hB.eq.1 ▸ k2) w⟩
    · exact ⟨110, 2, tA.kd, false, _, lfT 0 0, fun W0 ak ai au az aa an ac bk bi bu bs ba bn bc hA _ w hb => by rw [hA.eq.1]; exact gpDivide_a W0 mA tA ak ai au az aa an ac bk bi bu bs ba bn bc num hA (hA.eq.1 ▸ k1) w hb, fun W0 ak ai au az aa an ac bk bi bu bs ba bn bc hA _ w _ => by rw [hA.eq.1]; exact grDivide_a ak ai au az aa an ac bk bi bu bs ba bn bc num (hA.eq.1 ▸ k1) w⟩
  by_cases o8 : op = 8
  · subst o8
    exact ⟨110, 1, num, false, _, lfT 0 0, fun W0 ak ai au az aa an ac bk bi bu bs ba bn bc _ _ w _ => gpOwn ak ai au az aa an ac bk bi bu bs ba bn bc num w, fun W0 ak ai au az aa an ac bk bi bu bs ba bn bc _ _ w _ => grOwn ak ai au az aa an ac bk bi bu bs ba bn bc num w⟩
  by_cases o9 : op = 9
  · subst o9
    exact ⟨110, 7, num, false, _, lfT 0 0, fun W0 ak ai au az aa an ac bk bi bu bs ba bn bc _ _ w _ => gpError ak ai au az aa an ac bk bi bu bs ba bn bc num w, fun W0 ak ai au az aa an ac bk bi bu bs ba bn bc _ _ w _ => grError ak ai au az aa an ac bk bi bu bs ba bn bc num w⟩
  by_cases o10 : op = 10
  · subst o10
    by_cases h0 : (Dt.lenP tA.kd tA.tx.size tA.ks.length).2 = 0
    · exact ⟨0, 0, 0, true, _, lfT 1 (Dt.lenP tA.kd tA.tx.size tA.ks.length).1, fun W0 ak ai au az aa an ac bk bi bu bs ba bn bc hA _ w hb => gpSize W0 mA tA ak ai au az aa an ac bk bi bu bs ba bn bc num hA h0 w hb, fun W0 ak ai au az aa an ac bk bi bu bs ba bn bc hA _ w _ => grSize W0 mA tA ak ai au az aa an ac bk bi bu bs ba bn bc num hA h0 w⟩
    · exact ⟨12, 0, 0, false, _, lfT 0 0, fun W0 ak ai au az aa an ac bk bi bu bs ba bn bc hA _ w hb => gpSize_no W0 mA tA ak ai au az aa an ac bk bi bu bs ba bn bc num hA h0 w hb, fun W0 ak ai au az aa an ac bk bi bu bs ba bn bc hA _ w _ => grSize_no W0 mA tA ak ai au az aa an ac bk bi bu bs ba bn bc num hA h0 w⟩
  · exact ⟨12, 0, 0, false, _, lfT 0 0, fun W0 ak ai au az aa an ac bk bi bu bs ba bn bc _ _ w _ => gpOther op ak ai au az aa an ac bk bi bu bs ba bn bc num (by omega) w, fun W0 ak ai au az aa an ac bk bi bu bs ba bn bc _ _ w _ => grOther op ak ai au az aa an ac bk bi bu bs ba bn bc num (by omega) w⟩

set_option maxRecDepth 100000 in
set_option maxHeartbeats 1000000 in
theorem rsame_any (er pk pn : Int) (has : Bool) (k i u : Int) (s : ByteArray) (a : Option Addr) (n c : Nat) (k' i' u' : Int) (s' : ByteArray) (a' : Option Addr) (n' c' : Nat) (w : World)
    (hS : ∀ wx, Below w.heap.size w wx → Calls Tryz.prog 13 #[.agg #[.int .i64 k, .int .i64 i, .int .u64 u, .string s, .slice a n c], .agg #[.int .i64 k', .int .i64 i', .int .u64 u', .string s', .slice a' n' c']] wx fun e w' => e = .returned (.bool true) ∧ Below wx.heap.size wx w') :
    Calls Tryz.prog 11 #[.agg (rcs er 0 pk pn has k i u s a n c), .agg (rcs er 0 pk pn has k' i' u' s' a' n' c')] w fun e w' => e = .returned (.bool true) ∧ Below w.heap.size w w' := by
  have HS := Lib.hid hS
  clear hS
  have B0 := below2 w (.cells (rcs er 0 pk pn has k i u s a n c) 35) (.cells (rcs er 0 pk pn has k' i' u' s' a' n' c') 35)
  go_enter Tryz.func11, Tryz.ntmps11
  go_wp2_with fail
  refine (HS.out _ B0).mono ?_
  rintro e w1 ⟨rfl, b1⟩
  have B1 := B0.trans (b1.mono B0.size)
  go_wp2
  go_ret
  exact ⟨rfl, B1⟩

set_option maxRecDepth 100000 in
set_option maxHeartbeats 1000000 in
theorem act_fit (op : Int) (ak ai au : Int) (az : ByteArray) (aa : Option Addr) (an ac : Nat) (bk bi bu : Int) (bs : ByteArray) (ba : Option Addr) (bn bc : Nat) (num : Int) (x y : Bool) (w : World)
    (hA : ∀ wx, Below w.heap.size w wx → Calls Tryz.prog 17 #[.agg #[.int .i64 ak, .int .i64 ai, .int .u64 au, .string az, .slice aa an ac]] wx fun e w' => e = .returned (.bool x) ∧ Below wx.heap.size wx w')
    (hB : ∀ wx, Below w.heap.size w wx → Calls Tryz.prog 17 #[.agg #[.int .i64 bk, .int .i64 bi, .int .u64 bu, .string bs, .slice ba bn bc]] wx fun e w' => e = .returned (.bool y) ∧ Below wx.heap.size wx w') :
    Calls Tryz.prog 7 #[.agg (acs op ak ai au az aa an ac bk bi bu bs ba bn bc num)] w fun e w' => e = .returned (.bool (x && y)) ∧ Below w.heap.size w w' := by
  have HA := Lib.hid hA
  have HB := Lib.hid hB
  clear hA hB
  have B0 := below1 w (.cells (acs op ak ai au az aa an ac bk bi bu bs ba bn bc num) 27)
  have A0 := Bk.new w (acs op ak ai au az aa an ac bk bi bu bs ba bn bc num) 27
  go_enter Tryz.func7, Tryz.ntmps7
  go_wp2_with fail
  refine (HA.out _ B0).mono ?_
  rintro e w1 ⟨rfl, b1⟩
  have B1 := B0.trans (b1.mono B0.size)
  have A1 := A0.step b1
  obtain ⟨c0, c1, c2, c3, c4, c5, c6, c7, c8, c9, c10, c11⟩ := A1.c12
  cases x
  · go_wp2
    go_ret
    exact ⟨rfl, B1⟩
  · go_wp2_with fail
    refine (HB.out _ B1).mono ?_
    rintro e w2 ⟨rfl, b2⟩
    have B2 := B1.trans (b2.mono B1.size)
    go_wp2
    go_ret
    exact ⟨rfl, B2⟩
end Go.Proofs.YthamafijjflfbaaGreat
/- What must be told, of two acts; no condition. -/
namespace Go.Proofs.YthamafijjflfbaaGreat
open Go.RowKit

/-- A value of kind 1. -/
def fiveT : Dt.Tr 1 := ((1, 5, 0, ⟨#[]⟩, []) : Int × Int × Int × ByteArray × List (Dt.Tr 0))
theorem five_rep (w : World) : Dt.Rep w 1 [.int .i64 1, .int .i64 5, .int .u64 0, .string ⟨#[]⟩, .slice none 0 0] fiveT := ⟨none, 0, rfl, Nat.zero_le _, Nat.zero_le _, Nat.zero_le _, .inl rfl⟩
theorem try_five (w : World) : Calls Tryz.prog 10 #[.agg (acs 1 1 5 0 ⟨#[]⟩ none 0 0 0 0 0 ⟨#[]⟩ none 0 0 0)] w fun e w' => ∃ k u s a n c, e = .returned (.agg (rcs 0 0 0 0 true k 5 u s a n c)) ∧ Below w.heap.size w w' := by
  refine (tryGive w 0 fiveT (by decide) 1 5 0 ⟨#[]⟩ none 0 0 0 0 0 ⟨#[]⟩ none 0 0 0 (five_rep w) w (Below.refl _ _)).mono fun e w' ⟨k, i, u, s, a, n, c, he, rf, hb⟩ => ?_
  obtain ⟨_, _, q, -⟩ := rf
  simp only [List.cons.injEq, Value.int.injEq, true_and, and_true] at q
  obtain ⟨-, rfl, -⟩ := q
  exact ⟨k, u, s, a, n, c, he, hb⟩

set_option maxRecDepth 100000 in
set_option maxHeartbeats 1000000 in
theorem awake_any (w : World) : Calls Tryz.prog 8 #[] w fun e w' => e = .returned (.bool true) ∧ Below w.heap.size w w' := by
  have T1 : Hid (∀ w, Calls Tryz.prog 10 #[.agg (acs 8 0 0 0 ⟨#[]⟩ none 0 0 0 0 0 ⟨#[]⟩ none 0 0 7)] w fun e w' => e = .returned (.agg (rErr 110 0 1 7)) ∧ Below w.heap.size w w') := fun w => tryOwn 0 0 0 ⟨#[]⟩ none 0 0 0 0 0 ⟨#[]⟩ none 0 0 7 w
  have T2 := Lib.hid try_five
  go_enter Tryz.func8, Tryz.ntmps8
  go_wp2_with fail
  refine (T1.out _).mono ?_
  rintro e w1 ⟨rfl, b1⟩
  have R1 := Bk.new w1 (rErr 110 0 1 7) 35
  have a1 := below1 w1 (.cells (rErr 110 0 1 7) 35)
  have B1 := b1.trans (a1.mono b1.size)
  clear b1 a1
  go_wp2_with fail
  refine (T2.out _).mono ?_
  rintro e w2 ⟨k, u, s, a, n, c, rfl, b2⟩
  have B2 := B1.trans (b2.mono B1.size)
  have R2 := (R1.step b2).alloc (.cells (rcs 0 0 0 0 true k 5 u s a n c) 35)
  have Q2 := Bk.new w2 (rcs 0 0 0 0 true k 5 u s a n c) 35
  have a2 := below1 w2 (.cells (rcs 0 0 0 0 true k 5 u s a n c) 35)
  have B3 := B2.trans (a2.mono B2.size)
  clear b2 R1 B1 B2 a2
  obtain ⟨c0, c1, c2, c3, c4, c5, c6, c7, c8, c9⟩ := R2.c10
  obtain ⟨d0, d1, d2, d3, d4, d5, d6, d7, d8, d9⟩ := Q2.c10
  go_wp2
  go_ret
  exact ⟨rfl, B3⟩
end Go.Proofs.YthamafijjflfbaaGreat
/- The law GuardTries by its contracts; the conditions: the contracts. -/
namespace Go.Proofs.YthamafijjflfbaaGreat
open Go.RowKit

theorem set12A {w : World} {A : Nat} {o y1 y2 y3 y4 y5 z1 z2 z3 z4 z5 q : Value} {T : TypeId} (h : Bk w A #[o, y1, y2, y3, y4, y5, z1, z2, z3, z4, z5, q] T) (x1 x2 x3 x4 x5 : Value) {W : World} (hW : W = ((((w.setCell ⟨A, 1, none⟩ x1).setCell ⟨A, 2, none⟩ x2).setCell ⟨A, 3, none⟩ x3).setCell ⟨A, 4, none⟩ x4).setCell ⟨A, 5, none⟩ x5) :
    Bk W A #[o, x1, x2, x3, x4, x5, z1, z2, z3, z4, z5, q] T ∧ W.heap.size = w.heap.size ∧ (∀ g, g ≠ A → W.heap[g]? = w.heap[g]?) ∧ Below A w W := by
  subst hW
  have h0 : Bk _ A #[o, x1, y2, y3, y4, y5, z1, z2, z3, z4, z5, q] T := h.set 1 x1
  have h1 : Bk _ A #[o, x1, x2, y3, y4, y5, z1, z2, z3, z4, z5, q] T := h0.set 2 x2
  have h2 : Bk _ A #[o, x1, x2, x3, y4, y5, z1, z2, z3, z4, z5, q] T := h1.set 3 x3
  have h3 : Bk _ A #[o, x1, x2, x3, x4, y5, z1, z2, z3, z4, z5, q] T := h2.set 4 x4
  have h4 : Bk _ A #[o, x1, x2, x3, x4, x5, z1, z2, z3, z4, z5, q] T := h3.set 5 x5
  refine ⟨h4, by simp, fun g hg => ?_, ?_⟩
  · simp (disch := (simp; omega)) only [Below.heap_setCell]
  · exact (((((Below.refl A w).setCell (Nat.le_refl A) _).setCell (Nat.le_refl A) _).setCell (Nat.le_refl A) _).setCell (Nat.le_refl A) _).setCell (Nat.le_refl A) _
theorem set12B {w : World} {A : Nat} {o y1 y2 y3 y4 y5 z1 z2 z3 z4 z5 q : Value} {T : TypeId} (h : Bk w A #[o, y1, y2, y3, y4, y5, z1, z2, z3, z4, z5, q] T) (x1 x2 x3 x4 x5 : Value) {W : World} (hW : W = ((((w.setCell ⟨A, 6, none⟩ x1).setCell ⟨A, 7, none⟩ x2).setCell ⟨A, 8, none⟩ x3).setCell ⟨A, 9, none⟩ x4).setCell ⟨A, 10, none⟩ x5) :
    Bk W A #[o, y1, y2, y3, y4, y5, x1, x2, x3, x4, x5, q] T ∧ W.heap.size = w.heap.size ∧ (∀ g, g ≠ A → W.heap[g]? = w.heap[g]?) ∧ Below A w W := by
  subst hW
  have h0 : Bk _ A #[o, y1, y2, y3, y4, y5, x1, z2, z3, z4, z5, q] T := h.set 6 x1
  have h1 : Bk _ A #[o, y1, y2, y3, y4, y5, x1, x2, z3, z4, z5, q] T := h0.set 7 x2
  have h2 : Bk _ A #[o, y1, y2, y3, y4, y5, x1, x2, x3, z4, z5, q] T := h1.set 8 x3
  have h3 : Bk _ A #[o, y1, y2, y3, y4, y5, x1, x2, x3, x4, z5, q] T := h2.set 9 x4
  have h4 : Bk _ A #[o, y1, y2, y3, y4, y5, x1, x2, x3, x4, x5, q] T := h3.set 10 x5
  refine ⟨h4, by simp, fun g hg => ?_, ?_⟩
  · simp (disch := (simp; omega)) only [Below.heap_setCell]
  · exact (((((Below.refl A w).setCell (Nat.le_refl A) _).setCell (Nat.le_refl A) _).setCell (Nat.le_refl A) _).setCell (Nat.le_refl A) _).setCell (Nat.le_refl A) _

/-- A value copied: in new memory, from H on. -/
def Cp (H m : Nat) (t : Dt.Tr (m + 1)) (p0 p1 p2 : Int) (p3 : ByteArray) (p4 : Option Addr) (p5 p6 : Nat) (w : World) : Prop := Dt.Rf (fun g => H ≤ g ∧ g < w.heap.size) w (m + 1) [.int .i64 p0, .int .i64 p1, .int .u64 p2, .string p3, .slice p4 p5 p6] t
theorem Cp.keep {H m : Nat} {t : Dt.Tr (m + 1)} {p0 p1 p2 : Int} {p3 : ByteArray} {p4 : Option Addr} {p5 p6 : Nat} {w w' : World} (h : Cp H m t p0 p1 p2 p3 p4 p5 p6 w) (hs : w.heap.size ≤ w'.heap.size) (hg : ∀ g, H ≤ g → g < w.heap.size → w'.heap[g]? = w.heap[g]?) : Cp H m t p0 p1 p2 p3 p4 p5 p6 w' :=
  Dt.Rf.to (fun g q => ⟨⟨q.1, Nat.lt_of_lt_of_le q.2 hs⟩, hg g q.1 q.2⟩) _ _ _ h
theorem Cp.below {H m : Nat} {t : Dt.Tr (m + 1)} {p0 p1 p2 : Int} {p3 : ByteArray} {p4 : Option Addr} {p5 p6 : Nat} {w w' : World} (h : Cp H m t p0 p1 p2 p3 p4 p5 p6 w) (hb : Below w.heap.size w w') : Cp H m t p0 p1 p2 p3 p4 p5 p6 w' := h.keep hb.size fun g _ hg => hb.block g hg

set_option maxRecDepth 100000 in
set_option maxHeartbeats 4000000 in
theorem gt_bad (op : Int) (ak ai au : Int) (az : ByteArray) (aa : Option Addr) (an ac : Nat) (bk bi bu : Int) (bs : ByteArray) (ba : Option Addr) (bn bc : Nat) (num : Int) (w : World)
    (hF : ∀ wx, Below w.heap.size w wx → Calls Tryz.prog 7 #[.agg (acs op ak ai au az aa an ac bk bi bu bs ba bn bc num)] wx fun e w' => e = .returned (.bool false) ∧ Below wx.heap.size wx w') :
    Calls Tryz.prog 3 #[.agg (acs op ak ai au az aa an ac bk bi bu bs ba bn bc num)] w fun e w' => e = .returned (.bool true) ∧ Below w.heap.size w w' := by
  have HF := Lib.hid hF
  have HW := Lib.hid awake_any
  clear hF
  have B0 := below1 w (.cells (acs op ak ai au az aa an ac bk bi bu bs ba bn bc num) 27)
  go_enter Tryz.func3, Tryz.ntmps3
  go_wp2_with fail
  refine (HF.out _ B0).mono ?_
  rintro e w1 ⟨rfl, b1⟩
  have B1 := B0.trans (b1.mono B0.size)
  go_wp2_with fail
  refine (HW.out _).mono ?_
  rintro e w2 ⟨rfl, b2⟩
  have B2 := B1.trans (b2.mono B1.size)
  go_wp2
  go_ret
  exact ⟨rfl, B2⟩

set_option maxRecDepth 100000 in
set_option maxHeartbeats 8000000 in
theorem gt_good (op : Int) (ak ai au : Int) (az : ByteArray) (aa : Option Addr) (an ac : Nat) (bk bi bu : Int) (bs : ByteArray) (ba : Option Addr) (bn bc : Nat) (num : Int) (mA mB : Nat) (tA : Dt.Tr (mA + 1)) (tB : Dt.Tr (mB + 1)) (er pk pn : Int) (has : Bool) (m : Nat) (tr : Dt.Tr m) (w : World)
    (hF : ∀ wx, Below w.heap.size w wx → Calls Tryz.prog 7 #[.agg (acs op ak ai au az aa an ac bk bi bu bs ba bn bc num)] wx fun e w' => e = .returned (.bool true) ∧ Below wx.heap.size wx w')
    (hA : ∀ H wx, Below w.heap.size w wx → H ≤ wx.heap.size → Calls Tryz.prog 9 #[.agg #[.int .i64 ak, .int .i64 ai, .int .u64 au, .string az, .slice aa an ac]] wx fun e w' => ∃ p0 p1 p2 p3 p4 p5 p6, e = .returned (.agg #[.int .i64 p0, .int .i64 p1, .int .u64 p2, .string p3, .slice p4 p5 p6]) ∧ Cp H mA tA p0 p1 p2 p3 p4 p5 p6 w' ∧ Below wx.heap.size wx w')
    (hB : ∀ H wx, Below w.heap.size w wx → H ≤ wx.heap.size → Calls Tryz.prog 9 #[.agg #[.int .i64 bk, .int .i64 bi, .int .u64 bu, .string bs, .slice ba bn bc]] wx fun e w' => ∃ p0 p1 p2 p3 p4 p5 p6, e = .returned (.agg #[.int .i64 p0, .int .i64 p1, .int .u64 p2, .string p3, .slice p4 p5 p6]) ∧ Cp H mB tB p0 p1 p2 p3 p4 p5 p6 w' ∧ Below wx.heap.size wx w')
    (hT : ∀ H (p0 p1 p2 : Int) (p3 : ByteArray) (p4 : Option Addr) (p5 p6 : Nat) (q0 q1 q2 : Int) (q3 : ByteArray) (q4 : Option Addr) (q5 q6 : Nat) (wx : World), Cp H mA tA p0 p1 p2 p3 p4 p5 p6 wx → Cp H mB tB q0 q1 q2 q3 q4 q5 q6 wx → Calls Tryz.prog 10 #[.agg (acs op p0 p1 p2 p3 p4 p5 p6 q0 q1 q2 q3 q4 q5 q6 num)] wx (GP er pk pn has m tr wx))
    (hR : ∀ wx, Below w.heap.size w wx → Calls Tryz.prog 12 #[.agg (acs op ak ai au az aa an ac bk bi bu bs ba bn bc num)] wx (GP er pk pn has m tr wx))
    (hSA : ∀ H (p0 p1 p2 : Int) (p3 : ByteArray) (p4 : Option Addr) (p5 p6 : Nat) (wx : World), Below w.heap.size w wx → Cp H mA tA p0 p1 p2 p3 p4 p5 p6 wx → Calls Tryz.prog 13 #[.agg #[.int .i64 p0, .int .i64 p1, .int .u64 p2, .string p3, .slice p4 p5 p6], .agg #[.int .i64 ak, .int .i64 ai, .int .u64 au, .string az, .slice aa an ac]] wx fun e w' => e = .returned (.bool true) ∧ Below wx.heap.size wx w')
    (hSB : ∀ H (p0 p1 p2 : Int) (p3 : ByteArray) (p4 : Option Addr) (p5 p6 : Nat) (wx : World), Below w.heap.size w wx → Cp H mB tB p0 p1 p2 p3 p4 p5 p6 wx → Calls Tryz.prog 13 #[.agg #[.int .i64 p0, .int .i64 p1, .int .u64 p2, .string p3, .slice p4 p5 p6], .agg #[.int .i64 bk, .int .i64 bi, .int .u64 bu, .string bs, .slice ba bn bc]] wx fun e w' => e = .returned (.bool true) ∧ Below wx.heap.size wx w') :
    Calls Tryz.prog 3 #[.agg (acs op ak ai au az aa an ac bk bi bu bs ba bn bc num)] w fun e w' => e = .returned (.bool true) ∧ Below w.heap.size w w' := by
  have HF := Lib.hid hF
  have HA := Lib.hid hA
  have HB := Lib.hid hB
  have HT := Lib.hid hT
  have HR := Lib.hid hR
  have HSA := Lib.hid hSA
  have HSB := Lib.hid hSB
  have HW := Lib.hid awake_any
  clear hF hA hB hT hR hSA hSB
  have B0 := below1 w (.cells (acs op ak ai au az aa an ac bk bi bu bs ba bn bc num) 27)
  have A0 := Bk.new w (acs op ak ai au az aa an ac bk bi bu bs ba bn bc num) 27
  go_enter Tryz.func3, Tryz.ntmps3
  go_wp2_with fail
  refine (HF.out _ B0).mono ?_
  rintro e w1 ⟨rfl, b1⟩
  have B1 := B0.trans (b1.mono B0.size)
  have A1 := A0.step b1
  have hs1 : w.heap.size + 1 ≤ w1.heap.size := by have := b1.size; simpa using this
  clear b1 B0 A0
  have e1 := below1 w1 (.cells (acs op ak ai au az aa an ac bk bi bu bs ba bn bc num) 27)
  have X1 := Bk.new w1 (acs op ak ai au az aa an ac bk bi bu bs ba bn bc num) 27
  obtain ⟨c0, c1, c2, c3, c4, c5, c6, c7, c8, c9, c10, c11⟩ := A1.c12
  go_wp2_with fail
  have A2 := A1.step e1
  have B2 := B1.trans (e1.mono B1.size)
  have hs2 : w1.heap.size + 1 ≤ (w1.alloc (.cells (acs op ak ai au az aa an ac bk bi bu bs ba bn bc num) 27)).heap.size := by simp
  clear e1 c0 c1 c2 c3 c4 c5 c6 c7 c8 c9 c10 c11 A1
  generalize hX : w1.heap.size = X at *
  generalize hw2 : w1.alloc (.cells (acs op ak ai au az aa an ac bk bi bu bs ba bn bc num) 27) = w2 at *
  clear hw2
  have KS : Hid (∀ wx, Bk wx w.heap.size (acs op ak ai au az aa an ac bk bi bu bs ba bn bc num) 27 → (fun wx => wx.cell? ⟨w.heap.size, 1, none⟩ = some (.int .i64 ak) ∧ wx.cell? ⟨w.heap.size, 2, none⟩ = some (.int .i64 ai) ∧ wx.cell? ⟨w.heap.size, 3, none⟩ = some (.int .u64 au) ∧ wx.cell? ⟨w.heap.size, 4, none⟩ = some (.string az) ∧ wx.cell? ⟨w.heap.size, 5, none⟩ = some (.slice aa an ac) ∧ wx.cell? ⟨w.heap.size, 6, none⟩ = some (.int .i64 bk) ∧ wx.cell? ⟨w.heap.size, 7, none⟩ = some (.int .i64 bi) ∧ wx.cell? ⟨w.heap.size, 8, none⟩ = some (.int .u64 bu) ∧ wx.cell? ⟨w.heap.size, 9, none⟩ = some (.string bs) ∧ wx.cell? ⟨w.heap.size, 10, none⟩ = some (.slice ba bn bc)) wx) := fun wx h => by
    obtain ⟨c0, c1, c2, c3, c4, c5, c6, c7, c8, c9, c10, c11⟩ := h.c12
    exact ⟨c1, c2, c3, c4, c5, c6, c7, c8, c9, c10⟩
  refine wp_region_held_drew (S := (fun wx => wx.cell? ⟨w.heap.size, 1, none⟩ = some (.int .i64 ak) ∧ wx.cell? ⟨w.heap.size, 2, none⟩ = some (.int .i64 ai) ∧ wx.cell? ⟨w.heap.size, 3, none⟩ = some (.int .u64 au) ∧ wx.cell? ⟨w.heap.size, 4, none⟩ = some (.string az) ∧ wx.cell? ⟨w.heap.size, 5, none⟩ = some (.slice aa an ac) ∧ wx.cell? ⟨w.heap.size, 6, none⟩ = some (.int .i64 bk) ∧ wx.cell? ⟨w.heap.size, 7, none⟩ = some (.int .i64 bi) ∧ wx.cell? ⟨w.heap.size, 8, none⟩ = some (.int .u64 bu) ∧ wx.cell? ⟨w.heap.size, 9, none⟩ = some (.string bs) ∧ wx.cell? ⟨w.heap.size, 10, none⟩ = some (.slice ba bn bc))) (by kernel_rfl) (KS.out _ (A2.step (Below.drew (Below.refl _ _)))) (fun hHeld => ?_)
  have A3 := A2.step (Below.drew (Below.refl _ _))
  have X3 := X1.step (Below.drew (Below.refl _ _))
  have B3 := B2.drew
  have hs3 : X + 1 ≤ w2.drew.heap.size := hs2
  clear A2 X1 B2 hs2
  generalize w2.drew = w3 at *
  refine wpAnyH_take (i := 0) (oi := { dst := some 10, op := Op.fieldAddr 27 (Operand.tmp 1) 1, type := 0, pos := "law.go:28", after := #[], guard := none }) (v := ?tT0) rfl (by kernel_rfl) (by kernel_rfl) (by kernel_rfl) (fun _ _ _ h => h) (Or.inl ⟨by rfl, ?uT0⟩) (by assumption) ?rT0
  case uT0 => (intro w hSw; (try dsimp only at hSw); go_simp; (try with_reducible rfl))
  simp only [Act.put, List.setIfInBounds_toArray, List.set_cons_zero, List.set_cons_succ]
  refine wpAnyH_take (i := 1) (oi := { dst := some 11, op := Op.load 25 (Operand.tmp 10), type := 25, pos := "law.go:28", after := #[{ on := 0, ground := Ground.data }], guard := none }) (v := ?tT1) rfl (by kernel_rfl) (by kernel_rfl) (by kernel_rfl) (fun _ _ _ h => h) (Or.inl ⟨by rfl, ?uT1⟩) (by assumption) ?rT1
  case uT1 => (intro w hSw; (try dsimp only at hSw); go_simp; (try with_reducible rfl))
  simp only [Act.put, List.setIfInBounds_toArray, List.set_cons_zero, List.set_cons_succ]
  refine wpAnyH_take (i := 3) (oi := { dst := some 13, op := Op.fieldAddr 27 (Operand.tmp 1) 2, type := 0, pos := "law.go:28", after := #[], guard := none }) (v := ?tT3) rfl (by kernel_rfl) (by kernel_rfl) (by kernel_rfl) (fun _ _ _ h => h) (Or.inl ⟨by rfl, ?uT3⟩) (by assumption) ?rT3
  case uT3 => (intro w hSw; (try dsimp only at hSw); go_simp; (try with_reducible rfl))
  simp only [Act.put, List.setIfInBounds_toArray, List.set_cons_zero, List.set_cons_succ]
  refine wpAnyH_take (i := 4) (oi := { dst := some 14, op := Op.load 25 (Operand.tmp 13), type := 25, pos := "law.go:28", after := #[{ on := 3, ground := Ground.data }], guard := none }) (v := ?tT4) rfl (by kernel_rfl) (by kernel_rfl) (by kernel_rfl) (fun _ _ _ h => h) (Or.inl ⟨by rfl, ?uT4⟩) (by assumption) ?rT4
  case uT4 => (intro w hSw; (try dsimp only at hSw); go_simp; (try with_reducible rfl))
  simp only [Act.put, List.setIfInBounds_toArray, List.set_cons_zero, List.set_cons_succ]
  refine wpAnyH_ready (rs := [2]) (by kernel_rfl) (by simp) ?_
  refine AllReadyH.cons (o := { dst := some 12, op := Op.call { callee := Callee.value (Operand.func 9), args := #[Operand.tmp 11], argTypes := #[25] }, type := 25, pos := "law.go:28", after := #[{ on := 1, ground := Ground.data }], guard := none }) rfl (fun K hK => ?_) AllReadyH.nil
  go_simp
  refine (HA.out (X + 1) _ B3 hs3).mono ?_
  rintro e w4 ⟨p0, p1, p2, p3, p4, p5, p6, rfl, pA, b4⟩
  have A4 := A3.step b4
  have X4 := X3.step b4
  have B4 := B3.trans (b4.mono B3.size)
  have hs4 : X + 1 ≤ w4.heap.size := Nat.le_trans hs3 b4.size
  have PA4 := Lib.hid pA
  clear A3 X3 B3 b4 pA hs3
  go_wp2_with fail
  refine hK.out _ _ (KS.out _ A4) (fun hH4 => ?_)
  clear hK K
  (try simp only [Act.put, List.setIfInBounds_toArray, List.set_cons_zero, List.set_cons_succ])
  refine wpAnyH_take (i := 6) (oi := { dst := some 16, op := Op.fieldAddr 27 (Operand.tmp 3) 1, type := 0, pos := "law.go:28", after := #[{ on := 0, ground := Ground.phase }, { on := 1, ground := Ground.phase }, { on := 2, ground := Ground.phase }, { on := 3, ground := Ground.textOnly Departure.lateStores }, { on := 4, ground := Ground.textOnly Departure.lateStores }, { on := 5, ground := Ground.textOnly Departure.lateStoresUnsure }], guard := none }) (v := ?tU6) rfl (by kernel_rfl) (by kernel_rfl) (by kernel_rfl) (fun _ _ _ h => h) (Or.inl ⟨by rfl, ?uU6⟩) (by assumption) ?rU6
  case uU6 => (intro w hSw; (try dsimp only at hSw); go_simp; (try with_reducible rfl))
  simp only [Act.put, List.setIfInBounds_toArray, List.set_cons_zero, List.set_cons_succ]
  refine wpAnyH_ready (rs := [5]) (by kernel_rfl) (by simp) ?_
  refine AllReadyH.cons (o := { dst := some 15, op := Op.call { callee := Callee.value (Operand.func 9), args := #[Operand.tmp 14], argTypes := #[25] }, type := 25, pos := "law.go:28", after := #[{ on := 4, ground := Ground.data }, { on := 2, ground := Ground.chain }], guard := none }) rfl (fun K hK => ?_) AllReadyH.nil
  go_simp
  refine (HB.out (X + 1) _ B4 hs4).mono ?_
  rintro e w5 ⟨q0, q1, q2, q3, q4, q5, q6, rfl, pB, b5⟩
  have A5 := A4.step b5
  have X5 := X4.step b5
  have B5 := B4.trans (b5.mono B4.size)
  have hs5 : X + 1 ≤ w5.heap.size := Nat.le_trans hs4 b5.size
  have PA5 := Lib.hid (PA4.out.below b5)
  have PB5 := Lib.hid pB
  clear A4 X4 B4 b5 pB hs4 PA4
  go_wp2_with fail
  refine hK.out _ _ (KS.out _ A5) (fun hH5 => ?_)
  clear hK K
  (try simp only [Act.put, List.setIfInBounds_toArray, List.set_cons_zero, List.set_cons_succ])
  obtain ⟨c0, c1, c2, c3, c4, c5, c6, c7, c8, c9, c10, c11⟩ := X5.c12
  have fX := X5.f
  refine wpAnyH_ready (rs := [7]) (by kernel_rfl) (by simp) ?_
  refine AllReadyH.cons (o := { dst := none, op := Op.store 25 (Operand.tmp 16) (Operand.tmp 12), type := 0, pos := "law.go:28", after := #[{ on := 6, ground := Ground.data }, { on := 2, ground := Ground.data }, { on := 5, ground := Ground.chain }, { on := 0, ground := Ground.phase }, { on := 1, ground := Ground.phase }, { on := 2, ground := Ground.phase }, { on := 3, ground := Ground.textOnly Departure.lateStores }, { on := 4, ground := Ground.textOnly Departure.lateStores }, { on := 5, ground := Ground.textOnly Departure.lateStoresUnsure }], guard := none }) rfl (fun K hK => ?_) AllReadyH.nil
  go_simp
  obtain ⟨M1, M2, M3, M4⟩ := set12A X5 (.int .i64 p0) (.int .i64 p1) (.int .u64 p2) (.string p3) (.slice p4 p5 p6) rfl
  have A6 : Bk _ w.heap.size (acs op ak ai au az aa an ac bk bi bu bs ba bn bc num) 27 := (M3 w.heap.size (by omega)).trans A5
  have X6 := M1
  have B6 := B5.trans (M4.mono (by omega))
  have PA6 := Lib.hid (PA5.out.keep (Nat.le_of_eq M2.symm) fun g hg _ => M3 g (by omega))
  have PB6 := Lib.hid (PB5.out.keep (Nat.le_of_eq M2.symm) fun g hg _ => M3 g (by omega))
  have hs6 := hs5
  rw [← M2] at hs6
  clear c0 c1 c2 c3 c4 c5 c6 c7 c8 c9 c10 c11 fX M1 M2 M3 M4 A5 X5 B5 PA5 PB5 hs5
  generalize (((((w5.setCell ⟨X, 1, none⟩ (.int .i64 p0)).setCell ⟨X, 2, none⟩ (.int .i64 p1)).setCell ⟨X, 3, none⟩ (.int .u64 p2)).setCell ⟨X, 4, none⟩ (.string p3)).setCell ⟨X, 5, none⟩ (.slice p4 p5 p6)) = w6 at *
  refine hK.out _ _ (KS.out _ A6) (fun hH6 => ?_)
  clear hK K
  (try simp only [Act.put, List.setIfInBounds_toArray, List.set_cons_zero, List.set_cons_succ])
  refine wpAnyH_take (i := 8) (oi := { dst := some 17, op := Op.fieldAddr 27 (Operand.tmp 3) 2, type := 0, pos := "law.go:28", after := #[{ on := 0, ground := Ground.phase }, { on := 1, ground := Ground.phase }, { on := 2, ground := Ground.phase }, { on := 3, ground := Ground.phase }, { on := 4, ground := Ground.phase }, { on := 5, ground := Ground.phase }, { on := 6, ground := Ground.phase }, { on := 7, ground := Ground.phase }], guard := none }) (v := ?tV8) rfl (by kernel_rfl) (by kernel_rfl) (by kernel_rfl) (fun _ _ _ h => h) (Or.inl ⟨by rfl, ?uV8⟩) (by assumption) ?rV8
  case uV8 => (intro w hSw; (try dsimp only at hSw); go_simp; (try with_reducible rfl))
  simp only [Act.put, List.setIfInBounds_toArray, List.set_cons_zero, List.set_cons_succ]
  obtain ⟨c0, c1, c2, c3, c4, c5, c6, c7, c8, c9, c10, c11⟩ := X6.c12
  have fX := X6.f
  refine wpAnyH_ready (rs := [9]) (by kernel_rfl) (by simp) ?_
  refine AllReadyH.cons (o := { dst := none, op := Op.store 25 (Operand.tmp 17) (Operand.tmp 15), type := 0, pos := "law.go:28", after := #[{ on := 8, ground := Ground.data }, { on := 5, ground := Ground.data }, { on := 7, ground := Ground.chain }, { on := 0, ground := Ground.phase }, { on := 1, ground := Ground.phase }, { on := 2, ground := Ground.phase }, { on := 3, ground := Ground.phase }, { on := 4, ground := Ground.phase }, { on := 5, ground := Ground.phase }, { on := 6, ground := Ground.phase }, { on := 7, ground := Ground.phase }], guard := none }) rfl (fun K hK => ?_) AllReadyH.nil
  go_simp
  obtain ⟨M1, M2, M3, M4⟩ := set12B X6 (.int .i64 q0) (.int .i64 q1) (.int .u64 q2) (.string q3) (.slice q4 q5 q6) rfl
  have A7 : Bk _ w.heap.size (acs op ak ai au az aa an ac bk bi bu bs ba bn bc num) 27 := (M3 w.heap.size (by omega)).trans A6
  have X7 := M1
  have B7 := B6.trans (M4.mono (by omega))
  have PA7 := Lib.hid (PA6.out.keep (Nat.le_of_eq M2.symm) fun g hg _ => M3 g (by omega))
  have PB7 := Lib.hid (PB6.out.keep (Nat.le_of_eq M2.symm) fun g hg _ => M3 g (by omega))
  have hs7 := hs6
  rw [← M2] at hs7
  clear c0 c1 c2 c3 c4 c5 c6 c7 c8 c9 c10 c11 fX M1 M2 M3 M4 A6 X6 B6 PA6 PB6 hs6
  generalize (((((w6.setCell ⟨X, 6, none⟩ (.int .i64 q0)).setCell ⟨X, 7, none⟩ (.int .i64 q1)).setCell ⟨X, 8, none⟩ (.int .u64 q2)).setCell ⟨X, 9, none⟩ (.string q3)).setCell ⟨X, 10, none⟩ (.slice q4 q5 q6)) = w7 at *
  refine hK.out _ _ (KS.out _ A7) (fun hH7 => ?_)
  clear hK K
  (try simp only [Act.put, List.setIfInBounds_toArray, List.set_cons_zero, List.set_cons_succ])
  refine wpAnyH_done (by kernel_rfl) ?_ _
  clear hHeld hH4 hH5 hH6 hH7 KS HA HB
  obtain ⟨c0, c1, c2, c3, c4, c5, c6, c7, c8, c9, c10, c11⟩ := X7.c12
  go_wp2_with fail
  refine (HT.out (X + 1) p0 p1 p2 p3 p4 p5 p6 q0 q1 q2 q3 q4 q5 q6 w7 PA7.out PB7.out).mono ?_
  rintro e w8 ⟨g0, g1, g2, g3, g4, g5, g6, rfl, rg, b8⟩
  have A8 := A7.step b8
  have X8 := X7.step b8
  have B8 := B7.trans (b8.mono B7.size)
  have PA8 := Lib.hid (PA7.out.below b8)
  have PB8 := Lib.hid (PB7.out.below b8)
  have e8 := below1 w8 (.cells (rcs er 0 pk pn has g0 g1 g2 g3 g4 g5 g6) 35)
  have G9 := Bk.new w8 (rcs er 0 pk pn has g0 g1 g2 g3 g4 g5 g6) 35
  have A9 := A8.step e8
  have X9 := X8.step e8
  have B9 := B8.trans (e8.mono B8.size)
  have PA9 := Lib.hid (PA8.out.below e8)
  have PB9 := Lib.hid (PB8.out.below e8)
  have RG9 := Lib.hid (Dt.Rep.below e8 _ _ _ (Dt.Rf.rep _ _ _ rg))
  clear c0 c1 c2 c3 c4 c5 c6 c7 c8 c9 c10 c11 A7 X7 B7 PA7 PB7 b8 A8 X8 B8 PA8 PB8 e8 rg HT
  obtain ⟨c0, c1, c2, c3, c4, c5, c6, c7, c8, c9, c10, c11⟩ := A9.c12
  obtain ⟨d0, d1, d2, d3, d4, d5, d6, d7, d8, d9⟩ := G9.c10
  go_wp2_with fail
  clear c0 c1 c2 c3 c4 c5 c6 c7 c8 c9 c10 c11 d0 d1 d2 d3 d4 d5 d6 d7 d8 d9
  generalize hG : w8.heap.size = G at *
  generalize hw9 : w8.alloc (.cells (rcs er 0 pk pn has g0 g1 g2 g3 g4 g5 g6) 35) = w9 at *
  clear hw9
  have KG : Hid (∀ wx, Bk wx G (rcs er 0 pk pn has g0 g1 g2 g3 g4 g5 g6) 35 → Bk wx w.heap.size (acs op ak ai au az aa an ac bk bi bu bs ba bn bc num) 27 → (fun wx => (wx.cell? ⟨G, 0, none⟩ = some (.int .i64 er) ∧ wx.cell? ⟨G, 1, none⟩ = some (.int .i64 0) ∧ wx.cell? ⟨G, 2, none⟩ = some (.int .i64 pk) ∧ wx.cell? ⟨G, 3, none⟩ = some (.int .i64 pn) ∧ wx.cell? ⟨G, 4, none⟩ = some (.bool has) ∧ wx.cell? ⟨G, 5, none⟩ = some (.int .i64 g0) ∧ wx.cell? ⟨G, 6, none⟩ = some (.int .i64 g1) ∧ wx.cell? ⟨G, 7, none⟩ = some (.int .u64 g2) ∧ wx.cell? ⟨G, 8, none⟩ = some (.string g3) ∧ wx.cell? ⟨G, 9, none⟩ = some (.slice g4 g5 g6)) ∧ wx.cell? ⟨w.heap.size, 0, none⟩ = some (.int .i64 op) ∧ wx.cell? ⟨w.heap.size, 1, none⟩ = some (.int .i64 ak) ∧ wx.cell? ⟨w.heap.size, 2, none⟩ = some (.int .i64 ai) ∧ wx.cell? ⟨w.heap.size, 3, none⟩ = some (.int .u64 au) ∧ wx.cell? ⟨w.heap.size, 4, none⟩ = some (.string az) ∧ wx.cell? ⟨w.heap.size, 5, none⟩ = some (.slice aa an ac) ∧ wx.cell? ⟨w.heap.size, 6, none⟩ = some (.int .i64 bk) ∧ wx.cell? ⟨w.heap.size, 7, none⟩ = some (.int .i64 bi) ∧ wx.cell? ⟨w.heap.size, 8, none⟩ = some (.int .u64 bu) ∧ wx.cell? ⟨w.heap.size, 9, none⟩ = some (.string bs) ∧ wx.cell? ⟨w.heap.size, 10, none⟩ = some (.slice ba bn bc) ∧ wx.cell? ⟨w.heap.size, 11, none⟩ = some (.int .i64 num)) wx) := fun wx h h' => ⟨h.c10, h'.c12⟩
  refine wp_region_held_drew (S := (fun wx => (wx.cell? ⟨G, 0, none⟩ = some (.int .i64 er) ∧ wx.cell? ⟨G, 1, none⟩ = some (.int .i64 0) ∧ wx.cell? ⟨G, 2, none⟩ = some (.int .i64 pk) ∧ wx.cell? ⟨G, 3, none⟩ = some (.int .i64 pn) ∧ wx.cell? ⟨G, 4, none⟩ = some (.bool has) ∧ wx.cell? ⟨G, 5, none⟩ = some (.int .i64 g0) ∧ wx.cell? ⟨G, 6, none⟩ = some (.int .i64 g1) ∧ wx.cell? ⟨G, 7, none⟩ = some (.int .u64 g2) ∧ wx.cell? ⟨G, 8, none⟩ = some (.string g3) ∧ wx.cell? ⟨G, 9, none⟩ = some (.slice g4 g5 g6)) ∧ wx.cell? ⟨w.heap.size, 0, none⟩ = some (.int .i64 op) ∧ wx.cell? ⟨w.heap.size, 1, none⟩ = some (.int .i64 ak) ∧ wx.cell? ⟨w.heap.size, 2, none⟩ = some (.int .i64 ai) ∧ wx.cell? ⟨w.heap.size, 3, none⟩ = some (.int .u64 au) ∧ wx.cell? ⟨w.heap.size, 4, none⟩ = some (.string az) ∧ wx.cell? ⟨w.heap.size, 5, none⟩ = some (.slice aa an ac) ∧ wx.cell? ⟨w.heap.size, 6, none⟩ = some (.int .i64 bk) ∧ wx.cell? ⟨w.heap.size, 7, none⟩ = some (.int .i64 bi) ∧ wx.cell? ⟨w.heap.size, 8, none⟩ = some (.int .u64 bu) ∧ wx.cell? ⟨w.heap.size, 9, none⟩ = some (.string bs) ∧ wx.cell? ⟨w.heap.size, 10, none⟩ = some (.slice ba bn bc) ∧ wx.cell? ⟨w.heap.size, 11, none⟩ = some (.int .i64 num))) (by kernel_rfl) (KG.out _ (G9.step (Below.drew (Below.refl _ _))) (A9.step (Below.drew (Below.refl _ _)))) (fun hHeld => ?_)
  have A10 := A9.step (Below.drew (Below.refl _ _))
  have X10 := X9.step (Below.drew (Below.refl _ _))
  have G10 := G9.step (Below.drew (Below.refl _ _))
  have B10 := B9.drew
  have PA10 := Lib.hid (PA9.out.below (Below.drew (Below.refl _ _)))
  have PB10 := Lib.hid (PB9.out.below (Below.drew (Below.refl _ _)))
  have RG10 := Lib.hid (Dt.Rep.below (Below.drew (Below.refl _ _)) _ _ _ RG9.out)
  clear A9 X9 G9 B9 PA9 PB9 RG9
  generalize w9.drew = w10 at *
  refine wpAnyH_take (i := 0) (oi := { dst := some 20, op := Op.load 35 (Operand.tmp 4), type := 35, pos := "law.go:30", after := #[], guard := none }) (v := ?tW0) rfl (by kernel_rfl) (by kernel_rfl) (by kernel_rfl) (fun _ _ _ h => h) (Or.inl ⟨by rfl, ?uW0⟩) (by assumption) ?rW0
  case uW0 => (intro w hSw; (try dsimp only at hSw); go_simp; (try with_reducible rfl))
  simp only [Act.put, List.setIfInBounds_toArray, List.set_cons_zero, List.set_cons_succ]
  refine wpAnyH_take (i := 1) (oi := { dst := some 21, op := Op.load 27 (Operand.tmp 1), type := 27, pos := "law.go:30", after := #[], guard := none }) (v := ?tW1) rfl (by kernel_rfl) (by kernel_rfl) (by kernel_rfl) (fun _ _ _ h => h) (Or.inl ⟨by rfl, ?uW1⟩) (by assumption) ?rW1
  case uW1 => (intro w hSw; (try dsimp only at hSw); go_simp; (try with_reducible rfl))
  simp only [Act.put, List.setIfInBounds_toArray, List.set_cons_zero, List.set_cons_succ]
  refine wpAnyH_ready (rs := [2]) (by kernel_rfl) (by simp) ?_
  refine AllReadyH.cons (o := { dst := some 22, op := Op.call { callee := Callee.value (Operand.func 12), args := #[Operand.tmp 21], argTypes := #[27] }, type := 35, pos := "law.go:30", after := #[{ on := 1, ground := Ground.data }], guard := none }) rfl (fun K hK => ?_) AllReadyH.nil
  go_simp
  refine (HR.out _ B10).mono ?_
  rintro e w11 ⟨h0, h1, h2, h3, h4, h5, h6, rfl, rh, b11⟩
  have A11 := A10.step b11
  have X11 := X10.step b11
  have G11 := G10.step b11
  have B11 := B10.trans (b11.mono B10.size)
  have PA11 := Lib.hid (PA10.out.below b11)
  have PB11 := Lib.hid (PB10.out.below b11)
  have RG11 := Lib.hid (Dt.Rep.below b11 _ _ _ RG10.out)
  have RH11 := Lib.hid (Dt.Rf.rep _ _ _ rh)
  clear A10 X10 G10 B10 PA10 PB10 RG10 b11 rh HR
  go_wp2_with fail
  refine hK.out _ _ (KG.out _ G11 A11) (fun hH11 => ?_)
  clear hK K
  (try simp only [Act.put, List.setIfInBounds_toArray, List.set_cons_zero, List.set_cons_succ])
  refine wpAnyH_ready (rs := [3]) (by kernel_rfl) (by simp) ?_
  refine AllReadyH.cons (o := { dst := some 23, op := Op.call { callee := Callee.value (Operand.func 11), args := #[Operand.tmp 20, Operand.tmp 22], argTypes := #[35, 35] }, type := 4, pos := "law.go:30", after := #[{ on := 0, ground := Ground.data }, { on := 2, ground := Ground.data }, { on := 2, ground := Ground.chain }], guard := none }) rfl (fun K hK => ?_) AllReadyH.nil
  go_simp
  refine (rsame_any er pk pn has g0 g1 g2 g3 g4 g5 g6 h0 h1 h2 h3 h4 h5 h6 w11 fun wx hx => Dt.sameD m tr _ _ _ _ _ _ _ _ _ _ wx (Dt.Rep.below hx _ _ _ RG11.out) (Dt.Rep.below hx _ _ _ RH11.out)).mono ?_
  rintro e w12 ⟨rfl, b12⟩
  have A12 := A11.step b12
  have X12 := X11.step b12
  have G12 := G11.step b12
  have B12 := B11.trans (b12.mono B11.size)
  have PA12 := Lib.hid (PA11.out.below b12)
  have PB12 := Lib.hid (PB11.out.below b12)
  clear A11 X11 G11 B11 PA11 PB11 RG11 RH11 b12
  go_wp2_with fail
  refine hK.out _ _ (KG.out _ G12 A12) (fun hH12 => ?_)
  clear hK K
  (try simp only [Act.put, List.setIfInBounds_toArray, List.set_cons_zero, List.set_cons_succ])
  refine wpAnyH_take (i := 4) (oi := { dst := some 24, op := Op.unOp UnOp.not 4 (Operand.tmp 23), type := 4, pos := "law.go:30", after := #[{ on := 3, ground := Ground.data }], guard := none }) (v := ?tY4) rfl (by kernel_rfl) (by kernel_rfl) (by kernel_rfl) (fun _ _ _ h => h) (Or.inl ⟨by rfl, ?uY4⟩) (by assumption) ?rY4
  case uY4 => (intro w hSw; (try dsimp only at hSw); go_simp; (try with_reducible rfl))
  simp only [Act.put, List.setIfInBounds_toArray, List.set_cons_zero, List.set_cons_succ]
  refine wpAnyH_done (by kernel_rfl) ?_ _
  clear hHeld hH11 hH12 KG
  obtain ⟨c0, c1, c2, c3, c4, c5, c6, c7, c8, c9, c10, c11⟩ := A12.c12
  obtain ⟨d0, d1, d2, d3, d4, d5, d6, d7, d8, d9, d10, d11⟩ := X12.c12
  go_wp2_with fail
  refine (HSA.out (X + 1) p0 p1 p2 p3 p4 p5 p6 w12 B12 PA12.out).mono ?_
  rintro e w13 ⟨rfl, b13⟩
  have A13 := A12.step b13
  have X13 := X12.step b13
  have B13 := B12.trans (b13.mono B12.size)
  have PB13 := Lib.hid (PB12.out.below b13)
  clear c0 c1 c2 c3 c4 c5 c6 c7 c8 c9 c10 c11 d0 d1 d2 d3 d4 d5 d6 d7 d8 d9 d10 d11 A12 X12 G12 B12 PA12 PB12 b13 HSA
  obtain ⟨c0, c1, c2, c3, c4, c5, c6, c7, c8, c9, c10, c11⟩ := A13.c12
  obtain ⟨d0, d1, d2, d3, d4, d5, d6, d7, d8, d9, d10, d11⟩ := X13.c12
  go_wp2_with fail
  refine (HSB.out (X + 1) q0 q1 q2 q3 q4 q5 q6 w13 B13 PB13.out).mono ?_
  rintro e w14 ⟨rfl, b14⟩
  have B14 := B13.trans (b14.mono B13.size)
  clear c0 c1 c2 c3 c4 c5 c6 c7 c8 c9 c10 c11 d0 d1 d2 d3 d4 d5 d6 d7 d8 d9 d10 d11 A13 X13 B13 PB13 b14 HSB
  go_wp2_with fail
  refine (HW.out _).mono ?_
  rintro e w15 ⟨rfl, b15⟩
  have B15 := B14.trans (b15.mono B14.size)
  go_wp2
  go_ret
  exact ⟨rfl, B15⟩

theorem valid_pts' {n : Nat} {t : Dt.Tr n} (h : Dt.vB n t = true) : Dt.rgt n t = true ∧ (Dt.pts n t).1 ≤ 4096 := by
  have S := Dt.say 16 n t 1 4096 (by decide) (by decide) (by decide)
  obtain ⟨h1, h2, -⟩ := S.down h
  obtain ⟨h3, -, h4, -, -⟩ := S.fit h2
  refine ⟨h1, ?_⟩
  rw [h3]; exact h4
theorem one_kid {n : Nat} {t : Dt.Tr (n + 1)} (h : Dt.rgt (n + 1) t = true) (hk : t.kd = 11) : t.ks.length = 1 := by
  simp only [Dt.rgt, Bool.and_eq_true] at h
  have := h.1
  simp [Dt.Tr.ok, Dt.okB, hk] at this
  omega

theorem law_tries (nA nB : Nat) (tA : Dt.Tr nA) (tB : Dt.Tr nB) (op : Int) (ak ai au : Int) (az : ByteArray) (aa : Option Addr) (an ac : Nat) (bk bi bu : Int) (bs : ByteArray) (ba : Option Addr) (bn bc : Nat) (num : Int) (w : World) (hA : Dt.Rep w nA [.int .i64 ak, .int .i64 ai, .int .u64 au, .string az, .slice aa an ac] tA) (hB : Dt.Rep w nB [.int .i64 bk, .int .i64 bi, .int .u64 bu, .string bs, .slice ba bn bc] tB) (r6A : Dt.r64 nA tA) (r6B : Dt.r64 nB tB) :
    Calls Tryz.prog 3 #[.agg (acs op ak ai au az aa an ac bk bi bu bs ba bn bc num)] w fun e w' => e = .returned (.bool true) ∧ Below w.heap.size w w' := by
  have HF : ∀ wx, Below w.heap.size w wx → Calls Tryz.prog 7 #[.agg (acs op ak ai au az aa an ac bk bi bu bs ba bn bc num)] wx fun e w' => e = .returned (.bool (Dt.vB nA tA && Dt.vB nB tB)) ∧ Below wx.heap.size wx w' := fun wx hx =>
    act_fit op ak ai au az aa an ac bk bi bu bs ba bn bc num _ _ wx (fun wy hy => Dt.refValid nA tA _ _ _ _ _ wy (Dt.Rep.below (hx.trans (hy.mono hx.size)) _ _ _ hA)) (fun wy hy => Dt.refValid nB tB _ _ _ _ _ wy (Dt.Rep.below (hx.trans (hy.mono hx.size)) _ _ _ hB))
  cases hv : (Dt.vB nA tA && Dt.vB nB tB) with
  | false =>
    rw [hv] at HF
    exact gt_bad op ak ai au az aa an ac bk bi bu bs ba bn bc num w HF
  | true =>
    rw [hv] at HF
    simp only [Bool.and_eq_true] at hv
    obtain ⟨vA, vB⟩ := hv
    obtain ⟨rA, pA⟩ := valid_pts' vA
    obtain ⟨rB, pB⟩ := valid_pts' vB
    match nA, tA, hA, r6A, vA, rA, pA, nB, tB, hB, r6B, vB, rB, pB with
    | mA + 1, tA, hA, r6A, vA, rA, pA, mB + 1, tB, hB, r6B, vB, rB, pB =>
      have VA : Vl w mA tA ak ai au az aa an ac := ⟨rA, pA, r6A, hA⟩
      have VB : Vl w mB tB bk bi bu bs ba bn bc := ⟨rB, pB, r6B, hB⟩
      obtain ⟨er, pk, pn, has, m, tr, T1, T2⟩ := two op num mA mB tA tB vA vB (by rw [VA.eq.1]; exact VA.kind) (one_kid rA)
      refine gt_good op ak ai au az aa an ac bk bi bu bs ba bn bc num mA mB tA tB er pk pn has m tr w HF (fun H wx hx hH => ?_) (fun H wx hx hH => ?_) (fun H p0 p1 p2 p3 p4 p5 p6 q0 q1 q2 q3 q4 q5 q6 wx ca cb => ?_) (fun wx hx => ?_) (fun H p0 p1 p2 p3 p4 p5 p6 wx hx ca => ?_) (fun H p0 p1 p2 p3 p4 p5 p6 wx hx cb => ?_)
      · exact rcopy_rf w (mA + 1) tA ak ai au az aa an ac pA hA wx hx H hH
      · exact rcopy_rf w (mB + 1) tB bk bi bu bs ba bn bc pB hB wx hx H hH
      · exact T1 wx p0 p1 p2 p3 p4 p5 p6 q0 q1 q2 q3 q4 q5 q6 ⟨rA, pA, r6A, Dt.Rf.rep _ _ _ ca⟩ ⟨rB, pB, r6B, Dt.Rf.rep _ _ _ cb⟩ wx (Below.refl _ _)
      · exact T2 w ak ai au az aa an ac bk bi bu bs ba bn bc VA VB wx hx
      · exact Dt.sameD (mA + 1) tA _ _ _ _ _ _ _ _ _ _ wx (Dt.Rf.rep _ _ _ ca) (Dt.Rep.below hx _ _ _ hA)
      · exact Dt.sameD (mB + 1) tB _ _ _ _ _ _ _ _ _ _ wx (Dt.Rf.rep _ _ _ cb) (Dt.Rep.below hx _ _ _ hB)
end Go.Proofs.YthamafijjflfbaaGreat
