/- The package's First: the place of the first right pattern that holds of the value; the conditions: the patterns' trees lie in memory and are right, the value's kind is one. -/
import Derived.Test.YtokiaolgdkikiaaGreatPub
namespace Go.Proofs.YtokiaolgdkikiaaGreat
open Go.RowKit

/-- The patterns ts lie in w from ad on. -/
def RowW (w : World) (n : Nat) (ad : Option Addr) (ts : List (Wt n)) : Prop := ts = [] ∨ ∃ g o, ad = some ⟨g, o, none⟩ ∧ ∀ (j : Nat) (t' : Wt n), ts[j]? = some t' → ∃ v0 v1 v2, w.cell? ⟨g, o + j * 3, none⟩ = some v0 ∧ w.cell? ⟨g, o + j * 3 + 1, none⟩ = some v1 ∧ w.cell? ⟨g, o + j * 3 + 2, none⟩ = some v2 ∧ RepW w n [v0, v1, v2] t'
theorem RowW.below {w w' : World} (hb : Below w.heap.size w w') {n : Nat} {ad : Option Addr} {ts : List (Wt n)} (h : RowW w n ad ts) : RowW w' n ad ts := by
  rcases h with h | ⟨g, o, h1, h2⟩
  · exact .inl h
  · refine .inr ⟨g, o, h1, fun j t' hj => ?_⟩
    obtain ⟨v0, v1, v2, c0, c1, c2, r⟩ := h2 j t' hj
    have hg : g < w.heap.size := World.block_lt_of_cell? w _ c0
    exact ⟨v0, v1, v2, (hb.cell (p := ⟨g, _, none⟩) hg).trans c0, (hb.cell (p := ⟨g, _, none⟩) hg).trans c1, (hb.cell (p := ⟨g, _, none⟩) hg).trans c2, RepW.below hb n _ _ r⟩

set_option maxRecDepth 100000 in
set_option maxHeartbeats 2000000 in
theorem firstP (n : Nat) (ts : List (Wt n)) (ad : Option Addr) (cap : Nat) (k i b : Int) (s : ByteArray) (dd : Option Addr) (dl dc : Nat) (w : World) (hcap : ts.length ≤ cap) (hmax : cap ≤ maxLen) (hr : RowW w n ad ts) (hg : ∀ t ∈ ts, wgt n t = true) (k0 : 0 ≤ k) (k1 : k ≤ 13) :
    Calls Tryz.prog 36 #[.slice ad ts.length cap, .agg #[.int .i64 k, .int .i64 i, .int .u64 b, .string s, .slice dd dl dc]] w fun e w' => e = .returned (.int .i64 (fst (fun x => evk n x k) ts 0)) ∧ Below w.heap.size w w' := by
  unfold maxLen at hmax
  have HC : Hid (∀ (t : Wt n) (v0 v1 v2 u : Value) (wx : World), t ∈ ts → Kd k u → RepW w n [v0, v1, v2] t → Below w.heap.size w wx → Calls Tryz.prog 39 #[.agg #[v0, v1, v2], u] wx fun e w' => e = .returned (.bool (evk n t k)) ∧ Below w.heap.size w w') := fun t v0 v1 v2 u wx ht hu hx hb => since (holds_any n t v0 v1 v2 u k wx (RepW.below hb n _ _ hx) (hg t ht) hu k0 k1) hb
  have HO : Hid (∀ wx, Below w.heap.size w wx → Calls Tryz.prog 40 #[.int .i64 k] wx fun e w' => ∃ u, e = .returned u ∧ Kd k u ∧ Below w.heap.size w w') := fun wx hx => sinceKd (ofKind_any k wx) hx
  have HK := Lib.hid hr
  clear hg k0 k1 hr
  generalize hpp : (fun x : Wt n => evk n x k) = pp
  have HP := Lib.hid hpp
  clear hpp
  go_enter Tryz.func36, Tryz.ntmps36
  go_wp2_with fail
  refine (HO.out _ (below1 w _)).mono ?_
  rintro e w0 ⟨u, rfl, hu, b0⟩
  go_wp2_with fail
  go_loopw [13] (fun si wr => ∃ (j : Nat), si = .int .i64 j ∧ j ≤ ts.length ∧ fst pp (ts.drop j) j = fst pp ts 0 ∧ Below w.heap.size w wr) (fun si _ => ts.length - (intOf si).toNat)
  case atStart => exact ⟨0, rfl, Nat.zero_le _, rfl, b0⟩
  case round =>
    obtain ⟨j, rfl, hj, hinv, hb⟩ := hrel
    have HV := Lib.hid hinv
    clear hinv b0
    by_cases hlt : j < ts.length
    · have hne : ts ≠ [] := by intro e; rw [e] at hlt; exact absurd hlt (Nat.not_lt_zero _)
      rcases HK.out with hk | ⟨g, o, hk1, hk2⟩
      · exact absurd hk hne
      subst hk1
      obtain ⟨v0, v1, v2, e0, e1, e2, rk⟩ := hk2 j _ (List.getElem?_eq_getElem hlt)
      have hgl : g < w.heap.size := World.block_lt_of_cell? w _ e0
      have x0 := (hb.cell (p := ⟨g, o + j * 3, none⟩) hgl).trans e0
      have x1 := (hb.cell (p := ⟨g, o + j * 3 + 1, none⟩) hgl).trans e1
      have x2 := (hb.cell (p := ⟨g, o + j * 3 + 2, none⟩) hgl).trans e2
      clear e0 e1 e2 hk2 HK
      obtain ⟨u0, u1, a4, n4, c4, rfl, rfl, rfl⟩ := repW_shape rk
      go_wp2_with fail
      refine (HC.out ts[j] _ _ _ u _ (List.getElem_mem hlt) hu rk (hb.trans ((below1 wr _).mono hb.size))).mono ?_
      rintro e w1 ⟨he, b1⟩
      have hv := HV.out
      rw [drop_atW ts j hlt, fst_cons] at hv
      clear x0 x1 x2 rk HV
      obtain ⟨bb, hbb⟩ : ∃ bb : Bool, (evk n ts[j] k) = bb := ⟨_, rfl⟩
      have hpb : pp ts[j] = bb := by rw [← HP.out]; exact hbb
      rw [hbb] at he
      clear hbb
      subst he
      cases bb with
      | true =>
        rw [if_pos hpb] at hv
        have HW := Lib.hid hv
        clear hv hpb
        go_wp2_with fail
        go_ret
        exact ⟨by rw [← HW.out]; rfl, b1⟩
      | false =>
        rw [if_neg (by rw [hpb]; decide)] at hv
        have HW := Lib.hid hv
        clear hv hpb
        go_wp2_with fail
        exact ⟨⟨j + 1, by go_num, by omega, HW.out, b1⟩, by simp [intOf]; omega⟩
    · have hje : j = ts.length := by omega
      have hv := HV.out
      rw [hje, List.drop_length] at hv
      have HW := Lib.hid hv
      clear hv HV
      go_wp2_with fail
      go_ret
      exact ⟨by rw [← HW.out]; rfl, hb⟩
end Go.Proofs.YtokiaolgdkikiaaGreat
