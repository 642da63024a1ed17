/- The package's Methods and Missing at any two numbers: the document's; no condition. -/
import Derived.Test.YtajagjcfmaggiaaGreatDoorKCcf
namespace Go.Proofs.YtajagjcfmaggiaaGreatDoor
open Go.RowKit

theorem ir_own {w : World} {base : Nat} {v : Value} {l : List Int} (h : w.ownsRow base 3 1 v l.length (l.map (Value.int .i64))) : IR w v l := by
  obtain ⟨-, h | ⟨g, cap, cur, hv, -, hg, hc, hm, hs, ht⟩⟩ := h
  · obtain ⟨rfl, h0⟩ := h
    have : l = [] := List.eq_nil_of_length_eq_zero h0
    subst this
    exact ⟨none, 0, rfl, Nat.le_refl _, by unfold maxLen; omega, .inl rfl⟩
  · refine ⟨some ⟨g, 0, none⟩, cap, hv, hc, hm, .inr ⟨g, rfl, fun j x hj => ?_⟩⟩
    have hl : j < l.length := (List.getElem?_eq_some_iff.1 hj).1
    have h1 : (cur.toList.take (l.length * 1))[j]? = some (.int .i64 x) := by rw [ht, List.getElem?_map, hj]; rfl
    rw [List.getElem?_take_of_lt (by omega)] at h1
    have h2 : cur[j]? = some (.int .i64 x) := by rw [← Array.getElem?_toList]; exact h1
    simp [World.cell?, hg, h2]

set_option maxRecDepth 100000 in
set_option maxHeartbeats 2000000 in
theorem methods_any (f : Int) (w : World) : Calls Tryz.prog 140 #[.int .i64 f] w fun e w' => ∃ v, e = .returned v ∧ IR w' v (mths f) ∧ Below w.heap.size w w' := by
  obtain ⟨i0, hi, hz0, hz1, hz2⟩ := infoInt_parts
  obtain ⟨M, hM, hlt256, hms⟩ := mbits_mset f
  have HI := Lib.hid (interfaceOf_any f)
  rw [hM] at HI
  rw [← hms]
  have hfd : ∀ (Q : TypeId) (m : Int) (w : World), (Instr.field 87 (.agg #[.iface Q (.agg #[]), .int .u8 m]) 1).run Tryz.prog w = .ok (.int .u8 m) w := fun _ _ _ => by kernel_rfl
  clear hM hms
  generalize qfc f = Q at HI
  go_enter Tryz.func140, Tryz.ntmps140
  go_wp2_with fail
  refine (HI.out _).mono ?_
  rintro e w1 ⟨rfl, b1⟩
  go_wp2_with fail
  go_loopw [3, 9] (fun sl si wr => ∃ (j : Nat) (a' : Option Addr) (l' c' : Nat), sl = .slice a' l' c' ∧ si = .int .i64 j ∧ j ≤ 6 ∧ wr.ownsRow w.heap.size 3 1 (.slice a' l' c') (mset M j).length ((mset M j).map (Value.int .i64)) ∧ Below w.heap.size w wr) (fun _ si _ => 6 - (intOf si).toNat)
  case atStart => exact ⟨0, none, 0, 0, rfl, rfl, Nat.zero_le _, World.ownsRow_nil _ _ _ _, b1⟩
  case round =>
    obtain ⟨j, a', l', c', rfl, rfl, hj, ow, bw⟩ := hrel
    by_cases hlt : j < 6
    · have j0 : (0 : Int) ≤ (j : Int) := by omega
      have j1 : (j : Int) ≤ 8 := by omega
      have j2 : (j : Int) < 6 := by omega
      have ha := and1 M j hlt256
      have hln := mset_len M j
      by_cases hb : M / 2 ^ j % 2 = 1
      · rw [hb] at ha
        have HO := Lib.hid ow
        go_wp2_with (at_builtin; refine wpList_append_lies _ rfl _ _ 43 rfl w.heap.size 3 i0 (.int .i64 0) 1 8 Tryz.underlying43 hi hz0 hz1 hz2 rfl (by decide) (.slice a' l' c') (mset M j).length ((mset M j).map (Value.int .i64)) rfl (ow.alloc _) ⟨wr.heap.size, 0, none⟩ 1 1 [.int .i64 j] rfl rfl ?hnews ?h1 (by decide) ?h63 ?hby ?hbase _ rfl ?next)
        case hnews => intro a b hab; exact World.news_of_block (heap_alloc_new wr _) a b (by simpa using hab)
        case h1 => intro a ha; simp at ha; subst ha; rfl
        case h63 => unfold maxLen; omega
        case hby => omega
        case hbase => have := bw.size; simp; omega
        intro g' cap2 w4 own4 gr4 at4 lt4
        have B4 : Below w.heap.size w w4 := (bw.alloc bw.size _).grown gr4 (by have := bw.size; simp; omega) (fun k hk => by
          rcases HO.out.2 with ⟨e0, -⟩ | ⟨g2, c2, cu, e1, e2, -⟩
          · rw [e0] at hk; cases hk
          · rw [e1] at hk; have := Option.some.inj hk; simp at this; omega)
        have O4 : w4.ownsRow w.heap.size 3 1 (.slice (some ⟨g', 0, none⟩) ((mset M j).length + 1) cap2) (mset M (j + 1)).length ((mset M (j + 1)).map (Value.int .i64)) := by rw [mset_yes M j hb, mset_len_yes M j hb]; exact own4
        clear own4 gr4 at4 ow HO ha
        go_wp2_with fail
        exact ⟨⟨j + 1, _, _, _, rfl, by go_num, by omega, O4, B4⟩, by simp [intOf]; omega⟩
      · have hb' : M / 2 ^ j % 2 = 0 := by omega
        rw [hb'] at ha
        rw [← mset_no M j hb] at ow
        go_wp2_with fail
        exact ⟨⟨j + 1, _, _, _, rfl, by go_num, by omega, ow, bw⟩, by simp [intOf]; omega⟩
    · obtain rfl : j = 6 := by omega
      have j2 : ¬ (((6 : Nat) : Int) < 6) := by omega
      go_wp2_with fail
      go_ret
      exact ⟨_, rfl, ir_own ow, bw⟩

set_option maxRecDepth 100000 in
set_option maxHeartbeats 1000000 in
theorem missing_any (k f : Int) (w : World) : Calls Tryz.prog 132 #[.int .i64 k, .int .i64 f] w fun e w' => e = .returned (.int .i64 (lacks k f)) ∧ Below w.heap.size w w' := by
  have HK := Lib.hid (isKind_any k)
  by_cases h : 0 ≤ k ∧ k < 14
  · rw [decide_eq_true h] at HK
    have e : lacks k f = lackL k (mths f) := by unfold lacks; rw [if_neg (by omega)]
    rw [e]; clear e h
    have H := Lib.hid (methods_any f)
    have hbd := (mths_bd f).1
    generalize mths f = l at H hbd
    have HR : Hid (∀ m wx, Below w.heap.size w wx → Calls Tryz.prog 141 #[.int .i64 k, .int .i64 m] wx fun e w' => e = .returned (.bool (refHas k m)) ∧ Below w.heap.size w w' ∧ Below wx.heap.size wx w') := fun m wx hx => (has_any k m wx).mono fun e w' ⟨a, b⟩ => ⟨a, hx.trans (b.mono hx.size), b⟩
    go_enter Tryz.func132, Tryz.ntmps132
    go_wp2_with fail
    refine (HK.out _).mono ?_
    rintro e w0 ⟨rfl, hw0⟩
    have hw1 := hw0.symm
    clear hw0
    subst hw1
    go_wp2_with fail
    refine (H.out _).mono ?_
    rintro e w1 ⟨v, rfl, ir, b1⟩
    have IRH := Lib.hid ir
    obtain ⟨ad, cap, rfl, hc, hm, -⟩ := ir
    clear H
    unfold maxLen at hm
    go_wp2_with fail
    go_loopw [13] (fun si wr => ∃ (j : Nat), si = .int .i64 j ∧ j ≤ l.length ∧ lackL k (l.drop j) = lackL k l ∧ Below w.heap.size w wr ∧ Below w1.heap.size w1 wr) (fun si _ => l.length - (intOf si).toNat)
    case atStart => exact ⟨0, rfl, Nat.zero_le _, rfl, b1, Below.refl _ _⟩
    case round =>
      obtain ⟨j, rfl, hj, hinv, hb, hb1⟩ := hrel
      have HV := Lib.hid hinv
      clear hinv
      by_cases hlt : j < l.length
      · have hne : l ≠ [] := by intro e; rw [e] at hlt; exact absurd hlt (Nat.not_lt_zero _)
        obtain ⟨ad', cap', e1, -, -, hr⟩ := IRH.out.below hb1
        rcases hr with hk | ⟨g, hk1, hk2⟩
        · exact absurd hk hne
        subst hk1
        simp only [Value.slice.injEq] at e1
        obtain ⟨rfl, -, rfl⟩ := e1
        have x0 := hk2 j _ (List.getElem?_eq_getElem hlt)
        have hv := HV.out
        rw [drop_atW l j hlt, lackL_cons] at hv
        clear HV hk2
        generalize l[j] = m at hv x0
        go_wp2_with fail
        refine (HR.out m _ hb).mono ?_
        rintro e w2 ⟨he, b2, b3⟩
        cases hbb : refHas k m with
        | true =>
          rw [hbb] at he
          rw [if_pos hbb] at hv
          have HW := Lib.hid hv
          clear hv hbb
          subst he
          go_wp2_with fail
          exact ⟨⟨j + 1, by go_num, by omega, HW.out, b2, hb1.trans (b3.mono hb1.size)⟩, by simp [intOf]; omega⟩
        | false =>
          rw [hbb] at he
          rw [if_neg (by rw [hbb]; decide)] at hv
          have HW := Lib.hid hv
          clear hv hbb
          subst he
          go_wp2_with fail
          go_ret
          exact ⟨by rw [← HW.out]; rfl, b2⟩
      · have hje : j = l.length := by omega
        have hv := HV.out
        rw [hje, List.drop_length] at hv
        have HW := Lib.hid hv
        clear hv HV
        go_wp2_with fail
        go_ret
        exact ⟨by rw [← HW.out]; rfl, hb⟩
  · rw [decide_eq_false h] at HK
    have e : lacks k f = -1 := by unfold lacks; rw [if_pos (by omega)]
    rw [e]; clear e h
    go_enter Tryz.func132, Tryz.ntmps132
    go_wp2_with fail
    refine (HK.out _).mono ?_
    rintro e w0 ⟨rfl, hw0⟩
    have hw1 := hw0.symm
    clear hw0
    subst hw1
    go_wp2
    go_ret
    exact ⟨rfl, Below.refl _ _⟩
end Go.Proofs.YtajagjcfmaggiaaGreatDoor
