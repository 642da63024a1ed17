/- Sifting up; taking the least one out, putting one in; conditions: the row in memory. -/
import Derived.Test.YtblpafmcnhhdpaaHd
namespace Go.Proofs.Ytblpafmcnhhdpaa
open Go.RowKit

/-- Where sifting up stands. -/
structure Up (w : World) (Wb X G : Nat) (v0 v1 : Value) (F : List Nat) (j : Nat) (F' : List Nat) (sv : Value) (wx : World) : Prop where
  h : Hs wx Wb X G v0 v1 F' sv
  fx : Fx X G Wb w wx
  p : F'.Perm F
  k : Su F.length (gt F') j
theorem Up.len {w : World} {Wb X G : Nat} {v0 v1 : Value} {F : List Nat} {i : Nat} {F' : List Nat} {sv : Value} {wx : World} (h : Up w Wb X G v0 v1 F i F' sv wx) : F'.length = F.length := h.p.length_eq
theorem Up.below {w : World} {Wb X G : Nat} {v0 v1 : Value} {F : List Nat} {i : Nat} {F' : List Nat} {sv : Value} {wx wy : World} (h : Up w Wb X G v0 v1 F i F' sv wx) (hX : X ≤ wx.heap.size) (hb : Below wx.heap.size wx wy) : Up w Wb X G v0 v1 F i F' sv wy := ⟨h.h.below hb, h.fx.trans (Fx.of hb hX h.h.gs), h.p, h.k⟩
theorem Up.next {w : World} {Wb X G : Nat} {v0 v1 : Value} {F : List Nat} {i j : Nat} {F' : List Nat} {sv : Value} {wx wy : World} (h : Up w Wb X G v0 v1 F j F' sv wx) (hs : Hs wy Wb X G v0 v1 (swl F' i j) sv) (hf : Fx X G Wb wx wy) (hc : Ch i j) (hj : j < F.length) (ha : gt F' j < gt F' i) : Up w Wb X G v0 v1 F i (swl F' i j) sv wy := by
  have hl := h.len
  have hic : i < j := by unfold Ch at hc; omega
  exact ⟨hs, h.fx.trans hf, (swl_perm (by omega) (by omega)).trans h.p, (h.k.step hc hj ha).congr fun q => (swl_gt (by omega) (by omega) q).symm⟩

set_option maxRecDepth 100000 in
set_option maxHeartbeats 2000000 in
theorem up_any {Wb X G : Nat} {v0 v1 sv : Value} {F : List Nat} {j0 : Nat} (w : World) (h : Hs w Wb X G v0 v1 F sv) (hX : X ≤ w.heap.size) (hj : j0 < F.length) (hF : F.length ≤ 1001) (hk : Su F.length (gt F) j0) : Calls Try.prog 22 #[hv Wb, .int .i64 j0] w fun e w' => e = .returned (.tuple #[]) ∧ ∃ F', Hs w' Wb X G v0 v1 F' sv ∧ Fx X G Wb w w' ∧ F'.Perm F ∧ Hp F.length (gt F') := by
  have ST := Lib.hid (show Up w Wb X G v0 v1 F j0 F sv w from ⟨h, Fx.refl _ _ _ _, .refl _, hk⟩)
  clear h hk
  have cl := cf_less
  have cs := cf_swap
  go_enter Try.func22, Try.ntmps22
  go_wp2_with fail
  go_loopg [1, 4] j0 (fun g s1 s4 wx => ∃ (j : Nat) (F' : List Nat), j ≤ g ∧ j ≤ j0 ∧ s1 = .int .i64 j ∧ Up w Wb X G v0 v1 F j F' sv wx)
  case atStart => exact ⟨j0, F, by omega, by omega, rfl, ST.out⟩
  case round =>
    obtain ⟨j, F', hg, hj0, rfl, hD⟩ := hrel
    have hl := hD.len
    have HD := Lib.hid hD
    have X1 : X ≤ wr.heap.size := Nat.le_trans hX hD.fx.size
    clear hD ST
    by_cases h0 : j = 0
    · subst h0
      go_wp2_with fail
      go_end0
      exact ⟨rfl, F', HD.out.h, HD.out.fx, HD.out.p, HD.out.k.top⟩
    · obtain ⟨i, hi⟩ : ∃ i, i = (j - 1) / 2 := ⟨_, rfl⟩
      have e1 : Int.tdiv ((j : Int) - 1) 2 = (i : Int) := by
        rw [Int.tdiv_eq_ediv_of_nonneg (by omega)]
        omega
      have hij : ¬ (i : Int) = (j : Int) := by omega
      have ch1 : Ch i j := by unfold Ch; omega
      have ml := me_less HD.out.h.c
      have HC := Lib.hid ch1
      have LS := Lib.hid (less_any j i wr HD.out.h.row (by omega) (by omega))
      have hlt : i < j := by omega
      clear hi ch1
      go_wp2_with fail
      refine LS.out.mono ?_
      rintro e w1 ⟨rfl, b1⟩
      have HD1 := Lib.hid (HD.out.below X1 b1)
      have X2 : X ≤ w1.heap.size := Nat.le_trans X1 b1.size
      cases hr : decide (gt F' j < gt F' i) with
      | false =>
        go_wp2_with fail
        go_end0
        exact ⟨rfl, F', HD1.out.h, HD1.out.fx, HD1.out.p, HD1.out.k.done HC.out (of_decide_eq_false hr)⟩
      | true =>
        have ms2 := me_swap HD1.out.h.c
        have SW := Lib.hid (swap_any i j w1 HD1.out.h (by omega) (by omega))
        go_wp2_with fail
        refine SW.out.mono ?_
        rintro e w3 ⟨rfl, s3, f3⟩
        have N3 := Lib.hid (HD1.out.next s3 f3 HC.out (by omega) (of_decide_eq_true hr))
        clear s3 f3 ms2 ml
        go_wp2
        go_roundg i
        case measure => omega
        case rel => exact ⟨i, _, by omega, by omega, rfl, N3.out⟩

theorem gt_mem {F : List Nat} {q : Nat} (h : q < F.length) : gt F q ∈ F := List.mem_of_getElem? (gt_is h)
theorem mem_gt {F : List Nat} {x : Nat} (h : x ∈ F) : ∃ q, q < F.length ∧ gt F q = x := by
  obtain ⟨q, hq⟩ := List.mem_iff_getElem?.1 h
  have hl := (List.getElem?_eq_some_iff.1 hq).1
  refine ⟨q, hl, ?_⟩
  unfold gt
  rw [hq]
  rfl
set_option maxRecDepth 100000 in
set_option maxHeartbeats 2000000 in
theorem hpop_any {Wb X G : Nat} {v0 v1 sv : Value} {F : List Nat} {m : Nat} (w : World) (h : Hs w Wb X G v0 v1 F sv) (hX : X ≤ w.heap.size) (hm : F.length = m + 1) (hF : F.length ≤ 1000) (hp : Hp F.length (gt F)) : Calls Try.prog 19 #[hv Wb] w fun e w' => ∃ (i : Nat) (F2 : List Nat) (sv2 : Value), e = .returned (.iface 3 (.int .i64 (i : Int))) ∧ Hs w' Wb X G v0 v1 F2 sv2 ∧ Fx X G Wb w w' ∧ (i :: F2).Perm F ∧ (∀ x ∈ F, i ≤ x) ∧ Hp F2.length (gt F2) := by
  obtain ⟨g, c, rfl, -, -, -⟩ := h.row.at (by omega)
  have m1 := me_len h.c
  have m2 := me_swap h.c
  have cl := cf_len
  have cs := cf_swap
  have cp := cf_pop
  have mp := me_pop Wb 2
  have LN := Lib.hid (len_any (some ⟨g, 0, none⟩) F.length c w)
  have SW := Lib.hid (swap_any 0 m w h (by omega) (by omega))
  have e1 : (F.length : Int) - 1 = (m : Int) := by omega
  have HM := Lib.hid hm
  have HP := Lib.hid hp
  clear h hp hm
  go_enter Try.func19, Try.ntmps19
  go_wp2_with fail
  refine LN.out.mono ?_
  rintro e w1 ⟨rfl, rfl⟩
  go_wp2_with fail
  refine SW.out.mono ?_
  rintro e w2 ⟨rfl, s2, f2⟩
  have hl2 := swl_len F 0 m
  have X2 : X ≤ w2.heap.size := Nat.le_trans hX f2.size
  have DN := Lib.hid (down_any (m := m) w2 s2 X2 (by have := HM.out; omega) (by omega) (HP.out.pop HM.out))
  have F2 := Lib.hid f2
  clear s2 f2 m1 m2
  go_wp2_with fail
  refine DN.out.mono ?_
  rintro e w3 ⟨⟨b, rfl⟩, F', s3, f3, p3, h3, o3⟩
  have hl3 := p3.length_eq
  have X3 : X ≤ w3.heap.size := Nat.le_trans X2 f3.size
  have PP := Lib.hid (pop_any (m := m) w3 s3 (by have := HM.out; omega) (by omega))
  have F3 := Lib.hid f3
  have P3 := Lib.hid p3
  have H3 := Lib.hid h3
  have O3 := Lib.hid o3
  clear s3 f3 p3 h3 o3
  go_wp2_with fail
  refine PP.out.mono ?_
  rintro e w4 ⟨rfl, ⟨sv4, s4⟩, f4⟩
  have hm := HM.out
  have e5 : gt F' m = gt F 0 := by
    rw [O3.out m (Nat.le_refl _), swl_gt (by omega) (by omega)]
    by_cases h0 : m = 0
    · subst h0; rw [sp_l]
    · rw [sp_r _ _ _ (by omega)]
  have RES : ∃ (i : Nat) (F2 : List Nat) (sv2 : Value), Ending.returned (.iface 3 (.int .i64 (gt F' m : Nat))) = .returned (.iface 3 (.int .i64 (i : Int))) ∧ Hs w4 Wb X G v0 v1 F2 sv2 ∧ Fx X G Wb w1 w4 ∧ (i :: F2).Perm F ∧ (∀ x ∈ F, i ≤ x) ∧ Hp F2.length (gt F2) := by
    refine ⟨gt F' m, F'.take m, sv4, rfl, s4, F2.out.trans (F3.out.trans f4), ?_, fun x hx => ?_, ?_⟩
    · have h9 := (P3.out.trans (swl_perm (F := F) (i := 0) (j := m) (by omega) (by omega)))
      have h8 : F' = F'.take m ++ [gt F' m] := take_last (by omega)
      rw [h8] at h9
      exact (List.perm_append_comm (l₁ := [gt F' m]) (l₂ := F'.take m)).trans h9
    · rw [e5]
      obtain ⟨q, hq, rfl⟩ := mem_gt hx
      exact HP.out.first q hq
    · have e6 : (F'.take m).length = m := by simp; omega
      rw [e6]
      exact H3.out.congr fun q hq => (gt_take F' m q hq).symm
  have HR := Lib.hid RES
  clear RES e5 s4 f4
  go_wp2
  go_ret
  exact HR.out

set_option maxRecDepth 100000 in
set_option maxHeartbeats 2000000 in
theorem hpush_any {Wb X G : Nat} {v0 v1 sv : Value} {F : List Nat} (k : Nat) (w : World) (h : Hs w Wb X G v0 v1 F sv) (hX : X ≤ w.heap.size) (hF : F.length ≤ 1000) (hp : Hp F.length (gt F)) : Calls Try.prog 20 #[hv Wb, .iface 3 (.int .i64 (k : Int))] w fun e w' => e = .returned (.tuple #[]) ∧ ∃ (F2 : List Nat) (sv2 : Value), Hs w' Wb X G v0 v1 F2 sv2 ∧ Fx X G Wb w w' ∧ F2.Perm (k :: F) ∧ Hp F2.length (gt F2) := by
  have cl := cf_len
  have cp := cf_push
  have mp := me_push Wb 2
  have PS := Lib.hid (push_any k w h hX hF)
  have HP := Lib.hid hp
  clear h hp
  go_enter Try.func20, Try.ntmps20
  go_wp2_with fail
  refine PS.out.mono ?_
  rintro e w1 ⟨rfl, ⟨sv1, s1⟩, f1⟩
  have hl1 : (F ++ [k]).length = F.length + 1 := by simp
  have X1 : X ≤ w1.heap.size := Nat.le_trans hX f1.size
  obtain ⟨g, c, e1, -, -, -⟩ := s1.row.at (by omega)
  have m1 := me_len s1.c
  have UP := Lib.hid (up_any (j0 := F.length) w1 s1 X1 (by omega) (by omega) (by rw [hl1]; exact HP.out.push k))
  subst e1
  have F1 := Lib.hid f1
  have LN := Lib.hid (len_any (some ⟨g, 0, none⟩) (F ++ [k]).length c w1)
  have e2 : ((F ++ [k]).length : Int) - 1 = (F.length : Int) := by omega
  have HL1 := Lib.hid hl1
  clear hl1
  generalize (F ++ [k]).length = N at *
  clear s1 f1
  go_wp2_with fail
  refine LN.out.mono ?_
  rintro e w2 ⟨rfl, rfl⟩
  go_wp2_with fail
  refine UP.out.mono ?_
  rintro e w3 ⟨rfl, F', s3, f3, p3, h3⟩
  have RES : ∃ (F2 : List Nat) (sv2 : Value), Hs w3 Wb X G v0 v1 F2 sv2 ∧ Fx X G Wb w w3 ∧ F2.Perm (k :: F) ∧ Hp F2.length (gt F2) := by
    refine ⟨F', _, s3, F1.out.trans f3, p3.trans (List.perm_append_comm (l₁ := F) (l₂ := [k])), ?_⟩
    have := p3.length_eq
    simp at this
    rw [this, ← HL1.out]
    exact h3
  have HR := Lib.hid RES
  clear RES s3 f3 p3 h3
  go_wp2_with fail
  go_end0
  exact ⟨rfl, HR.out⟩
end Go.Proofs.Ytblpafmcnhhdpaa
