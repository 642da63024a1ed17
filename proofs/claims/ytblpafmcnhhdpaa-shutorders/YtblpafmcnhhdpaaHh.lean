/- Closing one of those that wait for nobody; conditions: the lists in memory, not too many. -/
import Derived.Test.YtblpafmcnhhdpaaHg
namespace Go.Proofs.Ytblpafmcnhhdpaa
open Go.RowKit

set_option maxRecDepth 100000 in
set_option maxHeartbeats 4000000 in
theorem close_any {A : List (List Int)} {w1 : World} {L X G Wb ga gb : Nat} {F acc : List Nat} {sv : Value} {w : World} (hc : Wc A w1 L X Wb ga gb) (h : Wt A w1 L X G Wb ga gb F (cn A (mf acc)) sv w) (hp : Pl A acc F (cn A (mf acc))) (h0 : 0 < F.length) (hA : A.length ≤ 400) (hB : ∀ i, (bf A A.length i).length ≤ 1000000) (hG : ∀ i, (gl A i).length ≤ 400) :
    Calls Try.prog 14 #[.pointer (some ⟨Wb, 0, none⟩)] w fun e w' => ∃ (i : Nat) (F' : List Nat) (sv' : Value), e = .returned (.int .i64 (i : Int)) ∧ lst A (mf acc) = some i ∧ Wt A w1 L X G Wb ga gb F' (cn A (mf (acc ++ [i]))) sv' w' ∧ Pl A (acc ++ [i]) F' (cn A (mf (acc ++ [i]))) ∧ Gx 0 X Wb ga w w' ∧ (G ≠ Wb → G ≠ ga → w'.heap[G]? = w.heap[G]?) := by
  have X0 : X ≤ w.heap.size := Nat.le_trans hc.xs h.g.size
  have hFl := hp.len
  obtain ⟨m, hm⟩ : ∃ m, F.length = m + 1 := ⟨F.length - 1, by omega⟩
  have PO := Lib.hid (hpop_any (m := m) w h.h X0 hm (by omega) hp.hp)
  have HP := Lib.hid hp
  have HC := Lib.hid hc
  have HT := Lib.hid h
  have ti := ta_int
  clear h hp hc h0 hm hFl
  go_enter Try.func14, Try.ntmps14
  go_wp2_with fail
  refine PO.out.mono ?_
  rintro e w2 ⟨i, F2, sv2, rfl, s2, f2, p2, l2, h2⟩
  have hiF : i ∈ F := p2.mem_iff.1 (by simp)
  have hi1 := (HP.out.mem i).1 hiF
  have hiA : i < A.length := hi1.1
  have hia : i ∉ acc := hi1.2.2
  have HL := Lib.hid (HP.out.lst hiF l2)
  have T2 := HT.out.fx HC.out s2 f2
  have P2 := HP.out.pop p2 h2
  have hBi := hB i
  obtain ⟨ad, cap, c1, hrow⟩ := T2.row HC.out hiA
  have c0 := T2.h.bk.c 1
  simp only [List.getElem?_toArray, List.getElem?_cons_zero, List.getElem?_cons_succ] at c0
  have hi' : (i : Int) < (A.length : Int) := by omega
  have ST := Lib.hid (show Wt A w1 L X G Wb ga gb F2 (ta A acc i 0) sv2 w2 by rw [ta_zero]; exact T2)
  have SG := Lib.hid (show Gx 0 X Wb ga w w2 ∧ (G ≠ Wb → G ≠ ga → w2.heap[G]? = w.heap[G]?) from ⟨(Gx.refl _ _ _ _ _).fx f2, fun h1 _ => f2.block G (.inr rfl) h1⟩)
  have SP := Lib.hid (show Pl A (acc ++ [i]) F2 (ta A acc i 0) by rw [ta_zero]; exact P2)
  have HR := Lib.hid hrow
  have HI := Lib.hid hia
  clear s2 f2 p2 l2 h2 hiF hi1 T2 P2 hrow hia HP HT
  go_wp2
  generalize hLn : (bf A A.length i).length = N at *
  have HLN := Lib.hid hLn
  clear hLn
  go_loopg [5, 20] N (fun g s5 s20 wx => ∃ (p : Nat) (F' : List Nat) (sv' : Value), p + g = N ∧ s20 = .int .i64 p ∧ Wt A w1 L X G Wb ga gb F' (ta A acc i p) sv' wx ∧ Pl A (acc ++ [i]) F' (ta A acc i p) ∧ Gx 0 X Wb ga w wx ∧ (G ≠ Wb → G ≠ ga → wx.heap[G]? = w.heap[G]?))
  case atStart => exact ⟨0, F2, sv2, by omega, rfl, ST.out, SP.out, SG.out⟩
  case round =>
    obtain ⟨p, F', sv', hpg, rfl, hT, hP, hGX⟩ := hrel
    clear ST SP c0 c1 SG
    have HGX := Lib.hid hGX
    clear hGX
    have HT := Lib.hid hT
    have HP := Lib.hid hP
    cases gk with
    | zero =>
      obtain rfl : p = N := by omega
      clear hT hP
      go_wp2
      go_ret
      have e1 := ta_all (A := A) HI.out
      rw [HLN.out] at e1
      exact ⟨i, F', sv', rfl, HL.out, by rw [← e1]; exact HT.out, by rw [← e1]; exact HP.out, HGX.out⟩
    | succ g =>
      have hpN : p < N := by omega
      have hpN' : (p : Int) < (N : Int) := by omega
      have X1 : X ≤ wr.heap.size := Nat.le_trans HC.out.xs hT.g.size
      obtain ⟨k, hk⟩ : ∃ k, (bf A A.length i)[p]? = some k := ⟨_, List.getElem?_eq_getElem (by have := HLN.out; omega)⟩
      obtain ⟨g1, rfl, ck⟩ := HR.out wr hT.g p k hk
      obtain ⟨hkA, tk, tx⟩ := ta_next (A := A) HI.out hk
      have hkA' : (k : Int) < (A.length : Int) := by omega
      have c0 := hT.h.bk.c 0
      simp only [List.getElem?_toArray, List.getElem?_cons_zero] at c0
      have ca := hT.a.c k hkA
      have cf := hT.a.f k
      have T5 := hT.set HC.out k (ah' := ta A acc i (p + 1)) tx
      have hFl := hP.len
      obtain ⟨v, hv⟩ : ∃ v, v = ta A acc i (p + 1) k := ⟨_, rfl⟩
      rw [← hv] at T5 tk
      have hvb : ta A acc i p k ≤ 400 := by
        have : ta A acc i p k ≤ cn A (mf acc) k := by unfold ta; omega
        have h9 : cn A (mf acc) k ≤ (gl A k).length := List.countP_le_length
        have := hG k
        omega
      have tk' : (ta A acc i p k : Int) - 1 = (v : Int) := by omega
      obtain ⟨w5, hw5⟩ : ∃ w5, w5 = wr.setCell ⟨ga, k, none⟩ (.int .i64 (v : Int)) := ⟨_, rfl⟩
      have HW5 := Lib.hid hw5.symm
      rw [← hw5] at T5
      have d0 := T5.h.bk.c 0
      simp only [List.getElem?_toArray, List.getElem?_cons_zero] at d0
      have da := T5.a.c k hkA
      rw [← hv] at da
      have H5 := Lib.hid T5
      have G5 : Gx 0 X Wb ga w w5 ∧ (G ≠ Wb → G ≠ ga → w5.heap[G]? = w.heap[G]?) := by
        refine ⟨hw5 ▸ HGX.out.1.set k _, fun h1 h2 => ?_⟩
        rw [hw5, Below.heap_setCell _ _ _ G (by show G ≠ ga; exact h2)]
        exact HGX.out.2 h1 h2
      have G5h := Lib.hid G5
      clear G5
      have TK := Lib.hid tk
      have TX := Lib.hid tx
      have HV := Lib.hid hv
      have HK := Lib.hid hk
      have X5 : X ≤ w5.heap.size := Nat.le_trans HC.out.xs T5.g.size
      clear hT hP T5 tk tx hv hk hw5
      by_cases hv0 : v = 0
      · have PU := Lib.hid (hpush_any k w5 H5.out.h X5 (by omega) HP.out.hp)
        subst hv0
        have HW0 := Lib.hid (show wr.setCell ⟨ga, k, none⟩ (.int .i64 0) = w5 from HW5.out)
        have da0 : w5.cell? ⟨ga, k, none⟩ = some (.int .i64 0) := da
        have tk0 : (ta A acc i p k : Int) - 1 = 0 := tk'
        clear da tk'
        go_wp2_with (rw [HW0.out])
        refine PU.out.mono ?_
        rintro e w6 ⟨rfl, F6, sv6, s6, f6, p6, h6⟩
        have G6 := Lib.hid (show Gx 0 X Wb ga w w6 ∧ (G ≠ Wb → G ≠ ga → w6.heap[G]? = w.heap[G]?) from ⟨G5h.out.1.fx f6, fun h1 h2 => (f6.block G (.inr rfl) h1).trans (G5h.out.2 h1 h2)⟩)
        have T6 := Lib.hid (H5.out.fx HC.out s6 f6)
        have P6 := Lib.hid (HP.out.free hkA (by have := TK.out; omega) HV.out.symm TX.out p6 h6)
        clear s6 f6 p6 h6 c0 ca d0 da0
        go_wp2
        go_roundg g
        case measure => omega
        case rel => exact ⟨p + 1, F6, sv6, by omega, by simp, T6.out, P6.out, G6.out⟩
      · have hv1 : ¬ (v : Int) = 0 := by omega
        have P6 := Lib.hid (HP.out.less (ah' := ta A acc i (p + 1)) (k := k) (by have := TK.out; omega) (by rw [← HV.out]; exact hv0) TX.out)
        go_wp2_with (rw [HW5.out])
        go_roundg g
        case measure => omega
        case rel => exact ⟨p + 1, F', sv', by omega, by simp, H5.out, P6.out, G5h.out⟩
end Go.Proofs.Ytblpafmcnhhdpaa
