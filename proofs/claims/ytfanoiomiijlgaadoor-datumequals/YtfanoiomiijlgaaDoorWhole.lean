/- The reader's call whole at a text of one digit; each theorem names its conditions. -/
import Derived.Test.YtfanoiomiijlgaaDoorRead
import Derived.Lib.AtoiErrMem
namespace Go.Proofs.YtfanoiomiijlgaaDoor
open Go.RowKit

theorem grown_below {w w' : World} {row : Option Nat} (h : Below w.heap.size w w') : w.grownBy w' row :=
  ⟨h.os, h.tape, h.output, h.size, fun k hk _ => h.block k hk⟩
theorem Rd.drewN {w : World} {b : Nat} {s : ByteArray} {a n : Int} (h : Rd w b s a n) (k : Nat) : Rd (w.drewN k) b s a n := h
theorem Rd.below {w w' : World} {b : Nat} {s : ByteArray} {a n : Int} (h : Rd w b s a n) (hb : Below w.heap.size w w') : Rd w' b s a n := h.kept (grown_below (row := none) hb) (by simp)

set_option maxRecDepth 100000 in
set_option maxHeartbeats 400000 in
theorem whole_one (b : Nat) (s : ByteArray) (a n i : Nat) (w : World) (h : Rd w b s a n) (ha : a + 1 < s.size) (hs : s.size ≤ maxLen)
    (p0 : Lib.hasPrefix (List.drop a s.data.toList) [45] = false)
    (q1 : 48 ≤ (s[a].toNat : Int)) (q2 : (s[a].toNat : Int) ≤ 57) (q3 : (s[a + 1].toNat : Int) < 48)
    (hP : Lib.parseIntB 64 (s.extract a (a + 1)).data.toList = .ok i) (hi : i < 100) (hD : ByteArray.mk (Lib.decDigits i).toArray = s.extract a (a + 1)) :
    Calls Tryd.prog 43 #[.pointer (some ⟨b, 0, none⟩)] w fun e w' => e = .returned (.tuple #[.int .i64 i, .bool true]) ∧ Rd w' b s ↑(a + 1) n ∧ w.grownBy w' (some b) := by
  have hcl := h.c1
  have HP := Lib.hid hP
  have HD := Lib.hid hD
  clear hP hD
  go_enter Tryd.func43, Tryd.ntmps43
  go_wp2_with fail
  refine (skipN b s _ a n _ h (by omega) hs p0).mono ?_
  rintro e w1 ⟨rfl, r1, g1⟩
  clear h hcl
  have c0 := r1.c0
  have c1 := r1.c1
  have f1 := r1.f (o := 1)
  unfold maxLen at hs
  have hlt : a < s.size := by omega
  go_wp2_with fail
  refine wp_loop_rounds 2 ?_
  rw [rounds_succ]
  go_wp2_with fail
  go_quiet (fail)
  go_wp2_with fail
  obtain ⟨c, hc⟩ : ∃ c : Nat, c = a + 1 := ⟨_, rfl⟩
  rw [show ((a : Int) + 1) = (c : Int) from by omega]
  have R2 := Rd.set1 (w := w1.drewN nq) r1 (c : Int)
  have G2 := grown_trans (grown_trans g1 (grown_drewN w1 nq (some b))) (grown_set (w1.drewN nq) b 1 (.int .i64 (c : Int)))
  have hcs : c < s.size := by omega
  have q4 : (s[c].toNat : Int) < 48 := by subst hc; exact q3
  have e4 : decide (48 ≤ (s[c].toNat : Int)) = false := by simp; omega
  have hac : a ≤ c := by omega
  have HC := Lib.hid hc
  clear hc q3 q1 q2
  rw [rounds_succ]
  go_wp2_with fail
  go_quiet (fail)
  go_wp2_with fail
  go_quiet (fail)
  go_wp2_with fail
  have hsz : (s.extract a c).size ≤ 9223372036854775806 := by simp [ByteArray.size_extract]; omega
  refine (Tryd.strconv_ParseInt_10_at64_ok (s.extract a c) hsz i (by rw [HC.out]; exact HP.out) _).mono ?_
  rintro e w2 ⟨rfl, hw2⟩
  have R3 : Rd w2 b s c n ∧ w.grownBy w2 (some b) := by
    rcases hw2 with rfl | ⟨t, rfl⟩
    · exact ⟨R2, grown_trans G2 (grown_drewN _ _ _)⟩
    · exact ⟨Rd.below (R2.drewN _) (Lib.bytesWorld_below _ 5 t), grown_trans (grown_trans G2 (grown_drewN _ _ _)) (grown_below (Lib.bytesWorld_below _ 5 t))⟩
  obtain ⟨R3, G3⟩ := R3
  clear R2 G2 hw2 r1 g1 c0 c1 f1 hsz
  go_wp2_with fail
  refine (Tryd.strconv_FormatInt_10_small i hi _).mono ?_
  rintro e w3 ⟨rfl, rfl⟩
  rw [HD.out, ← HC.out]
  go_wp2
  go_ret2
  exact ⟨rfl, by rw [← HC.out]; exact R3, G3⟩
end Go.Proofs.YtfanoiomiijlgaaDoor
