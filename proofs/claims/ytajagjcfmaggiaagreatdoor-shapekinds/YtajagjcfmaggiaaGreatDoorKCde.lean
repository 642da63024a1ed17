/- What the package's inner look at one part answers at the kinds 7 to 13: the document's table's answer; the condition: the table of fields as the text lays it. -/
import Derived.Test.YtajagjcfmaggiaaGreatDoorKCdd
import Derived.Test.YtajagjcfmaggiaaGreatDoorKCag
import Derived.Laws.IdiomStrings
import Derived.Laws.MakeOwn
import Derived.Test.YtajagjcfmaggiaaGreatDoorKCad
import Derived.Test.YtajagjcfmaggiaaGreatDoorKCce
import Derived.Test.YtajagjcfmaggiaaGreatDoorKCdb
import Derived.Test.YtajagjcfmaggiaaGreatDoorKCah
import Derived.Test.YtajagjcfmaggiaaGreatDoorKCcj
import Derived.Test.YtajagjcfmaggiaaGreatDoorKCae
import Derived.Test.YtajagjcfmaggiaaGreatDoorKCaa
import Derived.Test.YtajagjcfmaggiaaGreatDoorKCcg
import Derived.Test.YtajagjcfmaggiaaGreatDoorKCdc
namespace Go.Proofs.YtajagjcfmaggiaaGreatDoor.Dt
open Go.RowKit

set_option maxRecDepth 100000 in
set_option maxHeartbeats 1000000 in
theorem formed7 (i u : Int) (s : ByteArray) (ad : Option Addr) (len cap : Nat) (w : World) (h : Tab14 w) (_hs : s.size ≤ maxLen) (_hl : len ≤ maxLen) :
    Calls Tryz.prog 128 #[.agg #[.int .i64 7, .int .i64 i, .int .u64 u, .string s, .slice ad len cap]] w fun e w' => e = .returned (.bool (okB 7 i u s.size len)) ∧ Below w.heap.size w w' := by
  have m1 : ∀ o1 o2 : Obj, ((w.alloc o1).alloc o2).cell? ⟨4, 7, none⟩ = some (.int .u8 4) := tab2 h 7 (by decide)
  have b1 : bits BinOp.and IntKind.u8 4 1 = 0 := by kernel_rfl
  have b2 : bits BinOp.and IntKind.u8 4 2 = 0 := by kernel_rfl
  have b3 : bits BinOp.and IntKind.u8 4 4 = 4 := by kernel_rfl
  have b4 : bits BinOp.and IntKind.u8 4 8 = 0 := by kernel_rfl
  unfold maxLen at _hs _hl
  clear h
  go_enter Tryz.func128, Tryz.ntmps128
  go_wp2
  all_goals go_ret
  all_goals refine ⟨ret_b ?_, ((Below.refl _ w).alloc (Nat.le_refl _) _).alloc (by simp) _⟩
  all_goals clear m1 b1 b2 b3 b4
  all_goals have hz := nil_size s
  all_goals generalize s.toList = L at *
  all_goals generalize s.size = z at *
  all_goals (simp_all [okB] <;> first | omega | (rw [Bool.eq_iff_iff]; simp; omega))
set_option maxRecDepth 100000 in
set_option maxHeartbeats 1000000 in
theorem formed8 (i u : Int) (s : ByteArray) (ad : Option Addr) (len cap : Nat) (w : World) (h : Tab14 w) (_hs : s.size ≤ maxLen) (_hl : len ≤ maxLen) :
    Calls Tryz.prog 128 #[.agg #[.int .i64 8, .int .i64 i, .int .u64 u, .string s, .slice ad len cap]] w fun e w' => e = .returned (.bool (okB 8 i u s.size len)) ∧ Below w.heap.size w w' := by
  have m1 : ∀ o1 o2 : Obj, ((w.alloc o1).alloc o2).cell? ⟨4, 8, none⟩ = some (.int .u8 8) := tab2 h 8 (by decide)
  have b1 : bits BinOp.and IntKind.u8 8 1 = 0 := by kernel_rfl
  have b2 : bits BinOp.and IntKind.u8 8 2 = 0 := by kernel_rfl
  have b3 : bits BinOp.and IntKind.u8 8 4 = 0 := by kernel_rfl
  have b4 : bits BinOp.and IntKind.u8 8 8 = 8 := by kernel_rfl
  unfold maxLen at _hs _hl
  clear h
  go_enter Tryz.func128, Tryz.ntmps128
  go_wp2
  all_goals go_ret
  all_goals refine ⟨ret_b ?_, ((Below.refl _ w).alloc (Nat.le_refl _) _).alloc (by simp) _⟩
  all_goals clear m1 b1 b2 b3 b4
  all_goals have hz := nil_size s
  all_goals generalize s.toList = L at *
  all_goals generalize s.size = z at *
  all_goals (simp_all [okB] <;> first | omega | (rw [Bool.eq_iff_iff]; simp; omega))
set_option maxRecDepth 100000 in
set_option maxHeartbeats 1000000 in
theorem formed9 (i u : Int) (s : ByteArray) (ad : Option Addr) (len cap : Nat) (w : World) (h : Tab14 w) (_hs : s.size ≤ maxLen) (_hl : len ≤ maxLen) :
    Calls Tryz.prog 128 #[.agg #[.int .i64 9, .int .i64 i, .int .u64 u, .string s, .slice ad len cap]] w fun e w' => e = .returned (.bool (okB 9 i u s.size len)) ∧ Below w.heap.size w w' := by
  have m1 : ∀ o1 o2 : Obj, ((w.alloc o1).alloc o2).cell? ⟨4, 9, none⟩ = some (.int .u8 8) := tab2 h 9 (by decide)
  have b1 : bits BinOp.and IntKind.u8 8 1 = 0 := by kernel_rfl
  have b2 : bits BinOp.and IntKind.u8 8 2 = 0 := by kernel_rfl
  have b3 : bits BinOp.and IntKind.u8 8 4 = 0 := by kernel_rfl
  have b4 : bits BinOp.and IntKind.u8 8 8 = 8 := by kernel_rfl
  unfold maxLen at _hs _hl
  clear h
  go_enter Tryz.func128, Tryz.ntmps128
  go_wp2
  all_goals go_ret
  all_goals refine ⟨ret_b ?_, ((Below.refl _ w).alloc (Nat.le_refl _) _).alloc (by simp) _⟩
  all_goals clear m1 b1 b2 b3 b4
  all_goals have hz := nil_size s
  all_goals generalize s.toList = L at *
  all_goals generalize s.size = z at *
  all_goals (simp_all [okB] <;> first | omega | (rw [Bool.eq_iff_iff]; simp; omega))
set_option maxRecDepth 100000 in
set_option maxHeartbeats 1000000 in
theorem formed10 (i u : Int) (s : ByteArray) (ad : Option Addr) (len cap : Nat) (w : World) (h : Tab14 w) (_hs : s.size ≤ maxLen) (_hl : len ≤ maxLen) :
    Calls Tryz.prog 128 #[.agg #[.int .i64 10, .int .i64 i, .int .u64 u, .string s, .slice ad len cap]] w fun e w' => e = .returned (.bool (okB 10 i u s.size len)) ∧ Below w.heap.size w w' := by
  have m1 : ∀ o1 o2 : Obj, ((w.alloc o1).alloc o2).cell? ⟨4, 10, none⟩ = some (.int .u8 5) := tab2 h 10 (by decide)
  have b1 : bits BinOp.and IntKind.u8 5 1 = 1 := by kernel_rfl
  have b2 : bits BinOp.and IntKind.u8 5 2 = 0 := by kernel_rfl
  have b3 : bits BinOp.and IntKind.u8 5 4 = 4 := by kernel_rfl
  have b4 : bits BinOp.and IntKind.u8 5 8 = 0 := by kernel_rfl
  unfold maxLen at _hs _hl
  clear h
  go_enter Tryz.func128, Tryz.ntmps128
  go_wp2
  all_goals go_ret
  all_goals refine ⟨ret_b ?_, ((Below.refl _ w).alloc (Nat.le_refl _) _).alloc (by simp) _⟩
  all_goals clear m1 b1 b2 b3 b4
  all_goals have hz := nil_size s
  all_goals generalize s.toList = L at *
  all_goals generalize s.size = z at *
  all_goals (simp_all [okB] <;> first | omega | (rw [Bool.eq_iff_iff]; simp; omega))
set_option maxRecDepth 100000 in
set_option maxHeartbeats 1000000 in
theorem formed11 (i u : Int) (s : ByteArray) (ad : Option Addr) (len cap : Nat) (w : World) (h : Tab14 w) (_hs : s.size ≤ maxLen) (_hl : len ≤ maxLen) :
    Calls Tryz.prog 128 #[.agg #[.int .i64 11, .int .i64 i, .int .u64 u, .string s, .slice ad len cap]] w fun e w' => e = .returned (.bool (okB 11 i u s.size len)) ∧ Below w.heap.size w w' := by
  have m1 : ∀ o1 o2 : Obj, ((w.alloc o1).alloc o2).cell? ⟨4, 11, none⟩ = some (.int .u8 9) := tab2 h 11 (by decide)
  have b1 : bits BinOp.and IntKind.u8 9 1 = 1 := by kernel_rfl
  have b2 : bits BinOp.and IntKind.u8 9 2 = 0 := by kernel_rfl
  have b3 : bits BinOp.and IntKind.u8 9 4 = 0 := by kernel_rfl
  have b4 : bits BinOp.and IntKind.u8 9 8 = 8 := by kernel_rfl
  unfold maxLen at _hs _hl
  clear h
  go_enter Tryz.func128, Tryz.ntmps128
  go_wp2
  all_goals go_ret
  all_goals refine ⟨ret_b ?_, ((Below.refl _ w).alloc (Nat.le_refl _) _).alloc (by simp) _⟩
  all_goals clear m1 b1 b2 b3 b4
  all_goals have hz := nil_size s
  all_goals generalize s.toList = L at *
  all_goals generalize s.size = z at *
  all_goals (simp_all [okB] <;> first | omega | (rw [Bool.eq_iff_iff]; simp; omega))
set_option maxRecDepth 100000 in
set_option maxHeartbeats 1000000 in
theorem formed12 (i u : Int) (s : ByteArray) (ad : Option Addr) (len cap : Nat) (w : World) (h : Tab14 w) (_hs : s.size ≤ maxLen) (_hl : len ≤ maxLen) :
    Calls Tryz.prog 128 #[.agg #[.int .i64 12, .int .i64 i, .int .u64 u, .string s, .slice ad len cap]] w fun e w' => e = .returned (.bool (okB 12 i u s.size len)) ∧ Below w.heap.size w w' := by
  have m1 : ∀ o1 o2 : Obj, ((w.alloc o1).alloc o2).cell? ⟨4, 12, none⟩ = some (.int .u8 0) := tab2 h 12 (by decide)
  have b1 : bits BinOp.and IntKind.u8 0 1 = 0 := by kernel_rfl
  have b2 : bits BinOp.and IntKind.u8 0 2 = 0 := by kernel_rfl
  have b3 : bits BinOp.and IntKind.u8 0 4 = 0 := by kernel_rfl
  have b4 : bits BinOp.and IntKind.u8 0 8 = 0 := by kernel_rfl
  unfold maxLen at _hs _hl
  clear h
  go_enter Tryz.func128, Tryz.ntmps128
  go_wp2
  all_goals go_ret
  all_goals refine ⟨ret_b ?_, ((Below.refl _ w).alloc (Nat.le_refl _) _).alloc (by simp) _⟩
  all_goals clear m1 b1 b2 b3 b4
  all_goals have hz := nil_size s
  all_goals generalize s.toList = L at *
  all_goals generalize s.size = z at *
  all_goals (simp_all [okB] <;> first | omega | (rw [Bool.eq_iff_iff]; simp; omega))
set_option maxRecDepth 100000 in
set_option maxHeartbeats 1000000 in
theorem formed13 (i u : Int) (s : ByteArray) (ad : Option Addr) (len cap : Nat) (w : World) (h : Tab14 w) (_hs : s.size ≤ maxLen) (_hl : len ≤ maxLen) :
    Calls Tryz.prog 128 #[.agg #[.int .i64 13, .int .i64 i, .int .u64 u, .string s, .slice ad len cap]] w fun e w' => e = .returned (.bool (okB 13 i u s.size len)) ∧ Below w.heap.size w w' := by
  have m1 : ∀ o1 o2 : Obj, ((w.alloc o1).alloc o2).cell? ⟨4, 13, none⟩ = some (.int .u8 0) := tab2 h 13 (by decide)
  have b1 : bits BinOp.and IntKind.u8 0 1 = 0 := by kernel_rfl
  have b2 : bits BinOp.and IntKind.u8 0 2 = 0 := by kernel_rfl
  have b3 : bits BinOp.and IntKind.u8 0 4 = 0 := by kernel_rfl
  have b4 : bits BinOp.and IntKind.u8 0 8 = 0 := by kernel_rfl
  unfold maxLen at _hs _hl
  clear h
  go_enter Tryz.func128, Tryz.ntmps128
  go_wp2
  all_goals go_ret
  all_goals refine ⟨ret_b ?_, ((Below.refl _ w).alloc (Nat.le_refl _) _).alloc (by simp) _⟩
  all_goals clear m1 b1 b2 b3 b4
  all_goals have hz := nil_size s
  all_goals generalize s.toList = L at *
  all_goals generalize s.size = z at *
  all_goals (simp_all [okB] <;> first | omega | (rw [Bool.eq_iff_iff]; simp; omega))

theorem formedNo (k i u : Int) (s : ByteArray) (ad : Option Addr) (len cap : Nat) (w : World) (hk : k < 0 ∨ 13 < k) :
    Calls Tryz.prog 128 #[.agg #[.int .i64 k, .int .i64 i, .int .u64 u, .string s, .slice ad len cap]] w fun e w' => e = .returned (.bool (okB k i u s.size len)) ∧ Below w.heap.size w w' := by
  have ho : okB k i u s.size len = false := by
    have n0 : k ≠ 0 := by omega
    have n1 : k ≠ 1 := by omega
    have n2 : k ≠ 2 := by omega
    have n3 : k ≠ 3 := by omega
    have n4 : k ≠ 4 := by omega
    have n5 : k ≠ 5 := by omega
    have n6 : k ≠ 6 := by omega
    have n7 : k ≠ 7 := by omega
    have n8 : k ≠ 8 := by omega
    have n9 : k ≠ 9 := by omega
    have n10 : k ≠ 10 := by omega
    have n11 : k ≠ 11 := by omega
    have n12 : k ≠ 12 := by omega
    have n13 : k ≠ 13 := by omega
    simp [okB, n0, n1, n2, n3, n4, n5, n6, n7, n8, n9, n10, n11, n12, n13]
  rw [ho]
  clear ho
  rcases hk with hk | hk
  · go_enter Tryz.func128, Tryz.ntmps128
    go_wp2
    go_ret
    exact ⟨rfl, (Below.refl _ w).alloc (Nat.le_refl _) _⟩
  · have hk0 : ¬ k < 0 := by omega
    have hk1 : 14 ≤ k := by omega
    go_enter Tryz.func128, Tryz.ntmps128
    go_wp2
    go_ret
    exact ⟨rfl, (Below.refl _ w).alloc (Nat.le_refl _) _⟩
theorem formed_any (k i u : Int) (s : ByteArray) (ad : Option Addr) (len cap : Nat) (w : World) (h : Tab14 w) (hs : s.size ≤ maxLen) (hl : len ≤ maxLen) :
    Calls Tryz.prog 128 #[.agg #[.int .i64 k, .int .i64 i, .int .u64 u, .string s, .slice ad len cap]] w fun e w' => e = .returned (.bool (okB k i u s.size len)) ∧ Below w.heap.size w w' := by
  by_cases hk : k < 0 ∨ 13 < k
  · exact formedNo k i u s ad len cap w hk
  have hk : k = 0 ∨ k = 1 ∨ k = 2 ∨ k = 3 ∨ k = 4 ∨ k = 5 ∨ k = 6 ∨ k = 7 ∨ k = 8 ∨ k = 9 ∨ k = 10 ∨ k = 11 ∨ k = 12 ∨ k = 13 := by omega
  rcases hk with rfl | rfl | rfl | rfl | rfl | rfl | rfl | rfl | rfl | rfl | rfl | rfl | rfl | rfl
  · exact formed0 i u s ad len cap w h hs hl
  · exact formed1 i u s ad len cap w h hs hl
  · exact formed2 i u s ad len cap w h hs hl
  · exact formed3 i u s ad len cap w h hs hl
  · exact formed4 i u s ad len cap w h hs hl
  · exact formed5 i u s ad len cap w h hs hl
  · exact formed6 i u s ad len cap w h hs hl
  · exact formed7 i u s ad len cap w h hs hl
  · exact formed8 i u s ad len cap w h hs hl
  · exact formed9 i u s ad len cap w h hs hl
  · exact formed10 i u s ad len cap w h hs hl
  · exact formed11 i u s ad len cap w h hs hl
  · exact formed12 i u s ad len cap w h hs hl
  · exact formed13 i u s ad len cap w h hs hl
end Go.Proofs.YtajagjcfmaggiaaGreatDoor.Dt
/- The package's walk that counts down, over a value's tree; the conditions: the tree in memory, the table of fields, the counter in a block of its own. -/
namespace Go.Proofs.YtajagjcfmaggiaaGreatDoor.Dt
open Go.RowKit
theorem Tab14.below {w w' : World} (h : Tab14 w) (hb : Below w.heap.size w w') : Tab14 w' :=
  ⟨Nat.lt_of_lt_of_le h.1 hb.size, fun j hj => (hb.cell (p := ⟨4, j, none⟩) h.1).trans (h.2 j hj)⟩


set_option maxRecDepth 100000 in
set_option maxHeartbeats 2000000 in
/-- Nothing that lay in W0 has turned. -/
theorem dwithin_any (W0 : World) (hT : Tab14 W0) (l : Nat) (hl0 : W0.heap.size ≤ l)
    (f : Nat) : ∀ (n : Nat) (t : Tr n) (v0 v1 v2 v3 v4 : Value) (left : Int) (w : World), Rep W0 n [v0, v1, v2, v3, v4] t → Below W0.heap.size W0 w → Lf w l left → f ≤ 16 → 0 ≤ left → left ≤ 4096 →
    Calls Tryz.prog 111 #[.agg #[v0, v1, v2, v3, v4], .int .i64 f, .pointer (some ⟨l, 0, none⟩)] w fun e w' => e = .returned (.bool (vw f n t left).1) ∧ Lf w' l (vw f n t left).2 ∧ w.grownBy w' (some l) := by
  induction f with
  | zero =>
    intro n t v0 v1 v2 v3 v4 left w h hb hl hf h0 h1
    match n, t, h with
    | n + 1, t, h =>
      obtain ⟨ad, cap, e, -, -, -, -⟩ := h
      simp only [List.cons.injEq, and_true] at e
      obtain ⟨rfl, rfl, rfl, rfl, rfl⟩ := e
      simp only [vw]
      go_enter Tryz.func111, Tryz.ntmps111
      go_wp2
      go_ret
      exact ⟨rfl, hl.below ((Below.refl _ w).alloc (Nat.le_refl _) _), World.grownBy_alloc _ _ _⟩
  | succ f ih =>
    intro n t v0 v1 v2 v3 v4 left w h hb hl hf h0 h1
    match n, t, h with
    | n + 1, t, h =>
      obtain ⟨ad, cap, e, htx, hlen, hcap, hk⟩ := h
      simp only [List.cons.injEq, and_true] at e
      obtain ⟨rfl, rfl, rfl, rfl, rfl⟩ := e
      have HI := Lib.hid ih
      have HK := Lib.hid hk
      clear ih hk
      have hd0 : ((((f + 1 : Nat) : Int)) == 0) = false := by simp; omega
      have hd1 : ((f : Int) + 1 == 0) = false := by simp; omega
      have hll := hl.lt
      have cl := hl.c
      have fl := hl.f
      have b0 : Below w.heap.size w (w.alloc (.cells #[.int .i64 t.kd, .int .i64 t.it, .int .u64 t.ut, .string t.tx, .slice ad t.ks.length cap] 25)) := (Below.refl _ w).alloc (Nat.le_refl _) _
      by_cases hz : left = 0
      · have hv : vw (f + 1) (n + 1) t left = (false, left) := by simp only [vw]; rw [if_pos (Or.inl hz)]
        rw [hv]
        have hz' : (left == 0) = true := by simpa using hz
        clear hv hz
        go_enter Tryz.func111, Tryz.ntmps111
        go_wp2_with fail
        go_ret
        exact ⟨rfl, hl.below b0, grown_below b0⟩
      · have hz' : (left == 0) = false := by simpa using hz
        have hleft : 1 ≤ left := by omega
        have T0 : Tab14 (w.alloc (.cells #[.int .i64 t.kd, .int .i64 t.it, .int .u64 t.ut, .string t.tx, .slice ad t.ks.length cap] 25)) := hT.below (hb.trans (b0.mono hb.size))
        have hmax : t.ks.length ≤ maxLen := Nat.le_trans hlen hcap
        cases ho : t.ok with
        | false =>
          have hv : vw (f + 1) (n + 1) t left = (false, left) := by simp only [vw]; rw [if_pos (Or.inr ho)]
          rw [hv]
          have HO := Lib.hid ho
          clear hv ho hz
          go_enter Tryz.func111, Tryz.ntmps111
          go_wp2_with fail
          refine (formed_any t.kd t.it t.ut t.tx ad t.ks.length cap _ T0 htx hmax).mono ?_
          rintro e w1 ⟨rfl, b1⟩
          rw [show okB t.kd t.it t.ut t.tx.size t.ks.length = false from HO.out]
          go_wp2_with fail
          go_ret
          exact ⟨rfl, (hl.below b0).below b1, grown_trans (grown_below b0) (grown_below b1)⟩
        | true =>
          have hv : vw (f + 1) (n + 1) t left = vwL (fun t l => vw f n t l) t.ks (left - 1) := by simp only [vw]; rw [if_neg (by simp [ho]; exact hz)]
          rw [hv]
          have HO := Lib.hid ho
          generalize hcc : (fun (t : Tr n) l => vw f n t l) = cc
          have HC := Lib.hid hcc
          clear hv ho hz hcc
          go_enter Tryz.func111, Tryz.ntmps111
          go_wp2_with fail
          refine (formed_any t.kd t.it t.ut t.tx ad t.ks.length cap _ T0 htx hmax).mono ?_
          rintro e w1 ⟨rfl, b1⟩
          rw [show okB t.kd t.it t.ut t.tx.size t.ks.length = true from HO.out]
          have l1 := (hl.below b0).below b1
          have c1 := l1.c
          have f1 := l1.f
          have d1 : D5 w1 w.heap.size (.int .i64 t.kd) (.int .i64 t.it) (.int .u64 t.ut) (.string t.tx) (.slice ad t.ks.length cap) := (D5.new w _ _ _ _ _).kept (b := l) (grown_below b1) (by omega)
          have k4 := d1.c.2.2.2.2
          have G1 := grown_trans (grown_below (row := some l) b0) (grown_below b1)
          have B1 : Below W0.heap.size W0 w1 := (hb.trans (b0.mono hb.size)).trans (b1.mono (Nat.le_trans hb.size b0.size))
          have z1 : w.heap.size < w1.heap.size := d1.lt
          clear b0 b1 T0 cl fl
          go_wp2_with fail
          go_loopw [30] (fun si wr => ∃ (j : Nat) (l' : Int), si = .int .i64 j ∧ j ≤ t.ks.length ∧ vwL cc (t.ks.drop j) l' = vwL cc t.ks (left - 1) ∧ 0 ≤ l' ∧ l' ≤ 4096 ∧ Lf wr l l' ∧ Below W0.heap.size W0 wr ∧ w.grownBy wr (some l)) (fun si _ => t.ks.length - (intOf si).toNat)
          case atStart => exact ⟨0, left - 1, rfl, Nat.zero_le _, rfl, by omega, by omega, l1.set _, B1.setCell (p := ⟨l, 0, none⟩) hl0 _, grown_trans G1 (grown_set _ _ _ _)⟩
          case round =>
            obtain ⟨j, l', rfl, hj, hinv, hp0, hp1, hlf, hbr, hgr⟩ := hrel
            have HV := Lib.hid hinv
            clear hinv
            by_cases hlt : j < t.ks.length
            · have hne : t.ks ≠ [] := by intro e; rw [e] at hlt; exact absurd hlt (Nat.not_lt_zero _)
              rcases HK.out with hk | ⟨g, o, hk1, hk2⟩
              · exact absurd hk hne
              subst hk1
              obtain ⟨v0, v1, v2, v3, v4, e0, e1, e2, e3, e4, rk⟩ := hk2 j _ (List.getElem?_eq_getElem hlt)
              have hg : g < W0.heap.size := World.block_lt_of_cell? W0 _ e0
              have x0 := (hbr.cell (p := ⟨g, o + j * 5, none⟩) hg).trans e0
              have x1 := (hbr.cell (p := ⟨g, o + j * 5 + 1, none⟩) hg).trans e1
              have x2 := (hbr.cell (p := ⟨g, o + j * 5 + 2, none⟩) hg).trans e2
              have x3 := (hbr.cell (p := ⟨g, o + j * 5 + 3, none⟩) hg).trans e3
              have x4 := (hbr.cell (p := ⟨g, o + j * 5 + 4, none⟩) hg).trans e4
              clear e0 e1 e2 e3 e4 hk2 HK
              unfold maxLen at hcap
              obtain ⟨u0, u1, u2, u3, a4, n4, c4', rfl, rfl, rfl, rfl, rfl⟩ := rep_shape rk
              go_wp2_with fail
              have ba : Below wr.heap.size wr (wr.alloc (.cells #[.int .i64 u0, .int .i64 u1, .int .u64 u2, .string u3, .slice a4 n4 c4'] 25)) := (Below.refl _ wr).alloc (Nat.le_refl _) _
              refine (HI.out n t.ks[j] _ _ _ _ _ l' _ rk (hbr.trans (ba.mono hbr.size)) (hlf.below ba) (by omega) hp0 hp1).mono ?_
              rintro e w2 ⟨rfl, l2, g2⟩
              have bd := vw_bd f n t.ks[j] l' hp0
              have hv := HV.out
              rw [drop_at t.ks j hlt, vwL_cons, ← HC.out] at hv
              simp only [] at hv
              generalize vw f n t.ks[j] l' = C at bd hv l2
              have b2 : Below W0.heap.size W0 w2 := (hbr.trans (ba.mono hbr.size)).grown g2 (Nat.le_trans hbr.size ba.size) (fun k hk => by have := Option.some.inj hk; omega)
              have G2 : w.grownBy w2 (some l) := grown_trans hgr (grown_trans (grown_below ba) g2)
              obtain ⟨q1, q2⟩ := bd
              cases hb1 : C.1 with
              | true =>
                rw [if_pos hb1, HC.out] at hv
                have HW := Lib.hid hv
                clear hv HV x0 x1 x2 x3 x4 rk ba g2 hb1
                go_wp2_with fail
                refine ⟨⟨j + 1, C.2, by go_num, by omega, HW.out, by omega, by omega, l2, b2, G2⟩, by simp [intOf]; omega⟩
              | false =>
                rw [if_neg (by rw [hb1]; simp), HC.out] at hv
                have HW := Lib.hid hv
                clear hv HV x0 x1 x2 x3 x4 rk ba g2 hb1
                go_wp2_with fail
                go_ret
                exact ⟨by rw [← HW.out]; rfl, by rw [← HW.out]; exact l2, G2⟩
            · have hje : j = t.ks.length := by omega
              have hv := HV.out
              rw [hje, List.drop_length] at hv
              have HW := Lib.hid hv
              clear hv HV
              go_wp2_with fail
              go_ret
              exact ⟨by rw [← HW.out]; rfl, by rw [← HW.out]; exact hlf, hgr⟩
end Go.Proofs.YtajagjcfmaggiaaGreatDoor.Dt
/- The package's Valid at every value in memory; the condition: the table of fields as the text lays it. -/
namespace Go.Proofs.YtajagjcfmaggiaaGreatDoor.Dt
open Go.RowKit


set_option maxRecDepth 100000 in
set_option maxHeartbeats 1000000 in
theorem ownValid (n : Nat) (t : Tr n) (v0 v1 v2 v3 v4 : Value) (w : World) (h : Rep w n [v0, v1, v2, v3, v4] t) (hT : Tab14 w) :
    Calls Tryz.prog 90 #[.agg #[v0, v1, v2, v3, v4]] w fun e w' => e = .returned (.bool (vB n t)) ∧ Below w.heap.size w w' := by
  obtain ⟨u0, u1, u2, u3, a4, n4, c4, rfl, rfl, rfl, rfl, rfl⟩ := rep_shape h
  have b0 : Below w.heap.size w ((w.alloc (.cells #[.int .i64 u0, .int .i64 u1, .int .u64 u2, .string u3, .slice a4 n4 c4] 25)).alloc (.cells #[.int .i64 4096] 3)) := ((Below.refl _ w).alloc (Nat.le_refl _) _).alloc (by simp) _
  have l0 : Lf ((w.alloc (.cells #[.int .i64 u0, .int .i64 u1, .int .u64 u2, .string u3, .slice a4 n4 c4] 25)).alloc (.cells #[.int .i64 4096] 3)) (w.heap.size + 1) 4096 := by
    have := heap_alloc_new (w.alloc (.cells #[.int .i64 u0, .int .i64 u1, .int .u64 u2, .string u3, .slice a4 n4 c4] 25)) (.cells #[.int .i64 4096] 3)
    rw [World.size_alloc] at this
    exact this
  have HC := Lib.hid (dwithin_any w hT (w.heap.size + 1) (Nat.le_succ _) 16 n t _ _ _ _ _ 4096 _ h b0 l0 (by decide) (by decide) (by decide))
  unfold vB
  generalize vw 16 n t 4096 = VV at HC ⊢
  clear h hT
  go_enter Tryz.func90, Tryz.ntmps90
  go_wp2_with fail
  refine HC.out.mono ?_
  rintro e w1 ⟨rfl, -, g1⟩
  have b1 : Below w.heap.size w w1 := b0.grown g1 (by simp; omega) (fun k hk => by have := Option.some.inj hk; omega)
  go_wp2_with fail
  go_ret
  exact ⟨rfl, b1⟩
end Go.Proofs.YtajagjcfmaggiaaGreatDoor.Dt
/- The document's answer to each act over values' trees, told in the same form; the conditions: the trees in memory, valid. -/
namespace Go.Proofs.YtajagjcfmaggiaaGreatDoor
open Go.RowKit

theorem Vl.kind {W0 : World} {m : Nat} {t : Dt.Tr (m + 1)} {k i u : Int} {s : ByteArray} {a : Option Addr} {n c : Nat} (h : Vl W0 m t k i u s a n c) : 0 ≤ k ∧ k ≤ 13 := by
  have h1 := h.rg
  simp only [Dt.rgt, Bool.and_eq_true] at h1
  have := kind_in (k := t.kd) h1.1
  rw [h.eq.1] at this
  exact this

end Go.Proofs.YtajagjcfmaggiaaGreatDoor
/- An act over two_acts values: the program's try and the document's answer are one; the conditions: the values valid, their bits within 64. -/
namespace Go.Proofs.YtajagjcfmaggiaaGreatDoor
open Go.RowKit

theorem impl3 (k : Int) (h : 0 ≤ k ∧ k ≤ 13) (h1 : k ≠ 11) (h2 : k ≠ 12) : impl k 3 = false := by
  have : k = 0 ∨ k = 1 ∨ k = 2 ∨ k = 3 ∨ k = 4 ∨ k = 5 ∨ k = 6 ∨ k = 7 ∨ k = 8 ∨ k = 9 ∨ k = 10 ∨ k = 13 := by omega
  rcases this with rfl | rfl | rfl | rfl | rfl | rfl | rfl | rfl | rfl | rfl | rfl | rfl <;> decide

end Go.Proofs.YtajagjcfmaggiaaGreatDoor
