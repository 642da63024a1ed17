/- isSaved: the form of a saved value; the conditions: a right value in memory. -/
import Derived.Test.YtgijdiplhcoojaaGreatDoorJcf
namespace Go.Proofs.YtgijdiplhcoojaaGreatDoor.Dt
open Go.RowKit

/-- The form of a saved value. -/
def savB {n : Nat} (d : Tr (n + 3)) : Bool := decide (d.kd = 9) && match d.ks with
  | [h, t] => decide ([h.kd, t.kd] = [8, 9]) && (decide (h.ks.map Tr.kd = [1, 1, 1, 6]) && match t.ks with
    | [_, q] => decide (q.kd = 8)
    | _ => false)
  | _ => false
theorem two_of {T : Type} {ks : List T} (h : ks.length = 2) : ∃ x y, ks = [x, y] := by
  match ks, h with
  | [x, y], _ => exact ⟨x, y, rfl⟩
theorem rgt_pair {n : Nat} {t : Tr (n + 1)} (h : rgt (n + 1) t = true) (hk : t.kd = 9) : t.ks.length = 2 := by
  simp only [rgt, Bool.and_eq_true] at h
  have := h.1
  unfold Tr.ok okB at this
  rw [hk] at this
  simp at this
  exact this.2.2.2
theorem rgt_kid {n : Nat} {t : Tr (n + 1)} (h : rgt (n + 1) t = true) : ∀ x ∈ t.ks, rgt n x = true := by
  simp only [rgt, Bool.and_eq_true] at h
  exact List.all_eq_true.1 h.2
/-- Two values side by side. -/
theorem rl_pair {w : World} {n : Nat} {a : Option Addr} {x y : Tr (n + 1)} (h : Rl w (n + 1) a [x, y]) : ∃ g o ax cx ay cy, a = some ⟨g, o, none⟩ ∧ g < w.heap.size ∧
    (w.cell? ⟨g, o, none⟩ = some (.int .i64 x.kd) ∧ w.cell? ⟨g, o + 1, none⟩ = some (.int .i64 x.it) ∧ w.cell? ⟨g, o + 2, none⟩ = some (.int .u64 x.ut) ∧ w.cell? ⟨g, o + 3, none⟩ = some (.string x.tx) ∧ w.cell? ⟨g, o + 4, none⟩ = some (.slice ax x.ks.length cx)) ∧
    (w.cell? ⟨g, o + 5, none⟩ = some (.int .i64 y.kd) ∧ w.cell? ⟨g, o + 5 + 1, none⟩ = some (.int .i64 y.it) ∧ w.cell? ⟨g, o + 5 + 2, none⟩ = some (.int .u64 y.ut) ∧ w.cell? ⟨g, o + 5 + 3, none⟩ = some (.string y.tx) ∧ w.cell? ⟨g, o + 5 + 4, none⟩ = some (.slice ay y.ks.length cy)) ∧
    Rep w (n + 1) [.int .i64 x.kd, .int .i64 x.it, .int .u64 x.ut, .string x.tx, .slice ax x.ks.length cx] x ∧ Rep w (n + 1) [.int .i64 y.kd, .int .i64 y.it, .int .u64 y.ut, .string y.tx, .slice ay y.ks.length cy] y := by
  rcases h with h | ⟨g, o, rfl, h⟩
  · cases h
  obtain ⟨v0, v1, v2, v3, v4, c0, c1, c2, c3, c4, r⟩ := h 0 x rfl
  obtain ⟨y0, y1, y2, y3, y4, d0, d1, d2, d3, d4, r'⟩ := h 1 y rfl
  obtain ⟨ax, cx, ex, q1⟩ := r
  obtain ⟨ay, cy, ey, q2⟩ := r'
  simp only [List.cons.injEq, and_true] at ex ey
  obtain ⟨rfl, rfl, rfl, rfl, rfl⟩ := ex
  obtain ⟨rfl, rfl, rfl, rfl, rfl⟩ := ey
  simp only [Nat.zero_mul, Nat.add_zero, Nat.one_mul] at c0 c1 c2 c3 c4 d0 d1 d2 d3 d4
  exact ⟨g, o, ax, cx, ay, cy, rfl, World.block_lt_of_cell? w _ c0, ⟨c0, c1, c2, c3, c4⟩, ⟨d0, d1, d2, d3, d4⟩, ⟨ax, cx, rfl, q1⟩, ⟨ay, cy, rfl, q2⟩⟩
theorem rep_rl {w : World} {n : Nat} {t : Tr (n + 1)} {a : Option Addr} {c : Nat} (h : Rep w (n + 1) [.int .i64 t.kd, .int .i64 t.it, .int .u64 t.ut, .string t.tx, .slice a t.ks.length c] t) : Rl w n a t.ks := by
  obtain ⟨a', c', e, -, -, -, h⟩ := h
  simp only [List.cons.injEq, Value.slice.injEq, true_and, and_true] at e
  obtain ⟨rfl, rfl⟩ := e
  exact h

set_option maxRecDepth 100000 in
set_option maxHeartbeats 1000000 in
theorem isSaved_any (n : Nat) (d : Tr (n + 3)) (a : Option Addr) (c : Nat) (w : World) (h : Rep w (n + 3) [.int .i64 d.kd, .int .i64 d.it, .int .u64 d.ut, .string d.tx, .slice a d.ks.length c] d) (hr : rgt (n + 3) d = true) (hl : ∀ x ∈ d.ks, x.ks.length ≤ 4096) :
    Calls Tryz.prog 26 #[.agg #[.int .i64 d.kd, .int .i64 d.it, .int .u64 d.ut, .string d.tx, .slice a d.ks.length c]] w fun e w' => e = .returned (.bool (savB d)) ∧ Below w.heap.size w w' := by
  have B0 := below1 w (.cells #[.int .i64 d.kd, .int .i64 d.it, .int .u64 d.ut, .string d.tx, .slice a d.ks.length c] 25)
  by_cases h9 : d.kd = 9
  · have hlen := rgt_pair hr h9
    obtain ⟨x, y, hks⟩ := two_of hlen
    have RD := rep_rl h
    have hsv : savB d = (decide ([x.kd, y.kd] = [8, 9]) && (decide (x.ks.map Tr.kd = [1, 1, 1, 6]) && match y.ks with | [_, q] => decide (q.kd = 8) | _ => false)) := by
      unfold savB; rw [hks, h9]; simp
    rw [hlen, h9]
    have HV := Lib.hid hsv
    generalize savB d = R at *
    rw [hks] at RD
    have K1 := Lib.hid (kd_of_rl RD)
    obtain ⟨g, o, ax, cx, ay, cy, rfl, hg, ⟨x0, x1, x2, x3, x4⟩, ⟨y0, y1, y2, y3, y4⟩, rx, ry⟩ := rl_pair RD
    have RX := Lib.hid rx
    have RY := Lib.hid ry
    have hrx := Lib.hid (rgt_kid hr x (by rw [hks]; simp))
    have hry := Lib.hid (rgt_kid hr y (by rw [hks]; simp))
    have HL := Lib.hid (hl x (by rw [hks]; simp))
    clear hsv hlen hks RD rx ry hr hl h h9
    go_enter Tryz.func26, Tryz.ntmps26
    go_wp2_with fail
    have b2 := below2 w (.cells #[.int .i64 9, .int .i64 d.it, .int .u64 d.ut, .string d.tx, .slice (some ⟨g, o, none⟩) 2 c] 25) (.cells #[.int .i64 8, .int .i64 9] 3)
    have kk := Bk.new2 w (.cells #[.int .i64 9, .int .i64 d.it, .int .u64 d.ut, .string d.tx, .slice (some ⟨g, o, none⟩) 2 c] 25) #[.int .i64 8, .int .i64 9] 3
    have D0 : Bk ((w.alloc (.cells #[.int .i64 9, .int .i64 d.it, .int .u64 d.ut, .string d.tx, .slice (some ⟨g, o, none⟩) 2 c] 25)).alloc (.cells #[.int .i64 8, .int .i64 9] 3)) w.heap.size #[.int .i64 9, .int .i64 d.it, .int .u64 d.ut, .string d.tx, .slice (some ⟨g, o, none⟩) 2 c] 25 := (Bk.new w _ _).alloc _
    refine (areOf_any [x.kd, y.kd] [8, 9] _ c (w.heap.size + 1) 2 _ (by show (2 : Nat) ≤ 2199023255551; decide) (K1.out.below b2) (fun j hj => ?_) kk.lt).mono ?_
    · match j, hj with
      | 0, _ => exact kk.c 0
      | 1, _ => exact kk.c 1
    rintro e w1 ⟨rfl, b1⟩
    have D1 := D0.step b1
    have B1 := b2.trans (b1.mono b2.size)
    clear D0 kk b2 b1 K1 B0
    by_cases h1 : [x.kd, y.kd] = [8, 9]
    · have hv := HV.out
      rw [decide_eq_true h1, Bool.true_and] at hv
      rw [decide_eq_true h1]
      have h8 : y.kd = 9 := by simp only [List.cons.injEq, and_true] at h1; exact h1.2
      have hyl := rgt_pair hry.out h8
      obtain ⟨p, q, hyk⟩ := two_of hyl
      have RP := rep_rl RY.out
      rw [hyk] at RP
      obtain ⟨g', o', ap, cp, aq, cq, hay, hg', ⟨p0, p1, p2, p3, p4⟩, ⟨q0, q1, q2, q3, q4⟩, rp, rq⟩ := rl_pair RP
      have hm : (match y.ks with | [_, q] => decide (q.kd = 8) | _ => false) = decide (q.kd = 8) := by rw [hyk]
      rw [hm] at hv
      clear HV
      have HV := Lib.hid hv
      rw [hyl, hay] at y4
      have K2 := Lib.hid (kd_of_rl (rep_rl RX.out))
      have hxl : (x.ks.map Tr.kd).length = x.ks.length := by simp
      have KA : Hid (∀ wx, Below w.heap.size w wx → ∀ gk, Bk wx gk #[.int .i64 1, .int .i64 1, .int .i64 1, .int .i64 6] 3 → Calls Tryz.prog 42 #[.slice ax x.ks.length cx, .slice (some ⟨gk, 0, none⟩) 4 4] wx fun e w' => e = .returned (.bool (decide (x.ks.map Tr.kd = [1, 1, 1, 6]))) ∧ Below wx.heap.size wx w') := fun wx hb gk hk => by
        have := areOf_any (x.ks.map Tr.kd) [1, 1, 1, 6] ax cx gk 4 wx (by rw [hxl]; have := HL.out; omega) (K2.out.below hb) (fun j hj => by
          match j, hj with
          | 0, _ => exact hk.c 0
          | 1, _ => exact hk.c 1
          | 2, _ => exact hk.c 2
          | 3, _ => exact hk.c 3) hk.lt
        rw [hxl] at this
        exact this
      have u0 := (B1.cell (p := ⟨g, o, none⟩) hg).trans x0
      have u1 := (B1.cell (p := ⟨g, o + 1, none⟩) hg).trans x1
      have u2 := (B1.cell (p := ⟨g, o + 2, none⟩) hg).trans x2
      have u3 := (B1.cell (p := ⟨g, o + 3, none⟩) hg).trans x3
      have u4 := (B1.cell (p := ⟨g, o + 4, none⟩) hg).trans x4
      obtain ⟨d0, d1, d2, d3, d4⟩ := D1.c5
      clear hm hxl hv K2 RX RY hrx hry HL h1 h8 hyl hyk RP rp rq x0 x1 x2 x3 x4
      generalize decide (x.ks.map Tr.kd = [1, 1, 1, 6]) = bb at *
      go_wp2_with fail
      have b2 := below1 w1 (.cells #[.int .i64 1, .int .i64 1, .int .i64 1, .int .i64 6] 3)
      have B2 := B1.trans (b2.mono B1.size)
      refine (KA.out _ B2 _ (Bk.new w1 _ _)).mono ?_
      rintro e w3 ⟨rfl, b3⟩
      have B3 := B2.trans (b3.mono B2.size)
      have D3 := (D1.step b2).step b3
      clear KA D1 B1 B2 b2 b3 u0 u1 u2 u3 u4 d0 d1 d2 d3 d4
      obtain ⟨d0, d1, d2, d3, d4⟩ := D3.c5
      have v0 := (B3.cell (p := ⟨g, o + 5, none⟩) hg).trans y0
      have v1 := (B3.cell (p := ⟨g, o + 5 + 1, none⟩) hg).trans y1
      have v2 := (B3.cell (p := ⟨g, o + 5 + 2, none⟩) hg).trans y2
      have v3 := (B3.cell (p := ⟨g, o + 5 + 3, none⟩) hg).trans y3
      have v4 := (B3.cell (p := ⟨g, o + 5 + 4, none⟩) hg).trans y4
      have r0 := (B3.cell (p := ⟨g', o' + 5, none⟩) hg').trans q0
      clear y0 y1 y2 y3 y4 p0 p1 p2 p3 p4 q0 q1 q2 q3 q4
      cases bb with
      | false =>
        go_wp2_with fail
        go_ret
        exact ⟨ret_b (by have := HV.out; simpa using this.symm), B3⟩
      | true =>
        have hb : Hid ((q.kd == 8) = R) := by have := HV.out; rw [Bool.true_and] at this; rw [this]; rfl
        go_wp2_with fail
        go_ret
        exact ⟨ret_b hb.out, B3⟩
    · have hv := HV.out
      rw [decide_eq_false h1, Bool.false_and] at hv
      rw [decide_eq_false h1]
      clear HV h1
      have HV := Lib.hid hv
      clear hv
      go_wp2_with fail
      go_ret
      exact ⟨ret_b HV.out.symm, B1⟩
  · have hs : savB d = false := by unfold savB; simp [h9]
    have hk : (d.kd == 9) = false := by simpa using h9
    rw [hs]
    clear hs hr hl h h9
    go_enter Tryz.func26, Tryz.ntmps26
    go_wp2_with fail
    go_ret
    exact ⟨rfl, B0⟩
end Go.Proofs.YtgijdiplhcoojaaGreatDoor.Dt
