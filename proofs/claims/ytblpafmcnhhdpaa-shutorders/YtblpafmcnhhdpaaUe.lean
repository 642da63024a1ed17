/- What the laws of this layer share: what is small, rows held against each other, what they ask of the package, their own look at it; the conditions that each theorem names. -/
import Derived.Test.YtblpafmcnhhdpaaUd
namespace Go.Proofs.Ytblpafmcnhhdpaa
open Go.RowKit

set_option maxRecDepth 100000 in
set_option maxHeartbeats 2000000 in
theorem ints_any (a b : Value) (A B : List Int) (w : World) (hA : Ri w a A) (hB : Ri w b B) (la : A.length ≤ 100000) (lb : B.length ≤ 100000) :
    Calls Try.prog 10 #[a, b] w fun e w' => e = .returned (.bool (decide (A = B))) ∧ Below w.heap.size w w' := by
  by_cases hl : A.length = B.length
  · by_cases h0 : A.length = 0
    · obtain rfl : A = [] := List.eq_nil_of_length_eq_zero h0
      obtain rfl : B = [] := List.eq_nil_of_length_eq_zero (by omega)
      obtain ⟨aa, ca, rfl, -⟩ := hA
      obtain ⟨ab, cb, rfl, -⟩ := hB
      clear hl h0 la lb
      go_enter Try.func10, Try.ntmps10
      go_wp2
      go_loopg [5, 13] 1 (fun g s5 s13 wx => s13 = .int .i64 0 ∧ wx = w)
      case atStart => exact ⟨rfl, rfl⟩
      case round =>
        obtain ⟨rfl, rfl⟩ := hrel
        go_wp2
        go_ret
        exact ⟨rfl, Below.refl _ _⟩
    · obtain ⟨ga, oa, ca, ea, hA2⟩ := hA.at (by omega)
      subst ea
      obtain ⟨gb, ob, cb, eb, hB2⟩ := hB.at (by omega)
      subst eb
      have HA := Lib.hid hA2
      have HB := Lib.hid hB2
      have hne : ((A.length : Int) != (B.length : Int)) = false := by simp [hl]
      have HL := Lib.hid hl
      clear hA hB hA2 hB2 h0
      clear hl
      go_enter Try.func10, Try.ntmps10
      go_wp2
      go_loopg [5, 13] A.length (fun g s5 s13 wx => ∃ j : Nat, j + g = A.length ∧ s13 = .int .i64 j ∧ A.take j = B.take j ∧ Below w.heap.size w wx)
      case atStart => exact ⟨0, by omega, rfl, by simp, Below.refl _ _⟩
      case round =>
        obtain ⟨j, hj, rfl, ht, hb⟩ := hrel
        have HTK := Lib.hid ht
        clear ht
        cases gk with
        | zero =>
          obtain rfl : j = A.length := by omega
          go_wp2
          go_ret
          refine ⟨ret_b ?_, hb⟩
          have h1 := HTK.out
          rw [List.take_length, HL.out, List.take_length] at h1
          exact (decide_eq_true h1).symm
        | succ g =>
          have hja : j < A.length := by omega
          have hjb : j < B.length := by have := HL.out; omega
          obtain ⟨x, hx⟩ : ∃ x, A[j]? = some x := ⟨_, List.getElem?_eq_getElem hja⟩
          obtain ⟨y, hy⟩ : ∃ y, B[j]? = some y := ⟨_, List.getElem?_eq_getElem hjb⟩
          have cx := HA.out j x hx
          have cy := HB.out j y hy
          have cx' := (hb.cell (p := ⟨ga, _, none⟩) (World.block_lt_of_cell? w _ cx)).trans cx
          have cy' := (hb.cell (p := ⟨gb, _, none⟩) (World.block_lt_of_cell? w _ cy)).trans cy
          clear cx cy
          have hja' : (j : Int) < (A.length : Int) := by omega
          have hjb' : (j : Int) < (B.length : Int) := by omega
          have hyes : x = y → A.take (j + 1) = B.take (j + 1) := fun e => by rw [List.take_add_one, List.take_add_one, HTK.out, hx, hy, e]
          have hno : x ≠ y → decide (A = B) = false := fun e => decide_eq_false fun e2 => e (by subst e2; rw [hx] at hy; exact Option.some.inj hy)
          have HY := Lib.hid hyes
          have HN := Lib.hid hno
          clear hx hy hyes hno
          cases hxy : (x != y) with
          | true =>
            go_wp2
            go_quiet (fail)
            go_wp2
            go_ret
            refine ⟨ret_b (HN.out (by simpa using hxy)).symm, ?_⟩
            first | exact hb | exact below_drewN hb _
          | false =>
            go_wp2
            go_quiet (fail)
            go_wp2
            go_roundg g
            case measure => omega
            case rel => exact ⟨j + 1, by omega, by simp, HY.out (by simpa using hxy), by first | exact hb | exact below_drewN hb _⟩
  · obtain ⟨aa, ca, rfl, -⟩ := hA
    obtain ⟨ab, cb, rfl, -⟩ := hB
    have hne : ((A.length : Int) != (B.length : Int)) = true := by simp; omega
    have hd : decide (A = B) = false := decide_eq_false fun e => hl (by rw [e])
    rw [hd]
    clear hl hd
    go_enter Try.func10, Try.ntmps10
    go_wp2
    go_ret
    exact ⟨rfl, Below.refl _ _⟩


set_option maxRecDepth 100000 in
set_option maxHeartbeats 2000000 in
theorem small_any (A : List (List Int)) (ad : Option Addr) (cap : Nat) (w : World) (h : Rj w ad A) (hA : A.length ≤ 4611686018427387904) (hx : ∀ l ∈ A, l.length ≤ 4611686018427387904) :
    Calls Try.prog 6 #[.slice ad A.length cap] w fun e w' => e = .returned (.bool (sml A)) ∧ w' = w := by
  have HS := Lib.hid h
  have HX := Lib.hid hx
  clear h hx
  go_enter Try.func6, Try.ntmps6
  go_wp2
  go_loopg [3, 8] A.length (fun g s3 s8 wx => ∃ j : Nat, j + g = A.length ∧ s8 = .int .i64 j ∧ s3 = .int .i64 (((A.take j).map fun l => l.length + 1).sum : Nat) ∧ ((A.take j).map fun l => l.length + 1).sum ≤ 400 ∧ wx = w)
  case atStart => exact ⟨0, by omega, rfl, rfl, by simp, rfl⟩
  case round =>
    obtain ⟨j, hjg, rfl, rfl, hle, rfl⟩ := hrel
    cases gk with
    | zero =>
      obtain rfl : j = A.length := by omega
      go_wp2
      go_ret
      refine ⟨ret_b ?_, rfl⟩
      rw [List.take_length] at hle
      exact (decide_eq_true hle).symm
    | succ g =>
      have hj : j < A.length := by omega
      obtain ⟨l, hl⟩ : ∃ l, A[j]? = some l := ⟨_, List.getElem?_eq_getElem hj⟩
      obtain ⟨b, o, sv, rfl, c0, hr⟩ := HS.out.at j l hl
      obtain ⟨sa, sc, rfl, -⟩ := hr
      have hll := HX.out l (List.mem_of_getElem? hl)
      have hj' : (j : Int) < (A.length : Int) := by omega
      have hs : ((A.take (j + 1)).map fun l => l.length + 1).sum = ((A.take j).map fun l => l.length + 1).sum + (l.length + 1) := by
        rw [List.take_add_one, hl]; simp
      have hall : ((A.take (j + 1)).map fun l => l.length + 1).sum ≤ (A.map fun l => l.length + 1).sum := by
        conv => rhs; rw [← List.take_append_drop (j + 1) A]
        rw [List.map_append, List.sum_append]
        omega
      generalize ((A.take j).map fun l => l.length + 1).sum = S at hs hle ⊢
      have HSm := Lib.hid hs
      have HAll := Lib.hid hall
      clear hs hall hl
      by_cases hbig : S + (l.length + 1) ≤ 400
      · have hb1 : ¬ (400 : Int) < (S : Int) + 1 + (l.length : Int) := by omega
        go_wp2
        go_roundg g
        case measure => omega
        case rel => exact ⟨j + 1, by omega, by simp, by rw [HSm.out]; congr 1; omega, by rw [HSm.out]; exact hbig, rfl⟩
      · have hb1 : (400 : Int) < (S : Int) + 1 + (l.length : Int) := by omega
        go_wp2
        go_ret
        refine ⟨ret_b ?_, rfl⟩
        have h1 := HSm.out
        have h2 := HAll.out
        exact (decide_eq_false (by omega)).symm

/-- What the laws ask of the package: its order, of lists that are not too many. -/
def KOrd : Prop := ∀ (A : List (List Int)) (ad : Option Addr) (cap : Nat) (w : World), Rj w ad A → (A.map fun l => l.length + 1).sum ≤ 400 →
  Calls Try.prog 8 #[.slice ad A.length cap] w fun e w' => ∃ s1 s2, e = .returned (.agg #[s1, s2]) ∧ Ri w' s1 ((ord A).map fun (i : Nat) => (i : Int)) ∧ Ri w' s2 ((cyc A).map fun (i : Nat) => (i : Int)) ∧ Below w.heap.size w w'

theorem ord2 : ord [[1], []] = [1, 0] := by decide +kernel
theorem cyc2 : cyc [[1], []] = [] := by decide +kernel
set_option maxRecDepth 100000 in
set_option maxHeartbeats 2000000 in
theorem awake_any (K : KOrd) (w : World) : Calls Try.prog 7 #[] w fun e w' => e = .returned (.bool true) ∧ Below w.heap.size w w' := by
  have b0 := below1 w (.cells #[.int .i64 1] 3)
  have n0 := Bk.new w #[.int .i64 1] 3
  obtain ⟨wa, hwa⟩ : ∃ wa, wa = w.alloc (.cells #[.int .i64 1] 3) := ⟨_, rfl⟩
  rw [← hwa] at b0 n0
  have za : wa.heap.size = w.heap.size + 1 := by rw [hwa]; simp
  have b1 := below1 wa (.cells #[.slice (some ⟨w.heap.size, 0, none⟩) 1 1, .slice none 0 0] 25)
  have n1 := Bk.new wa #[.slice (some ⟨w.heap.size, 0, none⟩) 1 1, .slice none 0 0] 25
  obtain ⟨w0, hw0⟩ : ∃ w0, w0 = wa.alloc (.cells #[.slice (some ⟨w.heap.size, 0, none⟩) 1 1, .slice none 0 0] 25) := ⟨_, rfl⟩
  rw [← hw0] at b1 n1
  rw [za] at n1
  have HW := Lib.hid (show (w.alloc (.cells #[.int .i64 1] 3)).alloc (.cells #[.slice (some ⟨w.heap.size, 0, none⟩) 1 1, .slice none 0 0] 25) = w0 by rw [hw0, hwa])
  have B0 : Below w.heap.size w w0 := b0.trans (b1.mono (by omega))
  have N0 := n0.below b1
  have hR : Rj w0 (some ⟨w.heap.size + 1, 0, none⟩) [[1], []] := by
    refine .inr ⟨w.heap.size + 1, 0, rfl, fun j l hj => ?_⟩
    match j, hj with
    | 0, hj =>
      simp only [List.getElem?_cons_zero, Option.some.injEq] at hj
      subst hj
      refine ⟨_, n1.c 0, _, 1, rfl, .inr ⟨w.heap.size, 0, rfl, fun j i hj => ?_⟩⟩
      match j, hj with
      | 0, hj =>
        simp only [List.getElem?_cons_zero, Option.some.injEq] at hj
        subst hj
        exact N0.c 0
      | j + 1, hj => simp at hj
    | 1, hj =>
      simp only [List.getElem?_cons_zero, List.getElem?_cons_succ, Option.some.injEq] at hj
      subst hj
      exact ⟨_, n1.c 1, none, 0, rfl, .inl rfl⟩
    | j + 2, hj => simp at hj
  have KO := Lib.hid (K [[1], []] (some ⟨w.heap.size + 1, 0, none⟩) 2 w0 hR (by decide))
  rw [ord2, cyc2] at KO
  clear hR hwa hw0 n0 n1 N0 b0 b1 za K
  go_enter Try.func7, Try.ntmps7
  go_wp2_with (rw [HW.out])
  refine KO.out.mono ?_
  rintro e w1 ⟨s1, s2, rfl, q1, q2, b1⟩
  obtain ⟨g1, o1, c1, e1, x1⟩ := q1.at (by simp)
  obtain ⟨a2, c2, e2, -⟩ := q2
  subst e1 e2
  have y1 := x1 0 1 rfl
  have y2 := x1 1 0 rfl
  rw [Nat.add_zero] at y1
  simp only [List.map_cons, List.map_nil, List.length_cons, List.length_nil]
  have b2 := below1 w1 (.cells #[.slice (some ⟨g1, o1, none⟩) 2 c1, .slice a2 0 c2] 27)
  have n2 := Bk.new w1 #[.slice (some ⟨g1, o1, none⟩) 2 c1, .slice a2 0 c2] 27
  have y3 := (b2.cell (p := ⟨g1, _, none⟩) (World.block_lt_of_cell? w1 _ y1)).trans y1
  have y4 := (b2.cell (p := ⟨g1, _, none⟩) (World.block_lt_of_cell? w1 _ y2)).trans y2
  obtain ⟨w2, hw2⟩ : ∃ w2, w2 = w1.alloc (.cells #[.slice (some ⟨g1, o1, none⟩) 2 c1, .slice a2 0 c2] 27) := ⟨_, rfl⟩
  rw [← hw2] at b2 n2 y3 y4
  have HW2 := Lib.hid hw2.symm
  have B1 := B0.trans (b1.mono B0.size)
  obtain ⟨k0, k1⟩ := n2.c2
  clear hw2 y1 y2 x1 q1
  go_wp2_with (rw [HW2.out])
  go_ret
  exact ⟨rfl, B1.trans (b2.mono B1.size)⟩
end Go.Proofs.Ytblpafmcnhhdpaa
