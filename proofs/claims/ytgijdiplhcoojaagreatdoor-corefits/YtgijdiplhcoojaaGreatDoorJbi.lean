/- The package's Fit and the document's at every state in memory: the same answer; what is so where it is yes; the conditions: the state in memory, the table of fields as the text lays it, and the contracts of Valid and Group. -/
import Derived.Test.YtgijdiplhcoojaaGreatDoorJbc
import Derived.Test.YtgijdiplhcoojaaGreatDoorJbh
import Derived.Test.YtgijdiplhcoojaaGreatDoorJad
import Derived.Test.YtgijdiplhcoojaaGreatDoorJac
import Derived.Test.YtgijdiplhcoojaaGreatDoorXSw
namespace Go.Proofs.YtgijdiplhcoojaaGreatDoor.Dt
open Go.RowKit

/-- A state in memory. -/
structure StR (w : World) (n : Nat) (l : Tr n) (ts : List (Tr n)) (k i u : Int) (s : ByteArray) (a : Option Addr) (len cap : Nat) (la : Option Addr) (lc : Nat) : Prop where
  last : Rep w n [.int .i64 k, .int .i64 i, .int .u64 u, .string s, .slice a len cap] l
  list : Rl w n la ts
  lt : ts.length ≤ 2199023255551
  cap : ts.length ≤ lc ∧ lc ≤ maxLen
theorem StR.below {w w' : World} {n : Nat} {l : Tr n} {ts : List (Tr n)} {k i u : Int} {s : ByteArray} {a : Option Addr} {len cap : Nat} {la : Option Addr} {lc : Nat} (h : StR w n l ts k i u s a len cap la lc) (hb : Below w.heap.size w w') : StR w' n l ts k i u s a len cap la lc :=
  ⟨Rep.below hb n _ _ h.last, h.list.below hb, h.lt, h.cap⟩

/-- The counts are in their bounds. -/
def cok (cn ac un : Int) : Bool := decide (0 ≤ cn) && decide (cn ≤ 4611686018427387904) && (decide (0 ≤ ac) && decide (ac ≤ 4611686018427387904)) && (decide (0 ≤ un) && decide (un ≤ 1099511627776))

theorem isCount_any (x : Int) (w : World) : Calls Tryz.prog 17 #[.int .i64 x] w fun e w' => e = .returned (.bool (decide (0 ≤ x) && decide (x ≤ 4611686018427387904))) ∧ w' = w := by
  cases h1 : decide (0 ≤ x) <;> cases h2 : decide (x ≤ 4611686018427387904)
  all_goals
    go_enter Tryz.func17, Tryz.ntmps17
    go_wp2
    go_ret
    exact ⟨rfl, rfl⟩
theorem isTick_any (x : Int) (w : World) : Calls Tryz.prog 18 #[.int .i64 x] w fun e w' => e = .returned (.bool (decide (0 ≤ x) && decide (x ≤ 1099511627776))) ∧ w' = w := by
  cases h1 : decide (0 ≤ x) <;> cases h2 : decide (x ≤ 1099511627776)
  all_goals
    go_enter Tryz.func18, Tryz.ntmps18
    go_wp2
    go_ret
    exact ⟨rfl, rfl⟩

set_option maxRecDepth 100000 in
set_option maxHeartbeats 2000000 in
theorem fit_by (cn ac un k i u : Int) (s : ByteArray) (a : Option Addr) (len cap : Nat) (la : Option Addr) (ll lc : Nat) (cl : Bool) (b1 b2 b3 b4 b5 : Bool) (w : World)
    (h1 : (decide (0 ≤ cn) && decide (cn ≤ 4611686018427387904)) = b1) (h2 : (decide (0 ≤ ac) && decide (ac ≤ 4611686018427387904)) = b2) (h3 : (decide (0 ≤ un) && decide (un ≤ 1099511627776)) = b3)
    (hV : ∀ wx, Below w.heap.size w wx → Calls Tryz.prog 19 #[.agg #[.int .i64 k, .int .i64 i, .int .u64 u, .string s, .slice a len cap]] wx fun e w' => e = .returned (.bool b4) ∧ Below wx.heap.size wx w')
    (hA : ∀ wx, Below w.heap.size w wx → Calls Tryz.prog 20 #[.slice la ll lc] wx fun e w' => e = .returned (.bool b5) ∧ Below wx.heap.size wx w') :
    Calls Tryz.prog 5 #[.agg #[.int .i64 cn, .int .i64 ac, .int .i64 k, .int .i64 i, .int .u64 u, .string s, .slice a len cap, .slice la ll lc, .bool cl, .int .i64 un]] w fun e w' => e = .returned (.bool (b1 && (b2 && (b3 && (b4 && b5))))) ∧ Below w.heap.size w w' := by
  have H1 : Hid (∀ wx : World, Calls Tryz.prog 17 #[.int .i64 cn] wx fun e w' => e = .returned (.bool b1) ∧ w' = wx) := fun wx => by have := isCount_any cn wx; rwa [h1] at this
  have H2 : Hid (∀ wx : World, Calls Tryz.prog 17 #[.int .i64 ac] wx fun e w' => e = .returned (.bool b2) ∧ w' = wx) := fun wx => by have := isCount_any ac wx; rwa [h2] at this
  have H3 : Hid (∀ wx : World, Calls Tryz.prog 18 #[.int .i64 un] wx fun e w' => e = .returned (.bool b3) ∧ w' = wx) := fun wx => by have := isTick_any un wx; rwa [h3] at this
  have HV := Lib.hid hV
  have HA := Lib.hid hA
  clear hV hA h1 h2 h3
  have B0 := below1 w (.cells #[.int .i64 cn, .int .i64 ac, .int .i64 k, .int .i64 i, .int .u64 u, .string s, .slice a len cap, .slice la ll lc, .bool cl, .int .i64 un] 27)
  have D0 := Bk.new w #[.int .i64 cn, .int .i64 ac, .int .i64 k, .int .i64 i, .int .u64 u, .string s, .slice a len cap, .slice la ll lc, .bool cl, .int .i64 un] 27
  go_enter Tryz.func5, Tryz.ntmps5
  go_wp2_with fail
  refine (H1.out _).mono ?_
  rintro e _ ⟨rfl, rfl⟩
  generalize w.alloc (.cells #[.int .i64 cn, .int .i64 ac, .int .i64 k, .int .i64 i, .int .u64 u, .string s, .slice a len cap, .slice la ll lc, .bool cl, .int .i64 un] 27) = w0 at *
  obtain ⟨c0, c1, c2, c3, c4, c5, c6, c7, c8, c9⟩ := D0.c10
  cases b1 with
  | false =>
    go_wp2_with fail
    go_ret
    exact ⟨rfl, B0⟩
  | true =>
    go_wp2_with fail
    refine (H2.out _).mono ?_
    rintro e _ ⟨rfl, rfl⟩
    cases b2 with
    | false =>
      go_wp2_with fail
      go_ret
      exact ⟨rfl, B0⟩
    | true =>
      go_wp2_with fail
      refine (H3.out _).mono ?_
      rintro e _ ⟨rfl, rfl⟩
      cases b3 with
      | false =>
        go_wp2_with fail
        go_ret
        exact ⟨rfl, B0⟩
      | true =>
        go_wp2_with fail
        refine (HV.out _ B0).mono ?_
        rintro e w2 ⟨rfl, b2⟩
        have D2 := D0.step b2
        have B2 := B0.trans (b2.mono B0.size)
        clear c0 c1 c2 c3 c4 c5 c6 c7 c8 c9
        obtain ⟨c0, c1, c2, c3, c4, c5, c6, c7, c8, c9⟩ := D2.c10
        cases b4 with
        | false =>
          go_wp2_with fail
          go_ret
          exact ⟨rfl, B2⟩
        | true =>
          go_wp2_with fail
          refine (HA.out _ B2).mono ?_
          rintro e w3 ⟨rfl, b3⟩
          cases b5
          all_goals
            go_wp2_with fail
            go_ret
            exact ⟨rfl, B2.trans (b3.mono B2.size)⟩
end Go.Proofs.YtgijdiplhcoojaaGreatDoor.Dt
/- The document's Copy of a state: the same trees in new blocks; the conditions: the state in memory, its trees of 4096 parts at most. -/
namespace Go.Proofs.YtgijdiplhcoojaaGreatDoor.Dt
open Go.RowKit

/-- The copy's loop: block A holds what is made, the row of copies lies from L on; all else below L is as in w1. -/
structure Cs (w w1 : World) (A L : Nat) (T : TypeId) (cs : Value → Array Value) (n : Nat) (ts : List (Tr n)) (j : Nat) (sl : Value) (xs : List Value) (wr : World) : Prop where
  b : Below w.heap.size w wr
  lo : ∀ g, g < L → g ≠ A → wr.heap[g]? = w1.heap[g]?
  c : Bk wr A (cs sl) T
  ap : Ap L n ts j sl xs wr
theorem Cs.below {w w1 : World} {A L : Nat} {T : TypeId} {cs : Value → Array Value} {n : Nat} {ts : List (Tr n)} {j : Nat} {sl : Value} {xs : List Value} {wr w' : World} (h : Cs w w1 A L T cs n ts j sl xs wr) (hb : Below wr.heap.size wr w') : Cs w w1 A L T cs n ts j sl xs w' :=
  ⟨h.b.trans (hb.mono h.b.size), fun g h1 h2 => (hb.block g (Nat.lt_of_lt_of_le h1 h.ap.s)).trans (h.lo g h1 h2), h.c.step hb, h.ap.step' hb⟩
theorem Cs.app {w w1 : World} {A L : Nat} {T : TypeId} {cs : Value → Array Value} {n : Nat} {ts : List (Tr n)} {j : Nat} {sl : Value} {xs : List Value} {w2 w3 : World} (h : Cs w w1 A L T cs n ts j sl xs w2) (hA : A < L) (gr : w2.grownBy w3 sl.ownBlock) : Bk w3 A (cs sl) T := (h.ap.low gr A hA).trans h.c
theorem Cs.step {w w1 : World} {A L : Nat} {T : TypeId} {cs : Value → Array Value} {n : Nat} {ts : List (Tr n)} {j : Nat} {sl : Value} {xs : List Value} {wr w2 w3 w4 : World} (h : Cs w w1 A L T cs n ts j sl xs wr) (hA : A < L) (hw : w.heap.size ≤ A) (o : Nat) (ho : ∀ x y, (cs x).setIfInBounds o y = cs y) (b1 : Below wr.heap.size wr w2) (b2 : Below w2.heap.size w2 w3)
    (x0 x1 x2 x3 x4 : Value) (tj : Tr n) (hj : ts[j]? = some tj) (rf : Rf (fun g => wr.heap.size ≤ g ∧ g < w2.heap.size) w2 n [x0, x1, x2, x3, x4] tj)
    (g : Nat) (cap : Nat) (own : w4.ownsRow L 25 5 (.slice (some ⟨g, 0, none⟩) (j + 1) cap) (j + 1) (xs ++ [x0, x1, x2, x3, x4])) (gr : w3.grownBy w4 sl.ownBlock) (at' : sl.ownBlock = some g ∨ g = w3.heap.size) :
    Cs w w1 A L T cs n ts (j + 1) (.slice (some ⟨g, 0, none⟩) (j + 1) cap) (xs ++ [x0, x1, x2, x3, x4]) (w4.setCell ⟨A, o, none⟩ (.slice (some ⟨g, 0, none⟩) (j + 1) cap)) := by
  have h3 := (h.below b1).below b2
  have hL := h3.ap.s
  refine ⟨(h3.ap.lowB gr (by omega) h3.b).setCell hw _, fun q h1 h2 => ?_, ?_, ?_⟩
  · exact (Below.heap_setCell w4 _ _ q h2).trans ((h3.ap.low gr q h1).trans (h3.lo q h1 h2))
  · have := (h3.app hA gr).set o (.slice (some ⟨g, 0, none⟩) (j + 1) cap)
    rwa [ho] at this
  · refine (h.ap.step b1 b2 x0 x1 x2 x3 x4 tj hj rf g cap own gr at').below (by simp) fun q h1 h2 => Below.heap_setCell w4 _ _ q ?_
    show q ≠ A
    omega

theorem set6 {w : World} {A : Nat} {y0 y1 y2 y3 y4 y5 y6 y7 y8 y9 : Value} {T : TypeId} (h : Bk w A #[y0, y1, y2, y3, y4, y5, y6, y7, y8, y9] T) (x2 x3 x4 x5 x6 x7 : Value) {W : World} (hW : W = (((((w.setCell ⟨A, 2, none⟩ x2).setCell ⟨A, 3, none⟩ x3).setCell ⟨A, 4, none⟩ x4).setCell ⟨A, 5, none⟩ x5).setCell ⟨A, 6, none⟩ x6).setCell ⟨A, 7, none⟩ x7) :
    Bk W A #[y0, y1, x2, x3, x4, x5, x6, x7, y8, y9] T ∧ W.heap.size = w.heap.size ∧ (∀ g, g ≠ A → W.heap[g]? = w.heap[g]?) ∧ Below A w W := by
  subst hW
  have h2 : Bk _ A #[y0, y1, x2, y3, y4, y5, y6, y7, y8, y9] T := h.set 2 x2
  have h3 : Bk _ A #[y0, y1, x2, x3, y4, y5, y6, y7, y8, y9] T := h2.set 3 x3
  have h4 : Bk _ A #[y0, y1, x2, x3, x4, y5, y6, y7, y8, y9] T := h3.set 4 x4
  have h5 : Bk _ A #[y0, y1, x2, x3, x4, x5, y6, y7, y8, y9] T := h4.set 5 x5
  have h6 : Bk _ A #[y0, y1, x2, x3, x4, x5, x6, y7, y8, y9] T := h5.set 6 x6
  have h7 : Bk _ A #[y0, y1, x2, x3, x4, x5, x6, x7, y8, y9] T := h6.set 7 x7
  refine ⟨h7, by simp, fun g hg => ?_, ?_⟩
  · simp (disch := (simp; omega)) only [Below.heap_setCell]
  · exact ((((((Below.refl A w).setCell (Nat.le_refl A) _).setCell (Nat.le_refl A) _).setCell (Nat.le_refl A) _).setCell (Nat.le_refl A) _).setCell (Nat.le_refl A) _).setCell (Nat.le_refl A) _

set_option maxRecDepth 100000 in
set_option maxHeartbeats 2000000 in
theorem rcopy_any (n : Nat) (cn ac un k i u : Int) (s : ByteArray) (a : Option Addr) (len cap : Nat) (la : Option Addr) (lc : Nat) (cl : Bool) (l : Tr n) (ts : List (Tr n)) (w : World) (hS : StR w n l ts k i u s a len cap la lc) (hl : (pts n l).1 ≤ 4096) (hp : ∀ t ∈ ts, (pts n t).1 ≤ 4096) :
    Calls Tryz.prog 31 #[.agg #[.int .i64 cn, .int .i64 ac, .int .i64 k, .int .i64 i, .int .u64 u, .string s, .slice a len cap, .slice la ts.length lc, .bool cl, .int .i64 un]] w fun e w' => ∃ k i u s a len cap la lc, e = .returned (.agg #[.int .i64 cn, .int .i64 ac, .int .i64 k, .int .i64 i, .int .u64 u, .string s, .slice a len cap, .slice la ts.length lc, .bool cl, .int .i64 un]) ∧ Hid (StR w' n l ts k i u s a len cap la lc) ∧ Below w.heap.size w w' := by
  have HS := Lib.hid hS
  have hlt := hS.lt
  have HP := Lib.hid hp
  have HL := Lib.hid hl
  obtain ⟨i0, hi, hz0, hz1, hz2⟩ := infoDat_parts
  clear hS hp hl
  have B0 : Below w.heap.size w (((w.alloc (.cells #[.int .i64 cn, .int .i64 ac, .int .i64 k, .int .i64 i, .int .u64 u, .string s, .slice a len cap, .slice la ts.length lc, .bool cl, .int .i64 un] 27)).alloc (.cells #[.int .i64 0, .int .i64 0, .int .i64 0, .int .i64 0, .int .u64 0, .string ⟨#[]⟩, .slice none 0 0, .slice none 0 0, .bool false, .int .i64 0] 27)).alloc (.cells #[.int .i64 cn, .int .i64 ac, .int .i64 k, .int .i64 i, .int .u64 u, .string s, .slice a len cap, .slice la ts.length lc, .bool cl, .int .i64 un] 27)) := (((Below.refl _ w).alloc (Nat.le_refl _) _).alloc (by simp) _).alloc (by simp; omega) _
  have D0 : Bk (((w.alloc (.cells #[.int .i64 cn, .int .i64 ac, .int .i64 k, .int .i64 i, .int .u64 u, .string s, .slice a len cap, .slice la ts.length lc, .bool cl, .int .i64 un] 27)).alloc (.cells #[.int .i64 0, .int .i64 0, .int .i64 0, .int .i64 0, .int .u64 0, .string ⟨#[]⟩, .slice none 0 0, .slice none 0 0, .bool false, .int .i64 0] 27)).alloc (.cells #[.int .i64 cn, .int .i64 ac, .int .i64 k, .int .i64 i, .int .u64 u, .string s, .slice a len cap, .slice la ts.length lc, .bool cl, .int .i64 un] 27)) w.heap.size #[.int .i64 cn, .int .i64 ac, .int .i64 k, .int .i64 i, .int .u64 u, .string s, .slice a len cap, .slice la ts.length lc, .bool cl, .int .i64 un] 27 := ((Bk.new w _ _).alloc _).alloc _
  have R0 : Bk (((w.alloc (.cells #[.int .i64 cn, .int .i64 ac, .int .i64 k, .int .i64 i, .int .u64 u, .string s, .slice a len cap, .slice la ts.length lc, .bool cl, .int .i64 un] 27)).alloc (.cells #[.int .i64 0, .int .i64 0, .int .i64 0, .int .i64 0, .int .u64 0, .string ⟨#[]⟩, .slice none 0 0, .slice none 0 0, .bool false, .int .i64 0] 27)).alloc (.cells #[.int .i64 cn, .int .i64 ac, .int .i64 k, .int .i64 i, .int .u64 u, .string s, .slice a len cap, .slice la ts.length lc, .bool cl, .int .i64 un] 27)) (w.heap.size + 1) #[.int .i64 0, .int .i64 0, .int .i64 0, .int .i64 0, .int .u64 0, .string ⟨#[]⟩, .slice none 0 0, .slice none 0 0, .bool false, .int .i64 0] 27 := (Bk.new2 w _ _ _).alloc _
  have C0 : Bk (((w.alloc (.cells #[.int .i64 cn, .int .i64 ac, .int .i64 k, .int .i64 i, .int .u64 u, .string s, .slice a len cap, .slice la ts.length lc, .bool cl, .int .i64 un] 27)).alloc (.cells #[.int .i64 0, .int .i64 0, .int .i64 0, .int .i64 0, .int .u64 0, .string ⟨#[]⟩, .slice none 0 0, .slice none 0 0, .bool false, .int .i64 0] 27)).alloc (.cells #[.int .i64 cn, .int .i64 ac, .int .i64 k, .int .i64 i, .int .u64 u, .string s, .slice a len cap, .slice la ts.length lc, .bool cl, .int .i64 un] 27)) (w.heap.size + 1 + 1) #[.int .i64 cn, .int .i64 ac, .int .i64 k, .int .i64 i, .int .u64 u, .string s, .slice a len cap, .slice la ts.length lc, .bool cl, .int .i64 un] 27 := by
    have := Bk.new2 (w.alloc (.cells #[.int .i64 cn, .int .i64 ac, .int .i64 k, .int .i64 i, .int .u64 u, .string s, .slice a len cap, .slice la ts.length lc, .bool cl, .int .i64 un] 27)) (.cells #[.int .i64 0, .int .i64 0, .int .i64 0, .int .i64 0, .int .u64 0, .string ⟨#[]⟩, .slice none 0 0, .slice none 0 0, .bool false, .int .i64 0] 27) #[.int .i64 cn, .int .i64 ac, .int .i64 k, .int .i64 i, .int .u64 u, .string s, .slice a len cap, .slice la ts.length lc, .bool cl, .int .i64 un] 27
    rwa [World.size_alloc] at this
  go_enter Tryz.func31, Tryz.ntmps31
  go_wp2_with fail
  refine (copy_any n l _ _ _ _ _ _ (HS.out.below B0).last HL.out).mono ?_
  rintro e w1 ⟨k1, i1, u1, s1, a1, n1, c1, rfl, rf1, b1⟩
  have D1 := D0.step b1
  have R1 := R0.step b1
  have C1 := C0.step b1
  have B1 := B0.trans (b1.mono B0.size)
  have F1 : Hid (Rf (fun g => w.heap.size + 3 ≤ g ∧ g < w1.heap.size) w1 n [.int .i64 k1, .int .i64 i1, .int .u64 u1, .string s1, .slice a1 n1 c1] l) := Rf.to (fun g hg => ⟨⟨by have := hg.1; simp at this; omega, hg.2⟩, rfl⟩) n _ _ rf1
  clear D0 R0 C0 B0 b1 rf1 HL
  obtain ⟨c0, c1', c2, c3, c4, c5, c6, c7, c8, c9⟩ := C1.c10
  have f1 := C1.f
  go_wp2_with fail
  obtain ⟨K1, K2, K3, K4⟩ := set6 C1 (.int .i64 k1) (.int .i64 i1) (.int .u64 u1) (.string s1) (.slice a1 n1 c1) (.slice none 0 0) rfl
  have F2 : Hid (Rf (fun g => w.heap.size + 3 ≤ g ∧ g < w1.heap.size) ((((((w1.setCell ⟨w.heap.size + 1 + 1, 2, none⟩ (.int .i64 k1)).setCell ⟨w.heap.size + 1 + 1, 3, none⟩ (.int .i64 i1)).setCell ⟨w.heap.size + 1 + 1, 4, none⟩ (.int .u64 u1)).setCell ⟨w.heap.size + 1 + 1, 5, none⟩ (.string s1)).setCell ⟨w.heap.size + 1 + 1, 6, none⟩ (.slice a1 n1 c1)).setCell ⟨w.heap.size + 1 + 1, 7, none⟩ (.slice none 0 0)) n [.int .i64 k1, .int .i64 i1, .int .u64 u1, .string s1, .slice a1 n1 c1] l) := Rf.to (fun g hg => ⟨hg, K3 g (by omega)⟩) n _ _ F1.out
  have D2 : Bk ((((((w1.setCell ⟨w.heap.size + 1 + 1, 2, none⟩ (.int .i64 k1)).setCell ⟨w.heap.size + 1 + 1, 3, none⟩ (.int .i64 i1)).setCell ⟨w.heap.size + 1 + 1, 4, none⟩ (.int .u64 u1)).setCell ⟨w.heap.size + 1 + 1, 5, none⟩ (.string s1)).setCell ⟨w.heap.size + 1 + 1, 6, none⟩ (.slice a1 n1 c1)).setCell ⟨w.heap.size + 1 + 1, 7, none⟩ (.slice none 0 0)) w.heap.size #[.int .i64 cn, .int .i64 ac, .int .i64 k, .int .i64 i, .int .u64 u, .string s, .slice a len cap, .slice la ts.length lc, .bool cl, .int .i64 un] 27 := (K3 _ (by omega)).trans D1
  have R2 : Bk ((((((w1.setCell ⟨w.heap.size + 1 + 1, 2, none⟩ (.int .i64 k1)).setCell ⟨w.heap.size + 1 + 1, 3, none⟩ (.int .i64 i1)).setCell ⟨w.heap.size + 1 + 1, 4, none⟩ (.int .u64 u1)).setCell ⟨w.heap.size + 1 + 1, 5, none⟩ (.string s1)).setCell ⟨w.heap.size + 1 + 1, 6, none⟩ (.slice a1 n1 c1)).setCell ⟨w.heap.size + 1 + 1, 7, none⟩ (.slice none 0 0)) (w.heap.size + 1) #[.int .i64 0, .int .i64 0, .int .i64 0, .int .i64 0, .int .u64 0, .string ⟨#[]⟩, .slice none 0 0, .slice none 0 0, .bool false, .int .i64 0] 27 := (K3 _ (by omega)).trans R1
  have B2 : Below w.heap.size w ((((((w1.setCell ⟨w.heap.size + 1 + 1, 2, none⟩ (.int .i64 k1)).setCell ⟨w.heap.size + 1 + 1, 3, none⟩ (.int .i64 i1)).setCell ⟨w.heap.size + 1 + 1, 4, none⟩ (.int .u64 u1)).setCell ⟨w.heap.size + 1 + 1, 5, none⟩ (.string s1)).setCell ⟨w.heap.size + 1 + 1, 6, none⟩ (.slice a1 n1 c1)).setCell ⟨w.heap.size + 1 + 1, 7, none⟩ (.slice none 0 0)) := B1.trans (K4.mono (by omega))
  have hA1 : w.heap.size + 1 + 1 < w1.heap.size := C1.lt
  clear D1 R1 C1 B1 F1 K4 c0 c1' c2 c3 c4 c5 c6 c7 c8 c9 f1 K3
  generalize ((((((w1.setCell ⟨w.heap.size + 1 + 1, 2, none⟩ (.int .i64 k1)).setCell ⟨w.heap.size + 1 + 1, 3, none⟩ (.int .i64 i1)).setCell ⟨w.heap.size + 1 + 1, 4, none⟩ (.int .u64 u1)).setCell ⟨w.heap.size + 1 + 1, 5, none⟩ (.string s1)).setCell ⟨w.heap.size + 1 + 1, 6, none⟩ (.slice a1 n1 c1)).setCell ⟨w.heap.size + 1 + 1, 7, none⟩ (.slice none 0 0)) = w2 at *
  rw [← K2] at hA1 F2
  clear K2
  have I0 : Cs w w2 (w.heap.size + 1 + 1) w2.heap.size 27 (fun sl => #[.int .i64 cn, .int .i64 ac, .int .i64 k1, .int .i64 i1, .int .u64 u1, .string s1, .slice a1 n1 c1, sl, .bool cl, .int .i64 un]) n ts 0 (.slice none 0 0) [] w2 := ⟨B2, fun _ _ _ => rfl, K1, Ap.nil _ _ _ _ (Nat.le_refl _)⟩
  clear K1
  go_wp2_with fail
  go_loopw [4] (fun si wr => ∃ (j : Nat) (sl : Value) (xs : List Value), si = .int .i64 j ∧ j ≤ ts.length ∧ Cs w w2 (w.heap.size + 1 + 1) w2.heap.size 27 (fun sl => #[.int .i64 cn, .int .i64 ac, .int .i64 k1, .int .i64 i1, .int .u64 u1, .string s1, .slice a1 n1 c1, sl, .bool cl, .int .i64 un]) n ts j sl xs wr) (fun si _ => ts.length - (intOf si).toNat)
  case atStart => exact ⟨0, _, [], rfl, Nat.zero_le _, I0⟩
  case round =>
    obtain ⟨j, sl, xs, rfl, hj, cv⟩ := hrel
    clear I0
    have hsz : w.heap.size + 1 + 1 < wr.heap.size := cv.c.lt
    have D3 : Bk wr w.heap.size #[.int .i64 cn, .int .i64 ac, .int .i64 k, .int .i64 i, .int .u64 u, .string s, .slice a len cap, .slice la ts.length lc, .bool cl, .int .i64 un] 27 := (cv.lo _ (by omega) (by omega)).trans D2
    have hd := D3.c10.2.2.2.2.2.2.2.1
    by_cases hlt' : j < ts.length
    · obtain ⟨g, o, v0, v1, v2, v3, a4, n4, c4, rfl, hg, e0, e1, e2, e3, e4, rk⟩ := HS.out.list.at hlt'
      have bw := cv.b
      have KS : Hid (∀ w' : World, Cs w w2 (w.heap.size + 1 + 1) w2.heap.size 27 (fun sl => #[.int .i64 cn, .int .i64 ac, .int .i64 k1, .int .i64 i1, .int .u64 u1, .string s1, .slice a1 n1 c1, sl, .bool cl, .int .i64 un]) n ts j sl xs w' → w'.cell? ⟨w.heap.size, 7, none⟩ = some (.slice (some ⟨g, o, none⟩) ts.length lc) ∧ w'.cell? ⟨w.heap.size + 1 + 1, 7, none⟩ = some sl ∧ w'.cell? ⟨g, o + j * 5, none⟩ = some (.int .i64 v0) ∧ w'.cell? ⟨g, o + j * 5 + 1, none⟩ = some (.int .i64 v1) ∧ w'.cell? ⟨g, o + j * 5 + 2, none⟩ = some (.int .u64 v2) ∧ w'.cell? ⟨g, o + j * 5 + 3, none⟩ = some (.string v3) ∧ w'.cell? ⟨g, o + j * 5 + 4, none⟩ = some (.slice a4 n4 c4)) := fun w' h =>
        ⟨(Bk.c ((h.lo _ (by omega) (by omega)).trans D2) 7), h.c.c10.2.2.2.2.2.2.2.1, (h.b.cell (p := ⟨g, o + j * 5, none⟩) hg).trans e0, (h.b.cell (p := ⟨g, o + j * 5 + 1, none⟩) hg).trans e1, (h.b.cell (p := ⟨g, o + j * 5 + 2, none⟩) hg).trans e2, (h.b.cell (p := ⟨g, o + j * 5 + 3, none⟩) hg).trans e3, (h.b.cell (p := ⟨g, o + j * 5 + 4, none⟩) hg).trans e4⟩
      have KC : Hid (Calls Tryz.prog 25 #[.agg #[.int .i64 v0, .int .i64 v1, .int .u64 v2, .string v3, .slice a4 n4 c4]] wr.drew fun e w' => ∃ (k i u : Int) (s : ByteArray) (ad' : Option Addr) (len' cap' : Nat), e = .returned (.agg #[.int .i64 k, .int .i64 i, .int .u64 u, .string s, .slice ad' len' cap']) ∧ Hid (Rf (fun g => wr.heap.size ≤ g ∧ g < w'.heap.size) w' n [.int .i64 k, .int .i64 i, .int .u64 u, .string s, .slice ad' len' cap'] ts[j]) ∧ Hid (Below wr.heap.size wr w') ∧ Cs w w2 (w.heap.size + 1 + 1) w2.heap.size 27 (fun sl => #[.int .i64 cn, .int .i64 ac, .int .i64 k1, .int .i64 i1, .int .u64 u1, .string s1, .slice a1 n1 c1, sl, .bool cl, .int .i64 un]) n ts j sl xs w') :=
        (copy_any n ts[j] _ _ _ _ _ wr.drew (Rep.below (bw.drew.mono (Nat.le_refl _)) n _ _ rk) (HP.out _ (List.getElem_mem hlt'))).mono fun e w' ⟨k, i, u, s, ad', len', cap', he, rf, hb'⟩ => ⟨k, i, u, s, ad', len', cap', he, rf, (Below.drew (Below.refl _ wr)).trans hb', cv.below ((Below.drew (Below.refl _ wr)).trans hb')⟩
      obtain ⟨cd0, cl0, y0, y1, y2, y3, y4⟩ := KS.out _ cv
      have hjl : (0 : Int) ≤ j ∧ (j : Int) < ts.length := by omega
      clear e0 e1 e2 e3 e4 rk HS D3 hd F2 R2 B2
      go_wp2_with fail
      go_region_law (first | (refine step_append_lies _ rfl _ _ 23 rfl w2.heap.size 25 i0 (.agg #[.int .i64 0, .int .i64 0, .int .u64 0, .string ⟨#[]⟩, .slice none 0 0]) 5 64 Tryz.underlying23 hi hz0 hz1 hz2 rfl (by decide) sl j xs (by simp [Act.eval]) (cv1.ap.o.alloc _) ⟨w3.heap.size, 0, none⟩ 1 1 [.int .i64 k', .int .i64 i', .int .u64 u', .string s', .slice ad' len' cap'] (by simp [Act.eval]) rfl (five_one _ _ _ _ _ _) (by intro u hu; simp at hu; rcases hu with rfl | rfl | rfl | rfl | rfl <;> rfl) (by decide) (by unfold maxLen; omega) (by omega) (by have := cv1.ap.s; simp; omega) _ rfl ?_; intro g' cap2 w4 own3 gr3 at3 lt3; have d3 := (cv1.below (below1 _ _)).app hA1 gr3; have fz3 := d3.f 7; have cl3 := d3.c10.2.2.2.2.2.2.2.1) | (go_simp; go_at_call 25; refine KC.out.mono ?_; rintro e w3 ⟨k', i', u', s', ad', len', cap', rfl, rf, hb', cv1⟩; have cl1 := cv1.c.c10.2.2.2.2.2.2.2.1; have hl1 := cv1.c.lt))
      all_goals go_wp2_with fail
      all_goals exact ⟨⟨j + 1, _, _, by go_num, by omega, cv.step hA1 (by omega) 7 (fun _ _ => rfl) hb'.out (below1 _ _) _ _ _ _ _ ts[j] (List.getElem?_eq_getElem hlt') rf.out g' cap2 own3 gr3 at3⟩, by simp [intOf]; omega⟩
    · have hje : j = ts.length := by omega
      subst hje
      obtain ⟨ad', cap', rfl, hc1, hc2, rl⟩ := cv.ap.done
      have RL := Lib.hid rl
      have R3 : Bk wr (w.heap.size + 1) #[.int .i64 0, .int .i64 0, .int .i64 0, .int .i64 0, .int .u64 0, .string ⟨#[]⟩, .slice none 0 0, .slice none 0 0, .bool false, .int .i64 0] 27 := (cv.lo _ (by omega) (by omega)).trans R2
      have F3 : Hid (Rf (fun g => w.heap.size + 3 ≤ g ∧ g < w2.heap.size) wr n [.int .i64 k1, .int .i64 i1, .int .u64 u1, .string s1, .slice a1 n1 c1] l) := Rf.to (fun g hg => ⟨hg, cv.lo g hg.2 (by omega)⟩) n _ _ F2.out
      obtain ⟨q0, q1, q2, q3, q4, q5, q6, q7, q8, q9⟩ := cv.c.c10
      obtain ⟨z0, z1, z2, z3, z4, z5, z6, z7, z8, z9⟩ := R3.c10
      have f3 := R3.f
      clear rl D3 R2 F2 D2 B2 HS HP
      go_wp2_with fail
      obtain ⟨X1, X2, X3, X4⟩ := set10 R3 (.int .i64 cn) (.int .i64 ac) (.int .i64 k1) (.int .i64 i1) (.int .u64 u1) (.string s1) (.slice a1 n1 c1) (.slice ad' ts.length cap') (.bool cl) (.int .i64 un) rfl
      obtain ⟨x0, x1, x2, x3, x4, x5, x6, x7, x8, x9⟩ := X1.c10
      have FB := Rf.rep _ _ _ (Rf.to (F' := fun _ => True) (fun g hg => ⟨trivial, X3 g (by omega)⟩) n _ _ F3.out)
      have FL := (Rlf.to (F' := fun _ => True) (fun g hg => ⟨trivial, X3 g (by omega)⟩) RL.out).rl
      exact bodyPost_ret (v := .agg #[.int .i64 cn, .int .i64 ac, .int .i64 k1, .int .i64 i1, .int .u64 u1, .string s1, .slice a1 n1 c1, .slice ad' ts.length cap', .bool cl, .int .i64 un]) (by simp [results, Tryz.results31, go_sem, x0, x1, x2, x3, x4, x5, x6, x7, x8, x9]) rfl ⟨_, _, _, _, _, _, _, _, _, rfl, ⟨FB, FL, hlt, hc1, hc2⟩, cv.b.trans (X4.mono (by omega))⟩
end Go.Proofs.YtgijdiplhcoojaaGreatDoor.Dt
/- The document's Save, its parts; the conditions: the state in memory, its trees of 4096 parts at most. -/
namespace Go.Proofs.YtgijdiplhcoojaaGreatDoor.Dt
open Go.RowKit

set_option maxRecDepth 100000 in
set_option maxHeartbeats 1000000 in
theorem rint_any (x : Int) (w : World) : Calls Tryz.prog 23 #[.int .i64 x] w fun e w' => e = .returned (.agg #[.int .i64 1, .int .i64 x, .int .u64 0, .string ⟨#[]⟩, .slice none 0 0]) ∧ Below w.heap.size w w' := by
  go_enter Tryz.func23, Tryz.ntmps23
  go_wp2
  exact bodyPost_ret (v := .agg #[.int .i64 1, .int .i64 x, .int .u64 0, .string ⟨#[]⟩, .slice none 0 0]) (by simp [results, Tryz.results23, go_sem]) rfl ⟨rfl, below1 w _⟩
set_option maxRecDepth 100000 in
set_option maxHeartbeats 1000000 in
theorem rbool_any (b : Bool) (w : World) : Calls Tryz.prog 24 #[.bool b] w fun e w' => e = .returned (.agg #[.int .i64 6, .int .i64 (if b then 1 else 0), .int .u64 0, .string ⟨#[]⟩, .slice none 0 0]) ∧ Below w.heap.size w w' := by
  cases b
  all_goals
    go_enter Tryz.func24, Tryz.ntmps24
    go_wp2
    exact bodyPost_ret (v := .agg #[.int .i64 6, .int .i64 _, .int .u64 0, .string ⟨#[]⟩, .slice none 0 0]) (by simp [results, Tryz.results24, go_sem]) rfl ⟨rfl, below1 w _⟩
end Go.Proofs.YtgijdiplhcoojaaGreatDoor.Dt
