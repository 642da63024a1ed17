/- One number by another: the quotient cut towards nought, or the panic; the conditions: what the assertions come to. -/
import Derived.Test.YthamafijjflfbaaGreatMac
import Derived.Test.YthamafijjflfbaaGreatMah
import Derived.Test.YthamafijjflfbaaGreatMaf
import Derived.Deep.RegionHeld3
import Derived.Laws.StructEq
import Derived.LaidEql
namespace Go.Proofs.YthamafijjflfbaaGreat
open Go.RowKit

/-- The quotient as the language has it. -/
def quoI (x y : Int) : Int := wrap64 (x.tdiv y)

set_option maxRecDepth 100000 in
set_option maxHeartbeats 1000000 in
theorem div1_yes (X Y : Nat) (x y : Int) (hy : y ≠ 0) (w : World) (hX : Bk w X #[.int .i64 x] 2) (hY : Bk w Y #[.int .i64 y] 2) :
    Calls Tryz.prog 67 #[.pointer (some ⟨X, 0, none⟩), .pointer (some ⟨Y, 0, none⟩)] w fun e w' => e = .returned (.int .i64 (quoI x y)) ∧ Below w.heap.size w w' := by
  have x0 := hX.c 0
  have y0 := hY.c 0
  go_enter Tryz.func67, Tryz.ntmps67
  go_wp2
  go_ret
  exact ⟨rfl, Below.refl _ _⟩
set_option maxRecDepth 100000 in
set_option maxHeartbeats 1000000 in
theorem div1_no (X Y : Nat) (x : Int) (w : World) (hX : Bk w X #[.int .i64 x] 2) (hY : Bk w Y #[.int .i64 0] 2) :
    Calls Tryz.prog 67 #[.pointer (some ⟨X, 0, none⟩), .pointer (some ⟨Y, 0, none⟩)] w fun e w' => (∃ T z, Pn T z e) ∧ Below w.heap.size w w' := by
  have x0 := hX.c 0
  have y0 := hY.c 0
  go_enter Tryz.func67, Tryz.ntmps67
  go_wp2_with fail
  exact ⟨rfl, ⟨_, _, Pn.one _ _⟩, Below.refl _ _⟩

set_option maxRecDepth 100000 in
set_option maxHeartbeats 1000000 in
theorem divided_yes (ak ai au : Int) (az : ByteArray) (aa : Option Addr) (an ac : Nat) (bk bi bu : Int) (bs : ByteArray) (ba : Option Addr) (bn bc : Nat) (x y : Int) (hy : y ≠ 0) (w : World)
    (hA : ∀ wx, Below w.heap.size w wx → Calls Tryz.prog 40 #[.agg #[.int .i64 ak, .int .i64 ai, .int .u64 au, .string az, .slice aa an ac], .int .i64 1] wx fun e w' => ∃ k u s a n c, e = .returned (.agg #[.int .i64 k, .int .i64 x, .int .u64 u, .string s, .slice a n c]) ∧ Below wx.heap.size wx w')
    (hB : ∀ wx, Below w.heap.size w wx → Calls Tryz.prog 40 #[.agg #[.int .i64 bk, .int .i64 bi, .int .u64 bu, .string bs, .slice ba bn bc], .int .i64 1] wx fun e w' => ∃ k u s a n c, e = .returned (.agg #[.int .i64 k, .int .i64 y, .int .u64 u, .string s, .slice a n c]) ∧ Below wx.heap.size wx w')
    : Calls Tryz.prog 45 #[.agg #[.int .i64 ak, .int .i64 ai, .int .u64 au, .string az, .slice aa an ac], .agg #[.int .i64 bk, .int .i64 bi, .int .u64 bu, .string bs, .slice ba bn bc]] w fun e w' => e = .returned (.agg #[.int .i64 1, .int .i64 (quoI x y), .int .u64 0, .string ⟨#[]⟩, .slice none 0 0]) ∧ Below w.heap.size w w' := by
  have HA := Lib.hid hA
  have HB := Lib.hid hB
  clear hB
  clear hA
  have hfd : ∀ (v0 v1 v2 v3 v4 : Value) (w : World), (Instr.field 25 (.agg #[v0, v1, v2, v3, v4]) 1).run Tryz.prog w = .ok v1 w := fun _ _ _ _ _ _ => by kernel_rfl
  have hmf : ∀ (fn : Fn) (first cap : Array Value) (w : World), (Instr.makeFunc fn first cap).run Tryz.prog w = .ok (.func fn first cap) w := fun _ _ _ _ => rfl
  have B0 := (below2 w (.cells #[.int .i64 ak, .int .i64 ai, .int .u64 au, .string az, .slice aa an ac] 25) (.cells #[.int .i64 bk, .int .i64 bi, .int .u64 bu, .string bs, .slice ba bn bc] 25)).alloc (by simp; omega) (.cells #[.int .i64 0, .int .i64 0, .int .u64 0, .string ⟨#[]⟩, .slice none 0 0] 25)
  have Q0 := (Bk.new2 w (.cells #[.int .i64 ak, .int .i64 ai, .int .u64 au, .string az, .slice aa an ac] 25) #[.int .i64 bk, .int .i64 bi, .int .u64 bu, .string bs, .slice ba bn bc] 25).alloc (.cells #[.int .i64 0, .int .i64 0, .int .u64 0, .string ⟨#[]⟩, .slice none 0 0] 25)
  have R0 := Bk.new ((w.alloc (.cells #[.int .i64 ak, .int .i64 ai, .int .u64 au, .string az, .slice aa an ac] 25)).alloc (.cells #[.int .i64 bk, .int .i64 bi, .int .u64 bu, .string bs, .slice ba bn bc] 25)) #[.int .i64 0, .int .i64 0, .int .u64 0, .string ⟨#[]⟩, .slice none 0 0] 25
  simp only [World.size_alloc] at R0
  go_enter Tryz.func45, Tryz.ntmps45
  go_wp2_with fail
  refine (HA.out _ B0).mono ?_
  have PL := Lib.hid Dt.pl1
  rintro e w1 ⟨k1, u1, s1, a1, n1, c1, rfl, b1⟩
  have B1 := B0.trans (b1.mono B0.size)
  have e1 := below1 w1 (.cells #[.int .i64 x] 2)
  have X1 := Bk.new w1 #[.int .i64 x] 2
  have Q1 := (Q0.step b1).step e1
  have R1 := (R0.step b1).step e1
  have B2 := B1.trans (e1.mono B1.size)
  have hs1 : w.heap.size + 3 ≤ w1.heap.size := by have := b1.size; simpa using this
  clear b1 B0 Q0 R0 B1 e1
  obtain ⟨d0, d1, d2, d3, d4⟩ := Q1.c5
  go_wp2_with fail
  refine (HB.out _ B2).mono ?_
  rintro e w2 ⟨k2, u2, s2, a2, n2, c2, rfl, b2⟩
  have e2 := below1 w2 (.cells #[.int .i64 y] 2)
  have Y2 := Bk.new w2 #[.int .i64 y] 2
  have X2 := (X1.step b2).step e2
  have R2 := (R1.step b2).step e2
  have B3 := (B2.trans (b2.mono B2.size)).trans (e2.mono (Nat.le_trans B2.size b2.size))
  have hs2 : w1.heap.size + 1 ≤ w2.heap.size := by have := b2.size; simpa using this
  clear b2 B2 Q1 R1 X1 e2 d0 d1 d2 d3 d4
  have hB := asi_ret 67 #[.pointer (some ⟨w1.heap.size, 0, none⟩), .pointer (some ⟨w2.heap.size, 0, none⟩)] 89 (.agg #[]) (w2.alloc (.cells #[.int .i64 y] 2)) (fun v _ => v = .int .i64 (quoI x y)) (fun _ => by kernel_rfl)
    (fun wx hx _ => (div1_yes w1.heap.size w2.heap.size x y hy wx (X2.step hx) (Y2.step hx)).mono fun e w' ⟨he, hb⟩ => ⟨_, he, rfl, hb⟩)
  have AS := Lib.hid hB
  clear hB X2 Y2
  go_wp2_with fail
  refine AS.out.mono ?_
  rintro e w3 ⟨v, rfl, rfl, b3⟩
  have R3 := R2.step b3
  have B4 := B3.trans (b3.mono B3.size)
  clear b3 B3 R2 AS
  go_wp2_with fail
  refine (PL.out _ _).mono ?_
  rintro e w4 ⟨rfl, b4⟩
  have R4 := R3.step b4
  have B5 := B4.trans (b4.mono B4.size)
  clear b4 B4 R3
  obtain ⟨c0, c1, c2, c3, c4⟩ := R4.c5
  have z4 := R4.f
  go_wp2_with fail
  obtain ⟨k1, k2, k3, k4⟩ := set5 R4 (.int .i64 1) (.int .i64 (quoI x y)) (.int .u64 0) (.string ⟨#[]⟩) (.slice none 0 0) rfl
  have KF := B5.trans (k4.mono (by omega))
  obtain ⟨q0, q1, q2, q3, q4⟩ := k1.c5
  refine bodyPost_ret (v := .agg #[.int .i64 1, .int .i64 (quoI x y), .int .u64 0, .string ⟨#[]⟩, .slice none 0 0]) ?_ rfl ⟨rfl, KF⟩
  simp [results, Tryz.results45, go_sem, q0, q1, q2, q3, q4]

set_option maxRecDepth 100000 in
set_option maxHeartbeats 1000000 in
theorem divided_zero (ak ai au : Int) (az : ByteArray) (aa : Option Addr) (an ac : Nat) (bk bi bu : Int) (bs : ByteArray) (ba : Option Addr) (bn bc : Nat) (x : Int) (w : World)
    (hA : ∀ wx, Below w.heap.size w wx → Calls Tryz.prog 40 #[.agg #[.int .i64 ak, .int .i64 ai, .int .u64 au, .string az, .slice aa an ac], .int .i64 1] wx fun e w' => ∃ k u s a n c, e = .returned (.agg #[.int .i64 k, .int .i64 x, .int .u64 u, .string s, .slice a n c]) ∧ Below wx.heap.size wx w')
    (hB : ∀ wx, Below w.heap.size w wx → Calls Tryz.prog 40 #[.agg #[.int .i64 bk, .int .i64 bi, .int .u64 bu, .string bs, .slice ba bn bc], .int .i64 1] wx fun e w' => ∃ k u s a n c, e = .returned (.agg #[.int .i64 k, .int .i64 0, .int .u64 u, .string s, .slice a n c]) ∧ Below wx.heap.size wx w')
    : Calls Tryz.prog 45 #[.agg #[.int .i64 ak, .int .i64 ai, .int .u64 au, .string az, .slice aa an ac], .agg #[.int .i64 bk, .int .i64 bi, .int .u64 bu, .string bs, .slice ba bn bc]] w fun e w' => Pn 89 (.agg #[]) e ∧ Below w.heap.size w w' := by
  have HA := Lib.hid hA
  have HB := Lib.hid hB
  clear hB
  clear hA
  have hfd : ∀ (v0 v1 v2 v3 v4 : Value) (w : World), (Instr.field 25 (.agg #[v0, v1, v2, v3, v4]) 1).run Tryz.prog w = .ok v1 w := fun _ _ _ _ _ _ => by kernel_rfl
  have hmf : ∀ (fn : Fn) (first cap : Array Value) (w : World), (Instr.makeFunc fn first cap).run Tryz.prog w = .ok (.func fn first cap) w := fun _ _ _ _ => rfl
  have B0 := (below2 w (.cells #[.int .i64 ak, .int .i64 ai, .int .u64 au, .string az, .slice aa an ac] 25) (.cells #[.int .i64 bk, .int .i64 bi, .int .u64 bu, .string bs, .slice ba bn bc] 25)).alloc (by simp; omega) (.cells #[.int .i64 0, .int .i64 0, .int .u64 0, .string ⟨#[]⟩, .slice none 0 0] 25)
  have Q0 := (Bk.new2 w (.cells #[.int .i64 ak, .int .i64 ai, .int .u64 au, .string az, .slice aa an ac] 25) #[.int .i64 bk, .int .i64 bi, .int .u64 bu, .string bs, .slice ba bn bc] 25).alloc (.cells #[.int .i64 0, .int .i64 0, .int .u64 0, .string ⟨#[]⟩, .slice none 0 0] 25)
  have R0 := Bk.new ((w.alloc (.cells #[.int .i64 ak, .int .i64 ai, .int .u64 au, .string az, .slice aa an ac] 25)).alloc (.cells #[.int .i64 bk, .int .i64 bi, .int .u64 bu, .string bs, .slice ba bn bc] 25)) #[.int .i64 0, .int .i64 0, .int .u64 0, .string ⟨#[]⟩, .slice none 0 0] 25
  simp only [World.size_alloc] at R0
  go_enter Tryz.func45, Tryz.ntmps45
  go_wp2_with fail
  refine (HA.out _ B0).mono ?_
  rintro e w1 ⟨k1, u1, s1, a1, n1, c1, rfl, b1⟩
  have B1 := B0.trans (b1.mono B0.size)
  have e1 := below1 w1 (.cells #[.int .i64 x] 2)
  have X1 := Bk.new w1 #[.int .i64 x] 2
  have Q1 := (Q0.step b1).step e1
  have R1 := (R0.step b1).step e1
  have B2 := B1.trans (e1.mono B1.size)
  have hs1 : w.heap.size + 3 ≤ w1.heap.size := by have := b1.size; simpa using this
  clear b1 B0 Q0 R0 B1 e1
  obtain ⟨d0, d1, d2, d3, d4⟩ := Q1.c5
  go_wp2_with fail
  refine (HB.out _ B2).mono ?_
  rintro e w2 ⟨k2, u2, s2, a2, n2, c2, rfl, b2⟩
  have e2 := below1 w2 (.cells #[.int .i64 0] 2)
  have Y2 := Bk.new w2 #[.int .i64 0] 2
  have X2 := (X1.step b2).step e2
  have R2 := (R1.step b2).step e2
  have B3 := (B2.trans (b2.mono B2.size)).trans (e2.mono (Nat.le_trans B2.size b2.size))
  have hs2 : w1.heap.size + 1 ≤ w2.heap.size := by have := b2.size; simpa using this
  clear b2 B2 Q1 R1 X1 e2 d0 d1 d2 d3 d4
  have hB := asi_pan 67 #[.pointer (some ⟨w1.heap.size, 0, none⟩), .pointer (some ⟨w2.heap.size, 0, none⟩)] 89 (.agg #[]) (w2.alloc (.cells #[.int .i64 0] 2)) (fun _ => True) (fun _ => by kernel_rfl)
    (fun wx hx _ => (div1_no w1.heap.size w2.heap.size x wx (X2.step hx) (Y2.step hx)).mono fun e w' ⟨he, hb⟩ => ⟨he, trivial, hb⟩)
  have AS := Lib.hid hB
  clear hB X2 Y2
  go_wp2_with fail
  refine AS.out.mono ?_
  rintro e w3 ⟨⟨older, rfl, ho⟩, -, b3⟩
  have B4 := B3.trans (b3.mono B3.size)
  go_wp2_with fail
  exact ⟨rfl, ⟨older, rfl, ho⟩, B4⟩

set_option maxRecDepth 100000 in
set_option maxHeartbeats 1000000 in
theorem divided_a (ak ai au : Int) (az : ByteArray) (aa : Option Addr) (an ac : Nat) (bk bi bu : Int) (bs : ByteArray) (ba : Option Addr) (bn bc : Nat) (w : World)
    (hA : ∀ wx, Below w.heap.size w wx → Calls Tryz.prog 40 #[.agg #[.int .i64 ak, .int .i64 ai, .int .u64 au, .string az, .slice aa an ac], .int .i64 1] wx fun e w' => Pn 84 (.int .i64 ak) e ∧ Below wx.heap.size wx w')
    : Calls Tryz.prog 45 #[.agg #[.int .i64 ak, .int .i64 ai, .int .u64 au, .string az, .slice aa an ac], .agg #[.int .i64 bk, .int .i64 bi, .int .u64 bu, .string bs, .slice ba bn bc]] w fun e w' => Pn 84 (.int .i64 ak) e ∧ Below w.heap.size w w' := by
  have HA := Lib.hid hA
  clear hA
  have B0 := (below2 w (.cells #[.int .i64 ak, .int .i64 ai, .int .u64 au, .string az, .slice aa an ac] 25) (.cells #[.int .i64 bk, .int .i64 bi, .int .u64 bu, .string bs, .slice ba bn bc] 25)).alloc (by simp; omega) (.cells #[.int .i64 0, .int .i64 0, .int .u64 0, .string ⟨#[]⟩, .slice none 0 0] 25)
  go_enter Tryz.func45, Tryz.ntmps45
  go_wp2_with fail
  refine (HA.out _ B0).mono ?_
  rintro e w1 ⟨⟨older, rfl, ho⟩, b1⟩
  have B1 := B0.trans (b1.mono B0.size)
  go_wp2_with fail
  exact ⟨rfl, ⟨older, rfl, ho⟩, B1⟩

set_option maxRecDepth 100000 in
set_option maxHeartbeats 1000000 in
theorem divided_b (ak ai au : Int) (az : ByteArray) (aa : Option Addr) (an ac : Nat) (bk bi bu : Int) (bs : ByteArray) (ba : Option Addr) (bn bc : Nat) (x : Int) (w : World)
    (hA : ∀ wx, Below w.heap.size w wx → Calls Tryz.prog 40 #[.agg #[.int .i64 ak, .int .i64 ai, .int .u64 au, .string az, .slice aa an ac], .int .i64 1] wx fun e w' => ∃ k u s a n c, e = .returned (.agg #[.int .i64 k, .int .i64 x, .int .u64 u, .string s, .slice a n c]) ∧ Below wx.heap.size wx w')
    (hB : ∀ wx, Below w.heap.size w wx → Calls Tryz.prog 40 #[.agg #[.int .i64 bk, .int .i64 bi, .int .u64 bu, .string bs, .slice ba bn bc], .int .i64 1] wx fun e w' => Pn 84 (.int .i64 bk) e ∧ Below wx.heap.size wx w')
    : Calls Tryz.prog 45 #[.agg #[.int .i64 ak, .int .i64 ai, .int .u64 au, .string az, .slice aa an ac], .agg #[.int .i64 bk, .int .i64 bi, .int .u64 bu, .string bs, .slice ba bn bc]] w fun e w' => Pn 84 (.int .i64 bk) e ∧ Below w.heap.size w w' := by
  have HA := Lib.hid hA
  have HB := Lib.hid hB
  clear hB
  clear hA
  have hfd : ∀ (v0 v1 v2 v3 v4 : Value) (w : World), (Instr.field 25 (.agg #[v0, v1, v2, v3, v4]) 1).run Tryz.prog w = .ok v1 w := fun _ _ _ _ _ _ => by kernel_rfl
  have B0 := (below2 w (.cells #[.int .i64 ak, .int .i64 ai, .int .u64 au, .string az, .slice aa an ac] 25) (.cells #[.int .i64 bk, .int .i64 bi, .int .u64 bu, .string bs, .slice ba bn bc] 25)).alloc (by simp; omega) (.cells #[.int .i64 0, .int .i64 0, .int .u64 0, .string ⟨#[]⟩, .slice none 0 0] 25)
  have Q0 := (Bk.new2 w (.cells #[.int .i64 ak, .int .i64 ai, .int .u64 au, .string az, .slice aa an ac] 25) #[.int .i64 bk, .int .i64 bi, .int .u64 bu, .string bs, .slice ba bn bc] 25).alloc (.cells #[.int .i64 0, .int .i64 0, .int .u64 0, .string ⟨#[]⟩, .slice none 0 0] 25)
  go_enter Tryz.func45, Tryz.ntmps45
  go_wp2_with fail
  refine (HA.out _ B0).mono ?_
  rintro e w1 ⟨k1, u1, s1, a1, n1, c1, rfl, b1⟩
  have B1 := B0.trans (b1.mono B0.size)
  have e1 := below1 w1 (.cells #[.int .i64 x] 2)
  have Q1 := (Q0.step b1).step e1
  have B2 := B1.trans (e1.mono B1.size)
  clear b1 B0 Q0 B1 e1
  obtain ⟨d0, d1, d2, d3, d4⟩ := Q1.c5
  go_wp2_with fail
  refine (HB.out _ B2).mono ?_
  rintro e w2 ⟨⟨older, rfl, ho⟩, b2⟩
  have B3 := B2.trans (b2.mono B2.size)
  go_wp2_with fail
  exact ⟨rfl, ⟨older, rfl, ho⟩, B3⟩
end Go.Proofs.YthamafijjflfbaaGreat
/- The document's Same over two values' trees: every field alike, part by part; the condition: the trees in memory. -/
namespace Go.Proofs.YthamafijjflfbaaGreat.Dt
open Go.RowKit

/-- Two rows alike, place by place. -/
def smL {T U : Type} (c : T → U → Bool) : List T → List U → Bool
  | [], [] => true
  | a :: xs, b :: ys => c a b && smL c xs ys
  | _, _ => false
/-- Two values alike. -/
def sm : (n m : Nat) → Tr n → Tr m → Bool
  | 0, _, a, _ => a.elim
  | _ + 1, 0, _, b => b.elim
  | n + 1, m + 1, a, b => decide (a.kd = b.kd ∧ a.it = b.it ∧ a.ut = b.ut ∧ a.tx = b.tx) && smL (sm n m) a.ks b.ks

theorem smL_len {T U : Type} (c : T → U → Bool) : ∀ (xs : List T) (ys : List U), xs.length ≠ ys.length → smL c xs ys = false
  | [], [], h => absurd rfl h
  | [], _ :: _, _ => rfl
  | _ :: _, [], _ => rfl
  | a :: xs, b :: ys, h => by simp only [smL]; rw [smL_len c xs ys (by simpa using h), Bool.and_false]

theorem toList_ne {x y : ByteArray} (h : x ≠ y) : (x.toList == y.toList) = false := by
  rw [beq_eq_false_iff_ne]
  intro e
  rw [ByteArray.toList_eq, ByteArray.toList_eq] at e
  exact h (Go.WideShapes.bytes_inj e)

set_option maxRecDepth 100000 in
set_option maxHeartbeats 2000000 in
theorem same_any : ∀ (n m : Nat) (a : Tr n) (b : Tr m) (v0 v1 v2 v3 v4 x0 x1 x2 x3 x4 : Value) (w : World), Rep w n [v0, v1, v2, v3, v4] a → Rep w m [x0, x1, x2, x3, x4] b →
    Calls Tryz.prog 13 #[.agg #[v0, v1, v2, v3, v4], .agg #[x0, x1, x2, x3, x4]] w fun e w' => e = .returned (.bool (sm n m a b)) ∧ Below w.heap.size w w' := by
  intro n
  induction n with
  | zero => intro m a; exact a.elim
  | succ n ih =>
    intro m a b v0 v1 v2 v3 v4 x0 x1 x2 x3 x4 w ha hb
    match m, b, hb with
    | m + 1, b, hb =>
      obtain ⟨ad, cap, e, htx, hlen, hcap, hk⟩ := ha
      obtain ⟨bd, bcap, eb, htx', hlen', hcap', hk'⟩ := hb
      simp only [List.cons.injEq, and_true] at e eb
      obtain ⟨rfl, rfl, rfl, rfl, rfl⟩ := e
      obtain ⟨rfl, rfl, rfl, rfl, rfl⟩ := eb
      have HI := Lib.hid ih
      have HK := Lib.hid hk
      have HK' := Lib.hid hk'
      clear ih hk hk'
      have b0 : ∀ o1 o2 : Obj, Below w.heap.size w ((w.alloc o1).alloc o2) := fun o1 o2 => ((Below.refl _ w).alloc (Nat.le_refl _) _).alloc (by simp) _
      by_cases h1 : a.kd = b.kd
      case neg =>
        have hs : sm (n + 1) (m + 1) a b = false := by simp [sm, h1]
        rw [hs]
        have g : (a.kd != b.kd) = true := by simpa using h1
        clear hs
        go_enter Tryz.func13, Tryz.ntmps13
        go_wp2_with fail
        go_ret
        exact ⟨rfl, b0 _ _⟩
      by_cases h2 : a.it = b.it
      case neg =>
        have hs : sm (n + 1) (m + 1) a b = false := by simp [sm, h2]
        rw [hs]
        have g : (a.it != b.it) = true := by simpa using h2
        rw [h1]
        clear hs h1
        go_enter Tryz.func13, Tryz.ntmps13
        go_wp2_with fail
        go_ret
        exact ⟨rfl, b0 _ _⟩
      by_cases h3 : a.ut = b.ut
      case neg =>
        have hs : sm (n + 1) (m + 1) a b = false := by simp [sm, h3]
        rw [hs]
        have g : (a.ut != b.ut) = true := by simpa using h3
        rw [h1, h2]
        clear hs h1 h2
        go_enter Tryz.func13, Tryz.ntmps13
        go_wp2_with fail
        go_ret
        exact ⟨rfl, b0 _ _⟩
      by_cases h4 : a.tx = b.tx
      case neg =>
        have hs : sm (n + 1) (m + 1) a b = false := by simp [sm, h4]
        rw [hs]
        have g := toList_ne h4
        have g' : ¬ a.tx.toList = b.tx.toList := by simpa using g
        rw [h1, h2, h3]
        clear hs h1 h2 h3 h4
        go_enter Tryz.func13, Tryz.ntmps13
        go_wp2_with fail
        go_ret
        exact ⟨rfl, b0 _ _⟩
      by_cases h5 : a.ks.length = b.ks.length
      case neg =>
        have hs : sm (n + 1) (m + 1) a b = false := by simp [sm, smL_len _ _ _ h5]
        rw [hs]
        have g : ((a.ks.length : Int) != (b.ks.length : Int)) = true := by simp; omega
        rw [h1, h2, h3, h4]
        clear hs h1 h2 h3 h4 h5
        go_enter Tryz.func13, Tryz.ntmps13
        go_wp2_with fail
        go_ret
        exact ⟨rfl, b0 _ _⟩
      have hs : sm (n + 1) (m + 1) a b = smL (sm n m) a.ks b.ks := by simp [sm, h1, h2, h3, h4]
      rw [hs, h1, h2, h3, h4]
      have g5 : ((a.ks.length : Int) != (b.ks.length : Int)) = false := by simp; omega
      have H5 := Lib.hid h5
      clear hs h1 h2 h3 h4 h5
      unfold maxLen at hcap hcap'
      have da : D5 ((w.alloc (.cells #[.int .i64 b.kd, .int .i64 b.it, .int .u64 b.ut, .string b.tx, .slice ad a.ks.length cap] 25)).alloc (.cells #[.int .i64 b.kd, .int .i64 b.it, .int .u64 b.ut, .string b.tx, .slice bd b.ks.length bcap] 25)) w.heap.size (.int .i64 b.kd) (.int .i64 b.it) (.int .u64 b.ut) (.string b.tx) (.slice ad a.ks.length cap) := (D5.new w _ _ _ _ _).kept (b := w.heap.size + 1) (World.grownBy_alloc _ _ _) (by omega)
      have db : D5 ((w.alloc (.cells #[.int .i64 b.kd, .int .i64 b.it, .int .u64 b.ut, .string b.tx, .slice ad a.ks.length cap] 25)).alloc (.cells #[.int .i64 b.kd, .int .i64 b.it, .int .u64 b.ut, .string b.tx, .slice bd b.ks.length bcap] 25)) (w.heap.size + 1) (.int .i64 b.kd) (.int .i64 b.it) (.int .u64 b.ut) (.string b.tx) (.slice bd b.ks.length bcap) := by
        have := D5.new (w.alloc (.cells #[.int .i64 b.kd, .int .i64 b.it, .int .u64 b.ut, .string b.tx, .slice ad a.ks.length cap] 25)) (.int .i64 b.kd) (.int .i64 b.it) (.int .u64 b.ut) (.string b.tx) (.slice bd b.ks.length bcap)
        rw [World.size_alloc] at this
        exact this
      go_enter Tryz.func13, Tryz.ntmps13
      go_wp2_with fail
      go_loopw [44] (fun si wr => ∃ (j : Nat), si = .int .i64 j ∧ j ≤ a.ks.length ∧ smL (sm n m) (a.ks.drop j) (b.ks.drop j) = smL (sm n m) a.ks b.ks ∧ Below (w.heap.size + 2) ((w.alloc (.cells #[.int .i64 b.kd, .int .i64 b.it, .int .u64 b.ut, .string b.tx, .slice ad a.ks.length cap] 25)).alloc (.cells #[.int .i64 b.kd, .int .i64 b.it, .int .u64 b.ut, .string b.tx, .slice bd b.ks.length bcap] 25)) wr) (fun si _ => a.ks.length - (intOf si).toNat)
      case atStart => exact ⟨0, rfl, Nat.zero_le _, rfl, Below.refl _ _⟩
      case round =>
        obtain ⟨j, rfl, hj, hinv, hb⟩ := hrel
        have HV := Lib.hid hinv
        clear hinv
        have dra : D5 wr w.heap.size (.int .i64 b.kd) (.int .i64 b.it) (.int .u64 b.ut) (.string b.tx) (.slice ad a.ks.length cap) := (hb.block w.heap.size (by omega)).trans da
        have drb : D5 wr (w.heap.size + 1) (.int .i64 b.kd) (.int .i64 b.it) (.int .u64 b.ut) (.string b.tx) (.slice bd b.ks.length bcap) := (hb.block (w.heap.size + 1) (by omega)).trans db
        have ca := dra.c.2.2.2.2
        have cb := drb.c.2.2.2.2
        have bw : Below w.heap.size w wr := (b0 _ _).trans (hb.mono (by omega))
        have hsz : w.heap.size + 2 ≤ wr.heap.size := by have := hb.size; simp at this; omega
        by_cases hlt : j < a.ks.length
        · have hlt' : j < b.ks.length := by have := H5.out; omega
          have hne : a.ks ≠ [] := by intro e; rw [e] at hlt; exact absurd hlt (Nat.not_lt_zero _)
          have hne' : b.ks ≠ [] := by intro e; rw [e] at hlt'; exact absurd hlt' (Nat.not_lt_zero _)
          rcases HK.out with hk | ⟨g, o, hk1, hk2⟩
          · exact absurd hk hne
          rcases HK'.out with hk' | ⟨p, q, hk1', hk2'⟩
          · exact absurd hk' hne'
          subst hk1; subst hk1'
          obtain ⟨v0, v1, v2, v3, v4, e0, e1, e2, e3, e4, rk⟩ := hk2 j _ (List.getElem?_eq_getElem hlt)
          obtain ⟨y0, y1, y2, y3, y4, f0, f1, f2, f3, f4, rk'⟩ := hk2' j _ (List.getElem?_eq_getElem hlt')
          have hg : g < w.heap.size := World.block_lt_of_cell? w _ e0
          have hp : p < w.heap.size := World.block_lt_of_cell? w _ f0
          have r1 := Rep.below bw n _ _ rk
          have r2 := Rep.below bw m _ _ rk'
          have c0 := (bw.cell (p := ⟨g, o + j * 5, none⟩) hg).trans e0
          have c1 := (bw.cell (p := ⟨g, o + j * 5 + 1, none⟩) hg).trans e1
          have c2 := (bw.cell (p := ⟨g, o + j * 5 + 2, none⟩) hg).trans e2
          have c3 := (bw.cell (p := ⟨g, o + j * 5 + 3, none⟩) hg).trans e3
          have c4 := (bw.cell (p := ⟨g, o + j * 5 + 4, none⟩) hg).trans e4
          have k0 := (bw.cell (p := ⟨p, q + j * 5, none⟩) hp).trans f0
          have k1 := (bw.cell (p := ⟨p, q + j * 5 + 1, none⟩) hp).trans f1
          have k2 := (bw.cell (p := ⟨p, q + j * 5 + 2, none⟩) hp).trans f2
          have k3 := (bw.cell (p := ⟨p, q + j * 5 + 3, none⟩) hp).trans f3
          have k4 := (bw.cell (p := ⟨p, q + j * 5 + 4, none⟩) hp).trans f4
          clear e0 e1 e2 e3 e4 f0 f1 f2 f3 f4 rk rk' hk2 hk2' HK HK'
          have hz0 : w.heap.size < wr.heap.size := by omega
          have hz1 : w.heap.size + 1 < wr.heap.size := by omega
          have hgz : g < wr.heap.size := by omega
          have hpz : p < wr.heap.size := by omega
          have KS : Hid (∀ w' : World, Below wr.heap.size wr w' → w'.cell? ⟨w.heap.size, 4, none⟩ = some (.slice (some ⟨g, o, none⟩) a.ks.length cap) ∧ w'.cell? ⟨w.heap.size + 1, 4, none⟩ = some (.slice (some ⟨p, q, none⟩) b.ks.length bcap) ∧ w'.cell? ⟨g, o + j * 5, none⟩ = some v0 ∧ w'.cell? ⟨g, o + j * 5 + 1, none⟩ = some v1 ∧ w'.cell? ⟨g, o + j * 5 + 2, none⟩ = some v2 ∧ w'.cell? ⟨g, o + j * 5 + 3, none⟩ = some v3 ∧ w'.cell? ⟨g, o + j * 5 + 4, none⟩ = some v4 ∧ w'.cell? ⟨p, q + j * 5, none⟩ = some y0 ∧ w'.cell? ⟨p, q + j * 5 + 1, none⟩ = some y1 ∧ w'.cell? ⟨p, q + j * 5 + 2, none⟩ = some y2 ∧ w'.cell? ⟨p, q + j * 5 + 3, none⟩ = some y3 ∧ w'.cell? ⟨p, q + j * 5 + 4, none⟩ = some y4) := fun w' h' => ⟨(h'.cell (p := ⟨w.heap.size, 4, none⟩) hz0).trans ca, (h'.cell (p := ⟨w.heap.size + 1, 4, none⟩) hz1).trans cb, (h'.cell (p := ⟨g, o + j * 5, none⟩) hgz).trans c0, (h'.cell (p := ⟨g, o + j * 5 + 1, none⟩) hgz).trans c1, (h'.cell (p := ⟨g, o + j * 5 + 2, none⟩) hgz).trans c2, (h'.cell (p := ⟨g, o + j * 5 + 3, none⟩) hgz).trans c3, (h'.cell (p := ⟨g, o + j * 5 + 4, none⟩) hgz).trans c4, (h'.cell (p := ⟨p, q + j * 5, none⟩) hpz).trans k0, (h'.cell (p := ⟨p, q + j * 5 + 1, none⟩) hpz).trans k1, (h'.cell (p := ⟨p, q + j * 5 + 2, none⟩) hpz).trans k2, (h'.cell (p := ⟨p, q + j * 5 + 3, none⟩) hpz).trans k3, (h'.cell (p := ⟨p, q + j * 5 + 4, none⟩) hpz).trans k4⟩
          have KC : Hid (Calls Tryz.prog 13 #[.agg #[v0, v1, v2, v3, v4], .agg #[y0, y1, y2, y3, y4]] wr.drew fun e w' => e = .returned (.bool (sm n m a.ks[j] b.ks[j])) ∧ Below wr.heap.size wr w') :=
            (HI.out m a.ks[j] b.ks[j] v0 v1 v2 v3 v4 y0 y1 y2 y3 y4 wr.drew (Rep.below (Below.drew (Below.refl _ wr)) n _ _ r1) (Rep.below (Below.drew (Below.refl _ wr)) m _ _ r2)).mono fun e w' ⟨he, hb'⟩ => ⟨he, (Below.drew (Below.refl _ wr)).trans hb'⟩
          clear r1 r2 dra drb
          go_wp2_with fail
          go_region_held3 (fun w' => w'.cell? ⟨w.heap.size, 4, none⟩ = some (.slice (some ⟨g, o, none⟩) a.ks.length cap) ∧ w'.cell? ⟨w.heap.size + 1, 4, none⟩ = some (.slice (some ⟨p, q, none⟩) b.ks.length bcap) ∧ w'.cell? ⟨g, o + j * 5, none⟩ = some v0 ∧ w'.cell? ⟨g, o + j * 5 + 1, none⟩ = some v1 ∧ w'.cell? ⟨g, o + j * 5 + 2, none⟩ = some v2 ∧ w'.cell? ⟨g, o + j * 5 + 3, none⟩ = some v3 ∧ w'.cell? ⟨g, o + j * 5 + 4, none⟩ = some v4 ∧ w'.cell? ⟨p, q + j * 5, none⟩ = some y0 ∧ w'.cell? ⟨p, q + j * 5 + 1, none⟩ = some y1 ∧ w'.cell? ⟨p, q + j * 5 + 2, none⟩ = some y2 ∧ w'.cell? ⟨p, q + j * 5 + 3, none⟩ = some y3 ∧ w'.cell? ⟨p, q + j * 5 + 4, none⟩ = some y4) (first | go_keep | exact KS.out _ (by assumption)) ((go_at_call 13; refine KC.out.mono ?_; rintro e w1 ⟨rfl, b1⟩))
          have hv := HV.out
          rw [drop_at a.ks j hlt, drop_at b.ks j hlt'] at hv
          simp only [smL] at hv
          have b2 : Below (w.heap.size + 2) ((w.alloc (.cells #[.int .i64 b.kd, .int .i64 b.it, .int .u64 b.ut, .string b.tx, .slice (some ⟨g, o, none⟩) a.ks.length cap] 25)).alloc (.cells #[.int .i64 b.kd, .int .i64 b.it, .int .u64 b.ut, .string b.tx, .slice (some ⟨p, q, none⟩) b.ks.length bcap] 25)) w1 := hb.trans (b1.mono hsz)
          have bw1 : Below w.heap.size w w1 := bw.trans (b1.mono (by omega))
          cases hr : sm n m a.ks[j] b.ks[j] with
          | true =>
            rw [hr, Bool.true_and] at hv
            have HW := Lib.hid hv
            clear hv HV c0 c1 c2 c3 c4 k0 k1 k2 k3 k4 ca cb b1 KS KC hr
            go_wp2_with fail
            refine ⟨⟨j + 1, by go_num, by omega, HW.out, b2⟩, by simp [intOf]; omega⟩
          | false =>
            rw [hr, Bool.false_and] at hv
            have HW := Lib.hid hv
            clear hv HV c0 c1 c2 c3 c4 k0 k1 k2 k3 k4 ca cb b1 KS KC hr
            go_wp2_with fail
            go_ret
            exact ⟨ret_b HW.out, bw1⟩
        · have hje : j = a.ks.length := by omega
          have hv := HV.out
          rw [hje, List.drop_length, List.drop_of_length_le (by have := H5.out; omega)] at hv
          have HW := Lib.hid hv
          clear hv HV
          go_wp2_with fail
          go_ret
          exact ⟨ret_b HW.out, bw⟩
end Go.Proofs.YthamafijjflfbaaGreat.Dt
/- The == of two values that the package makes of trees, with boxes by number: what the document says, or the panic of a type that is not comparable; the conditions: the trees valid, the boxes alive and apart. -/
namespace Go.Proofs.YthamafijjflfbaaGreat.Dt
open Go.RowKit
theorem q1 (d : Nat) (i j : Int) (w : World) : (Op.equalIn (d + 2) 20 (.iface 113 (.int .i64 i)) (.iface 113 (.int .i64 j))).run Tryz.prog w = .ok (i == j) w := by kernel_rfl
theorem q2 (d : Nat) (i j : Int) (w : World) : (Op.equalIn (d + 2) 20 (.iface 128 (.int .i64 i)) (.iface 128 (.int .i64 j))).run Tryz.prog w = .ok (i == j) w := by kernel_rfl
theorem q3 (d : Nat) (i j : Nat) (w : World) : (Op.equalIn (d + 2) 20 (.iface 129 (.float .f64 i)) (.iface 129 (.float .f64 j))).run Tryz.prog w = .ok (FloatKind.f64.format.order i j == some .eq) w := by kernel_rfl
theorem q4 (d : Nat) (i j : ByteArray) (w : World) : (Op.equalIn (d + 2) 20 (.iface 131 (.string i)) (.iface 131 (.string j))).run Tryz.prog w = .ok (i == j) w := by kernel_rfl
theorem q5 (d : Nat) (i j : ByteArray) (w : World) : (Op.equalIn (d + 2) 20 (.iface 132 (.string i)) (.iface 132 (.string j))).run Tryz.prog w = .ok (i == j) w := by kernel_rfl
theorem q6 (d : Nat) (i j : Bool) (w : World) : (Op.equalIn (d + 2) 20 (.iface 110 (.bool i)) (.iface 110 (.bool j))).run Tryz.prog w = .ok (i == j) w := by kernel_rfl
theorem q0 (d : Nat) (w : World) : (Op.equalIn (d + 2) 20 .nilIface .nilIface).run Tryz.prog w = .ok true w := by kernel_rfl
theorem q12 (d : Nat) (w : World) : (Op.equalIn (d + 2) 20 (.iface 141 (.pointer none)) (.iface 141 (.pointer none))).run Tryz.prog w = .ok true w := by kernel_rfl
theorem qpn (d : Nat) (a : Addr) (w : World) : (Op.equalIn (d + 2) 20 (.iface 141 (.pointer (some a))) (.iface 141 (.pointer none))).run Tryz.prog w = .ok false w := by kernel_rfl
theorem qnp (d : Nat) (a : Addr) (w : World) : (Op.equalIn (d + 2) 20 (.iface 141 (.pointer none)) (.iface 141 (.pointer (some a)))).run Tryz.prog w = .ok false w := by kernel_rfl
theorem qnv (d : Nat) (t : TypeId) (x : Value) (w : World) : (Op.equalIn (d + 2) 20 .nilIface (.iface t x)).run Tryz.prog w = .ok false w := by kernel_rfl
theorem qvn (d : Nat) (t : TypeId) (x : Value) (w : World) : (Op.equalIn (d + 2) 20 (.iface t x) .nilIface).run Tryz.prog w = .ok false w := by kernel_rfl
theorem qtt (d : Nat) (t u : TypeId) (x y : Value) (w : World) (h : t ≠ u) : (Op.equalIn (d + 2) 20 (.iface t x) (.iface u y)).run Tryz.prog w = .ok false w := by
  simp [Op.equalIn, run_underlying Tryz.underlying20, h]
theorem pt2 (x y : Value) (w : World) : (part 2 #[x, y] 0).run Tryz.prog w = .ok x w := by kernel_rfl
theorem pt9 (x y : Value) (w : World) : (part 9 #[x, y] 1).run Tryz.prog w = .ok y w := by kernel_rfl
theorem q10 (d : Nat) (i j : Int) (s z : ByteArray) (w : World) : (Op.equalIn (d + 3) 20 (.iface 75 (.agg #[.int .i64 i, .string s])) (.iface 75 (.agg #[.int .i64 j, .string z]))).run Tryz.prog w = .ok (i == j && s == z) w := by
  have e : (Op.equalIn (d + 3) 20 (.iface 75 (.agg #[.int .i64 i, .string s])) (.iface 75 (.agg #[.int .i64 j, .string z]))).run Tryz.prog w = (Op.equalIn (d + 2) 75 (.agg #[.int .i64 i, .string s]) (.agg #[.int .i64 j, .string z])).run Tryz.prog w := by kernel_rfl
  have e1 : ∀ w, (Op.equalIn (d + 1) 2 (.int .i64 i) (.int .i64 j)).run Tryz.prog w = .ok (i == j) w := fun _ => by kernel_rfl
  have e2 : ∀ w, (Op.equalIn (d + 1) 9 (.string s) (.string z)).run Tryz.prog w = .ok (s == z) w := fun _ => by kernel_rfl
  rw [e, run_equalIn_struct w (d + 1) 75 _ _ (by kernel_rfl) (by kernel_rfl)]
  have hf : ∃ b1 b2, (Tryz.prog.fieldsOf 75).toList = [⟨"Code", 2, 0, false, "", "", b1⟩, ⟨"Words", 9, 1, false, "", "", b2⟩] := ⟨0, 8, by kernel_rfl⟩
  obtain ⟨b1, b2, hf⟩ := hf
  rw [hf]
  simp only [Op.eqFields]
  simp only [Sem.run_bind, pt2, pt9, Result.andThen_ok, e1, e2, Sem.run_ite, Sem.run_pure]
  cases i == j <;> cases s == z <;> rfl
theorem q7 (d : Nat) (x y : Value) (w : World) : ∃ pv, (Op.equalIn (d + 2) 20 (.iface 135 x) (.iface 135 y)).run Tryz.prog w = .halt (.panic (.iface 10 pv)) w :=
  ⟨strVal ("comparing uncomparable type " ++ "value.Octets"), by kernel_rfl⟩
theorem q8 (d : Nat) (x y : Value) (w : World) : ∃ pv, (Op.equalIn (d + 2) 20 (.iface 137 x) (.iface 137 y)).run Tryz.prog w = .halt (.panic (.iface 10 pv)) w :=
  ⟨strVal ("comparing uncomparable type " ++ "value.Row"), by kernel_rfl⟩
theorem q13 (d : Nat) (w : World) : (Op.equalIn (d + 3) 20 (.iface 143 (.agg #[])) (.iface 143 (.agg #[]))).run Tryz.prog w = .ok true w := by kernel_rfl
theorem pt20 (x y : Value) (w : World) : (part 20 #[x, y] 0).run Tryz.prog w = .ok x w := by kernel_rfl
theorem pt20' (x y : Value) (w : World) : (part 20 #[x, y] 1).run Tryz.prog w = .ok y w := by kernel_rfl
theorem q9 (d : Nat) (x y x' y' : Value) (w : World) : (Op.equalIn (d + 3) 20 (.iface 140 (.agg #[x, y])) (.iface 140 (.agg #[x', y']))).run Tryz.prog w = ((Op.equalIn (d + 1) 20 x x').run Tryz.prog w).andThen fun b w' => if b then ((Op.equalIn (d + 1) 20 y y').run Tryz.prog w').andThen fun b w' => .ok b w' else .ok false w' := by
  have e : (Op.equalIn (d + 3) 20 (.iface 140 (.agg #[x, y])) (.iface 140 (.agg #[x', y']))).run Tryz.prog w = (Op.equalIn (d + 2) 140 (.agg #[x, y]) (.agg #[x', y'])).run Tryz.prog w := by kernel_rfl
  rw [e, run_equalIn_struct w (d + 1) 140 _ _ (by kernel_rfl) (by kernel_rfl)]
  have hf : ∃ b1 b2, (Tryz.prog.fieldsOf 140).toList = [⟨"First", 20, 0, false, "", "", b1⟩, ⟨"Second", 20, 1, false, "", "", b2⟩] := ⟨0, 16, by kernel_rfl⟩
  obtain ⟨b1, b2, hf⟩ := hf
  rw [hf]
  simp only [Op.eqFields]
  simp [pt20, pt20']
  refine congrArg _ (funext fun a => funext fun w' => ?_)
  cases a
  · rfl
  · simp only [Bool.true_eq_false, if_false, if_true]
    refine congrArg _ (funext fun a => funext fun w' => ?_)
    cases a <;> rfl

/-- A value that the package makes of a tree, its boxes by number. -/
def VS (l : List (Int × Nat)) : (n : Nat) → Value → Tr n → Prop
  | 0, _, _ => False
  | n + 1, v, t =>
    (t.kd = 0 ∧ v = .nilIface) ∨ (t.kd = 1 ∧ v = .iface 113 (.int .i64 t.it)) ∨ (t.kd = 2 ∧ v = .iface 128 (.int .i64 t.it)) ∨ (t.kd = 3 ∧ v = .iface 129 (.float .f64 t.ut.toNat)) ∨
    (t.kd = 4 ∧ v = .iface 131 (.string t.tx)) ∨ (t.kd = 5 ∧ v = .iface 132 (.string t.tx)) ∨ (t.kd = 6 ∧ v = .iface 110 (.bool (t.it != 0))) ∨ (t.kd = 7 ∧ ∃ x, v = .iface 135 x) ∨ (t.kd = 8 ∧ ∃ x, v = .iface 137 x) ∨
    (t.kd = 9 ∧ ∃ x y t0 t1, v = .iface 140 (.agg #[x, y]) ∧ t.ks = [t0, t1] ∧ VS l n x t0 ∧ VS l n y t1) ∨ (t.kd = 10 ∧ v = .iface 75 (.agg #[.int .i64 t.it, .string t.tx])) ∨
    (t.kd = 11 ∧ ∃ b, (t.it, b) ∈ l ∧ v = .iface 141 (.pointer (some ⟨b, 0, none⟩))) ∨ (t.kd = 12 ∧ v = .iface 141 (.pointer none)) ∨ (t.kd = 13 ∧ v = .iface 143 (.agg #[]))

/-- The document's Equal. -/
def eqP {T U : Type} (c : T → U → Bool × Int) : List T → List U → Bool × Int
  | [a0, a1], [b0, b1] => if (c a0 b0).2 ≠ 0 ∨ (c a0 b0).1 = false then (false, (c a0 b0).2) else c a1 b1
  | _, _ => (false, 0)
def eqT : (n m : Nat) → Tr n → Tr m → Bool × Int
  | 0, _, a, _ => a.elim
  | _ + 1, 0, _, b => b.elim
  | n + 1, m + 1, a, b =>
    if a.kd ≠ b.kd then (false, 0) else if a.kd = 7 ∨ a.kd = 8 then (false, 10) else if a.kd = 3 then (FloatKind.f64.format.order a.ut.toNat b.ut.toNat == some .eq, 0)
    else if a.kd = 9 then eqP (eqT n m) a.ks b.ks else (a.it == b.it && a.tx == b.tx, 0)

/-- The boxes: one number one block, one block one number. -/
def Bx (w : World) (l : List (Int × Nat)) : Prop :=
  (∀ i b, (i, b) ∈ l → ∃ cs, w.heap[b]? = some (.cells cs 177 (0, 0))) ∧ (∀ i b j c, (i, b) ∈ l → (j, c) ∈ l → (i = j ↔ b = c))

theorem qptr (d : Nat) (w : World) (l : List (Int × Nat)) (hb : Bx w l) (i j : Int) (b c : Nat) (h1 : (i, b) ∈ l) (h2 : (j, c) ∈ l) :
    (Op.equalIn (d + 2) 20 (.iface 141 (.pointer (some ⟨b, 0, none⟩))) (.iface 141 (.pointer (some ⟨c, 0, none⟩)))).run Tryz.prog w = .ok (i == j) w := by
  have hi : Tryz.prog.underlying 20 = some (.interface #[]) := by kernel_rfl
  have hp : Tryz.prog.underlying 141 = some (.pointer 177) := by kernel_rfl
  have hii : Tryz.prog.info? 141 = some Tryz.t141 := by kernel_rfl
  have hic : Tryz.t141.comparable = true := by kernel_rfl
  have hjj : Tryz.prog.info? 177 = some Tryz.t177 := by kernel_rfl
  have hjs : Tryz.t177.size ≠ 0 := by
    have : Tryz.t177.size = 2 := by kernel_rfl
    rw [this]; decide
  have hiff := hb.2 i b j c h1 h2
  by_cases e : i = j
  · have := hiff.1 e
    subst this
    rw [show (i == j) = true by simpa using e]
    exact run_equalIn_iface_ptr_same w d _ hi hp hii hic hjj
  · have hne : b ≠ c := fun x => e (hiff.2 x)
    rw [show (i == j) = false by simpa using e]
    obtain ⟨c1, g1⟩ := hb.1 i b h1
    obtain ⟨c2, g2⟩ := hb.1 j c h2
    exact run_equalIn_iface_ptr_other w d hi hp hii hic hjj hjs (by simp only [ne_eq, Addr.mk.injEq]; exact fun h => hne h.1) g1 g2

theorem ba_beq (s z : ByteArray) : (s == z) = true ↔ s = z := by
  have : (s == z) = (s.data == z.data) := by cases s; cases z; rfl
  rw [this, beq_iff_eq]
  exact ⟨ByteArray.ext, fun h => h ▸ rfl⟩
theorem tx_of {n m : Nat} {a : Tr (n + 1)} {b : Tr (m + 1)} (h1 : a.tx.size = 0) (h2 : b.tx.size = 0) : a.tx = b.tx := by
  rw [ByteArray.size_eq_zero_iff.1 h1, ByteArray.size_eq_zero_iff.1 h2]

/-- The type by the kind. -/
def tyK (k : Int) : TypeId := if k = 1 then 113 else if k = 2 then 128 else if k = 3 then 129 else if k = 4 then 131 else if k = 5 then 132 else if k = 6 then 110 else if k = 7 then 135 else if k = 8 then 137 else if k = 9 then 140 else if k = 10 then 75 else if k = 13 then 143 else 141
theorem vs_ty {l : List (Int × Nat)} {n : Nat} {v : Value} {t : Tr (n + 1)} (h : VS l (n + 1) v t) : (t.kd = 0 ∧ v = .nilIface) ∨ (1 ≤ t.kd ∧ t.kd ≤ 13 ∧ ∃ z, v = .iface (tyK t.kd) z) := by
  simp only [VS] at h
  rcases h with ⟨k, e⟩ | ⟨k, e⟩ | ⟨k, e⟩ | ⟨k, e⟩ | ⟨k, e⟩ | ⟨k, e⟩ | ⟨k, e⟩ | ⟨k, z, e⟩ | ⟨k, z, e⟩ | ⟨k, z, z', t0, t1, e, -⟩ | ⟨k, e⟩ | ⟨k, z, -, e⟩ | ⟨k, e⟩ | ⟨k, e⟩
  · exact .inl ⟨k, e⟩
  all_goals (right; rw [k]; exact ⟨by decide, by decide, _, e⟩)
theorem tyK_inj (i j : Int) (h1 : 1 ≤ i) (h2 : i ≤ 13) (h3 : 1 ≤ j) (h4 : j ≤ 13) (h : i ≠ j) (h5 : ¬ (i = 11 ∧ j = 12)) (h6 : ¬ (i = 12 ∧ j = 11)) : tyK i ≠ tyK j := by
  obtain h | h | h | h | h | h | h | h | h | h | h | h | h : i = 1 ∨ i = 2 ∨ i = 3 ∨ i = 4 ∨ i = 5 ∨ i = 6 ∨ i = 7 ∨ i = 8 ∨ i = 9 ∨ i = 10 ∨ i = 11 ∨ i = 12 ∨ i = 13 := by omega
  all_goals (subst h; obtain h | h | h | h | h | h | h | h | h | h | h | h | h : j = 1 ∨ j = 2 ∨ j = 3 ∨ j = 4 ∨ j = 5 ∨ j = 6 ∨ j = 7 ∨ j = 8 ∨ j = 9 ∨ j = 10 ∨ j = 11 ∨ j = 12 ∨ j = 13 := by omega)
  all_goals (subst h; first | (exfalso; omega) | decide)
theorem vs_11 {l : List (Int × Nat)} {n : Nat} {v : Value} {t : Tr (n + 1)} (h : VS l (n + 1) v t) (k : t.kd = 11) : ∃ b, (t.it, b) ∈ l ∧ v = .iface 141 (.pointer (some ⟨b, 0, none⟩)) := by
  simp only [VS, k] at h; simpa using h
theorem vs_12 {l : List (Int × Nat)} {n : Nat} {v : Value} {t : Tr (n + 1)} (h : VS l (n + 1) v t) (k : t.kd = 12) : v = .iface 141 (.pointer none) := by
  simp only [VS, k] at h; simpa using h
theorem vs_9 {l : List (Int × Nat)} {n : Nat} {v : Value} {t : Tr (n + 1)} (h : VS l (n + 1) v t) (k : t.kd = 9) : ∃ x y t0 t1, v = .iface 140 (.agg #[x, y]) ∧ t.ks = [t0, t1] ∧ VS l n x t0 ∧ VS l n y t1 := by
  simp only [VS, k] at h; simpa using h

theorem eq_run (l : List (Int × Nat)) (w : World) (hb : Bx w l) : ∀ (n m : Nat) (a : Tr n) (b : Tr m) (x y : Value) (d : Nat), rgt n a = true → rgt m b = true → VS l n x a → VS l m y b → 2 * n ≤ d →
    ((eqT n m a b).2 = 0 ∧ (Op.equalIn (d + 3) 20 x y).run Tryz.prog w = .ok (eqT n m a b).1 w) ∨ ((eqT n m a b).2 = 10 ∧ (eqT n m a b).1 = false ∧ ∃ pv, (Op.equalIn (d + 3) 20 x y).run Tryz.prog w = .halt (.panic (.iface 10 pv)) w) := by
  intro n
  induction n with
  | zero => intro m a; exact a.elim
  | succ n ih =>
    intro m a b x y d ra rb hx hy hd
    match m, b, rb, hy with
    | m + 1, b, rb, hy =>
      simp only [rgt, Bool.and_eq_true] at ra rb
      have oa := ok_plain ra.1
      have ob := ok_plain rb.1
      by_cases hk : a.kd = b.kd
      case neg =>
        left
        have e : eqT (n + 1) (m + 1) a b = (false, 0) := by simp [eqT, hk]
        rw [e]
        refine ⟨rfl, ?_⟩
        rcases vs_ty hx with ⟨ka, rfl⟩ | ⟨ka, ka', z, ex⟩
        · rcases vs_ty hy with ⟨kb, rfl⟩ | ⟨kb, kb', z', ey⟩
          · exact absurd (ka.trans kb.symm) hk
          · rw [ey]; exact qnv (d + 1) _ _ w
        · rcases vs_ty hy with ⟨kb, rfl⟩ | ⟨kb, kb', z', ey⟩
          · rw [ex]; exact qvn (d + 1) _ _ w
          · by_cases h1 : a.kd = 11 ∧ b.kd = 12
            · obtain ⟨c, -, e1⟩ := vs_11 hx h1.1
              rw [e1, vs_12 hy h1.2]
              exact qpn (d + 1) _ w
            · by_cases h2 : a.kd = 12 ∧ b.kd = 11
              · obtain ⟨c, -, e1⟩ := vs_11 hy h2.2
                rw [e1, vs_12 hx h2.1]
                exact qnp (d + 1) _ w
              · rw [ex, ey]
                exact qtt (d + 1) _ _ _ _ w (tyK_inj _ _ ka ka' kb kb' hk h1 h2)
      case pos =>
        obtain ⟨oa1, oa2, oa3, oa4, oa5, oa6⟩ := oa
        obtain ⟨ob1, ob2, ob3, ob4, ob5, ob6⟩ := ob
        by_cases h9 : a.kd = 9
        · obtain ⟨x0, x1, s0, s1, rfl, es, hx0, hx1⟩ := vs_9 hx h9
          obtain ⟨y0, y1, r0, r1, rfl, er, hy0, hy1⟩ := vs_9 hy (hk ▸ h9)
          have e : eqT (n + 1) (m + 1) a b = eqP (eqT n m) [s0, s1] [r0, r1] := by simp [eqT, hk.symm, h9, es, er]
          rw [e]
          have ra2 := ra.2
          have rb2 := rb.2
          rw [es] at ra2
          rw [er] at rb2
          simp only [List.all_cons, List.all_nil, Bool.and_true, Bool.and_eq_true] at ra2 rb2
          obtain ⟨dd, rfl⟩ : ∃ dd, d = dd + 2 := ⟨d - 2, by omega⟩
          rw [q9 (dd + 2)]
          have I0 := ih m s0 r0 x0 y0 dd ra2.1 rb2.1 hx0 hy0 (by omega)
          have I1 := ih m s1 r1 x1 y1 dd ra2.2 rb2.2 hx1 hy1 (by omega)
          simp only [eqP]
          generalize eqT n m s0 r0 = E0 at I0 ⊢
          generalize eqT n m s1 r1 = E1 at I1 ⊢
          rcases I0 with ⟨z0, i0⟩ | ⟨z0, f0, pv, i0⟩
          · rw [i0]
            cases hE : E0.1 with
            | false =>
              rw [if_pos (Or.inr rfl)]
              left
              exact ⟨z0, rfl⟩
            | true =>
              rw [if_neg (by simp [z0])]
              rcases I1 with ⟨z1, i1⟩ | ⟨z1, f1, pv, i1⟩
              · left
                refine ⟨z1, ?_⟩
                simp [i1]
              · right
                refine ⟨z1, f1, pv, ?_⟩
                simp [i1]
          · right
            rw [if_pos (Or.inl (by rw [z0]; decide))]
            refine ⟨z0, rfl, pv, ?_⟩
            rw [i0]; rfl
        · by_cases h78 : a.kd = 7 ∨ a.kd = 8
          · right
            have e : eqT (n + 1) (m + 1) a b = (false, 10) := by simp [eqT, hk.symm, h78]
            rw [e]
            refine ⟨rfl, rfl, ?_⟩
            rcases vs_ty hx with ⟨ka, rfl⟩ | ⟨ka, ka', z, ex⟩
            · omega
            · rcases vs_ty hy with ⟨kb, rfl⟩ | ⟨kb, kb', z', ey⟩
              · omega
              · rw [ex, ey, ← hk]
                rcases h78 with h | h
                · rw [h]; exact q7 (d + 1) _ _ w
                · rw [h]; exact q8 (d + 1) _ _ w
          · left
            by_cases h3 : a.kd = 3
            · have e : eqT (n + 1) (m + 1) a b = (FloatKind.f64.format.order a.ut.toNat b.ut.toNat == some .eq, 0) := by
                have hb3 : b.kd = 3 := by omega
                simp [eqT, h3, hb3]
              rw [e]
              have e1 : x = .iface 129 (.float .f64 a.ut.toNat) := by simp only [VS, h3] at hx; simpa using hx
              have e2 : y = .iface 129 (.float .f64 b.ut.toNat) := by
                have hb3 : b.kd = 3 := by omega
                simp only [VS, hb3] at hy; simpa using hy
              rw [e1, e2]
              exact ⟨rfl, q3 (d + 1) _ _ w⟩
            · have e : eqT (n + 1) (m + 1) a b = (a.it == b.it && a.tx == b.tx, 0) := by
                simp only [eqT]
                rw [if_neg (by simp [hk]), if_neg h78, if_neg h3, if_neg h9]
              rw [e]
              refine ⟨rfl, ?_⟩
              show (Op.equalIn (d + 3) 20 x y).run Tryz.prog w = .ok (a.it == b.it && a.tx == b.tx) w
              have tt : a.kd ≠ 4 → a.kd ≠ 5 → a.kd ≠ 10 → (a.tx == b.tx) = true := fun h4 h5 h10 => by
                rw [tx_of (oa4 h4 h5 (by omega) h10) (ob4 (by omega) (by omega) (by omega) (by omega))]
                exact (ba_beq _ _).2 rfl
              have ii : a.kd ≠ 1 → a.kd ≠ 2 → a.kd ≠ 6 → a.kd ≠ 10 → a.kd ≠ 11 → (a.it == b.it) = true := fun h1 h2 h6 h10 h11 => by
                rw [oa3 h1 h2 h6 h10 h11, ob3 (by omega) (by omega) (by omega) (by omega) (by omega)]; rfl
              obtain h | h | h | h | h | h | h | h | h | h : a.kd = 0 ∨ a.kd = 1 ∨ a.kd = 2 ∨ a.kd = 4 ∨ a.kd = 5 ∨ a.kd = 6 ∨ a.kd = 10 ∨ a.kd = 11 ∨ a.kd = 12 ∨ a.kd = 13 := by omega
              all_goals have hb' : b.kd = _ := hk.symm.trans h
              all_goals simp only [VS, h] at hx
              all_goals simp only [VS, hb'] at hy
              · obtain rfl : x = .nilIface := by simpa using hx
                obtain rfl : y = .nilIface := by simpa using hy
                rw [tt (by omega) (by omega) (by omega), ii (by omega) (by omega) (by omega) (by omega) (by omega)]
                exact q0 (d + 1) w
              · obtain rfl : x = .iface 113 (.int .i64 a.it) := by simpa using hx
                obtain rfl : y = .iface 113 (.int .i64 b.it) := by simpa using hy
                rw [tt (by omega) (by omega) (by omega), Bool.and_true]
                exact q1 (d + 1) _ _ w
              · obtain rfl : x = .iface 128 (.int .i64 a.it) := by simpa using hx
                obtain rfl : y = .iface 128 (.int .i64 b.it) := by simpa using hy
                rw [tt (by omega) (by omega) (by omega), Bool.and_true]
                exact q2 (d + 1) _ _ w
              · obtain rfl : x = .iface 131 (.string a.tx) := by simpa using hx
                obtain rfl : y = .iface 131 (.string b.tx) := by simpa using hy
                rw [ii (by omega) (by omega) (by omega) (by omega) (by omega), Bool.true_and]
                exact q4 (d + 1) _ _ w
              · obtain rfl : x = .iface 132 (.string a.tx) := by simpa using hx
                obtain rfl : y = .iface 132 (.string b.tx) := by simpa using hy
                rw [ii (by omega) (by omega) (by omega) (by omega) (by omega), Bool.true_and]
                exact q5 (d + 1) _ _ w
              · obtain rfl : x = .iface 110 (.bool (a.it != 0)) := by simpa using hx
                obtain rfl : y = .iface 110 (.bool (b.it != 0)) := by simpa using hy
                rw [tt (by omega) (by omega) (by omega), Bool.and_true]
                have eb : (a.it == b.it) = ((a.it != 0) == (b.it != 0)) := by
                  rcases oa1 h with h1 | h1 <;> rcases ob1 hb' with h2 | h2 <;> rw [h1, h2] <;> rfl
                rw [eb]
                exact q6 (d + 1) _ _ w
              · obtain rfl : x = .iface 75 (.agg #[.int .i64 a.it, .string a.tx]) := by simpa using hx
                obtain rfl : y = .iface 75 (.agg #[.int .i64 b.it, .string b.tx]) := by simpa using hy
                exact q10 d _ _ _ _ w
              · obtain ⟨p, hp, rfl⟩ : ∃ p, (a.it, p) ∈ l ∧ x = .iface 141 (.pointer (some ⟨p, 0, none⟩)) := by simpa using hx
                obtain ⟨q, hq, rfl⟩ : ∃ p, (b.it, p) ∈ l ∧ y = .iface 141 (.pointer (some ⟨p, 0, none⟩)) := by simpa using hy
                rw [tt (by omega) (by omega) (by omega), Bool.and_true]
                exact qptr (d + 1) w l hb _ _ _ _ hp hq
              · obtain rfl : x = .iface 141 (.pointer none) := by simpa using hx
                obtain rfl : y = .iface 141 (.pointer none) := by simpa using hy
                rw [tt (by omega) (by omega) (by omega), ii (by omega) (by omega) (by omega) (by omega) (by omega)]
                exact q12 (d + 1) w
              · obtain rfl : x = .iface 143 (.agg #[]) := by simpa using hx
                obtain rfl : y = .iface 143 (.agg #[]) := by simpa using hy
                rw [tt (by omega) (by omega) (by omega), ii (by omega) (by omega) (by omega) (by omega) (by omega)]
                exact q13 d w
end Go.Proofs.YthamafijjflfbaaGreat.Dt
