/- The package's Add of two values' trees, and the document's; the conditions: the trees in memory, valid, the bits within 64. -/
import Derived.Laws.FloatArith
import Derived.Test.YtajagjcfmaggiaaGreatDoorKCdb
import Derived.Test.YtajagjcfmaggiaaGreatDoorKCbb
import Derived.Test.YtajagjcfmaggiaaGreatDoorKCce
import Derived.Test.YtajagjcfmaggiaaGreatDoorKCaa
import Derived.Test.YtajagjcfmaggiaaGreatDoorKCae
import Derived.Test.YtajagjcfmaggiaaGreatDoorKCba
import Derived.Test.YtajagjcfmaggiaaGreatDoorKCbg
import Derived.Test.YtajagjcfmaggiaaGreatDoorShelf
import Derived.Lib.AppendIntMem
import Derived.Lib.ItoaLen
import Derived.Test.YtajagjcfmaggiaaGreatDoorKCag
namespace Go.Proofs.YtajagjcfmaggiaaGreatDoor.Dt
open Go.RowKit
def nanR (r : Nat) : Bool := FloatKind.f64.format.order r r != some .eq
/-- The bits of a sum; of what is no number, always the same ones. -/
def addF (x y : Nat) : Nat := match FloatKind.f64.format.add x y with
  | some r => if nanR r = true then 9221120237041090561 else r
  | none => 9221120237041090561
theorem addF_lt (x y : Nat) : addF x y < 18446744073709551616 := by
  unfold addF
  cases h : FloatKind.f64.format.add x y with
  | none => decide
  | some r =>
    have : r < 2 ^ FloatKind.f64.format.width := FloatKind.f64.format.add_lt h
    have h2 : r < 18446744073709551616 := this
    show (if nanR r = true then 9221120237041090561 else r) < 18446744073709551616
    split
    · decide
    · exact h2
theorem nan_cut (t : Nat) : nanR ((t % 2) * 2 ^ 63 + 0x7ff0000000000000 + 1 + (t / 2) % (2 ^ 52 - 1)) = true := by
  have h1 : t % 2 < 2 := Nat.mod_lt _ (by decide)
  have h2 : (t / 2) % (2 ^ 52 - 1) < 2 ^ 52 - 1 := Nat.mod_lt _ (by decide)
  generalize t % 2 = a at h1
  generalize (t / 2) % (2 ^ 52 - 1) = m at h2
  have hn : (FloatKind.f64.format.read (a * 2 ^ 63 + 0x7ff0000000000000 + 1 + m)).isNaN = true := by
    have hr : FloatKind.f64.format = Ieee.double := rfl
    have hs : Ieee.double.signWeight = 9223372036854775808 := by decide
    have hbn : Ieee.double.binade = 4503599627370496 := by decide
    have hif : Ieee.double.infRung = 9218868437227405312 := by decide
    rw [hr]
    unfold Ieee.Format.read
    simp only [hs, hbn, hif]
    rw [if_neg (by omega), if_neg (by omega), if_neg (by omega)]
    rfl
  have : FloatKind.f64.format.order (a * 2 ^ 63 + 0x7ff0000000000000 + 1 + m) (a * 2 ^ 63 + 0x7ff0000000000000 + 1 + m) = none := od_nan _ _ (.inl hn)
  unfold nanR
  rw [this]; rfl
theorem add_run (x y : Nat) (T : TypeId) (w : World) : ∃ r w', (binOp .add T (.float .f64 x) (.float .f64 y)).run Tryz.prog w = .ok (.float .f64 r) w' ∧ Below w.heap.size w w' ∧ (if nanR r = true then 9221120237041090561 else r) = addF x y := by
  cases h : FloatKind.f64.format.add x y with
  | some r => exact ⟨r, w, run_float_arith w .add T .f64 x y r h, Below.refl _ _, by unfold addF; rw [h]⟩
  | none =>
    refine ⟨Question.cut (.nanBits .f64 x y) (w.tape w.drawn (.nanBits .f64 x y)), w.drew, ?_, Below.drew (Below.refl _ _), ?_⟩
    · simp [binOp, Op.floatArith, h, Question.forced]
    · exact (if_pos (nan_cut _)).trans (by unfold addF; rw [h])
theorem adAt1 (i j : Int) (w : World) : Calls Tryz.prog 209 #[.int .i64 i, .iface 140 (.int .i64 j)] w fun e w' => e = .returned (.tuple #[.iface 140 (.int .i64 (wrap64 (i + j))), .int .i64 0]) ∧ Below w.heap.size w w' := by
  have h1 : ∀ w : World, (Instr.typeAssert (.iface 140 (.int .i64 j)) 20 140 true).run Tryz.prog w = .ok (.tuple #[.int .i64 j, .bool true]) w := fun _ => by kernel_rfl
  go_enter Tryz.func209, Tryz.ntmps209
  go_wp2
  go_ret2
  exact ⟨rfl, Below.refl _ _⟩
theorem frombits9 (u : Int) (w : World) : (callFunc 41 #[.int .u64 u]).run Tryz.prog w = .ok (.value (.float .f64 u.toNat)) w := by kernel_rfl
set_option maxRecDepth 100000 in
set_option maxHeartbeats 1000000 in
theorem adAt3 (x y : Nat) (w : World) : Calls Tryz.prog 212 #[.float .f64 x, .iface 142 (.float .f64 y)] w fun e w' => e = .returned (.tuple #[.iface 142 (.float .f64 (addF x y)), .int .i64 0]) ∧ Below w.heap.size w w' := by
  have h1 : ∀ w : World, (Instr.typeAssert (.iface 142 (.float .f64 y)) 20 142 true).run Tryz.prog w = .ok (.tuple #[.float .f64 y, .bool true]) w := fun _ => by kernel_rfl
  have hf := frombits9
  obtain ⟨r, w', h, hb, hr⟩ := add_run x y 142 w
  rw [← hr]
  cases hn : nanR r with
  | true =>
    have hn' : (FloatKind.f64.format.order r r != some Ordering.eq) = true := hn
    rw [if_pos rfl]
    clear hr hn
    go_enter Tryz.func212, Tryz.ntmps212
    go_wp2
    go_ret2
    exact ⟨rfl, hb⟩
  | false =>
    have hn' : (FloatKind.f64.format.order r r != some Ordering.eq) = false := hn
    rw [if_neg (by decide)]
    clear hr hn
    go_enter Tryz.func212, Tryz.ntmps212
    go_wp2
    go_ret2
    exact ⟨rfl, hb⟩
end Go.Proofs.YtajagjcfmaggiaaGreatDoor.Dt
namespace Go.Proofs.YtajagjcfmaggiaaGreatDoor.Dt
open Go.RowKit
def lf (k i u : Int) : Tr 1 := ((k, i, u, ⟨#[]⟩, []) : Int × Int × Int × ByteArray × List (Tr 0))
/-- What Add answers. -/
def addT (k i u k' j v : Int) : Tr 1 := if k = 1 ∧ k' = 1 then lf 1 (wrap64 (i + j)) 0 else if k = 3 ∧ k' = 3 then lf 3 0 (addF u.toNat v.toNat : Nat) else T0
theorem pln (t : Tr 1) (S : Value) (hr : rgt 1 t = true) (h6 : r64 1 t) (hp : (pts 1 t).1 ≤ 4096) (hv : ∀ F w, VR F w 1 S t) (W : World) : Calls Tryz.prog 82 #[S] W fun e w' => ∃ (u0 u1 u2 : Int) (u3 : ByteArray) (a4 : Option Addr) (n4 c4 : Nat), e = .returned (.agg #[.int .i64 u0, .int .i64 u1, .int .u64 u2, .string u3, .slice a4 n4 c4]) ∧ Hid (Rep w' 1 [.int .i64 u0, .int .i64 u1, .int .u64 u2, .string u3, .slice a4 n4 c4] t) ∧ Below W.heap.size W w' :=
  (plain_any (fun _ => True) W 1 t S W hr h6 hp (hv _ _) (Below.refl _ _)).mono fun e w' ⟨v0, v1, v2, v3, v4, he, rf, hb'⟩ => by
    obtain ⟨u0, u1, u2, u3, a4, n4, c4', rfl, rfl, rfl, rfl, rfl⟩ := rep_shape (Rf.rep _ _ _ rf)
    exact ⟨u0, u1, u2, u3, a4, n4, c4', he, Rf.rep _ _ _ rf, hb'⟩
theorem rep_leaf {w w' : World} {t : Tr 1} {cs : List Value} (hk : t.ks = []) (h : Rep w 1 cs t) : Rep w' 1 cs t := by
  obtain ⟨ad, cap, h1, h2, h3, h4, h5⟩ := h
  exact ⟨ad, cap, h1, h2, h3, h4, .inl hk⟩
theorem pln1 (x : Int) (W : World) : Calls Tryz.prog 82 #[.iface 140 (.int .i64 x)] W fun e w' => ∃ (u0 u1 u2 : Int) (u3 : ByteArray) (a4 : Option Addr) (n4 c4 : Nat), e = .returned (.agg #[.int .i64 u0, .int .i64 u1, .int .u64 u2, .string u3, .slice a4 n4 c4]) ∧ Hid (Rep w' 1 [.int .i64 u0, .int .i64 u1, .int .u64 u2, .string u3, .slice a4 n4 c4] (lf 1 x 0)) ∧ Below W.heap.size W w' :=
  pln (lf 1 x 0) _ (show (okB 1 x 0 0 0 && true) = true by simp [okB]) ⟨⟨by show (0 : Int) ≤ 0; decide, by show (0 : Int) < 18446744073709551616; decide⟩, fun s h => by cases h⟩ (by show (1 : Int) ≤ 4096; decide) (fun F w => .inr (.inl ⟨rfl, rfl⟩)) W
theorem pln3 (n : Nat) (hn : n < 18446744073709551616) (W : World) : Calls Tryz.prog 82 #[.iface 142 (.float .f64 n)] W fun e w' => ∃ (u0 u1 u2 : Int) (u3 : ByteArray) (a4 : Option Addr) (n4 c4 : Nat), e = .returned (.agg #[.int .i64 u0, .int .i64 u1, .int .u64 u2, .string u3, .slice a4 n4 c4]) ∧ Hid (Rep w' 1 [.int .i64 u0, .int .i64 u1, .int .u64 u2, .string u3, .slice a4 n4 c4] (lf 3 0 (n : Nat))) ∧ Below W.heap.size W w' :=
  pln (lf 3 0 (n : Nat)) _ (show (okB 3 0 n 0 0 && true) = true by simp [okB]) ⟨⟨Int.natCast_nonneg n, by show (n : Int) < 18446744073709551616; omega⟩, fun s h => by cases h⟩ (by show (1 : Int) ≤ 4096; decide) (fun F w => .inr (.inr (.inr (.inl ⟨rfl, by show _ = Value.iface _ (.float .f64 (n : Int).toNat); rw [Int.toNat_natCast]⟩)))) W
set_option maxRecDepth 100000 in
set_option maxHeartbeats 2000000 in
theorem adGo1S (i u j v : Int) (s z : ByteArray) (ad bd : Option Addr) (len cap len' cap' : Nat) (w : World) :
    Calls Tryz.prog 78 #[.agg #[.int .i64 1, .int .i64 i, .int .u64 u, .string s, .slice ad len cap], .agg #[.int .i64 1, .int .i64 j, .int .u64 v, .string z, .slice bd len' cap']] w fun e w' => ∃ (y0 y1 y2 : Int) (y3 : ByteArray) (y4 : Option Addr) (y5 y6 : Nat), e = .returned (.tuple #[.agg #[.int .i64 y0, .int .i64 y1, .int .u64 y2, .string y3, .slice y4 y5 y6], .int .i64 0]) ∧ Hid (Rep w' 1 [.int .i64 y0, .int .i64 y1, .int .u64 y2, .string y3, .slice y4 y5 y6] (lf 1 (wrap64 (i + j)) 0)) ∧ Below w.heap.size w w' := by
  have h1 : ∀ w : World, (Instr.typeAssert (.iface 140 (.int .i64 i)) 20 136 true).run Tryz.prog w = .ok (.tuple #[.iface 140 (.int .i64 i), .bool true]) w := fun _ => by kernel_rfl
  have hmf : ∀ (fn : Fn) (first cap : Array Value) (w : World), (Instr.makeFunc fn first cap).run Tryz.prog w = .ok (.func fn first cap) w := fun _ _ _ _ => rfl
  have hna : ∀ w : World, (nilAhead 367 140 (.int .i64 i) "Add").run Tryz.prog w = .ok (some false) w := fun _ => by kernel_rfl
  have hme : ∀ w : World, (method 367 140 (.int .i64 i) "Add").run Tryz.prog w = .ok (209, .int .i64 i) w := fun _ => by kernel_rfl
  have b0 : Below w.heap.size w (((w.alloc (.cells #[.int .i64 1, .int .i64 i, .int .u64 u, .string s, .slice ad len cap] 25)).alloc (.cells #[.int .i64 1, .int .i64 j, .int .u64 v, .string z, .slice bd len' cap'] 25)).alloc (.cells #[.int .i64 0, .int .i64 0, .int .u64 0, .string ⟨#[]⟩, .slice none 0 0] 25)) := (((Below.refl _ w).alloc (Nat.le_refl _) _).alloc (by simp) _).alloc (by simp; omega) _
  have db := (D5.new (w.alloc (.cells #[.int .i64 1, .int .i64 i, .int .u64 u, .string s, .slice ad len cap] 25)) (.int .i64 1) (.int .i64 j) (.int .u64 v) (.string z) (.slice bd len' cap')).below (below1 _ (.cells #[.int .i64 0, .int .i64 0, .int .u64 0, .string ⟨#[]⟩, .slice none 0 0] 25))
  have dr := D5.new ((w.alloc (.cells #[.int .i64 1, .int .i64 i, .int .u64 u, .string s, .slice ad len cap] 25)).alloc (.cells #[.int .i64 1, .int .i64 j, .int .u64 v, .string z, .slice bd len' cap'] 25)) (.int .i64 0) (.int .i64 0) (.int .u64 0) (.string ⟨#[]⟩) (.slice none 0 0)
  rw [World.size_alloc] at db
  rw [World.size_alloc, World.size_alloc] at dr
  have HP := Lib.hid (pln1 (wrap64 (i + j)))
  go_enter Tryz.func78, Tryz.ntmps78
  go_wp2_with fail
  refine (odVal1 i u s ad len cap _).mono ?_
  rintro e w1 ⟨rfl, b1⟩
  have d1 := db.below b1
  have dr1 := Lib.hid (dr.below b1)
  obtain ⟨k0, k1, k2, k3, k4⟩ := d1.c
  have B1 := b0.trans (b1.mono (by simp; omega))
  clear db dr b1 b0
  have hz : w.heap.size + 1 < w1.heap.size := d1.lt
  have KS : Hid (∀ w' : World, Below w1.heap.size w1 w' → w'.cell? ⟨w.heap.size + 1, 0, none⟩ = some (.int .i64 1) ∧ w'.cell? ⟨w.heap.size + 1, 1, none⟩ = some (.int .i64 j) ∧ w'.cell? ⟨w.heap.size + 1, 2, none⟩ = some (.int .u64 v) ∧ w'.cell? ⟨w.heap.size + 1, 3, none⟩ = some (.string z) ∧ w'.cell? ⟨w.heap.size + 1, 4, none⟩ = some (.slice bd len' cap')) := fun w' h' => ⟨(h'.cell (p := ⟨w.heap.size + 1, 0, none⟩) hz).trans k0, (h'.cell (p := ⟨w.heap.size + 1, 1, none⟩) hz).trans k1, (h'.cell (p := ⟨w.heap.size + 1, 2, none⟩) hz).trans k2, (h'.cell (p := ⟨w.heap.size + 1, 3, none⟩) hz).trans k3, (h'.cell (p := ⟨w.heap.size + 1, 4, none⟩) hz).trans k4⟩
  have KC : Hid (Calls Tryz.prog 76 #[.agg #[.int .i64 1, .int .i64 j, .int .u64 v, .string z, .slice bd len' cap']] w1.drew fun e w' => e = .returned (.iface 140 (.int .i64 j)) ∧ Below w1.heap.size w1 w') :=
    (odVal1 j v z bd len' cap' w1.drew).mono fun e w' ⟨he, hb'⟩ => ⟨he, (Below.drew (Below.refl _ w1)).trans hb'⟩
  clear d1
  go_wp2_with fail
  go_region_held3 (fun w' => w'.cell? ⟨w.heap.size + 1, 0, none⟩ = some (.int .i64 1) ∧ w'.cell? ⟨w.heap.size + 1, 1, none⟩ = some (.int .i64 j) ∧ w'.cell? ⟨w.heap.size + 1, 2, none⟩ = some (.int .u64 v) ∧ w'.cell? ⟨w.heap.size + 1, 3, none⟩ = some (.string z) ∧ w'.cell? ⟨w.heap.size + 1, 4, none⟩ = some (.slice bd len' cap')) (first | go_keep | exact KS.out _ (by assumption)) (first | (go_at_call 76; refine KC.out.mono ?_; rintro e w2 ⟨rfl, b2⟩) | (go_at_call 209; refine (adAt1 i j _).mono ?_; rintro e w3 ⟨rfl, b3⟩; have b3' := b2.trans (b3.mono b2.size)))
  all_goals (
    go_wp2_with fail
    refine (HP.out _).mono ?_
    rintro e w4 ⟨y0, y1, y2, y3, y4, y5, y6, rfl, hr, b4⟩
    have b4' := b3'.trans (b4.mono b3'.size)
    have D4 := dr1.out.below b4'
    obtain ⟨d0, d1, d2, d3, d4⟩ := D4.c
    have fz : ∀ o, w4.frozen? ⟨w.heap.size + 1 + 1, o, none⟩ = false := fun o => D4.f (o := o)
    have B4 := B1.trans (b4'.mono B1.size)
    clear k0 k1 k2 k3 k4
    go_wp2
    refine bodyPost_ret (v := .tuple #[.agg #[.int .i64 y0, .int .i64 y1, .int .u64 y2, .string y3, .slice y4 y5 y6], .int .i64 0]) (by simp [results, Tryz.results78, go_sem, World.cell?_setCell_same, World.cell?_setCell_other, d0, d1, d2, d3, d4]) rfl ⟨y0, y1, y2, y3, y4, y5, y6, rfl, rep_leaf rfl hr.out, ?_⟩
    exact ((((B4.setCell (by show w.heap.size ≤ w.heap.size + 1 + 1; omega) _).setCell (by show w.heap.size ≤ w.heap.size + 1 + 1; omega) _).setCell (by show w.heap.size ≤ w.heap.size + 1 + 1; omega) _).setCell (by show w.heap.size ≤ w.heap.size + 1 + 1; omega) _).setCell (by show w.heap.size ≤ w.heap.size + 1 + 1; omega) _)
set_option maxRecDepth 100000 in
set_option maxHeartbeats 2000000 in
theorem adGo3S (i u j v : Int) (s z : ByteArray) (ad bd : Option Addr) (len cap len' cap' : Nat) (w : World) :
    Calls Tryz.prog 78 #[.agg #[.int .i64 3, .int .i64 i, .int .u64 u, .string s, .slice ad len cap], .agg #[.int .i64 3, .int .i64 j, .int .u64 v, .string z, .slice bd len' cap']] w fun e w' => ∃ (y0 y1 y2 : Int) (y3 : ByteArray) (y4 : Option Addr) (y5 y6 : Nat), e = .returned (.tuple #[.agg #[.int .i64 y0, .int .i64 y1, .int .u64 y2, .string y3, .slice y4 y5 y6], .int .i64 0]) ∧ Hid (Rep w' 1 [.int .i64 y0, .int .i64 y1, .int .u64 y2, .string y3, .slice y4 y5 y6] (lf 3 0 (addF u.toNat v.toNat : Nat))) ∧ Below w.heap.size w w' := by
  have h1 : ∀ w : World, (Instr.typeAssert (.iface 142 (.float .f64 u.toNat)) 20 136 true).run Tryz.prog w = .ok (.tuple #[.iface 142 (.float .f64 u.toNat), .bool true]) w := fun _ => by kernel_rfl
  have hmf : ∀ (fn : Fn) (first cap : Array Value) (w : World), (Instr.makeFunc fn first cap).run Tryz.prog w = .ok (.func fn first cap) w := fun _ _ _ _ => rfl
  have hna : ∀ w : World, (nilAhead 367 142 (.float .f64 u.toNat) "Add").run Tryz.prog w = .ok (some false) w := fun _ => by kernel_rfl
  have hme : ∀ w : World, (method 367 142 (.float .f64 u.toNat) "Add").run Tryz.prog w = .ok (212, .float .f64 u.toNat) w := fun _ => by kernel_rfl
  have b0 : Below w.heap.size w (((w.alloc (.cells #[.int .i64 3, .int .i64 i, .int .u64 u, .string s, .slice ad len cap] 25)).alloc (.cells #[.int .i64 3, .int .i64 j, .int .u64 v, .string z, .slice bd len' cap'] 25)).alloc (.cells #[.int .i64 0, .int .i64 0, .int .u64 0, .string ⟨#[]⟩, .slice none 0 0] 25)) := (((Below.refl _ w).alloc (Nat.le_refl _) _).alloc (by simp) _).alloc (by simp; omega) _
  have db := (D5.new (w.alloc (.cells #[.int .i64 3, .int .i64 i, .int .u64 u, .string s, .slice ad len cap] 25)) (.int .i64 3) (.int .i64 j) (.int .u64 v) (.string z) (.slice bd len' cap')).below (below1 _ (.cells #[.int .i64 0, .int .i64 0, .int .u64 0, .string ⟨#[]⟩, .slice none 0 0] 25))
  have dr := D5.new ((w.alloc (.cells #[.int .i64 3, .int .i64 i, .int .u64 u, .string s, .slice ad len cap] 25)).alloc (.cells #[.int .i64 3, .int .i64 j, .int .u64 v, .string z, .slice bd len' cap'] 25)) (.int .i64 0) (.int .i64 0) (.int .u64 0) (.string ⟨#[]⟩) (.slice none 0 0)
  rw [World.size_alloc] at db
  rw [World.size_alloc, World.size_alloc] at dr
  have HP := Lib.hid (pln3 (addF u.toNat v.toNat) (addF_lt _ _))
  go_enter Tryz.func78, Tryz.ntmps78
  go_wp2_with fail
  refine (odVal3 i u s ad len cap _).mono ?_
  rintro e w1 ⟨rfl, b1⟩
  have d1 := db.below b1
  have dr1 := Lib.hid (dr.below b1)
  obtain ⟨k0, k1, k2, k3, k4⟩ := d1.c
  have B1 := b0.trans (b1.mono (by simp; omega))
  clear db dr b1 b0
  have hz : w.heap.size + 1 < w1.heap.size := d1.lt
  have KS : Hid (∀ w' : World, Below w1.heap.size w1 w' → w'.cell? ⟨w.heap.size + 1, 0, none⟩ = some (.int .i64 3) ∧ w'.cell? ⟨w.heap.size + 1, 1, none⟩ = some (.int .i64 j) ∧ w'.cell? ⟨w.heap.size + 1, 2, none⟩ = some (.int .u64 v) ∧ w'.cell? ⟨w.heap.size + 1, 3, none⟩ = some (.string z) ∧ w'.cell? ⟨w.heap.size + 1, 4, none⟩ = some (.slice bd len' cap')) := fun w' h' => ⟨(h'.cell (p := ⟨w.heap.size + 1, 0, none⟩) hz).trans k0, (h'.cell (p := ⟨w.heap.size + 1, 1, none⟩) hz).trans k1, (h'.cell (p := ⟨w.heap.size + 1, 2, none⟩) hz).trans k2, (h'.cell (p := ⟨w.heap.size + 1, 3, none⟩) hz).trans k3, (h'.cell (p := ⟨w.heap.size + 1, 4, none⟩) hz).trans k4⟩
  have KC : Hid (Calls Tryz.prog 76 #[.agg #[.int .i64 3, .int .i64 j, .int .u64 v, .string z, .slice bd len' cap']] w1.drew fun e w' => e = .returned (.iface 142 (.float .f64 v.toNat)) ∧ Below w1.heap.size w1 w') :=
    (odVal3 j v z bd len' cap' w1.drew).mono fun e w' ⟨he, hb'⟩ => ⟨he, (Below.drew (Below.refl _ w1)).trans hb'⟩
  clear d1
  go_wp2_with fail
  go_region_held3 (fun w' => w'.cell? ⟨w.heap.size + 1, 0, none⟩ = some (.int .i64 3) ∧ w'.cell? ⟨w.heap.size + 1, 1, none⟩ = some (.int .i64 j) ∧ w'.cell? ⟨w.heap.size + 1, 2, none⟩ = some (.int .u64 v) ∧ w'.cell? ⟨w.heap.size + 1, 3, none⟩ = some (.string z) ∧ w'.cell? ⟨w.heap.size + 1, 4, none⟩ = some (.slice bd len' cap')) (first | go_keep | exact KS.out _ (by assumption)) (first | (go_at_call 76; refine KC.out.mono ?_; rintro e w2 ⟨rfl, b2⟩) | (go_at_call 212; refine (adAt3 _ _ _).mono ?_; rintro e w3 ⟨rfl, b3⟩; have b3' := b2.trans (b3.mono b2.size)))
  all_goals (
    go_wp2_with fail
    refine (HP.out _).mono ?_
    rintro e w4 ⟨y0, y1, y2, y3, y4, y5, y6, rfl, hr, b4⟩
    have b4' := b3'.trans (b4.mono b3'.size)
    have D4 := dr1.out.below b4'
    obtain ⟨d0, d1, d2, d3, d4⟩ := D4.c
    have fz : ∀ o, w4.frozen? ⟨w.heap.size + 1 + 1, o, none⟩ = false := fun o => D4.f (o := o)
    have B4 := B1.trans (b4'.mono B1.size)
    clear k0 k1 k2 k3 k4
    go_wp2
    refine bodyPost_ret (v := .tuple #[.agg #[.int .i64 y0, .int .i64 y1, .int .u64 y2, .string y3, .slice y4 y5 y6], .int .i64 0]) (by simp [results, Tryz.results78, go_sem, World.cell?_setCell_same, World.cell?_setCell_other, d0, d1, d2, d3, d4]) rfl ⟨y0, y1, y2, y3, y4, y5, y6, rfl, rep_leaf rfl hr.out, ?_⟩
    exact ((((B4.setCell (by show w.heap.size ≤ w.heap.size + 1 + 1; omega) _).setCell (by show w.heap.size ≤ w.heap.size + 1 + 1; omega) _).setCell (by show w.heap.size ≤ w.heap.size + 1 + 1; omega) _).setCell (by show w.heap.size ≤ w.heap.size + 1 + 1; omega) _).setCell (by show w.heap.size ≤ w.heap.size + 1 + 1; omega) _)
end Go.Proofs.YtajagjcfmaggiaaGreatDoor.Dt
/- The package's Label and the document's, of a value: one answer; the conditions: what the package's value is, the table of powers, the number within 64 bits. -/
namespace Go.Proofs.YtajagjcfmaggiaaGreatDoor.Dt
open Go.RowKit
def I64 (i : Int) : Prop := -9223372036854775808 ≤ i ∧ i ≤ 9223372036854775807
/-- A word and a number. -/
def wnum (s : ByteArray) (i : Int) : ByteArray := s ++ ⟨(Lib.itoa i).toArray⟩
def keyW : ByteArray := ⟨#[107, 101, 121, 32]⟩
theorem nameName (s : ByteArray) (w : World) : Calls Tryz.prog 215 #[.string s] w fun e w' => e = .returned (.string s) ∧ Below w.heap.size w w' := by
  go_enter Tryz.func215, Tryz.ntmps215
  go_wp2
  go_ret
  exact ⟨rfl, Below.refl _ _⟩
theorem nameFail (c : Int) (s : ByteArray) (w : World) : Calls Tryz.prog 221 #[.agg #[.int .i64 c, .string s]] w fun e w' => e = .returned (.string s) ∧ Below w.heap.size w w' := by
  go_enter Tryz.func221, Tryz.ntmps221
  go_wp2
  go_ret
  first | exact ⟨rfl, Below.refl _ _⟩ | exact ⟨rfl, below1 _ _⟩
end Go.Proofs.YtajagjcfmaggiaaGreatDoor.Dt
/- A valid value's kind is one of the fourteen; the conditions: its tree in memory, and valid. -/
namespace Go.Proofs.YtajagjcfmaggiaaGreatDoor
open Go.RowKit

/-- A right value's kind is one. -/
theorem kind_in {k i u : Int} {z len : Nat} (h : Dt.okB k i u z len = true) : 0 ≤ k ∧ k ≤ 13 := by
  unfold Dt.okB at h
  by_cases hk : 0 ≤ k ∧ k ≤ 13
  · exact hk
  · rw [if_neg (by omega), if_neg (by omega), if_neg (by omega), if_neg (by omega), if_neg (by omega), if_neg (by omega), if_neg (by omega), if_neg (by omega), if_neg (by omega)] at h
    cases h
end Go.Proofs.YtajagjcfmaggiaaGreatDoor
