/- The law of states; the conditions: the contracts of what it calls. -/
import Derived.Test.YtgijdiplhcoojaaGreatDoorJdb
import Derived.Test.YtgijdiplhcoojaaGreatDoorJcf
import Derived.Test.YtgijdiplhcoojaaGreatDoorXLw
namespace Go.Proofs.YtgijdiplhcoojaaGreatDoor.Dt
open Go.RowKit

set_option maxRecDepth 100000 in
set_option maxHeartbeats 4000000 in
theorem fits_yes_no (cn ac un k i u : Int) (s : ByteArray) (a : Option Addr) (len cap : Nat) (la : Option Addr) (ll lc : Nat) (cl : Bool) (dk di du : Int) (ds : ByteArray) (da : Option Addr) (dn dc : Nat) (w : World)
    (hF : Fits true cn ac un k i u s a len cap la ll lc cl w) (hA : ∀ wx, Below w.heap.size w wx → Calls Tryz.prog 13 #[] wx fun e w' => e = .returned (.bool true) ∧ Below wx.heap.size wx w')
    (hV : ∀ wx, Below w.heap.size w wx → Calls Tryz.prog 12 #[.agg #[.int .i64 dk, .int .i64 di, .int .u64 du, .string ds, .slice da dn dc]] wx fun e w' => e = .returned (.bool false) ∧ Below wx.heap.size wx w') (o : Bool) (back : Bool) (hback : o = true → back = true) (X1 X2 : Int → Int → Int → ByteArray → Option Addr → Nat → Nat → World → Prop) (X3 : Int → Int → Int → Int → Int → ByteArray → Option Addr → Nat → Nat → Option Addr → Nat → Nat → Bool → Int → World → Prop)
    (hX1 : ∀ k3 i3 u3 s3 a3 n3 c3 w' w'', X1 k3 i3 u3 s3 a3 n3 c3 w' → Below w'.heap.size w' w'' → X1 k3 i3 u3 s3 a3 n3 c3 w'') (hX2 : ∀ k3 i3 u3 s3 a3 n3 c3 w' w'', X2 k3 i3 u3 s3 a3 n3 c3 w' → Below w'.heap.size w' w'' → X2 k3 i3 u3 s3 a3 n3 c3 w'') (hX3 : ∀ cn5 ac5 k5 i5 u5 s5 a5 n5 c5 la5 ll5 lc5 cl5 un5 w' w'', X3 cn5 ac5 k5 i5 u5 s5 a5 n5 c5 la5 ll5 lc5 cl5 un5 w' → Below w'.heap.size w' w'' → X3 cn5 ac5 k5 i5 u5 s5 a5 n5 c5 la5 ll5 lc5 cl5 un5 w'')
    (hS1 : ∀ wx, Below w.heap.size w wx → Calls Tryz.prog 7 #[.agg #[.int .i64 cn, .int .i64 ac, .int .i64 k, .int .i64 i, .int .u64 u, .string s, .slice a len cap, .slice la ll lc, .bool cl, .int .i64 un]] wx fun e w' => ∃ k3 i3 u3 s3 a3 n3 c3, e = .returned (.tuple #[.agg #[.int .i64 k3, .int .i64 i3, .int .u64 u3, .string s3, .slice a3 n3 c3], .bool o]) ∧ Hid (X1 k3 i3 u3 s3 a3 n3 c3 w') ∧ Below wx.heap.size wx w')
    (hS2 : ∀ wx, Below w.heap.size w wx → Calls Tryz.prog 8 #[.agg #[.int .i64 cn, .int .i64 ac, .int .i64 k, .int .i64 i, .int .u64 u, .string s, .slice a len cap, .slice la ll lc, .bool cl, .int .i64 un]] wx fun e w' => ∃ k4 i4 u4 s4 a4 n4 c4, e = .returned (.tuple #[.agg #[.int .i64 k4, .int .i64 i4, .int .u64 u4, .string s4, .slice a4 n4 c4], .bool o]) ∧ Hid (X2 k4 i4 u4 s4 a4 n4 c4 w') ∧ Below wx.heap.size wx w')
    (hDS : ∀ k3 i3 u3 s3 a3 n3 c3 k4 i4 u4 s4 a4 n4 c4 wx, X1 k3 i3 u3 s3 a3 n3 c3 wx → X2 k4 i4 u4 s4 a4 n4 c4 wx → Calls Tryz.prog 9 #[.agg #[.int .i64 k3, .int .i64 i3, .int .u64 u3, .string s3, .slice a3 n3 c3], .agg #[.int .i64 k4, .int .i64 i4, .int .u64 u4, .string s4, .slice a4 n4 c4]] wx fun e w' => e = .returned (.bool true) ∧ Below wx.heap.size wx w')
    (hLx : ∀ k3 i3 u3 s3 a3 n3 c3 wx, X1 k3 i3 u3 s3 a3 n3 c3 wx → Below w.heap.size w wx → Calls Tryz.prog 10 #[.agg #[.int .i64 k3, .int .i64 i3, .int .u64 u3, .string s3, .slice a3 n3 c3]] wx fun e w' => ∃ cn5 ac5 k5 i5 u5 s5 a5 n5 c5 la5 ll5 lc5 cl5 un5, e = .returned (.tuple #[.agg #[.int .i64 cn5, .int .i64 ac5, .int .i64 k5, .int .i64 i5, .int .u64 u5, .string s5, .slice a5 n5 c5, .slice la5 ll5 lc5, .bool cl5, .int .i64 un5], .bool back]) ∧ Hid (X3 cn5 ac5 k5 i5 u5 s5 a5 n5 c5 la5 ll5 lc5 cl5 un5 w') ∧ Below wx.heap.size wx w')
    (hSs : o = true → ∀ cn5 ac5 k5 i5 u5 s5 a5 n5 c5 la5 ll5 lc5 cl5 un5 wx, X3 cn5 ac5 k5 i5 u5 s5 a5 n5 c5 la5 ll5 lc5 cl5 un5 wx → Below w.heap.size w wx → Calls Tryz.prog 11 #[.agg #[.int .i64 cn5, .int .i64 ac5, .int .i64 k5, .int .i64 i5, .int .u64 u5, .string s5, .slice a5 n5 c5, .slice la5 ll5 lc5, .bool cl5, .int .i64 un5], .agg #[.int .i64 cn, .int .i64 ac, .int .i64 k, .int .i64 i, .int .u64 u, .string s, .slice a len cap, .slice la ll lc, .bool cl, .int .i64 un]] wx fun e w' => e = .returned (.bool true) ∧ Below wx.heap.size wx w') :
    Calls Tryz.prog 3 #[.agg #[.int .i64 cn, .int .i64 ac, .int .i64 k, .int .i64 i, .int .u64 u, .string s, .slice a len cap, .slice la ll lc, .bool cl, .int .i64 un], .agg #[.int .i64 dk, .int .i64 di, .int .u64 du, .string ds, .slice da dn dc]] w fun e w' => e = .returned (.bool true) ∧ Below w.heap.size w w' := by
  have HS1 := Lib.hid hS1
  have HS2 := Lib.hid hS2
  have HDS := Lib.hid hDS
  have HLx := Lib.hid hLx
  have HSs := Lib.hid hSs
  have HX1 := Lib.hid hX1
  have HX2 := Lib.hid hX2
  have HX3 := Lib.hid hX3
  have HB := Lib.hid hback
  clear hS1 hS2 hDS hLx hSs hX1 hX2 hX3 hback
  have HF1 := Lib.hid hF.1
  have HF2 := Lib.hid hF.2
  have HA := Lib.hid hA
  have HD := Lib.hid hV
  clear hF hA hV
  have J0 : Lw w #[.int .i64 cn, .int .i64 ac, .int .i64 k, .int .i64 i, .int .u64 u, .string s, .slice a len cap, .slice la ll lc, .bool cl, .int .i64 un] #[.int .i64 dk, .int .i64 di, .int .u64 du, .string ds, .slice da dn dc] ((w.alloc (.cells #[.int .i64 cn, .int .i64 ac, .int .i64 k, .int .i64 i, .int .u64 u, .string s, .slice a len cap, .slice la ll lc, .bool cl, .int .i64 un] 27)).alloc (.cells #[.int .i64 dk, .int .i64 di, .int .u64 du, .string ds, .slice da dn dc] 25)) := ⟨(Bk.new w _ _).alloc _, Bk.new2 w _ _ _, below2 w _ _⟩
  go_enter Tryz.func3, Tryz.ntmps3
  go_wp2_with fail
  generalize ((w.alloc (.cells #[.int .i64 cn, .int .i64 ac, .int .i64 k, .int .i64 i, .int .u64 u, .string s, .slice a len cap, .slice la ll lc, .bool cl, .int .i64 un] 27)).alloc (.cells #[.int .i64 dk, .int .i64 di, .int .u64 du, .string ds, .slice da dn dc] 25)) = w2 at *
  have HV : Hid (∀ wx, Lw w #[.int .i64 cn, .int .i64 ac, .int .i64 k, .int .i64 i, .int .u64 u, .string s, .slice a len cap, .slice la ll lc, .bool cl, .int .i64 un] #[.int .i64 dk, .int .i64 di, .int .u64 du, .string ds, .slice da dn dc] wx → wx.cell? ⟨w.heap.size, 0, none⟩ = some (.int .i64 cn) ∧ wx.cell? ⟨w.heap.size, 1, none⟩ = some (.int .i64 ac) ∧ wx.cell? ⟨w.heap.size, 2, none⟩ = some (.int .i64 k) ∧ wx.cell? ⟨w.heap.size, 3, none⟩ = some (.int .i64 i) ∧ wx.cell? ⟨w.heap.size, 4, none⟩ = some (.int .u64 u) ∧ wx.cell? ⟨w.heap.size, 5, none⟩ = some (.string s) ∧ wx.cell? ⟨w.heap.size, 6, none⟩ = some (.slice a len cap) ∧ wx.cell? ⟨w.heap.size, 7, none⟩ = some (.slice la ll lc) ∧ wx.cell? ⟨w.heap.size, 8, none⟩ = some (.bool cl) ∧ wx.cell? ⟨w.heap.size, 9, none⟩ = some (.int .i64 un)) := fun wx h => h.s.c10
  have J1 := J0.step (Below.drew (Below.refl _ _))
  refine wp_region_held_drew (S := fun wx => wx.cell? ⟨w.heap.size, 0, none⟩ = some (.int .i64 cn) ∧ wx.cell? ⟨w.heap.size, 1, none⟩ = some (.int .i64 ac) ∧ wx.cell? ⟨w.heap.size, 2, none⟩ = some (.int .i64 k) ∧ wx.cell? ⟨w.heap.size, 3, none⟩ = some (.int .i64 i) ∧ wx.cell? ⟨w.heap.size, 4, none⟩ = some (.int .u64 u) ∧ wx.cell? ⟨w.heap.size, 5, none⟩ = some (.string s) ∧ wx.cell? ⟨w.heap.size, 6, none⟩ = some (.slice a len cap) ∧ wx.cell? ⟨w.heap.size, 7, none⟩ = some (.slice la ll lc) ∧ wx.cell? ⟨w.heap.size, 8, none⟩ = some (.bool cl) ∧ wx.cell? ⟨w.heap.size, 9, none⟩ = some (.int .i64 un)) (by kernel_rfl) (HV.out _ J1) (fun hHeld => ?_)
  refine wpAnyH_take (i := 0) (oi := { dst := some 15, op := Op.load 27 (Operand.tmp 2), type := 27, pos := "law.go:41", after := #[], guard := none }) (v := ?tW0x) rfl (by kernel_rfl) (by kernel_rfl) (by kernel_rfl) (fun _ _ _ h => h) (Or.inl ⟨by rfl, ?uW0x⟩) (by assumption) ?rW0x
  case uW0x => (intro w hSw; (try dsimp only at hSw); go_simp; (try with_reducible rfl))
  simp only [Act.put, List.setIfInBounds_toArray, List.set_cons_zero, List.set_cons_succ]
  refine wpAnyH_take (i := 2) (oi := { dst := some 17, op := Op.load 27 (Operand.tmp 2), type := 27, pos := "law.go:41", after := #[], guard := none }) (v := ?tW2x) rfl (by kernel_rfl) (by kernel_rfl) (by kernel_rfl) (fun _ _ _ h => h) (Or.inl ⟨by rfl, ?uW2x⟩) (by assumption) ?rW2x
  case uW2x => (intro w hSw; (try dsimp only at hSw); go_simp; (try with_reducible rfl))
  simp only [Act.put, List.setIfInBounds_toArray, List.set_cons_zero, List.set_cons_succ]
  refine wpAnyH_ready (rs := [1]) (by kernel_rfl) (by simp) ?_
  refine AllReadyH.cons (o := { dst := some 16, op := Op.call { callee := Callee.value (Operand.func 5), args := #[Operand.tmp 15], argTypes := #[27] }, type := 4, pos := "law.go:41", after := #[{ on := 0, ground := Ground.data }], guard := none }) rfl (fun K hK => ?_) AllReadyH.nil
  go_simp
  refine (HF1.out _ J1.b).mono ?_
  rintro e w3 ⟨rfl, bw3⟩
  go_wp2_with fail
  have J3 := J1.step bw3
  refine hK.out _ _ (HV.out _ J3) (fun hHeldw3 => ?_)
  clear hK K
  try simp only [Act.put, List.setIfInBounds_toArray, List.set_cons_zero, List.set_cons_succ]
  refine wpAnyH_ready (rs := [3]) (by kernel_rfl) (by simp) ?_
  refine AllReadyH.cons (o := { dst := some 18, op := Op.call { callee := Callee.value (Operand.func 6), args := #[Operand.tmp 17], argTypes := #[27] }, type := 4, pos := "law.go:41", after := #[{ on := 2, ground := Ground.data }, { on := 1, ground := Ground.chain }], guard := none }) rfl (fun K hK => ?_) AllReadyH.nil
  go_simp
  refine (HF2.out _ J3.b).mono ?_
  rintro e w4 ⟨rfl, bw4⟩
  go_wp2_with fail
  have J4 := J3.step bw4
  refine hK.out _ _ (HV.out _ J4) (fun hHeldw4 => ?_)
  clear hK K
  try simp only [Act.put, List.setIfInBounds_toArray, List.set_cons_zero, List.set_cons_succ]
  refine wpAnyH_take (i := 4) (oi := { dst := some 19, op := Op.binOp BinOp.neq 4 (Operand.tmp 16) (Operand.tmp 18) 4, type := 4, pos := "law.go:41", after := #[{ on := 1, ground := Ground.data }, { on := 3, ground := Ground.data }], guard := none }) (v := ?tW4x) rfl (by kernel_rfl) (by kernel_rfl) (by kernel_rfl) (fun _ _ _ h => h) (Or.inl ⟨by rfl, ?uW4x⟩) (by assumption) ?rW4x
  case uW4x => (intro w hSw; (try dsimp only at hSw); go_simp; (try with_reducible rfl))
  simp only [Act.put, List.setIfInBounds_toArray, List.set_cons_zero, List.set_cons_succ]
  refine wpAnyH_done (by kernel_rfl) ?_ _
  clear hHeld hHeldw3 hHeldw4 J3 J1 J0 bw3 bw4 HV
  obtain ⟨s0, s1, s2, s3, s4, s5, s6, s7, s8, s9⟩ := J4.s.c10
  go_wp2_with fail
  refine (HF2.out _ J4.b).mono ?_
  rintro e w5 ⟨rfl, b5⟩
  have J5 := J4.step b5
  clear J4 b5 s0 s1 s2 s3 s4 s5 s6 s7 s8 s9 HF1 HF2
  obtain ⟨z0, z1, z2, z3, z4, z5, z6, z7, z8, z9⟩ := J5.s.c10
  go_wp2_with fail
  refine (HS1.out _ J5.b).mono ?_
  rintro e v1 ⟨k3, i3, u3, s3, a3, n3, c3, rfl, p1, vb1⟩
  have L1 := J5.step vb1
  clear J5 vb1 z0 z1 z2 z3 z4 z5 z6 z7 z8 z9 HS1
  have vb2 := below1 v1 (.cells #[.int .i64 k3, .int .i64 i3, .int .u64 u3, .string s3, .slice a3 n3 c3] 25)
  have E2 := Bk.new v1 #[.int .i64 k3, .int .i64 i3, .int .u64 u3, .string s3, .slice a3 n3 c3] 25
  have L2 := L1.step vb2
  have p2 : Hid (X1 k3 i3 u3 s3 a3 n3 c3 _) := HX1.out _ _ _ _ _ _ _ _ _ p1.out vb2
  obtain ⟨z0, z1, z2, z3, z4, z5, z6, z7, z8, z9⟩ := L2.s.c10
  go_wp2_with fail
  generalize v1.alloc (.cells #[.int .i64 k3, .int .i64 i3, .int .u64 u3, .string s3, .slice a3 n3 c3] 25) = v2 at *
  generalize v1.heap.size = gx at *
  clear L1 p1 vb2
  refine (HS2.out _ L2.b).mono ?_
  rintro e v3 ⟨k4, i4, u4, s4, a4, n4, c4, rfl, p3, vb3⟩
  have L3 := L2.step vb3
  have E3 := E2.step vb3
  have p4 : Hid (X1 k3 i3 u3 s3 a3 n3 c3 v3) := HX1.out _ _ _ _ _ _ _ _ _ p2.out vb3
  have hgx := E3.lt
  clear L2 E2 p2 vb3 z0 z1 z2 z3 z4 z5 z6 z7 z8 z9 HS2
  have vb4 := below1 v3 (.cells #[.int .i64 k4, .int .i64 i4, .int .u64 u4, .string s4, .slice a4 n4 c4] 25)
  have F4 := Bk.new v3 #[.int .i64 k4, .int .i64 i4, .int .u64 u4, .string s4, .slice a4 n4 c4] 25
  have E4 := E3.step vb4
  have L4 := L3.step vb4
  have p5 : Hid (X1 k3 i3 u3 s3 a3 n3 c3 _) := HX1.out _ _ _ _ _ _ _ _ _ p4.out vb4
  have p6 : Hid (X2 k4 i4 u4 s4 a4 n4 c4 _) := HX2.out _ _ _ _ _ _ _ _ _ p3.out vb4
  obtain ⟨x0, x1, x2, x3, x4⟩ := E4.c5
  clear L3 E3 p4 p3
  go_wp2_with fail
  generalize v3.alloc (.cells #[.int .i64 k4, .int .i64 i4, .int .u64 u4, .string s4, .slice a4 n4 c4] 25) = v4 at *
  clear vb4
  refine (HDS.out _ _ _ _ _ _ _ _ _ _ _ _ _ _ _ p5.out p6.out).mono ?_
  rintro e v5 ⟨rfl, vb5⟩
  have L5 := L4.step vb5
  have E5 := E4.step vb5
  have p7 : Hid (X1 k3 i3 u3 s3 a3 n3 c3 v5) := HX1.out _ _ _ _ _ _ _ _ _ p5.out vb5
  clear L4 E4 p5 p6 F4 vb5 x0 x1 x2 x3 x4 HDS HX2 hgx
  obtain ⟨x0, x1, x2, x3, x4⟩ := E5.c5
  go_wp2_with fail
  refine (HLx.out _ _ _ _ _ _ _ _ p7.out L5.b).mono ?_
  rintro e v6 ⟨cn5, ac5, k5, i5, u5, s5, a5, n5, c5, la5, ll5, lc5, cl5, un5, rfl, p8, vb6⟩
  have L6 := L5.step vb6
  clear L5 E5 p7 x0 x1 x2 x3 x4 HLx HX1 vb6
  have vb7 := below1 v6 (.cells #[.int .i64 cn5, .int .i64 ac5, .int .i64 k5, .int .i64 i5, .int .u64 u5, .string s5, .slice a5 n5 c5, .slice la5 ll5 lc5, .bool cl5, .int .i64 un5] 27)
  have G7 := Bk.new v6 #[.int .i64 cn5, .int .i64 ac5, .int .i64 k5, .int .i64 i5, .int .u64 u5, .string s5, .slice a5 n5 c5, .slice la5 ll5 lc5, .bool cl5, .int .i64 un5] 27
  have J5 := L6.step vb7
  have p9 : Hid (X3 cn5 ac5 k5 i5 u5 s5 a5 n5 c5 la5 ll5 lc5 cl5 un5 _) := HX3.out _ _ _ _ _ _ _ _ _ _ _ _ _ _ _ _ p8.out vb7
  cases o with
  | false =>
    clear HB HSs p8 p9 HX3 G7 L6 vb7
    obtain ⟨d0, d1, d2, d3, d4⟩ := J5.d.c5
    go_wp2_with fail
    refine (HD.out _ J5.b).mono ?_
    rintro e w6 ⟨rfl, b6⟩
    have J6 := J5.step b6
    clear J5 b6 d0 d1 d2 d3 d4 HD
    go_wp2_with fail
    refine (HA.out _ J6.b).mono ?_
    rintro e w7 ⟨rfl, b7⟩
    have J7 := J6.step b7
    go_wp2_with fail
    go_ret
    exact ⟨rfl, J7.b⟩
  | true =>
    have hbk := HB.out rfl
    subst hbk
    have HSs' := Lib.hid (HSs.out rfl)
    clear HB HSs p8 HX3
    obtain ⟨z0, z1, z2, z3, z4, z5, z6, z7, z8, z9⟩ := J5.s.c10
    go_wp2_with fail
    generalize v6.alloc (.cells #[.int .i64 cn5, .int .i64 ac5, .int .i64 k5, .int .i64 i5, .int .u64 u5, .string s5, .slice a5 n5 c5, .slice la5 ll5 lc5, .bool cl5, .int .i64 un5] 27) = v7 at *
    refine (HSs'.out _ _ _ _ _ _ _ _ _ _ _ _ _ _ _ p9.out J5.b).mono ?_
    rintro e v8 ⟨rfl, vb8⟩
    have J5' := J5.step vb8
    clear J5 p9 HSs' G7 L6 vb7 vb8 z0 z1 z2 z3 z4 z5 z6 z7 z8 z9
    have J5 := J5'
    clear J5'
    obtain ⟨d0, d1, d2, d3, d4⟩ := J5.d.c5
    go_wp2_with fail
    refine (HD.out _ J5.b).mono ?_
    rintro e w6 ⟨rfl, b6⟩
    have J6 := J5.step b6
    clear J5 b6 d0 d1 d2 d3 d4 HD
    go_wp2_with fail
    refine (HA.out _ J6.b).mono ?_
    rintro e w7 ⟨rfl, b7⟩
    have J7 := J6.step b7
    go_wp2_with fail
    go_ret
    exact ⟨rfl, J7.b⟩
set_option maxRecDepth 100000 in
set_option maxHeartbeats 4000000 in
theorem fits_yes_yes (cn ac un k i u : Int) (s : ByteArray) (a : Option Addr) (len cap : Nat) (la : Option Addr) (ll lc : Nat) (cl : Bool) (dk di du : Int) (ds : ByteArray) (da : Option Addr) (dn dc : Nat) (w : World)
    (hF : Fits true cn ac un k i u s a len cap la ll lc cl w) (hA : ∀ wx, Below w.heap.size w wx → Calls Tryz.prog 13 #[] wx fun e w' => e = .returned (.bool true) ∧ Below wx.heap.size wx w')
    (hV : ∀ wx, Below w.heap.size w wx → Calls Tryz.prog 12 #[.agg #[.int .i64 dk, .int .i64 di, .int .u64 du, .string ds, .slice da dn dc]] wx fun e w' => e = .returned (.bool true) ∧ Below wx.heap.size wx w') (b : Bool) (Q1 Q2 : Int → Int → Int → Int → Int → ByteArray → Option Addr → Nat → Nat → Option Addr → Nat → Nat → Bool → Int → World → Prop)
    (hQ1 : ∀ cn1 ac1 k1 i1 u1 s1 a1 n1 c1 la1 ll1 lc1 cl1 un1 w' w'', Q1 cn1 ac1 k1 i1 u1 s1 a1 n1 c1 la1 ll1 lc1 cl1 un1 w' → Below w'.heap.size w' w'' → Q1 cn1 ac1 k1 i1 u1 s1 a1 n1 c1 la1 ll1 lc1 cl1 un1 w'') (hQ2 : ∀ cn1 ac1 k1 i1 u1 s1 a1 n1 c1 la1 ll1 lc1 cl1 un1 w' w'', Q2 cn1 ac1 k1 i1 u1 s1 a1 n1 c1 la1 ll1 lc1 cl1 un1 w' → Below w'.heap.size w' w'' → Q2 cn1 ac1 k1 i1 u1 s1 a1 n1 c1 la1 ll1 lc1 cl1 un1 w'')
    (hL1 : ∀ wx, Below w.heap.size w wx → Calls Tryz.prog 10 #[.agg #[.int .i64 dk, .int .i64 di, .int .u64 du, .string ds, .slice da dn dc]] wx fun e w' => ∃ cn1 ac1 k1 i1 u1 s1 a1 n1 c1 la1 ll1 lc1 cl1 un1, e = .returned (.tuple #[.agg #[.int .i64 cn1, .int .i64 ac1, .int .i64 k1, .int .i64 i1, .int .u64 u1, .string s1, .slice a1 n1 c1, .slice la1 ll1 lc1, .bool cl1, .int .i64 un1], .bool b]) ∧ Hid (Q1 cn1 ac1 k1 i1 u1 s1 a1 n1 c1 la1 ll1 lc1 cl1 un1 w') ∧ Below wx.heap.size wx w')
    (hL2 : ∀ wx, Below w.heap.size w wx → Calls Tryz.prog 14 #[.agg #[.int .i64 dk, .int .i64 di, .int .u64 du, .string ds, .slice da dn dc]] wx fun e w' => ∃ cn2 ac2 k2 i2 u2 s2 a2 n2 c2 la2 ll2 lc2 cl2 un2, e = .returned (.tuple #[.agg #[.int .i64 cn2, .int .i64 ac2, .int .i64 k2, .int .i64 i2, .int .u64 u2, .string s2, .slice a2 n2 c2, .slice la2 ll2 lc2, .bool cl2, .int .i64 un2], .bool b]) ∧ Hid (Q2 cn2 ac2 k2 i2 u2 s2 a2 n2 c2 la2 ll2 lc2 cl2 un2 w') ∧ Below wx.heap.size wx w')
    (hSm : ∀ cn1 ac1 k1 i1 u1 s1 a1 n1 c1 la1 ll1 lc1 cl1 un1 cn2 ac2 k2 i2 u2 s2 a2 n2 c2 la2 ll2 lc2 cl2 un2 wx, Q1 cn1 ac1 k1 i1 u1 s1 a1 n1 c1 la1 ll1 lc1 cl1 un1 wx → Q2 cn2 ac2 k2 i2 u2 s2 a2 n2 c2 la2 ll2 lc2 cl2 un2 wx → Calls Tryz.prog 11 #[.agg #[.int .i64 cn1, .int .i64 ac1, .int .i64 k1, .int .i64 i1, .int .u64 u1, .string s1, .slice a1 n1 c1, .slice la1 ll1 lc1, .bool cl1, .int .i64 un1], .agg #[.int .i64 cn2, .int .i64 ac2, .int .i64 k2, .int .i64 i2, .int .u64 u2, .string s2, .slice a2 n2 c2, .slice la2 ll2 lc2, .bool cl2, .int .i64 un2]] wx fun e w' => e = .returned (.bool true) ∧ Below wx.heap.size wx w') (o : Bool) (back : Bool) (hback : o = true → back = true) (X1 X2 : Int → Int → Int → ByteArray → Option Addr → Nat → Nat → World → Prop) (X3 : Int → Int → Int → Int → Int → ByteArray → Option Addr → Nat → Nat → Option Addr → Nat → Nat → Bool → Int → World → Prop)
    (hX1 : ∀ k3 i3 u3 s3 a3 n3 c3 w' w'', X1 k3 i3 u3 s3 a3 n3 c3 w' → Below w'.heap.size w' w'' → X1 k3 i3 u3 s3 a3 n3 c3 w'') (hX2 : ∀ k3 i3 u3 s3 a3 n3 c3 w' w'', X2 k3 i3 u3 s3 a3 n3 c3 w' → Below w'.heap.size w' w'' → X2 k3 i3 u3 s3 a3 n3 c3 w'') (hX3 : ∀ cn5 ac5 k5 i5 u5 s5 a5 n5 c5 la5 ll5 lc5 cl5 un5 w' w'', X3 cn5 ac5 k5 i5 u5 s5 a5 n5 c5 la5 ll5 lc5 cl5 un5 w' → Below w'.heap.size w' w'' → X3 cn5 ac5 k5 i5 u5 s5 a5 n5 c5 la5 ll5 lc5 cl5 un5 w'')
    (hS1 : ∀ wx, Below w.heap.size w wx → Calls Tryz.prog 7 #[.agg #[.int .i64 cn, .int .i64 ac, .int .i64 k, .int .i64 i, .int .u64 u, .string s, .slice a len cap, .slice la ll lc, .bool cl, .int .i64 un]] wx fun e w' => ∃ k3 i3 u3 s3 a3 n3 c3, e = .returned (.tuple #[.agg #[.int .i64 k3, .int .i64 i3, .int .u64 u3, .string s3, .slice a3 n3 c3], .bool o]) ∧ Hid (X1 k3 i3 u3 s3 a3 n3 c3 w') ∧ Below wx.heap.size wx w')
    (hS2 : ∀ wx, Below w.heap.size w wx → Calls Tryz.prog 8 #[.agg #[.int .i64 cn, .int .i64 ac, .int .i64 k, .int .i64 i, .int .u64 u, .string s, .slice a len cap, .slice la ll lc, .bool cl, .int .i64 un]] wx fun e w' => ∃ k4 i4 u4 s4 a4 n4 c4, e = .returned (.tuple #[.agg #[.int .i64 k4, .int .i64 i4, .int .u64 u4, .string s4, .slice a4 n4 c4], .bool o]) ∧ Hid (X2 k4 i4 u4 s4 a4 n4 c4 w') ∧ Below wx.heap.size wx w')
    (hDS : ∀ k3 i3 u3 s3 a3 n3 c3 k4 i4 u4 s4 a4 n4 c4 wx, X1 k3 i3 u3 s3 a3 n3 c3 wx → X2 k4 i4 u4 s4 a4 n4 c4 wx → Calls Tryz.prog 9 #[.agg #[.int .i64 k3, .int .i64 i3, .int .u64 u3, .string s3, .slice a3 n3 c3], .agg #[.int .i64 k4, .int .i64 i4, .int .u64 u4, .string s4, .slice a4 n4 c4]] wx fun e w' => e = .returned (.bool true) ∧ Below wx.heap.size wx w')
    (hLx : ∀ k3 i3 u3 s3 a3 n3 c3 wx, X1 k3 i3 u3 s3 a3 n3 c3 wx → Below w.heap.size w wx → Calls Tryz.prog 10 #[.agg #[.int .i64 k3, .int .i64 i3, .int .u64 u3, .string s3, .slice a3 n3 c3]] wx fun e w' => ∃ cn5 ac5 k5 i5 u5 s5 a5 n5 c5 la5 ll5 lc5 cl5 un5, e = .returned (.tuple #[.agg #[.int .i64 cn5, .int .i64 ac5, .int .i64 k5, .int .i64 i5, .int .u64 u5, .string s5, .slice a5 n5 c5, .slice la5 ll5 lc5, .bool cl5, .int .i64 un5], .bool back]) ∧ Hid (X3 cn5 ac5 k5 i5 u5 s5 a5 n5 c5 la5 ll5 lc5 cl5 un5 w') ∧ Below wx.heap.size wx w')
    (hSs : o = true → ∀ cn5 ac5 k5 i5 u5 s5 a5 n5 c5 la5 ll5 lc5 cl5 un5 wx, X3 cn5 ac5 k5 i5 u5 s5 a5 n5 c5 la5 ll5 lc5 cl5 un5 wx → Below w.heap.size w wx → Calls Tryz.prog 11 #[.agg #[.int .i64 cn5, .int .i64 ac5, .int .i64 k5, .int .i64 i5, .int .u64 u5, .string s5, .slice a5 n5 c5, .slice la5 ll5 lc5, .bool cl5, .int .i64 un5], .agg #[.int .i64 cn, .int .i64 ac, .int .i64 k, .int .i64 i, .int .u64 u, .string s, .slice a len cap, .slice la ll lc, .bool cl, .int .i64 un]] wx fun e w' => e = .returned (.bool true) ∧ Below wx.heap.size wx w') :
    Calls Tryz.prog 3 #[.agg #[.int .i64 cn, .int .i64 ac, .int .i64 k, .int .i64 i, .int .u64 u, .string s, .slice a len cap, .slice la ll lc, .bool cl, .int .i64 un], .agg #[.int .i64 dk, .int .i64 di, .int .u64 du, .string ds, .slice da dn dc]] w fun e w' => e = .returned (.bool true) ∧ Below w.heap.size w w' := by
  have HL1 := Lib.hid hL1
  have HL2 := Lib.hid hL2
  have HS := Lib.hid hSm
  have HQ1 := Lib.hid hQ1
  have HQ2 := Lib.hid hQ2
  clear hL1 hL2 hSm hQ1 hQ2
  have HS1 := Lib.hid hS1
  have HS2 := Lib.hid hS2
  have HDS := Lib.hid hDS
  have HLx := Lib.hid hLx
  have HSs := Lib.hid hSs
  have HX1 := Lib.hid hX1
  have HX2 := Lib.hid hX2
  have HX3 := Lib.hid hX3
  have HB := Lib.hid hback
  clear hS1 hS2 hDS hLx hSs hX1 hX2 hX3 hback
  have HF1 := Lib.hid hF.1
  have HF2 := Lib.hid hF.2
  have HA := Lib.hid hA
  have HD := Lib.hid hV
  clear hF hA hV
  have J0 : Lw w #[.int .i64 cn, .int .i64 ac, .int .i64 k, .int .i64 i, .int .u64 u, .string s, .slice a len cap, .slice la ll lc, .bool cl, .int .i64 un] #[.int .i64 dk, .int .i64 di, .int .u64 du, .string ds, .slice da dn dc] ((w.alloc (.cells #[.int .i64 cn, .int .i64 ac, .int .i64 k, .int .i64 i, .int .u64 u, .string s, .slice a len cap, .slice la ll lc, .bool cl, .int .i64 un] 27)).alloc (.cells #[.int .i64 dk, .int .i64 di, .int .u64 du, .string ds, .slice da dn dc] 25)) := ⟨(Bk.new w _ _).alloc _, Bk.new2 w _ _ _, below2 w _ _⟩
  go_enter Tryz.func3, Tryz.ntmps3
  go_wp2_with fail
  generalize ((w.alloc (.cells #[.int .i64 cn, .int .i64 ac, .int .i64 k, .int .i64 i, .int .u64 u, .string s, .slice a len cap, .slice la ll lc, .bool cl, .int .i64 un] 27)).alloc (.cells #[.int .i64 dk, .int .i64 di, .int .u64 du, .string ds, .slice da dn dc] 25)) = w2 at *
  have HV : Hid (∀ wx, Lw w #[.int .i64 cn, .int .i64 ac, .int .i64 k, .int .i64 i, .int .u64 u, .string s, .slice a len cap, .slice la ll lc, .bool cl, .int .i64 un] #[.int .i64 dk, .int .i64 di, .int .u64 du, .string ds, .slice da dn dc] wx → wx.cell? ⟨w.heap.size, 0, none⟩ = some (.int .i64 cn) ∧ wx.cell? ⟨w.heap.size, 1, none⟩ = some (.int .i64 ac) ∧ wx.cell? ⟨w.heap.size, 2, none⟩ = some (.int .i64 k) ∧ wx.cell? ⟨w.heap.size, 3, none⟩ = some (.int .i64 i) ∧ wx.cell? ⟨w.heap.size, 4, none⟩ = some (.int .u64 u) ∧ wx.cell? ⟨w.heap.size, 5, none⟩ = some (.string s) ∧ wx.cell? ⟨w.heap.size, 6, none⟩ = some (.slice a len cap) ∧ wx.cell? ⟨w.heap.size, 7, none⟩ = some (.slice la ll lc) ∧ wx.cell? ⟨w.heap.size, 8, none⟩ = some (.bool cl) ∧ wx.cell? ⟨w.heap.size, 9, none⟩ = some (.int .i64 un)) := fun wx h => h.s.c10
  have J1 := J0.step (Below.drew (Below.refl _ _))
  refine wp_region_held_drew (S := fun wx => wx.cell? ⟨w.heap.size, 0, none⟩ = some (.int .i64 cn) ∧ wx.cell? ⟨w.heap.size, 1, none⟩ = some (.int .i64 ac) ∧ wx.cell? ⟨w.heap.size, 2, none⟩ = some (.int .i64 k) ∧ wx.cell? ⟨w.heap.size, 3, none⟩ = some (.int .i64 i) ∧ wx.cell? ⟨w.heap.size, 4, none⟩ = some (.int .u64 u) ∧ wx.cell? ⟨w.heap.size, 5, none⟩ = some (.string s) ∧ wx.cell? ⟨w.heap.size, 6, none⟩ = some (.slice a len cap) ∧ wx.cell? ⟨w.heap.size, 7, none⟩ = some (.slice la ll lc) ∧ wx.cell? ⟨w.heap.size, 8, none⟩ = some (.bool cl) ∧ wx.cell? ⟨w.heap.size, 9, none⟩ = some (.int .i64 un)) (by kernel_rfl) (HV.out _ J1) (fun hHeld => ?_)
  refine wpAnyH_take (i := 0) (oi := { dst := some 15, op := Op.load 27 (Operand.tmp 2), type := 27, pos := "law.go:41", after := #[], guard := none }) (v := ?tW0x) rfl (by kernel_rfl) (by kernel_rfl) (by kernel_rfl) (fun _ _ _ h => h) (Or.inl ⟨by rfl, ?uW0x⟩) (by assumption) ?rW0x
  case uW0x => (intro w hSw; (try dsimp only at hSw); go_simp; (try with_reducible rfl))
  simp only [Act.put, List.setIfInBounds_toArray, List.set_cons_zero, List.set_cons_succ]
  refine wpAnyH_take (i := 2) (oi := { dst := some 17, op := Op.load 27 (Operand.tmp 2), type := 27, pos := "law.go:41", after := #[], guard := none }) (v := ?tW2x) rfl (by kernel_rfl) (by kernel_rfl) (by kernel_rfl) (fun _ _ _ h => h) (Or.inl ⟨by rfl, ?uW2x⟩) (by assumption) ?rW2x
  case uW2x => (intro w hSw; (try dsimp only at hSw); go_simp; (try with_reducible rfl))
  simp only [Act.put, List.setIfInBounds_toArray, List.set_cons_zero, List.set_cons_succ]
  refine wpAnyH_ready (rs := [1]) (by kernel_rfl) (by simp) ?_
  refine AllReadyH.cons (o := { dst := some 16, op := Op.call { callee := Callee.value (Operand.func 5), args := #[Operand.tmp 15], argTypes := #[27] }, type := 4, pos := "law.go:41", after := #[{ on := 0, ground := Ground.data }], guard := none }) rfl (fun K hK => ?_) AllReadyH.nil
  go_simp
  refine (HF1.out _ J1.b).mono ?_
  rintro e w3 ⟨rfl, bw3⟩
  go_wp2_with fail
  have J3 := J1.step bw3
  refine hK.out _ _ (HV.out _ J3) (fun hHeldw3 => ?_)
  clear hK K
  try simp only [Act.put, List.setIfInBounds_toArray, List.set_cons_zero, List.set_cons_succ]
  refine wpAnyH_ready (rs := [3]) (by kernel_rfl) (by simp) ?_
  refine AllReadyH.cons (o := { dst := some 18, op := Op.call { callee := Callee.value (Operand.func 6), args := #[Operand.tmp 17], argTypes := #[27] }, type := 4, pos := "law.go:41", after := #[{ on := 2, ground := Ground.data }, { on := 1, ground := Ground.chain }], guard := none }) rfl (fun K hK => ?_) AllReadyH.nil
  go_simp
  refine (HF2.out _ J3.b).mono ?_
  rintro e w4 ⟨rfl, bw4⟩
  go_wp2_with fail
  have J4 := J3.step bw4
  refine hK.out _ _ (HV.out _ J4) (fun hHeldw4 => ?_)
  clear hK K
  try simp only [Act.put, List.setIfInBounds_toArray, List.set_cons_zero, List.set_cons_succ]
  refine wpAnyH_take (i := 4) (oi := { dst := some 19, op := Op.binOp BinOp.neq 4 (Operand.tmp 16) (Operand.tmp 18) 4, type := 4, pos := "law.go:41", after := #[{ on := 1, ground := Ground.data }, { on := 3, ground := Ground.data }], guard := none }) (v := ?tW4x) rfl (by kernel_rfl) (by kernel_rfl) (by kernel_rfl) (fun _ _ _ h => h) (Or.inl ⟨by rfl, ?uW4x⟩) (by assumption) ?rW4x
  case uW4x => (intro w hSw; (try dsimp only at hSw); go_simp; (try with_reducible rfl))
  simp only [Act.put, List.setIfInBounds_toArray, List.set_cons_zero, List.set_cons_succ]
  refine wpAnyH_done (by kernel_rfl) ?_ _
  clear hHeld hHeldw3 hHeldw4 J3 J1 J0 bw3 bw4 HV
  obtain ⟨s0, s1, s2, s3, s4, s5, s6, s7, s8, s9⟩ := J4.s.c10
  go_wp2_with fail
  refine (HF2.out _ J4.b).mono ?_
  rintro e w5 ⟨rfl, b5⟩
  have J5 := J4.step b5
  clear J4 b5 s0 s1 s2 s3 s4 s5 s6 s7 s8 s9 HF1 HF2
  obtain ⟨z0, z1, z2, z3, z4, z5, z6, z7, z8, z9⟩ := J5.s.c10
  go_wp2_with fail
  refine (HS1.out _ J5.b).mono ?_
  rintro e v1 ⟨k3, i3, u3, s3, a3, n3, c3, rfl, p1, vb1⟩
  have L1 := J5.step vb1
  clear J5 vb1 z0 z1 z2 z3 z4 z5 z6 z7 z8 z9 HS1
  have vb2 := below1 v1 (.cells #[.int .i64 k3, .int .i64 i3, .int .u64 u3, .string s3, .slice a3 n3 c3] 25)
  have E2 := Bk.new v1 #[.int .i64 k3, .int .i64 i3, .int .u64 u3, .string s3, .slice a3 n3 c3] 25
  have L2 := L1.step vb2
  have p2 : Hid (X1 k3 i3 u3 s3 a3 n3 c3 _) := HX1.out _ _ _ _ _ _ _ _ _ p1.out vb2
  obtain ⟨z0, z1, z2, z3, z4, z5, z6, z7, z8, z9⟩ := L2.s.c10
  go_wp2_with fail
  generalize v1.alloc (.cells #[.int .i64 k3, .int .i64 i3, .int .u64 u3, .string s3, .slice a3 n3 c3] 25) = v2 at *
  generalize v1.heap.size = gx at *
  clear L1 p1 vb2
  refine (HS2.out _ L2.b).mono ?_
  rintro e v3 ⟨k4, i4, u4, s4, a4, n4, c4, rfl, p3, vb3⟩
  have L3 := L2.step vb3
  have E3 := E2.step vb3
  have p4 : Hid (X1 k3 i3 u3 s3 a3 n3 c3 v3) := HX1.out _ _ _ _ _ _ _ _ _ p2.out vb3
  have hgx := E3.lt
  clear L2 E2 p2 vb3 z0 z1 z2 z3 z4 z5 z6 z7 z8 z9 HS2
  have vb4 := below1 v3 (.cells #[.int .i64 k4, .int .i64 i4, .int .u64 u4, .string s4, .slice a4 n4 c4] 25)
  have F4 := Bk.new v3 #[.int .i64 k4, .int .i64 i4, .int .u64 u4, .string s4, .slice a4 n4 c4] 25
  have E4 := E3.step vb4
  have L4 := L3.step vb4
  have p5 : Hid (X1 k3 i3 u3 s3 a3 n3 c3 _) := HX1.out _ _ _ _ _ _ _ _ _ p4.out vb4
  have p6 : Hid (X2 k4 i4 u4 s4 a4 n4 c4 _) := HX2.out _ _ _ _ _ _ _ _ _ p3.out vb4
  obtain ⟨x0, x1, x2, x3, x4⟩ := E4.c5
  clear L3 E3 p4 p3
  go_wp2_with fail
  generalize v3.alloc (.cells #[.int .i64 k4, .int .i64 i4, .int .u64 u4, .string s4, .slice a4 n4 c4] 25) = v4 at *
  clear vb4
  refine (HDS.out _ _ _ _ _ _ _ _ _ _ _ _ _ _ _ p5.out p6.out).mono ?_
  rintro e v5 ⟨rfl, vb5⟩
  have L5 := L4.step vb5
  have E5 := E4.step vb5
  have p7 : Hid (X1 k3 i3 u3 s3 a3 n3 c3 v5) := HX1.out _ _ _ _ _ _ _ _ _ p5.out vb5
  clear L4 E4 p5 p6 F4 vb5 x0 x1 x2 x3 x4 HDS HX2 hgx
  obtain ⟨x0, x1, x2, x3, x4⟩ := E5.c5
  go_wp2_with fail
  refine (HLx.out _ _ _ _ _ _ _ _ p7.out L5.b).mono ?_
  rintro e v6 ⟨cn5, ac5, k5, i5, u5, s5, a5, n5, c5, la5, ll5, lc5, cl5, un5, rfl, p8, vb6⟩
  have L6 := L5.step vb6
  clear L5 E5 p7 x0 x1 x2 x3 x4 HLx HX1 vb6
  have vb7 := below1 v6 (.cells #[.int .i64 cn5, .int .i64 ac5, .int .i64 k5, .int .i64 i5, .int .u64 u5, .string s5, .slice a5 n5 c5, .slice la5 ll5 lc5, .bool cl5, .int .i64 un5] 27)
  have G7 := Bk.new v6 #[.int .i64 cn5, .int .i64 ac5, .int .i64 k5, .int .i64 i5, .int .u64 u5, .string s5, .slice a5 n5 c5, .slice la5 ll5 lc5, .bool cl5, .int .i64 un5] 27
  have J5 := L6.step vb7
  have p9 : Hid (X3 cn5 ac5 k5 i5 u5 s5 a5 n5 c5 la5 ll5 lc5 cl5 un5 _) := HX3.out _ _ _ _ _ _ _ _ _ _ _ _ _ _ _ _ p8.out vb7
  cases o with
  | false =>
    clear HB HSs p8 p9 HX3 G7 L6 vb7
    obtain ⟨d0, d1, d2, d3, d4⟩ := J5.d.c5
    go_wp2_with fail
    refine (HD.out _ J5.b).mono ?_
    rintro e w6 ⟨rfl, b6⟩
    have J6 := J5.step b6
    clear J5 b6 d0 d1 d2 d3 d4 HD
    obtain ⟨d0, d1, d2, d3, d4⟩ := J6.d.c5
    go_wp2_with fail
    refine (HL1.out _ J6.b).mono ?_
    rintro e w7 ⟨cn1, ac1, k1, i1, u1, s1, a1, n1, c1, la1, ll1, lc1, cl1, un1, rfl, q1, b7⟩
    have J7 := J6.step b7
    clear J6 b7 d0 d1 d2 d3 d4 HL1
    have b8 := below1 w7 (.cells #[.int .i64 cn1, .int .i64 ac1, .int .i64 k1, .int .i64 i1, .int .u64 u1, .string s1, .slice a1 n1 c1, .slice la1 ll1 lc1, .bool cl1, .int .i64 un1] 27)
    have X8 := Bk.new w7 #[.int .i64 cn1, .int .i64 ac1, .int .i64 k1, .int .i64 i1, .int .u64 u1, .string s1, .slice a1 n1 c1, .slice la1 ll1 lc1, .bool cl1, .int .i64 un1] 27
    have J8 := J7.step b8
    have Q8 : Hid (Q1 cn1 ac1 k1 i1 u1 s1 a1 n1 c1 la1 ll1 lc1 cl1 un1 _) := HQ1.out _ _ _ _ _ _ _ _ _ _ _ _ _ _ _ _ q1.out b8
    obtain ⟨d0, d1, d2, d3, d4⟩ := J8.d.c5
    go_wp2_with fail
    generalize w7.alloc (.cells #[.int .i64 cn1, .int .i64 ac1, .int .i64 k1, .int .i64 i1, .int .u64 u1, .string s1, .slice a1 n1 c1, .slice la1 ll1 lc1, .bool cl1, .int .i64 un1] 27) = w8 at *
    generalize w7.heap.size = g1 at *
    clear J7 b8 q1
    refine (HL2.out _ J8.b).mono ?_
    rintro e w9 ⟨cn2, ac2, k2, i2, u2, s2, a2, n2, c2, la2, ll2, lc2, cl2, un2, rfl, q2, b9⟩
    have J9 := J8.step b9
    have X9 := X8.step b9
    have Q9 : Hid (Q1 cn1 ac1 k1 i1 u1 s1 a1 n1 c1 la1 ll1 lc1 cl1 un1 w9) := HQ1.out _ _ _ _ _ _ _ _ _ _ _ _ _ _ _ _ Q8.out b9
    have hg1 := X9.lt
    clear J8 X8 Q8 b9 HL2 d0 d1 d2 d3 d4
    have b10 := below1 w9 (.cells #[.int .i64 cn2, .int .i64 ac2, .int .i64 k2, .int .i64 i2, .int .u64 u2, .string s2, .slice a2 n2 c2, .slice la2 ll2 lc2, .bool cl2, .int .i64 un2] 27)
    have Y10 := Bk.new w9 #[.int .i64 cn2, .int .i64 ac2, .int .i64 k2, .int .i64 i2, .int .u64 u2, .string s2, .slice a2 n2 c2, .slice la2 ll2 lc2, .bool cl2, .int .i64 un2] 27
    have J10 := J9.step b10
    have X10 := X9.step b10
    have Q10 : Hid (Q1 cn1 ac1 k1 i1 u1 s1 a1 n1 c1 la1 ll1 lc1 cl1 un1 _) := HQ1.out _ _ _ _ _ _ _ _ _ _ _ _ _ _ _ _ Q9.out b10
    have P10 : Hid (Q2 cn2 ac2 k2 i2 u2 s2 a2 n2 c2 la2 ll2 lc2 cl2 un2 _) := HQ2.out _ _ _ _ _ _ _ _ _ _ _ _ _ _ _ _ q2.out b10
    obtain ⟨x0, x1, x2, x3, x4, x5, x6, x7, x8, x9⟩ := X10.c10
    clear J9 X9 Q9 q2
    go_wp2_with fail
    generalize w9.alloc (.cells #[.int .i64 cn2, .int .i64 ac2, .int .i64 k2, .int .i64 i2, .int .u64 u2, .string s2, .slice a2 n2 c2, .slice la2 ll2 lc2, .bool cl2, .int .i64 un2] 27) = w10 at *
    refine (HS.out _ _ _ _ _ _ _ _ _ _ _ _ _ _ _ _ _ _ _ _ _ _ _ _ _ _ _ _ _ Q10.out P10.out).mono ?_
    rintro e w11 ⟨rfl, b11⟩
    have J11 := J10.step b11
    clear J10 X10 Q10 P10 Y10 b11 b10 HS HQ1 HQ2 x0 x1 x2 x3 x4 x5 x6 x7 x8 x9 hg1
    go_wp2_with fail
    refine (HA.out _ J11.b).mono ?_
    rintro e w12 ⟨rfl, b12⟩
    have J12 := J11.step b12
    go_wp2_with fail
    go_ret
    exact ⟨rfl, J12.b⟩
  | true =>
    have hbk := HB.out rfl
    subst hbk
    have HSs' := Lib.hid (HSs.out rfl)
    clear HB HSs p8 HX3
    obtain ⟨z0, z1, z2, z3, z4, z5, z6, z7, z8, z9⟩ := J5.s.c10
    go_wp2_with fail
    generalize v6.alloc (.cells #[.int .i64 cn5, .int .i64 ac5, .int .i64 k5, .int .i64 i5, .int .u64 u5, .string s5, .slice a5 n5 c5, .slice la5 ll5 lc5, .bool cl5, .int .i64 un5] 27) = v7 at *
    refine (HSs'.out _ _ _ _ _ _ _ _ _ _ _ _ _ _ _ p9.out J5.b).mono ?_
    rintro e v8 ⟨rfl, vb8⟩
    have J5' := J5.step vb8
    clear J5 p9 HSs' G7 L6 vb7 vb8 z0 z1 z2 z3 z4 z5 z6 z7 z8 z9
    have J5 := J5'
    clear J5'
    obtain ⟨d0, d1, d2, d3, d4⟩ := J5.d.c5
    go_wp2_with fail
    refine (HD.out _ J5.b).mono ?_
    rintro e w6 ⟨rfl, b6⟩
    have J6 := J5.step b6
    clear J5 b6 d0 d1 d2 d3 d4 HD
    obtain ⟨d0, d1, d2, d3, d4⟩ := J6.d.c5
    go_wp2_with fail
    refine (HL1.out _ J6.b).mono ?_
    rintro e w7 ⟨cn1, ac1, k1, i1, u1, s1, a1, n1, c1, la1, ll1, lc1, cl1, un1, rfl, q1, b7⟩
    have J7 := J6.step b7
    clear J6 b7 d0 d1 d2 d3 d4 HL1
    have b8 := below1 w7 (.cells #[.int .i64 cn1, .int .i64 ac1, .int .i64 k1, .int .i64 i1, .int .u64 u1, .string s1, .slice a1 n1 c1, .slice la1 ll1 lc1, .bool cl1, .int .i64 un1] 27)
    have X8 := Bk.new w7 #[.int .i64 cn1, .int .i64 ac1, .int .i64 k1, .int .i64 i1, .int .u64 u1, .string s1, .slice a1 n1 c1, .slice la1 ll1 lc1, .bool cl1, .int .i64 un1] 27
    have J8 := J7.step b8
    have Q8 : Hid (Q1 cn1 ac1 k1 i1 u1 s1 a1 n1 c1 la1 ll1 lc1 cl1 un1 _) := HQ1.out _ _ _ _ _ _ _ _ _ _ _ _ _ _ _ _ q1.out b8
    obtain ⟨d0, d1, d2, d3, d4⟩ := J8.d.c5
    go_wp2_with fail
    generalize w7.alloc (.cells #[.int .i64 cn1, .int .i64 ac1, .int .i64 k1, .int .i64 i1, .int .u64 u1, .string s1, .slice a1 n1 c1, .slice la1 ll1 lc1, .bool cl1, .int .i64 un1] 27) = w8 at *
    generalize w7.heap.size = g1 at *
    clear J7 b8 q1
    refine (HL2.out _ J8.b).mono ?_
    rintro e w9 ⟨cn2, ac2, k2, i2, u2, s2, a2, n2, c2, la2, ll2, lc2, cl2, un2, rfl, q2, b9⟩
    have J9 := J8.step b9
    have X9 := X8.step b9
    have Q9 : Hid (Q1 cn1 ac1 k1 i1 u1 s1 a1 n1 c1 la1 ll1 lc1 cl1 un1 w9) := HQ1.out _ _ _ _ _ _ _ _ _ _ _ _ _ _ _ _ Q8.out b9
    have hg1 := X9.lt
    clear J8 X8 Q8 b9 HL2 d0 d1 d2 d3 d4
    have b10 := below1 w9 (.cells #[.int .i64 cn2, .int .i64 ac2, .int .i64 k2, .int .i64 i2, .int .u64 u2, .string s2, .slice a2 n2 c2, .slice la2 ll2 lc2, .bool cl2, .int .i64 un2] 27)
    have Y10 := Bk.new w9 #[.int .i64 cn2, .int .i64 ac2, .int .i64 k2, .int .i64 i2, .int .u64 u2, .string s2, .slice a2 n2 c2, .slice la2 ll2 lc2, .bool cl2, .int .i64 un2] 27
    have J10 := J9.step b10
    have X10 := X9.step b10
    have Q10 : Hid (Q1 cn1 ac1 k1 i1 u1 s1 a1 n1 c1 la1 ll1 lc1 cl1 un1 _) := HQ1.out _ _ _ _ _ _ _ _ _ _ _ _ _ _ _ _ Q9.out b10
    have P10 : Hid (Q2 cn2 ac2 k2 i2 u2 s2 a2 n2 c2 la2 ll2 lc2 cl2 un2 _) := HQ2.out _ _ _ _ _ _ _ _ _ _ _ _ _ _ _ _ q2.out b10
    obtain ⟨x0, x1, x2, x3, x4, x5, x6, x7, x8, x9⟩ := X10.c10
    clear J9 X9 Q9 q2
    go_wp2_with fail
    generalize w9.alloc (.cells #[.int .i64 cn2, .int .i64 ac2, .int .i64 k2, .int .i64 i2, .int .u64 u2, .string s2, .slice a2 n2 c2, .slice la2 ll2 lc2, .bool cl2, .int .i64 un2] 27) = w10 at *
    refine (HS.out _ _ _ _ _ _ _ _ _ _ _ _ _ _ _ _ _ _ _ _ _ _ _ _ _ _ _ _ _ Q10.out P10.out).mono ?_
    rintro e w11 ⟨rfl, b11⟩
    have J11 := J10.step b11
    clear J10 X10 Q10 P10 Y10 b11 b10 HS HQ1 HQ2 x0 x1 x2 x3 x4 x5 x6 x7 x8 x9 hg1
    go_wp2_with fail
    refine (HA.out _ J11.b).mono ?_
    rintro e w12 ⟨rfl, b12⟩
    have J12 := J11.step b12
    go_wp2_with fail
    go_ret
    exact ⟨rfl, J12.b⟩
end Go.Proofs.YtgijdiplhcoojaaGreatDoor.Dt
