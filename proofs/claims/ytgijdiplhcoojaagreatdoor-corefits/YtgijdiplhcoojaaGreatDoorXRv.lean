/- The document's Save, its value; the conditions: the state in memory, its trees of 4096 parts at most, and the contract of Valid. -/
import Derived.Test.YtgijdiplhcoojaaGreatDoorJbi
import Derived.Test.YtgijdiplhcoojaaGreatDoorJbc
namespace Go.Proofs.YtgijdiplhcoojaaGreatDoor.Dt
open Go.RowKit

/-- What Save gives. -/
def RsP (R : Bool) (t : Tr 19) (w : World) (e : Ending) (w' : World) : Prop := Below w.heap.size w w' ∧ (R = true → ∃ k i u s a n c, e = .returned (.tuple #[.agg #[.int .i64 k, .int .i64 i, .int .u64 u, .string s, .slice a n c], .bool true]) ∧ Rep w' 19 [.int .i64 k, .int .i64 i, .int .u64 u, .string s, .slice a n c] t) ∧ (R = false → e = .returned (.tuple #[.agg #[.int .i64 0, .int .i64 0, .int .u64 0, .string ⟨#[]⟩, .slice none 0 0], .bool false]))
/-- What stays while the value is put together: all below zr. -/
structure S7 (w : World) (st nm : Array Value) (g4 g5 zr : Nat) (ad : Option Addr) (cap : Nat) (ts : List (Tr 16)) (wx : World) : Prop where
  d : Bk wx w.heap.size st 27
  e : Bk wx (w.heap.size + 1) #[.int .i64 0, .int .i64 0, .int .u64 0, .string ⟨#[]⟩, .slice none 0 0] 25
  n : Bk wx g4 nm 25
  q : Bk wx g5 #[.int .i64 8, .int .i64 0, .int .u64 0, .string ⟨#[]⟩, .slice ad ts.length cap] 25
  b : Below w.heap.size w wx
  r : Rlf (fun g => g5 + 1 ≤ g ∧ g < zr) wx 16 ad ts
  z : zr ≤ wx.heap.size
  lt : w.heap.size + 2 ≤ g4 ∧ g4 < g5 ∧ g5 < zr
theorem S7.keep {w : World} {st nm : Array Value} {g4 g5 zr : Nat} {ad : Option Addr} {cap : Nat} {ts : List (Tr 16)} {wx wy : World} (h : S7 w st nm g4 g5 zr ad cap ts wx) (hb : Below zr wx wy) : S7 w st nm g4 g5 zr ad cap ts wy := by
  obtain ⟨l1, l2, l3⟩ := h.lt
  exact ⟨h.d.under hb (by omega), h.e.under hb (by omega), h.n.under hb (by omega), h.q.under hb (by omega), h.b.trans (hb.mono (by omega)), Rlf.to (fun g hg => ⟨hg, hb.block g hg.2⟩) h.r, Nat.le_trans h.z hb.size, h.lt⟩

set_option maxRecDepth 100000 in
set_option maxHeartbeats 2000000 in
theorem rsave_any (cn ac un x k i u : Int) (s : ByteArray) (a : Option Addr) (len cap : Nat) (la : Option Addr) (lc : Nat) (cl : Bool) (hx : (if cl then (1 : Int) else 0) = x) (l : Tr 16) (ts : List (Tr 16)) (w : World) (hS : StR w 16 l ts k i u s a len cap la lc) (hl : (pts 16 l).1 ≤ 4096) (hp : ∀ t ∈ ts, (pts 16 t).1 ≤ 4096) (l17 : Tr 17) (h17 : ∀ w cs, Rep w 16 cs l → Rep w 17 cs l17) (R : Bool) (hR : vB 19 (savT cn ac un x l17 ts) = R) :
    Calls Tryz.prog 8 #[.agg #[.int .i64 cn, .int .i64 ac, .int .i64 k, .int .i64 i, .int .u64 u, .string s, .slice a len cap, .slice la ts.length lc, .bool cl, .int .i64 un]] w fun e w' => RsP R (savT cn ac un x l17 ts) w e w' := by
  have h17 := Lib.hid h17
  have hR := Lib.hid hR
  have HS := Lib.hid hS
  have hlt := hS.lt
  have HP := Lib.hid hp
  have HL := Lib.hid hl
  have HX := Lib.hid hx
  obtain ⟨i0, hi, hz0, hz1, hz2⟩ := infoDat_parts
  clear hS hp hl hx
  have I0 : Sv w #[.int .i64 cn, .int .i64 ac, .int .i64 k, .int .i64 i, .int .u64 u, .string s, .slice a len cap, .slice la ts.length lc, .bool cl, .int .i64 un] (fun _ => True) ((w.alloc (.cells #[.int .i64 cn, .int .i64 ac, .int .i64 k, .int .i64 i, .int .u64 u, .string s, .slice a len cap, .slice la ts.length lc, .bool cl, .int .i64 un] 27)).alloc (.cells #[.int .i64 0, .int .i64 0, .int .u64 0, .string ⟨#[]⟩, .slice none 0 0] 25)) := ⟨(Bk.new w _ _).alloc _, Bk.new2 w _ _ _, below2 w _ _, trivial⟩
  go_enter Tryz.func8, Tryz.ntmps8
  go_wp2_with fail
  generalize ((w.alloc (.cells #[.int .i64 cn, .int .i64 ac, .int .i64 k, .int .i64 i, .int .u64 u, .string s, .slice a len cap, .slice la ts.length lc, .bool cl, .int .i64 un] 27)).alloc (.cells #[.int .i64 0, .int .i64 0, .int .u64 0, .string ⟨#[]⟩, .slice none 0 0] 25)) = w2 at *
  have HV : Hid (∀ wx, Sv w #[.int .i64 cn, .int .i64 ac, .int .i64 k, .int .i64 i, .int .u64 u, .string s, .slice a len cap, .slice la ts.length lc, .bool cl, .int .i64 un] (fun _ => True) wx → wx.cell? ⟨w.heap.size, 0, none⟩ = some (.int .i64 cn) ∧ wx.cell? ⟨w.heap.size, 1, none⟩ = some (.int .i64 ac) ∧ wx.cell? ⟨w.heap.size, 2, none⟩ = some (.int .i64 k) ∧ wx.cell? ⟨w.heap.size, 3, none⟩ = some (.int .i64 i) ∧ wx.cell? ⟨w.heap.size, 4, none⟩ = some (.int .u64 u) ∧ wx.cell? ⟨w.heap.size, 5, none⟩ = some (.string s) ∧ wx.cell? ⟨w.heap.size, 6, none⟩ = some (.slice a len cap) ∧ wx.cell? ⟨w.heap.size, 7, none⟩ = some (.slice la ts.length lc) ∧ wx.cell? ⟨w.heap.size, 8, none⟩ = some (.bool cl) ∧ wx.cell? ⟨w.heap.size, 9, none⟩ = some (.int .i64 un)) := fun wx h => h.d.c10
  have HW := Lib.hid rint_any
  have HT := Lib.hid (rbool_any cl)
  rw [HX.out] at HT
  clear HX
  have I3 := I0.drew (fun _ _ _ _ _ => trivial)
  clear I0
  refine wp_region_held_drew (S := fun wx => wx.cell? ⟨w.heap.size, 0, none⟩ = some (.int .i64 cn) ∧ wx.cell? ⟨w.heap.size, 1, none⟩ = some (.int .i64 ac) ∧ wx.cell? ⟨w.heap.size, 2, none⟩ = some (.int .i64 k) ∧ wx.cell? ⟨w.heap.size, 3, none⟩ = some (.int .i64 i) ∧ wx.cell? ⟨w.heap.size, 4, none⟩ = some (.int .u64 u) ∧ wx.cell? ⟨w.heap.size, 5, none⟩ = some (.string s) ∧ wx.cell? ⟨w.heap.size, 6, none⟩ = some (.slice a len cap) ∧ wx.cell? ⟨w.heap.size, 7, none⟩ = some (.slice la ts.length lc) ∧ wx.cell? ⟨w.heap.size, 8, none⟩ = some (.bool cl) ∧ wx.cell? ⟨w.heap.size, 9, none⟩ = some (.int .i64 un)) (by kernel_rfl) (HV.out _ I3) (fun hHeld => ?_)
  refine wpAnyH_take (i := 0) (oi := { dst := some 9, op := Op.fieldAddr 27 (Operand.tmp 1) 0, type := 0, pos := "ref.go:220", after := #[], guard := none }) (v := ?tV0x) rfl (by kernel_rfl) (by kernel_rfl) (by kernel_rfl) (fun _ _ _ h => h) (Or.inl ⟨by rfl, ?uV0x⟩) (by assumption) ?rV0x
  case uV0x => (intro w hSw; (try dsimp only at hSw); go_simp; (try with_reducible rfl))
  simp only [Act.put, List.setIfInBounds_toArray, List.set_cons_zero, List.set_cons_succ]
  refine wpAnyH_take (i := 1) (oi := { dst := some 10, op := Op.load 2 (Operand.tmp 9), type := 2, pos := "ref.go:220", after := #[{ on := 0, ground := Ground.data }], guard := none }) (v := ?tV1x) rfl (by kernel_rfl) (by kernel_rfl) (by kernel_rfl) (fun _ _ _ h => h) (Or.inl ⟨by rfl, ?uV1x⟩) (by assumption) ?rV1x
  case uV1x => (intro w hSw; (try dsimp only at hSw); go_simp; (try with_reducible rfl))
  simp only [Act.put, List.setIfInBounds_toArray, List.set_cons_zero, List.set_cons_succ]
  refine wpAnyH_take (i := 3) (oi := { dst := some 12, op := Op.fieldAddr 27 (Operand.tmp 1) 1, type := 0, pos := "ref.go:220", after := #[], guard := none }) (v := ?tV3x) rfl (by kernel_rfl) (by kernel_rfl) (by kernel_rfl) (fun _ _ _ h => h) (Or.inl ⟨by rfl, ?uV3x⟩) (by assumption) ?rV3x
  case uV3x => (intro w hSw; (try dsimp only at hSw); go_simp; (try with_reducible rfl))
  simp only [Act.put, List.setIfInBounds_toArray, List.set_cons_zero, List.set_cons_succ]
  refine wpAnyH_take (i := 4) (oi := { dst := some 13, op := Op.load 2 (Operand.tmp 12), type := 2, pos := "ref.go:220", after := #[{ on := 3, ground := Ground.data }], guard := none }) (v := ?tV4x) rfl (by kernel_rfl) (by kernel_rfl) (by kernel_rfl) (fun _ _ _ h => h) (Or.inl ⟨by rfl, ?uV4x⟩) (by assumption) ?rV4x
  case uV4x => (intro w hSw; (try dsimp only at hSw); go_simp; (try with_reducible rfl))
  simp only [Act.put, List.setIfInBounds_toArray, List.set_cons_zero, List.set_cons_succ]
  refine wpAnyH_take (i := 6) (oi := { dst := some 15, op := Op.fieldAddr 27 (Operand.tmp 1) 5, type := 0, pos := "ref.go:220", after := #[], guard := none }) (v := ?tV6x) rfl (by kernel_rfl) (by kernel_rfl) (by kernel_rfl) (fun _ _ _ h => h) (Or.inl ⟨by rfl, ?uV6x⟩) (by assumption) ?rV6x
  case uV6x => (intro w hSw; (try dsimp only at hSw); go_simp; (try with_reducible rfl))
  simp only [Act.put, List.setIfInBounds_toArray, List.set_cons_zero, List.set_cons_succ]
  refine wpAnyH_take (i := 7) (oi := { dst := some 16, op := Op.load 2 (Operand.tmp 15), type := 2, pos := "ref.go:220", after := #[{ on := 6, ground := Ground.data }], guard := none }) (v := ?tV7x) rfl (by kernel_rfl) (by kernel_rfl) (by kernel_rfl) (fun _ _ _ h => h) (Or.inl ⟨by rfl, ?uV7x⟩) (by assumption) ?rV7x
  case uV7x => (intro w hSw; (try dsimp only at hSw); go_simp; (try with_reducible rfl))
  simp only [Act.put, List.setIfInBounds_toArray, List.set_cons_zero, List.set_cons_succ]
  refine wpAnyH_take (i := 9) (oi := { dst := some 18, op := Op.fieldAddr 27 (Operand.tmp 1) 4, type := 0, pos := "ref.go:220", after := #[], guard := none }) (v := ?tV9x) rfl (by kernel_rfl) (by kernel_rfl) (by kernel_rfl) (fun _ _ _ h => h) (Or.inl ⟨by rfl, ?uV9x⟩) (by assumption) ?rV9x
  case uV9x => (intro w hSw; (try dsimp only at hSw); go_simp; (try with_reducible rfl))
  simp only [Act.put, List.setIfInBounds_toArray, List.set_cons_zero, List.set_cons_succ]
  refine wpAnyH_take (i := 10) (oi := { dst := some 19, op := Op.load 4 (Operand.tmp 18), type := 4, pos := "ref.go:220", after := #[{ on := 9, ground := Ground.data }], guard := none }) (v := ?tV10x) rfl (by kernel_rfl) (by kernel_rfl) (by kernel_rfl) (fun _ _ _ h => h) (Or.inl ⟨by rfl, ?uV10x⟩) (by assumption) ?rV10x
  case uV10x => (intro w hSw; (try dsimp only at hSw); go_simp; (try with_reducible rfl))
  simp only [Act.put, List.setIfInBounds_toArray, List.set_cons_zero, List.set_cons_succ]
  refine wpAnyH_ready (rs := [2]) (by kernel_rfl) (by simp) ?_
  refine AllReadyH.cons (o := { dst := some 11, op := Op.call { callee := Callee.value (Operand.func 23), args := #[Operand.tmp 10], argTypes := #[2] }, type := 25, pos := "ref.go:220", after := #[{ on := 1, ground := Ground.data }], guard := none }) rfl (fun K hK => ?_) AllReadyH.nil
  go_simp
  refine (HW.out cn _).mono ?_
  rintro e wa ⟨rfl, bwa⟩
  go_wp2_with fail
  have Ia := I3.step (fun _ _ _ _ _ => trivial) bwa
  refine hK.out _ _ (HV.out _ Ia) (fun hHeldwa => ?_)
  clear hK K
  try simp only [Act.put, List.setIfInBounds_toArray, List.set_cons_zero, List.set_cons_succ]
  refine wpAnyH_ready (rs := [5]) (by kernel_rfl) (by simp) ?_
  refine AllReadyH.cons (o := { dst := some 14, op := Op.call { callee := Callee.value (Operand.func 23), args := #[Operand.tmp 13], argTypes := #[2] }, type := 25, pos := "ref.go:220", after := #[{ on := 4, ground := Ground.data }, { on := 2, ground := Ground.chain }], guard := none }) rfl (fun K hK => ?_) AllReadyH.nil
  go_simp
  refine (HW.out ac _).mono ?_
  rintro e wb ⟨rfl, bwb⟩
  go_wp2_with fail
  have Ib := Ia.step (fun _ _ _ _ _ => trivial) bwb
  refine hK.out _ _ (HV.out _ Ib) (fun hHeldwb => ?_)
  clear hK K
  try simp only [Act.put, List.setIfInBounds_toArray, List.set_cons_zero, List.set_cons_succ]
  refine wpAnyH_ready (rs := [8]) (by kernel_rfl) (by simp) ?_
  refine AllReadyH.cons (o := { dst := some 17, op := Op.call { callee := Callee.value (Operand.func 23), args := #[Operand.tmp 16], argTypes := #[2] }, type := 25, pos := "ref.go:220", after := #[{ on := 7, ground := Ground.data }, { on := 5, ground := Ground.chain }], guard := none }) rfl (fun K hK => ?_) AllReadyH.nil
  go_simp
  refine (HW.out un _).mono ?_
  rintro e wc ⟨rfl, bwc⟩
  go_wp2_with fail
  have Ic := Ib.step (fun _ _ _ _ _ => trivial) bwc
  refine hK.out _ _ (HV.out _ Ic) (fun hHeldwc => ?_)
  clear hK K
  try simp only [Act.put, List.setIfInBounds_toArray, List.set_cons_zero, List.set_cons_succ]
  refine wpAnyH_ready (rs := [11]) (by kernel_rfl) (by simp) ?_
  refine AllReadyH.cons (o := { dst := some 20, op := Op.call { callee := Callee.value (Operand.func 24), args := #[Operand.tmp 19], argTypes := #[4] }, type := 25, pos := "ref.go:220", after := #[{ on := 10, ground := Ground.data }, { on := 8, ground := Ground.chain }], guard := none }) rfl (fun K hK => ?_) AllReadyH.nil
  go_simp
  refine (HT.out _).mono ?_
  rintro e wd ⟨rfl, bwd⟩
  go_wp2_with fail
  have Id := Ic.step (fun _ _ _ _ _ => trivial) bwd
  refine hK.out _ _ (HV.out _ Id) (fun hHeldwd => ?_)
  clear hK K
  try simp only [Act.put, List.setIfInBounds_toArray, List.set_cons_zero, List.set_cons_succ]
  refine wpAnyH_ready (rs := [12]) (by kernel_rfl) (by simp) ?_
  refine AllReadyH.cons (o := { dst := some 21, op := Op.buildSlice 23 4 #[(0, Operand.tmp 11), (1, Operand.tmp 14), (2, Operand.tmp 17), (3, Operand.tmp 20)], type := 23, pos := "ref.go:220", after := #[{ on := 2, ground := Ground.data }, { on := 5, ground := Ground.data }, { on := 8, ground := Ground.data }, { on := 11, ground := Ground.data }], guard := none }) rfl (fun K hK => ?_) AllReadyH.nil
  go_simp
  have N4 := Bk.new wd (nums cn ac un x) 25
  have Ie := Id.step (fun _ _ _ _ _ => trivial) (below1 wd (.cells (nums cn ac un x) 25))
  have hwd : w.heap.size + 2 ≤ wd.heap.size := by have := Id.e.lt; omega
  generalize hg4 : wd.heap.size = g4 at *
  generalize wd.alloc (.cells (nums cn ac un x) 25) = we at *
  refine hK.out _ _ (HV.out _ Ie) (fun hHelde => ?_)
  clear hK K
  try simp only [Act.put, List.setIfInBounds_toArray, List.set_cons_zero, List.set_cons_succ]
  refine wpAnyH_ready (rs := [13]) (by kernel_rfl) (by simp) ?_
  refine AllReadyH.cons (o := { dst := some 4, op := Op.assign (Operand.tmp 21), type := 23, pos := "ref.go:220", after := #[{ on := 12, ground := Ground.data }, { on := 11, ground := Ground.chain }, { on := 0, ground := Ground.phase }, { on := 1, ground := Ground.phase }, { on := 2, ground := Ground.phase }, { on := 3, ground := Ground.phase }, { on := 4, ground := Ground.phase }, { on := 5, ground := Ground.phase }, { on := 6, ground := Ground.phase }, { on := 7, ground := Ground.phase }, { on := 8, ground := Ground.phase }, { on := 9, ground := Ground.phase }, { on := 10, ground := Ground.phase }, { on := 11, ground := Ground.phase }, { on := 12, ground := Ground.phase }], guard := none }) rfl (fun K hK => ?_) AllReadyH.nil
  go_simp
  refine hK.out _ _ (HV.out _ Ie) (fun hHeldf => ?_)
  clear hK K
  try simp only [Act.put, List.setIfInBounds_toArray, List.set_cons_zero, List.set_cons_succ]
  refine wpAnyH_done (by kernel_rfl) ?_ _
  clear HW HT HV Id Ic Ib Ia I3 hHeld hHeldwa hHeldwb hHeldwc hHeldwd hHelde hHeldf bwa bwb bwc bwd hg4
  have D3 : Bk (we.alloc (.cells #[.int .i64 8, .int .i64 0, .int .u64 0, .string ⟨#[]⟩, .slice none 0 0] 25)) w.heap.size #[.int .i64 cn, .int .i64 ac, .int .i64 k, .int .i64 i, .int .u64 u, .string s, .slice a len cap, .slice la ts.length lc, .bool cl, .int .i64 un] 27 := Ie.d.alloc _
  have E3 : Bk (we.alloc (.cells #[.int .i64 8, .int .i64 0, .int .u64 0, .string ⟨#[]⟩, .slice none 0 0] 25)) (w.heap.size + 1) #[.int .i64 0, .int .i64 0, .int .u64 0, .string ⟨#[]⟩, .slice none 0 0] 25 := Ie.e.alloc _
  have B3 : Below w.heap.size w (we.alloc (.cells #[.int .i64 8, .int .i64 0, .int .u64 0, .string ⟨#[]⟩, .slice none 0 0] 25)) := Ie.b.alloc Ie.b.size _
  have N5 : Bk (we.alloc (.cells #[.int .i64 8, .int .i64 0, .int .u64 0, .string ⟨#[]⟩, .slice none 0 0] 25)) g4 (nums cn ac un x) 25 := N4.alloc _
  have L3 := Bk.new we #[.int .i64 8, .int .i64 0, .int .u64 0, .string ⟨#[]⟩, .slice none 0 0] 25
  have hg45 : g4 < we.heap.size := N4.lt
  have hsz3 : (we.alloc (.cells #[.int .i64 8, .int .i64 0, .int .u64 0, .string ⟨#[]⟩, .slice none 0 0] 25)).heap.size = we.heap.size + 1 := by simp
  clear N4 Ie
  go_wp2_with fail
  generalize we.alloc (.cells #[.int .i64 8, .int .i64 0, .int .u64 0, .string ⟨#[]⟩, .slice none 0 0] 25) = w3 at *
  generalize we.heap.size = g5 at *
  have I0 : Cs w w3 g5 (g5 + 1) 25 (fun sl => #[.int .i64 8, .int .i64 0, .int .u64 0, .string ⟨#[]⟩, sl]) 16 ts 0 (.slice none 0 0) [] w3 := ⟨B3, fun _ _ _ => rfl, L3, Ap.nil _ _ _ _ (Nat.le_of_eq hsz3.symm)⟩
  clear L3
  have HZ := Lib.hid hsz3
  clear hsz3
  go_loopw [6] (fun si wr => ∃ (j : Nat) (sl : Value) (xs : List Value), si = .int .i64 j ∧ j ≤ ts.length ∧ Cs w w3 g5 (g5 + 1) 25 (fun sl => #[.int .i64 8, .int .i64 0, .int .u64 0, .string ⟨#[]⟩, sl]) 16 ts j sl xs wr) (fun si _ => ts.length - (intOf si).toNat)
  case atStart => exact ⟨0, _, [], rfl, Nat.zero_le _, I0⟩
  case round =>
    obtain ⟨j, sl, xs, rfl, hj, cv⟩ := hrel
    clear I0
    have hsz : g5 < wr.heap.size := cv.c.lt
    have D4 : Bk wr w.heap.size #[.int .i64 cn, .int .i64 ac, .int .i64 k, .int .i64 i, .int .u64 u, .string s, .slice a len cap, .slice la ts.length lc, .bool cl, .int .i64 un] 27 := (cv.lo _ (by omega) (by omega)).trans D3
    have hd := D4.c10.2.2.2.2.2.2.2.1
    by_cases hlt' : j < ts.length
    · obtain ⟨g, o, v0, v1, v2, v3, a4, n4, c4, rfl, hg, e0, e1, e2, e3, e4, rk⟩ := HS.out.list.at hlt'
      have bw := cv.b
      have KS : Hid (∀ w' : World, Cs w w3 g5 (g5 + 1) 25 (fun sl => #[.int .i64 8, .int .i64 0, .int .u64 0, .string ⟨#[]⟩, sl]) 16 ts j sl xs w' → w'.cell? ⟨w.heap.size, 7, none⟩ = some (.slice (some ⟨g, o, none⟩) ts.length lc) ∧ w'.cell? ⟨g5, 4, none⟩ = some sl ∧ w'.cell? ⟨g, o + j * 5, none⟩ = some (.int .i64 v0) ∧ w'.cell? ⟨g, o + j * 5 + 1, none⟩ = some (.int .i64 v1) ∧ w'.cell? ⟨g, o + j * 5 + 2, none⟩ = some (.int .u64 v2) ∧ w'.cell? ⟨g, o + j * 5 + 3, none⟩ = some (.string v3) ∧ w'.cell? ⟨g, o + j * 5 + 4, none⟩ = some (.slice a4 n4 c4)) := fun w' h =>
        ⟨(Bk.c ((h.lo _ (by omega) (by omega)).trans D3) 7), h.c.c5.2.2.2.2, (h.b.cell (p := ⟨g, o + j * 5, none⟩) hg).trans e0, (h.b.cell (p := ⟨g, o + j * 5 + 1, none⟩) hg).trans e1, (h.b.cell (p := ⟨g, o + j * 5 + 2, none⟩) hg).trans e2, (h.b.cell (p := ⟨g, o + j * 5 + 3, none⟩) hg).trans e3, (h.b.cell (p := ⟨g, o + j * 5 + 4, none⟩) hg).trans e4⟩
      have KC : Hid (Calls Tryz.prog 25 #[.agg #[.int .i64 v0, .int .i64 v1, .int .u64 v2, .string v3, .slice a4 n4 c4]] wr.drew fun e w' => ∃ (k i u : Int) (s : ByteArray) (ad' : Option Addr) (len' cap' : Nat), e = .returned (.agg #[.int .i64 k, .int .i64 i, .int .u64 u, .string s, .slice ad' len' cap']) ∧ Hid (Rf (fun g => wr.heap.size ≤ g ∧ g < w'.heap.size) w' 16 [.int .i64 k, .int .i64 i, .int .u64 u, .string s, .slice ad' len' cap'] ts[j]) ∧ Hid (Below wr.heap.size wr w') ∧ Cs w w3 g5 (g5 + 1) 25 (fun sl => #[.int .i64 8, .int .i64 0, .int .u64 0, .string ⟨#[]⟩, sl]) 16 ts j sl xs w') :=
        (copy_any 16 ts[j] _ _ _ _ _ wr.drew (Rep.below (bw.drew.mono (Nat.le_refl _)) 16 _ _ rk) (HP.out _ (List.getElem_mem hlt'))).mono fun e w' ⟨k, i, u, s, ad', len', cap', he, rf, hb'⟩ => ⟨k, i, u, s, ad', len', cap', he, rf, (Below.drew (Below.refl _ wr)).trans hb', cv.below ((Below.drew (Below.refl _ wr)).trans hb')⟩
      obtain ⟨cd0, cl0, y0, y1, y2, y3, y4⟩ := KS.out _ cv
      have hjl : (0 : Int) ≤ j ∧ (j : Int) < ts.length := by omega
      clear e0 e1 e2 e3 e4 rk HS D4 hd N5 E3 B3 D3
      go_wp2_with fail
      go_region_law (first | (refine step_append_lies _ rfl _ _ 23 rfl (g5 + 1) 25 i0 (.agg #[.int .i64 0, .int .i64 0, .int .u64 0, .string ⟨#[]⟩, .slice none 0 0]) 5 64 Tryz.underlying23 hi hz0 hz1 hz2 rfl (by decide) sl j xs (by simp [Act.eval]) (cv1.ap.o.alloc _) ⟨w4.heap.size, 0, none⟩ 1 1 [.int .i64 k', .int .i64 i', .int .u64 u', .string s', .slice ad' len' cap'] (by simp [Act.eval]) rfl (five_one _ _ _ _ _ _) (by intro u hu; simp at hu; rcases hu with rfl | rfl | rfl | rfl | rfl <;> rfl) (by decide) (by unfold maxLen; omega) (by omega) (by have := cv1.ap.s; simp; omega) _ rfl ?_; intro g' cap2 w5 own3 gr3 at3 lt3; have d3 := (cv1.below (below1 _ _)).app (Nat.lt_succ_self g5) gr3; have fz3 := d3.f 4; have cl3 := d3.c5.2.2.2.2) | (go_simp; go_at_call 25; refine KC.out.mono ?_; rintro e w4 ⟨k', i', u', s', ad', len', cap', rfl, rf, hb', cv1⟩; have cl1 := cv1.c.c5.2.2.2.2; have hl1 := cv1.c.lt))
      all_goals go_wp2_with fail
      all_goals exact ⟨⟨j + 1, _, _, by go_num, by omega, cv.step (Nat.lt_succ_self g5) (by omega) 4 (fun _ _ => rfl) hb'.out (below1 _ _) _ _ _ _ _ ts[j] (List.getElem?_eq_getElem hlt') rf.out g' cap2 own3 gr3 at3⟩, by simp [intOf]; omega⟩
    · have hje : j = ts.length := by omega
      subst hje
      obtain ⟨ad', cap', rfl, hc1, hc2, rl⟩ := cv.ap.done
      have RL := Lib.hid rl
      have E4 : Bk wr (w.heap.size + 1) #[.int .i64 0, .int .i64 0, .int .u64 0, .string ⟨#[]⟩, .slice none 0 0] 25 := (cv.lo _ (by omega) (by omega)).trans E3
      have N6 : Bk wr g4 (nums cn ac un x) 25 := (cv.lo _ (by omega) (by omega)).trans N5
      have L4 := cv.c
      have B4 := cv.b
      have hc := Lib.hid (And.intro hc1 hc2)
      clear rl D3 E3 N5 B3 HP cv hc1 hc2 HZ hj hlt'
      have J0 : S7 w #[.int .i64 cn, .int .i64 ac, .int .i64 k, .int .i64 i, .int .u64 u, .string s, .slice a len cap, .slice la ts.length lc, .bool cl, .int .i64 un] (nums cn ac un x) g4 g5 wr.heap.size ad' cap' ts wr := ⟨D4, E4, N6, L4, B4, RL.out, Nat.le_refl _, hwd, hg45, hsz⟩
      clear D4 E4 N6 L4 RL
      have HV : Hid (∀ wx, S7 w #[.int .i64 cn, .int .i64 ac, .int .i64 k, .int .i64 i, .int .u64 u, .string s, .slice a len cap, .slice la ts.length lc, .bool cl, .int .i64 un] (nums cn ac un x) g4 g5 wr.heap.size ad' cap' ts wx → wx.cell? ⟨w.heap.size, 2, none⟩ = some (.int .i64 k) ∧ wx.cell? ⟨w.heap.size, 3, none⟩ = some (.int .i64 i) ∧ wx.cell? ⟨w.heap.size, 4, none⟩ = some (.int .u64 u) ∧ wx.cell? ⟨w.heap.size, 5, none⟩ = some (.string s) ∧ wx.cell? ⟨w.heap.size, 6, none⟩ = some (.slice a len cap) ∧ wx.cell? ⟨g5, 0, none⟩ = some (.int .i64 8) ∧ wx.cell? ⟨g5, 1, none⟩ = some (.int .i64 0) ∧ wx.cell? ⟨g5, 2, none⟩ = some (.int .u64 0) ∧ wx.cell? ⟨g5, 3, none⟩ = some (.string ⟨#[]⟩) ∧ wx.cell? ⟨g5, 4, none⟩ = some (.slice ad' ts.length cap')) := fun wx h => ⟨h.d.c10.2.2.1, h.d.c10.2.2.2.1, h.d.c10.2.2.2.2.1, h.d.c10.2.2.2.2.2.1, h.d.c10.2.2.2.2.2.2.1, h.q.c5.1, h.q.c5.2.1, h.q.c5.2.2.1, h.q.c5.2.2.2.1, h.q.c5.2.2.2.2⟩
      have HC : Hid (∀ wx, Below w.heap.size w wx → Calls Tryz.prog 25 #[.agg #[.int .i64 k, .int .i64 i, .int .u64 u, .string s, .slice a len cap]] wx fun e w' => ∃ (k i u : Int) (s : ByteArray) (ad : Option Addr) (len cap : Nat), e = .returned (.agg #[.int .i64 k, .int .i64 i, .int .u64 u, .string s, .slice ad len cap]) ∧ Hid (Rf (fun g => wx.heap.size ≤ g ∧ g < w'.heap.size) w' 16 [.int .i64 k, .int .i64 i, .int .u64 u, .string s, .slice ad len cap] l) ∧ Below wx.heap.size wx w') := fun wx hb => copy_any 16 l _ _ _ _ _ wx (Rep.below hb 16 _ _ HS.out.last) HL.out
      clear HS HL
      go_wp2_with fail
      have J1 := J0.keep (Below.drew (Below.refl _ _))
      generalize hzr : wr.heap.size = zr at *
      refine wp_region_held_drew (S := fun wx => wx.cell? ⟨w.heap.size, 2, none⟩ = some (.int .i64 k) ∧ wx.cell? ⟨w.heap.size, 3, none⟩ = some (.int .i64 i) ∧ wx.cell? ⟨w.heap.size, 4, none⟩ = some (.int .u64 u) ∧ wx.cell? ⟨w.heap.size, 5, none⟩ = some (.string s) ∧ wx.cell? ⟨w.heap.size, 6, none⟩ = some (.slice a len cap) ∧ wx.cell? ⟨g5, 0, none⟩ = some (.int .i64 8) ∧ wx.cell? ⟨g5, 1, none⟩ = some (.int .i64 0) ∧ wx.cell? ⟨g5, 2, none⟩ = some (.int .u64 0) ∧ wx.cell? ⟨g5, 3, none⟩ = some (.string ⟨#[]⟩) ∧ wx.cell? ⟨g5, 4, none⟩ = some (.slice ad' ts.length cap')) (by kernel_rfl) (HV.out _ J1) (fun hHeld => ?_)
      refine wpAnyH_take (i := 0) (oi := { dst := some 41, op := Op.fieldAddr 27 (Operand.tmp 1) 2, type := 0, pos := "ref.go:225", after := #[], guard := none }) (v := ?tW0x) rfl (by kernel_rfl) (by kernel_rfl) (by kernel_rfl) (fun _ _ _ h => h) (Or.inl ⟨by rfl, ?uW0x⟩) (by assumption) ?rW0x
      case uW0x => (intro w hSw; (try dsimp only at hSw); go_simp; (try with_reducible rfl))
      simp only [Act.put, List.setIfInBounds_toArray, List.set_cons_zero, List.set_cons_succ]
      refine wpAnyH_take (i := 1) (oi := { dst := some 42, op := Op.load 25 (Operand.tmp 41), type := 25, pos := "ref.go:225", after := #[{ on := 0, ground := Ground.data }], guard := none }) (v := ?tW1x) rfl (by kernel_rfl) (by kernel_rfl) (by kernel_rfl) (fun _ _ _ h => h) (Or.inl ⟨by rfl, ?uW1x⟩) (by assumption) ?rW1x
      case uW1x => (intro w hSw; (try dsimp only at hSw); go_simp; (try with_reducible rfl))
      simp only [Act.put, List.setIfInBounds_toArray, List.set_cons_zero, List.set_cons_succ]
      refine wpAnyH_take (i := 3) (oi := { dst := some 44, op := Op.load 25 (Operand.tmp 5), type := 25, pos := "ref.go:225", after := #[], guard := none }) (v := ?tW3x) rfl (by kernel_rfl) (by kernel_rfl) (by kernel_rfl) (fun _ _ _ h => h) (Or.inl ⟨by rfl, ?uW3x⟩) (by assumption) ?rW3x
      case uW3x => (intro w hSw; (try dsimp only at hSw); go_simp; (try with_reducible rfl))
      simp only [Act.put, List.setIfInBounds_toArray, List.set_cons_zero, List.set_cons_succ]
      refine wpAnyH_ready (rs := [2, 6]) (by kernel_rfl) (by simp) ?_
      refine AllReadyH.cons (o := { dst := some 43, op := Op.call { callee := Callee.value (Operand.func 25), args := #[Operand.tmp 42], argTypes := #[25] }, type := 25, pos := "ref.go:225", after := #[{ on := 1, ground := Ground.data }], guard := none }) rfl (fun K hK => ?_) (AllReadyH.cons (o := { dst := some 7, op := Op.alloc 25, type := 0, pos := "ref.go:225", after := #[], guard := none }) rfl (fun K hK => ?_) AllReadyH.nil)
      · go_simp
        refine (HC.out _ J1.b).mono ?_
        rintro e w4 ⟨k1, i1, u1, s1, a1, n1, c1, rfl, rf, b4⟩
        go_wp2_with fail
        have J4 := J1.keep (b4.mono J1.z)
        refine hK.out _ _ (HV.out _ J4) (fun hH4 => ?_)
        clear hK K
        try simp only [Act.put, List.setIfInBounds_toArray, List.set_cons_zero, List.set_cons_succ]
        refine wpAnyH_ready (rs := [4, 6]) (by kernel_rfl) (by simp) ?_
        refine AllReadyH.cons (o := { dst := some 45, op := Op.buildSlice 23 2 #[(0, Operand.tmp 43), (1, Operand.tmp 44)], type := 23, pos := "ref.go:225", after := #[{ on := 2, ground := Ground.data }, { on := 3, ground := Ground.data }], guard := none }) rfl (fun K hK => ?_) (AllReadyH.cons (o := { dst := some 7, op := Op.alloc 25, type := 0, pos := "ref.go:225", after := #[], guard := none }) rfl (fun K hK => ?_) AllReadyH.nil)
        · go_simp
          have P0 := Bk.new w4 #[.int .i64 k1, .int .i64 i1, .int .u64 u1, .string s1, .slice a1 n1 c1, .int .i64 8, .int .i64 0, .int .u64 0, .string ⟨#[]⟩, .slice ad' ts.length cap'] 25
          have bP := below1 w4 (.cells #[.int .i64 k1, .int .i64 i1, .int .u64 u1, .string s1, .slice a1 n1 c1, .int .i64 8, .int .i64 0, .int .u64 0, .string ⟨#[]⟩, .slice ad' ts.length cap'] 25)
          have J5 := J4.keep (bP.mono J4.z)
          have F5 : Hid (Rf (fun g => zr ≤ g ∧ g < w4.heap.size) _ 16 [.int .i64 k1, .int .i64 i1, .int .u64 u1, .string s1, .slice a1 n1 c1] l) := Rf.to (fun g hg => ⟨⟨Nat.le_trans J1.z hg.1, hg.2⟩, bP.block g hg.2⟩) 16 _ _ rf.out
          have hg2 : zr ≤ w4.heap.size := J4.z
          have hlt5 := P0.lt
          generalize w4.alloc (.cells #[.int .i64 k1, .int .i64 i1, .int .u64 u1, .string s1, .slice a1 n1 c1, .int .i64 8, .int .i64 0, .int .u64 0, .string ⟨#[]⟩, .slice ad' ts.length cap'] 25) = w5 at *
          generalize w4.heap.size = g2 at *
          refine hK.out _ _ (HV.out _ J5) (fun hH5 => ?_)
          clear hK K
          try simp only [Act.put, List.setIfInBounds_toArray, List.set_cons_zero, List.set_cons_succ]
          refine wpAnyH_take (i := 5) (oi := { dst := some 46, op := Op.build 25 #[(0, Operand.const (Value.int IntKind.i64 9)), (4, Operand.tmp 45)], type := 25, pos := "ref.go:225", after := #[{ on := 4, ground := Ground.data }], guard := none }) (v := ?tC5x) rfl (by kernel_rfl) (by kernel_rfl) (by kernel_rfl) (fun _ _ _ h => h) (Or.inl ⟨by rfl, ?uC5x⟩) (by assumption) ?rC5x
          case uC5x => (intro w hSw; (try dsimp only at hSw); go_simp; (try with_reducible rfl))
          simp only [Act.put, List.setIfInBounds_toArray, List.set_cons_zero, List.set_cons_succ]
          refine wpAnyH_ready (rs := [6]) (by kernel_rfl) (by simp) ?_
          refine AllReadyH.cons (o := { dst := some 7, op := Op.alloc 25, type := 0, pos := "ref.go:225", after := #[], guard := none }) rfl (fun K hK => ?_) AllReadyH.nil
          go_simp
          have T0 := Bk.new w5 #[.int .i64 0, .int .i64 0, .int .u64 0, .string ⟨#[]⟩, .slice none 0 0] 25
          have bT := below1 w5 (.cells #[.int .i64 0, .int .i64 0, .int .u64 0, .string ⟨#[]⟩, .slice none 0 0] 25)
          have J6 := J5.keep (bT.mono J5.z)
          have P6 := P0.step bT
          have F6 : Hid (Rf (fun g => zr ≤ g ∧ g ≠ w5.heap.size ∧ g < (w5.alloc (.cells #[.int .i64 0, .int .i64 0, .int .u64 0, .string ⟨#[]⟩, .slice none 0 0] 25)).heap.size) _ 16 [.int .i64 k1, .int .i64 i1, .int .u64 u1, .string s1, .slice a1 n1 c1] l) := Rf.to (fun g hg => ⟨⟨hg.1, by omega, Nat.lt_of_lt_of_le (by omega : g < w5.heap.size) bT.size⟩, bT.block g (by omega)⟩) 16 _ _ F5.out
          have T6 := T0
          have hgT : zr ≤ w5.heap.size := J5.z
          have hne : g2 ≠ w5.heap.size := by omega
          clear T0 bT P0 F5 bP rf b4 J5 J4
          generalize w5.alloc (.cells #[.int .i64 0, .int .i64 0, .int .u64 0, .string ⟨#[]⟩, .slice none 0 0] 25) = w6 at *
          generalize w5.heap.size = gT at *
          refine hK.out _ _ (HV.out _ J6) (fun hH6 => ?_)
          clear hK K
          try simp only [Act.put, List.setIfInBounds_toArray, List.set_cons_zero, List.set_cons_succ]
          obtain ⟨t0, t1, t2, t3, t4⟩ := T6.c5
          have ft := T6.f
          refine wpAnyH_ready (rs := [7]) (by kernel_rfl) (by simp) ?_
          refine AllReadyH.cons (o := { dst := none, op := Op.store 25 (Operand.tmp 7) (Operand.tmp 46), type := 0, pos := "ref.go:225", after := #[{ on := 6, ground := Ground.data }, { on := 5, ground := Ground.data }, { on := 2, ground := Ground.chain }, { on := 0, ground := Ground.phase }, { on := 1, ground := Ground.phase }, { on := 2, ground := Ground.phase }, { on := 3, ground := Ground.phase }, { on := 4, ground := Ground.phase }, { on := 5, ground := Ground.phase }, { on := 6, ground := Ground.phase }], guard := none }) rfl (fun K hK => ?_) AllReadyH.nil
          go_simp
          obtain ⟨M1, M2, M3, M4⟩ := set5 T6 (.int .i64 9) (.int .i64 0) (.int .u64 0) (.string ⟨#[]⟩) (.slice (some ⟨g2, 0, none⟩) 2 2) rfl
          have J7 := J6.keep (M4.mono hgT)
          have P7 := (M3 g2 hne).trans P6
          have F7 : Hid (Rf (fun g => zr ≤ g ∧ g ≠ gT ∧ g < (((((w6.setCell ⟨gT, 0, none⟩ (.int .i64 9)).setCell ⟨gT, 1, none⟩ (.int .i64 0)).setCell ⟨gT, 2, none⟩ (.int .u64 0)).setCell ⟨gT, 3, none⟩ (.string ⟨#[]⟩)).setCell ⟨gT, 4, none⟩ (.slice (some ⟨g2, 0, none⟩) 2 2)).heap.size) _ 16 [.int .i64 k1, .int .i64 i1, .int .u64 u1, .string s1, .slice a1 n1 c1] l) := Rf.to (fun g hg => ⟨⟨hg.1, hg.2.1, by rw [M2]; exact hg.2.2⟩, M3 g hg.2.1⟩) 16 _ _ F6.out
          clear t0 t1 t2 t3 t4 ft M2 M3 M4 J6 P6 F6 T6
          generalize (((((w6.setCell ⟨gT, 0, none⟩ (.int .i64 9)).setCell ⟨gT, 1, none⟩ (.int .i64 0)).setCell ⟨gT, 2, none⟩ (.int .u64 0)).setCell ⟨gT, 3, none⟩ (.string ⟨#[]⟩)).setCell ⟨gT, 4, none⟩ (.slice (some ⟨g2, 0, none⟩) 2 2)) = wt at *
          refine hK.out _ _ (HV.out _ J7) (fun hHz => ?_)
          clear hK K
          refine wpAnyH_done (by kernel_rfl) ?_ _
          clear HV HC hHz hd J1 J0
          clear hHeld
          obtain ⟨t0, t1, t2, t3, t4⟩ := M1.c5
          go_wp2_with fail
          have b8 : Below wt.heap.size wt ((wt.alloc (.cells #[.int .i64 8, .int .i64 0, .int .u64 0, .string ⟨#[]⟩, .slice (some ⟨g4, 0, none⟩) 4 4, .int .i64 9, .int .i64 0, .int .u64 0, .string ⟨#[]⟩, .slice (some ⟨g2, 0, none⟩) 2 2] 25)).alloc (.cells #[.int .i64 9, .int .i64 0, .int .u64 0, .string ⟨#[]⟩, .slice (some ⟨wt.heap.size, 0, none⟩) 2 2] 25)) := below2 wt _ _
          have P8 : Bk ((wt.alloc (.cells #[.int .i64 8, .int .i64 0, .int .u64 0, .string ⟨#[]⟩, .slice (some ⟨g4, 0, none⟩) 4 4, .int .i64 9, .int .i64 0, .int .u64 0, .string ⟨#[]⟩, .slice (some ⟨g2, 0, none⟩) 2 2] 25)).alloc (.cells #[.int .i64 9, .int .i64 0, .int .u64 0, .string ⟨#[]⟩, .slice (some ⟨wt.heap.size, 0, none⟩) 2 2] 25)) g2 #[.int .i64 k1, .int .i64 i1, .int .u64 u1, .string s1, .slice a1 n1 c1, .int .i64 8, .int .i64 0, .int .u64 0, .string ⟨#[]⟩, .slice ad' ts.length cap'] 25 := Bk.step (N := g2) (cs := #[.int .i64 k1, .int .i64 i1, .int .u64 u1, .string s1, .slice a1 n1 c1, .int .i64 8, .int .i64 0, .int .u64 0, .string ⟨#[]⟩, .slice ad' ts.length cap']) (T := 25) P7 b8
          have Q8 : Bk ((wt.alloc (.cells #[.int .i64 8, .int .i64 0, .int .u64 0, .string ⟨#[]⟩, .slice (some ⟨g4, 0, none⟩) 4 4, .int .i64 9, .int .i64 0, .int .u64 0, .string ⟨#[]⟩, .slice (some ⟨g2, 0, none⟩) 2 2] 25)).alloc (.cells #[.int .i64 9, .int .i64 0, .int .u64 0, .string ⟨#[]⟩, .slice (some ⟨wt.heap.size, 0, none⟩) 2 2] 25)) wt.heap.size #[.int .i64 8, .int .i64 0, .int .u64 0, .string ⟨#[]⟩, .slice (some ⟨g4, 0, none⟩) 4 4, .int .i64 9, .int .i64 0, .int .u64 0, .string ⟨#[]⟩, .slice (some ⟨g2, 0, none⟩) 2 2] 25 := (Bk.new wt _ _).alloc _
          have D8 := Bk.new2 wt (.cells #[.int .i64 8, .int .i64 0, .int .u64 0, .string ⟨#[]⟩, .slice (some ⟨g4, 0, none⟩) 4 4, .int .i64 9, .int .i64 0, .int .u64 0, .string ⟨#[]⟩, .slice (some ⟨g2, 0, none⟩) 2 2] 25) #[.int .i64 9, .int .i64 0, .int .u64 0, .string ⟨#[]⟩, .slice (some ⟨wt.heap.size, 0, none⟩) 2 2] 25
          have J8 := J7.keep (b8.mono J7.z)
          have F8 : Hid (Rf (fun g => zr ≤ g ∧ g < ((wt.alloc (.cells #[.int .i64 8, .int .i64 0, .int .u64 0, .string ⟨#[]⟩, .slice (some ⟨g4, 0, none⟩) 4 4, .int .i64 9, .int .i64 0, .int .u64 0, .string ⟨#[]⟩, .slice (some ⟨g2, 0, none⟩) 2 2] 25)).alloc (.cells #[.int .i64 9, .int .i64 0, .int .u64 0, .string ⟨#[]⟩, .slice (some ⟨wt.heap.size, 0, none⟩) 2 2] 25)).heap.size) _ 16 [.int .i64 k1, .int .i64 i1, .int .u64 u1, .string s1, .slice a1 n1 c1] l) := Rf.to (fun g hg => ⟨⟨hg.1, Nat.lt_of_lt_of_le hg.2.2 b8.size⟩, b8.block g hg.2.2⟩) 16 _ _ F7.out
          have hgP : zr ≤ wt.heap.size := J7.z
          clear F7 P7 J7 M1 t0 t1 t2 t3 t4 b8
          generalize ((wt.alloc (.cells #[.int .i64 8, .int .i64 0, .int .u64 0, .string ⟨#[]⟩, .slice (some ⟨g4, 0, none⟩) 4 4, .int .i64 9, .int .i64 0, .int .u64 0, .string ⟨#[]⟩, .slice (some ⟨g2, 0, none⟩) 2 2] 25)).alloc (.cells #[.int .i64 9, .int .i64 0, .int .u64 0, .string ⟨#[]⟩, .slice (some ⟨wt.heap.size, 0, none⟩) 2 2] 25)) = w8 at *
          generalize wt.heap.size = gP at *
          have RP := savT_rep Q8 J8.n P8 (h17.out _ _ (Rf.rep 16 _ _ F8.out)) J8.r.rl hc.out
          refine (refValid 19 _ _ _ _ _ _ _ RP).mono ?_
          rintro e w9 ⟨rfl, b9⟩
          have P9 := P8.step b9
          have Q9 := Q8.step b9
          have D9 := D8.step b9
          have J9 := J8.keep (b9.mono J8.z)
          have F9 : Hid (Rf (fun g => zr ≤ g) w9 16 [.int .i64 k1, .int .i64 i1, .int .u64 u1, .string s1, .slice a1 n1 c1] l) := Rf.to (fun g hg => ⟨hg.1, b9.block g hg.2⟩) 16 _ _ F8.out
          clear RP P8 Q8 D8 J8 F8 b9
          rw [hR.out]
          obtain ⟨z0, z1, z2, z3, z4⟩ := J9.e.c5
          obtain ⟨d0, d1, d2, d3, d4⟩ := D9.c5
          have fz := J9.e.f
          obtain ⟨l1, l2, l3⟩ := J9.lt
          cases R
          · go_wp2_with fail
            obtain ⟨X1, X2, X3, X4⟩ := set5 J9.e (.int .i64 0) (.int .i64 0) (.int .u64 0) (.string ⟨#[]⟩) (.slice none 0 0) rfl
            obtain ⟨y0, y1, y2, y3, y4⟩ := X1.c5
            exact bodyPost_ret (v := .tuple #[.agg #[.int .i64 0, .int .i64 0, .int .u64 0, .string ⟨#[]⟩, .slice none 0 0], .bool false]) (by simp [results, Tryz.results8, go_sem, y0, y1, y2, y3, y4]) rfl ⟨J9.b.trans (X4.mono (Nat.le_succ _)), (fun h => by cases h), fun _ => rfl⟩
          · go_wp2_with fail
            obtain ⟨X1, X2, X3, X4⟩ := set5 J9.e (.int .i64 9) (.int .i64 0) (.int .u64 0) (.string ⟨#[]⟩) (.slice (some ⟨gP, 0, none⟩) 2 2) rfl
            obtain ⟨y0, y1, y2, y3, y4⟩ := X1.c5
            have E1 := (X3 gP (by omega)).trans Q9
            have E2 := (X3 g2 (by omega)).trans P9
            have E3 := (X3 g4 (by omega)).trans J9.n
            have E4 := Rf.rep 16 _ _ (Rf.to (F' := fun _ => True) (fun g hg => ⟨trivial, X3 g (by omega)⟩) 16 _ _ F9.out)
            have E5 := (Rlf.to (F' := fun _ => True) (fun g hg => ⟨trivial, X3 g (by omega)⟩) J9.r).rl
            have RP := savT_rep E1 E3 E2 (h17.out _ _ E4) E5 hc.out
            exact bodyPost_ret (v := .tuple #[.agg #[.int .i64 9, .int .i64 0, .int .u64 0, .string ⟨#[]⟩, .slice (some ⟨gP, 0, none⟩) 2 2], .bool true]) (by simp [results, Tryz.results8, go_sem, y0, y1, y2, y3, y4]) rfl ⟨J9.b.trans (X4.mono (Nat.le_succ _)), fun _ => ⟨_, _, _, _, _, _, _, rfl, RP⟩, (fun h => by cases h)⟩
        · go_simp
          have T0 := Bk.new w4 #[.int .i64 0, .int .i64 0, .int .u64 0, .string ⟨#[]⟩, .slice none 0 0] 25
          have bT := below1 w4 (.cells #[.int .i64 0, .int .i64 0, .int .u64 0, .string ⟨#[]⟩, .slice none 0 0] 25)
          have J5 := J4.keep (bT.mono J4.z)
          have F5 : Hid (Rf (fun g => zr ≤ g ∧ g < w4.heap.size) _ 16 [.int .i64 k1, .int .i64 i1, .int .u64 u1, .string s1, .slice a1 n1 c1] l) := Rf.to (fun g hg => ⟨⟨Nat.le_trans J1.z hg.1, hg.2⟩, bT.block g hg.2⟩) 16 _ _ rf.out
          have hgT : zr ≤ w4.heap.size := J4.z
          have hlt5 := T0.lt
          generalize w4.alloc (.cells #[.int .i64 0, .int .i64 0, .int .u64 0, .string ⟨#[]⟩, .slice none 0 0] 25) = w5 at *
          generalize w4.heap.size = gT at *
          refine hK.out _ _ (HV.out _ J5) (fun hH5 => ?_)
          clear hK K
          try simp only [Act.put, List.setIfInBounds_toArray, List.set_cons_zero, List.set_cons_succ]
          refine wpAnyH_ready (rs := [4]) (by kernel_rfl) (by simp) ?_
          refine AllReadyH.cons (o := { dst := some 45, op := Op.buildSlice 23 2 #[(0, Operand.tmp 43), (1, Operand.tmp 44)], type := 23, pos := "ref.go:225", after := #[{ on := 2, ground := Ground.data }, { on := 3, ground := Ground.data }], guard := none }) rfl (fun K hK => ?_) AllReadyH.nil
          go_simp
          have P0 := Bk.new w5 #[.int .i64 k1, .int .i64 i1, .int .u64 u1, .string s1, .slice a1 n1 c1, .int .i64 8, .int .i64 0, .int .u64 0, .string ⟨#[]⟩, .slice ad' ts.length cap'] 25
          have bP := below1 w5 (.cells #[.int .i64 k1, .int .i64 i1, .int .u64 u1, .string s1, .slice a1 n1 c1, .int .i64 8, .int .i64 0, .int .u64 0, .string ⟨#[]⟩, .slice ad' ts.length cap'] 25)
          have J6 := J5.keep (bP.mono J5.z)
          have T6 := T0.step bP
          have F6 : Hid (Rf (fun g => zr ≤ g ∧ g ≠ gT ∧ g < (w5.alloc (.cells #[.int .i64 k1, .int .i64 i1, .int .u64 u1, .string s1, .slice a1 n1 c1, .int .i64 8, .int .i64 0, .int .u64 0, .string ⟨#[]⟩, .slice ad' ts.length cap'] 25)).heap.size) _ 16 [.int .i64 k1, .int .i64 i1, .int .u64 u1, .string s1, .slice a1 n1 c1] l) := Rf.to (fun g hg => ⟨⟨hg.1, by omega, Nat.lt_of_lt_of_le (by omega : g < w5.heap.size) bP.size⟩, bP.block g (by omega)⟩) 16 _ _ F5.out
          have P6 := P0
          have hg2 : zr ≤ w5.heap.size := J5.z
          have hne : w5.heap.size ≠ gT := by omega
          clear T0 bT P0 F5 bP rf b4 J5 J4
          generalize w5.alloc (.cells #[.int .i64 k1, .int .i64 i1, .int .u64 u1, .string s1, .slice a1 n1 c1, .int .i64 8, .int .i64 0, .int .u64 0, .string ⟨#[]⟩, .slice ad' ts.length cap'] 25) = w6 at *
          generalize w5.heap.size = g2 at *
          refine hK.out _ _ (HV.out _ J6) (fun hH6 => ?_)
          clear hK K
          try simp only [Act.put, List.setIfInBounds_toArray, List.set_cons_zero, List.set_cons_succ]
          refine wpAnyH_take (i := 5) (oi := { dst := some 46, op := Op.build 25 #[(0, Operand.const (Value.int IntKind.i64 9)), (4, Operand.tmp 45)], type := 25, pos := "ref.go:225", after := #[{ on := 4, ground := Ground.data }], guard := none }) (v := ?tB5x) rfl (by kernel_rfl) (by kernel_rfl) (by kernel_rfl) (fun _ _ _ h => h) (Or.inl ⟨by rfl, ?uB5x⟩) (by assumption) ?rB5x
          case uB5x => (intro w hSw; (try dsimp only at hSw); go_simp; (try with_reducible rfl))
          simp only [Act.put, List.setIfInBounds_toArray, List.set_cons_zero, List.set_cons_succ]
          obtain ⟨t0, t1, t2, t3, t4⟩ := T6.c5
          have ft := T6.f
          refine wpAnyH_ready (rs := [7]) (by kernel_rfl) (by simp) ?_
          refine AllReadyH.cons (o := { dst := none, op := Op.store 25 (Operand.tmp 7) (Operand.tmp 46), type := 0, pos := "ref.go:225", after := #[{ on := 6, ground := Ground.data }, { on := 5, ground := Ground.data }, { on := 2, ground := Ground.chain }, { on := 0, ground := Ground.phase }, { on := 1, ground := Ground.phase }, { on := 2, ground := Ground.phase }, { on := 3, ground := Ground.phase }, { on := 4, ground := Ground.phase }, { on := 5, ground := Ground.phase }, { on := 6, ground := Ground.phase }], guard := none }) rfl (fun K hK => ?_) AllReadyH.nil
          go_simp
          obtain ⟨M1, M2, M3, M4⟩ := set5 T6 (.int .i64 9) (.int .i64 0) (.int .u64 0) (.string ⟨#[]⟩) (.slice (some ⟨g2, 0, none⟩) 2 2) rfl
          have J7 := J6.keep (M4.mono hgT)
          have P7 := (M3 g2 hne).trans P6
          have F7 : Hid (Rf (fun g => zr ≤ g ∧ g ≠ gT ∧ g < (((((w6.setCell ⟨gT, 0, none⟩ (.int .i64 9)).setCell ⟨gT, 1, none⟩ (.int .i64 0)).setCell ⟨gT, 2, none⟩ (.int .u64 0)).setCell ⟨gT, 3, none⟩ (.string ⟨#[]⟩)).setCell ⟨gT, 4, none⟩ (.slice (some ⟨g2, 0, none⟩) 2 2)).heap.size) _ 16 [.int .i64 k1, .int .i64 i1, .int .u64 u1, .string s1, .slice a1 n1 c1] l) := Rf.to (fun g hg => ⟨⟨hg.1, hg.2.1, by rw [M2]; exact hg.2.2⟩, M3 g hg.2.1⟩) 16 _ _ F6.out
          clear t0 t1 t2 t3 t4 ft M2 M3 M4 J6 P6 F6 T6
          generalize (((((w6.setCell ⟨gT, 0, none⟩ (.int .i64 9)).setCell ⟨gT, 1, none⟩ (.int .i64 0)).setCell ⟨gT, 2, none⟩ (.int .u64 0)).setCell ⟨gT, 3, none⟩ (.string ⟨#[]⟩)).setCell ⟨gT, 4, none⟩ (.slice (some ⟨g2, 0, none⟩) 2 2)) = wt at *
          refine hK.out _ _ (HV.out _ J7) (fun hHz => ?_)
          clear hK K
          refine wpAnyH_done (by kernel_rfl) ?_ _
          clear HV HC hHz hd J1 J0
          clear hHeld
          obtain ⟨t0, t1, t2, t3, t4⟩ := M1.c5
          go_wp2_with fail
          have b8 : Below wt.heap.size wt ((wt.alloc (.cells #[.int .i64 8, .int .i64 0, .int .u64 0, .string ⟨#[]⟩, .slice (some ⟨g4, 0, none⟩) 4 4, .int .i64 9, .int .i64 0, .int .u64 0, .string ⟨#[]⟩, .slice (some ⟨g2, 0, none⟩) 2 2] 25)).alloc (.cells #[.int .i64 9, .int .i64 0, .int .u64 0, .string ⟨#[]⟩, .slice (some ⟨wt.heap.size, 0, none⟩) 2 2] 25)) := below2 wt _ _
          have P8 : Bk ((wt.alloc (.cells #[.int .i64 8, .int .i64 0, .int .u64 0, .string ⟨#[]⟩, .slice (some ⟨g4, 0, none⟩) 4 4, .int .i64 9, .int .i64 0, .int .u64 0, .string ⟨#[]⟩, .slice (some ⟨g2, 0, none⟩) 2 2] 25)).alloc (.cells #[.int .i64 9, .int .i64 0, .int .u64 0, .string ⟨#[]⟩, .slice (some ⟨wt.heap.size, 0, none⟩) 2 2] 25)) g2 #[.int .i64 k1, .int .i64 i1, .int .u64 u1, .string s1, .slice a1 n1 c1, .int .i64 8, .int .i64 0, .int .u64 0, .string ⟨#[]⟩, .slice ad' ts.length cap'] 25 := Bk.step (N := g2) (cs := #[.int .i64 k1, .int .i64 i1, .int .u64 u1, .string s1, .slice a1 n1 c1, .int .i64 8, .int .i64 0, .int .u64 0, .string ⟨#[]⟩, .slice ad' ts.length cap']) (T := 25) P7 b8
          have Q8 : Bk ((wt.alloc (.cells #[.int .i64 8, .int .i64 0, .int .u64 0, .string ⟨#[]⟩, .slice (some ⟨g4, 0, none⟩) 4 4, .int .i64 9, .int .i64 0, .int .u64 0, .string ⟨#[]⟩, .slice (some ⟨g2, 0, none⟩) 2 2] 25)).alloc (.cells #[.int .i64 9, .int .i64 0, .int .u64 0, .string ⟨#[]⟩, .slice (some ⟨wt.heap.size, 0, none⟩) 2 2] 25)) wt.heap.size #[.int .i64 8, .int .i64 0, .int .u64 0, .string ⟨#[]⟩, .slice (some ⟨g4, 0, none⟩) 4 4, .int .i64 9, .int .i64 0, .int .u64 0, .string ⟨#[]⟩, .slice (some ⟨g2, 0, none⟩) 2 2] 25 := (Bk.new wt _ _).alloc _
          have D8 := Bk.new2 wt (.cells #[.int .i64 8, .int .i64 0, .int .u64 0, .string ⟨#[]⟩, .slice (some ⟨g4, 0, none⟩) 4 4, .int .i64 9, .int .i64 0, .int .u64 0, .string ⟨#[]⟩, .slice (some ⟨g2, 0, none⟩) 2 2] 25) #[.int .i64 9, .int .i64 0, .int .u64 0, .string ⟨#[]⟩, .slice (some ⟨wt.heap.size, 0, none⟩) 2 2] 25
          have J8 := J7.keep (b8.mono J7.z)
          have F8 : Hid (Rf (fun g => zr ≤ g ∧ g < ((wt.alloc (.cells #[.int .i64 8, .int .i64 0, .int .u64 0, .string ⟨#[]⟩, .slice (some ⟨g4, 0, none⟩) 4 4, .int .i64 9, .int .i64 0, .int .u64 0, .string ⟨#[]⟩, .slice (some ⟨g2, 0, none⟩) 2 2] 25)).alloc (.cells #[.int .i64 9, .int .i64 0, .int .u64 0, .string ⟨#[]⟩, .slice (some ⟨wt.heap.size, 0, none⟩) 2 2] 25)).heap.size) _ 16 [.int .i64 k1, .int .i64 i1, .int .u64 u1, .string s1, .slice a1 n1 c1] l) := Rf.to (fun g hg => ⟨⟨hg.1, Nat.lt_of_lt_of_le hg.2.2 b8.size⟩, b8.block g hg.2.2⟩) 16 _ _ F7.out
          have hgP : zr ≤ wt.heap.size := J7.z
          clear F7 P7 J7 M1 t0 t1 t2 t3 t4 b8
          generalize ((wt.alloc (.cells #[.int .i64 8, .int .i64 0, .int .u64 0, .string ⟨#[]⟩, .slice (some ⟨g4, 0, none⟩) 4 4, .int .i64 9, .int .i64 0, .int .u64 0, .string ⟨#[]⟩, .slice (some ⟨g2, 0, none⟩) 2 2] 25)).alloc (.cells #[.int .i64 9, .int .i64 0, .int .u64 0, .string ⟨#[]⟩, .slice (some ⟨wt.heap.size, 0, none⟩) 2 2] 25)) = w8 at *
          generalize wt.heap.size = gP at *
          have RP := savT_rep Q8 J8.n P8 (h17.out _ _ (Rf.rep 16 _ _ F8.out)) J8.r.rl hc.out
          refine (refValid 19 _ _ _ _ _ _ _ RP).mono ?_
          rintro e w9 ⟨rfl, b9⟩
          have P9 := P8.step b9
          have Q9 := Q8.step b9
          have D9 := D8.step b9
          have J9 := J8.keep (b9.mono J8.z)
          have F9 : Hid (Rf (fun g => zr ≤ g) w9 16 [.int .i64 k1, .int .i64 i1, .int .u64 u1, .string s1, .slice a1 n1 c1] l) := Rf.to (fun g hg => ⟨hg.1, b9.block g hg.2⟩) 16 _ _ F8.out
          clear RP P8 Q8 D8 J8 F8 b9
          rw [hR.out]
          obtain ⟨z0, z1, z2, z3, z4⟩ := J9.e.c5
          obtain ⟨d0, d1, d2, d3, d4⟩ := D9.c5
          have fz := J9.e.f
          obtain ⟨l1, l2, l3⟩ := J9.lt
          cases R
          · go_wp2_with fail
            obtain ⟨X1, X2, X3, X4⟩ := set5 J9.e (.int .i64 0) (.int .i64 0) (.int .u64 0) (.string ⟨#[]⟩) (.slice none 0 0) rfl
            obtain ⟨y0, y1, y2, y3, y4⟩ := X1.c5
            exact bodyPost_ret (v := .tuple #[.agg #[.int .i64 0, .int .i64 0, .int .u64 0, .string ⟨#[]⟩, .slice none 0 0], .bool false]) (by simp [results, Tryz.results8, go_sem, y0, y1, y2, y3, y4]) rfl ⟨J9.b.trans (X4.mono (Nat.le_succ _)), (fun h => by cases h), fun _ => rfl⟩
          · go_wp2_with fail
            obtain ⟨X1, X2, X3, X4⟩ := set5 J9.e (.int .i64 9) (.int .i64 0) (.int .u64 0) (.string ⟨#[]⟩) (.slice (some ⟨gP, 0, none⟩) 2 2) rfl
            obtain ⟨y0, y1, y2, y3, y4⟩ := X1.c5
            have E1 := (X3 gP (by omega)).trans Q9
            have E2 := (X3 g2 (by omega)).trans P9
            have E3 := (X3 g4 (by omega)).trans J9.n
            have E4 := Rf.rep 16 _ _ (Rf.to (F' := fun _ => True) (fun g hg => ⟨trivial, X3 g (by omega)⟩) 16 _ _ F9.out)
            have E5 := (Rlf.to (F' := fun _ => True) (fun g hg => ⟨trivial, X3 g (by omega)⟩) J9.r).rl
            have RP := savT_rep E1 E3 E2 (h17.out _ _ E4) E5 hc.out
            exact bodyPost_ret (v := .tuple #[.agg #[.int .i64 9, .int .i64 0, .int .u64 0, .string ⟨#[]⟩, .slice (some ⟨gP, 0, none⟩) 2 2], .bool true]) (by simp [results, Tryz.results8, go_sem, y0, y1, y2, y3, y4]) rfl ⟨J9.b.trans (X4.mono (Nat.le_succ _)), fun _ => ⟨_, _, _, _, _, _, _, rfl, RP⟩, (fun h => by cases h)⟩
      · go_simp
        have T0 := (Bk.new wr #[.int .i64 0, .int .i64 0, .int .u64 0, .string ⟨#[]⟩, .slice none 0 0] 25).drew
        have bT := (below1 wr (.cells #[.int .i64 0, .int .i64 0, .int .u64 0, .string ⟨#[]⟩, .slice none 0 0] 25)).drew
        rw [hzr] at T0 bT
        have J4 := J0.keep bT
        have hlt5 := T0.lt
        generalize (wr.alloc (.cells #[.int .i64 0, .int .i64 0, .int .u64 0, .string ⟨#[]⟩, .slice none 0 0] 25)).drew = w5 at *
        refine hK.out _ _ (HV.out _ J4) (fun hH5 => ?_)
        clear hK K
        try simp only [Act.put, List.setIfInBounds_toArray, List.set_cons_zero, List.set_cons_succ]
        refine wpAnyH_ready (rs := [2]) (by kernel_rfl) (by simp) ?_
        refine AllReadyH.cons (o := { dst := some 43, op := Op.call { callee := Callee.value (Operand.func 25), args := #[Operand.tmp 42], argTypes := #[25] }, type := 25, pos := "ref.go:225", after := #[{ on := 1, ground := Ground.data }], guard := none }) rfl (fun K hK => ?_) AllReadyH.nil
        go_simp
        refine (HC.out _ J4.b).mono ?_
        rintro e w4 ⟨k1, i1, u1, s1, a1, n1, c1, rfl, rf, b4⟩
        go_wp2_with fail
        have J5 := J4.keep (b4.mono J4.z)
        have T5 := T0.step b4
        refine hK.out _ _ (HV.out _ J5) (fun hH6 => ?_)
        clear hK K
        try simp only [Act.put, List.setIfInBounds_toArray, List.set_cons_zero, List.set_cons_succ]
        refine wpAnyH_ready (rs := [4]) (by kernel_rfl) (by simp) ?_
        refine AllReadyH.cons (o := { dst := some 45, op := Op.buildSlice 23 2 #[(0, Operand.tmp 43), (1, Operand.tmp 44)], type := 23, pos := "ref.go:225", after := #[{ on := 2, ground := Ground.data }, { on := 3, ground := Ground.data }], guard := none }) rfl (fun K hK => ?_) AllReadyH.nil
        go_simp
        have P0 := Bk.new w4 #[.int .i64 k1, .int .i64 i1, .int .u64 u1, .string s1, .slice a1 n1 c1, .int .i64 8, .int .i64 0, .int .u64 0, .string ⟨#[]⟩, .slice ad' ts.length cap'] 25
        have bP := below1 w4 (.cells #[.int .i64 k1, .int .i64 i1, .int .u64 u1, .string s1, .slice a1 n1 c1, .int .i64 8, .int .i64 0, .int .u64 0, .string ⟨#[]⟩, .slice ad' ts.length cap'] 25)
        have J6 := J5.keep (bP.mono J5.z)
        have T6 := T5.step bP
        have hlt6 := T5.lt
        have F6 : Hid (Rf (fun g => zr ≤ g ∧ g ≠ zr ∧ g < (w4.alloc (.cells #[.int .i64 k1, .int .i64 i1, .int .u64 u1, .string s1, .slice a1 n1 c1, .int .i64 8, .int .i64 0, .int .u64 0, .string ⟨#[]⟩, .slice ad' ts.length cap'] 25)).heap.size) _ 16 [.int .i64 k1, .int .i64 i1, .int .u64 u1, .string s1, .slice a1 n1 c1] l) := Rf.to (fun g hg => ⟨⟨by omega, by omega, Nat.lt_of_lt_of_le hg.2 bP.size⟩, bP.block g hg.2⟩) 16 _ _ rf.out
        have P6 := P0
        have hg2 : zr ≤ w4.heap.size := J5.z
        have hne : w4.heap.size ≠ zr := by omega
        have hgT : zr ≤ zr := Nat.le_refl _
        clear T0 bT P0 bP rf b4 J5 J4 T5 hlt6
        generalize w4.alloc (.cells #[.int .i64 k1, .int .i64 i1, .int .u64 u1, .string s1, .slice a1 n1 c1, .int .i64 8, .int .i64 0, .int .u64 0, .string ⟨#[]⟩, .slice ad' ts.length cap'] 25) = w6 at *
        generalize w4.heap.size = g2 at *
        refine hK.out _ _ (HV.out _ J6) (fun hH7 => ?_)
        clear hK K
        try simp only [Act.put, List.setIfInBounds_toArray, List.set_cons_zero, List.set_cons_succ]
        refine wpAnyH_take (i := 5) (oi := { dst := some 46, op := Op.build 25 #[(0, Operand.const (Value.int IntKind.i64 9)), (4, Operand.tmp 45)], type := 25, pos := "ref.go:225", after := #[{ on := 4, ground := Ground.data }], guard := none }) (v := ?tA5x) rfl (by kernel_rfl) (by kernel_rfl) (by kernel_rfl) (fun _ _ _ h => h) (Or.inl ⟨by rfl, ?uA5x⟩) (by assumption) ?rA5x
        case uA5x => (intro w hSw; (try dsimp only at hSw); go_simp; (try with_reducible rfl))
        simp only [Act.put, List.setIfInBounds_toArray, List.set_cons_zero, List.set_cons_succ]
        obtain ⟨t0, t1, t2, t3, t4⟩ := T6.c5
        have ft := T6.f
        refine wpAnyH_ready (rs := [7]) (by kernel_rfl) (by simp) ?_
        refine AllReadyH.cons (o := { dst := none, op := Op.store 25 (Operand.tmp 7) (Operand.tmp 46), type := 0, pos := "ref.go:225", after := #[{ on := 6, ground := Ground.data }, { on := 5, ground := Ground.data }, { on := 2, ground := Ground.chain }, { on := 0, ground := Ground.phase }, { on := 1, ground := Ground.phase }, { on := 2, ground := Ground.phase }, { on := 3, ground := Ground.phase }, { on := 4, ground := Ground.phase }, { on := 5, ground := Ground.phase }, { on := 6, ground := Ground.phase }], guard := none }) rfl (fun K hK => ?_) AllReadyH.nil
        go_simp
        obtain ⟨M1, M2, M3, M4⟩ := set5 T6 (.int .i64 9) (.int .i64 0) (.int .u64 0) (.string ⟨#[]⟩) (.slice (some ⟨g2, 0, none⟩) 2 2) rfl
        have J7 := J6.keep (M4.mono hgT)
        have P7 := (M3 g2 hne).trans P6
        have F7 : Hid (Rf (fun g => zr ≤ g ∧ g ≠ zr ∧ g < (((((w6.setCell ⟨zr, 0, none⟩ (.int .i64 9)).setCell ⟨zr, 1, none⟩ (.int .i64 0)).setCell ⟨zr, 2, none⟩ (.int .u64 0)).setCell ⟨zr, 3, none⟩ (.string ⟨#[]⟩)).setCell ⟨zr, 4, none⟩ (.slice (some ⟨g2, 0, none⟩) 2 2)).heap.size) _ 16 [.int .i64 k1, .int .i64 i1, .int .u64 u1, .string s1, .slice a1 n1 c1] l) := Rf.to (fun g hg => ⟨⟨hg.1, hg.2.1, by rw [M2]; exact hg.2.2⟩, M3 g hg.2.1⟩) 16 _ _ F6.out
        clear t0 t1 t2 t3 t4 ft M2 M3 M4 J6 P6 F6 T6
        generalize (((((w6.setCell ⟨zr, 0, none⟩ (.int .i64 9)).setCell ⟨zr, 1, none⟩ (.int .i64 0)).setCell ⟨zr, 2, none⟩ (.int .u64 0)).setCell ⟨zr, 3, none⟩ (.string ⟨#[]⟩)).setCell ⟨zr, 4, none⟩ (.slice (some ⟨g2, 0, none⟩) 2 2)) = wt at *
        refine hK.out _ _ (HV.out _ J7) (fun hHz => ?_)
        clear hK K
        refine wpAnyH_done (by kernel_rfl) ?_ _
        clear HV HC hHz hd J1 J0
        clear hHeld
        obtain ⟨t0, t1, t2, t3, t4⟩ := M1.c5
        go_wp2_with fail
        have b8 : Below wt.heap.size wt ((wt.alloc (.cells #[.int .i64 8, .int .i64 0, .int .u64 0, .string ⟨#[]⟩, .slice (some ⟨g4, 0, none⟩) 4 4, .int .i64 9, .int .i64 0, .int .u64 0, .string ⟨#[]⟩, .slice (some ⟨g2, 0, none⟩) 2 2] 25)).alloc (.cells #[.int .i64 9, .int .i64 0, .int .u64 0, .string ⟨#[]⟩, .slice (some ⟨wt.heap.size, 0, none⟩) 2 2] 25)) := below2 wt _ _
        have P8 : Bk ((wt.alloc (.cells #[.int .i64 8, .int .i64 0, .int .u64 0, .string ⟨#[]⟩, .slice (some ⟨g4, 0, none⟩) 4 4, .int .i64 9, .int .i64 0, .int .u64 0, .string ⟨#[]⟩, .slice (some ⟨g2, 0, none⟩) 2 2] 25)).alloc (.cells #[.int .i64 9, .int .i64 0, .int .u64 0, .string ⟨#[]⟩, .slice (some ⟨wt.heap.size, 0, none⟩) 2 2] 25)) g2 #[.int .i64 k1, .int .i64 i1, .int .u64 u1, .string s1, .slice a1 n1 c1, .int .i64 8, .int .i64 0, .int .u64 0, .string ⟨#[]⟩, .slice ad' ts.length cap'] 25 := Bk.step (N := g2) (cs := #[.int .i64 k1, .int .i64 i1, .int .u64 u1, .string s1, .slice a1 n1 c1, .int .i64 8, .int .i64 0, .int .u64 0, .string ⟨#[]⟩, .slice ad' ts.length cap']) (T := 25) P7 b8
        have Q8 : Bk ((wt.alloc (.cells #[.int .i64 8, .int .i64 0, .int .u64 0, .string ⟨#[]⟩, .slice (some ⟨g4, 0, none⟩) 4 4, .int .i64 9, .int .i64 0, .int .u64 0, .string ⟨#[]⟩, .slice (some ⟨g2, 0, none⟩) 2 2] 25)).alloc (.cells #[.int .i64 9, .int .i64 0, .int .u64 0, .string ⟨#[]⟩, .slice (some ⟨wt.heap.size, 0, none⟩) 2 2] 25)) wt.heap.size #[.int .i64 8, .int .i64 0, .int .u64 0, .string ⟨#[]⟩, .slice (some ⟨g4, 0, none⟩) 4 4, .int .i64 9, .int .i64 0, .int .u64 0, .string ⟨#[]⟩, .slice (some ⟨g2, 0, none⟩) 2 2] 25 := (Bk.new wt _ _).alloc _
        have D8 := Bk.new2 wt (.cells #[.int .i64 8, .int .i64 0, .int .u64 0, .string ⟨#[]⟩, .slice (some ⟨g4, 0, none⟩) 4 4, .int .i64 9, .int .i64 0, .int .u64 0, .string ⟨#[]⟩, .slice (some ⟨g2, 0, none⟩) 2 2] 25) #[.int .i64 9, .int .i64 0, .int .u64 0, .string ⟨#[]⟩, .slice (some ⟨wt.heap.size, 0, none⟩) 2 2] 25
        have J8 := J7.keep (b8.mono J7.z)
        have F8 : Hid (Rf (fun g => zr ≤ g ∧ g < ((wt.alloc (.cells #[.int .i64 8, .int .i64 0, .int .u64 0, .string ⟨#[]⟩, .slice (some ⟨g4, 0, none⟩) 4 4, .int .i64 9, .int .i64 0, .int .u64 0, .string ⟨#[]⟩, .slice (some ⟨g2, 0, none⟩) 2 2] 25)).alloc (.cells #[.int .i64 9, .int .i64 0, .int .u64 0, .string ⟨#[]⟩, .slice (some ⟨wt.heap.size, 0, none⟩) 2 2] 25)).heap.size) _ 16 [.int .i64 k1, .int .i64 i1, .int .u64 u1, .string s1, .slice a1 n1 c1] l) := Rf.to (fun g hg => ⟨⟨hg.1, Nat.lt_of_lt_of_le hg.2.2 b8.size⟩, b8.block g hg.2.2⟩) 16 _ _ F7.out
        have hgP : zr ≤ wt.heap.size := J7.z
        clear F7 P7 J7 M1 t0 t1 t2 t3 t4 b8
        generalize ((wt.alloc (.cells #[.int .i64 8, .int .i64 0, .int .u64 0, .string ⟨#[]⟩, .slice (some ⟨g4, 0, none⟩) 4 4, .int .i64 9, .int .i64 0, .int .u64 0, .string ⟨#[]⟩, .slice (some ⟨g2, 0, none⟩) 2 2] 25)).alloc (.cells #[.int .i64 9, .int .i64 0, .int .u64 0, .string ⟨#[]⟩, .slice (some ⟨wt.heap.size, 0, none⟩) 2 2] 25)) = w8 at *
        generalize wt.heap.size = gP at *
        have RP := savT_rep Q8 J8.n P8 (h17.out _ _ (Rf.rep 16 _ _ F8.out)) J8.r.rl hc.out
        refine (refValid 19 _ _ _ _ _ _ _ RP).mono ?_
        rintro e w9 ⟨rfl, b9⟩
        have P9 := P8.step b9
        have Q9 := Q8.step b9
        have D9 := D8.step b9
        have J9 := J8.keep (b9.mono J8.z)
        have F9 : Hid (Rf (fun g => zr ≤ g) w9 16 [.int .i64 k1, .int .i64 i1, .int .u64 u1, .string s1, .slice a1 n1 c1] l) := Rf.to (fun g hg => ⟨hg.1, b9.block g hg.2⟩) 16 _ _ F8.out
        clear RP P8 Q8 D8 J8 F8 b9
        rw [hR.out]
        obtain ⟨z0, z1, z2, z3, z4⟩ := J9.e.c5
        obtain ⟨d0, d1, d2, d3, d4⟩ := D9.c5
        have fz := J9.e.f
        obtain ⟨l1, l2, l3⟩ := J9.lt
        cases R
        · go_wp2_with fail
          obtain ⟨X1, X2, X3, X4⟩ := set5 J9.e (.int .i64 0) (.int .i64 0) (.int .u64 0) (.string ⟨#[]⟩) (.slice none 0 0) rfl
          obtain ⟨y0, y1, y2, y3, y4⟩ := X1.c5
          exact bodyPost_ret (v := .tuple #[.agg #[.int .i64 0, .int .i64 0, .int .u64 0, .string ⟨#[]⟩, .slice none 0 0], .bool false]) (by simp [results, Tryz.results8, go_sem, y0, y1, y2, y3, y4]) rfl ⟨J9.b.trans (X4.mono (Nat.le_succ _)), (fun h => by cases h), fun _ => rfl⟩
        · go_wp2_with fail
          obtain ⟨X1, X2, X3, X4⟩ := set5 J9.e (.int .i64 9) (.int .i64 0) (.int .u64 0) (.string ⟨#[]⟩) (.slice (some ⟨gP, 0, none⟩) 2 2) rfl
          obtain ⟨y0, y1, y2, y3, y4⟩ := X1.c5
          have E1 := (X3 gP (by omega)).trans Q9
          have E2 := (X3 g2 (by omega)).trans P9
          have E3 := (X3 g4 (by omega)).trans J9.n
          have E4 := Rf.rep 16 _ _ (Rf.to (F' := fun _ => True) (fun g hg => ⟨trivial, X3 g (by omega)⟩) 16 _ _ F9.out)
          have E5 := (Rlf.to (F' := fun _ => True) (fun g hg => ⟨trivial, X3 g (by omega)⟩) J9.r).rl
          have RP := savT_rep E1 E3 E2 (h17.out _ _ E4) E5 hc.out
          exact bodyPost_ret (v := .tuple #[.agg #[.int .i64 9, .int .i64 0, .int .u64 0, .string ⟨#[]⟩, .slice (some ⟨gP, 0, none⟩) 2 2], .bool true]) (by simp [results, Tryz.results8, go_sem, y0, y1, y2, y3, y4]) rfl ⟨J9.b.trans (X4.mono (Nat.le_succ _)), fun _ => ⟨_, _, _, _, _, _, _, rfl, RP⟩, (fun h => by cases h)⟩
end Go.Proofs.YtgijdiplhcoojaaGreatDoor.Dt
