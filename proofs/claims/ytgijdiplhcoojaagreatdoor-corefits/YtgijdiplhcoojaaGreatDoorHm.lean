/- The store at its beginning handles a number: its place is 0, and it is kept; no condition. -/
import Derived.Test.YtgijdiplhcoojaaGreatDoorJaf
import Derived.Deep.AppendLies
import Derived.Deep.RegionLaw
import Derived.Deep.Cut
import Derived.Deep.CutRange
namespace Go.Proofs.YtgijdiplhcoojaaGreatDoor
open Go.RowKit

theorem infoDat_q : (Tryz.prog.info? 25).map (fun i => (i.zero, i.size, i.bytes)) = some (some (.agg #[.int .i64 0, .int .i64 0, .int .u64 0, .string ⟨#[]⟩, .slice none 0 0]), 5, 64) := by kernel_rfl
theorem infoDat_p : ∃ i0, Tryz.prog.info? 25 = some i0 ∧ i0.zero = some (.agg #[.int .i64 0, .int .i64 0, .int .u64 0, .string ⟨#[]⟩, .slice none 0 0]) ∧ i0.size = 5 ∧ i0.bytes = 64 := by
  obtain ⟨i0, h, e⟩ := Option.map_eq_some_iff.1 infoDat_q
  simp only [Prod.mk.injEq] at e
  exact ⟨i0, h, e.1, e.2.1, e.2.2⟩
theorem Bk.c6 {w : World} {N : Nat} {v0 v1 v2 v3 v4 v5 : Value} {T : TypeId} (h : Bk w N #[v0, v1, v2, v3, v4, v5] T) : w.cell? ⟨N, 0, none⟩ = some v0 ∧ w.cell? ⟨N, 1, none⟩ = some v1 ∧ w.cell? ⟨N, 2, none⟩ = some v2 ∧ w.cell? ⟨N, 3, none⟩ = some v3 ∧ w.cell? ⟨N, 4, none⟩ = some v4 ∧ w.cell? ⟨N, 5, none⟩ = some v5 := ⟨h.c 0, h.c 1, h.c 2, h.c 3, h.c 4, h.c 5⟩
/-- What lies in memory while the store handles. -/
structure Sf (w : World) (L N b sb m p : Nat) (wk : Array Value) (dv : Array Value) (wr : World) : Prop where
  s : Bk wr sb #[.pointer (some ⟨b, 3, none⟩), .int .i64 0, .map (some m), .map (some p)] 134
  k : Bk wr b wk 82
  d : Bk wr w.heap.size dv 25
  a : Bk wr (w.heap.size + 1) #[.bool false, .int .i64 0, .int .i64 0, .int .u64 0, .string ⟨#[]⟩, .slice none 0 0] 101
  p : Fm wr p []
  f : Fr L N w wr
theorem Fm.step {w w' : World} {r : Nat} {kl : List (Value × Nat)} (h : Fm w r kl) (hb : Below w.heap.size w w') : Fm w' r kl := by
  obtain ⟨es, ck, h1, h2⟩ := h
  exact ⟨es, ck, (hb.block r (Array.getElem?_eq_some_iff.1 h1).1).trans h1, h2⟩
theorem Sf.step {w : World} {L N b sb m p : Nat} {wk dv : Array Value} {w1 w2 : World} (h : Sf w L N b sb m p wk dv w1) (hL : L ≤ w.heap.size) (hb : Below w1.heap.size w1 w2) : Sf w L N b sb m p wk dv w2 :=
  ⟨h.s.step hb, h.k.step hb, h.d.step hb, h.a.step hb, h.p.step hb, h.f.trans (Fr.of hb (Nat.le_trans hL h.f.size))⟩
theorem Sf.drew {w : World} {L N b sb m p : Nat} {wk dv : Array Value} {w1 : World} (h : Sf w L N b sb m p wk dv w1) : Sf w L N b sb m p wk dv w1.drew := ⟨h.s, h.k, h.d, h.a, h.p, h.f.drew⟩

theorem Fm.other {w w' : World} {r : Nat} {kl : List (Value × Nat)} (h : Fm w r kl) (hb : w'.heap[r]? = w.heap[r]?) : Fm w' r kl := by
  obtain ⟨es, ck, h1, h2⟩ := h
  exact ⟨es, ck, hb.trans h1, h2⟩
theorem Fm.lt {w : World} {r : Nat} {kl : List (Value × Nat)} (h : Fm w r kl) : r < w.heap.size := by
  obtain ⟨es, ck, h1, -⟩ := h
  exact (Array.getElem?_eq_some_iff.1 h1).1
theorem Sf.grow {w : World} {L N b sb m p : Nat} {wk dv : Array Value} {w1 w2 : World} (h : Sf w L N b sb m p wk dv w1) (hL : L ≤ w.heap.size) (hg : w1.grownBy w2 none) : Sf w L N b sb m p wk dv w2 := by
  have hb : ∀ k, k < w1.heap.size → w2.heap[k]? = w1.heap[k]? := fun k hk => hg.block k hk (by simp)
  refine ⟨(hb _ h.s.lt).trans h.s, (hb _ h.k.lt).trans h.k, (hb _ h.d.lt).trans h.d, (hb _ h.a.lt).trans h.a, h.p.other (hb _ h.p.lt), ⟨h.f.b.trans ⟨hg.os, hg.tape, hg.output, hg.size, fun k hk => ?_⟩, fun g h1 h2 => (hb g (Nat.lt_of_lt_of_le h2 h.f.size)).trans (h.f.up g h1 h2)⟩⟩
  have := h.f.size
  exact hb k (by omega)
theorem Sf.put {w : World} {L N b sb m p : Nat} {op num cp cn ac k i u : Int} {s : ByteArray} {a : Option Addr} {n c : Nat} {l : Value} {cl : Value} {un now : Value} {hv : Value} {dv : Array Value} {w1 : World}
    (h : Sf w L N b sb m p #[.int .i64 op, .int .i64 num, .int .u32 cp, .int .i64 cn, .int .i64 ac, .int .i64 k, .int .i64 i, .int .u64 u, .string s, .slice a n c, l, cl, un, now, hv] dv w1) (v : Value) (hbs : b < sb) (hLb : L ≤ b) (hbN : b < N) (hbw : b < w.heap.size) (hbp : b ≠ p) :
    Sf w L N b sb m p #[.int .i64 op, .int .i64 num, .int .u32 cp, .int .i64 cn, .int .i64 ac, .int .i64 k, .int .i64 i, .int .u64 u, .string s, .slice a n c, v, cl, un, now, hv] dv (w1.setCell ⟨b, 10, none⟩ v) :=
  ⟨h.s.other _ _ (by show sb ≠ b; omega), h.k.set 10 v, h.d.other _ _ (by show w.heap.size ≠ b; omega), h.a.other _ _ (by show w.heap.size + 1 ≠ b; omega), h.p.other (Below.heap_setCell _ _ _ _ (by show p ≠ b; omega)), h.f.setCell b 10 hLb (.inl hbN) v⟩

theorem Sf.beyond {w : World} {L N b sb m p : Nat} {wk dv : Array Value} {w1 : World} (h : Sf w L N b sb m p wk dv w1) {g : Nat} (hg : (Value.slice none 0 0).ownBlock = some g ∨ g = w1.heap.size) : b < g ∧ sb < g ∧ p < g ∧ w.heap.size + 1 < g := by
  have hg' : g = w1.heap.size := hg.resolve_left (by simp [Value.ownBlock])
  have h1 := h.k.lt
  have h2 := h.s.lt
  have h3 := h.p.lt
  have h4 := h.a.lt
  omega
theorem row_after {w : World} {base g c : Nat} {xs : List Value} {b : Nat} (own : w.ownsRow base 25 5 (.slice (some ⟨g, 0, none⟩) (0 + 1) c) (0 + 1) xs) (hne : b ≠ g) (v : Value) : ∃ cur, (w.setCell ⟨b, 10, none⟩ v).heap[g]? = some (.cells cur 25 (0, 0)) ∧ 5 ≤ cur.size := by
  obtain ⟨-, h | ⟨g', cap, cur, hv, -, hh, hc, -, hs, -⟩⟩ := own
  · cases h.1
  · cases hv
    refine ⟨cur, (Below.heap_setCell _ _ _ _ (by show g ≠ b; omega)).trans hh, ?_⟩
    rw [hs]; omega
theorem Sf.other {w : World} {L N b sb m p : Nat} {wk dv : Array Value} {w1 : World} (h : Sf w L N b sb m p wk dv w1) {g : Nat} (hg : b < g ∧ sb < g ∧ p < g ∧ w.heap.size + 1 < g) (hL : L ≤ w.heap.size) (o : Nat) (v : Value) : Sf w L N b sb m p wk dv (w1.setCell ⟨g, o, none⟩ v) := by
  obtain ⟨h1, h2, h3, h4⟩ := hg
  exact ⟨h.s.other _ _ (by show sb ≠ g; omega), h.k.other _ _ (by show b ≠ g; omega), h.d.other _ _ (by show w.heap.size ≠ g; omega), h.a.other _ _ (by show w.heap.size + 1 ≠ g; omega), h.p.other (Below.heap_setCell _ _ _ _ (by show p ≠ g; omega)), h.f.setCell g o (by omega) (.inr (by omega)) v⟩

set_option maxRecDepth 100000 in
set_option maxHeartbeats 4000000 in
theorem store_first (b sb : Nat) (cp now x : Int) (z : Value) (w : World) (hS : Bk w sb #[.pointer (some ⟨b, 3, none⟩), .int .i64 0, .map none, .map none] 134) (hW : Bk w b (wcs 3 0 cp 0 0 0 0 0 ⟨#[]⟩ none 0 0 none 0 0 false 0 now z) 82) (L N : Nat) (hLb : L ≤ b) (hbs : b < sb) (hsN : sb < N) (hN : N ≤ w.heap.size) :
    Calls Tryz.prog 98 #[.pointer (some ⟨sb, 0, none⟩), .agg #[.int .i64 1, .int .i64 x, .int .u64 0, .string ⟨#[]⟩, .slice none 0 0]] w fun e w' => ∃ g c, e = .returned (.tuple #[.agg #[.bool true, .int .i64 1, .int .i64 0, .int .u64 0, .string ⟨#[]⟩, .slice none 0 0], .nilIface]) ∧ Bk w' b (wcs 3 0 cp 0 0 0 0 0 ⟨#[]⟩ none 0 0 (some ⟨g, 0, none⟩) 1 c false 0 now z) 82 ∧ Fr L N w w' := by
  have HK := Lib.hid know_none
  have HO := Lib.hid of_whole
  have HC := Lib.hid copy_leaf
  have HH := Lib.hid whole_any
  have HA := Lib.hid answered_any
  have hb := hW.lt
  have B0 := below2 w (.cells #[.int .i64 1, .int .i64 x, .int .u64 0, .string ⟨#[]⟩, .slice none 0 0] 25) (.cells #[.bool false, .int .i64 0, .int .i64 0, .int .u64 0, .string ⟨#[]⟩, .slice none 0 0] 101)
  go_enter Tryz.func98, Tryz.ntmps98
  go_wp2_with fail
  have S0 := hS.step B0
  have W0 := hW.step B0
  have D0 : Bk ((w.alloc (.cells #[.int .i64 1, .int .i64 x, .int .u64 0, .string ⟨#[]⟩, .slice none 0 0] 25)).alloc (.cells #[.bool false, .int .i64 0, .int .i64 0, .int .u64 0, .string ⟨#[]⟩, .slice none 0 0] 101)) w.heap.size #[.int .i64 1, .int .i64 x, .int .u64 0, .string ⟨#[]⟩, .slice none 0 0] 25 := (Bk.new w _ _).alloc _
  have A0 := Bk.new2 w (.cells #[.int .i64 1, .int .i64 x, .int .u64 0, .string ⟨#[]⟩, .slice none 0 0] 25) #[.bool false, .int .i64 0, .int .i64 0, .int .u64 0, .string ⟨#[]⟩, .slice none 0 0] 101
  have F0 : Fr L N w _ := Fr.of B0 (by omega)
  have hz0 := B0.size
  generalize ((w.alloc (.cells #[.int .i64 1, .int .i64 x, .int .u64 0, .string ⟨#[]⟩, .slice none 0 0] 25)).alloc (.cells #[.bool false, .int .i64 0, .int .i64 0, .int .u64 0, .string ⟨#[]⟩, .slice none 0 0] 101)) = w0 at *
  refine (HK.out sb b 0 w0 S0 (W0.c 10) W0.lt (by omega)).mono ?_
  rintro e w1 ⟨m, p, rfl, s1, -, p1, -, hp1, -, hz1, g1, b1⟩
  have hbp : b ≠ p := by omega
  have hwp : w.heap.size + 2 ≤ p := by have := A0.lt; omega
  have I1 : Sf w L N b sb m p (wcs 3 0 cp 0 0 0 0 0 ⟨#[]⟩ none 0 0 none 0 0 false 0 now z) #[.int .i64 1, .int .i64 x, .int .u64 0, .string ⟨#[]⟩, .slice none 0 0] w1 := ⟨s1, (g1 b W0.lt (by omega)).trans W0, (g1 _ D0.lt (by omega)).trans D0, (g1 _ A0.lt (by omega)).trans A0, ⟨#[], 0, p1, rfl⟩, F0.trans ⟨b1.mono (by omega), fun g h1 h2 => g1 g h2 (by omega)⟩⟩
  have hL0 : L ≤ w.heap.size := by omega
  clear hS hW S0 W0 D0 A0 F0 B0 hz0 s1 p1 hz1 g1 b1 HK
  have HS : Hid (∀ wx, Sf w L N b sb m p (wcs 3 0 cp 0 0 0 0 0 ⟨#[]⟩ none 0 0 none 0 0 false 0 now z) #[.int .i64 1, .int .i64 x, .int .u64 0, .string ⟨#[]⟩, .slice none 0 0] wx → wx.cell? ⟨sb, 2, none⟩ = some (.map (some m)) ∧ wx.cell? ⟨w.heap.size, 0, none⟩ = some (.int .i64 1) ∧ wx.cell? ⟨w.heap.size, 1, none⟩ = some (.int .i64 x) ∧ wx.cell? ⟨w.heap.size, 2, none⟩ = some (.int .u64 0) ∧ wx.cell? ⟨w.heap.size, 3, none⟩ = some (.string ⟨#[]⟩) ∧ wx.cell? ⟨w.heap.size, 4, none⟩ = some (.slice none 0 0)) := fun wx h => ⟨h.s.c 2, h.d.c5⟩
  go_wp2_with fail
  go_region_held3 (fun wx => wx.cell? ⟨sb, 2, none⟩ = some (.map (some m)) ∧ wx.cell? ⟨w.heap.size, 0, none⟩ = some (.int .i64 1) ∧ wx.cell? ⟨w.heap.size, 1, none⟩ = some (.int .i64 x) ∧ wx.cell? ⟨w.heap.size, 2, none⟩ = some (.int .u64 0) ∧ wx.cell? ⟨w.heap.size, 3, none⟩ = some (.string ⟨#[]⟩) ∧ wx.cell? ⟨w.heap.size, 4, none⟩ = some (.slice none 0 0)) (with_reducible exact HS.out _ (by first | assumption | exact Sf.drew (by assumption))) (first | (go_at_call 48; refine (HO.out _ _ _).mono ?_; rintro e w2 ⟨rfl, b2⟩; have I2 := I1.drew.step hL0 b2))
  have s3 : w2.cell? ⟨sb, 3, none⟩ = some (.map (some p)) := I2.s.c 3
  have hck : ∀ e, (Instr.checkKey e 10000 20 (.iface 94 (.int .i64 x))).run Tryz.prog w2 = .ok () w2 := fun e => ck1 e 9998 x w2
  have hlk := look_fm w2 p [] I2.p (.iface 94 (.int .i64 x)) (fun _ => false) hck (fun _ h => by cases h)
  have hlk' : (Instr.lookup 87 (.map (some p)) (.iface 94 (.int .i64 x)) true).run Tryz.prog w2 = .ok (.tuple #[.int .i64 0, .bool false]) w2 := hlk
  have c10 : w2.cell? ⟨b, 10, none⟩ = some (.slice none 0 0) := I2.k.c 10
  obtain ⟨s0, s1, s2, -⟩ := I2.s.c4
  clear hlk I1 HO b2
  have KC : Hid (∀ wx, Sf w L N b sb m p (wcs 3 0 cp 0 0 0 0 0 ⟨#[]⟩ none 0 0 none 0 0 false 0 now z) #[.int .i64 1, .int .i64 x, .int .u64 0, .string ⟨#[]⟩, .slice none 0 0] wx → Calls Tryz.prog 50 #[.agg #[.int .i64 1, .int .i64 x, .int .u64 0, .string ⟨#[]⟩, .slice none 0 0]] wx fun e w' => e = .returned (.agg #[.int .i64 1, .int .i64 x, .int .u64 0, .string ⟨#[]⟩, .slice none 0 0]) ∧ Sf w L N b sb m p (wcs 3 0 cp 0 0 0 0 0 ⟨#[]⟩ none 0 0 none 0 0 false 0 now z) #[.int .i64 1, .int .i64 x, .int .u64 0, .string ⟨#[]⟩, .slice none 0 0] w') := fun wx hx => (HC.out 1 x 0 ⟨#[]⟩ none 0 wx).mono fun e w' ⟨h1, h2⟩ => ⟨h1, hx.step hL0 h2⟩
  have HS2 : Hid (∀ wx, Sf w L N b sb m p (wcs 3 0 cp 0 0 0 0 0 ⟨#[]⟩ none 0 0 none 0 0 false 0 now z) #[.int .i64 1, .int .i64 x, .int .u64 0, .string ⟨#[]⟩, .slice none 0 0] wx → wx.cell? ⟨sb, 0, none⟩ = some (.pointer (some ⟨b, 3, none⟩)) ∧ wx.cell? ⟨w.heap.size, 0, none⟩ = some (.int .i64 1) ∧ wx.cell? ⟨w.heap.size, 1, none⟩ = some (.int .i64 x) ∧ wx.cell? ⟨w.heap.size, 2, none⟩ = some (.int .u64 0) ∧ wx.cell? ⟨w.heap.size, 3, none⟩ = some (.string ⟨#[]⟩) ∧ wx.cell? ⟨w.heap.size, 4, none⟩ = some (.slice none 0 0)) := fun wx h => ⟨h.s.c 0, h.d.c5⟩
  have HS3 : Hid (∀ v wx, Sf w L N b sb m p #[.int .i64 3, .int .i64 0, .int .u32 cp, .int .i64 0, .int .i64 0, .int .i64 0, .int .i64 0, .int .u64 0, .string ⟨#[]⟩, .slice none 0 0, v, .bool false, .int .i64 0, .int .i64 now, z] #[.int .i64 1, .int .i64 x, .int .u64 0, .string ⟨#[]⟩, .slice none 0 0] wx → wx.cell? ⟨sb, 0, none⟩ = some (.pointer (some ⟨b, 3, none⟩)) ∧ wx.cell? ⟨w.heap.size, 0, none⟩ = some (.int .i64 1) ∧ wx.cell? ⟨w.heap.size, 1, none⟩ = some (.int .i64 x) ∧ wx.cell? ⟨w.heap.size, 2, none⟩ = some (.int .u64 0) ∧ wx.cell? ⟨w.heap.size, 3, none⟩ = some (.string ⟨#[]⟩) ∧ wx.cell? ⟨w.heap.size, 4, none⟩ = some (.slice none 0 0)) := fun v wx h => ⟨h.s.c 0, h.d.c5⟩
  have KC2 : Hid (∀ (_ : Unit) wx, Sf w L N b sb m p (wcs 3 0 cp 0 0 0 0 0 ⟨#[]⟩ none 0 0 none 0 0 false 0 now z) #[.int .i64 1, .int .i64 x, .int .u64 0, .string ⟨#[]⟩, .slice none 0 0] wx → Calls Tryz.prog 50 #[.agg #[.int .i64 1, .int .i64 x, .int .u64 0, .string ⟨#[]⟩, .slice none 0 0]] wx fun e w' => e = .returned (.agg #[.int .i64 1, .int .i64 x, .int .u64 0, .string ⟨#[]⟩, .slice none 0 0]) ∧ Sf w L N b sb m p (wcs 3 0 cp 0 0 0 0 0 ⟨#[]⟩ none 0 0 none 0 0 false 0 now z) #[.int .i64 1, .int .i64 x, .int .u64 0, .string ⟨#[]⟩, .slice none 0 0] w' ∧ Below wx.heap.size wx w') := fun _ wx hx => (HC.out 1 x 0 ⟨#[]⟩ none 0 wx).mono fun e w' ⟨h1, h2⟩ => ⟨h1, hx.step hL0 h2, h2⟩
  obtain ⟨i0, hi, hz0, hz1, hz2⟩ := infoDat_p
  have hbN : b < N := by omega
  have hbw : b < w.heap.size := by omega
  go_wp2_with fail
  go_region
  · go_wp2_with fail
    have I3 : Sf w L N b sb m p (wcs 3 0 cp 0 0 0 0 0 ⟨#[]⟩ none 0 0 none 0 0 false 0 now z) #[.int .i64 1, .int .i64 x, .int .u64 0, .string ⟨#[]⟩, .slice none 0 0] (w2.alloc (.cells #[.bool false] 4)).drew := (I2.step hL0 (below1 _ _)).drew
    clear I2 s3 hlk' c10 s0 s1 s2 hck
    generalize (w2.alloc (.cells #[.bool false] 4)).drew = w3 at *
    have q1 : w3.cell? ⟨b, 10, none⟩ = some (.slice none 0 0) := I3.k.c 10
    go_cut [86] from 72 to 88 (fun s86 wx => ∃ g c, Sf w L N b sb m p (wcs 3 0 cp 0 0 0 0 0 ⟨#[]⟩ none 0 0 (some ⟨g, 0, none⟩) 1 c false 0 now z) #[.int .i64 1, .int .i64 x, .int .u64 0, .string ⟨#[]⟩, .slice none 0 0] wx)
    case first =>
      refine wp_region_held_drew (S := fun wx => wx.cell? ⟨sb, 0, none⟩ = some (.pointer (some ⟨b, 3, none⟩)) ∧ wx.cell? ⟨w.heap.size, 0, none⟩ = some (.int .i64 1) ∧ wx.cell? ⟨w.heap.size, 1, none⟩ = some (.int .i64 x) ∧ wx.cell? ⟨w.heap.size, 2, none⟩ = some (.int .u64 0) ∧ wx.cell? ⟨w.heap.size, 3, none⟩ = some (.string ⟨#[]⟩) ∧ wx.cell? ⟨w.heap.size, 4, none⟩ = some (.slice none 0 0)) (by kernel_rfl) (HS2.out _ I3.drew) (fun hHeld => ?_)
      refine wpAnyH_take (i := 0) (oi := { dst := some 72, op := Op.move (Operand.tmp 0), type := 132, pos := "store.go:28", after := #[], guard := none }) (v := ?tZ1x0) rfl (by kernel_rfl) (by kernel_rfl) (by kernel_rfl) (fun _ _ _ h => h) (Or.inl ⟨by rfl, ?uZ1x0⟩) (by assumption) ?rZ1x0
      case uZ1x0 => (intro w hSw; (try dsimp only at hSw); go_simp; (try with_reducible rfl))
      simp only [Act.put, List.setIfInBounds_toArray, List.set_cons_zero, List.set_cons_succ]
      refine wpAnyH_take (i := 1) (oi := { dst := some 73, op := Op.nilCheck (Operand.tmp 72), type := 0, pos := "store.go:28", after := #[{ on := 0, ground := Ground.data }], guard := none }) (v := ?tZ2x1) rfl (by kernel_rfl) (by kernel_rfl) (by kernel_rfl) (fun _ _ _ h => h) (Or.inl ⟨by rfl, ?uZ2x1⟩) (by assumption) ?rZ2x1
      case uZ2x1 => (intro w hSw; (try dsimp only at hSw); go_simp; (try with_reducible rfl))
      simp only [Act.put, List.setIfInBounds_toArray, List.set_cons_zero, List.set_cons_succ]
      refine wpAnyH_take (i := 2) (oi := { dst := some 74, op := Op.fieldAddr 134 (Operand.tmp 73) 0, type := 0, pos := "store.go:28", after := #[{ on := 1, ground := Ground.data }], guard := none }) (v := ?tZ3x2) rfl (by kernel_rfl) (by kernel_rfl) (by kernel_rfl) (fun _ _ _ h => h) (Or.inl ⟨by rfl, ?uZ3x2⟩) (by assumption) ?rZ3x2
      case uZ3x2 => (intro w hSw; (try dsimp only at hSw); go_simp; (try with_reducible rfl))
      simp only [Act.put, List.setIfInBounds_toArray, List.set_cons_zero, List.set_cons_succ]
      refine wpAnyH_take (i := 3) (oi := { dst := some 75, op := Op.load 97 (Operand.tmp 74), type := 97, pos := "store.go:28", after := #[{ on := 2, ground := Ground.data }], guard := none }) (v := ?tZ4x3) rfl (by kernel_rfl) (by kernel_rfl) (by kernel_rfl) (fun _ _ _ h => h) (Or.inl ⟨by rfl, ?uZ4x3⟩) (by assumption) ?rZ4x3
      case uZ4x3 => (intro w hSw; (try dsimp only at hSw); go_simp; (try with_reducible rfl))
      simp only [Act.put, List.setIfInBounds_toArray, List.set_cons_zero, List.set_cons_succ]
      refine wpAnyH_take (i := 4) (oi := { dst := some 76, op := Op.move (Operand.tmp 0), type := 132, pos := "store.go:28", after := #[], guard := none }) (v := ?tZ5x4) rfl (by kernel_rfl) (by kernel_rfl) (by kernel_rfl) (fun _ _ _ h => h) (Or.inl ⟨by rfl, ?uZ5x4⟩) (by assumption) ?rZ5x4
      case uZ5x4 => (intro w hSw; (try dsimp only at hSw); go_simp; (try with_reducible rfl))
      simp only [Act.put, List.setIfInBounds_toArray, List.set_cons_zero, List.set_cons_succ]
      refine wpAnyH_take (i := 5) (oi := { dst := some 77, op := Op.nilCheck (Operand.tmp 76), type := 0, pos := "store.go:28", after := #[{ on := 4, ground := Ground.data }], guard := none }) (v := ?tZ6x5) rfl (by kernel_rfl) (by kernel_rfl) (by kernel_rfl) (fun _ _ _ h => h) (Or.inl ⟨by rfl, ?uZ6x5⟩) (by assumption) ?rZ6x5
      case uZ6x5 => (intro w hSw; (try dsimp only at hSw); go_simp; (try with_reducible rfl))
      simp only [Act.put, List.setIfInBounds_toArray, List.set_cons_zero, List.set_cons_succ]
      refine wpAnyH_take (i := 6) (oi := { dst := some 78, op := Op.fieldAddr 134 (Operand.tmp 77) 0, type := 0, pos := "store.go:28", after := #[{ on := 5, ground := Ground.data }], guard := none }) (v := ?tZ7x6) rfl (by kernel_rfl) (by kernel_rfl) (by kernel_rfl) (fun _ _ _ h => h) (Or.inl ⟨by rfl, ?uZ7x6⟩) (by assumption) ?rZ7x6
      case uZ7x6 => (intro w hSw; (try dsimp only at hSw); go_simp; (try with_reducible rfl))
      simp only [Act.put, List.setIfInBounds_toArray, List.set_cons_zero, List.set_cons_succ]
      refine wpAnyH_take (i := 7) (oi := { dst := some 79, op := Op.load 97 (Operand.tmp 78), type := 97, pos := "store.go:28", after := #[{ on := 6, ground := Ground.data }], guard := none }) (v := ?tZ8x7) rfl (by kernel_rfl) (by kernel_rfl) (by kernel_rfl) (fun _ _ _ h => h) (Or.inl ⟨by rfl, ?uZ8x7⟩) (by assumption) ?rZ8x7
      case uZ8x7 => (intro w hSw; (try dsimp only at hSw); go_simp; (try with_reducible rfl))
      simp only [Act.put, List.setIfInBounds_toArray, List.set_cons_zero, List.set_cons_succ]
      refine wpAnyH_take (i := 8) (oi := { dst := some 80, op := Op.nilCheck (Operand.tmp 79), type := 0, pos := "store.go:28", after := #[{ on := 7, ground := Ground.data }], guard := none }) (v := ?tZ9x8) rfl (by kernel_rfl) (by kernel_rfl) (by kernel_rfl) (fun _ _ _ h => h) (Or.inl ⟨by rfl, ?uZ9x8⟩) (by assumption) ?rZ9x8
      case uZ9x8 => (intro w hSw; (try dsimp only at hSw); go_simp; (try with_reducible rfl))
      simp only [Act.put, List.setIfInBounds_toArray, List.set_cons_zero, List.set_cons_succ]
      refine wpAnyH_take (i := 9) (oi := { dst := some 81, op := Op.fieldAddr 27 (Operand.tmp 80) 3, type := 0, pos := "store.go:28", after := #[{ on := 8, ground := Ground.data }], guard := none }) (v := ?tZ10x9) rfl (by kernel_rfl) (by kernel_rfl) (by kernel_rfl) (fun _ _ _ h => h) (Or.inl ⟨by rfl, ?uZ10x9⟩) (by assumption) ?rZ10x9
      case uZ10x9 => (intro w hSw; (try dsimp only at hSw); go_simp; (try with_reducible rfl))
      simp only [Act.put, List.setIfInBounds_toArray, List.set_cons_zero, List.set_cons_succ]
      refine wpAnyH_take (i := 11) (oi := { dst := some 83, op := Op.load 25 (Operand.tmp 3), type := 25, pos := "store.go:28", after := #[], guard := none }) (v := ?tZ11x11) rfl (by kernel_rfl) (by kernel_rfl) (by kernel_rfl) (fun _ _ _ h => h) (Or.inl ⟨by rfl, ?uZ11x11⟩) (by assumption) ?rZ11x11
      case uZ11x11 => (intro w hSw; (try dsimp only at hSw); go_simp; (try with_reducible rfl))
      simp only [Act.put, List.setIfInBounds_toArray, List.set_cons_zero, List.set_cons_succ]
      refine wpAnyH_ready (rs := [10, 12]) (by kernel_rfl) (by simp) ?_
      refine AllReadyH.cons (o := { dst := some 82, op := Op.load 23 (Operand.tmp 81), type := 23, pos := "store.go:28", after := #[{ on := 9, ground := Ground.data }], guard := none }) rfl (fun K hK => ?_) (AllReadyH.cons (o := { dst := some 84, op := Op.call { callee := Callee.value (Operand.func 50), args := #[Operand.tmp 83], argTypes := #[25] }, type := 25, pos := "store.go:28", after := #[{ on := 11, ground := Ground.data }], guard := none }) rfl (fun K hK => ?_) AllReadyH.nil)
      · skip
        go_simp
        refine hK.out _ _ (HS2.out _ (I3.drew)) (fun hHeld2 => ?_)
        clear hK K
        try simp only [Act.put, List.setIfInBounds_toArray, List.set_cons_zero, List.set_cons_succ]
        refine wpAnyH_ready (rs := [12]) (by kernel_rfl) (by simp) ?_
        refine AllReadyH.cons (o := { dst := some 84, op := Op.call { callee := Callee.value (Operand.func 50), args := #[Operand.tmp 83], argTypes := #[25] }, type := 25, pos := "store.go:28", after := #[{ on := 11, ground := Ground.data }], guard := none }) rfl (fun K hK => ?_) (AllReadyH.nil)
        go_simp
        refine (KC.out _ I3.drew).mono ?_
        rintro e w4 ⟨rfl, I5⟩
        go_wp2_with fail
        have q2 : w4.cell? ⟨b, 10, none⟩ = some (.slice none 0 0) := I5.k.c 10
        have l4 := I5.k.lt
        refine hK.out _ _ (HS2.out _ I5) (fun hHeld3 => ?_)
        clear hK K
        try simp only [Act.put, List.setIfInBounds_toArray, List.set_cons_zero, List.set_cons_succ]
        refine wpAnyH_ready (rs := [13]) (by kernel_rfl) (by simp) ?_
        refine AllReadyH.cons (o := { dst := some 85, op := Op.buildSlice 23 1 #[(0, Operand.tmp 84)], type := 23, pos := "store.go:28", after := #[{ on := 12, ground := Ground.data }], guard := none }) rfl (fun K hK => ?_) (AllReadyH.nil)
        go_simp
        refine hK.out _ _ (HS2.out _ (I5.step hL0 (below1 w4 _))) (fun hHeld4 => ?_)
        clear hK K
        try simp only [Act.put, List.setIfInBounds_toArray, List.set_cons_zero, List.set_cons_succ]
        refine wpAnyH_ready (rs := [14]) (by kernel_rfl) (by simp) ?_
        refine AllReadyH.cons (o := { dst := some 86, op := Op.call { callee := Callee.builtin Builtin.append, args := #[Operand.tmp 82, Operand.tmp 85], argTypes := #[23, 23] }, type := 23, pos := "store.go:28", after := #[{ on := 10, ground := Ground.data }, { on := 13, ground := Ground.data }, { on := 12, ground := Ground.chain }], guard := none }) rfl (fun K hK => ?_) (AllReadyH.nil)
        refine step_append_lies _ rfl _ _ 23 rfl 0 25 i0 (.agg #[.int .i64 0, .int .i64 0, .int .u64 0, .string ⟨#[]⟩, .slice none 0 0]) 5 64 Tryz.underlying23 hi hz0 hz1 hz2 rfl (by decide) (.slice none 0 0) 0 [] (by simp [Act.eval]) ⟨rfl, .inl ⟨rfl, rfl⟩⟩ ⟨w4.heap.size, 0, none⟩ 1 1 [.int .i64 1, .int .i64 x, .int .u64 0, .string ⟨#[]⟩, .slice none 0 0] (by simp [Act.eval]) rfl (World.news_of_block (heap_alloc_new w4 (.cells #[.int .i64 1, .int .i64 x, .int .u64 0, .string ⟨#[]⟩, .slice none 0 0] 25))) (by intro u hu; simp at hu; rcases hu with rfl | rfl | rfl | rfl | rfl <;> rfl) (by decide) (by unfold maxLen; omega) (by omega) (Nat.zero_le _) _ rfl ?_
        intro g5 c5 w5 own5 gr5 at5 lt5
        have I6 := (I5.step hL0 (below1 w4 (.cells #[.int .i64 1, .int .i64 x, .int .u64 0, .string ⟨#[]⟩, .slice none 0 0] 25))).grow hL0 gr5
        refine hK.out _ _ (HS2.out _ I6) (fun hHeld5 => ?_)
        clear hK K
        try simp only [Act.put, List.setIfInBounds_toArray, List.set_cons_zero, List.set_cons_succ]
        refine wpAnyH_take (i := 15) (oi := { dst := some 87, op := Op.nilCheck (Operand.tmp 75), type := 0, pos := "store.go:28", after := #[{ on := 3, ground := Ground.data }, { on := 0, ground := Ground.phase }, { on := 1, ground := Ground.phase }, { on := 2, ground := Ground.phase }, { on := 3, ground := Ground.phase }, { on := 4, ground := Ground.phase }, { on := 5, ground := Ground.phase }, { on := 6, ground := Ground.phase }, { on := 7, ground := Ground.phase }, { on := 8, ground := Ground.phase }, { on := 9, ground := Ground.phase }, { on := 10, ground := Ground.phase }, { on := 11, ground := Ground.phase }, { on := 12, ground := Ground.phase }, { on := 13, ground := Ground.phase }, { on := 14, ground := Ground.phase }], guard := none }) (v := ?tZ12x15) rfl (by kernel_rfl) (by kernel_rfl) (by kernel_rfl) (fun _ _ _ h => h) (Or.inl ⟨by rfl, ?uZ12x15⟩) (by assumption) ?rZ12x15
        case uZ12x15 => (intro w hSw; (try dsimp only at hSw); go_simp; (try with_reducible rfl))
        simp only [Act.put, List.setIfInBounds_toArray, List.set_cons_zero, List.set_cons_succ]
        refine wpAnyH_take (i := 16) (oi := { dst := some 88, op := Op.fieldAddr 27 (Operand.tmp 87) 3, type := 0, pos := "store.go:28", after := #[{ on := 15, ground := Ground.data }, { on := 0, ground := Ground.phase }, { on := 1, ground := Ground.phase }, { on := 2, ground := Ground.phase }, { on := 3, ground := Ground.phase }, { on := 4, ground := Ground.phase }, { on := 5, ground := Ground.phase }, { on := 6, ground := Ground.phase }, { on := 7, ground := Ground.phase }, { on := 8, ground := Ground.phase }, { on := 9, ground := Ground.phase }, { on := 10, ground := Ground.phase }, { on := 11, ground := Ground.phase }, { on := 12, ground := Ground.phase }, { on := 13, ground := Ground.phase }, { on := 14, ground := Ground.phase }], guard := none }) (v := ?tZ13x16) rfl (by kernel_rfl) (by kernel_rfl) (by kernel_rfl) (fun _ _ _ h => h) (Or.inl ⟨by rfl, ?uZ13x16⟩) (by assumption) ?rZ13x16
        case uZ13x16 => (intro w hSw; (try dsimp only at hSw); go_simp; (try with_reducible rfl))
        simp only [Act.put, List.setIfInBounds_toArray, List.set_cons_zero, List.set_cons_succ]
        have cb : w5.cell? ⟨b, 10, none⟩ = some (.slice none 0 0) := I6.k.c 10
        have fb : w5.frozen? ⟨b, 10, none⟩ = false := I6.k.f 10
        refine wpAnyH_ready (rs := [17]) (by kernel_rfl) (by simp) ?_
        refine AllReadyH.cons (o := { dst := none, op := Op.store 23 (Operand.tmp 88) (Operand.tmp 86), type := 0, pos := "store.go:28", after := #[{ on := 16, ground := Ground.data }, { on := 14, ground := Ground.data }, { on := 14, ground := Ground.chain }, { on := 0, ground := Ground.phase }, { on := 1, ground := Ground.phase }, { on := 2, ground := Ground.phase }, { on := 3, ground := Ground.phase }, { on := 4, ground := Ground.phase }, { on := 5, ground := Ground.phase }, { on := 6, ground := Ground.phase }, { on := 7, ground := Ground.phase }, { on := 8, ground := Ground.phase }, { on := 9, ground := Ground.phase }, { on := 10, ground := Ground.phase }, { on := 11, ground := Ground.phase }, { on := 12, ground := Ground.phase }, { on := 13, ground := Ground.phase }, { on := 14, ground := Ground.phase }], guard := none }) rfl (fun K hK => ?_) (AllReadyH.nil)
        go_simp
        have I7 := I6.put (.slice (some ⟨g5, 0, none⟩) 1 c5) hbs hLb hbN hbw hbp
        refine hK.out _ _ (HS3.out _ _ I7) (fun hHeld6 => ?_)
        clear hK K
        try simp only [Act.put, List.setIfInBounds_toArray, List.set_cons_zero, List.set_cons_succ]
        refine wpAnyH_done (by kernel_rfl) ?_ _
        go_wp2_with fail
        go_meet
        exact ⟨g5, c5, I7⟩
      · skip
        go_simp
        refine (KC.out _ I3.drew).mono ?_
        rintro e w4 ⟨rfl, I5⟩
        go_wp2_with fail
        have q2 : w4.cell? ⟨b, 10, none⟩ = some (.slice none 0 0) := I5.k.c 10
        have l4 := I5.k.lt
        refine hK.out _ _ (HS2.out _ I5) (fun hHeld7 => ?_)
        clear hK K
        try simp only [Act.put, List.setIfInBounds_toArray, List.set_cons_zero, List.set_cons_succ]
        refine wpAnyH_ready (rs := [10, 13]) (by kernel_rfl) (by simp) ?_
        refine AllReadyH.cons (o := { dst := some 82, op := Op.load 23 (Operand.tmp 81), type := 23, pos := "store.go:28", after := #[{ on := 9, ground := Ground.data }], guard := none }) rfl (fun K hK => ?_) (AllReadyH.cons (o := { dst := some 85, op := Op.buildSlice 23 1 #[(0, Operand.tmp 84)], type := 23, pos := "store.go:28", after := #[{ on := 12, ground := Ground.data }], guard := none }) rfl (fun K hK => ?_) AllReadyH.nil)
        · skip
          go_simp
          refine hK.out _ _ (HS2.out _ (I5)) (fun hHeld8 => ?_)
          clear hK K
          try simp only [Act.put, List.setIfInBounds_toArray, List.set_cons_zero, List.set_cons_succ]
          refine wpAnyH_ready (rs := [13]) (by kernel_rfl) (by simp) ?_
          refine AllReadyH.cons (o := { dst := some 85, op := Op.buildSlice 23 1 #[(0, Operand.tmp 84)], type := 23, pos := "store.go:28", after := #[{ on := 12, ground := Ground.data }], guard := none }) rfl (fun K hK => ?_) (AllReadyH.nil)
          go_simp
          refine hK.out _ _ (HS2.out _ (I5.step hL0 (below1 w4 _))) (fun hHeld9 => ?_)
          clear hK K
          try simp only [Act.put, List.setIfInBounds_toArray, List.set_cons_zero, List.set_cons_succ]
          refine wpAnyH_ready (rs := [14]) (by kernel_rfl) (by simp) ?_
          refine AllReadyH.cons (o := { dst := some 86, op := Op.call { callee := Callee.builtin Builtin.append, args := #[Operand.tmp 82, Operand.tmp 85], argTypes := #[23, 23] }, type := 23, pos := "store.go:28", after := #[{ on := 10, ground := Ground.data }, { on := 13, ground := Ground.data }, { on := 12, ground := Ground.chain }], guard := none }) rfl (fun K hK => ?_) (AllReadyH.nil)
          refine step_append_lies _ rfl _ _ 23 rfl 0 25 i0 (.agg #[.int .i64 0, .int .i64 0, .int .u64 0, .string ⟨#[]⟩, .slice none 0 0]) 5 64 Tryz.underlying23 hi hz0 hz1 hz2 rfl (by decide) (.slice none 0 0) 0 [] (by simp [Act.eval]) ⟨rfl, .inl ⟨rfl, rfl⟩⟩ ⟨w4.heap.size, 0, none⟩ 1 1 [.int .i64 1, .int .i64 x, .int .u64 0, .string ⟨#[]⟩, .slice none 0 0] (by simp [Act.eval]) rfl (World.news_of_block (heap_alloc_new w4 (.cells #[.int .i64 1, .int .i64 x, .int .u64 0, .string ⟨#[]⟩, .slice none 0 0] 25))) (by intro u hu; simp at hu; rcases hu with rfl | rfl | rfl | rfl | rfl <;> rfl) (by decide) (by unfold maxLen; omega) (by omega) (Nat.zero_le _) _ rfl ?_
          intro g5 c5 w5 own5 gr5 at5 lt5
          have I6 := (I5.step hL0 (below1 w4 (.cells #[.int .i64 1, .int .i64 x, .int .u64 0, .string ⟨#[]⟩, .slice none 0 0] 25))).grow hL0 gr5
          refine hK.out _ _ (HS2.out _ I6) (fun hHeld10 => ?_)
          clear hK K
          try simp only [Act.put, List.setIfInBounds_toArray, List.set_cons_zero, List.set_cons_succ]
          refine wpAnyH_take (i := 15) (oi := { dst := some 87, op := Op.nilCheck (Operand.tmp 75), type := 0, pos := "store.go:28", after := #[{ on := 3, ground := Ground.data }, { on := 0, ground := Ground.phase }, { on := 1, ground := Ground.phase }, { on := 2, ground := Ground.phase }, { on := 3, ground := Ground.phase }, { on := 4, ground := Ground.phase }, { on := 5, ground := Ground.phase }, { on := 6, ground := Ground.phase }, { on := 7, ground := Ground.phase }, { on := 8, ground := Ground.phase }, { on := 9, ground := Ground.phase }, { on := 10, ground := Ground.phase }, { on := 11, ground := Ground.phase }, { on := 12, ground := Ground.phase }, { on := 13, ground := Ground.phase }, { on := 14, ground := Ground.phase }], guard := none }) (v := ?tZ14x15) rfl (by kernel_rfl) (by kernel_rfl) (by kernel_rfl) (fun _ _ _ h => h) (Or.inl ⟨by rfl, ?uZ14x15⟩) (by assumption) ?rZ14x15
          case uZ14x15 => (intro w hSw; (try dsimp only at hSw); go_simp; (try with_reducible rfl))
          simp only [Act.put, List.setIfInBounds_toArray, List.set_cons_zero, List.set_cons_succ]
          refine wpAnyH_take (i := 16) (oi := { dst := some 88, op := Op.fieldAddr 27 (Operand.tmp 87) 3, type := 0, pos := "store.go:28", after := #[{ on := 15, ground := Ground.data }, { on := 0, ground := Ground.phase }, { on := 1, ground := Ground.phase }, { on := 2, ground := Ground.phase }, { on := 3, ground := Ground.phase }, { on := 4, ground := Ground.phase }, { on := 5, ground := Ground.phase }, { on := 6, ground := Ground.phase }, { on := 7, ground := Ground.phase }, { on := 8, ground := Ground.phase }, { on := 9, ground := Ground.phase }, { on := 10, ground := Ground.phase }, { on := 11, ground := Ground.phase }, { on := 12, ground := Ground.phase }, { on := 13, ground := Ground.phase }, { on := 14, ground := Ground.phase }], guard := none }) (v := ?tZ15x16) rfl (by kernel_rfl) (by kernel_rfl) (by kernel_rfl) (fun _ _ _ h => h) (Or.inl ⟨by rfl, ?uZ15x16⟩) (by assumption) ?rZ15x16
          case uZ15x16 => (intro w hSw; (try dsimp only at hSw); go_simp; (try with_reducible rfl))
          simp only [Act.put, List.setIfInBounds_toArray, List.set_cons_zero, List.set_cons_succ]
          have cb : w5.cell? ⟨b, 10, none⟩ = some (.slice none 0 0) := I6.k.c 10
          have fb : w5.frozen? ⟨b, 10, none⟩ = false := I6.k.f 10
          refine wpAnyH_ready (rs := [17]) (by kernel_rfl) (by simp) ?_
          refine AllReadyH.cons (o := { dst := none, op := Op.store 23 (Operand.tmp 88) (Operand.tmp 86), type := 0, pos := "store.go:28", after := #[{ on := 16, ground := Ground.data }, { on := 14, ground := Ground.data }, { on := 14, ground := Ground.chain }, { on := 0, ground := Ground.phase }, { on := 1, ground := Ground.phase }, { on := 2, ground := Ground.phase }, { on := 3, ground := Ground.phase }, { on := 4, ground := Ground.phase }, { on := 5, ground := Ground.phase }, { on := 6, ground := Ground.phase }, { on := 7, ground := Ground.phase }, { on := 8, ground := Ground.phase }, { on := 9, ground := Ground.phase }, { on := 10, ground := Ground.phase }, { on := 11, ground := Ground.phase }, { on := 12, ground := Ground.phase }, { on := 13, ground := Ground.phase }, { on := 14, ground := Ground.phase }], guard := none }) rfl (fun K hK => ?_) (AllReadyH.nil)
          go_simp
          have I7 := I6.put (.slice (some ⟨g5, 0, none⟩) 1 c5) hbs hLb hbN hbw hbp
          refine hK.out _ _ (HS3.out _ _ I7) (fun hHeld11 => ?_)
          clear hK K
          try simp only [Act.put, List.setIfInBounds_toArray, List.set_cons_zero, List.set_cons_succ]
          refine wpAnyH_done (by kernel_rfl) ?_ _
          go_wp2_with fail
          go_meet
          exact ⟨g5, c5, I7⟩
        · skip
          go_simp
          refine hK.out _ _ (HS2.out _ (I5.step hL0 (below1 w4 _))) (fun hHeld12 => ?_)
          clear hK K
          try simp only [Act.put, List.setIfInBounds_toArray, List.set_cons_zero, List.set_cons_succ]
          refine wpAnyH_ready (rs := [10]) (by kernel_rfl) (by simp) ?_
          refine AllReadyH.cons (o := { dst := some 82, op := Op.load 23 (Operand.tmp 81), type := 23, pos := "store.go:28", after := #[{ on := 9, ground := Ground.data }], guard := none }) rfl (fun K hK => ?_) (AllReadyH.nil)
          go_simp
          refine hK.out _ _ (HS2.out _ (I5.step hL0 (below1 w4 _))) (fun hHeld13 => ?_)
          clear hK K
          try simp only [Act.put, List.setIfInBounds_toArray, List.set_cons_zero, List.set_cons_succ]
          refine wpAnyH_ready (rs := [14]) (by kernel_rfl) (by simp) ?_
          refine AllReadyH.cons (o := { dst := some 86, op := Op.call { callee := Callee.builtin Builtin.append, args := #[Operand.tmp 82, Operand.tmp 85], argTypes := #[23, 23] }, type := 23, pos := "store.go:28", after := #[{ on := 10, ground := Ground.data }, { on := 13, ground := Ground.data }, { on := 12, ground := Ground.chain }], guard := none }) rfl (fun K hK => ?_) (AllReadyH.nil)
          refine step_append_lies _ rfl _ _ 23 rfl 0 25 i0 (.agg #[.int .i64 0, .int .i64 0, .int .u64 0, .string ⟨#[]⟩, .slice none 0 0]) 5 64 Tryz.underlying23 hi hz0 hz1 hz2 rfl (by decide) (.slice none 0 0) 0 [] (by simp [Act.eval]) ⟨rfl, .inl ⟨rfl, rfl⟩⟩ ⟨w4.heap.size, 0, none⟩ 1 1 [.int .i64 1, .int .i64 x, .int .u64 0, .string ⟨#[]⟩, .slice none 0 0] (by simp [Act.eval]) rfl (World.news_of_block (heap_alloc_new w4 (.cells #[.int .i64 1, .int .i64 x, .int .u64 0, .string ⟨#[]⟩, .slice none 0 0] 25))) (by intro u hu; simp at hu; rcases hu with rfl | rfl | rfl | rfl | rfl <;> rfl) (by decide) (by unfold maxLen; omega) (by omega) (Nat.zero_le _) _ rfl ?_
          intro g5 c5 w5 own5 gr5 at5 lt5
          have I6 := (I5.step hL0 (below1 w4 (.cells #[.int .i64 1, .int .i64 x, .int .u64 0, .string ⟨#[]⟩, .slice none 0 0] 25))).grow hL0 gr5
          refine hK.out _ _ (HS2.out _ I6) (fun hHeld14 => ?_)
          clear hK K
          try simp only [Act.put, List.setIfInBounds_toArray, List.set_cons_zero, List.set_cons_succ]
          refine wpAnyH_take (i := 15) (oi := { dst := some 87, op := Op.nilCheck (Operand.tmp 75), type := 0, pos := "store.go:28", after := #[{ on := 3, ground := Ground.data }, { on := 0, ground := Ground.phase }, { on := 1, ground := Ground.phase }, { on := 2, ground := Ground.phase }, { on := 3, ground := Ground.phase }, { on := 4, ground := Ground.phase }, { on := 5, ground := Ground.phase }, { on := 6, ground := Ground.phase }, { on := 7, ground := Ground.phase }, { on := 8, ground := Ground.phase }, { on := 9, ground := Ground.phase }, { on := 10, ground := Ground.phase }, { on := 11, ground := Ground.phase }, { on := 12, ground := Ground.phase }, { on := 13, ground := Ground.phase }, { on := 14, ground := Ground.phase }], guard := none }) (v := ?tZ16x15) rfl (by kernel_rfl) (by kernel_rfl) (by kernel_rfl) (fun _ _ _ h => h) (Or.inl ⟨by rfl, ?uZ16x15⟩) (by assumption) ?rZ16x15
          case uZ16x15 => (intro w hSw; (try dsimp only at hSw); go_simp; (try with_reducible rfl))
          simp only [Act.put, List.setIfInBounds_toArray, List.set_cons_zero, List.set_cons_succ]
          refine wpAnyH_take (i := 16) (oi := { dst := some 88, op := Op.fieldAddr 27 (Operand.tmp 87) 3, type := 0, pos := "store.go:28", after := #[{ on := 15, ground := Ground.data }, { on := 0, ground := Ground.phase }, { on := 1, ground := Ground.phase }, { on := 2, ground := Ground.phase }, { on := 3, ground := Ground.phase }, { on := 4, ground := Ground.phase }, { on := 5, ground := Ground.phase }, { on := 6, ground := Ground.phase }, { on := 7, ground := Ground.phase }, { on := 8, ground := Ground.phase }, { on := 9, ground := Ground.phase }, { on := 10, ground := Ground.phase }, { on := 11, ground := Ground.phase }, { on := 12, ground := Ground.phase }, { on := 13, ground := Ground.phase }, { on := 14, ground := Ground.phase }], guard := none }) (v := ?tZ17x16) rfl (by kernel_rfl) (by kernel_rfl) (by kernel_rfl) (fun _ _ _ h => h) (Or.inl ⟨by rfl, ?uZ17x16⟩) (by assumption) ?rZ17x16
          case uZ17x16 => (intro w hSw; (try dsimp only at hSw); go_simp; (try with_reducible rfl))
          simp only [Act.put, List.setIfInBounds_toArray, List.set_cons_zero, List.set_cons_succ]
          have cb : w5.cell? ⟨b, 10, none⟩ = some (.slice none 0 0) := I6.k.c 10
          have fb : w5.frozen? ⟨b, 10, none⟩ = false := I6.k.f 10
          refine wpAnyH_ready (rs := [17]) (by kernel_rfl) (by simp) ?_
          refine AllReadyH.cons (o := { dst := none, op := Op.store 23 (Operand.tmp 88) (Operand.tmp 86), type := 0, pos := "store.go:28", after := #[{ on := 16, ground := Ground.data }, { on := 14, ground := Ground.data }, { on := 14, ground := Ground.chain }, { on := 0, ground := Ground.phase }, { on := 1, ground := Ground.phase }, { on := 2, ground := Ground.phase }, { on := 3, ground := Ground.phase }, { on := 4, ground := Ground.phase }, { on := 5, ground := Ground.phase }, { on := 6, ground := Ground.phase }, { on := 7, ground := Ground.phase }, { on := 8, ground := Ground.phase }, { on := 9, ground := Ground.phase }, { on := 10, ground := Ground.phase }, { on := 11, ground := Ground.phase }, { on := 12, ground := Ground.phase }, { on := 13, ground := Ground.phase }, { on := 14, ground := Ground.phase }], guard := none }) rfl (fun K hK => ?_) (AllReadyH.nil)
          go_simp
          have I7 := I6.put (.slice (some ⟨g5, 0, none⟩) 1 c5) hbs hLb hbN hbw hbp
          refine hK.out _ _ (HS3.out _ _ I7) (fun hHeld15 => ?_)
          clear hK K
          try simp only [Act.put, List.setIfInBounds_toArray, List.set_cons_zero, List.set_cons_succ]
          refine wpAnyH_done (by kernel_rfl) ?_ _
          go_wp2_with fail
          go_meet
          exact ⟨g5, c5, I7⟩
    case rest =>
      obtain ⟨g, c, I8⟩ := hcut
      obtain ⟨w6, hup, fm6, g6⟩ := upd_fm wc p [] I8.p (.iface 94 (.int .i64 x)) 0 (fun _ => false) (fun e => ck1 e 9998 x wc) (fun _ h => by cases h) rfl
      have hup2 : (Instr.mapUpdate 87 (.map (some p)) (.iface 94 (.int .i64 x)) (.int .i64 0)).run Tryz.prog wc = .ok () w6 := hup
      clear hup
      have J6 : ∀ k, k < wc.heap.size → k ≠ p → w6.heap[k]? = wc.heap[k]? := fun k h1 h2 => g6.block k h1 (by simpa using h2)
      have t3 : wc.cell? ⟨sb, 3, none⟩ = some (.map (some p)) := I8.s.c 3
      have k6 : Bk w6 b _ _ := (J6 b I8.k.lt hbp).trans I8.k
      have a6 : Bk w6 (w.heap.size + 1) _ _ := (J6 _ I8.a.lt (by omega)).trans I8.a
      have f6 : Fr L N w w6 := ⟨I8.f.b.trans ⟨g6.os, g6.tape, g6.output, g6.size, fun k hk => J6 k (by have := I8.f.size; omega) (by omega)⟩, fun k h1 h2 => (J6 k (by have := I8.f.size; omega) (by omega)).trans (I8.f.up k h1 h2)⟩
      clear g6 J6 fm6
      go_wp2_with fail
      refine (HH.out 0 _).mono ?_
      rintro e w7 ⟨rfl, b7⟩
      go_wp2_with fail
      refine (HA.out _ _ _ _ _ _ _ _).mono ?_
      rintro e w8 ⟨rfl, b8⟩
      have k8 := (k6.step b7).step b8
      have a8 := (a6.step b7).step b8
      have f8 := (f6.trans (Fr.of b7 (by have := f6.size; omega))).trans (Fr.of b8 (by have := f6.size; have := b7.size; omega))
      obtain ⟨y0, y1, y2, y3, y4, y5⟩ := a8.c6
      have fy := a8.f
      clear k6 a6 f6 b7 b8
      go_wp2_with fail
      refine bodyPost_ret (v := .tuple #[.agg #[.bool true, .int .i64 1, .int .i64 0, .int .u64 0, .string ⟨#[]⟩, .slice none 0 0], .nilIface]) (by simp [results, Tryz.results98, go_sem, World.cell?_setCell_same, World.cell?_setCell_other, y0, y1, y2, y3, y4, y5]) rfl ⟨g, c, rfl, ?_, ?_⟩
      · exact (((((k8.other _ _ (by show b ≠ w.heap.size + 1; omega)).other _ _ (by show b ≠ w.heap.size + 1; omega)).other _ _ (by show b ≠ w.heap.size + 1; omega)).other _ _ (by show b ≠ w.heap.size + 1; omega)).other _ _ (by show b ≠ w.heap.size + 1; omega)).other _ _ (by show b ≠ w.heap.size + 1; omega)
      · exact (((((f8.setCell _ _ (by omega) (.inr (by omega)) _).setCell _ _ (by omega) (.inr (by omega)) _).setCell _ _ (by omega) (.inr (by omega)) _).setCell _ _ (by omega) (.inr (by omega)) _).setCell _ _ (by omega) (.inr (by omega)) _).setCell _ _ (by omega) (.inr (by omega)) _
  · go_wp2_with fail
    have I3 : Sf w L N b sb m p (wcs 3 0 cp 0 0 0 0 0 ⟨#[]⟩ none 0 0 none 0 0 false 0 now z) #[.int .i64 1, .int .i64 x, .int .u64 0, .string ⟨#[]⟩, .slice none 0 0] (w2.alloc (.cells #[.bool true] 4)).drew := (I2.step hL0 (below1 _ _)).drew
    clear I2 s3 hlk' c10 s0 s1 s2 hck
    generalize (w2.alloc (.cells #[.bool true] 4)).drew = w3 at *
    have q1 : w3.cell? ⟨b, 10, none⟩ = some (.slice none 0 0) := I3.k.c 10
    go_cut [65, 66, 68] from 57 to 70 (fun s65 s66 s68 wx => s65 = .agg #[.int .i64 1, .int .i64 x, .int .u64 0, .string ⟨#[]⟩, .slice none 0 0] ∧ s66 = .int .i64 0 ∧ ∃ g c, s68 = .slice (some ⟨g, 0, none⟩) 1 c ∧ Sf w L N b sb m p (wcs 3 0 cp 0 0 0 0 0 ⟨#[]⟩ none 0 0 (some ⟨g, 0, none⟩) 1 c false 0 now z) #[.int .i64 1, .int .i64 x, .int .u64 0, .string ⟨#[]⟩, .slice none 0 0] wx ∧ (b < g ∧ sb < g ∧ p < g ∧ w.heap.size + 1 < g) ∧ ∃ cur, wx.heap[g]? = some (.cells cur 25 (0, 0)) ∧ 5 ≤ cur.size)
    case first =>
      refine wp_region_held_drew (S := fun wx => wx.cell? ⟨sb, 0, none⟩ = some (.pointer (some ⟨b, 3, none⟩)) ∧ wx.cell? ⟨w.heap.size, 0, none⟩ = some (.int .i64 1) ∧ wx.cell? ⟨w.heap.size, 1, none⟩ = some (.int .i64 x) ∧ wx.cell? ⟨w.heap.size, 2, none⟩ = some (.int .u64 0) ∧ wx.cell? ⟨w.heap.size, 3, none⟩ = some (.string ⟨#[]⟩) ∧ wx.cell? ⟨w.heap.size, 4, none⟩ = some (.slice none 0 0)) (by kernel_rfl) (HS2.out _ I3.drew) (fun hHeld => ?_)
      refine wpAnyH_take (i := 0) (oi := { dst := some 57, op := Op.move (Operand.tmp 0), type := 132, pos := "store.go:28", after := #[], guard := none }) (v := ?tZ18x0) rfl (by kernel_rfl) (by kernel_rfl) (by kernel_rfl) (fun _ _ _ h => h) (Or.inl ⟨by rfl, ?uZ18x0⟩) (by assumption) ?rZ18x0
      case uZ18x0 => (intro w hSw; (try dsimp only at hSw); go_simp; (try with_reducible rfl))
      simp only [Act.put, List.setIfInBounds_toArray, List.set_cons_zero, List.set_cons_succ]
      refine wpAnyH_take (i := 1) (oi := { dst := some 58, op := Op.nilCheck (Operand.tmp 57), type := 0, pos := "store.go:28", after := #[{ on := 0, ground := Ground.data }], guard := none }) (v := ?tZ19x1) rfl (by kernel_rfl) (by kernel_rfl) (by kernel_rfl) (fun _ _ _ h => h) (Or.inl ⟨by rfl, ?uZ19x1⟩) (by assumption) ?rZ19x1
      case uZ19x1 => (intro w hSw; (try dsimp only at hSw); go_simp; (try with_reducible rfl))
      simp only [Act.put, List.setIfInBounds_toArray, List.set_cons_zero, List.set_cons_succ]
      refine wpAnyH_take (i := 2) (oi := { dst := some 59, op := Op.fieldAddr 134 (Operand.tmp 58) 0, type := 0, pos := "store.go:28", after := #[{ on := 1, ground := Ground.data }], guard := none }) (v := ?tZ20x2) rfl (by kernel_rfl) (by kernel_rfl) (by kernel_rfl) (fun _ _ _ h => h) (Or.inl ⟨by rfl, ?uZ20x2⟩) (by assumption) ?rZ20x2
      case uZ20x2 => (intro w hSw; (try dsimp only at hSw); go_simp; (try with_reducible rfl))
      simp only [Act.put, List.setIfInBounds_toArray, List.set_cons_zero, List.set_cons_succ]
      refine wpAnyH_take (i := 3) (oi := { dst := some 60, op := Op.load 97 (Operand.tmp 59), type := 97, pos := "store.go:28", after := #[{ on := 2, ground := Ground.data }], guard := none }) (v := ?tZ21x3) rfl (by kernel_rfl) (by kernel_rfl) (by kernel_rfl) (fun _ _ _ h => h) (Or.inl ⟨by rfl, ?uZ21x3⟩) (by assumption) ?rZ21x3
      case uZ21x3 => (intro w hSw; (try dsimp only at hSw); go_simp; (try with_reducible rfl))
      simp only [Act.put, List.setIfInBounds_toArray, List.set_cons_zero, List.set_cons_succ]
      refine wpAnyH_take (i := 4) (oi := { dst := some 61, op := Op.nilCheck (Operand.tmp 60), type := 0, pos := "store.go:28", after := #[{ on := 3, ground := Ground.data }], guard := none }) (v := ?tZ22x4) rfl (by kernel_rfl) (by kernel_rfl) (by kernel_rfl) (fun _ _ _ h => h) (Or.inl ⟨by rfl, ?uZ22x4⟩) (by assumption) ?rZ22x4
      case uZ22x4 => (intro w hSw; (try dsimp only at hSw); go_simp; (try with_reducible rfl))
      simp only [Act.put, List.setIfInBounds_toArray, List.set_cons_zero, List.set_cons_succ]
      refine wpAnyH_take (i := 5) (oi := { dst := some 62, op := Op.fieldAddr 27 (Operand.tmp 61) 3, type := 0, pos := "store.go:28", after := #[{ on := 4, ground := Ground.data }], guard := none }) (v := ?tZ23x5) rfl (by kernel_rfl) (by kernel_rfl) (by kernel_rfl) (fun _ _ _ h => h) (Or.inl ⟨by rfl, ?uZ23x5⟩) (by assumption) ?rZ23x5
      case uZ23x5 => (intro w hSw; (try dsimp only at hSw); go_simp; (try with_reducible rfl))
      simp only [Act.put, List.setIfInBounds_toArray, List.set_cons_zero, List.set_cons_succ]
      refine wpAnyH_take (i := 7) (oi := { dst := some 64, op := Op.load 25 (Operand.tmp 3), type := 25, pos := "store.go:28", after := #[], guard := none }) (v := ?tZ24x7) rfl (by kernel_rfl) (by kernel_rfl) (by kernel_rfl) (fun _ _ _ h => h) (Or.inl ⟨by rfl, ?uZ24x7⟩) (by assumption) ?rZ24x7
      case uZ24x7 => (intro w hSw; (try dsimp only at hSw); go_simp; (try with_reducible rfl))
      simp only [Act.put, List.setIfInBounds_toArray, List.set_cons_zero, List.set_cons_succ]
      refine wpAnyH_ready (rs := [6, 8, 10]) (by kernel_rfl) (by simp) ?_
      refine AllReadyH.cons (o := { dst := some 63, op := Op.load 23 (Operand.tmp 62), type := 23, pos := "store.go:28", after := #[{ on := 5, ground := Ground.data }], guard := none }) rfl (fun K hK => ?_) (AllReadyH.cons (o := { dst := some 65, op := Op.call { callee := Callee.value (Operand.func 50), args := #[Operand.tmp 64], argTypes := #[25] }, type := 25, pos := "store.go:28", after := #[{ on := 7, ground := Ground.data }], guard := none }) rfl (fun K hK => ?_) (AllReadyH.cons (o := { dst := some 67, op := Op.buildSlice 23 1 #[(0, Operand.const (Value.agg #[Value.int IntKind.i64 0, Value.int IntKind.i64 0, Value.int IntKind.u64 0, Value.string { data := #[] }, Value.slice none 0 0]))], type := 23, pos := "store.go:28", after := #[], guard := none }) rfl (fun K hK => ?_) (AllReadyH.nil)))
      · skip
        have q6 : w3.drew.cell? ⟨b, 10, none⟩ = some (.slice none 0 0) := (I3.drew).k.c 10
        go_simp
        refine hK.out _ _ (HS2.out _ (I3.drew)) (fun hHeld16 => ?_)
        clear hK K
        try simp only [Act.put, List.setIfInBounds_toArray, List.set_cons_zero, List.set_cons_succ]
        refine wpAnyH_take (i := 9) (oi := { dst := some 66, op := Op.call { callee := Callee.builtin Builtin.len, args := #[Operand.tmp 63], argTypes := #[23] }, type := 3, pos := "store.go:28", after := #[{ on := 6, ground := Ground.data }], guard := none }) (v := ?tZ25x9) rfl (by kernel_rfl) (by kernel_rfl) (by kernel_rfl) (fun _ _ _ h => h) (Or.inl ⟨by rfl, ?uZ25x9⟩) (by assumption) ?rZ25x9
        case uZ25x9 => (intro w hSw; (try dsimp only at hSw); go_simp; (try with_reducible rfl))
        simp only [Act.put, List.setIfInBounds_toArray, List.set_cons_zero, List.set_cons_succ]
        refine wpAnyH_ready (rs := [8, 10]) (by kernel_rfl) (by simp) ?_
        refine AllReadyH.cons (o := { dst := some 65, op := Op.call { callee := Callee.value (Operand.func 50), args := #[Operand.tmp 64], argTypes := #[25] }, type := 25, pos := "store.go:28", after := #[{ on := 7, ground := Ground.data }], guard := none }) rfl (fun K hK => ?_) (AllReadyH.cons (o := { dst := some 67, op := Op.buildSlice 23 1 #[(0, Operand.const (Value.agg #[Value.int IntKind.i64 0, Value.int IntKind.i64 0, Value.int IntKind.u64 0, Value.string { data := #[] }, Value.slice none 0 0]))], type := 23, pos := "store.go:28", after := #[], guard := none }) rfl (fun K hK => ?_) (AllReadyH.nil))
        · skip
          go_simp
          refine (KC2.out () _ (I3.drew)).mono ?_
          rintro e wc1 ⟨rfl, Ic1, bc1⟩
          go_wp2_with fail
          refine hK.out _ _ (HS2.out _ Ic1) (fun hHeld17 => ?_)
          clear hK K
          try simp only [Act.put, List.setIfInBounds_toArray, List.set_cons_zero, List.set_cons_succ]
          refine wpAnyH_ready (rs := [10]) (by kernel_rfl) (by simp) ?_
          refine AllReadyH.cons (o := { dst := some 67, op := Op.buildSlice 23 1 #[(0, Operand.const (Value.agg #[Value.int IntKind.i64 0, Value.int IntKind.i64 0, Value.int IntKind.u64 0, Value.string { data := #[] }, Value.slice none 0 0]))], type := 23, pos := "store.go:28", after := #[], guard := none }) rfl (fun K hK => ?_) (AllReadyH.nil)
          go_simp
          have NB2 : Bk (wc1.alloc (.cells #[.int .i64 0, .int .i64 0, .int .u64 0, .string ⟨#[]⟩, .slice none 0 0] 25)) wc1.heap.size #[.int .i64 0, .int .i64 0, .int .u64 0, .string ⟨#[]⟩, .slice none 0 0] 25 := Bk.new wc1 #[.int .i64 0, .int .i64 0, .int .u64 0, .string ⟨#[]⟩, .slice none 0 0] 25
          have IN2 := (Ic1).step hL0 (below1 wc1 (.cells #[.int .i64 0, .int .i64 0, .int .u64 0, .string ⟨#[]⟩, .slice none 0 0] 25))
          generalize (wc1.alloc (.cells #[.int .i64 0, .int .i64 0, .int .u64 0, .string ⟨#[]⟩, .slice none 0 0] 25)) = wn2 at *
          refine hK.out _ _ (HS2.out _ IN2) (fun hHeld18 => ?_)
          clear hK K
          try simp only [Act.put, List.setIfInBounds_toArray, List.set_cons_zero, List.set_cons_succ]
          refine wpAnyH_ready (rs := [11]) (by kernel_rfl) (by simp) ?_
          refine AllReadyH.cons (o := { dst := some 68, op := Op.call { callee := Callee.builtin Builtin.append, args := #[Operand.tmp 63, Operand.tmp 67], argTypes := #[23, 23] }, type := 23, pos := "store.go:28", after := #[{ on := 6, ground := Ground.data }, { on := 10, ground := Ground.data }, { on := 8, ground := Ground.chain }, { on := 0, ground := Ground.phase }, { on := 1, ground := Ground.phase }, { on := 2, ground := Ground.phase }, { on := 3, ground := Ground.phase }, { on := 4, ground := Ground.phase }, { on := 5, ground := Ground.phase }, { on := 6, ground := Ground.phase }, { on := 7, ground := Ground.phase }, { on := 8, ground := Ground.phase }, { on := 9, ground := Ground.phase }, { on := 10, ground := Ground.phase }], guard := none }) rfl (fun K hK => ?_) (AllReadyH.nil)
          refine step_append_lies _ rfl _ _ 23 rfl 0 25 i0 (.agg #[.int .i64 0, .int .i64 0, .int .u64 0, .string ⟨#[]⟩, .slice none 0 0]) 5 64 Tryz.underlying23 hi hz0 hz1 hz2 rfl (by decide) (.slice none 0 0) 0 [] (by simp [Act.eval]) ⟨rfl, .inl ⟨rfl, rfl⟩⟩ ⟨wc1.heap.size, 0, none⟩ 1 1 [.int .i64 0, .int .i64 0, .int .u64 0, .string ⟨#[]⟩, .slice none 0 0] (by simp [Act.eval]) rfl (World.news_of_block NB2) (by intro u hu; simp at hu; rcases hu with rfl | rfl | rfl | rfl | rfl <;> rfl) (by decide) (by unfold maxLen; omega) (by omega) (Nat.zero_le _) _ rfl ?_
          intro g5 c5 w5 own5 gr5 at5 lt5
          have IB := Lib.hid (IN2)
          have I6 := IB.out.grow hL0 gr5
          refine hK.out _ _ (HS2.out _ I6) (fun hHeld19 => ?_)
          clear hK K
          try simp only [Act.put, List.setIfInBounds_toArray, List.set_cons_zero, List.set_cons_succ]
          refine wpAnyH_take (i := 12) (oi := { dst := some 69, op := Op.nilCheck (Operand.tmp 60), type := 0, pos := "store.go:28", after := #[{ on := 3, ground := Ground.data }, { on := 0, ground := Ground.phase }, { on := 1, ground := Ground.phase }, { on := 2, ground := Ground.phase }, { on := 3, ground := Ground.phase }, { on := 4, ground := Ground.phase }, { on := 5, ground := Ground.phase }, { on := 6, ground := Ground.phase }, { on := 7, ground := Ground.phase }, { on := 8, ground := Ground.phase }, { on := 9, ground := Ground.phase }, { on := 10, ground := Ground.phase }, { on := 11, ground := Ground.phase }], guard := none }) (v := ?tZ26x12) rfl (by kernel_rfl) (by kernel_rfl) (by kernel_rfl) (fun _ _ _ h => h) (Or.inl ⟨by rfl, ?uZ26x12⟩) (by assumption) ?rZ26x12
          case uZ26x12 => (intro w hSw; (try dsimp only at hSw); go_simp; (try with_reducible rfl))
          simp only [Act.put, List.setIfInBounds_toArray, List.set_cons_zero, List.set_cons_succ]
          refine wpAnyH_take (i := 13) (oi := { dst := some 70, op := Op.fieldAddr 27 (Operand.tmp 69) 3, type := 0, pos := "store.go:28", after := #[{ on := 12, ground := Ground.data }, { on := 0, ground := Ground.phase }, { on := 1, ground := Ground.phase }, { on := 2, ground := Ground.phase }, { on := 3, ground := Ground.phase }, { on := 4, ground := Ground.phase }, { on := 5, ground := Ground.phase }, { on := 6, ground := Ground.phase }, { on := 7, ground := Ground.phase }, { on := 8, ground := Ground.phase }, { on := 9, ground := Ground.phase }, { on := 10, ground := Ground.phase }, { on := 11, ground := Ground.phase }], guard := none }) (v := ?tZ27x13) rfl (by kernel_rfl) (by kernel_rfl) (by kernel_rfl) (fun _ _ _ h => h) (Or.inl ⟨by rfl, ?uZ27x13⟩) (by assumption) ?rZ27x13
          case uZ27x13 => (intro w hSw; (try dsimp only at hSw); go_simp; (try with_reducible rfl))
          simp only [Act.put, List.setIfInBounds_toArray, List.set_cons_zero, List.set_cons_succ]
          have cb : w5.cell? ⟨b, 10, none⟩ = some (.slice none 0 0) := I6.k.c 10
          have fb : w5.frozen? ⟨b, 10, none⟩ = false := I6.k.f 10
          refine wpAnyH_ready (rs := [14]) (by kernel_rfl) (by simp) ?_
          refine AllReadyH.cons (o := { dst := none, op := Op.store 23 (Operand.tmp 70) (Operand.tmp 68), type := 0, pos := "store.go:28", after := #[{ on := 13, ground := Ground.data }, { on := 11, ground := Ground.data }, { on := 11, ground := Ground.chain }, { on := 0, ground := Ground.phase }, { on := 1, ground := Ground.phase }, { on := 2, ground := Ground.phase }, { on := 3, ground := Ground.phase }, { on := 4, ground := Ground.phase }, { on := 5, ground := Ground.phase }, { on := 6, ground := Ground.phase }, { on := 7, ground := Ground.phase }, { on := 8, ground := Ground.phase }, { on := 9, ground := Ground.phase }, { on := 10, ground := Ground.phase }, { on := 11, ground := Ground.phase }], guard := none }) rfl (fun K hK => ?_) (AllReadyH.nil)
          go_simp
          have I7 := I6.put (.slice (some ⟨g5, 0, none⟩) 1 c5) hbs hLb hbN hbw hbp
          refine hK.out _ _ (HS3.out _ _ I7) (fun hHeld20 => ?_)
          clear hK K
          try simp only [Act.put, List.setIfInBounds_toArray, List.set_cons_zero, List.set_cons_succ]
          refine wpAnyH_done (by kernel_rfl) ?_ _
          go_wp2_with fail
          go_meet
          have hgs := IB.out.beyond at5
          exact ⟨rfl, rfl, g5, c5, rfl, I7, hgs, row_after own5 (by omega) _⟩
        · skip
          go_simp
          have NB3 : Bk (w3.alloc (.cells #[.int .i64 0, .int .i64 0, .int .u64 0, .string ⟨#[]⟩, .slice none 0 0] 25)).drew w3.heap.size #[.int .i64 0, .int .i64 0, .int .u64 0, .string ⟨#[]⟩, .slice none 0 0] 25 := Bk.drew (Bk.new w3 #[.int .i64 0, .int .i64 0, .int .u64 0, .string ⟨#[]⟩, .slice none 0 0] 25)
          have IN3 := (I3.step hL0 (below1 w3 (.cells #[.int .i64 0, .int .i64 0, .int .u64 0, .string ⟨#[]⟩, .slice none 0 0] 25))).drew
          generalize (w3.alloc (.cells #[.int .i64 0, .int .i64 0, .int .u64 0, .string ⟨#[]⟩, .slice none 0 0] 25)).drew = wn3 at *
          refine hK.out _ _ (HS2.out _ IN3) (fun hHeld21 => ?_)
          clear hK K
          try simp only [Act.put, List.setIfInBounds_toArray, List.set_cons_zero, List.set_cons_succ]
          refine wpAnyH_ready (rs := [8]) (by kernel_rfl) (by simp) ?_
          refine AllReadyH.cons (o := { dst := some 65, op := Op.call { callee := Callee.value (Operand.func 50), args := #[Operand.tmp 64], argTypes := #[25] }, type := 25, pos := "store.go:28", after := #[{ on := 7, ground := Ground.data }], guard := none }) rfl (fun K hK => ?_) (AllReadyH.nil)
          go_simp
          refine (KC2.out () _ (IN3)).mono ?_
          rintro e wc4 ⟨rfl, Ic4, bc4⟩
          go_wp2_with fail
          refine hK.out _ _ (HS2.out _ Ic4) (fun hHeld22 => ?_)
          clear hK K
          try simp only [Act.put, List.setIfInBounds_toArray, List.set_cons_zero, List.set_cons_succ]
          have nbc4 := NB3.step bc4
          refine wpAnyH_ready (rs := [11]) (by kernel_rfl) (by simp) ?_
          refine AllReadyH.cons (o := { dst := some 68, op := Op.call { callee := Callee.builtin Builtin.append, args := #[Operand.tmp 63, Operand.tmp 67], argTypes := #[23, 23] }, type := 23, pos := "store.go:28", after := #[{ on := 6, ground := Ground.data }, { on := 10, ground := Ground.data }, { on := 8, ground := Ground.chain }, { on := 0, ground := Ground.phase }, { on := 1, ground := Ground.phase }, { on := 2, ground := Ground.phase }, { on := 3, ground := Ground.phase }, { on := 4, ground := Ground.phase }, { on := 5, ground := Ground.phase }, { on := 6, ground := Ground.phase }, { on := 7, ground := Ground.phase }, { on := 8, ground := Ground.phase }, { on := 9, ground := Ground.phase }, { on := 10, ground := Ground.phase }], guard := none }) rfl (fun K hK => ?_) (AllReadyH.nil)
          refine step_append_lies _ rfl _ _ 23 rfl 0 25 i0 (.agg #[.int .i64 0, .int .i64 0, .int .u64 0, .string ⟨#[]⟩, .slice none 0 0]) 5 64 Tryz.underlying23 hi hz0 hz1 hz2 rfl (by decide) (.slice none 0 0) 0 [] (by simp [Act.eval]) ⟨rfl, .inl ⟨rfl, rfl⟩⟩ ⟨w3.heap.size, 0, none⟩ 1 1 [.int .i64 0, .int .i64 0, .int .u64 0, .string ⟨#[]⟩, .slice none 0 0] (by simp [Act.eval]) rfl (World.news_of_block nbc4) (by intro u hu; simp at hu; rcases hu with rfl | rfl | rfl | rfl | rfl <;> rfl) (by decide) (by unfold maxLen; omega) (by omega) (Nat.zero_le _) _ rfl ?_
          intro g5 c5 w5 own5 gr5 at5 lt5
          have IB := Lib.hid (Ic4)
          have I6 := IB.out.grow hL0 gr5
          refine hK.out _ _ (HS2.out _ I6) (fun hHeld23 => ?_)
          clear hK K
          try simp only [Act.put, List.setIfInBounds_toArray, List.set_cons_zero, List.set_cons_succ]
          refine wpAnyH_take (i := 12) (oi := { dst := some 69, op := Op.nilCheck (Operand.tmp 60), type := 0, pos := "store.go:28", after := #[{ on := 3, ground := Ground.data }, { on := 0, ground := Ground.phase }, { on := 1, ground := Ground.phase }, { on := 2, ground := Ground.phase }, { on := 3, ground := Ground.phase }, { on := 4, ground := Ground.phase }, { on := 5, ground := Ground.phase }, { on := 6, ground := Ground.phase }, { on := 7, ground := Ground.phase }, { on := 8, ground := Ground.phase }, { on := 9, ground := Ground.phase }, { on := 10, ground := Ground.phase }, { on := 11, ground := Ground.phase }], guard := none }) (v := ?tZ28x12) rfl (by kernel_rfl) (by kernel_rfl) (by kernel_rfl) (fun _ _ _ h => h) (Or.inl ⟨by rfl, ?uZ28x12⟩) (by assumption) ?rZ28x12
          case uZ28x12 => (intro w hSw; (try dsimp only at hSw); go_simp; (try with_reducible rfl))
          simp only [Act.put, List.setIfInBounds_toArray, List.set_cons_zero, List.set_cons_succ]
          refine wpAnyH_take (i := 13) (oi := { dst := some 70, op := Op.fieldAddr 27 (Operand.tmp 69) 3, type := 0, pos := "store.go:28", after := #[{ on := 12, ground := Ground.data }, { on := 0, ground := Ground.phase }, { on := 1, ground := Ground.phase }, { on := 2, ground := Ground.phase }, { on := 3, ground := Ground.phase }, { on := 4, ground := Ground.phase }, { on := 5, ground := Ground.phase }, { on := 6, ground := Ground.phase }, { on := 7, ground := Ground.phase }, { on := 8, ground := Ground.phase }, { on := 9, ground := Ground.phase }, { on := 10, ground := Ground.phase }, { on := 11, ground := Ground.phase }], guard := none }) (v := ?tZ29x13) rfl (by kernel_rfl) (by kernel_rfl) (by kernel_rfl) (fun _ _ _ h => h) (Or.inl ⟨by rfl, ?uZ29x13⟩) (by assumption) ?rZ29x13
          case uZ29x13 => (intro w hSw; (try dsimp only at hSw); go_simp; (try with_reducible rfl))
          simp only [Act.put, List.setIfInBounds_toArray, List.set_cons_zero, List.set_cons_succ]
          have cb : w5.cell? ⟨b, 10, none⟩ = some (.slice none 0 0) := I6.k.c 10
          have fb : w5.frozen? ⟨b, 10, none⟩ = false := I6.k.f 10
          refine wpAnyH_ready (rs := [14]) (by kernel_rfl) (by simp) ?_
          refine AllReadyH.cons (o := { dst := none, op := Op.store 23 (Operand.tmp 70) (Operand.tmp 68), type := 0, pos := "store.go:28", after := #[{ on := 13, ground := Ground.data }, { on := 11, ground := Ground.data }, { on := 11, ground := Ground.chain }, { on := 0, ground := Ground.phase }, { on := 1, ground := Ground.phase }, { on := 2, ground := Ground.phase }, { on := 3, ground := Ground.phase }, { on := 4, ground := Ground.phase }, { on := 5, ground := Ground.phase }, { on := 6, ground := Ground.phase }, { on := 7, ground := Ground.phase }, { on := 8, ground := Ground.phase }, { on := 9, ground := Ground.phase }, { on := 10, ground := Ground.phase }, { on := 11, ground := Ground.phase }], guard := none }) rfl (fun K hK => ?_) (AllReadyH.nil)
          go_simp
          have I7 := I6.put (.slice (some ⟨g5, 0, none⟩) 1 c5) hbs hLb hbN hbw hbp
          refine hK.out _ _ (HS3.out _ _ I7) (fun hHeld24 => ?_)
          clear hK K
          try simp only [Act.put, List.setIfInBounds_toArray, List.set_cons_zero, List.set_cons_succ]
          refine wpAnyH_done (by kernel_rfl) ?_ _
          go_wp2_with fail
          go_meet
          have hgs := IB.out.beyond at5
          exact ⟨rfl, rfl, g5, c5, rfl, I7, hgs, row_after own5 (by omega) _⟩
      · skip
        go_simp
        refine (KC2.out () _ (I3.drew)).mono ?_
        rintro e wc5 ⟨rfl, Ic5, bc5⟩
        go_wp2_with fail
        refine hK.out _ _ (HS2.out _ Ic5) (fun hHeld25 => ?_)
        clear hK K
        try simp only [Act.put, List.setIfInBounds_toArray, List.set_cons_zero, List.set_cons_succ]
        refine wpAnyH_ready (rs := [6, 10]) (by kernel_rfl) (by simp) ?_
        refine AllReadyH.cons (o := { dst := some 63, op := Op.load 23 (Operand.tmp 62), type := 23, pos := "store.go:28", after := #[{ on := 5, ground := Ground.data }], guard := none }) rfl (fun K hK => ?_) (AllReadyH.cons (o := { dst := some 67, op := Op.buildSlice 23 1 #[(0, Operand.const (Value.agg #[Value.int IntKind.i64 0, Value.int IntKind.i64 0, Value.int IntKind.u64 0, Value.string { data := #[] }, Value.slice none 0 0]))], type := 23, pos := "store.go:28", after := #[], guard := none }) rfl (fun K hK => ?_) (AllReadyH.nil))
        · skip
          have q6 : wc5.cell? ⟨b, 10, none⟩ = some (.slice none 0 0) := (Ic5).k.c 10
          go_simp
          refine hK.out _ _ (HS2.out _ (Ic5)) (fun hHeld26 => ?_)
          clear hK K
          try simp only [Act.put, List.setIfInBounds_toArray, List.set_cons_zero, List.set_cons_succ]
          refine wpAnyH_take (i := 9) (oi := { dst := some 66, op := Op.call { callee := Callee.builtin Builtin.len, args := #[Operand.tmp 63], argTypes := #[23] }, type := 3, pos := "store.go:28", after := #[{ on := 6, ground := Ground.data }], guard := none }) (v := ?tZ30x9) rfl (by kernel_rfl) (by kernel_rfl) (by kernel_rfl) (fun _ _ _ h => h) (Or.inl ⟨by rfl, ?uZ30x9⟩) (by assumption) ?rZ30x9
          case uZ30x9 => (intro w hSw; (try dsimp only at hSw); go_simp; (try with_reducible rfl))
          simp only [Act.put, List.setIfInBounds_toArray, List.set_cons_zero, List.set_cons_succ]
          refine wpAnyH_ready (rs := [10]) (by kernel_rfl) (by simp) ?_
          refine AllReadyH.cons (o := { dst := some 67, op := Op.buildSlice 23 1 #[(0, Operand.const (Value.agg #[Value.int IntKind.i64 0, Value.int IntKind.i64 0, Value.int IntKind.u64 0, Value.string { data := #[] }, Value.slice none 0 0]))], type := 23, pos := "store.go:28", after := #[], guard := none }) rfl (fun K hK => ?_) (AllReadyH.nil)
          go_simp
          have NB6 : Bk (wc5.alloc (.cells #[.int .i64 0, .int .i64 0, .int .u64 0, .string ⟨#[]⟩, .slice none 0 0] 25)) wc5.heap.size #[.int .i64 0, .int .i64 0, .int .u64 0, .string ⟨#[]⟩, .slice none 0 0] 25 := Bk.new wc5 #[.int .i64 0, .int .i64 0, .int .u64 0, .string ⟨#[]⟩, .slice none 0 0] 25
          have IN6 := (Ic5).step hL0 (below1 wc5 (.cells #[.int .i64 0, .int .i64 0, .int .u64 0, .string ⟨#[]⟩, .slice none 0 0] 25))
          generalize (wc5.alloc (.cells #[.int .i64 0, .int .i64 0, .int .u64 0, .string ⟨#[]⟩, .slice none 0 0] 25)) = wn6 at *
          refine hK.out _ _ (HS2.out _ IN6) (fun hHeld27 => ?_)
          clear hK K
          try simp only [Act.put, List.setIfInBounds_toArray, List.set_cons_zero, List.set_cons_succ]
          refine wpAnyH_ready (rs := [11]) (by kernel_rfl) (by simp) ?_
          refine AllReadyH.cons (o := { dst := some 68, op := Op.call { callee := Callee.builtin Builtin.append, args := #[Operand.tmp 63, Operand.tmp 67], argTypes := #[23, 23] }, type := 23, pos := "store.go:28", after := #[{ on := 6, ground := Ground.data }, { on := 10, ground := Ground.data }, { on := 8, ground := Ground.chain }, { on := 0, ground := Ground.phase }, { on := 1, ground := Ground.phase }, { on := 2, ground := Ground.phase }, { on := 3, ground := Ground.phase }, { on := 4, ground := Ground.phase }, { on := 5, ground := Ground.phase }, { on := 6, ground := Ground.phase }, { on := 7, ground := Ground.phase }, { on := 8, ground := Ground.phase }, { on := 9, ground := Ground.phase }, { on := 10, ground := Ground.phase }], guard := none }) rfl (fun K hK => ?_) (AllReadyH.nil)
          refine step_append_lies _ rfl _ _ 23 rfl 0 25 i0 (.agg #[.int .i64 0, .int .i64 0, .int .u64 0, .string ⟨#[]⟩, .slice none 0 0]) 5 64 Tryz.underlying23 hi hz0 hz1 hz2 rfl (by decide) (.slice none 0 0) 0 [] (by simp [Act.eval]) ⟨rfl, .inl ⟨rfl, rfl⟩⟩ ⟨wc5.heap.size, 0, none⟩ 1 1 [.int .i64 0, .int .i64 0, .int .u64 0, .string ⟨#[]⟩, .slice none 0 0] (by simp [Act.eval]) rfl (World.news_of_block NB6) (by intro u hu; simp at hu; rcases hu with rfl | rfl | rfl | rfl | rfl <;> rfl) (by decide) (by unfold maxLen; omega) (by omega) (Nat.zero_le _) _ rfl ?_
          intro g5 c5 w5 own5 gr5 at5 lt5
          have IB := Lib.hid (IN6)
          have I6 := IB.out.grow hL0 gr5
          refine hK.out _ _ (HS2.out _ I6) (fun hHeld28 => ?_)
          clear hK K
          try simp only [Act.put, List.setIfInBounds_toArray, List.set_cons_zero, List.set_cons_succ]
          refine wpAnyH_take (i := 12) (oi := { dst := some 69, op := Op.nilCheck (Operand.tmp 60), type := 0, pos := "store.go:28", after := #[{ on := 3, ground := Ground.data }, { on := 0, ground := Ground.phase }, { on := 1, ground := Ground.phase }, { on := 2, ground := Ground.phase }, { on := 3, ground := Ground.phase }, { on := 4, ground := Ground.phase }, { on := 5, ground := Ground.phase }, { on := 6, ground := Ground.phase }, { on := 7, ground := Ground.phase }, { on := 8, ground := Ground.phase }, { on := 9, ground := Ground.phase }, { on := 10, ground := Ground.phase }, { on := 11, ground := Ground.phase }], guard := none }) (v := ?tZ31x12) rfl (by kernel_rfl) (by kernel_rfl) (by kernel_rfl) (fun _ _ _ h => h) (Or.inl ⟨by rfl, ?uZ31x12⟩) (by assumption) ?rZ31x12
          case uZ31x12 => (intro w hSw; (try dsimp only at hSw); go_simp; (try with_reducible rfl))
          simp only [Act.put, List.setIfInBounds_toArray, List.set_cons_zero, List.set_cons_succ]
          refine wpAnyH_take (i := 13) (oi := { dst := some 70, op := Op.fieldAddr 27 (Operand.tmp 69) 3, type := 0, pos := "store.go:28", after := #[{ on := 12, ground := Ground.data }, { on := 0, ground := Ground.phase }, { on := 1, ground := Ground.phase }, { on := 2, ground := Ground.phase }, { on := 3, ground := Ground.phase }, { on := 4, ground := Ground.phase }, { on := 5, ground := Ground.phase }, { on := 6, ground := Ground.phase }, { on := 7, ground := Ground.phase }, { on := 8, ground := Ground.phase }, { on := 9, ground := Ground.phase }, { on := 10, ground := Ground.phase }, { on := 11, ground := Ground.phase }], guard := none }) (v := ?tZ32x13) rfl (by kernel_rfl) (by kernel_rfl) (by kernel_rfl) (fun _ _ _ h => h) (Or.inl ⟨by rfl, ?uZ32x13⟩) (by assumption) ?rZ32x13
          case uZ32x13 => (intro w hSw; (try dsimp only at hSw); go_simp; (try with_reducible rfl))
          simp only [Act.put, List.setIfInBounds_toArray, List.set_cons_zero, List.set_cons_succ]
          have cb : w5.cell? ⟨b, 10, none⟩ = some (.slice none 0 0) := I6.k.c 10
          have fb : w5.frozen? ⟨b, 10, none⟩ = false := I6.k.f 10
          refine wpAnyH_ready (rs := [14]) (by kernel_rfl) (by simp) ?_
          refine AllReadyH.cons (o := { dst := none, op := Op.store 23 (Operand.tmp 70) (Operand.tmp 68), type := 0, pos := "store.go:28", after := #[{ on := 13, ground := Ground.data }, { on := 11, ground := Ground.data }, { on := 11, ground := Ground.chain }, { on := 0, ground := Ground.phase }, { on := 1, ground := Ground.phase }, { on := 2, ground := Ground.phase }, { on := 3, ground := Ground.phase }, { on := 4, ground := Ground.phase }, { on := 5, ground := Ground.phase }, { on := 6, ground := Ground.phase }, { on := 7, ground := Ground.phase }, { on := 8, ground := Ground.phase }, { on := 9, ground := Ground.phase }, { on := 10, ground := Ground.phase }, { on := 11, ground := Ground.phase }], guard := none }) rfl (fun K hK => ?_) (AllReadyH.nil)
          go_simp
          have I7 := I6.put (.slice (some ⟨g5, 0, none⟩) 1 c5) hbs hLb hbN hbw hbp
          refine hK.out _ _ (HS3.out _ _ I7) (fun hHeld29 => ?_)
          clear hK K
          try simp only [Act.put, List.setIfInBounds_toArray, List.set_cons_zero, List.set_cons_succ]
          refine wpAnyH_done (by kernel_rfl) ?_ _
          go_wp2_with fail
          go_meet
          have hgs := IB.out.beyond at5
          exact ⟨rfl, rfl, g5, c5, rfl, I7, hgs, row_after own5 (by omega) _⟩
        · skip
          go_simp
          have NB7 : Bk (wc5.alloc (.cells #[.int .i64 0, .int .i64 0, .int .u64 0, .string ⟨#[]⟩, .slice none 0 0] 25)) wc5.heap.size #[.int .i64 0, .int .i64 0, .int .u64 0, .string ⟨#[]⟩, .slice none 0 0] 25 := Bk.new wc5 #[.int .i64 0, .int .i64 0, .int .u64 0, .string ⟨#[]⟩, .slice none 0 0] 25
          have IN7 := (Ic5).step hL0 (below1 wc5 (.cells #[.int .i64 0, .int .i64 0, .int .u64 0, .string ⟨#[]⟩, .slice none 0 0] 25))
          generalize (wc5.alloc (.cells #[.int .i64 0, .int .i64 0, .int .u64 0, .string ⟨#[]⟩, .slice none 0 0] 25)) = wn7 at *
          refine hK.out _ _ (HS2.out _ IN7) (fun hHeld30 => ?_)
          clear hK K
          try simp only [Act.put, List.setIfInBounds_toArray, List.set_cons_zero, List.set_cons_succ]
          refine wpAnyH_ready (rs := [6]) (by kernel_rfl) (by simp) ?_
          refine AllReadyH.cons (o := { dst := some 63, op := Op.load 23 (Operand.tmp 62), type := 23, pos := "store.go:28", after := #[{ on := 5, ground := Ground.data }], guard := none }) rfl (fun K hK => ?_) (AllReadyH.nil)
          have q6 : wn7.cell? ⟨b, 10, none⟩ = some (.slice none 0 0) := (IN7).k.c 10
          go_simp
          refine hK.out _ _ (HS2.out _ (IN7)) (fun hHeld31 => ?_)
          clear hK K
          try simp only [Act.put, List.setIfInBounds_toArray, List.set_cons_zero, List.set_cons_succ]
          refine wpAnyH_take (i := 9) (oi := { dst := some 66, op := Op.call { callee := Callee.builtin Builtin.len, args := #[Operand.tmp 63], argTypes := #[23] }, type := 3, pos := "store.go:28", after := #[{ on := 6, ground := Ground.data }], guard := none }) (v := ?tZ33x9) rfl (by kernel_rfl) (by kernel_rfl) (by kernel_rfl) (fun _ _ _ h => h) (Or.inl ⟨by rfl, ?uZ33x9⟩) (by assumption) ?rZ33x9
          case uZ33x9 => (intro w hSw; (try dsimp only at hSw); go_simp; (try with_reducible rfl))
          simp only [Act.put, List.setIfInBounds_toArray, List.set_cons_zero, List.set_cons_succ]
          refine wpAnyH_ready (rs := [11]) (by kernel_rfl) (by simp) ?_
          refine AllReadyH.cons (o := { dst := some 68, op := Op.call { callee := Callee.builtin Builtin.append, args := #[Operand.tmp 63, Operand.tmp 67], argTypes := #[23, 23] }, type := 23, pos := "store.go:28", after := #[{ on := 6, ground := Ground.data }, { on := 10, ground := Ground.data }, { on := 8, ground := Ground.chain }, { on := 0, ground := Ground.phase }, { on := 1, ground := Ground.phase }, { on := 2, ground := Ground.phase }, { on := 3, ground := Ground.phase }, { on := 4, ground := Ground.phase }, { on := 5, ground := Ground.phase }, { on := 6, ground := Ground.phase }, { on := 7, ground := Ground.phase }, { on := 8, ground := Ground.phase }, { on := 9, ground := Ground.phase }, { on := 10, ground := Ground.phase }], guard := none }) rfl (fun K hK => ?_) (AllReadyH.nil)
          refine step_append_lies _ rfl _ _ 23 rfl 0 25 i0 (.agg #[.int .i64 0, .int .i64 0, .int .u64 0, .string ⟨#[]⟩, .slice none 0 0]) 5 64 Tryz.underlying23 hi hz0 hz1 hz2 rfl (by decide) (.slice none 0 0) 0 [] (by simp [Act.eval]) ⟨rfl, .inl ⟨rfl, rfl⟩⟩ ⟨wc5.heap.size, 0, none⟩ 1 1 [.int .i64 0, .int .i64 0, .int .u64 0, .string ⟨#[]⟩, .slice none 0 0] (by simp [Act.eval]) rfl (World.news_of_block NB7) (by intro u hu; simp at hu; rcases hu with rfl | rfl | rfl | rfl | rfl <;> rfl) (by decide) (by unfold maxLen; omega) (by omega) (Nat.zero_le _) _ rfl ?_
          intro g5 c5 w5 own5 gr5 at5 lt5
          have IB := Lib.hid (IN7)
          have I6 := IB.out.grow hL0 gr5
          refine hK.out _ _ (HS2.out _ I6) (fun hHeld32 => ?_)
          clear hK K
          try simp only [Act.put, List.setIfInBounds_toArray, List.set_cons_zero, List.set_cons_succ]
          refine wpAnyH_take (i := 12) (oi := { dst := some 69, op := Op.nilCheck (Operand.tmp 60), type := 0, pos := "store.go:28", after := #[{ on := 3, ground := Ground.data }, { on := 0, ground := Ground.phase }, { on := 1, ground := Ground.phase }, { on := 2, ground := Ground.phase }, { on := 3, ground := Ground.phase }, { on := 4, ground := Ground.phase }, { on := 5, ground := Ground.phase }, { on := 6, ground := Ground.phase }, { on := 7, ground := Ground.phase }, { on := 8, ground := Ground.phase }, { on := 9, ground := Ground.phase }, { on := 10, ground := Ground.phase }, { on := 11, ground := Ground.phase }], guard := none }) (v := ?tZ34x12) rfl (by kernel_rfl) (by kernel_rfl) (by kernel_rfl) (fun _ _ _ h => h) (Or.inl ⟨by rfl, ?uZ34x12⟩) (by assumption) ?rZ34x12
          case uZ34x12 => (intro w hSw; (try dsimp only at hSw); go_simp; (try with_reducible rfl))
          simp only [Act.put, List.setIfInBounds_toArray, List.set_cons_zero, List.set_cons_succ]
          refine wpAnyH_take (i := 13) (oi := { dst := some 70, op := Op.fieldAddr 27 (Operand.tmp 69) 3, type := 0, pos := "store.go:28", after := #[{ on := 12, ground := Ground.data }, { on := 0, ground := Ground.phase }, { on := 1, ground := Ground.phase }, { on := 2, ground := Ground.phase }, { on := 3, ground := Ground.phase }, { on := 4, ground := Ground.phase }, { on := 5, ground := Ground.phase }, { on := 6, ground := Ground.phase }, { on := 7, ground := Ground.phase }, { on := 8, ground := Ground.phase }, { on := 9, ground := Ground.phase }, { on := 10, ground := Ground.phase }, { on := 11, ground := Ground.phase }], guard := none }) (v := ?tZ35x13) rfl (by kernel_rfl) (by kernel_rfl) (by kernel_rfl) (fun _ _ _ h => h) (Or.inl ⟨by rfl, ?uZ35x13⟩) (by assumption) ?rZ35x13
          case uZ35x13 => (intro w hSw; (try dsimp only at hSw); go_simp; (try with_reducible rfl))
          simp only [Act.put, List.setIfInBounds_toArray, List.set_cons_zero, List.set_cons_succ]
          have cb : w5.cell? ⟨b, 10, none⟩ = some (.slice none 0 0) := I6.k.c 10
          have fb : w5.frozen? ⟨b, 10, none⟩ = false := I6.k.f 10
          refine wpAnyH_ready (rs := [14]) (by kernel_rfl) (by simp) ?_
          refine AllReadyH.cons (o := { dst := none, op := Op.store 23 (Operand.tmp 70) (Operand.tmp 68), type := 0, pos := "store.go:28", after := #[{ on := 13, ground := Ground.data }, { on := 11, ground := Ground.data }, { on := 11, ground := Ground.chain }, { on := 0, ground := Ground.phase }, { on := 1, ground := Ground.phase }, { on := 2, ground := Ground.phase }, { on := 3, ground := Ground.phase }, { on := 4, ground := Ground.phase }, { on := 5, ground := Ground.phase }, { on := 6, ground := Ground.phase }, { on := 7, ground := Ground.phase }, { on := 8, ground := Ground.phase }, { on := 9, ground := Ground.phase }, { on := 10, ground := Ground.phase }, { on := 11, ground := Ground.phase }], guard := none }) rfl (fun K hK => ?_) (AllReadyH.nil)
          go_simp
          have I7 := I6.put (.slice (some ⟨g5, 0, none⟩) 1 c5) hbs hLb hbN hbw hbp
          refine hK.out _ _ (HS3.out _ _ I7) (fun hHeld33 => ?_)
          clear hK K
          try simp only [Act.put, List.setIfInBounds_toArray, List.set_cons_zero, List.set_cons_succ]
          refine wpAnyH_done (by kernel_rfl) ?_ _
          go_wp2_with fail
          go_meet
          have hgs := IB.out.beyond at5
          exact ⟨rfl, rfl, g5, c5, rfl, I7, hgs, row_after own5 (by omega) _⟩
      · skip
        go_simp
        have NB8 : Bk (w3.alloc (.cells #[.int .i64 0, .int .i64 0, .int .u64 0, .string ⟨#[]⟩, .slice none 0 0] 25)).drew w3.heap.size #[.int .i64 0, .int .i64 0, .int .u64 0, .string ⟨#[]⟩, .slice none 0 0] 25 := Bk.drew (Bk.new w3 #[.int .i64 0, .int .i64 0, .int .u64 0, .string ⟨#[]⟩, .slice none 0 0] 25)
        have IN8 := (I3.step hL0 (below1 w3 (.cells #[.int .i64 0, .int .i64 0, .int .u64 0, .string ⟨#[]⟩, .slice none 0 0] 25))).drew
        generalize (w3.alloc (.cells #[.int .i64 0, .int .i64 0, .int .u64 0, .string ⟨#[]⟩, .slice none 0 0] 25)).drew = wn8 at *
        refine hK.out _ _ (HS2.out _ IN8) (fun hHeld34 => ?_)
        clear hK K
        try simp only [Act.put, List.setIfInBounds_toArray, List.set_cons_zero, List.set_cons_succ]
        refine wpAnyH_ready (rs := [6, 8]) (by kernel_rfl) (by simp) ?_
        refine AllReadyH.cons (o := { dst := some 63, op := Op.load 23 (Operand.tmp 62), type := 23, pos := "store.go:28", after := #[{ on := 5, ground := Ground.data }], guard := none }) rfl (fun K hK => ?_) (AllReadyH.cons (o := { dst := some 65, op := Op.call { callee := Callee.value (Operand.func 50), args := #[Operand.tmp 64], argTypes := #[25] }, type := 25, pos := "store.go:28", after := #[{ on := 7, ground := Ground.data }], guard := none }) rfl (fun K hK => ?_) (AllReadyH.nil))
        · skip
          have q6 : wn8.cell? ⟨b, 10, none⟩ = some (.slice none 0 0) := (IN8).k.c 10
          go_simp
          refine hK.out _ _ (HS2.out _ (IN8)) (fun hHeld35 => ?_)
          clear hK K
          try simp only [Act.put, List.setIfInBounds_toArray, List.set_cons_zero, List.set_cons_succ]
          refine wpAnyH_take (i := 9) (oi := { dst := some 66, op := Op.call { callee := Callee.builtin Builtin.len, args := #[Operand.tmp 63], argTypes := #[23] }, type := 3, pos := "store.go:28", after := #[{ on := 6, ground := Ground.data }], guard := none }) (v := ?tZ36x9) rfl (by kernel_rfl) (by kernel_rfl) (by kernel_rfl) (fun _ _ _ h => h) (Or.inl ⟨by rfl, ?uZ36x9⟩) (by assumption) ?rZ36x9
          case uZ36x9 => (intro w hSw; (try dsimp only at hSw); go_simp; (try with_reducible rfl))
          simp only [Act.put, List.setIfInBounds_toArray, List.set_cons_zero, List.set_cons_succ]
          refine wpAnyH_ready (rs := [8]) (by kernel_rfl) (by simp) ?_
          refine AllReadyH.cons (o := { dst := some 65, op := Op.call { callee := Callee.value (Operand.func 50), args := #[Operand.tmp 64], argTypes := #[25] }, type := 25, pos := "store.go:28", after := #[{ on := 7, ground := Ground.data }], guard := none }) rfl (fun K hK => ?_) (AllReadyH.nil)
          go_simp
          refine (KC2.out () _ (IN8)).mono ?_
          rintro e wc9 ⟨rfl, Ic9, bc9⟩
          go_wp2_with fail
          refine hK.out _ _ (HS2.out _ Ic9) (fun hHeld36 => ?_)
          clear hK K
          try simp only [Act.put, List.setIfInBounds_toArray, List.set_cons_zero, List.set_cons_succ]
          have nbc9 := NB8.step bc9
          refine wpAnyH_ready (rs := [11]) (by kernel_rfl) (by simp) ?_
          refine AllReadyH.cons (o := { dst := some 68, op := Op.call { callee := Callee.builtin Builtin.append, args := #[Operand.tmp 63, Operand.tmp 67], argTypes := #[23, 23] }, type := 23, pos := "store.go:28", after := #[{ on := 6, ground := Ground.data }, { on := 10, ground := Ground.data }, { on := 8, ground := Ground.chain }, { on := 0, ground := Ground.phase }, { on := 1, ground := Ground.phase }, { on := 2, ground := Ground.phase }, { on := 3, ground := Ground.phase }, { on := 4, ground := Ground.phase }, { on := 5, ground := Ground.phase }, { on := 6, ground := Ground.phase }, { on := 7, ground := Ground.phase }, { on := 8, ground := Ground.phase }, { on := 9, ground := Ground.phase }, { on := 10, ground := Ground.phase }], guard := none }) rfl (fun K hK => ?_) (AllReadyH.nil)
          refine step_append_lies _ rfl _ _ 23 rfl 0 25 i0 (.agg #[.int .i64 0, .int .i64 0, .int .u64 0, .string ⟨#[]⟩, .slice none 0 0]) 5 64 Tryz.underlying23 hi hz0 hz1 hz2 rfl (by decide) (.slice none 0 0) 0 [] (by simp [Act.eval]) ⟨rfl, .inl ⟨rfl, rfl⟩⟩ ⟨w3.heap.size, 0, none⟩ 1 1 [.int .i64 0, .int .i64 0, .int .u64 0, .string ⟨#[]⟩, .slice none 0 0] (by simp [Act.eval]) rfl (World.news_of_block nbc9) (by intro u hu; simp at hu; rcases hu with rfl | rfl | rfl | rfl | rfl <;> rfl) (by decide) (by unfold maxLen; omega) (by omega) (Nat.zero_le _) _ rfl ?_
          intro g5 c5 w5 own5 gr5 at5 lt5
          have IB := Lib.hid (Ic9)
          have I6 := IB.out.grow hL0 gr5
          refine hK.out _ _ (HS2.out _ I6) (fun hHeld37 => ?_)
          clear hK K
          try simp only [Act.put, List.setIfInBounds_toArray, List.set_cons_zero, List.set_cons_succ]
          refine wpAnyH_take (i := 12) (oi := { dst := some 69, op := Op.nilCheck (Operand.tmp 60), type := 0, pos := "store.go:28", after := #[{ on := 3, ground := Ground.data }, { on := 0, ground := Ground.phase }, { on := 1, ground := Ground.phase }, { on := 2, ground := Ground.phase }, { on := 3, ground := Ground.phase }, { on := 4, ground := Ground.phase }, { on := 5, ground := Ground.phase }, { on := 6, ground := Ground.phase }, { on := 7, ground := Ground.phase }, { on := 8, ground := Ground.phase }, { on := 9, ground := Ground.phase }, { on := 10, ground := Ground.phase }, { on := 11, ground := Ground.phase }], guard := none }) (v := ?tZ37x12) rfl (by kernel_rfl) (by kernel_rfl) (by kernel_rfl) (fun _ _ _ h => h) (Or.inl ⟨by rfl, ?uZ37x12⟩) (by assumption) ?rZ37x12
          case uZ37x12 => (intro w hSw; (try dsimp only at hSw); go_simp; (try with_reducible rfl))
          simp only [Act.put, List.setIfInBounds_toArray, List.set_cons_zero, List.set_cons_succ]
          refine wpAnyH_take (i := 13) (oi := { dst := some 70, op := Op.fieldAddr 27 (Operand.tmp 69) 3, type := 0, pos := "store.go:28", after := #[{ on := 12, ground := Ground.data }, { on := 0, ground := Ground.phase }, { on := 1, ground := Ground.phase }, { on := 2, ground := Ground.phase }, { on := 3, ground := Ground.phase }, { on := 4, ground := Ground.phase }, { on := 5, ground := Ground.phase }, { on := 6, ground := Ground.phase }, { on := 7, ground := Ground.phase }, { on := 8, ground := Ground.phase }, { on := 9, ground := Ground.phase }, { on := 10, ground := Ground.phase }, { on := 11, ground := Ground.phase }], guard := none }) (v := ?tZ38x13) rfl (by kernel_rfl) (by kernel_rfl) (by kernel_rfl) (fun _ _ _ h => h) (Or.inl ⟨by rfl, ?uZ38x13⟩) (by assumption) ?rZ38x13
          case uZ38x13 => (intro w hSw; (try dsimp only at hSw); go_simp; (try with_reducible rfl))
          simp only [Act.put, List.setIfInBounds_toArray, List.set_cons_zero, List.set_cons_succ]
          have cb : w5.cell? ⟨b, 10, none⟩ = some (.slice none 0 0) := I6.k.c 10
          have fb : w5.frozen? ⟨b, 10, none⟩ = false := I6.k.f 10
          refine wpAnyH_ready (rs := [14]) (by kernel_rfl) (by simp) ?_
          refine AllReadyH.cons (o := { dst := none, op := Op.store 23 (Operand.tmp 70) (Operand.tmp 68), type := 0, pos := "store.go:28", after := #[{ on := 13, ground := Ground.data }, { on := 11, ground := Ground.data }, { on := 11, ground := Ground.chain }, { on := 0, ground := Ground.phase }, { on := 1, ground := Ground.phase }, { on := 2, ground := Ground.phase }, { on := 3, ground := Ground.phase }, { on := 4, ground := Ground.phase }, { on := 5, ground := Ground.phase }, { on := 6, ground := Ground.phase }, { on := 7, ground := Ground.phase }, { on := 8, ground := Ground.phase }, { on := 9, ground := Ground.phase }, { on := 10, ground := Ground.phase }, { on := 11, ground := Ground.phase }], guard := none }) rfl (fun K hK => ?_) (AllReadyH.nil)
          go_simp
          have I7 := I6.put (.slice (some ⟨g5, 0, none⟩) 1 c5) hbs hLb hbN hbw hbp
          refine hK.out _ _ (HS3.out _ _ I7) (fun hHeld38 => ?_)
          clear hK K
          try simp only [Act.put, List.setIfInBounds_toArray, List.set_cons_zero, List.set_cons_succ]
          refine wpAnyH_done (by kernel_rfl) ?_ _
          go_wp2_with fail
          go_meet
          have hgs := IB.out.beyond at5
          exact ⟨rfl, rfl, g5, c5, rfl, I7, hgs, row_after own5 (by omega) _⟩
        · skip
          go_simp
          refine (KC2.out () _ (IN8)).mono ?_
          rintro e wc10 ⟨rfl, Ic10, bc10⟩
          go_wp2_with fail
          refine hK.out _ _ (HS2.out _ Ic10) (fun hHeld39 => ?_)
          clear hK K
          try simp only [Act.put, List.setIfInBounds_toArray, List.set_cons_zero, List.set_cons_succ]
          have nbc10 := NB8.step bc10
          refine wpAnyH_ready (rs := [6]) (by kernel_rfl) (by simp) ?_
          refine AllReadyH.cons (o := { dst := some 63, op := Op.load 23 (Operand.tmp 62), type := 23, pos := "store.go:28", after := #[{ on := 5, ground := Ground.data }], guard := none }) rfl (fun K hK => ?_) (AllReadyH.nil)
          have q6 : wc10.cell? ⟨b, 10, none⟩ = some (.slice none 0 0) := (Ic10).k.c 10
          go_simp
          refine hK.out _ _ (HS2.out _ (Ic10)) (fun hHeld40 => ?_)
          clear hK K
          try simp only [Act.put, List.setIfInBounds_toArray, List.set_cons_zero, List.set_cons_succ]
          refine wpAnyH_take (i := 9) (oi := { dst := some 66, op := Op.call { callee := Callee.builtin Builtin.len, args := #[Operand.tmp 63], argTypes := #[23] }, type := 3, pos := "store.go:28", after := #[{ on := 6, ground := Ground.data }], guard := none }) (v := ?tZ39x9) rfl (by kernel_rfl) (by kernel_rfl) (by kernel_rfl) (fun _ _ _ h => h) (Or.inl ⟨by rfl, ?uZ39x9⟩) (by assumption) ?rZ39x9
          case uZ39x9 => (intro w hSw; (try dsimp only at hSw); go_simp; (try with_reducible rfl))
          simp only [Act.put, List.setIfInBounds_toArray, List.set_cons_zero, List.set_cons_succ]
          refine wpAnyH_ready (rs := [11]) (by kernel_rfl) (by simp) ?_
          refine AllReadyH.cons (o := { dst := some 68, op := Op.call { callee := Callee.builtin Builtin.append, args := #[Operand.tmp 63, Operand.tmp 67], argTypes := #[23, 23] }, type := 23, pos := "store.go:28", after := #[{ on := 6, ground := Ground.data }, { on := 10, ground := Ground.data }, { on := 8, ground := Ground.chain }, { on := 0, ground := Ground.phase }, { on := 1, ground := Ground.phase }, { on := 2, ground := Ground.phase }, { on := 3, ground := Ground.phase }, { on := 4, ground := Ground.phase }, { on := 5, ground := Ground.phase }, { on := 6, ground := Ground.phase }, { on := 7, ground := Ground.phase }, { on := 8, ground := Ground.phase }, { on := 9, ground := Ground.phase }, { on := 10, ground := Ground.phase }], guard := none }) rfl (fun K hK => ?_) (AllReadyH.nil)
          refine step_append_lies _ rfl _ _ 23 rfl 0 25 i0 (.agg #[.int .i64 0, .int .i64 0, .int .u64 0, .string ⟨#[]⟩, .slice none 0 0]) 5 64 Tryz.underlying23 hi hz0 hz1 hz2 rfl (by decide) (.slice none 0 0) 0 [] (by simp [Act.eval]) ⟨rfl, .inl ⟨rfl, rfl⟩⟩ ⟨w3.heap.size, 0, none⟩ 1 1 [.int .i64 0, .int .i64 0, .int .u64 0, .string ⟨#[]⟩, .slice none 0 0] (by simp [Act.eval]) rfl (World.news_of_block nbc10) (by intro u hu; simp at hu; rcases hu with rfl | rfl | rfl | rfl | rfl <;> rfl) (by decide) (by unfold maxLen; omega) (by omega) (Nat.zero_le _) _ rfl ?_
          intro g5 c5 w5 own5 gr5 at5 lt5
          have IB := Lib.hid (Ic10)
          have I6 := IB.out.grow hL0 gr5
          refine hK.out _ _ (HS2.out _ I6) (fun hHeld41 => ?_)
          clear hK K
          try simp only [Act.put, List.setIfInBounds_toArray, List.set_cons_zero, List.set_cons_succ]
          refine wpAnyH_take (i := 12) (oi := { dst := some 69, op := Op.nilCheck (Operand.tmp 60), type := 0, pos := "store.go:28", after := #[{ on := 3, ground := Ground.data }, { on := 0, ground := Ground.phase }, { on := 1, ground := Ground.phase }, { on := 2, ground := Ground.phase }, { on := 3, ground := Ground.phase }, { on := 4, ground := Ground.phase }, { on := 5, ground := Ground.phase }, { on := 6, ground := Ground.phase }, { on := 7, ground := Ground.phase }, { on := 8, ground := Ground.phase }, { on := 9, ground := Ground.phase }, { on := 10, ground := Ground.phase }, { on := 11, ground := Ground.phase }], guard := none }) (v := ?tZ40x12) rfl (by kernel_rfl) (by kernel_rfl) (by kernel_rfl) (fun _ _ _ h => h) (Or.inl ⟨by rfl, ?uZ40x12⟩) (by assumption) ?rZ40x12
          case uZ40x12 => (intro w hSw; (try dsimp only at hSw); go_simp; (try with_reducible rfl))
          simp only [Act.put, List.setIfInBounds_toArray, List.set_cons_zero, List.set_cons_succ]
          refine wpAnyH_take (i := 13) (oi := { dst := some 70, op := Op.fieldAddr 27 (Operand.tmp 69) 3, type := 0, pos := "store.go:28", after := #[{ on := 12, ground := Ground.data }, { on := 0, ground := Ground.phase }, { on := 1, ground := Ground.phase }, { on := 2, ground := Ground.phase }, { on := 3, ground := Ground.phase }, { on := 4, ground := Ground.phase }, { on := 5, ground := Ground.phase }, { on := 6, ground := Ground.phase }, { on := 7, ground := Ground.phase }, { on := 8, ground := Ground.phase }, { on := 9, ground := Ground.phase }, { on := 10, ground := Ground.phase }, { on := 11, ground := Ground.phase }], guard := none }) (v := ?tZ41x13) rfl (by kernel_rfl) (by kernel_rfl) (by kernel_rfl) (fun _ _ _ h => h) (Or.inl ⟨by rfl, ?uZ41x13⟩) (by assumption) ?rZ41x13
          case uZ41x13 => (intro w hSw; (try dsimp only at hSw); go_simp; (try with_reducible rfl))
          simp only [Act.put, List.setIfInBounds_toArray, List.set_cons_zero, List.set_cons_succ]
          have cb : w5.cell? ⟨b, 10, none⟩ = some (.slice none 0 0) := I6.k.c 10
          have fb : w5.frozen? ⟨b, 10, none⟩ = false := I6.k.f 10
          refine wpAnyH_ready (rs := [14]) (by kernel_rfl) (by simp) ?_
          refine AllReadyH.cons (o := { dst := none, op := Op.store 23 (Operand.tmp 70) (Operand.tmp 68), type := 0, pos := "store.go:28", after := #[{ on := 13, ground := Ground.data }, { on := 11, ground := Ground.data }, { on := 11, ground := Ground.chain }, { on := 0, ground := Ground.phase }, { on := 1, ground := Ground.phase }, { on := 2, ground := Ground.phase }, { on := 3, ground := Ground.phase }, { on := 4, ground := Ground.phase }, { on := 5, ground := Ground.phase }, { on := 6, ground := Ground.phase }, { on := 7, ground := Ground.phase }, { on := 8, ground := Ground.phase }, { on := 9, ground := Ground.phase }, { on := 10, ground := Ground.phase }, { on := 11, ground := Ground.phase }], guard := none }) rfl (fun K hK => ?_) (AllReadyH.nil)
          go_simp
          have I7 := I6.put (.slice (some ⟨g5, 0, none⟩) 1 c5) hbs hLb hbN hbw hbp
          refine hK.out _ _ (HS3.out _ _ I7) (fun hHeld42 => ?_)
          clear hK K
          try simp only [Act.put, List.setIfInBounds_toArray, List.set_cons_zero, List.set_cons_succ]
          refine wpAnyH_done (by kernel_rfl) ?_ _
          go_wp2_with fail
          go_meet
          have hgs := IB.out.beyond at5
          exact ⟨rfl, rfl, g5, c5, rfl, I7, hgs, row_after own5 (by omega) _⟩
    case rest =>
      obtain ⟨rfl, rfl, g, c, rfl, I8, hgs, cur, hrow, h5⟩ := hcut
      have y0 : wc.cell? ⟨g, 0, none⟩ = some cur[0] := by simp [World.cell?, hrow]
      have y1 : wc.cell? ⟨g, 1, none⟩ = some cur[1] := by simp [World.cell?, hrow]
      have y2 : wc.cell? ⟨g, 2, none⟩ = some cur[2] := by simp [World.cell?, hrow]
      have y3 : wc.cell? ⟨g, 3, none⟩ = some cur[3] := by simp [World.cell?, hrow]
      have y4 : wc.cell? ⟨g, 4, none⟩ = some cur[4] := by simp [World.cell?, hrow]
      have fy : ∀ o, wc.frozen? ⟨g, o, none⟩ = false := fun o => by simp [World.frozen?, hrow]
      have I9 := ((((I8.other hgs hL0 0 (.int .i64 1)).other hgs hL0 1 (.int .i64 x)).other hgs hL0 2 (.int .u64 0)).other hgs hL0 3 (.string ⟨#[]⟩)).other hgs hL0 4 (.slice none 0 0)
      go_upto_region 13 with fail
      generalize ((((wc.setCell ⟨g, 0, none⟩ (.int .i64 1)).setCell ⟨g, 1, none⟩ (.int .i64 x)).setCell ⟨g, 2, none⟩ (.int .u64 0)).setCell ⟨g, 3, none⟩ (.string ⟨#[]⟩)).setCell ⟨g, 4, none⟩ (.slice none 0 0) = wd at *
      obtain ⟨w6, hup, fm6, g6⟩ := upd_fm wd p [] I9.p (.iface 94 (.int .i64 x)) 0 (fun _ => false) (fun e => ck1 e 9998 x wd) (fun _ h => by cases h) rfl
      have hup2 : (Instr.mapUpdate 87 (.map (some p)) (.iface 94 (.int .i64 x)) (.int .i64 0)).run Tryz.prog wd = .ok () w6 := hup
      clear hup
      have J6 : ∀ k, k < wd.heap.size → k ≠ p → w6.heap[k]? = wd.heap[k]? := fun k h1 h2 => g6.block k h1 (by simpa using h2)
      have t3 : wd.cell? ⟨sb, 3, none⟩ = some (.map (some p)) := I9.s.c 3
      have k6 : Bk w6 b _ _ := (J6 b I9.k.lt hbp).trans I9.k
      have a6 : Bk w6 (w.heap.size + 1) _ _ := (J6 _ I9.a.lt (by omega)).trans I9.a
      have f6 : Fr L N w w6 := ⟨I9.f.b.trans ⟨g6.os, g6.tape, g6.output, g6.size, fun k hk => J6 k (by have := I9.f.size; omega) (by omega)⟩, fun k h1 h2 => (J6 k (by have := I9.f.size; omega) (by omega)).trans (I9.f.up k h1 h2)⟩
      clear g6 J6 fm6
      go_wp2_with fail
      refine (HH.out 0 _).mono ?_
      rintro e w7 ⟨rfl, b7⟩
      go_wp2_with fail
      refine (HA.out _ _ _ _ _ _ _ _).mono ?_
      rintro e w8 ⟨rfl, b8⟩
      have k8 := (k6.step b7).step b8
      have a8 := (a6.step b7).step b8
      have f8 := (f6.trans (Fr.of b7 (by have := f6.size; omega))).trans (Fr.of b8 (by have := f6.size; have := b7.size; omega))
      obtain ⟨y0, y1, y2, y3, y4, y5⟩ := a8.c6
      have fy := a8.f
      clear k6 a6 f6 b7 b8
      go_wp2_with fail
      refine bodyPost_ret (v := .tuple #[.agg #[.bool true, .int .i64 1, .int .i64 0, .int .u64 0, .string ⟨#[]⟩, .slice none 0 0], .nilIface]) (by simp [results, Tryz.results98, go_sem, World.cell?_setCell_same, World.cell?_setCell_other, y0, y1, y2, y3, y4, y5]) rfl ⟨g, c, rfl, ?_, ?_⟩
      · exact (((((k8.other _ _ (by show b ≠ w.heap.size + 1; omega)).other _ _ (by show b ≠ w.heap.size + 1; omega)).other _ _ (by show b ≠ w.heap.size + 1; omega)).other _ _ (by show b ≠ w.heap.size + 1; omega)).other _ _ (by show b ≠ w.heap.size + 1; omega)).other _ _ (by show b ≠ w.heap.size + 1; omega)
      · exact (((((f8.setCell _ _ (by omega) (.inr (by omega)) _).setCell _ _ (by omega) (.inr (by omega)) _).setCell _ _ (by omega) (.inr (by omega)) _).setCell _ _ (by omega) (.inr (by omega)) _).setCell _ _ (by omega) (.inr (by omega)) _).setCell _ _ (by omega) (.inr (by omega)) _
end Go.Proofs.YtgijdiplhcoojaaGreatDoor
