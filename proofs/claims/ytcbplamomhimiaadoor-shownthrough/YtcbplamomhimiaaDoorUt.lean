/- around and levels of the package: a row of the levels' values, in new memory; what is asked of the world: the wrappers where they are told to lie. -/
import Derived.Test.YtcbplamomhimiaaDoorUs
import Derived.Deep.AppendLies
namespace Go.Proofs.YtcbplamomhimiaaDoor
open Go.RowKit

theorem wcs8 (x : Wr) (A B w0 w1 : Int) (wa : Option Addr) (wl wc : Nat) : wcs x A B w0 w1 wa wl wc = #[.int .i64 x.op, .int .i64 A, .int .i64 B, .int .u32 (x.cp : Nat), .int .i64 w0, .int .i64 w1, .slice wa wl wc, .bool x.on] := rfl

set_option maxRecDepth 100000 in
set_option maxHeartbeats 2000000 in
theorem around_any (t : TypeId) (z : Value) (x : Wr) (hx : okr x) (A B w0 w1 : Int) (wa : Option Addr) (wl wc : Nat) (w : World) :
    Calls Tryd.prog 31 #[.iface t z, .agg (wcs x A B w0 w1 wa wl wc)] w fun e w' => e = .returned (aro (.iface t z) x) ∧ Below w.heap.size w w' := by
  have e1 := (u32_bits (own x) 1024 (by have := own_lt hx.2.2; omega) (by decide)).2.1
  obtain ⟨tc, zc, ec⟩ := clo_ifc (.iface t z) x
  have b0 := On.start w (.cells (wcs x A B w0 w1 wa wl wc) 35)
  have KC : Hid (∀ wx, On w (.cells (wcs x A B w0 w1 wa wl wc) 35) wx → Calls Tryd.prog 49 #[.iface t z, .agg (wcs x A B w0 w1 wa wl wc)] wx fun e w' => e = .returned (.iface tc zc) ∧ On w (.cells (wcs x A B w0 w1 wa wl wc) 35) w') := fun wx hx' => (closed_any t z x hx A B w0 w1 wa wl wc wx).mono fun e w' ⟨a, b⟩ => ⟨by rw [a, ec], hx'.step b⟩
  have KG : Hid (∀ wx, On w (.cells (wcs x A B w0 w1 wa wl wc) 35) wx → Calls Tryd.prog 30 #[.iface tc zc] wx fun e w' => e = .returned (.int .u32 (own x : Nat)) ∧ On w (.cells (wcs x A B w0 w1 wa wl wc) 35) w') := fun wx hx' => by
    have := gives_clo (.iface t z) x wx
    rw [ec] at this
    exact this.mono fun e w' ⟨a, b⟩ => ⟨a, hx'.step b⟩
  have HR : Hid (aro (.iface t z) x = if x.on = true then .iface 86 (.agg #[.iface tc zc, .int .u32 (own x ||| 1024 : Nat), .iface t z]) else .iface tc zc) := Lib.hid (by unfold aro opd; rw [ec])
  have HS : Hid (∀ wx, On w (.cells (wcs x A B w0 w1 wa wl wc) 35) wx → wx.cell? ⟨w.heap.size, 7, none⟩ = some (.bool x.on)) := fun wx h => h.cell 7
  clear ec hx
  generalize aro (.iface t z) x = R at HR
  generalize own x = ox at KG HR e1
  obtain ⟨op, cp, on⟩ := x
  rw [wcs8] at KC KG HS b0 ⊢
  cases on
  all_goals
    go_enter Tryd.func31, Tryd.ntmps31
    go_wp2_with (first
      | (go_at_call 49; refine (KC.out _ b0).mono ?_; rintro e w2 ⟨rfl, b2⟩; have x7 := HS.out _ b2)
      | (go_at_call 30; refine (KG.out _ b2).mono ?_; rintro e w3 ⟨rfl, b3⟩))
    go_ret
    exact ⟨by rw [HR.out]; first | rfl | (rw [← e1]; rfl), On.below (by assumption)⟩
end Go.Proofs.YtcbplamomhimiaaDoor
