/- The law ShownWho at every chain that reads, and every number: true; what is asked of the world: the table of words as its text lays it. -/
import Derived.Test.YtcbplamomhimiaaDoorVn
import Derived.Test.YtcbplamomhimiaaDoorVo
namespace Go.Proofs.YtcbplamomhimiaaDoor
open Go.RowKit

set_option maxRecDepth 100000 in
set_option maxHeartbeats 4000000 in
theorem law_who (op num : Int) (c : Nat) (qs : List Wq) (ad : Option Addr) (cap n : Nat) (k0 : Int) (w : World) (h : ChR w c ad qs cap n) (hN : Wds w) :
    Calls Tryd.prog 4 #[.agg #[.int .i64 op, .int .i64 num, .int .u32 (c : Nat), .slice ad qs.length cap], .int .i64 k0] w fun e w' => e = .returned (.bool true) ∧ Below w.heap.size w w' := by
  have b0 := On.start w (.cells #[.int .i64 op, .int .i64 num, .int .u32 (c : Nat), .slice ad qs.length cap] 28)
  have HS : Hid (∀ wx, On w (.cells #[.int .i64 op, .int .i64 num, .int .u32 (c : Nat), .slice ad qs.length cap] 28) wx → wx.cell? ⟨w.heap.size, 0, none⟩ = some (.int .i64 op) ∧ wx.cell? ⟨w.heap.size, 1, none⟩ = some (.int .i64 num) ∧ wx.cell? ⟨w.heap.size, 2, none⟩ = some (.int .u32 (c : Nat)) ∧ wx.cell? ⟨w.heap.size, 3, none⟩ = some (.slice ad qs.length cap)) := fun wx h => ⟨h.cell 0, h.cell 1, h.cell 2, h.cell 3⟩
  have KA : Hid (∀ wx, On w (.cells #[.int .i64 op, .int .i64 num, .int .u32 (c : Nat), .slice ad qs.length cap] 28) wx → Calls Tryd.prog 10 #[] wx fun e w' => e = .returned (.bool true) ∧ On w (.cells #[.int .i64 op, .int .i64 num, .int .u32 (c : Nat), .slice ad qs.length cap] 28) w') := fun wx hx => (awake_any wx (hN.below hx.below)).mono fun e w' ⟨a, b⟩ => ⟨a, hx.step b⟩
  have KC : Hid (∀ wx, On w (.cells #[.int .i64 op, .int .i64 num, .int .u32 (c : Nat), .slice ad qs.length cap] 28) wx → Calls Tryd.prog 9 #[.agg #[.int .i64 op, .int .i64 num, .int .u32 (c : Nat), .slice ad qs.length cap]] wx fun e w' => ∃ b, e = .returned (.bool b) ∧ (b = true → ChOk w c ad qs ∧ qs.length ≤ 8) ∧ On w (.cells #[.int .i64 op, .int .i64 num, .int .u32 (c : Nat), .slice ad qs.length cap] 28) w') := fun wx hx => (rchain_any op num c qs ad cap n wx (h.below hx.below)).mono fun e w' ⟨b, a, f, hb⟩ => ⟨b, a, fun hb' => ⟨⟨(f hb').1, (f hb').2.1, by have := (f hb').2.2; omega, h.r, hN⟩, (f hb').2.2⟩, hx.step hb⟩
  clear h hN
  go_enter Tryd.func4, Tryd.ntmps4
  go_wp2_with fail
  refine (KC.out _ b0).mono ?_
  rintro e w1 ⟨bb, rfl, hbb, b1⟩
  obtain ⟨x0, x1, x2, x3⟩ := HS.out _ b1
  cases bb with
  | false =>
    go_wp2_with (first
      | (go_at_call 10; refine (KA.out _ b1).mono ?_; rintro e w2 ⟨rfl, b2⟩))
    go_ret
    exact ⟨rfl, b2.below⟩
  | true =>
    obtain ⟨hok, -⟩ := hbb rfl
    clear hbb KC x0 x1 x2 x3
    have KW : Hid (∀ (k : Int) wx, On w (.cells #[.int .i64 op, .int .i64 num, .int .u32 (c : Nat), .slice ad qs.length cap] 28) wx → Calls Tryd.prog 20 #[.agg #[.int .i64 op, .int .i64 num, .int .u32 (c : Nat), .slice ad qs.length cap], .int .i64 k] wx fun e w' => e = .returned (.int .i64 (who c (rv qs qs.length) k)) ∧ On w (.cells #[.int .i64 op, .int .i64 num, .int .u32 (c : Nat), .slice ad qs.length cap] 28) w') := fun k wx hx => (pwho_any op num c qs ad cap k wx (hok.below hx.below)).mono fun e w' ⟨a, b⟩ => ⟨a, hx.step b⟩
    have KV : Hid (∀ (k : Int) wx, On w (.cells #[.int .i64 op, .int .i64 num, .int .u32 (c : Nat), .slice ad qs.length cap] 28) wx → Calls Tryd.prog 21 #[.agg #[.int .i64 op, .int .i64 num, .int .u32 (c : Nat), .slice ad qs.length cap], .int .i64 k] wx fun e w' => e = .returned (.int .i64 (who c (rv qs qs.length) k)) ∧ On w (.cells #[.int .i64 op, .int .i64 num, .int .u32 (c : Nat), .slice ad qs.length cap] 28) w') := fun k wx hx => (rwho_any op num c qs ad cap k wx (hok.below hx.below)).mono fun e w' ⟨a, b⟩ => ⟨a, hx.step b⟩
    have KR : Hid (∀ (k : Int) wx, On w (.cells #[.int .i64 op, .int .i64 num, .int .u32 (c : Nat), .slice ad qs.length cap] 28) wx → Calls Tryd.prog 22 #[.agg #[.int .i64 op, .int .i64 num, .int .u32 (c : Nat), .slice ad qs.length cap], .int .i64 k] wx fun e w' => e = .returned (.int .i64 (rch c (rv qs qs.length) k)) ∧ On w (.cells #[.int .i64 op, .int .i64 num, .int .u32 (c : Nat), .slice ad qs.length cap] 28) w') := fun k wx hx => (preach_any op num c qs ad cap k wx (hok.below hx.below)).mono fun e w' ⟨a, b⟩ => ⟨a, hx.step b⟩
    have KQ : Hid (∀ (k : Int) wx, On w (.cells #[.int .i64 op, .int .i64 num, .int .u32 (c : Nat), .slice ad qs.length cap] 28) wx → Calls Tryd.prog 23 #[.agg #[.int .i64 op, .int .i64 num, .int .u32 (c : Nat), .slice ad qs.length cap], .int .i64 k] wx fun e w' => e = .returned (.int .i64 (rch c (rv qs qs.length) k)) ∧ On w (.cells #[.int .i64 op, .int .i64 num, .int .u32 (c : Nat), .slice ad qs.length cap] 28) w') := fun k wx hx => (rreach_any op num c qs ad cap k wx (hok.below hx.below)).mono fun e w' ⟨a, b⟩ => ⟨a, hx.step b⟩
    clear hok
    generalize rv qs qs.length = ws at KW KV KR KQ
    go_wp2_with fail
    go_loopw [5] (fun s5 wr => ∃ (j : Nat), s5 = .int .i64 j ∧ j ≤ 11 ∧ On w (.cells #[.int .i64 op, .int .i64 num, .int .u32 (c : Nat), .slice ad qs.length cap] 28) wr) (fun s5 _ => 11 - (intOf s5).toNat)
    case atStart => exact ⟨0, rfl, Nat.zero_le _, b1⟩
    case round =>
      obtain ⟨j, rfl, hj, hb⟩ := hrel
      by_cases hlt : j < 11
      · have KWj := Lib.hid (KW.out (j : Nat))
        have KVj := Lib.hid (KV.out (j : Nat))
        have KRj := Lib.hid (KR.out (j : Nat))
        have KQj := Lib.hid (KQ.out (j : Nat))
        generalize who c ws (j : Nat) = W at KWj KVj
        generalize rch c ws (j : Nat) = R at KRj KQj
        have hj1 : ((j : Nat) : Int) < 11 := by omega
        clear KW KV KR KQ KA b1 b0
        go_wp2_with fail
        go_region_held3 (fun w' => w'.cell? ⟨w.heap.size, 0, none⟩ = some (.int .i64 op) ∧ w'.cell? ⟨w.heap.size, 1, none⟩ = some (.int .i64 num) ∧ w'.cell? ⟨w.heap.size, 2, none⟩ = some (.int .u32 (c : Nat)) ∧ w'.cell? ⟨w.heap.size, 3, none⟩ = some (.slice ad qs.length cap)) (exact HS.out _ (by first | assumption | exact On.drew (by assumption))) (first
          | (go_at_call 20; refine (KWj.out _ (by first | assumption | exact On.drew (by assumption))).mono ?_; rintro e wa ⟨rfl, ba⟩)
          | (go_at_call 21; refine (KVj.out _ (by first | assumption | exact On.drew (by assumption))).mono ?_; rintro e wb ⟨rfl, bb⟩)
          | (go_at_call 22; refine (KRj.out _ (by first | assumption | exact On.drew (by assumption))).mono ?_; rintro e wc ⟨rfl, bc⟩)
          | (go_at_call 23; refine (KQj.out _ (by first | assumption | exact On.drew (by assumption))).mono ?_; rintro e wd ⟨rfl, bd⟩))
        all_goals go_wp2
        all_goals exact ⟨⟨j + 1, by go_num, by omega, by first | assumption | exact On.drew (by assumption)⟩, by simp [intOf] <;> omega⟩
      · have hje : j = 11 := by omega
        subst hje
        have KWj := Lib.hid (KW.out k0)
        have KVj := Lib.hid (KV.out k0)
        have KRj := Lib.hid (KR.out k0)
        have KQj := Lib.hid (KQ.out k0)
        generalize who c ws k0 = W at KWj KVj
        generalize rch c ws k0 = R at KRj KQj
        clear KW KV KR KQ b1 b0
        go_wp2_with fail
        go_region_held3 (fun w' => w'.cell? ⟨w.heap.size, 0, none⟩ = some (.int .i64 op) ∧ w'.cell? ⟨w.heap.size, 1, none⟩ = some (.int .i64 num) ∧ w'.cell? ⟨w.heap.size, 2, none⟩ = some (.int .u32 (c : Nat)) ∧ w'.cell? ⟨w.heap.size, 3, none⟩ = some (.slice ad qs.length cap)) (exact HS.out _ (by first | assumption | exact On.drew (by assumption))) (first
          | (go_at_call 20; refine (KWj.out _ (by first | assumption | exact On.drew (by assumption))).mono ?_; rintro e wa ⟨rfl, ba⟩)
          | (go_at_call 21; refine (KVj.out _ (by first | assumption | exact On.drew (by assumption))).mono ?_; rintro e wb ⟨rfl, bb⟩)
          | (go_at_call 22; refine (KRj.out _ (by first | assumption | exact On.drew (by assumption))).mono ?_; rintro e wc ⟨rfl, bc⟩)
          | (go_at_call 23; refine (KQj.out _ (by first | assumption | exact On.drew (by assumption))).mono ?_; rintro e wd ⟨rfl, bd⟩)
          | (go_at_call 10; refine (KA.out _ (by first | assumption | exact On.drew (by assumption))).mono ?_; rintro e we ⟨rfl, be⟩))
        all_goals go_wp2
        all_goals go_ret
        all_goals exact ⟨rfl, On.below (by first | assumption | exact On.drew (by assumption))⟩
end Go.Proofs.YtcbplamomhimiaaDoor
