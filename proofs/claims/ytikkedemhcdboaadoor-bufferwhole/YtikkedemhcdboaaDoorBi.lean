/- The document's Tick; the conditions: the messages in memory, numbers that can be. -/
import Derived.Test.YtikkedemhcdboaaDoorBh
namespace Go.Proofs.YtikkedemhcdboaaDoor
open Go.RowKit

/-- A copy of messages. -/
def CzP (w : World) (l : List Ms) (e : Ending) (w' : World) : Prop := ∃ a c, e = .returned (.slice a l.length c) ∧ Mz (fun g => w.heap.size ≤ g ∧ g < w'.heap.size) w' a l ∧ Below w.heap.size w w'
theorem rcopy_sl (l : List Ms) (ad : Option Addr) (cap : Nat) (w : World) (hl : l.length ≤ 1000) (hI : Mw w ad l) (hp : Sm l) :
    Calls Tryd.prog 9 #[.slice ad l.length cap] w (CzP w l) :=
  (rcopy_any l ad cap w hl hI hp).mono fun e w' ⟨sl, xs, he, hm, hb⟩ => by
    obtain ⟨a, c, rfl, hz⟩ := hm.mz (F' := fun g => w.heap.size ≤ g ∧ g < w'.heap.size) (fun g hg => ⟨hg.1, hg.2.1⟩) (fun g hg => hm.own_lt g hg)
    exact ⟨a, c, he, hz, hb⟩

set_option maxRecDepth 100000 in
set_option maxHeartbeats 2000000 in
theorem rtick_go (l : List Ms) (ad : Option Addr) (c : Nat) (since b now : Int) (w : World) (hl : l.length ≤ 1000) (h1 : Mw w ad l) (hp : Sm l) (hb : 0 < b) (hn : 0 < l.length) (hs1 : 0 ≤ since) (hs2 : since ≤ 1099511627776) (hb2 : b ≤ 1000000) (hnow : since + b ≤ now) :
    Calls Tryd.prog 17 #[.agg #[.slice ad l.length c, .int .i64 since], .int .i64 b, .int .i64 now] w (BfZ w [] 0 l) := by
  obtain ⟨B0, S0, Z0⟩ := two_start w #[.slice ad l.length c, .int .i64 since] 24 #[.slice none 0 0, .int .i64 0]
  have HN := Lib.hid (rnext_yes l.length ad c since b ((w.alloc (.cells #[.slice ad l.length c, .int .i64 since] 24)).alloc (.cells #[.slice none 0 0, .int .i64 0] 24)) hb hn hs1 hs2 hb2)
  have HF : Hid (∀ wx, Below w.heap.size w wx → Calls Tryd.prog 9 #[.slice ad l.length c] wx (CzP wx l)) := fun wx hx => rcopy_sl l ad c wx hl (Mw.below h1 hx) hp
  clear h1 hp
  go_enter Tryd.func17, Tryd.ntmps17
  go_wp2_with (first | (go_at_call 20; refine HN.out.mono ?_; rintro e w1 ⟨rfl, b1⟩; have S1 := S0.step b1; have Z1 := Z0.step b1; have B1 := B0.trans (b1.mono B0.size); have hz1 := b1.size; simp only [World.size_alloc] at hz1; clear b1; obtain ⟨s0, s1⟩ := S1.c2) | (go_at_call 9; refine (HF.out w1 B1).mono ?_; rintro e w2 ⟨a2, c2, rfl, m2, b2⟩; have Z2 := Z1.step b2; obtain ⟨z0, z1⟩ := Z2.c2; have zf := Z2.f; have B2 := B1.trans (b2.mono B1.size); have E2 := Lib.hid (end_setZ (w := w) (w.heap.size + 1) (m2.to (F' := fun g => w1.heap.size ≤ g ∧ g < w2.heap.size ∧ g ≠ w.heap.size + 1) fun g hg => ⟨⟨hg.1, hg.2, by omega⟩, rfl⟩) (by omega)); clear m2 b2 Z2))
  refine bodyPost_ret (v := .tuple #[.agg #[.slice none 0 0, .int .i64 0], .slice a2 l.length c2]) (by simp [results, Tryd.results17, go_sem, World.cell?_setCell_same, World.cell?_setCell_other, z0, z1]) rfl ⟨none, 0, a2, c2, rfl, .inl rfl, ?_, ?_⟩
  · exact E2.out _ _ _ rfl
  · exact (B2.setCell (by simp) _).setCell (by simp) _

set_option maxRecDepth 100000 in
set_option maxHeartbeats 2000000 in
theorem rtick_stay (l : List Ms) (ad : Option Addr) (c : Nat) (since b now : Int) (w : World) (hl : l.length ≤ 1000) (h1 : Mw w ad l) (hp : Sm l) (hs1 : 0 ≤ since) (hs2 : since ≤ 1099511627776) (hb2 : b ≤ 1000000) (hno : b ≤ 0 ∨ l.length = 0 ∨ now < since + b) :
    Calls Tryd.prog 17 #[.agg #[.slice ad l.length c, .int .i64 since], .int .i64 b, .int .i64 now] w (BfZ w l since []) := by
  obtain ⟨B0, S0, Z0⟩ := two_start w #[.slice ad l.length c, .int .i64 since] 24 #[.slice none 0 0, .int .i64 0]
  have HC : Hid (∀ wx, Below w.heap.size w wx → Calls Tryd.prog 9 #[.slice ad l.length c] wx (CzP wx l)) := fun wx hx => rcopy_sl l ad c wx hl (Mw.below h1 hx) hp
  obtain ⟨T, OK, hN, hc⟩ : ∃ (T : Int) (OK : Bool), (∀ wx : World, Calls Tryd.prog 20 #[.agg #[.slice ad l.length c, .int .i64 since], .int .i64 b] wx fun e w' => e = .returned (.tuple #[.int .i64 T, .bool OK]) ∧ Below wx.heap.size wx w') ∧ (OK = false ∨ now < T) := by
    by_cases h : b ≤ 0 ∨ l.length = 0
    · exact ⟨0, false, fun wx => rnext_no _ _ _ _ _ wx h, .inl rfl⟩
    · exact ⟨since + b, true, fun wx => rnext_yes _ _ _ _ _ wx (by omega) (by omega) hs1 hs2 hb2, .inr (by omega)⟩
  have HN := Lib.hid hN
  have hcT : OK = false ∨ (OK = true ∧ now < T) := by
    cases OK with
    | false => exact .inl rfl
    | true => exact .inr ⟨rfl, hc.resolve_left (by simp)⟩
  clear h1 hp hN hc hno
  go_enter Tryd.func17, Tryd.ntmps17
  rcases hcT with rfl | ⟨rfl, hT⟩
  all_goals go_wp2_with (go_at_call 20; refine (HN.out _).mono ?_; rintro e w1 ⟨rfl, b1⟩; have S1 := S0.step b1; have Z1 := Z0.step b1; have B1 := B0.trans (b1.mono B0.size); have hz1 := b1.size; simp only [World.size_alloc] at hz1; clear b1; obtain ⟨s0, s1⟩ := S1.c2)
  all_goals have HX : Hid (∀ wx, Bk wx w.heap.size #[.slice ad l.length c, .int .i64 since] 24 → wx.cell? ⟨w.heap.size, 0, none⟩ = some (.slice ad l.length c) ∧ wx.cell? ⟨w.heap.size, 1, none⟩ = some (.int .i64 since)) := fun wx hx => hx.c2
  all_goals have HC1 := Lib.hid (HC.out w1.drew B1.drew)
  all_goals have Z1H := Lib.hid Z1
  all_goals have hne : w.heap.size ≠ w.heap.size + 1 := by omega
  all_goals clear Z1 HC HN
  all_goals go_region_held3 (fun wx => wx.cell? ⟨w.heap.size, 0, none⟩ = some (.slice ad l.length c) ∧ wx.cell? ⟨w.heap.size, 1, none⟩ = some (.int .i64 since)) (with_reducible exact HX.out _ (by with_reducible first | assumption | exact Bk.drew (by assumption) | exact Bk.other (Bk.other (by assumption) _ _ hne) _ _ hne)) ((go_at_call 9; refine HC1.out.mono ?_; rintro e w2 ⟨a1, c1, rfl, m1, b2⟩; have K2 : Below w1.heap.size w1 w2 := ((Below.refl w1.heap.size w1).drew).trans b2; have Z2 := Z1H.out.step K2; have S2 := S1.step K2; obtain ⟨z0, z1⟩ := Z2.c2; have zf := Z2.f; have B2 := B1.trans (K2.mono B1.size); have E2 := Lib.hid (end_setZ (w := w) (w.heap.size + 1) (m1.to (F' := fun g => w1.heap.size ≤ g ∧ g < w2.heap.size ∧ g ≠ w.heap.size + 1) fun g hg => ⟨⟨hg.1, hg.2, by have h9 : w1.heap.size ≤ g := hg.1; omega⟩, rfl⟩) (by omega)); clear m1 b2 Z2))
  all_goals go_wp2_with fail
  all_goals refine bodyPost_ret (v := .tuple #[.agg #[.slice a1 l.length c1, .int .i64 since], .slice none 0 0]) (by simp [results, Tryd.results17, go_sem, World.cell?_setCell_same, World.cell?_setCell_other, z0, z1]) rfl ⟨a1, c1, none, 0, rfl, ?_, .inl rfl, ?_⟩
  all_goals first | exact E2.out _ _ _ rfl | exact (B2.setCell (by simp) _).setCell (by simp) _
end Go.Proofs.YtikkedemhcdboaaDoor
