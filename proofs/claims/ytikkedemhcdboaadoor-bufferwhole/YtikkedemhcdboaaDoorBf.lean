/- All that is held, the next tick at which something goes, what goes by time; the conditions: the messages in memory, numbers that can be. -/
import Derived.Test.YtikkedemhcdboaaDoorBe
namespace Go.Proofs.YtikkedemhcdboaaDoor
open Go.RowKit

theorem two_start (w : World) (st : Array Value) (T1 : TypeId) (z : Array Value) : Below w.heap.size w ((w.alloc (.cells st T1)).alloc (.cells z T1)) ∧ Bk ((w.alloc (.cells st T1)).alloc (.cells z T1)) w.heap.size st T1 ∧ Bk ((w.alloc (.cells st T1)).alloc (.cells z T1)) (w.heap.size + 1) z T1 :=
  ⟨below2 w _ _, (Bk.new w _ _).alloc _, Bk.new2 w _ _ _⟩

set_option maxRecDepth 100000 in
set_option maxHeartbeats 2000000 in
theorem flush_any (l : List Ms) (ad : Option Addr) (c : Nat) (since : Int) (w : World) (hl : l.length ≤ 1000) (h1 : Mw w ad l) (hp : Sm l) :
    Calls Tryd.prog 18 #[.agg #[.slice ad l.length c, .int .i64 since]] w (BfP w [] 0 l) := by
  obtain ⟨B0, S0, Z0⟩ := two_start w #[.slice ad l.length c, .int .i64 since] 24 #[.slice none 0 0, .int .i64 0]
  have HC := Lib.hid (copied_any l [] ad none c 0 _ (by simpa using hl) (Mw.below h1 B0) (.inl rfl) (by simpa using hp))
  simp only [List.append_nil, List.length_nil] at HC
  clear h1 hp
  go_enter Tryd.func18, Tryd.ntmps18
  go_wp2_with (go_at_call 25; refine HC.out.mono ?_; rintro e w1 ⟨a1, c1, rfl, n1, m1, b1⟩; have S2 := S0.step b1; have Z2 := Z0.step b1; obtain ⟨s0, s1⟩ := S2.c2; obtain ⟨z0, z1⟩ := Z2.c2; have zf := Z2.f; have B2 := B0.trans (b1.mono B0.size); have n2 := Lib.hid n1; have E2 := Lib.hid (end_set (w := w) (w.heap.size + 1) m1 (by simp) (by simp; omega)); clear m1 n1 b1 S2 Z2)
  refine bodyPost_ret (v := .tuple #[.agg #[.slice none 0 0, .int .i64 0], .slice a1 l.length c1]) (by simp [results, Tryd.results18, go_sem, World.cell?_setCell_same, World.cell?_setCell_other, z0, z1]) rfl ⟨none, 0, a1, c1, rfl, fun _ => ⟨rfl, rfl⟩, n2.out, .inl rfl, ?_, ?_⟩
  · exact E2.out _ _ _ rfl
  · exact (B2.setCell (by simp) _).setCell (by simp) _

set_option maxHeartbeats 1000000 in
theorem next_no (n : Nat) (ad : Option Addr) (c : Nat) (since b : Int) (w : World) (h : b ≤ 0 ∨ n = 0) :
    Calls Tryd.prog 19 #[.agg #[.slice ad n c, .int .i64 since], .int .i64 b] w fun e w' => e = .returned (.tuple #[.int .i64 0, .bool false]) ∧ Below w.heap.size w w' := by
  by_cases hb : b ≤ 0
  · go_enter Tryd.func19, Tryd.ntmps19
    go_wp2
    go_ret2
    exact ⟨rfl, below1 _ _⟩
  · obtain rfl : n = 0 := by omega
    go_enter Tryd.func19, Tryd.ntmps19
    go_wp2
    go_ret2
    exact ⟨rfl, below1 _ _⟩
set_option maxHeartbeats 1000000 in
theorem next_yes (n : Nat) (ad : Option Addr) (c : Nat) (since b : Int) (w : World) (hb : 0 < b) (hn : 0 < n) (h1 : 0 ≤ since) (h2 : since ≤ 1099511627776) (h3 : b ≤ 1000000) :
    Calls Tryd.prog 19 #[.agg #[.slice ad n c, .int .i64 since], .int .i64 b] w fun e w' => e = .returned (.tuple #[.int .i64 (since + b), .bool true]) ∧ Below w.heap.size w w' := by
  have hn' : (0 : Int) < n := by omega
  have hn0 : ((n : Int) == 0) = false := by simp; omega
  have hb0 : ¬ b ≤ 0 := by omega
  go_enter Tryd.func19, Tryd.ntmps19
  go_wp2
  go_ret2
  exact ⟨rfl, below1 _ _⟩
set_option maxHeartbeats 1000000 in
theorem rnext_no (n : Nat) (ad : Option Addr) (c : Nat) (since b : Int) (w : World) (h : b ≤ 0 ∨ n = 0) :
    Calls Tryd.prog 20 #[.agg #[.slice ad n c, .int .i64 since], .int .i64 b] w fun e w' => e = .returned (.tuple #[.int .i64 0, .bool false]) ∧ Below w.heap.size w w' := by
  by_cases hb : b ≤ 0
  · go_enter Tryd.func20, Tryd.ntmps20
    go_wp2
    go_ret2
    exact ⟨rfl, below1 _ _⟩
  · obtain rfl : n = 0 := by omega
    go_enter Tryd.func20, Tryd.ntmps20
    go_wp2
    go_ret2
    exact ⟨rfl, below1 _ _⟩
set_option maxHeartbeats 1000000 in
theorem rnext_yes (n : Nat) (ad : Option Addr) (c : Nat) (since b : Int) (w : World) (hb : 0 < b) (hn : 0 < n) (h1 : 0 ≤ since) (h2 : since ≤ 1099511627776) (h3 : b ≤ 1000000) :
    Calls Tryd.prog 20 #[.agg #[.slice ad n c, .int .i64 since], .int .i64 b] w fun e w' => e = .returned (.tuple #[.int .i64 (since + b), .bool true]) ∧ Below w.heap.size w w' := by
  have hn' : (0 : Int) < n := by omega
  have hn0 : ((n : Int) == 0) = false := by simp; omega
  have hb0 : ¬ b ≤ 0 := by omega
  go_enter Tryd.func20, Tryd.ntmps20
  go_wp2
  go_ret2
  exact ⟨rfl, below1 _ _⟩

set_option maxRecDepth 100000 in
set_option maxHeartbeats 2000000 in
theorem tick_go (l : List Ms) (ad : Option Addr) (c : Nat) (since b now : Int) (w : World) (hl : l.length ≤ 1000) (h1 : Mw w ad l) (hp : Sm l) (hb : 0 < b) (hn : 0 < l.length) (hs1 : 0 ≤ since) (hs2 : since ≤ 1099511627776) (hb2 : b ≤ 1000000) (hnow : since + b ≤ now) :
    Calls Tryd.prog 16 #[.agg #[.slice ad l.length c, .int .i64 since], .int .i64 b, .int .i64 now] w (BfP w [] 0 l) := by
  obtain ⟨B0, S0, Z0⟩ := two_start w #[.slice ad l.length c, .int .i64 since] 24 #[.slice none 0 0, .int .i64 0]
  have HN := Lib.hid (next_yes l.length ad c since b ((w.alloc (.cells #[.slice ad l.length c, .int .i64 since] 24)).alloc (.cells #[.slice none 0 0, .int .i64 0] 24)) hb hn hs1 hs2 hb2)
  have HF : Hid (∀ wx, Below w.heap.size w wx → Calls Tryd.prog 18 #[.agg #[.slice ad l.length c, .int .i64 since]] wx (BfP wx [] 0 l)) := fun wx hx => flush_any l ad c since wx hl (Mw.below h1 hx) hp
  clear h1 hp
  go_enter Tryd.func16, Tryd.ntmps16
  go_wp2_with (first | (go_at_call 19; refine HN.out.mono ?_; rintro e w1 ⟨rfl, b1⟩; have S1 := S0.step b1; have Z1 := Z0.step b1; have B1 := B0.trans (b1.mono B0.size); have hz1 := b1.size; simp only [World.size_alloc] at hz1; clear b1; obtain ⟨s0, s1⟩ := S1.c2) | (go_at_call 18; refine (HF.out w1 B1).mono ?_; rintro e w2 ⟨a1, c1, a2, c2, rfl, n1, n2, m1, m2, b2⟩; have Z2 := Z1.step b2; obtain ⟨z0, z1⟩ := Z2.c2; have zf := Z2.f; have B2 := B1.trans (b2.mono B1.size); have N1 := n1 rfl; have N2 := Lib.hid n2; have E2 := Lib.hid (end_set (w := w) (w.heap.size + 1) m2 (by omega) (by omega)); clear m1 m2 n1 n2 b2 Z2))
  obtain ⟨rfl, rfl⟩ := N1
  refine bodyPost_ret (v := .tuple #[.agg #[.slice none 0 0, .int .i64 0], .slice a2 l.length c2]) (by simp [results, Tryd.results16, go_sem, World.cell?_setCell_same, World.cell?_setCell_other, z0, z1]) rfl ⟨none, 0, a2, c2, rfl, fun _ => ⟨rfl, rfl⟩, N2.out, .inl rfl, ?_, ?_⟩
  · exact E2.out _ _ _ rfl
  · exact (B2.setCell (by simp) _).setCell (by simp) _

set_option maxRecDepth 100000 in
set_option maxHeartbeats 2000000 in
theorem tick_stay (l : List Ms) (ad : Option Addr) (c : Nat) (since b now : Int) (w : World) (hl : l.length ≤ 1000) (h1 : Mw w ad l) (hp : Sm l) (hs1 : 0 ≤ since) (hs2 : since ≤ 1099511627776) (hb2 : b ≤ 1000000) (hno : b ≤ 0 ∨ l.length = 0 ∨ now < since + b) :
    Calls Tryd.prog 16 #[.agg #[.slice ad l.length c, .int .i64 since], .int .i64 b, .int .i64 now] w (BfP w l since []) := by
  obtain ⟨B0, S0, Z0⟩ := two_start w #[.slice ad l.length c, .int .i64 since] 24 #[.slice none 0 0, .int .i64 0]
  have HC : Hid (∀ wx, Below w.heap.size w wx → Calls Tryd.prog 25 #[.slice ad l.length c, .slice none 0 0] wx (CpP wx l)) := fun wx hx => by
    have := copied_any l [] ad none c 0 wx (by simpa using hl) (Mw.below h1 hx) (.inl rfl) (by simpa using hp)
    simpa using this
  obtain ⟨T, OK, hN, hc⟩ : ∃ (T : Int) (OK : Bool), (∀ wx : World, Calls Tryd.prog 19 #[.agg #[.slice ad l.length c, .int .i64 since], .int .i64 b] wx fun e w' => e = .returned (.tuple #[.int .i64 T, .bool OK]) ∧ Below wx.heap.size wx w') ∧ (OK = false ∨ now < T) := by
    by_cases h : b ≤ 0 ∨ l.length = 0
    · exact ⟨0, false, fun wx => next_no _ _ _ _ _ wx h, .inl rfl⟩
    · exact ⟨since + b, true, fun wx => next_yes _ _ _ _ _ wx (by omega) (by omega) hs1 hs2 hb2, .inr (by omega)⟩
  have HN := Lib.hid hN
  have hcT : OK = false ∨ (OK = true ∧ now < T) := by
    cases OK with
    | false => exact .inl rfl
    | true => exact .inr ⟨rfl, hc.resolve_left (by simp)⟩
  clear h1 hp hN hc hno
  go_enter Tryd.func16, Tryd.ntmps16
  rcases hcT with rfl | ⟨rfl, hT⟩
  all_goals go_wp2_with (go_at_call 19; refine (HN.out _).mono ?_; rintro e w1 ⟨rfl, b1⟩; have S1 := S0.step b1; have Z1 := Z0.step b1; have B1 := B0.trans (b1.mono B0.size); have hz1 := b1.size; simp only [World.size_alloc] at hz1; clear b1; obtain ⟨s0, s1⟩ := S1.c2)
  all_goals have HX : Hid (∀ wx, Bk wx w.heap.size #[.slice ad l.length c, .int .i64 since] 24 → wx.cell? ⟨w.heap.size, 0, none⟩ = some (.slice ad l.length c) ∧ wx.cell? ⟨w.heap.size, 1, none⟩ = some (.int .i64 since)) := fun wx hx => hx.c2
  all_goals have HC1 := Lib.hid (HC.out w1.drew B1.drew)
  all_goals have Z1H := Lib.hid Z1
  all_goals have hne : w.heap.size ≠ w.heap.size + 1 := by omega
  all_goals clear Z1 HC HN
  all_goals go_region_held3 (fun wx => wx.cell? ⟨w.heap.size, 0, none⟩ = some (.slice ad l.length c) ∧ wx.cell? ⟨w.heap.size, 1, none⟩ = some (.int .i64 since)) (with_reducible exact HX.out _ (by with_reducible first | assumption | exact Bk.drew (by assumption) | exact Bk.other (Bk.other (by assumption) _ _ hne) _ _ hne)) ((go_at_call 25; refine HC1.out.mono ?_; rintro e w2 ⟨a1, c1, rfl, n1, m1, b2⟩; have K2 : Below w1.heap.size w1 w2 := ((Below.refl w1.heap.size w1).drew).trans b2; have Z2 := Z1H.out.step K2; have S2 := S1.step K2; obtain ⟨z0, z1⟩ := Z2.c2; have zf := Z2.f; have B2 := B1.trans (K2.mono B1.size); have N2 := Lib.hid n1; have E2 := Lib.hid (end_set (w := w) (w.heap.size + 1) m1 (by show _ < w1.heap.size; omega) (by show _ ≤ w1.heap.size; omega)); clear m1 n1 b2 Z2))
  all_goals go_wp2_with fail
  all_goals refine bodyPost_ret (v := .tuple #[.agg #[.slice a1 l.length c1, .int .i64 since], .slice none 0 0]) (by simp [results, Tryd.results16, go_sem, World.cell?_setCell_same, World.cell?_setCell_other, z0, z1]) rfl ⟨a1, c1, none, 0, rfl, N2.out, fun _ => ⟨rfl, rfl⟩, ?_, .inl rfl, ?_⟩
  all_goals first | exact E2.out _ _ _ rfl | exact (B2.setCell (by simp) _).setCell (by simp) _
end Go.Proofs.YtikkedemhcdboaaDoor
