/- Messages put into a buffer, all of them let go, those let go by time; the conditions: the messages in memory, of a size that can be. -/
import Derived.Test.YtikkedemhcdboaaDoorBd
namespace Go.Proofs.YtikkedemhcdboaaDoor
open Go.RowKit

theorem Bk.c2 {w : World} {N : Nat} {v0 v1 : Value} {T : TypeId} (h : Bk w N #[v0, v1] T) : w.cell? ⟨N, 0, none⟩ = some v0 ∧ w.cell? ⟨N, 1, none⟩ = some v1 := ⟨h.c 0, h.c 1⟩
/-- A state and messages come back, in new memory that may be written. -/
def BfP (w : World) (l1 : List Ms) (s1 : Int) (l2 : List Ms) (e : Ending) (w' : World) : Prop := ∃ a1 c1 a2 c2, e = .returned (.tuple #[.agg #[.slice a1 l1.length c1, .int .i64 s1], .slice a2 l2.length c2]) ∧ (l1 = [] → a1 = none ∧ c1 = 0) ∧ (l2 = [] → a2 = none ∧ c2 = 0) ∧ Mf (fun g => w.heap.size ≤ g ∧ g < w'.heap.size) w' a1 l1 ∧ Mf (fun g => w.heap.size ≤ g ∧ g < w'.heap.size) w' a2 l2 ∧ Below w.heap.size w w'
/-- The three blocks that Put makes of its own. -/
theorem put_start (w : World) (st : Array Value) (ms : Array Value) (T1 T2 : TypeId) (z : Array Value) : Below w.heap.size w (((w.alloc (.cells st T1)).alloc (.cells ms T2)).alloc (.cells z T1)) ∧ Bk (((w.alloc (.cells st T1)).alloc (.cells ms T2)).alloc (.cells z T1)) w.heap.size st T1 ∧ Bk (((w.alloc (.cells st T1)).alloc (.cells ms T2)).alloc (.cells z T1)) (w.heap.size + 1) ms T2 ∧ Bk (((w.alloc (.cells st T1)).alloc (.cells ms T2)).alloc (.cells z T1)) (w.heap.size + 1 + 1) z T1 := by
  refine ⟨(((Below.refl _ w).alloc (Nat.le_refl _) _).alloc (by simp) _).alloc (by simp; omega) _, ((Bk.new w _ _).alloc _).alloc _, (Bk.new2 w _ _ _).alloc _, ?_⟩
  have := Bk.new2 (w.alloc (.cells st T1)) (.cells ms T2) z T1
  rwa [World.size_alloc] at this

/-- What Put gives. -/
def PutP (w : World) (l : List Ms) (x : Ms) (since a now : Int) (e : Ending) (w' : World) : Prop := (a ≤ (l.length : Int) + 1 → BfP w [] 0 (l ++ [x]) e w') ∧ ((l.length : Int) + 1 < a → (l = [] → BfP w [x] now [] e w') ∧ (l ≠ [] → BfP w (l ++ [x]) since [] e w'))
/-- What was made behind a block of one's own stays where that block is written. -/
theorem end_set {w w1 : World} {n0 : Nat} {a1 : Option Addr} {L : List Ms} (N : Nat) (m1 : Mf (fun g => n0 ≤ g ∧ g < w1.heap.size) w1 a1 L) (hN : N < n0) (hn : w.heap.size ≤ n0) : ∀ (v0 v1 : Value) (W : World), W = (w1.setCell ⟨N, 0, none⟩ v0).setCell ⟨N, 1, none⟩ v1 → Mf (fun g => w.heap.size ≤ g ∧ g < W.heap.size) W a1 L := fun v0 v1 W hW => by
  subst hW
  refine m1.to fun g hg => ⟨⟨by omega, by simpa using hg.2⟩, ?_⟩
  rw [Below.heap_setCell _ _ _ g (by show g ≠ N; omega), Below.heap_setCell _ _ _ g (by show g ≠ N; omega)]

set_option maxRecDepth 100000 in
set_option maxHeartbeats 2000000 in
theorem put_any (l : List Ms) (x : Ms) (d : Bo) (ad : Option Addr) (c : Nat) (since a now : Int) (w : World) (hl : l.length + 1 ≤ 1000) (h1 : Mw w ad l) (hx : Dt.Rep w x.n d.vs x.t) (hp : Sm (l ++ [x])) :
    Calls Tryd.prog 10 #[.agg #[.slice ad l.length c, .int .i64 since], .int .i64 a, .int .i64 now, .agg (x.cs d)] w (PutP w l x since a now) := by
  obtain ⟨B0, S0, M0, Z0⟩ := put_start w #[.slice ad l.length c, .int .i64 since] (x.cs d) 24 30 #[.slice none 0 0, .int .i64 0]
  have N0 := Bk.new (((w.alloc (.cells #[.slice ad l.length c, .int .i64 since] 24)).alloc (.cells (x.cs d) 30)).alloc (.cells #[.slice none 0 0, .int .i64 0] 24)) (x.cs d) 30
  have bN := below1 (((w.alloc (.cells #[.slice ad l.length c, .int .i64 since] 24)).alloc (.cells (x.cs d) 30)).alloc (.cells #[.slice none 0 0, .int .i64 0] 24)) (.cells (x.cs d) 30)
  have BB := B0.trans (bN.mono B0.size)
  have Rx := Dt.Rep.below BB _ _ _ hx
  have one : Mw ((((w.alloc (.cells #[.slice ad l.length c, .int .i64 since] 24)).alloc (.cells (x.cs d) 30)).alloc (.cells #[.slice none 0 0, .int .i64 0] 24)).alloc (.cells (x.cs d) 30)) (some ⟨(((w.alloc (.cells #[.slice ad l.length c, .int .i64 since] 24)).alloc (.cells (x.cs d) 30)).alloc (.cells #[.slice none 0 0, .int .i64 0] 24)).heap.size, 0, none⟩) [x] := mz_one N0 N0.lt (Rz.of_rep _ _ _ Rx)
  have HC := Lib.hid (copied_any l [x] ad _ c 1 _ (by simp; omega) (Mw.below h1 BB) one hp)
  have S1 := S0.alloc (.cells (x.cs d) 30)
  have Z1 := Z0.alloc (.cells (x.cs d) 30)
  simp only [World.size_alloc] at HC
  clear h1 hx hp B0 M0 N0 bN Rx one S0 Z0
  go_enter Tryd.func10, Tryd.ntmps10
  by_cases ha : a ≤ (l.length : Int) + 1
  · go_wp2_with (go_at_call 25; refine HC.out.mono ?_; rintro e w1 ⟨a1, c1, rfl, n1, m1, b1⟩; have S2 := S1.step b1; have Z2 := Z1.step b1; obtain ⟨s0, s1⟩ := S2.c2; obtain ⟨z0, z1⟩ := Z2.c2; have zf := Z2.f; have B2 := BB.trans (b1.mono BB.size); have m2 := Lib.hid m1; have n2 := Lib.hid n1; have E2 := Lib.hid (end_set (w := w) (w.heap.size + 1 + 1) m1 (by simp) (by simp; omega)); clear m1 n1 b1 S2 Z2)
    refine bodyPost_ret (v := .tuple #[.agg #[.slice none 0 0, .int .i64 0], .slice a1 (l.length + 1) c1]) (by simp [results, Tryd.results10, go_sem, World.cell?_setCell_same, World.cell?_setCell_other, z0, z1]) rfl ⟨fun _ => ⟨none, 0, a1, c1, by simp, fun _ => ⟨rfl, rfl⟩, fun e => by simp at e, .inl rfl, ?_, ?_⟩, fun h => absurd h (by omega)⟩
    · exact E2.out _ _ _ rfl
    · exact (B2.setCell (by simp; omega) _).setCell (by simp; omega) _
  · by_cases hl0 : l = []
    · subst hl0
      have hn0 : (([] : List Ms).length : Int) = 0 := rfl
      go_wp2_with (go_at_call 25; refine HC.out.mono ?_; rintro e w1 ⟨a1, c1, rfl, n1, m1, b1⟩; have S2 := S1.step b1; have Z2 := Z1.step b1; obtain ⟨s0, s1⟩ := S2.c2; obtain ⟨z0, z1⟩ := Z2.c2; have zf := Z2.f; have B2 := BB.trans (b1.mono BB.size); have m2 := Lib.hid m1; have n2 := Lib.hid n1; have E2 := Lib.hid (end_set (w := w) (w.heap.size + 1 + 1) m1 (by simp) (by simp; omega)); clear m1 n1 b1 S2 Z2)
      refine bodyPost_ret (v := .tuple #[.agg #[.slice a1 1 c1, .int .i64 now], .slice none 0 0]) (by simp [results, Tryd.results10, go_sem, World.cell?_setCell_same, World.cell?_setCell_other, z0, z1]) rfl ⟨fun h => absurd h (by simp at ha ⊢; omega), fun _ => ⟨fun _ => ⟨a1, c1, none, 0, by simp, fun e => by simp at e, fun _ => ⟨rfl, rfl⟩, ?_, .inl rfl, ?_⟩, fun h => absurd rfl h⟩⟩
      · exact E2.out _ _ _ rfl
      · exact (B2.setCell (by simp; omega) _).setCell (by simp; omega) _
    · have hpos : (0 : Int) < l.length := by have := List.length_pos_iff.2 hl0; omega
      have hpos' : 0 < l.length := List.length_pos_iff.2 hl0
      have HL0 := Lib.hid hl0
      clear hl0
      go_wp2_with (go_at_call 25; refine HC.out.mono ?_; rintro e w1 ⟨a1, c1, rfl, n1, m1, b1⟩; have S2 := S1.step b1; have Z2 := Z1.step b1; obtain ⟨s0, s1⟩ := S2.c2; obtain ⟨z0, z1⟩ := Z2.c2; have zf := Z2.f; have B2 := BB.trans (b1.mono BB.size); have m2 := Lib.hid m1; have n2 := Lib.hid n1; have E2 := Lib.hid (end_set (w := w) (w.heap.size + 1 + 1) m1 (by simp) (by simp; omega)); clear m1 n1 b1 S2 Z2)
      refine bodyPost_ret (v := .tuple #[.agg #[.slice a1 (l.length + 1) c1, .int .i64 since], .slice none 0 0]) (by simp [results, Tryd.results10, go_sem, World.cell?_setCell_same, World.cell?_setCell_other, z0, z1]) rfl ⟨fun h => absurd h (by simp at ha ⊢; omega), fun _ => ⟨fun h => absurd h HL0.out, fun _ => ⟨a1, c1, none, 0, by simp, fun e => by simp at e, fun _ => ⟨rfl, rfl⟩, ?_, .inl rfl, ?_⟩⟩⟩
      · exact E2.out _ _ _ rfl
      · exact (B2.setCell (by simp; omega) _).setCell (by simp; omega) _
end Go.Proofs.YtikkedemhcdboaaDoor
