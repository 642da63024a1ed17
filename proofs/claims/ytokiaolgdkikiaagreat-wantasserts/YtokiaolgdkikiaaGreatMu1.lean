/- The package's Must of a value that has not the type: no value, what it was, and the error; the conditions: what the value's maker gives, and that the question's assertion panics of it. -/
import Derived.Test.YtokiaolgdkikiaaGreatTyp
import Derived.Test.YtokiaolgdkikiaaGreatMst
namespace Go.Proofs.YtokiaolgdkikiaaGreat
open Go.RowKit

/-- A value's block, and two blocks behind it. -/
def Thr (w : World) (k i b : Int) (s : ByteArray) (ad : Option Addr) (len cap : Nat) (w' : World) : Prop :=
  Below (w.heap.size + 3) (((w.alloc (.cells #[.int .i64 k, .int .i64 i, .int .u64 b, .string s, .slice ad len cap] 30)).alloc (.cells #[.int .i64 0, .int .i64 0, .int .u64 0, .string ⟨#[]⟩, .slice none 0 0] 30)).alloc (.cells #[.int .i64 0, .int .i64 0] 44)) w'
theorem Thr.drew {w : World} {k i b : Int} {s : ByteArray} {ad : Option Addr} {len cap : Nat} {w' : World} (h : Thr w k i b s ad len cap w') : Thr w k i b s ad len cap w'.drew := Below.drew h
theorem Thr.below {w : World} {k i b : Int} {s : ByteArray} {ad : Option Addr} {len cap : Nat} {w' : World} (h : Thr w k i b s ad len cap w') : Below w.heap.size w w' :=
  ((((Below.refl _ w).alloc (Nat.le_refl _) _).alloc (by simp) _).alloc (by simp; omega) _).trans (Below.mono h (by omega))
theorem Thr.step {w : World} {k i b : Int} {s : ByteArray} {ad : Option Addr} {len cap : Nat} {w1 w2 : World} (h : Thr w k i b s ad len cap w1) (hb : Below w1.heap.size w1 w2) : Thr w k i b s ad len cap w2 := by
  have := Below.size h
  simp at this
  exact Below.trans h (hb.mono (by omega))
theorem Thr.start (w : World) (k i b : Int) (s : ByteArray) (ad : Option Addr) (len cap : Nat) : Thr w k i b s ad len cap (((w.alloc (.cells #[.int .i64 k, .int .i64 i, .int .u64 b, .string s, .slice ad len cap] 30)).alloc (.cells #[.int .i64 0, .int .i64 0, .int .u64 0, .string ⟨#[]⟩, .slice none 0 0] 30)).alloc (.cells #[.int .i64 0, .int .i64 0] 44)) := Below.refl _ _
theorem Thr.blk {w : World} {k i b : Int} {s : ByteArray} {ad : Option Addr} {len cap : Nat} {w' : World} (h : Thr w k i b s ad len cap w') :
    w'.heap[w.heap.size]? = some (.cells #[.int .i64 k, .int .i64 i, .int .u64 b, .string s, .slice ad len cap] 30 (0, 0)) ∧ w'.heap[w.heap.size + 1]? = some (.cells #[.int .i64 0, .int .i64 0, .int .u64 0, .string ⟨#[]⟩, .slice none 0 0] 30 (0, 0)) ∧ w'.heap[w.heap.size + 2]? = some (.cells #[.int .i64 0, .int .i64 0] 44 (0, 0)) := by
  have e0 := heap_alloc_new w (.cells #[.int .i64 k, .int .i64 i, .int .u64 b, .string s, .slice ad len cap] 30)
  have e1 := heap_alloc_new (w.alloc (.cells #[.int .i64 k, .int .i64 i, .int .u64 b, .string s, .slice ad len cap] 30)) (.cells #[.int .i64 0, .int .i64 0, .int .u64 0, .string ⟨#[]⟩, .slice none 0 0] 30)
  have e2 := heap_alloc_new ((w.alloc (.cells #[.int .i64 k, .int .i64 i, .int .u64 b, .string s, .slice ad len cap] 30)).alloc (.cells #[.int .i64 0, .int .i64 0, .int .u64 0, .string ⟨#[]⟩, .slice none 0 0] 30)) (.cells #[.int .i64 0, .int .i64 0] 44)
  simp only [World.size_alloc] at e1 e2
  refine ⟨?_, ?_, ?_⟩
  · rw [Below.block h w.heap.size (by omega)]
    exact ((below1 _ _).block _ (by simp; omega)).trans (((below1 _ _).block _ (by simp)).trans e0)
  · rw [Below.block h (w.heap.size + 1) (by omega)]
    exact ((below1 _ _).block _ (by simp)).trans e1
  · rw [Below.block h (w.heap.size + 2) (by omega)]
    exact e2
theorem Thr.c {w : World} {k i b : Int} {s : ByteArray} {ad : Option Addr} {len cap : Nat} {w' : World} (h : Thr w k i b s ad len cap w') :
    w'.cell? ⟨w.heap.size, 0, none⟩ = some (.int .i64 k) ∧ w'.cell? ⟨w.heap.size, 1, none⟩ = some (.int .i64 i) ∧ w'.cell? ⟨w.heap.size, 2, none⟩ = some (.int .u64 b) ∧ w'.cell? ⟨w.heap.size, 3, none⟩ = some (.string s) ∧ w'.cell? ⟨w.heap.size, 4, none⟩ = some (.slice ad len cap) := by
  have h0 := h.blk.1
  simp [World.cell?, h0]
theorem Thr.d {w : World} {k i b : Int} {s : ByteArray} {ad : Option Addr} {len cap : Nat} {w' : World} (h : Thr w k i b s ad len cap w') :
    w'.cell? ⟨w.heap.size + 1, 0, none⟩ = some (.int .i64 0) ∧ w'.cell? ⟨w.heap.size + 1, 1, none⟩ = some (.int .i64 0) ∧ w'.cell? ⟨w.heap.size + 1, 2, none⟩ = some (.int .u64 0) ∧ w'.cell? ⟨w.heap.size + 1, 3, none⟩ = some (.string ⟨#[]⟩) ∧ w'.cell? ⟨w.heap.size + 1, 4, none⟩ = some (.slice none 0 0)
    ∧ w'.cell? ⟨w.heap.size + 2, 0, none⟩ = some (.int .i64 0) ∧ w'.cell? ⟨w.heap.size + 2, 1, none⟩ = some (.int .i64 0) ∧ (∀ o, w'.frozen? ⟨w.heap.size + 1, o, none⟩ = false) ∧ (∀ o, w'.frozen? ⟨w.heap.size + 2, o, none⟩ = false) := by
  obtain ⟨-, h1, h2⟩ := h.blk
  simp [World.cell?, World.frozen?, h1, h2]

set_option maxRecDepth 100000 in
set_option maxHeartbeats 2000000 in
theorem must_fail (k i b : Int) (s : ByteArray) (ad : Option Addr) (len cap : Nat) (kind : Int) (Q F : Nat) (w : World) (hq : qty kind = Q) (hm : MethM Q F) (hF : ∀ u w, Kd k u → Calls Tryz.prog F #[.agg #[], u] w fun e w' => Pan w w' e)
    (hO : ∀ wx, Below w.heap.size w wx → Calls Tryz.prog 48 #[.agg #[.int .i64 k, .int .i64 i, .int .u64 b, .string s, .slice ad len cap]] wx fun e w' => ∃ u, e = .returned u ∧ Kd k u ∧ Below wx.heap.size wx w') :
    Calls Tryz.prog 31 #[.agg #[.int .i64 k, .int .i64 i, .int .u64 b, .string s, .slice ad len cap], .int .i64 kind] w fun e w' => e = .returned (.tuple #[.agg #[.int .i64 0, .int .i64 0, .int .u64 0, .string ⟨#[]⟩, .slice none 0 0], .agg #[.int .i64 k, .int .i64 (-1)], .int .i64 20]) ∧ Below w.heap.size w w' := by
  have HT : Hid (∀ wx, Thr w k i b s ad len cap wx → Calls Tryz.prog 49 #[.int .i64 kind] wx fun e w' => e = .returned (.iface Q (.agg #[])) ∧ Thr w k i b s ad len cap w') := fun wx hx => by have := (typeOf_any kind wx).mono (R' := fun e w' => e = .returned (.iface (qty kind) (.agg #[])) ∧ Thr w k i b s ad len cap w') fun e w' ⟨a, b⟩ => ⟨a, b ▸ hx⟩; rw [hq] at this; exact this
  have HO : Hid (∀ wx, Thr w k i b s ad len cap wx → Calls Tryz.prog 48 #[.agg #[.int .i64 k, .int .i64 i, .int .u64 b, .string s, .slice ad len cap]] wx fun e w' => ∃ u, e = .returned u ∧ Kd k u ∧ Thr w k i b s ad len cap w') := fun wx hx => (hO wx hx.below).mono fun e w' ⟨u, a, c, d⟩ => ⟨u, a, c, hx.step d⟩
  have HC : Hid (∀ u wx, Kd k u → Thr w k i b s ad len cap wx → Calls Tryz.prog 51 #[.iface Q (.agg #[]), u] wx fun e w' => e = .returned (.tuple #[.nilIface, .int .i64 20]) ∧ Thr w k i b s ad len cap w') := fun u wx hu hx => (caught_no Q F u wx hm fun w => hF u w hu).mono fun e w' ⟨a, d⟩ => ⟨a, hx.step d⟩
  have HS : Hid (∀ wx, Thr w k i b s ad len cap wx → wx.cell? ⟨w.heap.size, 0, none⟩ = some (.int .i64 k) ∧ wx.cell? ⟨w.heap.size, 1, none⟩ = some (.int .i64 i) ∧ wx.cell? ⟨w.heap.size, 2, none⟩ = some (.int .u64 b) ∧ wx.cell? ⟨w.heap.size, 3, none⟩ = some (.string s) ∧ wx.cell? ⟨w.heap.size, 4, none⟩ = some (.slice ad len cap)) := fun wx h => h.c
  have hb0 := Thr.start w k i b s ad len cap
  clear hq hm hF hO
  go_enter Tryz.func31, Tryz.ntmps31
  go_wp2_with fail
  go_region_held3 (fun w' => w'.cell? ⟨w.heap.size, 0, none⟩ = some (.int .i64 k) ∧ w'.cell? ⟨w.heap.size, 1, none⟩ = some (.int .i64 i) ∧ w'.cell? ⟨w.heap.size, 2, none⟩ = some (.int .u64 b) ∧ w'.cell? ⟨w.heap.size, 3, none⟩ = some (.string s) ∧ w'.cell? ⟨w.heap.size, 4, none⟩ = some (.slice ad len cap)) (exact HS.out _ (by first | assumption | exact Thr.drew (by assumption))) (first | (go_at_call 49; refine (HT.out _ (by first | assumption | exact Thr.drew (by assumption))).mono ?_; rintro e wa ⟨rfl, ba⟩) | (go_at_call 48; refine (HO.out _ (by first | assumption | exact Thr.drew (by assumption))).mono ?_; rintro e wo ⟨ua, rfl, hu, bo⟩) | (go_at_call 51; refine (HC.out _ _ (by assumption) (by first | assumption | exact Thr.drew (by assumption))).mono ?_; rintro e wc ⟨rfl, bc⟩))
  have hc := bc.c.1
  obtain ⟨d0, d1, d2, d3, d4, m0, m1, f1, f2⟩ := bc.d
  have m0' : wc.cell? ⟨w.heap.size + 1 + 1, 0, none⟩ = some (.int .i64 0) := m0
  have m1' : wc.cell? ⟨w.heap.size + 1 + 1, 1, none⟩ = some (.int .i64 0) := m1
  have f2' : ∀ o, wc.frozen? ⟨w.heap.size + 1 + 1, o, none⟩ = false := f2
  have B := bc.below
  clear HT HO HC HS hb0 m0 m1 f2 ba bo hu
  go_wp2
  go_region
  all_goals go_wp2
  all_goals refine bodyPost_ret (v := .tuple #[.agg #[.int .i64 0, .int .i64 0, .int .u64 0, .string ⟨#[]⟩, .slice none 0 0], .agg #[.int .i64 k, .int .i64 (-1)], .int .i64 20]) (by simp [results, Tryz.results31, go_sem, World.cell?_setCell_same, World.cell?_setCell_other, d0, d1, d2, d3, d4, m0', m1']) rfl ⟨rfl, ?_⟩
  all_goals exact (((((((B.setCell (by show w.heap.size ≤ w.heap.size + 1; omega) _).setCell (by show w.heap.size ≤ w.heap.size + 1; omega) _).setCell (by show w.heap.size ≤ w.heap.size + 1; omega) _).setCell (by show w.heap.size ≤ w.heap.size + 1; omega) _).setCell (by show w.heap.size ≤ w.heap.size + 1; omega) _).setCell (by show w.heap.size ≤ w.heap.size + 1 + 1; omega) _).setCell (by show w.heap.size ≤ w.heap.size + 1 + 1; omega) _).drew

set_option maxRecDepth 100000 in
set_option maxHeartbeats 1000000 in
theorem of_int (i : Int) (w : World) : Calls Tryz.prog 48 #[.agg #[.int .i64 1, .int .i64 i, .int .u64 0, .string ⟨#[]⟩, .slice none 0 0]] w fun e w' => ∃ u, e = .returned u ∧ Kd 1 u ∧ Below w.heap.size w w' := by
  have HO : Hid (∀ w, Calls Tryz.prog 63 #[.agg #[.map none], .agg #[.int .i64 1, .int .i64 i, .int .u64 0, .string ⟨#[]⟩, .slice none 0 0]] w fun e w' => e = .returned (.iface 105 (.int .i64 i)) ∧ Below w.heap.size w w') := by
    intro w
    go_enter Tryz.func63, Tryz.ntmps63
    go_wp2
    go_ret
    exact ⟨rfl, below2 w _ _⟩
  go_enter Tryz.func48, Tryz.ntmps48
  go_wp2_with fail
  refine (HO.out _).mono ?_
  rintro e w1 ⟨rfl, b1⟩
  go_wp2
  go_ret
  exact ⟨_, rfl, Kd.plain 1 _ (by decide) (by decide), (below1 w _).trans (b1.mono (by simp))⟩

/-- A number is no text. -/
theorem must_five (w : World) : Calls Tryz.prog 31 #[.agg #[.int .i64 1, .int .i64 5, .int .u64 0, .string ⟨#[]⟩, .slice none 0 0], .int .i64 4] w fun e w' => e = .returned (.tuple #[.agg #[.int .i64 0, .int .i64 0, .int .u64 0, .string ⟨#[]⟩, .slice none 0 0], .agg #[.int .i64 1, .int .i64 (-1)], .int .i64 20]) ∧ Below w.heap.size w w' := by
  refine must_fail 1 5 0 ⟨#[]⟩ none 0 0 4 95 119 w rfl ⟨fun _ => by kernel_rfl, fun _ _ => by kernel_rfl⟩ (fun u w hu => ?_) (fun wx _ => of_int 5 wx)
  rcases hu.cases with ⟨h0, rfl⟩ | ⟨-, v, rfl⟩ | ⟨h, -⟩ | ⟨h, -⟩ | ⟨h, -⟩ | ⟨h, -⟩ | ⟨h, -⟩ | ⟨h, -⟩ | ⟨h, -⟩ | ⟨h, -⟩ | ⟨h, -⟩ | ⟨h, -⟩ | ⟨h, -⟩ | ⟨h, -⟩
  · omega
  · obtain ⟨o, ho⟩ := must_ty (t := 105) (x := 20) (v := v) Tryz.underlying110 (fun m h => by cases h) (by decide)
    exact mustText_no _ w o ho
  all_goals exact absurd h (by decide)
end Go.Proofs.YtokiaolgdkikiaaGreat
