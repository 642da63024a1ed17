/- The law GuardAsserts by its contracts: an act that asserts holds just where the pattern does, and one that asks for a size never panics; the conditions: the contracts. -/
import Derived.Test.YthamafijjflfbaaGreatJbi
import Derived.Test.YthamafijjflfbaaGreatJae
import Derived.Test.YthamafijjflfbaaGreatJbh
import Derived.Test.YthamafijjflfbaaGreatJaa
namespace Go.Proofs.YthamafijjflfbaaGreat
open Go.RowKit

set_option maxRecDepth 100000 in
set_option maxHeartbeats 4000000 in
theorem ga_low01 (k i b : Int) (s : ByteArray) (ad : Option Addr) (len cap : Nat) (n : Int) (w : World) (g0 : decide (0 < n) = true) (g1 : decide (n < 14) = true) (g2 : decide (0 ≤ n) = true) (g3 : decide (n < 10) = true)
    (HV : ∀ wx, Below w.heap.size w wx → Calls Tryz.prog 17 #[.agg #[.int .i64 k, .int .i64 i, .int .u64 b, .string s, .slice ad len cap]] wx fun e w' => e = .returned (.bool true) ∧ Below wx.heap.size wx w')
    (HA : ∀ wx, Below w.heap.size w wx → Calls Tryz.prog 10 #[.agg (acs 2 k i b s ad len cap 0 0 0 ⟨#[]⟩ none 0 0 n)] wx fun e w' => ∃ m', e = .returned (.agg (rErr 110 0 2 m')) ∧ Below wx.heap.size wx w')
    (HB : ∀ wx, Below w.heap.size w wx → Calls Tryz.prog 10 #[.agg (acs 3 k i b s ad len cap 0 0 0 ⟨#[]⟩ none 0 0 n)] wx fun e w' => ∃ k' i' u' s' a' n' c', e = .returned (.agg (rcs 0 0 0 0 true k' i' u' s' a' n' c')) ∧ Below wx.heap.size wx w')
    (HK : ∀ wx, Below w.heap.size w wx → Calls Tryz.prog 18 #[.agg #[.int .i64 2, .int .i64 n, .slice none 0 0], .agg #[.int .i64 k, .int .i64 i, .int .u64 b, .string s, .slice ad len cap]] wx fun e w' => e = .returned (.bool false) ∧ Below wx.heap.size wx w')
    (HF : ∀ wx, Below w.heap.size w wx → Calls Tryz.prog 18 #[.agg #[.int .i64 3, .int .i64 n, .slice none 0 0], .agg #[.int .i64 k, .int .i64 i, .int .u64 b, .string s, .slice ad len cap]] wx fun e w' => e = .returned (.bool true) ∧ Below wx.heap.size wx w')
    (HS : ∀ wx, Below w.heap.size w wx → Calls Tryz.prog 10 #[.agg (acs 10 k i b s ad len cap 0 0 0 ⟨#[]⟩ none 0 0 0)] wx fun e w' => ∃ es hs k' i' u' s' a' n' c', e = .returned (.agg (rcs es 0 0 0 hs k' i' u' s' a' n' c')) ∧ (es = 0 ∨ es = 12) ∧ Below wx.heap.size wx w') :
    Calls Tryz.prog 5 #[.agg #[.int .i64 k, .int .i64 i, .int .u64 b, .string s, .slice ad len cap], .int .i64 n] w fun e w' => e = .returned (.bool true) ∧ Below w.heap.size w w' := by
  have HWh : Hid (∀ wx, Below w.heap.size w wx → Calls Tryz.prog 8 #[] wx fun e w' => e = .returned (.bool true) ∧ Below wx.heap.size wx w') := fun wx _ => awake_any wx
  have HVh := Lib.hid HV
  have HAh := Lib.hid HA
  have HBh := Lib.hid HB
  have HKh := Lib.hid HK
  have HFh := Lib.hid HF
  have HSh := Lib.hid HS
  clear HV HA HB HK HF HS
  have B0 := below1 w (.cells #[.int .i64 k, .int .i64 i, .int .u64 b, .string s, .slice ad len cap] 25)
  have D0 := Bk.new w #[.int .i64 k, .int .i64 i, .int .u64 b, .string s, .slice ad len cap] 25
  go_enter Tryz.func5, Tryz.ntmps5
  go_wp2_with fail
  refine (HVh.out _ B0).mono ?_
  rintro e w1 ⟨rfl, bw1⟩
  have B1 := B0.trans (bw1.mono B0.size)
  have D1 := D0.step bw1
  clear bw1 B0 D0
  obtain ⟨c0, c1, c2, c3, c4⟩ := D1.c5
  go_wp2_with fail
  refine (HAh.out _ B1).mono ?_
  rintro e w2 ⟨x1, rfl, bw2⟩
  have B2 := B1.trans (bw2.mono B1.size)
  have D2 := D1.step bw2
  have A2 := Bk.new w2 (rErr 110 0 2 x1) 35
  have e2 := below1 w2 (.cells (rErr 110 0 2 x1) 35)
  have B3 := B2.trans (e2.mono B2.size)
  have D3 := D2.step e2
  clear bw2 B1 D1 D2 e2 B2 c0 c1 c2 c3 c4
  obtain ⟨c0, c1, c2, c3, c4⟩ := D3.c5
  go_wp2_with fail
  refine (HBh.out _ B3).mono ?_
  rintro e w3 ⟨y1, y2, y3, y4, y5, y6, y7, rfl, bw3⟩
  have B4 := B3.trans (bw3.mono B3.size)
  have D4 := D3.step bw3
  have A4 := A2.step bw3
  have F4 := Bk.new w3 (rcs 0 0 0 0 true y1 y2 y3 y4 y5 y6 y7) 35
  have e4 := below1 w3 (.cells (rcs 0 0 0 0 true y1 y2 y3 y4 y5 y6 y7) 35)
  have B5 := B4.trans (e4.mono B4.size)
  have D5 := D4.step e4
  have A5 := A4.step e4
  clear bw3 B3 D3 D4 A2 A4 e4 B4 c0 c1 c2 c3 c4
  obtain ⟨c0, c1, c2, c3, c4⟩ := D5.c5
  go_wp2_with fail
  refine (HKh.out _ B5).mono ?_
  rintro e w4 ⟨rfl, bq⟩
  have B6 := B5.trans (bq.mono B5.size)
  have D6 := D5.step bq
  have A6 := A5.step bq
  have F6 := F4.step bq
  clear bq B5 D5 A5 F4 c0 c1 c2 c3 c4
  obtain ⟨c0, c1, c2, c3, c4⟩ := D6.c5
  go_wp2_with fail
  refine (HFh.out _ B6).mono ?_
  rintro e w5 ⟨rfl, bq⟩
  have B7 := B6.trans (bq.mono B6.size)
  have D7 := D6.step bq
  have A7 := A6.step bq
  have F7 := F6.step bq
  clear bq B6 D6 A6 F6 c0 c1 c2 c3 c4
  obtain ⟨c0, c1, c2, c3, c4⟩ := D7.c5
  obtain ⟨a0, a1, a2, a3, a4, -, -, -, -, -⟩ := A7.c10
  obtain ⟨f0, f1, f2, f3, f4, -, -, -, -, -⟩ := F7.c10
  go_wp2_with fail
  refine (HSh.out _ B7).mono ?_
  rintro e w6 ⟨es, hs, k', i', u', s', a', n', c', rfl, hes, bq⟩
  have B8 := B7.trans (bq.mono B7.size)
  have S8 := Bk.new w6 (rcs es 0 0 0 hs k' i' u' s' a' n' c') 35
  have e8 := below1 w6 (.cells (rcs es 0 0 0 hs k' i' u' s' a' n' c') 35)
  have B9 := B8.trans (e8.mono B8.size)
  rcases hes with rfl | rfl
  all_goals
    clear bq B7 D7 A7 F7 c0 c1 c2 c3 c4 a0 a1 a2 a3 a4 f0 f1 f2 f3 f4 e8 B8
    obtain ⟨a0, a1, a2, a3, a4, -, -, -, -, -⟩ := S8.c10
    go_wp2_with fail
    refine (HWh.out _ B9).mono ?_
    rintro e w7 ⟨rfl, bq⟩
    have B10 := B9.trans (bq.mono B9.size)
    go_wp2
    go_ret
    exact ⟨rfl, B10⟩

set_option maxRecDepth 100000 in
set_option maxHeartbeats 4000000 in
theorem ga_low10 (k i b : Int) (s : ByteArray) (ad : Option Addr) (len cap : Nat) (n : Int) (w : World) (g0 : decide (0 < n) = true) (g1 : decide (n < 14) = true) (g2 : decide (0 ≤ n) = true) (g3 : decide (n < 10) = true)
    (HV : ∀ wx, Below w.heap.size w wx → Calls Tryz.prog 17 #[.agg #[.int .i64 k, .int .i64 i, .int .u64 b, .string s, .slice ad len cap]] wx fun e w' => e = .returned (.bool true) ∧ Below wx.heap.size wx w')
    (HA : ∀ wx, Below w.heap.size w wx → Calls Tryz.prog 10 #[.agg (acs 2 k i b s ad len cap 0 0 0 ⟨#[]⟩ none 0 0 n)] wx fun e w' => ∃ k' i' u' s' a' n' c', e = .returned (.agg (rcs 0 0 0 0 true k' i' u' s' a' n' c')) ∧ Below wx.heap.size wx w')
    (HB : ∀ wx, Below w.heap.size w wx → Calls Tryz.prog 10 #[.agg (acs 3 k i b s ad len cap 0 0 0 ⟨#[]⟩ none 0 0 n)] wx fun e w' => ∃ m', e = .returned (.agg (rErr 110 0 2 m')) ∧ Below wx.heap.size wx w')
    (HK : ∀ wx, Below w.heap.size w wx → Calls Tryz.prog 18 #[.agg #[.int .i64 2, .int .i64 n, .slice none 0 0], .agg #[.int .i64 k, .int .i64 i, .int .u64 b, .string s, .slice ad len cap]] wx fun e w' => e = .returned (.bool true) ∧ Below wx.heap.size wx w')
    (HF : ∀ wx, Below w.heap.size w wx → Calls Tryz.prog 18 #[.agg #[.int .i64 3, .int .i64 n, .slice none 0 0], .agg #[.int .i64 k, .int .i64 i, .int .u64 b, .string s, .slice ad len cap]] wx fun e w' => e = .returned (.bool false) ∧ Below wx.heap.size wx w')
    (HS : ∀ wx, Below w.heap.size w wx → Calls Tryz.prog 10 #[.agg (acs 10 k i b s ad len cap 0 0 0 ⟨#[]⟩ none 0 0 0)] wx fun e w' => ∃ es hs k' i' u' s' a' n' c', e = .returned (.agg (rcs es 0 0 0 hs k' i' u' s' a' n' c')) ∧ (es = 0 ∨ es = 12) ∧ Below wx.heap.size wx w') :
    Calls Tryz.prog 5 #[.agg #[.int .i64 k, .int .i64 i, .int .u64 b, .string s, .slice ad len cap], .int .i64 n] w fun e w' => e = .returned (.bool true) ∧ Below w.heap.size w w' := by
  have HWh : Hid (∀ wx, Below w.heap.size w wx → Calls Tryz.prog 8 #[] wx fun e w' => e = .returned (.bool true) ∧ Below wx.heap.size wx w') := fun wx _ => awake_any wx
  have HVh := Lib.hid HV
  have HAh := Lib.hid HA
  have HBh := Lib.hid HB
  have HKh := Lib.hid HK
  have HFh := Lib.hid HF
  have HSh := Lib.hid HS
  clear HV HA HB HK HF HS
  have B0 := below1 w (.cells #[.int .i64 k, .int .i64 i, .int .u64 b, .string s, .slice ad len cap] 25)
  have D0 := Bk.new w #[.int .i64 k, .int .i64 i, .int .u64 b, .string s, .slice ad len cap] 25
  go_enter Tryz.func5, Tryz.ntmps5
  go_wp2_with fail
  refine (HVh.out _ B0).mono ?_
  rintro e w1 ⟨rfl, bw1⟩
  have B1 := B0.trans (bw1.mono B0.size)
  have D1 := D0.step bw1
  clear bw1 B0 D0
  obtain ⟨c0, c1, c2, c3, c4⟩ := D1.c5
  go_wp2_with fail
  refine (HAh.out _ B1).mono ?_
  rintro e w2 ⟨x1, x2, x3, x4, x5, x6, x7, rfl, bw2⟩
  have B2 := B1.trans (bw2.mono B1.size)
  have D2 := D1.step bw2
  have A2 := Bk.new w2 (rcs 0 0 0 0 true x1 x2 x3 x4 x5 x6 x7) 35
  have e2 := below1 w2 (.cells (rcs 0 0 0 0 true x1 x2 x3 x4 x5 x6 x7) 35)
  have B3 := B2.trans (e2.mono B2.size)
  have D3 := D2.step e2
  clear bw2 B1 D1 D2 e2 B2 c0 c1 c2 c3 c4
  obtain ⟨c0, c1, c2, c3, c4⟩ := D3.c5
  go_wp2_with fail
  refine (HBh.out _ B3).mono ?_
  rintro e w3 ⟨y1, rfl, bw3⟩
  have B4 := B3.trans (bw3.mono B3.size)
  have D4 := D3.step bw3
  have A4 := A2.step bw3
  have F4 := Bk.new w3 (rErr 110 0 2 y1) 35
  have e4 := below1 w3 (.cells (rErr 110 0 2 y1) 35)
  have B5 := B4.trans (e4.mono B4.size)
  have D5 := D4.step e4
  have A5 := A4.step e4
  clear bw3 B3 D3 D4 A2 A4 e4 B4 c0 c1 c2 c3 c4
  obtain ⟨c0, c1, c2, c3, c4⟩ := D5.c5
  go_wp2_with fail
  refine (HKh.out _ B5).mono ?_
  rintro e w4 ⟨rfl, bq⟩
  have B6 := B5.trans (bq.mono B5.size)
  have D6 := D5.step bq
  have A6 := A5.step bq
  have F6 := F4.step bq
  clear bq B5 D5 A5 F4 c0 c1 c2 c3 c4
  obtain ⟨c0, c1, c2, c3, c4⟩ := D6.c5
  go_wp2_with fail
  refine (HFh.out _ B6).mono ?_
  rintro e w5 ⟨rfl, bq⟩
  have B7 := B6.trans (bq.mono B6.size)
  have D7 := D6.step bq
  have A7 := A6.step bq
  have F7 := F6.step bq
  clear bq B6 D6 A6 F6 c0 c1 c2 c3 c4
  obtain ⟨c0, c1, c2, c3, c4⟩ := D7.c5
  obtain ⟨a0, a1, a2, a3, a4, -, -, -, -, -⟩ := A7.c10
  obtain ⟨f0, f1, f2, f3, f4, -, -, -, -, -⟩ := F7.c10
  go_wp2_with fail
  refine (HSh.out _ B7).mono ?_
  rintro e w6 ⟨es, hs, k', i', u', s', a', n', c', rfl, hes, bq⟩
  have B8 := B7.trans (bq.mono B7.size)
  have S8 := Bk.new w6 (rcs es 0 0 0 hs k' i' u' s' a' n' c') 35
  have e8 := below1 w6 (.cells (rcs es 0 0 0 hs k' i' u' s' a' n' c') 35)
  have B9 := B8.trans (e8.mono B8.size)
  rcases hes with rfl | rfl
  all_goals
    clear bq B7 D7 A7 F7 c0 c1 c2 c3 c4 a0 a1 a2 a3 a4 f0 f1 f2 f3 f4 e8 B8
    obtain ⟨a0, a1, a2, a3, a4, -, -, -, -, -⟩ := S8.c10
    go_wp2_with fail
    refine (HWh.out _ B9).mono ?_
    rintro e w7 ⟨rfl, bq⟩
    have B10 := B9.trans (bq.mono B9.size)
    go_wp2
    go_ret
    exact ⟨rfl, B10⟩

set_option maxRecDepth 100000 in
set_option maxHeartbeats 4000000 in
theorem ga_low11 (k i b : Int) (s : ByteArray) (ad : Option Addr) (len cap : Nat) (n : Int) (w : World) (g0 : decide (0 < n) = true) (g1 : decide (n < 14) = true) (g2 : decide (0 ≤ n) = true) (g3 : decide (n < 10) = true)
    (HV : ∀ wx, Below w.heap.size w wx → Calls Tryz.prog 17 #[.agg #[.int .i64 k, .int .i64 i, .int .u64 b, .string s, .slice ad len cap]] wx fun e w' => e = .returned (.bool true) ∧ Below wx.heap.size wx w')
    (HA : ∀ wx, Below w.heap.size w wx → Calls Tryz.prog 10 #[.agg (acs 2 k i b s ad len cap 0 0 0 ⟨#[]⟩ none 0 0 n)] wx fun e w' => ∃ k' i' u' s' a' n' c', e = .returned (.agg (rcs 0 0 0 0 true k' i' u' s' a' n' c')) ∧ Below wx.heap.size wx w')
    (HB : ∀ wx, Below w.heap.size w wx → Calls Tryz.prog 10 #[.agg (acs 3 k i b s ad len cap 0 0 0 ⟨#[]⟩ none 0 0 n)] wx fun e w' => ∃ k' i' u' s' a' n' c', e = .returned (.agg (rcs 0 0 0 0 true k' i' u' s' a' n' c')) ∧ Below wx.heap.size wx w')
    (HK : ∀ wx, Below w.heap.size w wx → Calls Tryz.prog 18 #[.agg #[.int .i64 2, .int .i64 n, .slice none 0 0], .agg #[.int .i64 k, .int .i64 i, .int .u64 b, .string s, .slice ad len cap]] wx fun e w' => e = .returned (.bool true) ∧ Below wx.heap.size wx w')
    (HF : ∀ wx, Below w.heap.size w wx → Calls Tryz.prog 18 #[.agg #[.int .i64 3, .int .i64 n, .slice none 0 0], .agg #[.int .i64 k, .int .i64 i, .int .u64 b, .string s, .slice ad len cap]] wx fun e w' => e = .returned (.bool true) ∧ Below wx.heap.size wx w')
    (HS : ∀ wx, Below w.heap.size w wx → Calls Tryz.prog 10 #[.agg (acs 10 k i b s ad len cap 0 0 0 ⟨#[]⟩ none 0 0 0)] wx fun e w' => ∃ es hs k' i' u' s' a' n' c', e = .returned (.agg (rcs es 0 0 0 hs k' i' u' s' a' n' c')) ∧ (es = 0 ∨ es = 12) ∧ Below wx.heap.size wx w') :
    Calls Tryz.prog 5 #[.agg #[.int .i64 k, .int .i64 i, .int .u64 b, .string s, .slice ad len cap], .int .i64 n] w fun e w' => e = .returned (.bool true) ∧ Below w.heap.size w w' := by
  have HWh : Hid (∀ wx, Below w.heap.size w wx → Calls Tryz.prog 8 #[] wx fun e w' => e = .returned (.bool true) ∧ Below wx.heap.size wx w') := fun wx _ => awake_any wx
  have HVh := Lib.hid HV
  have HAh := Lib.hid HA
  have HBh := Lib.hid HB
  have HKh := Lib.hid HK
  have HFh := Lib.hid HF
  have HSh := Lib.hid HS
  clear HV HA HB HK HF HS
  have B0 := below1 w (.cells #[.int .i64 k, .int .i64 i, .int .u64 b, .string s, .slice ad len cap] 25)
  have D0 := Bk.new w #[.int .i64 k, .int .i64 i, .int .u64 b, .string s, .slice ad len cap] 25
  go_enter Tryz.func5, Tryz.ntmps5
  go_wp2_with fail
  refine (HVh.out _ B0).mono ?_
  rintro e w1 ⟨rfl, bw1⟩
  have B1 := B0.trans (bw1.mono B0.size)
  have D1 := D0.step bw1
  clear bw1 B0 D0
  obtain ⟨c0, c1, c2, c3, c4⟩ := D1.c5
  go_wp2_with fail
  refine (HAh.out _ B1).mono ?_
  rintro e w2 ⟨x1, x2, x3, x4, x5, x6, x7, rfl, bw2⟩
  have B2 := B1.trans (bw2.mono B1.size)
  have D2 := D1.step bw2
  have A2 := Bk.new w2 (rcs 0 0 0 0 true x1 x2 x3 x4 x5 x6 x7) 35
  have e2 := below1 w2 (.cells (rcs 0 0 0 0 true x1 x2 x3 x4 x5 x6 x7) 35)
  have B3 := B2.trans (e2.mono B2.size)
  have D3 := D2.step e2
  clear bw2 B1 D1 D2 e2 B2 c0 c1 c2 c3 c4
  obtain ⟨c0, c1, c2, c3, c4⟩ := D3.c5
  go_wp2_with fail
  refine (HBh.out _ B3).mono ?_
  rintro e w3 ⟨y1, y2, y3, y4, y5, y6, y7, rfl, bw3⟩
  have B4 := B3.trans (bw3.mono B3.size)
  have D4 := D3.step bw3
  have A4 := A2.step bw3
  have F4 := Bk.new w3 (rcs 0 0 0 0 true y1 y2 y3 y4 y5 y6 y7) 35
  have e4 := below1 w3 (.cells (rcs 0 0 0 0 true y1 y2 y3 y4 y5 y6 y7) 35)
  have B5 := B4.trans (e4.mono B4.size)
  have D5 := D4.step e4
  have A5 := A4.step e4
  clear bw3 B3 D3 D4 A2 A4 e4 B4 c0 c1 c2 c3 c4
  obtain ⟨c0, c1, c2, c3, c4⟩ := D5.c5
  go_wp2_with fail
  refine (HKh.out _ B5).mono ?_
  rintro e w4 ⟨rfl, bq⟩
  have B6 := B5.trans (bq.mono B5.size)
  have D6 := D5.step bq
  have A6 := A5.step bq
  have F6 := F4.step bq
  clear bq B5 D5 A5 F4 c0 c1 c2 c3 c4
  obtain ⟨c0, c1, c2, c3, c4⟩ := D6.c5
  go_wp2_with fail
  refine (HFh.out _ B6).mono ?_
  rintro e w5 ⟨rfl, bq⟩
  have B7 := B6.trans (bq.mono B6.size)
  have D7 := D6.step bq
  have A7 := A6.step bq
  have F7 := F6.step bq
  clear bq B6 D6 A6 F6 c0 c1 c2 c3 c4
  obtain ⟨c0, c1, c2, c3, c4⟩ := D7.c5
  obtain ⟨a0, a1, a2, a3, a4, -, -, -, -, -⟩ := A7.c10
  obtain ⟨f0, f1, f2, f3, f4, -, -, -, -, -⟩ := F7.c10
  go_wp2_with fail
  refine (HSh.out _ B7).mono ?_
  rintro e w6 ⟨es, hs, k', i', u', s', a', n', c', rfl, hes, bq⟩
  have B8 := B7.trans (bq.mono B7.size)
  have S8 := Bk.new w6 (rcs es 0 0 0 hs k' i' u' s' a' n' c') 35
  have e8 := below1 w6 (.cells (rcs es 0 0 0 hs k' i' u' s' a' n' c') 35)
  have B9 := B8.trans (e8.mono B8.size)
  rcases hes with rfl | rfl
  all_goals
    clear bq B7 D7 A7 F7 c0 c1 c2 c3 c4 a0 a1 a2 a3 a4 f0 f1 f2 f3 f4 e8 B8
    obtain ⟨a0, a1, a2, a3, a4, -, -, -, -, -⟩ := S8.c10
    go_wp2_with fail
    refine (HWh.out _ B9).mono ?_
    rintro e w7 ⟨rfl, bq⟩
    have B10 := B9.trans (bq.mono B9.size)
    go_wp2
    go_ret
    exact ⟨rfl, B10⟩
end Go.Proofs.YthamafijjflfbaaGreat
/- The law GuardAsserts by its contracts: an act that asserts holds just where the pattern does, and one that asks for a size never panics; the conditions: the contracts. -/
namespace Go.Proofs.YthamafijjflfbaaGreat
open Go.RowKit

set_option maxRecDepth 100000 in
set_option maxHeartbeats 4000000 in
theorem ga_mid00 (k i b : Int) (s : ByteArray) (ad : Option Addr) (len cap : Nat) (n : Int) (w : World) (g0 : decide (0 < n) = true) (g1 : decide (n < 14) = true) (g2 : decide (0 ≤ n) = true) (g3 : decide (n < 10) = false)
    (HV : ∀ wx, Below w.heap.size w wx → Calls Tryz.prog 17 #[.agg #[.int .i64 k, .int .i64 i, .int .u64 b, .string s, .slice ad len cap]] wx fun e w' => e = .returned (.bool true) ∧ Below wx.heap.size wx w')
    (HA : ∀ wx, Below w.heap.size w wx → Calls Tryz.prog 10 #[.agg (acs 2 k i b s ad len cap 0 0 0 ⟨#[]⟩ none 0 0 n)] wx fun e w' => ∃ m', e = .returned (.agg (rErr 110 0 2 m')) ∧ Below wx.heap.size wx w')
    (HB : ∀ wx, Below w.heap.size w wx → Calls Tryz.prog 10 #[.agg (acs 3 k i b s ad len cap 0 0 0 ⟨#[]⟩ none 0 0 n)] wx fun e w' => ∃ m', e = .returned (.agg (rErr 110 0 2 m')) ∧ Below wx.heap.size wx w')
    (HK : ∀ wx, Below w.heap.size w wx → Calls Tryz.prog 18 #[.agg #[.int .i64 2, .int .i64 n, .slice none 0 0], .agg #[.int .i64 k, .int .i64 i, .int .u64 b, .string s, .slice ad len cap]] wx fun e w' => e = .returned (.bool false) ∧ Below wx.heap.size wx w')
    (HS : ∀ wx, Below w.heap.size w wx → Calls Tryz.prog 10 #[.agg (acs 10 k i b s ad len cap 0 0 0 ⟨#[]⟩ none 0 0 0)] wx fun e w' => ∃ es hs k' i' u' s' a' n' c', e = .returned (.agg (rcs es 0 0 0 hs k' i' u' s' a' n' c')) ∧ (es = 0 ∨ es = 12) ∧ Below wx.heap.size wx w') :
    Calls Tryz.prog 5 #[.agg #[.int .i64 k, .int .i64 i, .int .u64 b, .string s, .slice ad len cap], .int .i64 n] w fun e w' => e = .returned (.bool true) ∧ Below w.heap.size w w' := by
  have HWh : Hid (∀ wx, Below w.heap.size w wx → Calls Tryz.prog 8 #[] wx fun e w' => e = .returned (.bool true) ∧ Below wx.heap.size wx w') := fun wx _ => awake_any wx
  have HVh := Lib.hid HV
  have HAh := Lib.hid HA
  have HBh := Lib.hid HB
  have HKh := Lib.hid HK
  have HSh := Lib.hid HS
  clear HV HA HB HK HS
  have B0 := below1 w (.cells #[.int .i64 k, .int .i64 i, .int .u64 b, .string s, .slice ad len cap] 25)
  have D0 := Bk.new w #[.int .i64 k, .int .i64 i, .int .u64 b, .string s, .slice ad len cap] 25
  go_enter Tryz.func5, Tryz.ntmps5
  go_wp2_with fail
  refine (HVh.out _ B0).mono ?_
  rintro e w1 ⟨rfl, bw1⟩
  have B1 := B0.trans (bw1.mono B0.size)
  have D1 := D0.step bw1
  clear bw1 B0 D0
  obtain ⟨c0, c1, c2, c3, c4⟩ := D1.c5
  go_wp2_with fail
  refine (HAh.out _ B1).mono ?_
  rintro e w2 ⟨x1, rfl, bw2⟩
  have B2 := B1.trans (bw2.mono B1.size)
  have D2 := D1.step bw2
  have A2 := Bk.new w2 (rErr 110 0 2 x1) 35
  have e2 := below1 w2 (.cells (rErr 110 0 2 x1) 35)
  have B3 := B2.trans (e2.mono B2.size)
  have D3 := D2.step e2
  clear bw2 B1 D1 D2 e2 B2 c0 c1 c2 c3 c4
  obtain ⟨c0, c1, c2, c3, c4⟩ := D3.c5
  go_wp2_with fail
  refine (HBh.out _ B3).mono ?_
  rintro e w3 ⟨y1, rfl, bw3⟩
  have B4 := B3.trans (bw3.mono B3.size)
  have D4 := D3.step bw3
  have A4 := A2.step bw3
  have F4 := Bk.new w3 (rErr 110 0 2 y1) 35
  have e4 := below1 w3 (.cells (rErr 110 0 2 y1) 35)
  have B5 := B4.trans (e4.mono B4.size)
  have D5 := D4.step e4
  have A5 := A4.step e4
  clear bw3 B3 D3 D4 A2 A4 e4 B4 c0 c1 c2 c3 c4
  obtain ⟨c0, c1, c2, c3, c4⟩ := D5.c5
  go_wp2_with fail
  refine (HKh.out _ B5).mono ?_
  rintro e w4 ⟨rfl, bq⟩
  have B6 := B5.trans (bq.mono B5.size)
  have D6 := D5.step bq
  have A6 := A5.step bq
  have F6 := F4.step bq
  clear bq B5 D5 A5 F4 c0 c1 c2 c3 c4
  obtain ⟨c0, c1, c2, c3, c4⟩ := D6.c5
  obtain ⟨a0, a1, a2, a3, a4, -, -, -, -, -⟩ := A6.c10
  obtain ⟨f0, f1, f2, f3, f4, -, -, -, -, -⟩ := F6.c10
  go_wp2_with fail
  refine (HSh.out _ B6).mono ?_
  rintro e w6 ⟨es, hs, k', i', u', s', a', n', c', rfl, hes, bq⟩
  have B8 := B6.trans (bq.mono B6.size)
  have S8 := Bk.new w6 (rcs es 0 0 0 hs k' i' u' s' a' n' c') 35
  have e8 := below1 w6 (.cells (rcs es 0 0 0 hs k' i' u' s' a' n' c') 35)
  have B9 := B8.trans (e8.mono B8.size)
  rcases hes with rfl | rfl
  all_goals
    clear bq B6 D6 A6 F6 c0 c1 c2 c3 c4 a0 a1 a2 a3 a4 f0 f1 f2 f3 f4 e8 B8
    obtain ⟨a0, a1, a2, a3, a4, -, -, -, -, -⟩ := S8.c10
    go_wp2_with fail
    refine (HWh.out _ B9).mono ?_
    rintro e w7 ⟨rfl, bq⟩
    have B10 := B9.trans (bq.mono B9.size)
    go_wp2
    go_ret
    exact ⟨rfl, B10⟩

set_option maxRecDepth 100000 in
set_option maxHeartbeats 4000000 in
theorem ga_mid10 (k i b : Int) (s : ByteArray) (ad : Option Addr) (len cap : Nat) (n : Int) (w : World) (g0 : decide (0 < n) = true) (g1 : decide (n < 14) = true) (g2 : decide (0 ≤ n) = true) (g3 : decide (n < 10) = false)
    (HV : ∀ wx, Below w.heap.size w wx → Calls Tryz.prog 17 #[.agg #[.int .i64 k, .int .i64 i, .int .u64 b, .string s, .slice ad len cap]] wx fun e w' => e = .returned (.bool true) ∧ Below wx.heap.size wx w')
    (HA : ∀ wx, Below w.heap.size w wx → Calls Tryz.prog 10 #[.agg (acs 2 k i b s ad len cap 0 0 0 ⟨#[]⟩ none 0 0 n)] wx fun e w' => ∃ k' i' u' s' a' n' c', e = .returned (.agg (rcs 0 0 0 0 true k' i' u' s' a' n' c')) ∧ Below wx.heap.size wx w')
    (HB : ∀ wx, Below w.heap.size w wx → Calls Tryz.prog 10 #[.agg (acs 3 k i b s ad len cap 0 0 0 ⟨#[]⟩ none 0 0 n)] wx fun e w' => ∃ m', e = .returned (.agg (rErr 110 0 2 m')) ∧ Below wx.heap.size wx w')
    (HK : ∀ wx, Below w.heap.size w wx → Calls Tryz.prog 18 #[.agg #[.int .i64 2, .int .i64 n, .slice none 0 0], .agg #[.int .i64 k, .int .i64 i, .int .u64 b, .string s, .slice ad len cap]] wx fun e w' => e = .returned (.bool true) ∧ Below wx.heap.size wx w')
    (HS : ∀ wx, Below w.heap.size w wx → Calls Tryz.prog 10 #[.agg (acs 10 k i b s ad len cap 0 0 0 ⟨#[]⟩ none 0 0 0)] wx fun e w' => ∃ es hs k' i' u' s' a' n' c', e = .returned (.agg (rcs es 0 0 0 hs k' i' u' s' a' n' c')) ∧ (es = 0 ∨ es = 12) ∧ Below wx.heap.size wx w') :
    Calls Tryz.prog 5 #[.agg #[.int .i64 k, .int .i64 i, .int .u64 b, .string s, .slice ad len cap], .int .i64 n] w fun e w' => e = .returned (.bool true) ∧ Below w.heap.size w w' := by
  have HWh : Hid (∀ wx, Below w.heap.size w wx → Calls Tryz.prog 8 #[] wx fun e w' => e = .returned (.bool true) ∧ Below wx.heap.size wx w') := fun wx _ => awake_any wx
  have HVh := Lib.hid HV
  have HAh := Lib.hid HA
  have HBh := Lib.hid HB
  have HKh := Lib.hid HK
  have HSh := Lib.hid HS
  clear HV HA HB HK HS
  have B0 := below1 w (.cells #[.int .i64 k, .int .i64 i, .int .u64 b, .string s, .slice ad len cap] 25)
  have D0 := Bk.new w #[.int .i64 k, .int .i64 i, .int .u64 b, .string s, .slice ad len cap] 25
  go_enter Tryz.func5, Tryz.ntmps5
  go_wp2_with fail
  refine (HVh.out _ B0).mono ?_
  rintro e w1 ⟨rfl, bw1⟩
  have B1 := B0.trans (bw1.mono B0.size)
  have D1 := D0.step bw1
  clear bw1 B0 D0
  obtain ⟨c0, c1, c2, c3, c4⟩ := D1.c5
  go_wp2_with fail
  refine (HAh.out _ B1).mono ?_
  rintro e w2 ⟨x1, x2, x3, x4, x5, x6, x7, rfl, bw2⟩
  have B2 := B1.trans (bw2.mono B1.size)
  have D2 := D1.step bw2
  have A2 := Bk.new w2 (rcs 0 0 0 0 true x1 x2 x3 x4 x5 x6 x7) 35
  have e2 := below1 w2 (.cells (rcs 0 0 0 0 true x1 x2 x3 x4 x5 x6 x7) 35)
  have B3 := B2.trans (e2.mono B2.size)
  have D3 := D2.step e2
  clear bw2 B1 D1 D2 e2 B2 c0 c1 c2 c3 c4
  obtain ⟨c0, c1, c2, c3, c4⟩ := D3.c5
  go_wp2_with fail
  refine (HBh.out _ B3).mono ?_
  rintro e w3 ⟨y1, rfl, bw3⟩
  have B4 := B3.trans (bw3.mono B3.size)
  have D4 := D3.step bw3
  have A4 := A2.step bw3
  have F4 := Bk.new w3 (rErr 110 0 2 y1) 35
  have e4 := below1 w3 (.cells (rErr 110 0 2 y1) 35)
  have B5 := B4.trans (e4.mono B4.size)
  have D5 := D4.step e4
  have A5 := A4.step e4
  clear bw3 B3 D3 D4 A2 A4 e4 B4 c0 c1 c2 c3 c4
  obtain ⟨c0, c1, c2, c3, c4⟩ := D5.c5
  go_wp2_with fail
  refine (HKh.out _ B5).mono ?_
  rintro e w4 ⟨rfl, bq⟩
  have B6 := B5.trans (bq.mono B5.size)
  have D6 := D5.step bq
  have A6 := A5.step bq
  have F6 := F4.step bq
  clear bq B5 D5 A5 F4 c0 c1 c2 c3 c4
  obtain ⟨c0, c1, c2, c3, c4⟩ := D6.c5
  obtain ⟨a0, a1, a2, a3, a4, -, -, -, -, -⟩ := A6.c10
  obtain ⟨f0, f1, f2, f3, f4, -, -, -, -, -⟩ := F6.c10
  go_wp2_with fail
  refine (HSh.out _ B6).mono ?_
  rintro e w6 ⟨es, hs, k', i', u', s', a', n', c', rfl, hes, bq⟩
  have B8 := B6.trans (bq.mono B6.size)
  have S8 := Bk.new w6 (rcs es 0 0 0 hs k' i' u' s' a' n' c') 35
  have e8 := below1 w6 (.cells (rcs es 0 0 0 hs k' i' u' s' a' n' c') 35)
  have B9 := B8.trans (e8.mono B8.size)
  rcases hes with rfl | rfl
  all_goals
    clear bq B6 D6 A6 F6 c0 c1 c2 c3 c4 a0 a1 a2 a3 a4 f0 f1 f2 f3 f4 e8 B8
    obtain ⟨a0, a1, a2, a3, a4, -, -, -, -, -⟩ := S8.c10
    go_wp2_with fail
    refine (HWh.out _ B9).mono ?_
    rintro e w7 ⟨rfl, bq⟩
    have B10 := B9.trans (bq.mono B9.size)
    go_wp2
    go_ret
    exact ⟨rfl, B10⟩

set_option maxRecDepth 100000 in
set_option maxHeartbeats 4000000 in
theorem ga_high00 (k i b : Int) (s : ByteArray) (ad : Option Addr) (len cap : Nat) (n : Int) (w : World) (g0 : decide (0 < n) = true) (g1 : decide (n < 14) = false) (g2 : decide (0 ≤ n) = true) (g3 : decide (n < 10) = false)
    (HV : ∀ wx, Below w.heap.size w wx → Calls Tryz.prog 17 #[.agg #[.int .i64 k, .int .i64 i, .int .u64 b, .string s, .slice ad len cap]] wx fun e w' => e = .returned (.bool true) ∧ Below wx.heap.size wx w')
    (HA : ∀ wx, Below w.heap.size w wx → Calls Tryz.prog 10 #[.agg (acs 2 k i b s ad len cap 0 0 0 ⟨#[]⟩ none 0 0 n)] wx fun e w' => ∃ m', e = .returned (.agg (rErr 110 0 2 m')) ∧ Below wx.heap.size wx w')
    (HB : ∀ wx, Below w.heap.size w wx → Calls Tryz.prog 10 #[.agg (acs 3 k i b s ad len cap 0 0 0 ⟨#[]⟩ none 0 0 n)] wx fun e w' => ∃ m', e = .returned (.agg (rErr 110 0 2 m')) ∧ Below wx.heap.size wx w')
    (HS : ∀ wx, Below w.heap.size w wx → Calls Tryz.prog 10 #[.agg (acs 10 k i b s ad len cap 0 0 0 ⟨#[]⟩ none 0 0 0)] wx fun e w' => ∃ es hs k' i' u' s' a' n' c', e = .returned (.agg (rcs es 0 0 0 hs k' i' u' s' a' n' c')) ∧ (es = 0 ∨ es = 12) ∧ Below wx.heap.size wx w') :
    Calls Tryz.prog 5 #[.agg #[.int .i64 k, .int .i64 i, .int .u64 b, .string s, .slice ad len cap], .int .i64 n] w fun e w' => e = .returned (.bool true) ∧ Below w.heap.size w w' := by
  have HWh : Hid (∀ wx, Below w.heap.size w wx → Calls Tryz.prog 8 #[] wx fun e w' => e = .returned (.bool true) ∧ Below wx.heap.size wx w') := fun wx _ => awake_any wx
  have HVh := Lib.hid HV
  have HAh := Lib.hid HA
  have HBh := Lib.hid HB
  have HSh := Lib.hid HS
  clear HV HA HB HS
  have B0 := below1 w (.cells #[.int .i64 k, .int .i64 i, .int .u64 b, .string s, .slice ad len cap] 25)
  have D0 := Bk.new w #[.int .i64 k, .int .i64 i, .int .u64 b, .string s, .slice ad len cap] 25
  go_enter Tryz.func5, Tryz.ntmps5
  go_wp2_with fail
  refine (HVh.out _ B0).mono ?_
  rintro e w1 ⟨rfl, bw1⟩
  have B1 := B0.trans (bw1.mono B0.size)
  have D1 := D0.step bw1
  clear bw1 B0 D0
  obtain ⟨c0, c1, c2, c3, c4⟩ := D1.c5
  go_wp2_with fail
  refine (HAh.out _ B1).mono ?_
  rintro e w2 ⟨x1, rfl, bw2⟩
  have B2 := B1.trans (bw2.mono B1.size)
  have D2 := D1.step bw2
  have A2 := Bk.new w2 (rErr 110 0 2 x1) 35
  have e2 := below1 w2 (.cells (rErr 110 0 2 x1) 35)
  have B3 := B2.trans (e2.mono B2.size)
  have D3 := D2.step e2
  clear bw2 B1 D1 D2 e2 B2 c0 c1 c2 c3 c4
  obtain ⟨c0, c1, c2, c3, c4⟩ := D3.c5
  go_wp2_with fail
  refine (HBh.out _ B3).mono ?_
  rintro e w3 ⟨y1, rfl, bw3⟩
  have B4 := B3.trans (bw3.mono B3.size)
  have D4 := D3.step bw3
  have A4 := A2.step bw3
  have F4 := Bk.new w3 (rErr 110 0 2 y1) 35
  have e4 := below1 w3 (.cells (rErr 110 0 2 y1) 35)
  have B5 := B4.trans (e4.mono B4.size)
  have D5 := D4.step e4
  have A5 := A4.step e4
  clear bw3 B3 D3 D4 A2 A4 e4 B4 c0 c1 c2 c3 c4
  obtain ⟨c0, c1, c2, c3, c4⟩ := D5.c5
  obtain ⟨a0, a1, a2, a3, a4, -, -, -, -, -⟩ := A5.c10
  obtain ⟨f0, f1, f2, f3, f4, -, -, -, -, -⟩ := F4.c10
  go_wp2_with fail
  refine (HSh.out _ B5).mono ?_
  rintro e w6 ⟨es, hs, k', i', u', s', a', n', c', rfl, hes, bq⟩
  have B8 := B5.trans (bq.mono B5.size)
  have S8 := Bk.new w6 (rcs es 0 0 0 hs k' i' u' s' a' n' c') 35
  have e8 := below1 w6 (.cells (rcs es 0 0 0 hs k' i' u' s' a' n' c') 35)
  have B9 := B8.trans (e8.mono B8.size)
  rcases hes with rfl | rfl
  all_goals
    clear bq B5 D5 A5 F4 c0 c1 c2 c3 c4 a0 a1 a2 a3 a4 f0 f1 f2 f3 f4 e8 B8
    obtain ⟨a0, a1, a2, a3, a4, -, -, -, -, -⟩ := S8.c10
    go_wp2_with fail
    refine (HWh.out _ B9).mono ?_
    rintro e w7 ⟨rfl, bq⟩
    have B10 := B9.trans (bq.mono B9.size)
    go_wp2
    go_ret
    exact ⟨rfl, B10⟩
end Go.Proofs.YthamafijjflfbaaGreat
/- The package's look at one part of a pattern, and the document's walk over the parts: each as the plain functions say it; the conditions: the pattern's tree in memory. -/
namespace Go.Proofs.YthamafijjflfbaaGreat
open Go.RowKit

end Go.Proofs.YthamafijjflfbaaGreat
/- The package's walk over a pattern's parts that counts down, and Valid: as the plain functions say; the conditions: the pattern's tree in memory. -/
namespace Go.Proofs.YthamafijjflfbaaGreat
open Go.RowKit

end Go.Proofs.YthamafijjflfbaaGreat
/- The document's look at a pattern, and Fit: as the plain functions say; the conditions: the pattern's tree in memory. -/
namespace Go.Proofs.YthamafijjflfbaaGreat
open Go.RowKit

end Go.Proofs.YthamafijjflfbaaGreat
/- The document's Fit of any pattern: as the plain functions say; the condition: the pattern's tree in memory. -/
namespace Go.Proofs.YthamafijjflfbaaGreat
open Go.RowKit

/-- A pattern that is fit. -/
def fitW (n : Nat) (t : Wt n) : Bool := decide (0 ≤ lk 128 n t 1)
theorem fitW_valid (n : Nat) (t : Wt n) : (vw 128 n t 16384).1 = fitW n t := (sayW 128 n t 1 (by decide) (by decide)).same
theorem fitW_right (n : Nat) (t : Wt n) (h : fitW n t = true) : wgt n t = true := ((sayW 128 n t 1 (by decide) (by decide)).fit (of_decide_eq_true h)).2.2.2

end Go.Proofs.YthamafijjflfbaaGreat
/- The package's Holds, Covers and Meets at right patterns; the conditions: the patterns' trees lie in memory and are right, the value's kind is one. -/
namespace Go.Proofs.YthamafijjflfbaaGreat
open Go.RowKit

theorem OneD.drew {w : World} {v0 v1 v2 : Value} {k i b : Int} {s : ByteArray} {ad : Option Addr} {len cap : Nat} {w' : World} (h : OneD w v0 v1 v2 k i b s ad len cap w') : OneD w v0 v1 v2 k i b s ad len cap w'.drew := Below.drew h
theorem OneD.below {w : World} {v0 v1 v2 : Value} {k i b : Int} {s : ByteArray} {ad : Option Addr} {len cap : Nat} {w' : World} (h : OneD w v0 v1 v2 k i b s ad len cap w') : Below w.heap.size w w' := (below2 w _ _).trans (Below.mono h (by omega))
theorem OneD.step {w : World} {v0 v1 v2 : Value} {k i b : Int} {s : ByteArray} {ad : Option Addr} {len cap : Nat} {w1 w2 : World} (h : OneD w v0 v1 v2 k i b s ad len cap w1) (hb : Below w1.heap.size w1 w2) : OneD w v0 v1 v2 k i b s ad len cap w2 := by
  have := Below.size h
  simp at this
  exact Below.trans h (hb.mono (by omega))
theorem OneD.start (w : World) (v0 v1 v2 : Value) (k i b : Int) (s : ByteArray) (ad : Option Addr) (len cap : Nat) : OneD w v0 v1 v2 k i b s ad len cap ((w.alloc (.cells #[v0, v1, v2] 51)).alloc (.cells #[.int .i64 k, .int .i64 i, .int .u64 b, .string s, .slice ad len cap] 25)) := Below.refl _ _
theorem OneD.c {w : World} {v0 v1 v2 : Value} {k i b : Int} {s : ByteArray} {ad : Option Addr} {len cap : Nat} {w' : World} (h : OneD w v0 v1 v2 k i b s ad len cap w') :
    w'.cell? ⟨w.heap.size, 0, none⟩ = some v0 ∧ w'.cell? ⟨w.heap.size, 1, none⟩ = some v1 ∧ w'.cell? ⟨w.heap.size, 2, none⟩ = some v2 ∧ w'.cell? ⟨w.heap.size + 1, 0, none⟩ = some (.int .i64 k) := by
  have e0 := heap_alloc_new w (.cells #[v0, v1, v2] 51)
  have e1 := heap_alloc_new (w.alloc (.cells #[v0, v1, v2] 51)) (.cells #[.int .i64 k, .int .i64 i, .int .u64 b, .string s, .slice ad len cap] 25)
  simp only [World.size_alloc] at e1
  have h0 : w'.heap[w.heap.size]? = some (.cells #[v0, v1, v2] 51 (0, 0)) := (Below.block h w.heap.size (by omega)).trans (((below1 _ _).block _ (by simp)).trans e0)
  have h1 : w'.heap[w.heap.size + 1]? = some (.cells #[.int .i64 k, .int .i64 i, .int .u64 b, .string s, .slice ad len cap] 25 (0, 0)) := (Below.block h (w.heap.size + 1) (by omega)).trans e1
  simp [World.cell?, h0, h1]

/-- The two blocks of Covers and Meets. -/
def Tw (w : World) (v0 v1 v2 x0 x1 x2 : Value) (w' : World) : Prop := Below (w.heap.size + 2) ((w.alloc (.cells #[v0, v1, v2] 51)).alloc (.cells #[x0, x1, x2] 51)) w'
theorem Tw.drew {w : World} {v0 v1 v2 x0 x1 x2 : Value} {w' : World} (h : Tw w v0 v1 v2 x0 x1 x2 w') : Tw w v0 v1 v2 x0 x1 x2 w'.drew := Below.drew h
theorem Tw.below {w : World} {v0 v1 v2 x0 x1 x2 : Value} {w' : World} (h : Tw w v0 v1 v2 x0 x1 x2 w') : Below w.heap.size w w' := (below2 w _ _).trans (Below.mono h (by omega))
theorem Tw.step {w : World} {v0 v1 v2 x0 x1 x2 : Value} {w1 w2 : World} (h : Tw w v0 v1 v2 x0 x1 x2 w1) (hb : Below w1.heap.size w1 w2) : Tw w v0 v1 v2 x0 x1 x2 w2 := by
  have := Below.size h
  simp at this
  exact Below.trans h (hb.mono (by omega))
theorem Tw.start (w : World) (v0 v1 v2 x0 x1 x2 : Value) : Tw w v0 v1 v2 x0 x1 x2 ((w.alloc (.cells #[v0, v1, v2] 51)).alloc (.cells #[x0, x1, x2] 51)) := Below.refl _ _
theorem Tw.c {w : World} {v0 v1 v2 x0 x1 x2 : Value} {w' : World} (h : Tw w v0 v1 v2 x0 x1 x2 w') :
    (w'.cell? ⟨w.heap.size, 0, none⟩ = some v0 ∧ w'.cell? ⟨w.heap.size, 1, none⟩ = some v1 ∧ w'.cell? ⟨w.heap.size, 2, none⟩ = some v2) ∧ w'.cell? ⟨w.heap.size + 1, 0, none⟩ = some x0 ∧ w'.cell? ⟨w.heap.size + 1, 1, none⟩ = some x1 ∧ w'.cell? ⟨w.heap.size + 1, 2, none⟩ = some x2 := by
  have e0 := heap_alloc_new w (.cells #[v0, v1, v2] 51)
  have e1 := heap_alloc_new (w.alloc (.cells #[v0, v1, v2] 51)) (.cells #[x0, x1, x2] 51)
  simp only [World.size_alloc] at e1
  have h0 : w'.heap[w.heap.size]? = some (.cells #[v0, v1, v2] 51 (0, 0)) := (Below.block h w.heap.size (by omega)).trans (((below1 _ _).block _ (by simp)).trans e0)
  have h1 : w'.heap[w.heap.size + 1]? = some (.cells #[x0, x1, x2] 51 (0, 0)) := (Below.block h (w.heap.size + 1) (by omega)).trans e1
  simp [World.cell?, h0, h1]

/-- The kinds that are in the second and not in the first. -/
def offN (p q : Int → Bool) : Nat := kset q 14 &&& (4294967295 - kset p 14)
def covB (p q : Int → Bool) : Bool := offN p q == 0
def bothN (p q : Int → Bool) : Nat := kset p 14 &&& kset q 14
def meeB (p q : Int → Bool) : Bool := bothN p q != 0
theorem off_bits (p q : Int → Bool) : bits .andNot .u32 ((kset q 14 : Nat) : Int) ((kset p 14 : Nat) : Int) = ((offN p q : Nat) : Int) :=
  u32_andNot_nat _ _ (Nat.lt_trans (kset_lt q 14) (by decide)) (Nat.lt_trans (kset_lt p 14) (by decide))
theorem both_bits (p q : Int → Bool) : bits .and .u32 ((kset p 14 : Nat) : Int) ((kset q 14 : Nat) : Int) = ((bothN p q : Nat) : Int) :=
  u32_and_nat _ _ (Nat.lt_trans (kset_lt p 14) (by decide)) (Nat.lt_trans (kset_lt q 14) (by decide))

theorem natz (Z : Nat) : ((Z : Int) == 0) = (Z == 0) := by rw [Bool.eq_iff_iff]; simp
theorem natn (Z : Nat) : ((Z : Int) != 0) = (Z != 0) := by rw [Bool.eq_iff_iff]; simp
end Go.Proofs.YthamafijjflfbaaGreat
