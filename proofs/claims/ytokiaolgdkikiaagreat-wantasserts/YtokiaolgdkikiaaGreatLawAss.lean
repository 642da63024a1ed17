/- The law WantAsserts over a value's tree and any number: true, in new memory alone; the condition: the tree in memory, its bits within 64. -/
import Derived.Test.YtokiaolgdkikiaaGreatAsB
import Derived.Test.YtokiaolgdkikiaaGreatAsC
import Derived.Test.YtokiaolgdkikiaaGreatAsD
import Derived.Test.YtokiaolgdkikiaaGreatAwk
import Derived.Test.YtokiaolgdkikiaaGreatDRv
namespace Go.Proofs.YtokiaolgdkikiaaGreat
open Go.RowKit
/-- A block of a Miss. -/
def M2 (w : World) (N : Nat) (a b : Int) : Prop := w.heap[N]? = some (.cells #[.int .i64 a, .int .i64 b] 44 (0, 0))
theorem M2.below {w w' : World} {N : Nat} {a b : Int} (h : M2 w N a b) (hb : Below w.heap.size w w') : M2 w' N a b := (hb.block N (Array.getElem?_eq_some_iff.1 h).1).trans h
theorem M2.c {w : World} {N : Nat} {a b : Int} (h : M2 w N a b) : w.cell? ⟨N, 0, none⟩ = some (.int .i64 a) ∧ w.cell? ⟨N, 1, none⟩ = some (.int .i64 b) := by
  unfold M2 at h
  simp [World.cell?, h]
theorem M2.new (w : World) (a b : Int) : M2 (w.alloc (.cells #[.int .i64 a, .int .i64 b] 44)) w.heap.size a b := heap_alloc_new w _

set_option maxRecDepth 100000 in
set_option maxHeartbeats 4000000 in
theorem law_ass_bad (k i b : Int) (s : ByteArray) (ad : Option Addr) (len cap : Nat) (kind : Int) (w : World)
    (HV : Hid (∀ wx, Od w k i b s ad len cap wx → Calls Tryz.prog 12 #[.agg #[.int .i64 k, .int .i64 i, .int .u64 b, .string s, .slice ad len cap]] wx fun e w' => e = .returned (.bool false) ∧ Od w k i b s ad len cap w')) :
    Calls Tryz.prog 8 #[.agg #[.int .i64 k, .int .i64 i, .int .u64 b, .string s, .slice ad len cap], .int .i64 kind] w fun e w' => e = .returned (.bool true) ∧ Below w.heap.size w w' := by
  have hb0 := Od.start w k i b s ad len cap
  obtain ⟨c0, c1, c2, c3, c4⟩ := hb0.c
  go_enter Tryz.func8, Tryz.ntmps8
  go_wp2_with fail
  refine (HV.out _ hb0).mono ?_
  rintro e w1 ⟨rfl, b1⟩
  clear c0 c1 c2 c3 c4
  go_wp2_with fail
  refine (awake_any _).mono ?_
  rintro e w2 ⟨rfl, b2⟩
  go_wp2
  go_ret
  exact ⟨rfl, (b1.step b2).below⟩

set_option maxRecDepth 100000 in
set_option maxHeartbeats 4000000 in
theorem law_ass_no (k i b : Int) (s : ByteArray) (ad : Option Addr) (len cap : Nat) (kind : Int) (w : World)
    (HV : Hid (∀ wx, Od w k i b s ad len cap wx → Calls Tryz.prog 12 #[.agg #[.int .i64 k, .int .i64 i, .int .u64 b, .string s, .slice ad len cap]] wx fun e w' => e = .returned (.bool true) ∧ Od w k i b s ad len cap w'))
    (HT : Hid (∀ wx, Od w k i b s ad len cap wx → Calls Tryz.prog 30 #[.agg #[.int .i64 k, .int .i64 i, .int .u64 b, .string s, .slice ad len cap], .int .i64 kind] wx fun e w' => e = .returned (.tuple #[.agg #[.int .i64 0, .int .i64 0, .int .u64 0, .string ⟨#[]⟩, .slice none 0 0], .bool false]) ∧ Below wx.heap.size wx w'))
    (HM : Hid (∀ wx, Od w k i b s ad len cap wx → Calls Tryz.prog 31 #[.agg #[.int .i64 k, .int .i64 i, .int .u64 b, .string s, .slice ad len cap], .int .i64 kind] wx fun e w' => e = .returned (.tuple #[.agg #[.int .i64 0, .int .i64 0, .int .u64 0, .string ⟨#[]⟩, .slice none 0 0], .agg #[.int .i64 k, .int .i64 (-1)], .int .i64 20]) ∧ Below wx.heap.size wx w'))
    (HR : Hid (∀ wx, Calls Tryz.prog 32 #[.agg #[.int .i64 k, .int .i64 i, .int .u64 b, .string s, .slice ad len cap], .int .i64 kind] wx fun e w' => e = .returned (.bool false) ∧ Below wx.heap.size wx w'))
    (HZ : Hid (∀ wx, Calls Tryz.prog 33 #[.agg #[.int .i64 0, .int .i64 0, .int .u64 0, .string ⟨#[]⟩, .slice none 0 0], .agg #[.int .i64 0, .int .i64 0, .int .u64 0, .string ⟨#[]⟩, .slice none 0 0]] wx fun e w' => e = .returned (.bool true) ∧ Below wx.heap.size wx w')) :
    Calls Tryz.prog 8 #[.agg #[.int .i64 k, .int .i64 i, .int .u64 b, .string s, .slice ad len cap], .int .i64 kind] w fun e w' => e = .returned (.bool true) ∧ Below w.heap.size w w' := by
  have hb0 := Od.start w k i b s ad len cap
  obtain ⟨c0, c1, c2, c3, c4⟩ := hb0.c
  go_enter Tryz.func8, Tryz.ntmps8
  go_wp2_with fail
  refine (HV.out _ hb0).mono ?_
  rintro e w1 ⟨rfl, b1⟩
  clear c0 c1 c2 c3 c4
  obtain ⟨c0, c1, c2, c3, c4⟩ := b1.c
  go_wp2_with fail
  refine (HT.out _ b1).mono ?_
  rintro e w2 ⟨rfl, b2'⟩
  have b2 := b1.step b2'
  clear c0 c1 c2 c3 c4
  have X2 := Dt.D5.new w2 (.int .i64 0) (.int .i64 0) (.int .u64 0) (.string ⟨#[]⟩) (.slice none 0 0)
  have B2 := b2.step (below1 w2 (.cells #[.int .i64 0, .int .i64 0, .int .u64 0, .string ⟨#[]⟩, .slice none 0 0] 30))
  obtain ⟨c0, c1, c2, c3, c4⟩ := B2.c
  clear b2' b2
  go_wp2_with fail
  refine (HM.out _ B2).mono ?_
  rintro e w3 ⟨rfl, b3'⟩
  have b3 := B2.step b3'
  have X3 := X2.below b3'
  clear c0 c1 c2 c3 c4 B2 X2 b3'
  have bb : Below w3.heap.size w3 ((w3.alloc (.cells #[.int .i64 0, .int .i64 0, .int .u64 0, .string ⟨#[]⟩, .slice none 0 0] 30)).alloc (.cells #[.int .i64 k, .int .i64 (-1)] 44)) := below2 w3 _ _
  have B3 := b3.step bb
  have X3' := X3.below bb
  have Y3 := (Dt.D5.new w3 (.int .i64 0) (.int .i64 0) (.int .u64 0) (.string ⟨#[]⟩) (.slice none 0 0)).below (below1 _ (.cells #[.int .i64 k, .int .i64 (-1)] 44))
  have M3 := M2.new (w3.alloc (.cells #[.int .i64 0, .int .i64 0, .int .u64 0, .string ⟨#[]⟩, .slice none 0 0] 30)) k (-1)
  rw [World.size_alloc] at M3
  clear X3 b3 bb
  obtain ⟨c0, c1, c2, c3, c4⟩ := B3.c
  obtain ⟨p0, p1⟩ := M3.c
  go_wp2_with fail
  refine (HR.out _).mono ?_
  rintro e w4 ⟨rfl, b4'⟩
  have B4 := B3.step b4'
  have X4 := X3'.below b4'
  have Y4 := Y3.below b4'
  have M4 := M3.below b4'
  clear c0 c1 c2 c3 c4 p0 p1 B3 X3' Y3 M3 b4'
  obtain ⟨c0, c1, c2, c3, c4⟩ := B4.c
  obtain ⟨x0', x1', x2', x3', x4'⟩ := X4.c
  obtain ⟨y0', y1', y2', y3', y4'⟩ := Y4.c
  obtain ⟨p0, p1⟩ := M4.c
  go_wp2_with fail
  refine (HZ.out _).mono ?_
  rintro e w5 ⟨rfl, b5'⟩
  have B5 := B4.step b5'
  have Y5 := Y4.below b5'
  have M5 := M4.below b5'
  clear c0 c1 c2 c3 c4 x0' x1' x2' x3' x4' y0' y1' y2' y3' y4' p0 p1 B4 X4 Y4 M4 b5'
  obtain ⟨c0, c1, c2, c3, c4⟩ := B5.c
  obtain ⟨y0', y1', y2', y3', y4'⟩ := Y5.c
  obtain ⟨p0, p1⟩ := M5.c
  go_wp2_with fail
  refine (HZ.out _).mono ?_
  rintro e w6 ⟨rfl, b6'⟩
  have B6 := B5.step b6'
  have M6 := M5.below b6'
  clear c0 c1 c2 c3 c4 y0' y1' y2' y3' y4' p0 p1 B5 Y5 M5 b6'
  obtain ⟨c0, c1, c2, c3, c4⟩ := B6.c
  obtain ⟨p0, p1⟩ := M6.c
  go_wp2_with fail
  refine (awake_any _).mono ?_
  rintro e w7 ⟨rfl, b7⟩
  clear c0 c1 c2 c3 c4 p0 p1
  go_wp2
  go_ret
  exact ⟨rfl, (B6.step b7).below⟩

set_option maxRecDepth 100000 in
set_option maxHeartbeats 4000000 in
theorem law_ass_yes (m : Nat) (t : Dt.Tr m) (k i b : Int) (s : ByteArray) (ad : Option Addr) (len cap : Nat) (kind : Int) (w : World)
    (HV : Hid (∀ wx, Od w k i b s ad len cap wx → Calls Tryz.prog 12 #[.agg #[.int .i64 k, .int .i64 i, .int .u64 b, .string s, .slice ad len cap]] wx fun e w' => e = .returned (.bool true) ∧ Od w k i b s ad len cap w'))
    (HT : Hid (∀ wx, Od w k i b s ad len cap wx → Calls Tryz.prog 30 #[.agg #[.int .i64 k, .int .i64 i, .int .u64 b, .string s, .slice ad len cap], .int .i64 kind] wx fun e w' => ∃ (x0 x1 x2 : Int) (x3 : ByteArray) (x4 : Option Addr) (x5 x6 : Nat), e = .returned (.tuple #[.agg #[.int .i64 x0, .int .i64 x1, .int .u64 x2, .string x3, .slice x4 x5 x6], .bool true]) ∧ Hid (Dt.Rep w' m [.int .i64 x0, .int .i64 x1, .int .u64 x2, .string x3, .slice x4 x5 x6] t) ∧ Below wx.heap.size wx w'))
    (HM : Hid (∀ wx, Od w k i b s ad len cap wx → Calls Tryz.prog 31 #[.agg #[.int .i64 k, .int .i64 i, .int .u64 b, .string s, .slice ad len cap], .int .i64 kind] wx fun e w' => ∃ (y0 y1 y2 : Int) (y3 : ByteArray) (y4 : Option Addr) (y5 y6 : Nat), e = .returned (.tuple #[.agg #[.int .i64 y0, .int .i64 y1, .int .u64 y2, .string y3, .slice y4 y5 y6], .agg #[.int .i64 0, .int .i64 0], .int .i64 0]) ∧ Hid (Dt.Rep w' m [.int .i64 y0, .int .i64 y1, .int .u64 y2, .string y3, .slice y4 y5 y6] t) ∧ Below wx.heap.size wx w'))
    (HR : Hid (∀ wx, Calls Tryz.prog 32 #[.agg #[.int .i64 k, .int .i64 i, .int .u64 b, .string s, .slice ad len cap], .int .i64 kind] wx fun e w' => e = .returned (.bool true) ∧ Below wx.heap.size wx w'))
    (HZ : Hid (∀ (x0 x1 x2 : Int) (x3 : ByteArray) (x4 : Option Addr) (x5 x6 : Nat) wx, Hid (Dt.Rep wx m [.int .i64 x0, .int .i64 x1, .int .u64 x2, .string x3, .slice x4 x5 x6] t) → Od w k i b s ad len cap wx → Calls Tryz.prog 33 #[.agg #[.int .i64 x0, .int .i64 x1, .int .u64 x2, .string x3, .slice x4 x5 x6], .agg #[.int .i64 k, .int .i64 i, .int .u64 b, .string s, .slice ad len cap]] wx fun e w' => e = .returned (.bool true) ∧ Below wx.heap.size wx w')) :
    Calls Tryz.prog 8 #[.agg #[.int .i64 k, .int .i64 i, .int .u64 b, .string s, .slice ad len cap], .int .i64 kind] w fun e w' => e = .returned (.bool true) ∧ Below w.heap.size w w' := by
  have hb0 := Od.start w k i b s ad len cap
  obtain ⟨c0, c1, c2, c3, c4⟩ := hb0.c
  go_enter Tryz.func8, Tryz.ntmps8
  go_wp2_with fail
  refine (HV.out _ hb0).mono ?_
  rintro e w1 ⟨rfl, b1⟩
  clear c0 c1 c2 c3 c4
  obtain ⟨c0, c1, c2, c3, c4⟩ := b1.c
  go_wp2_with fail
  refine (HT.out _ b1).mono ?_
  rintro e w2 ⟨x0, x1, x2, x3, x4, x5, x6, rfl, rx, b2'⟩
  have b2 := b1.step b2'
  clear c0 c1 c2 c3 c4
  have X2 := Dt.D5.new w2 (.int .i64 x0) (.int .i64 x1) (.int .u64 x2) (.string x3) (.slice x4 x5 x6)
  have B2 := b2.step (below1 w2 (.cells #[.int .i64 x0, .int .i64 x1, .int .u64 x2, .string x3, .slice x4 x5 x6] 30))
  obtain ⟨c0, c1, c2, c3, c4⟩ := B2.c
  have rx2 := Lib.hid (Dt.Rep.below (below1 w2 (.cells #[.int .i64 x0, .int .i64 x1, .int .u64 x2, .string x3, .slice x4 x5 x6] 30)) m _ _ rx.out)
  clear rx
  clear b2' b2
  go_wp2_with fail
  refine (HM.out _ B2).mono ?_
  rintro e w3 ⟨y0, y1, y2, y3, y4, y5, y6, rfl, ry, b3'⟩
  have b3 := B2.step b3'
  have X3 := X2.below b3'
  have rx3 := Lib.hid (Dt.Rep.below b3' m _ _ rx2.out)
  clear rx2
  clear c0 c1 c2 c3 c4 B2 X2 b3'
  have bb : Below w3.heap.size w3 ((w3.alloc (.cells #[.int .i64 y0, .int .i64 y1, .int .u64 y2, .string y3, .slice y4 y5 y6] 30)).alloc (.cells #[.int .i64 0, .int .i64 0] 44)) := below2 w3 _ _
  have B3 := b3.step bb
  have X3' := X3.below bb
  have Y3 := (Dt.D5.new w3 (.int .i64 y0) (.int .i64 y1) (.int .u64 y2) (.string y3) (.slice y4 y5 y6)).below (below1 _ (.cells #[.int .i64 0, .int .i64 0] 44))
  have M3 := M2.new (w3.alloc (.cells #[.int .i64 y0, .int .i64 y1, .int .u64 y2, .string y3, .slice y4 y5 y6] 30)) 0 0
  rw [World.size_alloc] at M3
  have rx3' := Lib.hid (Dt.Rep.below bb m _ _ rx3.out)
  have ry3 := Lib.hid (Dt.Rep.below bb m _ _ ry.out)
  clear rx3 ry
  clear X3 b3 bb
  obtain ⟨c0, c1, c2, c3, c4⟩ := B3.c
  obtain ⟨p0, p1⟩ := M3.c
  go_wp2_with fail
  refine (HR.out _).mono ?_
  rintro e w4 ⟨rfl, b4'⟩
  have B4 := B3.step b4'
  have X4 := X3'.below b4'
  have Y4 := Y3.below b4'
  have M4 := M3.below b4'
  have rx4 := Lib.hid (Dt.Rep.below b4' m _ _ rx3'.out)
  have ry4 := Lib.hid (Dt.Rep.below b4' m _ _ ry3.out)
  clear rx3' ry3
  clear c0 c1 c2 c3 c4 p0 p1 B3 X3' Y3 M3 b4'
  obtain ⟨c0, c1, c2, c3, c4⟩ := B4.c
  obtain ⟨x0', x1', x2', x3', x4'⟩ := X4.c
  obtain ⟨y0', y1', y2', y3', y4'⟩ := Y4.c
  obtain ⟨p0, p1⟩ := M4.c
  go_wp2_with fail
  refine (HZ.out _ _ _ _ _ _ _ _ rx4 B4).mono ?_
  rintro e w5 ⟨rfl, b5'⟩
  have B5 := B4.step b5'
  have Y5 := Y4.below b5'
  have M5 := M4.below b5'
  have ry5 := Lib.hid (Dt.Rep.below b5' m _ _ ry4.out)
  clear ry4 rx4
  clear c0 c1 c2 c3 c4 x0' x1' x2' x3' x4' y0' y1' y2' y3' y4' p0 p1 B4 X4 Y4 M4 b5'
  obtain ⟨c0, c1, c2, c3, c4⟩ := B5.c
  obtain ⟨y0', y1', y2', y3', y4'⟩ := Y5.c
  obtain ⟨p0, p1⟩ := M5.c
  go_wp2_with fail
  refine (HZ.out _ _ _ _ _ _ _ _ ry5 B5).mono ?_
  rintro e w6 ⟨rfl, b6'⟩
  have B6 := B5.step b6'
  have M6 := M5.below b6'
  clear c0 c1 c2 c3 c4 y0' y1' y2' y3' y4' p0 p1 B5 Y5 M5 b6'
  obtain ⟨c0, c1, c2, c3, c4⟩ := B6.c
  obtain ⟨p0, p1⟩ := M6.c
  go_wp2_with fail
  refine (awake_any _).mono ?_
  rintro e w7 ⟨rfl, b7⟩
  clear c0 c1 c2 c3 c4 p0 p1
  go_wp2
  go_ret
  exact ⟨rfl, (B6.step b7).below⟩
end Go.Proofs.YtokiaolgdkikiaaGreat
