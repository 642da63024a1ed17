/- The package's Open of a pointer: the plain data of what lies in the box, in new memory; the conditions: the tree in memory, valid, its bits within 64. -/
import Derived.Test.YthamafijjflfbaaGreatMaj
import Derived.Defers
import Derived.Recover
import Derived.Test.YthamafijjflfbaaGreatMac
import Derived.Test.YthamafijjflfbaaGreatMab
namespace Go.Proofs.YthamafijjflfbaaGreat.Dt
open Go.RowKit
theorem boxOpen (b : Nat) (i : Int) (u : Value) (w : World) (h : w.heap[b]? = some (.cells #[.int .i64 i, u] 177 (0, 0))) (hu : Sx u) : Calls Tryz.prog 119 #[.pointer (some ⟨b, 0, none⟩)] w fun e w' => e = .returned u ∧ Below w.heap.size w w' := by
  have c1 : w.cell? ⟨b, 1, none⟩ = some u := by simp [World.cell?, h]
  rcases hu with rfl | ⟨T, z, rfl⟩
  all_goals
    go_enter Tryz.func119, Tryz.ntmps119
    go_wp2
    go_ret
    exact ⟨rfl, Below.refl _ _⟩
/-- A value's block, a result's and an error's. -/
def Th (w : World) (v0 v1 v2 v3 v4 : Value) (w' : World) : Prop := Below (w.heap.size + 3) (((w.alloc (.cells #[v0, v1, v2, v3, v4] 25)).alloc (.cells #[.int .i64 0, .int .i64 0, .int .u64 0, .string ⟨#[]⟩, .slice none 0 0] 25)).alloc (.cells #[.int .i64 0] 31)) w'
theorem Th.below {w : World} {v0 v1 v2 v3 v4 : Value} {w' : World} (h : Th w v0 v1 v2 v3 v4 w') : Below w.heap.size w w' := ((((Below.refl _ w).alloc (Nat.le_refl _) _).alloc (by simp) _).alloc (by simp; omega) _).trans (Below.mono h (by omega))
theorem Th.step {w : World} {v0 v1 v2 v3 v4 : Value} {w1 w2 : World} (h : Th w v0 v1 v2 v3 v4 w1) (hb : Below w1.heap.size w1 w2) : Th w v0 v1 v2 v3 v4 w2 := by
  have := Below.size h
  simp at this
  exact Below.trans h (hb.mono (by omega))
theorem Th.drew {w : World} {v0 v1 v2 v3 v4 : Value} {w' : World} (h : Th w v0 v1 v2 v3 v4 w') : Th w v0 v1 v2 v3 v4 w'.drew := Below.drew h
theorem Th.start (w : World) (v0 v1 v2 v3 v4 : Value) : Th w v0 v1 v2 v3 v4 (((w.alloc (.cells #[v0, v1, v2, v3, v4] 25)).alloc (.cells #[.int .i64 0, .int .i64 0, .int .u64 0, .string ⟨#[]⟩, .slice none 0 0] 25)).alloc (.cells #[.int .i64 0] 31)) := Below.refl _ _
theorem Th.size3 {w : World} {v0 v1 v2 v3 v4 : Value} {w' : World} (h : Th w v0 v1 v2 v3 v4 w') : w.heap.size + 3 ≤ w'.heap.size := by
  have := Below.size h
  simp at this
  omega
theorem Th.d {w : World} {v0 v1 v2 v3 v4 : Value} {w' : World} (h : Th w v0 v1 v2 v3 v4 w') :
    (w'.cell? ⟨w.heap.size + 1, 0, none⟩ = some (.int .i64 0) ∧ w'.cell? ⟨w.heap.size + 1, 1, none⟩ = some (.int .i64 0) ∧ w'.cell? ⟨w.heap.size + 1, 2, none⟩ = some (.int .u64 0) ∧ w'.cell? ⟨w.heap.size + 1, 3, none⟩ = some (.string ⟨#[]⟩) ∧ w'.cell? ⟨w.heap.size + 1, 4, none⟩ = some (.slice none 0 0)) ∧ w'.cell? ⟨w.heap.size + 1 + 1, 0, none⟩ = some (.int .i64 0) ∧ (∀ o, w'.frozen? ⟨w.heap.size + 1, o, none⟩ = false) ∧ ∀ o, w'.frozen? ⟨w.heap.size + 1 + 1, o, none⟩ = false := by
  have e1 := heap_alloc_new (w.alloc (.cells #[v0, v1, v2, v3, v4] 25)) (.cells #[.int .i64 0, .int .i64 0, .int .u64 0, .string ⟨#[]⟩, .slice none 0 0] 25)
  have e2 := heap_alloc_new ((w.alloc (.cells #[v0, v1, v2, v3, v4] 25)).alloc (.cells #[.int .i64 0, .int .i64 0, .int .u64 0, .string ⟨#[]⟩, .slice none 0 0] 25)) (.cells #[.int .i64 0] 31)
  simp only [World.size_alloc] at e1 e2
  have h1 : w'.heap[w.heap.size + 1]? = some (.cells #[.int .i64 0, .int .i64 0, .int .u64 0, .string ⟨#[]⟩, .slice none 0 0] 25 (0, 0)) := (Below.block h (w.heap.size + 1) (by omega)).trans (((below1 _ _).block _ (by simp)).trans e1)
  have h2 : w'.heap[w.heap.size + 1 + 1]? = some (.cells #[.int .i64 0] 31 (0, 0)) := (Below.block h (w.heap.size + 2) (by omega)).trans e2
  simp [World.cell?, World.frozen?, h1, h2]

end Go.Proofs.YthamafijjflfbaaGreat.Dt
/- A box that is opened: what lies in it, or the panic of a nil pointer, or of what can't be opened; the conditions: what stands for the value, and what the assertion comes to. -/
namespace Go.Proofs.YthamafijjflfbaaGreat
open Go.RowKit

set_option maxRecDepth 100000 in
set_option maxHeartbeats 1000000 in
theorem open1_yes (A bx : Nat) (i : Int) (u : Value) (hu : Sx u) (w : World) (hA : Bk w A #[.iface 141 (.pointer (some ⟨bx, 0, none⟩))] 100) (hb : w.heap[bx]? = some (.cells #[.int .i64 i, u] 177 (0, 0))) :
    Calls Tryz.prog 61 #[.pointer (some ⟨A, 0, none⟩)] w fun e w' => e = .returned u ∧ Below w.heap.size w w' := by
  have hmm : ∀ (w : World), (method 320 141 (.pointer (some ⟨bx, 0, none⟩)) "Open").run Tryz.prog w = .ok (119, .pointer (some ⟨bx, 0, none⟩)) w := fun _ => by kernel_rfl
  have hcf : ∀ (args : Array Value) (w : World), (callFunc 119 args).run Tryz.prog w = .ok (.enter 119 args) w := fun _ _ => by kernel_rfl
  have a0 := hA.c 0
  have BO := Lib.hid (Dt.boxOpen bx i u w hb hu)
  rcases hu with rfl | ⟨T, z, rfl⟩
  all_goals
    go_enter Tryz.func61, Tryz.ntmps61
    go_wp2_with fail
    refine BO.out.mono ?_
    rintro e w1 ⟨rfl, b1⟩
    go_wp2
    go_ret
    exact ⟨rfl, b1⟩

set_option maxRecDepth 100000 in
set_option maxHeartbeats 1000000 in
theorem boxNil (w : World) : Calls Tryz.prog 119 #[.pointer none] w fun e w' => (∃ T z, Pn T z e) ∧ Below w.heap.size w w' := by
  go_enter Tryz.func119, Tryz.ntmps119
  go_wp2_with fail
  exact ⟨rfl, ⟨_, _, Pn.one _ _⟩, by first | exact Below.refl _ _ | exact below1 _ _⟩
set_option maxRecDepth 100000 in
set_option maxHeartbeats 1000000 in
theorem open1_no (A : Nat) (w : World) (hA : Bk w A #[.iface 141 (.pointer none)] 100) :
    Calls Tryz.prog 61 #[.pointer (some ⟨A, 0, none⟩)] w fun e w' => (∃ T z, Pn T z e) ∧ Below w.heap.size w w' := by
  have hmm : ∀ (w : World), (method 320 141 (.pointer none) "Open").run Tryz.prog w = .ok (119, .pointer none) w := fun _ => by kernel_rfl
  have hcf : ∀ (args : Array Value) (w : World), (callFunc 119 args).run Tryz.prog w = .ok (.enter 119 args) w := fun _ _ => by kernel_rfl
  have a0 := hA.c 0
  have BO := Lib.hid boxNil
  go_enter Tryz.func61, Tryz.ntmps61
  go_wp2_with fail
  refine (BO.out _).mono ?_
  rintro e w1 ⟨⟨T, z, older, rfl, ho⟩, b1⟩
  go_wp2_with fail
  exact ⟨rfl, ⟨T, z, older, rfl, ho⟩, b1⟩

set_option maxRecDepth 100000 in
set_option maxHeartbeats 2000000 in
theorem popen_yes (k i b : Int) (s : ByteArray) (ad : Option Addr) (len cap : Nat) (w : World) (H : Nat) (hH : w.heap.size + 2 ≤ H) (P : BodyP) (hP : St H P)
    (hF : ∀ wx, Below w.heap.size w wx → Calls Tryz.prog 41 #[.agg #[.int .i64 k, .int .i64 i, .int .u64 b, .string s, .slice ad len cap], .int .i64 3] wx fun e w' => e = .returned (.tuple #[]) ∧ Below wx.heap.size wx w')
    (hO : ∀ wx, Below w.heap.size w wx → w.heap.size + 2 ≤ wx.heap.size → Calls Tryz.prog 58 #[.agg #[.int .i64 k, .int .i64 i, .int .u64 b, .string s, .slice ad len cap]] wx fun e w' => ∃ bx q u, e = .returned (.iface 141 (.pointer (some ⟨bx, 0, none⟩))) ∧ Hid (w'.heap[bx]? = some (.cells #[.int .i64 q, u] 177 (0, 0)) ∧ Sx u ∧ ∀ wy, Below w'.heap.size w' wy → Calls Tryz.prog 59 #[u] wy fun e w' => ∃ k i u s a n c, e = .returned (.agg #[.int .i64 k, .int .i64 i, .int .u64 u, .string s, .slice a n c]) ∧ P k i u s a n c w' ∧ Below wy.heap.size wy w') ∧ Below wx.heap.size wx w') :
    Calls Tryz.prog 43 #[.agg #[.int .i64 k, .int .i64 i, .int .u64 b, .string s, .slice ad len cap]] w fun e w' => ∃ k i u s a n c, e = .returned (.agg #[.int .i64 k, .int .i64 i, .int .u64 u, .string s, .slice a n c]) ∧ P k i u s a n c w' ∧ Below w.heap.size w w' := by
  have hmf : ∀ (fn : Fn) (first cap : Array Value) (w : World), (Instr.makeFunc fn first cap).run Tryz.prog w = .ok (.func fn first cap) w := fun _ _ _ _ => rfl
  have has : ∀ (bx : Nat) (w : World), (Instr.typeAssert (.iface 141 (.pointer (some ⟨bx, 0, none⟩))) 20 100 false).run Tryz.prog w = .ok (.iface 141 (.pointer (some ⟨bx, 0, none⟩))) w := fun bx w => must_has Tryz.underlying100 (by kernel_rfl) w
  have HF := Lib.hid hF
  have HO := Lib.hid hO
  have hP' := Lib.hid hP
  clear hF hO hP
  have B0 := below2 w (.cells #[.int .i64 k, .int .i64 i, .int .u64 b, .string s, .slice ad len cap] 25) (.cells #[.int .i64 0, .int .i64 0, .int .u64 0, .string ⟨#[]⟩, .slice none 0 0] 25)
  have D0 : Bk ((w.alloc (.cells #[.int .i64 k, .int .i64 i, .int .u64 b, .string s, .slice ad len cap] 25)).alloc (.cells #[.int .i64 0, .int .i64 0, .int .u64 0, .string ⟨#[]⟩, .slice none 0 0] 25)) w.heap.size #[.int .i64 k, .int .i64 i, .int .u64 b, .string s, .slice ad len cap] 25 := (Bk.new w _ _).alloc _
  have R0 := Bk.new2 w (.cells #[.int .i64 k, .int .i64 i, .int .u64 b, .string s, .slice ad len cap] 25) #[.int .i64 0, .int .i64 0, .int .u64 0, .string ⟨#[]⟩, .slice none 0 0] 25
  go_enter Tryz.func43, Tryz.ntmps43
  go_wp2_with fail
  refine (HF.out _ B0).mono ?_
  rintro e w0 ⟨rfl, b0⟩
  have B1 := B0.trans (b0.mono B0.size)
  have D1 := D0.step b0
  have R1 := R0.step b0
  have hs0 : w.heap.size + 2 ≤ w0.heap.size := by have := b0.size; simpa using this
  clear b0 B0 D0 R0
  obtain ⟨d0, d1, d2, d3, d4⟩ := D1.c5
  go_wp2_with fail
  refine (HO.out _ B1 hs0).mono ?_
  rintro e w1 ⟨bx, q, u, rfl, hv, b1⟩
  have B2 := B1.trans (b1.mono B1.size)
  have R2 := R1.step b1
  obtain ⟨hbx, hu, hPl⟩ := hv.out
  have PL := Lib.hid hPl
  have e1 := below1 w1 (.cells #[.iface 141 (.pointer (some ⟨bx, 0, none⟩))] 100)
  have A1 := Bk.new w1 #[.iface 141 (.pointer (some ⟨bx, 0, none⟩))] 100
  have hbl : bx < w1.heap.size := (Array.getElem?_eq_some_iff.1 hbx).1
  have AS := Lib.hid (asa_ret 61 #[.pointer (some ⟨w1.heap.size, 0, none⟩)] 86 (.agg #[]) (w1.alloc (.cells #[.iface 141 (.pointer (some ⟨bx, 0, none⟩))] 100)) (fun v _ => v = u) (fun _ => by kernel_rfl) (fun wx hx _ => (open1_yes w1.heap.size bx q u hu wx (A1.step hx) (((e1.trans (hx.mono e1.size)).block bx hbl).trans hbx)).mono fun e w' ⟨he, hb⟩ => ⟨_, he, rfl, hb⟩))
  have B3 := B2.trans (e1.mono B2.size)
  have R3 := R2.step e1
  clear hv hPl b1 B1 R1 D1 d0 d1 d2 d3 d4 A1 R2 hbx hbl
  rcases hu with rfl | ⟨T, z, rfl⟩
  all_goals
    go_wp2_with fail
    refine AS.out.mono ?_
    rintro e w2 ⟨v, rfl, rfl, b2⟩
    have B4 := B3.trans (b2.mono B3.size)
    have R4 := R3.step b2
    have ex := e1.trans (b2.mono e1.size)
    go_wp2_with fail
    refine (PL.out _ ex).mono ?_
    rintro e w3 ⟨k', i', u', s', a', n', c', rfl, p3, b3⟩
    have B5 := B4.trans (b3.mono B4.size)
    have R5 := R4.step b3
    have P3 := Lib.hid p3
    clear p3 b3 R4 B4 ex b2
    obtain ⟨c0, c1, c2, c3, c4⟩ := R5.c5
    have z5 := R5.f
    go_wp2_with fail
    obtain ⟨k1, k2, k3, k4⟩ := set5 R5 (.int .i64 k') (.int .i64 i') (.int .u64 u') (.string s') (.slice a' n' c') rfl
    have KP := Lib.hid (hP'.out _ _ _ _ _ _ _ _ _ P3.out (Nat.le_of_eq k2.symm) fun g hg _ => k3 g (by omega))
    have KF := B5.trans (k4.mono (by omega))
    obtain ⟨q0, q1, q2, q3, q4⟩ := k1.c5
    refine bodyPost_ret (v := .agg #[.int .i64 k', .int .i64 i', .int .u64 u', .string s', .slice a' n' c']) ?_ rfl ⟨k', i', u', s', a', n', c', rfl, KP.out, KF⟩
    simp [results, Tryz.results43, go_sem, q0, q1, q2, q3, q4]

set_option maxRecDepth 100000 in
set_option maxHeartbeats 2000000 in
theorem popen_nil (k i b : Int) (s : ByteArray) (ad : Option Addr) (len cap : Nat) (w : World)
    (hF : ∀ wx, Below w.heap.size w wx → Calls Tryz.prog 41 #[.agg #[.int .i64 k, .int .i64 i, .int .u64 b, .string s, .slice ad len cap], .int .i64 3] wx fun e w' => e = .returned (.tuple #[]) ∧ Below wx.heap.size wx w')
    (hO : ∀ wx, Below w.heap.size w wx → Calls Tryz.prog 58 #[.agg #[.int .i64 k, .int .i64 i, .int .u64 b, .string s, .slice ad len cap]] wx fun e w' => e = .returned (.iface 141 (.pointer none)) ∧ Below wx.heap.size wx w') :
    Calls Tryz.prog 43 #[.agg #[.int .i64 k, .int .i64 i, .int .u64 b, .string s, .slice ad len cap]] w fun e w' => Pn 86 (.agg #[]) e ∧ Below w.heap.size w w' := by
  have hmf : ∀ (fn : Fn) (first cap : Array Value) (w : World), (Instr.makeFunc fn first cap).run Tryz.prog w = .ok (.func fn first cap) w := fun _ _ _ _ => rfl
  have has : ∀ (w : World), (Instr.typeAssert (.iface 141 (.pointer none)) 20 100 false).run Tryz.prog w = .ok (.iface 141 (.pointer none)) w := fun w => must_has Tryz.underlying100 (by kernel_rfl) w
  have HF := Lib.hid hF
  have HO := Lib.hid hO
  clear hF hO
  have B0 := below2 w (.cells #[.int .i64 k, .int .i64 i, .int .u64 b, .string s, .slice ad len cap] 25) (.cells #[.int .i64 0, .int .i64 0, .int .u64 0, .string ⟨#[]⟩, .slice none 0 0] 25)
  have D0 : Bk ((w.alloc (.cells #[.int .i64 k, .int .i64 i, .int .u64 b, .string s, .slice ad len cap] 25)).alloc (.cells #[.int .i64 0, .int .i64 0, .int .u64 0, .string ⟨#[]⟩, .slice none 0 0] 25)) w.heap.size #[.int .i64 k, .int .i64 i, .int .u64 b, .string s, .slice ad len cap] 25 := (Bk.new w _ _).alloc _
  go_enter Tryz.func43, Tryz.ntmps43
  go_wp2_with fail
  refine (HF.out _ B0).mono ?_
  rintro e w0 ⟨rfl, b0⟩
  have B1 := B0.trans (b0.mono B0.size)
  have D1 := D0.step b0
  clear b0 B0 D0
  obtain ⟨d0, d1, d2, d3, d4⟩ := D1.c5
  go_wp2_with fail
  refine (HO.out _ B1).mono ?_
  rintro e w1 ⟨rfl, b1⟩
  have B2 := B1.trans (b1.mono B1.size)
  have e1 := below1 w1 (.cells #[.iface 141 (.pointer none)] 100)
  have A1 := Bk.new w1 #[.iface 141 (.pointer none)] 100
  have AS := Lib.hid (asa_pan 61 #[.pointer (some ⟨w1.heap.size, 0, none⟩)] 86 (.agg #[]) (w1.alloc (.cells #[.iface 141 (.pointer none)] 100)) (fun _ => True) (fun _ => by kernel_rfl) (fun wx hx _ => (open1_no w1.heap.size wx (A1.step hx)).mono fun e w' ⟨he, hb⟩ => ⟨he, trivial, hb⟩))
  have B3 := B2.trans (e1.mono B2.size)
  clear b1 B1 D1 d0 d1 d2 d3 d4 A1
  go_wp2_with fail
  refine AS.out.mono ?_
  rintro e w2 ⟨⟨older, rfl, ho⟩, -, b2⟩
  have B4 := B3.trans (b2.mono B3.size)
  go_wp2_with fail
  exact ⟨rfl, ⟨older, rfl, ho⟩, B4⟩

set_option maxRecDepth 100000 in
set_option maxHeartbeats 2000000 in
theorem popen_no (k i b m : Int) (s : ByteArray) (ad : Option Addr) (len cap : Nat) (w : World)
    (hF : ∀ wx, Below w.heap.size w wx → Calls Tryz.prog 41 #[.agg #[.int .i64 k, .int .i64 i, .int .u64 b, .string s, .slice ad len cap], .int .i64 3] wx fun e w' => Pn 84 (.int .i64 m) e ∧ Below wx.heap.size wx w') :
    Calls Tryz.prog 43 #[.agg #[.int .i64 k, .int .i64 i, .int .u64 b, .string s, .slice ad len cap]] w fun e w' => Pn 84 (.int .i64 m) e ∧ Below w.heap.size w w' := by
  have HF := Lib.hid hF
  clear hF
  have B0 := below2 w (.cells #[.int .i64 k, .int .i64 i, .int .u64 b, .string s, .slice ad len cap] 25) (.cells #[.int .i64 0, .int .i64 0, .int .u64 0, .string ⟨#[]⟩, .slice none 0 0] 25)
  go_enter Tryz.func43, Tryz.ntmps43
  go_wp2_with fail
  refine (HF.out _ B0).mono ?_
  rintro e w0 ⟨⟨older, rfl, ho⟩, b0⟩
  have B1 := B0.trans (b0.mono B0.size)
  go_wp2_with fail
  exact ⟨rfl, ⟨older, rfl, ho⟩, B1⟩
end Go.Proofs.YthamafijjflfbaaGreat
/- What an act comes to, by what the steps do; the conditions: what the steps come to. -/
namespace Go.Proofs.YthamafijjflfbaaGreat
open Go.RowKit

set_option maxRecDepth 100000 in
set_option maxHeartbeats 1000000 in
theorem done_index (ak ai au : Int) (az : ByteArray) (aa : Option Addr) (an ac : Nat) (bk bi bu : Int) (bs : ByteArray) (ba : Option Addr) (bn bc : Nat) (num : Int) (w : World) (H : Nat) (hH : w.heap.size + 2 ≤ H) (P : BodyP) (hP : St H P)
    (hM : ∀ wx, Below w.heap.size w wx → wx.heap.size = w.heap.size + 2 → Calls Tryz.prog 42 #[.agg #[.int .i64 ak, .int .i64 ai, .int .u64 au, .string az, .slice aa an ac], .int .i64 num] wx fun e w' => ∃ k i u s a n c, e = .returned (.agg #[.int .i64 k, .int .i64 i, .int .u64 u, .string s, .slice a n c]) ∧ P k i u s a n c w' ∧ Below wx.heap.size wx w') :
    Calls Tryz.prog 21 #[.agg (acs 4 ak ai au az aa an ac bk bi bu bs ba bn bc num)] w fun e w' => ∃ k i u s a n c, e = .returned (.agg (rcs 0 0 0 0 true k i u s a n c)) ∧ P k i u s a n c w' ∧ Below w.heap.size w w' := by
  have HM := Lib.hid hM
  have hP' := Lib.hid hP
  clear hM hP
  have GV : Hid (∀ (k i b : Int) (s : ByteArray) (ad : Option Addr) (len cap : Nat) (w : World), Calls Tryz.prog 38 #[.agg #[.int .i64 k, .int .i64 i, .int .u64 b, .string s, .slice ad len cap]] w fun e w' => e = .returned (.agg (rcs 0 0 0 0 true k i b s ad len cap)) ∧ Below w.heap.size w w') := gave_any
  have B0 := below2 w (.cells (acs 4 ak ai au az aa an ac bk bi bu bs ba bn bc num) 27) (.cells (rErr 0 0 0 0) 35)
  have R0 := Bk.new2 w (.cells (acs 4 ak ai au az aa an ac bk bi bu bs ba bn bc num) 27) (rErr 0 0 0 0) 35
  go_enter Tryz.func21, Tryz.ntmps21
  go_wp2_with fail
  refine (HM.out _ B0 (by simp)).mono ?_
  rintro e w1 ⟨k, i, u, s, a, n, c, rfl, p0, b1⟩
  have p1 := Lib.hid p0
  have B1 := B0.trans (b1.mono B0.size)
  have R1 := R0.step b1
  clear p0 b1 B0 R0
  go_wp2_with fail
  refine (GV.out k i u s a n c _).mono ?_
  rintro e w2 ⟨rfl, b2⟩
  have r2 := R1.step b2
  have B2 := B1.trans (b2.mono B1.size)
  have PP := Lib.hid (hP'.out.below p1.out b2)
  clear p1 R1 b2 B1
  obtain ⟨c0, c1, c2, c3, c4, c5, c6, c7, c8, c9⟩ := r2.c10
  have z2 := r2.f
  go_wp2_with fail
  obtain ⟨k1, k2, k3, k4⟩ := set10 r2 (.int .i64 0) (.int .i64 0) (.int .i64 0) (.int .i64 0) (.bool true) (.int .i64 k) (.int .i64 i) (.int .u64 u) (.string s) (.slice a n c) rfl
  have KP := Lib.hid (hP'.out _ _ _ _ _ _ _ w2 _ PP.out (Nat.le_of_eq k2.symm) fun g hg _ => k3 g (by omega))
  have KF := B2.trans (k4.mono (by omega))
  obtain ⟨q0, q1, q2, q3, q4, q5, q6, q7, q8, q9⟩ := k1.c10
  refine bodyPost_ret (v := .agg (rcs 0 0 0 0 true k i u s a n c)) ?_ rfl ⟨k, i, u, s, a, n, c, rfl, KP.out, KF⟩
  simp [results, Tryz.results21, go_sem, q0, q1, q2, q3, q4, q5, q6, q7, q8, q9]

set_option maxRecDepth 100000 in
set_option maxHeartbeats 1000000 in
theorem done_index_no (ak ai au : Int) (az : ByteArray) (aa : Option Addr) (an ac : Nat) (bk bi bu : Int) (bs : ByteArray) (ba : Option Addr) (bn bc : Nat) (num : Int) (T : TypeId) (z : Value) (w : World)
    (hM : ∀ wx, Below w.heap.size w wx → Calls Tryz.prog 42 #[.agg #[.int .i64 ak, .int .i64 ai, .int .u64 au, .string az, .slice aa an ac], .int .i64 num] wx fun e w' => Pn T z e ∧ Below wx.heap.size wx w') :
    Calls Tryz.prog 21 #[.agg (acs 4 ak ai au az aa an ac bk bi bu bs ba bn bc num)] w fun e w' => Pn T z e ∧ Below w.heap.size w w' := by
  have HM := Lib.hid hM
  clear hM
  have B0 := below2 w (.cells (acs 4 ak ai au az aa an ac bk bi bu bs ba bn bc num) 27) (.cells (rErr 0 0 0 0) 35)
  go_enter Tryz.func21, Tryz.ntmps21
  go_wp2_with fail
  refine (HM.out _ B0).mono ?_
  rintro e w1 ⟨⟨older, rfl, ho⟩, b1⟩
  have B1 := B0.trans (b1.mono B0.size)
  go_wp2_with fail
  exact ⟨rfl, ⟨older, rfl, ho⟩, B1⟩

set_option maxRecDepth 100000 in
set_option maxHeartbeats 1000000 in
theorem done_open (ak ai au : Int) (az : ByteArray) (aa : Option Addr) (an ac : Nat) (bk bi bu : Int) (bs : ByteArray) (ba : Option Addr) (bn bc : Nat) (num : Int) (w : World) (H : Nat) (hH : w.heap.size + 2 ≤ H) (P : BodyP) (hP : St H P)
    (hM : ∀ wx, Below w.heap.size w wx → wx.heap.size = w.heap.size + 2 → Calls Tryz.prog 43 #[.agg #[.int .i64 ak, .int .i64 ai, .int .u64 au, .string az, .slice aa an ac]] wx fun e w' => ∃ k i u s a n c, e = .returned (.agg #[.int .i64 k, .int .i64 i, .int .u64 u, .string s, .slice a n c]) ∧ P k i u s a n c w' ∧ Below wx.heap.size wx w') :
    Calls Tryz.prog 21 #[.agg (acs 5 ak ai au az aa an ac bk bi bu bs ba bn bc num)] w fun e w' => ∃ k i u s a n c, e = .returned (.agg (rcs 0 0 0 0 true k i u s a n c)) ∧ P k i u s a n c w' ∧ Below w.heap.size w w' := by
  have HM := Lib.hid hM
  have hP' := Lib.hid hP
  clear hM hP
  have GV : Hid (∀ (k i b : Int) (s : ByteArray) (ad : Option Addr) (len cap : Nat) (w : World), Calls Tryz.prog 38 #[.agg #[.int .i64 k, .int .i64 i, .int .u64 b, .string s, .slice ad len cap]] w fun e w' => e = .returned (.agg (rcs 0 0 0 0 true k i b s ad len cap)) ∧ Below w.heap.size w w') := gave_any
  have B0 := below2 w (.cells (acs 5 ak ai au az aa an ac bk bi bu bs ba bn bc num) 27) (.cells (rErr 0 0 0 0) 35)
  have R0 := Bk.new2 w (.cells (acs 5 ak ai au az aa an ac bk bi bu bs ba bn bc num) 27) (rErr 0 0 0 0) 35
  go_enter Tryz.func21, Tryz.ntmps21
  go_wp2_with fail
  refine (HM.out _ B0 (by simp)).mono ?_
  rintro e w1 ⟨k, i, u, s, a, n, c, rfl, p0, b1⟩
  have p1 := Lib.hid p0
  have B1 := B0.trans (b1.mono B0.size)
  have R1 := R0.step b1
  clear p0 b1 B0 R0
  go_wp2_with fail
  refine (GV.out k i u s a n c _).mono ?_
  rintro e w2 ⟨rfl, b2⟩
  have r2 := R1.step b2
  have B2 := B1.trans (b2.mono B1.size)
  have PP := Lib.hid (hP'.out.below p1.out b2)
  clear p1 R1 b2 B1
  obtain ⟨c0, c1, c2, c3, c4, c5, c6, c7, c8, c9⟩ := r2.c10
  have z2 := r2.f
  go_wp2_with fail
  obtain ⟨k1, k2, k3, k4⟩ := set10 r2 (.int .i64 0) (.int .i64 0) (.int .i64 0) (.int .i64 0) (.bool true) (.int .i64 k) (.int .i64 i) (.int .u64 u) (.string s) (.slice a n c) rfl
  have KP := Lib.hid (hP'.out _ _ _ _ _ _ _ w2 _ PP.out (Nat.le_of_eq k2.symm) fun g hg _ => k3 g (by omega))
  have KF := B2.trans (k4.mono (by omega))
  obtain ⟨q0, q1, q2, q3, q4, q5, q6, q7, q8, q9⟩ := k1.c10
  refine bodyPost_ret (v := .agg (rcs 0 0 0 0 true k i u s a n c)) ?_ rfl ⟨k, i, u, s, a, n, c, rfl, KP.out, KF⟩
  simp [results, Tryz.results21, go_sem, q0, q1, q2, q3, q4, q5, q6, q7, q8, q9]

set_option maxRecDepth 100000 in
set_option maxHeartbeats 1000000 in
theorem done_open_no (ak ai au : Int) (az : ByteArray) (aa : Option Addr) (an ac : Nat) (bk bi bu : Int) (bs : ByteArray) (ba : Option Addr) (bn bc : Nat) (num : Int) (T : TypeId) (z : Value) (w : World)
    (hM : ∀ wx, Below w.heap.size w wx → Calls Tryz.prog 43 #[.agg #[.int .i64 ak, .int .i64 ai, .int .u64 au, .string az, .slice aa an ac]] wx fun e w' => Pn T z e ∧ Below wx.heap.size wx w') :
    Calls Tryz.prog 21 #[.agg (acs 5 ak ai au az aa an ac bk bi bu bs ba bn bc num)] w fun e w' => Pn T z e ∧ Below w.heap.size w w' := by
  have HM := Lib.hid hM
  clear hM
  have B0 := below2 w (.cells (acs 5 ak ai au az aa an ac bk bi bu bs ba bn bc num) 27) (.cells (rErr 0 0 0 0) 35)
  go_enter Tryz.func21, Tryz.ntmps21
  go_wp2_with fail
  refine (HM.out _ B0).mono ?_
  rintro e w1 ⟨⟨older, rfl, ho⟩, b1⟩
  have B1 := B0.trans (b1.mono B0.size)
  go_wp2_with fail
  exact ⟨rfl, ⟨older, rfl, ho⟩, B1⟩

set_option maxRecDepth 100000 in
set_option maxHeartbeats 1000000 in
theorem done_compare (ak ai au : Int) (az : ByteArray) (aa : Option Addr) (an ac : Nat) (bk bi bu : Int) (bs : ByteArray) (ba : Option Addr) (bn bc : Nat) (num : Int) (w : World) (H : Nat) (hH : w.heap.size + 2 ≤ H) (P : BodyP) (hP : St H P)
    (hM : ∀ wx, Below w.heap.size w wx → wx.heap.size = w.heap.size + 2 → Calls Tryz.prog 44 #[.agg #[.int .i64 ak, .int .i64 ai, .int .u64 au, .string az, .slice aa an ac], .agg #[.int .i64 bk, .int .i64 bi, .int .u64 bu, .string bs, .slice ba bn bc]] wx fun e w' => ∃ k i u s a n c, e = .returned (.agg #[.int .i64 k, .int .i64 i, .int .u64 u, .string s, .slice a n c]) ∧ P k i u s a n c w' ∧ Below wx.heap.size wx w') :
    Calls Tryz.prog 21 #[.agg (acs 6 ak ai au az aa an ac bk bi bu bs ba bn bc num)] w fun e w' => ∃ k i u s a n c, e = .returned (.agg (rcs 0 0 0 0 true k i u s a n c)) ∧ P k i u s a n c w' ∧ Below w.heap.size w w' := by
  have HM := Lib.hid hM
  have hP' := Lib.hid hP
  clear hM hP
  have GV : Hid (∀ (k i b : Int) (s : ByteArray) (ad : Option Addr) (len cap : Nat) (w : World), Calls Tryz.prog 38 #[.agg #[.int .i64 k, .int .i64 i, .int .u64 b, .string s, .slice ad len cap]] w fun e w' => e = .returned (.agg (rcs 0 0 0 0 true k i b s ad len cap)) ∧ Below w.heap.size w w') := gave_any
  have B0 := below2 w (.cells (acs 6 ak ai au az aa an ac bk bi bu bs ba bn bc num) 27) (.cells (rErr 0 0 0 0) 35)
  have R0 := Bk.new2 w (.cells (acs 6 ak ai au az aa an ac bk bi bu bs ba bn bc num) 27) (rErr 0 0 0 0) 35
  go_enter Tryz.func21, Tryz.ntmps21
  go_wp2_with fail
  refine (HM.out _ B0 (by simp)).mono ?_
  rintro e w1 ⟨k, i, u, s, a, n, c, rfl, p0, b1⟩
  have p1 := Lib.hid p0
  have B1 := B0.trans (b1.mono B0.size)
  have R1 := R0.step b1
  clear p0 b1 B0 R0
  go_wp2_with fail
  refine (GV.out k i u s a n c _).mono ?_
  rintro e w2 ⟨rfl, b2⟩
  have r2 := R1.step b2
  have B2 := B1.trans (b2.mono B1.size)
  have PP := Lib.hid (hP'.out.below p1.out b2)
  clear p1 R1 b2 B1
  obtain ⟨c0, c1, c2, c3, c4, c5, c6, c7, c8, c9⟩ := r2.c10
  have z2 := r2.f
  go_wp2_with fail
  obtain ⟨k1, k2, k3, k4⟩ := set10 r2 (.int .i64 0) (.int .i64 0) (.int .i64 0) (.int .i64 0) (.bool true) (.int .i64 k) (.int .i64 i) (.int .u64 u) (.string s) (.slice a n c) rfl
  have KP := Lib.hid (hP'.out _ _ _ _ _ _ _ w2 _ PP.out (Nat.le_of_eq k2.symm) fun g hg _ => k3 g (by omega))
  have KF := B2.trans (k4.mono (by omega))
  obtain ⟨q0, q1, q2, q3, q4, q5, q6, q7, q8, q9⟩ := k1.c10
  refine bodyPost_ret (v := .agg (rcs 0 0 0 0 true k i u s a n c)) ?_ rfl ⟨k, i, u, s, a, n, c, rfl, KP.out, KF⟩
  simp [results, Tryz.results21, go_sem, q0, q1, q2, q3, q4, q5, q6, q7, q8, q9]

set_option maxRecDepth 100000 in
set_option maxHeartbeats 1000000 in
theorem done_compare_no (ak ai au : Int) (az : ByteArray) (aa : Option Addr) (an ac : Nat) (bk bi bu : Int) (bs : ByteArray) (ba : Option Addr) (bn bc : Nat) (num : Int) (T : TypeId) (z : Value) (w : World)
    (hM : ∀ wx, Below w.heap.size w wx → Calls Tryz.prog 44 #[.agg #[.int .i64 ak, .int .i64 ai, .int .u64 au, .string az, .slice aa an ac], .agg #[.int .i64 bk, .int .i64 bi, .int .u64 bu, .string bs, .slice ba bn bc]] wx fun e w' => Pn T z e ∧ Below wx.heap.size wx w') :
    Calls Tryz.prog 21 #[.agg (acs 6 ak ai au az aa an ac bk bi bu bs ba bn bc num)] w fun e w' => Pn T z e ∧ Below w.heap.size w w' := by
  have HM := Lib.hid hM
  clear hM
  have B0 := below2 w (.cells (acs 6 ak ai au az aa an ac bk bi bu bs ba bn bc num) 27) (.cells (rErr 0 0 0 0) 35)
  go_enter Tryz.func21, Tryz.ntmps21
  go_wp2_with fail
  refine (HM.out _ B0).mono ?_
  rintro e w1 ⟨⟨older, rfl, ho⟩, b1⟩
  have B1 := B0.trans (b1.mono B0.size)
  go_wp2_with fail
  exact ⟨rfl, ⟨older, rfl, ho⟩, B1⟩

set_option maxRecDepth 100000 in
set_option maxHeartbeats 1000000 in
theorem done_divide (ak ai au : Int) (az : ByteArray) (aa : Option Addr) (an ac : Nat) (bk bi bu : Int) (bs : ByteArray) (ba : Option Addr) (bn bc : Nat) (num : Int) (w : World) (H : Nat) (hH : w.heap.size + 2 ≤ H) (P : BodyP) (hP : St H P)
    (hM : ∀ wx, Below w.heap.size w wx → wx.heap.size = w.heap.size + 2 → Calls Tryz.prog 45 #[.agg #[.int .i64 ak, .int .i64 ai, .int .u64 au, .string az, .slice aa an ac], .agg #[.int .i64 bk, .int .i64 bi, .int .u64 bu, .string bs, .slice ba bn bc]] wx fun e w' => ∃ k i u s a n c, e = .returned (.agg #[.int .i64 k, .int .i64 i, .int .u64 u, .string s, .slice a n c]) ∧ P k i u s a n c w' ∧ Below wx.heap.size wx w') :
    Calls Tryz.prog 21 #[.agg (acs 7 ak ai au az aa an ac bk bi bu bs ba bn bc num)] w fun e w' => ∃ k i u s a n c, e = .returned (.agg (rcs 0 0 0 0 true k i u s a n c)) ∧ P k i u s a n c w' ∧ Below w.heap.size w w' := by
  have HM := Lib.hid hM
  have hP' := Lib.hid hP
  clear hM hP
  have GV : Hid (∀ (k i b : Int) (s : ByteArray) (ad : Option Addr) (len cap : Nat) (w : World), Calls Tryz.prog 38 #[.agg #[.int .i64 k, .int .i64 i, .int .u64 b, .string s, .slice ad len cap]] w fun e w' => e = .returned (.agg (rcs 0 0 0 0 true k i b s ad len cap)) ∧ Below w.heap.size w w') := gave_any
  have B0 := below2 w (.cells (acs 7 ak ai au az aa an ac bk bi bu bs ba bn bc num) 27) (.cells (rErr 0 0 0 0) 35)
  have R0 := Bk.new2 w (.cells (acs 7 ak ai au az aa an ac bk bi bu bs ba bn bc num) 27) (rErr 0 0 0 0) 35
  go_enter Tryz.func21, Tryz.ntmps21
  go_wp2_with fail
  refine (HM.out _ B0 (by simp)).mono ?_
  rintro e w1 ⟨k, i, u, s, a, n, c, rfl, p0, b1⟩
  have p1 := Lib.hid p0
  have B1 := B0.trans (b1.mono B0.size)
  have R1 := R0.step b1
  clear p0 b1 B0 R0
  go_wp2_with fail
  refine (GV.out k i u s a n c _).mono ?_
  rintro e w2 ⟨rfl, b2⟩
  have r2 := R1.step b2
  have B2 := B1.trans (b2.mono B1.size)
  have PP := Lib.hid (hP'.out.below p1.out b2)
  clear p1 R1 b2 B1
  obtain ⟨c0, c1, c2, c3, c4, c5, c6, c7, c8, c9⟩ := r2.c10
  have z2 := r2.f
  go_wp2_with fail
  obtain ⟨k1, k2, k3, k4⟩ := set10 r2 (.int .i64 0) (.int .i64 0) (.int .i64 0) (.int .i64 0) (.bool true) (.int .i64 k) (.int .i64 i) (.int .u64 u) (.string s) (.slice a n c) rfl
  have KP := Lib.hid (hP'.out _ _ _ _ _ _ _ w2 _ PP.out (Nat.le_of_eq k2.symm) fun g hg _ => k3 g (by omega))
  have KF := B2.trans (k4.mono (by omega))
  obtain ⟨q0, q1, q2, q3, q4, q5, q6, q7, q8, q9⟩ := k1.c10
  refine bodyPost_ret (v := .agg (rcs 0 0 0 0 true k i u s a n c)) ?_ rfl ⟨k, i, u, s, a, n, c, rfl, KP.out, KF⟩
  simp [results, Tryz.results21, go_sem, q0, q1, q2, q3, q4, q5, q6, q7, q8, q9]

set_option maxRecDepth 100000 in
set_option maxHeartbeats 1000000 in
theorem done_divide_no (ak ai au : Int) (az : ByteArray) (aa : Option Addr) (an ac : Nat) (bk bi bu : Int) (bs : ByteArray) (ba : Option Addr) (bn bc : Nat) (num : Int) (T : TypeId) (z : Value) (w : World)
    (hM : ∀ wx, Below w.heap.size w wx → Calls Tryz.prog 45 #[.agg #[.int .i64 ak, .int .i64 ai, .int .u64 au, .string az, .slice aa an ac], .agg #[.int .i64 bk, .int .i64 bi, .int .u64 bu, .string bs, .slice ba bn bc]] wx fun e w' => Pn T z e ∧ Below wx.heap.size wx w') :
    Calls Tryz.prog 21 #[.agg (acs 7 ak ai au az aa an ac bk bi bu bs ba bn bc num)] w fun e w' => Pn T z e ∧ Below w.heap.size w w' := by
  have HM := Lib.hid hM
  clear hM
  have B0 := below2 w (.cells (acs 7 ak ai au az aa an ac bk bi bu bs ba bn bc num) 27) (.cells (rErr 0 0 0 0) 35)
  go_enter Tryz.func21, Tryz.ntmps21
  go_wp2_with fail
  refine (HM.out _ B0).mono ?_
  rintro e w1 ⟨⟨older, rfl, ho⟩, b1⟩
  have B1 := B0.trans (b1.mono B0.size)
  go_wp2_with fail
  exact ⟨rfl, ⟨older, rfl, ho⟩, B1⟩

set_option maxRecDepth 100000 in
set_option maxHeartbeats 1000000 in
theorem done_other (op : Int) (ak ai au : Int) (az : ByteArray) (aa : Option Addr) (an ac : Nat) (bk bi bu : Int) (bs : ByteArray) (ba : Option Addr) (bn bc : Nat) (num : Int) (w : World) (h1 : (op == 1) = false) (h2 : (op == 2) = false) (h3 : (op == 3) = false) (h4 : (op == 4) = false) (h5 : (op == 5) = false) (h6 : (op == 6) = false) (h7 : (op == 7) = false) (h8 : (op == 8) = false) (h9 : (op == 9) = false) (h10 : (op == 10) = false) :
    Calls Tryz.prog 21 #[.agg (acs op ak ai au az aa an ac bk bi bu bs ba bn bc num)] w fun e w' => e = .returned (.agg (rErr 12 0 0 0)) ∧ Below w.heap.size w w' := by
  have B0 := below2 w (.cells (acs op ak ai au az aa an ac bk bi bu bs ba bn bc num) 27) (.cells (rErr 0 0 0 0) 35)
  go_enter Tryz.func21, Tryz.ntmps21
  go_wp2_with fail
  exact bodyPost_ret (v := .agg (rErr 12 0 0 0)) (by simp [results, Tryz.results21, go_sem]) rfl ⟨rfl, by first | exact B0 | exact below2 _ _ _⟩
end Go.Proofs.YthamafijjflfbaaGreat
/- As of plain data: what something comes to, or the cause in the panic's stead; a place of a list asked so; the conditions: what it comes to by itself. -/
namespace Go.Proofs.YthamafijjflfbaaGreat
open Go.RowKit

theorem asd_idle (p : Addr) (w : World) :
    CallsD Tryz.prog 75 #[.pointer (some p)] .returning w fun e u' w' => e = .returned (.tuple #[]) ∧ u' = .returning ∧ w' = w := by
  refine callsD_of_wpS Tryz.func75 rfl fun c₀ cs hu => ?_
  apply wpS_seq
  apply wpS_region
  simp [wpOpsS, go_sem, recoverD, hu, Tryz.ntmps75, Exit.thenS]
  refine wpS_cond (t := false) (by simp [Act.eval, Array.replicate]) ?_
  simp only [Bool.false_eq_true, if_false]
  refine wpS_of_wp (wp_skip ?_)
  cases c₀
  simp_all [bodyPostS, results, Tryz.results75]

theorem asd_turn (A : Nat) (T : TypeId) (z : Value) (C : TypeId) (c : Value) (older : List PanicEntry) (w : World) (hc : w.cell? ⟨A, 0, none⟩ = some (.iface C c)) :
    CallsD Tryz.prog 75 #[.pointer (some ⟨A, 0, none⟩)] (.panicking ({ v := .iface T z, recovered := false } :: older)) w fun e u' w' =>
      e = .panicked [{ v := .iface C c, recovered := false }] ∧ u' = .panicking ({ v := .iface T z, recovered := true } :: older) ∧ w' = w := by
  refine callsD_of_wpS Tryz.func75 rfl fun c₀ cs hu => ?_
  apply wpS_seq
  apply wpS_region
  simp [wpOpsS, go_sem, recoverD, hu, Tryz.ntmps75, Exit.thenS]
  refine wpS_cond (t := true) (by simp [Act.eval, Array.replicate]) ?_
  simp only [if_true]
  apply wpS_region
  simp [wpOpsS, go_sem, hc, bodyPostS, results, Tryz.results75]

set_option maxRecDepth 100000 in
set_option maxHeartbeats 1000000 in
theorem asd_ret (F : Nat) (cap : Array Value) (C : TypeId) (c : Value) (k i u : Int) (s : ByteArray) (a : Option Addr) (n m : Nat) (w : World)
    (hcf : ∀ (w : World), (callFunc F cap).run Tryz.prog w = .ok (.enter F cap) w)
    (hF : ∀ wx, Below w.heap.size w wx → Calls Tryz.prog F cap wx fun e w' => e = .returned (.agg #[.int .i64 k, .int .i64 i, .int .u64 u, .string s, .slice a n m]) ∧ Below wx.heap.size wx w') :
    Calls Tryz.prog 56 #[.iface C c, .func (.func F) #[] cap] w fun e w' => e = .returned (.agg #[.int .i64 k, .int .i64 i, .int .u64 u, .string s, .slice a n m]) ∧ Below w.heap.size w w' := by
  have hmf : ∀ (fn : Fn) (first cap : Array Value) (w : World), (Instr.makeFunc fn first cap).run Tryz.prog w = .ok (.func fn first cap) w := fun _ _ _ _ => rfl
  have HF := Lib.hid hF
  clear hF
  have B0 := below2 w (.cells #[.iface C c] 20) (.cells #[.int .i64 0, .int .i64 0, .int .u64 0, .string ⟨#[]⟩, .slice none 0 0] 25)
  have R0 := Bk.new2 w (.cells #[.iface C c] 20) #[.int .i64 0, .int .i64 0, .int .u64 0, .string ⟨#[]⟩, .slice none 0 0] 25
  go_enter_defers Tryz.func56, Tryz.ntmps56
  go_wp2_with fail
  refine (HF.out _ B0).mono ?_
  rintro e w1 ⟨rfl, b1⟩
  have B1 := B0.trans (b1.mono B0.size)
  have R1 := R0.step b1
  clear R0 b1 B0
  obtain ⟨c0, c1, c2, c3, c4⟩ := R1.c5
  have f1 := R1.f
  go_wp2_with fail
  obtain ⟨k1, k2, k3, k4⟩ := set5 R1 (.int .i64 k) (.int .i64 i) (.int .u64 u) (.string s) (.slice a n m) rfl
  have KF := B1.trans (k4.mono (by omega))
  obtain ⟨q0, q1, q2, q3, q4⟩ := k1.c5
  refine leaves_cons (f := 75) (args := #[.pointer (some ⟨w.heap.size, 0, none⟩)]) (by simp) (by simp [go_sem]) ?_
  refine (asd_idle _ _).mono ?_
  rintro e u' w'' ⟨rfl, rfl, rfl⟩
  simp [Leaves, settle, results, Tryz.results56, go_sem, q0, q1, q2, q3, q4]
  exact KF

set_option maxRecDepth 100000 in
set_option maxHeartbeats 1000000 in
theorem asd_pan (F : Nat) (cap : Array Value) (C : TypeId) (c : Value) (w : World)
    (hcf : ∀ (w : World), (callFunc F cap).run Tryz.prog w = .ok (.enter F cap) w)
    (hF : ∀ wx, Below w.heap.size w wx → Calls Tryz.prog F cap wx fun e w' => (∃ T z, Pn T z e) ∧ Below wx.heap.size wx w') :
    Calls Tryz.prog 56 #[.iface C c, .func (.func F) #[] cap] w fun e w' => Pn C c e ∧ Below w.heap.size w w' := by
  have hmf : ∀ (fn : Fn) (first cap : Array Value) (w : World), (Instr.makeFunc fn first cap).run Tryz.prog w = .ok (.func fn first cap) w := fun _ _ _ _ => rfl
  have HF := Lib.hid hF
  clear hF
  have B0 := below2 w (.cells #[.iface C c] 20) (.cells #[.int .i64 0, .int .i64 0, .int .u64 0, .string ⟨#[]⟩, .slice none 0 0] 25)
  have R0 : Bk ((w.alloc (.cells #[.iface C c] 20)).alloc (.cells #[.int .i64 0, .int .i64 0, .int .u64 0, .string ⟨#[]⟩, .slice none 0 0] 25)) w.heap.size #[.iface C c] 20 := (Bk.new w _ _).alloc _
  go_enter_defers Tryz.func56, Tryz.ntmps56
  go_wp2_with fail
  refine (HF.out _ B0).mono ?_
  rintro e w1 ⟨⟨T, z, older, rfl, ho⟩, b1⟩
  have B1 := B0.trans (b1.mono B0.size)
  have c1 : w1.cell? ⟨w.heap.size, 0, none⟩ = some (.iface C c) := by have := (R0.step b1).c 0; simpa using this
  go_wp2_with fail
  refine leaves_cons (f := 75) (args := #[.pointer (some ⟨w.heap.size, 0, none⟩)]) (by simp) (by simp [go_sem]) ?_
  refine (asd_turn w.heap.size T z C c older w1 c1).mono ?_
  rintro e u' w'' ⟨rfl, rfl, rfl⟩
  simp only [Leaves, raised]
  exact ⟨⟨_, rfl, by simp [ho]⟩, B1⟩

set_option maxRecDepth 100000 in
set_option maxHeartbeats 1000000 in
theorem place1_yes (L A g o n c j : Nat) (k i u : Int) (s : ByteArray) (a : Option Addr) (m q : Nat) (w : World) (hL : Bk w L #[.slice (some ⟨g, o, none⟩) n c] 23) (hA : Bk w A #[.int .i64 (j : Int)] 2) (hj : j < n)
    (hg : g < w.heap.size) (c0 : w.cell? ⟨g, o + j * 5, none⟩ = some (.int .i64 k)) (c1 : w.cell? ⟨g, o + j * 5 + 1, none⟩ = some (.int .i64 i)) (c2 : w.cell? ⟨g, o + j * 5 + 2, none⟩ = some (.int .u64 u)) (c3 : w.cell? ⟨g, o + j * 5 + 3, none⟩ = some (.string s)) (c4 : w.cell? ⟨g, o + j * 5 + 4, none⟩ = some (.slice a m q)) :
    Calls Tryz.prog 57 #[.pointer (some ⟨L, 0, none⟩), .pointer (some ⟨A, 0, none⟩)] w fun e w' => e = .returned (.agg #[.int .i64 k, .int .i64 i, .int .u64 u, .string s, .slice a m q]) ∧ Below w.heap.size w w' := by
  have B0 := below1 w (.cells #[.int .i64 0, .int .i64 0, .int .u64 0, .string ⟨#[]⟩, .slice none 0 0] 25)
  have l0 := (hL.step B0).c 0
  have a0 := (hA.step B0).c 0
  go_enter Tryz.func57, Tryz.ntmps57
  go_wp2_with fail
  exact bodyPost_ret (v := .agg #[.int .i64 k, .int .i64 i, .int .u64 u, .string s, .slice a m q]) (by simp [results, Tryz.results57, go_sem]) rfl ⟨rfl, below1 w _⟩

/-- What the language panics with where an index is out of range. -/
theorem bounds_any {P : Program} (k : IntKind) (x y : Int) (code : BoundsCode) (w : World) : ∃ T z w', (boundsPanic k x y code : Sem Value).run P w = .halt (.panic (.iface T z)) w' ∧ (w' = w ∨ w' = w.drew) := by
  unfold boundsPanic
  split
  · simp [runtimePanic, goPanic, go_sem]
    exact ⟨_, _, _, ⟨⟨rfl, rfl⟩, rfl⟩, .inr rfl⟩
  · simp [runtimePanic, goPanic, go_sem]
    exact ⟨_, _, _, ⟨⟨rfl, rfl⟩, rfl⟩, .inl rfl⟩
theorem index_out (ad : Option Addr) (n c : Nat) (x : Int) (w : World) (hx : x < 0 ∨ (n : Int) ≤ x) : ∃ T z w', (Instr.indexAt 23 (.slice ad n c) (.int .i64 x)).run Tryz.prog w = .halt (.panic (.iface T z)) w' ∧ (w' = w ∨ w' = w.drew) := by
  cases ad with
  | none =>
    obtain ⟨T, z, w', h, hw⟩ := bounds_any (P := Tryz.prog) .i64 x 0 .index w
    exact ⟨T, z, w', by simp [Instr.indexAt, asIntOf, run_underlying Tryz.underlying23, h], hw⟩
  | some a =>
    obtain ⟨T, z, w', h, hw⟩ := bounds_any (P := Tryz.prog) .i64 x n .index w
    exact ⟨T, z, w', by simp [Instr.indexAt, asIntOf, run_underlying Tryz.underlying23, h, show ¬ (0 ≤ x ∧ x < (n : Int)) by omega], hw⟩

set_option maxRecDepth 100000 in
set_option maxHeartbeats 1000000 in
theorem place1_no (L A : Nat) (ad : Option Addr) (n c : Nat) (x : Int) (w : World) (hL : Bk w L #[.slice ad n c] 23) (hA : Bk w A #[.int .i64 x] 2) (hx : x < 0 ∨ (n : Int) ≤ x) :
    Calls Tryz.prog 57 #[.pointer (some ⟨L, 0, none⟩), .pointer (some ⟨A, 0, none⟩)] w fun e w' => (∃ T z, Pn T z e) ∧ Below w.heap.size w w' := by
  have B0 := below1 w (.cells #[.int .i64 0, .int .i64 0, .int .u64 0, .string ⟨#[]⟩, .slice none 0 0] 25)
  have l0 := (hL.step B0).c 0
  have a0 := (hA.step B0).c 0
  obtain ⟨T, z, w', hi, hw'⟩ := index_out ad n c x (w.alloc (.cells #[.int .i64 0, .int .i64 0, .int .u64 0, .string ⟨#[]⟩, .slice none 0 0] 25)) hx
  go_enter Tryz.func57, Tryz.ntmps57
  go_wp2_with fail
  refine ⟨rfl, ⟨T, z, Pn.one T z⟩, ?_⟩
  rcases hw' with rfl | rfl
  · exact B0
  · exact B0.drew

set_option maxRecDepth 100000 in
set_option maxHeartbeats 1000000 in
theorem place_yes (k i b : Int) (s : ByteArray) (ad : Option Addr) (len cap : Nat) (j : Nat) (w : World) (H : Nat) (hH : w.heap.size + 4 ≤ H) (P : BodyP) (hP : St H P)
    (hM : ∀ wx, Below w.heap.size w wx → wx.heap.size = w.heap.size + 3 → Calls Tryz.prog 40 #[.agg #[.int .i64 k, .int .i64 i, .int .u64 b, .string s, .slice ad len cap], .int .i64 8] wx fun e w' => ∃ (k i u : Int) (s : ByteArray) (g o n c : Nat) (x0 x1 x2 : Int) (x3 : ByteArray) (x4 : Option Addr) (x5 x6 : Nat), e = .returned (.agg #[.int .i64 k, .int .i64 i, .int .u64 u, .string s, .slice (some ⟨g, o, none⟩) n c]) ∧ (g < w'.heap.size ∧ j < n ∧ w'.cell? ⟨g, o + j * 5, none⟩ = some (.int .i64 x0) ∧ w'.cell? ⟨g, o + j * 5 + 1, none⟩ = some (.int .i64 x1) ∧ w'.cell? ⟨g, o + j * 5 + 2, none⟩ = some (.int .u64 x2) ∧ w'.cell? ⟨g, o + j * 5 + 3, none⟩ = some (.string x3) ∧ w'.cell? ⟨g, o + j * 5 + 4, none⟩ = some (.slice x4 x5 x6)) ∧ P x0 x1 x2 x3 x4 x5 x6 w' ∧ Below wx.heap.size wx w') :
    Calls Tryz.prog 42 #[.agg #[.int .i64 k, .int .i64 i, .int .u64 b, .string s, .slice ad len cap], .int .i64 (j : Int)] w fun e w' => ∃ k i u s a n c, e = .returned (.agg #[.int .i64 k, .int .i64 i, .int .u64 u, .string s, .slice a n c]) ∧ P k i u s a n c w' ∧ Below w.heap.size w w' := by
  have HM := Lib.hid hM
  have hP' := Lib.hid hP
  clear hM hP
  have hfd : ∀ (v0 v1 v2 v3 v4 : Value) (w : World), (Instr.field 25 (.agg #[v0, v1, v2, v3, v4]) 4).run Tryz.prog w = .ok v4 w := fun _ _ _ _ _ _ => by kernel_rfl
  have hmf : ∀ (fn : Fn) (first cap : Array Value) (w : World), (Instr.makeFunc fn first cap).run Tryz.prog w = .ok (.func fn first cap) w := fun _ _ _ _ => rfl
  have B0 := (below2 w (.cells #[.int .i64 k, .int .i64 i, .int .u64 b, .string s, .slice ad len cap] 25) (.cells #[.int .i64 (j : Int)] 2)).alloc (by simp; omega) (.cells #[.int .i64 0, .int .i64 0, .int .u64 0, .string ⟨#[]⟩, .slice none 0 0] 25)
  have A0 := (Bk.new2 w (.cells #[.int .i64 k, .int .i64 i, .int .u64 b, .string s, .slice ad len cap] 25) #[.int .i64 (j : Int)] 2).alloc (.cells #[.int .i64 0, .int .i64 0, .int .u64 0, .string ⟨#[]⟩, .slice none 0 0] 25)
  have R0 := Bk.new ((w.alloc (.cells #[.int .i64 k, .int .i64 i, .int .u64 b, .string s, .slice ad len cap] 25)).alloc (.cells #[.int .i64 (j : Int)] 2)) #[.int .i64 0, .int .i64 0, .int .u64 0, .string ⟨#[]⟩, .slice none 0 0] 25
  simp only [World.size_alloc] at R0
  go_enter Tryz.func42, Tryz.ntmps42
  go_wp2_with fail
  refine (HM.out _ B0 (by simp)).mono ?_
  rintro e w1 ⟨k', i', u', s', g, o, n, c, x0, x1, x2, x3, x4, x5, x6, rfl, ⟨hg, hj, y0, y1, y2, y3, y4⟩, p1, b1⟩
  have B1 := B0.trans (b1.mono B0.size)
  have A1 := A0.step b1
  have R1 := R0.step b1
  have PP := Lib.hid p1
  have hs1 : w.heap.size + 3 ≤ w1.heap.size := by have := b1.size; simpa using this
  clear b1 B0 A0 R0 p1
  have e1 := below1 w1 (.cells #[.slice (some ⟨g, o, none⟩) n c] 23)
  have L2 := Bk.new w1 #[.slice (some ⟨g, o, none⟩) n c] 23
  have A2 := A1.step e1
  have R2 := R1.step e1
  have a2c := A2.c 0
  have AS : Hid (Calls Tryz.prog 56 #[.iface 87 (.int .i64 (j : Int)), .func (.func 57) #[] #[.pointer (some ⟨w1.heap.size, 0, none⟩), .pointer (some ⟨w.heap.size + 1, 0, none⟩)]] (w1.alloc (.cells #[.slice (some ⟨g, o, none⟩) n c] 23)) fun e w' => e = .returned (.agg #[.int .i64 x0, .int .i64 x1, .int .u64 x2, .string x3, .slice x4 x5 x6]) ∧ Below (w1.alloc (.cells #[.slice (some ⟨g, o, none⟩) n c] 23)).heap.size (w1.alloc (.cells #[.slice (some ⟨g, o, none⟩) n c] 23)) w') :=
    asd_ret 57 _ 87 (.int .i64 (j : Int)) x0 x1 x2 x3 x4 x5 x6 _ (fun _ => by kernel_rfl) fun wx hx => by
      have bx := e1.trans (hx.mono e1.size)
      have cl : ∀ q v, w1.cell? ⟨g, q, none⟩ = some v → wx.cell? ⟨g, q, none⟩ = some v := fun q v h => (bx.cell (p := ⟨g, q, none⟩) hg).trans h
      exact place1_yes w1.heap.size (w.heap.size + 1) g o n c j x0 x1 x2 x3 x4 x5 x6 wx (L2.step hx) (A2.step hx) hj (Nat.lt_of_lt_of_le hg bx.size) (cl _ _ y0) (cl _ _ y1) (cl _ _ y2) (cl _ _ y3) (cl _ _ y4)
  clear A1 R1 y0 y1 y2 y3 y4 hj hg
  go_wp2_with fail
  refine AS.out.mono ?_
  rintro e w3 ⟨rfl, b3⟩
  have B3 := B1.trans ((e1.trans (b3.mono e1.size)).mono (by omega))
  have P3 := Lib.hid (hP'.out.below PP.out (e1.trans (b3.mono e1.size)))
  have R3 := R2.step b3
  clear AS A2 R2 L2 a2c e1 b3 PP B1
  obtain ⟨c0, c1, c2, c3, c4⟩ := R3.c5
  have z3 := R3.f
  go_wp2_with fail
  obtain ⟨k1, k2, k3, k4⟩ := set5 R3 (.int .i64 x0) (.int .i64 x1) (.int .u64 x2) (.string x3) (.slice x4 x5 x6) rfl
  have KP := Lib.hid (hP'.out _ _ _ _ _ _ _ _ _ P3.out (Nat.le_of_eq k2.symm) fun g hg _ => k3 g (by omega))
  have KF := B3.trans (k4.mono (by omega))
  obtain ⟨q0, q1, q2, q3, q4⟩ := k1.c5
  refine bodyPost_ret (v := .agg #[.int .i64 x0, .int .i64 x1, .int .u64 x2, .string x3, .slice x4 x5 x6]) ?_ rfl ⟨x0, x1, x2, x3, x4, x5, x6, rfl, KP.out, KF⟩
  simp [results, Tryz.results42, go_sem, q0, q1, q2, q3, q4]

set_option maxRecDepth 100000 in
set_option maxHeartbeats 1000000 in
theorem place_no (k i b : Int) (s : ByteArray) (ad : Option Addr) (len cap : Nat) (x : Int) (w : World)
    (hM : ∀ wx, Below w.heap.size w wx → Calls Tryz.prog 40 #[.agg #[.int .i64 k, .int .i64 i, .int .u64 b, .string s, .slice ad len cap], .int .i64 8] wx fun e w' => ∃ (k i u : Int) (s : ByteArray) (a : Option Addr) (n c : Nat), e = .returned (.agg #[.int .i64 k, .int .i64 i, .int .u64 u, .string s, .slice a n c]) ∧ (x < 0 ∨ (n : Int) ≤ x) ∧ Below wx.heap.size wx w') :
    Calls Tryz.prog 42 #[.agg #[.int .i64 k, .int .i64 i, .int .u64 b, .string s, .slice ad len cap], .int .i64 x] w fun e w' => Pn 87 (.int .i64 x) e ∧ Below w.heap.size w w' := by
  have HM := Lib.hid hM
  clear hM
  have hfd : ∀ (v0 v1 v2 v3 v4 : Value) (w : World), (Instr.field 25 (.agg #[v0, v1, v2, v3, v4]) 4).run Tryz.prog w = .ok v4 w := fun _ _ _ _ _ _ => by kernel_rfl
  have hmf : ∀ (fn : Fn) (first cap : Array Value) (w : World), (Instr.makeFunc fn first cap).run Tryz.prog w = .ok (.func fn first cap) w := fun _ _ _ _ => rfl
  have B0 := (below2 w (.cells #[.int .i64 k, .int .i64 i, .int .u64 b, .string s, .slice ad len cap] 25) (.cells #[.int .i64 x] 2)).alloc (by simp; omega) (.cells #[.int .i64 0, .int .i64 0, .int .u64 0, .string ⟨#[]⟩, .slice none 0 0] 25)
  have A0 := (Bk.new2 w (.cells #[.int .i64 k, .int .i64 i, .int .u64 b, .string s, .slice ad len cap] 25) #[.int .i64 x] 2).alloc (.cells #[.int .i64 0, .int .i64 0, .int .u64 0, .string ⟨#[]⟩, .slice none 0 0] 25)
  go_enter Tryz.func42, Tryz.ntmps42
  go_wp2_with fail
  refine (HM.out _ B0).mono ?_
  rintro e w1 ⟨k', i', u', s', a, n, c, rfl, hx, b1⟩
  have B1 := B0.trans (b1.mono B0.size)
  have A1 := A0.step b1
  have hs1 : w.heap.size + 3 ≤ w1.heap.size := by have := b1.size; simpa using this
  clear b1 B0 A0
  have e1 := below1 w1 (.cells #[.slice a n c] 23)
  have L2 := Bk.new w1 #[.slice a n c] 23
  have A2 := A1.step e1
  have a2c := A2.c 0
  have AS : Hid (Calls Tryz.prog 56 #[.iface 87 (.int .i64 x), .func (.func 57) #[] #[.pointer (some ⟨w1.heap.size, 0, none⟩), .pointer (some ⟨w.heap.size + 1, 0, none⟩)]] (w1.alloc (.cells #[.slice a n c] 23)) fun e w' => Pn 87 (.int .i64 x) e ∧ Below (w1.alloc (.cells #[.slice a n c] 23)).heap.size (w1.alloc (.cells #[.slice a n c] 23)) w') :=
    asd_pan 57 _ 87 (.int .i64 x) _ (fun _ => by kernel_rfl) fun wx hw => place1_no w1.heap.size (w.heap.size + 1) a n c x wx (L2.step hw) (A2.step hw) hx
  clear A1 hx
  go_wp2_with fail
  refine AS.out.mono ?_
  rintro e w3 ⟨⟨older, rfl, ho⟩, b3⟩
  have B3 := B1.trans ((e1.trans (b3.mono e1.size)).mono (by omega))
  go_wp2_with fail
  exact ⟨rfl, ⟨older, rfl, ho⟩, B3⟩

set_option maxRecDepth 100000 in
set_option maxHeartbeats 1000000 in
theorem place_bad (k i b : Int) (s : ByteArray) (ad : Option Addr) (len cap : Nat) (x : Int) (w : World)
    (hM : ∀ wx, Below w.heap.size w wx → Calls Tryz.prog 40 #[.agg #[.int .i64 k, .int .i64 i, .int .u64 b, .string s, .slice ad len cap], .int .i64 8] wx fun e w' => Pn 84 (.int .i64 k) e ∧ Below wx.heap.size wx w') :
    Calls Tryz.prog 42 #[.agg #[.int .i64 k, .int .i64 i, .int .u64 b, .string s, .slice ad len cap], .int .i64 x] w fun e w' => Pn 84 (.int .i64 k) e ∧ Below w.heap.size w w' := by
  have HM := Lib.hid hM
  clear hM
  have B0 := (below2 w (.cells #[.int .i64 k, .int .i64 i, .int .u64 b, .string s, .slice ad len cap] 25) (.cells #[.int .i64 x] 2)).alloc (by simp; omega) (.cells #[.int .i64 0, .int .i64 0, .int .u64 0, .string ⟨#[]⟩, .slice none 0 0] 25)
  go_enter Tryz.func42, Tryz.ntmps42
  go_wp2_with fail
  refine (HM.out _ B0).mono ?_
  rintro e w1 ⟨⟨older, rfl, ho⟩, b1⟩
  have B1 := B0.trans (b1.mono B0.size)
  go_wp2_with fail
  exact ⟨rfl, ⟨older, rfl, ho⟩, B1⟩
end Go.Proofs.YthamafijjflfbaaGreat
