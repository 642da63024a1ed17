/- A box that is opened: what lies in it, or the panic of a nil pointer, or of what can't be opened; the conditions: what stands for the value, and what the assertion comes to. -/
import Derived.Test.YtajagjcfmaggiaaGreatDoorKCad
import Derived.Test.YtajagjcfmaggiaaGreatDoorKCcj
import Derived.Test.YtajagjcfmaggiaaGreatDoorKCbg
import Derived.Test.YtajagjcfmaggiaaGreatDoorKCca
import Derived.Test.YtajagjcfmaggiaaGreatDoorKCac
namespace Go.Proofs.YtajagjcfmaggiaaGreatDoor
open Go.RowKit

set_option maxRecDepth 100000 in
set_option maxHeartbeats 1000000 in
theorem open1_yes (A bx : Nat) (i : Int) (u : Value) (hu : Sx u) (w : World) (hA : Bk w A #[.iface 155 (.pointer (some ⟨bx, 0, none⟩))] 196) (hb : w.heap[bx]? = some (.cells #[.int .i64 i, u] 176 (0, 0))) :
    Calls Tryz.prog 122 #[.pointer (some ⟨A, 0, none⟩)] w fun e w' => e = .returned u ∧ Below w.heap.size w w' := by
  have hmm : ∀ (w : World), (method 367 155 (.pointer (some ⟨bx, 0, none⟩)) "Open").run Tryz.prog w = .ok (223, .pointer (some ⟨bx, 0, none⟩)) w := fun _ => by kernel_rfl
  have hcf : ∀ (args : Array Value) (w : World), (callFunc 223 args).run Tryz.prog w = .ok (.enter 223 args) w := fun _ _ => by kernel_rfl
  have a0 := hA.c 0
  have BO := Lib.hid (Dt.boxOpen bx i u w hb hu)
  rcases hu with rfl | ⟨T, z, rfl⟩
  all_goals
    go_enter Tryz.func122, Tryz.ntmps122
    go_wp2_with fail
    refine BO.out.mono ?_
    rintro e w1 ⟨rfl, b1⟩
    go_wp2
    go_ret
    exact ⟨rfl, b1⟩

set_option maxRecDepth 100000 in
set_option maxHeartbeats 1000000 in
theorem boxNil (w : World) : Calls Tryz.prog 223 #[.pointer none] w fun e w' => (∃ T z, Pn T z e) ∧ Below w.heap.size w w' := by
  go_enter Tryz.func223, Tryz.ntmps223
  go_wp2_with fail
  exact ⟨rfl, ⟨_, _, Pn.one _ _⟩, by first | exact Below.refl _ _ | exact below1 _ _⟩
set_option maxRecDepth 100000 in
set_option maxHeartbeats 1000000 in
theorem open1_no (A : Nat) (w : World) (hA : Bk w A #[.iface 155 (.pointer none)] 196) :
    Calls Tryz.prog 122 #[.pointer (some ⟨A, 0, none⟩)] w fun e w' => (∃ T z, Pn T z e) ∧ Below w.heap.size w w' := by
  have hmm : ∀ (w : World), (method 367 155 (.pointer none) "Open").run Tryz.prog w = .ok (223, .pointer none) w := fun _ => by kernel_rfl
  have hcf : ∀ (args : Array Value) (w : World), (callFunc 223 args).run Tryz.prog w = .ok (.enter 223 args) w := fun _ _ => by kernel_rfl
  have a0 := hA.c 0
  have BO := Lib.hid boxNil
  go_enter Tryz.func122, Tryz.ntmps122
  go_wp2_with fail
  refine (BO.out _).mono ?_
  rintro e w1 ⟨⟨T, z, older, rfl, ho⟩, b1⟩
  go_wp2_with fail
  exact ⟨rfl, ⟨T, z, older, rfl, ho⟩, b1⟩

set_option maxRecDepth 100000 in
set_option maxHeartbeats 2000000 in
theorem popen_yes (k i b : Int) (s : ByteArray) (ad : Option Addr) (len cap : Nat) (w : World) (H : Nat) (hH : w.heap.size + 2 ≤ H) (P : BodyP) (hP : St H P)
    (hF : ∀ wx, Below w.heap.size w wx → Calls Tryz.prog 105 #[.agg #[.int .i64 k, .int .i64 i, .int .u64 b, .string s, .slice ad len cap], .int .i64 3] wx fun e w' => e = .returned (.tuple #[]) ∧ Below wx.heap.size wx w')
    (hO : ∀ wx, Below w.heap.size w wx → w.heap.size + 2 ≤ wx.heap.size → Calls Tryz.prog 76 #[.agg #[.int .i64 k, .int .i64 i, .int .u64 b, .string s, .slice ad len cap]] wx fun e w' => ∃ bx q u, e = .returned (.iface 155 (.pointer (some ⟨bx, 0, none⟩))) ∧ Hid (w'.heap[bx]? = some (.cells #[.int .i64 q, u] 176 (0, 0)) ∧ Sx u ∧ ∀ wy, Below w'.heap.size w' wy → Calls Tryz.prog 82 #[u] wy fun e w' => ∃ k i u s a n c, e = .returned (.agg #[.int .i64 k, .int .i64 i, .int .u64 u, .string s, .slice a n c]) ∧ P k i u s a n c w' ∧ Below wy.heap.size wy w') ∧ Below wx.heap.size wx w') :
    Calls Tryz.prog 107 #[.agg #[.int .i64 k, .int .i64 i, .int .u64 b, .string s, .slice ad len cap]] w fun e w' => ∃ k i u s a n c, e = .returned (.agg #[.int .i64 k, .int .i64 i, .int .u64 u, .string s, .slice a n c]) ∧ P k i u s a n c w' ∧ Below w.heap.size w w' := by
  have hmf : ∀ (fn : Fn) (first cap : Array Value) (w : World), (Instr.makeFunc fn first cap).run Tryz.prog w = .ok (.func fn first cap) w := fun _ _ _ _ => rfl
  have has : ∀ (bx : Nat) (w : World), (Instr.typeAssert (.iface 155 (.pointer (some ⟨bx, 0, none⟩))) 20 196 false).run Tryz.prog w = .ok (.iface 155 (.pointer (some ⟨bx, 0, none⟩))) w := fun bx w => must_has Tryz.underlying196 (by kernel_rfl) w
  have HF := Lib.hid hF
  have HO := Lib.hid hO
  have hP' := Lib.hid hP
  clear hF hO hP
  have B0 := below2 w (.cells #[.int .i64 k, .int .i64 i, .int .u64 b, .string s, .slice ad len cap] 25) (.cells #[.int .i64 0, .int .i64 0, .int .u64 0, .string ⟨#[]⟩, .slice none 0 0] 25)
  have D0 : Bk ((w.alloc (.cells #[.int .i64 k, .int .i64 i, .int .u64 b, .string s, .slice ad len cap] 25)).alloc (.cells #[.int .i64 0, .int .i64 0, .int .u64 0, .string ⟨#[]⟩, .slice none 0 0] 25)) w.heap.size #[.int .i64 k, .int .i64 i, .int .u64 b, .string s, .slice ad len cap] 25 := (Bk.new w _ _).alloc _
  have R0 := Bk.new2 w (.cells #[.int .i64 k, .int .i64 i, .int .u64 b, .string s, .slice ad len cap] 25) #[.int .i64 0, .int .i64 0, .int .u64 0, .string ⟨#[]⟩, .slice none 0 0] 25
  go_enter Tryz.func107, Tryz.ntmps107
  go_wp2_with fail
  refine (HF.out _ B0).mono ?_
  rintro e w0 ⟨rfl, b0⟩
  have B1 := B0.trans (b0.mono B0.size)
  have D1 := D0.step b0
  have R1 := R0.step b0
  have hs0 : w.heap.size + 2 ≤ w0.heap.size := by have := b0.size; simpa using this
  clear b0 B0 D0 R0
  obtain ⟨d0, d1, d2, d3, d4⟩ := D1.c5
  go_wp2_with fail
  refine (HO.out _ B1 hs0).mono ?_
  rintro e w1 ⟨bx, q, u, rfl, hv, b1⟩
  have B2 := B1.trans (b1.mono B1.size)
  have R2 := R1.step b1
  obtain ⟨hbx, hu, hPl⟩ := hv.out
  have PL := Lib.hid hPl
  have e1 := below1 w1 (.cells #[.iface 155 (.pointer (some ⟨bx, 0, none⟩))] 196)
  have A1 := Bk.new w1 #[.iface 155 (.pointer (some ⟨bx, 0, none⟩))] 196
  have hbl : bx < w1.heap.size := (Array.getElem?_eq_some_iff.1 hbx).1
  have AS := Lib.hid (asa_ret 122 #[.pointer (some ⟨w1.heap.size, 0, none⟩)] 183 (.agg #[]) (w1.alloc (.cells #[.iface 155 (.pointer (some ⟨bx, 0, none⟩))] 196)) (fun v _ => v = u) (fun _ => by kernel_rfl) (fun wx hx _ => (open1_yes w1.heap.size bx q u hu wx (A1.step hx) (((e1.trans (hx.mono e1.size)).block bx hbl).trans hbx)).mono fun e w' ⟨he, hb⟩ => ⟨_, he, rfl, hb⟩))
  have B3 := B2.trans (e1.mono B2.size)
  have R3 := R2.step e1
  clear hv hPl b1 B1 R1 D1 d0 d1 d2 d3 d4 A1 R2 hbx hbl
  rcases hu with rfl | ⟨T, z, rfl⟩
  all_goals
    go_wp2_with fail
    refine AS.out.mono ?_
    rintro e w2 ⟨v, rfl, rfl, b2⟩
    have B4 := B3.trans (b2.mono B3.size)
    have R4 := R3.step b2
    have ex := e1.trans (b2.mono e1.size)
    go_wp2_with fail
    refine (PL.out _ ex).mono ?_
    rintro e w3 ⟨k', i', u', s', a', n', c', rfl, p3, b3⟩
    have B5 := B4.trans (b3.mono B4.size)
    have R5 := R4.step b3
    have P3 := Lib.hid p3
    clear p3 b3 R4 B4 ex b2
    obtain ⟨c0, c1, c2, c3, c4⟩ := R5.c5
    have z5 := R5.f
    go_wp2_with fail
    obtain ⟨k1, k2, k3, k4⟩ := set5 R5 (.int .i64 k') (.int .i64 i') (.int .u64 u') (.string s') (.slice a' n' c') rfl
    have KP := Lib.hid (hP'.out _ _ _ _ _ _ _ _ _ P3.out (Nat.le_of_eq k2.symm) fun g hg _ => k3 g (by omega))
    have KF := B5.trans (k4.mono (by omega))
    obtain ⟨q0, q1, q2, q3, q4⟩ := k1.c5
    refine bodyPost_ret (v := .agg #[.int .i64 k', .int .i64 i', .int .u64 u', .string s', .slice a' n' c']) ?_ rfl ⟨k', i', u', s', a', n', c', rfl, KP.out, KF⟩
    simp [results, Tryz.results107, go_sem, q0, q1, q2, q3, q4]

set_option maxRecDepth 100000 in
set_option maxHeartbeats 2000000 in
theorem popen_nil (k i b : Int) (s : ByteArray) (ad : Option Addr) (len cap : Nat) (w : World)
    (hF : ∀ wx, Below w.heap.size w wx → Calls Tryz.prog 105 #[.agg #[.int .i64 k, .int .i64 i, .int .u64 b, .string s, .slice ad len cap], .int .i64 3] wx fun e w' => e = .returned (.tuple #[]) ∧ Below wx.heap.size wx w')
    (hO : ∀ wx, Below w.heap.size w wx → Calls Tryz.prog 76 #[.agg #[.int .i64 k, .int .i64 i, .int .u64 b, .string s, .slice ad len cap]] wx fun e w' => e = .returned (.iface 155 (.pointer none)) ∧ Below wx.heap.size wx w') :
    Calls Tryz.prog 107 #[.agg #[.int .i64 k, .int .i64 i, .int .u64 b, .string s, .slice ad len cap]] w fun e w' => Pn 183 (.agg #[]) e ∧ Below w.heap.size w w' := by
  have hmf : ∀ (fn : Fn) (first cap : Array Value) (w : World), (Instr.makeFunc fn first cap).run Tryz.prog w = .ok (.func fn first cap) w := fun _ _ _ _ => rfl
  have has : ∀ (w : World), (Instr.typeAssert (.iface 155 (.pointer none)) 20 196 false).run Tryz.prog w = .ok (.iface 155 (.pointer none)) w := fun w => must_has Tryz.underlying196 (by kernel_rfl) w
  have HF := Lib.hid hF
  have HO := Lib.hid hO
  clear hF hO
  have B0 := below2 w (.cells #[.int .i64 k, .int .i64 i, .int .u64 b, .string s, .slice ad len cap] 25) (.cells #[.int .i64 0, .int .i64 0, .int .u64 0, .string ⟨#[]⟩, .slice none 0 0] 25)
  have D0 : Bk ((w.alloc (.cells #[.int .i64 k, .int .i64 i, .int .u64 b, .string s, .slice ad len cap] 25)).alloc (.cells #[.int .i64 0, .int .i64 0, .int .u64 0, .string ⟨#[]⟩, .slice none 0 0] 25)) w.heap.size #[.int .i64 k, .int .i64 i, .int .u64 b, .string s, .slice ad len cap] 25 := (Bk.new w _ _).alloc _
  go_enter Tryz.func107, Tryz.ntmps107
  go_wp2_with fail
  refine (HF.out _ B0).mono ?_
  rintro e w0 ⟨rfl, b0⟩
  have B1 := B0.trans (b0.mono B0.size)
  have D1 := D0.step b0
  clear b0 B0 D0
  obtain ⟨d0, d1, d2, d3, d4⟩ := D1.c5
  go_wp2_with fail
  refine (HO.out _ B1).mono ?_
  rintro e w1 ⟨rfl, b1⟩
  have B2 := B1.trans (b1.mono B1.size)
  have e1 := below1 w1 (.cells #[.iface 155 (.pointer none)] 196)
  have A1 := Bk.new w1 #[.iface 155 (.pointer none)] 196
  have AS := Lib.hid (asa_pan 122 #[.pointer (some ⟨w1.heap.size, 0, none⟩)] 183 (.agg #[]) (w1.alloc (.cells #[.iface 155 (.pointer none)] 196)) (fun _ => True) (fun _ => by kernel_rfl) (fun wx hx _ => (open1_no w1.heap.size wx (A1.step hx)).mono fun e w' ⟨he, hb⟩ => ⟨he, trivial, hb⟩))
  have B3 := B2.trans (e1.mono B2.size)
  clear b1 B1 D1 d0 d1 d2 d3 d4 A1
  go_wp2_with fail
  refine AS.out.mono ?_
  rintro e w2 ⟨⟨older, rfl, ho⟩, -, b2⟩
  have B4 := B3.trans (b2.mono B3.size)
  go_wp2_with fail
  exact ⟨rfl, ⟨older, rfl, ho⟩, B4⟩

set_option maxRecDepth 100000 in
set_option maxHeartbeats 2000000 in
theorem popen_no (k i b m : Int) (s : ByteArray) (ad : Option Addr) (len cap : Nat) (w : World)
    (hF : ∀ wx, Below w.heap.size w wx → Calls Tryz.prog 105 #[.agg #[.int .i64 k, .int .i64 i, .int .u64 b, .string s, .slice ad len cap], .int .i64 3] wx fun e w' => Pn 182 (.int .i64 m) e ∧ Below wx.heap.size wx w') :
    Calls Tryz.prog 107 #[.agg #[.int .i64 k, .int .i64 i, .int .u64 b, .string s, .slice ad len cap]] w fun e w' => Pn 182 (.int .i64 m) e ∧ Below w.heap.size w w' := by
  have HF := Lib.hid hF
  clear hF
  have B0 := below2 w (.cells #[.int .i64 k, .int .i64 i, .int .u64 b, .string s, .slice ad len cap] 25) (.cells #[.int .i64 0, .int .i64 0, .int .u64 0, .string ⟨#[]⟩, .slice none 0 0] 25)
  go_enter Tryz.func107, Tryz.ntmps107
  go_wp2_with fail
  refine (HF.out _ B0).mono ?_
  rintro e w0 ⟨⟨older, rfl, ho⟩, b0⟩
  have B1 := B0.trans (b0.mono B0.size)
  go_wp2_with fail
  exact ⟨rfl, ⟨older, rfl, ho⟩, B1⟩
end Go.Proofs.YtajagjcfmaggiaaGreatDoor
/- What an act comes to, by what the steps do; the conditions: what the steps come to. -/
namespace Go.Proofs.YtajagjcfmaggiaaGreatDoor
open Go.RowKit

set_option maxRecDepth 100000 in
set_option maxHeartbeats 1000000 in
theorem done_open (ak ai au : Int) (az : ByteArray) (aa : Option Addr) (an ac : Nat) (bk bi bu : Int) (bs : ByteArray) (ba : Option Addr) (bn bc : Nat) (num : Int) (w : World) (H : Nat) (hH : w.heap.size + 2 ≤ H) (P : BodyP) (hP : St H P)
    (hM : ∀ wx, Below w.heap.size w wx → wx.heap.size = w.heap.size + 2 → Calls Tryz.prog 107 #[.agg #[.int .i64 ak, .int .i64 ai, .int .u64 au, .string az, .slice aa an ac]] wx fun e w' => ∃ k i u s a n c, e = .returned (.agg #[.int .i64 k, .int .i64 i, .int .u64 u, .string s, .slice a n c]) ∧ P k i u s a n c w' ∧ Below wx.heap.size wx w') :
    Calls Tryz.prog 89 #[.agg (acs 5 ak ai au az aa an ac bk bi bu bs ba bn bc num)] w fun e w' => ∃ k i u s a n c, e = .returned (.agg (rcs 0 0 0 0 true k i u s a n c)) ∧ P k i u s a n c w' ∧ Below w.heap.size w w' := by
  have HM := Lib.hid hM
  have hP' := Lib.hid hP
  clear hM hP
  have GV : Hid (∀ (k i b : Int) (s : ByteArray) (ad : Option Addr) (len cap : Nat) (w : World), Calls Tryz.prog 103 #[.agg #[.int .i64 k, .int .i64 i, .int .u64 b, .string s, .slice ad len cap]] w fun e w' => e = .returned (.agg (rcs 0 0 0 0 true k i b s ad len cap)) ∧ Below w.heap.size w w') := gave_any
  have B0 := below2 w (.cells (acs 5 ak ai au az aa an ac bk bi bu bs ba bn bc num) 93) (.cells (rErr 0 0 0 0) 33)
  have R0 := Bk.new2 w (.cells (acs 5 ak ai au az aa an ac bk bi bu bs ba bn bc num) 93) (rErr 0 0 0 0) 33
  go_enter Tryz.func89, Tryz.ntmps89
  go_wp2_with fail
  refine (HM.out _ B0 (by simp)).mono ?_
  rintro e w1 ⟨k, i, u, s, a, n, c, rfl, p0, b1⟩
  have p1 := Lib.hid p0
  have B1 := B0.trans (b1.mono B0.size)
  have R1 := R0.step b1
  clear p0 b1 B0 R0
  go_wp2_with fail
  refine (GV.out k i u s a n c _).mono ?_
  rintro e w2 ⟨rfl, b2⟩
  have r2 := R1.step b2
  have B2 := B1.trans (b2.mono B1.size)
  have PP := Lib.hid (hP'.out.below p1.out b2)
  clear p1 R1 b2 B1
  obtain ⟨c0, c1, c2, c3, c4, c5, c6, c7, c8, c9⟩ := r2.c10
  have z2 := r2.f
  go_wp2_with fail
  obtain ⟨k1, k2, k3, k4⟩ := set10 r2 (.int .i64 0) (.int .i64 0) (.int .i64 0) (.int .i64 0) (.bool true) (.int .i64 k) (.int .i64 i) (.int .u64 u) (.string s) (.slice a n c) rfl
  have KP := Lib.hid (hP'.out _ _ _ _ _ _ _ w2 _ PP.out (Nat.le_of_eq k2.symm) fun g hg _ => k3 g (by omega))
  have KF := B2.trans (k4.mono (by omega))
  obtain ⟨q0, q1, q2, q3, q4, q5, q6, q7, q8, q9⟩ := k1.c10
  refine bodyPost_ret (v := .agg (rcs 0 0 0 0 true k i u s a n c)) ?_ rfl ⟨k, i, u, s, a, n, c, rfl, KP.out, KF⟩
  simp [results, Tryz.results89, go_sem, q0, q1, q2, q3, q4, q5, q6, q7, q8, q9]

set_option maxRecDepth 100000 in
set_option maxHeartbeats 1000000 in
theorem done_open_no (ak ai au : Int) (az : ByteArray) (aa : Option Addr) (an ac : Nat) (bk bi bu : Int) (bs : ByteArray) (ba : Option Addr) (bn bc : Nat) (num : Int) (T : TypeId) (z : Value) (w : World)
    (hM : ∀ wx, Below w.heap.size w wx → Calls Tryz.prog 107 #[.agg #[.int .i64 ak, .int .i64 ai, .int .u64 au, .string az, .slice aa an ac]] wx fun e w' => Pn T z e ∧ Below wx.heap.size wx w') :
    Calls Tryz.prog 89 #[.agg (acs 5 ak ai au az aa an ac bk bi bu bs ba bn bc num)] w fun e w' => Pn T z e ∧ Below w.heap.size w w' := by
  have HM := Lib.hid hM
  clear hM
  have B0 := below2 w (.cells (acs 5 ak ai au az aa an ac bk bi bu bs ba bn bc num) 93) (.cells (rErr 0 0 0 0) 33)
  go_enter Tryz.func89, Tryz.ntmps89
  go_wp2_with fail
  refine (HM.out _ B0).mono ?_
  rintro e w1 ⟨⟨older, rfl, ho⟩, b1⟩
  have B1 := B0.trans (b1.mono B0.size)
  go_wp2_with fail
  exact ⟨rfl, ⟨older, rfl, ho⟩, B1⟩

end Go.Proofs.YtajagjcfmaggiaaGreatDoor
