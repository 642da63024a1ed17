/- Each type's question in the form that panics: the value itself, where it has the type, else the panic; no condition. -/
import Derived.Test.YthamafijjflfbaaGreatMba
import Derived.Test.YthamafijjflfbaaGreatMac
namespace Go.Proofs.YthamafijjflfbaaGreat
open Go.RowKit

theorem tkd_no {k : Int} (h : k < 1 ∨ 13 < k) (m : Int) : tkd m k = false := by
  unfold tkd
  by_cases hm : 1 ≤ m ∧ m ≤ 13
  · have h1 : (k == m) = false := by simp; omega
    have h2 : (k == 12) = false := by simp; omega
    rw [h1, h2]; simp
  · rw [decide_eq_false hm]; rfl

set_option maxRecDepth 100000 in
set_option maxHeartbeats 1000000 in
theorem tno1 (u : Value) (w : World) (o : Obj) (h : ∀ w : World, (Instr.typeAssert u 20 113 false).run Tryz.prog w = .halt (.panic (.iface 15 (.pointer (some ⟨w.heap.size, 0, none⟩)))) (w.alloc o)) : Calls Tryz.prog 122 #[.agg #[], u] w fun e w' => Pan w w' e := by
  go_enter Tryz.func122, Tryz.ntmps122
  go_wp2
  exact ⟨rfl, _, rfl, below2 w _ _⟩
set_option maxRecDepth 100000 in
set_option maxHeartbeats 1000000 in
theorem tyes1 (z : Value) (w : World) : Calls Tryz.prog 122 #[.agg #[], .iface 113 (z)] w fun e w' => e = .returned (.iface 113 (z)) ∧ Below w.heap.size w w' := by
  have h : ∀ w : World, (Instr.typeAssert (.iface 113 (z)) 20 113 false).run Tryz.prog w = .ok (z) w := fun w => must_is Tryz.underlying113 (fun m h => by cases h) w
  go_enter Tryz.func122, Tryz.ntmps122
  go_wp2
  go_ret
  exact ⟨rfl, below1 w _⟩
theorem tmu1 : Musts 122 (tkd 1) := by
  intro k u w hk
  rcases hk.cases with ⟨h0, rfl⟩ | ⟨rfl, a, rfl⟩ | ⟨rfl, a, rfl⟩ | ⟨rfl, a, rfl⟩ | ⟨rfl, a, rfl⟩ | ⟨rfl, a, rfl⟩ | ⟨rfl, a, rfl⟩ | ⟨rfl, a, rfl⟩ | ⟨rfl, a, rfl⟩ | ⟨rfl, a, b, rfl, ha, hb⟩ | ⟨rfl, c, a, rfl⟩ | ⟨rfl, a, rfl⟩ | ⟨rfl, rfl⟩ | ⟨rfl, rfl⟩
  · obtain ⟨o, ho⟩ := must_nil (x := 20) Tryz.underlying113
    exact Musts.no (tkd_no h0 1) (tno1 _ w o ho)
  · exact Musts.yes (by decide) (tyes1 _ w)
  · obtain ⟨o, ho⟩ := must_ty (t := 128) (x := 20) (v := _) Tryz.underlying113 (fun m h => by cases h) (by decide)
    exact Musts.no (by decide) (tno1 _ w o ho)
  · obtain ⟨o, ho⟩ := must_ty (t := 129) (x := 20) (v := _) Tryz.underlying113 (fun m h => by cases h) (by decide)
    exact Musts.no (by decide) (tno1 _ w o ho)
  · obtain ⟨o, ho⟩ := must_ty (t := 131) (x := 20) (v := _) Tryz.underlying113 (fun m h => by cases h) (by decide)
    exact Musts.no (by decide) (tno1 _ w o ho)
  · obtain ⟨o, ho⟩ := must_ty (t := 132) (x := 20) (v := _) Tryz.underlying113 (fun m h => by cases h) (by decide)
    exact Musts.no (by decide) (tno1 _ w o ho)
  · obtain ⟨o, ho⟩ := must_ty (t := 110) (x := 20) (v := _) Tryz.underlying113 (fun m h => by cases h) (by decide)
    exact Musts.no (by decide) (tno1 _ w o ho)
  · obtain ⟨o, ho⟩ := must_ty (t := 135) (x := 20) (v := _) Tryz.underlying113 (fun m h => by cases h) (by decide)
    exact Musts.no (by decide) (tno1 _ w o ho)
  · obtain ⟨o, ho⟩ := must_ty (t := 137) (x := 20) (v := _) Tryz.underlying113 (fun m h => by cases h) (by decide)
    exact Musts.no (by decide) (tno1 _ w o ho)
  · obtain ⟨o, ho⟩ := must_ty (t := 140) (x := 20) (v := _) Tryz.underlying113 (fun m h => by cases h) (by decide)
    exact Musts.no (by decide) (tno1 _ w o ho)
  · obtain ⟨o, ho⟩ := must_ty (t := 75) (x := 20) (v := _) Tryz.underlying113 (fun m h => by cases h) (by decide)
    exact Musts.no (by decide) (tno1 _ w o ho)
  · obtain ⟨o, ho⟩ := must_ty (t := 141) (x := 20) (v := _) Tryz.underlying113 (fun m h => by cases h) (by decide)
    exact Musts.no (by decide) (tno1 _ w o ho)
  · obtain ⟨o, ho⟩ := must_ty (t := 141) (x := 20) (v := _) Tryz.underlying113 (fun m h => by cases h) (by decide)
    exact Musts.no (by decide) (tno1 _ w o ho)
  · obtain ⟨o, ho⟩ := must_ty (t := 143) (x := 20) (v := _) Tryz.underlying113 (fun m h => by cases h) (by decide)
    exact Musts.no (by decide) (tno1 _ w o ho)

set_option maxRecDepth 100000 in
set_option maxHeartbeats 1000000 in
theorem tno2 (u : Value) (w : World) (o : Obj) (h : ∀ w : World, (Instr.typeAssert u 20 128 false).run Tryz.prog w = .halt (.panic (.iface 15 (.pointer (some ⟨w.heap.size, 0, none⟩)))) (w.alloc o)) : Calls Tryz.prog 124 #[.agg #[], u] w fun e w' => Pan w w' e := by
  go_enter Tryz.func124, Tryz.ntmps124
  go_wp2
  exact ⟨rfl, _, rfl, below2 w _ _⟩
set_option maxRecDepth 100000 in
set_option maxHeartbeats 1000000 in
theorem tyes2 (z : Value) (w : World) : Calls Tryz.prog 124 #[.agg #[], .iface 128 (z)] w fun e w' => e = .returned (.iface 128 (z)) ∧ Below w.heap.size w w' := by
  have h : ∀ w : World, (Instr.typeAssert (.iface 128 (z)) 20 128 false).run Tryz.prog w = .ok (z) w := fun w => must_is Tryz.underlying128 (fun m h => by cases h) w
  go_enter Tryz.func124, Tryz.ntmps124
  go_wp2
  go_ret
  exact ⟨rfl, below1 w _⟩
theorem tmu2 : Musts 124 (tkd 2) := by
  intro k u w hk
  rcases hk.cases with ⟨h0, rfl⟩ | ⟨rfl, a, rfl⟩ | ⟨rfl, a, rfl⟩ | ⟨rfl, a, rfl⟩ | ⟨rfl, a, rfl⟩ | ⟨rfl, a, rfl⟩ | ⟨rfl, a, rfl⟩ | ⟨rfl, a, rfl⟩ | ⟨rfl, a, rfl⟩ | ⟨rfl, a, b, rfl, ha, hb⟩ | ⟨rfl, c, a, rfl⟩ | ⟨rfl, a, rfl⟩ | ⟨rfl, rfl⟩ | ⟨rfl, rfl⟩
  · obtain ⟨o, ho⟩ := must_nil (x := 20) Tryz.underlying128
    exact Musts.no (tkd_no h0 2) (tno2 _ w o ho)
  · obtain ⟨o, ho⟩ := must_ty (t := 113) (x := 20) (v := _) Tryz.underlying128 (fun m h => by cases h) (by decide)
    exact Musts.no (by decide) (tno2 _ w o ho)
  · exact Musts.yes (by decide) (tyes2 _ w)
  · obtain ⟨o, ho⟩ := must_ty (t := 129) (x := 20) (v := _) Tryz.underlying128 (fun m h => by cases h) (by decide)
    exact Musts.no (by decide) (tno2 _ w o ho)
  · obtain ⟨o, ho⟩ := must_ty (t := 131) (x := 20) (v := _) Tryz.underlying128 (fun m h => by cases h) (by decide)
    exact Musts.no (by decide) (tno2 _ w o ho)
  · obtain ⟨o, ho⟩ := must_ty (t := 132) (x := 20) (v := _) Tryz.underlying128 (fun m h => by cases h) (by decide)
    exact Musts.no (by decide) (tno2 _ w o ho)
  · obtain ⟨o, ho⟩ := must_ty (t := 110) (x := 20) (v := _) Tryz.underlying128 (fun m h => by cases h) (by decide)
    exact Musts.no (by decide) (tno2 _ w o ho)
  · obtain ⟨o, ho⟩ := must_ty (t := 135) (x := 20) (v := _) Tryz.underlying128 (fun m h => by cases h) (by decide)
    exact Musts.no (by decide) (tno2 _ w o ho)
  · obtain ⟨o, ho⟩ := must_ty (t := 137) (x := 20) (v := _) Tryz.underlying128 (fun m h => by cases h) (by decide)
    exact Musts.no (by decide) (tno2 _ w o ho)
  · obtain ⟨o, ho⟩ := must_ty (t := 140) (x := 20) (v := _) Tryz.underlying128 (fun m h => by cases h) (by decide)
    exact Musts.no (by decide) (tno2 _ w o ho)
  · obtain ⟨o, ho⟩ := must_ty (t := 75) (x := 20) (v := _) Tryz.underlying128 (fun m h => by cases h) (by decide)
    exact Musts.no (by decide) (tno2 _ w o ho)
  · obtain ⟨o, ho⟩ := must_ty (t := 141) (x := 20) (v := _) Tryz.underlying128 (fun m h => by cases h) (by decide)
    exact Musts.no (by decide) (tno2 _ w o ho)
  · obtain ⟨o, ho⟩ := must_ty (t := 141) (x := 20) (v := _) Tryz.underlying128 (fun m h => by cases h) (by decide)
    exact Musts.no (by decide) (tno2 _ w o ho)
  · obtain ⟨o, ho⟩ := must_ty (t := 143) (x := 20) (v := _) Tryz.underlying128 (fun m h => by cases h) (by decide)
    exact Musts.no (by decide) (tno2 _ w o ho)

set_option maxRecDepth 100000 in
set_option maxHeartbeats 1000000 in
theorem tno3 (u : Value) (w : World) (o : Obj) (h : ∀ w : World, (Instr.typeAssert u 20 129 false).run Tryz.prog w = .halt (.panic (.iface 15 (.pointer (some ⟨w.heap.size, 0, none⟩)))) (w.alloc o)) : Calls Tryz.prog 126 #[.agg #[], u] w fun e w' => Pan w w' e := by
  go_enter Tryz.func126, Tryz.ntmps126
  go_wp2
  exact ⟨rfl, _, rfl, below2 w _ _⟩
set_option maxRecDepth 100000 in
set_option maxHeartbeats 1000000 in
theorem tyes3 (z : Value) (w : World) : Calls Tryz.prog 126 #[.agg #[], .iface 129 (z)] w fun e w' => e = .returned (.iface 129 (z)) ∧ Below w.heap.size w w' := by
  have h : ∀ w : World, (Instr.typeAssert (.iface 129 (z)) 20 129 false).run Tryz.prog w = .ok (z) w := fun w => must_is Tryz.underlying129 (fun m h => by cases h) w
  go_enter Tryz.func126, Tryz.ntmps126
  go_wp2
  go_ret
  exact ⟨rfl, below1 w _⟩
theorem tmu3 : Musts 126 (tkd 3) := by
  intro k u w hk
  rcases hk.cases with ⟨h0, rfl⟩ | ⟨rfl, a, rfl⟩ | ⟨rfl, a, rfl⟩ | ⟨rfl, a, rfl⟩ | ⟨rfl, a, rfl⟩ | ⟨rfl, a, rfl⟩ | ⟨rfl, a, rfl⟩ | ⟨rfl, a, rfl⟩ | ⟨rfl, a, rfl⟩ | ⟨rfl, a, b, rfl, ha, hb⟩ | ⟨rfl, c, a, rfl⟩ | ⟨rfl, a, rfl⟩ | ⟨rfl, rfl⟩ | ⟨rfl, rfl⟩
  · obtain ⟨o, ho⟩ := must_nil (x := 20) Tryz.underlying129
    exact Musts.no (tkd_no h0 3) (tno3 _ w o ho)
  · obtain ⟨o, ho⟩ := must_ty (t := 113) (x := 20) (v := _) Tryz.underlying129 (fun m h => by cases h) (by decide)
    exact Musts.no (by decide) (tno3 _ w o ho)
  · obtain ⟨o, ho⟩ := must_ty (t := 128) (x := 20) (v := _) Tryz.underlying129 (fun m h => by cases h) (by decide)
    exact Musts.no (by decide) (tno3 _ w o ho)
  · exact Musts.yes (by decide) (tyes3 _ w)
  · obtain ⟨o, ho⟩ := must_ty (t := 131) (x := 20) (v := _) Tryz.underlying129 (fun m h => by cases h) (by decide)
    exact Musts.no (by decide) (tno3 _ w o ho)
  · obtain ⟨o, ho⟩ := must_ty (t := 132) (x := 20) (v := _) Tryz.underlying129 (fun m h => by cases h) (by decide)
    exact Musts.no (by decide) (tno3 _ w o ho)
  · obtain ⟨o, ho⟩ := must_ty (t := 110) (x := 20) (v := _) Tryz.underlying129 (fun m h => by cases h) (by decide)
    exact Musts.no (by decide) (tno3 _ w o ho)
  · obtain ⟨o, ho⟩ := must_ty (t := 135) (x := 20) (v := _) Tryz.underlying129 (fun m h => by cases h) (by decide)
    exact Musts.no (by decide) (tno3 _ w o ho)
  · obtain ⟨o, ho⟩ := must_ty (t := 137) (x := 20) (v := _) Tryz.underlying129 (fun m h => by cases h) (by decide)
    exact Musts.no (by decide) (tno3 _ w o ho)
  · obtain ⟨o, ho⟩ := must_ty (t := 140) (x := 20) (v := _) Tryz.underlying129 (fun m h => by cases h) (by decide)
    exact Musts.no (by decide) (tno3 _ w o ho)
  · obtain ⟨o, ho⟩ := must_ty (t := 75) (x := 20) (v := _) Tryz.underlying129 (fun m h => by cases h) (by decide)
    exact Musts.no (by decide) (tno3 _ w o ho)
  · obtain ⟨o, ho⟩ := must_ty (t := 141) (x := 20) (v := _) Tryz.underlying129 (fun m h => by cases h) (by decide)
    exact Musts.no (by decide) (tno3 _ w o ho)
  · obtain ⟨o, ho⟩ := must_ty (t := 141) (x := 20) (v := _) Tryz.underlying129 (fun m h => by cases h) (by decide)
    exact Musts.no (by decide) (tno3 _ w o ho)
  · obtain ⟨o, ho⟩ := must_ty (t := 143) (x := 20) (v := _) Tryz.underlying129 (fun m h => by cases h) (by decide)
    exact Musts.no (by decide) (tno3 _ w o ho)

set_option maxRecDepth 100000 in
set_option maxHeartbeats 1000000 in
theorem tno4 (u : Value) (w : World) (o : Obj) (h : ∀ w : World, (Instr.typeAssert u 20 131 false).run Tryz.prog w = .halt (.panic (.iface 15 (.pointer (some ⟨w.heap.size, 0, none⟩)))) (w.alloc o)) : Calls Tryz.prog 128 #[.agg #[], u] w fun e w' => Pan w w' e := by
  go_enter Tryz.func128, Tryz.ntmps128
  go_wp2
  exact ⟨rfl, _, rfl, below2 w _ _⟩
set_option maxRecDepth 100000 in
set_option maxHeartbeats 1000000 in
theorem tyes4 (z : Value) (w : World) : Calls Tryz.prog 128 #[.agg #[], .iface 131 (z)] w fun e w' => e = .returned (.iface 131 (z)) ∧ Below w.heap.size w w' := by
  have h : ∀ w : World, (Instr.typeAssert (.iface 131 (z)) 20 131 false).run Tryz.prog w = .ok (z) w := fun w => must_is Tryz.underlying131 (fun m h => by cases h) w
  go_enter Tryz.func128, Tryz.ntmps128
  go_wp2
  go_ret
  exact ⟨rfl, below1 w _⟩
theorem tmu4 : Musts 128 (tkd 4) := by
  intro k u w hk
  rcases hk.cases with ⟨h0, rfl⟩ | ⟨rfl, a, rfl⟩ | ⟨rfl, a, rfl⟩ | ⟨rfl, a, rfl⟩ | ⟨rfl, a, rfl⟩ | ⟨rfl, a, rfl⟩ | ⟨rfl, a, rfl⟩ | ⟨rfl, a, rfl⟩ | ⟨rfl, a, rfl⟩ | ⟨rfl, a, b, rfl, ha, hb⟩ | ⟨rfl, c, a, rfl⟩ | ⟨rfl, a, rfl⟩ | ⟨rfl, rfl⟩ | ⟨rfl, rfl⟩
  · obtain ⟨o, ho⟩ := must_nil (x := 20) Tryz.underlying131
    exact Musts.no (tkd_no h0 4) (tno4 _ w o ho)
  · obtain ⟨o, ho⟩ := must_ty (t := 113) (x := 20) (v := _) Tryz.underlying131 (fun m h => by cases h) (by decide)
    exact Musts.no (by decide) (tno4 _ w o ho)
  · obtain ⟨o, ho⟩ := must_ty (t := 128) (x := 20) (v := _) Tryz.underlying131 (fun m h => by cases h) (by decide)
    exact Musts.no (by decide) (tno4 _ w o ho)
  · obtain ⟨o, ho⟩ := must_ty (t := 129) (x := 20) (v := _) Tryz.underlying131 (fun m h => by cases h) (by decide)
    exact Musts.no (by decide) (tno4 _ w o ho)
  · exact Musts.yes (by decide) (tyes4 _ w)
  · obtain ⟨o, ho⟩ := must_ty (t := 132) (x := 20) (v := _) Tryz.underlying131 (fun m h => by cases h) (by decide)
    exact Musts.no (by decide) (tno4 _ w o ho)
  · obtain ⟨o, ho⟩ := must_ty (t := 110) (x := 20) (v := _) Tryz.underlying131 (fun m h => by cases h) (by decide)
    exact Musts.no (by decide) (tno4 _ w o ho)
  · obtain ⟨o, ho⟩ := must_ty (t := 135) (x := 20) (v := _) Tryz.underlying131 (fun m h => by cases h) (by decide)
    exact Musts.no (by decide) (tno4 _ w o ho)
  · obtain ⟨o, ho⟩ := must_ty (t := 137) (x := 20) (v := _) Tryz.underlying131 (fun m h => by cases h) (by decide)
    exact Musts.no (by decide) (tno4 _ w o ho)
  · obtain ⟨o, ho⟩ := must_ty (t := 140) (x := 20) (v := _) Tryz.underlying131 (fun m h => by cases h) (by decide)
    exact Musts.no (by decide) (tno4 _ w o ho)
  · obtain ⟨o, ho⟩ := must_ty (t := 75) (x := 20) (v := _) Tryz.underlying131 (fun m h => by cases h) (by decide)
    exact Musts.no (by decide) (tno4 _ w o ho)
  · obtain ⟨o, ho⟩ := must_ty (t := 141) (x := 20) (v := _) Tryz.underlying131 (fun m h => by cases h) (by decide)
    exact Musts.no (by decide) (tno4 _ w o ho)
  · obtain ⟨o, ho⟩ := must_ty (t := 141) (x := 20) (v := _) Tryz.underlying131 (fun m h => by cases h) (by decide)
    exact Musts.no (by decide) (tno4 _ w o ho)
  · obtain ⟨o, ho⟩ := must_ty (t := 143) (x := 20) (v := _) Tryz.underlying131 (fun m h => by cases h) (by decide)
    exact Musts.no (by decide) (tno4 _ w o ho)

set_option maxRecDepth 100000 in
set_option maxHeartbeats 1000000 in
theorem tno5 (u : Value) (w : World) (o : Obj) (h : ∀ w : World, (Instr.typeAssert u 20 132 false).run Tryz.prog w = .halt (.panic (.iface 15 (.pointer (some ⟨w.heap.size, 0, none⟩)))) (w.alloc o)) : Calls Tryz.prog 130 #[.agg #[], u] w fun e w' => Pan w w' e := by
  go_enter Tryz.func130, Tryz.ntmps130
  go_wp2
  exact ⟨rfl, _, rfl, below2 w _ _⟩
set_option maxRecDepth 100000 in
set_option maxHeartbeats 1000000 in
theorem tyes5 (z : Value) (w : World) : Calls Tryz.prog 130 #[.agg #[], .iface 132 (z)] w fun e w' => e = .returned (.iface 132 (z)) ∧ Below w.heap.size w w' := by
  have h : ∀ w : World, (Instr.typeAssert (.iface 132 (z)) 20 132 false).run Tryz.prog w = .ok (z) w := fun w => must_is Tryz.underlying132 (fun m h => by cases h) w
  go_enter Tryz.func130, Tryz.ntmps130
  go_wp2
  go_ret
  exact ⟨rfl, below1 w _⟩
theorem tmu5 : Musts 130 (tkd 5) := by
  intro k u w hk
  rcases hk.cases with ⟨h0, rfl⟩ | ⟨rfl, a, rfl⟩ | ⟨rfl, a, rfl⟩ | ⟨rfl, a, rfl⟩ | ⟨rfl, a, rfl⟩ | ⟨rfl, a, rfl⟩ | ⟨rfl, a, rfl⟩ | ⟨rfl, a, rfl⟩ | ⟨rfl, a, rfl⟩ | ⟨rfl, a, b, rfl, ha, hb⟩ | ⟨rfl, c, a, rfl⟩ | ⟨rfl, a, rfl⟩ | ⟨rfl, rfl⟩ | ⟨rfl, rfl⟩
  · obtain ⟨o, ho⟩ := must_nil (x := 20) Tryz.underlying132
    exact Musts.no (tkd_no h0 5) (tno5 _ w o ho)
  · obtain ⟨o, ho⟩ := must_ty (t := 113) (x := 20) (v := _) Tryz.underlying132 (fun m h => by cases h) (by decide)
    exact Musts.no (by decide) (tno5 _ w o ho)
  · obtain ⟨o, ho⟩ := must_ty (t := 128) (x := 20) (v := _) Tryz.underlying132 (fun m h => by cases h) (by decide)
    exact Musts.no (by decide) (tno5 _ w o ho)
  · obtain ⟨o, ho⟩ := must_ty (t := 129) (x := 20) (v := _) Tryz.underlying132 (fun m h => by cases h) (by decide)
    exact Musts.no (by decide) (tno5 _ w o ho)
  · obtain ⟨o, ho⟩ := must_ty (t := 131) (x := 20) (v := _) Tryz.underlying132 (fun m h => by cases h) (by decide)
    exact Musts.no (by decide) (tno5 _ w o ho)
  · exact Musts.yes (by decide) (tyes5 _ w)
  · obtain ⟨o, ho⟩ := must_ty (t := 110) (x := 20) (v := _) Tryz.underlying132 (fun m h => by cases h) (by decide)
    exact Musts.no (by decide) (tno5 _ w o ho)
  · obtain ⟨o, ho⟩ := must_ty (t := 135) (x := 20) (v := _) Tryz.underlying132 (fun m h => by cases h) (by decide)
    exact Musts.no (by decide) (tno5 _ w o ho)
  · obtain ⟨o, ho⟩ := must_ty (t := 137) (x := 20) (v := _) Tryz.underlying132 (fun m h => by cases h) (by decide)
    exact Musts.no (by decide) (tno5 _ w o ho)
  · obtain ⟨o, ho⟩ := must_ty (t := 140) (x := 20) (v := _) Tryz.underlying132 (fun m h => by cases h) (by decide)
    exact Musts.no (by decide) (tno5 _ w o ho)
  · obtain ⟨o, ho⟩ := must_ty (t := 75) (x := 20) (v := _) Tryz.underlying132 (fun m h => by cases h) (by decide)
    exact Musts.no (by decide) (tno5 _ w o ho)
  · obtain ⟨o, ho⟩ := must_ty (t := 141) (x := 20) (v := _) Tryz.underlying132 (fun m h => by cases h) (by decide)
    exact Musts.no (by decide) (tno5 _ w o ho)
  · obtain ⟨o, ho⟩ := must_ty (t := 141) (x := 20) (v := _) Tryz.underlying132 (fun m h => by cases h) (by decide)
    exact Musts.no (by decide) (tno5 _ w o ho)
  · obtain ⟨o, ho⟩ := must_ty (t := 143) (x := 20) (v := _) Tryz.underlying132 (fun m h => by cases h) (by decide)
    exact Musts.no (by decide) (tno5 _ w o ho)

set_option maxRecDepth 100000 in
set_option maxHeartbeats 1000000 in
theorem tno6 (u : Value) (w : World) (o : Obj) (h : ∀ w : World, (Instr.typeAssert u 20 110 false).run Tryz.prog w = .halt (.panic (.iface 15 (.pointer (some ⟨w.heap.size, 0, none⟩)))) (w.alloc o)) : Calls Tryz.prog 132 #[.agg #[], u] w fun e w' => Pan w w' e := by
  go_enter Tryz.func132, Tryz.ntmps132
  go_wp2
  exact ⟨rfl, _, rfl, below2 w _ _⟩
set_option maxRecDepth 100000 in
set_option maxHeartbeats 1000000 in
theorem tyes6 (z : Value) (w : World) : Calls Tryz.prog 132 #[.agg #[], .iface 110 (z)] w fun e w' => e = .returned (.iface 110 (z)) ∧ Below w.heap.size w w' := by
  have h : ∀ w : World, (Instr.typeAssert (.iface 110 (z)) 20 110 false).run Tryz.prog w = .ok (z) w := fun w => must_is Tryz.underlying110 (fun m h => by cases h) w
  go_enter Tryz.func132, Tryz.ntmps132
  go_wp2
  go_ret
  exact ⟨rfl, below1 w _⟩
theorem tmu6 : Musts 132 (tkd 6) := by
  intro k u w hk
  rcases hk.cases with ⟨h0, rfl⟩ | ⟨rfl, a, rfl⟩ | ⟨rfl, a, rfl⟩ | ⟨rfl, a, rfl⟩ | ⟨rfl, a, rfl⟩ | ⟨rfl, a, rfl⟩ | ⟨rfl, a, rfl⟩ | ⟨rfl, a, rfl⟩ | ⟨rfl, a, rfl⟩ | ⟨rfl, a, b, rfl, ha, hb⟩ | ⟨rfl, c, a, rfl⟩ | ⟨rfl, a, rfl⟩ | ⟨rfl, rfl⟩ | ⟨rfl, rfl⟩
  · obtain ⟨o, ho⟩ := must_nil (x := 20) Tryz.underlying110
    exact Musts.no (tkd_no h0 6) (tno6 _ w o ho)
  · obtain ⟨o, ho⟩ := must_ty (t := 113) (x := 20) (v := _) Tryz.underlying110 (fun m h => by cases h) (by decide)
    exact Musts.no (by decide) (tno6 _ w o ho)
  · obtain ⟨o, ho⟩ := must_ty (t := 128) (x := 20) (v := _) Tryz.underlying110 (fun m h => by cases h) (by decide)
    exact Musts.no (by decide) (tno6 _ w o ho)
  · obtain ⟨o, ho⟩ := must_ty (t := 129) (x := 20) (v := _) Tryz.underlying110 (fun m h => by cases h) (by decide)
    exact Musts.no (by decide) (tno6 _ w o ho)
  · obtain ⟨o, ho⟩ := must_ty (t := 131) (x := 20) (v := _) Tryz.underlying110 (fun m h => by cases h) (by decide)
    exact Musts.no (by decide) (tno6 _ w o ho)
  · obtain ⟨o, ho⟩ := must_ty (t := 132) (x := 20) (v := _) Tryz.underlying110 (fun m h => by cases h) (by decide)
    exact Musts.no (by decide) (tno6 _ w o ho)
  · exact Musts.yes (by decide) (tyes6 _ w)
  · obtain ⟨o, ho⟩ := must_ty (t := 135) (x := 20) (v := _) Tryz.underlying110 (fun m h => by cases h) (by decide)
    exact Musts.no (by decide) (tno6 _ w o ho)
  · obtain ⟨o, ho⟩ := must_ty (t := 137) (x := 20) (v := _) Tryz.underlying110 (fun m h => by cases h) (by decide)
    exact Musts.no (by decide) (tno6 _ w o ho)
  · obtain ⟨o, ho⟩ := must_ty (t := 140) (x := 20) (v := _) Tryz.underlying110 (fun m h => by cases h) (by decide)
    exact Musts.no (by decide) (tno6 _ w o ho)
  · obtain ⟨o, ho⟩ := must_ty (t := 75) (x := 20) (v := _) Tryz.underlying110 (fun m h => by cases h) (by decide)
    exact Musts.no (by decide) (tno6 _ w o ho)
  · obtain ⟨o, ho⟩ := must_ty (t := 141) (x := 20) (v := _) Tryz.underlying110 (fun m h => by cases h) (by decide)
    exact Musts.no (by decide) (tno6 _ w o ho)
  · obtain ⟨o, ho⟩ := must_ty (t := 141) (x := 20) (v := _) Tryz.underlying110 (fun m h => by cases h) (by decide)
    exact Musts.no (by decide) (tno6 _ w o ho)
  · obtain ⟨o, ho⟩ := must_ty (t := 143) (x := 20) (v := _) Tryz.underlying110 (fun m h => by cases h) (by decide)
    exact Musts.no (by decide) (tno6 _ w o ho)

set_option maxRecDepth 100000 in
set_option maxHeartbeats 1000000 in
theorem tno7 (u : Value) (w : World) (o : Obj) (h : ∀ w : World, (Instr.typeAssert u 20 135 false).run Tryz.prog w = .halt (.panic (.iface 15 (.pointer (some ⟨w.heap.size, 0, none⟩)))) (w.alloc o)) : Calls Tryz.prog 134 #[.agg #[], u] w fun e w' => Pan w w' e := by
  go_enter Tryz.func134, Tryz.ntmps134
  go_wp2
  exact ⟨rfl, _, rfl, below2 w _ _⟩
set_option maxRecDepth 100000 in
set_option maxHeartbeats 1000000 in
theorem tyes7 (z : Value) (w : World) : Calls Tryz.prog 134 #[.agg #[], .iface 135 (z)] w fun e w' => e = .returned (.iface 135 (z)) ∧ Below w.heap.size w w' := by
  have h : ∀ w : World, (Instr.typeAssert (.iface 135 (z)) 20 135 false).run Tryz.prog w = .ok (z) w := fun w => must_is Tryz.underlying135 (fun m h => by cases h) w
  go_enter Tryz.func134, Tryz.ntmps134
  go_wp2
  go_ret
  exact ⟨rfl, below1 w _⟩
theorem tmu7 : Musts 134 (tkd 7) := by
  intro k u w hk
  rcases hk.cases with ⟨h0, rfl⟩ | ⟨rfl, a, rfl⟩ | ⟨rfl, a, rfl⟩ | ⟨rfl, a, rfl⟩ | ⟨rfl, a, rfl⟩ | ⟨rfl, a, rfl⟩ | ⟨rfl, a, rfl⟩ | ⟨rfl, a, rfl⟩ | ⟨rfl, a, rfl⟩ | ⟨rfl, a, b, rfl, ha, hb⟩ | ⟨rfl, c, a, rfl⟩ | ⟨rfl, a, rfl⟩ | ⟨rfl, rfl⟩ | ⟨rfl, rfl⟩
  · obtain ⟨o, ho⟩ := must_nil (x := 20) Tryz.underlying135
    exact Musts.no (tkd_no h0 7) (tno7 _ w o ho)
  · obtain ⟨o, ho⟩ := must_ty (t := 113) (x := 20) (v := _) Tryz.underlying135 (fun m h => by cases h) (by decide)
    exact Musts.no (by decide) (tno7 _ w o ho)
  · obtain ⟨o, ho⟩ := must_ty (t := 128) (x := 20) (v := _) Tryz.underlying135 (fun m h => by cases h) (by decide)
    exact Musts.no (by decide) (tno7 _ w o ho)
  · obtain ⟨o, ho⟩ := must_ty (t := 129) (x := 20) (v := _) Tryz.underlying135 (fun m h => by cases h) (by decide)
    exact Musts.no (by decide) (tno7 _ w o ho)
  · obtain ⟨o, ho⟩ := must_ty (t := 131) (x := 20) (v := _) Tryz.underlying135 (fun m h => by cases h) (by decide)
    exact Musts.no (by decide) (tno7 _ w o ho)
  · obtain ⟨o, ho⟩ := must_ty (t := 132) (x := 20) (v := _) Tryz.underlying135 (fun m h => by cases h) (by decide)
    exact Musts.no (by decide) (tno7 _ w o ho)
  · obtain ⟨o, ho⟩ := must_ty (t := 110) (x := 20) (v := _) Tryz.underlying135 (fun m h => by cases h) (by decide)
    exact Musts.no (by decide) (tno7 _ w o ho)
  · exact Musts.yes (by decide) (tyes7 _ w)
  · obtain ⟨o, ho⟩ := must_ty (t := 137) (x := 20) (v := _) Tryz.underlying135 (fun m h => by cases h) (by decide)
    exact Musts.no (by decide) (tno7 _ w o ho)
  · obtain ⟨o, ho⟩ := must_ty (t := 140) (x := 20) (v := _) Tryz.underlying135 (fun m h => by cases h) (by decide)
    exact Musts.no (by decide) (tno7 _ w o ho)
  · obtain ⟨o, ho⟩ := must_ty (t := 75) (x := 20) (v := _) Tryz.underlying135 (fun m h => by cases h) (by decide)
    exact Musts.no (by decide) (tno7 _ w o ho)
  · obtain ⟨o, ho⟩ := must_ty (t := 141) (x := 20) (v := _) Tryz.underlying135 (fun m h => by cases h) (by decide)
    exact Musts.no (by decide) (tno7 _ w o ho)
  · obtain ⟨o, ho⟩ := must_ty (t := 141) (x := 20) (v := _) Tryz.underlying135 (fun m h => by cases h) (by decide)
    exact Musts.no (by decide) (tno7 _ w o ho)
  · obtain ⟨o, ho⟩ := must_ty (t := 143) (x := 20) (v := _) Tryz.underlying135 (fun m h => by cases h) (by decide)
    exact Musts.no (by decide) (tno7 _ w o ho)

set_option maxRecDepth 100000 in
set_option maxHeartbeats 1000000 in
theorem tno8 (u : Value) (w : World) (o : Obj) (h : ∀ w : World, (Instr.typeAssert u 20 137 false).run Tryz.prog w = .halt (.panic (.iface 15 (.pointer (some ⟨w.heap.size, 0, none⟩)))) (w.alloc o)) : Calls Tryz.prog 136 #[.agg #[], u] w fun e w' => Pan w w' e := by
  go_enter Tryz.func136, Tryz.ntmps136
  go_wp2
  exact ⟨rfl, _, rfl, below2 w _ _⟩
set_option maxRecDepth 100000 in
set_option maxHeartbeats 1000000 in
theorem tyes8 (z : Value) (w : World) : Calls Tryz.prog 136 #[.agg #[], .iface 137 (z)] w fun e w' => e = .returned (.iface 137 (z)) ∧ Below w.heap.size w w' := by
  have h : ∀ w : World, (Instr.typeAssert (.iface 137 (z)) 20 137 false).run Tryz.prog w = .ok (z) w := fun w => must_is Tryz.underlying137 (fun m h => by cases h) w
  go_enter Tryz.func136, Tryz.ntmps136
  go_wp2
  go_ret
  exact ⟨rfl, below1 w _⟩
theorem tmu8 : Musts 136 (tkd 8) := by
  intro k u w hk
  rcases hk.cases with ⟨h0, rfl⟩ | ⟨rfl, a, rfl⟩ | ⟨rfl, a, rfl⟩ | ⟨rfl, a, rfl⟩ | ⟨rfl, a, rfl⟩ | ⟨rfl, a, rfl⟩ | ⟨rfl, a, rfl⟩ | ⟨rfl, a, rfl⟩ | ⟨rfl, a, rfl⟩ | ⟨rfl, a, b, rfl, ha, hb⟩ | ⟨rfl, c, a, rfl⟩ | ⟨rfl, a, rfl⟩ | ⟨rfl, rfl⟩ | ⟨rfl, rfl⟩
  · obtain ⟨o, ho⟩ := must_nil (x := 20) Tryz.underlying137
    exact Musts.no (tkd_no h0 8) (tno8 _ w o ho)
  · obtain ⟨o, ho⟩ := must_ty (t := 113) (x := 20) (v := _) Tryz.underlying137 (fun m h => by cases h) (by decide)
    exact Musts.no (by decide) (tno8 _ w o ho)
  · obtain ⟨o, ho⟩ := must_ty (t := 128) (x := 20) (v := _) Tryz.underlying137 (fun m h => by cases h) (by decide)
    exact Musts.no (by decide) (tno8 _ w o ho)
  · obtain ⟨o, ho⟩ := must_ty (t := 129) (x := 20) (v := _) Tryz.underlying137 (fun m h => by cases h) (by decide)
    exact Musts.no (by decide) (tno8 _ w o ho)
  · obtain ⟨o, ho⟩ := must_ty (t := 131) (x := 20) (v := _) Tryz.underlying137 (fun m h => by cases h) (by decide)
    exact Musts.no (by decide) (tno8 _ w o ho)
  · obtain ⟨o, ho⟩ := must_ty (t := 132) (x := 20) (v := _) Tryz.underlying137 (fun m h => by cases h) (by decide)
    exact Musts.no (by decide) (tno8 _ w o ho)
  · obtain ⟨o, ho⟩ := must_ty (t := 110) (x := 20) (v := _) Tryz.underlying137 (fun m h => by cases h) (by decide)
    exact Musts.no (by decide) (tno8 _ w o ho)
  · obtain ⟨o, ho⟩ := must_ty (t := 135) (x := 20) (v := _) Tryz.underlying137 (fun m h => by cases h) (by decide)
    exact Musts.no (by decide) (tno8 _ w o ho)
  · exact Musts.yes (by decide) (tyes8 _ w)
  · obtain ⟨o, ho⟩ := must_ty (t := 140) (x := 20) (v := _) Tryz.underlying137 (fun m h => by cases h) (by decide)
    exact Musts.no (by decide) (tno8 _ w o ho)
  · obtain ⟨o, ho⟩ := must_ty (t := 75) (x := 20) (v := _) Tryz.underlying137 (fun m h => by cases h) (by decide)
    exact Musts.no (by decide) (tno8 _ w o ho)
  · obtain ⟨o, ho⟩ := must_ty (t := 141) (x := 20) (v := _) Tryz.underlying137 (fun m h => by cases h) (by decide)
    exact Musts.no (by decide) (tno8 _ w o ho)
  · obtain ⟨o, ho⟩ := must_ty (t := 141) (x := 20) (v := _) Tryz.underlying137 (fun m h => by cases h) (by decide)
    exact Musts.no (by decide) (tno8 _ w o ho)
  · obtain ⟨o, ho⟩ := must_ty (t := 143) (x := 20) (v := _) Tryz.underlying137 (fun m h => by cases h) (by decide)
    exact Musts.no (by decide) (tno8 _ w o ho)

set_option maxRecDepth 100000 in
set_option maxHeartbeats 1000000 in
theorem tno9 (u : Value) (w : World) (o : Obj) (h : ∀ w : World, (Instr.typeAssert u 20 140 false).run Tryz.prog w = .halt (.panic (.iface 15 (.pointer (some ⟨w.heap.size, 0, none⟩)))) (w.alloc o)) : Calls Tryz.prog 138 #[.agg #[], u] w fun e w' => Pan w w' e := by
  go_enter Tryz.func138, Tryz.ntmps138
  go_wp2
  exact ⟨rfl, _, rfl, below2 w _ _⟩
set_option maxRecDepth 100000 in
set_option maxHeartbeats 1000000 in
theorem tyes9 (a b : Value) (w : World) : Calls Tryz.prog 138 #[.agg #[], .iface 140 (.agg #[a, b])] w fun e w' => e = .returned (.iface 140 (.agg #[a, b])) ∧ Below w.heap.size w w' := by
  have h : ∀ w : World, (Instr.typeAssert (.iface 140 (.agg #[a, b])) 20 140 false).run Tryz.prog w = .ok (.agg #[a, b]) w := fun w => must_is Tryz.underlying140 (fun m h => by cases h) w
  go_enter Tryz.func138, Tryz.ntmps138
  go_wp2
  go_ret
  exact ⟨rfl, below1 w _⟩
theorem tmu9 : Musts 138 (tkd 9) := by
  intro k u w hk
  rcases hk.cases with ⟨h0, rfl⟩ | ⟨rfl, a, rfl⟩ | ⟨rfl, a, rfl⟩ | ⟨rfl, a, rfl⟩ | ⟨rfl, a, rfl⟩ | ⟨rfl, a, rfl⟩ | ⟨rfl, a, rfl⟩ | ⟨rfl, a, rfl⟩ | ⟨rfl, a, rfl⟩ | ⟨rfl, a, b, rfl, ha, hb⟩ | ⟨rfl, c, a, rfl⟩ | ⟨rfl, a, rfl⟩ | ⟨rfl, rfl⟩ | ⟨rfl, rfl⟩
  · obtain ⟨o, ho⟩ := must_nil (x := 20) Tryz.underlying140
    exact Musts.no (tkd_no h0 9) (tno9 _ w o ho)
  · obtain ⟨o, ho⟩ := must_ty (t := 113) (x := 20) (v := _) Tryz.underlying140 (fun m h => by cases h) (by decide)
    exact Musts.no (by decide) (tno9 _ w o ho)
  · obtain ⟨o, ho⟩ := must_ty (t := 128) (x := 20) (v := _) Tryz.underlying140 (fun m h => by cases h) (by decide)
    exact Musts.no (by decide) (tno9 _ w o ho)
  · obtain ⟨o, ho⟩ := must_ty (t := 129) (x := 20) (v := _) Tryz.underlying140 (fun m h => by cases h) (by decide)
    exact Musts.no (by decide) (tno9 _ w o ho)
  · obtain ⟨o, ho⟩ := must_ty (t := 131) (x := 20) (v := _) Tryz.underlying140 (fun m h => by cases h) (by decide)
    exact Musts.no (by decide) (tno9 _ w o ho)
  · obtain ⟨o, ho⟩ := must_ty (t := 132) (x := 20) (v := _) Tryz.underlying140 (fun m h => by cases h) (by decide)
    exact Musts.no (by decide) (tno9 _ w o ho)
  · obtain ⟨o, ho⟩ := must_ty (t := 110) (x := 20) (v := _) Tryz.underlying140 (fun m h => by cases h) (by decide)
    exact Musts.no (by decide) (tno9 _ w o ho)
  · obtain ⟨o, ho⟩ := must_ty (t := 135) (x := 20) (v := _) Tryz.underlying140 (fun m h => by cases h) (by decide)
    exact Musts.no (by decide) (tno9 _ w o ho)
  · obtain ⟨o, ho⟩ := must_ty (t := 137) (x := 20) (v := _) Tryz.underlying140 (fun m h => by cases h) (by decide)
    exact Musts.no (by decide) (tno9 _ w o ho)
  · exact Musts.yes (by decide) (tyes9 a b w)
  · obtain ⟨o, ho⟩ := must_ty (t := 75) (x := 20) (v := _) Tryz.underlying140 (fun m h => by cases h) (by decide)
    exact Musts.no (by decide) (tno9 _ w o ho)
  · obtain ⟨o, ho⟩ := must_ty (t := 141) (x := 20) (v := _) Tryz.underlying140 (fun m h => by cases h) (by decide)
    exact Musts.no (by decide) (tno9 _ w o ho)
  · obtain ⟨o, ho⟩ := must_ty (t := 141) (x := 20) (v := _) Tryz.underlying140 (fun m h => by cases h) (by decide)
    exact Musts.no (by decide) (tno9 _ w o ho)
  · obtain ⟨o, ho⟩ := must_ty (t := 143) (x := 20) (v := _) Tryz.underlying140 (fun m h => by cases h) (by decide)
    exact Musts.no (by decide) (tno9 _ w o ho)

set_option maxRecDepth 100000 in
set_option maxHeartbeats 1000000 in
theorem tno10 (u : Value) (w : World) (o : Obj) (h : ∀ w : World, (Instr.typeAssert u 20 75 false).run Tryz.prog w = .halt (.panic (.iface 15 (.pointer (some ⟨w.heap.size, 0, none⟩)))) (w.alloc o)) : Calls Tryz.prog 140 #[.agg #[], u] w fun e w' => Pan w w' e := by
  go_enter Tryz.func140, Tryz.ntmps140
  go_wp2
  exact ⟨rfl, _, rfl, below2 w _ _⟩
set_option maxRecDepth 100000 in
set_option maxHeartbeats 1000000 in
theorem tyes10 (c : Int) (s : ByteArray) (w : World) : Calls Tryz.prog 140 #[.agg #[], .iface 75 (.agg #[.int .i64 c, .string s])] w fun e w' => e = .returned (.iface 75 (.agg #[.int .i64 c, .string s])) ∧ Below w.heap.size w w' := by
  have h : ∀ w : World, (Instr.typeAssert (.iface 75 (.agg #[.int .i64 c, .string s])) 20 75 false).run Tryz.prog w = .ok (.agg #[.int .i64 c, .string s]) w := fun w => must_is Tryz.underlying75 (fun m h => by cases h) w
  go_enter Tryz.func140, Tryz.ntmps140
  go_wp2
  go_ret
  exact ⟨rfl, below1 w _⟩
theorem tmu10 : Musts 140 (tkd 10) := by
  intro k u w hk
  rcases hk.cases with ⟨h0, rfl⟩ | ⟨rfl, a, rfl⟩ | ⟨rfl, a, rfl⟩ | ⟨rfl, a, rfl⟩ | ⟨rfl, a, rfl⟩ | ⟨rfl, a, rfl⟩ | ⟨rfl, a, rfl⟩ | ⟨rfl, a, rfl⟩ | ⟨rfl, a, rfl⟩ | ⟨rfl, a, b, rfl, ha, hb⟩ | ⟨rfl, c, a, rfl⟩ | ⟨rfl, a, rfl⟩ | ⟨rfl, rfl⟩ | ⟨rfl, rfl⟩
  · obtain ⟨o, ho⟩ := must_nil (x := 20) Tryz.underlying75
    exact Musts.no (tkd_no h0 10) (tno10 _ w o ho)
  · obtain ⟨o, ho⟩ := must_ty (t := 113) (x := 20) (v := _) Tryz.underlying75 (fun m h => by cases h) (by decide)
    exact Musts.no (by decide) (tno10 _ w o ho)
  · obtain ⟨o, ho⟩ := must_ty (t := 128) (x := 20) (v := _) Tryz.underlying75 (fun m h => by cases h) (by decide)
    exact Musts.no (by decide) (tno10 _ w o ho)
  · obtain ⟨o, ho⟩ := must_ty (t := 129) (x := 20) (v := _) Tryz.underlying75 (fun m h => by cases h) (by decide)
    exact Musts.no (by decide) (tno10 _ w o ho)
  · obtain ⟨o, ho⟩ := must_ty (t := 131) (x := 20) (v := _) Tryz.underlying75 (fun m h => by cases h) (by decide)
    exact Musts.no (by decide) (tno10 _ w o ho)
  · obtain ⟨o, ho⟩ := must_ty (t := 132) (x := 20) (v := _) Tryz.underlying75 (fun m h => by cases h) (by decide)
    exact Musts.no (by decide) (tno10 _ w o ho)
  · obtain ⟨o, ho⟩ := must_ty (t := 110) (x := 20) (v := _) Tryz.underlying75 (fun m h => by cases h) (by decide)
    exact Musts.no (by decide) (tno10 _ w o ho)
  · obtain ⟨o, ho⟩ := must_ty (t := 135) (x := 20) (v := _) Tryz.underlying75 (fun m h => by cases h) (by decide)
    exact Musts.no (by decide) (tno10 _ w o ho)
  · obtain ⟨o, ho⟩ := must_ty (t := 137) (x := 20) (v := _) Tryz.underlying75 (fun m h => by cases h) (by decide)
    exact Musts.no (by decide) (tno10 _ w o ho)
  · obtain ⟨o, ho⟩ := must_ty (t := 140) (x := 20) (v := _) Tryz.underlying75 (fun m h => by cases h) (by decide)
    exact Musts.no (by decide) (tno10 _ w o ho)
  · exact Musts.yes (by decide) (tyes10 c a w)
  · obtain ⟨o, ho⟩ := must_ty (t := 141) (x := 20) (v := _) Tryz.underlying75 (fun m h => by cases h) (by decide)
    exact Musts.no (by decide) (tno10 _ w o ho)
  · obtain ⟨o, ho⟩ := must_ty (t := 141) (x := 20) (v := _) Tryz.underlying75 (fun m h => by cases h) (by decide)
    exact Musts.no (by decide) (tno10 _ w o ho)
  · obtain ⟨o, ho⟩ := must_ty (t := 143) (x := 20) (v := _) Tryz.underlying75 (fun m h => by cases h) (by decide)
    exact Musts.no (by decide) (tno10 _ w o ho)

set_option maxRecDepth 100000 in
set_option maxHeartbeats 1000000 in
theorem tno11 (u : Value) (w : World) (o : Obj) (h : ∀ w : World, (Instr.typeAssert u 20 141 false).run Tryz.prog w = .halt (.panic (.iface 15 (.pointer (some ⟨w.heap.size, 0, none⟩)))) (w.alloc o)) : Calls Tryz.prog 142 #[.agg #[], u] w fun e w' => Pan w w' e := by
  go_enter Tryz.func142, Tryz.ntmps142
  go_wp2
  exact ⟨rfl, _, rfl, below2 w _ _⟩
set_option maxRecDepth 100000 in
set_option maxHeartbeats 1000000 in
theorem tyes11 (z : Value) (w : World) : Calls Tryz.prog 142 #[.agg #[], .iface 141 (z)] w fun e w' => e = .returned (.iface 141 (z)) ∧ Below w.heap.size w w' := by
  have h : ∀ w : World, (Instr.typeAssert (.iface 141 (z)) 20 141 false).run Tryz.prog w = .ok (z) w := fun w => must_is Tryz.underlying141 (fun m h => by cases h) w
  go_enter Tryz.func142, Tryz.ntmps142
  go_wp2
  go_ret
  exact ⟨rfl, below1 w _⟩
theorem tmu11 : Musts 142 (tkd 11) := by
  intro k u w hk
  rcases hk.cases with ⟨h0, rfl⟩ | ⟨rfl, a, rfl⟩ | ⟨rfl, a, rfl⟩ | ⟨rfl, a, rfl⟩ | ⟨rfl, a, rfl⟩ | ⟨rfl, a, rfl⟩ | ⟨rfl, a, rfl⟩ | ⟨rfl, a, rfl⟩ | ⟨rfl, a, rfl⟩ | ⟨rfl, a, b, rfl, ha, hb⟩ | ⟨rfl, c, a, rfl⟩ | ⟨rfl, a, rfl⟩ | ⟨rfl, rfl⟩ | ⟨rfl, rfl⟩
  · obtain ⟨o, ho⟩ := must_nil (x := 20) Tryz.underlying141
    exact Musts.no (tkd_no h0 11) (tno11 _ w o ho)
  · obtain ⟨o, ho⟩ := must_ty (t := 113) (x := 20) (v := _) Tryz.underlying141 (fun m h => by cases h) (by decide)
    exact Musts.no (by decide) (tno11 _ w o ho)
  · obtain ⟨o, ho⟩ := must_ty (t := 128) (x := 20) (v := _) Tryz.underlying141 (fun m h => by cases h) (by decide)
    exact Musts.no (by decide) (tno11 _ w o ho)
  · obtain ⟨o, ho⟩ := must_ty (t := 129) (x := 20) (v := _) Tryz.underlying141 (fun m h => by cases h) (by decide)
    exact Musts.no (by decide) (tno11 _ w o ho)
  · obtain ⟨o, ho⟩ := must_ty (t := 131) (x := 20) (v := _) Tryz.underlying141 (fun m h => by cases h) (by decide)
    exact Musts.no (by decide) (tno11 _ w o ho)
  · obtain ⟨o, ho⟩ := must_ty (t := 132) (x := 20) (v := _) Tryz.underlying141 (fun m h => by cases h) (by decide)
    exact Musts.no (by decide) (tno11 _ w o ho)
  · obtain ⟨o, ho⟩ := must_ty (t := 110) (x := 20) (v := _) Tryz.underlying141 (fun m h => by cases h) (by decide)
    exact Musts.no (by decide) (tno11 _ w o ho)
  · obtain ⟨o, ho⟩ := must_ty (t := 135) (x := 20) (v := _) Tryz.underlying141 (fun m h => by cases h) (by decide)
    exact Musts.no (by decide) (tno11 _ w o ho)
  · obtain ⟨o, ho⟩ := must_ty (t := 137) (x := 20) (v := _) Tryz.underlying141 (fun m h => by cases h) (by decide)
    exact Musts.no (by decide) (tno11 _ w o ho)
  · obtain ⟨o, ho⟩ := must_ty (t := 140) (x := 20) (v := _) Tryz.underlying141 (fun m h => by cases h) (by decide)
    exact Musts.no (by decide) (tno11 _ w o ho)
  · obtain ⟨o, ho⟩ := must_ty (t := 75) (x := 20) (v := _) Tryz.underlying141 (fun m h => by cases h) (by decide)
    exact Musts.no (by decide) (tno11 _ w o ho)
  · exact Musts.yes (by decide) (tyes11 _ w)
  · exact Musts.yes (by decide) (tyes11 _ w)
  · obtain ⟨o, ho⟩ := must_ty (t := 143) (x := 20) (v := _) Tryz.underlying141 (fun m h => by cases h) (by decide)
    exact Musts.no (by decide) (tno11 _ w o ho)

set_option maxRecDepth 100000 in
set_option maxHeartbeats 1000000 in
theorem tno13 (u : Value) (w : World) (o : Obj) (h : ∀ w : World, (Instr.typeAssert u 20 143 false).run Tryz.prog w = .halt (.panic (.iface 15 (.pointer (some ⟨w.heap.size, 0, none⟩)))) (w.alloc o)) : Calls Tryz.prog 147 #[.agg #[], u] w fun e w' => Pan w w' e := by
  go_enter Tryz.func147, Tryz.ntmps147
  go_wp2
  exact ⟨rfl, _, rfl, below2 w _ _⟩
set_option maxRecDepth 100000 in
set_option maxHeartbeats 1000000 in
theorem tyes13 (w : World) : Calls Tryz.prog 147 #[.agg #[], .iface 143 (.agg #[])] w fun e w' => e = .returned (.iface 143 (.agg #[])) ∧ Below w.heap.size w w' := by
  have h : ∀ w : World, (Instr.typeAssert (.iface 143 (.agg #[])) 20 143 false).run Tryz.prog w = .ok (.agg #[]) w := fun w => must_is Tryz.underlying143 (fun m h => by cases h) w
  go_enter Tryz.func147, Tryz.ntmps147
  go_wp2
  go_ret
  exact ⟨rfl, below1 w _⟩
theorem tmu13 : Musts 147 (tkd 13) := by
  intro k u w hk
  rcases hk.cases with ⟨h0, rfl⟩ | ⟨rfl, a, rfl⟩ | ⟨rfl, a, rfl⟩ | ⟨rfl, a, rfl⟩ | ⟨rfl, a, rfl⟩ | ⟨rfl, a, rfl⟩ | ⟨rfl, a, rfl⟩ | ⟨rfl, a, rfl⟩ | ⟨rfl, a, rfl⟩ | ⟨rfl, a, b, rfl, ha, hb⟩ | ⟨rfl, c, a, rfl⟩ | ⟨rfl, a, rfl⟩ | ⟨rfl, rfl⟩ | ⟨rfl, rfl⟩
  · obtain ⟨o, ho⟩ := must_nil (x := 20) Tryz.underlying143
    exact Musts.no (tkd_no h0 13) (tno13 _ w o ho)
  · obtain ⟨o, ho⟩ := must_ty (t := 113) (x := 20) (v := _) Tryz.underlying143 (fun m h => by cases h) (by decide)
    exact Musts.no (by decide) (tno13 _ w o ho)
  · obtain ⟨o, ho⟩ := must_ty (t := 128) (x := 20) (v := _) Tryz.underlying143 (fun m h => by cases h) (by decide)
    exact Musts.no (by decide) (tno13 _ w o ho)
  · obtain ⟨o, ho⟩ := must_ty (t := 129) (x := 20) (v := _) Tryz.underlying143 (fun m h => by cases h) (by decide)
    exact Musts.no (by decide) (tno13 _ w o ho)
  · obtain ⟨o, ho⟩ := must_ty (t := 131) (x := 20) (v := _) Tryz.underlying143 (fun m h => by cases h) (by decide)
    exact Musts.no (by decide) (tno13 _ w o ho)
  · obtain ⟨o, ho⟩ := must_ty (t := 132) (x := 20) (v := _) Tryz.underlying143 (fun m h => by cases h) (by decide)
    exact Musts.no (by decide) (tno13 _ w o ho)
  · obtain ⟨o, ho⟩ := must_ty (t := 110) (x := 20) (v := _) Tryz.underlying143 (fun m h => by cases h) (by decide)
    exact Musts.no (by decide) (tno13 _ w o ho)
  · obtain ⟨o, ho⟩ := must_ty (t := 135) (x := 20) (v := _) Tryz.underlying143 (fun m h => by cases h) (by decide)
    exact Musts.no (by decide) (tno13 _ w o ho)
  · obtain ⟨o, ho⟩ := must_ty (t := 137) (x := 20) (v := _) Tryz.underlying143 (fun m h => by cases h) (by decide)
    exact Musts.no (by decide) (tno13 _ w o ho)
  · obtain ⟨o, ho⟩ := must_ty (t := 140) (x := 20) (v := _) Tryz.underlying143 (fun m h => by cases h) (by decide)
    exact Musts.no (by decide) (tno13 _ w o ho)
  · obtain ⟨o, ho⟩ := must_ty (t := 75) (x := 20) (v := _) Tryz.underlying143 (fun m h => by cases h) (by decide)
    exact Musts.no (by decide) (tno13 _ w o ho)
  · obtain ⟨o, ho⟩ := must_ty (t := 141) (x := 20) (v := _) Tryz.underlying143 (fun m h => by cases h) (by decide)
    exact Musts.no (by decide) (tno13 _ w o ho)
  · obtain ⟨o, ho⟩ := must_ty (t := 141) (x := 20) (v := _) Tryz.underlying143 (fun m h => by cases h) (by decide)
    exact Musts.no (by decide) (tno13 _ w o ho)
  · exact Musts.yes (by decide) (tyes13  w)

set_option maxRecDepth 100000 in
set_option maxHeartbeats 1000000 in
theorem tmu12 : Musts 144 (tkd 12) := by
  intro k u w hk
  have HA : Hid (∀ w : World, Calls Tryz.prog 143 #[.agg #[], u] w fun e w' => e = .returned (.bool (k == 12)) ∧ Below w.heap.size w w') := fun w => type12_asks k u w hk
  have HN := Lib.hid (fun w => (fmuN k u w hk).2 rfl)
  have hp : tkd 12 k = (k == 12) := by unfold tkd; simp
  constructor
  · intro h
    rw [hp] at h
    rw [h] at HA
    go_enter Tryz.func144, Tryz.ntmps144
    go_wp2_with fail
    refine (HA.out _).mono ?_
    rintro e w1 ⟨rfl, b1⟩
    go_wp2
    go_ret
    exact ⟨rfl, (below1 w _).trans (b1.mono (by simp))⟩
  · intro h
    rw [hp] at h
    rw [h] at HA
    go_enter Tryz.func144, Tryz.ntmps144
    go_wp2_with fail
    refine (HA.out _).mono ?_
    rintro e w1 ⟨rfl, b1⟩
    go_wp2_with fail
    refine (HN.out _).mono ?_
    rintro e w2 ⟨a, rfl, b2⟩
    have B1 := (below1 w (.cells #[] 162)).trans (b1.mono (by simp))
    exact ⟨rfl, a, rfl, B1.trans (b2.mono B1.size)⟩

/-- Every type's question is asked, panicking, by some function. -/
theorem type_musts (m : Int) : ∃ F, MethM (qty m) F ∧ Musts F (tkd m) := by
  by_cases h : m < 1 ∨ 13 < m
  · have hq : qty m = 164 := by
      unfold qty
      rw [if_neg (show ¬ m = 1 by omega)]
      rw [if_neg (show ¬ m = 2 by omega)]
      rw [if_neg (show ¬ m = 3 by omega)]
      rw [if_neg (show ¬ m = 4 by omega)]
      rw [if_neg (show ¬ m = 5 by omega)]
      rw [if_neg (show ¬ m = 6 by omega)]
      rw [if_neg (show ¬ m = 7 by omega)]
      rw [if_neg (show ¬ m = 8 by omega)]
      rw [if_neg (show ¬ m = 9 by omega)]
      rw [if_neg (show ¬ m = 10 by omega)]
      rw [if_neg (show ¬ m = 11 by omega)]
      rw [if_neg (show ¬ m = 12 by omega)]
      rw [if_neg (show ¬ m = 13 by omega)]
    rw [hq]
    refine ⟨145, ⟨fun _ => by kernel_rfl, fun _ _ => by kernel_rfl⟩, ?_⟩
    have : tkd m = fun _ => false := funext fun k => by unfold tkd; rw [decide_eq_false (by omega)]; rfl
    rw [this]
    exact fmuN
  have hk : m = 1 ∨ m = 2 ∨ m = 3 ∨ m = 4 ∨ m = 5 ∨ m = 6 ∨ m = 7 ∨ m = 8 ∨ m = 9 ∨ m = 10 ∨ m = 11 ∨ m = 12 ∨ m = 13 := by omega
  rcases hk with rfl | rfl | rfl | rfl | rfl | rfl | rfl | rfl | rfl | rfl | rfl | rfl | rfl
  · exact ⟨122, ⟨fun _ => by kernel_rfl, fun _ _ => by kernel_rfl⟩, tmu1⟩
  · exact ⟨124, ⟨fun _ => by kernel_rfl, fun _ _ => by kernel_rfl⟩, tmu2⟩
  · exact ⟨126, ⟨fun _ => by kernel_rfl, fun _ _ => by kernel_rfl⟩, tmu3⟩
  · exact ⟨128, ⟨fun _ => by kernel_rfl, fun _ _ => by kernel_rfl⟩, tmu4⟩
  · exact ⟨130, ⟨fun _ => by kernel_rfl, fun _ _ => by kernel_rfl⟩, tmu5⟩
  · exact ⟨132, ⟨fun _ => by kernel_rfl, fun _ _ => by kernel_rfl⟩, tmu6⟩
  · exact ⟨134, ⟨fun _ => by kernel_rfl, fun _ _ => by kernel_rfl⟩, tmu7⟩
  · exact ⟨136, ⟨fun _ => by kernel_rfl, fun _ _ => by kernel_rfl⟩, tmu8⟩
  · exact ⟨138, ⟨fun _ => by kernel_rfl, fun _ _ => by kernel_rfl⟩, tmu9⟩
  · exact ⟨140, ⟨fun _ => by kernel_rfl, fun _ _ => by kernel_rfl⟩, tmu10⟩
  · exact ⟨142, ⟨fun _ => by kernel_rfl, fun _ _ => by kernel_rfl⟩, tmu11⟩
  · exact ⟨144, ⟨fun _ => by kernel_rfl, fun _ _ => by kernel_rfl⟩, tmu12⟩
  · exact ⟨147, ⟨fun _ => by kernel_rfl, fun _ _ => by kernel_rfl⟩, tmu13⟩
end Go.Proofs.YthamafijjflfbaaGreat
