/- The package's Length and the document's, of a value's tree: one answer; the conditions: the tree in memory, valid. -/
import Derived.Test.YtajagjcfmaggiaaGreatDoorKCae
import Derived.Test.YtajagjcfmaggiaaGreatDoorKCaj
namespace Go.Proofs.YtajagjcfmaggiaaGreatDoor.Dt
open Go.RowKit
/-- What Length answers: by the kind, the text's length, the list's. -/
def lenP (k : Int) (s l : Nat) : Int × Int := if k = 4 ∨ k = 5 ∨ k = 7 then (s, 0) else if k = 8 then (l, 0) else if k = 9 then (2, 0) else if k = 11 then (1, 0) else if k = 12 then (0, 0) else (0, 12)
theorem sizeText (s : ByteArray) (w : World) : Calls Tryz.prog 160 #[.string s] w fun e w' => e = .returned (.int .i64 ((s.size : Int))) ∧ w' = w := by
  go_enter Tryz.func160, Tryz.ntmps160
  go_wp2
  go_ret
  exact ⟨rfl, rfl⟩
theorem sizeName (s : ByteArray) (w : World) : Calls Tryz.prog 216 #[.string s] w fun e w' => e = .returned (.int .i64 ((s.size : Int))) ∧ w' = w := by
  go_enter Tryz.func216, Tryz.ntmps216
  go_wp2
  go_ret
  exact ⟨rfl, rfl⟩
theorem sizeOct (a : Option Addr) (n c : Nat) (w : World) : Calls Tryz.prog 217 #[.slice a n c] w fun e w' => e = .returned (.int .i64 ((n : Int))) ∧ w' = w := by
  go_enter Tryz.func217, Tryz.ntmps217
  go_wp2
  go_ret
  exact ⟨rfl, rfl⟩
theorem sizeRow (a : Option Addr) (n c : Nat) (w : World) : Calls Tryz.prog 218 #[.slice a n c] w fun e w' => e = .returned (.int .i64 ((n : Int))) ∧ w' = w := by
  go_enter Tryz.func218, Tryz.ntmps218
  go_wp2
  go_ret
  exact ⟨rfl, rfl⟩
theorem sizeBox (p : Addr) (w : World) : Calls Tryz.prog 224 #[.pointer (some p)] w fun e w' => e = .returned (.int .i64 (1)) ∧ w' = w := by
  go_enter Tryz.func224, Tryz.ntmps224
  go_wp2
  go_ret
  exact ⟨rfl, rfl⟩
theorem sizeNob  (w : World) : Calls Tryz.prog 224 #[.pointer none] w fun e w' => e = .returned (.int .i64 (0)) ∧ w' = w := by
  go_enter Tryz.func224, Tryz.ntmps224
  go_wp2
  go_ret
  exact ⟨rfl, rfl⟩
theorem sizePair (x y : Value) (hx : Sx x) (hy : Sx y) (w : World) : Calls Tryz.prog 219 #[.agg #[x, y]] w fun e w' => e = .returned (.int .i64 2) ∧ Below w.heap.size w w' := by
  rcases hx with rfl | ⟨T, z, rfl⟩ <;> rcases hy with rfl | ⟨T', z', rfl⟩
  all_goals
    go_enter Tryz.func219, Tryz.ntmps219
    go_wp2
    go_ret
    first | exact ⟨rfl, Below.refl _ _⟩ | exact ⟨rfl, below1 _ _⟩
end Go.Proofs.YtajagjcfmaggiaaGreatDoor.Dt
/- The package's Length of a value's tree: what the document's answers; the conditions: the tree in memory, valid. -/
namespace Go.Proofs.YtajagjcfmaggiaaGreatDoor.Dt
open Go.RowKit
/-- What stands for a tree, by its kind. -/
theorem vr_cases {F : Nat → Prop} {w : World} {n : Nat} {v : Value} {t : Tr (n + 1)} (h : VR F w (n + 1) v t) :
    (t.kd = 0 ∧ v = .nilIface) ∨ (t.kd = 1 ∧ v = .iface 140 (.int .i64 t.it)) ∨ (t.kd = 2 ∧ v = .iface 141 (.int .i64 t.it)) ∨ (t.kd = 3 ∧ v = .iface 142 (.float .f64 t.ut.toNat)) ∨
    (t.kd = 4 ∧ v = .iface 101 (.string t.tx)) ∨ (t.kd = 5 ∧ v = .iface 143 (.string t.tx)) ∨ (t.kd = 6 ∧ v = .iface 144 (.bool (t.it != 0))) ∨
    (t.kd = 7 ∧ ∃ a c, v = .iface 147 (.slice a t.tx.size c)) ∨ (t.kd = 8 ∧ ∃ a c, v = .iface 149 (.slice a t.ks.length c)) ∨
    (t.kd = 9 ∧ ∃ x y, v = .iface 152 (.agg #[x, y]) ∧ Sx x ∧ Sx y) ∨ (t.kd = 10 ∧ v = .iface 154 (.agg #[.int .i64 t.it, .string t.tx])) ∨
    (t.kd = 11 ∧ ∃ b u, v = .iface 155 (.pointer (some ⟨b, 0, none⟩)) ∧ w.heap[b]? = some (.cells #[.int .i64 t.it, u] 176 (0, 0)) ∧ Sx u) ∨ (t.kd = 12 ∧ v = .iface 155 (.pointer none)) ∨ (t.kd = 13 ∧ v = .iface 157 (.agg #[])) := by
  simp only [VR] at h
  rcases h with q | q | q | q | q | q | q | ⟨k, g, c, cs, fr, e1, e2, e3, e4⟩ | ⟨k, a, c, e1, e2⟩ | ⟨k, x, y, t0, t1, e1, e2, e3, e4⟩ | q | ⟨k, b, u, t0, e1, e2, e3, e4, e5⟩ | q | q
  · exact .inl q
  · exact .inr (.inl q)
  · exact .inr (.inr (.inl q))
  · exact .inr (.inr (.inr (.inl q)))
  · exact .inr (.inr (.inr (.inr (.inl q))))
  · exact .inr (.inr (.inr (.inr (.inr (.inl q)))))
  · exact .inr (.inr (.inr (.inr (.inr (.inr (.inl q))))))
  · exact .inr (.inr (.inr (.inr (.inr (.inr (.inr (.inl ⟨k, _, c, e1⟩)))))))
  · exact .inr (.inr (.inr (.inr (.inr (.inr (.inr (.inr (.inl ⟨k, a, c, e1⟩))))))))
  · exact .inr (.inr (.inr (.inr (.inr (.inr (.inr (.inr (.inr (.inl ⟨k, x, y, e1, vr_any e3, vr_any e4⟩)))))))))
  · exact .inr (.inr (.inr (.inr (.inr (.inr (.inr (.inr (.inr (.inr (.inl q))))))))))
  · exact .inr (.inr (.inr (.inr (.inr (.inr (.inr (.inr (.inr (.inr (.inr (.inl ⟨k, b, u, e1, e4, vr_any e5⟩)))))))))))
  · exact .inr (.inr (.inr (.inr (.inr (.inr (.inr (.inr (.inr (.inr (.inr (.inr (.inl q))))))))))))
  · exact .inr (.inr (.inr (.inr (.inr (.inr (.inr (.inr (.inr (.inr (.inr (.inr (.inr q))))))))))))
end Go.Proofs.YtajagjcfmaggiaaGreatDoor.Dt
