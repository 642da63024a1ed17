/- What guard.Run hands to panics.Caught; the conditions: the acts' contracts, the blocks apart. -/
import Derived.Test.YthamafijjflfbaaGreatNzc
namespace Go.Proofs.YthamafijjflfbaaGreat
open Go.RowKit

/-- How the closure ends. -/
def Rc (b ln : Nat) (Res : Nat → Rv) (pan : Nat → Bool) (T : Nat → TypeId) (z : Nat → Value) (w : World) (e : Ending) (w' : World) : Prop :=
  (e = .returned (.agg (rErr 0 0 0 0)) ∧ (∀ q, q < ln → pan q = false) ∧ Rq w.heap.size b Res ln ln w' ∧ Fr b (b + 1) w w') ∨ ∃ j, j < ln ∧ (∀ q, q < j → pan q = false) ∧ pan j = true ∧ Pn (T j) (z j) e ∧ Rq w.heap.size b Res j (j + 1) w' ∧ Fr b (b + 1) w w'

set_option maxRecDepth 100000 in
set_option maxHeartbeats 2000000 in
theorem Run1_any (b lb lg lo : Nat) (la : Option Addr) (ln lc : Nat) (Ac : Nat → Av) (Res : Nat → Rv) (pan : Nat → Bool) (T : Nat → TypeId) (z : Nat → Value) (w : World)
    (hl : ln ≤ 65536) (hla : ln = 0 ∨ la = some ⟨lg, lo, none⟩) (hlg : lg < b) (hlb : lb < b) (hB : Bk w b #[.slice none 0 0, .slice none 0 0] 64) (hLb : Bk w lb #[.slice la ln lc] 39)
    (hA : ∀ j, j < ln → Ax w lg (lo + j * 12) (Ac j))
    (hD : ∀ j, j < ln → ∀ wx, Below b w wx → w.heap.size + 4 ≤ wx.heap.size → Calls Tryz.prog 21 #[.agg (Ac j).cs] wx (Dn (pan j) (T j) (z j) (Res j) wx)) :
    Calls Tryz.prog 32 #[.pointer (some ⟨b, 0, none⟩), .pointer (some ⟨lb, 0, none⟩)] w (Rc b ln Res pan T z w) := by
  have B0 := below1 w (.cells (rErr 0 0 0 0) 35)
  have Z0 := Bk.new w (rErr 0 0 0 0) 35
  have lB := hB.lt
  have b0 : Below b w (w.alloc (.cells (rErr 0 0 0 0) 35)) := B0.mono (by omega)
  have K := Lib.hid (run_any b lg lo la ln lc Ac Res pan T z (w.alloc (.cells (rErr 0 0 0 0) 35)) hl hla hlg (hB.step B0) (fun j hj => (hA j hj).below b0 hlg) fun j hj wx hx hz => hD j hj wx (b0.trans hx) (by simp at hz; omega))
  have s0 : (w.alloc (.cells (rErr 0 0 0 0) 35)).heap.size - 1 = w.heap.size := by simp
  have F0 : Fr b (b + 1) w (w.alloc (.cells (rErr 0 0 0 0) 35)) := Fr.of B0 (by omega)
  have cl : (w.alloc (.cells (rErr 0 0 0 0) 35)).cell? ⟨lb, 0, none⟩ = some (.slice la ln lc) := (hLb.step B0).c 0
  clear hD hA hB hLb B0
  go_enter Tryz.func32, Tryz.ntmps32
  go_wp2_with fail
  refine K.out.mono ?_
  rintro e w1 (⟨rfl, np, rq, fr⟩ | ⟨j, hj, np, hp, ⟨older, rfl, ho⟩, rq, fr⟩)
  · have Z1 := Z0.fr fr (.inr (by omega))
    have F1 := F0.trans fr
    rw [s0] at rq
    have RQ := Lib.hid rq
    have FF := Lib.hid F1
    obtain ⟨d0, d1, d2, d3, d4, d5, d6, d7, d8, d9⟩ := Z1.c10
    have f1 := Z1.f
    clear cl rq fr F1 F0 K Z0
    go_wp2_with fail
    clear d0 d1 d2 d3 d4 d5 d6 d7 d8 d9 f1
    obtain ⟨k1, k2, k3, k4⟩ := set10 Z1 (.int .i64 0) (.int .i64 0) (.int .i64 0) (.int .i64 0) (.bool false) (.int .i64 0) (.int .i64 0) (.int .u64 0) (.string ⟨#[]⟩) (.slice none 0 0) rfl
    obtain ⟨d0, d1, d2, d3, d4, d5, d6, d7, d8, d9⟩ := k1.c10
    generalize ((((((((((w1.setCell ⟨w.heap.size, 0, none⟩ (.int .i64 0)).setCell ⟨w.heap.size, 1, none⟩ (.int .i64 0)).setCell ⟨w.heap.size, 2, none⟩ (.int .i64 0)).setCell ⟨w.heap.size, 3, none⟩ (.int .i64 0)).setCell ⟨w.heap.size, 4, none⟩ (.bool false)).setCell ⟨w.heap.size, 5, none⟩ (.int .i64 0)).setCell ⟨w.heap.size, 6, none⟩ (.int .i64 0)).setCell ⟨w.heap.size, 7, none⟩ (.int .u64 0)).setCell ⟨w.heap.size, 8, none⟩ (.string ⟨#[]⟩)).setCell ⟨w.heap.size, 9, none⟩ (.slice none 0 0)) = W at *
    refine bodyPost_ret (v := .agg (rErr 0 0 0 0)) (by simp [results, Tryz.results32, go_sem, d0, d1, d2, d3, d4, d5, d6, d7, d8, d9]) rfl ?_
    refine .inl ⟨rfl, np, RQ.out.keep (Nat.le_of_eq k2.symm) fun g _ hg => k3 g (by rcases hg with rfl | hg <;> omega), ?_⟩
    exact ⟨FF.out.b.trans (k4.mono (by omega)), fun g g1 g2 => (k3 g (by omega)).trans (FF.out.up g g1 g2)⟩
  · have F1 := Lib.hid (F0.trans fr)
    rw [s0] at rq
    have RQ := Lib.hid rq
    clear cl rq fr F0 K Z0
    go_wp2_with fail
    exact ⟨rfl, .inr ⟨j, hj, np, hp, ⟨older, rfl, ho⟩, RQ.out, F1.out⟩⟩
end Go.Proofs.YthamafijjflfbaaGreat
