/- The heap of a row, and its first; the conditions: the row in memory, the closure's box. -/
import Derived.Test.YtdgjhclncjoonaaQd
namespace Go.Proofs.Ytdgjhclncjoonaa
open Go.RowKit

set_option maxRecDepth 100000 in
set_option maxHeartbeats 4000000 in
theorem heapOf_any (up : Bool) (A n G : Nat) (f : Nat → Int × Int) (w : World) (h : Hm w A n G up f) (hn : n ≤ 1000000) :
    Calls Try.prog 32 #[.slice (some ⟨A, 0, none⟩) n n, fv G] w fun e w' => ∃ f', e = .returned (.agg #[.slice (some ⟨A, 0, none⟩) n n, fv G]) ∧ Pq w' A n f' ∧ Hp up n f' 0 ∧ Im n f' f ∧ Ke A w w' := by
  have hsf : ∀ (a : Addr) (f : Fn) (fs cs : Array Value) (m : Mode) (w : World), (store a (.func f fs cs) m).run Try.prog w = stored Try.prog w a (.func f fs cs) m := fun a f fs cs m w => run_store Try.prog w a _ m rfl
  have hA := h.q.lt
  have H0 := Lib.hid h
  clear h
  go_enter Try.func32, Try.ntmps32
  go_wp2_with fail
  obtain ⟨W, hW⟩ : ∃ W, W = (w.alloc (.cells #[.slice none 0 0, .nilFunc] 68)).alloc (.cells #[.slice (some ⟨A, 0, none⟩) n n, fv G] 68) := ⟨_, rfl⟩
  have B0 : Below w.heap.size w W := by rw [hW]; exact below2 w _ _
  have S0 : Bk W (w.heap.size + 1) #[.slice (some ⟨A, 0, none⟩) n n, fv G] 68 := by rw [hW]; exact Bk.new2 w _ _ _
  have Z0 : Bk W w.heap.size #[.slice none 0 0, .nilFunc] 68 := by rw [hW]; exact (Bk.new w _ _).alloc _
  have hWs : W.heap.size = w.heap.size + 2 := by rw [hW]; simp
  have H1 := Lib.hid (H0.out.step B0)
  rw [show ((w.alloc (.cells #[.slice none 0 0, .nilFunc] 68)).alloc (.cells #[.slice (some ⟨A, 0, none⟩) n n, .func (.func 33) #[] #[.pointer (some ⟨G, 0, none⟩)]] 68)) = W from hW.symm]
  have HWs := Lib.hid hWs
  clear hW hWs H0
  go_loopw [6] (fun s6 wr => ∃ (k : Nat) (f' : Nat → Int × Int), s6 = .int .i64 ((k : Int) - 1) ∧ k ≤ n / 2 ∧ Hm wr A n G up f' ∧ Hp up n f' k ∧ Im n f' f ∧ Ke A W wr) (fun s6 _ => (intOf s6 + 1).toNat)
  case atStart => exact ⟨n / 2, f, by simp, Nat.le_refl _, H1.out, Hp.nobody (Nat.le_refl _), Im.refl _ _, Ke.refl _ _⟩
  case round =>
    obtain ⟨k, f', rfl, hk, hm, hp, him, hke⟩ := hrel
    have wz := HWs.out
    have hkz := hke.size
    have hnA : w.heap.size ≠ A := by omega
    have hnA1 : w.heap.size + 1 ≠ A := by omega
    have Sr : Bk wr (w.heap.size + 1) #[.slice (some ⟨A, 0, none⟩) n n, fv G] 68 := (hke.block _ (by omega) hnA1).trans S0
    have Zr : Bk wr w.heap.size #[.slice none 0 0, .nilFunc] 68 := (hke.block _ (by omega) hnA).trans Z0
    have s0 : wr.cell? ⟨w.heap.size + 1, 0, none⟩ = some (.slice (some ⟨A, 0, none⟩) n n) := Sr.c 0
    have s1 : wr.cell? ⟨w.heap.size + 1, 1, none⟩ = some (fv G) := Sr.c 1
    have M := Lib.hid hm
    have K := Lib.hid hke
    have P := Lib.hid hp
    have I := Lib.hid him
    clear hm hke hp him wz
    cases k with
    | zero =>
      have z0 : wr.cell? ⟨w.heap.size, 0, none⟩ = some (.slice none 0 0) := Zr.c 0
      have z1 : wr.cell? ⟨w.heap.size, 1, none⟩ = some .nilFunc := Zr.c 1
      have zf := Zr.f
      have hz := HWs.out
      go_wp2_with fail
      refine bodyPost_ret (v := .agg #[.slice (some ⟨A, 0, none⟩) n n, fv G]) (by simp [results, Try.results32, go_sem, World.cell?_setCell_same, World.cell?_setCell_other, z0, z1]) rfl ⟨f', rfl, ?_, P.out, I.out, ?_⟩
      · refine M.out.q.heap ?_
        rw [Below.heap_setCell _ _ _ _ (Ne.symm hnA), Below.heap_setCell _ _ _ _ (Ne.symm hnA)]
      · have k1 : Ke A w wr := Ke.trans (Ke.of B0) K.out
        refine ⟨k1.os, k1.tape, k1.output, by simpa using k1.size, fun g hg hne => ?_⟩
        rw [Below.heap_setCell _ _ _ _ (by show g ≠ w.heap.size; omega), Below.heap_setCell _ _ _ _ (by show g ≠ w.heap.size; omega)]
        exact k1.block g hg hne
    | succ k =>
      have ek : (((k + 1 : Nat) : Int) - 1) = (k : Int) := by omega
      rw [ek]
      have HS := Lib.hid (sink_any up A n G k f' wr M.out hn (by omega) P.out)
      have k0 : decide ((k : Int) ≥ 0) = true := decide_eq_true (by omega)
      have k1 : (0 : Int) ≤ (k : Int) := by omega
      go_wp2_with (go_at_call 37; refine HS.out.mono ?_; rintro e w1 ⟨f2, rfl, q2, p2, i2, ke2⟩)
      exact ⟨⟨k, f2, rfl, by omega, M.out.ke ke2 q2, p2, fun v => (i2 v).trans (I.out v), K.out.trans ke2⟩, by simp [intOf]⟩

theorem first_any (A n G : Nat) (f : Nat → Int × Int) (w : World) (h : Pq w A n f) (hn : 0 < n) :
    Calls Try.prog 34 #[.agg #[.slice (some ⟨A, 0, none⟩) n n, fv G]] w fun e w' => e = .returned (.agg #[.int .i64 (f 0).1, .int .i64 (f 0).2]) ∧ Below w.heap.size w w' := by
  have B0 := below2 w (.cells #[.slice (some ⟨A, 0, none⟩) n n, fv G] 68) (.cells #[.int .i64 0, .int .i64 0] 65)
  obtain ⟨a0, a1⟩ := (h.step B0).c 0 hn
  rw [Nat.zero_mul] at a0 a1
  have hn0 : (0 : Int) < (n : Int) := by omega
  clear h
  go_enter Try.func34, Try.ntmps34
  go_wp2_with fail
  refine bodyPost_ret (v := .agg #[.int .i64 (f 0).1, .int .i64 (f 0).2]) (by simp [results, Try.results34, go_sem]) rfl ⟨rfl, ?_⟩
  repeat' refine Below.setCell ?_ (by simp) _
  exact below2 w _ _
end Go.Proofs.Ytdgjhclncjoonaa
