/- The heap's foremost, and what sinks; the conditions: the row in memory, the closure's box. -/
import Derived.Test.YtdgjhclncjoonaaQb
namespace Go.Proofs.Ytdgjhclncjoonaa
open Go.RowKit

/-- The closure of what is ahead, its box at G. -/
abbrev fv (G : Nat) : Value := .func (.func 33) #[] #[.pointer (some ⟨G, 0, none⟩)]
/-- The heap's row and the closure's box. -/
structure Hm (w : World) (A n G : Nat) (up : Bool) (f : Nat → Int × Int) : Prop where
  q : Pq w A n f
  g : w.cell? ⟨G, 0, none⟩ = some (gv up)
  l : G < w.heap.size
  ne : G ≠ A
theorem Hm.step {w w' : World} {A n G : Nat} {up : Bool} {f : Nat → Int × Int} (h : Hm w A n G up f) (hb : Below w.heap.size w w') : Hm w' A n G up f :=
  ⟨h.q.step hb, (hb.cell (p := ⟨G, 0, none⟩) h.l).trans h.g, Nat.lt_of_lt_of_le h.l hb.size, h.ne⟩
set_option maxRecDepth 100000 in
set_option maxHeartbeats 2000000 in
theorem foremost_any (up : Bool) (A n G i : Nat) (f : Nat → Int × Int) (w : World) (h : Hm w A n G up f) (hi : 2 * i + 1 < n) (hn : n ≤ 1000000) :
    Calls Try.prog 38 #[.agg #[.slice (some ⟨A, 0, none⟩) n n, fv G], .int .i64 i] w fun e w' => ∃ c : Nat, e = .returned (.int .i64 c) ∧ Fm up n f i c ∧ Below w.heap.size w w' := by
  have B0 := below1 w (.cells #[.slice (some ⟨A, 0, none⟩) n n, fv G] 68)
  have S0 := Bk.new w #[.slice (some ⟨A, 0, none⟩) n n, fv G] 68
  have H1 := Lib.hid (h.step B0)
  clear h
  by_cases h2 : 2 * i + 2 < n
  · have l2 : (2 * (i : Int) + 2 < (n : Int)) := by omega
    have l1 : (2 * (i : Int) + 1 < (n : Int)) := by omega
    have m2 : ((0 : Int) ≤ 2 * (i : Int) + 2) := by omega
    have m1 : ((0 : Int) ≤ 2 * (i : Int) + 1) := by omega
    have t2 : (2 * (i : Int) + 2).toNat = 2 * i + 2 := by omega
    have t1 : (2 * (i : Int) + 1).toNat = 2 * i + 1 := by omega
    have HX : Hid (∀ wx, Below (w.heap.size + 1) (w.alloc (.cells #[.slice (some ⟨A, 0, none⟩) n n, fv G] 68)) wx → (wx.cell? ⟨w.heap.size, 0, none⟩ = some (.slice (some ⟨A, 0, none⟩) n n) ∧ wx.cell? ⟨w.heap.size, 1, none⟩ = some (fv G) ∧ wx.cell? ⟨A, (2 * i + 1) * 2, none⟩ = some (.int .i64 (f (2 * i + 1)).1) ∧ wx.cell? ⟨A, (2 * i + 1) * 2 + 1, none⟩ = some (.int .i64 (f (2 * i + 1)).2) ∧ wx.cell? ⟨A, (2 * i + 2) * 2, none⟩ = some (.int .i64 (f (2 * i + 2)).1) ∧ wx.cell? ⟨A, (2 * i + 2) * 2 + 1, none⟩ = some (.int .i64 (f (2 * i + 2)).2))) := fun wx hb => by
      have hb' : Below (w.alloc (.cells #[.slice (some ⟨A, 0, none⟩) n n, fv G] 68)).heap.size (w.alloc (.cells #[.slice (some ⟨A, 0, none⟩) n n, fv G] 68)) wx := hb.mono (by simp)
      have Hx := H1.out.step hb'
      have Sx := S0.step hb'
      exact ⟨Sx.c 0, Sx.c 1, (Hx.q.c _ (by omega)).1, (Hx.q.c _ (by omega)).2, (Hx.q.c _ (by omega)).1, (Hx.q.c _ (by omega)).2⟩
    have HA := Lib.hid (fun wx (hb : Below (w.heap.size + 1) (w.alloc (.cells #[.slice (some ⟨A, 0, none⟩) n n, fv G] 68)) wx) => ahead_any up (f (2 * i + 2)) (f (2 * i + 1)) G wx ((H1.out.step (hb.mono (by simp))).g) ((H1.out.step (hb.mono (by simp))).l))
    have hF : ∀ c : Nat, (c = if ahd up (f (2 * i + 2)) (f (2 * i + 1)) = true then 2 * i + 2 else 2 * i + 1) → Fm up n f i c := fun c hc => by
      split at hc
      · rename_i ht
        subst hc
        refine ⟨.inr rfl, h2, fun d hd _ => ?_⟩
        rcases hd with rfl | rfl
        · exact nb_of_ahd ht
        · exact nb.refl _ _
      · rename_i ht
        subst hc
        refine ⟨.inl rfl, hi, fun d hd _ => ?_⟩
        rcases hd with rfl | rfl
        · exact nb.refl _ _
        · exact eq_false_of_ne_true ht
    have HF := Lib.hid hF
    have b0 : Below (w.heap.size + 1) (w.alloc (.cells #[.slice (some ⟨A, 0, none⟩) n n, fv G] 68)) (w.alloc (.cells #[.slice (some ⟨A, 0, none⟩) n n, fv G] 68)).drew := (Below.refl _ _).drew
    have HA1 := Lib.hid (HA.out _ b0)
    clear hF S0 H1 HA
    go_enter Try.func38, Try.ntmps38
    go_wp2_with fail
    go_region_held3 (fun wx => (wx.cell? ⟨w.heap.size, 0, none⟩ = some (.slice (some ⟨A, 0, none⟩) n n) ∧ wx.cell? ⟨w.heap.size, 1, none⟩ = some (fv G) ∧ wx.cell? ⟨A, (2 * i + 1) * 2, none⟩ = some (.int .i64 (f (2 * i + 1)).1) ∧ wx.cell? ⟨A, (2 * i + 1) * 2 + 1, none⟩ = some (.int .i64 (f (2 * i + 1)).2) ∧ wx.cell? ⟨A, (2 * i + 2) * 2, none⟩ = some (.int .i64 (f (2 * i + 2)).1) ∧ wx.cell? ⟨A, (2 * i + 2) * 2 + 1, none⟩ = some (.int .i64 (f (2 * i + 2)).2))) (with_reducible exact HX.out _ (by with_reducible assumption)) ((go_at_call 33; refine HA1.out.mono ?_; rintro e w2 ⟨rfl, b2⟩; have K2 : Below (w.heap.size + 1) (w.alloc (.cells #[.slice (some ⟨A, 0, none⟩) n n, fv G] 68)) w2 := b0.trans (b2.mono (by simp)); clear b2))
    cases ha : ahd up (f (2 * i + 2)) (f (2 * i + 1)) with
    | true =>
      rw [ha] at HF
      go_wp2_with fail
      go_ret
      exact ⟨2 * i + 2, by simp, HF.out _ rfl, B0.trans (K2.mono (by simp))⟩
    | false =>
      rw [ha] at HF
      go_wp2_with fail
      go_ret
      exact ⟨2 * i + 1, by simp, HF.out _ rfl, B0.trans (K2.mono (by simp))⟩
  · have l2 : decide (2 * (i : Int) + 2 < (n : Int)) = false := decide_eq_false (by omega)
    have HF : Hid (Fm up n f i (2 * i + 1)) := ⟨.inl rfl, hi, fun d hd hd2 => by
      rcases hd with rfl | rfl
      · exact nb.refl _ _
      · exact absurd hd2 h2⟩
    clear H1 S0
    go_enter Try.func38, Try.ntmps38
    go_wp2_with fail
    go_quiet (fail)
    go_wp2_with fail
    go_ret
    exact ⟨2 * i + 1, by simp, HF.out, ⟨B0.os, B0.tape, B0.output, B0.size, B0.block⟩⟩
end Go.Proofs.Ytdgjhclncjoonaa
