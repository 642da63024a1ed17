/- Messages written over; the conditions: a row in memory that may be written. -/
import Derived.Test.YtikkedemhcdboaaDoorBa
namespace Go.Proofs.YtikkedemhcdboaaDoor
open Go.RowKit

theorem cell_set {w : World} {p : Addr} {x : Value} (h : w.cell? p = some x) (a : Addr) (v : Value) : ∃ y, (w.setCell a v).cell? p = some y := by
  by_cases e : a = p
  · subst e; exact ⟨v, World.cell?_setCell_same _ _ _ h⟩
  · exact ⟨x, by rw [World.cell?_setCell_other _ _ _ _ e]; exact h⟩
/-- A row of n messages from L on that may be written, its lists too. -/
structure Sp (L H b n : Nat) (w : World) : Prop where
  lo : L ≤ b
  hi : b < H
  f : ∀ q, w.frozen? ⟨b, q, none⟩ = false
  t : ∀ j, j < n → ∃ v, w.cell? ⟨b, j * 13 + 1, none⟩ = some v
  k : ∀ j, j < n → ∃ ad len cap, w.cell? ⟨b, j * 13 + 6, none⟩ = some (.slice ad len cap) ∧ len ≤ maxLen ∧ (len = 0 ∨ ∃ g o, ad = some ⟨g, o, none⟩ ∧ L ≤ g ∧ g < H ∧ g ≠ b ∧ (∀ q, w.frozen? ⟨g, q, none⟩ = false) ∧ ∀ k, k < len → ∃ v, w.cell? ⟨g, o + k * 5, none⟩ = some v)
theorem rf_list {F : Nat → Prop} {w : World} {n : Nat} {t : Dt.Tr n} {d : Bo} (r : Dt.Rf F w n d.vs t) : d.l ≤ maxLen ∧ (d.l = 0 ∨ ∃ g o, d.a = some ⟨g, o, none⟩ ∧ F g ∧ (∀ q, w.frozen? ⟨g, q, none⟩ = false) ∧ ∀ k, k < d.l → ∃ v, w.cell? ⟨g, o + k * 5, none⟩ = some v) := by
  match n, t, r with
  | n + 1, t, r =>
    obtain ⟨ad, cap, e1, e2, e3, e4, e5⟩ := r
    simp only [List.cons.injEq, Value.slice.injEq, and_true] at e1
    obtain ⟨-, -, -, -, ea, el, ec⟩ := e1
    rw [ea, el]
    refine ⟨by omega, ?_⟩
    rcases e5 with e5 | ⟨g, o, e6, ⟨hg, hgf⟩, e7⟩
    · exact .inl (by rw [e5]; rfl)
    · refine .inr ⟨g, o, e6, hg, hgf, fun k hk => ?_⟩
      obtain ⟨v0, _, _, _, _, a0, _⟩ := e7 k _ (List.getElem?_eq_getElem hk)
      exact ⟨v0, a0⟩
theorem Sp.of {L H : Nat} {w : World} {b : Nat} {l : List Ms} (h : ∀ j x, l[j]? = some x → ∃ d : Bo, C13 w b (j * 13) x d ∧ Dt.Rf (fun g => (L ≤ g ∧ g < H) ∧ g ≠ b) w x.n d.vs x.t) (h1 : L ≤ b) (h2 : b < H) (hf : ∀ q, w.frozen? ⟨b, q, none⟩ = false) : Sp L H b l.length w := by
  refine ⟨h1, h2, hf, fun j hj => ?_, fun j hj => ?_⟩
  · obtain ⟨d, c, -⟩ := h j _ (List.getElem?_eq_getElem hj)
    exact ⟨_, c.2.1⟩
  · obtain ⟨d, c, r⟩ := h j _ (List.getElem?_eq_getElem hj)
    obtain ⟨h1, h2⟩ := rf_list r
    refine ⟨_, _, _, c.2.2.2.2.2.2.1, h1, ?_⟩
    rcases h2 with h2 | ⟨g, o, e, hg, hf, hc⟩
    · exact .inl h2
    · exact .inr ⟨g, o, e, hg.1.1, hg.1.2, hg.2, hf, hc⟩
theorem Sp.setL {L H b n : Nat} {w : World} (h : Sp L H b n w) (g o : Nat) (v : Value) (hg : g ≠ b) : Sp L H b n (w.setCell ⟨g, o, none⟩ v) := by
  have keep : ∀ q, (w.setCell ⟨g, o, none⟩ v).cell? ⟨b, q, none⟩ = w.cell? ⟨b, q, none⟩ := fun q => World.cell?_setCell_other _ _ _ _ (by simp only [ne_eq, Addr.mk.injEq]; omega)
  refine ⟨h.lo, h.hi, fun q => by simpa using h.f q, fun j hj => by rw [keep]; exact h.t j hj, fun j hj => ?_⟩
  obtain ⟨ad, len, cap, k1, k2, k3⟩ := h.k j hj
  refine ⟨ad, len, cap, by rw [keep]; exact k1, k2, ?_⟩
  rcases k3 with k3 | ⟨g', o', e1, e2, e3, e4, e5, e6⟩
  · exact .inl k3
  · refine .inr ⟨g', o', e1, e2, e3, e4, fun q => by simpa using e5 q, fun k hk => ?_⟩
    obtain ⟨y, hy⟩ := e6 k hk
    exact cell_set hy _ _
theorem Sp.setT {L H b n : Nat} {w : World} (h : Sp L H b n w) (j : Nat) (v : Value) : Sp L H b n (w.setCell ⟨b, j * 13 + 1, none⟩ v) := by
  refine ⟨h.lo, h.hi, fun q => by simpa using h.f q, fun j' hj' => ?_, fun j' hj' => ?_⟩
  · obtain ⟨y, hy⟩ := h.t j' hj'
    exact cell_set hy _ _
  · obtain ⟨ad, len, cap, k1, k2, k3⟩ := h.k j' hj'
    refine ⟨ad, len, cap, by rw [World.cell?_setCell_other _ _ _ _ (by simp only [ne_eq, Addr.mk.injEq]; omega)]; exact k1, k2, ?_⟩
    rcases k3 with k3 | ⟨g', o', e1, e2, e3, e4, e5, e6⟩
    · exact .inl k3
    · refine .inr ⟨g', o', e1, e2, e3, e4, fun q => by simpa using e5 q, fun k hk => ?_⟩
      obtain ⟨y, hy⟩ := e6 k hk
      exact cell_set hy _ _
/-- All but the blocks from L to H is as it was. -/
structure Bw (L H : Nat) (w w' : World) : Prop where
  size : w'.heap.size = w.heap.size
  block : ∀ q, (q < L ∨ H ≤ q) → w'.heap[q]? = w.heap[q]?
  b : Below L w w'
theorem Bw.refl (L H : Nat) (w : World) : Bw L H w w := ⟨rfl, fun _ _ => rfl, Below.refl _ _⟩
theorem Bw.set {L H : Nat} {w w' : World} (h : Bw L H w w') (g o : Nat) (v : Value) (h1 : L ≤ g) (h2 : g < H) : Bw L H w (w'.setCell ⟨g, o, none⟩ v) :=
  ⟨by simp [h.size], fun q hq => (Below.heap_setCell _ _ _ q (by show q ≠ g; omega)).trans (h.block q hq), h.b.setCell h1 v⟩

set_option maxRecDepth 100000 in
set_option maxHeartbeats 2000000 in
theorem spoil_some (L H b n c : Nat) (w : World) (hn : n ≤ 1000000) (h : Sp L H b n w) :
    Calls Tryd.prog 15 #[.slice (some ⟨b, 0, none⟩) n c] w fun e w' => (∃ v, e = .returned v) ∧ Bw L H w w' := by
  have HS := Lib.hid h
  clear h
  go_enter Tryd.func15, Tryd.ntmps15
  go_wp2_with fail
  go_loopw [2] (fun si wr => ∃ (j : Nat), si = .int .i64 j ∧ j ≤ n ∧ Sp L H b n wr ∧ Bw L H w wr) (fun si _ => n - (intOf si).toNat)
  case atStart => exact ⟨0, rfl, Nat.zero_le _, HS.out, Bw.refl _ _ _⟩
  case round =>
    obtain ⟨j, rfl, hj, sp, bw⟩ := hrel
    by_cases hlt : j < n
    · have j0 : (0 : Int) ≤ (j : Int) := by omega
      have j1 : (j : Int) < (n : Int) := by omega
      obtain ⟨ad, len, cap, k1, k2, k3⟩ := sp.k j hlt
      have hlen : len ≤ 9223372036854775807 := by unfold maxLen at k2; omega
      have SP := Lib.hid sp
      have BW := Lib.hid bw
      have K3 := Lib.hid k3
      clear HS k3 sp bw
      go_wp2_with fail
      go_loopw [3] (fun sk wq => ∃ (k : Nat), sk = .int .i64 k ∧ k ≤ len ∧ wq.cell? ⟨b, j * 13 + 6, none⟩ = some (.slice ad len cap) ∧ Sp L H b n wq ∧ Bw L H w wq) (fun sk _ => len - (intOf sk).toNat)
      case atStart => exact ⟨0, rfl, Nat.zero_le _, k1, SP.out, BW.out⟩
      case round =>
        obtain ⟨k, rfl, hk, kc, sp, bw⟩ := hrel
        by_cases hkt : k < len
        · rcases K3.out with k3 | ⟨g, o, rfl, g1, g2, g3, g4, g5⟩
          · omega
          obtain ⟨ad', len', cap', q1, q2, q3⟩ := sp.k j hlt
          rw [kc] at q1
          simp only [Option.some.injEq, Value.slice.injEq] at q1
          obtain ⟨rfl, rfl, rfl⟩ := q1
          rcases q3 with q3 | ⟨g', o', e1, e2, e3, e4, e5, e6⟩
          · omega
          cases e1
          obtain ⟨y, hy⟩ := e6 k hkt
          have k0 : (0 : Int) ≤ (k : Int) := by omega
          have kk1 : (k : Int) < (len : Int) := by omega
          have hkk := Lib.hid (show (wr.setCell ⟨g, o + k * 5, none⟩ (.int .i64 77)).cell? ⟨b, j * 13 + 6, none⟩ = some (.slice (some ⟨g, o, none⟩) len cap) by rw [World.cell?_setCell_other _ _ _ _ (by simp only [ne_eq, Addr.mk.injEq]; omega)]; exact kc)
          have SP2 := Lib.hid (sp.setL g (o + k * 5) (.int .i64 77) g3)
          have BW2 := Lib.hid (bw.set g (o + k * 5) (.int .i64 77) g1 g2)
          clear sp bw SP BW K3 e6 g4 g5 k1
          go_wp2_with fail
          exact ⟨⟨k + 1, by go_num, by omega, hkk.out, SP2.out, BW2.out⟩, by simp [intOf]; omega⟩
        · have hke : k = len := by omega
          subst hke
          obtain ⟨y, hy⟩ := sp.t j hlt
          have hf := sp.f
          have SP2 := Lib.hid (sp.setT j (.string ⟨#[115, 112, 111, 105, 108, 116]⟩))
          have BW2 := Lib.hid (bw.set b (j * 13 + 1) (.string ⟨#[115, 112, 111, 105, 108, 116]⟩) sp.lo sp.hi)
          clear sp bw SP BW K3 k1
          go_wp2_with fail
          exact ⟨⟨j + 1, by go_num, by omega, SP2.out, BW2.out⟩, by simp [intOf]; omega⟩
    · go_wp2_with fail
      go_end0
      exact ⟨⟨_, rfl⟩, bw⟩

theorem spoil_none (a : Option Addr) (c : Nat) (L H : Nat) (w : World) : Calls Tryd.prog 15 #[.slice a 0 c] w fun e w' => (∃ v, e = .returned v) ∧ Bw L H w w' := by
  go_enter Tryd.func15, Tryd.ntmps15
  go_wp2_with fail
  go_loopw [2] (fun si wr => si = .int .i64 0 ∧ wr = w) (fun _ _ => 0)
  case atStart => exact ⟨rfl, rfl⟩
  case round =>
    obtain ⟨rfl, rfl⟩ := hrel
    go_wp2_with fail
    go_end0
    exact ⟨⟨_, rfl⟩, Bw.refl _ _ _⟩
/-- Whatever row of messages in new memory. -/
theorem spoil_any (L H : Nat) (l : List Ms) (a : Option Addr) (c : Nat) (w : World) (hn : l.length ≤ 1000000) (h : Mf (fun g => L ≤ g ∧ g < H) w a l) :
    Calls Tryd.prog 15 #[.slice a l.length c] w fun e w' => (∃ v, e = .returned v) ∧ Bw L H w w' := by
  rcases h with rfl | ⟨b, rfl, hb, hf, hk⟩
  · exact spoil_none a c L H w
  · exact spoil_some L H b l.length c w hn (Sp.of hk hb.1 hb.2 hf)
end Go.Proofs.YtikkedemhcdboaaDoor
