/- The law BufferPuts in memory; the conditions: the state and the message in memory, the two tables of unicode/utf8. -/
import Derived.Test.YtikkedemhcdboaaDoorLawP
namespace Go.Proofs.YtikkedemhcdboaaDoor
open Go.RowKit Tp

theorem fi_yes {l : List Ms} {since a b now : Int} (h : fiB l since a b now = true) : 1 ≤ a ∧ a ≤ 1000 ∧ 0 ≤ b ∧ b ≤ 1000000 ∧ 0 ≤ now ∧ now ≤ 1099511627776 ∧ (l.length : Int) < a ∧ 0 ≤ since ∧ since ≤ 1099511627776 ∧ (l = [] → since = 0) ∧ ∀ x ∈ l, fmB x = true := by
  simp only [fiB, ftB, tkB, Bool.and_eq_true, decide_eq_true_eq, Bool.not_eq_true', decide_eq_false_iff_not, List.all_eq_true] at h
  obtain ⟨h1, h2, h3, h4, h5, h6, h7, ⟨h8, h9⟩, h10, h11⟩ := h
  refine ⟨h1, h2, h3, h4, h5, h6, by omega, h8, h9, fun e => ?_, h11⟩
  subst e
  simpa using h10
theorem fm_sm {x : Ms} (h : fmB x = true) : (Dt.pts x.n x.t).1 ≤ 4096 := by
  simp only [fmB, Bool.and_eq_true] at h
  exact (valid_pts h.1).2

theorem law_puts (l : List Ms) (ad : Option Addr) (c : Nat) (since a now : Int) (x : Ms) (d : Bo) (w : World) (hl : l.length ≤ 9223372036854775807) (hI : Mw w ad l) (hx : Dt.Rep w x.n d.vs x.t) (hz : Sz (x :: l)) (hT : Tabs w) :
    Calls Tryd.prog 3 #[.agg #[.slice ad l.length c, .int .i64 since], .int .i64 a, .int .i64 now, .agg (x.cs d)] w fun e w' => e = .returned (.bool true) ∧ Below w.heap.size w w' := by
  have hF : ∀ wx, Below w.heap.size w wx → Calls Tryd.prog 6 #[.agg #[.slice ad l.length c, .int .i64 since], .int .i64 a, .int .i64 0, .int .i64 now] wx fun e w' => e = .returned (.bool (fiB l since a 0 now)) ∧ Below wx.heap.size wx w' := fun wx hb => fit_any l ad c since a 0 now wx hl (Mw.below hI hb) (fun y hy => hz y (List.mem_cons_of_mem _ hy)) (hT.below hb)
  have hX : ∀ wx, Below w.heap.size w wx → Calls Tryd.prog 7 #[.agg (x.cs d)] wx fun e w' => e = .returned (.bool (fmB x)) ∧ Below wx.heap.size wx w' := fun wx hb => fmsg_any x d wx (Dt.Rep.below hb _ _ _ hx) (hT.below hb) (hz x (List.mem_cons_self ..)).1 (hz x (List.mem_cons_self ..)).2
  by_cases hno : fiB l since a 0 now = false ∨ fmB x = false
  · exact bp_bad l ad c since a now x d w _ _ hno hF hX
  have h1 : fiB l since a 0 now = true := by cases h : fiB l since a 0 now with
    | true => rfl
    | false => exact absurd (.inl h) hno
  have h2 : fmB x = true := by cases h : fmB x with
    | true => rfl
    | false => exact absurd (.inr h) hno
  rw [h1] at hF
  rw [h2] at hX
  obtain ⟨ha1, ha2, -, -, -, -, hla, hs1, hs2, -, hall⟩ := fi_yes h1
  have hsm : Sm (l ++ [x]) := fun y hy => by
    rcases List.mem_append.1 hy with hy | hy
    · exact fm_sm (hall y hy)
    · simp at hy; subst hy; exact fm_sm h2
  have hl1 : l.length + 1 ≤ 1000 := by omega
  have hC : ∀ wx, Below w.heap.size w wx → Calls Tryd.prog 9 #[.slice ad l.length c] wx (CzP wx l) := fun wx hb => rcopy_sl l ad c wx (by omega) (Mw.below hI hb) (fun y hy => hsm y (List.mem_append_left _ hy))
  have hM : ∀ wx, Below w.heap.size w wx → Calls Tryd.prog 11 #[.agg (x.cs d)] wx fun e w' => ∃ d' : Bo, e = .returned (.agg (x.cs d')) ∧ Rz (fun g => wx.heap.size ≤ g ∧ g < w'.heap.size) w' x.n d'.vs x.t ∧ Below wx.heap.size wx w' := fun wx hb => cmsg_any x d wx (Dt.Rep.below hb _ _ _ hx) (fm_sm h2)
  have hP : ∀ wx a0 c0 d', Mw wx a0 l → Dt.Rep wx x.n (Bo.vs d') x.t → Calls Tryd.prog 10 #[.agg #[.slice a0 l.length c0, .int .i64 since], .int .i64 a, .int .i64 now, .agg (x.cs d')] wx (PutP wx l x since a now) := fun wx a0 c0 d' hm hr => put_any l x d' a0 c0 since a now wx hl1 hm hr hsm
  have hR : ∀ wx, Below w.heap.size w wx → Calls Tryd.prog 12 #[.agg #[.slice ad l.length c, .int .i64 since], .int .i64 a, .int .i64 now, .agg (x.cs d)] wx (RPutP wx l x since a now) := fun wx hb => rput_any l x d ad c since a now wx hl1 (Mw.below hI hb) (Dt.Rep.below hb _ _ _ hx) hsm
  by_cases he : (l.length : Int) + 1 = a
  · exact bp_good l ad c since a now x d w [] 0 (l ++ [x]) (.inl rfl) (by simp) (by simp; omega) (by omega) hI hF hX hC hM (fun wx a0 c0 d' hm hr => (hP wx a0 c0 d' hm hr).mono fun e w' h => h.1 (by omega)) (fun wx hb => (hR wx hb).mono fun e w' h => h.1 he)
  · by_cases h0 : l = []
    · exact bp_good l ad c since a now x d w [x] now [] (.inr rfl) (by simp) (by simp) (by omega) hI hF hX hC hM (fun wx a0 c0 d' hm hr => (hP wx a0 c0 d' hm hr).mono fun e w' h => (h.2 (by omega)).1 h0) (fun wx hb => (hR wx hb).mono fun e w' h => (h.2 he).1 h0)
    · exact bp_good l ad c since a now x d w (l ++ [x]) since [] (.inr rfl) (by simp; omega) (by simp) (by omega) hI hF hX hC hM (fun wx a0 c0 d' hm hr => (hP wx a0 c0 d' hm hr).mono fun e w' h => (h.2 (by omega)).2 h0) (fun wx hb => (hR wx hb).mono fun e w' h => (h.2 he).2 h0)
end Go.Proofs.YtikkedemhcdboaaDoor
