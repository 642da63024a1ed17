/- The document's own answer: the token that begins at a place: a text; what is asked: the bytes lie in memory, at most 65536. -/
import Derived.Test.YtbkakdmkabhcnaaDoorRg
namespace Go.Proofs.YtbkakdmkabhcnaaDoor
open Go.RowKit Go.Maps

/-- What one leaves: the token, or the number of the fault beside some token. -/
def RO (w : World) (p : Nat) (O : One) (e : Ending) (w' : World) : Prop := Below w.heap.size w w' ∧ match O with
  | .inl k => ∃ (A B C D : Int) (S : ByteArray), e = .returned (.tuple #[.agg #[.int .i64 A, .int .i64 B, .int .i64 C, .int .u64 D, .string S], .int .i64 k])
  | .inr (_, _, _, _) => e = .returned (oneV p O)

theorem t5_two (w : World) (p : Nat) (W : World) (h : Below ((tz w).alloc (.cells #[.int .i64 0, .int .i64 p, .int .i64 0, .int .u64 0, .string ⟨#[]⟩] 33)).heap.size ((tz w).alloc (.cells #[.int .i64 0, .int .i64 p, .int .i64 0, .int .u64 0, .string ⟨#[]⟩] 33)) W) :
    (W.cell? ⟨w.heap.size, 0, none⟩ = some (.int .i64 0) ∧ W.cell? ⟨w.heap.size, 1, none⟩ = some (.int .i64 0) ∧ W.cell? ⟨w.heap.size, 2, none⟩ = some (.int .i64 0) ∧ W.cell? ⟨w.heap.size, 3, none⟩ = some (.int .u64 0) ∧ W.cell? ⟨w.heap.size, 4, none⟩ = some (.string ⟨#[]⟩)) ∧
    (W.cell? ⟨w.heap.size + 1, 0, none⟩ = some (.int .i64 0) ∧ W.cell? ⟨w.heap.size + 1, 1, none⟩ = some (.int .i64 p) ∧ W.cell? ⟨w.heap.size + 1, 2, none⟩ = some (.int .i64 0) ∧ W.cell? ⟨w.heap.size + 1, 3, none⟩ = some (.int .u64 0) ∧ W.cell? ⟨w.heap.size + 1, 4, none⟩ = some (.string ⟨#[]⟩)) ∧
    (∀ o, W.frozen? ⟨w.heap.size, o, none⟩ = false) ∧ (∀ o, W.frozen? ⟨w.heap.size + 1, o, none⟩ = false) := by
  have e : (tz w).heap.size = w.heap.size + 1 := by simp
  have h2 : T5 ((tz w).alloc (.cells #[.int .i64 0, .int .i64 p, .int .i64 0, .int .u64 0, .string ⟨#[]⟩] 33)) (w.heap.size + 1) (.int .i64 0) (.int .i64 p) (.int .i64 0) (.int .u64 0) (.string ⟨#[]⟩) := by rw [← e]; exact heap_alloc_new (tz w) _
  have h1 : T5 ((tz w).alloc (.cells #[.int .i64 0, .int .i64 p, .int .i64 0, .int .u64 0, .string ⟨#[]⟩] 33)) w.heap.size (.int .i64 0) (.int .i64 0) (.int .i64 0) (.int .u64 0) (.string ⟨#[]⟩) := (T5.new w).below (below1 (tz w) _) (by simp)
  have g1 := h1.below h (by simp; omega)
  have g2 := h2.below h (by simp)
  exact ⟨g1.c, g2.c, fun o => g1.f, fun o => g2.f⟩

set_option maxRecDepth 100000 in
set_option maxHeartbeats 1200000 in
theorem rone_text (b o c p : Nat) (l t : Bs) (x : UInt8) (w : World) (hl : Byt w b o l) (hb : b < w.heap.size) (hp : p < l.length) (hs : l.length ≤ 65536) (hc : l.length ≤ c) (hd : l.drop p = x :: t) (hx : x.toNat = 34) :
    Calls Tryd.prog 10 #[.slice (some ⟨b, o, none⟩) l.length c, .int .i64 p] w (RO w p (txtT t)) := by
  have c1 := hl p hp
  have hx0 : l[p] = x := by have := drop_cons_of hp; rw [hd] at this; exact (List.cons.inj this).1.symm
  have ht0 : l.drop (p + 1) = t := by have := drop_cons_of hp; rw [hd] at this; exact (List.cons.inj this).2.symm
  rw [hx0] at c1
  have KL := Lib.hid (letter_any x)
  have KG := Lib.hid (rdigit_any x)
  have e1 : ltr x = false := by simp [ltr, hx]
  have e2 : dig x = false := by simp [dig, hx]
  rw [e1] at KL
  rw [e2] at KG
  have q1 : ((x.toNat : Int) == 34) = true := by simp [hx]
  have KQ : Hid (∀ W, Below w.heap.size w W → Calls Tryd.prog 26 #[.slice (some ⟨b, o, none⟩) l.length c, .int .i64 p] W (RQ W p (txt t))) := fun W h => ht0 ▸ rquoted_any b o c p l W (hl.below h hb) (Nat.lt_of_lt_of_le hb h.size) hp (by omega) hc
  unfold RQ at KQ
  clear hx0
  generalize l.length = n at hp hs hc KQ ⊢
  have hp' : ((p : Nat) : Int) < n := by omega
  clear hl hd hx ht0 e1 e2
  have B0 := Lib.hid (((Below.refl w.heap.size w).alloc (Nat.le_refl _) (.cells #[.int .i64 0, .int .i64 0, .int .i64 0, .int .u64 0, .string ⟨#[]⟩] 33)).alloc (by simp) (.cells #[.int .i64 0, .int .i64 p, .int .i64 0, .int .u64 0, .string ⟨#[]⟩] 33))
  have K1 := Lib.hid (KQ.out _ B0.out)
  have HL := Lib.hid (fun W h => t5_two w p W h)
  clear KQ
  cases hT : txt t with
  | none =>
    rw [hT] at K1
    have HX : Hid (txtT t = .inl 65) := by show txtT t = _; rw [txtT, hT]
    go_enter Tryd.func10, Tryd.ntmps10
    go_wp2_with (first
      | (go_at_call 23; refine (KL.out _).mono ?_; rintro e w2 ⟨rfl, h2⟩; have h2' := h2.symm; subst h2')
      | (go_at_call 24; refine (KG.out _).mono ?_; rintro e w3 ⟨rfl, h3⟩; have h3' := h3.symm; subst h3')
      | (go_at_call 26; refine K1.out.mono ?_; rintro e w4 ⟨rfl, b4⟩; obtain ⟨⟨c0, c1, c2, c3, c4⟩, ⟨d0, d1, d2, d3, d4⟩, fz, gz⟩ := HL.out w4 b4))
    have B := B0.out.trans (b4.mono (by simp; omega))
    refine bodyPost_ret (v := .tuple #[.agg #[.int .i64 0, .int .i64 p, .int .i64 0, .int .u64 0, .string ⟨#[]⟩], .int .i64 65]) (by simp [results, Tryd.results10, go_sem, World.cell?_setCell_same, World.cell?_setCell_other, c0, c1, c2, c3, c4]) rfl ?_
    rw [HX.out]
    exact ⟨(((((B.setCell (Nat.le_refl _) _).setCell (Nat.le_refl _) _).setCell (Nat.le_refl _) _).setCell (Nat.le_refl _) _).setCell (Nat.le_refl _) _), _, _, _, _, _, rfl⟩
  | some q =>
    rw [hT] at K1
    have HX : Hid (txtT t = .inr (3, (q.2 + 1), 0, q.1)) := by show txtT t = _; rw [txtT, hT]
    obtain ⟨m, hm⟩ : ∃ m : Nat, p + 1 + q.2 = m := ⟨_, rfl⟩
    have HM := Lib.hid hm
    have K2 : Hid (Calls Tryd.prog 26 #[.slice (some ⟨b, o, none⟩) n c, .int .i64 p] ((tz w).alloc (.cells #[.int .i64 0, .int .i64 p, .int .i64 0, .int .u64 0, .string ⟨#[]⟩] 33)) fun e w' => e = .returned (.tuple #[.string (bs q.1), .int .i64 m]) ∧ Below ((tz w).alloc (.cells #[.int .i64 0, .int .i64 p, .int .i64 0, .int .u64 0, .string ⟨#[]⟩] 33)).heap.size ((tz w).alloc (.cells #[.int .i64 0, .int .i64 p, .int .i64 0, .int .u64 0, .string ⟨#[]⟩] 33)) w') := hm ▸ K1.out
    clear K1 hm hT
    have h0m : (0 : Int) ≤ (m : Int) := by omega
    have h0n : ¬ (m : Int) < 0 := by omega
    go_enter Tryd.func10, Tryd.ntmps10
    go_wp2_with (first
      | (go_at_call 23; refine (KL.out _).mono ?_; rintro e w2 ⟨rfl, h2⟩; have h2' := h2.symm; subst h2')
      | (go_at_call 24; refine (KG.out _).mono ?_; rintro e w3 ⟨rfl, h3⟩; have h3' := h3.symm; subst h3')
      | (go_at_call 26; refine K2.out.mono ?_; rintro e w4 ⟨rfl, b4⟩; obtain ⟨⟨c0, c1, c2, c3, c4⟩, ⟨d0, d1, d2, d3, d4⟩, fz, gz⟩ := HL.out w4 b4))
    have B := B0.out.trans (b4.mono (by simp; omega))
    refine bodyPost_ret (v := .tuple #[.agg #[.int .i64 3, .int .i64 p, .int .i64 m, .int .u64 0, .string (bs q.1)], .int .i64 0]) (by simp [results, Tryd.results10, go_sem, World.cell?_setCell_same, World.cell?_setCell_other, c0, c1, c2, c3, c4]) rfl ?_
    rw [HX.out, ← HM.out, show p + 1 + q.2 = p + (q.2 + 1) by omega]
    exact ⟨((((((((B.setCell (Nat.le_succ _) _).setCell (Nat.le_succ _) _).setCell (Nat.le_succ _) _).setCell (Nat.le_refl _) _).setCell (Nat.le_refl _) _).setCell (Nat.le_refl _) _).setCell (Nat.le_refl _) _).setCell (Nat.le_refl _) _), rfl⟩
end Go.Proofs.YtbkakdmkabhcnaaDoor
