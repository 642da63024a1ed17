/- The package's Plain of any value that it made of a valid tree: the plain data of the same tree, in new memory; the conditions: the value in memory, its tree valid. -/
import Derived.Test.YtajagjcfmaggiaaGreatDoorKCbf
namespace Go.Proofs.YtajagjcfmaggiaaGreatDoor.Dt
open Go.RowKit
theorem ok_all {k i u : Int} {sz len : Nat} (h : okB k i u sz len = true) : (k = 6 → i = 0 ∨ i = 1) ∧ (k = 9 → len = 2) ∧ (k = 11 → len = 1) ∧ (k ≠ 1 → k ≠ 2 → k ≠ 6 → k ≠ 10 → k ≠ 11 → i = 0) ∧ (k ≠ 4 → k ≠ 5 → k ≠ 7 → k ≠ 10 → sz = 0) ∧ (k ≠ 3 → u = 0) ∧ (k ≠ 8 → k ≠ 9 → k ≠ 11 → len = 0) ∧ sz ≤ 65535 ∧ 0 ≤ k ∧ k ≤ 13 := by
  unfold okB at h
  repeat' split at h
  all_goals (try simp only [decide_eq_true_eq] at h)
  all_goals (first | omega | cases h)
theorem empty_of {s : ByteArray} (h : s.size = 0) : s = ⟨#[]⟩ := by
  cases s with
  | mk d =>
    have : d.size = 0 := h
    rw [Array.eq_empty_of_size_eq_zero this]
theorem Rf.leaf {F : Nat → Prop} {w : World} {n : Nat} {t : Tr (n + 1)} (h : t.ks = []) (hs : t.tx.size ≤ 65535) : Rf F w (n + 1) [.int .i64 t.kd, .int .i64 t.it, .int .u64 t.ut, .string t.tx, .slice none 0 0] t :=
  ⟨none, 0, by simp [h], by unfold maxLen; omega, by simp [h], by unfold maxLen; omega, .inl h⟩
theorem cell_q {w w' : World} {g o : Nat} {x : Value} (h : w'.heap[g]? = w.heap[g]?) (hx : w.cell? ⟨g, o, none⟩ = some x) : w'.cell? ⟨g, o, none⟩ = some x := (cell_heap h).trans hx

/-- The list that a value's data have is no part of what must not be written. -/
theorem frozen_q {w w' : World} {g q : Nat} (h : w'.heap[g]? = w.heap[g]?) (hx : w.frozen? ⟨g, q, none⟩ = false) : w'.frozen? ⟨g, q, none⟩ = false := by
  rw [show w'.frozen? ⟨g, q, none⟩ = w.frozen? ⟨g, q, none⟩ by simp [World.frozen?, h]]; exact hx
set_option maxRecDepth 100000 in
set_option maxHeartbeats 4000000 in
theorem plain_step (F0 : Nat → Prop) (W0 : World) (n : Nat) (ih : PlOf F0 W0 n) (t : Tr (n + 1)) (v : Value) (w : World) (hrg : rgt (n + 1) t = true) (h64 : r64 (n + 1) t) (hps : (pts (n + 1) t).1 ≤ 4096) (hv : VR F0 W0 (n + 1) v t) (hb0 : Below W0.heap.size W0 w) :
    Calls Tryz.prog 82 #[v] w fun e w' => ∃ v0 v1 v2 v3 v4, e = .returned (.agg #[v0, v1, v2, v3, v4]) ∧ Rf (fun g => w.heap.size ≤ g ∧ g < w'.heap.size) w' (n + 1) [v0, v1, v2, v3, v4] t ∧ (∀ g o l c, v4 = .slice (some ⟨g, o, none⟩) l c → ∀ q, w'.frozen? ⟨g, q, none⟩ = false) ∧ Below w.heap.size w w' := by
  obtain ⟨hp1, hp2⟩ := pts_kids hps
  simp only [rgt, Bool.and_eq_true] at hrg
  obtain ⟨hok, hall⟩ := hrg
  obtain ⟨o6, o9, o11, oi, os, ou, ol, oz, -, -⟩ := ok_all hok
  obtain ⟨⟨hu0, -⟩, h6k⟩ := h64
  have b1 : Below w.heap.size w (zD w) := below1 w _
  have hs1 : (zD w).heap.size = w.heap.size + 1 := by simp [zD]
  have hbz : Below W0.heap.size W0 (zD w) := hb0.trans (b1.mono hb0.size)
  have fin : ∀ (e : Ending) (w' : World), e = .returned (.agg #[.int .i64 t.kd, .int .i64 t.it, .int .u64 t.ut, .string t.tx, .slice none 0 0]) → t.ks = [] → Below w.heap.size w w' → ∃ v0 v1 v2 v3 v4, e = .returned (.agg #[v0, v1, v2, v3, v4]) ∧ Rf (fun g => w.heap.size ≤ g ∧ g < w'.heap.size) w' (n + 1) [v0, v1, v2, v3, v4] t ∧ (∀ g o l c, v4 = .slice (some ⟨g, o, none⟩) l c → ∀ q, w'.frozen? ⟨g, q, none⟩ = false) ∧ Below w.heap.size w w' := fun e w' he hk hb => ⟨_, _, _, _, _, he, Rf.leaf hk oz, (fun g o l c h => by cases h), hb⟩
  have nk : t.kd ≠ 8 → t.kd ≠ 9 → t.kd ≠ 11 → t.ks = [] := fun a b c => List.length_eq_zero_iff.1 (ol a b c)
  have nt : t.kd ≠ 4 → t.kd ≠ 5 → t.kd ≠ 7 → t.kd ≠ 10 → t.tx = ⟨#[]⟩ := fun a b c d => empty_of (os a b c d)
  simp only [VR] at hv
  rcases hv with ⟨k, rfl⟩ | ⟨k, rfl⟩ | ⟨k, rfl⟩ | ⟨k, rfl⟩ | ⟨k, rfl⟩ | ⟨k, rfl⟩ | ⟨k, rfl⟩ | ⟨k, g, c, cs, fr, rfl, e2, e3, rfl⟩ | ⟨k, a, c, rfl, e2⟩ | ⟨k, x, y, t0, t1, rfl, e2, e3, e4⟩ | ⟨k, rfl⟩ | ⟨k, b, u, t0, rfl, e2, e3, e4, e5⟩ | ⟨k, rfl⟩ | ⟨k, rfl⟩
  · exact (pl0 w).mono fun e w' ⟨he, hb⟩ => fin e w' (he.trans (by rw [k, oi (by omega) (by omega) (by omega) (by omega) (by omega), ou (by omega), nt (by omega) (by omega) (by omega) (by omega)])) (nk (by omega) (by omega) (by omega)) hb
  · exact (pl1 t.it w).mono fun e w' ⟨he, hb⟩ => fin e w' (he.trans (by rw [k, ou (by omega), nt (by omega) (by omega) (by omega) (by omega)])) (nk (by omega) (by omega) (by omega)) hb
  · exact (pl2 t.it w).mono fun e w' ⟨he, hb⟩ => fin e w' (he.trans (by rw [k, ou (by omega), nt (by omega) (by omega) (by omega) (by omega)])) (nk (by omega) (by omega) (by omega)) hb
  · exact (pl3 t.ut.toNat w).mono fun e w' ⟨he, hb⟩ => fin e w' (he.trans (by rw [k, oi (by omega) (by omega) (by omega) (by omega) (by omega), nt (by omega) (by omega) (by omega) (by omega), Int.toNat_of_nonneg hu0])) (nk (by omega) (by omega) (by omega)) hb
  · exact (pl4 t.tx w).mono fun e w' ⟨he, hb⟩ => fin e w' (he.trans (by rw [k, oi (by omega) (by omega) (by omega) (by omega) (by omega), ou (by omega)])) (nk (by omega) (by omega) (by omega)) hb
  · exact (pl5 t.tx w).mono fun e w' ⟨he, hb⟩ => fin e w' (he.trans (by rw [k, oi (by omega) (by omega) (by omega) (by omega) (by omega), ou (by omega)])) (nk (by omega) (by omega) (by omega)) hb
  · refine (pl6 (t.it != 0) w).mono fun e w' ⟨he, hb⟩ => fin e w' (he.trans ?_) (nk (by omega) (by omega) (by omega)) hb
    rw [k, ou (by omega), nt (by omega) (by omega) (by omega) (by omega)]
    rcases o6 k with h | h <;> simp [h]
  · have hl : g < W0.heap.size := (Array.getElem?_eq_some_iff.1 e3).1
    exact (pl7 t.tx g c fr w ((hb0.block g hl).trans e3)).mono fun e w' ⟨he, hb⟩ => fin e w' (he.trans (by rw [k, oi (by omega) (by omega) (by omega) (by omega) (by omega), ou (by omega)])) (nk (by omega) (by omega) (by omega)) hb
  · refine (pl8 a t.ks.length c w (fun v w' => ∃ g c', v = .slice (some ⟨g, 0, none⟩) t.ks.length c' ∧ t.ks.length ≤ c' ∧ c' ≤ maxLen ∧ w.heap.size < g ∧ g < w'.heap.size ∧ (∀ q, w'.frozen? ⟨g, q, none⟩ = false) ∧ ∀ (j : Nat) (t' : Tr n), t.ks[j]? = some t' → ∃ v0 v1 v2 v3 v4, w'.cell? ⟨g, j * 5, none⟩ = some v0 ∧ w'.cell? ⟨g, j * 5 + 1, none⟩ = some v1 ∧ w'.cell? ⟨g, j * 5 + 2, none⟩ = some v2 ∧ w'.cell? ⟨g, j * 5 + 3, none⟩ = some v3 ∧ w'.cell? ⟨g, j * 5 + 4, none⟩ = some v4 ∧ Rf (fun g => w.heap.size < g ∧ g < w'.heap.size) w' n [v0, v1, v2, v3, v4] t') ?_ ?_).mono ?_
    · rintro v w' w'' ⟨g, c', q1, q2, q3, q4, q5, qf, q6⟩ hh hz
      refine ⟨g, c', q1, q2, q3, q4, by omega, fun q => frozen_q (hh g q4) (qf q), fun j t' hj => ?_⟩
      obtain ⟨v0, v1, v2, v3, v4, a0, a1, a2, a3, a4, r⟩ := q6 j t' hj
      exact ⟨v0, v1, v2, v3, v4, cell_q (hh g q4) a0, cell_q (hh g q4) a1, cell_q (hh g q4) a2, cell_q (hh g q4) a3, cell_q (hh g q4) a4, Rf.to (fun q hq => ⟨⟨hq.1, by have := hq.2; omega⟩, hh q hq.1⟩) _ _ _ r⟩
    · refine (all_pl F0 W0 n t.ks ih a c (zD w) hbz hp1 hall hp2 h6k ?_).mono fun e w' ⟨g, c', he, q1, q2, q3, q4, qf, q5, q6⟩ => ⟨g, c', he, ⟨g, c', rfl, q1, q2, by omega, q4, qf, fun j t' hj => ?_⟩, q6⟩
      · rcases e2 with e2 | ⟨g, f1, f2, f3⟩
        · exact .inl e2
        · exact .inr ⟨g, f1, f3⟩
      · obtain ⟨v0, v1, v2, v3, v4, a0, a1, a2, a3, a4, r⟩ := q5 j t' hj
        exact ⟨v0, v1, v2, v3, v4, a0, a1, a2, a3, a4, Rf.to (fun q hq => ⟨⟨by have := hq.1; omega, hq.2⟩, rfl⟩) _ _ _ r⟩
    · rintro e w' ⟨v, rfl, ⟨g, c', rfl, q2, q3, q4, q5, qf, q6⟩, hb⟩
      refine ⟨_, _, _, _, _, rfl, ⟨some ⟨g, 0, none⟩, c', by rw [k, oi (by omega) (by omega) (by omega) (by omega) (by omega), ou (by omega), nt (by omega) (by omega) (by omega) (by omega)], by unfold maxLen; omega, q2, q3, .inr ⟨g, 0, rfl, ⟨⟨by omega, q5⟩, qf⟩, fun j t' hj => ?_⟩⟩, (fun g' o' l' c'' h => by cases h; exact qf), hb⟩
      obtain ⟨v0, v1, v2, v3, v4, a0, a1, a2, a3, a4, r⟩ := q6 j t' hj
      rw [Nat.zero_add]
      exact ⟨v0, v1, v2, v3, v4, a0, a1, a2, a3, a4, Rf.to (fun q hq => ⟨⟨by have := hq.1; omega, hq.2⟩, rfl⟩) _ _ _ r⟩
  · have m0 : t0 ∈ t.ks := by rw [e2]; simp
    have m1 : t1 ∈ t.ks := by rw [e2]; simp
    refine (pair_pl F0 W0 n t0 t1 ih x y w hb0 e3 e4 (List.all_eq_true.1 hall _ m0) (h6k _ m0) (hp2 _ m0) (List.all_eq_true.1 hall _ m1) (h6k _ m1) (hp2 _ m1)).mono ?_
    rintro e w' ⟨g, c, v0, v1, v2, v3, v4, y0, y1, y2, y3, y4, rfl, q1, q2, q3, q4, qf, ⟨a0, a1, a2, a3, a4⟩, ⟨d0, d1, d2, d3, d4⟩, r0, r1, hb⟩
    refine ⟨_, _, _, _, _, rfl, ⟨some ⟨g, 0, none⟩, c, by rw [k, oi (by omega) (by omega) (by omega) (by omega) (by omega), ou (by omega), nt (by omega) (by omega) (by omega) (by omega), e2]; rfl, by unfold maxLen; omega, by rw [e2]; exact q1, q2, .inr ⟨g, 0, rfl, ⟨⟨q3, q4⟩, qf⟩, fun j t' hj => ?_⟩⟩, (fun g' o' l' c'' h => by cases h; exact qf), hb⟩
    rw [e2] at hj
    match j, hj with
    | 0, hj =>
      obtain rfl := Option.some.inj hj
      exact ⟨v0, v1, v2, v3, v4, a0, a1, a2, a3, a4, r0⟩
    | 1, hj =>
      obtain rfl := Option.some.inj hj
      exact ⟨y0, y1, y2, y3, y4, d0, d1, d2, d3, d4, r1⟩
  · exact (pl10 t.it t.tx w).mono fun e w' ⟨he, hb⟩ => fin e w' (he.trans (by rw [k, ou (by omega)])) (nk (by omega) (by omega) (by omega)) hb
  · have m0 : t0 ∈ t.ks := by rw [e3]; simp
    refine (plPt (some ⟨b, 0, none⟩) w (fun v w' => ∃ g c v0 v1 v2 v3 v4, v = .agg #[.int .i64 11, .int .i64 t.it, .int .u64 0, .string ⟨#[]⟩, .slice (some ⟨g, 0, none⟩) 1 c] ∧ 1 ≤ c ∧ c ≤ maxLen ∧ w.heap.size < g ∧ g < w'.heap.size ∧ (∀ q, w'.frozen? ⟨g, q, none⟩ = false) ∧ (w'.cell? ⟨g, 0, none⟩ = some v0 ∧ w'.cell? ⟨g, 1, none⟩ = some v1 ∧ w'.cell? ⟨g, 2, none⟩ = some v2 ∧ w'.cell? ⟨g, 3, none⟩ = some v3 ∧ w'.cell? ⟨g, 4, none⟩ = some v4) ∧ Rf (fun g => w.heap.size < g ∧ g < w'.heap.size) w' n [v0, v1, v2, v3, v4] t0) ?_ ?_).mono ?_
    · rintro v w' w'' ⟨g, c', v0, v1, v2, v3, v4, q1, q2, q3, q4, q5, qf, ⟨a0, a1, a2, a3, a4⟩, r⟩ hh hz
      exact ⟨g, c', v0, v1, v2, v3, v4, q1, q2, q3, q4, by omega, (fun q => frozen_q (hh g q4) (qf q)), ⟨cell_q (hh g q4) a0, cell_q (hh g q4) a1, cell_q (hh g q4) a2, cell_q (hh g q4) a3, cell_q (hh g q4) a4⟩, Rf.to (fun q hq => ⟨⟨hq.1, by have := hq.2; omega⟩, hh q hq.1⟩) _ _ _ r⟩
    · refine (ptr_pl F0 W0 n t0 ih b t.it u (zD w) hbz e4 e5 (List.all_eq_true.1 hall _ m0) (h6k _ m0) (hp2 _ m0)).mono fun e w' ⟨g, c, v0, v1, v2, v3, v4, he, q1, q2, q3, q4, qf, a0, a1, a2, a3, a4, r, hb⟩ => ⟨11, t.it, 0, ⟨#[]⟩, some ⟨g, 0, none⟩, 1, c, he, ⟨g, c, v0, v1, v2, v3, v4, rfl, q1, q2, by omega, q4, qf, ⟨a0, a1, a2, a3, a4⟩, Rf.to (fun q hq => ⟨⟨by have := hq.1; omega, hq.2⟩, rfl⟩) _ _ _ r⟩, hb⟩
    · rintro e w' ⟨v, rfl, ⟨g, c, v0, v1, v2, v3, v4, rfl, q2, q3, q4, q5, qf, ⟨a0, a1, a2, a3, a4⟩, r⟩, hb⟩
      refine ⟨_, _, _, _, _, rfl, ⟨some ⟨g, 0, none⟩, c, by rw [k, ou (by omega), nt (by omega) (by omega) (by omega) (by omega), e3]; rfl, by unfold maxLen; omega, by rw [e3]; exact q2, q3, .inr ⟨g, 0, rfl, ⟨⟨by omega, q5⟩, qf⟩, fun j t' hj => ?_⟩⟩, (fun g' o' l' c'' h => by cases h; exact qf), hb⟩
      rw [e3] at hj
      match j, hj with
      | 0, hj =>
        obtain rfl := Option.some.inj hj
        exact ⟨v0, v1, v2, v3, v4, a0, a1, a2, a3, a4, Rf.to (fun q hq => ⟨⟨by have := hq.1; omega, hq.2⟩, rfl⟩) _ _ _ r⟩
  · refine (plPt none w (fun v _ => v = .agg #[.int .i64 12, .int .i64 0, .int .u64 0, .string ⟨#[]⟩, .slice none 0 0]) (fun v w' w'' h _ _ => h) ?_).mono ?_
    · exact (plNo (zD w)).mono fun e w' ⟨he, hb⟩ => ⟨12, 0, 0, ⟨#[]⟩, none, 0, 0, he, rfl, hb⟩
    · rintro e w' ⟨v, rfl, rfl, hb⟩
      exact fin _ w' (by rw [k, oi (by omega) (by omega) (by omega) (by omega) (by omega), ou (by omega), nt (by omega) (by omega) (by omega) (by omega)]) (nk (by omega) (by omega) (by omega)) hb
  · exact (pl13 w).mono fun e w' ⟨he, hb⟩ => fin e w' (he.trans (by rw [k, oi (by omega) (by omega) (by omega) (by omega) (by omega), ou (by omega), nt (by omega) (by omega) (by omega) (by omega)])) (nk (by omega) (by omega) (by omega)) hb
theorem plain_any (F0 : Nat → Prop) (W0 : World) : ∀ m, PlOf F0 W0 m := by
  intro m
  induction m with
  | zero => intro t; exact t.elim
  | succ n ih =>
    intro t v w hrg h64 hps hv hb0
    exact (plain_step F0 W0 n ih t v w hrg h64 hps hv hb0).mono fun e w' ⟨v0, v1, v2, v3, v4, he, rf, _, hb⟩ => ⟨v0, v1, v2, v3, v4, he, rf, hb⟩
end Go.Proofs.YtajagjcfmaggiaaGreatDoor.Dt
/- The document's Same of two values with one tree: true; the condition: the trees in memory. -/
namespace Go.Proofs.YtajagjcfmaggiaaGreatDoor.Dt
open Go.RowKit
def T2 (w : World) (a0 a1 a2 a3 a4 b0 b1 b2 b3 b4 : Value) (w' : World) : Prop := Below (w.heap.size + 2) ((w.alloc (.cells #[a0, a1, a2, a3, a4] 25)).alloc (.cells #[b0, b1, b2, b3, b4] 25)) w'
theorem T2.drew {w : World} {a0 a1 a2 a3 a4 b0 b1 b2 b3 b4 : Value} {w' : World} (h : T2 w a0 a1 a2 a3 a4 b0 b1 b2 b3 b4 w') : T2 w a0 a1 a2 a3 a4 b0 b1 b2 b3 b4 w'.drew := Below.drew h
theorem T2.below {w : World} {a0 a1 a2 a3 a4 b0 b1 b2 b3 b4 : Value} {w' : World} (h : T2 w a0 a1 a2 a3 a4 b0 b1 b2 b3 b4 w') : Below w.heap.size w w' := (below2 w _ _).trans (Below.mono h (by omega))
theorem T2.step {w : World} {a0 a1 a2 a3 a4 b0 b1 b2 b3 b4 : Value} {w1 w2 : World} (h : T2 w a0 a1 a2 a3 a4 b0 b1 b2 b3 b4 w1) (hb : Below w1.heap.size w1 w2) : T2 w a0 a1 a2 a3 a4 b0 b1 b2 b3 b4 w2 := by
  have := Below.size h
  simp at this
  exact Below.trans h (hb.mono (by omega))
theorem T2.start (w : World) (a0 a1 a2 a3 a4 b0 b1 b2 b3 b4 : Value) : T2 w a0 a1 a2 a3 a4 b0 b1 b2 b3 b4 ((w.alloc (.cells #[a0, a1, a2, a3, a4] 25)).alloc (.cells #[b0, b1, b2, b3, b4] 25)) := Below.refl _ _
theorem T2.c {w : World} {a0 a1 a2 a3 a4 b0 b1 b2 b3 b4 : Value} {w' : World} (h : T2 w a0 a1 a2 a3 a4 b0 b1 b2 b3 b4 w') :
    (w'.cell? ⟨w.heap.size, 0, none⟩ = some (a0) ∧ w'.cell? ⟨w.heap.size, 1, none⟩ = some (a1) ∧ w'.cell? ⟨w.heap.size, 2, none⟩ = some (a2) ∧ w'.cell? ⟨w.heap.size, 3, none⟩ = some (a3) ∧ w'.cell? ⟨w.heap.size, 4, none⟩ = some (a4)) ∧ w'.cell? ⟨w.heap.size + 1, 0, none⟩ = some (b0) ∧ w'.cell? ⟨w.heap.size + 1, 1, none⟩ = some (b1) ∧ w'.cell? ⟨w.heap.size + 1, 2, none⟩ = some (b2) ∧ w'.cell? ⟨w.heap.size + 1, 3, none⟩ = some (b3) ∧ w'.cell? ⟨w.heap.size + 1, 4, none⟩ = some (b4) := by
  have e0 := heap_alloc_new w (.cells #[a0, a1, a2, a3, a4] 25)
  have e1 := heap_alloc_new (w.alloc (.cells #[a0, a1, a2, a3, a4] 25)) (.cells #[b0, b1, b2, b3, b4] 25)
  simp only [World.size_alloc] at e1
  have h0 : w'.heap[w.heap.size]? = some (.cells #[a0, a1, a2, a3, a4] 25 (0, 0)) := (Below.block h w.heap.size (by omega)).trans (((below1 _ _).block _ (by simp)).trans e0)
  have h1 : w'.heap[w.heap.size + 1]? = some (.cells #[b0, b1, b2, b3, b4] 25 (0, 0)) := (Below.block h (w.heap.size + 1) (by omega)).trans e1
  simp [World.cell?, h0, h1]

end Go.Proofs.YtajagjcfmaggiaaGreatDoor.Dt
