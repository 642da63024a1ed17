/- The package's Plain of any value that it made of a valid tree: the plain data of the same tree, in new memory; the conditions: the value in memory, its tree valid. -/
import Derived.Test.YtajagjcfmaggiaaGreatDoorKAae
import Derived.Test.YtajagjcfmaggiaaGreatDoorKAaa
import Derived.Defers
import Derived.Recover
namespace Go.Proofs.YtajagjcfmaggiaaGreatDoor.Dt
open Go.RowKit
theorem ok_all {k i u : Int} {sz len : Nat} (h : okB k i u sz len = true) : (k = 6 → i = 0 ∨ i = 1) ∧ (k = 9 → len = 2) ∧ (k = 11 → len = 1) ∧ (k ≠ 1 → k ≠ 2 → k ≠ 6 → k ≠ 10 → k ≠ 11 → i = 0) ∧ (k ≠ 4 → k ≠ 5 → k ≠ 7 → k ≠ 10 → sz = 0) ∧ (k ≠ 3 → u = 0) ∧ (k ≠ 8 → k ≠ 9 → k ≠ 11 → len = 0) ∧ sz ≤ 65535 ∧ 0 ≤ k ∧ k ≤ 13 := by
  unfold okB at h
  repeat' split at h
  all_goals (try simp only [decide_eq_true_eq] at h)
  all_goals (first | omega | cases h)
theorem empty_of {s : ByteArray} (h : s.size = 0) : s = ⟨#[]⟩ := by
  cases s with
  | mk d =>
    have : d.size = 0 := h
    rw [Array.eq_empty_of_size_eq_zero this]
theorem Rf.leaf {F : Nat → Prop} {w : World} {n : Nat} {t : Tr (n + 1)} (h : t.ks = []) (hs : t.tx.size ≤ 65535) : Rf F w (n + 1) [.int .i64 t.kd, .int .i64 t.it, .int .u64 t.ut, .string t.tx, .slice none 0 0] t :=
  ⟨none, 0, by simp [h], by unfold maxLen; omega, by simp [h], by unfold maxLen; omega, .inl h⟩
theorem cell_q {w w' : World} {g o : Nat} {x : Value} (h : w'.heap[g]? = w.heap[g]?) (hx : w.cell? ⟨g, o, none⟩ = some x) : w'.cell? ⟨g, o, none⟩ = some x := (cell_heap h).trans hx

/-- The list that a value's data have is no part of what must not be written. -/
theorem frozen_q {w w' : World} {g q : Nat} (h : w'.heap[g]? = w.heap[g]?) (hx : w.frozen? ⟨g, q, none⟩ = false) : w'.frozen? ⟨g, q, none⟩ = false := by
  rw [show w'.frozen? ⟨g, q, none⟩ = w.frozen? ⟨g, q, none⟩ by simp [World.frozen?, h]]; exact hx
set_option maxRecDepth 100000 in
set_option maxHeartbeats 4000000 in
theorem plain_step (F0 : Nat → Prop) (W0 : World) (n : Nat) (ih : PlOf F0 W0 n) (t : Tr (n + 1)) (v : Value) (w : World) (hrg : rgt (n + 1) t = true) (h64 : r64 (n + 1) t) (hps : (pts (n + 1) t).1 ≤ 4096) (hv : VR F0 W0 (n + 1) v t) (hb0 : Below W0.heap.size W0 w) :
    Calls Tryz.prog 82 #[v] w fun e w' => ∃ v0 v1 v2 v3 v4, e = .returned (.agg #[v0, v1, v2, v3, v4]) ∧ Rf (fun g => w.heap.size ≤ g ∧ g < w'.heap.size) w' (n + 1) [v0, v1, v2, v3, v4] t ∧ (∀ g o l c, v4 = .slice (some ⟨g, o, none⟩) l c → ∀ q, w'.frozen? ⟨g, q, none⟩ = false) ∧ Below w.heap.size w w' := by
  obtain ⟨hp1, hp2⟩ := pts_kids hps
  simp only [rgt, Bool.and_eq_true] at hrg
  obtain ⟨hok, hall⟩ := hrg
  obtain ⟨o6, o9, o11, oi, os, ou, ol, oz, -, -⟩ := ok_all hok
  obtain ⟨⟨hu0, -⟩, h6k⟩ := h64
  have b1 : Below w.heap.size w (zD w) := below1 w _
  have hs1 : (zD w).heap.size = w.heap.size + 1 := by simp [zD]
  have hbz : Below W0.heap.size W0 (zD w) := hb0.trans (b1.mono hb0.size)
  have fin : ∀ (e : Ending) (w' : World), e = .returned (.agg #[.int .i64 t.kd, .int .i64 t.it, .int .u64 t.ut, .string t.tx, .slice none 0 0]) → t.ks = [] → Below w.heap.size w w' → ∃ v0 v1 v2 v3 v4, e = .returned (.agg #[v0, v1, v2, v3, v4]) ∧ Rf (fun g => w.heap.size ≤ g ∧ g < w'.heap.size) w' (n + 1) [v0, v1, v2, v3, v4] t ∧ (∀ g o l c, v4 = .slice (some ⟨g, o, none⟩) l c → ∀ q, w'.frozen? ⟨g, q, none⟩ = false) ∧ Below w.heap.size w w' := fun e w' he hk hb => ⟨_, _, _, _, _, he, Rf.leaf hk oz, (fun g o l c h => by cases h), hb⟩
  have nk : t.kd ≠ 8 → t.kd ≠ 9 → t.kd ≠ 11 → t.ks = [] := fun a b c => List.length_eq_zero_iff.1 (ol a b c)
  have nt : t.kd ≠ 4 → t.kd ≠ 5 → t.kd ≠ 7 → t.kd ≠ 10 → t.tx = ⟨#[]⟩ := fun a b c d => empty_of (os a b c d)
  simp only [VR] at hv
  rcases hv with ⟨k, rfl⟩ | ⟨k, rfl⟩ | ⟨k, rfl⟩ | ⟨k, rfl⟩ | ⟨k, rfl⟩ | ⟨k, rfl⟩ | ⟨k, rfl⟩ | ⟨k, g, c, cs, fr, rfl, e2, e3, rfl⟩ | ⟨k, a, c, rfl, e2⟩ | ⟨k, x, y, t0, t1, rfl, e2, e3, e4⟩ | ⟨k, rfl⟩ | ⟨k, b, u, t0, rfl, e2, e3, e4, e5⟩ | ⟨k, rfl⟩ | ⟨k, rfl⟩
  · exact (pl0 w).mono fun e w' ⟨he, hb⟩ => fin e w' (he.trans (by rw [k, oi (by omega) (by omega) (by omega) (by omega) (by omega), ou (by omega), nt (by omega) (by omega) (by omega) (by omega)])) (nk (by omega) (by omega) (by omega)) hb
  · exact (pl1 t.it w).mono fun e w' ⟨he, hb⟩ => fin e w' (he.trans (by rw [k, ou (by omega), nt (by omega) (by omega) (by omega) (by omega)])) (nk (by omega) (by omega) (by omega)) hb
  · exact (pl2 t.it w).mono fun e w' ⟨he, hb⟩ => fin e w' (he.trans (by rw [k, ou (by omega), nt (by omega) (by omega) (by omega) (by omega)])) (nk (by omega) (by omega) (by omega)) hb
  · exact (pl3 t.ut.toNat w).mono fun e w' ⟨he, hb⟩ => fin e w' (he.trans (by rw [k, oi (by omega) (by omega) (by omega) (by omega) (by omega), nt (by omega) (by omega) (by omega) (by omega), Int.toNat_of_nonneg hu0])) (nk (by omega) (by omega) (by omega)) hb
  · exact (pl4 t.tx w).mono fun e w' ⟨he, hb⟩ => fin e w' (he.trans (by rw [k, oi (by omega) (by omega) (by omega) (by omega) (by omega), ou (by omega)])) (nk (by omega) (by omega) (by omega)) hb
  · exact (pl5 t.tx w).mono fun e w' ⟨he, hb⟩ => fin e w' (he.trans (by rw [k, oi (by omega) (by omega) (by omega) (by omega) (by omega), ou (by omega)])) (nk (by omega) (by omega) (by omega)) hb
  · refine (pl6 (t.it != 0) w).mono fun e w' ⟨he, hb⟩ => fin e w' (he.trans ?_) (nk (by omega) (by omega) (by omega)) hb
    rw [k, ou (by omega), nt (by omega) (by omega) (by omega) (by omega)]
    rcases o6 k with h | h <;> simp [h]
  · have hl : g < W0.heap.size := (Array.getElem?_eq_some_iff.1 e3).1
    exact (pl7 t.tx g c fr w ((hb0.block g hl).trans e3)).mono fun e w' ⟨he, hb⟩ => fin e w' (he.trans (by rw [k, oi (by omega) (by omega) (by omega) (by omega) (by omega), ou (by omega)])) (nk (by omega) (by omega) (by omega)) hb
  · refine (pl8 a t.ks.length c w (fun v w' => ∃ g c', v = .slice (some ⟨g, 0, none⟩) t.ks.length c' ∧ t.ks.length ≤ c' ∧ c' ≤ maxLen ∧ w.heap.size < g ∧ g < w'.heap.size ∧ (∀ q, w'.frozen? ⟨g, q, none⟩ = false) ∧ ∀ (j : Nat) (t' : Tr n), t.ks[j]? = some t' → ∃ v0 v1 v2 v3 v4, w'.cell? ⟨g, j * 5, none⟩ = some v0 ∧ w'.cell? ⟨g, j * 5 + 1, none⟩ = some v1 ∧ w'.cell? ⟨g, j * 5 + 2, none⟩ = some v2 ∧ w'.cell? ⟨g, j * 5 + 3, none⟩ = some v3 ∧ w'.cell? ⟨g, j * 5 + 4, none⟩ = some v4 ∧ Rf (fun g => w.heap.size < g ∧ g < w'.heap.size) w' n [v0, v1, v2, v3, v4] t') ?_ ?_).mono ?_
    · rintro v w' w'' ⟨g, c', q1, q2, q3, q4, q5, qf, q6⟩ hh hz
      refine ⟨g, c', q1, q2, q3, q4, by omega, fun q => frozen_q (hh g q4) (qf q), fun j t' hj => ?_⟩
      obtain ⟨v0, v1, v2, v3, v4, a0, a1, a2, a3, a4, r⟩ := q6 j t' hj
      exact ⟨v0, v1, v2, v3, v4, cell_q (hh g q4) a0, cell_q (hh g q4) a1, cell_q (hh g q4) a2, cell_q (hh g q4) a3, cell_q (hh g q4) a4, Rf.to (fun q hq => ⟨⟨hq.1, by have := hq.2; omega⟩, hh q hq.1⟩) _ _ _ r⟩
    · refine (all_pl F0 W0 n t.ks ih a c (zD w) hbz hp1 hall hp2 h6k ?_).mono fun e w' ⟨g, c', he, q1, q2, q3, q4, qf, q5, q6⟩ => ⟨g, c', he, ⟨g, c', rfl, q1, q2, by omega, q4, qf, fun j t' hj => ?_⟩, q6⟩
      · rcases e2 with e2 | ⟨g, f1, f2, f3⟩
        · exact .inl e2
        · exact .inr ⟨g, f1, f3⟩
      · obtain ⟨v0, v1, v2, v3, v4, a0, a1, a2, a3, a4, r⟩ := q5 j t' hj
        exact ⟨v0, v1, v2, v3, v4, a0, a1, a2, a3, a4, Rf.to (fun q hq => ⟨⟨by have := hq.1; omega, hq.2⟩, rfl⟩) _ _ _ r⟩
    · rintro e w' ⟨v, rfl, ⟨g, c', rfl, q2, q3, q4, q5, qf, q6⟩, hb⟩
      refine ⟨_, _, _, _, _, rfl, ⟨some ⟨g, 0, none⟩, c', by rw [k, oi (by omega) (by omega) (by omega) (by omega) (by omega), ou (by omega), nt (by omega) (by omega) (by omega) (by omega)], by unfold maxLen; omega, q2, q3, .inr ⟨g, 0, rfl, ⟨⟨by omega, q5⟩, qf⟩, fun j t' hj => ?_⟩⟩, (fun g' o' l' c'' h => by cases h; exact qf), hb⟩
      obtain ⟨v0, v1, v2, v3, v4, a0, a1, a2, a3, a4, r⟩ := q6 j t' hj
      rw [Nat.zero_add]
      exact ⟨v0, v1, v2, v3, v4, a0, a1, a2, a3, a4, Rf.to (fun q hq => ⟨⟨by have := hq.1; omega, hq.2⟩, rfl⟩) _ _ _ r⟩
  · have m0 : t0 ∈ t.ks := by rw [e2]; simp
    have m1 : t1 ∈ t.ks := by rw [e2]; simp
    refine (pair_pl F0 W0 n t0 t1 ih x y w hb0 e3 e4 (List.all_eq_true.1 hall _ m0) (h6k _ m0) (hp2 _ m0) (List.all_eq_true.1 hall _ m1) (h6k _ m1) (hp2 _ m1)).mono ?_
    rintro e w' ⟨g, c, v0, v1, v2, v3, v4, y0, y1, y2, y3, y4, rfl, q1, q2, q3, q4, qf, ⟨a0, a1, a2, a3, a4⟩, ⟨d0, d1, d2, d3, d4⟩, r0, r1, hb⟩
    refine ⟨_, _, _, _, _, rfl, ⟨some ⟨g, 0, none⟩, c, by rw [k, oi (by omega) (by omega) (by omega) (by omega) (by omega), ou (by omega), nt (by omega) (by omega) (by omega) (by omega), e2]; rfl, by unfold maxLen; omega, by rw [e2]; exact q1, q2, .inr ⟨g, 0, rfl, ⟨⟨q3, q4⟩, qf⟩, fun j t' hj => ?_⟩⟩, (fun g' o' l' c'' h => by cases h; exact qf), hb⟩
    rw [e2] at hj
    match j, hj with
    | 0, hj =>
      obtain rfl := Option.some.inj hj
      exact ⟨v0, v1, v2, v3, v4, a0, a1, a2, a3, a4, r0⟩
    | 1, hj =>
      obtain rfl := Option.some.inj hj
      exact ⟨y0, y1, y2, y3, y4, d0, d1, d2, d3, d4, r1⟩
  · exact (pl10 t.it t.tx w).mono fun e w' ⟨he, hb⟩ => fin e w' (he.trans (by rw [k, ou (by omega)])) (nk (by omega) (by omega) (by omega)) hb
  · have m0 : t0 ∈ t.ks := by rw [e3]; simp
    refine (plPt (some ⟨b, 0, none⟩) w (fun v w' => ∃ g c v0 v1 v2 v3 v4, v = .agg #[.int .i64 11, .int .i64 t.it, .int .u64 0, .string ⟨#[]⟩, .slice (some ⟨g, 0, none⟩) 1 c] ∧ 1 ≤ c ∧ c ≤ maxLen ∧ w.heap.size < g ∧ g < w'.heap.size ∧ (∀ q, w'.frozen? ⟨g, q, none⟩ = false) ∧ (w'.cell? ⟨g, 0, none⟩ = some v0 ∧ w'.cell? ⟨g, 1, none⟩ = some v1 ∧ w'.cell? ⟨g, 2, none⟩ = some v2 ∧ w'.cell? ⟨g, 3, none⟩ = some v3 ∧ w'.cell? ⟨g, 4, none⟩ = some v4) ∧ Rf (fun g => w.heap.size < g ∧ g < w'.heap.size) w' n [v0, v1, v2, v3, v4] t0) ?_ ?_).mono ?_
    · rintro v w' w'' ⟨g, c', v0, v1, v2, v3, v4, q1, q2, q3, q4, q5, qf, ⟨a0, a1, a2, a3, a4⟩, r⟩ hh hz
      exact ⟨g, c', v0, v1, v2, v3, v4, q1, q2, q3, q4, by omega, (fun q => frozen_q (hh g q4) (qf q)), ⟨cell_q (hh g q4) a0, cell_q (hh g q4) a1, cell_q (hh g q4) a2, cell_q (hh g q4) a3, cell_q (hh g q4) a4⟩, Rf.to (fun q hq => ⟨⟨hq.1, by have := hq.2; omega⟩, hh q hq.1⟩) _ _ _ r⟩
    · refine (ptr_pl F0 W0 n t0 ih b t.it u (zD w) hbz e4 e5 (List.all_eq_true.1 hall _ m0) (h6k _ m0) (hp2 _ m0)).mono fun e w' ⟨g, c, v0, v1, v2, v3, v4, he, q1, q2, q3, q4, qf, a0, a1, a2, a3, a4, r, hb⟩ => ⟨11, t.it, 0, ⟨#[]⟩, some ⟨g, 0, none⟩, 1, c, he, ⟨g, c, v0, v1, v2, v3, v4, rfl, q1, q2, by omega, q4, qf, ⟨a0, a1, a2, a3, a4⟩, Rf.to (fun q hq => ⟨⟨by have := hq.1; omega, hq.2⟩, rfl⟩) _ _ _ r⟩, hb⟩
    · rintro e w' ⟨v, rfl, ⟨g, c, v0, v1, v2, v3, v4, rfl, q2, q3, q4, q5, qf, ⟨a0, a1, a2, a3, a4⟩, r⟩, hb⟩
      refine ⟨_, _, _, _, _, rfl, ⟨some ⟨g, 0, none⟩, c, by rw [k, ou (by omega), nt (by omega) (by omega) (by omega) (by omega), e3]; rfl, by unfold maxLen; omega, by rw [e3]; exact q2, q3, .inr ⟨g, 0, rfl, ⟨⟨by omega, q5⟩, qf⟩, fun j t' hj => ?_⟩⟩, (fun g' o' l' c'' h => by cases h; exact qf), hb⟩
      rw [e3] at hj
      match j, hj with
      | 0, hj =>
        obtain rfl := Option.some.inj hj
        exact ⟨v0, v1, v2, v3, v4, a0, a1, a2, a3, a4, Rf.to (fun q hq => ⟨⟨by have := hq.1; omega, hq.2⟩, rfl⟩) _ _ _ r⟩
  · refine (plPt none w (fun v _ => v = .agg #[.int .i64 12, .int .i64 0, .int .u64 0, .string ⟨#[]⟩, .slice none 0 0]) (fun v w' w'' h _ _ => h) ?_).mono ?_
    · exact (plNo (zD w)).mono fun e w' ⟨he, hb⟩ => ⟨12, 0, 0, ⟨#[]⟩, none, 0, 0, he, rfl, hb⟩
    · rintro e w' ⟨v, rfl, rfl, hb⟩
      exact fin _ w' (by rw [k, oi (by omega) (by omega) (by omega) (by omega) (by omega), ou (by omega), nt (by omega) (by omega) (by omega) (by omega)]) (nk (by omega) (by omega) (by omega)) hb
  · exact (pl13 w).mono fun e w' ⟨he, hb⟩ => fin e w' (he.trans (by rw [k, oi (by omega) (by omega) (by omega) (by omega) (by omega), ou (by omega), nt (by omega) (by omega) (by omega) (by omega)])) (nk (by omega) (by omega) (by omega)) hb
theorem plain_any (F0 : Nat → Prop) (W0 : World) : ∀ m, PlOf F0 W0 m := by
  intro m
  induction m with
  | zero => intro t; exact t.elim
  | succ n ih =>
    intro t v w hrg h64 hps hv hb0
    exact (plain_step F0 W0 n ih t v w hrg h64 hps hv hb0).mono fun e w' ⟨v0, v1, v2, v3, v4, he, rf, _, hb⟩ => ⟨v0, v1, v2, v3, v4, he, rf, hb⟩
end Go.Proofs.YtajagjcfmaggiaaGreatDoor.Dt
/- The document's Same of two values with one tree: true; the condition: the trees in memory. -/
namespace Go.Proofs.YtajagjcfmaggiaaGreatDoor.Dt
open Go.RowKit
def T2 (w : World) (a0 a1 a2 a3 a4 b0 b1 b2 b3 b4 : Value) (w' : World) : Prop := Below (w.heap.size + 2) ((w.alloc (.cells #[a0, a1, a2, a3, a4] 25)).alloc (.cells #[b0, b1, b2, b3, b4] 25)) w'
theorem T2.drew {w : World} {a0 a1 a2 a3 a4 b0 b1 b2 b3 b4 : Value} {w' : World} (h : T2 w a0 a1 a2 a3 a4 b0 b1 b2 b3 b4 w') : T2 w a0 a1 a2 a3 a4 b0 b1 b2 b3 b4 w'.drew := Below.drew h
theorem T2.below {w : World} {a0 a1 a2 a3 a4 b0 b1 b2 b3 b4 : Value} {w' : World} (h : T2 w a0 a1 a2 a3 a4 b0 b1 b2 b3 b4 w') : Below w.heap.size w w' := (below2 w _ _).trans (Below.mono h (by omega))
theorem T2.step {w : World} {a0 a1 a2 a3 a4 b0 b1 b2 b3 b4 : Value} {w1 w2 : World} (h : T2 w a0 a1 a2 a3 a4 b0 b1 b2 b3 b4 w1) (hb : Below w1.heap.size w1 w2) : T2 w a0 a1 a2 a3 a4 b0 b1 b2 b3 b4 w2 := by
  have := Below.size h
  simp at this
  exact Below.trans h (hb.mono (by omega))
theorem T2.start (w : World) (a0 a1 a2 a3 a4 b0 b1 b2 b3 b4 : Value) : T2 w a0 a1 a2 a3 a4 b0 b1 b2 b3 b4 ((w.alloc (.cells #[a0, a1, a2, a3, a4] 25)).alloc (.cells #[b0, b1, b2, b3, b4] 25)) := Below.refl _ _
theorem T2.c {w : World} {a0 a1 a2 a3 a4 b0 b1 b2 b3 b4 : Value} {w' : World} (h : T2 w a0 a1 a2 a3 a4 b0 b1 b2 b3 b4 w') :
    (w'.cell? ⟨w.heap.size, 0, none⟩ = some (a0) ∧ w'.cell? ⟨w.heap.size, 1, none⟩ = some (a1) ∧ w'.cell? ⟨w.heap.size, 2, none⟩ = some (a2) ∧ w'.cell? ⟨w.heap.size, 3, none⟩ = some (a3) ∧ w'.cell? ⟨w.heap.size, 4, none⟩ = some (a4)) ∧ w'.cell? ⟨w.heap.size + 1, 0, none⟩ = some (b0) ∧ w'.cell? ⟨w.heap.size + 1, 1, none⟩ = some (b1) ∧ w'.cell? ⟨w.heap.size + 1, 2, none⟩ = some (b2) ∧ w'.cell? ⟨w.heap.size + 1, 3, none⟩ = some (b3) ∧ w'.cell? ⟨w.heap.size + 1, 4, none⟩ = some (b4) := by
  have e0 := heap_alloc_new w (.cells #[a0, a1, a2, a3, a4] 25)
  have e1 := heap_alloc_new (w.alloc (.cells #[a0, a1, a2, a3, a4] 25)) (.cells #[b0, b1, b2, b3, b4] 25)
  simp only [World.size_alloc] at e1
  have h0 : w'.heap[w.heap.size]? = some (.cells #[a0, a1, a2, a3, a4] 25 (0, 0)) := (Below.block h w.heap.size (by omega)).trans (((below1 _ _).block _ (by simp)).trans e0)
  have h1 : w'.heap[w.heap.size + 1]? = some (.cells #[b0, b1, b2, b3, b4] 25 (0, 0)) := (Below.block h (w.heap.size + 1) (by omega)).trans e1
  simp [World.cell?, h0, h1]

set_option maxRecDepth 100000 in
set_option maxHeartbeats 4000000 in
theorem sameD : ∀ (n : Nat) (t : Tr n) (v0 v1 v2 v3 v4 x0 x1 x2 x3 x4 : Value) (w : World), Rep w n [v0, v1, v2, v3, v4] t → Rep w n [x0, x1, x2, x3, x4] t →
    Calls Tryz.prog 13 #[.agg #[v0, v1, v2, v3, v4], .agg #[x0, x1, x2, x3, x4]] w fun e w' => e = .returned (.bool true) ∧ Below w.heap.size w w' := by
  intro n
  induction n with
  | zero => intro t; exact t.elim
  | succ n ih =>
    intro t v0 v1 v2 v3 v4 x0 x1 x2 x3 x4 w h h'
    obtain ⟨ad, cap, e, htx, hlen, hcap, hk⟩ := h
    simp only [List.cons.injEq, and_true] at e
    obtain ⟨rfl, rfl, rfl, rfl, rfl⟩ := e
    obtain ⟨ad', cap', e, htx', hlen', hcap', hk'⟩ := h'
    simp only [List.cons.injEq, and_true] at e
    obtain ⟨rfl, rfl, rfl, rfl, rfl⟩ := e
    have HK := Lib.hid hk
    have HK' := Lib.hid hk'
    have hb0 := T2.start w (.int .i64 t.kd) (.int .i64 t.it) (.int .u64 t.ut) (.string t.tx) (.slice ad t.ks.length cap) (.int .i64 t.kd) (.int .i64 t.it) (.int .u64 t.ut) (.string t.tx) (.slice ad' t.ks.length cap')
    have HI : Hid (∀ (s : Tr n) (a0 a1 a2 a3 a4 b0 b1 b2 b3 b4 : Value) (wx : World), Rep w n [a0, a1, a2, a3, a4] s → Rep w n [b0, b1, b2, b3, b4] s → T2 w (.int .i64 t.kd) (.int .i64 t.it) (.int .u64 t.ut) (.string t.tx) (.slice ad t.ks.length cap) (.int .i64 t.kd) (.int .i64 t.it) (.int .u64 t.ut) (.string t.tx) (.slice ad' t.ks.length cap') wx → Calls Tryz.prog 13 #[.agg #[a0, a1, a2, a3, a4], .agg #[b0, b1, b2, b3, b4]] wx fun e w' => e = .returned (.bool true) ∧ T2 w (.int .i64 t.kd) (.int .i64 t.it) (.int .u64 t.ut) (.string t.tx) (.slice ad t.ks.length cap) (.int .i64 t.kd) (.int .i64 t.it) (.int .u64 t.ut) (.string t.tx) (.slice ad' t.ks.length cap') w') := fun s a0 a1 a2 a3 a4 b0 b1 b2 b3 b4 wx ha hb hx => (ih s _ _ _ _ _ _ _ _ _ _ wx (Rep.below hx.below n _ _ ha) (Rep.below hx.below n _ _ hb)).mono fun e w' ⟨a, b⟩ => ⟨a, hx.step b⟩
    have HS : Hid (∀ wx, T2 w (.int .i64 t.kd) (.int .i64 t.it) (.int .u64 t.ut) (.string t.tx) (.slice ad t.ks.length cap) (.int .i64 t.kd) (.int .i64 t.it) (.int .u64 t.ut) (.string t.tx) (.slice ad' t.ks.length cap') wx → (wx.cell? ⟨w.heap.size, 0, none⟩ = some ((.int .i64 t.kd)) ∧ wx.cell? ⟨w.heap.size, 1, none⟩ = some ((.int .i64 t.it)) ∧ wx.cell? ⟨w.heap.size, 2, none⟩ = some ((.int .u64 t.ut)) ∧ wx.cell? ⟨w.heap.size, 3, none⟩ = some ((.string t.tx)) ∧ wx.cell? ⟨w.heap.size, 4, none⟩ = some ((.slice ad t.ks.length cap))) ∧ wx.cell? ⟨w.heap.size + 1, 0, none⟩ = some ((.int .i64 t.kd)) ∧ wx.cell? ⟨w.heap.size + 1, 1, none⟩ = some ((.int .i64 t.it)) ∧ wx.cell? ⟨w.heap.size + 1, 2, none⟩ = some ((.int .u64 t.ut)) ∧ wx.cell? ⟨w.heap.size + 1, 3, none⟩ = some ((.string t.tx)) ∧ wx.cell? ⟨w.heap.size + 1, 4, none⟩ = some ((.slice ad' t.ks.length cap'))) := fun wx h => h.c
    unfold maxLen at hcap hcap'
    clear ih hk hk'
    generalize t.kd = k at HS HI hb0 ⊢
    generalize t.it = i at HS HI hb0 ⊢
    generalize t.ut = u at HS HI hb0 ⊢
    generalize t.tx = s at HS HI hb0 ⊢
    generalize t.ks = ts at HS HI hb0 hlen hlen' HK HK' ⊢
    obtain ⟨⟨c0, c1, c2, c3, c4⟩, d0, d1, d2, d3, d4⟩ := HS.out _ hb0
    go_enter Tryz.func13, Tryz.ntmps13
    go_wp2_with fail
    clear c0 c1 c2 c3 c4 d0 d1 d2 d3 d4
    go_loopw [44] (fun si wr => ∃ (j : Nat), si = .int .i64 j ∧ j ≤ ts.length ∧ T2 w (.int .i64 k) (.int .i64 i) (.int .u64 u) (.string s) (.slice ad ts.length cap) (.int .i64 k) (.int .i64 i) (.int .u64 u) (.string s) (.slice ad' ts.length cap') wr) (fun si _ => ts.length - (intOf si).toNat)
    case atStart => exact ⟨0, rfl, Nat.zero_le _, hb0⟩
    case round =>
      obtain ⟨j, rfl, hj, hb⟩ := hrel
      obtain ⟨⟨c0, c1, c2, c3, c4⟩, d0, d1, d2, d3, d4⟩ := HS.out _ hb
      by_cases hlt : j < ts.length
      · have hne : ts ≠ [] := by intro e; rw [e] at hlt; exact absurd hlt (Nat.not_lt_zero _)
        rcases HK.out with hk | ⟨g, of, hk1, hk2⟩
        · exact absurd hk hne
        rcases HK'.out with hk | ⟨g', of', hk1', hk2'⟩
        · exact absurd hk hne
        subst hk1 hk1'
        obtain ⟨v0, v1, v2, v3, v4, e0, e1, e2, e3, e4, rk⟩ := hk2 j _ (List.getElem?_eq_getElem hlt)
        obtain ⟨x0, x1, x2, x3, x4, f0, f1, f2, f3, f4, rk'⟩ := hk2' j _ (List.getElem?_eq_getElem hlt)
        have hgl : g < w.heap.size := World.block_lt_of_cell? w _ e0
        have hgl' : g' < w.heap.size := World.block_lt_of_cell? w _ f0
        obtain ⟨u0, u1, u2, u3, u4, u5, u6, rfl, rfl, rfl, rfl, rfl⟩ := rep_shape rk
        obtain ⟨y0, y1, y2, y3, y4, y5, y6, rfl, rfl, rfl, rfl, rfl⟩ := rep_shape rk'
        have HX : Hid (∀ wx, T2 w (.int .i64 k) (.int .i64 i) (.int .u64 u) (.string s) (.slice (some ⟨g, of, none⟩) ts.length cap) (.int .i64 k) (.int .i64 i) (.int .u64 u) (.string s) (.slice (some ⟨g', of', none⟩) ts.length cap') wx → (wx.cell? ⟨w.heap.size, 4, none⟩ = some (.slice (some ⟨g, of, none⟩) ts.length cap) ∧ wx.cell? ⟨w.heap.size + 1, 4, none⟩ = some (.slice (some ⟨g', of', none⟩) ts.length cap')) ∧ (wx.cell? ⟨g, of + j * 5, none⟩ = some (.int .i64 u0) ∧ wx.cell? ⟨g, of + j * 5 + 1, none⟩ = some (.int .i64 u1) ∧ wx.cell? ⟨g, of + j * 5 + 2, none⟩ = some (.int .u64 u2) ∧ wx.cell? ⟨g, of + j * 5 + 3, none⟩ = some (.string u3) ∧ wx.cell? ⟨g, of + j * 5 + 4, none⟩ = some (.slice u4 u5 u6)) ∧ wx.cell? ⟨g', of' + j * 5, none⟩ = some (.int .i64 y0) ∧ wx.cell? ⟨g', of' + j * 5 + 1, none⟩ = some (.int .i64 y1) ∧ wx.cell? ⟨g', of' + j * 5 + 2, none⟩ = some (.int .u64 y2) ∧ wx.cell? ⟨g', of' + j * 5 + 3, none⟩ = some (.string y3) ∧ wx.cell? ⟨g', of' + j * 5 + 4, none⟩ = some (.slice y4 y5 y6)) := fun wx h => ⟨⟨h.c.1.2.2.2.2, h.c.2.2.2.2.2⟩, ⟨(h.below.cell (p := ⟨g, of + j * 5, none⟩) hgl).trans e0, (h.below.cell (p := ⟨g, of + j * 5 + 1, none⟩) hgl).trans e1, (h.below.cell (p := ⟨g, of + j * 5 + 2, none⟩) hgl).trans e2, (h.below.cell (p := ⟨g, of + j * 5 + 3, none⟩) hgl).trans e3, (h.below.cell (p := ⟨g, of + j * 5 + 4, none⟩) hgl).trans e4⟩, (h.below.cell (p := ⟨g', of' + j * 5, none⟩) hgl').trans f0, (h.below.cell (p := ⟨g', of' + j * 5 + 1, none⟩) hgl').trans f1, (h.below.cell (p := ⟨g', of' + j * 5 + 2, none⟩) hgl').trans f2, (h.below.cell (p := ⟨g', of' + j * 5 + 3, none⟩) hgl').trans f3, (h.below.cell (p := ⟨g', of' + j * 5 + 4, none⟩) hgl').trans f4⟩
        have HI' := Lib.hid (fun wx hx => HI.out ts[j] _ _ _ _ _ _ _ _ _ _ wx rk rk' hx)
        have j0 : (0 : Int) ≤ (j : Int) := by omega
        have j1 : (j : Int) < (ts.length : Int) := by omega
        clear e0 e1 e2 e3 e4 f0 f1 f2 f3 f4 hk2 hk2' HK HK' rk rk' HI HS
        go_wp2_with fail
        clear c0 c1 c2 c3 c4 d0 d1 d2 d3 d4
        go_region_held3 (fun wx => (wx.cell? ⟨w.heap.size, 4, none⟩ = some (.slice (some ⟨g, of, none⟩) ts.length cap) ∧ wx.cell? ⟨w.heap.size + 1, 4, none⟩ = some (.slice (some ⟨g', of', none⟩) ts.length cap')) ∧ (wx.cell? ⟨g, of + j * 5, none⟩ = some (.int .i64 u0) ∧ wx.cell? ⟨g, of + j * 5 + 1, none⟩ = some (.int .i64 u1) ∧ wx.cell? ⟨g, of + j * 5 + 2, none⟩ = some (.int .u64 u2) ∧ wx.cell? ⟨g, of + j * 5 + 3, none⟩ = some (.string u3) ∧ wx.cell? ⟨g, of + j * 5 + 4, none⟩ = some (.slice u4 u5 u6)) ∧ wx.cell? ⟨g', of' + j * 5, none⟩ = some (.int .i64 y0) ∧ wx.cell? ⟨g', of' + j * 5 + 1, none⟩ = some (.int .i64 y1) ∧ wx.cell? ⟨g', of' + j * 5 + 2, none⟩ = some (.int .u64 y2) ∧ wx.cell? ⟨g', of' + j * 5 + 3, none⟩ = some (.string y3) ∧ wx.cell? ⟨g', of' + j * 5 + 4, none⟩ = some (.slice y4 y5 y6)) (exact HX.out _ (by first | assumption | exact T2.drew (by assumption))) ((go_at_call 13; refine (HI'.out _ (by first | assumption | exact T2.drew (by assumption))).mono ?_; rintro e w1 ⟨rfl, b1⟩))
        all_goals go_wp2_with fail
        all_goals exact ⟨⟨j + 1, by go_num, by omega, by first | assumption | exact T2.drew (by assumption)⟩, by simp [intOf]; omega⟩
      · have hje : j = ts.length := by omega
        go_wp2_with fail
        go_ret
        exact ⟨rfl, hb.below⟩
end Go.Proofs.YtajagjcfmaggiaaGreatDoor.Dt
/- What each question of the package answers of a value of kind k: of a type whether the kind has it, of an interface whether the kind has all its methods; no condition. -/
namespace Go.Proofs.YtajagjcfmaggiaaGreatDoor
open Go.RowKit

/-- The question that function f asks answers p of a kind. -/
def Asks (f : Nat) (p : Int → Bool) : Prop := ∀ (k : Int) (u : Value) (w : World), Kd k u → Calls Tryz.prog f #[.agg #[], u] w fun e w' => e = .returned (.bool (p k)) ∧ Below w.heap.size w w'

theorem kd_no {k : Int} (h : k < 1 ∨ 13 < k) (j : Int) (h1 : 1 ≤ j) (h2 : j ≤ 13) : (k == j) = false := by simp; omega
theorem impl_no {k : Int} (h : k < 1 ∨ 13 < k) (f : Int) : impl k f = false := by
  unfold impl
  by_cases h0 : 0 < k
  · have : ¬ k < 14 := by omega
    simp [this]
  · simp [h0]

set_option maxRecDepth 100000 in
set_option maxHeartbeats 1000000 in
theorem type12_walk (u : Value) (b : Bool) (w : World) (h : ∀ w, (binOp .eql 20 u (.iface 155 (.pointer none))).run Tryz.prog w = .ok (.bool b) w) (hg : ∀ w, (eqGuard .eql 20 (.tmp 5) (.tmp 6) u (.iface 155 (.pointer none))).run Tryz.prog w = .ok () w) :
    Calls Tryz.prog 183 #[.agg #[], u] w fun e w' => e = .returned (.bool b) ∧ Below w.heap.size w w' := by
  go_enter Tryz.func183, Tryz.ntmps183
  go_wp2
  go_ret
  exact ⟨rfl, below1 w _⟩
theorem type12_asks : Asks 183 (fun k => k == 12) := by
  intro k u w hk
  rcases hk.cases with ⟨h0, rfl⟩ | ⟨rfl, a, rfl⟩ | ⟨rfl, a, rfl⟩ | ⟨rfl, a, rfl⟩ | ⟨rfl, a, rfl⟩ | ⟨rfl, a, rfl⟩ | ⟨rfl, a, rfl⟩ | ⟨rfl, a, rfl⟩ | ⟨rfl, a, rfl⟩ | ⟨rfl, a, b, rfl, ha, hb⟩ | ⟨rfl, c, a, rfl⟩ | ⟨rfl, a, rfl⟩ | ⟨rfl, rfl⟩ | ⟨rfl, rfl⟩
  · simp only [kd_no h0 12 (by decide) (by decide)]; exact type12_walk _ false w (fun w => by kernel_rfl) (fun w => by kernel_rfl)
  · exact type12_walk _ false w (fun w => run_eql_iface_types _ _ _ _ Tryz.underlying20 (by decide) w) (fun w => by kernel_rfl)
  · exact type12_walk _ false w (fun w => run_eql_iface_types _ _ _ _ Tryz.underlying20 (by decide) w) (fun w => by kernel_rfl)
  · exact type12_walk _ false w (fun w => run_eql_iface_types _ _ _ _ Tryz.underlying20 (by decide) w) (fun w => by kernel_rfl)
  · exact type12_walk _ false w (fun w => run_eql_iface_types _ _ _ _ Tryz.underlying20 (by decide) w) (fun w => by kernel_rfl)
  · exact type12_walk _ false w (fun w => run_eql_iface_types _ _ _ _ Tryz.underlying20 (by decide) w) (fun w => by kernel_rfl)
  · exact type12_walk _ false w (fun w => run_eql_iface_types _ _ _ _ Tryz.underlying20 (by decide) w) (fun w => by kernel_rfl)
  · exact type12_walk _ false w (fun w => run_eql_iface_types _ _ _ _ Tryz.underlying20 (by decide) w) (fun w => by kernel_rfl)
  · exact type12_walk _ false w (fun w => run_eql_iface_types _ _ _ _ Tryz.underlying20 (by decide) w) (fun w => by kernel_rfl)
  · exact type12_walk _ false w (fun w => run_eql_iface_types _ _ _ _ Tryz.underlying20 (by decide) w) (fun w => by kernel_rfl)
  · exact type12_walk _ false w (fun w => run_eql_iface_types _ _ _ _ Tryz.underlying20 (by decide) w) (fun w => by kernel_rfl)
  · exact type12_walk _ false w (fun w => by kernel_rfl) (fun w => by kernel_rfl)
  · exact type12_walk _ true w (fun w => by kernel_rfl) (fun w => by kernel_rfl)
  · exact type12_walk _ false w (fun w => run_eql_iface_types _ _ _ _ Tryz.underlying20 (by decide) w) (fun w => by kernel_rfl)
end Go.Proofs.YtajagjcfmaggiaaGreatDoor
/- What the inner package makes of a kind alone: an interface value of that kind, in new memory; no condition. -/
namespace Go.Proofs.YtajagjcfmaggiaaGreatDoor
open Go.RowKit

/-- What is asked of one kind. -/
def KindOf (k : Int) (w : World) : Prop := Calls Tryz.prog 86 #[.agg #[.map none], .agg #[.int .i64 k, .int .i64 0, .int .u64 0, .string ⟨#[]⟩, .slice none 0 0]] w fun e w' => ∃ u, e = .returned u ∧ Kd k u ∧ Below w.heap.size w w'

set_option maxRecDepth 100000 in
set_option maxHeartbeats 1000000 in
theorem kind1 (w : World) : KindOf 1 w := by
  unfold KindOf
  go_enter Tryz.func86, Tryz.ntmps86
  go_wp2
  go_ret
  exact ⟨_, rfl, Kd.plain 1 _ (by decide) (by decide), below2 w _ _⟩

set_option maxRecDepth 100000 in
set_option maxHeartbeats 1000000 in
theorem kind2 (w : World) : KindOf 2 w := by
  unfold KindOf
  go_enter Tryz.func86, Tryz.ntmps86
  go_wp2
  go_ret
  exact ⟨_, rfl, Kd.plain 2 _ (by decide) (by decide), below2 w _ _⟩

set_option maxRecDepth 100000 in
set_option maxHeartbeats 1000000 in
theorem kind4 (w : World) : KindOf 4 w := by
  unfold KindOf
  go_enter Tryz.func86, Tryz.ntmps86
  go_wp2
  go_ret
  exact ⟨_, rfl, Kd.plain 4 _ (by decide) (by decide), below2 w _ _⟩

set_option maxRecDepth 100000 in
set_option maxHeartbeats 1000000 in
theorem kind5 (w : World) : KindOf 5 w := by
  unfold KindOf
  go_enter Tryz.func86, Tryz.ntmps86
  go_wp2
  go_ret
  exact ⟨_, rfl, Kd.plain 5 _ (by decide) (by decide), below2 w _ _⟩

set_option maxRecDepth 100000 in
set_option maxHeartbeats 1000000 in
theorem kind6 (w : World) : KindOf 6 w := by
  unfold KindOf
  go_enter Tryz.func86, Tryz.ntmps86
  go_wp2
  go_ret
  exact ⟨_, rfl, Kd.plain 6 _ (by decide) (by decide), below2 w _ _⟩

set_option maxRecDepth 100000 in
set_option maxHeartbeats 1000000 in
theorem kind10 (w : World) : KindOf 10 w := by
  unfold KindOf
  go_enter Tryz.func86, Tryz.ntmps86
  go_wp2
  go_ret
  exact ⟨_, rfl, Kd.fail _ _, below2 w _ _⟩

set_option maxRecDepth 100000 in
set_option maxHeartbeats 1000000 in
theorem kind13 (w : World) : KindOf 13 w := by
  unfold KindOf
  go_enter Tryz.func86, Tryz.ntmps86
  go_wp2
  go_ret
  exact ⟨_, rfl, Kd.unit, below2 w _ _⟩

set_option maxRecDepth 100000 in
set_option maxHeartbeats 1000000 in
theorem kind12 (w : World) : KindOf 12 w := by
  unfold KindOf
  go_enter Tryz.func86, Tryz.ntmps86
  go_wp2
  go_ret
  exact ⟨_, rfl, Kd.nilp, below2 w _ _⟩

set_option maxRecDepth 100000 in
set_option maxHeartbeats 1000000 in
theorem kind3 (w : World) : KindOf 3 w := by
  unfold KindOf
  have hf : ∀ w : World, (callFunc 41 #[.int .u64 0]).run Tryz.prog w = .ok (.value (.float .f64 0)) w := fun _ => by kernel_rfl
  go_enter Tryz.func86, Tryz.ntmps86
  go_wp2
  go_ret
  exact ⟨_, rfl, Kd.plain 3 _ (by decide) (by decide), below2 w _ _⟩

set_option maxRecDepth 100000 in
set_option maxHeartbeats 1000000 in
theorem kind7 (w : World) : KindOf 7 w := by
  unfold KindOf
  have hc := fun w : World => Lib.run_convert_string_bytes (P := Tryz.prog) w 9 147 5 ⟨#[]⟩ Tryz.underlying9 Tryz.underlying147 Tryz.underlying5
  go_enter Tryz.func86, Tryz.ntmps86
  go_wp2
  go_ret
  exact ⟨_, rfl, Kd.plain 7 _ (by decide) (by decide), (below2 w _ _).trans ((Lib.bytesWorld_below _ 5 _).mono (by simp; omega))⟩

set_option maxRecDepth 100000 in
set_option maxHeartbeats 1000000 in
theorem row0 (w : World) : Calls Tryz.prog 98 #[.agg #[.map none], .slice none 0 0] w fun e w' => ∃ v, e = .returned v ∧ Below w.heap.size w w' := by
  have hmk : ∀ w : World, (Instr.makeSlice 149 (.int .i64 0) (.int .i64 0)).run Tryz.prog w = .ok (.slice (some ⟨w.heap.size, 0, none⟩) 0 0) (w.alloc (.cells #[] 20)) := fun _ => by kernel_rfl
  go_enter Tryz.func98, Tryz.ntmps98
  go_wp2_with fail
  refine wp_loop_rounds 1 ?_
  rw [rounds_succ]
  go_wp2
  go_ret
  exact ⟨_, rfl, below2 w _ _⟩
set_option maxRecDepth 100000 in
set_option maxHeartbeats 1000000 in
theorem kind8 (w : World) : KindOf 8 w := by
  unfold KindOf
  go_enter Tryz.func86, Tryz.ntmps86
  go_wp2_with fail
  refine (row0 _).mono ?_
  rintro e w1 ⟨v, rfl, b1⟩
  go_wp2
  go_ret
  exact ⟨_, rfl, Kd.plain 8 _ (by decide) (by decide), (below2 w _ _).trans (b1.mono (by simp; omega))⟩

set_option maxRecDepth 100000 in
set_option maxHeartbeats 1000000 in
theorem kindNo (k : Int) (w : World) (h : k < 1 ∨ 13 < k) : KindOf k w := by
  unfold KindOf
  have hk : Kd k .nilIface := .inl ⟨h, rfl⟩
  have h1 : (k == 1) = false := by simp; omega
  have h2 : (k == 2) = false := by simp; omega
  have h3 : (k == 3) = false := by simp; omega
  have h4 : (k == 4) = false := by simp; omega
  have h5 : (k == 5) = false := by simp; omega
  have h6 : (k == 6) = false := by simp; omega
  have h7 : (k == 7) = false := by simp; omega
  have h8 : (k == 8) = false := by simp; omega
  have h9 : (k == 9) = false := by simp; omega
  have h10 : (k == 10) = false := by simp; omega
  have h11 : (k == 11) = false := by simp; omega
  have h12 : (k == 12) = false := by simp; omega
  have h13 : (k == 13) = false := by simp; omega
  clear h
  go_enter Tryz.func86, Tryz.ntmps86
  go_wp2
  go_ret
  exact ⟨_, rfl, hk, below2 w _ _⟩

set_option maxRecDepth 100000 in
set_option maxHeartbeats 1000000 in
theorem place0 (i : Int) (hi : 0 ≤ i) (w : World) : Calls Tryz.prog 99 #[.agg #[.map none], .slice none 0 0, .int .i64 i] w fun e w' => e = .returned .nilIface ∧ w' = w.alloc (.cells #[.map none] 132) := by
  go_enter Tryz.func99, Tryz.ntmps99
  go_wp2
  go_ret
  exact ⟨rfl, rfl⟩

set_option maxRecDepth 100000 in
set_option maxHeartbeats 4000000 in
theorem kind9 (w : World) : KindOf 9 w := by
  unfold KindOf
  go_enter Tryz.func86, Tryz.ntmps86
  go_wp2_with fail
  go_region_held3 (fun w' => w'.cell? ⟨w.heap.size, 0, none⟩ = some (.map none) ∧ w'.cell? ⟨w.heap.size + 1, 4, none⟩ = some (.slice none 0 0)) (go_keep) ((go_at_call 99; refine (place0 _ (by decide) _).mono ?_; rintro e w' ⟨rfl, rfl⟩))
  all_goals go_wp2
  all_goals go_ret
  all_goals refine ⟨_, rfl, Kd.pair _ _ (.inl rfl) (.inl rfl), ?_⟩
  all_goals exact (((((Below.refl _ w).alloc (Nat.le_refl _) _).alloc (by simp) _).alloc (by simp; omega) _).alloc (by simp; omega) _).drew

set_option maxRecDepth 100000 in
set_option maxHeartbeats 1000000 in
theorem pointer0 (w : World) : Calls Tryz.prog 100 #[.agg #[.map none], .agg #[.int .i64 11, .int .i64 0, .int .u64 0, .string ⟨#[]⟩, .slice none 0 0]] w fun e w' => ∃ a, e = .returned (.pointer (some a)) ∧ Below w.heap.size w w' := by
  have hmn := fun w : World => run_eql_map_nil (P := Tryz.prog) w 130 _ _ none Tryz.underlying130
  go_enter Tryz.func100, Tryz.ntmps100
  go_wp2_with fail
  go_region_held3 (fun w' => w'.cell? ⟨w.heap.size, 0, none⟩ = some (.map none) ∧ w'.cell? ⟨w.heap.size + 1, 1, none⟩ = some (.int .i64 0) ∧ w'.cell? ⟨w.heap.size + 1, 4, none⟩ = some (.slice none 0 0)) (go_keep) ((go_at_call 99; refine (place0 _ (by decide) _).mono ?_; rintro e w' ⟨rfl, rfl⟩))
  all_goals go_wp2
  all_goals go_ret
  all_goals refine ⟨_, rfl, ?_⟩
  all_goals exact (((((Below.refl _ w).alloc (Nat.le_refl _) _).alloc (by simp) _).alloc (by simp; omega) _).alloc (by simp; omega) _).drew

set_option maxRecDepth 100000 in
set_option maxHeartbeats 1000000 in
theorem kind11 (w : World) : KindOf 11 w := by
  unfold KindOf
  go_enter Tryz.func86, Tryz.ntmps86
  go_wp2_with fail
  refine (pointer0 _).mono ?_
  rintro e w1 ⟨a, rfl, b1⟩
  go_wp2
  go_ret
  exact ⟨_, rfl, Kd.ptr a, (below2 w _ _).trans (b1.mono (by simp; omega))⟩

theorem kind_any (k : Int) (w : World) : KindOf k w := by
  by_cases h : k < 1 ∨ 13 < k
  · exact kindNo k w h
  have hk : k = 1 ∨ k = 2 ∨ k = 3 ∨ k = 4 ∨ k = 5 ∨ k = 6 ∨ k = 7 ∨ k = 8 ∨ k = 9 ∨ k = 10 ∨ k = 11 ∨ k = 12 ∨ k = 13 := by omega
  rcases hk with rfl | rfl | rfl | rfl | rfl | rfl | rfl | rfl | rfl | rfl | rfl | rfl | rfl
  · exact kind1 w
  · exact kind2 w
  · exact kind3 w
  · exact kind4 w
  · exact kind5 w
  · exact kind6 w
  · exact kind7 w
  · exact kind8 w
  · exact kind9 w
  · exact kind10 w
  · exact kind11 w
  · exact kind12 w
  · exact kind13 w

set_option maxRecDepth 100000 in
set_option maxHeartbeats 1000000 in
theorem of_kind (k : Int) (w : World) : Calls Tryz.prog 76 #[.agg #[.int .i64 k, .int .i64 0, .int .u64 0, .string ⟨#[]⟩, .slice none 0 0]] w fun e w' => ∃ u, e = .returned u ∧ Kd k u ∧ Below w.heap.size w w' := by
  have H := Lib.hid (kind_any k)
  go_enter Tryz.func76, Tryz.ntmps76
  go_wp2_with fail
  refine (H.out _).mono ?_
  rintro e w1 ⟨u, rfl, hx, b1⟩
  go_wp2
  go_ret
  exact ⟨u, rfl, hx, (below1 w _).trans (b1.mono (by simp))⟩

set_option maxRecDepth 100000 in
set_option maxHeartbeats 1000000 in
/-- Some value of a kind. -/
theorem ofKind_any (k : Int) (w : World) : Calls Tryz.prog 46 #[.int .i64 k] w fun e w' => ∃ u, e = .returned u ∧ Kd k u ∧ Below w.heap.size w w' := by
  have H := Lib.hid (of_kind k)
  go_enter Tryz.func46, Tryz.ntmps46
  go_wp2_with fail
  refine (H.out _).mono ?_
  rintro e w1 ⟨u, rfl, hx, b1⟩
  go_wp2
  go_ret
  exact ⟨u, rfl, hx, b1⟩
end Go.Proofs.YtajagjcfmaggiaaGreatDoor
/- Which question the package asks for a kind's type, and which for an interface's number; no condition. -/
namespace Go.Proofs.YtajagjcfmaggiaaGreatDoor
open Go.RowKit

/-- The question's type for a kind. -/
def qty (k : Int) : Nat :=
  if k = 1 then 105 else if k = 2 then 106 else if k = 3 then 107 else if k = 4 then 108 else if k = 5 then 109 else if k = 6 then 110 else if k = 7 then 111 else if k = 8 then 112 else if k = 9 then 113 else if k = 10 then 114 else if k = 11 then 115 else if k = 12 then 116 else if k = 13 then 117 else 118
/-- The question's type for an interface, and its methods as bits. -/
def qfc (f : Int) : Nat :=
  if f = 0 then 119 else if f = 1 then 120 else if f = 2 then 121 else if f = 3 then 122 else if f = 4 then 123 else if f = 5 then 124 else if f = 6 then 125 else if f = 7 then 126 else if f = 8 then 127 else if f = 9 then 128 else 118
def mbits (f : Int) : Int :=
  if f = 0 then 1 else if f = 1 then 2 else if f = 2 then 4 else if f = 3 then 8 else if f = 4 then 16 else if f = 5 then 32 else if f = 6 then 3 else if f = 7 then 17 else if f = 8 then 48 else if f = 9 then 19 else 0

set_option maxRecDepth 100000 in
set_option maxHeartbeats 1000000 in
theorem typeOf1 (w : World) : Calls Tryz.prog 70 #[.int .i64 1] w fun e w' => e = .returned (.iface (qty 1) (.agg #[])) ∧ w' = w := by
  show Calls Tryz.prog 70 #[.int .i64 1] w fun e w' => e = .returned (.iface 105 (.agg #[])) ∧ w' = w
  go_enter Tryz.func70, Tryz.ntmps70
  go_wp2
  go_ret
  exact ⟨rfl, rfl⟩
set_option maxRecDepth 100000 in
set_option maxHeartbeats 1000000 in
theorem typeOf2 (w : World) : Calls Tryz.prog 70 #[.int .i64 2] w fun e w' => e = .returned (.iface (qty 2) (.agg #[])) ∧ w' = w := by
  show Calls Tryz.prog 70 #[.int .i64 2] w fun e w' => e = .returned (.iface 106 (.agg #[])) ∧ w' = w
  go_enter Tryz.func70, Tryz.ntmps70
  go_wp2
  go_ret
  exact ⟨rfl, rfl⟩
set_option maxRecDepth 100000 in
set_option maxHeartbeats 1000000 in
theorem typeOf3 (w : World) : Calls Tryz.prog 70 #[.int .i64 3] w fun e w' => e = .returned (.iface (qty 3) (.agg #[])) ∧ w' = w := by
  show Calls Tryz.prog 70 #[.int .i64 3] w fun e w' => e = .returned (.iface 107 (.agg #[])) ∧ w' = w
  go_enter Tryz.func70, Tryz.ntmps70
  go_wp2
  go_ret
  exact ⟨rfl, rfl⟩
set_option maxRecDepth 100000 in
set_option maxHeartbeats 1000000 in
theorem typeOf4 (w : World) : Calls Tryz.prog 70 #[.int .i64 4] w fun e w' => e = .returned (.iface (qty 4) (.agg #[])) ∧ w' = w := by
  show Calls Tryz.prog 70 #[.int .i64 4] w fun e w' => e = .returned (.iface 108 (.agg #[])) ∧ w' = w
  go_enter Tryz.func70, Tryz.ntmps70
  go_wp2
  go_ret
  exact ⟨rfl, rfl⟩
set_option maxRecDepth 100000 in
set_option maxHeartbeats 1000000 in
theorem typeOf5 (w : World) : Calls Tryz.prog 70 #[.int .i64 5] w fun e w' => e = .returned (.iface (qty 5) (.agg #[])) ∧ w' = w := by
  show Calls Tryz.prog 70 #[.int .i64 5] w fun e w' => e = .returned (.iface 109 (.agg #[])) ∧ w' = w
  go_enter Tryz.func70, Tryz.ntmps70
  go_wp2
  go_ret
  exact ⟨rfl, rfl⟩
set_option maxRecDepth 100000 in
set_option maxHeartbeats 1000000 in
theorem typeOf6 (w : World) : Calls Tryz.prog 70 #[.int .i64 6] w fun e w' => e = .returned (.iface (qty 6) (.agg #[])) ∧ w' = w := by
  show Calls Tryz.prog 70 #[.int .i64 6] w fun e w' => e = .returned (.iface 110 (.agg #[])) ∧ w' = w
  go_enter Tryz.func70, Tryz.ntmps70
  go_wp2
  go_ret
  exact ⟨rfl, rfl⟩
set_option maxRecDepth 100000 in
set_option maxHeartbeats 1000000 in
theorem typeOf7 (w : World) : Calls Tryz.prog 70 #[.int .i64 7] w fun e w' => e = .returned (.iface (qty 7) (.agg #[])) ∧ w' = w := by
  show Calls Tryz.prog 70 #[.int .i64 7] w fun e w' => e = .returned (.iface 111 (.agg #[])) ∧ w' = w
  go_enter Tryz.func70, Tryz.ntmps70
  go_wp2
  go_ret
  exact ⟨rfl, rfl⟩
set_option maxRecDepth 100000 in
set_option maxHeartbeats 1000000 in
theorem typeOf8 (w : World) : Calls Tryz.prog 70 #[.int .i64 8] w fun e w' => e = .returned (.iface (qty 8) (.agg #[])) ∧ w' = w := by
  show Calls Tryz.prog 70 #[.int .i64 8] w fun e w' => e = .returned (.iface 112 (.agg #[])) ∧ w' = w
  go_enter Tryz.func70, Tryz.ntmps70
  go_wp2
  go_ret
  exact ⟨rfl, rfl⟩
set_option maxRecDepth 100000 in
set_option maxHeartbeats 1000000 in
theorem typeOf9 (w : World) : Calls Tryz.prog 70 #[.int .i64 9] w fun e w' => e = .returned (.iface (qty 9) (.agg #[])) ∧ w' = w := by
  show Calls Tryz.prog 70 #[.int .i64 9] w fun e w' => e = .returned (.iface 113 (.agg #[])) ∧ w' = w
  go_enter Tryz.func70, Tryz.ntmps70
  go_wp2
  go_ret
  exact ⟨rfl, rfl⟩
set_option maxRecDepth 100000 in
set_option maxHeartbeats 1000000 in
theorem typeOf10 (w : World) : Calls Tryz.prog 70 #[.int .i64 10] w fun e w' => e = .returned (.iface (qty 10) (.agg #[])) ∧ w' = w := by
  show Calls Tryz.prog 70 #[.int .i64 10] w fun e w' => e = .returned (.iface 114 (.agg #[])) ∧ w' = w
  go_enter Tryz.func70, Tryz.ntmps70
  go_wp2
  go_ret
  exact ⟨rfl, rfl⟩
set_option maxRecDepth 100000 in
set_option maxHeartbeats 1000000 in
theorem typeOf11 (w : World) : Calls Tryz.prog 70 #[.int .i64 11] w fun e w' => e = .returned (.iface (qty 11) (.agg #[])) ∧ w' = w := by
  show Calls Tryz.prog 70 #[.int .i64 11] w fun e w' => e = .returned (.iface 115 (.agg #[])) ∧ w' = w
  go_enter Tryz.func70, Tryz.ntmps70
  go_wp2
  go_ret
  exact ⟨rfl, rfl⟩
set_option maxRecDepth 100000 in
set_option maxHeartbeats 1000000 in
theorem typeOf12 (w : World) : Calls Tryz.prog 70 #[.int .i64 12] w fun e w' => e = .returned (.iface (qty 12) (.agg #[])) ∧ w' = w := by
  show Calls Tryz.prog 70 #[.int .i64 12] w fun e w' => e = .returned (.iface 116 (.agg #[])) ∧ w' = w
  go_enter Tryz.func70, Tryz.ntmps70
  go_wp2
  go_ret
  exact ⟨rfl, rfl⟩
set_option maxRecDepth 100000 in
set_option maxHeartbeats 1000000 in
theorem typeOf13 (w : World) : Calls Tryz.prog 70 #[.int .i64 13] w fun e w' => e = .returned (.iface (qty 13) (.agg #[])) ∧ w' = w := by
  show Calls Tryz.prog 70 #[.int .i64 13] w fun e w' => e = .returned (.iface 117 (.agg #[])) ∧ w' = w
  go_enter Tryz.func70, Tryz.ntmps70
  go_wp2
  go_ret
  exact ⟨rfl, rfl⟩
set_option maxRecDepth 100000 in
set_option maxHeartbeats 1000000 in
theorem typeOfNo (k : Int) (h : k < 1 ∨ 13 < k) (w : World) : Calls Tryz.prog 70 #[.int .i64 k] w fun e w' => e = .returned (.iface (qty k) (.agg #[])) ∧ w' = w := by
  have hq : qty k = 118 := by
    unfold qty
    rw [if_neg (show ¬ k = 1 by omega)]
    rw [if_neg (show ¬ k = 2 by omega)]
    rw [if_neg (show ¬ k = 3 by omega)]
    rw [if_neg (show ¬ k = 4 by omega)]
    rw [if_neg (show ¬ k = 5 by omega)]
    rw [if_neg (show ¬ k = 6 by omega)]
    rw [if_neg (show ¬ k = 7 by omega)]
    rw [if_neg (show ¬ k = 8 by omega)]
    rw [if_neg (show ¬ k = 9 by omega)]
    rw [if_neg (show ¬ k = 10 by omega)]
    rw [if_neg (show ¬ k = 11 by omega)]
    rw [if_neg (show ¬ k = 12 by omega)]
    rw [if_neg (show ¬ k = 13 by omega)]
  rw [hq]
  have h1 : (k == 1) = false := by simp; omega
  have h2 : (k == 2) = false := by simp; omega
  have h3 : (k == 3) = false := by simp; omega
  have h4 : (k == 4) = false := by simp; omega
  have h5 : (k == 5) = false := by simp; omega
  have h6 : (k == 6) = false := by simp; omega
  have h7 : (k == 7) = false := by simp; omega
  have h8 : (k == 8) = false := by simp; omega
  have h9 : (k == 9) = false := by simp; omega
  have h10 : (k == 10) = false := by simp; omega
  have h11 : (k == 11) = false := by simp; omega
  have h12 : (k == 12) = false := by simp; omega
  have h13 : (k == 13) = false := by simp; omega
  clear h hq
  go_enter Tryz.func70, Tryz.ntmps70
  go_wp2
  go_ret
  exact ⟨rfl, rfl⟩
theorem typeOf_any (k : Int) (w : World) : Calls Tryz.prog 70 #[.int .i64 k] w fun e w' => e = .returned (.iface (qty k) (.agg #[])) ∧ w' = w := by
  by_cases h : k < 1 ∨ 13 < k
  · exact typeOfNo k h w
  have hk : k = 1 ∨ k = 2 ∨ k = 3 ∨ k = 4 ∨ k = 5 ∨ k = 6 ∨ k = 7 ∨ k = 8 ∨ k = 9 ∨ k = 10 ∨ k = 11 ∨ k = 12 ∨ k = 13 := by omega
  rcases hk with rfl | rfl | rfl | rfl | rfl | rfl | rfl | rfl | rfl | rfl | rfl | rfl | rfl
  · exact typeOf1 w
  · exact typeOf2 w
  · exact typeOf3 w
  · exact typeOf4 w
  · exact typeOf5 w
  · exact typeOf6 w
  · exact typeOf7 w
  · exact typeOf8 w
  · exact typeOf9 w
  · exact typeOf10 w
  · exact typeOf11 w
  · exact typeOf12 w
  · exact typeOf13 w

set_option maxRecDepth 100000 in
set_option maxHeartbeats 1000000 in
theorem interfaceOf0 (w : World) : Calls Tryz.prog 71 #[.int .i64 0] w fun e w' => e = .returned (.agg #[.iface (qfc 0) (.agg #[]), .int .u8 (mbits 0)]) ∧ Below w.heap.size w w' := by
  show Calls Tryz.prog 71 #[.int .i64 0] w fun e w' => e = .returned (.agg #[.iface 119 (.agg #[]), .int .u8 1]) ∧ Below w.heap.size w w'
  go_enter Tryz.func71, Tryz.ntmps71
  go_wp2
  refine bodyPost_ret (v := .agg #[.iface 119 (.agg #[]), .int .u8 1]) (by simp [results, Tryz.results71, go_sem]) rfl ⟨rfl, ?_⟩
  exact below1 w _
set_option maxRecDepth 100000 in
set_option maxHeartbeats 1000000 in
theorem interfaceOf1 (w : World) : Calls Tryz.prog 71 #[.int .i64 1] w fun e w' => e = .returned (.agg #[.iface (qfc 1) (.agg #[]), .int .u8 (mbits 1)]) ∧ Below w.heap.size w w' := by
  show Calls Tryz.prog 71 #[.int .i64 1] w fun e w' => e = .returned (.agg #[.iface 120 (.agg #[]), .int .u8 2]) ∧ Below w.heap.size w w'
  go_enter Tryz.func71, Tryz.ntmps71
  go_wp2
  refine bodyPost_ret (v := .agg #[.iface 120 (.agg #[]), .int .u8 2]) (by simp [results, Tryz.results71, go_sem]) rfl ⟨rfl, ?_⟩
  exact below1 w _
set_option maxRecDepth 100000 in
set_option maxHeartbeats 1000000 in
theorem interfaceOf2 (w : World) : Calls Tryz.prog 71 #[.int .i64 2] w fun e w' => e = .returned (.agg #[.iface (qfc 2) (.agg #[]), .int .u8 (mbits 2)]) ∧ Below w.heap.size w w' := by
  show Calls Tryz.prog 71 #[.int .i64 2] w fun e w' => e = .returned (.agg #[.iface 121 (.agg #[]), .int .u8 4]) ∧ Below w.heap.size w w'
  go_enter Tryz.func71, Tryz.ntmps71
  go_wp2
  refine bodyPost_ret (v := .agg #[.iface 121 (.agg #[]), .int .u8 4]) (by simp [results, Tryz.results71, go_sem]) rfl ⟨rfl, ?_⟩
  exact below1 w _
set_option maxRecDepth 100000 in
set_option maxHeartbeats 1000000 in
theorem interfaceOf3 (w : World) : Calls Tryz.prog 71 #[.int .i64 3] w fun e w' => e = .returned (.agg #[.iface (qfc 3) (.agg #[]), .int .u8 (mbits 3)]) ∧ Below w.heap.size w w' := by
  show Calls Tryz.prog 71 #[.int .i64 3] w fun e w' => e = .returned (.agg #[.iface 122 (.agg #[]), .int .u8 8]) ∧ Below w.heap.size w w'
  go_enter Tryz.func71, Tryz.ntmps71
  go_wp2
  refine bodyPost_ret (v := .agg #[.iface 122 (.agg #[]), .int .u8 8]) (by simp [results, Tryz.results71, go_sem]) rfl ⟨rfl, ?_⟩
  exact below1 w _
set_option maxRecDepth 100000 in
set_option maxHeartbeats 1000000 in
theorem interfaceOf4 (w : World) : Calls Tryz.prog 71 #[.int .i64 4] w fun e w' => e = .returned (.agg #[.iface (qfc 4) (.agg #[]), .int .u8 (mbits 4)]) ∧ Below w.heap.size w w' := by
  show Calls Tryz.prog 71 #[.int .i64 4] w fun e w' => e = .returned (.agg #[.iface 123 (.agg #[]), .int .u8 16]) ∧ Below w.heap.size w w'
  go_enter Tryz.func71, Tryz.ntmps71
  go_wp2
  refine bodyPost_ret (v := .agg #[.iface 123 (.agg #[]), .int .u8 16]) (by simp [results, Tryz.results71, go_sem]) rfl ⟨rfl, ?_⟩
  exact below1 w _
set_option maxRecDepth 100000 in
set_option maxHeartbeats 1000000 in
theorem interfaceOf5 (w : World) : Calls Tryz.prog 71 #[.int .i64 5] w fun e w' => e = .returned (.agg #[.iface (qfc 5) (.agg #[]), .int .u8 (mbits 5)]) ∧ Below w.heap.size w w' := by
  show Calls Tryz.prog 71 #[.int .i64 5] w fun e w' => e = .returned (.agg #[.iface 124 (.agg #[]), .int .u8 32]) ∧ Below w.heap.size w w'
  go_enter Tryz.func71, Tryz.ntmps71
  go_wp2
  refine bodyPost_ret (v := .agg #[.iface 124 (.agg #[]), .int .u8 32]) (by simp [results, Tryz.results71, go_sem]) rfl ⟨rfl, ?_⟩
  exact below1 w _
set_option maxRecDepth 100000 in
set_option maxHeartbeats 1000000 in
theorem interfaceOf6 (w : World) : Calls Tryz.prog 71 #[.int .i64 6] w fun e w' => e = .returned (.agg #[.iface (qfc 6) (.agg #[]), .int .u8 (mbits 6)]) ∧ Below w.heap.size w w' := by
  show Calls Tryz.prog 71 #[.int .i64 6] w fun e w' => e = .returned (.agg #[.iface 125 (.agg #[]), .int .u8 3]) ∧ Below w.heap.size w w'
  go_enter Tryz.func71, Tryz.ntmps71
  go_wp2
  refine bodyPost_ret (v := .agg #[.iface 125 (.agg #[]), .int .u8 3]) (by simp [results, Tryz.results71, go_sem]) rfl ⟨rfl, ?_⟩
  exact below1 w _
set_option maxRecDepth 100000 in
set_option maxHeartbeats 1000000 in
theorem interfaceOf7 (w : World) : Calls Tryz.prog 71 #[.int .i64 7] w fun e w' => e = .returned (.agg #[.iface (qfc 7) (.agg #[]), .int .u8 (mbits 7)]) ∧ Below w.heap.size w w' := by
  show Calls Tryz.prog 71 #[.int .i64 7] w fun e w' => e = .returned (.agg #[.iface 126 (.agg #[]), .int .u8 17]) ∧ Below w.heap.size w w'
  go_enter Tryz.func71, Tryz.ntmps71
  go_wp2
  refine bodyPost_ret (v := .agg #[.iface 126 (.agg #[]), .int .u8 17]) (by simp [results, Tryz.results71, go_sem]) rfl ⟨rfl, ?_⟩
  exact below1 w _
set_option maxRecDepth 100000 in
set_option maxHeartbeats 1000000 in
theorem interfaceOf8 (w : World) : Calls Tryz.prog 71 #[.int .i64 8] w fun e w' => e = .returned (.agg #[.iface (qfc 8) (.agg #[]), .int .u8 (mbits 8)]) ∧ Below w.heap.size w w' := by
  show Calls Tryz.prog 71 #[.int .i64 8] w fun e w' => e = .returned (.agg #[.iface 127 (.agg #[]), .int .u8 48]) ∧ Below w.heap.size w w'
  go_enter Tryz.func71, Tryz.ntmps71
  go_wp2
  refine bodyPost_ret (v := .agg #[.iface 127 (.agg #[]), .int .u8 48]) (by simp [results, Tryz.results71, go_sem]) rfl ⟨rfl, ?_⟩
  exact below1 w _
set_option maxRecDepth 100000 in
set_option maxHeartbeats 1000000 in
theorem interfaceOf9 (w : World) : Calls Tryz.prog 71 #[.int .i64 9] w fun e w' => e = .returned (.agg #[.iface (qfc 9) (.agg #[]), .int .u8 (mbits 9)]) ∧ Below w.heap.size w w' := by
  show Calls Tryz.prog 71 #[.int .i64 9] w fun e w' => e = .returned (.agg #[.iface 128 (.agg #[]), .int .u8 19]) ∧ Below w.heap.size w w'
  go_enter Tryz.func71, Tryz.ntmps71
  go_wp2
  refine bodyPost_ret (v := .agg #[.iface 128 (.agg #[]), .int .u8 19]) (by simp [results, Tryz.results71, go_sem]) rfl ⟨rfl, ?_⟩
  exact below1 w _
set_option maxRecDepth 100000 in
set_option maxHeartbeats 1000000 in
theorem interfaceOfNo (f : Int) (h : f < 0 ∨ 9 < f) (w : World) : Calls Tryz.prog 71 #[.int .i64 f] w fun e w' => e = .returned (.agg #[.iface (qfc f) (.agg #[]), .int .u8 (mbits f)]) ∧ Below w.heap.size w w' := by
  have hq : qfc f = 118 := by
    unfold qfc
    rw [if_neg (show ¬ f = 0 by omega)]
    rw [if_neg (show ¬ f = 1 by omega)]
    rw [if_neg (show ¬ f = 2 by omega)]
    rw [if_neg (show ¬ f = 3 by omega)]
    rw [if_neg (show ¬ f = 4 by omega)]
    rw [if_neg (show ¬ f = 5 by omega)]
    rw [if_neg (show ¬ f = 6 by omega)]
    rw [if_neg (show ¬ f = 7 by omega)]
    rw [if_neg (show ¬ f = 8 by omega)]
    rw [if_neg (show ¬ f = 9 by omega)]
  have hm : mbits f = 0 := by
    unfold mbits
    rw [if_neg (show ¬ f = 0 by omega)]
    rw [if_neg (show ¬ f = 1 by omega)]
    rw [if_neg (show ¬ f = 2 by omega)]
    rw [if_neg (show ¬ f = 3 by omega)]
    rw [if_neg (show ¬ f = 4 by omega)]
    rw [if_neg (show ¬ f = 5 by omega)]
    rw [if_neg (show ¬ f = 6 by omega)]
    rw [if_neg (show ¬ f = 7 by omega)]
    rw [if_neg (show ¬ f = 8 by omega)]
    rw [if_neg (show ¬ f = 9 by omega)]
  rw [hq, hm]
  have h0 : (f == 0) = false := by simp; omega
  have h1 : (f == 1) = false := by simp; omega
  have h2 : (f == 2) = false := by simp; omega
  have h3 : (f == 3) = false := by simp; omega
  have h4 : (f == 4) = false := by simp; omega
  have h5 : (f == 5) = false := by simp; omega
  have h6 : (f == 6) = false := by simp; omega
  have h7 : (f == 7) = false := by simp; omega
  have h8 : (f == 8) = false := by simp; omega
  have h9 : (f == 9) = false := by simp; omega
  clear h hq hm
  go_enter Tryz.func71, Tryz.ntmps71
  go_wp2
  refine bodyPost_ret (v := .agg #[.iface 118 (.agg #[]), .int .u8 0]) (by simp [results, Tryz.results71, go_sem]) rfl ⟨rfl, ?_⟩
  exact below1 w _
theorem interfaceOf_any (f : Int) (w : World) : Calls Tryz.prog 71 #[.int .i64 f] w fun e w' => e = .returned (.agg #[.iface (qfc f) (.agg #[]), .int .u8 (mbits f)]) ∧ Below w.heap.size w w' := by
  by_cases h : f < 0 ∨ 9 < f
  · exact interfaceOfNo f h w
  have hk : f = 0 ∨ f = 1 ∨ f = 2 ∨ f = 3 ∨ f = 4 ∨ f = 5 ∨ f = 6 ∨ f = 7 ∨ f = 8 ∨ f = 9 := by omega
  rcases hk with rfl | rfl | rfl | rfl | rfl | rfl | rfl | rfl | rfl | rfl
  · exact interfaceOf0 w
  · exact interfaceOf1 w
  · exact interfaceOf2 w
  · exact interfaceOf3 w
  · exact interfaceOf4 w
  · exact interfaceOf5 w
  · exact interfaceOf6 w
  · exact interfaceOf7 w
  · exact interfaceOf8 w
  · exact interfaceOf9 w

theorem impl_none (k f : Int) (h : f < 0 ∨ 9 < f) : impl k f = false := by
  have : mths f = [] := by
    unfold mths
    rw [if_neg (show ¬ f = 0 by omega)]
    rw [if_neg (show ¬ f = 1 by omega)]
    rw [if_neg (show ¬ f = 2 by omega)]
    rw [if_neg (show ¬ f = 3 by omega)]
    rw [if_neg (show ¬ f = 4 by omega)]
    rw [if_neg (show ¬ f = 5 by omega)]
    rw [if_neg (show ¬ f = 6 by omega)]
    rw [if_neg (show ¬ f = 7 by omega)]
    rw [if_neg (show ¬ f = 8 by omega)]
    rw [if_neg (show ¬ f = 9 by omega)]
  unfold impl
  rw [this]
  simp

end Go.Proofs.YtajagjcfmaggiaaGreatDoor
/- An assertion of one value that does not hold panics, and the panic is caught; no condition but those that each theorem names. -/
namespace Go.Proofs.YtajagjcfmaggiaaGreatDoor
open Go.RowKit

theorem tae_any {P : Program} {T E : TypeId} (hr : P.rt.typeAssertionError = T) (hu : P.underlying T = some (.pointer E)) (s d : Option TypeId) (a : TypeId) (m : String) : ∃ o, ∀ w : World, (runtimePanic (.typeAssertion s d a m) : Sem Value).run P w = .halt (.panic (.iface T (.pointer (some ⟨w.heap.size, 0, none⟩)))) (w.alloc o) := by
  refine ⟨.cells #[match s with | some t => typeHandle P t | none => .pointer none, match d with | some t => typeHandle P t | none => .pointer none, typeHandle P a, strVal m] E, fun w => ?_⟩
  simp [runtimePanic, elemOf, newVar, newRow, hr, run_underlying hu]
  try rfl
theorem tae_panic (s d : Option TypeId) (a : TypeId) (m : String) : ∃ o, ∀ w : World, (runtimePanic (.typeAssertion s d a m) : Sem Value).run Tryz.prog w = .halt (.panic (.iface 15 (.pointer (some ⟨w.heap.size, 0, none⟩)))) (w.alloc o) :=
  tae_any (by kernel_rfl) Tryz.underlying15 s d a m

/-- An assertion to a type that is none of an interface: it does not hold. -/
theorem must_ty {t x asserted : TypeId} {d : TypeDesc} {v : Value} (hU : Tryz.prog.underlying asserted = some d) (hd : ∀ m, d ≠ .interface m) (hne : t ≠ asserted) :
    ∃ o, ∀ w : World, (Instr.typeAssert (.iface t v) x asserted false).run Tryz.prog w = .halt (.panic (.iface 15 (.pointer (some ⟨w.heap.size, 0, none⟩)))) (w.alloc o) := by
  obtain ⟨o, ho⟩ := tae_panic (some x) (some t) asserted ""
  refine ⟨o, fun w => ?_⟩
  cases d with
  | interface m => exact absurd rfl (hd m)
  | _ => simp [Instr.typeAssert, run_underlying hU, hne, ho]
theorem must_nil {x asserted : TypeId} {d : TypeDesc} (hU : Tryz.prog.underlying asserted = some d) :
    ∃ o, ∀ w : World, (Instr.typeAssert .nilIface x asserted false).run Tryz.prog w = .halt (.panic (.iface 15 (.pointer (some ⟨w.heap.size, 0, none⟩)))) (w.alloc o) := by
  by_cases hd : ∃ m, d = .interface m
  · obtain ⟨m, rfl⟩ := hd
    obtain ⟨o, ho⟩ := tae_panic none none asserted ""
    exact ⟨o, fun w => by simp [Instr.typeAssert, run_underlying hU, ho]⟩
  · obtain ⟨o, ho⟩ := tae_panic (some x) none asserted ""
    refine ⟨o, fun w => ?_⟩
    cases d with
    | interface m => exact absurd ⟨m, rfl⟩ hd
    | _ => simp [Instr.typeAssert, run_underlying hU, ho]
/-- .. to an interface: a method is lacking. -/
theorem must_lacks {t x asserted : TypeId} {want : Array (String × TypeId)} {v : Value} (hU : Tryz.prog.underlying asserted = some (.interface want)) (h : (Tryz.prog.info? t).map (fun i => (lacking want i.methods).isEmpty) = some false) :
    ∃ o, ∀ w : World, (Instr.typeAssert (.iface t v) x asserted false).run Tryz.prog w = .halt (.panic (.iface 15 (.pointer (some ⟨w.heap.size, 0, none⟩)))) (w.alloc o) := by
  obtain ⟨i, hi, hl⟩ := Option.map_eq_some_iff.1 h
  obtain ⟨m, hm⟩ := missingMethod_some (want := want) (got := i.methods) (fun e => by rw [e] at hl; cases hl)
  obtain ⟨o, ho⟩ := tae_panic none (some t) asserted m
  exact ⟨o, fun w => by simp [Instr.typeAssert, run_underlying hU, typeInfo, hi, hm, ho]⟩
theorem must_has {t x asserted : TypeId} {want : Array (String × TypeId)} {v : Value} (hU : Tryz.prog.underlying asserted = some (.interface want)) (h : (Tryz.prog.info? t).map (fun i => (lacking want i.methods).isEmpty) = some true) (w : World) :
    (Instr.typeAssert (.iface t v) x asserted false).run Tryz.prog w = .ok (.iface t v) w := by
  obtain ⟨i, hi, hl⟩ := Option.map_eq_some_iff.1 h
  simp [Instr.typeAssert, run_underlying hU, typeInfo, hi, missingMethod_none (List.isEmpty_iff.1 hl)]
theorem must_is {t x : TypeId} {d : TypeDesc} {v : Value} (hU : Tryz.prog.underlying t = some d) (hd : ∀ m, d ≠ .interface m) (w : World) :
    (Instr.typeAssert (.iface t v) x t false).run Tryz.prog w = .ok v w := by
  cases d with
  | interface m => exact absurd rfl (hd m)
  | _ => simp [Instr.typeAssert, run_underlying hU]

theorem new_c (w : World) (v : Value) (T : TypeId) : (w.alloc (.cells #[v] T)).cell? ⟨w.heap.size, 0, none⟩ = some v ∧ (w.alloc (.cells #[v] T)).frozen? ⟨w.heap.size, 0, none⟩ = false := by
  have h := heap_alloc_new w (.cells #[v] T)
  generalize w.heap.size = N at h ⊢
  generalize w.alloc (.cells #[v] T) = w' at h ⊢
  simp [World.cell?, World.frozen?, h]

/-- The panic of an assertion that does not hold. -/
def Pan (w w' : World) (e : Ending) : Prop := ∃ a, e = .panicked [{ v := .iface 15 (.pointer (some a)), recovered := false }] ∧ Below w.heap.size w w'

theorem cau_idle (p : Addr) (w : World) :
    CallsD Tryz.prog 138 #[.pointer (some p)] .returning w fun e u' w' => e = .returned (.tuple #[]) ∧ u' = .returning ∧ w' = w := by
  have hn : ∀ w : World, (Instr.typeAssert .nilIface 20 212 true).run Tryz.prog w = .ok (.tuple #[.nilIface, .bool false]) w := fun w => assert_nil Tryz.underlying212 (by kernel_rfl)
  refine callsD_of_wpS Tryz.func138 rfl fun c₀ cs hu => ?_
  apply wpS_seq
  apply wpS_region
  simp [wpOpsS, go_sem, recoverD, hu, Tryz.ntmps138, Exit.thenS, hn]
  apply wpS_seq
  apply wpS_region
  simp [wpOpsS, go_sem, Exit.thenS]
  refine wpS_cond (t := false) (by simp [Act.eval, Array.replicate]) ?_
  simp only [Bool.false_eq_true, if_false]
  refine wpS_of_wp (wp_skip ?_)
  cases c₀
  simp_all [bodyPostS, results, Tryz.results138]

theorem cau_catch (A : Nat) (pa : Addr) (older : List PanicEntry) (w : World) (y : Int) (hc : w.cell? ⟨A, 0, none⟩ = some (.int .i64 y)) (hz : w.frozen? ⟨A, 0, none⟩ = false) :
    CallsD Tryz.prog 138 #[.pointer (some ⟨A, 0, none⟩)] (.panicking ({ v := .iface 15 (.pointer (some pa)), recovered := false } :: older)) w fun e u' w' =>
      e = .returned (.tuple #[]) ∧ u' = .panicking ({ v := .iface 15 (.pointer (some pa)), recovered := true } :: older) ∧ w' = w.setCell ⟨A, 0, none⟩ (.int .i64 20) := by
  have hn : ∀ w : World, (Instr.typeAssert (.iface 15 (.pointer (some pa))) 20 212 true).run Tryz.prog w = .ok (.tuple #[.iface 15 (.pointer (some pa)), .bool true]) w := fun w => run_typeAssert_hasB Tryz.underlying212 (by kernel_rfl) _ _ w
  refine callsD_of_wpS Tryz.func138 rfl fun c₀ cs hu => ?_
  apply wpS_seq
  apply wpS_region
  simp [wpOpsS, go_sem, recoverD, hu, Tryz.ntmps138, Exit.thenS, hn]
  apply wpS_seq
  apply wpS_region
  simp [wpOpsS, go_sem, Exit.thenS]
  refine wpS_cond (t := true) (by simp [Act.eval, Array.replicate]) ?_
  simp only [if_true]
  apply wpS_region
  simp [wpOpsS, go_sem, hc, hz, bodyPostS, results, Tryz.results138]

/-- The question of type Q is asked, panicking, by function F. -/
def MethM (Q F : Nat) : Prop := (∀ w : World, (method 367 Q (.agg #[]) "conduit/want.must").run Tryz.prog w = .ok (F, .agg #[]) w) ∧ ∀ (args : Array Value) (w : World), (callFunc F args).run Tryz.prog w = .ok (.enter F args) w

set_option maxRecDepth 100000 in
set_option maxHeartbeats 1000000 in
theorem caught_no (Q F : Nat) (u : Value) (w : World) (hm : MethM Q F) (hF : ∀ w, Calls Tryz.prog F #[.agg #[], u] w fun e w' => Pan w w' e) :
    Calls Tryz.prog 131 #[.iface Q (.agg #[]), u] w fun e w' => e = .returned (.tuple #[.nilIface, .int .i64 20]) ∧ Below w.heap.size w w' := by
  have hmf : ∀ (fn : Fn) (first cap : Array Value) (w : World), (Instr.makeFunc fn first cap).run Tryz.prog w = .ok (.func fn first cap) w := fun _ _ _ _ => rfl
  obtain ⟨hmm, hcf⟩ := hm
  have HF := Lib.hid hF
  clear hF
  go_enter_defers Tryz.func131, Tryz.ntmps131
  go_wp2_with fail
  refine (HF.out _).mono ?_
  rintro e w1 ⟨pa, rfl, b1⟩
  have b0 := below1 w (.cells #[.int .i64 0] 29)
  have c1 : w1.cell? ⟨w.heap.size, 0, none⟩ = some (.int .i64 0) := (b1.cell (p := ⟨w.heap.size, 0, none⟩) (by simp)).trans (new_c w _ 29).1
  have f1 : w1.frozen? ⟨w.heap.size, 0, none⟩ = false := (b1.frozen (p := ⟨w.heap.size, 0, none⟩) (by simp)).trans (new_c w (.int .i64 0) 29).2
  have B1 := b0.trans (b1.mono b0.size)
  go_wp2
  refine leaves_cons (f := 138) (args := #[.pointer (some ⟨w.heap.size, 0, none⟩)]) (by simp) (by simp [go_sem]) ?_
  refine (cau_catch w.heap.size pa [] _ 0 c1 f1).mono ?_
  rintro e u' w'' ⟨rfl, rfl, rfl⟩
  have g1 : (w1.setCell ⟨w.heap.size, 0, none⟩ (.int .i64 20)).cell? ⟨w.heap.size, 0, none⟩ = some (.int .i64 20) := by simp [World.cell?_setCell_same, c1]
  simp [Leaves, settle, results, Tryz.results131, go_sem, g1]
  exact B1.setCell (Nat.le_refl _) _

set_option maxRecDepth 100000 in
set_option maxHeartbeats 1000000 in
theorem caught_yes (Q F : Nat) (u : Value) (w : World) (hm : MethM Q F) (hF : ∀ w, Calls Tryz.prog F #[.agg #[], u] w fun e w' => e = .returned u ∧ Below w.heap.size w w') :
    Calls Tryz.prog 131 #[.iface Q (.agg #[]), u] w fun e w' => e = .returned (.tuple #[u, .int .i64 0]) ∧ Below w.heap.size w w' := by
  have hmf : ∀ (fn : Fn) (first cap : Array Value) (w : World), (Instr.makeFunc fn first cap).run Tryz.prog w = .ok (.func fn first cap) w := fun _ _ _ _ => rfl
  obtain ⟨hmm, hcf⟩ := hm
  have HF := Lib.hid hF
  clear hF
  go_enter_defers Tryz.func131, Tryz.ntmps131
  go_wp2_with fail
  refine (HF.out _).mono ?_
  rintro e w1 ⟨rfl, b1⟩
  have b0 := below1 w (.cells #[.int .i64 0] 29)
  have c1 : w1.cell? ⟨w.heap.size, 0, none⟩ = some (.int .i64 0) := (b1.cell (p := ⟨w.heap.size, 0, none⟩) (by simp)).trans (new_c w _ 29).1
  have f1 : w1.frozen? ⟨w.heap.size, 0, none⟩ = false := (b1.frozen (p := ⟨w.heap.size, 0, none⟩) (by simp)).trans (new_c w (.int .i64 0) 29).2
  have B1 := b0.trans (b1.mono b0.size)
  go_wp2
  refine leaves_cons (f := 138) (args := #[.pointer (some ⟨w.heap.size, 0, none⟩)]) (by simp) (by simp [go_sem]) ?_
  refine (cau_idle ⟨w.heap.size, 0, none⟩ _).mono ?_
  rintro e u' w'' ⟨rfl, rfl, rfl⟩
  have g1 : (w1.setCell ⟨w.heap.size, 0, none⟩ (.int .i64 0)).cell? ⟨w.heap.size, 0, none⟩ = some (.int .i64 0) := by simp [World.cell?_setCell_same, c1]
  simp [Leaves, settle, results, Tryz.results131, go_sem, g1]
  exact B1.setCell (Nat.le_refl _) _
end Go.Proofs.YtajagjcfmaggiaaGreatDoor
