/- The package's Group of a list of valid values: each one's place is the document's, or the fault of a value that is no key; the conditions: the list's trees in memory and valid, not too many. -/
import Derived.Test.YtgijdiplhcoojaaGreatDoorXGrp
import Derived.Defers
import Derived.Recover
import Derived.Deep.AppendLies
namespace Go.Proofs.YtgijdiplhcoojaaGreatDoor.Dt
open Go.RowKit
theorem ownsRow_base {w : World} {base : Nat} {e : TypeId} {size : Nat} {v : Value} {n : Nat} {xs : List Value} (h : w.ownsRow base e size v n xs) (base' : Nat) (hb : base' ≤ base) : w.ownsRow base' e size v n xs := by
  obtain ⟨h1, h2⟩ := h
  refine ⟨h1, ?_⟩
  rcases h2 with h2 | ⟨g, cap, cur, e1, e2, e3⟩
  · exact .inl h2
  · exact .inr ⟨g, cap, cur, e1, Nat.le_trans hb e2, e3⟩
set_option maxRecDepth 100000 in
set_option maxHeartbeats 1000000 in
theorem sharing (w : World) : Calls Tryz.prog 46 #[] w fun e w' => ∃ k, e = .returned (.agg #[.map (some k)]) ∧ Below w.heap.size w w' ∧ w.heap.size ≤ k ∧ Mp w' k [] := by
  have hmm := @run_makeMap Tryz.prog
  go_enter Tryz.func46, Tryz.ntmps46
  go_wp2
  refine bodyPost_ret (v := .agg #[.map (some (w.heap.size+1))]) (by simp [results, Tryz.results46, go_sem]) rfl ⟨_, rfl, ?_, by omega, ?_⟩
  · exact ((Below.refl _ w).alloc (Nat.le_refl _) _).alloc (by simp) _
  · refine ⟨#[], 0, ?_, rfl⟩
    have := heap_alloc_new (w.alloc (.cells #[.map (some (w.heap.size + 1))] 85)) (.map #[] 0)
    rw [World.size_alloc] at this
    exact this

theorem infoInt : (Tryz.prog.info? 3).map (fun i => (i.zero, i.size, i.bytes)) = some (some (.int .i64 0), 1, 8) := by kernel_rfl
theorem infoInt_parts : ∃ i0, Tryz.prog.info? 3 = some i0 ∧ i0.zero = some (.int .i64 0) ∧ i0.size = 1 ∧ i0.bytes = 8 := by
  have h := infoInt
  cases hi : Tryz.prog.info? 3 with
  | none => rw [hi] at h; cases h
  | some i =>
    rw [hi] at h
    simp only [Option.map_some, Option.some.injEq, Prod.mk.injEq] at h
    exact ⟨i, rfl, h.1, h.2.1, h.2.2⟩
def plc (ts : List (Tr 16)) (j : Nat) : List Value := (List.range j).map fun k => .int .i64 (refAt ts k)
theorem plc_succ (ts : List (Tr 16)) (j : Nat) : plc ts (j + 1) = plc ts j ++ [.int .i64 (refAt ts j)] := by simp [plc, List.range_succ]
theorem fnd_map (f : Value → Bool) (g : Nat → Bool) : ∀ (kl : List (Value × Nat)), (∀ x ∈ kl, f x.1 = g x.2) → fnd f kl = (kl.map (·.2)).find? g
  | [], _ => rfl
  | x :: xs, h => by
    have := fnd_map f g xs (fun y hy => h y (by simp [hy]))
    have hx := h x (by simp)
    unfold fnd at *
    simp only [List.find?_cons, List.map_cons, hx]
    cases g x.2 with
    | true => rfl
    | false => exact this

theorem Fm.lt {w : World} {r : Nat} {kl : List (Value × Nat)} (h : Fm w r kl) : r < w.heap.size := by
  obtain ⟨es, ck, hb, -⟩ := h; exact (Array.getElem?_eq_some_iff.1 hb).1
theorem Fm.below {w w' : World} {r : Nat} {kl : List (Value × Nat)} (h : Fm w r kl) (hb : Below w.heap.size w w') : Fm w' r kl := by
  have := h.lt
  obtain ⟨es, ck, h1, h2⟩ := h
  exact ⟨es, ck, (hb.block r this).trans h1, h2⟩
theorem Fm.kept {w w' : World} {r : Nat} {row : Option Nat} {kl : List (Value × Nat)} (h : Fm w r kl) (hg : w.grownBy w' row) (hne : some r ≠ row) : Fm w' r kl := by
  have := h.lt
  obtain ⟨es, ck, h1, h2⟩ := h
  exact ⟨es, ck, (hg.block r this hne).trans h1, h2⟩
theorem Mp.kept {w w' : World} {r : Nat} {row : Option Nat} {l : List (Int × Nat)} (h : Mp w r l) (hg : w.grownBy w' row) (hne : some r ≠ row) : Mp w' r l := by
  have := h.lt
  obtain ⟨es, ck, h1, h2⟩ := h
  exact ⟨es, ck, (hg.block r this hne).trans h1, h2⟩
theorem Bx.kept {w w' : World} {row : Option Nat} {l : List (Int × Nat)} (h : Bx w l) (hg : w.grownBy w' row) (hne : ∀ k cs, row = some k → w.heap[k]? ≠ some (.cells cs 151 (0, 0))) : Bx w' l := by
  refine ⟨fun i b hm => ?_, h.2⟩
  obtain ⟨cs, hc⟩ := h.1 i b hm
  exact ⟨cs, (hg.block b (Array.getElem?_eq_some_iff.1 hc).1 (fun e => hne b cs e.symm hc)).trans hc⟩
theorem C1.kept_by {w w' : World} {N : Nat} {t : TypeId} {v : Value} {row : Option Nat} (h : C1 w N t v) (hg : w.grownBy w' row) (hne : some N ≠ row) : C1 w' N t v := (hg.block N h.lt hne).trans h
theorem C1.put {w : World} {N : Nat} {t : TypeId} {v : Value} (h : C1 w N t v) (x : Value) : C1 (w.setCell ⟨N, 0, none⟩ x) N t x := by
  unfold C1 at *; simp [World.setCell, Array.getElem?_modify, h]

/-- Where Group stands before its value j. -/
structure Gv (w : World) (mk M : Nat) (ts : List (Tr 16)) (j : Nat) (lb : List (Int × Nat)) (klv : List (Value × Nat)) (sl : Value) (wr : World) : Prop where
  b : Below w.heap.size w wr
  p : C1 wr w.heap.size 42 sl
  f : C1 wr (w.heap.size + 1) 52 (.int .i64 0)
  m : C1 wr M 85 (.map (some mk))
  x : Mp wr mk lb
  y : Bx wr lb
  q : Fm wr (M + 1) klv
  k : klv.map (·.2) = kls ts j
  v : ∀ e ∈ klv, ∃ t, ts[e.2]? = some t ∧ VS lb 16 e.1 t ∧ rgt 16 t = true ∧ keyT 16 t = true
  o : wr.ownsRow (M + 2) 3 1 sl j (plc ts j)
theorem Gv.own {w : World} {mk M : Nat} {ts : List (Tr 16)} {j : Nat} {lb : List (Int × Nat)} {klv : List (Value × Nat)} {sl : Value} {wr : World} (h : Gv w mk M ts j lb klv sl wr) (g : Nat) (hg : sl.ownBlock = some g) : M + 2 ≤ g ∧ g < wr.heap.size ∧ ∃ cs, wr.heap[g]? = some (.cells cs 3 (0, 0)) := by
  rcases h.o.2 with ⟨e, -⟩ | ⟨g', cap, cur, e1, e2, e3, e4⟩
  · rw [e] at hg; cases hg
  · rw [e1] at hg
    have : g' = g := Option.some.inj hg
    subst this
    exact ⟨e2, (Array.getElem?_eq_some_iff.1 e3).1, cur, e3⟩
theorem own_below {w w' : World} {base : Nat} {e : TypeId} {size : Nat} {v : Value} {n : Nat} {xs : List Value} (h : w.ownsRow base e size v n xs) (hb : Below w.heap.size w w') : w'.ownsRow base e size v n xs := by
  obtain ⟨o1, o2⟩ := h
  refine ⟨o1, ?_⟩
  rcases o2 with o2 | ⟨g, cap, cur, e1, e2, e3, e4⟩
  · exact .inl o2
  · exact .inr ⟨g, cap, cur, e1, e2, (hb.block g (Array.getElem?_eq_some_iff.1 e3).1).trans e3, e4⟩
theorem Gv.below {w : World} {mk M : Nat} {ts : List (Tr 16)} {j : Nat} {lb : List (Int × Nat)} {klv : List (Value × Nat)} {sl : Value} {wr w' : World} (h : Gv w mk M ts j lb klv sl wr) (hb : Below wr.heap.size wr w') : Gv w mk M ts j lb klv sl w' :=
  ⟨h.b.trans (hb.mono h.b.size), h.p.below hb, h.f.below hb, h.m.below hb, h.x.below hb, h.y.below hb, h.q.below hb, h.k, h.v, own_below h.o hb⟩
/-- Behind a call of value. -/
theorem Gv.val {w : World} {mk M : Nat} {ts : List (Tr 16)} {j : Nat} {lb lb' : List (Int × Nat)} {klv : List (Value × Nat)} {sl : Value} {wr w' : World} (h : Gv w mk M ts j lb klv sl wr) (h1 : w.heap.size + 2 ≤ mk) (h2 : mk < M) (sh : ShT wr w' mk lb lb') : Gv w mk M ts j lb' klv sl w' := by
  obtain ⟨a1, a2, a3, a4⟩ := sh
  refine ⟨h.b.grown a4 h.b.size (fun k hk => by have := Option.some.inj hk; omega), h.p.kept a4 (by omega), h.f.kept a4 (by omega), h.m.kept a4 (by omega), a1, a2, h.q.kept a4 (fun e => by have := Option.some.inj e; omega), h.k, fun e he => ?_, h.o.kept a4 (.inr (fun e => by have := (h.own mk e).1; omega))⟩
  obtain ⟨t, t1, t2, t3⟩ := h.v e he
  exact ⟨t, t1, vs_mono a3 16 _ _ t2, t3⟩
/-- Behind the store of a first place. -/
theorem Gv.upd {w : World} {mk M : Nat} {ts : List (Tr 16)} {j : Nat} {lb : List (Int × Nat)} {klv : List (Value × Nat)} {sl : Value} {wr w' : World} (h : Gv w mk M ts j lb klv sl wr) (h1 : w.heap.size + 2 ≤ mk) (h2 : mk < M) (v : Value) (hf : Fm w' (M + 1) (klv ++ [(v, j)])) (hg : wr.grownBy w' (some (M + 1))) :
    Below w.heap.size w w' ∧ C1 w' w.heap.size 42 sl ∧ C1 w' (w.heap.size + 1) 52 (.int .i64 0) ∧ C1 w' M 85 (.map (some mk)) ∧ Mp w' mk lb ∧ Bx w' lb ∧ Fm w' (M + 1) (klv ++ [(v, j)]) ∧ w'.ownsRow (M + 2) 3 1 sl j (plc ts j) := by
  refine ⟨h.b.grown hg h.b.size (fun k hk => by have := Option.some.inj hk; omega), h.p.kept hg (by omega), h.f.kept hg (by omega), h.m.kept hg (by omega), h.x.kept hg (fun e => by have := Option.some.inj e; omega), h.y.kept hg (fun k cs hk hc => ?_), hf, h.o.kept hg (.inr (fun e => by have := (h.own _ e).1; omega))⟩
  obtain ⟨es, ck, hm, -⟩ := h.q
  rw [← Option.some.inj hk, hm] at hc
  cases hc

/-- How the look-up goes. -/
theorem Gv.asks {w : World} {mk M : Nat} {ts : List (Tr 16)} {j : Nat} {lb : List (Int × Nat)} {klv : List (Value × Nat)} {sl : Value} {wr : World} (h : Gv w mk M ts j lb klv sl wr) (t : Tr 16) (ht : ts[j]? = some t) (v : Value) (hv : VS lb 16 v t) (hr : rgt 16 t = true) (hk : keyT 16 t = true) :
    ∃ f : Value → Bool, (∀ x ∈ klv, (Op.equal 20 v x.1).run Tryz.prog wr = .ok (f x.1) wr) ∧ fnd f klv = (kls ts j).find? (fun k => eqB ts j k) := by
  have one : ∀ x ∈ klv, (Op.equal 20 v x.1).run Tryz.prog wr = .ok (eqB ts j x.2) wr := fun x hx => by
    obtain ⟨u, u1, u2, u3, u4⟩ := h.v x hx
    have e : eqB ts j x.2 = (eqT 16 16 t u).1 := by simp [eqB, ht, u1]
    rw [e]
    rcases eq_run lb wr h.y 16 16 t u v x.1 9997 hr u3 hv u2 (by omega) with ⟨-, r⟩ | ⟨r, -⟩
    · exact r
    · rw [key_code 16 16 t u hk u4] at r; cases r
  refine ⟨fun u => match (Op.equal 20 v u).run Tryz.prog wr with
    | .ok b _ => b
    | _ => false, fun x hx => by have q := one x hx; simp [q], ?_⟩
  rw [← h.k]
  exact fnd_map _ _ klv fun x hx => by rw [one x hx]
theorem Gv.checks {w : World} {mk M : Nat} {ts : List (Tr 16)} {j : Nat} {lb : List (Int × Nat)} {klv : List (Value × Nat)} {sl : Value} {wr : World} (_h : Gv w mk M ts j lb klv sl wr) (t : Tr 16) (v : Value) (hv : VS lb 16 v t) :
    (keyT 16 t = true ∧ ∀ e, (Instr.checkKey e 10000 20 v).run Tryz.prog wr = .ok () wr) ∨ (keyT 16 t = false ∧ ∀ e, ∃ T pv, (Instr.checkKey e 10000 20 v).run Tryz.prog wr = .halt (.panic (.iface T pv)) wr) := by
  cases hk : keyT 16 t with
  | true =>
    refine .inl ⟨rfl, fun e => ?_⟩
    rcases check_run lb 16 t v 9997 e wr hv (by omega) with ⟨-, r⟩ | ⟨r, -⟩
    · exact r
    · rw [hk] at r; cases r
  | false =>
    refine .inr ⟨rfl, fun e => ?_⟩
    rcases check_run lb 16 t v 9997 e wr hv (by omega) with ⟨r, -⟩ | ⟨-, r⟩
    · rw [hk] at r; cases r
    · exact r
/-- One place more. -/
theorem Gv.next {w : World} {mk M : Nat} {ts : List (Tr 16)} {j : Nat} {lb : List (Int × Nat)} {klv' : List (Value × Nat)} {sl : Value} {wr w3 w4 : World} {g cap : Nat}
    (h1 : w.heap.size + 2 ≤ mk) (h2 : mk < M)
    (B : Below w.heap.size w wr) (f : C1 wr (w.heap.size + 1) 52 (.int .i64 0)) (p : C1 wr w.heap.size 42 sl) (m : C1 wr M 85 (.map (some mk))) (x : Mp wr mk lb) (y : Bx wr lb) (q : Fm wr (M + 1) klv') (o : wr.ownsRow (M + 2) 3 1 sl j (plc ts j))
    (k : klv'.map (·.2) = kls ts (j + 1)) (v : ∀ e ∈ klv', ∃ t, ts[e.2]? = some t ∧ VS lb 16 e.1 t ∧ rgt 16 t = true ∧ keyT 16 t = true)
    (b3 : Below wr.heap.size wr w3) (own : w4.ownsRow (M + 2) 3 1 (.slice (some ⟨g, 0, none⟩) (j + 1) cap) (j + 1) (plc ts j ++ [.int .i64 (refAt ts j)])) (gr : w3.grownBy w4 sl.ownBlock) :
    Gv w mk M ts (j + 1) lb klv' (.slice (some ⟨g, 0, none⟩) (j + 1) cap) (w4.setCell ⟨w.heap.size, 0, none⟩ (.slice (some ⟨g, 0, none⟩) (j + 1) cap)) := by
  have ownb : ∀ g', sl.ownBlock = some g' → M + 2 ≤ g' ∧ ∃ cs, w3.heap[g']? = some (.cells cs 3 (0, 0)) := fun g' hg' => by
    rcases (own_below o b3).2 with ⟨e, -⟩ | ⟨g2, cap2, cur, e1, e2, e3, e4⟩
    · rw [e] at hg'; cases hg'
    · rw [e1] at hg'
      have : g2 = g' := Option.some.inj hg'
      subst this
      exact ⟨e2, cur, e3⟩
  have low : ∀ N, N < M + 2 → some N ≠ sl.ownBlock := fun N hN e => by have := (ownb N e.symm).1; omega
  have B3 := B.trans (b3.mono B.size)
  have hN : ∀ N, N ≠ w.heap.size → (w4.setCell ⟨w.heap.size, 0, none⟩ (.slice (some ⟨g, 0, none⟩) (j + 1) cap)).heap[N]? = w4.heap[N]? := fun N hne => Below.heap_setCell _ _ _ N hne
  refine ⟨?_, ((p.below b3).kept_by gr (low _ (by omega))).put _, ?_, ?_, ?_, ?_, ?_, k, v, ?_⟩
  · exact (B3.grown gr B3.size (fun k hk => by have := (ownb k hk).1; omega)).setCell (by show w.heap.size ≤ w.heap.size; omega) _
  · exact ((f.below b3).kept_by gr (low _ (by omega))).set _ _ (by show w.heap.size + 1 ≠ w.heap.size; omega)
  · exact ((m.below b3).kept_by gr (low _ (by omega))).set _ _ (by show M ≠ w.heap.size; omega)
  · exact ((x.below b3).kept gr (low _ (by omega))).set _ _ (by show mk ≠ w.heap.size; omega)
  · refine Bx.set (Bx.kept (y.below b3) gr (fun k cs hk hc => ?_)) _ _ _
    obtain ⟨-, cs', hc'⟩ := ownb k hk
    rw [hc'] at hc
    cases hc
  · obtain ⟨es, ck, q1, q2⟩ := (q.below b3).kept gr (low _ (by omega))
    exact ⟨es, ck, (hN _ (by omega)).trans q1, q2⟩
  · rw [plc_succ]
    exact ownsRow_setCell_below own (by show w.heap.size < M + 2; omega) _
theorem grp_idle (p q : Addr) (w : World) :
    CallsD Tryz.prog 47 #[.pointer (some p), .pointer (some q)] .returning w fun e u' w' => e = .returned (.tuple #[]) ∧ u' = .returning ∧ w' = w := by
  refine callsD_of_wpS Tryz.func47 rfl fun c₀ cs hu => ?_
  apply wpS_seq
  apply wpS_region
  simp [wpOpsS, go_sem, recoverD, hu, Tryz.ntmps47, Exit.thenS]
  refine wpS_cond (t := false) (by simp [Act.eval, Array.replicate]) ?_
  simp only [Bool.false_eq_true, if_false]
  refine wpS_of_wp (wp_skip ?_)
  cases c₀
  simp_all [bodyPostS, results, Tryz.results47]
theorem grp_catch (A B : Nat) (hAB : B ≠ A) (u : TypeId) (pv : Value) (older : List PanicEntry) (w : World) (x : Value) (y : Int) (hc : w.cell? ⟨A, 0, none⟩ = some x) (hz : w.frozen? ⟨A, 0, none⟩ = false) (hc' : w.cell? ⟨B, 0, none⟩ = some (.int .i64 y)) (hz' : w.frozen? ⟨B, 0, none⟩ = false) :
    CallsD Tryz.prog 47 #[.pointer (some ⟨A, 0, none⟩), .pointer (some ⟨B, 0, none⟩)] (.panicking ({ v := .iface u pv, recovered := false } :: older)) w fun e u' w' =>
      e = .returned (.tuple #[]) ∧ u' = .panicking ({ v := .iface u pv, recovered := true } :: older) ∧ w' = (w.setCell ⟨A, 0, none⟩ (.slice none 0 0)).setCell ⟨B, 0, none⟩ (.int .i64 11) := by
  have hne : (⟨B, 0, none⟩ : Addr) ≠ ⟨A, 0, none⟩ := by simp only [ne_eq, Addr.mk.injEq]; exact fun h => hAB h.1
  have hk : (w.setCell ⟨A, 0, none⟩ (.slice none 0 0)).cell? ⟨B, 0, none⟩ = some (.int .i64 y) := by rw [World.cell?_setCell_other]; exact hc'; exact hne.symm
  have hl : (w.setCell ⟨A, 0, none⟩ (.slice none 0 0)).frozen? ⟨B, 0, none⟩ = false := by simpa using hz'
  refine callsD_of_wpS Tryz.func47 rfl fun c₀ cs hu => ?_
  apply wpS_seq
  apply wpS_region
  simp [wpOpsS, go_sem, recoverD, hu, Tryz.ntmps47, Exit.thenS]
  refine wpS_cond (t := true) (by simp [Act.eval, Array.replicate]) ?_
  simp only [if_true]
  apply wpS_region
  simp [wpOpsS, go_sem, hc, hz, hk, hl, bodyPostS, results, Tryz.results47]

set_option maxRecDepth 100000 in
set_option maxHeartbeats 4000000 in
theorem group_any (ts : List (Tr 16)) (ad : Option Addr) (cap : Nat) (w : World) (hn : ts.length ≤ 2199023255551) (hrg : ∀ t ∈ ts, rgt 16 t = true) (hps : ∀ t ∈ ts, (pts 16 t).1 ≤ 4096)
    (hk : (ts = [] ∨ ∃ g o, ad = some ⟨g, o, none⟩ ∧ ∀ (j : Nat) (t' : Tr 16), ts[j]? = some t' → ∃ v0 v1 v2 v3 v4, w.cell? ⟨g, o + j * 5, none⟩ = some v0 ∧ w.cell? ⟨g, o + j * 5 + 1, none⟩ = some v1 ∧ w.cell? ⟨g, o + j * 5 + 2, none⟩ = some v2 ∧ w.cell? ⟨g, o + j * 5 + 3, none⟩ = some v3 ∧ w.cell? ⟨g, o + j * 5 + 4, none⟩ = some v4 ∧ Rep w 16 [v0, v1, v2, v3, v4] t')) :
    Calls Tryz.prog 34 #[.slice ad ts.length cap] w fun e w' =>
      ((∀ t ∈ ts, keyT 16 t = true) → ∃ sl, e = .returned (.tuple #[sl, .int .i64 0]) ∧ w'.ownsRow w.heap.size 3 1 sl ts.length (plc ts ts.length)) ∧ ((∃ t ∈ ts, keyT 16 t = false) → e = .returned (.tuple #[.slice none 0 0, .int .i64 11])) ∧ Below w.heap.size w w' := by
  have hmf : ∀ (fn : Fn) (first cap : Array Value) (w : World), (Instr.makeFunc fn first cap).run Tryz.prog w = .ok (.func fn first cap) w := fun _ _ _ _ => rfl
  have hmm := @run_makeMap Tryz.prog
  obtain ⟨i0, hi, hz0, hz1, hz2⟩ := infoInt_parts
  have HK := Lib.hid hk
  have HR := Lib.hid hrg
  have HP := Lib.hid hps
  clear hk hrg hps
  go_enter_defers Tryz.func34, Tryz.ntmps34
  go_wp2_with fail
  refine (sharing _).mono ?_
  rintro e w1 ⟨mk, rfl, b1, hmk, mp1⟩
  have hmk' : w.heap.size + 2 ≤ mk := by simp at hmk; omega
  have mpl := mp1.lt
  have bA : Below w.heap.size w ((w.alloc (.cells #[.slice none 0 0] 42)).alloc (.cells #[.int .i64 0] 52)) := ((Below.refl _ w).alloc (Nat.le_refl _) _).alloc (by simp) _
  have bB : Below w1.heap.size w1 ((w1.alloc (.cells #[.map (some mk)] 85)).alloc (.map #[] 0)) := ((Below.refl _ w1).alloc (Nat.le_refl _) _).alloc (by simp) _
  have gv0 : Gv w mk w1.heap.size ts 0 [] [] (.slice none 0 0) ((w1.alloc (.cells #[.map (some mk)] 85)).alloc (.map #[] 0)) := by
    have c0 : C1 ((w.alloc (.cells #[.slice none 0 0] 42)).alloc (.cells #[.int .i64 0] 52)) w.heap.size 42 (.slice none 0 0) := (C1.new w 42 _).below (below1 _ _)
    have c1 : C1 ((w.alloc (.cells #[.slice none 0 0] 42)).alloc (.cells #[.int .i64 0] 52)) (w.heap.size + 1) 52 (.int .i64 0) := by
      have := C1.new (w.alloc (.cells #[.slice none 0 0] 42)) 52 (.int .i64 0)
      rw [World.size_alloc] at this
      exact this
    refine ⟨(bA.trans (b1.mono (by simp; omega))).trans (bB.mono (Nat.le_trans bA.size b1.size)), (c0.below b1).below bB, (c1.below b1).below bB, (C1.new w1 85 _).below (below1 _ _), mp1.below bB, ⟨fun _ _ h => by simp at h, fun _ _ _ _ h => by simp at h⟩, ?_, rfl, fun e he => by simp at he, World.ownsRow_nil _ _ _ _⟩
    refine ⟨#[], 0, ?_, rfl⟩
    have := heap_alloc_new (w1.alloc (.cells #[.map (some mk)] 85)) (.map #[] 0)
    rw [World.size_alloc] at this
    exact this
  generalize hM : w1.heap.size = M at *
  clear b1 bA bB mp1 hmk
  go_wp2_with fail
  go_loopw [16] (fun si wr => ∃ (j : Nat) (lb : List (Int × Nat)) (klv : List (Value × Nat)) (sl : Value), si = .int .i64 j ∧ j ≤ ts.length ∧ Gv w mk M ts j lb klv sl wr ∧ ∀ k t, k < j → ts[k]? = some t → keyT 16 t = true) (fun si _ => ts.length - (intOf si).toNat)
  case atStart => exact ⟨0, [], [], _, rfl, Nat.zero_le _, gv0, fun k _ hk => absurd hk (Nat.not_lt_zero _)⟩
  case round =>
    obtain ⟨j, lb, klv, sl, rfl, hj, gv, hkeys⟩ := hrel
    have HY := Lib.hid hkeys
    clear gv0 hkeys
    by_cases hlt : j < ts.length
    · have hne : ts ≠ [] := by intro e; rw [e] at hlt; exact absurd hlt (Nat.not_lt_zero _)
      rcases HK.out with hk | ⟨g, o, hk1, hk2⟩
      · exact absurd hk hne
      subst hk1
      obtain ⟨v0, v1, v2, v3, v4, e0, e1, e2, e3, e4, rk⟩ := hk2 j _ (List.getElem?_eq_getElem hlt)
      have hg : g < w.heap.size := World.block_lt_of_cell? w _ e0
      have bw := gv.b
      have y0 := (bw.cell (p := ⟨g, o + j * 5, none⟩) hg).trans e0
      have y1 := (bw.cell (p := ⟨g, o + j * 5 + 1, none⟩) hg).trans e1
      have y2 := (bw.cell (p := ⟨g, o + j * 5 + 2, none⟩) hg).trans e2
      have y3 := (bw.cell (p := ⟨g, o + j * 5 + 3, none⟩) hg).trans e3
      have y4 := (bw.cell (p := ⟨g, o + j * 5 + 4, none⟩) hg).trans e4
      clear e0 e1 e2 e3 e4 hk2 HK
      obtain ⟨u0, u1, u2, u3, a4, n4, c4', rfl, rfl, rfl, rfl, rfl⟩ := rep_shape rk
      have cm := gv.m.c
      have hml := gv.m.lt
      go_wp2_with fail
      have ba := below1 wr (.cells #[.int .i64 u0, .int .i64 u1, .int .u64 u2, .string u3, .slice a4 n4 c4'] 25)
      have gv1 := gv.below ba
      refine (value_sh w mk (by omega) 16 ts[j] _ _ _ _ _ lb _ (HR.out _ (List.getElem_mem hlt)) (HP.out _ (List.getElem_mem hlt)) rk gv1.b gv1.x gv1.y).mono ?_
      rintro e w2 ⟨v, lb2, rfl, vs, sh⟩
      have gv2 := gv1.val hmk' (by omega) sh
      have htj : ts[j]? = some ts[j] := List.getElem?_eq_getElem hlt
      clear gv1 gv ba y0 y1 y2 y3 y4 rk cm bw sh hml
      rcases gv2.checks ts[j] v vs with ⟨hkt, hc⟩ | ⟨hkf, hc⟩
      · obtain ⟨f, hf, hfn⟩ := gv2.asks ts[j] htj v vs (HR.out _ (List.getElem_mem hlt)) hkt
        have hlk := look_fm w2 (M + 1) klv gv2.q v f hc hf
        rw [hfn] at hlk
        have HY' : Hid (∀ k t, k < j + 1 → ts[k]? = some t → keyT 16 t = true) := fun k t hk ht => by
          by_cases e : k = j
          · subst e; rw [htj] at ht; rw [← Option.some.inj ht]; exact hkt
          · exact HY.out k t (by omega) ht
        have hv2 := gv2.v
        have hk2 := gv2.k
        have hqm := gv2.q.lt
        rcases kls_at ts j with ⟨q1, q2⟩ | ⟨q1, q2⟩
        · rw [q1] at hlk
          have hlk : (Instr.lookup 87 (.map (some (M + 1))) v true).run Tryz.prog w2 = .ok (.tuple #[.int .i64 0, .bool false]) w2 := hlk
          obtain ⟨w3, hup, fm3, g3⟩ := upd_fm w2 (M + 1) klv gv2.q v j f hc hf (hfn.trans q1)
          obtain ⟨B3, p3, f3, m3, x3, z3, q3, o3⟩ := gv2.upd hmk' (by omega) v fm3 g3
          have hk3 : (klv ++ [(v, j)]).map (·.2) = kls ts (j + 1) := by simp [kls, q2, hk2]
          have hv3 : ∀ e ∈ klv ++ [(v, j)], ∃ t, ts[e.2]? = some t ∧ VS lb2 16 e.1 t ∧ rgt 16 t = true ∧ keyT 16 t = true := fun e he => by
            rcases List.mem_append.1 he with he | he
            · exact hv2 e he
            · simp at he; subst he; exact ⟨_, htj, vs, HR.out _ (List.getElem_mem hlt), hkt⟩
          have HN := Lib.hid (And.intro hk3 (And.intro hv3 q2))
          have pc := p3.c
          have pl := p3.lt
          have ql := q3.lt
          clear hk3 hv3 q2 q1 hfn hf hc hv2 hk2 vs gv2 g3 fm3 htj
          go_wp2_with (at_builtin; refine wpList_append_lies _ rfl _ _ 42 rfl (M + 2) 3 i0 (.int .i64 0) 1 8 Tryz.underlying42 hi hz0 hz1 hz2 rfl (by decide) sl j (plc ts j) rfl (o3.alloc _) ⟨w3.heap.size, 0, none⟩ 1 1 [.int .i64 j] rfl rfl ?hnewsA ?h1A (by decide) ?h63A ?hbyA ?hbaseA _ rfl ?nextA)
          case hnewsA => intro a b hab; exact World.news_of_block (heap_alloc_new w3 _) a b (by simpa using hab)
          case h1A => intro a ha; simp at ha; subst ha; rfl
          case h63A => unfold maxLen; omega
          case hbyA => omega
          case hbaseA => simp; omega
          intro g' cap2 w4 own4 gr4 at4 lt4
          have p4 := (p3.below (below1 _ (.cells #[.int .i64 j] 3))).kept_by gr4 (fun e => by
            rcases o3.2 with ⟨e0, -⟩ | ⟨g2, c2, cu, e1, e2, -⟩
            · rw [e0] at e; cases e
            · rw [e1] at e; have := Option.some.inj e; simp at this; omega)
          have pc4 := p4.c
          have pf4 := p4.f (o := 0)
          have nx := Gv.next hmk' (by omega) B3 f3 p3 m3 x3 z3 q3 o3 HN.out.1 HN.out.2.1 (below1 _ (.cells #[.int .i64 j] 3)) (by rw [HN.out.2.2]; exact own4) gr4
          clear pc p4 own4 gr4 at4 B3 p3 f3 m3 x3 z3 q3 o3
          go_wp2_with fail
          exact ⟨⟨j + 1, lb2, _, _, by go_num, by omega, nx, HY'.out⟩, by simp [intOf]; omega⟩
        · rw [q1] at hlk
          have hlk : (Instr.lookup 87 (.map (some (M + 1))) v true).run Tryz.prog w2 = .ok (.tuple #[.int .i64 (refAt ts j), .bool true]) w2 := hlk
          have hk3 : klv.map (·.2) = kls ts (j + 1) := by
            have : refAt ts j ≠ j := by omega
            simp [kls, this, hk2]
          have HN := Lib.hid (And.intro hk3 hv2)
          generalize hrf : refAt ts j = rf at *
          have HRf := Lib.hid hrf
          have pc := gv2.p.c
          have pl := gv2.p.lt
          have o3 := gv2.o
          clear hk3 q2 q1 hfn hf hc hv2 hk2 vs htj hrf
          go_wp2_with (at_builtin; refine wpList_append_lies _ rfl _ _ 42 rfl (M + 2) 3 i0 (.int .i64 0) 1 8 Tryz.underlying42 hi hz0 hz1 hz2 rfl (by decide) sl j (plc ts j) rfl (o3.alloc _) ⟨w2.heap.size, 0, none⟩ 1 1 [.int .i64 rf] rfl rfl ?hnewsB ?h1B (by decide) ?h63B ?hbyB ?hbaseB _ rfl ?nextB)
          case hnewsB => intro a b hab; exact World.news_of_block (heap_alloc_new w2 _) a b (by simpa using hab)
          case h1B => intro a ha; simp at ha; subst ha; rfl
          case h63B => unfold maxLen; omega
          case hbyB => omega
          case hbaseB => simp; omega
          intro g' cap2 w4 own4 gr4 at4 lt4
          have p4 := (gv2.p.below (below1 _ (.cells #[.int .i64 rf] 3))).kept_by gr4 (fun e => by
            rcases o3.2 with ⟨e0, -⟩ | ⟨g2, c2, cu, e1, e2, -⟩
            · rw [e0] at e; cases e
            · rw [e1] at e; have := Option.some.inj e; simp at this; omega)
          have pc4 := p4.c
          have pf4 := p4.f (o := 0)
          have nx := Gv.next hmk' (by omega) gv2.b gv2.f gv2.p gv2.m gv2.x gv2.y gv2.q gv2.o HN.out.1 HN.out.2 (below1 _ (.cells #[.int .i64 rf] 3)) (by rw [HRf.out]; exact own4) gr4
          clear pc p4 own4 gr4 at4 gv2 o3
          go_wp2_with fail
          exact ⟨⟨j + 1, lb2, _, _, by go_num, by omega, nx, HY'.out⟩, by simp [intOf]; omega⟩
      · obtain ⟨T, pv, hlk⟩ := look_no w2 (M + 1) klv gv2.q v hc
        have c4 := gv2.p.c
        have c5 := gv2.p.f (o := 0)
        have f4 := gv2.f.c
        have f5 := gv2.f.f (o := 0)
        have B3 := gv2.b
        have HZ : Hid (∃ t, t ∈ ts ∧ keyT 16 t = false) := ⟨_, List.getElem_mem hlt, hkf⟩
        clear gv2 vs hc htj hkf
        go_wp2
        refine leaves_cons (f := 47) (args := #[.pointer (some ⟨w.heap.size, 0, none⟩), .pointer (some ⟨w.heap.size + 1, 0, none⟩)]) (by simp) (by simp [go_sem]) ?_
        refine (grp_catch w.heap.size (w.heap.size + 1) (by omega) T pv [] _ _ 0 c4 c5 f4 f5).mono ?_
        rintro e u' w'' ⟨rfl, rfl, rfl⟩
        have g1 : (w2.setCell ⟨w.heap.size, 0, none⟩ (.slice none 0 0)).cell? ⟨w.heap.size, 0, none⟩ = some (.slice none 0 0) := by simp [World.cell?_setCell_same, c4]
        have g2 : ((w2.setCell ⟨w.heap.size, 0, none⟩ (.slice none 0 0)).setCell ⟨w.heap.size + 1, 0, none⟩ (.int .i64 11)).cell? ⟨w.heap.size + 1, 0, none⟩ = some (.int .i64 11) := by simp [World.cell?_setCell_same, World.cell?_setCell_other, f4]
        simp [Leaves, settle, results, Tryz.results34, go_sem, g1, g2]
        exact ⟨HZ.out, (B3.setCell (by show w.heap.size ≤ w.heap.size; omega) _).setCell (by show w.heap.size ≤ w.heap.size + 1; omega) _⟩
    · have hje : j = ts.length := by omega
      subst hje
      have HL : Hid (∀ t ∈ ts, keyT 16 t = true) := fun t ht => by
        obtain ⟨k, hk, rfl⟩ := List.getElem_of_mem ht
        exact HY.out k _ hk (List.getElem?_eq_getElem hk)
      have c4 := gv.p.c
      have c5 := gv.p.f (o := 0)
      have f4 := gv.f.c
      have f5 := gv.f.f (o := 0)
      have B3 := gv.b
      have O3 := gv.o
      clear gv
      obtain ⟨a', l', c', rfl⟩ : ∃ a l c, sl = .slice a l c := by
        rcases O3.2 with ⟨e, -⟩ | ⟨g', cap', cur, e, -⟩
        · exact ⟨_, _, _, e⟩
        · exact ⟨_, _, _, e⟩
      go_wp2
      refine leaves_cons (f := 47) (args := #[.pointer (some ⟨w.heap.size, 0, none⟩), .pointer (some ⟨w.heap.size + 1, 0, none⟩)]) (by simp) (by simp [go_sem]) ?_
      refine (grp_idle ⟨w.heap.size, 0, none⟩ ⟨w.heap.size + 1, 0, none⟩ _).mono ?_
      rintro e u' w'' ⟨rfl, rfl, rfl⟩
      have g1 : (wr.setCell ⟨w.heap.size, 0, none⟩ (.slice a' l' c')).cell? ⟨w.heap.size, 0, none⟩ = some (.slice a' l' c') := by simp [World.cell?_setCell_same, c4]
      have g2 : ((wr.setCell ⟨w.heap.size, 0, none⟩ (.slice a' l' c')).setCell ⟨w.heap.size + 1, 0, none⟩ (.int .i64 0)).cell? ⟨w.heap.size + 1, 0, none⟩ = some (.int .i64 0) := by simp [World.cell?_setCell_same, World.cell?_setCell_other, f4]
      have O4 := ownsRow_setCell_below (ownsRow_setCell_below O3 (a := ⟨w.heap.size, 0, none⟩) (by show w.heap.size < M + 2; omega) (.slice a' l' c')) (a := ⟨w.heap.size + 1, 0, none⟩) (by show w.heap.size + 1 < M + 2; omega) (.int .i64 0)
      have O5 := ownsRow_base O4 w.heap.size (by omega)
      have HO := Lib.hid O5
      clear O3 O4 O5
      simp [Leaves, settle, results, Tryz.results34, go_sem, g1, g2]
      exact ⟨fun _ => HO.out, HL.out, (B3.setCell (by show w.heap.size ≤ w.heap.size; omega) _).setCell (by show w.heap.size ≤ w.heap.size + 1; omega) _⟩
end Go.Proofs.YtgijdiplhcoojaaGreatDoor.Dt
