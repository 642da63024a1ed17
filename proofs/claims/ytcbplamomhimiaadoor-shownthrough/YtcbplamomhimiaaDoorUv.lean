/- Who answers, what is reached and what is shown, in the package: as the plain functions say; what is asked of the world: the chain where it is told to lie, the table of words as its text lays it. -/
import Derived.Test.YtcbplamomhimiaaDoorUu
namespace Go.Proofs.YtcbplamomhimiaaDoor
open Go.RowKit

/-- A chain as it is asked for here, its wrappers in memory; and the table of words. -/
structure ChOk (w : World) (c : Nat) (ad : Option Addr) (qs : List Wq) : Prop where
  c : c < 1024
  q : ∀ q ∈ qs, okr q.x
  l : qs.length ≤ 60
  r : WRow w ad qs
  n : Wds w
theorem ChOk.below {w w' : World} {c : Nat} {ad : Option Addr} {qs : List Wq} (h : ChOk w c ad qs) (hb : Below w.heap.size w w') : ChOk w' c ad qs := ⟨h.c, h.q, h.l, h.r.below hb, h.n.below hb⟩
theorem ChOk.cp {w : World} {c : Nat} {ad : Option Addr} {qs : List Wq} (h : ChOk w c ad qs) (j : Nat) : ∀ x ∈ rv qs j, x.cp < 1024 := fun x hx => by
  obtain ⟨q, hq, rfl⟩ := rv_mem qs j x hx
  exact (h.q q hq).2.2
theorem ChOk.lv {w : World} {c : Nat} {ad : Option Addr} {qs : List Wq} (h : ChOk w c ad qs) (j : Nat) (hj : j ≤ qs.length) : LV (3 * j) (lev c (rv qs j)) j (sh c (rv qs j)) (fun k => an (rv qs j) k) := by
  have := lv_lev (c := c) (by have := h.c; omega) (h.cp j) (by rw [rv_len qs j hj]; have := h.l; omega)
  rwa [rv_len qs j hj] at this
theorem ChOk.lt {w : World} {c : Nat} {ad : Option Addr} {qs : List Wq} (h : ChOk w c ad qs) (j : Nat) : sh c (rv qs j) < 2048 := sh_lt (by have := h.c; omega) (h.cp j)

set_option maxRecDepth 100000 in
set_option maxHeartbeats 4000000 in
theorem outer_any (op num : Int) (c : Nat) (qs : List Wq) (ad : Option Addr) (cap : Nat) (w : World) (h : ChOk w c ad qs) :
    Calls Tryd.prog 35 #[.agg #[.int .i64 op, .int .i64 num, .int .u32 (c : Nat), .slice ad qs.length cap]] w fun e w' => e = .returned (lev c (rv qs qs.length)) ∧ Below w.heap.size w w' := by
  have KL : Hid (∀ wx, On w (.cells #[.int .i64 op, .int .i64 num, .int .u32 (c : Nat), .slice ad qs.length cap] 28) wx → Calls Tryd.prog 33 #[.agg #[.int .i64 op, .int .i64 num, .int .u32 (c : Nat), .slice ad qs.length cap]] wx fun e w' => ∃ g cp, e = .returned (.slice (some ⟨g, 0, none⟩) (qs.length + 1) cp) ∧ w'.cell? ⟨g, qs.length, none⟩ = some (lev c (rv qs qs.length)) ∧ On w (.cells #[.int .i64 op, .int .i64 num, .int .u32 (c : Nat), .slice ad qs.length cap] 28) w') := fun wx hx => (levels_any op num c qs ad cap wx h.q h.l (h.r.below hx.below)).mono fun e w' ⟨g, cp, a, h1, h2, ho, hb⟩ => ⟨g, cp, a, own_cell ho _ _ (lrow_at c qs _ _ (by omega)), hx.step hb⟩
  obtain ⟨t, z, ez⟩ := lev_ifc c (rv qs qs.length)
  rw [ez] at KL ⊢
  have b0 := On.start w (.cells #[.int .i64 op, .int .i64 num, .int .u32 (c : Nat), .slice ad qs.length cap] 28)
  have HS : Hid (∀ wx, On w (.cells #[.int .i64 op, .int .i64 num, .int .u32 (c : Nat), .slice ad qs.length cap] 28) wx → wx.cell? ⟨w.heap.size, 3, none⟩ = some (.slice ad qs.length cap)) := fun wx h => h.cell 3
  clear ez h
  have hij : ((qs.length : Nat) : Int) < (qs.length : Int) + 1 := by omega
  go_enter Tryd.func35, Tryd.ntmps35
  go_wp2_with (first
    | (go_at_call 33; refine (KL.out _ b0).mono ?_; rintro e w2 ⟨g, cp, rfl, hc, b2⟩; have x3 := HS.out _ b2))
  go_ret
  exact ⟨rfl, b2.below⟩
set_option maxRecDepth 100000 in
set_option maxHeartbeats 4000000 in
theorem who_any {d n s : Nat} {v : Value} {a : Int → Nat} (k : Int) (hd : d < 224) (hs' : s < 2048) (h : LV d v n s a) (w : World) (hN : Wds w) :
    Calls Tryd.prog 38 #[v, .int .i64 k] w fun e w' => e = .returned (.int .i64 (if hs s k = true then (a k : Nat) else -1)) ∧ Below w.heap.size w w' := by
  have hmf := mkf
  have KH : Hid (∀ W, Wds W → Calls Tryd.prog 36 #[.int .u32 (s : Nat), .int .i64 k] W fun e w' => e = .returned (.bool (hs s k)) ∧ w' = W) := fun W h => phas_any s k (by omega) W h
  obtain ⟨t, z, F, z', e1, hmm, hcf, hC⟩ := h.shw.get hd
  obtain ⟨t', z'', G, y', e2, hmm', hcf', hC'⟩ := (h.ans k).get hd
  rw [e1] at e2
  injection e2 with e2 e3
  subst e2 e3 e1
  have K1 : Hid (Calls Tryd.prog F #[z'] w fun e w' => e = .returned (.int .u32 s) ∧ Below w.heap.size w w' ∧ Wds w') := (hC.out w hN).mono fun e w' ⟨a, b⟩ => ⟨a, b, hN.below b⟩
  have K2 : Hid (∀ wx, Below w.heap.size w wx → Calls Tryd.prog G #[y', .int .i64 k] wx fun e w' => e = .returned (.int .i64 (a k : Nat)) ∧ Below w.heap.size w w') := fun wx hx => (hC'.out wx (hN.below hx)).mono fun e w' ⟨a, b⟩ => ⟨a, hx.trans (b.mono hx.size)⟩
  clear hC hC' h hN
  generalize a k = ak at K2 ⊢
  cases hb : hs s k with
  | true =>
    rw [hb] at KH
    rw [if_pos rfl]
    clear hb
    go_enter Tryd.func38, Tryd.ntmps38
    go_wp2_with fail
    refine K1.out.mono ?_
    rintro e w1 ⟨rfl, b1, n1⟩
    go_wp2_with (first
      | (go_at_call 36; refine (KH.out _ n1).mono ?_; rintro e w2 ⟨rfl, rfl⟩)
      | fail)
    refine (K2.out _ b1).mono ?_
    rintro e w3 ⟨rfl, b3⟩
    go_wp2
    go_ret
    exact ⟨rfl, b3⟩
  | false =>
    rw [hb] at KH
    rw [if_neg (by simp)]
    clear hb
    go_enter Tryd.func38, Tryd.ntmps38
    go_wp2_with fail
    refine K1.out.mono ?_
    rintro e w1 ⟨rfl, b1, n1⟩
    go_wp2_with (first
      | (go_at_call 36; refine (KH.out _ n1).mono ?_; rintro e w2 ⟨rfl, rfl⟩)
      | fail)
    go_ret
    exact ⟨rfl, b1⟩
theorem whol {c : Nat} (hc : c < 2048) {ws : List Wr} (hw : ∀ x ∈ ws, x.cp < 1024) (hl : ws.length ≤ 60) (k : Int) (w : World) (hN : Wds w) :
    Calls Tryd.prog 38 #[lev c ws, .int .i64 k] w fun e w' => e = .returned (.int .i64 (who c ws k)) ∧ Below w.heap.size w w' :=
  who_any k (by omega) (sh_lt hc hw) (lv_lev hc hw hl) w hN

/-! ### reach -/
set_option maxRecDepth 100000 in
set_option maxHeartbeats 4000000 in
theorem reach_at (v : Value) (k x : Int) (hx : 0 ≤ x) (w : World) (hW : Calls Tryd.prog 38 #[v, .int .i64 k] w fun e w' => e = .returned (.int .i64 x) ∧ Below w.heap.size w w') :
    Calls Tryd.prog 40 #[v, .int .i64 k] w fun e w' => e = .returned (.int .i64 x) ∧ Below w.heap.size w w' := by
  have KW := Lib.hid hW
  clear hW
  go_enter Tryd.func40, Tryd.ntmps40
  go_wp2_with (first
    | (go_at_call 38; refine KW.out.mono ?_; rintro e w2 ⟨rfl, b2⟩))
  go_ret
  exact ⟨rfl, b2⟩
set_option maxRecDepth 100000 in
set_option maxHeartbeats 4000000 in
theorem reach_shut (v : Value) (k : Int) (w : World) (ha : ∀ w, (Instr.typeAssert v 54 90 true).run Tryd.prog w = .ok (.tuple #[.nilIface, .bool false]) w) (hW : Calls Tryd.prog 38 #[v, .int .i64 k] w fun e w' => e = .returned (.int .i64 (-1)) ∧ Below w.heap.size w w') :
    Calls Tryd.prog 40 #[v, .int .i64 k] w fun e w' => e = .returned (.int .i64 (-1)) ∧ Below w.heap.size w w' := by
  have KW := Lib.hid hW
  clear hW
  go_enter Tryd.func40, Tryd.ntmps40
  go_wp2_with (first
    | (go_at_call 38; refine KW.out.mono ?_; rintro e w2 ⟨rfl, b2⟩))
  go_ret
  exact ⟨rfl, b2⟩
set_option maxRecDepth 100000 in
set_option maxHeartbeats 4000000 in
theorem opens_f (t : TypeId) (z : Value) (o : Nat) (t' : TypeId) (z' : Value) (w : World) : Calls Tryd.prog 86 #[.agg #[.iface t z, .int .u32 (o : Nat), .iface t' z']] w fun e w' => e = .returned (.iface t' z') ∧ Below w.heap.size w w' := by
  go_enter Tryd.func86, Tryd.ntmps86
  go_wp2
  go_ret
  exact ⟨rfl, by first | exact below1 _ _ | exact Below.refl _ _⟩
set_option maxRecDepth 100000 in
set_option maxHeartbeats 4000000 in
theorem reach_open (t : TypeId) (z : Value) (o : Nat) (t' : TypeId) (z' : Value) (k x : Int) (w : World) (hW : Calls Tryd.prog 38 #[.iface 86 (.agg #[.iface t z, .int .u32 (o : Nat), .iface t' z']), .int .i64 k] w fun e w' => e = .returned (.int .i64 (-1)) ∧ Below w.heap.size w w')
    (hR : ∀ wx, Below w.heap.size w wx → Calls Tryd.prog 40 #[.iface t' z', .int .i64 k] wx fun e w' => e = .returned (.int .i64 x) ∧ Below w.heap.size w w') :
    Calls Tryd.prog 40 #[.iface 86 (.agg #[.iface t z, .int .u32 (o : Nat), .iface t' z']), .int .i64 k] w fun e w' => e = .returned (.int .i64 x) ∧ Below w.heap.size w w' := by
  have hmf := mkf
  have KW := Lib.hid hW
  have KR := Lib.hid hR
  have ha : ∀ w, (Instr.typeAssert (.iface 86 (.agg #[.iface t z, .int .u32 (o : Nat), .iface t' z'])) 54 90 true).run Tryd.prog w = .ok (.tuple #[.iface 86 (.agg #[.iface t z, .int .u32 (o : Nat), .iface t' z']), .bool true]) w := fun w => run_typeAssert_hasB Tryd.underlying90 (by kernel_rfl) _ _ w
  have hmm : ∀ w, (method 224 86 (.agg #[.iface t z, .int .u32 (o : Nat), .iface t' z']) "conduit/shown.opens").run Tryd.prog w = .ok (86, .agg #[.iface t z, .int .u32 (o : Nat), .iface t' z']) w := fun _ => by kernel_rfl
  have hcf : ∀ (args : Array Value) w, (callFunc 86 args).run Tryd.prog w = .ok (.enter 86 args) w := fun _ _ => by kernel_rfl
  have KO : Hid (∀ wx, Below w.heap.size w wx → Calls Tryd.prog 86 #[.agg #[.iface t z, .int .u32 (o : Nat), .iface t' z']] wx fun e w' => e = .returned (.iface t' z') ∧ Below w.heap.size w w') := fun wx hx => (opens_f t z o t' z' wx).mono fun e w' ⟨a, b⟩ => ⟨a, hx.trans (b.mono hx.size)⟩
  clear hW hR
  go_enter Tryd.func40, Tryd.ntmps40
  go_wp2_with (first
    | (go_at_call 38; refine KW.out.mono ?_; rintro e w2 ⟨rfl, b2⟩)
    | fail)
  refine (KO.out _ b2).mono ?_
  rintro e w3 ⟨rfl, b3⟩
  go_wp2_with (first
    | (go_at_call 40; refine (KR.out _ b3).mono ?_; rintro e w4 ⟨rfl, b4⟩)
    | fail)
  go_ret
  exact ⟨rfl, b4⟩
theorem clo_shut (u : Value) (x : Wr) : ∀ w, (Instr.typeAssert (clo u x) 54 90 true).run Tryd.prog w = .ok (.tuple #[.nilIface, .bool false]) w := by
  unfold clo sgl thr gvg
  intro w
  repeat' split
  all_goals exact run_typeAssert_lacksB Tryd.underlying90 (by kernel_rfl) (by kernel_rfl) _ _ w
theorem reachl {c : Nat} (hc : c < 2048) (k : Int) : ∀ {ws : List Wr}, (∀ x ∈ ws, x.cp < 1024) → ws.length ≤ 60 → ∀ (w : World), Wds w →
    Calls Tryd.prog 40 #[lev c ws, .int .i64 k] w fun e w' => e = .returned (.int .i64 (rch c ws k)) ∧ Below w.heap.size w w'
  | [], h, hl, w, hN => by
    have hW := whol hc h hl k w hN
    show Calls Tryd.prog 40 _ w fun e w' => e = .returned (.int .i64 (who c [] k)) ∧ Below w.heap.size w w'
    by_cases h0 : 0 ≤ who c [] k
    · exact reach_at _ k _ h0 w hW
    · have e : who c [] k = -1 := by
        unfold who at h0 ⊢
        split
        · rename_i hq; rw [if_pos hq] at h0; omega
        · rfl
      rw [e] at hW ⊢
      exact reach_shut _ k w (fun w => run_typeAssert_lacksB Tryd.underlying90 (by kernel_rfl) (by kernel_rfl) _ _ w) hW
  | x :: r, h, hl, w, hN => by
    have hW := whol hc h hl k w hN
    have hr : ∀ y ∈ r, y.cp < 1024 := fun y hy => h y (List.mem_cons_of_mem _ hy)
    simp at hl
    unfold rch
    by_cases h0 : 0 ≤ who c (x :: r) k
    · rw [if_pos h0]; exact reach_at _ k _ h0 w hW
    · rw [if_neg h0]
      have e : who c (x :: r) k = -1 := by
        unfold who at h0 ⊢
        split
        · rename_i hq; rw [if_pos hq] at h0; omega
        · rfl
      rw [e] at hW
      clear e h0
      obtain ⟨t, z, ez⟩ := clo_ifc (lev c r) x
      have ih := fun w hN => reachl hc k hr (by omega) w hN
      obtain ⟨t', z', eu⟩ := lev_ifc c r
      simp only [lev] at hW ⊢
      cases hon : x.on with
      | true =>
        rw [if_pos rfl]
        have ea : aro (lev c r) x = .iface 86 (.agg #[.iface t z, .int .u32 (own x ||| 1024 : Nat), .iface t' z']) := by unfold aro opd; rw [if_pos hon, ez, eu]
        rw [ea] at hW ⊢
        refine reach_open t z _ t' z' k _ w hW fun wx hx => ?_
        rw [← eu]
        exact (ih wx (hN.below hx)).mono fun e w' ⟨a, b⟩ => ⟨a, hx.trans (b.mono hx.size)⟩
      | false =>
        rw [if_neg (by simp)]
        have ea : aro (lev c r) x = clo (lev c r) x := by unfold aro; rw [if_neg (by rw [hon]; simp)]
        rw [ea] at hW ⊢
        exact reach_shut _ k w (clo_shut _ x) hW
end Go.Proofs.YtcbplamomhimiaaDoor
