/- The row of acts run one after another; the conditions: the acts' contracts, the blocks apart. -/
import Derived.Test.YthamafijjflfbaaGreatNzb
import Derived.Test.YthamafijjflfbaaGreatMcc
namespace Go.Proofs.YthamafijjflfbaaGreat
open Go.RowKit

/-- An act as it lies in memory. -/
structure Av where
  op : Int
  ak : Int
  ai : Int
  au : Int
  az : ByteArray
  aa : Option Addr
  an : Nat
  ac : Nat
  bk : Int
  bi : Int
  bu : Int
  bs : ByteArray
  ba : Option Addr
  bn : Nat
  bc : Nat
  num : Int
def Av.cs (A : Av) : Array Value := acs A.op A.ak A.ai A.au A.az A.aa A.an A.ac A.bk A.bi A.bu A.bs A.ba A.bn A.bc A.num
def Ax (w : World) (g o : Nat) (A : Av) : Prop := w.cell? ⟨g, o, none⟩ = some (.int .i64 A.op) ∧ w.cell? ⟨g, o + 1, none⟩ = some (.int .i64 A.ak) ∧ w.cell? ⟨g, o + 2, none⟩ = some (.int .i64 A.ai) ∧ w.cell? ⟨g, o + 3, none⟩ = some (.int .u64 A.au) ∧ w.cell? ⟨g, o + 4, none⟩ = some (.string A.az) ∧ w.cell? ⟨g, o + 5, none⟩ = some (.slice A.aa A.an A.ac) ∧ w.cell? ⟨g, o + 6, none⟩ = some (.int .i64 A.bk) ∧ w.cell? ⟨g, o + 7, none⟩ = some (.int .i64 A.bi) ∧ w.cell? ⟨g, o + 8, none⟩ = some (.int .u64 A.bu) ∧ w.cell? ⟨g, o + 9, none⟩ = some (.string A.bs) ∧ w.cell? ⟨g, o + 10, none⟩ = some (.slice A.ba A.bn A.bc) ∧ w.cell? ⟨g, o + 11, none⟩ = some (.int .i64 A.num)
theorem Ax.below {w w' : World} {b g o : Nat} {A : Av} (h : Ax w g o A) (hb : Below b w w') (hg : g < b) : Ax w' g o A := by
  have c : ∀ p, w'.cell? ⟨g, p, none⟩ = w.cell? ⟨g, p, none⟩ := fun p => World.cell?_of_block (hb.block g hg)
  simp only [Ax, c]
  exact h

/-- What an act comes to: a panic, or a result. -/
def Dn (p : Bool) (T : TypeId) (z : Value) (r : Rv) (wx : World) (e : Ending) (w' : World) : Prop := (p = true ∧ Pn T z e ∧ Below wx.heap.size wx w') ∨ (p = false ∧ GP r.er r.pk r.pn r.has r.m r.tr wx e w')

/-- The places, backwards. -/
def dnI (p : Nat) : List Int := (List.range p).reverse.map fun (q : Nat) => (q : Int)
theorem dnI_succ (p : Nat) : dnI (p + 1) = (p : Int) :: dnI p := by simp [dnI, List.range_succ]
theorem dnI_length (p : Nat) : (dnI p).length = p := by simp [dnI]

/-- k results and p places stand in the row at b. -/
def Rq (B b : Nat) (Res : Nat → Rv) (k p : Nat) (w' : World) : Prop := ∃ sl pl xs, Bk w' b #[sl, pl] 64 ∧ Rs B Res k sl xs w' ∧ w'.ownsRow (B + 1) 3 1 pl p ((dnI p).map fun q => .int .i64 q) ∧ ∀ g, pl.ownBlock = some g → sl.ownBlock ≠ some g
theorem Rq.keep {B b : Nat} {Res : Nat → Rv} {k p : Nat} {w w' : World} (h : Rq B b Res k p w) (hs : w.heap.size ≤ w'.heap.size) (hg : ∀ g, g < w.heap.size → g = b ∨ B < g → w'.heap[g]? = w.heap[g]?) : Rq B b Res k p w' := by
  obtain ⟨sl, pl, xs, h1, h2, h3, h4⟩ := h
  exact ⟨sl, pl, xs, (hg b h1.lt (.inl rfl)).trans h1, h2.keep hs fun g g1 g2 => hg g g2 (.inr g1), owns_to h3 fun g e => hg g (owns_lt h3 g e).2 (.inr (owns_lt h3 g e).1), h4⟩
def Ro (b : Nat) (Res : Nat → Rv) (k p : Nat) (w w' : World) : Prop := Rq (w.heap.size - 1) b Res k p w' ∧ Fr b (b + 1) w w'
/-- How run ends. -/
def Rz (b ln : Nat) (Res : Nat → Rv) (pan : Nat → Bool) (T : Nat → TypeId) (z : Nat → Value) (w : World) (e : Ending) (w' : World) : Prop :=
  (e = .returned (.agg (rErr 0 0 0 0)) ∧ (∀ q, q < ln → pan q = false) ∧ Ro b Res ln ln w w') ∨ ∃ j, j < ln ∧ (∀ q, q < j → pan q = false) ∧ pan j = true ∧ Pn (T j) (z j) e ∧ Ro b Res j (j + 1) w w'

/-- Before the act j. -/
structure Iv (b ln : Nat) (Res : Nat → Rv) (pan : Nat → Bool) (w : World) (j : Nat) (sl : Value) (xs : List Value) (D : List (Nat × Int)) (wr : World) : Prop where
  hj : j ≤ ln
  np : ∀ q, q < j → pan q = false
  rb : Bk wr w.heap.size #[.pointer (some ⟨b, 0, none⟩)] 81
  zb : Bk wr (w.heap.size + 1) (rErr 0 0 0 0) 35
  row : Bk wr b #[sl, .slice none 0 0] 64
  rs : Rs (w.heap.size - 1) Res j sl xs wr
  dl : D.map (fun p => p.2) = dnI j
  ds : ∀ p ∈ D, Bk wr p.1 #[.int .i64 p.2] 3 ∧ b < p.1 ∧ some p.1 ≠ sl.ownBlock
  lo : Fr b (b + 1) w wr
  sz : w.heap.size + 2 ≤ wr.heap.size
  ow : ∀ g, sl.ownBlock = some g → w.heap.size + 2 ≤ g

theorem owns_mono {w : World} {L L' : Nat} {e : TypeId} {size : Nat} {v : Value} {n : Nat} {xs : List Value} (h : w.ownsRow L e size v n xs) (hL : L' ≤ L) : w.ownsRow L' e size v n xs := by
  obtain ⟨o1, o2⟩ := h
  refine ⟨o1, ?_⟩
  rcases o2 with o2 | ⟨g, cap, cur, e1, e2, e3⟩
  · exact .inl o2
  · exact .inr ⟨g, cap, cur, e1, Nat.le_trans hL e2, e3⟩
theorem Iv.step {b ln : Nat} {Res : Nat → Rv} {pan : Nat → Bool} {w : World} {j : Nat} {sl : Value} {xs : List Value} {D : List (Nat × Int)} {wr w' : World} (h : Iv b ln Res pan w j sl xs D wr) (hb : Below wr.heap.size wr w') : Iv b ln Res pan w j sl xs D w' :=
  ⟨h.hj, h.np, h.rb.step hb, h.zb.step hb, h.row.step hb, h.rs.step' hb, h.dl, fun p hp => ⟨(h.ds p hp).1.step hb, (h.ds p hp).2⟩, h.lo.trans (Fr.of hb (Nat.le_of_lt h.row.lt)), Nat.le_trans h.sz hb.size, h.ow⟩
theorem Iv.leaves {b ln : Nat} {Res : Nat → Rv} {pan : Nat → Bool} {w : World} {j : Nat} {sl : Value} {xs : List Value} {D : List (Nat × Int)} {wr : World} (h : Iv b ln Res pan w j sl xs D wr) (hbw : b < w.heap.size) (fn : Func) (tmps : Array Value) (R : Ending → World → Prop) (u : FrameMode) (hu : u ≠ .run) (hset : settle u = u)
    (D' : List (Nat × Int)) (p : Nat) (hD : D'.map (fun p => p.2) = dnI p) (hp : p ≤ 65537) (hds : ∀ p ∈ D', Bk wr p.1 #[.int .i64 p.2] 3 ∧ b < p.1)
    (hf : ∀ w', Ro b Res j p w w' → Bk w' (w.heap.size + 1) (rErr 0 0 0 0) 35 → Leaves Tryz.prog fn tmps R [] u w') : Leaves Tryz.prog fn tmps R (D'.map (mkD w.heap.size)) u wr := by
  have hlen : D'.length = p := by have := congrArg List.length hD; simpa [dnI_length] using this
  have hsz := h.sz
  refine leaves_run fn tmps R w.heap.size b wr.heap.size sl u hu hset hbw (by omega) D' wr (.slice none 0 0) 0 [] h.rb (fun q hq => ⟨(hds q hq).1, (hds q hq).2, (hds q hq).1.lt⟩) h.row (World.ownsRow_nil _ _ _ _) (Nat.le_refl _) (by omega) fun w' q => ?_
  obtain ⟨⟨pl, B1, O1, X1⟩, s1, k1, l1⟩ := q
  have own0 : ∀ g, some g ≠ (Value.slice none 0 0).ownBlock := fun g e => by cases e
  refine hf w' ⟨⟨sl, pl, xs, B1, h.rs.keep s1 fun g g1 g2 => k1 g g2 (by omega) (own0 g), ?_, fun g hg e => ?_⟩, h.lo.trans ⟨l1, fun g g1 g2 => k1 g g2 (by omega) (own0 g)⟩⟩ ((k1 _ (by omega) (by omega) (own0 _)).trans h.zb)
  · have e1 : ([] : List Value) ++ D'.map (fun p => Value.int .i64 p.2) = (dnI p).map fun q => .int .i64 q := by rw [← hD]; simp
    rw [e1, hlen, Nat.zero_add] at O1
    exact owns_mono O1 (by omega)
  · have h1 := (owns_lt h.rs.o g e).2
    rcases X1 with X1 | X1
    · rw [X1] at hg; cases hg
    · have := X1 g hg; omega
theorem Iv.more {b ln : Nat} {Res : Nat → Rv} {pan : Nat → Bool} {w : World} {j : Nat} {sl : Value} {xs : List Value} {D : List (Nat × Int)} {wc w6 w7 w8 : World} (h : Iv b ln Res pan w j sl xs D wc) (hbw : b < w.heap.size) (hlt : j < ln) (hp : pan j = false) (ib : Nat) (hib : Bk wc ib #[.int .i64 (j : Int)] 3) (hib1 : b < ib) (hib2 : some ib ≠ sl.ownBlock)
    (b6 : Below wc.heap.size wc w6) (b7 : Below w6.heap.size w6 w7) (g0 g1 g2 : Int) (g3 : ByteArray) (g4 : Option Addr) (g5 g6 : Nat) (rf : Dt.Rf (fun g => wc.heap.size ≤ g ∧ g < w6.heap.size) w6 (Res j).m [.int .i64 g0, .int .i64 g1, .int .u64 g2, .string g3, .slice g4 g5 g6] (Res j).tr)
    (g cap : Nat) (own : w8.ownsRow (w.heap.size - 1 + 1) 35 10 (.slice (some ⟨g, 0, none⟩) (j + 1) cap) (j + 1) (xs ++ (rcs (Res j).er 0 (Res j).pk (Res j).pn (Res j).has g0 g1 g2 g3 g4 g5 g6).toList)) (gr : w7.grownBy w8 sl.ownBlock) (at' : sl.ownBlock = some g ∨ g = w7.heap.size) :
    Iv b ln Res pan w (j + 1) (.slice (some ⟨g, 0, none⟩) (j + 1) cap) (xs ++ (rcs (Res j).er 0 (Res j).pk (Res j).pn (Res j).has g0 g1 g2 g3 g4 g5 g6).toList) ((ib, (j : Int)) :: D) (w8.setCell ⟨b, 0, none⟩ (.slice (some ⟨g, 0, none⟩) (j + 1) cap)) := by
  have hs6 := b6.size
  have hs7 := b7.size
  have hs8 := gr.size
  have hsz := h.sz
  have lr := h.row.lt
  have kp : ∀ N, N < wc.heap.size → N ≠ b → some N ≠ sl.ownBlock → (w8.setCell ⟨b, 0, none⟩ (.slice (some ⟨g, 0, none⟩) (j + 1) cap)).heap[N]? = wc.heap[N]? := fun N n1 n2 n3 =>
    (Below.heap_setCell _ _ _ _ n2).trans ((gr.block N (by omega) n3).trans ((b7.block N (by omega)).trans (b6.block N n1)))
  have ow := h.ow
  have nw : ∀ N, N < w7.heap.size → some N ≠ sl.ownBlock → some N ≠ (Value.slice (some ⟨g, 0, none⟩) (j + 1) cap).ownBlock := fun N n1 n2 e => by
    have : N = g := Option.some.inj e
    subst this
    rcases at' with e1 | e1
    · exact n2 e1.symm
    · omega
  have nb : some b ≠ sl.ownBlock := fun e => by have := (owns_lt h.rs.o b e.symm).1; omega
  have r8 := Rs.more h.rs (by omega) b6 b7 g0 g1 g2 g3 g4 g5 g6 rf g cap own gr at'
  have C8 : Bk w8 b #[sl, .slice none 0 0] 64 := (gr.block b (by omega) nb).trans ((b7.block b (by omega)).trans ((b6.block b lr).trans h.row))
  refine ⟨hlt, fun q hq => ?_, (kp _ (by omega) (by omega) fun e => by have := ow _ e.symm; omega).trans h.rb, (kp _ (by omega) (by omega) fun e => by have := ow _ e.symm; omega).trans h.zb, C8.set 0 _, r8.keep (by simp) fun q q1 _ => Below.heap_setCell _ _ _ _ (by show q ≠ b; omega), ?_, fun p hp' => ?_, ?_, by simp; omega, fun q hq => ?_⟩
  · by_cases e : q = j
    · subst e; exact hp
    · exact h.np q (by omega)
  · rw [dnI_succ, ← h.dl]; rfl
  · rcases List.mem_cons.1 hp' with rfl | hp'
    · exact ⟨(kp _ hib.lt (by show ib ≠ b; omega) hib2).trans hib, hib1, nw _ (by have := hib.lt; show ib < _; omega) hib2⟩
    · obtain ⟨a1, a2, a3⟩ := h.ds p hp'
      exact ⟨(kp _ a1.lt (by omega) a3).trans a1, a2, nw _ (by have := a1.lt; omega) a3⟩
  · refine ⟨((((h.lo.b.trans (b6.mono (by omega))).trans (b7.mono (by omega))).grown gr (by omega) (fun k hk => by have := (owns_lt h.rs.o k hk).1; omega))).setCell (Nat.le_refl b) _, fun N n1 n2 => ?_⟩
    exact (kp N (by omega) (by omega) fun e => by have := ow _ e.symm; omega).trans (h.lo.up N n1 n2)
  · have : g = q := Option.some.inj hq
    subst this
    rcases at' with e1 | e1
    · exact ow g e1
    · omega

/-- Where what is deferred does not look at the frame: a panic's end told by the world alone. -/
def Calm (ds : List Deferred) (G : List PanicEntry → World → Prop) (Q : Exit → Act → World → Prop) : Exit → Act → World → Prop
  | .panic chain, a, w => a.defers = ds ∧ G chain w
  | e, a, w => Q e a w
theorem wp_calm {P : Program} {c : Code} {Q : Exit → Act → World → Prop} {a : Act} {w : World} (ds : List Deferred) (G : List PanicEntry → World → Prop) (hp : ∀ chain a w, a.defers = ds → G chain w → Q (.panic chain) a w) (h : c.wp P (Calm ds G Q) a w) : c.wp P Q a w :=
  Code.wp_mono (fun e a w q => by cases e <;> first | exact q | exact hp _ _ _ q.1 q.2) h

theorem calm_normal {ds : List Deferred} {G : List PanicEntry → World → Prop} {Q : Exit → Act → World → Prop} {a : Act} {w : World} (h : Q .normal a w) : Calm ds G Q .normal a w := h
theorem infoRes_q : (Tryz.prog.info? 35).map (fun i => (i.zero, i.size, i.bytes)) = some (some (.agg (rErr 0 0 0 0)), 10, 104) := by kernel_rfl
theorem infoRes_p : ∃ i0, Tryz.prog.info? 35 = some i0 ∧ i0.zero = some (.agg (rErr 0 0 0 0)) ∧ i0.size = 10 ∧ i0.bytes = 104 := by
  obtain ⟨i0, h, e⟩ := Option.map_eq_some_iff.1 infoRes_q
  simp only [Prod.mk.injEq] at e
  exact ⟨i0, h, e.1, e.2.1, e.2.2⟩

set_option maxRecDepth 100000 in
set_option maxHeartbeats 4000000 in
theorem run_any (b lg lo : Nat) (la : Option Addr) (ln lc : Nat) (Ac : Nat → Av) (Res : Nat → Rv) (pan : Nat → Bool) (T : Nat → TypeId) (z : Nat → Value) (w : World)
    (hl : ln ≤ 65536) (hla : ln = 0 ∨ la = some ⟨lg, lo, none⟩) (hlg : lg < b) (hB : Bk w b #[.slice none 0 0, .slice none 0 0] 64)
    (hA : ∀ j, j < ln → Ax w lg (lo + j * 12) (Ac j))
    (hD : ∀ j, j < ln → ∀ wx, Below b w wx → w.heap.size + 4 ≤ wx.heap.size → Calls Tryz.prog 21 #[.agg (Ac j).cs] wx (Dn (pan j) (T j) (z j) (Res j) wx)) :
    Calls Tryz.prog 33 #[.pointer (some ⟨b, 0, none⟩), .slice la ln lc] w (Rz b ln Res pan T z w) := by
  have hmf : ∀ (fn : Fn) (first cap : Array Value) (w : World), (Instr.makeFunc fn first cap).run Tryz.prog w = .ok (.func fn first cap) w := fun _ _ _ _ => rfl
  have HD := Lib.hid hD
  have HA := Lib.hid hA
  clear hD hA
  have lB := hB.lt
  have B0 := below2 w (.cells #[.pointer (some ⟨b, 0, none⟩)] 81) (.cells (rErr 0 0 0 0) 35)
  have RB := (Bk.new w #[.pointer (some ⟨b, 0, none⟩)] 81).alloc (.cells (rErr 0 0 0 0) 35)
  have ZB := Bk.new2 w (.cells #[.pointer (some ⟨b, 0, none⟩)] 81) (rErr 0 0 0 0) 35
  have C0 := hB.step B0
  have s0 : w.heap.size + 2 ≤ ((w.alloc (.cells #[.pointer (some ⟨b, 0, none⟩)] 81)).alloc (.cells (rErr 0 0 0 0) 35)).heap.size := by simp
  have I0 : Hid (Iv b ln Res pan w 0 (.slice none 0 0) [] [] ((w.alloc (.cells #[.pointer (some ⟨b, 0, none⟩)] 81)).alloc (.cells (rErr 0 0 0 0) 35))) := ⟨Nat.zero_le _, fun _ h => absurd h (Nat.not_lt_zero _), RB, ZB, C0, Rs.nil _ _ _, by simp [dnI], fun _ h => by simp at h, Fr.of B0 (by omega), s0, fun g hg => by cases hg⟩
  clear B0 RB ZB C0 s0 hB
  go_enter_defers Tryz.func33, Tryz.ntmps33
  go_wp2_with fail
  refine wp_loop (fun a' wr => ∃ (u5 u6 u10 u11 u12 u13 u14 u15 u16 u17 u18 u19 u20 u21 u22 u23 u24 u25 u26 : Value) (j : Nat) (sl : Value) (xs : List Value) (D : List (Nat × Int)), Iv b ln Res pan w j sl xs D wr ∧ a' = { tmps := #[.pointer (some ⟨b, 0, none⟩), .slice la ln lc, .pointer (some ⟨w.heap.size, 0, none⟩), undef, .pointer (some ⟨w.heap.size + 1, 0, none⟩), u5, u6, .slice la ln lc, .int .i64 (ln : Int), .int .i64 (j : Int), u10, u11, u12, u13, u14, u15, u16, u17, u18, u19, u20, u21, u22, u23, u24, u25, u26, undef], defers := D.map (mkD w.heap.size) }) (fun a' _ => ln - (intOf (a'.tmps.getD 9 undef)).toNat) ?_ ?_
  · exact ⟨undef, undef, undef, undef, undef, undef, undef, undef, undef, undef, undef, undef, undef, undef, undef, undef, undef, undef, undef, 0, .slice none 0 0, [], [], I0.out, rfl⟩
  clear I0
  rintro a' wr ⟨u5, u6, u10, u11, u12, u13, u14, u15, u16, u17, u18, u19, u20, u21, u22, u23, u24, u25, u26, j, sl, xs, D, iv, rfl⟩
  dsimp only
  have IV := Lib.hid iv
  have hj := iv.hj
  by_cases hlt : j < ln
  · rcases hla with h0 | rfl
    · omega
    obtain ⟨c0, c1, c2, c3, c4, c5, c6, c7, c8, c9, c10, c11⟩ := (HA.out j hlt).below iv.lo.b hlg
    have hlw : lg < wr.heap.size := by have := iv.row.lt; omega
    clear iv
    go_wp2_with fail
    clear c0 c1 c2 c3 c4 c5 c6 c7 c8 c9 c10 c11 hlw HA
    have e2 := below2 wr (.cells #[.int .i64 (j : Int)] 3) (.cells (Ac j).cs 27)
    have IB := (Bk.new wr #[.int .i64 (j : Int)] 3).alloc (.cells (Ac j).cs 27)
    have AB := Bk.new2 wr (.cells #[.int .i64 (j : Int)] 3) (Ac j).cs 27
    have V0 := Lib.hid (IV.out.step e2)
    have hib2 : some wr.heap.size ≠ sl.ownBlock := fun e => by have := (owns_lt IV.out.rs.o _ e.symm).2; omega
    have hib1 : b < wr.heap.size := IV.out.row.lt
    have hle : j < 65536 := by omega
    have s2 : ((wr.alloc (.cells #[.int .i64 (j : Int)] 3)).alloc (.cells (Ac j).cs 27)).heap.size = wr.heap.size + 2 := by simp
    clear e2
    change Code.wp _ _ _ _ ((wr.alloc (.cells #[.int .i64 (j : Int)] 3)).alloc (.cells (Ac j).cs 27))
    generalize hw1 : (wr.alloc (.cells #[.int .i64 (j : Int)] 3)).alloc (.cells (Ac j).cs 27) = w1 at *
    clear hw1
    generalize hX : wr.heap.size = X at *
    refine wp_calm (mkD w.heap.size (X, (j : Int)) :: D.map (mkD w.heap.size)) (fun chain wz => ∀ tmps, Leaves Tryz.prog Tryz.f33 tmps (Rz b ln Res pan T z w) (mkD w.heap.size (X, (j : Int)) :: D.map (mkD w.heap.size)) (.panicking chain) wz) (fun chain a wz h g => ?_) ?_
    · have := g a.tmps
      rw [← h] at this
      exact this
    have KS : Hid (∀ wx, Bk wx w.heap.size #[.pointer (some ⟨b, 0, none⟩)] 81 → Bk wx (X + 1) (Ac j).cs 27 → (fun wx => wx.cell? ⟨w.heap.size, 0, none⟩ = some (.pointer (some ⟨b, 0, none⟩)) ∧ wx.cell? ⟨X + 1, 0, none⟩ = some (.int .i64 (Ac j).op) ∧ wx.cell? ⟨X + 1, 1, none⟩ = some (.int .i64 (Ac j).ak) ∧ wx.cell? ⟨X + 1, 2, none⟩ = some (.int .i64 (Ac j).ai) ∧ wx.cell? ⟨X + 1, 3, none⟩ = some (.int .u64 (Ac j).au) ∧ wx.cell? ⟨X + 1, 4, none⟩ = some (.string (Ac j).az) ∧ wx.cell? ⟨X + 1, 5, none⟩ = some (.slice (Ac j).aa (Ac j).an (Ac j).ac) ∧ wx.cell? ⟨X + 1, 6, none⟩ = some (.int .i64 (Ac j).bk) ∧ wx.cell? ⟨X + 1, 7, none⟩ = some (.int .i64 (Ac j).bi) ∧ wx.cell? ⟨X + 1, 8, none⟩ = some (.int .u64 (Ac j).bu) ∧ wx.cell? ⟨X + 1, 9, none⟩ = some (.string (Ac j).bs) ∧ wx.cell? ⟨X + 1, 10, none⟩ = some (.slice (Ac j).ba (Ac j).bn (Ac j).bc) ∧ wx.cell? ⟨X + 1, 11, none⟩ = some (.int .i64 (Ac j).num)) wx) := fun wx h h' => ⟨h.c1, h'.c12⟩
    refine wp_region_held_drew (S := (fun wx => wx.cell? ⟨w.heap.size, 0, none⟩ = some (.pointer (some ⟨b, 0, none⟩)) ∧ wx.cell? ⟨X + 1, 0, none⟩ = some (.int .i64 (Ac j).op) ∧ wx.cell? ⟨X + 1, 1, none⟩ = some (.int .i64 (Ac j).ak) ∧ wx.cell? ⟨X + 1, 2, none⟩ = some (.int .i64 (Ac j).ai) ∧ wx.cell? ⟨X + 1, 3, none⟩ = some (.int .u64 (Ac j).au) ∧ wx.cell? ⟨X + 1, 4, none⟩ = some (.string (Ac j).az) ∧ wx.cell? ⟨X + 1, 5, none⟩ = some (.slice (Ac j).aa (Ac j).an (Ac j).ac) ∧ wx.cell? ⟨X + 1, 6, none⟩ = some (.int .i64 (Ac j).bk) ∧ wx.cell? ⟨X + 1, 7, none⟩ = some (.int .i64 (Ac j).bi) ∧ wx.cell? ⟨X + 1, 8, none⟩ = some (.int .u64 (Ac j).bu) ∧ wx.cell? ⟨X + 1, 9, none⟩ = some (.string (Ac j).bs) ∧ wx.cell? ⟨X + 1, 10, none⟩ = some (.slice (Ac j).ba (Ac j).bn (Ac j).bc) ∧ wx.cell? ⟨X + 1, 11, none⟩ = some (.int .i64 (Ac j).num))) (by kernel_rfl) (KS.out _ (V0.out.rb.step (Below.drew (Below.refl _ _))) (AB.step (Below.drew (Below.refl _ _)))) (fun hHeld => ?_)
    have AB2 := AB.step (Below.drew (Below.refl _ _))
    have IB2 := IB.step (Below.drew (Below.refl _ _))
    have V2 := Lib.hid (V0.out.step (Below.drew (Below.refl _ _)))
    clear AB IB V0
    have s2' : X + 2 ≤ w1.drew.heap.size := Nat.le_of_eq s2.symm
    generalize w1.drew = w2 at *
    refine wpAnyH_take (i := 0) (oi := { dst := some 15, op := Op.load 81 (Operand.tmp 2), type := 81, pos := "guard.go:34", after := #[], guard := none }) (v := ?tT0) rfl (by kernel_rfl) (by kernel_rfl) (by kernel_rfl) (fun _ _ _ h => h) (Or.inl ⟨by rfl, ?uT0⟩) (by assumption) ?rT0
    case uT0 => (intro w hSw; (try dsimp only at hSw); go_simp; (try with_reducible rfl))
    simp only [Act.put, List.setIfInBounds_toArray, List.set_cons_zero, List.set_cons_succ]
    refine wpAnyH_take (i := 1) (oi := { dst := some 16, op := Op.load 81 (Operand.tmp 2), type := 81, pos := "guard.go:34", after := #[], guard := none }) (v := ?tT1) rfl (by kernel_rfl) (by kernel_rfl) (by kernel_rfl) (fun _ _ _ h => h) (Or.inl ⟨by rfl, ?uT1⟩) (by assumption) ?rT1
    case uT1 => (intro w hSw; (try dsimp only at hSw); go_simp; (try with_reducible rfl))
    simp only [Act.put, List.setIfInBounds_toArray, List.set_cons_zero, List.set_cons_succ]
    refine wpAnyH_take (i := 2) (oi := { dst := some 17, op := Op.nilCheck (Operand.tmp 16), type := 0, pos := "guard.go:34", after := #[{ on := 1, ground := Ground.data }], guard := none }) (v := ?tT2) rfl (by kernel_rfl) (by kernel_rfl) (by kernel_rfl) (fun _ _ _ h => h) (Or.inl ⟨by rfl, ?uT2⟩) (by assumption) ?rT2
    case uT2 => (intro w hSw; (try dsimp only at hSw); go_simp; (try with_reducible rfl))
    simp only [Act.put, List.setIfInBounds_toArray, List.set_cons_zero, List.set_cons_succ]
    refine wpAnyH_take (i := 3) (oi := { dst := some 18, op := Op.fieldAddr 64 (Operand.tmp 17) 0, type := 0, pos := "guard.go:34", after := #[{ on := 2, ground := Ground.data }], guard := none }) (v := ?tT3) rfl (by kernel_rfl) (by kernel_rfl) (by kernel_rfl) (fun _ _ _ h => h) (Or.inl ⟨by rfl, ?uT3⟩) (by assumption) ?rT3
    case uT3 => (intro w hSw; (try dsimp only at hSw); go_simp; (try with_reducible rfl))
    simp only [Act.put, List.setIfInBounds_toArray, List.set_cons_zero, List.set_cons_succ]
    refine wpAnyH_take (i := 5) (oi := { dst := some 20, op := Op.load 27 (Operand.tmp 6), type := 27, pos := "guard.go:34", after := #[], guard := none }) (v := ?tT5) rfl (by kernel_rfl) (by kernel_rfl) (by kernel_rfl) (fun _ _ _ h => h) (Or.inl ⟨by rfl, ?uT5⟩) (by assumption) ?rT5
    case uT5 => (intro w hSw; (try dsimp only at hSw); go_simp; (try with_reducible rfl))
    simp only [Act.put, List.setIfInBounds_toArray, List.set_cons_zero, List.set_cons_succ]
    refine wpAnyH_ready (rs := [4, 6]) (by kernel_rfl) (by simp) ?_
    refine AllReadyH.cons (o := { dst := some 19, op := Op.load 42 (Operand.tmp 18), type := 42, pos := "guard.go:34", after := #[{ on := 3, ground := Ground.data }], guard := none }) rfl (fun K hK => ?_) (AllReadyH.cons (o := { dst := some 21, op := Op.call { callee := Callee.value (Operand.func 21), args := #[Operand.tmp 20], argTypes := #[27] }, type := 35, pos := "guard.go:34", after := #[{ on := 5, ground := Ground.data }], guard := none }) rfl (fun K hK => ?_) (AllReadyH.nil))
    · have cb1 : w2.cell? ⟨b, 0, none⟩ = some sl := V2.out.row.c 0
      go_simp
      clear cb1
      refine hK.out _ _ (KS.out _ V2.out.rb AB2) (fun hH1 => ?_)
      clear hK K
      (try simp only [Act.put, List.setIfInBounds_toArray, List.set_cons_zero, List.set_cons_succ])
      refine wpAnyH_ready (rs := [6]) (by kernel_rfl) (by simp) ?_
      refine AllReadyH.cons (o := { dst := some 21, op := Op.call { callee := Callee.value (Operand.func 21), args := #[Operand.tmp 20], argTypes := #[27] }, type := 35, pos := "guard.go:34", after := #[{ on := 5, ground := Ground.data }], guard := none }) rfl (fun K hK => ?_) (AllReadyH.nil)
      go_simp
      refine (HD.out j hlt _ V2.out.lo.b (by have := IV.out.sz; omega)).mono ?_
      rintro e w6 (⟨hp, ⟨older, rfl, ho⟩, b6⟩ | ⟨hp, g0, g1, g2, g3, g4, g5, g6, rfl, rf, b6⟩)
      · have V6 := Lib.hid (V2.out.step b6)
        have IB6 := IB2.step b6
        go_wp2_with fail
        refine ⟨rfl, fun tmps => ?_⟩
        show Leaves _ _ _ _ (((X, (j : Int)) :: D).map (mkD w.heap.size)) _ _
        refine V6.out.leaves lB _ tmps _ _ (by simp) rfl ((X, (j : Int)) :: D) (j + 1) (by rw [dnI_succ, ← V6.out.dl]; rfl) (by omega) (fun p hp' => ?_) fun w' ro _ => ?_
        · rcases List.mem_cons.1 hp' with rfl | hp'
          · exact ⟨IB6, hib1⟩
          · exact ⟨(V6.out.ds p hp').1, (V6.out.ds p hp').2.1⟩
        · exact .inr ⟨j, hlt, V6.out.np, hp, ⟨older, rfl, ho⟩, ro⟩
      · have V6 := Lib.hid (V2.out.step b6)
        have IB6 := IB2.step b6
        have AB6 := AB2.step b6
        have RF6 := Lib.hid rf
        have B6 := Lib.hid b6
        clear rf b6
        go_wp2_with fail
        refine hK.out _ _ (KS.out _ V6.out.rb AB6) (fun hH2 => ?_)
        clear hK K
        (try simp only [Act.put, List.setIfInBounds_toArray, List.set_cons_zero, List.set_cons_succ])
        refine wpAnyH_ready (rs := [7]) (by kernel_rfl) (by simp) ?_
        refine AllReadyH.cons (o := { dst := some 22, op := Op.buildSlice 42 1 #[(0, Operand.tmp 21)], type := 42, pos := "guard.go:34", after := #[{ on := 6, ground := Ground.data }], guard := none }) rfl (fun K hK => ?_) (AllReadyH.nil)
        go_simp
        have e7 := below1 w6 (.cells (rcs (Res j).er 0 (Res j).pk (Res j).pn (Res j).has g0 g1 g2 g3 g4 g5 g6) 35)
        have V7 := Lib.hid (V6.out.step e7)
        have AB7 := AB6.step e7
        have E7 := Lib.hid e7
        clear e7
        have HN : Hid _ := World.news_of_block (heap_alloc_new w6 (.cells (rcs (Res j).er 0 (Res j).pk (Res j).pn (Res j).has g0 g1 g2 g3 g4 g5 g6) 35))
        refine hK.out _ _ (KS.out _ V7.out.rb AB7) (fun hH3 => ?_)
        clear hK K
        (try simp only [Act.put, List.setIfInBounds_toArray, List.set_cons_zero, List.set_cons_succ])
        obtain ⟨i0, hi, hz0, hz1, hz2⟩ := infoRes_p
        refine wpAnyH_ready (rs := [8]) (by kernel_rfl) (by simp) ?_
        refine AllReadyH.cons (o := { dst := some 23, op := Op.call { callee := Callee.builtin Builtin.append, args := #[Operand.tmp 19, Operand.tmp 22], argTypes := #[42, 42] }, type := 42, pos := "guard.go:34", after := #[{ on := 4, ground := Ground.data }, { on := 7, ground := Ground.data }, { on := 6, ground := Ground.chain }], guard := none }) rfl (fun K hK => ?_) AllReadyH.nil
        refine step_append_lies _ rfl _ _ 42 rfl (w.heap.size - 1 + 1) 35 i0 (.agg (rErr 0 0 0 0)) 10 104 Tryz.underlying42 hi hz0 hz1 hz2 rfl (by decide) sl j xs (by simp [Act.eval]) V7.out.rs.o ⟨w6.heap.size, 0, none⟩ 1 1 (rcs (Res j).er 0 (Res j).pk (Res j).pn (Res j).has g0 g1 g2 g3 g4 g5 g6).toList (by simp [Act.eval]) rfl HN.out (by intro u hu; simp at hu; rcases hu with rfl | rfl | rfl | rfl | rfl | rfl | rfl | rfl | rfl | rfl <;> rfl) (by decide) (by unfold maxLen; omega) (by omega) (Nat.le_trans (by omega) V7.out.sz) _ rfl ?_
        intro g8 c8 w8 own8 gr8 at8 lt8
        have V8 := Lib.hid (Iv.more V2.out lB hlt hp X IB2 hib1 hib2 B6.out E7.out g0 g1 g2 g3 g4 g5 g6 RF6.out g8 c8 own8 gr8 at8)
        have ow := V2.out.ow
        have hsz := V2.out.sz
        have RB8 : Bk w8 w.heap.size #[.pointer (some ⟨b, 0, none⟩)] 81 := (gr8.block _ (V7.out.rb.lt) (fun e => by have := ow _ e.symm; omega)).trans V7.out.rb
        have AB8 : Bk w8 (X + 1) (Ac j).cs 27 := (gr8.block _ (AB7.lt) (fun e => by have := (owns_lt IV.out.rs.o _ e.symm).2; omega)).trans AB7
        have RW8 : Bk w8 b #[sl, .slice none 0 0] 64 := (gr8.block _ (V7.out.row.lt) (fun e => by have := (owns_lt IV.out.rs.o _ e.symm).1; omega)).trans V7.out.row
        have fb : w8.frozen? ⟨b, 0, none⟩ = false := RW8.f 0
        have cb : w8.cell? ⟨b, 0, none⟩ = some sl := RW8.c 0
        clear ow hsz own8 gr8
        refine hK.out _ _ (KS.out _ RB8 AB8) (fun hH98 => ?_)
        clear hK K
        (try simp only [Act.put, List.setIfInBounds_toArray, List.set_cons_zero, List.set_cons_succ])
        refine wpAnyH_take (i := 9) (oi := { dst := some 24, op := Op.nilCheck (Operand.tmp 15), type := 0, pos := "guard.go:34", after := #[{ on := 0, ground := Ground.data }, { on := 0, ground := Ground.phase }, { on := 1, ground := Ground.phase }, { on := 2, ground := Ground.phase }, { on := 3, ground := Ground.phase }, { on := 4, ground := Ground.phase }, { on := 5, ground := Ground.phase }, { on := 6, ground := Ground.phase }, { on := 7, ground := Ground.phase }, { on := 8, ground := Ground.phase }], guard := none }) (v := ?tY19) rfl (by kernel_rfl) (by kernel_rfl) (by kernel_rfl) (fun _ _ _ h => h) (Or.inl ⟨by rfl, ?uY19⟩) (by assumption) ?rY19
        case uY19 => (intro w hSw; (try dsimp only at hSw); go_simp; (try with_reducible rfl))
        simp only [Act.put, List.setIfInBounds_toArray, List.set_cons_zero, List.set_cons_succ]
        refine wpAnyH_take (i := 10) (oi := { dst := some 25, op := Op.fieldAddr 64 (Operand.tmp 24) 0, type := 0, pos := "guard.go:34", after := #[{ on := 9, ground := Ground.data }, { on := 0, ground := Ground.phase }, { on := 1, ground := Ground.phase }, { on := 2, ground := Ground.phase }, { on := 3, ground := Ground.phase }, { on := 4, ground := Ground.phase }, { on := 5, ground := Ground.phase }, { on := 6, ground := Ground.phase }, { on := 7, ground := Ground.phase }, { on := 8, ground := Ground.phase }], guard := none }) (v := ?tY110) rfl (by kernel_rfl) (by kernel_rfl) (by kernel_rfl) (fun _ _ _ h => h) (Or.inl ⟨by rfl, ?uY110⟩) (by assumption) ?rY110
        case uY110 => (intro w hSw; (try dsimp only at hSw); go_simp; (try with_reducible rfl))
        simp only [Act.put, List.setIfInBounds_toArray, List.set_cons_zero, List.set_cons_succ]
        refine wpAnyH_ready (rs := [11]) (by kernel_rfl) (by simp) ?_
        refine AllReadyH.cons (o := { dst := none, op := Op.store 42 (Operand.tmp 25) (Operand.tmp 23), type := 0, pos := "guard.go:34", after := #[{ on := 10, ground := Ground.data }, { on := 8, ground := Ground.data }, { on := 8, ground := Ground.chain }, { on := 0, ground := Ground.phase }, { on := 1, ground := Ground.phase }, { on := 2, ground := Ground.phase }, { on := 3, ground := Ground.phase }, { on := 4, ground := Ground.phase }, { on := 5, ground := Ground.phase }, { on := 6, ground := Ground.phase }, { on := 7, ground := Ground.phase }, { on := 8, ground := Ground.phase }], guard := none }) rfl (fun K hK => ?_) AllReadyH.nil
        go_simp
        refine hK.out _ _ (KS.out _ V8.out.rb (AB8.other ⟨b, 0, none⟩ _ (by show X + 1 ≠ b; omega))) (fun hH99 => ?_)
        clear hK K
        (try simp only [Act.put, List.setIfInBounds_toArray, List.set_cons_zero, List.set_cons_succ])
        refine wpAnyH_done (by kernel_rfl) ?_ _
        clear fb cb RW8 RB8 AB8 hH98 hH99 hHeld HN
        generalize w8.setCell ⟨b, 0, none⟩ (.slice (some ⟨g8, 0, none⟩) (j + 1) c8) = w9 at *
        refine calm_normal ?_
        go_wp2_with fail
        refine ⟨?_, by simp [intOf]; omega⟩
        (repeat apply Exists.intro)
        refine ⟨V8.out, ?_, rfl⟩
        repeat' apply And.intro
        all_goals first | rfl | simp
    · go_simp
      refine (HD.out j hlt _ V2.out.lo.b (by have := IV.out.sz; omega)).mono ?_
      rintro e w6 (⟨hp, ⟨older, rfl, ho⟩, b6⟩ | ⟨hp, g0, g1, g2, g3, g4, g5, g6, rfl, rf, b6⟩)
      · have V6 := Lib.hid (V2.out.step b6)
        have IB6 := IB2.step b6
        go_wp2_with fail
        refine ⟨rfl, fun tmps => ?_⟩
        show Leaves _ _ _ _ (((X, (j : Int)) :: D).map (mkD w.heap.size)) _ _
        refine V6.out.leaves lB _ tmps _ _ (by simp) rfl ((X, (j : Int)) :: D) (j + 1) (by rw [dnI_succ, ← V6.out.dl]; rfl) (by omega) (fun p hp' => ?_) fun w' ro _ => ?_
        · rcases List.mem_cons.1 hp' with rfl | hp'
          · exact ⟨IB6, hib1⟩
          · exact ⟨(V6.out.ds p hp').1, (V6.out.ds p hp').2.1⟩
        · exact .inr ⟨j, hlt, V6.out.np, hp, ⟨older, rfl, ho⟩, ro⟩
      · have V6 := Lib.hid (V2.out.step b6)
        have IB6 := IB2.step b6
        have AB6 := AB2.step b6
        have RF6 := Lib.hid rf
        have B6 := Lib.hid b6
        clear rf b6
        go_wp2_with fail
        refine hK.out _ _ (KS.out _ V6.out.rb AB6) (fun hH4 => ?_)
        clear hK K
        (try simp only [Act.put, List.setIfInBounds_toArray, List.set_cons_zero, List.set_cons_succ])
        refine wpAnyH_ready (rs := [4, 7]) (by kernel_rfl) (by simp) ?_
        refine AllReadyH.cons (o := { dst := some 19, op := Op.load 42 (Operand.tmp 18), type := 42, pos := "guard.go:34", after := #[{ on := 3, ground := Ground.data }], guard := none }) rfl (fun K hK => ?_) (AllReadyH.cons (o := { dst := some 22, op := Op.buildSlice 42 1 #[(0, Operand.tmp 21)], type := 42, pos := "guard.go:34", after := #[{ on := 6, ground := Ground.data }], guard := none }) rfl (fun K hK => ?_) (AllReadyH.nil))
        · have cb5 : w6.cell? ⟨b, 0, none⟩ = some sl := V6.out.row.c 0
          go_simp
          clear cb5
          refine hK.out _ _ (KS.out _ V6.out.rb AB6) (fun hH5 => ?_)
          clear hK K
          (try simp only [Act.put, List.setIfInBounds_toArray, List.set_cons_zero, List.set_cons_succ])
          refine wpAnyH_ready (rs := [7]) (by kernel_rfl) (by simp) ?_
          refine AllReadyH.cons (o := { dst := some 22, op := Op.buildSlice 42 1 #[(0, Operand.tmp 21)], type := 42, pos := "guard.go:34", after := #[{ on := 6, ground := Ground.data }], guard := none }) rfl (fun K hK => ?_) (AllReadyH.nil)
          go_simp
          have e7 := below1 w6 (.cells (rcs (Res j).er 0 (Res j).pk (Res j).pn (Res j).has g0 g1 g2 g3 g4 g5 g6) 35)
          have V7 := Lib.hid (V6.out.step e7)
          have AB7 := AB6.step e7
          have E7 := Lib.hid e7
          clear e7
          have HN : Hid _ := World.news_of_block (heap_alloc_new w6 (.cells (rcs (Res j).er 0 (Res j).pk (Res j).pn (Res j).has g0 g1 g2 g3 g4 g5 g6) 35))
          refine hK.out _ _ (KS.out _ V7.out.rb AB7) (fun hH6 => ?_)
          clear hK K
          (try simp only [Act.put, List.setIfInBounds_toArray, List.set_cons_zero, List.set_cons_succ])
          obtain ⟨i0, hi, hz0, hz1, hz2⟩ := infoRes_p
          refine wpAnyH_ready (rs := [8]) (by kernel_rfl) (by simp) ?_
          refine AllReadyH.cons (o := { dst := some 23, op := Op.call { callee := Callee.builtin Builtin.append, args := #[Operand.tmp 19, Operand.tmp 22], argTypes := #[42, 42] }, type := 42, pos := "guard.go:34", after := #[{ on := 4, ground := Ground.data }, { on := 7, ground := Ground.data }, { on := 6, ground := Ground.chain }], guard := none }) rfl (fun K hK => ?_) AllReadyH.nil
          refine step_append_lies _ rfl _ _ 42 rfl (w.heap.size - 1 + 1) 35 i0 (.agg (rErr 0 0 0 0)) 10 104 Tryz.underlying42 hi hz0 hz1 hz2 rfl (by decide) sl j xs (by simp [Act.eval]) V7.out.rs.o ⟨w6.heap.size, 0, none⟩ 1 1 (rcs (Res j).er 0 (Res j).pk (Res j).pn (Res j).has g0 g1 g2 g3 g4 g5 g6).toList (by simp [Act.eval]) rfl HN.out (by intro u hu; simp at hu; rcases hu with rfl | rfl | rfl | rfl | rfl | rfl | rfl | rfl | rfl | rfl <;> rfl) (by decide) (by unfold maxLen; omega) (by omega) (Nat.le_trans (by omega) V7.out.sz) _ rfl ?_
          intro g8 c8 w8 own8 gr8 at8 lt8
          have V8 := Lib.hid (Iv.more V2.out lB hlt hp X IB2 hib1 hib2 B6.out E7.out g0 g1 g2 g3 g4 g5 g6 RF6.out g8 c8 own8 gr8 at8)
          have ow := V2.out.ow
          have hsz := V2.out.sz
          have RB8 : Bk w8 w.heap.size #[.pointer (some ⟨b, 0, none⟩)] 81 := (gr8.block _ (V7.out.rb.lt) (fun e => by have := ow _ e.symm; omega)).trans V7.out.rb
          have AB8 : Bk w8 (X + 1) (Ac j).cs 27 := (gr8.block _ (AB7.lt) (fun e => by have := (owns_lt IV.out.rs.o _ e.symm).2; omega)).trans AB7
          have RW8 : Bk w8 b #[sl, .slice none 0 0] 64 := (gr8.block _ (V7.out.row.lt) (fun e => by have := (owns_lt IV.out.rs.o _ e.symm).1; omega)).trans V7.out.row
          have fb : w8.frozen? ⟨b, 0, none⟩ = false := RW8.f 0
          have cb : w8.cell? ⟨b, 0, none⟩ = some sl := RW8.c 0
          clear ow hsz own8 gr8
          refine hK.out _ _ (KS.out _ RB8 AB8) (fun hH98 => ?_)
          clear hK K
          (try simp only [Act.put, List.setIfInBounds_toArray, List.set_cons_zero, List.set_cons_succ])
          refine wpAnyH_take (i := 9) (oi := { dst := some 24, op := Op.nilCheck (Operand.tmp 15), type := 0, pos := "guard.go:34", after := #[{ on := 0, ground := Ground.data }, { on := 0, ground := Ground.phase }, { on := 1, ground := Ground.phase }, { on := 2, ground := Ground.phase }, { on := 3, ground := Ground.phase }, { on := 4, ground := Ground.phase }, { on := 5, ground := Ground.phase }, { on := 6, ground := Ground.phase }, { on := 7, ground := Ground.phase }, { on := 8, ground := Ground.phase }], guard := none }) (v := ?tY29) rfl (by kernel_rfl) (by kernel_rfl) (by kernel_rfl) (fun _ _ _ h => h) (Or.inl ⟨by rfl, ?uY29⟩) (by assumption) ?rY29
          case uY29 => (intro w hSw; (try dsimp only at hSw); go_simp; (try with_reducible rfl))
          simp only [Act.put, List.setIfInBounds_toArray, List.set_cons_zero, List.set_cons_succ]
          refine wpAnyH_take (i := 10) (oi := { dst := some 25, op := Op.fieldAddr 64 (Operand.tmp 24) 0, type := 0, pos := "guard.go:34", after := #[{ on := 9, ground := Ground.data }, { on := 0, ground := Ground.phase }, { on := 1, ground := Ground.phase }, { on := 2, ground := Ground.phase }, { on := 3, ground := Ground.phase }, { on := 4, ground := Ground.phase }, { on := 5, ground := Ground.phase }, { on := 6, ground := Ground.phase }, { on := 7, ground := Ground.phase }, { on := 8, ground := Ground.phase }], guard := none }) (v := ?tY210) rfl (by kernel_rfl) (by kernel_rfl) (by kernel_rfl) (fun _ _ _ h => h) (Or.inl ⟨by rfl, ?uY210⟩) (by assumption) ?rY210
          case uY210 => (intro w hSw; (try dsimp only at hSw); go_simp; (try with_reducible rfl))
          simp only [Act.put, List.setIfInBounds_toArray, List.set_cons_zero, List.set_cons_succ]
          refine wpAnyH_ready (rs := [11]) (by kernel_rfl) (by simp) ?_
          refine AllReadyH.cons (o := { dst := none, op := Op.store 42 (Operand.tmp 25) (Operand.tmp 23), type := 0, pos := "guard.go:34", after := #[{ on := 10, ground := Ground.data }, { on := 8, ground := Ground.data }, { on := 8, ground := Ground.chain }, { on := 0, ground := Ground.phase }, { on := 1, ground := Ground.phase }, { on := 2, ground := Ground.phase }, { on := 3, ground := Ground.phase }, { on := 4, ground := Ground.phase }, { on := 5, ground := Ground.phase }, { on := 6, ground := Ground.phase }, { on := 7, ground := Ground.phase }, { on := 8, ground := Ground.phase }], guard := none }) rfl (fun K hK => ?_) AllReadyH.nil
          go_simp
          refine hK.out _ _ (KS.out _ V8.out.rb (AB8.other ⟨b, 0, none⟩ _ (by show X + 1 ≠ b; omega))) (fun hH99 => ?_)
          clear hK K
          (try simp only [Act.put, List.setIfInBounds_toArray, List.set_cons_zero, List.set_cons_succ])
          refine wpAnyH_done (by kernel_rfl) ?_ _
          clear fb cb RW8 RB8 AB8 hH98 hH99 hHeld HN
          generalize w8.setCell ⟨b, 0, none⟩ (.slice (some ⟨g8, 0, none⟩) (j + 1) c8) = w9 at *
          refine calm_normal ?_
          go_wp2_with fail
          refine ⟨?_, by simp [intOf]; omega⟩
          (repeat apply Exists.intro)
          refine ⟨V8.out, ?_, rfl⟩
          repeat' apply And.intro
          all_goals first | rfl | simp
        · go_simp
          have e7 := below1 w6 (.cells (rcs (Res j).er 0 (Res j).pk (Res j).pn (Res j).has g0 g1 g2 g3 g4 g5 g6) 35)
          have V7 := Lib.hid (V6.out.step e7)
          have AB7 := AB6.step e7
          have E7 := Lib.hid e7
          clear e7
          have HN : Hid _ := World.news_of_block (heap_alloc_new w6 (.cells (rcs (Res j).er 0 (Res j).pk (Res j).pn (Res j).has g0 g1 g2 g3 g4 g5 g6) 35))
          refine hK.out _ _ (KS.out _ V7.out.rb AB7) (fun hH7 => ?_)
          clear hK K
          (try simp only [Act.put, List.setIfInBounds_toArray, List.set_cons_zero, List.set_cons_succ])
          refine wpAnyH_ready (rs := [4]) (by kernel_rfl) (by simp) ?_
          refine AllReadyH.cons (o := { dst := some 19, op := Op.load 42 (Operand.tmp 18), type := 42, pos := "guard.go:34", after := #[{ on := 3, ground := Ground.data }], guard := none }) rfl (fun K hK => ?_) (AllReadyH.nil)
          have cb8 : (w6.alloc (.cells (rcs (Res j).er 0 (Res j).pk (Res j).pn (Res j).has g0 g1 g2 g3 g4 g5 g6) 35)).cell? ⟨b, 0, none⟩ = some sl := V7.out.row.c 0
          go_simp
          clear cb8
          refine hK.out _ _ (KS.out _ V7.out.rb AB7) (fun hH8 => ?_)
          clear hK K
          (try simp only [Act.put, List.setIfInBounds_toArray, List.set_cons_zero, List.set_cons_succ])
          obtain ⟨i0, hi, hz0, hz1, hz2⟩ := infoRes_p
          refine wpAnyH_ready (rs := [8]) (by kernel_rfl) (by simp) ?_
          refine AllReadyH.cons (o := { dst := some 23, op := Op.call { callee := Callee.builtin Builtin.append, args := #[Operand.tmp 19, Operand.tmp 22], argTypes := #[42, 42] }, type := 42, pos := "guard.go:34", after := #[{ on := 4, ground := Ground.data }, { on := 7, ground := Ground.data }, { on := 6, ground := Ground.chain }], guard := none }) rfl (fun K hK => ?_) AllReadyH.nil
          refine step_append_lies _ rfl _ _ 42 rfl (w.heap.size - 1 + 1) 35 i0 (.agg (rErr 0 0 0 0)) 10 104 Tryz.underlying42 hi hz0 hz1 hz2 rfl (by decide) sl j xs (by simp [Act.eval]) V7.out.rs.o ⟨w6.heap.size, 0, none⟩ 1 1 (rcs (Res j).er 0 (Res j).pk (Res j).pn (Res j).has g0 g1 g2 g3 g4 g5 g6).toList (by simp [Act.eval]) rfl HN.out (by intro u hu; simp at hu; rcases hu with rfl | rfl | rfl | rfl | rfl | rfl | rfl | rfl | rfl | rfl <;> rfl) (by decide) (by unfold maxLen; omega) (by omega) (Nat.le_trans (by omega) V7.out.sz) _ rfl ?_
          intro g8 c8 w8 own8 gr8 at8 lt8
          have V8 := Lib.hid (Iv.more V2.out lB hlt hp X IB2 hib1 hib2 B6.out E7.out g0 g1 g2 g3 g4 g5 g6 RF6.out g8 c8 own8 gr8 at8)
          have ow := V2.out.ow
          have hsz := V2.out.sz
          have RB8 : Bk w8 w.heap.size #[.pointer (some ⟨b, 0, none⟩)] 81 := (gr8.block _ (V7.out.rb.lt) (fun e => by have := ow _ e.symm; omega)).trans V7.out.rb
          have AB8 : Bk w8 (X + 1) (Ac j).cs 27 := (gr8.block _ (AB7.lt) (fun e => by have := (owns_lt IV.out.rs.o _ e.symm).2; omega)).trans AB7
          have RW8 : Bk w8 b #[sl, .slice none 0 0] 64 := (gr8.block _ (V7.out.row.lt) (fun e => by have := (owns_lt IV.out.rs.o _ e.symm).1; omega)).trans V7.out.row
          have fb : w8.frozen? ⟨b, 0, none⟩ = false := RW8.f 0
          have cb : w8.cell? ⟨b, 0, none⟩ = some sl := RW8.c 0
          clear ow hsz own8 gr8
          refine hK.out _ _ (KS.out _ RB8 AB8) (fun hH98 => ?_)
          clear hK K
          (try simp only [Act.put, List.setIfInBounds_toArray, List.set_cons_zero, List.set_cons_succ])
          refine wpAnyH_take (i := 9) (oi := { dst := some 24, op := Op.nilCheck (Operand.tmp 15), type := 0, pos := "guard.go:34", after := #[{ on := 0, ground := Ground.data }, { on := 0, ground := Ground.phase }, { on := 1, ground := Ground.phase }, { on := 2, ground := Ground.phase }, { on := 3, ground := Ground.phase }, { on := 4, ground := Ground.phase }, { on := 5, ground := Ground.phase }, { on := 6, ground := Ground.phase }, { on := 7, ground := Ground.phase }, { on := 8, ground := Ground.phase }], guard := none }) (v := ?tY39) rfl (by kernel_rfl) (by kernel_rfl) (by kernel_rfl) (fun _ _ _ h => h) (Or.inl ⟨by rfl, ?uY39⟩) (by assumption) ?rY39
          case uY39 => (intro w hSw; (try dsimp only at hSw); go_simp; (try with_reducible rfl))
          simp only [Act.put, List.setIfInBounds_toArray, List.set_cons_zero, List.set_cons_succ]
          refine wpAnyH_take (i := 10) (oi := { dst := some 25, op := Op.fieldAddr 64 (Operand.tmp 24) 0, type := 0, pos := "guard.go:34", after := #[{ on := 9, ground := Ground.data }, { on := 0, ground := Ground.phase }, { on := 1, ground := Ground.phase }, { on := 2, ground := Ground.phase }, { on := 3, ground := Ground.phase }, { on := 4, ground := Ground.phase }, { on := 5, ground := Ground.phase }, { on := 6, ground := Ground.phase }, { on := 7, ground := Ground.phase }, { on := 8, ground := Ground.phase }], guard := none }) (v := ?tY310) rfl (by kernel_rfl) (by kernel_rfl) (by kernel_rfl) (fun _ _ _ h => h) (Or.inl ⟨by rfl, ?uY310⟩) (by assumption) ?rY310
          case uY310 => (intro w hSw; (try dsimp only at hSw); go_simp; (try with_reducible rfl))
          simp only [Act.put, List.setIfInBounds_toArray, List.set_cons_zero, List.set_cons_succ]
          refine wpAnyH_ready (rs := [11]) (by kernel_rfl) (by simp) ?_
          refine AllReadyH.cons (o := { dst := none, op := Op.store 42 (Operand.tmp 25) (Operand.tmp 23), type := 0, pos := "guard.go:34", after := #[{ on := 10, ground := Ground.data }, { on := 8, ground := Ground.data }, { on := 8, ground := Ground.chain }, { on := 0, ground := Ground.phase }, { on := 1, ground := Ground.phase }, { on := 2, ground := Ground.phase }, { on := 3, ground := Ground.phase }, { on := 4, ground := Ground.phase }, { on := 5, ground := Ground.phase }, { on := 6, ground := Ground.phase }, { on := 7, ground := Ground.phase }, { on := 8, ground := Ground.phase }], guard := none }) rfl (fun K hK => ?_) AllReadyH.nil
          go_simp
          refine hK.out _ _ (KS.out _ V8.out.rb (AB8.other ⟨b, 0, none⟩ _ (by show X + 1 ≠ b; omega))) (fun hH99 => ?_)
          clear hK K
          (try simp only [Act.put, List.setIfInBounds_toArray, List.set_cons_zero, List.set_cons_succ])
          refine wpAnyH_done (by kernel_rfl) ?_ _
          clear fb cb RW8 RB8 AB8 hH98 hH99 hHeld HN
          generalize w8.setCell ⟨b, 0, none⟩ (.slice (some ⟨g8, 0, none⟩) (j + 1) c8) = w9 at *
          refine calm_normal ?_
          go_wp2_with fail
          refine ⟨?_, by simp [intOf]; omega⟩
          (repeat apply Exists.intro)
          refine ⟨V8.out, ?_, rfl⟩
          repeat' apply And.intro
          all_goals first | rfl | simp
  · have hje : j = ln := by omega
    subst hje
    obtain ⟨d0, d1, d2, d3, d4, d5, d6, d7, d8, d9⟩ := iv.zb.c10
    have f1 := iv.zb.f
    clear iv
    go_wp2_with fail
    clear d0 d1 d2 d3 d4 d5 d6 d7 d8 d9 f1
    obtain ⟨k1, k2, k3, k4⟩ := set10 IV.out.zb (.int .i64 0) (.int .i64 0) (.int .i64 0) (.int .i64 0) (.bool false) (.int .i64 0) (.int .i64 0) (.int .u64 0) (.string ⟨#[]⟩) (.slice none 0 0) rfl
    generalize ((((((((((wr.setCell ⟨w.heap.size + 1, 0, none⟩ (.int .i64 0)).setCell ⟨w.heap.size + 1, 1, none⟩ (.int .i64 0)).setCell ⟨w.heap.size + 1, 2, none⟩ (.int .i64 0)).setCell ⟨w.heap.size + 1, 3, none⟩ (.int .i64 0)).setCell ⟨w.heap.size + 1, 4, none⟩ (.bool false)).setCell ⟨w.heap.size + 1, 5, none⟩ (.int .i64 0)).setCell ⟨w.heap.size + 1, 6, none⟩ (.int .i64 0)).setCell ⟨w.heap.size + 1, 7, none⟩ (.int .u64 0)).setCell ⟨w.heap.size + 1, 8, none⟩ (.string ⟨#[]⟩)).setCell ⟨w.heap.size + 1, 9, none⟩ (.slice none 0 0)) = W at *
    have hbW : Below wr.heap.size wr W := ⟨k4.os, k4.tape, k4.output, Nat.le_of_eq k2.symm, fun g _ => by
      by_cases e : g = w.heap.size + 1
      · subst e; exact k1.trans IV.out.zb.symm
      · exact k3 g e⟩
    have VW := Lib.hid (IV.out.step hbW)
    clear k1 k2 k3 k4 hbW
    show Leaves _ _ _ _ (D.map (mkD w.heap.size)) .returning W
    refine VW.out.leaves lB _ _ _ .returning (by simp) rfl D j VW.out.dl (by omega) (fun p hp => ⟨(VW.out.ds p hp).1, (VW.out.ds p hp).2.1⟩) fun w' ro zb' => ?_
    obtain ⟨d0, d1, d2, d3, d4, d5, d6, d7, d8, d9⟩ := zb'.c10
    refine ⟨.agg (rErr 0 0 0 0), ?_, .inl ⟨rfl, VW.out.np, ro⟩⟩
    simp [results, Tryz.results33, go_sem, d0, d1, d2, d3, d4, d5, d6, d7, d8, d9]
end Go.Proofs.YthamafijjflfbaaGreat
