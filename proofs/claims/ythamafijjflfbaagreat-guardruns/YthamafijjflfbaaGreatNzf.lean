/- The document's row of acts; the conditions: its answers to each act. -/
import Derived.Test.YthamafijjflfbaaGreatNze
import Derived.Maps.AppendAt
import Derived.Deep.AppendSrc
namespace Go.Proofs.YthamafijjflfbaaGreat
open Go.RowKit

/-- A place put ahead of the places. -/
theorem wpList_append_pre {w : World} {ops : Array Oper} {rest : List Oper} {o : Oper} {a : Act} {Q : Exit → Act → World → Prop} (hgd : o.guard = none) (s x : Operand)
    (ho : o.op = .call { callee := .builtin .append, args := #[s, x], argTypes := #[43, 43] })
    (base L N : Nat) (y : Int) (pl : Value) (n : Nat) (ys : List Value) (hs : a.eval s = .slice (some ⟨N, 0, none⟩) 1 1) (hN : Bk w N #[.int .i64 y] 3) (hb : base ≤ N) (hx : a.eval x = pl) (hown : w.ownsRow L 3 1 pl n ys) (h1 : ∀ u ∈ ys, u.oneCell' = true) (hn : n ≤ 1048576)
    (h : ∀ v' w', w'.ownsRow base 3 1 v' (n + 1) (.int .i64 y :: ys) → w.grownBy w' (some N) → (v'.ownBlock = some N ∨ v'.ownBlock = some w.heap.size) → wpList Tryz.prog ops Q rest (a.put o.dst v') w') :
    wpList Tryz.prog ops Q (o :: rest) a w := by
  obtain ⟨i0, hi, hz0, hz1, hz2⟩ := infoInt_p
  have own0 : w.ownsRow base 3 1 (.slice (some ⟨N, 0, none⟩) 1 1) 1 [.int .i64 y] := ⟨rfl, .inr ⟨N, 1, _, rfl, hb, hN, Nat.le_refl _, by unfold maxLen; omega, rfl, rfl⟩⟩
  have hlN := hN.lt
  rcases hown.2 with ⟨e0, e1⟩ | ⟨g, cap, cur, e0, e2, e3, e4, e5, e6, e7⟩
  · subst e0
    subst e1
    have hy : ys = [] := List.eq_nil_of_length_eq_zero (by have := hown.1; omega)
    subst hy
    refine wpList_plain hgd fun K hK => ?_
    have hs' : Src Tryz.prog i0.size 43 (.slice none 0 0) 0 [] w := Src.ofNil w Tryz.underlying43 0
    have hr := run_append_room_src w 43 43 o.type 3 i0 Tryz.underlying43 hi N 0 1 1 (.slice none 0 0) 0 [] hs' (by omega) (by simp) (by simp)
    unfold Oper.wp execOp
    simp only [ho, resolve, invoke, builtin, Sem.run_bind, Sem.run_pure, Result.andThen_ok, List.map_toArray, List.map_cons, List.map_nil, hs, hx, hr]
    exact hK _ _ (h _ _ own0 ⟨rfl, rfl, rfl, Nat.le_refl _, fun _ _ _ => rfl⟩ (.inl rfl))
  · subst e0
    have hc : ∀ j u, ys[j]? = some u → w.cell? ((⟨g, 0, none⟩ : Addr).add j) = some u := fun j u hu => hown.cells (g := g) rfl j u hu
    refine wpList_append_own_at _ hgd s x 43 ho base 3 i0 (.int .i64 0) 1 8 Tryz.underlying43 hi hz0 hz1 hz2 rfl (by decide) _ 1 [.int .i64 y] hs own0 ⟨g, 0, none⟩ n cap ys hx hown.1 hc h1 (by unfold maxLen; omega) (by omega) (by omega) ?_
    intro v' w' q1 q2 q3 q4
    rw [Nat.add_comm 1 n] at q1
    exact h v' w' q1 q2 q4

/-- Before the act j. -/
structure Jv (ln : Nat) (Res : Nat → Rv) (pan : Nat → Bool) (w : World) (j : Nat) (sl pl : Value) (xs : List Value) (wr : World) : Prop where
  hj : j ≤ ln
  np : ∀ q, q < j → pan q = false
  rs : Rs (w.heap.size - 1) Res j sl xs wr
  ps : wr.ownsRow (w.heap.size - 1 + 1) 3 1 pl j ((dnI j).map fun q => .int .i64 q)
  ne : ∀ g, pl.ownBlock = some g → sl.ownBlock ≠ some g
  lo : Below w.heap.size w wr

theorem dn_one (j : Nat) : ∀ u ∈ (dnI j).map (fun q => Value.int .i64 q), u.oneCell' = true := fun u hu => by obtain ⟨_, _, rfl⟩ := List.mem_map.1 hu; rfl

set_option maxRecDepth 100000 in
set_option maxHeartbeats 4000000 in
theorem rRun_any (lg lo : Nat) (la : Option Addr) (ln lc : Nat) (Ac : Nat → Av) (Res : Nat → Rv) (pan : Nat → Bool) (k : Nat) (hk : Kp ln pan k) (w : World)
    (hl : ln ≤ 65536) (hla : ln = 0 ∨ la = some ⟨lg, lo, none⟩) (hlg0 : 0 < ln → lg < w.heap.size)
    (hA : ∀ j, j < ln → Ax w lg (lo + j * 12) (Ac j))
    (hR : ∀ j, j < ln → ∀ wx, Below w.heap.size w wx → Calls Tryz.prog 12 #[.agg (Ac j).cs] wx (GP (Res j).er (Res j).pk (Res j).pn (Res j).has (Res j).m (Res j).tr wx))
    (hE : ∀ j, j < ln → ((Res j).er = 110 ↔ pan j = true)) :
    Calls Tryz.prog 16 #[.slice la ln lc] w (Rx Res k w) := by
  have HR := Lib.hid hR
  have HA := Lib.hid hA
  have HE := Lib.hid hE
  have HK := Lib.hid hk
  clear hR hA hE hk
  go_enter Tryz.func16, Tryz.ntmps16
  go_wp2_with fail
  go_loopw [4, 5, 10] (fun s4 s5 s10 wr => ∃ (j : Nat) (xs : List Value), s10 = .int .i64 j ∧ Jv ln Res pan w j s4 s5 xs wr) (fun _ _ s10 _ => ln - (intOf s10).toNat)
  case atStart => exact ⟨0, [], rfl, Nat.zero_le _, fun _ h => absurd h (Nat.not_lt_zero _), Rs.nil _ _ _, World.ownsRow_nil _ _ _ _, (fun g hg => by cases hg), Below.refl _ _⟩
  case round =>
    obtain ⟨j, xs, rfl, jv⟩ := hrel
    have JV := Lib.hid jv
    have hj := jv.hj
    by_cases hlt : j < ln
    · rcases hla with h0 | rfl
      · omega
      have hlg := hlg0 (by omega)
      obtain ⟨c0, c1, c2, c3, c4, c5, c6, c7, c8, c9, c10, c11⟩ := (HA.out j hlt).below jv.lo hlg
      have hlw : lg < wr.heap.size := by have := jv.lo.size; omega
      clear jv
      go_wp2_with fail
      refine (HR.out j hlt _ JV.out.lo).mono ?_
      rintro e w1 ⟨g0, g1, g2, g3, g4, g5, g6, rfl, rf, b1⟩
      clear c0 c1 c2 c3 c4 c5 c6 c7 c8 c9 c10 c11 hlw
      have hs1 := b1.size
      have hsw := JV.out.lo.size
      have e2 := below1 w1 (.cells (rcs (Res j).er 0 (Res j).pk (Res j).pn (Res j).has g0 g1 g2 g3 g4 g5 g6) 35)
      have Z2 := Bk.new w1 (rcs (Res j).er 0 (Res j).pk (Res j).pn (Res j).has g0 g1 g2 g3 g4 g5 g6) 35
      obtain ⟨d0, d1, d2, d3, d4, d5, d6, d7, d8, d9⟩ := Z2.c10
      have e3 := below1 (w1.alloc (.cells (rcs (Res j).er 0 (Res j).pk (Res j).pn (Res j).has g0 g1 g2 g3 g4 g5 g6) 35)) (.cells (rcs (Res j).er 0 (Res j).pk (Res j).pn (Res j).has g0 g1 g2 g3 g4 g5 g6) 35)
      have Z3 := Lib.hid (Z2.step e3)
      have E3 : Hid (Below w1.heap.size w1 ((w1.alloc (.cells (rcs (Res j).er 0 (Res j).pk (Res j).pn (Res j).has g0 g1 g2 g3 g4 g5 g6) 35)).alloc (.cells (rcs (Res j).er 0 (Res j).pk (Res j).pn (Res j).has g0 g1 g2 g3 g4 g5 g6) 35))) := e2.trans (e3.mono e2.size)
      have B1 := Lib.hid b1
      have RF := Lib.hid rf
      have RS3 := Lib.hid ((JV.out.rs.step' b1).step' E3.out)
      have OW3 := Lib.hid (owns_to JV.out.ps fun g hg => (E3.out.block g (Nat.lt_of_lt_of_le (owns_lt JV.out.ps g hg).2 hs1)).trans (b1.block g (owns_lt JV.out.ps g hg).2))
      have HN : Hid _ := World.news_of_block (heap_alloc_new (w1.alloc (.cells (rcs (Res j).er 0 (Res j).pk (Res j).pn (Res j).has g0 g1 g2 g3 g4 g5 g6) 35)) (.cells (rcs (Res j).er 0 (Res j).pk (Res j).pn (Res j).has g0 g1 g2 g3 g4 g5 g6) 35))
      have sN : (w1.alloc (.cells (rcs (Res j).er 0 (Res j).pk (Res j).pn (Res j).has g0 g1 g2 g3 g4 g5 g6) 35)).heap.size = w1.heap.size + 1 := by simp
      rw [sN] at HN
      obtain ⟨i0, hi, hz0, hz1, hz2⟩ := infoRes_p
      clear e2 e3 Z2 b1 rf
      go_wp2_with (first
        | (at_builtin; refine wpList_append_lies _ rfl _ _ 42 rfl (w.heap.size - 1 + 1) 35 i0 (.agg (rErr 0 0 0 0)) 10 104 Tryz.underlying42 hi hz0 hz1 hz2 rfl (by decide) u4 j xs rfl RS3.out.o ⟨w1.heap.size + 1, 0, none⟩ 1 1 (rcs (Res j).er 0 (Res j).pk (Res j).pn (Res j).has g0 g1 g2 g3 g4 g5 g6).toList rfl rfl HN.out (by intro u hu; simp at hu; rcases hu with rfl | rfl | rfl | rfl | rfl | rfl | rfl | rfl | rfl | rfl <;> rfl) (by decide) (by unfold maxLen; omega) (by omega) (Nat.le_of_lt_succ (by show w.heap.size - 1 + 1 < _ + 1; simp; omega)) _ rfl ?_; intro g4' c4' w4 own4 gr4 at4 lt4
           have GR4 := Lib.hid gr4
           have OWN4 := Lib.hid own4
           have OW4 : Hid (w4.ownsRow (w.heap.size - 1 + 1) 3 1 u5 j ((dnI j).map fun q => .int .i64 q)) := owns_to OW3.out fun g hg => gr4.block g (owns_lt OW3.out g hg).2 fun e => JV.out.ne g hg e.symm
           have Z4 : Hid (Bk w4 w1.heap.size (rcs (Res j).er 0 (Res j).pk (Res j).pn (Res j).has g0 g1 g2 g3 g4 g5 g6) 35) := (gr4.block _ Z3.out.lt (fun e => by have := (owns_lt JV.out.rs.o _ e.symm).2; omega)).trans Z3.out
           have e5 := below1 w4 (.cells #[.int .i64 (j : Int)] 3)
           have N5 := Lib.hid (Bk.new w4 #[.int .i64 (j : Int)] 3)
           have E5 := Lib.hid e5
           have OW5 := Lib.hid (owns_to OW4.out fun g hg => e5.block g (owns_lt OW4.out g hg).2)
           have Z5 := Lib.hid (Z4.out.step e5)
           have sz4 : w.heap.size ≤ w4.heap.size := Nat.le_trans (Nat.le_trans hsw hs1) (Nat.le_trans E3.out.size gr4.size)
           clear own4 gr4 e5)
        | (at_builtin; refine wpList_append_pre rfl _ _ rfl (w.heap.size - 1 + 1) (w.heap.size - 1 + 1) w4.heap.size (j : Int) u5 j ((dnI j).map fun q => .int .i64 q) rfl N5.out (by omega) rfl OW5.out (dn_one j) (by omega) ?_; intro v6 w6 own6 gr6 at6
           have Z6 : Bk w6 w1.heap.size (rcs (Res j).er 0 (Res j).pk (Res j).pn (Res j).has g0 g1 g2 g3 g4 g5 g6) 35 := (gr6.block _ Z5.out.lt (fun e => by have h1 : w1.heap.size = w4.heap.size := Option.some.inj e; have := Z4.out.lt; omega)).trans Z5.out
           have z60 := Z6.c 0
           have RS4 := Rs.more JV.out.rs (by omega) B1.out E3.out g0 g1 g2 g3 g4 g5 g6 RF.out g4' c4' OWN4.out GR4.out at4
           have RS6 := Lib.hid (RS4.keep (w' := w6) (Nat.le_trans E5.out.size gr6.size) fun g _ q2 => (gr6.block g (Nat.lt_of_lt_of_le q2 E5.out.size) (fun e => by have h1 : g = w4.heap.size := Option.some.inj e; omega)).trans (E5.out.block g q2))
           have OW6 : Hid (w6.ownsRow (w.heap.size - 1 + 1) 3 1 v6 (j + 1) ((dnI (j + 1)).map fun q => .int .i64 q)) := by rw [dnI_succ]; exact own6
           have NE6 : Hid (∀ g, v6.ownBlock = some g → (Value.slice (some ⟨g4', 0, none⟩) (j + 1) c4').ownBlock ≠ some g) := fun g hg e => by
             have h1 : g4' = g := Option.some.inj e
             have s5 := E5.out.size
             rcases at6 with h | h
             · rw [h] at hg; have h2 := Option.some.inj hg; omega
             · rw [h] at hg; have h2 := Option.some.inj hg; omega
           have LO6 : Hid (Below w.heap.size w w6) := (((JV.out.lo.trans (B1.out.mono hsw)).trans (E3.out.mono (by omega))).grown GR4.out (by have := E3.out.size; omega) (fun k hk => by have := (owns_lt RS3.out.o k hk).1; omega) |>.trans (E5.out.mono sz4)).grown gr6 (by have := E5.out.size; omega) (fun k hk => by have h1 : w4.heap.size = k := Option.some.inj hk; omega)
           clear own6 gr6 at6 RS4))
      · have her : pan j = true := (HE.out j hlt).1 (eq_of_beq (by assumption))
        go_ret2
        rcases HK.out with ⟨-, q⟩ | ⟨i, hi', rfl, hpi, q⟩
        · have := q j hlt; rw [her] at this; cases this
        · obtain rfl := first_one hpi her q JV.out.np
          exact ⟨w.heap.size - 1, _, _, _, rfl, by omega, RS6.out, OW6.out, LO6.out⟩
      · have her : pan j = false := by
          cases hp : pan j with
          | false => rfl
          | true => exact absurd ((HE.out j hlt).2 hp) (ne_of_beq_false (by assumption))
        refine ⟨⟨j + 1, _, by simp, hlt, fun q hq => ?_, RS6.out, OW6.out, NE6.out, LO6.out⟩, by simp [intOf]; omega⟩
        by_cases e : q = j
        · subst e; exact her
        · exact JV.out.np q (by omega)
    · have hje : j = ln := by omega
      subst hje
      clear jv
      go_wp2_with fail
      go_ret2
      rcases HK.out with ⟨rfl, q⟩ | ⟨i, hi', rfl, hpi, q⟩
      · exact ⟨w.heap.size - 1, _, _, _, rfl, by omega, JV.out.rs, JV.out.ps, JV.out.lo⟩
      · have := JV.out.np i hi'; rw [hpi] at this; cases this
end Go.Proofs.YthamafijjflfbaaGreat
