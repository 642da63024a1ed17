/- The document's Fit at every state in memory; the conditions: the state in memory, and the contract of the document's Group. -/
import Derived.Test.YtgijdiplhcoojaaGreatDoorJbi
import Derived.Test.YtgijdiplhcoojaaGreatDoorXVal
namespace Go.Proofs.YtgijdiplhcoojaaGreatDoor.Dt
open Go.RowKit

theorem cok_yes {cn ac un : Int} (h : cok cn ac un = true) : (0 ≤ cn ∧ cn ≤ 4611686018427387904) ∧ (0 ≤ ac ∧ ac ≤ 4611686018427387904) ∧ 0 ≤ un ∧ un ≤ 1099511627776 := by
  simp [cok] at h
  omega

set_option maxRecDepth 100000 in
set_option maxHeartbeats 2000000 in
theorem rfit_count (cn ac un k i u : Int) (s : ByteArray) (a : Option Addr) (len cap : Nat) (la : Option Addr) (ll lc : Nat) (cl : Bool) (w : World) (hbad : cok cn ac un = false) :
    Calls Tryz.prog 6 #[.agg #[.int .i64 cn, .int .i64 ac, .int .i64 k, .int .i64 i, .int .u64 u, .string s, .slice a len cap, .slice la ll lc, .bool cl, .int .i64 un]] w fun e w' => e = .returned (.bool false) ∧ Below w.heap.size w w' := by
  have B0 := below1 w (.cells #[.int .i64 cn, .int .i64 ac, .int .i64 k, .int .i64 i, .int .u64 u, .string s, .slice a len cap, .slice la ll lc, .bool cl, .int .i64 un] 27)
  have HB := Lib.hid hbad
  clear hbad
  go_enter Tryz.func6, Tryz.ntmps6
  go_wp2_with fail
  all_goals first | (go_ret; exact ⟨rfl, B0⟩) | skip
  all_goals exact absurd HB.out (by simp [cok]; omega)

set_option maxRecDepth 100000 in
set_option maxHeartbeats 4000000 in
theorem rfit_rest (n : Nat) (cn ac un k i u : Int) (s : ByteArray) (a : Option Addr) (len cap : Nat) (la : Option Addr) (lc : Nat) (cl : Bool) (l : Tr n) (ts : List (Tr n)) (w : World) (hok : cok cn ac un = true) (hS : StR w n l ts k i u s a len cap la lc) (R : Bool)
    (hno : vB n l = false → R = false) (hno2 : (∃ t ∈ ts, vB n t = false) → R = false)
    (K : List (Tr 16) → Bool) (P : List (Tr 16) → List Value) (A : List (Tr 16) → Nat → Nat) (hA : ∀ us, P us = (List.range us.length).map fun k => .int .i64 (A us k)) (hG : GrOf 21 K P)
    (us : List (Tr 16)) (hyes : vB n l = true → (∀ t ∈ ts, vB n t = true) → us.length = ts.length ∧ Rl w 16 la us ∧ (∀ u ∈ us, rgt 16 u = true) ∧ (∀ u ∈ us, (pts 16 u).1 ≤ 4096) ∧ R = (K us && decide (∀ k, k < us.length → A us k = k))) :
    Calls Tryz.prog 6 #[.agg #[.int .i64 cn, .int .i64 ac, .int .i64 k, .int .i64 i, .int .u64 u, .string s, .slice a len cap, .slice la ts.length lc, .bool cl, .int .i64 un]] w fun e w' => e = .returned (.bool R) ∧ Below w.heap.size w w' := by
  obtain ⟨⟨p1, p2⟩, ⟨p3, p4⟩, p5, p6⟩ := cok_yes hok
  have n1 : decide (cn < 0) = false := by simp; omega
  have n2 : decide (4611686018427387904 < cn) = false := by simp; omega
  have n3 : decide (ac < 0) = false := by simp; omega
  have n4 : decide (4611686018427387904 < ac) = false := by simp; omega
  have n5 : decide (un < 0) = false := by simp; omega
  have n6 : decide (1099511627776 < un) = false := by simp; omega
  have HS := Lib.hid hS
  have HN := Lib.hid hno
  have HN2 := Lib.hid hno2
  have HY := Lib.hid hyes
  have HG := Lib.hid hG
  have HV := Lib.hid (refValid n)
  have hlt := hS.lt
  clear hok hS hno hno2 hyes hG p1 p2 p3 p4 p5 p6
  have B0 := below1 w (.cells #[.int .i64 cn, .int .i64 ac, .int .i64 k, .int .i64 i, .int .u64 u, .string s, .slice a len cap, .slice la ts.length lc, .bool cl, .int .i64 un] 27)
  have D0 := Bk.new w #[.int .i64 cn, .int .i64 ac, .int .i64 k, .int .i64 i, .int .u64 u, .string s, .slice a len cap, .slice la ts.length lc, .bool cl, .int .i64 un] 27
  go_enter Tryz.func6, Tryz.ntmps6
  go_wp2_with fail
  refine (HV.out l _ _ _ _ _ _ (HS.out.below B0).last).mono ?_
  rintro e w1 ⟨rfl, b1⟩
  have D1 := D0.step b1
  have B1 := B0.trans (b1.mono B0.size)
  clear D0 B0 b1 n1 n2 n3 n4 n5 n6
  obtain ⟨c0, c1, c2, c3, c4, c5, c6, c7, c8, c9⟩ := D1.c10
  cases hv : vB n l with
  | false =>
    have hR := HN.out hv
    go_wp2_with fail
    go_ret
    exact ⟨ret_b hR.symm, B1⟩
  | true =>
    go_wp2_with fail
    go_loopw [3] (fun si wr => ∃ (j : Nat), si = .int .i64 j ∧ j ≤ ts.length ∧ (∀ k (hk : k < ts.length), k < j → vB n ts[k] = true) ∧ Below w1.heap.size w1 wr) (fun si _ => ts.length - (intOf si).toNat)
    case atStart => exact ⟨0, rfl, Nat.zero_le _, fun k _ hk => absurd hk (Nat.not_lt_zero _), Below.refl _ _⟩
    case round =>
      obtain ⟨j, rfl, hj, hall, g1⟩ := hrel
      have hall' := Lib.hid hall
      have D2 := D1.step g1
      have B2 := B1.trans (g1.mono B1.size)
      have c7' := D2.c10.2.2.2.2.2.2.2.1
      clear hall c0 c1 c2 c3 c4 c5 c6 c7 c8 c9
      by_cases hlt' : j < ts.length
      · obtain ⟨g, o, u0, u1, u2, u3, a4, n4, c4, rfl, hg, e0, e1, e2, e3, e4, rk⟩ := HS.out.list.at hlt'
        have y0 := (B2.cell (p := ⟨g, o + j * 5, none⟩) hg).trans e0
        have y1 := (B2.cell (p := ⟨g, o + j * 5 + 1, none⟩) hg).trans e1
        have y2 := (B2.cell (p := ⟨g, o + j * 5 + 2, none⟩) hg).trans e2
        have y3 := (B2.cell (p := ⟨g, o + j * 5 + 3, none⟩) hg).trans e3
        have y4 := (B2.cell (p := ⟨g, o + j * 5 + 4, none⟩) hg).trans e4
        have HC := Lib.hid (HV.out ts[j] _ _ _ _ _ _ (Rep.below B2 n _ _ rk))
        have hjl : (0 : Int) ≤ j ∧ (j : Int) < ts.length := by omega
        clear e0 e1 e2 e3 e4 rk HS HY HG
        cases hv' : vB n ts[j] with
        | true =>
          rw [hv'] at HC
          go_wp2_with fail
          refine HC.out.mono ?_
          rintro e w3 ⟨rfl, b3⟩
          have B3 := g1.trans (b3.mono g1.size)
          go_wp2_with fail
          refine ⟨⟨j + 1, by go_num, by omega, fun k hk hkj => ?_, B3⟩, by simp [intOf]; omega⟩
          by_cases e : k = j
          · subst e; exact hv'
          · exact hall'.out k hk (by omega)
        | false =>
          rw [hv'] at HC
          have hR := HN2.out ⟨_, List.getElem_mem hlt', hv'⟩
          have HR := Lib.hid hR
          clear hv' hR
          go_wp2_with fail
          refine HC.out.mono ?_
          rintro e w3 ⟨rfl, b3⟩
          have B3 := B2.trans (b3.mono B2.size)
          go_wp2_with fail
          go_ret
          exact ⟨ret_b HR.out.symm, B3⟩
      · have hje : j = ts.length := by omega
        subst hje
        obtain ⟨hl, hk', hr, hp, hR⟩ := HY.out hv fun t ht => by
          obtain ⟨k, hk, rfl⟩ := List.getElem_of_mem ht
          exact hall'.out k hk hk
        have HG2 : Hid (Calls Tryz.prog 21 #[.slice la ts.length lc] wr fun e w' => (K us = true → ∃ sl, e = .returned (.tuple #[sl, .int .i64 0]) ∧ w'.ownsRow wr.heap.size 3 1 sl us.length (P us)) ∧ (K us = false → e = .returned (.tuple #[.slice none 0 0, .int .i64 11])) ∧ Below wr.heap.size wr w') := by
          have := HG.out us la lc wr (by omega) hr hp (hk'.below B2)
          rw [hl] at this ⊢
          exact this
        have HR := Lib.hid hR
        have hl' := Lib.hid hl
        clear HS HY HG hk' hr hp hR hl hlt'
        go_wp2_with fail
        refine HG2.out.mono ?_
        rintro e w3 ⟨h1, h2, b3⟩
        have B3 := B2.trans (b3.mono B2.size)
        cases hK : K us with
        | false =>
          obtain rfl := h2 hK
          clear h1 h2 HG2
          go_wp2_with fail
          go_ret
          exact ⟨ret_b (by rw [HR.out, hK]; rfl), B3⟩
        | true =>
          obtain ⟨sl, rfl, own⟩ := h1 hK
          obtain ⟨a', c', rfl, hcl⟩ := cl_of_own own
          clear h1 h2 HG2 own
          have HL : Hid (∀ k, k < us.length → ∃ g, a' = some ⟨g, 0, none⟩ ∧ w3.cell? ⟨g, k, none⟩ = some (.int .i64 (A us k))) := fun k hk => hcl k _ (by rw [hA]; simp [hk])
          clear hcl
          go_wp2_with fail
          have hul : us.length ≤ 2199023255551 := by have := hl'.out; omega
          clear c7' D2 hA HV HN HN2 g1 B2
          go_loopw [6] (fun si wr => ∃ j : Nat, si = .int .i64 j ∧ j ≤ us.length ∧ (∀ k, k < j → A us k = k) ∧ wr = w3) (fun si _ => us.length - (intOf si).toNat)
          case atStart => exact ⟨0, rfl, Nat.zero_le _, fun k hk => absurd hk (Nat.not_lt_zero _), rfl⟩
          case round =>
            obtain ⟨j, rfl, hj, hall, rfl⟩ := hrel
            have hall2 := Lib.hid hall
            clear hall
            by_cases hlt : j < us.length
            · obtain ⟨g, rfl, cg⟩ := HL.out j hlt
              have hjl : (0 : Int) ≤ j ∧ (j : Int) < us.length := by omega
              by_cases hE : A us j = j
              · rw [hE] at cg
                have hE' := Lib.hid hE
                clear hE HL hv hK D1 B1 b3
                go_wp2_with fail
                refine ⟨⟨j + 1, by go_num, by omega, fun k hk => ?_, by trivial⟩, by simp [intOf]; omega⟩
                by_cases e : k = j
                · subst e; exact hE'.out
                · exact hall2.out k (by omega)
              · have hE3 : ¬ ((A us j : Int) = (j : Int)) := by omega
                have hR : decide (∀ k, k < us.length → A us k = k) = false := by simp; exact ⟨j, hlt, hE⟩
                have hR' := Lib.hid hR
                have hE' := Lib.hid hE
                have hK' := Lib.hid hK
                clear hR hE HL hv hK D1 B1 b3
                go_wp2_with fail
                go_ret
                exact ⟨ret_b (by rw [HR.out, hK'.out, hR'.out]; rfl), B3⟩
            · have hR : decide (∀ k, k < us.length → A us k = k) = true := by simp; exact fun k hk => hall2.out k (by omega)
              have hR' := Lib.hid hR
              have hK' := Lib.hid hK
              clear hR HL hv hK D1 B1 b3
              have hje : j = us.length := by omega
              subst hje
              go_wp2_with fail
              go_ret
              exact ⟨ret_b (by rw [HR.out, hK'.out, hR'.out]; rfl), B3⟩
end Go.Proofs.YtgijdiplhcoojaaGreatDoor.Dt
/- Values as keys of a map: which may be, what a look-up finds and what a store lays, of the values that the package makes of trees, with boxes by number; the conditions: the trees valid, the boxes alive and apart, the map in memory. -/
namespace Go.Proofs.YtgijdiplhcoojaaGreatDoor.Dt
open Go.RowKit
/-- The document's key. -/
def keyP {T : Type} (c : T → Bool) : List T → Bool
  | [a, b] => c a && c b
  | _ => false
def keyT : (n : Nat) → Tr n → Bool
  | 0, t => t.elim
  | n + 1, t => if t.kd = 9 then keyP (keyT n) t.ks else decide (t.kd ≠ 7 ∧ t.kd ≠ 8)

theorem ck0 (e : Bool) (d : Nat) (w : World) : (Instr.checkKey e (d + 2) 20 .nilIface).run Tryz.prog w = .ok () w := by kernel_rfl
theorem ck1 (e : Bool) (d : Nat) (i : Int) (w : World) : (Instr.checkKey e (d + 2) 20 (.iface 94 (.int .i64 i))).run Tryz.prog w = .ok () w := by kernel_rfl
theorem ck2 (e : Bool) (d : Nat) (i : Int) (w : World) : (Instr.checkKey e (d + 2) 20 (.iface 107 (.int .i64 i))).run Tryz.prog w = .ok () w := by kernel_rfl
theorem ck3 (e : Bool) (d : Nat) (i : Nat) (w : World) : (Instr.checkKey e (d + 2) 20 (.iface 108 (.float .f64 i))).run Tryz.prog w = .ok () w := by kernel_rfl
theorem ck4 (e : Bool) (d : Nat) (s : ByteArray) (w : World) : (Instr.checkKey e (d + 2) 20 (.iface 109 (.string s))).run Tryz.prog w = .ok () w := by kernel_rfl
theorem ck5 (e : Bool) (d : Nat) (s : ByteArray) (w : World) : (Instr.checkKey e (d + 2) 20 (.iface 110 (.string s))).run Tryz.prog w = .ok () w := by kernel_rfl
theorem ck6 (e : Bool) (d : Nat) (b : Bool) (w : World) : (Instr.checkKey e (d + 2) 20 (.iface 95 (.bool b))).run Tryz.prog w = .ok () w := by kernel_rfl
theorem ck10 (e : Bool) (d : Nat) (i : Int) (s : ByteArray) (w : World) : (Instr.checkKey e (d + 3) 20 (.iface 120 (.agg #[.int .i64 i, .string s]))).run Tryz.prog w = .ok () w := by kernel_rfl
theorem ck11 (e : Bool) (d : Nat) (a : Option Addr) (w : World) : (Instr.checkKey e (d + 2) 20 (.iface 121 (.pointer a))).run Tryz.prog w = .ok () w := by kernel_rfl
theorem ck13 (e : Bool) (d : Nat) (w : World) : (Instr.checkKey e (d + 2) 20 (.iface 124 (.agg #[]))).run Tryz.prog w = .ok () w := by kernel_rfl
theorem ck7 (e : Bool) (d : Nat) (x : Value) (w : World) : ∃ T pv, (Instr.checkKey e (d + 2) 20 (.iface 112 x)).run Tryz.prog w = .halt (.panic (.iface T pv)) w := by
  cases e
  · exact ⟨10, strVal ("hash of unhashable type " ++ "value.Octets"), by kernel_rfl⟩
  · exact ⟨Tryz.prog.rt.unhashableTypeError, .agg #[typeHandle Tryz.prog 112], by kernel_rfl⟩
theorem ck8 (e : Bool) (d : Nat) (x : Value) (w : World) : ∃ T pv, (Instr.checkKey e (d + 2) 20 (.iface 114 x)).run Tryz.prog w = .halt (.panic (.iface T pv)) w := by
  cases e
  · exact ⟨10, strVal ("hash of unhashable type " ++ "value.Row"), by kernel_rfl⟩
  · exact ⟨Tryz.prog.rt.unhashableTypeError, .agg #[typeHandle Tryz.prog 114], by kernel_rfl⟩
theorem ck9 (e : Bool) (d : Nat) (x y : Value) (w : World) : (Instr.checkKey e (d + 3) 20 (.iface 118 (.agg #[x, y]))).run Tryz.prog w = ((Instr.checkKey e (d + 1) 20 x).run Tryz.prog w).andThen fun _ w' => (Instr.checkKey e (d + 1) 20 y).run Tryz.prog w' := by
  have e1 : (Instr.checkKey e (d + 3) 20 (.iface 118 (.agg #[x, y]))).run Tryz.prog w = (Instr.checkKey e (d + 2) 118 (.agg #[x, y])).run Tryz.prog w := by kernel_rfl
  rw [e1]
  have hf : ∃ b1 b2, Tryz.prog.underlying 118 = some (.struct #[⟨"First", 20, 0, false, "", "", b1⟩, ⟨"Second", 20, 1, false, "", "", b2⟩]) := ⟨0, 16, by kernel_rfl⟩
  obtain ⟨b1, b2, hf⟩ := hf
  rw [Instr.checkKey]
  simp [run_underlying hf, pt20, pt20']

theorem check_run (l : List (Int × Nat)) : ∀ (n : Nat) (t : Tr n) (v : Value) (d : Nat) (e : Bool) (w : World), VS l n v t → 2 * n ≤ d →
    (keyT n t = true ∧ (Instr.checkKey e (d + 3) 20 v).run Tryz.prog w = .ok () w) ∨ (keyT n t = false ∧ ∃ T pv, (Instr.checkKey e (d + 3) 20 v).run Tryz.prog w = .halt (.panic (.iface T pv)) w) := by
  intro n
  induction n with
  | zero => intro t; exact t.elim
  | succ n ih =>
    intro t v d e w hv hd
    simp only [VS] at hv
    have nk : t.kd ≠ 9 → t.kd ≠ 7 → t.kd ≠ 8 → keyT (n + 1) t = true := fun h1 h2 h3 => by simp [keyT, h1, h2, h3]
    rcases hv with ⟨k, rfl⟩ | ⟨k, rfl⟩ | ⟨k, rfl⟩ | ⟨k, rfl⟩ | ⟨k, rfl⟩ | ⟨k, rfl⟩ | ⟨k, rfl⟩ | ⟨k, x, rfl⟩ | ⟨k, x, rfl⟩ | ⟨k, x, y, t0, t1, rfl, ek, h0, h1⟩ | ⟨k, rfl⟩ | ⟨k, b, hb, rfl⟩ | ⟨k, rfl⟩ | ⟨k, rfl⟩
    · exact .inl ⟨nk (by omega) (by omega) (by omega), ck0 e (d + 1) w⟩
    · exact .inl ⟨nk (by omega) (by omega) (by omega), ck1 e (d + 1) _ w⟩
    · exact .inl ⟨nk (by omega) (by omega) (by omega), ck2 e (d + 1) _ w⟩
    · exact .inl ⟨nk (by omega) (by omega) (by omega), ck3 e (d + 1) _ w⟩
    · exact .inl ⟨nk (by omega) (by omega) (by omega), ck4 e (d + 1) _ w⟩
    · exact .inl ⟨nk (by omega) (by omega) (by omega), ck5 e (d + 1) _ w⟩
    · exact .inl ⟨nk (by omega) (by omega) (by omega), ck6 e (d + 1) _ w⟩
    · exact .inr ⟨by simp [keyT, k], ck7 e (d + 1) x w⟩
    · exact .inr ⟨by simp [keyT, k], ck8 e (d + 1) x w⟩
    · have ekt : keyT (n + 1) t = (keyT n t0 && keyT n t1) := by simp [keyT, k, ek, keyP]
      rw [ekt, ck9]
      obtain ⟨d', rfl⟩ : ∃ d', d = d' + 2 := ⟨d - 2, by omega⟩
      have I0 := ih t0 x d' e w h0 (by omega)
      have I1 := ih t1 y d' e w h1 (by omega)
      rcases I0 with ⟨k0, r0⟩ | ⟨k0, T, pv, r0⟩
      · rw [show d' + 2 + 1 = d' + 3 from rfl, r0]
        simp only [Result.andThen_ok]
        rcases I1 with ⟨k1, r1⟩ | ⟨k1, T, pv, r1⟩
        · exact .inl ⟨by rw [k0, k1]; rfl, r1⟩
        · exact .inr ⟨by rw [k0, k1]; rfl, T, pv, r1⟩
      · refine .inr ⟨by rw [k0]; rfl, T, pv, ?_⟩
        rw [show d' + 2 + 1 = d' + 3 from rfl, r0]; rfl
    · exact .inl ⟨nk (by omega) (by omega) (by omega), ck10 e d _ _ w⟩
    · exact .inl ⟨nk (by omega) (by omega) (by omega), ck11 e (d + 1) _ w⟩
    · exact .inl ⟨nk (by omega) (by omega) (by omega), ck11 e (d + 1) _ w⟩
    · exact .inl ⟨nk (by omega) (by omega) (by omega), ck13 e (d + 1) w⟩

/-- Of keys == does not panic. -/
theorem key_code : ∀ (n m : Nat) (a : Tr n) (b : Tr m), keyT n a = true → keyT m b = true → (eqT n m a b).2 = 0
  | 0, _, a, _ => a.elim
  | _ + 1, 0, _, b => b.elim
  | n + 1, m + 1, a, b => by
    intro ha hb
    simp only [keyT] at ha hb
    simp only [eqT]
    split
    · rfl
    split
    · rename_i h1 h2
      rw [if_neg (by omega)] at ha
      simp at ha; omega
    split
    · rfl
    split
    · rename_i h1 h2 h3 h9
      have h9b : b.kd = 9 := by omega
      rw [if_pos h9] at ha
      rw [if_pos h9b] at hb
      match hx : a.ks, hy : b.ks with
      | [a0, a1], [b0, b1] =>
        rw [hx] at ha
        rw [hy] at hb
        simp only [keyP, Bool.and_eq_true] at ha hb
        simp only [eqP]
        split
        · exact key_code n m a0 b0 ha.1 hb.1
        · exact key_code n m a1 b1 ha.2 hb.2
      | [], _ | [_], _ | _ :: _ :: _ :: _, _ => rw [hx] at ha; simp [keyP] at ha
      | [_, _], [] | [_, _], [_] | [_, _], _ :: _ :: _ :: _ => rw [hy] at hb; simp [keyP] at hb
    · rfl

/-- The map of first places. -/
def Fm (w : World) (r : Nat) (kl : List (Value × Nat)) : Prop :=
  ∃ (es : Array MapEntry) (ck : Nat), w.heap[r]? = some (.map es ck) ∧ es.toList.map (fun e => (e.key, e.val)) = kl.map fun x => (x.1, Value.int .i64 x.2)
def fnd (f : Value → Bool) (kl : List (Value × Nat)) : Option Nat := (kl.find? fun x => f x.1).map (·.2)

theorem ask_run (w : World) (v : Value) (f : Value → Bool) : ∀ (es : List MapEntry) (kl : List (Value × Nat)) (i : Nat), es.map (fun e => (e.key, e.val)) = kl.map (fun x => (x.1, Value.int .i64 x.2)) →
    (∀ x ∈ kl, (Op.equal 20 v x.1).run Tryz.prog w = .ok (f x.1) w) → ∃ q, (Instr.findAsking 20 v es i).run Tryz.prog w = .ok q w ∧ q.map (·.2) = (fnd f kl).map fun j => Value.int .i64 j
  | [], [], _, _, _ => ⟨none, rfl, rfl⟩
  | [], _ :: _, _, h, _ => by simp at h
  | _ :: _, [], _, h, _ => by simp at h
  | e :: es, (x, j) :: kl, i, h, hf => by
    simp only [List.map_cons, List.cons.injEq, Prod.mk.injEq] at h
    obtain ⟨⟨h1, h2⟩, h3⟩ := h
    have e1 := hf (x, j) (by simp)
    simp only [Instr.findAsking, h1, Sem.run_bind, e1, Result.andThen_ok]
    cases hx : f x with
    | true => exact ⟨some (i, e.val), by simp, by simp [fnd, hx, h2]⟩
    | false =>
      obtain ⟨q, q1, q2⟩ := ask_run w v f es kl (i + 1) h3 (fun y hy => hf y (by simp [hy]))
      exact ⟨q, by simpa using q1, by rw [q2]; simp [fnd, hx]⟩
theorem find_run (w : World) (v : Value) (f : Value → Bool) (es : List MapEntry) (kl : List (Value × Nat)) (h : es.map (fun e => (e.key, e.val)) = kl.map (fun x => (x.1, Value.int .i64 x.2)))
    (hf : ∀ x ∈ kl, (Op.equal 20 v x.1).run Tryz.prog w = .ok (f x.1) w) : ∃ q, (Instr.findKey 20 v es).run Tryz.prog w = .ok q w ∧ q.map (·.2) = (fnd f kl).map fun j => Value.int .i64 j := by
  have hu : Tryz.prog.underlying 20 = some (.interface #[]) := by kernel_rfl
  match es, kl, h with
  | [], [], _ => exact ⟨none, by simp [Instr.findKey, run_underlying hu, Instr.findNow], rfl⟩
  | e :: es, x :: kl, h =>
    obtain ⟨q, q1, q2⟩ := ask_run w v f (e :: es) (x :: kl) 0 h hf
    refine ⟨q, ?_, q2⟩
    have : Instr.findNow (.interface #[]) v (e :: es) 0 = none := by simp [Instr.findNow, Instr.sameNow]
    simp only [Instr.findKey, Sem.run_bind, run_underlying hu, Result.andThen_ok, this]
    exact q1
  | [], _ :: _, h => simp at h
  | _ :: _, [], h => simp at h

theorem look_fm (w : World) (r : Nat) (kl : List (Value × Nat)) (hm : Fm w r kl) (v : Value) (f : Value → Bool) (hc : ∀ e, (Instr.checkKey e 10000 20 v).run Tryz.prog w = .ok () w) (hf : ∀ x ∈ kl, (Op.equal 20 v x.1).run Tryz.prog w = .ok (f x.1) w) :
    (Instr.lookup 87 (.map (some r)) v true).run Tryz.prog w = .ok (.tuple #[.int .i64 ((fnd f kl).getD 0), .bool (fnd f kl).isSome]) w := by
  obtain ⟨es, ck, hb, he⟩ := hm
  obtain ⟨q, h1, h2⟩ := find_run w v f es.toList kl he hf
  have hu : Tryz.prog.underlying 87 = some (.map 20 3) := by kernel_rfl
  have hz : ∀ w, (zeroValue 3).run Tryz.prog w = .ok (.int .i64 0) w := fun _ => by kernel_rfl
  have hg : (getObj r).run Tryz.prog w = .ok (.map es ck) w := by simp [getObj, Sem.run, hb]
  simp only [Instr.lookup, Sem.run_bind, run_underlying hu, Result.andThen_ok, hg, Sem.run_pure, hc, h1]
  cases q with
  | none =>
    have : fnd f kl = none := by
      cases hl : fnd f kl with
      | none => rfl
      | some b => rw [hl] at h2; simp at h2
    simp [this, hz]
  | some x =>
    obtain ⟨k, u⟩ := x
    cases hl : fnd f kl with
    | none => rw [hl] at h2; simp at h2
    | some b => rw [hl] at h2; simp at h2; simp [h2]
theorem look_no (w : World) (r : Nat) (kl : List (Value × Nat)) (hm : Fm w r kl) (v : Value) (hc : ∀ e, ∃ T pv, (Instr.checkKey e 10000 20 v).run Tryz.prog w = .halt (.panic (.iface T pv)) w) :
    ∃ T pv, (Instr.lookup 87 (.map (some r)) v true).run Tryz.prog w = .halt (.panic (.iface T pv)) w := by
  obtain ⟨es, ck, hb, he⟩ := hm
  obtain ⟨T, pv, hc'⟩ := hc es.isEmpty
  refine ⟨T, pv, ?_⟩
  have hu : Tryz.prog.underlying 87 = some (.map 20 3) := by kernel_rfl
  have hg : (getObj r).run Tryz.prog w = .ok (.map es ck) w := by simp [getObj, Sem.run, hb]
  simp only [Instr.lookup, Sem.run_bind, run_underlying hu, Result.andThen_ok, hg, Sem.run_pure, hc', Result.andThen_halt]
theorem upd_fm (w : World) (r : Nat) (kl : List (Value × Nat)) (hm : Fm w r kl) (v : Value) (i : Nat) (f : Value → Bool) (hc : ∀ e, (Instr.checkKey e 10000 20 v).run Tryz.prog w = .ok () w) (hf : ∀ x ∈ kl, (Op.equal 20 v x.1).run Tryz.prog w = .ok (f x.1) w) (hn : fnd f kl = none) :
    ∃ w', (Instr.mapUpdate 87 (.map (some r)) v (.int .i64 i)).run Tryz.prog w = .ok () w' ∧ Fm w' r (kl ++ [(v, i)]) ∧ w.grownBy w' (some r) := by
  obtain ⟨es, ck, hb, he⟩ := hm
  obtain ⟨q, h1, h2⟩ := find_run w v f es.toList kl he hf
  have hu : Tryz.prog.underlying 87 = some (.map 20 3) := by kernel_rfl
  have hq : q = none := by
    rw [hn] at h2
    cases q with
    | none => rfl
    | some x => simp at h2
  subst hq
  have hg : (getObj r).run Tryz.prog w = .ok (.map es ck) w := by simp [getObj, Sem.run, hb]
  have hs : ∀ o, (setObj r o).run Tryz.prog w = .ok () { w with heap := w.heap.setIfInBounds r o } := fun o => by simp [setObj, Sem.run, hb]
  simp only [Instr.mapUpdate, Sem.run_bind, run_underlying hu, Result.andThen_ok, hg, hc, h1]
  refine ⟨_, hs _, ?_, ?_⟩
  · refine ⟨es.push ⟨v, .int .i64 i, ck⟩, ck + 1, ?_, ?_⟩
    · have hlt : r < w.heap.size := (Array.getElem?_eq_some_iff.1 hb).1
      simp [hlt]
    · simp [he]
  · refine ⟨rfl, rfl, rfl, by simp, fun k hk hne => ?_⟩
    have : r ≠ k := fun e => hne (by rw [e])
    simp [this]
end Go.Proofs.YtgijdiplhcoojaaGreatDoor.Dt
