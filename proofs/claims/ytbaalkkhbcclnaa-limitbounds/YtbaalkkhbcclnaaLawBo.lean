/- For any state, numbers and steps the law LimitBounds answers true; the conditions: the steps read. -/
import Derived.Test.YtbaalkkhbcclnaaLe
import Derived.Deep.CutBlock
import Derived.Deep.CutRange
namespace Go.Proofs.Ytbaalkkhbcclnaa
open Go.RowKit

theorem info_parts {P : Program} {T : TypeId} {z : Option Value} {s y : Nat} (h : (P.info? T).map (fun i => (i.zero, i.size, i.bytes)) = some (z, s, y)) : ∃ i, P.info? T = some i ∧ i.zero = z ∧ i.size = s ∧ i.bytes = y := by
  cases hi : P.info? T with
  | none => rw [hi] at h; simp at h
  | some i => rw [hi] at h; simp at h; exact ⟨i, rfl, h.1, h.2.1, h.2.2⟩
theorem infoI : (Try.prog.info? 2).map (fun i => (i.zero, i.size, i.bytes)) = some (some (.int .i64 0), 1, 8) := by kernel_rfl
theorem set2_other (w : World) (A g : Nat) (x0 x1 : Value) (h : g ≠ A) : ((w.setCell ⟨A, 0, none⟩ x0).setCell ⟨A, 1, none⟩ x1).heap[g]? = w.heap[g]? :=
  (Below.heap_setCell _ _ _ _ h).trans (Below.heap_setCell _ _ _ _ h)
theorem keep_own {W w4 : World} {base : Nat} {e : TypeId} {s n : Nat} {v : Value} {xs : List Value} (ho : W.ownsRow base e s v n xs) (hg : W.grownBy w4 v.ownBlock) {A : Nat} {cs : Array Value} {T : TypeId} (hA : A < base) (h : Bk W A cs T) : Bk w4 A cs T :=
  (hg.block A h.lt (fun e => by have := (ho.lt A e.symm).1; omega)).trans h
theorem below_own {W w4 w : World} {base : Nat} {e : TypeId} {s n : Nat} {v : Value} {xs : List Value} (ho : W.ownsRow base e s v n xs) (hg : W.grownBy w4 v.ownBlock) (hB : w.heap.size ≤ base) (h : Below w.heap.size w W) : Below w.heap.size w w4 :=
  h.grown hg h.size (fun k e => by have := (ho.lt k e).1; omega)
theorem row_form {w : World} {base : Nat} {e : TypeId} {s n : Nat} {v : Value} {xs : List Value} (h : w.ownsRow base e s v n xs) : ∃ ad c, v = .slice ad n c := by
  rcases h.2 with ⟨hv, rfl⟩ | ⟨g, cap, cur, hv, _⟩
  · exact ⟨none, 0, hv⟩
  · exact ⟨_, cap, hv⟩
theorem mul_rng (x a : Int) (h0 : 0 ≤ x) (h1 : x ≤ 1099511627776) (h2 : 1 ≤ a) (h3 : a ≤ 1000000) : 0 ≤ x * a ∧ x * a ≤ 1099511627776000000 := by
  have g1 : x * a ≤ x * 1000000 := Int.mul_le_mul_of_nonneg_left h3 h0
  have g2 := Int.mul_nonneg h0 (show 0 ≤ a by omega)
  omega
theorem div_rng (x b : Int) (h0 : 0 ≤ x) (h1 : x ≤ 1099511627776000000) (h2 : 1 ≤ b) : 0 ≤ x / b ∧ x / b ≤ 1099511627776000000 := by
  have g1 := Int.ediv_le_self b h0
  have g2 := Int.ediv_nonneg h0 (show 0 ≤ b by omega)
  omega
theorem cell_one_at {w : World} {n : Nat} (hn : n = w.heap.size) (T : TypeId) (v : Value) : ∀ j u, [v][j]? = some u → (w.alloc (.cells #[v] T)).cell? ((⟨n, 0, none⟩ : Addr).add j) = some u := by
  subst hn
  intro j u h
  cases j with
  | zero =>
    simp at h; subst h
    exact (Bk.new w #[v] T).c 0
  | succ j => simp at h
set_option maxRecDepth 100000 in
set_option maxHeartbeats 2000000 in
theorem bounds_in (L l a b : Int) (ad : Option Addr) (zs : List Int) (cap : Nat) (w : World) (hf : fitB L l a b = true) (hz : ∀ j (h : j < zs.length), ∃ g of, ad = some ⟨g, of, none⟩ ∧ g < w.heap.size ∧ w.cell? ⟨g, of + j, none⟩ = some (.int .i64 zs[j])) : Calls Try.prog 5 #[.agg #[.int .i64 L, .int .i64 l], .int .i64 a, .int .i64 b, .slice ad zs.length cap] w fun e w' => e = .returned (.bool true) ∧ Below w.heap.size w w' := by
  have KF := Lib.hid (fun w' => rfit_any L l a b w')
  rw [hf] at KF
  have HZ := Lib.hid hz
  obtain ⟨i0, hi0, hz0, hz1, hz2⟩ := info_parts infoI
  obtain ⟨x1, x2, x3, x4, x5, x6, x7, x8⟩ := of_decide_eq_true hf
  have B0 := Bd.nil (fit_ft hf x7 x8)
  clear hf hz x1 x2 x3 x4 x5 x6
  go_enter Try.func5, Try.ntmps5
  go_upto_block 0 with (go_at_call 8; refine (KF.out _).mono ?_; rintro e w1 ⟨rfl, o, rfl⟩)
  have R0 := Lib.hid (show Bd [] L l a b ∧ Bk ((w.alloc (.cells #[.int .i64 L, .int .i64 l] 23)).alloc o) w.heap.size #[.int .i64 L, .int .i64 l] 23 ∧ ((w.alloc (.cells #[.int .i64 L, .int .i64 l] 23)).alloc o).ownsRow (w.heap.size + 1) 2 1 (.slice none 0 0) ([] : List Int).length (([] : List Int).map (Value.int .i64)) ∧ Below w.heap.size w ((w.alloc (.cells #[.int .i64 L, .int .i64 l] 23)).alloc o) from ⟨B0, (Bk.new w _ _).alloc _, World.ownsRow_nil _ _ _ _, below2 w _ _⟩)
  clear B0
  go_cut [9, 10, 11, 12, 13, 27] from 28 to 55 (fun _ sa _ _ _ _ wc => ∃ (Ls k : Int) (xs : List Int) (ad9 : Option Addr) (c9 : Nat), .slice ad9 xs.length c9 = sa ∧ xs.length ≤ 60 ∧ Hid (Bd xs Ls k a b ∧ wc.ownsRow (w.heap.size + 1) 2 1 (.slice ad9 xs.length c9) xs.length (xs.map (Value.int .i64)) ∧ Below w.heap.size w wc))
  case first =>
    go_wp2_with fail
    go_loopw [9, 10, 11, 12, 13, 27] (fun sn sa _ _ _ si wr => ∃ (j : Nat) (Ls k : Int) (xs : List Int) (va : Value), sn = .int .i64 k ∧ va = sa ∧ si = .int .i64 j ∧ j ≤ zs.length ∧ xs.length ≤ j ∧ xs.length ≤ 60 ∧ Hid (Bd xs Ls k a b ∧ Bk wr w.heap.size #[.int .i64 Ls, .int .i64 k] 23 ∧ wr.ownsRow (w.heap.size + 1) 2 1 va xs.length (xs.map (Value.int .i64)) ∧ Below w.heap.size w wr)) (fun _ _ _ _ _ si _ => (zs.length - intOf si).toNat)
    case atStart => exact ⟨0, L, l, [], _, rfl, rfl, rfl, Nat.zero_le _, Nat.le_refl _, by simp, R0⟩
    case round =>
      obtain ⟨j, Ls, k, xs, va, rfl, rfl, rfl, hj, hxj, h60, hR⟩ := hrel
      obtain ⟨bd, bs, br, bl⟩ := hR.out
      clear hR R0
      have c0 : wr.cell? ⟨w.heap.size, 0, none⟩ = _ := bs.c 0
      have c1 : wr.cell? ⟨w.heap.size, 1, none⟩ = _ := bs.c 1
      simp at c0 c1
      obtain ⟨ad9, c9, rfl⟩ := row_form br
      have hk0 := bd.ft.l1; have hk1 := bd.ft.l2
      replace bd := Lib.hid bd; replace bs := Lib.hid bs; replace br := Lib.hid br; replace bl := Lib.hid bl
      by_cases hjl : j < zs.length
      · obtain ⟨g, of, rfl, hg, hgc⟩ := HZ.out j hjl
        have hgr : wr.cell? ⟨g, of + j, none⟩ = _ := (bl.out.cell hg).trans hgc
        generalize zs[j] = z at *
        clear hgc
        by_cases hi : j < 60
        · obtain ⟨t, ht, t0, t1⟩ := rem_num 1048575 z (by omega) (by omega)
          rw [show (1048575 : Int) + 1 = 1048576 by omega] at ht
          by_cases hT : 1099511627776 < k + t
          · go_wp2_with fail
            go_meet
            case rel => exact ⟨Ls, k, xs, ad9, c9, rfl, h60, Lib.hid ⟨bd.out, br.out, bl.out⟩⟩
          · have HN : k ≤ k + t ∧ k + t ≤ 1099511627776 := by omega
            have T1 := Lib.hid (fun w' => take_b (bd.out.ft.at (m := k + t) (by omega) HN.2) w')
            rw [show max k (k + t) = k + t by omega] at T1
            by_cases hb : lv Ls k a b (k + t) < b
            · rw [if_pos hb, decide_eq_true hb] at T1
              have M2 := Lib.hid (bd.out.no HN.1 HN.2)
              generalize lv Ls k a b (k + t) = V at *
              go_wp2_with (go_at_call 11; with_reducible refine (T1.out _).mono ?_; rintro e w1 ⟨rfl, b1⟩; have s1 := bs.out.step b1; have d0 : w1.cell? ⟨w.heap.size, 0, none⟩ = _ := s1.c 0; have d1 : w1.cell? ⟨w.heap.size, 1, none⟩ = _ := s1.c 1; simp at d0 d1; have g0 : w1.frozen? ⟨w.heap.size, 0, none⟩ = _ := s1.f 0; have g1 : w1.frozen? ⟨w.heap.size, 1, none⟩ = _ := s1.f 1; replace s1 := Lib.hid s1; have l1 := Lib.hid (below_then b1 bl.out); have r1 := Lib.hid (row_keep br.out (fun g _ h => b1.block g h)); clear b1)
              obtain ⟨y1, y2⟩ := Bk.set2 (x0 := .int .i64 V) (x1 := .int .i64 (k + t)) s1.out
              exact ⟨⟨j + 1, V, k + t, xs, _, rfl, rfl, by simp, by omega, by omega, by omega, Lib.hid ⟨M2.out, y1, row_keep r1.out (fun g h _ => set2_other w1 (w.heap.size) g _ _ (by omega)), l1.out.trans y2⟩⟩, by simp [intOf]; omega⟩
            · rw [if_neg hb, decide_eq_false hb] at T1
              have M2 := Lib.hid (bd.out.yes HN.1 HN.2 hb)
              generalize lv Ls k a b (k + t) - b = V at *
              go_wp2_with (first | (go_at_call 11; with_reducible refine (T1.out _).mono ?_; rintro e w1 ⟨rfl, b1⟩; have s1 := bs.out.step b1; have d0 : w1.cell? ⟨w.heap.size, 0, none⟩ = _ := s1.c 0; have d1 : w1.cell? ⟨w.heap.size, 1, none⟩ = _ := s1.c 1; simp at d0 d1; have g0 : w1.frozen? ⟨w.heap.size, 0, none⟩ = _ := s1.f 0; have g1 : w1.frozen? ⟨w.heap.size, 1, none⟩ = _ := s1.f 1; replace s1 := Lib.hid s1; have l1 := Lib.hid (below_then b1 bl.out); have r1 := Lib.hid (row_keep br.out (fun g _ h => b1.block g h)); clear b1) | (at_builtin; refine wpList_append_own_at _ rfl _ _ 32 rfl (w.heap.size + 1) 2 i0 (.int .i64 0) 1 8 Try.underlying32 hi0 hz0 hz1 hz2 rfl (by decide) (.slice ad9 xs.length c9) xs.length (xs.map (Value.int .i64)) rfl (row_keep (row_keep r1.out (fun g h _ => set2_other w1 (w.heap.size) g (.int .i64 V) (.int .i64 (k + t)) (by omega))) (fun g _ h => (below1 _ _).block g h)) ⟨w1.heap.size, 0, none⟩ 1 1 [.int .i64 (k + t)] rfl rfl (cell_one_at (by simp) _ _) (by simp [Value.oneCell']) (by unfold maxLen; omega) (by omega) (by have := s1.out.lt; simp; omega) ?_; intro v4 w4 ho4 hg4 hn4 ha4; have R4 := Lib.hid ho4; have G4 := Lib.hid hg4; clear ho4 hg4 hn4 ha4))
              obtain ⟨y1, y2⟩ := Bk.set2 (x0 := .int .i64 V) (x1 := .int .i64 (k + t)) s1.out
              have O2 := row_keep (row_keep r1.out (fun g h _ => set2_other w1 (w.heap.size) g (.int .i64 V) (.int .i64 (k + t)) (by omega))) (fun g _ h => (below1 _ (.cells #[.int .i64 (k + t)] 2)).block g h)
              exact ⟨⟨j + 1, V, k + t, xs ++ [k + t], v4, rfl, rfl, by simp, by omega, by simp; omega, by simp; omega, Lib.hid ⟨M2.out, keep_own O2 G4.out (by omega) (y1.alloc _), by simpa using R4.out, below_own O2 G4.out (by omega) (below_al (l1.out.trans y2))⟩⟩, by simp [intOf]; omega⟩
        · go_wp2_with fail
          go_meet
          case rel => exact ⟨Ls, k, xs, ad9, c9, rfl, h60, Lib.hid ⟨bd.out, br.out, bl.out⟩⟩
      · go_wp2_with fail
        go_meet
        case rel => exact ⟨Ls, k, xs, ad9, c9, rfl, h60, Lib.hid ⟨bd.out, br.out, bl.out⟩⟩
  case rest =>
    obtain ⟨Ls, k, xs, ad9, c9, rfl, h60, hcut⟩ := hcut
    obtain ⟨BD, br, bl⟩ := hcut.out
    replace BD := Lib.hid BD
    have E0 := Lib.hid (show wc.ownsRow (w.heap.size + 1) 2 1 (.slice ad9 xs.length c9) xs.length (xs.map (Value.int .i64)) ∧ Below w.heap.size w wc from ⟨br, bl⟩)
    clear br bl hcut R0 HZ
    go_wp2_with fail
    go_loopw [14, 15, 16, 58] (fun _ _ _ si wx => ∃ i : Nat, si = .int .i64 i ∧ i ≤ xs.length ∧ Hid (wx.ownsRow (w.heap.size + 1) 2 1 (.slice ad9 xs.length c9) xs.length (xs.map (Value.int .i64)) ∧ Below w.heap.size w wx)) (fun _ _ _ si _ => (xs.length - intOf si).toNat)
    case atStart => exact ⟨0, rfl, Nat.zero_le _, E0⟩
    case round =>
      obtain ⟨i, rfl, hi, hS⟩ := hrel
      clear E0
      by_cases hil : i < xs.length
      · go_wp2_with fail
        go_loopw [15, 16] (fun sk _ wx => ∃ q : Nat, sk = .int .i64 q ∧ q ≤ i + 1 ∧ Hid (wx.ownsRow (w.heap.size + 1) 2 1 (.slice ad9 xs.length c9) xs.length (xs.map (Value.int .i64)) ∧ Below w.heap.size w wx)) (fun sk _ _ => ((i : Int) + 1 - intOf sk).toNat)
        case atStart => exact ⟨0, rfl, by omega, hS⟩
        case round =>
          obtain ⟨q, rfl, hq, hS2⟩ := hrel
          clear hS
          by_cases hqi : q ≤ i
          · obtain ⟨g9, cc, e9, hb9, hs9, hc9⟩ := row_cell hS2.out.1 (by omega)
            simp only [Value.slice.injEq, true_and] at e9
            obtain ⟨rfl, rfl⟩ := e9
            have m1 := hc9 i hil
            have m2 := hc9 q (by omega)
            have HE := BD.out.end i q hqi hil
            have HP := (BD.out.pair i q hqi hil).1
            have HR1 := BD.out.rng i hil
            have HR2 := BD.out.rng q (by omega)
            have HL := BD.out.ft.l2
            have a1 := BD.out.ft.a1; have a2 := BD.out.ft.a2; have b1 := BD.out.ft.b1; have b2 := BD.out.ft.b2
            clear hc9
            generalize xs.getD i 0 = X at *
            generalize xs.getD q 0 = Y at *
            have hm := mul_rng (X - Y) a (by omega) (by omega) (by omega) (by omega)
            have hd := div_rng ((X - Y) * a) b hm.1 hm.2 (by omega)
            have HE' : ¬ a + (X - Y) * a / b < (i : Int) - q + 1 := HE
            clear HE HP
            go_wp2_with fail
            go_quiet (fail)
            go_wp2_with fail
            exact ⟨⟨q + 1, by simp, by omega, Lib.hid ⟨row_keep hS2.out.1 (fun _ _ _ => rfl), hS2.out.2.trans ⟨rfl, rfl, rfl, Nat.le_refl _, fun _ _ => rfl⟩⟩⟩, by simp [intOf]; omega⟩

          · go_wp2_with fail
            exact ⟨⟨i + 1, by simp, by omega, hS2⟩, by simp [intOf]; omega⟩
      · go_wp2_with (go_at_call 10; refine (awake_any _).mono ?_; rintro e w2 ⟨rfl, b2⟩)
        go_ret
        exact ⟨rfl, below_then b2 hS.out.2⟩

set_option maxRecDepth 100000 in
set_option maxHeartbeats 2000000 in
theorem law_bounds (L l a b : Int) (ad : Option Addr) (zs : List Int) (cap : Nat) (w : World) (hz : ∀ j (h : j < zs.length), ∃ g of, ad = some ⟨g, of, none⟩ ∧ g < w.heap.size ∧ w.cell? ⟨g, of + j, none⟩ = some (.int .i64 zs[j])) : Calls Try.prog 5 #[.agg #[.int .i64 L, .int .i64 l], .int .i64 a, .int .i64 b, .slice ad zs.length cap] w fun e w' => e = .returned (.bool true) ∧ Below w.heap.size w w' := by
  by_cases hf : fitB L l a b = true
  · exact bounds_in L l a b ad zs cap w hf hz
  · have KF := Lib.hid (fun w' => rfit_any L l a b w')
    rw [show fitB L l a b = false by simpa using hf] at KF
    clear hf hz
    go_enter Try.func5, Try.ntmps5
    go_wp2_with (first
      | (go_at_call 8; with_reducible refine (KF.out _).mono ?_; rintro e w1 ⟨rfl, o, rfl⟩)
      | (go_at_call 10; refine (awake_any _).mono ?_; rintro e w1 ⟨rfl, b1⟩))
    go_ret
    refine ⟨rfl, below_then b1 ?_⟩
    repeat (with_reducible first | exact Below.refl _ _ | apply below_al | apply Below.drew)
end Go.Proofs.Ytbaalkkhbcclnaa
