/- The law GuardRuns by its contracts; the conditions: the contracts. -/
import Derived.Test.YthamafijjflfbaaGreatNzh
import Derived.Test.YthamafijjflfbaaGreatMcc
namespace Go.Proofs.YthamafijjflfbaaGreat
open Go.RowKit

theorem row_shape {w : World} {L : Nat} {e : TypeId} {size : Nat} {v : Value} {n : Nat} {xs : List Value} (h : w.ownsRow L e size v n xs) : ∃ a c, v = .slice a n c := by
  rcases h.2 with ⟨rfl, rfl⟩ | ⟨g, cap, cur, e1, -⟩
  · exact ⟨none, 0, rfl⟩
  · exact ⟨_, _, e1⟩
theorem row_cells {w : World} {L : Nat} {e : TypeId} {size : Nat} {a : Option Addr} {n c : Nat} {xs : List Value} (h : w.ownsRow L e size (.slice a n c) n xs) (hn : 0 < n) : ∃ g, a = some ⟨g, 0, none⟩ ∧ g < w.heap.size ∧ ∀ (i : Nat) (u : Value), xs[i]? = some u → w.cell? ⟨g, i, none⟩ = some u := by
  rcases h.2 with ⟨-, e1⟩ | ⟨g, cap, cur, e1, e2, e3, e4⟩
  · omega
  · simp only [Value.slice.injEq] at e1
    obtain ⟨rfl, -, rfl⟩ := e1
    refine ⟨g, rfl, (Array.getElem?_eq_some_iff.1 e3).1, fun i u hu => ?_⟩
    have := h.cells (g := g) rfl i u hu
    have hadd : (⟨g, 0, none⟩ : Addr).add i = ⟨g, i, none⟩ := by unfold Addr.add; split <;> simp_all
    rwa [hadd] at this
theorem dn_at (k j : Nat) (h : j < k) : ((dnI k).map fun q => Value.int .i64 q)[j]? = some (.int .i64 ((k : Int) - 1 - j)) := by
  have : (dnI k)[j]? = some ((k : Int) - 1 - j) := by
    unfold dnI
    rw [List.getElem?_map, List.getElem?_reverse (by simpa using h)]
    simp only [List.length_range]
    rw [List.getElem?_range (by omega)]
    simp only [Option.map_some, Option.some.injEq]
    omega
  rw [List.getElem?_map, this]; rfl
theorem wrapI (n : Int) (h : -1 ≤ n ∧ n ≤ 65536) : IntKind.i64.wrap n = n := by
  have h1 : IntKind.i64.bits = 64 := rfl
  have h2 : IntKind.i64.signed = true := rfl
  unfold IntKind.wrap
  simp only [h1, h2, Bool.true_and, decide_eq_true_eq]
  split <;> omega
/-- A result of the row. -/
theorem Rs.at {B : Nat} {Res : Nat → Rv} {k : Nat} {a : Option Addr} {c : Nat} {xs : List Value} {w : World} (h : Rs B Res k (.slice a k c) xs w) (j : Nat) (hj : j < k) :
    ∃ g g0 g1 g2 g3 g4 g5 g6, a = some ⟨g, 0, none⟩ ∧ g < w.heap.size ∧ (w.cell? ⟨g, j * 10, none⟩ = some (.int .i64 (Res j).er) ∧ w.cell? ⟨g, j * 10 + 1, none⟩ = some (.int .i64 0) ∧ w.cell? ⟨g, j * 10 + 2, none⟩ = some (.int .i64 (Res j).pk) ∧ w.cell? ⟨g, j * 10 + 3, none⟩ = some (.int .i64 (Res j).pn) ∧ w.cell? ⟨g, j * 10 + 4, none⟩ = some (.bool (Res j).has) ∧ w.cell? ⟨g, j * 10 + 5, none⟩ = some (.int .i64 g0) ∧ w.cell? ⟨g, j * 10 + 6, none⟩ = some (.int .i64 g1) ∧ w.cell? ⟨g, j * 10 + 7, none⟩ = some (.int .u64 g2) ∧ w.cell? ⟨g, j * 10 + 8, none⟩ = some (.string g3) ∧ w.cell? ⟨g, j * 10 + 9, none⟩ = some (.slice g4 g5 g6)) ∧ Dt.Rep w (Res j).m [.int .i64 g0, .int .i64 g1, .int .u64 g2, .string g3, .slice g4 g5 g6] (Res j).tr := by
  obtain ⟨g, e1, hg, hc⟩ := row_cells h.o (by omega)
  obtain ⟨g0, g1, g2, g3, g4, g5, g6, hx, rf⟩ := h.k j hj
  refine ⟨g, g0, g1, g2, g3, g4, g5, g6, e1, hg, ⟨hc _ _ (hx 0 (by omega)), hc _ _ (hx 1 (by omega)), hc _ _ (hx 2 (by omega)), hc _ _ (hx 3 (by omega)), hc _ _ (hx 4 (by omega)), hc _ _ (hx 5 (by omega)), hc _ _ (hx 6 (by omega)), hc _ _ (hx 7 (by omega)), hc _ _ (hx 8 (by omega)), hc _ _ (hx 9 (by omega))⟩, Dt.Rf.rep _ _ _ rf⟩

/-- What the law knows of its acts, if they are fit. -/
def Kw (w : World) (la : Option Addr) (ln lc : Nat) (Ac : Nat → Av) (Res : Nat → Rv) (k : Nat) : Prop := k ≤ ln ∧ (∀ wx, Below w.heap.size w wx → Calls Tryz.prog 15 #[.slice la ln lc] wx (Rx Res k wx)) ∧ (∀ wx, Below w.heap.size w wx → Calls Tryz.prog 16 #[.slice la ln lc] wx (Rx Res k wx)) ∧
  ∀ j, j < ln → ∀ wx, Below w.heap.size w wx → Calls Tryz.prog 10 #[.agg (Ac j).cs] wx (GP (Res j).er (Res j).pk (Res j).pn (Res j).has (Res j).m (Res j).tr wx)

set_option maxRecDepth 100000 in
set_option maxHeartbeats 8000000 in
theorem gr_law (lg lo : Nat) (la : Option Addr) (ln lc : Nat) (Ac : Nat → Av) (val : Nat → Bool) (w : World)
    (hlm : ln ≤ maxLen) (hla : ln = 0 ∨ la = some ⟨lg, lo, none⟩) (hlg0 : 0 < ln → lg < w.heap.size)
    (hA : ∀ j, j < ln → Ax w lg (lo + j * 12) (Ac j))
    (hF : ∀ j, j < ln → ∀ wx, Below w.heap.size w wx → Calls Tryz.prog 7 #[.agg (Ac j).cs] wx fun e w' => e = .returned (.bool (val j)) ∧ Below wx.heap.size wx w')
    (hP : ∀ j, j < ln → val j = true → ∀ wx, Below w.heap.size w wx → Calls Tryz.prog 14 #[.agg #[.int .i64 (Ac j).ak, .int .i64 (Ac j).ai, .int .u64 (Ac j).au, .string (Ac j).az, .slice (Ac j).aa (Ac j).an (Ac j).ac]] wx fun e w' => ∃ p d : Int, e = .returned (.tuple #[.int .i64 p, .int .i64 d]) ∧ 1 ≤ p ∧ p ≤ 4096 ∧ Below wx.heap.size wx w')
    (hK : (∀ j, j < ln → val j = true) → ln ≤ 65536 → ∃ Res k, Kw w la ln lc Ac Res k) :
    Calls Tryz.prog 4 #[.slice la ln lc] w fun e w' => e = .returned (.bool true) ∧ Below w.heap.size w w' := by
  have HF := Lib.hid hF
  have HP := Lib.hid hP
  have HA := Lib.hid hA
  have HK := Lib.hid hK
  have HW := Lib.hid awake_any
  have hl' : ln ≤ 9223372036854775807 := by unfold maxLen at hlm; omega
  clear hF hP hA hK
  go_enter Tryz.func4, Tryz.ntmps4
  go_wp2_with fail
  go_loopw [3, 15] (fun s3 s15 wr => ∃ (j : Nat) (n : Int), s15 = .int .i64 j ∧ s3 = .int .i64 n ∧ j ≤ ln ∧ (j : Int) ≤ n ∧ n ≤ 65536 ∧ (∀ q, q < j → val q = true) ∧ Below w.heap.size w wr) (fun _ s15 _ => ln - (intOf s15).toNat)
  case atStart => exact ⟨0, 0, rfl, rfl, Nat.zero_le _, by simp, by omega, fun _ h => absurd h (Nat.not_lt_zero _), Below.refl _ _⟩
  case round =>
    obtain ⟨j, n, rfl, rfl, hj, hn1, hn2, hv, B0⟩ := hrel
    by_cases hlt : j < ln
    · rcases hla with h0 | rfl
      · omega
      have hlg := hlg0 (by omega)
      obtain ⟨c0, c1, c2, c3, c4, c5, c6, c7, c8, c9, c10, c11⟩ := (HA.out j hlt).below B0 hlg
      have hlw : lg < wr.heap.size := by have := B0.size; omega
      have e1 := below1 wr (.cells (Ac j).cs 27)
      have A1 := Bk.new wr (Ac j).cs 27
      have B1 := B0.trans (e1.mono B0.size)
      obtain ⟨a0, a1, a2, a3, a4, a5, a6, a7, a8, a9, a10, a11⟩ := A1.c12
      go_wp2_with fail
      refine (HF.out j hlt _ B1).mono ?_
      rintro e w1 ⟨rfl, b1⟩
      have B2 := B1.trans (b1.mono B1.size)
      have A2 := A1.step b1
      clear c0 c1 c2 c3 c4 c5 c6 c7 c8 c9 c10 c11 a0 a1 a2 a3 a4 a5 a6 a7 a8 a9 a10 a11 hlw A1 B1 e1
      cases hvj : val j with
      | false =>
        go_wp2_with fail
        refine (HW.out _).mono ?_
        rintro e w2 ⟨rfl, b2⟩
        have B3 := B2.trans (b2.mono B2.size)
        go_wp2
        go_ret
        exact ⟨rfl, B3⟩
      | true =>
        obtain ⟨a0, a1, a2, a3, a4, a5, a6, a7, a8, a9, a10, a11⟩ := A2.c12
        go_wp2_with fail
        refine (HP.out j hlt hvj _ B2).mono ?_
        rintro e w2 ⟨p, d, rfl, hp1, hp2, b2⟩
        have B3 := B2.trans (b2.mono B2.size)
        clear a0 a1 a2 a3 a4 a5 a6 a7 a8 a9 a10 a11
        by_cases hgt : 65536 < n + p
        · go_wp2_with fail
          refine (HW.out _).mono ?_
          rintro e w3 ⟨rfl, b3⟩
          have B4 := B3.trans (b3.mono B3.size)
          go_wp2
          go_ret
          exact ⟨rfl, B4⟩
        · have hle : n + p ≤ 65536 := by omega
          go_wp2_with fail
          refine ⟨⟨j + 1, n + p, by simp, by simp, hlt, by omega, by omega, fun q hq => ?_, B3⟩, by simp [intOf]; omega⟩
          by_cases e : q = j
          · subst e; exact hvj
          · exact hv q (by omega)
    · have hje : j = ln := by omega
      subst hje
      obtain ⟨Res, k, hk, KR, KX, KT⟩ := HK.out hv (by omega)
      have KRh := Lib.hid KR
      have KXh := Lib.hid KX
      have KTh := Lib.hid KT
      clear KR KX KT
      go_wp2_with fail
      refine (KRh.out _ B0).mono ?_
      rintro e w1 ⟨Ba, sl, pl, xs, rfl, -, rs, ps, b1⟩
      have B1 := B0.trans (b1.mono B0.size)
      obtain ⟨a1, c1, rfl⟩ := row_shape rs.o
      obtain ⟨a2, c2, rfl⟩ := row_shape ps
      go_wp2_with fail
      refine (KXh.out _ B1).mono ?_
      rintro e w2 ⟨Bx, sx, px, xx, rfl, -, rx, qx, b2⟩
      have B2 := B1.trans (b2.mono B1.size)
      obtain ⟨a3, c3, rfl⟩ := row_shape rx.o
      obtain ⟨a4, c4, rfl⟩ := row_shape qx
      have RA := Lib.hid (rs.step' b2)
      have PA := Lib.hid (owns_to ps fun g hg => b2.block g (owns_lt ps g hg).2)
      have RX := Lib.hid rx
      have PX := Lib.hid qx
      have hk6 : (k : Int) ≤ 65536 := by omega
      clear rs ps rx qx b1 b2 B1
      go_wp2_with fail
      go_loopw [60] (fun s60 wq => ∃ (j' : Nat), s60 = .int .i64 j' ∧ j' ≤ k ∧ Below w2.heap.size w2 wq) (fun s60 _ => k - (intOf s60).toNat)
      case atStart => exact ⟨0, rfl, Nat.zero_le _, Below.refl _ _⟩
      case round =>
        obtain ⟨i, rfl, hi, hb⟩ := hrel
        have B3 := B2.trans (hb.mono B2.size)
        by_cases hlt : i < k
        · rcases hla with h0 | rfl
          · omega
          have hij : i < j := by omega
          have hlg := hlg0 (by omega)
          obtain ⟨ga, g0, g1, g2, g3, g4, g5, g6, rfl, hga, CA, ra⟩ := (RA.out.step' hb).at i hlt
          obtain ⟨gx, h0, h1, h2, h3, h4, h5, h6, rfl, hgx, CX, rx⟩ := (RX.out.step' hb).at i hlt
          obtain ⟨gb, rfl, hgb, cb⟩ := row_cells (owns_to PA.out fun g hg => hb.block g (owns_lt PA.out g hg).2) (by omega)
          obtain ⟨gy, rfl, hgy, cy⟩ := row_cells (owns_to PX.out fun g hg => hb.block g (owns_lt PX.out g hg).2) (by omega)
          have S0 : (fun wx => (wx.cell? ⟨ga, i * 10, none⟩ = some (.int .i64 (Res i).er) ∧ wx.cell? ⟨ga, i * 10 + 1, none⟩ = some (.int .i64 0) ∧ wx.cell? ⟨ga, i * 10 + 2, none⟩ = some (.int .i64 (Res i).pk) ∧ wx.cell? ⟨ga, i * 10 + 3, none⟩ = some (.int .i64 (Res i).pn) ∧ wx.cell? ⟨ga, i * 10 + 4, none⟩ = some (.bool (Res i).has) ∧ wx.cell? ⟨ga, i * 10 + 5, none⟩ = some (.int .i64 g0) ∧ wx.cell? ⟨ga, i * 10 + 6, none⟩ = some (.int .i64 g1) ∧ wx.cell? ⟨ga, i * 10 + 7, none⟩ = some (.int .u64 g2) ∧ wx.cell? ⟨ga, i * 10 + 8, none⟩ = some (.string g3) ∧ wx.cell? ⟨ga, i * 10 + 9, none⟩ = some (.slice g4 g5 g6)) ∧ (wx.cell? ⟨gx, i * 10, none⟩ = some (.int .i64 (Res i).er) ∧ wx.cell? ⟨gx, i * 10 + 1, none⟩ = some (.int .i64 0) ∧ wx.cell? ⟨gx, i * 10 + 2, none⟩ = some (.int .i64 (Res i).pk) ∧ wx.cell? ⟨gx, i * 10 + 3, none⟩ = some (.int .i64 (Res i).pn) ∧ wx.cell? ⟨gx, i * 10 + 4, none⟩ = some (.bool (Res i).has) ∧ wx.cell? ⟨gx, i * 10 + 5, none⟩ = some (.int .i64 h0) ∧ wx.cell? ⟨gx, i * 10 + 6, none⟩ = some (.int .i64 h1) ∧ wx.cell? ⟨gx, i * 10 + 7, none⟩ = some (.int .u64 h2) ∧ wx.cell? ⟨gx, i * 10 + 8, none⟩ = some (.string h3) ∧ wx.cell? ⟨gx, i * 10 + 9, none⟩ = some (.slice h4 h5 h6)) ∧ (wx.cell? ⟨lg, lo + i * 12, none⟩ = some (.int .i64 (Ac i).op) ∧ wx.cell? ⟨lg, lo + i * 12 + 1, none⟩ = some (.int .i64 (Ac i).ak) ∧ wx.cell? ⟨lg, lo + i * 12 + 2, none⟩ = some (.int .i64 (Ac i).ai) ∧ wx.cell? ⟨lg, lo + i * 12 + 3, none⟩ = some (.int .u64 (Ac i).au) ∧ wx.cell? ⟨lg, lo + i * 12 + 4, none⟩ = some (.string (Ac i).az) ∧ wx.cell? ⟨lg, lo + i * 12 + 5, none⟩ = some (.slice (Ac i).aa (Ac i).an (Ac i).ac) ∧ wx.cell? ⟨lg, lo + i * 12 + 6, none⟩ = some (.int .i64 (Ac i).bk) ∧ wx.cell? ⟨lg, lo + i * 12 + 7, none⟩ = some (.int .i64 (Ac i).bi) ∧ wx.cell? ⟨lg, lo + i * 12 + 8, none⟩ = some (.int .u64 (Ac i).bu) ∧ wx.cell? ⟨lg, lo + i * 12 + 9, none⟩ = some (.string (Ac i).bs) ∧ wx.cell? ⟨lg, lo + i * 12 + 10, none⟩ = some (.slice (Ac i).ba (Ac i).bn (Ac i).bc) ∧ wx.cell? ⟨lg, lo + i * 12 + 11, none⟩ = some (.int .i64 (Ac i).num)) ∧ wx.cell? ⟨gb, i, none⟩ = some (.int .i64 ((k : Int) - 1 - i)) ∧ wx.cell? ⟨gy, i, none⟩ = some (.int .i64 ((k : Int) - 1 - i))) wr := ⟨CA, CX, (HA.out i hij).below B3 hlg, cb i _ (dn_at k i hlt), cy i _ (dn_at k i hlt)⟩
          have hlw : lg < wr.heap.size := by have := B3.size; omega
          have cl : ∀ wx, Below wr.heap.size wr wx → ∀ g, g < wr.heap.size → ∀ o, wx.cell? ⟨g, o, none⟩ = wr.cell? ⟨g, o, none⟩ := fun wx h g hg o => World.cell?_of_block (h.block g hg)
          have KS : Hid (∀ wx, Below wr.heap.size wr wx → (fun wx => (wx.cell? ⟨ga, i * 10, none⟩ = some (.int .i64 (Res i).er) ∧ wx.cell? ⟨ga, i * 10 + 1, none⟩ = some (.int .i64 0) ∧ wx.cell? ⟨ga, i * 10 + 2, none⟩ = some (.int .i64 (Res i).pk) ∧ wx.cell? ⟨ga, i * 10 + 3, none⟩ = some (.int .i64 (Res i).pn) ∧ wx.cell? ⟨ga, i * 10 + 4, none⟩ = some (.bool (Res i).has) ∧ wx.cell? ⟨ga, i * 10 + 5, none⟩ = some (.int .i64 g0) ∧ wx.cell? ⟨ga, i * 10 + 6, none⟩ = some (.int .i64 g1) ∧ wx.cell? ⟨ga, i * 10 + 7, none⟩ = some (.int .u64 g2) ∧ wx.cell? ⟨ga, i * 10 + 8, none⟩ = some (.string g3) ∧ wx.cell? ⟨ga, i * 10 + 9, none⟩ = some (.slice g4 g5 g6)) ∧ (wx.cell? ⟨gx, i * 10, none⟩ = some (.int .i64 (Res i).er) ∧ wx.cell? ⟨gx, i * 10 + 1, none⟩ = some (.int .i64 0) ∧ wx.cell? ⟨gx, i * 10 + 2, none⟩ = some (.int .i64 (Res i).pk) ∧ wx.cell? ⟨gx, i * 10 + 3, none⟩ = some (.int .i64 (Res i).pn) ∧ wx.cell? ⟨gx, i * 10 + 4, none⟩ = some (.bool (Res i).has) ∧ wx.cell? ⟨gx, i * 10 + 5, none⟩ = some (.int .i64 h0) ∧ wx.cell? ⟨gx, i * 10 + 6, none⟩ = some (.int .i64 h1) ∧ wx.cell? ⟨gx, i * 10 + 7, none⟩ = some (.int .u64 h2) ∧ wx.cell? ⟨gx, i * 10 + 8, none⟩ = some (.string h3) ∧ wx.cell? ⟨gx, i * 10 + 9, none⟩ = some (.slice h4 h5 h6)) ∧ (wx.cell? ⟨lg, lo + i * 12, none⟩ = some (.int .i64 (Ac i).op) ∧ wx.cell? ⟨lg, lo + i * 12 + 1, none⟩ = some (.int .i64 (Ac i).ak) ∧ wx.cell? ⟨lg, lo + i * 12 + 2, none⟩ = some (.int .i64 (Ac i).ai) ∧ wx.cell? ⟨lg, lo + i * 12 + 3, none⟩ = some (.int .u64 (Ac i).au) ∧ wx.cell? ⟨lg, lo + i * 12 + 4, none⟩ = some (.string (Ac i).az) ∧ wx.cell? ⟨lg, lo + i * 12 + 5, none⟩ = some (.slice (Ac i).aa (Ac i).an (Ac i).ac) ∧ wx.cell? ⟨lg, lo + i * 12 + 6, none⟩ = some (.int .i64 (Ac i).bk) ∧ wx.cell? ⟨lg, lo + i * 12 + 7, none⟩ = some (.int .i64 (Ac i).bi) ∧ wx.cell? ⟨lg, lo + i * 12 + 8, none⟩ = some (.int .u64 (Ac i).bu) ∧ wx.cell? ⟨lg, lo + i * 12 + 9, none⟩ = some (.string (Ac i).bs) ∧ wx.cell? ⟨lg, lo + i * 12 + 10, none⟩ = some (.slice (Ac i).ba (Ac i).bn (Ac i).bc) ∧ wx.cell? ⟨lg, lo + i * 12 + 11, none⟩ = some (.int .i64 (Ac i).num)) ∧ wx.cell? ⟨gb, i, none⟩ = some (.int .i64 ((k : Int) - 1 - i)) ∧ wx.cell? ⟨gy, i, none⟩ = some (.int .i64 ((k : Int) - 1 - i))) wx) := fun wx h => by
            have e := cl wx h
            simp only [e ga hga, e gx hgx, e lg hlw, e gb hgb, e gy hgy]
            exact S0
          have RAi := Lib.hid ra
          have RXi := Lib.hid rx
          have B3h := Lib.hid B3
          have hbh := Lib.hid hb
          have ew1 : IntKind.i64.wrap ((k : Int) - 1) = (k : Int) - 1 := wrapI _ (by omega)
          have ew2 : IntKind.i64.wrap ((k : Int) - 1 - (i : Int)) = (k : Int) - 1 - i := wrapI _ (by omega)
          clear S0 cl CA CX cb cy ra rx RA RX PA PX B3 hb HF HP HA HK KRh KXh B0 B2 hv
          go_wp2_with fail
          refine wp_region_held_drew (S := (fun wx => (wx.cell? ⟨ga, i * 10, none⟩ = some (.int .i64 (Res i).er) ∧ wx.cell? ⟨ga, i * 10 + 1, none⟩ = some (.int .i64 0) ∧ wx.cell? ⟨ga, i * 10 + 2, none⟩ = some (.int .i64 (Res i).pk) ∧ wx.cell? ⟨ga, i * 10 + 3, none⟩ = some (.int .i64 (Res i).pn) ∧ wx.cell? ⟨ga, i * 10 + 4, none⟩ = some (.bool (Res i).has) ∧ wx.cell? ⟨ga, i * 10 + 5, none⟩ = some (.int .i64 g0) ∧ wx.cell? ⟨ga, i * 10 + 6, none⟩ = some (.int .i64 g1) ∧ wx.cell? ⟨ga, i * 10 + 7, none⟩ = some (.int .u64 g2) ∧ wx.cell? ⟨ga, i * 10 + 8, none⟩ = some (.string g3) ∧ wx.cell? ⟨ga, i * 10 + 9, none⟩ = some (.slice g4 g5 g6)) ∧ (wx.cell? ⟨gx, i * 10, none⟩ = some (.int .i64 (Res i).er) ∧ wx.cell? ⟨gx, i * 10 + 1, none⟩ = some (.int .i64 0) ∧ wx.cell? ⟨gx, i * 10 + 2, none⟩ = some (.int .i64 (Res i).pk) ∧ wx.cell? ⟨gx, i * 10 + 3, none⟩ = some (.int .i64 (Res i).pn) ∧ wx.cell? ⟨gx, i * 10 + 4, none⟩ = some (.bool (Res i).has) ∧ wx.cell? ⟨gx, i * 10 + 5, none⟩ = some (.int .i64 h0) ∧ wx.cell? ⟨gx, i * 10 + 6, none⟩ = some (.int .i64 h1) ∧ wx.cell? ⟨gx, i * 10 + 7, none⟩ = some (.int .u64 h2) ∧ wx.cell? ⟨gx, i * 10 + 8, none⟩ = some (.string h3) ∧ wx.cell? ⟨gx, i * 10 + 9, none⟩ = some (.slice h4 h5 h6)) ∧ (wx.cell? ⟨lg, lo + i * 12, none⟩ = some (.int .i64 (Ac i).op) ∧ wx.cell? ⟨lg, lo + i * 12 + 1, none⟩ = some (.int .i64 (Ac i).ak) ∧ wx.cell? ⟨lg, lo + i * 12 + 2, none⟩ = some (.int .i64 (Ac i).ai) ∧ wx.cell? ⟨lg, lo + i * 12 + 3, none⟩ = some (.int .u64 (Ac i).au) ∧ wx.cell? ⟨lg, lo + i * 12 + 4, none⟩ = some (.string (Ac i).az) ∧ wx.cell? ⟨lg, lo + i * 12 + 5, none⟩ = some (.slice (Ac i).aa (Ac i).an (Ac i).ac) ∧ wx.cell? ⟨lg, lo + i * 12 + 6, none⟩ = some (.int .i64 (Ac i).bk) ∧ wx.cell? ⟨lg, lo + i * 12 + 7, none⟩ = some (.int .i64 (Ac i).bi) ∧ wx.cell? ⟨lg, lo + i * 12 + 8, none⟩ = some (.int .u64 (Ac i).bu) ∧ wx.cell? ⟨lg, lo + i * 12 + 9, none⟩ = some (.string (Ac i).bs) ∧ wx.cell? ⟨lg, lo + i * 12 + 10, none⟩ = some (.slice (Ac i).ba (Ac i).bn (Ac i).bc) ∧ wx.cell? ⟨lg, lo + i * 12 + 11, none⟩ = some (.int .i64 (Ac i).num)) ∧ wx.cell? ⟨gb, i, none⟩ = some (.int .i64 ((k : Int) - 1 - i)) ∧ wx.cell? ⟨gy, i, none⟩ = some (.int .i64 ((k : Int) - 1 - i)))) (by kernel_rfl) (KS.out _ (Below.drew (Below.refl _ _))) (fun hHeld => ?_)
          have b3 : Below wr.heap.size wr wr.drew := Below.drew (Below.refl _ _)
          generalize wr.drew = w3 at *
          refine wpAnyH_take (i := 0) (oi := { dst := some 63, op := Op.move (Operand.tmp 8), type := 42, pos := "law.go:55", after := #[], guard := none }) (v := ?tT0) rfl (by kernel_rfl) (by kernel_rfl) (by kernel_rfl) (fun _ _ _ h => h) (Or.inl ⟨by rfl, ?uT0⟩) (by assumption) ?rT0
          case uT0 => (intro w hSw; (try dsimp only at hSw); go_simp; (try with_reducible rfl))
          simp only [Act.put, List.setIfInBounds_toArray, List.set_cons_zero, List.set_cons_succ]
          refine wpAnyH_take (i := 1) (oi := { dst := some 64, op := Op.move (Operand.tmp 12), type := 3, pos := "law.go:55", after := #[], guard := none }) (v := ?tT1) rfl (by kernel_rfl) (by kernel_rfl) (by kernel_rfl) (fun _ _ _ h => h) (Or.inl ⟨by rfl, ?uT1⟩) (by assumption) ?rT1
          case uT1 => (intro w hSw; (try dsimp only at hSw); go_simp; (try with_reducible rfl))
          simp only [Act.put, List.setIfInBounds_toArray, List.set_cons_zero, List.set_cons_succ]
          refine wpAnyH_take (i := 2) (oi := { dst := some 65, op := Op.indexAddr 42 (Operand.tmp 63) (Operand.tmp 64), type := 0, pos := "law.go:55", after := #[{ on := 0, ground := Ground.data }, { on := 1, ground := Ground.data }], guard := none }) (v := ?tT2) rfl (by kernel_rfl) (by kernel_rfl) (by kernel_rfl) (fun _ _ _ h => h) (Or.inl ⟨by rfl, ?uT2⟩) (by assumption) ?rT2
          case uT2 => (intro w hSw; (try dsimp only at hSw); go_simp; (try with_reducible rfl))
          simp only [Act.put, List.setIfInBounds_toArray, List.set_cons_zero, List.set_cons_succ]
          refine wpAnyH_take (i := 3) (oi := { dst := some 66, op := Op.load 35 (Operand.tmp 65), type := 35, pos := "law.go:55", after := #[{ on := 2, ground := Ground.data }], guard := none }) (v := ?tT3) rfl (by kernel_rfl) (by kernel_rfl) (by kernel_rfl) (fun _ _ _ h => h) (Or.inl ⟨by rfl, ?uT3⟩) (by assumption) ?rT3
          case uT3 => (intro w hSw; (try dsimp only at hSw); go_simp; (try with_reducible rfl))
          simp only [Act.put, List.setIfInBounds_toArray, List.set_cons_zero, List.set_cons_succ]
          refine wpAnyH_take (i := 4) (oi := { dst := some 67, op := Op.move (Operand.tmp 10), type := 42, pos := "law.go:55", after := #[], guard := none }) (v := ?tT4) rfl (by kernel_rfl) (by kernel_rfl) (by kernel_rfl) (fun _ _ _ h => h) (Or.inl ⟨by rfl, ?uT4⟩) (by assumption) ?rT4
          case uT4 => (intro w hSw; (try dsimp only at hSw); go_simp; (try with_reducible rfl))
          simp only [Act.put, List.setIfInBounds_toArray, List.set_cons_zero, List.set_cons_succ]
          refine wpAnyH_take (i := 5) (oi := { dst := some 68, op := Op.move (Operand.tmp 12), type := 3, pos := "law.go:55", after := #[], guard := none }) (v := ?tT5) rfl (by kernel_rfl) (by kernel_rfl) (by kernel_rfl) (fun _ _ _ h => h) (Or.inl ⟨by rfl, ?uT5⟩) (by assumption) ?rT5
          case uT5 => (intro w hSw; (try dsimp only at hSw); go_simp; (try with_reducible rfl))
          simp only [Act.put, List.setIfInBounds_toArray, List.set_cons_zero, List.set_cons_succ]
          refine wpAnyH_take (i := 6) (oi := { dst := some 69, op := Op.indexAddr 42 (Operand.tmp 67) (Operand.tmp 68), type := 0, pos := "law.go:55", after := #[{ on := 4, ground := Ground.data }, { on := 5, ground := Ground.data }], guard := none }) (v := ?tT6) rfl (by kernel_rfl) (by kernel_rfl) (by kernel_rfl) (fun _ _ _ h => h) (Or.inl ⟨by rfl, ?uT6⟩) (by assumption) ?rT6
          case uT6 => (intro w hSw; (try dsimp only at hSw); go_simp; (try with_reducible rfl))
          simp only [Act.put, List.setIfInBounds_toArray, List.set_cons_zero, List.set_cons_succ]
          refine wpAnyH_take (i := 7) (oi := { dst := some 70, op := Op.load 35 (Operand.tmp 69), type := 35, pos := "law.go:55", after := #[{ on := 6, ground := Ground.data }], guard := none }) (v := ?tT7) rfl (by kernel_rfl) (by kernel_rfl) (by kernel_rfl) (fun _ _ _ h => h) (Or.inl ⟨by rfl, ?uT7⟩) (by assumption) ?rT7
          case uT7 => (intro w hSw; (try dsimp only at hSw); go_simp; (try with_reducible rfl))
          simp only [Act.put, List.setIfInBounds_toArray, List.set_cons_zero, List.set_cons_succ]
          refine wpAnyH_ready (rs := [8]) (by kernel_rfl) (by simp) ?_
          refine AllReadyH.cons (o := { dst := some 71, op := Op.call { callee := Callee.value (Operand.func 11), args := #[Operand.tmp 66, Operand.tmp 70], argTypes := #[35, 35] }, type := 4, pos := "law.go:55", after := #[{ on := 3, ground := Ground.data }, { on := 7, ground := Ground.data }], guard := none }) rfl (fun K hK => ?_) AllReadyH.nil
          go_simp
          refine (rsame_any (Res i).er (Res i).pk (Res i).pn (Res i).has g0 g1 g2 g3 g4 g5 g6 h0 h1 h2 h3 h4 h5 h6 w3 fun wx hx => Dt.sameD (Res i).m (Res i).tr _ _ _ _ _ _ _ _ _ _ wx (Dt.Rep.below (b3.trans (hx.mono b3.size)) _ _ _ RAi.out) (Dt.Rep.below (b3.trans (hx.mono b3.size)) _ _ _ RXi.out)).mono ?_
          rintro e w4 ⟨rfl, c4⟩
          have b4 := b3.trans (c4.mono b3.size)
          clear c4
          go_wp2_with fail
          refine hK.out _ _ (KS.out _ b4) (fun hH4 => ?_)
          clear hK K
          (try simp only [Act.put, List.setIfInBounds_toArray, List.set_cons_zero, List.set_cons_succ])
          refine wpAnyH_take (i := 9) (oi := { dst := some 72, op := Op.unOp UnOp.not 4 (Operand.tmp 71), type := 4, pos := "law.go:55", after := #[{ on := 8, ground := Ground.data }], guard := none }) (v := ?tU9) rfl (by kernel_rfl) (by kernel_rfl) (by kernel_rfl) (fun _ _ _ h => h) (Or.inl ⟨by rfl, ?uU9⟩) (by assumption) ?rU9
          case uU9 => (intro w hSw; (try dsimp only at hSw); go_simp; (try with_reducible rfl))
          simp only [Act.put, List.setIfInBounds_toArray, List.set_cons_zero, List.set_cons_succ]
          refine wpAnyH_take (i := 10) (oi := { dst := some 73, op := Op.move (Operand.tmp 72), type := 4, pos := "law.go:55", after := #[{ on := 9, ground := Ground.data }, { on := 8, ground := Ground.chain }], guard := none }) (v := ?tU10) rfl (by kernel_rfl) (by kernel_rfl) (by kernel_rfl) (fun _ _ _ h => h) (Or.inl ⟨by rfl, ?uU10⟩) (by assumption) ?rU10
          case uU10 => (intro w hSw; (try dsimp only at hSw); go_simp; (try with_reducible rfl))
          simp only [Act.put, List.setIfInBounds_toArray, List.set_cons_zero, List.set_cons_succ]
          refine wpAnyH_take (i := 11) (oi := { dst := some 74, op := Op.move (Operand.tmp 8), type := 42, pos := "law.go:55", after := #[{ on := 10, ground := Ground.guard }], guard := some (10, false) }) (v := ?tU11) rfl (by kernel_rfl) (by kernel_rfl) (by kernel_rfl) (fun _ _ _ h => h) (Or.inl ⟨by rfl, ?uU11⟩) (by assumption) ?rU11
          case uU11 => (intro w hSw; (try dsimp only at hSw); go_simp; (try with_reducible rfl))
          simp only [Act.put, List.setIfInBounds_toArray, List.set_cons_zero, List.set_cons_succ]
          refine wpAnyH_take (i := 12) (oi := { dst := some 75, op := Op.move (Operand.tmp 12), type := 3, pos := "law.go:55", after := #[{ on := 10, ground := Ground.guard }], guard := some (10, false) }) (v := ?tU12) rfl (by kernel_rfl) (by kernel_rfl) (by kernel_rfl) (fun _ _ _ h => h) (Or.inl ⟨by rfl, ?uU12⟩) (by assumption) ?rU12
          case uU12 => (intro w hSw; (try dsimp only at hSw); go_simp; (try with_reducible rfl))
          simp only [Act.put, List.setIfInBounds_toArray, List.set_cons_zero, List.set_cons_succ]
          refine wpAnyH_take (i := 13) (oi := { dst := some 76, op := Op.indexAddr 42 (Operand.tmp 74) (Operand.tmp 75), type := 0, pos := "law.go:55", after := #[{ on := 11, ground := Ground.data }, { on := 12, ground := Ground.data }, { on := 10, ground := Ground.guard }], guard := some (10, false) }) (v := ?tU13) rfl (by kernel_rfl) (by kernel_rfl) (by kernel_rfl) (fun _ _ _ h => h) (Or.inl ⟨by rfl, ?uU13⟩) (by assumption) ?rU13
          case uU13 => (intro w hSw; (try dsimp only at hSw); go_simp; (try with_reducible rfl))
          simp only [Act.put, List.setIfInBounds_toArray, List.set_cons_zero, List.set_cons_succ]
          refine wpAnyH_take (i := 14) (oi := { dst := some 77, op := Op.load 35 (Operand.tmp 76), type := 35, pos := "law.go:55", after := #[{ on := 13, ground := Ground.data }, { on := 10, ground := Ground.guard }], guard := some (10, false) }) (v := ?tU14) rfl (by kernel_rfl) (by kernel_rfl) (by kernel_rfl) (fun _ _ _ h => h) (Or.inl ⟨by rfl, ?uU14⟩) (by assumption) ?rU14
          case uU14 => (intro w hSw; (try dsimp only at hSw); go_simp; (try with_reducible rfl))
          simp only [Act.put, List.setIfInBounds_toArray, List.set_cons_zero, List.set_cons_succ]
          refine wpAnyH_take (i := 15) (oi := { dst := some 78, op := Op.move (Operand.tmp 0), type := 39, pos := "law.go:55", after := #[{ on := 10, ground := Ground.guard }], guard := some (10, false) }) (v := ?tU15) rfl (by kernel_rfl) (by kernel_rfl) (by kernel_rfl) (fun _ _ _ h => h) (Or.inl ⟨by rfl, ?uU15⟩) (by assumption) ?rU15
          case uU15 => (intro w hSw; (try dsimp only at hSw); go_simp; (try with_reducible rfl))
          simp only [Act.put, List.setIfInBounds_toArray, List.set_cons_zero, List.set_cons_succ]
          refine wpAnyH_take (i := 16) (oi := { dst := some 79, op := Op.move (Operand.tmp 12), type := 3, pos := "law.go:55", after := #[{ on := 10, ground := Ground.guard }], guard := some (10, false) }) (v := ?tU16) rfl (by kernel_rfl) (by kernel_rfl) (by kernel_rfl) (fun _ _ _ h => h) (Or.inl ⟨by rfl, ?uU16⟩) (by assumption) ?rU16
          case uU16 => (intro w hSw; (try dsimp only at hSw); go_simp; (try with_reducible rfl))
          simp only [Act.put, List.setIfInBounds_toArray, List.set_cons_zero, List.set_cons_succ]
          refine wpAnyH_take (i := 17) (oi := { dst := some 80, op := Op.indexAddr 39 (Operand.tmp 78) (Operand.tmp 79), type := 0, pos := "law.go:55", after := #[{ on := 15, ground := Ground.data }, { on := 16, ground := Ground.data }, { on := 10, ground := Ground.guard }], guard := some (10, false) }) (v := ?tU17) rfl (by kernel_rfl) (by kernel_rfl) (by kernel_rfl) (fun _ _ _ h => h) (Or.inl ⟨by rfl, ?uU17⟩) (by assumption) ?rU17
          case uU17 => (intro w hSw; (try dsimp only at hSw); go_simp; (try with_reducible rfl))
          simp only [Act.put, List.setIfInBounds_toArray, List.set_cons_zero, List.set_cons_succ]
          refine wpAnyH_take (i := 18) (oi := { dst := some 81, op := Op.load 27 (Operand.tmp 80), type := 27, pos := "law.go:55", after := #[{ on := 17, ground := Ground.data }, { on := 10, ground := Ground.guard }], guard := some (10, false) }) (v := ?tU18) rfl (by kernel_rfl) (by kernel_rfl) (by kernel_rfl) (fun _ _ _ h => h) (Or.inl ⟨by rfl, ?uU18⟩) (by assumption) ?rU18
          case uU18 => (intro w hSw; (try dsimp only at hSw); go_simp; (try with_reducible rfl))
          simp only [Act.put, List.setIfInBounds_toArray, List.set_cons_zero, List.set_cons_succ]
          refine wpAnyH_ready (rs := [19]) (by kernel_rfl) (by simp) ?_
          refine AllReadyH.cons (o := { dst := some 82, op := Op.call { callee := Callee.value (Operand.func 10), args := #[Operand.tmp 81], argTypes := #[27] }, type := 35, pos := "law.go:55", after := #[{ on := 18, ground := Ground.data }, { on := 10, ground := Ground.chain }, { on := 10, ground := Ground.guard }], guard := some (10, false) }) rfl (fun K hK => ?_) AllReadyH.nil
          go_simp
          refine (KTh.out i hij _ (B3h.out.trans (b4.mono B3h.out.size))).mono ?_
          rintro e w5 ⟨t0, t1, t2, t3, t4, t5, t6, rfl, rt, c5⟩
          have b5 := b4.trans (c5.mono b4.size)
          have RT := Lib.hid (Dt.Rf.rep _ _ _ rt)
          clear c5 rt
          go_wp2_with fail
          refine hK.out _ _ (KS.out _ b5) (fun hH5 => ?_)
          clear hK K
          (try simp only [Act.put, List.setIfInBounds_toArray, List.set_cons_zero, List.set_cons_succ])
          refine wpAnyH_ready (rs := [20]) (by kernel_rfl) (by simp) ?_
          refine AllReadyH.cons (o := { dst := some 83, op := Op.call { callee := Callee.value (Operand.func 11), args := #[Operand.tmp 77, Operand.tmp 82], argTypes := #[35, 35] }, type := 4, pos := "law.go:55", after := #[{ on := 14, ground := Ground.data }, { on := 19, ground := Ground.data }, { on := 19, ground := Ground.chain }, { on := 10, ground := Ground.guard }], guard := some (10, false) }) rfl (fun K hK => ?_) AllReadyH.nil
          go_simp
          refine (rsame_any (Res i).er (Res i).pk (Res i).pn (Res i).has g0 g1 g2 g3 g4 g5 g6 t0 t1 t2 t3 t4 t5 t6 w5 fun wx hx => Dt.sameD (Res i).m (Res i).tr _ _ _ _ _ _ _ _ _ _ wx (Dt.Rep.below (b5.trans (hx.mono b5.size)) _ _ _ RAi.out) (Dt.Rep.below hx _ _ _ RT.out)).mono ?_
          rintro e w6 ⟨rfl, c6⟩
          have b6 := b5.trans (c6.mono b5.size)
          clear c6
          go_wp2_with fail
          refine hK.out _ _ (KS.out _ b6) (fun hH6 => ?_)
          clear hK K
          (try simp only [Act.put, List.setIfInBounds_toArray, List.set_cons_zero, List.set_cons_succ])
          refine wpAnyH_take (i := 21) (oi := { dst := some 84, op := Op.unOp UnOp.not 4 (Operand.tmp 83), type := 4, pos := "law.go:55", after := #[{ on := 20, ground := Ground.data }, { on := 10, ground := Ground.guard }], guard := some (10, false) }) (v := ?tV21) rfl (by kernel_rfl) (by kernel_rfl) (by kernel_rfl) (fun _ _ _ h => h) (Or.inl ⟨by rfl, ?uV21⟩) (by assumption) ?rV21
          case uV21 => (intro w hSw; (try dsimp only at hSw); go_simp; (try with_reducible rfl))
          simp only [Act.put, List.setIfInBounds_toArray, List.set_cons_zero, List.set_cons_succ]
          refine wpAnyH_take (i := 22) (oi := { dst := some 85, op := Op.pick (Operand.tmp 73) (Operand.const (Value.bool true)) (Operand.tmp 84), type := 4, pos := "law.go:55", after := #[{ on := 10, ground := Ground.data }, { on := 21, ground := Ground.data }], guard := none }) (v := ?tV22) rfl (by kernel_rfl) (by kernel_rfl) (by kernel_rfl) (fun _ _ _ h => h) (Or.inl ⟨by rfl, ?uV22⟩) (by assumption) ?rV22
          case uV22 => (intro w hSw; (try dsimp only at hSw); go_simp; (try with_reducible rfl))
          simp only [Act.put, List.setIfInBounds_toArray, List.set_cons_zero, List.set_cons_succ]
          refine wpAnyH_take (i := 23) (oi := { dst := some 86, op := Op.move (Operand.tmp 85), type := 4, pos := "law.go:55", after := #[{ on := 22, ground := Ground.data }, { on := 20, ground := Ground.chain }], guard := none }) (v := ?tV23) rfl (by kernel_rfl) (by kernel_rfl) (by kernel_rfl) (fun _ _ _ h => h) (Or.inl ⟨by rfl, ?uV23⟩) (by assumption) ?rV23
          case uV23 => (intro w hSw; (try dsimp only at hSw); go_simp; (try with_reducible rfl))
          simp only [Act.put, List.setIfInBounds_toArray, List.set_cons_zero, List.set_cons_succ]
          refine wpAnyH_take (i := 24) (oi := { dst := some 87, op := Op.move (Operand.tmp 9), type := 43, pos := "law.go:55", after := #[{ on := 23, ground := Ground.guard }], guard := some (23, false) }) (v := ?tV24) rfl (by kernel_rfl) (by kernel_rfl) (by kernel_rfl) (fun _ _ _ h => h) (Or.inl ⟨by rfl, ?uV24⟩) (by assumption) ?rV24
          case uV24 => (intro w hSw; (try dsimp only at hSw); go_simp; (try with_reducible rfl))
          simp only [Act.put, List.setIfInBounds_toArray, List.set_cons_zero, List.set_cons_succ]
          refine wpAnyH_take (i := 25) (oi := { dst := some 88, op := Op.move (Operand.tmp 12), type := 3, pos := "law.go:55", after := #[{ on := 23, ground := Ground.guard }], guard := some (23, false) }) (v := ?tV25) rfl (by kernel_rfl) (by kernel_rfl) (by kernel_rfl) (fun _ _ _ h => h) (Or.inl ⟨by rfl, ?uV25⟩) (by assumption) ?rV25
          case uV25 => (intro w hSw; (try dsimp only at hSw); go_simp; (try with_reducible rfl))
          simp only [Act.put, List.setIfInBounds_toArray, List.set_cons_zero, List.set_cons_succ]
          refine wpAnyH_take (i := 26) (oi := { dst := some 89, op := Op.indexAddr 43 (Operand.tmp 87) (Operand.tmp 88), type := 0, pos := "law.go:55", after := #[{ on := 24, ground := Ground.data }, { on := 25, ground := Ground.data }, { on := 23, ground := Ground.guard }], guard := some (23, false) }) (v := ?tV26) rfl (by kernel_rfl) (by kernel_rfl) (by kernel_rfl) (fun _ _ _ h => h) (Or.inl ⟨by rfl, ?uV26⟩) (by assumption) ?rV26
          case uV26 => (intro w hSw; (try dsimp only at hSw); go_simp; (try with_reducible rfl))
          simp only [Act.put, List.setIfInBounds_toArray, List.set_cons_zero, List.set_cons_succ]
          refine wpAnyH_take (i := 27) (oi := { dst := some 90, op := Op.load 3 (Operand.tmp 89), type := 3, pos := "law.go:55", after := #[{ on := 26, ground := Ground.data }, { on := 23, ground := Ground.guard }], guard := some (23, false) }) (v := ?tV27) rfl (by kernel_rfl) (by kernel_rfl) (by kernel_rfl) (fun _ _ _ h => h) (Or.inl ⟨by rfl, ?uV27⟩) (by assumption) ?rV27
          case uV27 => (intro w hSw; (try dsimp only at hSw); go_simp; (try with_reducible rfl))
          simp only [Act.put, List.setIfInBounds_toArray, List.set_cons_zero, List.set_cons_succ]
          refine wpAnyH_take (i := 28) (oi := { dst := some 91, op := Op.move (Operand.tmp 9), type := 43, pos := "law.go:55", after := #[{ on := 23, ground := Ground.guard }], guard := some (23, false) }) (v := ?tV28) rfl (by kernel_rfl) (by kernel_rfl) (by kernel_rfl) (fun _ _ _ h => h) (Or.inl ⟨by rfl, ?uV28⟩) (by assumption) ?rV28
          case uV28 => (intro w hSw; (try dsimp only at hSw); go_simp; (try with_reducible rfl))
          simp only [Act.put, List.setIfInBounds_toArray, List.set_cons_zero, List.set_cons_succ]
          refine wpAnyH_take (i := 29) (oi := { dst := some 92, op := Op.call { callee := Callee.builtin Builtin.len, args := #[Operand.tmp 91], argTypes := #[43] }, type := 3, pos := "law.go:55", after := #[{ on := 28, ground := Ground.data }, { on := 23, ground := Ground.guard }], guard := some (23, false) }) (v := ?tV29) rfl (by kernel_rfl) (by kernel_rfl) (by kernel_rfl) (fun _ _ _ h => h) (Or.inl ⟨by rfl, ?uV29⟩) (by assumption) ?rV29
          case uV29 => (intro w hSw; (try dsimp only at hSw); go_simp; (try with_reducible rfl))
          simp only [Act.put, List.setIfInBounds_toArray, List.set_cons_zero, List.set_cons_succ]
          refine wpAnyH_take (i := 30) (oi := { dst := some 93, op := Op.binOp BinOp.sub 3 (Operand.tmp 92) (Operand.const (Value.int IntKind.i64 1)) 3, type := 3, pos := "law.go:55", after := #[{ on := 29, ground := Ground.data }, { on := 23, ground := Ground.guard }], guard := some (23, false) }) (v := ?tV30) rfl (by kernel_rfl) (by kernel_rfl) (by kernel_rfl) (fun _ _ _ h => h) (Or.inl ⟨by rfl, ?uV30⟩) (by assumption) ?rV30
          case uV30 => (intro w hSw; (try dsimp only at hSw); go_simp; (try with_reducible rfl))
          simp only [Act.put, List.setIfInBounds_toArray, List.set_cons_zero, List.set_cons_succ]
          refine wpAnyH_take (i := 31) (oi := { dst := some 94, op := Op.move (Operand.tmp 12), type := 3, pos := "law.go:55", after := #[{ on := 23, ground := Ground.guard }], guard := some (23, false) }) (v := ?tV31) rfl (by kernel_rfl) (by kernel_rfl) (by kernel_rfl) (fun _ _ _ h => h) (Or.inl ⟨by rfl, ?uV31⟩) (by assumption) ?rV31
          case uV31 => (intro w hSw; (try dsimp only at hSw); go_simp; (try with_reducible rfl))
          simp only [Act.put, List.setIfInBounds_toArray, List.set_cons_zero, List.set_cons_succ]
          refine wpAnyH_take (i := 32) (oi := { dst := some 95, op := Op.binOp BinOp.sub 3 (Operand.tmp 93) (Operand.tmp 94) 3, type := 3, pos := "law.go:55", after := #[{ on := 30, ground := Ground.data }, { on := 31, ground := Ground.data }, { on := 23, ground := Ground.guard }], guard := some (23, false) }) (v := ?tV32) rfl (by kernel_rfl) (by kernel_rfl) (by kernel_rfl) (fun _ _ _ h => h) (Or.inl ⟨by rfl, ?uV32⟩) (by assumption) ?rV32
          case uV32 => (intro w hSw; (try dsimp only at hSw); go_simp; (try with_reducible rfl))
          simp only [Act.put, List.setIfInBounds_toArray, List.set_cons_zero, List.set_cons_succ]
          refine wpAnyH_take (i := 33) (oi := { dst := some 96, op := Op.binOp BinOp.neq 3 (Operand.tmp 90) (Operand.tmp 95) 3, type := 4, pos := "law.go:55", after := #[{ on := 27, ground := Ground.data }, { on := 32, ground := Ground.data }, { on := 23, ground := Ground.guard }], guard := some (23, false) }) (v := ?tV33) rfl (by kernel_rfl) (by kernel_rfl) (by kernel_rfl) (fun _ _ _ h => h) (Or.inl ⟨by rfl, ?uV33⟩) (by assumption) ?rV33
          case uV33 => (intro w hSw; (try dsimp only at hSw); go_simp; (try with_reducible rfl))
          simp only [Act.put, List.setIfInBounds_toArray, List.set_cons_zero, List.set_cons_succ]
          refine wpAnyH_take (i := 34) (oi := { dst := some 97, op := Op.pick (Operand.tmp 86) (Operand.const (Value.bool true)) (Operand.tmp 96), type := 4, pos := "law.go:55", after := #[{ on := 23, ground := Ground.data }, { on := 33, ground := Ground.data }], guard := none }) (v := ?tV34) rfl (by kernel_rfl) (by kernel_rfl) (by kernel_rfl) (fun _ _ _ h => h) (Or.inl ⟨by rfl, ?uV34⟩) (by assumption) ?rV34
          case uV34 => (intro w hSw; (try dsimp only at hSw); go_simp; (try with_reducible rfl))
          simp only [Act.put, List.setIfInBounds_toArray, List.set_cons_zero, List.set_cons_succ]
          refine wpAnyH_take (i := 35) (oi := { dst := some 98, op := Op.move (Operand.tmp 97), type := 4, pos := "law.go:55", after := #[{ on := 34, ground := Ground.data }, { on := 23, ground := Ground.chain }], guard := none }) (v := ?tV35) rfl (by kernel_rfl) (by kernel_rfl) (by kernel_rfl) (fun _ _ _ h => h) (Or.inl ⟨by rfl, ?uV35⟩) (by assumption) ?rV35
          case uV35 => (intro w hSw; (try dsimp only at hSw); go_simp; (try with_reducible rfl))
          simp only [Act.put, List.setIfInBounds_toArray, List.set_cons_zero, List.set_cons_succ]
          refine wpAnyH_take (i := 36) (oi := { dst := some 99, op := Op.move (Operand.tmp 9), type := 43, pos := "law.go:55", after := #[{ on := 35, ground := Ground.guard }], guard := some (35, false) }) (v := ?tV36) rfl (by kernel_rfl) (by kernel_rfl) (by kernel_rfl) (fun _ _ _ h => h) (Or.inl ⟨by rfl, ?uV36⟩) (by assumption) ?rV36
          case uV36 => (intro w hSw; (try dsimp only at hSw); go_simp; (try with_reducible rfl))
          simp only [Act.put, List.setIfInBounds_toArray, List.set_cons_zero, List.set_cons_succ]
          refine wpAnyH_take (i := 37) (oi := { dst := some 100, op := Op.move (Operand.tmp 12), type := 3, pos := "law.go:55", after := #[{ on := 35, ground := Ground.guard }], guard := some (35, false) }) (v := ?tV37) rfl (by kernel_rfl) (by kernel_rfl) (by kernel_rfl) (fun _ _ _ h => h) (Or.inl ⟨by rfl, ?uV37⟩) (by assumption) ?rV37
          case uV37 => (intro w hSw; (try dsimp only at hSw); go_simp; (try with_reducible rfl))
          simp only [Act.put, List.setIfInBounds_toArray, List.set_cons_zero, List.set_cons_succ]
          refine wpAnyH_take (i := 38) (oi := { dst := some 101, op := Op.indexAddr 43 (Operand.tmp 99) (Operand.tmp 100), type := 0, pos := "law.go:55", after := #[{ on := 36, ground := Ground.data }, { on := 37, ground := Ground.data }, { on := 35, ground := Ground.guard }], guard := some (35, false) }) (v := ?tV38) rfl (by kernel_rfl) (by kernel_rfl) (by kernel_rfl) (fun _ _ _ h => h) (Or.inl ⟨by rfl, ?uV38⟩) (by assumption) ?rV38
          case uV38 => (intro w hSw; (try dsimp only at hSw); go_simp; (try with_reducible rfl))
          simp only [Act.put, List.setIfInBounds_toArray, List.set_cons_zero, List.set_cons_succ]
          refine wpAnyH_take (i := 39) (oi := { dst := some 102, op := Op.load 3 (Operand.tmp 101), type := 3, pos := "law.go:55", after := #[{ on := 38, ground := Ground.data }, { on := 35, ground := Ground.guard }], guard := some (35, false) }) (v := ?tV39) rfl (by kernel_rfl) (by kernel_rfl) (by kernel_rfl) (fun _ _ _ h => h) (Or.inl ⟨by rfl, ?uV39⟩) (by assumption) ?rV39
          case uV39 => (intro w hSw; (try dsimp only at hSw); go_simp; (try with_reducible rfl))
          simp only [Act.put, List.setIfInBounds_toArray, List.set_cons_zero, List.set_cons_succ]
          refine wpAnyH_take (i := 40) (oi := { dst := some 103, op := Op.move (Operand.tmp 11), type := 43, pos := "law.go:55", after := #[{ on := 35, ground := Ground.guard }], guard := some (35, false) }) (v := ?tV40) rfl (by kernel_rfl) (by kernel_rfl) (by kernel_rfl) (fun _ _ _ h => h) (Or.inl ⟨by rfl, ?uV40⟩) (by assumption) ?rV40
          case uV40 => (intro w hSw; (try dsimp only at hSw); go_simp; (try with_reducible rfl))
          simp only [Act.put, List.setIfInBounds_toArray, List.set_cons_zero, List.set_cons_succ]
          refine wpAnyH_take (i := 41) (oi := { dst := some 104, op := Op.move (Operand.tmp 12), type := 3, pos := "law.go:55", after := #[{ on := 35, ground := Ground.guard }], guard := some (35, false) }) (v := ?tV41) rfl (by kernel_rfl) (by kernel_rfl) (by kernel_rfl) (fun _ _ _ h => h) (Or.inl ⟨by rfl, ?uV41⟩) (by assumption) ?rV41
          case uV41 => (intro w hSw; (try dsimp only at hSw); go_simp; (try with_reducible rfl))
          simp only [Act.put, List.setIfInBounds_toArray, List.set_cons_zero, List.set_cons_succ]
          refine wpAnyH_take (i := 42) (oi := { dst := some 105, op := Op.indexAddr 43 (Operand.tmp 103) (Operand.tmp 104), type := 0, pos := "law.go:55", after := #[{ on := 40, ground := Ground.data }, { on := 41, ground := Ground.data }, { on := 35, ground := Ground.guard }], guard := some (35, false) }) (v := ?tV42) rfl (by kernel_rfl) (by kernel_rfl) (by kernel_rfl) (fun _ _ _ h => h) (Or.inl ⟨by rfl, ?uV42⟩) (by assumption) ?rV42
          case uV42 => (intro w hSw; (try dsimp only at hSw); go_simp; (try with_reducible rfl))
          simp only [Act.put, List.setIfInBounds_toArray, List.set_cons_zero, List.set_cons_succ]
          refine wpAnyH_take (i := 43) (oi := { dst := some 106, op := Op.load 3 (Operand.tmp 105), type := 3, pos := "law.go:55", after := #[{ on := 42, ground := Ground.data }, { on := 35, ground := Ground.guard }], guard := some (35, false) }) (v := ?tV43) rfl (by kernel_rfl) (by kernel_rfl) (by kernel_rfl) (fun _ _ _ h => h) (Or.inl ⟨by rfl, ?uV43⟩) (by assumption) ?rV43
          case uV43 => (intro w hSw; (try dsimp only at hSw); go_simp; (try with_reducible rfl))
          simp only [Act.put, List.setIfInBounds_toArray, List.set_cons_zero, List.set_cons_succ]
          refine wpAnyH_take (i := 44) (oi := { dst := some 107, op := Op.binOp BinOp.neq 3 (Operand.tmp 102) (Operand.tmp 106) 3, type := 4, pos := "law.go:55", after := #[{ on := 39, ground := Ground.data }, { on := 43, ground := Ground.data }, { on := 35, ground := Ground.guard }], guard := some (35, false) }) (v := ?tV44) rfl (by kernel_rfl) (by kernel_rfl) (by kernel_rfl) (fun _ _ _ h => h) (Or.inl ⟨by rfl, ?uV44⟩) (by assumption) ?rV44
          case uV44 => (intro w hSw; (try dsimp only at hSw); go_simp; (try with_reducible rfl))
          simp only [Act.put, List.setIfInBounds_toArray, List.set_cons_zero, List.set_cons_succ]
          refine wpAnyH_take (i := 45) (oi := { dst := some 108, op := Op.pick (Operand.tmp 98) (Operand.const (Value.bool true)) (Operand.tmp 107), type := 4, pos := "law.go:55", after := #[{ on := 35, ground := Ground.data }, { on := 44, ground := Ground.data }], guard := none }) (v := ?tV45) rfl (by kernel_rfl) (by kernel_rfl) (by kernel_rfl) (fun _ _ _ h => h) (Or.inl ⟨by rfl, ?uV45⟩) (by assumption) ?rV45
          case uV45 => (intro w hSw; (try dsimp only at hSw); go_simp; (try with_reducible rfl))
          simp only [Act.put, List.setIfInBounds_toArray, List.set_cons_zero, List.set_cons_succ]
          refine wpAnyH_done (by kernel_rfl) ?_ _
          clear hHeld hH4 hH5 hH6 KS
          go_wp2_with fail
          exact ⟨⟨i + 1, by simp, by omega, hbh.out.trans (b6.mono hbh.out.size)⟩, by simp [intOf]; omega⟩
        · have hie : i = k := by omega
          clear RA RX PA PX
          go_wp2_with fail
          refine (HW.out _).mono ?_
          rintro e w3 ⟨rfl, b3⟩
          have B4 := B3.trans (b3.mono B3.size)
          go_wp2
          go_ret
          exact ⟨rfl, B4⟩
end Go.Proofs.YthamafijjflfbaaGreat
