/- For any numbers, tick and results the law BreakerOpens answers true; the conditions: the rows read. -/
import Derived.Test.YtdmjhjfieabbbaaBe
import Derived.Deep.CutBlock
import Derived.Deep.CutRange
namespace Go.Proofs.Ytdmjhjfieabbbaa
open Go.RowKit

theorem two_at {w w' : World} {T : TypeId} {a b : Value} (h : On w (.cells #[a, b] T) w') : w'.cell? ⟨w.heap.size, 0, none⟩ = some a ∧ w'.cell? ⟨w.heap.size, 1, none⟩ = some b := by
  constructor <;> (rw [Below.cell h (by show w.heap.size < _; omega)]; simp)
/-- Numbers in a row. -/
def Ints (w : World) (ad : Option Addr) (zs : List Int) : Prop := ∀ j (h : j < zs.length), ∃ g of, ad = some ⟨g, of, none⟩ ∧ g < w.heap.size ∧ w.cell? ⟨g, of + j, none⟩ = some (.int .i64 zs[j])
def badE (q : Nat) : Int := if q = 0 then 100 else if q = 1 then 101 else 110
theorem kd_bad (q : Nat) : kd (badE q) = -1 := by unfold badE; (repeat' split) <;> decide
theorem bad_cell {w : World} {Q : Nat} {T : TypeId} (h : Bk w Q #[.int .i64 100, .int .i64 101, .int .i64 110] T) {q : Nat} (hq : q ≤ 2) : w.cell? ⟨Q, q, none⟩ = some (.int .i64 (badE q)) := by
  rw [h.c]
  have : q = 0 ∨ q = 1 ∨ q = 2 := by omega
  rcases this with rfl | rfl | rfl <;> rfl

set_option maxRecDepth 100000 in
set_option maxHeartbeats 4000000 in
theorem opens_in (a b n : Int) (ad1 ad2 : Option Addr) (zs ns : List Int) (cap1 cap2 : Nat) (w : World) (hz : Ints w ad1 zs) (hns : Ints w ad2 ns) (a1 : 1 ≤ a) (a2 : a ≤ 50) (b1 : 1 ≤ b) (b2 : b ≤ 1000000) (n1 : 0 ≤ n) (n2 : n + b ≤ 1099511627776) :
    Calls Try.prog 5 #[.int .i64 a, .int .i64 b, .int .i64 n, .slice ad1 zs.length cap1, .slice ad2 ns.length cap2] w fun e w' => e = .returned (.bool true) ∧ Gw w w' := by
  have KF := Lib.hid (fun w' => fit_any 0 0 a b n w')
  rw [show fitA 0 0 a b n = true by simp [fitA, fitB]; omega] at KF
  have HZ := Lib.hid hz
  have HN := Lib.hid hns
  clear hz hns
  have DB := Lib.hid (fun (j : Nat) (hj : (j : Int) < a) (er : Int) (hk : kd er = -1) v1 v2 v3 v4 v5 v6 v7 v8 v9 w' => done_bad (b := b) (n := n) hj a2 (by omega) (by omega) hk v1 v2 v3 v4 v5 v6 v7 v8 v9 w')
  have DN := Lib.hid (fun (j u : Int) (h0 : 0 ≤ j) (hj : j ≤ a) (er : Int) (hk : kd er = 0) v1 v2 v3 v4 v5 v6 v7 v8 v9 w' => done_neither (b := b) (n := n) u h0 hj a2 (by omega) (by omega) hk v1 v2 v3 v4 v5 v6 v7 v8 v9 w')
  have S0 := Lib.hid (fun (j : Nat) (hj : (j : Int) < a) (u : Int) w' => show Calls Try.prog 10 #[.agg #[.int .i64 j, .int .i64 u], .int .i64 a, .int .i64 n] w' fun e w'' => e = .returned (.int .i64 0) ∧ Gw w' w'' from (state_any j u a n w').mono fun e w'' ⟨h1, o, p, h2⟩ => ⟨by rw [h1]; simp [sta, hj], h2 ▸ ((Gw.refl _).al o).al p⟩)
  go_enter Try.func5, Try.ntmps5
  go_wp2_with (go_at_call 8; refine (KF.out _).mono ?_; rintro e w1 ⟨rfl, g1⟩)
  have hw1 := Below.size g1
  have R0 := Lib.hid (show Bk ((w1.alloc (.cells #[.int .i64 100, .int .i64 101, .int .i64 110] 24)).alloc (.cells #[.int .i64 0, .int .i64 0] 23)) (w1.heap.size + 1) #[.int .i64 (0 : Nat), .int .i64 (unt a b n 0)] 23 ∧ Bk ((w1.alloc (.cells #[.int .i64 100, .int .i64 101, .int .i64 110] 24)).alloc (.cells #[.int .i64 0, .int .i64 0] 23)) w1.heap.size #[.int .i64 100, .int .i64 101, .int .i64 110] 24 ∧ Gw w ((w1.alloc (.cells #[.int .i64 100, .int .i64 101, .int .i64 110] 24)).alloc (.cells #[.int .i64 0, .int .i64 0] 23)) from ⟨by
    have := Bk.new (w1.alloc (.cells #[.int .i64 100, .int .i64 101, .int .i64 110] 24)) #[.int .i64 0, .int .i64 0] 23
    rw [World.size_alloc] at this
    have e : unt a b n 0 = 0 := by unfold unt; rw [if_neg (by omega)]
    rw [e]; exact this, (Bk.new w1 _ _).alloc _, (Gw.al (Gw.al g1 _) _)⟩)
  clear g1
  go_loopw [13, 14] (fun si _ wr => ∃ j : Nat, si = .int .i64 j ∧ (j : Int) ≤ a ∧ Hid (Bk wr (w1.heap.size + 1) #[.int .i64 j, .int .i64 (unt a b n j)] 23 ∧ Bk wr w1.heap.size #[.int .i64 100, .int .i64 101, .int .i64 110] 24 ∧ Gw w wr)) (fun si _ _ => (a - intOf si).toNat)
  case atStart => exact ⟨0, rfl, by omega, R0⟩
  case round =>
    obtain ⟨j, rfl, hj, hR⟩ := hrel
    obtain ⟨bs, bb, bl⟩ := hR.out
    clear hR R0
    by_cases hja : (j : Int) < a
    · have c0 : wr.cell? ⟨w1.heap.size + 1, 0, none⟩ = _ := bs.c 0
      have c1 : wr.cell? ⟨w1.heap.size + 1, 1, none⟩ = _ := bs.c 1
      simp at c0 c1
      rw [show unt a b n j = 0 by unfold unt; rw [if_neg (by omega)]] at c1
      replace bs := Lib.hid bs; replace bb := Lib.hid bb; replace bl := Lib.hid bl
      by_cases hjz : j < zs.length
      · obtain ⟨gz, oz, rfl, hgz, hgc⟩ := HZ.out j hjz
        go_wp2_with fail
        refine (S0.out j hja _ _).mono ?_
        rintro e w2 ⟨rfl, g2⟩
        have bs2 := bs.out.step g2
        have bb2 := Lib.hid (bb.out.step g2)
        have d0 : w2.cell? ⟨w1.heap.size + 1, 0, none⟩ = _ := bs2.c 0
        have d1 : w2.cell? ⟨w1.heap.size + 1, 1, none⟩ = _ := bs2.c 1
        simp at d0 d1
        rw [show unt a b n j = 0 by unfold unt; rw [if_neg (by omega)]] at d1
        replace bs2 := Lib.hid bs2
        have bl2 := Lib.hid (bl.out.trans g2)
        clear c0 c1 g2
        have hgl2 : w2.cell? ⟨gz, oz + j, none⟩ = _ := (Below.cell bl2.out hgz).trans hgc
        clear hgc
        generalize zs[j] = z at *
        obtain ⟨q, hq, hq2⟩ := rem_num 2 z (by omega) (by omega)
        rw [show (2 : Int) + 1 = 3 by omega] at hq
        go_wp2_with fail
        have hq3 : (q : Int) < 3 := by omega
        clear hq hgl2
        have E2 := Lib.hid (bad_cell bb2.out (q := q) (by omega))
        refine wp_region_held_drew (S := (fun w' => w'.cell? ⟨w1.heap.size, q, none⟩ = some (.int .i64 (badE q)))) (by kernel_rfl) (E2.out) (fun hHeld => ?_)
        refine wpAnyH_take (i := 1) (oi := { dst := some 57, op := Op.move (Operand.tmp 0), type := 2, pos := _, after := #[], guard := none }) (v := ?tA1) rfl (by kernel_rfl) (by kernel_rfl) (by kernel_rfl) (fun _ _ _ h => h) (Or.inl ⟨by rfl, ?uA1⟩) (by assumption) ?rA1
        case uA1 => (intro w hSw; (try dsimp only at hSw); go_simp; (try with_reducible rfl))
        simp only [Act.put, List.setIfInBounds_toArray, List.set_cons_zero, List.set_cons_succ]
        refine wpAnyH_take (i := 2) (oi := { dst := some 58, op := Op.move (Operand.tmp 1), type := 2, pos := _, after := #[], guard := none }) (v := ?tA2) rfl (by kernel_rfl) (by kernel_rfl) (by kernel_rfl) (fun _ _ _ h => h) (Or.inl ⟨by rfl, ?uA2⟩) (by assumption) ?rA2
        case uA2 => (intro w hSw; (try dsimp only at hSw); go_simp; (try with_reducible rfl))
        simp only [Act.put, List.setIfInBounds_toArray, List.set_cons_zero, List.set_cons_succ]
        refine wpAnyH_take (i := 3) (oi := { dst := some 59, op := Op.move (Operand.tmp 2), type := 2, pos := _, after := #[], guard := none }) (v := ?tA3) rfl (by kernel_rfl) (by kernel_rfl) (by kernel_rfl) (fun _ _ _ h => h) (Or.inl ⟨by rfl, ?uA3⟩) (by assumption) ?rA3
        case uA3 => (intro w hSw; (try dsimp only at hSw); go_simp; (try with_reducible rfl))
        simp only [Act.put, List.setIfInBounds_toArray, List.set_cons_zero, List.set_cons_succ]
        refine wpAnyH_take (i := 4) (oi := { dst := some 60, op := Op.move (Operand.tmp 11), type := 42, pos := _, after := #[], guard := none }) (v := ?tA4) rfl (by kernel_rfl) (by kernel_rfl) (by kernel_rfl) (fun _ _ _ h => h) (Or.inl ⟨by rfl, ?uA4⟩) (by assumption) ?rA4
        case uA4 => (intro w hSw; (try dsimp only at hSw); go_simp; (try with_reducible rfl))
        simp only [Act.put, List.setIfInBounds_toArray, List.set_cons_zero, List.set_cons_succ]
        refine wpAnyH_take (i := 5) (oi := { dst := some 61, op := Op.move (Operand.tmp 14), type := 3, pos := _, after := #[], guard := none }) (v := ?tA5) rfl (by kernel_rfl) (by kernel_rfl) (by kernel_rfl) (fun _ _ _ h => h) (Or.inl ⟨by rfl, ?uA5⟩) (by assumption) ?rA5
        case uA5 => (intro w hSw; (try dsimp only at hSw); go_simp; (try with_reducible rfl))
        simp only [Act.put, List.setIfInBounds_toArray, List.set_cons_zero, List.set_cons_succ]
        refine wpAnyH_take (i := 6) (oi := { dst := some 62, op := Op.indexAddr 42 (Operand.tmp 60) (Operand.tmp 61), type := 0, pos := _, after := #[{ on := 4, ground := Ground.data }, { on := 5, ground := Ground.data }], guard := none }) (v := ?tA6) rfl (by kernel_rfl) (by kernel_rfl) (by kernel_rfl) (fun _ _ _ h => h) (Or.inl ⟨by rfl, ?uA6⟩) (by assumption) ?rA6
        case uA6 => (intro w hSw; (try dsimp only at hSw); go_simp; (try with_reducible rfl))
        simp only [Act.put, List.setIfInBounds_toArray, List.set_cons_zero, List.set_cons_succ]
        refine wpAnyH_take (i := 7) (oi := { dst := some 63, op := Op.load 24 (Operand.tmp 62), type := 24, pos := _, after := #[{ on := 6, ground := Ground.data }], guard := none }) (v := ?tA7) rfl (by kernel_rfl) (by kernel_rfl) (by kernel_rfl) (fun _ _ _ h => h) (Or.inl ⟨by rfl, ?uA7⟩) (by assumption) ?rA7
        case uA7 => (intro w hSw; (try dsimp only at hSw); go_simp; (try with_reducible rfl))
        simp only [Act.put, List.setIfInBounds_toArray, List.set_cons_zero, List.set_cons_succ]
        refine wpAnyH_take (i := 8) (oi := { dst := some 64, op := Op.build 32 #[(0, Operand.tmp 63)], type := 32, pos := _, after := #[{ on := 7, ground := Ground.data }], guard := none }) (v := ?tA8) rfl (by kernel_rfl) (by kernel_rfl) (by kernel_rfl) (fun _ _ _ h => h) (Or.inl ⟨by rfl, ?uA8⟩) (by assumption) ?rA8
        case uA8 => (intro w hSw; (try dsimp only at hSw); go_simp; (try with_reducible rfl))
        simp only [Act.put, List.setIfInBounds_toArray, List.set_cons_zero, List.set_cons_succ]
        refine wpAnyH_ready (rs := [0]) (by kernel_rfl) (by simp) ?_
        refine AllReadyH.cons (o := { dst := some 56, op := Op.load 23 (Operand.tmp 12), type := 23, pos := _, after := #[], guard := none }) rfl (fun K hK => ?_) AllReadyH.nil
        go_simp
        refine hK.out _ _ (E2.out) (fun _ => ?_)
        (try simp only [Act.put, List.setIfInBounds_toArray, List.set_cons_zero, List.set_cons_succ])
        refine wpAnyH_ready (rs := [9]) (by kernel_rfl) (by simp) ?_
        refine AllReadyH.cons (o := { dst := some 65, op := Op.call { callee := Callee.value (Operand.func 14), args := #[Operand.tmp 56, Operand.tmp 57, Operand.tmp 58, Operand.tmp 59, Operand.tmp 64], argTypes := #[23, 2, 2, 2, 32] }, type := 23, pos := _, after := #[{ on := 0, ground := Ground.data }, { on := 1, ground := Ground.data }, { on := 2, ground := Ground.data }, { on := 3, ground := Ground.data }, { on := 8, ground := Ground.data }], guard := none }) rfl (fun K hK => ?_) AllReadyH.nil
        go_simp
        refine (DB.out j hja (badE q) (kd_bad _) _ _ _ _ _ _ _ _ _ _).mono ?_
        rintro e w3 ⟨rfl, g3⟩
        have bs3 := bs2.out.drew.step g3
        have bb3 := Lib.hid (bb2.out.drew.step g3)
        have bl3 := Lib.hid (bl2.out.drew.trans g3)
        have d3 : w3.cell? ⟨w1.heap.size + 1, 0, none⟩ = _ := bs3.c 0
        have d4 : w3.cell? ⟨w1.heap.size + 1, 1, none⟩ = _ := bs3.c 1
        simp at d3 d4
        have f3 : w3.frozen? ⟨w1.heap.size + 1, 0, none⟩ = _ := bs3.f 0
        have f4 : w3.frozen? ⟨w1.heap.size + 1, 1, none⟩ = _ := bs3.f 1
        replace bs3 := Lib.hid bs3
        have E3 := Lib.hid (bad_cell bb3.out (q := q) (by omega))
        clear d0 d1 g3
        refine hK.out _ _ (E3.out) (fun _ => ?_)
        (try simp only [Act.put, List.setIfInBounds_toArray, List.set_cons_zero, List.set_cons_succ])
        refine wpAnyH_ready (rs := [10]) (by kernel_rfl) (by simp) ?_
        refine AllReadyH.cons (o := { dst := none, op := Op.store 23 (Operand.tmp 12) (Operand.tmp 65), type := 0, pos := _, after := #[{ on := 9, ground := Ground.data }, { on := 9, ground := Ground.chain }, { on := 0, ground := Ground.phase }, { on := 1, ground := Ground.phase }, { on := 2, ground := Ground.phase }, { on := 3, ground := Ground.phase }, { on := 4, ground := Ground.phase }, { on := 5, ground := Ground.phase }, { on := 6, ground := Ground.phase }, { on := 7, ground := Ground.phase }, { on := 8, ground := Ground.phase }, { on := 9, ground := Ground.phase }], guard := none }) rfl (fun K hK => ?_) AllReadyH.nil
        go_simp
        refine hK.out _ _ (bad_cell ((bb3.out.other _ _ (by show w1.heap.size ≠ w1.heap.size + 1; omega)).other _ _ (by show w1.heap.size ≠ w1.heap.size + 1; omega)) (by omega)) (fun _ => ?_)
        (try simp only [Act.put, List.setIfInBounds_toArray, List.set_cons_zero, List.set_cons_succ])
        refine wpAnyH_done (by kernel_rfl) ?_ _
        obtain ⟨y1, y2⟩ := Bk.set2 (x0 := .int .i64 ((j : Int) + 1)) (x1 := .int .i64 (unt a b n (j + 1))) bs3.out
        have y3 : Bk ((w3.setCell ⟨w1.heap.size + 1, 0, none⟩ (.int .i64 ((j : Int) + 1))).setCell ⟨w1.heap.size + 1, 1, none⟩ (.int .i64 (unt a b n (j + 1)))) w1.heap.size #[.int .i64 100, .int .i64 101, .int .i64 110] 24 := (bb3.out.other _ _ (by show w1.heap.size ≠ w1.heap.size + 1; omega)).other _ _ (by show w1.heap.size ≠ w1.heap.size + 1; omega)
        have y4 : Gw w ((w3.setCell ⟨w1.heap.size + 1, 0, none⟩ (.int .i64 ((j : Int) + 1))).setCell ⟨w1.heap.size + 1, 1, none⟩ (.int .i64 (unt a b n (j + 1)))) := Below.trans bl3.out (y2.mono (by omega))
        clear d3 d4 f3 f4 bs3 bb3 bl3 E2 E3 bs2 bb2 bl2 bs bb bl y2 hHeld
        generalize hw4 : (w3.setCell ⟨w1.heap.size + 1, 0, none⟩ (.int .i64 ((j : Int) + 1))).setCell ⟨w1.heap.size + 1, 1, none⟩ (.int .i64 (unt a b n (j + 1))) = w4 at *
        clear hw4
        replace y1 := Lib.hid y1; replace y3 := Lib.hid y3; replace y4 := Lib.hid y4
        by_cases hjn : j < ns.length
        · obtain ⟨gn, on, rfl, hgn, hgnc⟩ := HN.out j hjn
          have hgl : w4.cell? ⟨gn, on + j, none⟩ = _ := (Below.cell y4.out hgn).trans hgnc
          generalize ns[j] = er at *
          have KR := Lib.hid (fun w' => rkind_any er (.int .i64 0) (.int .i64 0) (.int .i64 0) (.bool false) (.int .i64 0) (.int .i64 0) (.int .u64 0) (.string ⟨#[]⟩) (.slice none 0 0) w')
          by_cases hk : kd er = 0
          · rw [hk] at KR
            go_wp2_with (go_at_call 7; refine (KR.out _).mono ?_; rintro e w5 ⟨rfl, o5, rfl⟩)
            have bs5 := y1.out.alloc o5
            have bb5 := Lib.hid (y3.out.alloc o5)
            have bl5 := Lib.hid (y4.out.al o5)
            generalize w4.alloc o5 = w5 at *
            have d0 : w5.cell? ⟨w1.heap.size + 1, 0, none⟩ = _ := bs5.c 0
            have d1 : w5.cell? ⟨w1.heap.size + 1, 1, none⟩ = _ := bs5.c 1
            simp at d0 d1
            replace bs5 := Lib.hid bs5
            have E5 := Lib.hid (show ∀ wx, Gw w wx → wx.cell? ⟨gn, on + j, none⟩ = some (.int .i64 er) from fun wx hx => (Below.cell hx hgn).trans hgnc)
            clear hgl hgnc
            refine wp_region_held_drew (S := (fun w' => w'.cell? ⟨gn, on + j, none⟩ = some (.int .i64 er))) (by kernel_rfl) (E5.out _ bl5.out.drew) (fun hHeld => ?_)
            refine wpAnyH_take (i := 1) (oi := { dst := some 80, op := Op.move (Operand.tmp 0), type := 2, pos := _, after := #[], guard := none }) (v := ?tAN1) rfl (by kernel_rfl) (by kernel_rfl) (by kernel_rfl) (fun _ _ _ h => h) (Or.inl ⟨by rfl, ?uAN1⟩) (by assumption) ?rAN1
            case uAN1 => (intro w hSw; (try dsimp only at hSw); go_simp; (try with_reducible rfl))
            simp only [Act.put, List.setIfInBounds_toArray, List.set_cons_zero, List.set_cons_succ]
            refine wpAnyH_take (i := 2) (oi := { dst := some 81, op := Op.move (Operand.tmp 1), type := 2, pos := _, after := #[], guard := none }) (v := ?tAN2) rfl (by kernel_rfl) (by kernel_rfl) (by kernel_rfl) (fun _ _ _ h => h) (Or.inl ⟨by rfl, ?uAN2⟩) (by assumption) ?rAN2
            case uAN2 => (intro w hSw; (try dsimp only at hSw); go_simp; (try with_reducible rfl))
            simp only [Act.put, List.setIfInBounds_toArray, List.set_cons_zero, List.set_cons_succ]
            refine wpAnyH_take (i := 3) (oi := { dst := some 82, op := Op.move (Operand.tmp 2), type := 2, pos := _, after := #[], guard := none }) (v := ?tAN3) rfl (by kernel_rfl) (by kernel_rfl) (by kernel_rfl) (fun _ _ _ h => h) (Or.inl ⟨by rfl, ?uAN3⟩) (by assumption) ?rAN3
            case uAN3 => (intro w hSw; (try dsimp only at hSw); go_simp; (try with_reducible rfl))
            simp only [Act.put, List.setIfInBounds_toArray, List.set_cons_zero, List.set_cons_succ]
            refine wpAnyH_take (i := 4) (oi := { dst := some 83, op := Op.move (Operand.tmp 4), type := 42, pos := _, after := #[], guard := none }) (v := ?tAN4) rfl (by kernel_rfl) (by kernel_rfl) (by kernel_rfl) (fun _ _ _ h => h) (Or.inl ⟨by rfl, ?uAN4⟩) (by assumption) ?rAN4
            case uAN4 => (intro w hSw; (try dsimp only at hSw); go_simp; (try with_reducible rfl))
            simp only [Act.put, List.setIfInBounds_toArray, List.set_cons_zero, List.set_cons_succ]
            refine wpAnyH_take (i := 5) (oi := { dst := some 84, op := Op.move (Operand.tmp 13), type := 2, pos := _, after := #[], guard := none }) (v := ?tAN5) rfl (by kernel_rfl) (by kernel_rfl) (by kernel_rfl) (fun _ _ _ h => h) (Or.inl ⟨by rfl, ?uAN5⟩) (by assumption) ?rAN5
            case uAN5 => (intro w hSw; (try dsimp only at hSw); go_simp; (try with_reducible rfl))
            simp only [Act.put, List.setIfInBounds_toArray, List.set_cons_zero, List.set_cons_succ]
            refine wpAnyH_take (i := 6) (oi := { dst := some 85, op := Op.indexAddr 42 (Operand.tmp 83) (Operand.tmp 84), type := 0, pos := _, after := #[{ on := 4, ground := Ground.data }, { on := 5, ground := Ground.data }], guard := none }) (v := ?tAN6) rfl (by kernel_rfl) (by kernel_rfl) (by kernel_rfl) (fun _ _ _ h => h) (Or.inl ⟨by rfl, ?uAN6⟩) (by assumption) ?rAN6
            case uAN6 => (intro w hSw; (try dsimp only at hSw); go_simp; (try with_reducible rfl))
            simp only [Act.put, List.setIfInBounds_toArray, List.set_cons_zero, List.set_cons_succ]
            refine wpAnyH_take (i := 7) (oi := { dst := some 86, op := Op.load 24 (Operand.tmp 85), type := 24, pos := _, after := #[{ on := 6, ground := Ground.data }], guard := none }) (v := ?tAN7) rfl (by kernel_rfl) (by kernel_rfl) (by kernel_rfl) (fun _ _ _ h => h) (Or.inl ⟨by rfl, ?uAN7⟩) (by assumption) ?rAN7
            case uAN7 => (intro w hSw; (try dsimp only at hSw); go_simp; (try with_reducible rfl))
            simp only [Act.put, List.setIfInBounds_toArray, List.set_cons_zero, List.set_cons_succ]
            refine wpAnyH_take (i := 8) (oi := { dst := some 87, op := Op.build 32 #[(0, Operand.tmp 86)], type := 32, pos := _, after := #[{ on := 7, ground := Ground.data }], guard := none }) (v := ?tAN8) rfl (by kernel_rfl) (by kernel_rfl) (by kernel_rfl) (fun _ _ _ h => h) (Or.inl ⟨by rfl, ?uAN8⟩) (by assumption) ?rAN8
            case uAN8 => (intro w hSw; (try dsimp only at hSw); go_simp; (try with_reducible rfl))
            simp only [Act.put, List.setIfInBounds_toArray, List.set_cons_zero, List.set_cons_succ]
            refine wpAnyH_ready (rs := [0]) (by kernel_rfl) (by simp) ?_
            refine AllReadyH.cons (o := { dst := some 79, op := Op.load 23 (Operand.tmp 12), type := 23, pos := _, after := #[], guard := none }) rfl (fun K hK => ?_) AllReadyH.nil
            go_simp
            refine hK.out _ _ (E5.out _ bl5.out.drew) (fun _ => ?_)
            (try simp only [Act.put, List.setIfInBounds_toArray, List.set_cons_zero, List.set_cons_succ])
            refine wpAnyH_ready (rs := [9]) (by kernel_rfl) (by simp) ?_
            refine AllReadyH.cons (o := { dst := some 88, op := Op.call { callee := Callee.value (Operand.func 14), args := #[Operand.tmp 79, Operand.tmp 80, Operand.tmp 81, Operand.tmp 82, Operand.tmp 87], argTypes := #[23, 2, 2, 2, 32] }, type := 23, pos := _, after := #[{ on := 0, ground := Ground.data }, { on := 1, ground := Ground.data }, { on := 2, ground := Ground.data }, { on := 3, ground := Ground.data }, { on := 8, ground := Ground.data }], guard := none }) rfl (fun K hK => ?_) AllReadyH.nil
            go_simp
            refine (DN.out ((j : Int) + 1) (unt a b n (j + 1)) (by omega) (by omega) er hk _ _ _ _ _ _ _ _ _ _).mono ?_
            rintro e w6 ⟨rfl, g6⟩
            have bs6 := bs5.out.drew.step g6
            have bb6 := Lib.hid (bb5.out.drew.step g6)
            have bl6 := Lib.hid (bl5.out.drew.trans g6)
            have d3 : w6.cell? ⟨w1.heap.size + 1, 0, none⟩ = _ := bs6.c 0
            have d4 : w6.cell? ⟨w1.heap.size + 1, 1, none⟩ = _ := bs6.c 1
            simp at d3 d4
            have f3 : w6.frozen? ⟨w1.heap.size + 1, 0, none⟩ = _ := bs6.f 0
            have f4 : w6.frozen? ⟨w1.heap.size + 1, 1, none⟩ = _ := bs6.f 1
            replace bs6 := Lib.hid bs6
            clear d0 d1 g6
            refine hK.out _ _ (E5.out _ bl6.out) (fun _ => ?_)
            (try simp only [Act.put, List.setIfInBounds_toArray, List.set_cons_zero, List.set_cons_succ])
            refine wpAnyH_ready (rs := [10]) (by kernel_rfl) (by simp) ?_
            refine AllReadyH.cons (o := { dst := none, op := Op.store 23 (Operand.tmp 12) (Operand.tmp 88), type := 0, pos := _, after := #[{ on := 9, ground := Ground.data }, { on := 9, ground := Ground.chain }, { on := 0, ground := Ground.phase }, { on := 1, ground := Ground.phase }, { on := 2, ground := Ground.phase }, { on := 3, ground := Ground.phase }, { on := 4, ground := Ground.phase }, { on := 5, ground := Ground.phase }, { on := 6, ground := Ground.phase }, { on := 7, ground := Ground.phase }, { on := 8, ground := Ground.phase }, { on := 9, ground := Ground.phase }], guard := none }) rfl (fun K hK => ?_) AllReadyH.nil
            go_simp
            refine hK.out _ _ (E5.out _ (Below.trans bl6.out ((Bk.set2 (x0 := .int .i64 ((j : Int) + 1)) (x1 := .int .i64 (unt a b n (j + 1))) bs6.out).2.mono (by omega)))) (fun _ => ?_)
            (try simp only [Act.put, List.setIfInBounds_toArray, List.set_cons_zero, List.set_cons_succ])
            refine wpAnyH_done (by kernel_rfl) ?_ _
            obtain ⟨x1, x2⟩ := Bk.set2 (x0 := .int .i64 ((j : Int) + 1)) (x1 := .int .i64 (unt a b n (j + 1))) bs6.out
            go_wp2_with fail
            exact ⟨⟨j + 1, by simp, by omega, Lib.hid ⟨by simpa using x1, (bb6.out.other _ _ (by show w1.heap.size ≠ w1.heap.size + 1; omega)).other _ _ (by show w1.heap.size ≠ w1.heap.size + 1; omega), Below.trans bl6.out (x2.mono (by omega))⟩⟩, by simp [intOf]; omega⟩
          · generalize kd er = kk at *
            go_wp2_with (go_at_call 7; refine (KR.out _).mono ?_; rintro e w5 ⟨rfl, o5, rfl⟩)
            exact ⟨⟨j + 1, by simp, by omega, Lib.hid ⟨by simpa using y1.out.alloc o5, y3.out.alloc o5, y4.out.al o5⟩⟩, by simp [intOf]; omega⟩
        · go_wp2_with fail
          exact ⟨⟨j + 1, by simp, by omega, Lib.hid ⟨by simpa using y1.out, y3.out, y4.out⟩⟩, by simp [intOf]; omega⟩
      · go_wp2_with fail
        refine (S0.out j hja _ _).mono ?_
        rintro e w2 ⟨rfl, g2⟩
        have bs2 := bs.out.step g2
        have bb2 := Lib.hid (bb.out.step g2)
        have d0 : w2.cell? ⟨w1.heap.size + 1, 0, none⟩ = _ := bs2.c 0
        have d1 : w2.cell? ⟨w1.heap.size + 1, 1, none⟩ = _ := bs2.c 1
        simp at d0 d1
        rw [show unt a b n j = 0 by unfold unt; rw [if_neg (by omega)]] at d1
        replace bs2 := Lib.hid bs2
        have bl2 := Lib.hid (bl.out.trans g2)
        clear c0 c1 g2
        go_wp2_with fail
        have E2 := Lib.hid (bad_cell bb2.out (q := 0) (by omega))
        refine wp_region_held_drew (S := (fun w' => w'.cell? ⟨w1.heap.size, 0, none⟩ = some (.int .i64 (badE 0)))) (by kernel_rfl) (E2.out) (fun hHeld => ?_)
        refine wpAnyH_take (i := 1) (oi := { dst := some 57, op := Op.move (Operand.tmp 0), type := 2, pos := _, after := #[], guard := none }) (v := ?tB1) rfl (by kernel_rfl) (by kernel_rfl) (by kernel_rfl) (fun _ _ _ h => h) (Or.inl ⟨by rfl, ?uB1⟩) (by assumption) ?rB1
        case uB1 => (intro w hSw; (try dsimp only at hSw); go_simp; (try with_reducible rfl))
        simp only [Act.put, List.setIfInBounds_toArray, List.set_cons_zero, List.set_cons_succ]
        refine wpAnyH_take (i := 2) (oi := { dst := some 58, op := Op.move (Operand.tmp 1), type := 2, pos := _, after := #[], guard := none }) (v := ?tB2) rfl (by kernel_rfl) (by kernel_rfl) (by kernel_rfl) (fun _ _ _ h => h) (Or.inl ⟨by rfl, ?uB2⟩) (by assumption) ?rB2
        case uB2 => (intro w hSw; (try dsimp only at hSw); go_simp; (try with_reducible rfl))
        simp only [Act.put, List.setIfInBounds_toArray, List.set_cons_zero, List.set_cons_succ]
        refine wpAnyH_take (i := 3) (oi := { dst := some 59, op := Op.move (Operand.tmp 2), type := 2, pos := _, after := #[], guard := none }) (v := ?tB3) rfl (by kernel_rfl) (by kernel_rfl) (by kernel_rfl) (fun _ _ _ h => h) (Or.inl ⟨by rfl, ?uB3⟩) (by assumption) ?rB3
        case uB3 => (intro w hSw; (try dsimp only at hSw); go_simp; (try with_reducible rfl))
        simp only [Act.put, List.setIfInBounds_toArray, List.set_cons_zero, List.set_cons_succ]
        refine wpAnyH_take (i := 4) (oi := { dst := some 60, op := Op.move (Operand.tmp 11), type := 42, pos := _, after := #[], guard := none }) (v := ?tB4) rfl (by kernel_rfl) (by kernel_rfl) (by kernel_rfl) (fun _ _ _ h => h) (Or.inl ⟨by rfl, ?uB4⟩) (by assumption) ?rB4
        case uB4 => (intro w hSw; (try dsimp only at hSw); go_simp; (try with_reducible rfl))
        simp only [Act.put, List.setIfInBounds_toArray, List.set_cons_zero, List.set_cons_succ]
        refine wpAnyH_take (i := 5) (oi := { dst := some 61, op := Op.move (Operand.tmp 14), type := 3, pos := _, after := #[], guard := none }) (v := ?tB5) rfl (by kernel_rfl) (by kernel_rfl) (by kernel_rfl) (fun _ _ _ h => h) (Or.inl ⟨by rfl, ?uB5⟩) (by assumption) ?rB5
        case uB5 => (intro w hSw; (try dsimp only at hSw); go_simp; (try with_reducible rfl))
        simp only [Act.put, List.setIfInBounds_toArray, List.set_cons_zero, List.set_cons_succ]
        refine wpAnyH_take (i := 6) (oi := { dst := some 62, op := Op.indexAddr 42 (Operand.tmp 60) (Operand.tmp 61), type := 0, pos := _, after := #[{ on := 4, ground := Ground.data }, { on := 5, ground := Ground.data }], guard := none }) (v := ?tB6) rfl (by kernel_rfl) (by kernel_rfl) (by kernel_rfl) (fun _ _ _ h => h) (Or.inl ⟨by rfl, ?uB6⟩) (by assumption) ?rB6
        case uB6 => (intro w hSw; (try dsimp only at hSw); go_simp; (try with_reducible rfl))
        simp only [Act.put, List.setIfInBounds_toArray, List.set_cons_zero, List.set_cons_succ]
        refine wpAnyH_take (i := 7) (oi := { dst := some 63, op := Op.load 24 (Operand.tmp 62), type := 24, pos := _, after := #[{ on := 6, ground := Ground.data }], guard := none }) (v := ?tB7) rfl (by kernel_rfl) (by kernel_rfl) (by kernel_rfl) (fun _ _ _ h => h) (Or.inl ⟨by rfl, ?uB7⟩) (by assumption) ?rB7
        case uB7 => (intro w hSw; (try dsimp only at hSw); go_simp; (try with_reducible rfl))
        simp only [Act.put, List.setIfInBounds_toArray, List.set_cons_zero, List.set_cons_succ]
        refine wpAnyH_take (i := 8) (oi := { dst := some 64, op := Op.build 32 #[(0, Operand.tmp 63)], type := 32, pos := _, after := #[{ on := 7, ground := Ground.data }], guard := none }) (v := ?tB8) rfl (by kernel_rfl) (by kernel_rfl) (by kernel_rfl) (fun _ _ _ h => h) (Or.inl ⟨by rfl, ?uB8⟩) (by assumption) ?rB8
        case uB8 => (intro w hSw; (try dsimp only at hSw); go_simp; (try with_reducible rfl))
        simp only [Act.put, List.setIfInBounds_toArray, List.set_cons_zero, List.set_cons_succ]
        refine wpAnyH_ready (rs := [0]) (by kernel_rfl) (by simp) ?_
        refine AllReadyH.cons (o := { dst := some 56, op := Op.load 23 (Operand.tmp 12), type := 23, pos := _, after := #[], guard := none }) rfl (fun K hK => ?_) AllReadyH.nil
        go_simp
        refine hK.out _ _ (E2.out) (fun _ => ?_)
        (try simp only [Act.put, List.setIfInBounds_toArray, List.set_cons_zero, List.set_cons_succ])
        refine wpAnyH_ready (rs := [9]) (by kernel_rfl) (by simp) ?_
        refine AllReadyH.cons (o := { dst := some 65, op := Op.call { callee := Callee.value (Operand.func 14), args := #[Operand.tmp 56, Operand.tmp 57, Operand.tmp 58, Operand.tmp 59, Operand.tmp 64], argTypes := #[23, 2, 2, 2, 32] }, type := 23, pos := _, after := #[{ on := 0, ground := Ground.data }, { on := 1, ground := Ground.data }, { on := 2, ground := Ground.data }, { on := 3, ground := Ground.data }, { on := 8, ground := Ground.data }], guard := none }) rfl (fun K hK => ?_) AllReadyH.nil
        go_simp
        refine (DB.out j hja (badE 0) (kd_bad _) _ _ _ _ _ _ _ _ _ _).mono ?_
        rintro e w3 ⟨rfl, g3⟩
        have bs3 := bs2.out.drew.step g3
        have bb3 := Lib.hid (bb2.out.drew.step g3)
        have bl3 := Lib.hid (bl2.out.drew.trans g3)
        have d3 : w3.cell? ⟨w1.heap.size + 1, 0, none⟩ = _ := bs3.c 0
        have d4 : w3.cell? ⟨w1.heap.size + 1, 1, none⟩ = _ := bs3.c 1
        simp at d3 d4
        have f3 : w3.frozen? ⟨w1.heap.size + 1, 0, none⟩ = _ := bs3.f 0
        have f4 : w3.frozen? ⟨w1.heap.size + 1, 1, none⟩ = _ := bs3.f 1
        replace bs3 := Lib.hid bs3
        have E3 := Lib.hid (bad_cell bb3.out (q := 0) (by omega))
        clear d0 d1 g3
        refine hK.out _ _ (E3.out) (fun _ => ?_)
        (try simp only [Act.put, List.setIfInBounds_toArray, List.set_cons_zero, List.set_cons_succ])
        refine wpAnyH_ready (rs := [10]) (by kernel_rfl) (by simp) ?_
        refine AllReadyH.cons (o := { dst := none, op := Op.store 23 (Operand.tmp 12) (Operand.tmp 65), type := 0, pos := _, after := #[{ on := 9, ground := Ground.data }, { on := 9, ground := Ground.chain }, { on := 0, ground := Ground.phase }, { on := 1, ground := Ground.phase }, { on := 2, ground := Ground.phase }, { on := 3, ground := Ground.phase }, { on := 4, ground := Ground.phase }, { on := 5, ground := Ground.phase }, { on := 6, ground := Ground.phase }, { on := 7, ground := Ground.phase }, { on := 8, ground := Ground.phase }, { on := 9, ground := Ground.phase }], guard := none }) rfl (fun K hK => ?_) AllReadyH.nil
        go_simp
        refine hK.out _ _ (bad_cell ((bb3.out.other _ _ (by show w1.heap.size ≠ w1.heap.size + 1; omega)).other _ _ (by show w1.heap.size ≠ w1.heap.size + 1; omega)) (by omega)) (fun _ => ?_)
        (try simp only [Act.put, List.setIfInBounds_toArray, List.set_cons_zero, List.set_cons_succ])
        refine wpAnyH_done (by kernel_rfl) ?_ _
        obtain ⟨y1, y2⟩ := Bk.set2 (x0 := .int .i64 ((j : Int) + 1)) (x1 := .int .i64 (unt a b n (j + 1))) bs3.out
        have y3 : Bk ((w3.setCell ⟨w1.heap.size + 1, 0, none⟩ (.int .i64 ((j : Int) + 1))).setCell ⟨w1.heap.size + 1, 1, none⟩ (.int .i64 (unt a b n (j + 1)))) w1.heap.size #[.int .i64 100, .int .i64 101, .int .i64 110] 24 := (bb3.out.other _ _ (by show w1.heap.size ≠ w1.heap.size + 1; omega)).other _ _ (by show w1.heap.size ≠ w1.heap.size + 1; omega)
        have y4 : Gw w ((w3.setCell ⟨w1.heap.size + 1, 0, none⟩ (.int .i64 ((j : Int) + 1))).setCell ⟨w1.heap.size + 1, 1, none⟩ (.int .i64 (unt a b n (j + 1)))) := Below.trans bl3.out (y2.mono (by omega))
        clear d3 d4 f3 f4 bs3 bb3 bl3 E2 E3 bs2 bb2 bl2 bs bb bl y2 hHeld
        generalize hw4 : (w3.setCell ⟨w1.heap.size + 1, 0, none⟩ (.int .i64 ((j : Int) + 1))).setCell ⟨w1.heap.size + 1, 1, none⟩ (.int .i64 (unt a b n (j + 1))) = w4 at *
        clear hw4
        replace y1 := Lib.hid y1; replace y3 := Lib.hid y3; replace y4 := Lib.hid y4
        by_cases hjn : j < ns.length
        · obtain ⟨gn, on, rfl, hgn, hgnc⟩ := HN.out j hjn
          have hgl : w4.cell? ⟨gn, on + j, none⟩ = _ := (Below.cell y4.out hgn).trans hgnc
          generalize ns[j] = er at *
          have KR := Lib.hid (fun w' => rkind_any er (.int .i64 0) (.int .i64 0) (.int .i64 0) (.bool false) (.int .i64 0) (.int .i64 0) (.int .u64 0) (.string ⟨#[]⟩) (.slice none 0 0) w')
          by_cases hk : kd er = 0
          · rw [hk] at KR
            go_wp2_with (go_at_call 7; refine (KR.out _).mono ?_; rintro e w5 ⟨rfl, o5, rfl⟩)
            have bs5 := y1.out.alloc o5
            have bb5 := Lib.hid (y3.out.alloc o5)
            have bl5 := Lib.hid (y4.out.al o5)
            generalize w4.alloc o5 = w5 at *
            have d0 : w5.cell? ⟨w1.heap.size + 1, 0, none⟩ = _ := bs5.c 0
            have d1 : w5.cell? ⟨w1.heap.size + 1, 1, none⟩ = _ := bs5.c 1
            simp at d0 d1
            replace bs5 := Lib.hid bs5
            have E5 := Lib.hid (show ∀ wx, Gw w wx → wx.cell? ⟨gn, on + j, none⟩ = some (.int .i64 er) from fun wx hx => (Below.cell hx hgn).trans hgnc)
            clear hgl hgnc
            refine wp_region_held_drew (S := (fun w' => w'.cell? ⟨gn, on + j, none⟩ = some (.int .i64 er))) (by kernel_rfl) (E5.out _ bl5.out.drew) (fun hHeld => ?_)
            refine wpAnyH_take (i := 1) (oi := { dst := some 80, op := Op.move (Operand.tmp 0), type := 2, pos := _, after := #[], guard := none }) (v := ?tBN1) rfl (by kernel_rfl) (by kernel_rfl) (by kernel_rfl) (fun _ _ _ h => h) (Or.inl ⟨by rfl, ?uBN1⟩) (by assumption) ?rBN1
            case uBN1 => (intro w hSw; (try dsimp only at hSw); go_simp; (try with_reducible rfl))
            simp only [Act.put, List.setIfInBounds_toArray, List.set_cons_zero, List.set_cons_succ]
            refine wpAnyH_take (i := 2) (oi := { dst := some 81, op := Op.move (Operand.tmp 1), type := 2, pos := _, after := #[], guard := none }) (v := ?tBN2) rfl (by kernel_rfl) (by kernel_rfl) (by kernel_rfl) (fun _ _ _ h => h) (Or.inl ⟨by rfl, ?uBN2⟩) (by assumption) ?rBN2
            case uBN2 => (intro w hSw; (try dsimp only at hSw); go_simp; (try with_reducible rfl))
            simp only [Act.put, List.setIfInBounds_toArray, List.set_cons_zero, List.set_cons_succ]
            refine wpAnyH_take (i := 3) (oi := { dst := some 82, op := Op.move (Operand.tmp 2), type := 2, pos := _, after := #[], guard := none }) (v := ?tBN3) rfl (by kernel_rfl) (by kernel_rfl) (by kernel_rfl) (fun _ _ _ h => h) (Or.inl ⟨by rfl, ?uBN3⟩) (by assumption) ?rBN3
            case uBN3 => (intro w hSw; (try dsimp only at hSw); go_simp; (try with_reducible rfl))
            simp only [Act.put, List.setIfInBounds_toArray, List.set_cons_zero, List.set_cons_succ]
            refine wpAnyH_take (i := 4) (oi := { dst := some 83, op := Op.move (Operand.tmp 4), type := 42, pos := _, after := #[], guard := none }) (v := ?tBN4) rfl (by kernel_rfl) (by kernel_rfl) (by kernel_rfl) (fun _ _ _ h => h) (Or.inl ⟨by rfl, ?uBN4⟩) (by assumption) ?rBN4
            case uBN4 => (intro w hSw; (try dsimp only at hSw); go_simp; (try with_reducible rfl))
            simp only [Act.put, List.setIfInBounds_toArray, List.set_cons_zero, List.set_cons_succ]
            refine wpAnyH_take (i := 5) (oi := { dst := some 84, op := Op.move (Operand.tmp 13), type := 2, pos := _, after := #[], guard := none }) (v := ?tBN5) rfl (by kernel_rfl) (by kernel_rfl) (by kernel_rfl) (fun _ _ _ h => h) (Or.inl ⟨by rfl, ?uBN5⟩) (by assumption) ?rBN5
            case uBN5 => (intro w hSw; (try dsimp only at hSw); go_simp; (try with_reducible rfl))
            simp only [Act.put, List.setIfInBounds_toArray, List.set_cons_zero, List.set_cons_succ]
            refine wpAnyH_take (i := 6) (oi := { dst := some 85, op := Op.indexAddr 42 (Operand.tmp 83) (Operand.tmp 84), type := 0, pos := _, after := #[{ on := 4, ground := Ground.data }, { on := 5, ground := Ground.data }], guard := none }) (v := ?tBN6) rfl (by kernel_rfl) (by kernel_rfl) (by kernel_rfl) (fun _ _ _ h => h) (Or.inl ⟨by rfl, ?uBN6⟩) (by assumption) ?rBN6
            case uBN6 => (intro w hSw; (try dsimp only at hSw); go_simp; (try with_reducible rfl))
            simp only [Act.put, List.setIfInBounds_toArray, List.set_cons_zero, List.set_cons_succ]
            refine wpAnyH_take (i := 7) (oi := { dst := some 86, op := Op.load 24 (Operand.tmp 85), type := 24, pos := _, after := #[{ on := 6, ground := Ground.data }], guard := none }) (v := ?tBN7) rfl (by kernel_rfl) (by kernel_rfl) (by kernel_rfl) (fun _ _ _ h => h) (Or.inl ⟨by rfl, ?uBN7⟩) (by assumption) ?rBN7
            case uBN7 => (intro w hSw; (try dsimp only at hSw); go_simp; (try with_reducible rfl))
            simp only [Act.put, List.setIfInBounds_toArray, List.set_cons_zero, List.set_cons_succ]
            refine wpAnyH_take (i := 8) (oi := { dst := some 87, op := Op.build 32 #[(0, Operand.tmp 86)], type := 32, pos := _, after := #[{ on := 7, ground := Ground.data }], guard := none }) (v := ?tBN8) rfl (by kernel_rfl) (by kernel_rfl) (by kernel_rfl) (fun _ _ _ h => h) (Or.inl ⟨by rfl, ?uBN8⟩) (by assumption) ?rBN8
            case uBN8 => (intro w hSw; (try dsimp only at hSw); go_simp; (try with_reducible rfl))
            simp only [Act.put, List.setIfInBounds_toArray, List.set_cons_zero, List.set_cons_succ]
            refine wpAnyH_ready (rs := [0]) (by kernel_rfl) (by simp) ?_
            refine AllReadyH.cons (o := { dst := some 79, op := Op.load 23 (Operand.tmp 12), type := 23, pos := _, after := #[], guard := none }) rfl (fun K hK => ?_) AllReadyH.nil
            go_simp
            refine hK.out _ _ (E5.out _ bl5.out.drew) (fun _ => ?_)
            (try simp only [Act.put, List.setIfInBounds_toArray, List.set_cons_zero, List.set_cons_succ])
            refine wpAnyH_ready (rs := [9]) (by kernel_rfl) (by simp) ?_
            refine AllReadyH.cons (o := { dst := some 88, op := Op.call { callee := Callee.value (Operand.func 14), args := #[Operand.tmp 79, Operand.tmp 80, Operand.tmp 81, Operand.tmp 82, Operand.tmp 87], argTypes := #[23, 2, 2, 2, 32] }, type := 23, pos := _, after := #[{ on := 0, ground := Ground.data }, { on := 1, ground := Ground.data }, { on := 2, ground := Ground.data }, { on := 3, ground := Ground.data }, { on := 8, ground := Ground.data }], guard := none }) rfl (fun K hK => ?_) AllReadyH.nil
            go_simp
            refine (DN.out ((j : Int) + 1) (unt a b n (j + 1)) (by omega) (by omega) er hk _ _ _ _ _ _ _ _ _ _).mono ?_
            rintro e w6 ⟨rfl, g6⟩
            have bs6 := bs5.out.drew.step g6
            have bb6 := Lib.hid (bb5.out.drew.step g6)
            have bl6 := Lib.hid (bl5.out.drew.trans g6)
            have d3 : w6.cell? ⟨w1.heap.size + 1, 0, none⟩ = _ := bs6.c 0
            have d4 : w6.cell? ⟨w1.heap.size + 1, 1, none⟩ = _ := bs6.c 1
            simp at d3 d4
            have f3 : w6.frozen? ⟨w1.heap.size + 1, 0, none⟩ = _ := bs6.f 0
            have f4 : w6.frozen? ⟨w1.heap.size + 1, 1, none⟩ = _ := bs6.f 1
            replace bs6 := Lib.hid bs6
            clear d0 d1 g6
            refine hK.out _ _ (E5.out _ bl6.out) (fun _ => ?_)
            (try simp only [Act.put, List.setIfInBounds_toArray, List.set_cons_zero, List.set_cons_succ])
            refine wpAnyH_ready (rs := [10]) (by kernel_rfl) (by simp) ?_
            refine AllReadyH.cons (o := { dst := none, op := Op.store 23 (Operand.tmp 12) (Operand.tmp 88), type := 0, pos := _, after := #[{ on := 9, ground := Ground.data }, { on := 9, ground := Ground.chain }, { on := 0, ground := Ground.phase }, { on := 1, ground := Ground.phase }, { on := 2, ground := Ground.phase }, { on := 3, ground := Ground.phase }, { on := 4, ground := Ground.phase }, { on := 5, ground := Ground.phase }, { on := 6, ground := Ground.phase }, { on := 7, ground := Ground.phase }, { on := 8, ground := Ground.phase }, { on := 9, ground := Ground.phase }], guard := none }) rfl (fun K hK => ?_) AllReadyH.nil
            go_simp
            refine hK.out _ _ (E5.out _ (Below.trans bl6.out ((Bk.set2 (x0 := .int .i64 ((j : Int) + 1)) (x1 := .int .i64 (unt a b n (j + 1))) bs6.out).2.mono (by omega)))) (fun _ => ?_)
            (try simp only [Act.put, List.setIfInBounds_toArray, List.set_cons_zero, List.set_cons_succ])
            refine wpAnyH_done (by kernel_rfl) ?_ _
            obtain ⟨x1, x2⟩ := Bk.set2 (x0 := .int .i64 ((j : Int) + 1)) (x1 := .int .i64 (unt a b n (j + 1))) bs6.out
            go_wp2_with fail
            exact ⟨⟨j + 1, by simp, by omega, Lib.hid ⟨by simpa using x1, (bb6.out.other _ _ (by show w1.heap.size ≠ w1.heap.size + 1; omega)).other _ _ (by show w1.heap.size ≠ w1.heap.size + 1; omega), Below.trans bl6.out (x2.mono (by omega))⟩⟩, by simp [intOf]; omega⟩
          · generalize kd er = kk at *
            go_wp2_with (go_at_call 7; refine (KR.out _).mono ?_; rintro e w5 ⟨rfl, o5, rfl⟩)
            exact ⟨⟨j + 1, by simp, by omega, Lib.hid ⟨by simpa using y1.out.alloc o5, y3.out.alloc o5, y4.out.al o5⟩⟩, by simp [intOf]; omega⟩
        · go_wp2_with fail
          exact ⟨⟨j + 1, by simp, by omega, Lib.hid ⟨by simpa using y1.out, y3.out, y4.out⟩⟩, by simp [intOf]; omega⟩
    · have hje : (j : Int) = a := by omega
      have c0 : wr.cell? ⟨w1.heap.size + 1, 0, none⟩ = _ := bs.c 0
      have c1 : wr.cell? ⟨w1.heap.size + 1, 1, none⟩ = _ := bs.c 1
      simp at c0 c1
      rw [show unt a b n j = n + b by unfold unt; rw [if_pos hje]] at c1
      rw [hje] at c0
      have hQ := bs.lt
      have hnot : ¬ (j : Int) < a := hja
      have S1 := Lib.hid (fun w' => state_any a (n + b) a n w')
      have S2 := Lib.hid (fun w' => state_any a (n + b) a (n + b - 1) w')
      have S3 := Lib.hid (fun w' => state_any a (n + b) a (n + b) w')
      have S4 := Lib.hid (fun w' => state_any a (n + b + b) a (n + b) w')
      have A1 := Lib.hid (fun w' => ask_any a (n + b) a (n + b - 1) w')
      have A2 := Lib.hid (fun w' => ask_any 0 0 a (n + b) w')
      have D1 := Lib.hid (fun w' => done_any a (n + b) a b (n + b) 110 (.int .i64 0) (.int .i64 0) (.int .i64 0) (.bool false) (.int .i64 0) (.int .i64 0) (.int .u64 0) (.string ⟨#[]⟩) (.slice none 0 0) w' (by omega) (by omega) (by omega) (by omega))
      have D2 := Lib.hid (fun w' => done_any a (n + b) a b (n + b) 0 (.int .i64 0) (.int .i64 0) (.int .i64 0) (.bool false) (.int .i64 0) (.int .i64 0) (.int .u64 0) (.string ⟨#[]⟩) (.slice none 0 0) w' (by omega) (by omega) (by omega) (by omega))
      rw [show sta a (n + b) a n = 1 by simp [sta]; omega] at S1
      rw [show sta a (n + b) a (n + b - 1) = 1 by simp [sta]; omega] at S2
      rw [show sta a (n + b) a (n + b) = 2 by simp [sta]] at S3
      rw [show sta a (n + b + b) a (n + b) = 1 by simp [sta]; omega] at S4
      rw [show sta a (n + b) a (n + b - 1) = 1 by simp [sta]; omega] at A1
      rw [show sta 0 0 a (n + b) = 0 by simp [sta]; omega] at A2
      rw [show kd 110 = -1 by decide, show dnF a a (-1) = a by simp [dnF], show dnU a (n + b) a b (n + b) (-1) = n + b + b by simp [dnU], show cn a a (-1) = 7 by simp [cn]] at D1
      rw [show kd 0 = 1 by decide, show dnF a a 1 = 0 by simp [dnF], show dnU a (n + b) a b (n + b) 1 = 0 by simp [dnU], show cn a a 1 = 4 by simp [cn]] at D2
      replace D1 := Lib.hid (fun w' => (D1.out w').mono fun e w'' ⟨h1, h2⟩ => (And.intro h1 (als_gw _ _ _ h2)))
      replace D2 := Lib.hid (fun w' => (D2.out w').mono fun e w'' ⟨h1, h2⟩ => (And.intro h1 (als_gw _ _ _ h2)))
      replace S1 := Lib.hid (fun w' => (S1.out w').mono fun e w'' ⟨h1, o, p, h2⟩ => (And.intro h1 (show Gw w' w'' from h2 ▸ ((Gw.refl _).al o).al p)))
      replace S2 := Lib.hid (fun w' => (S2.out w').mono fun e w'' ⟨h1, o, p, h2⟩ => (And.intro h1 (show Gw w' w'' from h2 ▸ ((Gw.refl _).al o).al p)))
      replace S3 := Lib.hid (fun w' => (S3.out w').mono fun e w'' ⟨h1, o, p, h2⟩ => (And.intro h1 (show Gw w' w'' from h2 ▸ ((Gw.refl _).al o).al p)))
      replace A1 := Lib.hid (fun w' => (A1.out w').mono fun e w'' ⟨h1, o, p, q, h2⟩ => (And.intro h1 (show Gw w' w'' from h2 ▸ (((Gw.refl _).al o).al p).al q)))
      have CE := Lib.hid (show ∀ wx, Gw wr wx → wx.cell? ⟨w1.heap.size + 1, 0, none⟩ = some (.int .i64 a) ∧ wx.cell? ⟨w1.heap.size + 1, 1, none⟩ = some (.int .i64 (n + b)) from fun wx hx => ⟨(Below.cell hx hQ).trans c0, (Below.cell hx hQ).trans c1⟩)
      replace bl := Lib.hid bl
      clear bs bb
      go_wp2_with (first
        | (go_at_call 10; with_reducible refine (S1.out _).mono ?_; rintro e w2 ⟨rfl, g2⟩; obtain ⟨d0, d1⟩ := CE.out _ g2)
        | (go_at_call 10; with_reducible refine (S2.out _).mono ?_; rintro e w3 ⟨rfl, g3⟩; replace g3 := g2.trans g3; obtain ⟨d2, d3⟩ := CE.out _ g3)
        | (go_at_call 10; with_reducible refine (S3.out _).mono ?_; rintro e w4 ⟨rfl, g4⟩; replace g4 := g3.trans g4; obtain ⟨d4, d5⟩ := CE.out _ g4)
        | (go_at_call 12; with_reducible refine (A1.out _).mono ?_; rintro e w5 ⟨rfl, g5⟩; replace g5 := g4.trans g5; obtain ⟨d6, d7⟩ := CE.out _ g5)
        | (go_at_call 14; with_reducible refine (D1.out _).mono ?_; rintro e w6 ⟨rfl, g6⟩; replace g6 := g5.trans g6; have d8 := fun o => (CE.out _ (g6.al o)).1; have d9 := fun o => (CE.out _ (g6.al o)).2)
        | (go_at_call 14; with_reducible refine (D2.out _).mono ?_; rintro e w7 ⟨rfl, g7⟩; have e0 := fun o => (two_at (On.step (On.start w6 _) (g7.al o))).1; have e1 := fun o => (two_at (On.step (On.start w6 _) (g7.al o))).2; replace g7 := (g6.al _).trans g7)
        | (go_at_call 10; with_reducible refine (S4.out _).mono ?_; rintro e w8 ⟨rfl, o1, o2, rfl⟩)
        | (go_at_call 12; with_reducible refine (A2.out _).mono ?_; rintro e w8 ⟨rfl, o1, o2, o3, rfl⟩)
        | (go_at_call 9; with_reducible refine (awake_any _).mono ?_; rintro e w9 ⟨rfl, g9⟩))
      go_ret
      refine ⟨rfl, Gw.trans (bl.out.trans ?_) g9⟩
      repeat (with_reducible first | exact g7 | apply Gw.al | apply Gw.drew)
end Go.Proofs.Ytdmjhjfieabbbaa
