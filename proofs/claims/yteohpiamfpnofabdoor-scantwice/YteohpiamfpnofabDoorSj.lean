/- The token that begins at a place: marks; what is asked: the bytes lie in memory, and the package's variables as their text lays them. -/
import Derived.Test.YteohpiamfpnofabDoorSi
namespace Go.Proofs.YteohpiamfpnofabDoor
open Go.RowKit Go.Maps

theorem nums_in {w : World} {e : TypeId} {d : Bs} : Lib.BytesIn (Lib.bytesWorld w e (bs d)) (some ⟨w.heap.size, 0, none⟩) d.length (nums d) := fun _ => ⟨_, _, rfl, fun i hi => by
  rw [Nat.zero_add, Lib.bytesWorld_cell w e (bs d) i (by rw [bs_size]; exact hi), nums_get _ _ hi]
  simp [bs, List.getD, hi]⟩

set_option maxRecDepth 100000 in
set_option maxHeartbeats 4000000 in
theorem mark_any (b o c p : Nat) (l : Bs) (w : World) (hl : Byt w b o l) (hb : b < w.heap.size) (hp : p < l.length) (hs : l.length ≤ 65536) (hc : l.length ≤ c) (hv : Sv w) :
    Calls Tryd.prog 18 #[.slice (some ⟨b, o, none⟩) l.length c, .int .i64 p] w fun e w' => e = .returned (oneV p (mrkT (l.drop p))) ∧ Below w.heap.size w w' := by
  have HB := Lib.hid (below1 w (.cells #[.int .i64 0, .int .i64 0, .int .i64 0, .int .u64 0, .string ⟨#[]⟩] 32))
  have HV := Lib.hid (hv.below HB.out (Nat.le_refl _))
  have hb1 := Lib.hid (Nat.lt_of_lt_of_le hb HB.out.size)
  have HC := Lib.hid (hl.below HB.out hb)
  obtain ⟨R, hR⟩ : ∃ R, oneV p (mrkT (l.drop p)) = R := ⟨_, rfl⟩
  rw [hR]
  have HR := Lib.hid hR
  obtain ⟨n, hn⟩ : ∃ n, l.length = n := ⟨_, rfl⟩
  rw [hn] at hp hs hc ⊢
  have HN := Lib.hid hn
  clear hl hR hb hv hn
  have HL : Hid (∀ W, Below (tz w).heap.size (tz w) W → T5 W w.heap.size (.int .i64 0) (.int .i64 0) (.int .i64 0) (.int .u64 0) (.string ⟨#[]⟩)) := fun W h => (T5.new w).below h (by simp)
  have kb := fun (W : World) (x : ByteArray) => Lib.run_convert_string_bytes (P := Tryd.prog) W 9 22 5 x und9 und22 und5
  go_enter Tryd.func18, Tryd.ntmps18
  go_wp2
  go_loopg [6, 7] 11 (fun gk s6 s7 wx => ∃ (j best : Nat), 15 ≤ j ∧ j + gk = 26 ∧ best < 26 ∧ s7 = .int .i64 j ∧ s6 = .int .i64 best ∧ mk (l.drop p) = mkF (l.drop p) gk j best ∧ Below (tz w).heap.size (tz w) wx)
  case atStart => exact ⟨15, 0, Nat.le_refl _, rfl, by decide, rfl, rfl, rfl, Below.refl _ _⟩
  case round =>
    obtain ⟨j, best, h15, hjg, hbs, rfl, rfl, hq, hbw⟩ := hrel
    have HQ := Lib.hid hq
    have HW := Lib.hid hbw
    clear hq hbw
    have HV2 := Lib.hid (HV.out.below HW.out (Nat.le_refl _))
    have cb := HV2.out.1.at best hbs
    cases gk with
    | zero =>
      obtain rfl : j = 26 := by omega
      obtain ⟨c0, c1, c2, c3, c4⟩ := (HL.out wr HW.out).c
      have fz : ∀ o, wr.frozen? ⟨w.heap.size, o, none⟩ = false := fun o => (HL.out wr HW.out).f
      have h0 : (best : Int) < 26 := by omega
      have hsz : (bs (sp best)).size = (sp best).length := bs_size _
      have hle : (sp best).length ≤ 7 := by
        rcases Nat.lt_or_ge best 4 with h | h
        · rcases (by omega : best = 0 ∨ best = 1 ∨ best = 2 ∨ best = 3) with rfl | rfl | rfl | rfl <;> decide
        · exact (sp_pos best h hbs).2
      obtain ⟨S, hS⟩ : ∃ S, bs (sp best) = S := ⟨_, rfl⟩
      rw [hS] at cb hsz
      clear hS
      have hsz' : S.size ≤ 7 := by omega
      have HS := Lib.hid hsz
      clear hsz hle
      by_cases hz : best = 0
      · subst hz
        go_wp2
        have B := HB.out.trans (HW.out.mono (by simp))
        refine bodyPost_ret (v := .tuple #[.agg #[.int .i64 0, .int .i64 0, .int .i64 0, .int .u64 0, .string ⟨#[]⟩], .int .i64 61]) (by simp [results, Tryd.results18, go_sem, World.cell?_setCell_same, World.cell?_setCell_other, c0, c1, c2, c3, c4]) rfl ⟨?_, ((((B.setCell (Nat.le_refl _) _).setCell (Nat.le_refl _) _).setCell (Nat.le_refl _) _).setCell (Nat.le_refl _) _).setCell (Nat.le_refl _) _⟩
        rw [← HR.out, mrkT, if_pos (show mk (l.drop p) = 0 from HQ.out)]; rfl
      · have q1 : ((best : Int) == 0) = false := by simp; omega
        go_wp2
        have B := HB.out.trans (HW.out.mono (by simp))
        refine bodyPost_ret (v := .tuple #[.agg #[.int .i64 best, .int .i64 p, .int .i64 (p + S.size : Nat), .int .u64 0, .string ⟨#[]⟩], .int .i64 0]) (by simp [results, Tryd.results18, go_sem, World.cell?_setCell_same, World.cell?_setCell_other, c0, c1, c2, c3, c4]) rfl ⟨?_, ((((B.setCell (Nat.le_refl _) _).setCell (Nat.le_refl _) _).setCell (Nat.le_refl _) _).setCell (Nat.le_refl _) _).setCell (Nat.le_refl _) _⟩
        rw [← HR.out, mrkT, show mk (l.drop p) = best from HQ.out, if_neg hz, HS.out]; rfl
    | succ gq =>
      have hj : j < 26 := by omega
      have hj' : ((j : Nat) : Int) < 26 := by omega
      have hb' : ((best : Nat) : Int) < 26 := by omega
      have cj := HV2.out.1.at j hj
      have e1 : (bs (sp j)).size = (sp j).length := bs_size _
      have e2 : (bs (sp best)).size = (sp best).length := bs_size _
      by_cases hlt : (sp best).length < (sp j).length
      · have q1 : ((bs (sp best)).size : Int) < (bs (sp j)).size := by omega
        have hB2 : Below wr.heap.size wr (Lib.bytesWorld wr.drew 5 (bs (sp j))) := (Below.drew (Below.refl _ wr)).trans ((Lib.bytesWorld_below wr.drew _ _).mono (by simp))
        have hB3 := HW.out.trans (hB2.mono HW.out.size)
        have KP := Lib.hid (fun cc dd hcc => Tryd.bytes_HasPrefix_all (some ⟨b, o + p, none⟩) (some ⟨wr.drew.heap.size, 0, none⟩) (l.length - p) cc (sp j).length dd (nums (l.drop p)) (nums (sp j)) (Lib.bytesWorld wr.drew 5 (bs (sp j))) (by rw [nums_len]; simp) (nums_len _) hcc (by have := byt_in ((HC.out.below hB3 hb1.out).drop p); rwa [List.length_drop] at this) nums_in)
        rw [HN.out, nums_bytes, nums_bytes, ← e1, show wr.drew.heap.size = wr.heap.size from rfl] at KP
        have hcp : ¬ c = p := by omega
        have HB3 := Lib.hid hB3
        have HLT := Lib.hid hlt
        clear hB2 hB3 e1 e2 hlt
        have HPX : Hid (∀ B : Bool, Lib.hasPrefix (l.drop p) (sp j) = B → mk (l.drop p) = mkF (l.drop p) gq (j + 1) (if B then j else best)) := by
          intro B hB
          rw [HQ.out, mkF]
          cases B with
          | true => rw [if_pos ⟨HLT.out, hB⟩]; rfl
          | false => rw [if_neg (by rw [hB]; rintro ⟨_, h⟩; cases h)]; rfl
        generalize Lib.hasPrefix (l.drop p) (sp j) = B at KP HPX
        have HP := Lib.hid (HPX.out B rfl)
        generalize bs (sp j) = X at KP HB3 cj q1
        generalize bs (sp best) = Y at cb q1
        have j0 : (0 : Int) ≤ (j : Int) := by omega
        have b0 : (0 : Int) ≤ (best : Int) := by omega
        have p0 : (0 : Int) ≤ (p : Int) := by omega
        have p1 : (p : Int) ≤ (n : Int) := by omega
        have p2 : (p : Int) ≤ (c : Int) := by omega
        have hkb := kb wr.drew X
        clear kb HPX HLT HQ HV2 HV HL HC
        have m1 : wr.drew.cell? ⟨0, j, none⟩ = some (.string X) := by simpa using cj
        have m2 : wr.drew.cell? ⟨0, best, none⟩ = some (.string Y) := by simpa using cb
        have hz : 0 < wr.drew.heap.size := World.block_lt_of_cell? _ _ m1
        have m3 : (Lib.bytesWorld wr.drew 5 X).cell? ⟨0, j, none⟩ = some (.string X) := (Lib.bytesWorld_old _ _ _ _ hz).trans m1
        have m4 : (Lib.bytesWorld wr.drew 5 X).cell? ⟨0, best, none⟩ = some (.string Y) := (Lib.bytesWorld_old _ _ _ _ hz).trans m2
        clear hz
        go_wp2
        refine wp_region_held_drew (S := fun w' => w'.cell? ⟨0, j, none⟩ = some (.string X) ∧ w'.cell? ⟨0, best, none⟩ = some (.string Y)) (by kernel_rfl) ⟨m1, m2⟩ (fun hHeld => ?_)
        refine wpAnyH_take (i := 0) (oi := { dst := some 12, op := Op.move (Operand.tmp 7), type := 3, pos := "scan.go:139", after := #[], guard := none }) (v := ?tv0) rfl (by kernel_rfl) (by kernel_rfl) (by kernel_rfl) (fun _ _ _ h => h) (Or.inl ⟨by rfl, ?ty0⟩) (by assumption) ?tr0
        case ty0 => (intro w hSw; (try dsimp only at hSw); go_simp; (try with_reducible rfl))
        simp only [Act.put, List.setIfInBounds_toArray, List.set_cons_zero, List.set_cons_succ]
        refine wpAnyH_take (i := 1) (oi := { dst := some 13, op := Op.indexAddr 45 (Operand.global 0) (Operand.tmp 12), type := 0, pos := "scan.go:139", after := #[{ on := 0, ground := Ground.data }], guard := none }) (v := ?tv1) rfl (by kernel_rfl) (by kernel_rfl) (by kernel_rfl) (fun _ _ _ h => h) (Or.inl ⟨by rfl, ?ty1⟩) (by assumption) ?tr1
        case ty1 => (intro w hSw; (try dsimp only at hSw); go_simp; (try with_reducible rfl))
        simp only [Act.put, List.setIfInBounds_toArray, List.set_cons_zero, List.set_cons_succ]
        refine wpAnyH_take (i := 2) (oi := { dst := some 14, op := Op.load 9 (Operand.tmp 13), type := 9, pos := "scan.go:139", after := #[{ on := 1, ground := Ground.data }], guard := none }) (v := ?tv2) rfl (by kernel_rfl) (by kernel_rfl) (by kernel_rfl) (fun _ _ _ h => h) (Or.inl ⟨by rfl, ?ty2⟩) (by assumption) ?tr2
        case ty2 => (intro w hSw; (try dsimp only at hSw); go_simp; (try with_reducible rfl))
        simp only [Act.put, List.setIfInBounds_toArray, List.set_cons_zero, List.set_cons_succ]
        refine wpAnyH_take (i := 3) (oi := { dst := some 15, op := Op.call { callee := Callee.builtin Builtin.len, args := #[Operand.tmp 14], argTypes := #[9] }, type := 3, pos := "scan.go:139", after := #[{ on := 2, ground := Ground.data }], guard := none }) (v := ?tv3) rfl (by kernel_rfl) (by kernel_rfl) (by kernel_rfl) (fun _ _ _ h => h) (Or.inl ⟨by rfl, ?ty3⟩) (by assumption) ?tr3
        case ty3 => (intro w hSw; (try dsimp only at hSw); go_simp; (try with_reducible rfl))
        simp only [Act.put, List.setIfInBounds_toArray, List.set_cons_zero, List.set_cons_succ]
        refine wpAnyH_take (i := 4) (oi := { dst := some 16, op := Op.move (Operand.tmp 6), type := 3, pos := "scan.go:139", after := #[], guard := none }) (v := ?tv4) rfl (by kernel_rfl) (by kernel_rfl) (by kernel_rfl) (fun _ _ _ h => h) (Or.inl ⟨by rfl, ?ty4⟩) (by assumption) ?tr4
        case ty4 => (intro w hSw; (try dsimp only at hSw); go_simp; (try with_reducible rfl))
        simp only [Act.put, List.setIfInBounds_toArray, List.set_cons_zero, List.set_cons_succ]
        refine wpAnyH_take (i := 5) (oi := { dst := some 17, op := Op.indexAddr 45 (Operand.global 0) (Operand.tmp 16), type := 0, pos := "scan.go:139", after := #[{ on := 4, ground := Ground.data }], guard := none }) (v := ?tv5) rfl (by kernel_rfl) (by kernel_rfl) (by kernel_rfl) (fun _ _ _ h => h) (Or.inl ⟨by rfl, ?ty5⟩) (by assumption) ?tr5
        case ty5 => (intro w hSw; (try dsimp only at hSw); go_simp; (try with_reducible rfl))
        simp only [Act.put, List.setIfInBounds_toArray, List.set_cons_zero, List.set_cons_succ]
        refine wpAnyH_take (i := 6) (oi := { dst := some 18, op := Op.load 9 (Operand.tmp 17), type := 9, pos := "scan.go:139", after := #[{ on := 5, ground := Ground.data }], guard := none }) (v := ?tv6) rfl (by kernel_rfl) (by kernel_rfl) (by kernel_rfl) (fun _ _ _ h => h) (Or.inl ⟨by rfl, ?ty6⟩) (by assumption) ?tr6
        case ty6 => (intro w hSw; (try dsimp only at hSw); go_simp; (try with_reducible rfl))
        simp only [Act.put, List.setIfInBounds_toArray, List.set_cons_zero, List.set_cons_succ]
        refine wpAnyH_take (i := 7) (oi := { dst := some 19, op := Op.call { callee := Callee.builtin Builtin.len, args := #[Operand.tmp 18], argTypes := #[9] }, type := 3, pos := "scan.go:139", after := #[{ on := 6, ground := Ground.data }], guard := none }) (v := ?tv7) rfl (by kernel_rfl) (by kernel_rfl) (by kernel_rfl) (fun _ _ _ h => h) (Or.inl ⟨by rfl, ?ty7⟩) (by assumption) ?tr7
        case ty7 => (intro w hSw; (try dsimp only at hSw); go_simp; (try with_reducible rfl))
        simp only [Act.put, List.setIfInBounds_toArray, List.set_cons_zero, List.set_cons_succ]
        refine wpAnyH_take (i := 8) (oi := { dst := some 20, op := Op.binOp BinOp.gtr 3 (Operand.tmp 15) (Operand.tmp 19) 3, type := 4, pos := "scan.go:139", after := #[{ on := 3, ground := Ground.data }, { on := 7, ground := Ground.data }], guard := none }) (v := ?tv8) rfl (by kernel_rfl) (by kernel_rfl) (by kernel_rfl) (fun _ _ _ h => h) (Or.inl ⟨by rfl, ?ty8⟩) (by assumption) ?tr8
        case ty8 => (intro w hSw; (try dsimp only at hSw); go_simp; (try with_reducible rfl))
        simp only [Act.put, List.setIfInBounds_toArray, List.set_cons_zero, List.set_cons_succ]
        refine wpAnyH_take (i := 9) (oi := { dst := some 21, op := Op.move (Operand.tmp 20), type := 4, pos := "scan.go:139", after := #[{ on := 8, ground := Ground.data }], guard := none }) (v := ?tv9) rfl (by kernel_rfl) (by kernel_rfl) (by kernel_rfl) (fun _ _ _ h => h) (Or.inl ⟨by rfl, ?ty9⟩) (by assumption) ?tr9
        case ty9 => (intro w hSw; (try dsimp only at hSw); go_simp; (try with_reducible rfl))
        simp only [Act.put, List.setIfInBounds_toArray, List.set_cons_zero, List.set_cons_succ]
        refine wpAnyH_take (i := 10) (oi := { dst := some 22, op := Op.move (Operand.tmp 0), type := 22, pos := "scan.go:139", after := #[{ on := 9, ground := Ground.guard }], guard := some (9, true) }) (v := ?tv10) rfl (by kernel_rfl) (by kernel_rfl) (by kernel_rfl) (fun _ _ _ h => h) (Or.inl ⟨by rfl, ?ty10⟩) (by assumption) ?tr10
        case ty10 => (intro w hSw; (try dsimp only at hSw); go_simp; (try with_reducible rfl))
        simp only [Act.put, List.setIfInBounds_toArray, List.set_cons_zero, List.set_cons_succ]
        refine wpAnyH_take (i := 11) (oi := { dst := some 23, op := Op.move (Operand.tmp 1), type := 3, pos := "scan.go:139", after := #[{ on := 9, ground := Ground.guard }], guard := some (9, true) }) (v := ?tv11) rfl (by kernel_rfl) (by kernel_rfl) (by kernel_rfl) (fun _ _ _ h => h) (Or.inl ⟨by rfl, ?ty11⟩) (by assumption) ?tr11
        case ty11 => (intro w hSw; (try dsimp only at hSw); go_simp; (try with_reducible rfl))
        simp only [Act.put, List.setIfInBounds_toArray, List.set_cons_zero, List.set_cons_succ]
        refine wpAnyH_take (i := 12) (oi := { dst := some 24, op := Op.slice 22 (Operand.tmp 22) (some (Operand.tmp 23)) none none, type := 22, pos := "scan.go:139", after := #[{ on := 10, ground := Ground.data }, { on := 11, ground := Ground.data }, { on := 9, ground := Ground.guard }], guard := some (9, true) }) (v := ?tv12) rfl (by kernel_rfl) (by kernel_rfl) (by kernel_rfl) (fun _ _ _ h => h) (Or.inl ⟨by rfl, ?ty12⟩) (by assumption) ?tr12
        case ty12 => (intro w hSw; (try dsimp only at hSw); go_simp; (try with_reducible rfl))
        simp only [Act.put, List.setIfInBounds_toArray, List.set_cons_zero, List.set_cons_succ]
        refine wpAnyH_take (i := 13) (oi := { dst := some 25, op := Op.move (Operand.tmp 7), type := 3, pos := "scan.go:139", after := #[{ on := 9, ground := Ground.guard }], guard := some (9, true) }) (v := ?tv13) rfl (by kernel_rfl) (by kernel_rfl) (by kernel_rfl) (fun _ _ _ h => h) (Or.inl ⟨by rfl, ?ty13⟩) (by assumption) ?tr13
        case ty13 => (intro w hSw; (try dsimp only at hSw); go_simp; (try with_reducible rfl))
        simp only [Act.put, List.setIfInBounds_toArray, List.set_cons_zero, List.set_cons_succ]
        refine wpAnyH_take (i := 14) (oi := { dst := some 26, op := Op.indexAddr 45 (Operand.global 0) (Operand.tmp 25), type := 0, pos := "scan.go:139", after := #[{ on := 13, ground := Ground.data }, { on := 9, ground := Ground.guard }], guard := some (9, true) }) (v := ?tv14) rfl (by kernel_rfl) (by kernel_rfl) (by kernel_rfl) (fun _ _ _ h => h) (Or.inl ⟨by rfl, ?ty14⟩) (by assumption) ?tr14
        case ty14 => (intro w hSw; (try dsimp only at hSw); go_simp; (try with_reducible rfl))
        simp only [Act.put, List.setIfInBounds_toArray, List.set_cons_zero, List.set_cons_succ]
        refine wpAnyH_take (i := 15) (oi := { dst := some 27, op := Op.load 9 (Operand.tmp 26), type := 9, pos := "scan.go:139", after := #[{ on := 14, ground := Ground.data }, { on := 9, ground := Ground.guard }], guard := some (9, true) }) (v := ?tv15) rfl (by kernel_rfl) (by kernel_rfl) (by kernel_rfl) (fun _ _ _ h => h) (Or.inl ⟨by rfl, ?ty15⟩) (by assumption) ?tr15
        case ty15 => (intro w hSw; (try dsimp only at hSw); go_simp; (try with_reducible rfl))
        simp only [Act.put, List.setIfInBounds_toArray, List.set_cons_zero, List.set_cons_succ]
        refine wpAnyH_ready (rs := [16]) (by kernel_rfl) (by simp) ?_
        refine AllReadyH.cons (o := { dst := some 28, op := Op.convert 9 22 (Operand.tmp 27), type := 22, pos := "scan.go:139", after := #[{ on := 15, ground := Ground.data }, { on := 9, ground := Ground.guard }], guard := some (9, true) }) rfl (fun K hK => ?_) AllReadyH.nil
        go_simp
        refine hK.out _ _ ⟨m3, m4⟩ (fun hHeld2 => ?_)
        clear hK K hHeld
        refine wpAnyH_ready (rs := [17]) (by kernel_rfl) (by simp) ?_
        refine AllReadyH.cons (o := { dst := some 29, op := Op.call { callee := Callee.value (Operand.func 13), args := #[Operand.tmp 24, Operand.tmp 28], argTypes := #[22, 22] }, type := 4, pos := "scan.go:139", after := #[{ on := 12, ground := Ground.data }, { on := 16, ground := Ground.data }, { on := 9, ground := Ground.chain }, { on := 9, ground := Ground.guard }], guard := some (9, true) }) rfl (fun K hK => ?_) AllReadyH.nil
        go_simp
        refine (KP.out _ _ (by omega)).mono ?_
        rintro e w3 ⟨rfl, h3⟩
        have h4 := h3.symm
        subst h4
        go_wp2_with fail
        refine hK.out _ _ ⟨m3, m4⟩ (fun hHeld3 => ?_)
        clear hK K hHeld2
        refine wpAnyH_take (i := 18) (oi := { dst := some 30, op := Op.pick (Operand.tmp 21) (Operand.tmp 29) (Operand.const (Value.bool false)), type := 4, pos := "scan.go:139", after := #[{ on := 9, ground := Ground.data }, { on := 17, ground := Ground.data }], guard := none }) (v := ?tv18) rfl (by kernel_rfl) (by kernel_rfl) (by kernel_rfl) (fun _ _ _ h => h) (Or.inl ⟨by rfl, ?ty18⟩) (by assumption) ?tr18
        case ty18 => (intro w hSw; (try dsimp only at hSw); go_simp; (try with_reducible rfl))
        simp only [Act.put, List.setIfInBounds_toArray, List.set_cons_zero, List.set_cons_succ]
        refine wpAnyH_done (by kernel_rfl) ?_ _
        clear m1 m2 m3 m4 cj cb q1 KP hkb
        cases B with
        | true =>
          go_wp2
          go_roundg gq
          case measure => omega
          case rel => exact ⟨j + 1, j, by omega, by omega, hj, by first | rfl | simp, rfl, HP.out, HB3.out⟩
        | false =>
          go_wp2
          go_roundg gq
          case measure => omega
          case rel => exact ⟨j + 1, best, by omega, by omega, hbs, by first | rfl | simp, rfl, HP.out, HB3.out⟩
      · have q1 : ¬ ((bs (sp best)).size : Int) < (bs (sp j)).size := by omega
        have HP : Hid (mk (l.drop p) = mkF (l.drop p) gq (j + 1) best) := by
          show mk (l.drop p) = _
          rw [HQ.out, mkF, if_neg (fun h => hlt h.1)]
        generalize bs (sp j) = X at cj q1
        generalize bs (sp best) = Y at cb q1
        have j0 : (0 : Int) ≤ (j : Int) := by omega
        have b0 : (0 : Int) ≤ (best : Int) := by omega
        have q2 : decide (Y.size < X.size) = false := decide_eq_false (by omega)
        have q3 : decide ((Y.size : Int) < (X.size : Int)) = false := decide_eq_false q1
        clear kb HQ HV2 HV HL HC e1 e2 hlt
        go_wp2
        go_quiet (fail)
        clear cj cb q1 q2 q3
        go_wp2
        go_roundg gq
        case measure => omega
        case rel => exact ⟨j + 1, best, by omega, by omega, hbs, by first | rfl | simp, rfl, HP.out, below_drewN HW.out _⟩
end Go.Proofs.YteohpiamfpnofabDoor
