/- The waits, made of the lists; conditions: the lists in memory, not too many. -/
import Derived.Test.YtblpafmcnhhdpaaHi
import Derived.Deep.Cut
import Derived.Deep.CutRange
namespace Go.Proofs.Ytblpafmcnhhdpaa
open Go.RowKit

def za (n : Nat) : Array Value := ((List.range n).map fun _ => Value.int .i64 0).toArray
def zb (n : Nat) : Array Value := ((List.range n).map fun _ => Value.slice none 0 0).toArray
theorem made_za (n : Nat) : madeCells #[Value.int .i64 0] (n * 1) = za n := by
  unfold za
  apply Array.ext_getElem?
  intro j
  rw [Nat.mul_one]
  by_cases hj : j < n
  · simp [madeCells, hj, Nat.mod_one]
  · simp [madeCells, hj]
theorem made_zb (n : Nat) : madeCells #[Value.slice none 0 0] (n * 1) = zb n := by
  unfold zb
  apply Array.ext_getElem?
  intro j
  rw [Nat.mul_one]
  by_cases hj : j < n
  · simp [madeCells, hj, Nat.mod_one]
  · simp [madeCells, hj]
theorem infoSl : (Try.prog.info? 25).map (fun i => (i.zero, i.size, i.bytes)) = some (some (.slice none 0 0), 1, 24) := by kernel_rfl
theorem infoSl_parts : ∃ i0, Try.prog.info? 25 = some i0 ∧ i0.zero = some (.slice none 0 0) ∧ i0.size = 1 ∧ i0.bytes = 24 := by
  have h := infoSl
  cases hi : Try.prog.info? 25 with
  | none => rw [hi] at h; simp at h
  | some i0 =>
    rw [hi] at h
    simp only [Option.map_some, Option.some.injEq, Prod.mk.injEq] at h
    exact ⟨i0, rfl, h.1, h.2.1, h.2.2⟩
theorem mk_a (n : Nat) (hn : n ≤ 400) (w : World) : (Instr.makeSlice 25 (.int .i64 (n : Int)) (.int .i64 (n : Int))).run Try.prog w = .ok (.slice (some ⟨w.heap.size, 0, none⟩) n n) (w.alloc (.cells (za n) 3)) := by
  obtain ⟨i0, hi0, hz0, hz1, hz2⟩ := infoInt_parts
  have h := run_make (P := Try.prog) w 25 3 i0 _ Try.underlying25 hi0 hz0 .i64 .i64 (n : Int) (n : Int) (by omega) (by omega) (by rw [hz2]; omega) (by omega)
  rw [hz1] at h
  have e : (Value.int .i64 0).cells = #[Value.int .i64 0] := rfl
  rw [e, Int.toNat_natCast, made_za] at h
  exact h
theorem mk_b (n : Nat) (hn : n ≤ 400) (w : World) : (Instr.makeSlice 22 (.int .i64 (n : Int)) (.int .i64 (n : Int))).run Try.prog w = .ok (.slice (some ⟨w.heap.size, 0, none⟩) n n) (w.alloc (.cells (zb n) 25)) := by
  obtain ⟨i0, hi0, hz0, hz1, hz2⟩ := infoSl_parts
  have h := run_make (P := Try.prog) w 22 25 i0 _ Try.underlying22 hi0 hz0 .i64 .i64 (n : Int) (n : Int) (by omega) (by omega) (by rw [hz2]; omega) (by omega)
  rw [hz1] at h
  have e : (Value.slice none 0 0).cells = #[Value.slice none 0 0] := rfl
  rw [e, Int.toNat_natCast, made_zb] at h
  exact h
/-- All is made, nothing is counted. -/
theorem Wo.start (n : Nat) {w v1 : World} (hb : Below w.heap.size w v1) : ∀ (ab : Bool), ∃ ga gb, 
    (if ab then ga = v1.heap.size ∧ gb = v1.heap.size + 1 else gb = v1.heap.size ∧ ga = v1.heap.size + 1) ∧ Wk w (v1.heap.size + 3) (v1.heap.size + 2) ga gb ∧
    Wo n w (v1.heap.size + 3) (v1.heap.size + 2) ga gb (fun _ => 0) (fun _ => []) (fun _ => .slice none 0 0)
     (((v1.alloc (if ab then .cells (za n) 3 else .cells (zb n) 25)).alloc (if ab then .cells (zb n) 25 else .cells (za n) 3)).alloc (.cells #[sn ga n, sn gb n, .slice none 0 0] 43)) := by
  intro ab
  have hs := hb.size
  have key : ∀ (o1 o2 o3 : Obj), Below w.heap.size w (((v1.alloc o1).alloc o2).alloc o3) := fun o1 o2 o3 => ((hb.alloc hb.size o1).alloc (by simp; omega) o2).alloc (by simp; omega) o3
  cases ab with
  | true =>
    refine ⟨v1.heap.size, v1.heap.size + 1, ⟨rfl, rfl⟩, ⟨by omega, by omega, by omega, by omega, by omega, by omega, by omega, by omega, by omega⟩, ⟨key _ _ _, ?_, ?_, ?_, fun k _ => World.ownsRow_nil _ _ _ _, fun k k' g _ _ _ h => by simp [Value.ownBlock] at h, by simp⟩⟩
    · have := Bk.new ((v1.alloc (.cells (za n) 3)).alloc (.cells (zb n) 25)) #[sn v1.heap.size n, sn (v1.heap.size + 1) n, .slice none 0 0] 43
      simpa using this
    · exact (((Bk.new v1 (za n) 3).below (below1 _ _)).below (below1 _ _) : Bk _ _ _ _)
    · have := (Bk.new (v1.alloc (.cells (za n) 3)) (zb n) 25).below (below1 _ (.cells #[sn v1.heap.size n, sn (v1.heap.size + 1) n, .slice none 0 0] 43))
      simpa [zb] using this
  | false =>
    refine ⟨v1.heap.size + 1, v1.heap.size, ⟨rfl, rfl⟩, ⟨by omega, by omega, by omega, by omega, by omega, by omega, by omega, by omega, by omega⟩, ⟨key _ _ _, ?_, ?_, ?_, fun k _ => World.ownsRow_nil _ _ _ _, fun k k' g _ _ _ h => by simp [Value.ownBlock] at h, by simp⟩⟩
    · have := Bk.new ((v1.alloc (.cells (zb n) 25)).alloc (.cells (za n) 3)) #[sn (v1.heap.size + 1) n, sn v1.heap.size n, .slice none 0 0] 43
      simpa using this
    · have := (Bk.new (v1.alloc (.cells (zb n) 25)) (za n) 3).below (below1 _ (.cells #[sn (v1.heap.size + 1) n, sn v1.heap.size n, .slice none 0 0] 43))
      simpa [Bn, za] using this
    · exact (((Bk.new v1 (zb n) 25).below (below1 _ _)).below (below1 _ _) : Bk _ _ _ _)

set_option maxRecDepth 100000 in
set_option maxHeartbeats 4000000 in
theorem waitsOf_any (A : List (List Int)) (ad : Option Addr) (cap : Nat) (w : World) (h : Rj w ad A) (hA : A.length ≤ 400) (hG : ∀ i, (gl A i).length ≤ 400) :
    Calls Try.prog 12 #[.slice ad A.length cap] w fun e w' => ∃ w1 X Wb ga gb sv, e = .returned (.pointer (some ⟨Wb, 0, none⟩)) ∧ Wc A w1 w.heap.size X Wb ga gb ∧ Wt A w1 w.heap.size X Wb Wb ga gb (fz A A.length) (cn A (mf [])) sv w' ∧ Below w.heap.size w w' := by
  obtain ⟨i0, hi0, hz0, hz1, hz2⟩ := infoInt_parts
  have m1 := mk_a A.length hA
  have m2 := mk_b A.length hA
  have HJ := Lib.hid h
  have HG := Lib.hid hG
  clear h hG
  go_enter Try.func12, Try.ntmps12
  go_wp2_with fail
  go_cut [3] from 10 to 17 (fun s3 wc => ∃ X Wb ga gb, s3 = .pointer (some ⟨Wb, 0, none⟩) ∧ Wk w X Wb ga gb ∧ Wo A.length w X Wb ga gb (fun _ => 0) (fun _ => []) (fun _ => .slice none 0 0) wc)
  case first =>
    refine wp_region_held_drew (S := fun _ => True) (by kernel_rfl) trivial (fun hHeld => ?_)
    have b0 : Below w.heap.size w w.drew := (Below.refl _ _).drew
    generalize w.drew = v1 at *
    have ST := Lib.hid (Wo.start A.length b0)
    refine wpAnyH_take (i := 0) (oi := { dst := some 10, op := Op.move (Operand.tmp 0), type := 22, pos := _, after := #[], guard := none }) (v := ?tm1) rfl (by kernel_rfl) (by kernel_rfl) (by kernel_rfl) (fun _ _ _ h => h) (Or.inl ⟨by rfl, ?um1⟩) (by assumption) ?rm1
    case um1 => (intro w hSw; (try dsimp only at hSw); go_simp; (try with_reducible rfl))
    simp only [Act.put, List.setIfInBounds_toArray, List.set_cons_zero, List.set_cons_succ]
    refine wpAnyH_take (i := 1) (oi := { dst := some 11, op := Op.call { callee := Callee.builtin Builtin.len, args := #[Operand.tmp 10], argTypes := #[22] }, type := 3, pos := _, after := #[{ on := 0, ground := Ground.data }], guard := none }) (v := ?tm2) rfl (by kernel_rfl) (by kernel_rfl) (by kernel_rfl) (fun _ _ _ h => h) (Or.inl ⟨by rfl, ?um2⟩) (by assumption) ?rm2
    case um2 => (intro w hSw; (try dsimp only at hSw); go_simp; (try with_reducible rfl))
    simp only [Act.put, List.setIfInBounds_toArray, List.set_cons_zero, List.set_cons_succ]
    refine wpAnyH_take (i := 3) (oi := { dst := some 13, op := Op.move (Operand.tmp 0), type := 22, pos := _, after := #[], guard := none }) (v := ?tm3) rfl (by kernel_rfl) (by kernel_rfl) (by kernel_rfl) (fun _ _ _ h => h) (Or.inl ⟨by rfl, ?um3⟩) (by assumption) ?rm3
    case um3 => (intro w hSw; (try dsimp only at hSw); go_simp; (try with_reducible rfl))
    simp only [Act.put, List.setIfInBounds_toArray, List.set_cons_zero, List.set_cons_succ]
    refine wpAnyH_take (i := 4) (oi := { dst := some 14, op := Op.call { callee := Callee.builtin Builtin.len, args := #[Operand.tmp 13], argTypes := #[22] }, type := 3, pos := _, after := #[{ on := 3, ground := Ground.data }], guard := none }) (v := ?tm4) rfl (by kernel_rfl) (by kernel_rfl) (by kernel_rfl) (fun _ _ _ h => h) (Or.inl ⟨by rfl, ?um4⟩) (by assumption) ?rm4
    case um4 => (intro w hSw; (try dsimp only at hSw); go_simp; (try with_reducible rfl))
    simp only [Act.put, List.setIfInBounds_toArray, List.set_cons_zero, List.set_cons_succ]
    refine wpAnyH_ready (rs := [2, 5]) (by kernel_rfl) (by simp) ?_
    refine AllReadyH.cons (o := { dst := some 12, op := Op.makeSlice 25 (Operand.tmp 11) (Operand.tmp 11), type := 25, pos := _, after := #[{ on := 1, ground := Ground.data }, { on := 1, ground := Ground.data }], guard := none }) rfl (fun K hK => ?_) (AllReadyH.cons (o := { dst := some 15, op := Op.makeSlice 22 (Operand.tmp 14) (Operand.tmp 14), type := 22, pos := _, after := #[{ on := 4, ground := Ground.data }, { on := 4, ground := Ground.data }], guard := none }) rfl (fun K hK => ?_) AllReadyH.nil)
    · go_simp
      refine hK.out _ _ trivial (fun hH1 => ?_)
      clear hK K
      (try simp only [Act.put, List.setIfInBounds_toArray, List.set_cons_zero, List.set_cons_succ])
      refine wpAnyH_ready (rs := [5]) (by kernel_rfl) (by simp) ?_
      refine AllReadyH.cons (o := { dst := some 15, op := Op.makeSlice 22 (Operand.tmp 14) (Operand.tmp 14), type := 22, pos := _, after := #[{ on := 4, ground := Ground.data }, { on := 4, ground := Ground.data }], guard := none }) rfl (fun K hK => ?_) AllReadyH.nil
      go_simp
      refine hK.out _ _ trivial (fun hH2 => ?_)
      clear hK K
      (try simp only [Act.put, List.setIfInBounds_toArray, List.set_cons_zero, List.set_cons_succ])
      refine wpAnyH_take (i := 6) (oi := { dst := some 16, op := Op.build 43 #[(0, Operand.tmp 12), (1, Operand.tmp 15)], type := 43, pos := _, after := #[{ on := 2, ground := Ground.data }, { on := 5, ground := Ground.data }], guard := none }) (v := ?tm5) rfl (by kernel_rfl) (by kernel_rfl) (by kernel_rfl) (fun _ _ _ h => h) (Or.inl ⟨by rfl, ?um5⟩) (by assumption) ?rm5
      case um5 => (intro w hSw; (try dsimp only at hSw); go_simp; (try with_reducible rfl))
      simp only [Act.put, List.setIfInBounds_toArray, List.set_cons_zero, List.set_cons_succ]
      refine wpAnyH_ready (rs := [7]) (by kernel_rfl) (by simp) ?_
      refine AllReadyH.cons (o := { dst := some 17, op := Op.box 43 (Operand.tmp 16), type := 33, pos := _, after := #[{ on := 6, ground := Ground.data }], guard := none }) rfl (fun K hK => ?_) AllReadyH.nil
      go_simp
      refine hK.out _ _ trivial (fun hH3 => ?_)
      clear hK K
      (try simp only [Act.put, List.setIfInBounds_toArray, List.set_cons_zero, List.set_cons_succ])
      refine wpAnyH_take (i := 8) (oi := { dst := some 3, op := Op.assign (Operand.tmp 17), type := 33, pos := _, after := #[{ on := 7, ground := Ground.data }, { on := 0, ground := Ground.phase }, { on := 1, ground := Ground.phase }, { on := 2, ground := Ground.phase }, { on := 3, ground := Ground.phase }, { on := 4, ground := Ground.phase }, { on := 5, ground := Ground.phase }, { on := 6, ground := Ground.phase }, { on := 7, ground := Ground.phase }], guard := none }) (v := ?tm6) rfl (by kernel_rfl) (by kernel_rfl) (by kernel_rfl) (fun _ _ _ h => h) (Or.inl ⟨by rfl, ?um6⟩) (by assumption) ?rm6
      case um6 => (intro w hSw; (try dsimp only at hSw); go_simp; (try with_reducible rfl))
      simp only [Act.put, List.setIfInBounds_toArray, List.set_cons_zero, List.set_cons_succ]
      refine wpAnyH_done (by kernel_rfl) ?_ _
      obtain ⟨ga, gb, hab, hk, hO⟩ := ST.out true
      simp only [if_true] at hab hO
      obtain ⟨rfl, rfl⟩ := hab
      go_wp2_with fail
      go_meet
      case rel => exact ⟨_, _, _, _, by simp, hk, by simpa using hO⟩
    · go_simp
      refine hK.out _ _ trivial (fun hH4 => ?_)
      clear hK K
      (try simp only [Act.put, List.setIfInBounds_toArray, List.set_cons_zero, List.set_cons_succ])
      refine wpAnyH_ready (rs := [2]) (by kernel_rfl) (by simp) ?_
      refine AllReadyH.cons (o := { dst := some 12, op := Op.makeSlice 25 (Operand.tmp 11) (Operand.tmp 11), type := 25, pos := _, after := #[{ on := 1, ground := Ground.data }, { on := 1, ground := Ground.data }], guard := none }) rfl (fun K hK => ?_) AllReadyH.nil
      go_simp
      refine hK.out _ _ trivial (fun hH5 => ?_)
      clear hK K
      (try simp only [Act.put, List.setIfInBounds_toArray, List.set_cons_zero, List.set_cons_succ])
      refine wpAnyH_take (i := 6) (oi := { dst := some 16, op := Op.build 43 #[(0, Operand.tmp 12), (1, Operand.tmp 15)], type := 43, pos := _, after := #[{ on := 2, ground := Ground.data }, { on := 5, ground := Ground.data }], guard := none }) (v := ?tm7) rfl (by kernel_rfl) (by kernel_rfl) (by kernel_rfl) (fun _ _ _ h => h) (Or.inl ⟨by rfl, ?um7⟩) (by assumption) ?rm7
      case um7 => (intro w hSw; (try dsimp only at hSw); go_simp; (try with_reducible rfl))
      simp only [Act.put, List.setIfInBounds_toArray, List.set_cons_zero, List.set_cons_succ]
      refine wpAnyH_ready (rs := [7]) (by kernel_rfl) (by simp) ?_
      refine AllReadyH.cons (o := { dst := some 17, op := Op.box 43 (Operand.tmp 16), type := 33, pos := _, after := #[{ on := 6, ground := Ground.data }], guard := none }) rfl (fun K hK => ?_) AllReadyH.nil
      go_simp
      refine hK.out _ _ trivial (fun hH6 => ?_)
      clear hK K
      (try simp only [Act.put, List.setIfInBounds_toArray, List.set_cons_zero, List.set_cons_succ])
      refine wpAnyH_take (i := 8) (oi := { dst := some 3, op := Op.assign (Operand.tmp 17), type := 33, pos := _, after := #[{ on := 7, ground := Ground.data }, { on := 0, ground := Ground.phase }, { on := 1, ground := Ground.phase }, { on := 2, ground := Ground.phase }, { on := 3, ground := Ground.phase }, { on := 4, ground := Ground.phase }, { on := 5, ground := Ground.phase }, { on := 6, ground := Ground.phase }, { on := 7, ground := Ground.phase }], guard := none }) (v := ?tm8) rfl (by kernel_rfl) (by kernel_rfl) (by kernel_rfl) (fun _ _ _ h => h) (Or.inl ⟨by rfl, ?um8⟩) (by assumption) ?rm8
      case um8 => (intro w hSw; (try dsimp only at hSw); go_simp; (try with_reducible rfl))
      simp only [Act.put, List.setIfInBounds_toArray, List.set_cons_zero, List.set_cons_succ]
      refine wpAnyH_done (by kernel_rfl) ?_ _
      obtain ⟨ga, gb, hab, hk, hO⟩ := ST.out false
      simp only [Bool.false_eq_true, if_false] at hab hO
      obtain ⟨rfl, rfl⟩ := hab
      go_wp2_with fail
      go_meet
      case rel => exact ⟨_, _, _, _, by simp, hk, by simpa using hO⟩
  case rest =>
    obtain ⟨X, Wb, ga, gb, rfl, hk, hO⟩ := hcut
    have HK := Lib.hid hk
    have HO := Lib.hid hO
    clear hk hO m1 m2
    have S0 := Lib.hid (HO.out.like (ah' := ap A 0 0) (R' := bp A 0 0) (fun x _ => by simp [ap]) (fun x _ => by simp [bp, bf, Go.Proofs.Ytblpafmcnhhdpaa.wc]))
    have hK1 := Lib.hid HK.out.d1
    go_wp2_with fail
    go_loopg [4, 5, 7, 20, 27] A.length (fun g s4 s5 s7 s20 s27 wx => ∃ (j : Nat) (vf : Nat → Value), j + g = A.length ∧ s20 = .int .i64 j ∧ Wo A.length w X Wb ga gb (ap A j 0) (bp A j 0) vf wx)
    case atStart => exact ⟨0, _, by omega, rfl, S0.out⟩
    case round =>
      obtain ⟨i, vf, hig, rfl, hO⟩ := hrel
      clear S0 HO
      have HO := Lib.hid hO
      cases gk with
      | zero =>
        obtain rfl : i = A.length := by omega
        have O2 : Wo A.length w X Wb ga gb (cn A (mf [])) (bf A A.length) vf wr := hO.like (fun x hx => ap_end A hx) (fun x _ => bp_zero A _ x)
        have HC := Lib.hid (O2.done HK.out)
        have H2 := Lib.hid O2
        have hw1 : w.heap.size ≤ wr.heap.size := O2.b.size
        have Z0 := Lib.hid (show Wz A wr Wb ga gb 0 (.slice none 0 0) wr from ⟨⟨O2.bk, World.ownsRow_nil _ _ _ _, HC.out.lw, by simp [Value.ownBlock], HC.out.lw⟩, Fx.refl _ _ _ _⟩)
        have c0 := O2.bk.c 0
        simp only [List.getElem?_toArray, List.getElem?_cons_zero] at c0
        clear hO HO O2 hig
        go_wp2_with fail
        generalize hw0 : wr = w1 at *
        clear hw0
        go_loopg [8, 9, 76] A.length (fun g s8 s9 s76 wx => ∃ (j : Nat) (sv : Value), j + g = A.length ∧ s76 = .int .i64 j ∧ Wz A w1 Wb ga gb j sv wx)
        case atStart => exact ⟨0, _, by omega, rfl, Z0.out⟩
        case round =>
          clear c0 Z0
          obtain ⟨j, sv, hjg, rfl, hZ⟩ := hrel
          have HZ := Lib.hid hZ
          have hsz := hZ.f.size
          cases gk with
          | zero =>
            obtain rfl : j = A.length := by omega
            clear hZ
            go_wp2
            go_ret
            refine ⟨w1, w1.heap.size, Wb, ga, gb, sv, rfl, HC.out, ⟨HZ.out.h, (HZ.out.f.block ga (.inl HC.out.la) HC.out.d1).trans H2.out.a, (Gx.refl _ _ _ _ _).fx HZ.out.f⟩, ⟨HZ.out.f.os.trans H2.out.b.os, HZ.out.f.tape.trans H2.out.b.tape, HZ.out.f.output.trans H2.out.b.output, Nat.le_trans H2.out.b.size HZ.out.f.size, fun k hk => (HZ.out.f.block k (.inl (by omega)) (by have := HK.out.mw; omega)).trans (H2.out.b.block k hk)⟩⟩
          | succ g =>
            have hj : j < A.length := by omega
            have hj' : (j : Int) < (A.length : Int) := by omega
            have b5 : Bn wr ga A.length fun x => (cn A (mf []) x : Int) := (hZ.f.block ga (.inl HC.out.la) HC.out.d1).trans H2.out.a
            have cj := b5.c j hj
            have e1 := fz_next A j
            have hlen : (fz A j).length ≤ j := by
              have := List.length_filter_le (fun x => decide (cn A (mf []) x = 0)) (List.range j)
              simpa [fz] using this
            have c2 := hZ.h.c
            obtain ⟨sa, sc, rfl⟩ := row_form hZ.h.row
            have hB := Lib.hid hZ.h.bk
            have hown := hZ.h.row
            unfold Nr at hown
            have HW := Lib.hid hown
            clear b5 hZ hown
            by_cases h0 : cn A (mf []) j = 0
            · rw [if_pos h0] at e1
              rw [h0] at cj
              have cj0 : wr.cell? ⟨ga, j, none⟩ = some (.int .i64 0) := cj
              have HE := Lib.hid e1
              clear e1 h0 cj
              go_wp2_with (at_builtin; refine wpList_append_lies _ rfl _ _ 39 rfl w1.heap.size 3 i0 _ 1 8 Try.underlying39 hi0 hz0 hz1 hz2 rfl (by decide) _ _ _ rfl (HW.out.alloc _) ⟨wr.heap.size, 0, none⟩ 1 1 [.int .i64 (j : Int)] rfl rfl (cell_one_new _ _ _) (by intro u hu; simp at hu; subst hu; rfl) (by decide) (by unfold maxLen; omega) (by omega) (by simp; omega) _ rfl ?_; intro gg cc w7 hown7 hgrow7 hat7 hlt7; obtain ⟨N1, N2, N3⟩ := HZ.out.h.grown hsz rfl hown7 hgrow7 hat7; have N1h := Lib.hid N1; have N2h := Lib.hid N2; have q2 := N3.c 2; have q3 := N3.f 2; simp only [List.getElem?_toArray, List.getElem?_cons_succ, List.getElem?_cons_zero] at q2; clear N1 N2 N3 hown7 hgrow7 hat7 hlt7)
              go_roundg g
              case measure => omega
              case rel => exact ⟨j + 1, _, by omega, by simp, ⟨by rw [HE.out]; exact N1h.out, HZ.out.f.trans N2h.out⟩⟩
            · rw [if_neg h0] at e1
              have h0' : ¬ (cn A (mf []) j : Int) = 0 := by omega
              have HE := Lib.hid e1
              clear e1 h0
              go_wp2
              go_roundg g
              case measure => omega
              case rel => exact ⟨j + 1, _, by omega, by simp, ⟨by rw [HE.out]; exact HZ.out.h, HZ.out.f⟩⟩
      | succ g =>
        have hi : i < A.length := by omega
        have hi' : (i : Int) < (A.length : Int) := by omega
        obtain ⟨l, hl⟩ : ∃ l, A[i]? = some l := ⟨_, List.getElem?_eq_getElem hi⟩
        have hgl : gl A i = l := by unfold gl; rw [hl]; rfl
        obtain ⟨ab, ao, lv0, rfl, cl0, hrl⟩ := HJ.out.at i l hl
        have cl := (hO.b.cell (p := ⟨ab, _, none⟩) (World.block_lt_of_cell? w _ cl0)).trans cl0
        have HRI := Lib.hid hrl
        obtain ⟨la, lc, rfl, -⟩ := hrl
        have hll := HG.out i
        rw [hgl] at hll
        have HGL := Lib.hid hgl
        clear hgl hl hO cl0
        go_wp2_with fail
        generalize hLn : l.length = N at *
        have HLN := Lib.hid hLn
        clear hLn cl
        go_loopg [7, 27] N (fun g s7 s27 wx => ∃ (q : Nat) (vf : Nat → Value), q + g = N ∧ s27 = .int .i64 q ∧ Wo A.length w X Wb ga gb (ap A i q) (bp A i q) vf wx ∧ Below w.heap.size w wx)
        case atStart => exact ⟨0, vf, by omega, rfl, HO.out, HO.out.b⟩
        case round =>
          clear HO
          obtain ⟨q, vf', hqg, rfl, hO, hb⟩ := hrel
          have HO := Lib.hid hO
          cases gk with
          | zero =>
            obtain rfl : q = N := by omega
            clear hO
            go_wp2_with fail
            go_roundg g
            case measure => omega
            case rel =>
              refine ⟨i + 1, vf', by omega, by simp, HO.out.like (fun x _ => ?_) (fun x _ => ?_)⟩
              · rw [← ap_full, HGL.out, HLN.out]
              · rw [bp_zero, ← bp_full, HGL.out, HLN.out]
          | succ g2 =>
            have hq' : (q : Int) < (N : Int) := by omega
            have hql : q < l.length := by have := HLN.out; omega
            obtain ⟨z, hz⟩ : ∃ z, l[q]? = some z := ⟨_, List.getElem?_eq_getElem hql⟩
            obtain ⟨zg, zo, zc, ez, cz⟩ := (HRI.out.below hb).at (by omega)
            simp only [Value.slice.injEq] at ez
            obtain ⟨rfl, -, rfl⟩ := ez
            have cq := cz q z hz
            have hzg : (gl A i)[q]? = some z := by rw [HGL.out]; exact hz
            have HAN := Lib.hid (ap_next hzg)
            have HBN := Lib.hid (bp_next hzg)
            clear cz hz hzg hql
            by_cases hv : vd A.length i z = true
            · have hv' := hv
              unfold vd at hv'
              simp only [Bool.and_eq_true, decide_eq_true_eq] at hv'
              obtain ⟨⟨v1, v2⟩, v3⟩ := hv'
              obtain ⟨k, rfl⟩ : ∃ k : Nat, z = (k : Int) := ⟨z.toNat, by omega⟩
              have hk : k < A.length := by omega
              have e3 : ¬ (k : Int) = (i : Int) := v3
              have e4 : ¬ (k : Int) < 0 := by omega
              have e5 : ¬ (A.length : Int) ≤ (k : Int) := by omega
              have c0 := hO.bk.c 0
              simp only [List.getElem?_toArray, List.getElem?_cons_zero] at c0
              have ca := hO.a.c i hi
              have cf := Bk.f hO.a i
              have T5 := hO.inc HK.out i (ah' := ap A i (q + 1)) (fun x hx => by rw [HAN.out x, if_neg (fun e => hx e.1)])
              have ev : ap A i (q + 1) i = ap A i q i + 1 := by rw [HAN.out i, if_pos ⟨rfl, hv⟩]
              rw [ev] at T5
              have hab := ap_len HG.out i q i
              have eci : ((ap A i q i + 1 : Nat) : Int) = (ap A i q i : Int) + 1 := by omega
              rw [eci] at T5
              obtain ⟨w5, hw5⟩ : ∃ w5, w5 = wr.setCell ⟨ga, i, none⟩ (.int .i64 ((ap A i q i : Int) + 1)) := ⟨_, rfl⟩
              have HW5 := Lib.hid hw5.symm
              rw [← hw5] at T5
              have H6 := Lib.hid (T5.below (wy := w5.drew) ((Below.refl _ _).drew))
              have hR : (bp A i q k).length ≤ 1000000 := by have := bp_len HG.out i q k; have : i * 400 ≤ 400 * 400 := Nat.mul_le_mul_right _ (by omega); omega
              clear hO T5 hw5 v1 v2 v3 ev eci
              go_wp2_with (rw [HW5.out])
              have SS : Hid (∀ wx, Bk wx Wb #[sn ga A.length, sn gb A.length, .slice none 0 0] 43 → wx.cell? ⟨Wb, 1, none⟩ = some (sn gb A.length)) := fun wx h => h.c 1
              refine wp_region_held_drew (S := fun wx => wx.cell? ⟨Wb, 1, none⟩ = some (sn gb A.length)) (by kernel_rfl) (SS.out _ H6.out.bk) (fun hHeld => ?_)
              generalize w5.drew = v4 at *
              refine wpAnyH_take (i := 0) (oi := { dst := some 53, op := Op.move (Operand.tmp 3), type := 33, pos := _, after := #[], guard := none }) (v := ?tr1) rfl (by kernel_rfl) (by kernel_rfl) (by kernel_rfl) (fun _ _ _ h => h) (Or.inl ⟨by rfl, ?ur1⟩) (by assumption) ?rr1
              case ur1 => (intro w hSw; (try dsimp only at hSw); go_simp; (try with_reducible rfl))
              simp only [Act.put, List.setIfInBounds_toArray, List.set_cons_zero, List.set_cons_succ]
              refine wpAnyH_take (i := 1) (oi := { dst := some 54, op := Op.nilCheck (Operand.tmp 53), type := 0, pos := _, after := #[{ on := 0, ground := Ground.data }], guard := none }) (v := ?tr2) rfl (by kernel_rfl) (by kernel_rfl) (by kernel_rfl) (fun _ _ _ h => h) (Or.inl ⟨by rfl, ?ur2⟩) (by assumption) ?rr2
              case ur2 => (intro w hSw; (try dsimp only at hSw); go_simp; (try with_reducible rfl))
              simp only [Act.put, List.setIfInBounds_toArray, List.set_cons_zero, List.set_cons_succ]
              refine wpAnyH_take (i := 2) (oi := { dst := some 55, op := Op.fieldAddr 43 (Operand.tmp 54) 1, type := 0, pos := _, after := #[{ on := 1, ground := Ground.data }], guard := none }) (v := ?tr3) rfl (by kernel_rfl) (by kernel_rfl) (by kernel_rfl) (fun _ _ _ h => h) (Or.inl ⟨by rfl, ?ur3⟩) (by assumption) ?rr3
              case ur3 => (intro w hSw; (try dsimp only at hSw); go_simp; (try with_reducible rfl))
              simp only [Act.put, List.setIfInBounds_toArray, List.set_cons_zero, List.set_cons_succ]
              refine wpAnyH_take (i := 3) (oi := { dst := some 56, op := Op.load 22 (Operand.tmp 55), type := 22, pos := _, after := #[{ on := 2, ground := Ground.data }], guard := none }) (v := ?tr4) rfl (by kernel_rfl) (by kernel_rfl) (by kernel_rfl) (fun _ _ _ h => h) (Or.inl ⟨by rfl, ?ur4⟩) (by assumption) ?rr4
              case ur4 => (intro w hSw; (try dsimp only at hSw); go_simp; (try with_reducible rfl))
              simp only [Act.put, List.setIfInBounds_toArray, List.set_cons_zero, List.set_cons_succ]
              refine wpAnyH_take (i := 4) (oi := { dst := some 57, op := Op.move (Operand.tmp 7), type := 3, pos := _, after := #[], guard := none }) (v := ?tr5) rfl (by kernel_rfl) (by kernel_rfl) (by kernel_rfl) (fun _ _ _ h => h) (Or.inl ⟨by rfl, ?ur5⟩) (by assumption) ?rr5
              case ur5 => (intro w hSw; (try dsimp only at hSw); go_simp; (try with_reducible rfl))
              simp only [Act.put, List.setIfInBounds_toArray, List.set_cons_zero, List.set_cons_succ]
              refine wpAnyH_take (i := 5) (oi := { dst := some 58, op := Op.move (Operand.tmp 3), type := 33, pos := _, after := #[], guard := none }) (v := ?tr6) rfl (by kernel_rfl) (by kernel_rfl) (by kernel_rfl) (fun _ _ _ h => h) (Or.inl ⟨by rfl, ?ur6⟩) (by assumption) ?rr6
              case ur6 => (intro w hSw; (try dsimp only at hSw); go_simp; (try with_reducible rfl))
              simp only [Act.put, List.setIfInBounds_toArray, List.set_cons_zero, List.set_cons_succ]
              refine wpAnyH_take (i := 6) (oi := { dst := some 59, op := Op.nilCheck (Operand.tmp 58), type := 0, pos := _, after := #[{ on := 5, ground := Ground.data }], guard := none }) (v := ?tr7) rfl (by kernel_rfl) (by kernel_rfl) (by kernel_rfl) (fun _ _ _ h => h) (Or.inl ⟨by rfl, ?ur7⟩) (by assumption) ?rr7
              case ur7 => (intro w hSw; (try dsimp only at hSw); go_simp; (try with_reducible rfl))
              simp only [Act.put, List.setIfInBounds_toArray, List.set_cons_zero, List.set_cons_succ]
              refine wpAnyH_take (i := 7) (oi := { dst := some 60, op := Op.fieldAddr 43 (Operand.tmp 59) 1, type := 0, pos := _, after := #[{ on := 6, ground := Ground.data }], guard := none }) (v := ?tr8) rfl (by kernel_rfl) (by kernel_rfl) (by kernel_rfl) (fun _ _ _ h => h) (Or.inl ⟨by rfl, ?ur8⟩) (by assumption) ?rr8
              case ur8 => (intro w hSw; (try dsimp only at hSw); go_simp; (try with_reducible rfl))
              simp only [Act.put, List.setIfInBounds_toArray, List.set_cons_zero, List.set_cons_succ]
              refine wpAnyH_take (i := 8) (oi := { dst := some 61, op := Op.load 22 (Operand.tmp 60), type := 22, pos := _, after := #[{ on := 7, ground := Ground.data }], guard := none }) (v := ?tr9) rfl (by kernel_rfl) (by kernel_rfl) (by kernel_rfl) (fun _ _ _ h => h) (Or.inl ⟨by rfl, ?ur9⟩) (by assumption) ?rr9
              case ur9 => (intro w hSw; (try dsimp only at hSw); go_simp; (try with_reducible rfl))
              simp only [Act.put, List.setIfInBounds_toArray, List.set_cons_zero, List.set_cons_succ]
              refine wpAnyH_take (i := 9) (oi := { dst := some 62, op := Op.move (Operand.tmp 7), type := 3, pos := _, after := #[], guard := none }) (v := ?tr10) rfl (by kernel_rfl) (by kernel_rfl) (by kernel_rfl) (fun _ _ _ h => h) (Or.inl ⟨by rfl, ?ur10⟩) (by assumption) ?rr10
              case ur10 => (intro w hSw; (try dsimp only at hSw); go_simp; (try with_reducible rfl))
              simp only [Act.put, List.setIfInBounds_toArray, List.set_cons_zero, List.set_cons_succ]
              refine wpAnyH_take (i := 10) (oi := { dst := some 63, op := Op.indexAddr 22 (Operand.tmp 61) (Operand.tmp 62), type := 0, pos := _, after := #[{ on := 8, ground := Ground.data }, { on := 9, ground := Ground.data }], guard := none }) (v := ?tr11) rfl (by kernel_rfl) (by kernel_rfl) (by kernel_rfl) (fun _ _ _ h => h) (Or.inl ⟨by rfl, ?ur11⟩) (by assumption) ?rr11
              case ur11 => (intro w hSw; (try dsimp only at hSw); go_simp; (try with_reducible rfl))
              simp only [Act.put, List.setIfInBounds_toArray, List.set_cons_zero, List.set_cons_succ]
              refine wpAnyH_take (i := 12) (oi := { dst := some 65, op := Op.move (Operand.tmp 4), type := 3, pos := _, after := #[], guard := none }) (v := ?tr12) rfl (by kernel_rfl) (by kernel_rfl) (by kernel_rfl) (fun _ _ _ h => h) (Or.inl ⟨by rfl, ?ur12⟩) (by assumption) ?rr12
              case ur12 => (intro w hSw; (try dsimp only at hSw); go_simp; (try with_reducible rfl))
              simp only [Act.put, List.setIfInBounds_toArray, List.set_cons_zero, List.set_cons_succ]
              refine wpAnyH_ready (rs := [11, 13]) (by kernel_rfl) (by simp) ?_
              refine AllReadyH.cons (o := { dst := some 64, op := Op.load 25 (Operand.tmp 63), type := 25, pos := _, after := #[{ on := 10, ground := Ground.data }], guard := none }) rfl (fun K hK => ?_) (AllReadyH.cons (o := { dst := some 66, op := Op.buildSlice 25 1 #[(0, Operand.tmp 65)], type := 25, pos := _, after := #[{ on := 12, ground := Ground.data }], guard := none }) rfl (fun K hK => ?_) AllReadyH.nil)
              · have p0 := H6.out.r.c k
                rw [List.getElem?_toArray, List.getElem?_map, List.getElem?_range hk] at p0
                simp only [Option.map_some] at p0
                go_simp
                refine hK.out _ _ (SS.out _ H6.out.bk) (fun hH7 => ?_)
                clear p0
                clear hK K
                (try simp only [Act.put, List.setIfInBounds_toArray, List.set_cons_zero, List.set_cons_succ])
                refine wpAnyH_ready (rs := [13]) (by kernel_rfl) (by simp) ?_
                refine AllReadyH.cons (o := { dst := some 66, op := Op.buildSlice 25 1 #[(0, Operand.tmp 65)], type := 25, pos := _, after := #[{ on := 12, ground := Ground.data }], guard := none }) rfl (fun K hK => ?_) AllReadyH.nil
                go_simp
                have H7 := Lib.hid (H6.out.below (below1 v4 (.cells #[.int .i64 (i : Int)] 3)))
                refine hK.out _ _ (SS.out _ H7.out.bk) (fun hH8 => ?_)
                clear hK K
                (try simp only [Act.put, List.setIfInBounds_toArray, List.set_cons_zero, List.set_cons_succ])
                refine wpAnyH_ready (rs := [14]) (by kernel_rfl) (by simp) ?_
                refine AllReadyH.cons (o := { dst := some 67, op := Op.call { callee := Callee.builtin Builtin.append, args := #[Operand.tmp 64, Operand.tmp 66], argTypes := #[25, 25] }, type := 25, pos := _, after := #[{ on := 11, ground := Ground.data }, { on := 13, ground := Ground.data }], guard := none }) rfl (fun K hK => ?_) AllReadyH.nil
                rw [if_pos (by rfl)]
                refine wp_append_lies _ (.tmp 64) (.tmp 66) 25 rfl X 3 i0 _ 1 8 Try.underlying25 hi0 hz0 hz1 hz2 rfl (by decide) _ _ _ rfl (H7.out.o k hk) ⟨v4.heap.size, 0, none⟩ 1 1 [.int .i64 (i : Int)] rfl rfl (cell_one_new _ _ _) (by intro u hu; simp at hu; subst hu; rfl) (by decide) (by unfold maxLen; omega) (by omega) H7.out.sz _ rfl ?_
                intro gg cc w7 own7 gr7 at7 lt7
                obtain ⟨E1, E2, vf2, E3⟩ := H6.out.app (R' := bp A i (q + 1)) HK.out hk own7 gr7 at7 (by rw [HBN.out k, if_pos ⟨hv, by simp⟩]) (fun x hx => by rw [HBN.out x, if_neg (fun e => hx (by have := e.2; simp at this; omega))])
                have E1h := Lib.hid E1
                have E2h := Lib.hid E2
                have E3h := Lib.hid E3
                clear E1 E2 E3 own7 gr7 at7 lt7
                refine hK.out _ _ (SS.out _ E2h.out) (fun hH9 => ?_)
                clear hK K
                (try simp only [Act.put, List.setIfInBounds_toArray, List.set_cons_zero, List.set_cons_succ])
                refine wpAnyH_take (i := 15) (oi := { dst := some 68, op := Op.indexAddr 22 (Operand.tmp 56) (Operand.tmp 57), type := 0, pos := _, after := #[{ on := 3, ground := Ground.data }, { on := 4, ground := Ground.data }, { on := 0, ground := Ground.phase }, { on := 1, ground := Ground.phase }, { on := 2, ground := Ground.phase }, { on := 3, ground := Ground.phase }, { on := 4, ground := Ground.phase }, { on := 5, ground := Ground.phase }, { on := 6, ground := Ground.phase }, { on := 7, ground := Ground.phase }, { on := 8, ground := Ground.phase }, { on := 9, ground := Ground.phase }, { on := 10, ground := Ground.phase }, { on := 11, ground := Ground.phase }, { on := 12, ground := Ground.phase }, { on := 13, ground := Ground.phase }, { on := 14, ground := Ground.phase }], guard := none }) (v := ?tr13) rfl (by kernel_rfl) (by kernel_rfl) (by kernel_rfl) (fun _ _ _ h => h) (Or.inl ⟨by rfl, ?ur13⟩) (by assumption) ?rr13
                case ur13 => (intro w hSw; (try dsimp only at hSw); go_simp; (try with_reducible rfl))
                simp only [Act.put, List.setIfInBounds_toArray, List.set_cons_zero, List.set_cons_succ]
                refine wpAnyH_ready (rs := [16]) (by kernel_rfl) (by simp) ?_
                refine AllReadyH.cons (o := { dst := none, op := Op.store 25 (Operand.tmp 68) (Operand.tmp 67), type := 0, pos := _, after := #[{ on := 15, ground := Ground.data }, { on := 14, ground := Ground.data }, { on := 14, ground := Ground.chain }, { on := 0, ground := Ground.phase }, { on := 1, ground := Ground.phase }, { on := 2, ground := Ground.phase }, { on := 3, ground := Ground.phase }, { on := 4, ground := Ground.phase }, { on := 5, ground := Ground.phase }, { on := 6, ground := Ground.phase }, { on := 7, ground := Ground.phase }, { on := 8, ground := Ground.phase }, { on := 9, ground := Ground.phase }, { on := 10, ground := Ground.phase }, { on := 11, ground := Ground.phase }, { on := 12, ground := Ground.phase }, { on := 13, ground := Ground.phase }, { on := 14, ground := Ground.phase }], guard := none }) rfl (fun K hK => ?_) AllReadyH.nil
                have p0 := E1h.out.c k
                have pf := E1h.out.f k
                rw [List.getElem?_toArray, List.getElem?_map, List.getElem?_range hk] at p0
                simp only [Option.map_some] at p0
                go_simp
                refine hK.out _ _ (SS.out _ E3h.out.bk) (fun hH10 => ?_)
                clear p0 pf
                clear hK K
                (try simp only [Act.put, List.setIfInBounds_toArray, List.set_cons_zero, List.set_cons_succ])
                refine wpAnyH_done (by kernel_rfl) ?_ _
                go_wp2_with fail
                go_roundg g2
                case measure => omega
                case rel => exact ⟨q + 1, vf2, by omega, by simp, E3h.out, E3h.out.b⟩
              · go_simp
                have H7 := Lib.hid (H6.out.below (below1 v4 (.cells #[.int .i64 (i : Int)] 3)))
                refine hK.out _ _ (SS.out _ H7.out.bk) (fun hH11 => ?_)
                clear hK K
                (try simp only [Act.put, List.setIfInBounds_toArray, List.set_cons_zero, List.set_cons_succ])
                refine wpAnyH_ready (rs := [11]) (by kernel_rfl) (by simp) ?_
                refine AllReadyH.cons (o := { dst := some 64, op := Op.load 25 (Operand.tmp 63), type := 25, pos := _, after := #[{ on := 10, ground := Ground.data }], guard := none }) rfl (fun K hK => ?_) AllReadyH.nil
                have p0 := H7.out.r.c k
                rw [List.getElem?_toArray, List.getElem?_map, List.getElem?_range hk] at p0
                simp only [Option.map_some] at p0
                go_simp
                refine hK.out _ _ (SS.out _ H7.out.bk) (fun hH12 => ?_)
                clear p0
                clear hK K
                (try simp only [Act.put, List.setIfInBounds_toArray, List.set_cons_zero, List.set_cons_succ])
                refine wpAnyH_ready (rs := [14]) (by kernel_rfl) (by simp) ?_
                refine AllReadyH.cons (o := { dst := some 67, op := Op.call { callee := Callee.builtin Builtin.append, args := #[Operand.tmp 64, Operand.tmp 66], argTypes := #[25, 25] }, type := 25, pos := _, after := #[{ on := 11, ground := Ground.data }, { on := 13, ground := Ground.data }], guard := none }) rfl (fun K hK => ?_) AllReadyH.nil
                rw [if_pos (by rfl)]
                refine wp_append_lies _ (.tmp 64) (.tmp 66) 25 rfl X 3 i0 _ 1 8 Try.underlying25 hi0 hz0 hz1 hz2 rfl (by decide) _ _ _ rfl (H7.out.o k hk) ⟨v4.heap.size, 0, none⟩ 1 1 [.int .i64 (i : Int)] rfl rfl (cell_one_new _ _ _) (by intro u hu; simp at hu; subst hu; rfl) (by decide) (by unfold maxLen; omega) (by omega) H7.out.sz _ rfl ?_
                intro gg cc w7 own7 gr7 at7 lt7
                obtain ⟨E1, E2, vf2, E3⟩ := H6.out.app (R' := bp A i (q + 1)) HK.out hk own7 gr7 at7 (by rw [HBN.out k, if_pos ⟨hv, by simp⟩]) (fun x hx => by rw [HBN.out x, if_neg (fun e => hx (by have := e.2; simp at this; omega))])
                have E1h := Lib.hid E1
                have E2h := Lib.hid E2
                have E3h := Lib.hid E3
                clear E1 E2 E3 own7 gr7 at7 lt7
                refine hK.out _ _ (SS.out _ E2h.out) (fun hH13 => ?_)
                clear hK K
                (try simp only [Act.put, List.setIfInBounds_toArray, List.set_cons_zero, List.set_cons_succ])
                refine wpAnyH_take (i := 15) (oi := { dst := some 68, op := Op.indexAddr 22 (Operand.tmp 56) (Operand.tmp 57), type := 0, pos := _, after := #[{ on := 3, ground := Ground.data }, { on := 4, ground := Ground.data }, { on := 0, ground := Ground.phase }, { on := 1, ground := Ground.phase }, { on := 2, ground := Ground.phase }, { on := 3, ground := Ground.phase }, { on := 4, ground := Ground.phase }, { on := 5, ground := Ground.phase }, { on := 6, ground := Ground.phase }, { on := 7, ground := Ground.phase }, { on := 8, ground := Ground.phase }, { on := 9, ground := Ground.phase }, { on := 10, ground := Ground.phase }, { on := 11, ground := Ground.phase }, { on := 12, ground := Ground.phase }, { on := 13, ground := Ground.phase }, { on := 14, ground := Ground.phase }], guard := none }) (v := ?tr14) rfl (by kernel_rfl) (by kernel_rfl) (by kernel_rfl) (fun _ _ _ h => h) (Or.inl ⟨by rfl, ?ur14⟩) (by assumption) ?rr14
                case ur14 => (intro w hSw; (try dsimp only at hSw); go_simp; (try with_reducible rfl))
                simp only [Act.put, List.setIfInBounds_toArray, List.set_cons_zero, List.set_cons_succ]
                refine wpAnyH_ready (rs := [16]) (by kernel_rfl) (by simp) ?_
                refine AllReadyH.cons (o := { dst := none, op := Op.store 25 (Operand.tmp 68) (Operand.tmp 67), type := 0, pos := _, after := #[{ on := 15, ground := Ground.data }, { on := 14, ground := Ground.data }, { on := 14, ground := Ground.chain }, { on := 0, ground := Ground.phase }, { on := 1, ground := Ground.phase }, { on := 2, ground := Ground.phase }, { on := 3, ground := Ground.phase }, { on := 4, ground := Ground.phase }, { on := 5, ground := Ground.phase }, { on := 6, ground := Ground.phase }, { on := 7, ground := Ground.phase }, { on := 8, ground := Ground.phase }, { on := 9, ground := Ground.phase }, { on := 10, ground := Ground.phase }, { on := 11, ground := Ground.phase }, { on := 12, ground := Ground.phase }, { on := 13, ground := Ground.phase }, { on := 14, ground := Ground.phase }], guard := none }) rfl (fun K hK => ?_) AllReadyH.nil
                have p0 := E1h.out.c k
                have pf := E1h.out.f k
                rw [List.getElem?_toArray, List.getElem?_map, List.getElem?_range hk] at p0
                simp only [Option.map_some] at p0
                go_simp
                refine hK.out _ _ (SS.out _ E3h.out.bk) (fun hH14 => ?_)
                clear p0 pf
                clear hK K
                (try simp only [Act.put, List.setIfInBounds_toArray, List.set_cons_zero, List.set_cons_succ])
                refine wpAnyH_done (by kernel_rfl) ?_ _
                go_wp2_with fail
                go_roundg g2
                case measure => omega
                case rel => exact ⟨q + 1, vf2, by omega, by simp, E3h.out, E3h.out.b⟩
            · have hskip : z = (i : Int) ∨ z < 0 ∨ (A.length : Int) ≤ z := by
                unfold vd at hv
                simp only [Bool.and_eq_true, decide_eq_true_eq] at hv
                omega
              have HN := Lib.hid (HO.out.like (ah' := ap A i (q + 1)) (R' := bp A i (q + 1)) (fun x _ => by rw [HAN.out x, if_neg (fun e => hv e.2)]) (fun x _ => by rw [HBN.out x, if_neg (fun e => hv e.1)]))
              clear hO hv
              rcases hskip with e | e | e
              · subst e
                go_wp2_with fail
                go_roundg g2
                case measure => omega
                case rel => exact ⟨q + 1, vf', by omega, by simp, HN.out, HN.out.b⟩
              · have e3 : ¬ z = (i : Int) := by omega
                go_wp2_with fail
                go_roundg g2
                case measure => omega
                case rel => exact ⟨q + 1, vf', by omega, by simp, HN.out, HN.out.b⟩
              · have e3 : ¬ z = (i : Int) := by omega
                have e4 : ¬ z < 0 := by omega
                go_wp2_with fail
                go_roundg g2
                case measure => omega
                case rel => exact ⟨q + 1, vf', by omega, by simp, HN.out, HN.out.b⟩
end Go.Proofs.Ytblpafmcnhhdpaa
