/- The document's Order, walked; the conditions that each theorem names. -/
import Derived.Test.YtblpafmcnhhdpaaUc
import Derived.Deep.AppendLies
namespace Go.Proofs.Ytblpafmcnhhdpaa
open Go.RowKit

/-- The document's Order on its way: the result's block, the two rows, what is done. -/
structure Co (w : World) (n : Nat) (s1 s2 : Value) (p1 p2 : List Nat) (f : Nat → Bool) (wx : World) : Prop where
  below : Below w.heap.size w wx
  r : Bk wx w.heap.size #[.slice none 0 0, .slice none 0 0] 27
  t : Bk wx (w.heap.size + 1) #[s1, s2] 27
  d : Bf wx (w.heap.size + 1 + 1) n f
  o1 : wx.ownsRow (w.heap.size + 3) 3 1 s1 p1.length (nv p1)
  o2 : wx.ownsRow (w.heap.size + 3) 3 1 s2 p2.length (nv p2)
  ne : ∀ g, s1.ownBlock = some g → s2.ownBlock = some g → False
theorem Co.step {w wx wy : World} {n : Nat} {s1 s2 : Value} {p1 p2 : List Nat} {f : Nat → Bool} (h : Co w n s1 s2 p1 p2 f wx) (hb : Below wx.heap.size wx wy) : Co w n s1 s2 p1 p2 f wy :=
  ⟨h.below.trans (hb.mono h.below.size), h.r.below hb, h.t.below hb, h.d.below hb, own_below h.o1 hb, own_below h.o2 hb, h.ne⟩
/-- One more is closed. -/
theorem Co.set {w wx : World} {n : Nat} {s1 s2 : Value} {p1 p2 : List Nat} {f f' : Nat → Bool} (h : Co w n s1 s2 p1 p2 f wx) (i : Nat) (hf : ∀ j, j < n → f' j = (f j || decide (j = i))) : Co w n s1 s2 p1 p2 f' (wx.setCell ⟨w.heap.size + 1 + 1, i, none⟩ (.bool true)) :=
  ⟨h.below.setCell (p := ⟨w.heap.size + 1 + 1, i, none⟩) (by simp; omega) _, h.r.other _ _ (by simp; omega), h.t.other _ _ (by simp), h.d.set i hf, ownsRow_setCell_below h.o1 (by simp) _, ownsRow_setCell_below h.o2 (by simp) _, h.ne⟩
/-- A number more in the first row. -/
theorem Co.put1 {x : Value} {T : TypeId} {w wx w5 : World} {n : Nat} {s1 s2 v1 : Value} {p1 p2 q : List Nat} {f : Nat → Bool} (h : Co w n s1 s2 p1 p2 f wx) (hs2 : s2.ownBlock = none) (hg : (wx.alloc (.cells #[x] T)).grownBy w5 s1.ownBlock) (ho : w5.ownsRow (w.heap.size + 3) 3 1 v1 q.length (nv q)) :
    Co w n v1 s2 q p2 f (w5.setCell ⟨w.heap.size + 1, 0, none⟩ v1) := by
  have h1 := h.step (below1 wx (.cells #[x] T))
  have n0 := own_ne h.o1 (N := w.heap.size) (by omega)
  have n1 := own_ne h.o1 (N := w.heap.size + 1) (by omega)
  have n2 := own_ne h.o1 (N := w.heap.size + 1 + 1) (by omega)
  refine ⟨?_, ?_, ?_, ?_, ?_, ?_, fun g _ e => by rw [hs2] at e; cases e⟩
  · refine Below.setCell (p := ⟨w.heap.size + 1, 0, none⟩) ?_ (by simp) _
    exact ⟨hg.os.trans h1.below.os, hg.tape.trans h1.below.tape, hg.output.trans h1.below.output, Nat.le_trans h1.below.size hg.size, fun k hk => (hg.block k (Nat.lt_of_lt_of_le hk h1.below.size) (fun e => own_ne h.o1 (N := k) (by omega) e.symm)).trans (h1.below.block k hk)⟩
  · exact (h1.r.grown hg n0).other _ _ (by simp)
  · exact (h1.t.grown hg n1).set 0 v1
  · exact Bk.other (Bk.grown h1.d hg n2) _ _ (by simp)
  · exact ownsRow_setCell_below ho (by simp) _
  · exact ownsRow_setCell_below (h1.o2.kept hg (.inl hs2)) (by simp) _
/-- A number more in the second row. -/
theorem Co.put2 {x : Value} {T : TypeId} {w wx w5 : World} {n : Nat} {s1 s2 v1 : Value} {p1 p2 q : List Nat} {f : Nat → Bool} (h : Co w n s1 s2 p1 p2 f wx) (hg : (wx.alloc (.cells #[x] T)).grownBy w5 s2.ownBlock) (ho : w5.ownsRow (w.heap.size + 3) 3 1 v1 q.length (nv q)) (hv : v1.ownBlock = s2.ownBlock ∨ ∃ g, v1.ownBlock = some g ∧ wx.heap.size ≤ g) :
    Co w n s1 v1 p1 q f (w5.setCell ⟨w.heap.size + 1, 1, none⟩ v1) := by
  have h1 := h.step (below1 wx (.cells #[x] T))
  have n0 := own_ne h.o2 (N := w.heap.size) (by omega)
  have n1 := own_ne h.o2 (N := w.heap.size + 1) (by omega)
  have n2 := own_ne h.o2 (N := w.heap.size + 1 + 1) (by omega)
  have hne : s1.ownBlock = none ∨ s1.ownBlock ≠ s2.ownBlock := by
    cases e : s1.ownBlock with
    | none => exact .inl rfl
    | some g => exact .inr fun e2 => h.ne g e e2.symm
  refine ⟨?_, ?_, ?_, ?_, ?_, ?_, fun g e e2 => ?_⟩
  · refine Below.setCell (p := ⟨w.heap.size + 1, 1, none⟩) ?_ (by simp) _
    exact ⟨hg.os.trans h1.below.os, hg.tape.trans h1.below.tape, hg.output.trans h1.below.output, Nat.le_trans h1.below.size hg.size, fun k hk => (hg.block k (Nat.lt_of_lt_of_le hk h1.below.size) (fun e => own_ne h.o2 (N := k) (by omega) e.symm)).trans (h1.below.block k hk)⟩
  · exact (h1.r.grown hg n0).other _ _ (by simp)
  · exact (h1.t.grown hg n1).set 1 v1
  · exact Bk.other (Bk.grown h1.d hg n2) _ _ (by simp)
  · exact ownsRow_setCell_below (h1.o1.kept hg hne) (by simp) _
  · exact ownsRow_setCell_below ho (by simp) _
  · rcases hv with hv | ⟨g', hv, hg'⟩
    · exact h.ne g e (hv ▸ e2)
    · have := (h.o1.lt g e).2
      rw [hv] at e2
      obtain rfl := Option.some.inj e2
      omega
theorem Co.fin1 {w wx : World} {n : Nat} {s1 s2 : Value} {p1 p2 : List Nat} {f : Nat → Bool} (h : Co w n s1 s2 p1 p2 f wx) : Ri ((wx.setCell ⟨w.heap.size, 0, none⟩ s1).setCell ⟨w.heap.size, 1, none⟩ s2) s1 (p1.map fun (i : Nat) => (i : Int)) ∧ Ri ((wx.setCell ⟨w.heap.size, 0, none⟩ s1).setCell ⟨w.heap.size, 1, none⟩ s2) s2 (p2.map fun (i : Nat) => (i : Int)) ∧ Below w.heap.size w ((wx.setCell ⟨w.heap.size, 0, none⟩ s1).setCell ⟨w.heap.size, 1, none⟩ s2) :=
  ⟨own_rin (ownsRow_setCell_below (ownsRow_setCell_below h.o1 (by simp) _) (by simp) _), own_rin (ownsRow_setCell_below (ownsRow_setCell_below h.o2 (by simp) _) (by simp) _), below_set2 h.below (Nat.le_refl _) _ _⟩

set_option maxRecDepth 100000 in
set_option maxHeartbeats 4000000 in
theorem rorder_any (A : List (List Int)) (ad : Option Addr) (cap : Nat) (w : World) (h : Rj w ad A) (hl : A.length ≤ 400) (hll : ∀ l ∈ A, l.length ≤ 400) :
    Calls Try.prog 9 #[.slice ad A.length cap] w fun e w' => ∃ s1 s2, e = .returned (.agg #[s1, s2]) ∧ Ri w' s1 ((ord A).map fun (i : Nat) => (i : Int)) ∧ Ri w' s2 ((cyc A).map fun (i : Nat) => (i : Int)) ∧ Below w.heap.size w w' := by
  obtain ⟨i0, hi0, hz0, hz1, hz2⟩ := info_parts infoInt
  obtain ⟨i1, hi1, hy0, hy1, hy2⟩ := info_parts infoB
  have b0 := below1 w (.cells #[.slice none 0 0, .slice none 0 0] 27)
  have n0 := Bk.new w #[.slice none 0 0, .slice none 0 0] 27
  obtain ⟨wa, hwa⟩ : ∃ wa, wa = w.alloc (.cells #[.slice none 0 0, .slice none 0 0] 27) := ⟨_, rfl⟩
  rw [← hwa] at b0 n0
  have za : wa.heap.size = w.heap.size + 1 := by rw [hwa]; simp
  have b1 := below1 wa (.cells #[.slice none 0 0, .slice none 0 0] 27)
  have n1 := Bk.new wa #[.slice none 0 0, .slice none 0 0] 27
  obtain ⟨w0, hw0⟩ : ∃ w0, w0 = wa.alloc (.cells #[.slice none 0 0, .slice none 0 0] 27) := ⟨_, rfl⟩
  rw [← hw0] at b1 n1
  rw [za] at n1
  have HW := Lib.hid (show (w.alloc (.cells #[.slice none 0 0, .slice none 0 0] 27)).alloc (.cells #[.slice none 0 0, .slice none 0 0] 27) = w0 by rw [hw0, hwa])
  have z0 : w0.heap.size = w.heap.size + 1 + 1 := by rw [hw0]; simp [za]
  have B0 : Below w.heap.size w w0 := b0.trans (b1.mono (by omega))
  have N0 := n0.below b1
  have HS := Lib.hid h
  have HLL := Lib.hid hll
  have Hz0 := Lib.hid z0
  clear h hll hwa hw0 n0 b0 b1 za z0
  go_enter Try.func9, Try.ntmps9
  go_wp2_with (first
    | rw [HW.out]
    | (at_make; refine wpList_make_full _ rfl _ _ 32 rfl w0.heap.size 4 i1 (.bool false) 1 Try.underlying32 hi1 hy0 hy1 _ _ _ _ A.length rfl rfl rfl rfl (by rw [hy2]; omega) (by unfold maxLen; omega) (Nat.le_refl _) ?_; intro w1 own1 gr1))
  rw [Hz0.out] at own1
  rw [Hz0.out]
  have F1 : Hid (Co w A.length (.slice none 0 0) (.slice none 0 0) [] [] (mf []) w1) := by
    have bb : Below w0.heap.size w0 w1 := below_none gr1 (Nat.le_refl _)
    exact ⟨B0.trans (bb.mono B0.size), N0.below bb, n1.below bb, (show (fun _ => false) = mf [] by funext j; simp [mf]) ▸ bf_made own1, World.ownsRow_nil _ _ _ _, World.ownsRow_nil _ _ _ _, fun g e => by cases e⟩
  clear own1 gr1 n1 N0 B0
  go_loopg [5] (A.length + 1) (fun g s5 wx => ∃ (acc : List Nat) (s1 : Value) (mv : Bool), s5 = .bool mv ∧ Wy A acc ∧ Co w A.length s1 (.slice none 0 0) acc [] (mf acc) wx ∧ (mv = true → g = (lft A.length acc).length + 1) ∧ (mv = false → lst A (mf acc) = none))
  case atStart => exact ⟨[], _, true, rfl, Wy.nil A, F1.out, fun _ => by rw [lft_nil]; simp, fun h => by cases h⟩
  case round =>
    clear F1
    obtain ⟨acc, s1, mv, rfl, hY, hC, hm1, hm0⟩ := hrel
    have HY := Lib.hid hY
    have HC := Lib.hid hC
    clear hY hC
    cases mv with
    | true =>
      have hgk := hm1 rfl
      have HG := Lib.hid hgk
      clear hm1 hm0 hgk
      go_wp2
      go_loopg [5, 6] (A.length + 1) (fun g s5 s6 wx => ∃ i : Nat, s6 = .int .i64 i ∧ i ≤ A.length ∧ ((s5 = .bool false ∧ i + g = A.length + 1 ∧ (∀ j, j < i → fre A (mf acc) j = false) ∧ Co w A.length s1 (.slice none 0 0) acc [] (mf acc) wx) ∨ (s5 = .bool true ∧ ∃ q v1, lst A (mf acc) = some q ∧ Co w A.length v1 (.slice none 0 0) (acc ++ [q]) [] (mf (acc ++ [q])) wx)))
      case atStart => exact ⟨0, rfl, Nat.zero_le _, .inl ⟨rfl, by omega, fun j hj => by omega, HC.out⟩⟩
      case round =>
        clear HC
        obtain ⟨i, rfl, hin, ⟨rfl, hig, hfr, hC⟩ | ⟨rfl, q, v1, hq, hC⟩⟩ := hrel
        · have HC := Lib.hid hC
          have HFR := Lib.hid hfr
          clear hfr hC
          by_cases hlt : i < A.length
          · have hlt' : (i : Int) < (A.length : Int) := by omega
            have t0 := HC.out.d.c i hlt
            have hi0' : (0 : Int) ≤ (i : Int) := by omega
            have KW := Lib.hid (rwaits_any A ad cap (w.heap.size + 1 + 1) (mf acc) i wr (HS.out.below HC.out.below) HC.out.d hlt HLL.out)
            have hfe : fre A (mf acc) i = (!mf acc i && !wts A (mf acc) i) := rfl
            have hnext : fre A (mf acc) i = false → ∀ j, j < i + 1 → fre A (mf acc) j = false := fun h1 j hj => by
              by_cases e : j = i
              · subst e; exact h1
              · exact HFR.out j (by omega)
            have hfound : fre A (mf acc) i = true → lst A (mf acc) = some i := fun h1 => lst_some hlt h1 HFR.out
            have HNX := Lib.hid hnext
            have HFD := Lib.hid hfound
            have HFE := Lib.hid hfe
            have HAC : Hid (mf acc i = decide (i ∈ acc)) := rfl
            clear hnext hfound hfe hin
            have hal := HY.out.le
            generalize mf acc i = fi at t0 HFE HAC
            generalize wts A (mf acc) i = wi at KW HFE
            cases fi with
            | true =>
              clear KW
              go_wp2
              go_roundg (A.length - i)
              case measure => omega
              case rel => exact ⟨i + 1, by simp, by omega, .inl ⟨rfl, by omega, HNX.out (by rw [HFE.out]; rfl), HC.out⟩⟩
            | false =>
              cases wi with
              | true =>
                go_wp2_with fail
                refine KW.out.mono ?_
                rintro e w5 ⟨rfl, rfl⟩
                go_wp2
                go_roundg (A.length - i)
                case measure => omega
                case rel => exact ⟨i + 1, by simp, by omega, .inl ⟨rfl, by omega, HNX.out (by rw [HFE.out]; rfl), HC.out⟩⟩
              | false =>
                have C2 := Lib.hid (HC.out.set (f' := mf (acc ++ [i])) i (fun j _ => by
                  simp only [mf, List.mem_append, List.mem_singleton]
                  by_cases a : j ∈ acc <;> by_cases b : j = i <;> simp [a, b]))
                have tf := Bk.f HC.out.d i
                obtain ⟨w6, hw6⟩ : ∃ w6, w6 = wr.setCell ⟨w.heap.size + 1 + 1, i, none⟩ (.bool true) := ⟨_, rfl⟩
                rw [← hw6] at C2
                have HW6 := Lib.hid hw6.symm
                clear hw6
                obtain ⟨q0, q1⟩ := C2.out.t.c2
                have hown := C2.out.o1
                have hsz := C2.out.t.lt
                have hdl := Bk.lt C2.out.d
                go_wp2_with fail
                refine KW.out.mono ?_
                rintro e w5 ⟨rfl, rfl⟩
                go_wp2_with (first
                  | rw [HW6.out]
                  | (at_builtin; refine wpList_append_own _ rfl _ _ 25 rfl (w.heap.size + 3) 3 i0 (.int .i64 0) 1 8 Try.underlying25 hi0 hz0 hz1 hz2 rfl (by decide) _ _ _ rfl (hown.alloc _) ⟨w6.heap.size, 0, none⟩ 1 1 [.int .i64 (i : Int)] rfl rfl (cell_one_new _ _ _) (by intro u hu; simp at hu; subst hu; rfl) (by unfold maxLen; omega) (by omega) (by simp; omega) ?_; intro v1 w7 hown7 hgrow7 hnil7; obtain ⟨va, vc, rfl⟩ := row_form hown7; have T7 := (C2.out.step (below1 _ (.cells #[.int .i64 (i : Int)] 3))).t.grown hgrow7 (own_ne hown (by omega)); obtain ⟨q2, q3⟩ := T7.c2; have q4 := T7.f 0))
                go_roundg 0
                case measure => omega
                case rel =>
                  refine ⟨i + 1, by simp, by omega, .inr ⟨rfl, i, .slice va (acc.length + 1) vc, HFD.out (by rw [HFE.out]; rfl), ?_⟩⟩
                  refine Co.put1 C2.out rfl hgrow7 ?_
                  simpa using hown7
          · obtain rfl : i = A.length := by omega
            go_wp2
            go_roundg 0
            case measure => have := HG.out; omega
            case rel => exact ⟨acc, s1, false, rfl, HY.out, HC.out, fun h => (by cases h), fun _ => lst_none HFR.out⟩
        · have HC := Lib.hid hC
          have HQ := Lib.hid hq
          clear hC hq
          by_cases hlt : (i : Int) < (A.length : Int)
          · go_wp2
            go_roundg (lft A.length acc).length
            case measure => have := HG.out; omega
            case rel =>
              obtain ⟨h1, h2⟩ := HY.out.go HQ.out
              exact ⟨acc ++ [q], v1, true, rfl, h1, HC.out, fun _ => by omega, fun h => (by cases h)⟩
          · go_wp2
            go_roundg (lft A.length acc).length
            case measure => have := HG.out; omega
            case rel =>
              obtain ⟨h1, h2⟩ := HY.out.go HQ.out
              exact ⟨acc ++ [q], v1, true, rfl, h1, HC.out, fun _ => by omega, fun h => (by cases h)⟩
    | false =>
      have hno := hm0 rfl
      have hO := HY.out.stop hno
      clear hm1 hm0 hno
      have HAL := Lib.hid HY.out.le
      clear HY
      subst hO
      obtain ⟨OA, hOA⟩ : ∃ OA, OA = ord A := ⟨_, rfl⟩
      rw [← hOA] at HC HAL
      have HOA := Lib.hid hOA
      clear hOA
      go_wp2
      go_loopg [7, 45] A.length (fun g s7 s45 wx => ∃ (j : Nat) (s2 : Value), j + g = A.length ∧ s45 = .int .i64 j ∧ Co w A.length s1 s2 OA (lft j OA) (mf OA) wx)
      case atStart => exact ⟨0, _, by omega, rfl, HC.out⟩
      case round =>
        clear HC
        obtain ⟨j, s2, hjg, rfl, hC⟩ := hrel
        have HC := Lib.hid hC
        clear hC
        cases gk with
        | zero =>
          obtain rfl : j = A.length := by omega
          obtain ⟨sa1, sc1, rfl⟩ := row_form HC.out.o1
          obtain ⟨sa2, sc2, rfl⟩ := row_form HC.out.o2
          obtain ⟨q0, q1⟩ := HC.out.t.c2
          obtain ⟨q2, q3⟩ := HC.out.r.c2
          have q4 := HC.out.r.f 0
          have q5 := HC.out.r.f 1
          go_wp2
          obtain ⟨h1, h2, h3⟩ := HC.out.fin1
          have h4 := h1
          have h5 := h2
          rw [show OA.map (fun (i : Nat) => (i : Int)) = (ord A).map (fun (i : Nat) => (i : Int)) by rw [HOA.out]] at h4
          rw [show (lft A.length OA).map (fun (i : Nat) => (i : Int)) = (cyc A).map (fun (i : Nat) => (i : Int)) by rw [HOA.out]; rfl] at h5
          exact bodyPost_ret (v := .agg #[.slice sa1 OA.length sc1, .slice sa2 (lft A.length OA).length sc2]) (by simp [results, Try.results9, go_sem, World.cell?_setCell_same, World.cell?_setCell_other, q2, q3]) rfl ⟨_, _, rfl, h4, h5, h3⟩
        | succ g =>
          have hj : j < A.length := by omega
          have hj' : (j : Int) < (A.length : Int) := by omega
          have hj0 : (0 : Int) ≤ (j : Int) := by omega
          have t0 := HC.out.d.c j hj
          have hlf : lft (j + 1) OA = lft j OA ++ (if mf OA j then [] else [j]) := by
            unfold lft
            rw [List.range_succ, List.filter_append]
            cases hmj : mf OA j <;> simp [hmj]
          have HLF := Lib.hid hlf
          have hll : (lft j OA).length ≤ j := by
            unfold lft
            exact Nat.le_trans (List.length_filter_le _ _) (by simp)
          clear hlf
          cases hfj : mf OA j with
          | true =>
            rw [hfj] at t0 HLF
            clear hfj
            go_wp2
            go_roundg g
            case measure => omega
            case rel => exact ⟨j + 1, s2, by omega, by simp, by rw [HLF.out]; simpa using HC.out⟩
          | false =>
            rw [hfj] at t0 HLF
            clear hfj
            obtain ⟨q0, q1⟩ := HC.out.t.c2
            have hown := HC.out.o2
            have hsz := Bk.lt HC.out.d
            go_wp2_with (at_builtin; refine wpList_append_lies _ rfl _ _ 25 rfl (w.heap.size + 3) 3 i0 _ 1 8 Try.underlying25 hi0 hz0 hz1 hz2 rfl (by decide) _ _ _ rfl (hown.alloc _) ⟨wr.heap.size, 0, none⟩ 1 1 [.int .i64 (j : Int)] rfl rfl (cell_one_new _ _ _) (by intro u hu; simp at hu; subst hu; rfl) (by decide) (by unfold maxLen; omega) (by omega) (by simp; omega) _ rfl ?_; intro gg cc w7 hown7 hgrow7 hat7 hlt7; have T7 := (HC.out.step (below1 _ (.cells #[.int .i64 (j : Int)] 3))).t.grown hgrow7 (own_ne hown (by omega)); obtain ⟨q2, q3⟩ := T7.c2; have q4 := T7.f 1)
            go_roundg g
            case measure => omega
            case rel =>
              refine ⟨j + 1, .slice (some ⟨gg, 0, none⟩) ((lft j OA).length + 1) cc, by omega, by simp, ?_⟩
              rw [HLF.out]
              refine Co.put2 HC.out hgrow7 ?_ ?_
              · simpa using hown7
              · rcases hat7 with e | e
                · exact .inl e.symm
                · exact .inr ⟨gg, rfl, by rw [e]; simp⟩
end Go.Proofs.Ytblpafmcnhhdpaa
