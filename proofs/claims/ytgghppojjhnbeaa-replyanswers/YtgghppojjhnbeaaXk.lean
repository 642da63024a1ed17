/- ReplyOnce, over what it asks of the package; the conditions that each theorem names. -/
import Derived.Test.YtgghppojjhnbeaaXj
namespace Go.Proofs.Ytgghppojjhnbeaa
open Go.RowKit

theorem Rw.far {w : World} {r r2 : Nat} {nx : Int} {sv : Value} {L : List Ak} {em em' : List (Int × Int)} {wx wy : World} (h : Rw w r nx sv L em wx) (hr : w.heap.size < r2) (hne : r ≠ r2) (hm : Lm wx r2 em') (hg : wx.grownBy wy (some r2)) : Rw w r nx sv L em wy :=
  ⟨⟨hg.os.trans h.below.os, hg.tape.trans h.below.tape, hg.output.trans h.below.output, Nat.le_trans h.below.size hg.size, fun k hk => (hg.block k (Nat.lt_of_lt_of_le hk h.below.size) (by simp; omega)).trans (h.below.block k hk)⟩, h.st.grown hg (by simp; omega), h.m.heap (hg.block r h.m.lt (by simpa using hne)), al_map h.al hm hg⟩
theorem cnt_take (n : Int) (L : List Ak) (i : Nat) (a : Ak) (hi : L[i]? = some a) : cnt n (L.take (i + 1)) = cnt n (L.take i) + if a.co = n then 1 else 0 := by
  rw [List.take_add_one, hi]
  show cnt n (L.take i ++ [a]) = _
  rw [cnt_app, cnt_one]
theorem cnt_small (n : Int) (L : List Ak) (i : Nat) : 0 ≤ cnt n (L.take i) ∧ cnt n (L.take i) ≤ i := by
  refine ⟨cnt_pos _ _, ?_⟩
  unfold cnt
  have h1 := List.length_filter_le (fun a : Ak => decide (a.co = n)) (L.take i)
  rw [List.length_take] at h1
  omega
theorem md (x m : Int) (hm : 0 < m) : 0 ≤ (IntKind.u64.wrap x).tmod m ∧ (IntKind.u64.wrap x).tmod m < m := by
  have h0 : 0 ≤ IntKind.u64.wrap x := by
    simp only [IntKind.wrap, IntKind.signed, IntKind.bits, Bool.false_and, Bool.false_eq_true, if_false]
    exact Int.emod_nonneg _ (by decide)
  exact ⟨Int.tmod_nonneg _ h0, Int.tmod_lt_of_pos _ hm⟩
theorem w64 (n : Int) (h : -9223372036854775808 ≤ n ∧ n ≤ 9223372036854775807) : wrap64 n = n := by unfold wrap64; omega

set_option maxRecDepth 100000 in
set_option maxHeartbeats 8000000 in
theorem law_once (KO : KOpe) (KA : KAns) (KE : KExp) (R : List Tn) (rv : Value) (w : World) (h : Rk Tn.cl 5 w rv R) (hl : R.length ≤ 4611686018427387904) :
    Calls Try.prog 4 #[rv] w fun e w' => e = .returned (.bool true) ∧ Below w.heap.size w w' := by
  have HAW : Hid (∀ wx, Calls Try.prog 6 #[] wx fun e w' => e = .returned (.bool true) ∧ Below wx.heap.size wx w') := Lib.hid fun wx => awake_any KO KA wx
  have HR := Lib.hid h
  obtain ⟨ad, cap, rfl, hrow⟩ := id h
  clear hrow h
  have b1 := below1 w (.cells #[.int .i64 0, .slice none 0 0] 24)
  have n1 := Bk.new w #[.int .i64 0, .slice none 0 0] 24
  obtain ⟨w1, hw1⟩ : ∃ w1, w1 = w.alloc (.cells #[.int .i64 0, .slice none 0 0] 24) := ⟨_, rfl⟩
  rw [← hw1] at b1 n1
  have HW1 := Lib.hid hw1.symm
  have z1 : w1.heap.size = w.heap.size + 1 := by rw [hw1]; simp
  have b2 := below1 w1 (.map #[] 0)
  obtain ⟨w2, hw2⟩ : ∃ w2, w2 = w1.alloc (.map #[] 0) := ⟨_, rfl⟩
  have m2 : Lm w2 (w.heap.size + 1) [] := ⟨#[], 0, by rw [hw2, ← z1]; exact heap_alloc_new w1 _, rfl⟩
  rw [← hw2] at b2
  have hmm : (Instr.makeMap 44 none).run Try.prog w1 = .ok (.map (some (w.heap.size + 1))) w2 := by
    rw [hw2, ← z1]
    simp [Instr.makeMap]
  have R2 : Rw w (w.heap.size + 1) 0 (.slice none 0 0) [] [] w2 := ⟨b1.trans (b2.mono (by omega)), n1.below b2, m2, ⟨none, 0, rfl, .inl rfl⟩⟩
  have HR2 := Lib.hid R2
  have HKO := Lib.hid KO
  have HKA := Lib.hid KA
  have HKE := Lib.hid KE
  clear hw1 hw2 b1 b2 n1 m2 R2 KO KA KE
  go_enter Try.func4, Try.ntmps4
  go_wp2_with (first | rw [HW1.out])
  clear hmm
  go_loopg [4, 5, 26] R.length (fun g s4 s5 s26 wx => ∃ (j : Nat) (nx now : Int) (sv : Value) (L : List Ak) (em : List (Int × Int)), j + g = R.length ∧ j ≤ 200 ∧ s26 = .int .i64 j ∧ s5 = .int .i64 nx ∧ s4 = .int .i64 now ∧ 0 ≤ now ∧ now ≤ 1099511627776 ∧ Iv j nx L (lw em) ∧ Rw w (w.heap.size + 1) nx sv L em wx)
  case atStart => exact ⟨0, 0, 0, _, [], [], by omega, by omega, rfl, rfl, rfl, by omega, by omega, Iv.start, HR2.out⟩
  case round =>
    obtain ⟨j, nx, now, sv, L, em, hjg, hj2, rfl, rfl, rfl, hn0, hn1, hI, hW⟩ := hrel
    have HI := Lib.hid hI
    have HWx := Lib.hid hW
    have hx0 := hI.nx0
    have hx1 := hI.nxi
    clear hI hW
    cases gk with
    | zero =>
      obtain rfl : j = R.length := by omega
      generalize wr = wt at *
      have HWt := Lib.hid HWx.out
      have HRt := Lib.hid HWt.out
      have b3 := below1 wt (.map #[] 0)
      obtain ⟨w3, hw3⟩ : ∃ w3, w3 = wt.alloc (.map #[] 0) := ⟨_, rfl⟩
      have m3 : Lm w3 wt.heap.size [] := ⟨#[], 0, by rw [hw3]; exact heap_alloc_new wt _, rfl⟩
      rw [← hw3] at b3
      have hmm : (Instr.makeMap 44 none).run Try.prog wt = .ok (.map (some wt.heap.size)) w3 := by
        rw [hw3]
        simp [Instr.makeMap]
      have H3 := Lib.hid (HRt.out.step b3)
      have hr2 : w.heap.size + 1 < wt.heap.size := HRt.out.m.lt
      obtain ⟨za2, zc2, ez, -⟩ := id HRt.out.al
      subst ez
      obtain ⟨d0, d1⟩ := H3.out.st.c2
      have HM3 := Lib.hid m3
      have hLl := HI.out.len
      clear hw3 m3 b3
      go_wp2_with fail
      clear d0 d1 hmm
      go_loopg [133] L.length (fun g4 s133 wx => ∃ (i : Nat) (wm : List (Int × Int)), i + g4 = L.length ∧ s133 = .int .i64 i ∧ Rw w (w.heap.size + 1) nx (.slice za2 L.length zc2) L em wx ∧ Lm wx wt.heap.size wm ∧ ∀ n, lw wm n = cnt n (L.take i))
      case atStart => exact ⟨0, [], by omega, rfl, H3.out, HM3.out, fun n => by simp [cnt_nil, lw]⟩
      case round =>
        obtain ⟨i, wm, hig, rfl, hR5, hM5, hl5⟩ := hrel
        have HR5 := Lib.hid hR5
        have HM5 := Lib.hid hM5
        have HL5 := Lib.hid hl5
        clear hR5 hM5 hl5
        cases gk with
        | zero =>
          obtain rfl : i = L.length := by omega
          go_wp2_with fail
          go_loopw [22] (fun s22 wx => ∃ n : Int, s22 = .int .i64 n ∧ 1 ≤ n ∧ n ≤ nx + 1 ∧ wx = wr) (fun s22 _ => (nx + 1 - intOf s22).toNat)
          case atStart => exact ⟨1, rfl, by omega, by omega, rfl⟩
          case round =>
            obtain ⟨n, rfl, hn1, hn2, rfl⟩ := hrel
            by_cases hle : n ≤ nx
            · have l1 := look_lm wr (w.heap.size + 1) em HR5.out.m n
              have l2 := look_lm wr wt.heap.size wm HM5.out n
              have s1 := HI.out.one n hn1 hle
              have s2 := HL5.out n
              rw [List.take_length] at s2
              have hsum : lw em n + lw wm n = 1 := by omega
              generalize lw em n = x1 at l1 hsum
              generalize lw wm n = x2 at l2 hsum
              clear s1 s2
              go_wp2_with fail
              go_roundw
              case rel => exact ⟨n + 1, by first | rfl | (rw [w64 _ (by omega)]), by omega, by omega, by first | rfl | trivial⟩
              case measure => simp [intOf]; omega
            · have hnle : ¬ n ≤ nx := hle
              go_wp2_with fail
              refine (HAW.out _).mono ?_
              rintro e wz ⟨rfl, bz⟩
              go_wp2_with fail
              go_ret
              exact ⟨rfl, HR5.out.below.trans (bz.mono HR5.out.below.size)⟩
        | succ g4 =>
          have hi : i < L.length := by omega
          obtain ⟨a, ha⟩ : ∃ a, L[i]? = some a := ⟨_, List.getElem?_eq_getElem hi⟩
          obtain ⟨xb, xo, xp, xe, xc⟩ := HR5.out.al.at (by omega)
          simp only [Value.slice.injEq, true_and] at xe
          obtain ⟨rfl, rfl⟩ := xe
          obtain ⟨c0, c1, c2⟩ := a3 (xc i a ha)
          have hii : (i : Int) < (L.length : Int) := by omega
          have b8 := below1 wr (.cells a.cs 41)
          have n8 := Bk.new wr a.cs 41
          obtain ⟨w8, hw8'⟩ : ∃ w8, w8 = wr.alloc (.cells a.cs 41) := ⟨_, rfl⟩
          rw [← hw8'] at b8 n8
          have HW8 := Lib.hid hw8'.symm
          obtain ⟨k0, k1, k2⟩ := a3 (b := wr.heap.size) (o := 0) (x := a) (fun q v hv => by rw [Nat.zero_add, n8.c q, ← Array.getElem?_toList]; exact hv)
          simp only [Nat.zero_add] at k1 k2
          have H8 := Lib.hid (HR5.out.step b8)
          have M8 := Lib.hid (HM5.out.heap (b8.block _ HM5.out.lt))
          have hlook := look_lm w8 wt.heap.size wm M8.out a.co
          obtain ⟨v, hv⟩ : ∃ v, lw wm a.co = v := ⟨_, rfl⟩
          have hvb : 0 ≤ v ∧ v ≤ 300 := by
            have g5 := cnt_small a.co L i
            have g6 := HL5.out a.co
            omega
          rw [hv] at hlook
          obtain ⟨w10, em10, hupd, hm10, hlw10, hg10, hs10⟩ := upd_lm w8 wt.heap.size wm M8.out a.co (v + 1)
          have H10 := Lib.hid (H8.out.far (by omega) (by omega) M8.out hg10)
          have M10 := Lib.hid hm10
          have L10 : Hid (∀ n, lw em10 n = cnt n (L.take (i + 1))) := Lib.hid fun n => by
            rw [hlw10 n, cnt_take n L i a ha]
            have g6 := HL5.out n
            by_cases en : n = a.co
            · subst en
              rw [if_pos rfl, if_pos rfl]
              omega
            · rw [if_neg en, if_neg (fun e => en e.symm)]
              omega
          clear xc ha hw8' n8 b8 hv hm10 hlw10 hg10 hs10
          go_wp2_with (first | rw [HW8.out])
          go_roundg g4
          case measure => omega
          case rel => exact ⟨i + 1, em10, by omega, (by first | (simp; done) | (rw [w64 _ (by omega)]; simp)), H10.out, M10.out, L10.out⟩
    | succ g =>
      have hj : j < R.length := by omega
      obtain ⟨t, ht⟩ : ∃ t, R[j]? = some t := ⟨_, List.getElem?_eq_getElem hj⟩
      obtain ⟨b, of, cp, e, hc⟩ := (HR.out.below HWx.out.below).at (by omega)
      simp only [Value.slice.injEq, true_and] at e
      obtain ⟨rfl, rfl⟩ := e
      obtain ⟨c0, c1, c2, c3, c4⟩ := t5 (hc j t ht)
      have hji : (j : Int) < (R.length : Int) := by omega
      have b5 := below1 wr (.cells t.cs 46)
      have n5 := Bk.new wr t.cs 46
      obtain ⟨w5, hw5⟩ : ∃ w5, w5 = wr.alloc (.cells t.cs 46) := ⟨_, rfl⟩
      rw [← hw5] at b5 n5
      have HW5 := Lib.hid hw5.symm
      obtain ⟨k0, k1, k2, k3, k4⟩ := t5 (b := wr.heap.size) (o := 0) (x := t) (fun q v hv => by rw [Nat.zero_add, n5.c q, ← Array.getElem?_toList]; exact hv)
      simp only [Nat.zero_add] at k1 k2 k3 k4
      have H5 := Lib.hid (HWx.out.step b5)
      have N5 := Lib.hid n5
      clear hc ht hw5 n5 b5
      by_cases h200 : 200 ≤ j
      · have h2i : (200 : Int) ≤ (j : Int) := by omega
        obtain ⟨wt, hwt⟩ : ∃ wt, wt = w5 := ⟨_, rfl⟩
        have HWt : Hid (Rw w (w.heap.size + 1) nx sv L em wt) := by rw [hwt]; exact H5
        have HW5' := HW5
        rw [← hwt] at HW5'
        clear hwt H5 N5 k0 k1 k2 k3 k4
        have HRt := Lib.hid HWt.out
        have b3 := below1 wt (.map #[] 0)
        obtain ⟨w3, hw3⟩ : ∃ w3, w3 = wt.alloc (.map #[] 0) := ⟨_, rfl⟩
        have m3 : Lm w3 wt.heap.size [] := ⟨#[], 0, by rw [hw3]; exact heap_alloc_new wt _, rfl⟩
        rw [← hw3] at b3
        have hmm : (Instr.makeMap 44 none).run Try.prog wt = .ok (.map (some wt.heap.size)) w3 := by
          rw [hw3]
          simp [Instr.makeMap]
        have H3 := Lib.hid (HRt.out.step b3)
        have hr2 : w.heap.size + 1 < wt.heap.size := HRt.out.m.lt
        obtain ⟨za2, zc2, ez, -⟩ := id HRt.out.al
        subst ez
        obtain ⟨d0, d1⟩ := H3.out.st.c2
        have HM3 := Lib.hid m3
        have hLl := HI.out.len
        clear hw3 m3 b3
        go_wp2_with (first | rw [HW5'.out])
        clear d0 d1 hmm
        go_loopg [133] L.length (fun g4 s133 wx => ∃ (i : Nat) (wm : List (Int × Int)), i + g4 = L.length ∧ s133 = .int .i64 i ∧ Rw w (w.heap.size + 1) nx (.slice za2 L.length zc2) L em wx ∧ Lm wx wt.heap.size wm ∧ ∀ n, lw wm n = cnt n (L.take i))
        case atStart => exact ⟨0, [], by omega, rfl, H3.out, HM3.out, fun n => by simp [cnt_nil, lw]⟩
        case round =>
          obtain ⟨i, wm, hig, rfl, hR5, hM5, hl5⟩ := hrel
          have HR5 := Lib.hid hR5
          have HM5 := Lib.hid hM5
          have HL5 := Lib.hid hl5
          clear hR5 hM5 hl5
          cases gk with
          | zero =>
            obtain rfl : i = L.length := by omega
            go_wp2_with fail
            go_loopw [22] (fun s22 wx => ∃ n : Int, s22 = .int .i64 n ∧ 1 ≤ n ∧ n ≤ nx + 1 ∧ wx = wr) (fun s22 _ => (nx + 1 - intOf s22).toNat)
            case atStart => exact ⟨1, rfl, by omega, by omega, rfl⟩
            case round =>
              obtain ⟨n, rfl, hn1, hn2, rfl⟩ := hrel
              by_cases hle : n ≤ nx
              · have l1 := look_lm wr (w.heap.size + 1) em HR5.out.m n
                have l2 := look_lm wr wt.heap.size wm HM5.out n
                have s1 := HI.out.one n hn1 hle
                have s2 := HL5.out n
                rw [List.take_length] at s2
                have hsum : lw em n + lw wm n = 1 := by omega
                generalize lw em n = x1 at l1 hsum
                generalize lw wm n = x2 at l2 hsum
                clear s1 s2
                go_wp2_with fail
                go_roundw
                case rel => exact ⟨n + 1, by first | rfl | (rw [w64 _ (by omega)]), by omega, by omega, by first | rfl | trivial⟩
                case measure => simp [intOf]; omega
              · have hnle : ¬ n ≤ nx := hle
                go_wp2_with fail
                refine (HAW.out _).mono ?_
                rintro e wz ⟨rfl, bz⟩
                go_wp2_with fail
                go_ret
                exact ⟨rfl, HR5.out.below.trans (bz.mono HR5.out.below.size)⟩
          | succ g4 =>
            have hi : i < L.length := by omega
            obtain ⟨a, ha⟩ : ∃ a, L[i]? = some a := ⟨_, List.getElem?_eq_getElem hi⟩
            obtain ⟨xb, xo, xp, xe, xc⟩ := HR5.out.al.at (by omega)
            simp only [Value.slice.injEq, true_and] at xe
            obtain ⟨rfl, rfl⟩ := xe
            obtain ⟨c0, c1, c2⟩ := a3 (xc i a ha)
            have hii : (i : Int) < (L.length : Int) := by omega
            have b8 := below1 wr (.cells a.cs 41)
            have n8 := Bk.new wr a.cs 41
            obtain ⟨w8, hw8'⟩ : ∃ w8, w8 = wr.alloc (.cells a.cs 41) := ⟨_, rfl⟩
            rw [← hw8'] at b8 n8
            have HW8 := Lib.hid hw8'.symm
            obtain ⟨k0, k1, k2⟩ := a3 (b := wr.heap.size) (o := 0) (x := a) (fun q v hv => by rw [Nat.zero_add, n8.c q, ← Array.getElem?_toList]; exact hv)
            simp only [Nat.zero_add] at k1 k2
            have H8 := Lib.hid (HR5.out.step b8)
            have M8 := Lib.hid (HM5.out.heap (b8.block _ HM5.out.lt))
            have hlook := look_lm w8 wt.heap.size wm M8.out a.co
            obtain ⟨v, hv⟩ : ∃ v, lw wm a.co = v := ⟨_, rfl⟩
            have hvb : 0 ≤ v ∧ v ≤ 300 := by
              have g5 := cnt_small a.co L i
              have g6 := HL5.out a.co
              omega
            rw [hv] at hlook
            obtain ⟨w10, em10, hupd, hm10, hlw10, hg10, hs10⟩ := upd_lm w8 wt.heap.size wm M8.out a.co (v + 1)
            have H10 := Lib.hid (H8.out.far (by omega) (by omega) M8.out hg10)
            have M10 := Lib.hid hm10
            have L10 : Hid (∀ n, lw em10 n = cnt n (L.take (i + 1))) := Lib.hid fun n => by
              rw [hlw10 n, cnt_take n L i a ha]
              have g6 := HL5.out n
              by_cases en : n = a.co
              · subst en
                rw [if_pos rfl, if_pos rfl]
                omega
              · rw [if_neg en, if_neg (fun e => en e.symm)]
                omega
            clear xc ha hw8' n8 b8 hv hm10 hlw10 hg10 hs10
            go_wp2_with (first | rw [HW8.out])
            go_roundg g4
            case measure => omega
            case rel => exact ⟨i + 1, em10, by omega, (by first | (simp; done) | (rw [w64 _ (by omega)]; simp)), H10.out, M10.out, L10.out⟩
      · have h2i : ¬ (200 : Int) ≤ (j : Int) := by omega
        obtain ⟨q8, hq8⟩ : ∃ q, (IntKind.u64.wrap t.la).tmod 8 = q := ⟨_, rfl⟩
        obtain ⟨q3, hq3⟩ : ∃ q, (IntKind.u64.wrap t.op).tmod 3 = q := ⟨_, rfl⟩
        obtain ⟨q40, hq40⟩ : ∃ q, (IntKind.u64.wrap t.un).tmod 40 = q := ⟨_, rfl⟩
        have m8 := md t.la 8 (by decide)
        have m3 := md t.op 3 (by decide)
        have m40 := md t.un 40 (by decide)
        rw [hq8] at m8
        rw [hq3] at m3
        rw [hq40] at m40
        have hw8 : wrap64 q8 = q8 := w64 _ (by omega)
        have hw8' : wrap64 (now + q8) = now + q8 := w64 _ (by omega)
        have hw40 : wrap64 q40 = q40 := w64 _ (by omega)
        obtain ⟨nw, hnw⟩ : ∃ nw, min (now + q8) 1099511627776 = nw := ⟨_, rfl⟩
        have hnwb : 0 ≤ nw ∧ nw ≤ 1099511627776 := by omega
        have hfs := HI.out.fitS (by omega)
        have HFS := Lib.hid hfs
        have HNW := Lib.hid hnwb
        obtain ⟨d0, d1⟩ := H5.out.st.c2
        obtain ⟨za, zc, rfl, -⟩ := id HWx.out.al
        clear hfs hnwb
        have h3 : q3 = 0 ∨ q3 = 1 ∨ q3 = 2 := by omega
        rcases h3 with rfl | rfl | rfl
        · obtain ⟨hF, hI2⟩ := HI.out.open (by omega) t.tp q40 (by omega)
          obtain ⟨L2, hL2⟩ : ∃ L2, L2 = L ++ [⟨nx + 1, q40, t.tp⟩] := ⟨_, rfl⟩
          rw [← hL2] at hI2
          have K := Lib.hid (HKO.out nx _ L t.tp q40 w5 H5.out.al HFS.out (by omega))
          have e1 : opN nx L = nx + 1 := by unfold opN; rw [hF]; rfl
          have e2 : opR nx L = nx + 1 := by unfold opR; rw [hF]; rfl
          have e3 : opE nx L = 0 := by unfold opE; rw [hF]; rfl
          have e4 : opL nx L t.tp q40 = L2 := by unfold opL; rw [hF, hL2]; rfl
          rw [e1, e2, e3, e4] at K
          have HI2 := Lib.hid hI2
          clear hF hI2 hL2 e1 e2 e3 e4
          go_wp2_with (first | rw [HW5.out])
          refine K.out.mono ?_
          rintro e w6 ⟨s2, rfl, a2, b6⟩
          obtain ⟨sa, sc, rfl, -⟩ := id a2
          have H6 := Lib.hid (H5.out.step b6)
          clear d0 d1 c0 c1 c2 c3 c4 k0 k1 k2 k3 k4 K
          obtain ⟨d0, d1⟩ := H6.out.st.c2
          have df := H6.out.st.f
          obtain ⟨w7, hw7⟩ : ∃ w7, w7 = (w6.setCell ⟨w.heap.size, 0, none⟩ (.int .i64 (nx + 1))).setCell ⟨w.heap.size, 1, none⟩ (.slice sa L2.length sc) := ⟨_, rfl⟩
          have HW7 := Lib.hid hw7.symm
          have H7 := Lib.hid (H6.out.set a2 (by omega) hw7)
          clear hw7 a2 b6
          go_wp2_with (first | rw [HW7.out])
          go_roundg g
          case measure => omega
          case rel => exact ⟨j + 1, nx + 1, nw, .slice sa L2.length sc, L2, em, by omega, by omega, by simp, rfl, rfl, HNW.out.1, HNW.out.2, HI2.out, H7.out⟩
        · have K := Lib.hid (HKA.out nx _ L t.co nw t.tp w5 H5.out.al HFS.out HNW.out)
          by_cases hm : ∃ x ∈ L, mtc t.co t.tp x = true
          · have hne : (anE nw t.co t.tp L != 230) = true := by simpa using anE_yes hm
            obtain ⟨e1, he1⟩ : ∃ e1, e1 = anE nw t.co t.tp L := ⟨_, rfl⟩
            obtain ⟨L2, hL2⟩ : ∃ L2, L2 = anL t.co t.tp L := ⟨_, rfl⟩
            have hlz : lw em t.co = 0 := by
              obtain ⟨x, hx, hxm⟩ := hm
              have hxc : x.co = t.co ∧ x.tp = t.tp := by simpa [mtc] using hxm
              have g1 := fitL_low 0 L HI.out.fit x hx
              have g2 := HI.out.one t.co (by omega) (by omega)
              have g3 := cnt_le t.co 0 L HI.out.fit
              have g4 := cnt_mem hx hxc.1
              omega
            have HM := Lib.hid hm
            rw [← he1, ← hL2] at K
            rw [← he1] at hne
            have HL2 := Lib.hid hL2
            clear hm he1 hL2
            go_wp2_with (first | rw [HW5.out])
            refine K.out.mono ?_
            rintro e w6 ⟨s2, rfl, a2, b6⟩
            obtain ⟨sa, sc, rfl, -⟩ := id a2
            have H6 := Lib.hid (H5.out.step b6)
            clear d0 d1 c0 c1 c2 c3 c4 k0 k1 k2 k3 k4 K
            obtain ⟨d0, d1⟩ := H6.out.st.c2
            have df := H6.out.st.f
            obtain ⟨w7, hw7⟩ : ∃ w7, w7 = (w6.setCell ⟨w.heap.size, 0, none⟩ (.int .i64 nx)).setCell ⟨w.heap.size, 1, none⟩ (.slice sa L2.length sc) := ⟨_, rfl⟩
            have HW7 := Lib.hid hw7.symm
            have H7 := Lib.hid (H6.out.set a2 (by omega) hw7)
            have hlt5 := HWx.out.below.size
            have hst := HWx.out.st.lt
            have n7 : Bk w7 wr.heap.size t.cs 46 := by rw [hw7]; exact ((N5.out.below b6).other _ _ (by simp; omega)).other _ _ (by simp; omega)
            have k1 : w7.cell? ⟨wr.heap.size, 1, none⟩ = some (.int .i64 t.co) := n7.c 1
            have hlook := look_lm w7 (w.heap.size + 1) em H7.out.m t.co
            rw [hlz] at hlook
            obtain ⟨w8, em8, hupd, hm8, hlw8, hg8, hs8⟩ := upd_lm w7 (w.heap.size + 1) em H7.out.m t.co 1
            have H8 := Lib.hid (H7.out.upd (by omega) hm8 hg8)
            have HI8 := Lib.hid (HI.out.answer t.co t.tp HM.out (em' := lw em8) (fun n => by rw [hlw8 n, hlz]; rfl))
            rw [← HL2.out] at HI8
            clear hw7 a2 b6 n7 hm8 hlw8 hg8 hs8 hlz
            go_wp2_with (first | rw [HW7.out])
            go_roundg g
            case measure => omega
            case rel => exact ⟨j + 1, nx, nw, .slice sa L2.length sc, L2, em8, by omega, by omega, by simp, rfl, rfl, HNW.out.1, HNW.out.2, HI8.out, H8.out⟩
          · obtain ⟨g1, g2⟩ := anE_no (now := nw) (co := t.co) (tp := t.tp) (L := L) (fun x hx => by
              cases hxm : mtc t.co t.tp x with
              | false => rfl
              | true => exact absurd ⟨x, hx, hxm⟩ hm)
            rw [g1, g2] at K
            clear hm g1 g2
            go_wp2_with (first | rw [HW5.out])
            refine K.out.mono ?_
            rintro e w6 ⟨s2, rfl, a2, b6⟩
            obtain ⟨sa, sc, rfl, -⟩ := id a2
            have H6 := Lib.hid (H5.out.step b6)
            clear d0 d1 c0 c1 c2 c3 c4 k0 k1 k2 k3 k4 K
            obtain ⟨d0, d1⟩ := H6.out.st.c2
            have df := H6.out.st.f
            obtain ⟨w7, hw7⟩ : ∃ w7, w7 = (w6.setCell ⟨w.heap.size, 0, none⟩ (.int .i64 nx)).setCell ⟨w.heap.size, 1, none⟩ (.slice sa L.length sc) := ⟨_, rfl⟩
            have HW7 := Lib.hid hw7.symm
            have H7 := Lib.hid (H6.out.set a2 (by omega) hw7)
            clear hw7 a2 b6
            go_wp2_with (first | rw [HW7.out])
            go_roundg g
            case measure => omega
            case rel => exact ⟨j + 1, nx, nw, .slice sa L.length sc, L, em, by omega, by omega, by simp, rfl, rfl, HNW.out.1, HNW.out.2, HI.out.more, H7.out⟩
        · have bb := below1 w5 (.cells #[] 41)
          obtain ⟨w5b, hw5b⟩ : ∃ w5b, w5b = w5.alloc (.cells #[] 41) := ⟨_, rfl⟩
          rw [← hw5b] at bb
          have HW5b := Lib.hid hw5b.symm
          have H5b := Lib.hid (H5.out.step bb)
          have K := Lib.hid (HKE.out nx _ L nw w5b H5b.out.al HFS.out HNW.out)
          clear d0 d1 hw5b bb
          obtain ⟨d0, d1⟩ := H5b.out.st.c2
          have hbnd : ∀ n, -1 ≤ lw em n + 0 * n ∨ True := fun _ => .inr trivial
          obtain ⟨X, hX⟩ : ∃ X, X = exL nw L := ⟨_, rfl⟩
          obtain ⟨G, hG⟩ : ∃ G, G = exG nw L := ⟨_, rfl⟩
          have hGl : G.length ≤ 200 := by rw [hG]; exact Nat.le_trans (List.length_filter_le _ _) (Nat.le_trans HI.out.len (by omega))
          have hXl : X.length ≤ 200 := by rw [hX]; exact Nat.le_trans (List.length_filter_le _ _) (Nat.le_trans HI.out.len (by omega))
          have hGm : ∀ a ∈ G, 0 < a.co ∧ a.co ≤ nx := fun a ha => by
            rw [hG] at ha
            exact fitL_low 0 L HI.out.fit a (List.mem_filter.1 ha).1
          have HGM := Lib.hid hGm
          rw [← hX, ← hG] at K
          have HX := Lib.hid hX
          have HG := Lib.hid hG
          clear hbnd hX hG hGm
          go_wp2_with (first | rw [HW5.out] | rw [HW5b.out])
          refine K.out.mono ?_
          rintro e w6 ⟨s2, s3, rfl, af, ag, b6⟩
          have a2 := af.al
          obtain ⟨sa, sc, rfl, -⟩ := id a2
          obtain ⟨ga, gc, rfl, -⟩ := id ag
          have H6 := Lib.hid (H5b.out.step b6)
          clear d0 d1 c0 c1 c2 c3 c4 k0 k1 k2 k3 k4 K
          obtain ⟨d0, d1⟩ := H6.out.st.c2
          have df := H6.out.st.f
          obtain ⟨w7, hw7⟩ : ∃ w7, w7 = (w6.setCell ⟨w.heap.size, 0, none⟩ (.int .i64 nx)).setCell ⟨w.heap.size, 1, none⟩ (.slice sa X.length sc) := ⟨_, rfl⟩
          have HW7 := Lib.hid hw7.symm
          have H7 := Lib.hid (H6.out.set a2 (by omega) hw7)
          have G7 := Lib.hid (show Al w7 (.slice ga G.length gc) G by rw [hw7]; exact al_set2 ag H6.out.st _ _)
          clear hw7 a2 b6 af ag
          go_wp2_with (first | rw [HW7.out])
          clear d0 d1 df
          generalize wr = wq at *
          go_loopg [98] G.length (fun g2 s98 wx => ∃ (i : Nat) (em2 : List (Int × Int)), i + g2 = G.length ∧ s98 = .int .i64 i ∧ Rw w (w.heap.size + 1) nx (.slice sa X.length sc) X em2 wx ∧ Al wx (.slice ga G.length gc) G ∧ ∀ n, lw em2 n = lw em n + cnt n (G.take i))
          case atStart => exact ⟨0, em, by omega, rfl, H7.out, G7.out, fun n => by simp [cnt_nil]⟩
          case round =>
            obtain ⟨i, em2, hig, rfl, hR2, hA2, hl2⟩ := hrel
            have HR3 := Lib.hid hR2
            have HA2 := Lib.hid hA2
            have HL2 := Lib.hid hl2
            clear hR2 hA2 hl2
            cases gk with
            | zero =>
              obtain rfl : i = G.length := by omega
              have HIe := Lib.hid (HI.out.expire nw (em' := lw em2) (fun n => by rw [HL2.out n, List.take_length, HG.out]))
              rw [← HX.out] at HIe
              obtain ⟨d0, d1⟩ := HR3.out.st.c2
              go_wp2_with fail
              clear d0 d1
              go_loopg [111] X.length (fun g3 s111 wx => ∃ i : Nat, i + g3 = X.length ∧ s111 = .int .i64 i ∧ Rw w (w.heap.size + 1) nx (.slice sa X.length sc) X em2 wx)
              case atStart => exact ⟨0, by omega, rfl, HR3.out⟩
              case round =>
                obtain ⟨i, hig3, rfl, hR4⟩ := hrel
                have HR4 := Lib.hid hR4
                clear hR4
                cases gk with
                | zero =>
                  obtain rfl : i = X.length := by omega
                  go_wp2_with fail
                  go_roundg g
                  case measure => omega
                  case rel => exact ⟨j + 1, nx, nw, .slice sa X.length sc, X, em2, by omega, by omega, by simp, rfl, rfl, HNW.out.1, HNW.out.2, HIe.out, HR4.out⟩
                | succ g3 =>
                  have hi : i < X.length := by omega
                  obtain ⟨a, ha⟩ : ∃ a, X[i]? = some a := ⟨_, List.getElem?_eq_getElem hi⟩
                  obtain ⟨xb, xo, xp, xe, xc⟩ := HR4.out.al.at (by omega)
                  simp only [Value.slice.injEq, true_and] at xe
                  obtain ⟨rfl, rfl⟩ := xe
                  obtain ⟨c0, c1, c2⟩ := a3 (xc i a ha)
                  have hii : (i : Int) < (X.length : Int) := by omega
                  have b8 := below1 wr (.cells a.cs 41)
                  have n8 := Bk.new wr a.cs 41
                  obtain ⟨w8, hw8'⟩ : ∃ w8, w8 = wr.alloc (.cells a.cs 41) := ⟨_, rfl⟩
                  rw [← hw8'] at b8 n8
                  have HW8 := Lib.hid hw8'.symm
                  obtain ⟨k0, k1, k2⟩ := a3 (b := wr.heap.size) (o := 0) (x := a) (fun q v hv => by rw [Nat.zero_add, n8.c q, ← Array.getElem?_toList]; exact hv)
                  simp only [Nat.zero_add] at k1 k2
                  have H8 := Lib.hid (HR4.out.step b8)
                  obtain ⟨d0, d1⟩ := H8.out.st.c2
                  have K := Lib.hid (HKA.out nx _ X a.co nw a.tp w8 H8.out.al (HIe.out.fitS (by omega)) HNW.out)
                  have e0 : anE nw a.co a.tp X = 0 := by
                    have hmem : a ∈ exL nw L := by rw [← HX.out]; exact List.mem_of_getElem? ha
                    rw [HX.out]
                    exact exp_ok hmem
                  rw [e0] at K
                  clear xc ha hw8' n8 b8 e0
                  go_wp2_with (first | rw [HW8.out])
                  refine K.out.mono ?_
                  rintro e w9 ⟨s9, rfl, a9, b9⟩
                  obtain ⟨sa9, sc9, rfl, -⟩ := id a9
                  have H9 := Lib.hid ((H8.out.step b9).step (below1 w9 (.cells #[.int .i64 nx, .slice sa9 (anL a.co a.tp X).length sc9] 24)))
                  clear c0 c1 c2 k0 k1 k2 d0 d1 K a9 b9
                  go_wp2_with fail
                  go_roundg g3
                  case measure => omega
                  case rel => exact ⟨i + 1, by omega, (by first | (simp; done) | (rw [w64 _ (by omega)]; simp)), H9.out⟩
            | succ g2 =>
              have hi : i < G.length := by omega
              obtain ⟨a, ha⟩ : ∃ a, G[i]? = some a := ⟨_, List.getElem?_eq_getElem hi⟩
              obtain ⟨xb, xo, xp, xe, xc⟩ := HA2.out.at (by omega)
              simp only [Value.slice.injEq, true_and] at xe
              obtain ⟨rfl, rfl⟩ := xe
              obtain ⟨c0, c1, c2⟩ := a3 (xc i a ha)
              have hii : (i : Int) < (G.length : Int) := by omega
              have b8 := below1 wr (.cells a.cs 41)
              have n8 := Bk.new wr a.cs 41
              obtain ⟨w8, hw8'⟩ : ∃ w8, w8 = wr.alloc (.cells a.cs 41) := ⟨_, rfl⟩
              rw [← hw8'] at b8 n8
              have HW8 := Lib.hid hw8'.symm
              obtain ⟨k0, k1, k2⟩ := a3 (b := wr.heap.size) (o := 0) (x := a) (fun q v hv => by rw [Nat.zero_add, n8.c q, ← Array.getElem?_toList]; exact hv)
              simp only [Nat.zero_add] at k1 k2
              have H8 := Lib.hid (HR3.out.step b8)
              have A8 := Lib.hid (HA2.out.below b8)
              have hlook := look_lm w8 (w.heap.size + 1) em2 H8.out.m a.co
              obtain ⟨v, hv⟩ : ∃ v, lw em2 a.co = v := ⟨_, rfl⟩
              have hvb : -1 ≤ v ∧ v ≤ 300 := by
                have g1 := HGM.out a (List.mem_of_getElem? ha)
                have g2 := HI.out.one a.co (by omega) (by omega)
                have g3 := cnt_le a.co 0 L HI.out.fit
                have g4 := cnt_pos a.co L
                have g5 := cnt_small a.co G i
                have g6 := HL2.out a.co
                omega
              rw [hv] at hlook
              obtain ⟨w10, em10, hupd, hm10, hlw10, hg10, hs10⟩ := upd_lm w8 (w.heap.size + 1) em2 H8.out.m a.co (v + 1)
              have H10 := Lib.hid (H8.out.upd (by omega) hm10 hg10)
              have A10 := Lib.hid (al_map A8.out H8.out.m hg10)
              have L10 : Hid (∀ n, lw em10 n = lw em n + cnt n (G.take (i + 1))) := Lib.hid fun n => by
                rw [hlw10 n, cnt_take n G i a ha]
                have g6 := HL2.out n
                by_cases en : n = a.co
                · subst en
                  rw [if_pos rfl, if_pos rfl]
                  omega
                · rw [if_neg en, if_neg (fun e => en e.symm)]
                  omega
              clear xc ha hw8' n8 b8 hv hm10 hlw10 hg10 hs10
              go_wp2_with (first | rw [HW8.out])
              go_roundg g2
              case measure => omega
              case rel => exact ⟨i + 1, em10, by omega, (by first | (simp; done) | (rw [w64 _ (by omega)]; simp)), H10.out, A10.out, L10.out⟩
end Go.Proofs.Ytgghppojjhnbeaa
