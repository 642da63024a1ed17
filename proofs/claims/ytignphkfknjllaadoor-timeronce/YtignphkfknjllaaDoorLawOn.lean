/- Each timer fires once, at its tick, and Next tells the first one; the conditions: the script in memory, of a size that can be. -/
import Derived.Test.YtignphkfknjllaaDoorOna
namespace Go.Proofs.YtignphkfknjllaaDoor
open Go.RowKit

theorem gt_eq {T U : Nat} (h : T ≤ U) (hU : U ≤ 1099511627776) : gt T (U : Int) = U := by unfold gt; omega
set_option maxRecDepth 100000 in
set_option maxHeartbeats 4000000 in
theorem law_once (x0 : Int) (S : List (Int × Int × Int)) (ad : Option Addr) (cap : Nat) (w : World) (hS : Sc w ad S) (hl : S.length ≤ 5864062014805) (hT : Tb w) (h0 : 0 < w.heap.size) :
    Calls Tryd.prog 5 #[.int .i64 x0, .slice ad S.length cap] w fun e w' => e = .returned (.bool true) ∧ Below w.heap.size w w' := by
  have HSA := Lib.hid (set_any (zf := true) x0 S ad cap w hS (by omega))
  have HT := Lib.hid hT
  clear hS hT
  go_enter Tryd.func5, Tryd.ntmps5
  go_wp2_with fail
  refine HSA.out.mono ?_
  rintro e wA ⟨b, m, LL, rfl, nA⟩
  have zA := nA.2.2.1.size
  have LEN : LL.length ≤ S.length := by have := congrArg List.length nA.2.1; rw [List.length_map] at this; rw [this]; exact setP_len _ _
  have hlo : ∀ t ∈ LL, t0 x0 < t.a := fun t ht => (nA.1.lo t ht).1
  have HND := Lib.hid nA.1.nd
  have hOw : Hid (∀ B, OwL b m LL B → w.heap.size ≤ B ∧ B < wA.heap.size) := Lib.hid (fun B hB => ⟨nA.2.2.2 B hB, nA.1.lt hB⟩)
  have ON := Lib.hid (On.mk (n2 := wA.heap.size) (by rw [lat_all hlo]; exact nA.1) (Fd.zero hlo) (IR.nil wA _) nA.2.2.1 (Nat.le_refl _))
  have HLn := Lib.hid (len_any nA.1)
  have HNw := Lib.hid (now_any nA.1)
  clear HSA nA hlo
  generalize t0 x0 = T at *
  go_wp2_with (first | (go_at_call 17; refine HLn.out.mono ?_; rintro e w9 ⟨rfl, hw9⟩; rw [hw9]; clear hw9 w9) | (go_at_call 13; refine HNw.out.mono ?_; rintro e w9 ⟨rfl, hw9⟩; rw [hw9]; clear hw9 w9))
  clear HLn HNw
  obtain ⟨n2, hN2⟩ : ∃ n2, n2 = wA.heap.size := ⟨_, rfl⟩
  rw [← hN2] at ON hOw zA
  clear hN2
  go_loopw [7, 8, 9] (fun s7 s8 s9 wr => ∃ (O : List Tm) (Tc : Nat), s7 = .int .i64 O.length ∧ s8 = .int .i64 Tc ∧ On w w.heap.size n2 b m LL Tc O s9 wr) (fun s7 _ _ _ => LL.length - (intOf s7).toNat)
  case atStart => exact ⟨[], T, rfl, rfl, ON.out⟩
  case round =>
    obtain ⟨O, Tc, rfl, rfl, on⟩ := hrel
    clear ON
    have TBr := Lib.hid (HT.out.but (C := fun k => w.heap.size ≤ k) ⟨on.be.os, on.be.tape, on.be.output, on.be.size, fun k hk hc => on.be.block k (by omega)⟩ (by omega))
    have HLn := Lib.hid (len_any on.wh)
    have HNx := Lib.hid (next_any on.wh TBr.out)
    have hct := on.fd.count'
    have hTt := on.wh.t
    have hlt' : ∀ t ∈ lat Tc LL, Tc < t.a ∧ t.a ≤ 1099511627776 := on.wh.lo
    have ON := Lib.hid on
    clear on
    cases hLc : lat Tc LL with
    | nil =>
      rw [hLc] at hct HNx
      have hlen0 : O.length = LL.length := by simpa using hct
      have E0 := Lib.hid hlen0
      rw [hLc] at HLn
      clear hct hlen0 hLc hlt'
      go_wp2_with (go_at_call 17; refine HLn.out.mono ?_; rintro e w9 ⟨rfl, hw9⟩; rw [hw9]; clear hw9 w9)
      refine HNx.out.mono ?_
      rintro e w2 ⟨hnx, b2⟩
      rcases hnx with ⟨_, rfl⟩ | ⟨n, ⟨t, ht, _⟩, _⟩
      · have AW := Lib.hid (awake_any w2 (TBr.out.below b2) (by have := b2.size; have := ON.out.sz; omega))
        have BF := Lib.hid (ON.out.be.trans (b2.mono (by have := ON.out.sz; omega)))
        rw [E0.out]
        go_wp2_with (go_at_call 11; refine AW.out.mono ?_; rintro e w3 ⟨rfl, b3⟩)
        go_ret
        exact ⟨rfl, BF.out.trans (b3.mono BF.out.size)⟩
      · simp at ht
    | cons t0 r0 =>
      have hpos : 0 < (lat Tc LL).length := by rw [hLc]; simp
      have hpos' : (0 : Int) < (((lat Tc LL).length : Nat) : Int) := by omega
      have LCN := Lib.hid hLc
      clear hLc
      go_wp2_with (go_at_call 17; refine HLn.out.mono ?_; rintro e w9 ⟨rfl, hw9⟩; rw [hw9]; clear hw9 w9)
      refine HNx.out.mono ?_
      rintro e w2 ⟨hnx, b2⟩
      rcases hnx with ⟨c, _⟩ | ⟨n, hex, hmin, rfl⟩
      · rw [LCN.out] at c; cases c
      have hn1 : Tc < n ∧ n ≤ 1099511627776 := by
        obtain ⟨t, ht, e⟩ := hex
        have := hlt' t ht
        omega
      obtain ⟨hn1, hn2⟩ := hn1
      have on2 := ON.out.below zA b2
      have TB2 := TBr.out.below b2
      have hllc : (lat Tc LL).length ≤ 8796093022208 := by omega
      have h00 : ∀ U, ¬ OwL b m (lat U LL) 0 := fun U c => by have := (hOw.out 0 (lat_own c)).1; omega
      have em : ((n : Int) - 1) = ((n - 1 : Nat) : Int) := by omega
      have G1 := go_any on2.wh ((n : Int) - 1) hllc TB2 (h00 _)
      rw [show gt Tc ((n : Int) - 1) = n - 1 by rw [em]; exact gt_eq (by omega) (by omega)] at G1
      have G1h := Lib.hid G1
      have ON2 := Lib.hid on2
      have HEX := Lib.hid hex
      have HMIN := Lib.hid hmin
      have c1 : ¬ ((n : Int) ≤ (Tc : Int)) := by omega
      have TB2h := Lib.hid TB2
      have H00 := Lib.hid h00
      clear G1 on2 HNx HLn TBr ON hex hmin em hlt' TB2 h00 b2 LCN
      go_wp2_with fail
      refine G1h.out.mono ?_
      rintro e w3 ⟨sl3, F3, rfl, r1, r2, r3, r4⟩
      obtain ⟨rfl, on3⟩ := ON2.out.wait zA hOw.out (U := n - 1) (by omega) (fun t ht => by have := HMIN.out t ht; omega) r2 r3 r4
      have e3 := r1.2 rfl
      subst e3
      have TB3 := TB2h.out.but r4 (H00.out _)
      have hl3 : (lat (n - 1) LL).length ≤ 8796093022208 := by have : (lat (n - 1) LL).length ≤ LL.length := List.length_filter_le _ _; omega
      have G2 := go_any on3.wh (n : Int) hl3 TB3 (H00.out _)
      rw [show gt (n - 1) (n : Int) = n from gt_eq (by omega) (by omega)] at G2
      have G2h := Lib.hid G2
      have ON3 := Lib.hid on3
      clear G2 on3 G1h r1 r2 r3 r4 TB3 TB2h ON2
      go_wp2_with fail
      refine G2h.out.mono ?_
      rintro e w4 ⟨sl4, F, rfl, q1, q2, q3, q4⟩
      have hexn : ∃ t ∈ lat (n - 1) LL, t.a = n := by
        obtain ⟨t, ht, e⟩ := HEX.out
        exact ⟨t, mem_lat.2 ⟨(mem_lat.1 ht).1, by omega⟩, e⟩
      obtain ⟨hF, hFa, hfd, oi⟩ := ON3.out.fire zA hOw.out (U := n) (by omega) (fun t ht => by have := (mem_lat.1 ht).2; omega) hexn q1 q2 q3 q4
      obtain ⟨a4, c4, e4, -⟩ := oi.fr.sp
      rw [List.length_map] at e4
      subst e4
      have hFp : 0 < F.length := List.length_pos_iff.2 hF
      have hFz : (((F.length : Nat) : Int) == 0) = false := by simp; omega
      have hFz' : ((F.length : Nat) : Int) ≠ 0 := by omega
      have hcnt := hfd.count
      rw [List.length_append] at hcnt
      have hb1 : ((O.length : Nat) : Int) + ((F.length : Nat) : Int) ≤ 5864062014805 := by omega
      have NDA := Lib.hid (fd_nodup hfd HND.out)
      have HFA := Lib.hid hFa
      have HFD := Lib.hid hfd
      have OI := Lib.hid oi
      clear G2h ON3 q1 q2 q3 q4 hexn hF hFa hfd oi HEX HMIN
      go_wp2_with fail
      go_loopw [9, 13] (fun s9 s13 wi => ∃ j : Nat, j ≤ F.length ∧ s13 = .int .i64 j ∧ Oi w w.heap.size n2 b m LL n O F j s9 (.slice a4 F.length c4) wi) (fun _ s13 _ => F.length - (intOf s13).toNat)
      case atStart => exact ⟨0, Nat.zero_le _, rfl, OI.out⟩
      case round =>
        obtain ⟨j, hj, rfl, oi⟩ := hrel
        clear OI
        by_cases hjl : j < F.length
        · have hjl' : ((j : Nat) : Int) < ((F.length : Nat) : Int) := by omega
          obtain ⟨t, ht⟩ : ∃ t, F[j]? = some t := ⟨_, List.getElem?_eq_getElem hjl⟩
          obtain ⟨a5, c5, e5, sp5⟩ := oi.fr.sp
          rw [List.length_map] at e5
          simp only [Value.slice.injEq] at e5
          obtain ⟨rfl, _, rfl⟩ := e5
          rcases sp5 with h | ⟨g4, rfl, h4⟩
          · exfalso
            have := congrArg List.length h
            simp at this
            rw [this] at hjl
            simp at hjl
          obtain ⟨k0, k1⟩ := h4 j (kv t) (by rw [List.getElem?_map, ht]; rfl)
          have hta := HFA.out t (List.mem_of_getElem? ht)
          have k0' : wr.cell? ⟨g4, j * 2, none⟩ = some (.int .i64 (n : Nat)) := by rw [← hta]; exact k0
          have k1' : wr.cell? ⟨g4, j * 2 + 1, none⟩ = some (.int .i64 t.i) := k1
          have hfr := fresh_id NDA.out ht
          obtain ⟨a9, c9, e9, hids⟩ := oi.ir.si
          have hIl : ((O ++ F.take j).map Tm.i).length + 1 ≤ 8796093022208 := by
            rw [List.length_map, List.length_append, List.length_take]
            omega
          have OI := Lib.hid oi
          clear k0 k1 h4 oi
          obtain ⟨I, hI⟩ : ∃ I, I = (O ++ F.take j).map Tm.i := ⟨_, rfl⟩
          rw [← hI] at e9 hids hfr hIl
          have HI := Lib.hid hI
          have HTA := Lib.hid hta
          have HTJ := Lib.hid ht
          have HFR := Lib.hid hfr
          clear hI hta ht hfr
          subst e9
          have hIl2 : I.length ≤ 9223372036854775807 := by omega
          go_wp2_with fail
          go_loopw [14] (fun s14 wk => ∃ k c : Nat, k ≤ I.length ∧ s14 = .int .i64 k ∧ wk = wr.drewN c) (fun s14 _ => I.length - (intOf s14).toNat)
          case atStart => exact ⟨0, 0, Nat.zero_le _, rfl, rfl⟩
          case round =>
            obtain ⟨k, c, hk, rfl, rfl⟩ := hrel
            by_cases hkl : k < I.length
            · have hkl' : ((k : Nat) : Int) < ((I.length : Nat) : Int) := by omega
              obtain ⟨x, hx⟩ : ∃ x, I[k]? = some x := ⟨_, List.getElem?_eq_getElem hkl⟩
              rcases hids with h | ⟨g9, rfl, h9⟩
              · rw [h] at hkl; simp at hkl
              have i9 := h9 k x hx
              have hxn := HFR.out k x hx
              have hxb : (x == t.i) = false := by simpa using hxn
              clear h9 hx hxn
              go_wp2_with fail
              go_quiet (fail)
              go_wp2_with fail
              exact ⟨⟨k + 1, c + nq, by omega, by go_num, rfl⟩, by simp [intOf]; omega⟩
            · have hkl' : ¬ ((k : Nat) : Int) < ((I.length : Nat) : Int) := by omega
              have oiD := OI.out.like (Like.drewN wr c)
              have B5 := below1 (wr.drewN c) (.cells #[.int .i64 t.i] 2)
              have Y5 := Bk.new (wr.drewN c) #[.int .i64 t.i] 2
              have oi5 := oiD.below zA B5
              have IR5 := Lib.hid (show IR ((wr.drewN c).alloc (.cells #[.int .i64 t.i] 2)) n2 I (.slice a9 I.length c9) by rw [HI.out]; have := oi5.ir; rw [HI.out] at this; exact this)
              have OI5 := Lib.hid oi5
              have sz5 : n2 ≤ ((wr.drewN c).alloc (.cells #[.int .i64 t.i] 2)).heap.size := oi5.sz
              have NXT : Hid (∀ sl6 w6, IR w6 n2 (I ++ [t.i]) sl6 → ((wr.drewN c).alloc (.cells #[.int .i64 t.i] 2)).grownBy w6 (Value.slice a9 I.length c9).ownBlock → Oi w w.heap.size n2 b m LL n O F (j + 1) sl6 (.slice (some ⟨g4, 0, none⟩) F.length c4) w6 ∧ w6.cell? ⟨g4, j * 2, none⟩ = some (.int .i64 (n : Nat)) ∧ w6.cell? ⟨g4, j * 2 + 1, none⟩ = some (.int .i64 t.i) ∧ Calls Tryd.prog 19 #[.pointer (some ⟨b, 0, none⟩), .int .i64 t.i] w6 fun e w' => e = .returned (.bool false) ∧ w' = w6) := Lib.hid (fun sl6 w6 f6 g6 => by
                have oi6 := OI5.out.step zA hOw.out HTJ.out (by rw [← HI.out]; exact f6) g6
                obtain ⟨a7, c7, e7, sp7⟩ := oi6.fr.sp
                simp only [Value.slice.injEq] at e7
                obtain ⟨e7, -, -⟩ := e7
                subst e7
                rcases sp7 with h | ⟨g7, e8, h7⟩
                · exfalso
                  have := congrArg List.length h
                  rw [List.length_map] at this
                  simp at this
                  rw [this] at hjl
                  simp at hjl
                · cases e8
                  obtain ⟨m0, m1⟩ := h7 j (kv t) (by rw [List.getElem?_map, HTJ.out]; rfl)
                  refine ⟨oi6, by rw [← HTA.out]; exact m0, m1, cancel_no oi6.wh t.i (fd_gone HFD.out HND.out ?_)⟩
                  exact List.mem_append_right _ (List.mem_of_getElem? HTJ.out))
              clear oiD B5 oi5 hids OI5
              go_wp2_with (at_builtin; refine wpList_ir rfl _ _ rfl n2 I _ rfl IR5.out _ t.i rfl Y5 hIl sz5 ?_; intro sl6 w6 f6 g6; obtain ⟨x6, x0, x1, x2⟩ := NXT.out sl6 w6 f6 g6; have X6 := Lib.hid x6; have X2 := Lib.hid x2; clear x6 x2 f6 g6)
              refine X2.out.mono ?_
              rintro e w9 ⟨rfl, hw9⟩
              rw [hw9]
              clear hw9 w9
              go_wp2_with fail
              exact ⟨⟨j + 1, by omega, by go_num, X6.out⟩, by simp [intOf]; omega⟩
        · have hjl' : ¬ ((j : Nat) : Int) < ((F.length : Nat) : Int) := by omega
          obtain rfl : j = F.length := by omega
          have OI := Lib.hid oi
          clear oi
          go_wp2_with fail
          refine ⟨⟨O ++ F, n, by rw [List.length_append]; go_num, rfl, OI.out.end' HFD.out⟩, ?_⟩
          simp [intOf]
          omega
end Go.Proofs.YtignphkfknjllaaDoor
