/- The token that begins at a place: next; what is asked: the bytes lie in memory, and the package's variables as their text lays them. -/
import Derived.Test.YteohpiamfpnofabDoorSj
namespace Go.Proofs.YteohpiamfpnofabDoor
open Go.RowKit Go.Maps

theorem oneV_ret (p : Nat) (r : One) : ∃ (A B C D E : Int) (S : ByteArray), oneV p r = .tuple #[.agg #[.int .i64 A, .int .i64 B, .int .i64 C, .int .u64 D, .string S], .int .i64 E] := by
  cases r <;> exact ⟨_, _, _, _, _, _, rfl⟩

set_option maxRecDepth 100000 in
set_option maxHeartbeats 4000000 in
theorem next_any (b o c p : Nat) (l : Bs) (w : World) (hl : Byt w b o l) (hb : b < w.heap.size) (hp : p < l.length) (hs : l.length ≤ 65536) (hc : l.length ≤ c) (hv : Sv w) :
    Calls Tryd.prog 7 #[.slice (some ⟨b, o, none⟩) l.length c, .int .i64 p] w fun e w' => e = .returned (oneV p (one (l.drop p))) ∧ Below w.heap.size w w' := by
  have HB := Lib.hid (below1 w (.cells #[.int .i64 0, .int .i64 0, .int .i64 0, .int .u64 0, .string ⟨#[]⟩] 32))
  have HV := hv.below HB.out (Nat.le_refl _)
  have hb1 := Nat.lt_of_lt_of_le hb HB.out.size
  have HC := hl.below HB.out hb
  have c1 := HC p hp
  have hd := drop_cons_of hp
  generalize l[p] = x at c1 hd
  have K1 := Lib.hid (fun h => number_any b o c p l (tz w) HC hb1 hp hs hc HV h)
  have K2 := Lib.hid (fun h => word_any b o c p l (tz w) HC hb1 hp hs hc HV h)
  have K3 := Lib.hid (fun t h => text_any b o c p l t (tz w) HC hb1 hp hs hc h)
  have K4 := Lib.hid (mark_any b o c p l (tz w) HC hb1 hp hs hc HV)
  have HL : Hid (∀ W, Below (tz w).heap.size (tz w) W → T5 W w.heap.size (.int .i64 0) (.int .i64 0) (.int .i64 0) (.int .u64 0) (.string ⟨#[]⟩)) := fun W h => (T5.new w).below h (by simp)
  have HD := Lib.hid hd
  have HO : Hid (one (l.drop p) = if dig x then numT ((l.drop p).takeWhile dig) else if ltr x then wrdT ((l.drop p).takeWhile wch) else if x.toNat = 34 then txtT (l.drop (p + 1)) else mrkT (l.drop p)) := by
    show one (l.drop p) = _
    rw [hd]; rfl
  have b1 : (bits BinOp.and IntKind.u8 ((cls x : Nat) : Int) 1 != 0) = dig x := cls_num x
  have b2 : (bits BinOp.and IntKind.u8 ((cls x : Nat) : Int) 2 != 0) = wch x := cls_wrd x
  generalize l.length = n at hp hs hc K1 K2 K3 K4
  clear hl hb hv HV hb1 HC hd
  have B2 : Hid (∀ W, Below (tz w).heap.size (tz w) W → Below w.heap.size w W) := fun W h => HB.out.trans (h.mono (by simp))
  have hpos : Hid (dig x = true → 0 < ((l.drop p).takeWhile dig).length) := fun h => by rw [HD.out, List.takeWhile_cons, if_pos h]; simp
  have hpos2 : Hid (ltr x = true → 0 < ((l.drop p).takeWhile wch).length) := fun h => by rw [HD.out, List.takeWhile_cons, if_pos (by simp [wch, h])]; simp
  obtain ⟨G, hG⟩ : ∃ G, one (l.drop p) = G := ⟨_, rfl⟩
  rw [hG]
  have HG := Lib.hid hG
  clear hG
  obtain ⟨A, B', C, D, E, S, hV⟩ := oneV_ret p G
  rw [hV]
  by_cases h1 : dig x = true
  · have HX : Hid (numT ((l.drop p).takeWhile dig) = G) := by show _ = _; rw [← HG.out, HO.out, if_pos h1]
    rw [h1] at b1
    have KK := Lib.hid (K1.out (hpos.out h1))
    rw [HX.out, hV] at KK
    clear K1 K2 K3 K4 HO HG HX hpos hpos2 hV HD
    go_enter Tryd.func7, Tryd.ntmps7
    go_wp2_with fail
    refine (classOf_any x _).mono ?_
    rintro e w2 ⟨rfl, h2⟩
    have h2' := h2.symm
    subst h2'
    go_wp2_with fail
    refine KK.out.mono ?_
    rintro e w3 ⟨rfl, b3⟩
    obtain ⟨c0, c1, c2, c3, c4⟩ := (HL.out w3 b3).c
    have fz : ∀ o, w3.frozen? ⟨w.heap.size, o, none⟩ = false := fun o => (HL.out w3 b3).f
    go_wp2_with fail
    have B := B2.out _ b3
    refine bodyPost_ret (v := .tuple #[.agg #[.int .i64 A, .int .i64 B', .int .i64 C, .int .u64 D, .string S], .int .i64 E]) (by simp [results, Tryd.results7, go_sem, World.cell?_setCell_same, World.cell?_setCell_other, c0, c1, c2, c3, c4]) rfl ⟨rfl, ((((B.setCell (Nat.le_refl _) _).setCell (Nat.le_refl _) _).setCell (Nat.le_refl _) _).setCell (Nat.le_refl _) _).setCell (Nat.le_refl _) _⟩
  · have h1' : dig x = false := by simpa using h1
    rw [h1'] at b1
    by_cases h2 : ltr x = true
    · have HX : Hid (wrdT ((l.drop p).takeWhile wch) = G) := by show _ = _; rw [← HG.out, HO.out, if_neg h1, if_pos h2]
      have h3 : wch x = true := by simp [wch, h2]
      rw [h3] at b2
      have KK := Lib.hid (K2.out (hpos2.out h2))
      rw [HX.out, hV] at KK
      clear K1 K2 K3 K4 HO HG HX hpos hpos2 hV HD
      go_enter Tryd.func7, Tryd.ntmps7
      go_wp2_with fail
      refine (classOf_any x _).mono ?_
      rintro e w2 ⟨rfl, h2⟩
      have h2' := h2.symm
      subst h2'
      go_wp2_with fail
      refine KK.out.mono ?_
      rintro e w3 ⟨rfl, b3⟩
      obtain ⟨c0, c1, c2, c3, c4⟩ := (HL.out w3 b3).c
      have fz : ∀ o, w3.frozen? ⟨w.heap.size, o, none⟩ = false := fun o => (HL.out w3 b3).f
      go_wp2_with fail
      have B := B2.out _ b3
      refine bodyPost_ret (v := .tuple #[.agg #[.int .i64 A, .int .i64 B', .int .i64 C, .int .u64 D, .string S], .int .i64 E]) (by simp [results, Tryd.results7, go_sem, World.cell?_setCell_same, World.cell?_setCell_other, c0, c1, c2, c3, c4]) rfl ⟨rfl, ((((B.setCell (Nat.le_refl _) _).setCell (Nat.le_refl _) _).setCell (Nat.le_refl _) _).setCell (Nat.le_refl _) _).setCell (Nat.le_refl _) _⟩
    · have h3 : wch x = false := by simp [wch, h1', h2]
      rw [h3] at b2
      by_cases h4 : x.toNat = 34
      · have HX : Hid (txtT (l.drop (p + 1)) = G) := by show _ = _; rw [← HG.out, HO.out, if_neg h1, if_neg h2, if_pos h4]
        have h5 : x = 34 := UInt8.toNat_inj.1 h4
        have KK := Lib.hid (K3.out (l.drop (p + 1)) (by rw [HD.out, h5]))
        rw [HX.out, hV] at KK
        have q1 : ((x.toNat : Int) == 34) = true := by simp; omega
        clear h5 h4
        clear K1 K2 K3 K4 HO HG HX hpos hpos2 hV HD
        go_enter Tryd.func7, Tryd.ntmps7
        go_wp2_with fail
        refine (classOf_any x _).mono ?_
        rintro e w2 ⟨rfl, h2⟩
        have h2' := h2.symm
        subst h2'
        go_wp2_with fail
        refine KK.out.mono ?_
        rintro e w3 ⟨rfl, b3⟩
        obtain ⟨c0, c1, c2, c3, c4⟩ := (HL.out w3 b3).c
        have fz : ∀ o, w3.frozen? ⟨w.heap.size, o, none⟩ = false := fun o => (HL.out w3 b3).f
        go_wp2_with fail
        have B := B2.out _ b3
        refine bodyPost_ret (v := .tuple #[.agg #[.int .i64 A, .int .i64 B', .int .i64 C, .int .u64 D, .string S], .int .i64 E]) (by simp [results, Tryd.results7, go_sem, World.cell?_setCell_same, World.cell?_setCell_other, c0, c1, c2, c3, c4]) rfl ⟨rfl, ((((B.setCell (Nat.le_refl _) _).setCell (Nat.le_refl _) _).setCell (Nat.le_refl _) _).setCell (Nat.le_refl _) _).setCell (Nat.le_refl _) _⟩
      · have HX : Hid (mrkT (l.drop p) = G) := by show _ = _; rw [← HG.out, HO.out, if_neg h1, if_neg h2, if_neg h4]
        have KK := K4
        rw [HX.out, hV] at KK
        have q1 : ((x.toNat : Int) == 34) = false := by simp; omega
        clear h4
        clear K1 K2 K3 K4 HO HG HX hpos hpos2 hV HD
        go_enter Tryd.func7, Tryd.ntmps7
        go_wp2_with fail
        refine (classOf_any x _).mono ?_
        rintro e w2 ⟨rfl, h2⟩
        have h2' := h2.symm
        subst h2'
        go_wp2_with fail
        refine KK.out.mono ?_
        rintro e w3 ⟨rfl, b3⟩
        obtain ⟨c0, c1, c2, c3, c4⟩ := (HL.out w3 b3).c
        have fz : ∀ o, w3.frozen? ⟨w.heap.size, o, none⟩ = false := fun o => (HL.out w3 b3).f
        go_wp2_with fail
        have B := B2.out _ b3
        refine bodyPost_ret (v := .tuple #[.agg #[.int .i64 A, .int .i64 B', .int .i64 C, .int .u64 D, .string S], .int .i64 E]) (by simp [results, Tryd.results7, go_sem, World.cell?_setCell_same, World.cell?_setCell_other, c0, c1, c2, c3, c4]) rfl ⟨rfl, ((((B.setCell (Nat.le_refl _) _).setCell (Nat.le_refl _) _).setCell (Nat.le_refl _) _).setCell (Nat.le_refl _) _).setCell (Nat.le_refl _) _⟩
end Go.Proofs.YteohpiamfpnofabDoor
