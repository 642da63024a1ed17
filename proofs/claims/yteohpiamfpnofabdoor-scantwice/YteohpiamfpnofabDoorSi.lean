/- The token that begins at a place: texts, marks, next; what is asked: the bytes lie in memory, and the package's variables as their text lays them. -/
import Derived.Test.YteohpiamfpnofabDoorSh
import Derived.Test.YteohpiamfpnofabDoorSf
namespace Go.Proofs.YteohpiamfpnofabDoor
open Go.RowKit Go.Maps

theorem own_byt {W : World} {B g c : Nat} {d : Bs} {n : Nat} (h : Own W B (.slice (some ⟨g, 0, none⟩) n c) d) : Byt W g 0 d := by
  obtain ⟨h1, ⟨h2, h3⟩ | ⟨g', cap, cur, h2, h3, h4, h5, h6, h7, h8⟩⟩ := h
  · cases h2
  · cases h2
    intro i hi
    have h9 : (cur.toList.take (d.length * 1))[i]? = (d.map fun x => Value.int .u8 (x.toNat : Int))[i]? := by rw [h8]
    rw [List.getElem?_take_of_lt (by omega), List.getElem?_map, List.getElem?_eq_getElem hi] at h9
    simp only [World.cell?, h4, Nat.zero_add]
    simpa using h9
theorem conv_own {W : World} {B : Nat} {v : Value} {d : Bs} (h : Own W B v d) : (convert 22 9 v).run Tryd.prog W = .ok (.string (bs d)) W := by
  have h0 := h
  obtain ⟨h1, ⟨h2, h3⟩ | ⟨g', cap, cur, h2, h3, h4, h5, h6, h7, h8⟩⟩ := h
  · subst h2
    obtain rfl := List.length_eq_zero_iff.1 h3
    exact run_convert_bytes_nil W _ _ und22 und5 0 0 _ und9
  · subst h2
    have := conv_win (own_byt h0) 0 d.length cap (by omega)
    simpa using this

set_option maxRecDepth 100000 in
set_option maxHeartbeats 2000000 in
theorem text_any (b o c p : Nat) (l t : Bs) (w : World) (hl : Byt w b o l) (hb : b < w.heap.size) (hp : p < l.length) (hs : l.length ≤ 65536) (hc : l.length ≤ c) (ht : l.drop p = 34 :: t) :
    Calls Tryd.prog 17 #[.slice (some ⟨b, o, none⟩) l.length c, .int .i64 p] w fun e w' => e = .returned (oneV p (txtT t)) ∧ Below w.heap.size w w' := by
  have HB := Lib.hid (below1 w (.cells #[.int .i64 0, .int .i64 0, .int .i64 0, .int .u64 0, .string ⟨#[]⟩] 32))
  have hl1 := hl.below HB.out hb
  have htl : t.length + 1 = l.length - p := by
    have := congrArg List.length ht
    simp at this; omega
  have K1 := Lib.hid (fun hcc => unquoted_yes b (o + p) (c - p) t (tz w) (by have := hl1.drop p; rwa [ht] at this) (Nat.lt_of_lt_of_le hb HB.out.size) (by omega) hcc)
  rw [htl] at K1
  generalize l.length = n at hp hs hc K1 htl
  have HX := Lib.hid (fun q => txt_len t.length t (Nat.le_refl _) q)
  obtain ⟨R, hR⟩ : ∃ R, oneV p (txtT t) = R := ⟨_, rfl⟩
  rw [hR]
  have HR := Lib.hid hR
  clear hl hl1 hR hb ht
  have HL : Hid (∀ W, Below (tz w).heap.size (tz w) W → T5 W w.heap.size (.int .i64 0) (.int .i64 0) (.int .i64 0) (.int .u64 0) (.string ⟨#[]⟩)) := fun W h => (T5.new w).below h (by simp)
  cases hT : txt t with
  | none =>
    rw [hT] at K1
    go_enter Tryd.func17, Tryd.ntmps17
    go_wp2_with (first
      | (go_at_call 23; refine (K1.out (by omega)).mono ?_; rintro e w3 ⟨v, rfl, h4, h5, b3⟩; obtain rfl := h4 rfl; obtain ⟨c0, c1, c2, c3, c4⟩ := (HL.out w3 b3).c; have fz : ∀ o, w3.frozen? ⟨w.heap.size, o, none⟩ = false := fun o => (HL.out w3 b3).f))
    have B := HB.out.trans (b3.mono (by simp))
    refine bodyPost_ret (v := .tuple #[.agg #[.int .i64 0, .int .i64 0, .int .i64 0, .int .u64 0, .string ⟨#[]⟩], .int .i64 65]) (by simp [results, Tryd.results17, go_sem, World.cell?_setCell_same, World.cell?_setCell_other, c0, c1, c2, c3, c4]) rfl ⟨?_, ((((B.setCell (Nat.le_refl _) _).setCell (Nat.le_refl _) _).setCell (Nat.le_refl _) _).setCell (Nat.le_refl _) _).setCell (Nat.le_refl _) _⟩
    rw [← HR.out, txtT, hT]; rfl
  | some q =>
    rw [hT] at K1
    have hq := HX.out q hT
    go_enter Tryd.func17, Tryd.ntmps17
    go_wp2_with (first
      | (go_at_call 23; refine (K1.out (by omega)).mono ?_; rintro e w3 ⟨v, rfl, h4, h5, b3⟩; have k5 := conv_own (h5 _ rfl); obtain ⟨c0, c1, c2, c3, c4⟩ := (HL.out w3 b3).c; have fz : ∀ o, w3.frozen? ⟨w.heap.size, o, none⟩ = false := fun o => (HL.out w3 b3).f))
    have B := HB.out.trans (b3.mono (by simp))
    refine bodyPost_ret (v := .tuple #[.agg #[.int .i64 3, .int .i64 p, .int .i64 (p + (q.2 + 1) : Nat), .int .u64 0, .string (bs q.1)], .int .i64 0]) (by simp [results, Tryd.results17, go_sem, World.cell?_setCell_same, World.cell?_setCell_other, c0, c1, c2, c3, c4]) rfl ⟨?_, ((((B.setCell (Nat.le_refl _) _).setCell (Nat.le_refl _) _).setCell (Nat.le_refl _) _).setCell (Nat.le_refl _) _).setCell (Nat.le_refl _) _⟩
    rw [← HR.out, txtT, hT]; rfl

end Go.Proofs.YteohpiamfpnofabDoor
