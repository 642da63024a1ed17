/- awake: chapter 6's examples; what is asked: the package's variables as their text lays them. -/
import Derived.Test.YteohpiamfpnofabDoorSm
import Derived.Test.YteohpiamfpnofabDoorSn
import Derived.Lib.SlBytesConst
namespace Go.Proofs.YteohpiamfpnofabDoor
open Go.RowKit Go.Maps

def aw1 : Bs := [104, 97, 110, 100, 108, 101, 114, 32, 97, 49, 61, 34, 92, 120, 52, 49, 34, 35, 120]
def aw2 : Bs := [120, 32, 47, 42, 32, 121]
theorem aw1_scan : scan aw1 = .inr [⟨8, 0, 7, 0, []⟩, ⟨1, 8, 10, 0, []⟩, ⟨24, 10, 11, 0, []⟩, ⟨3, 11, 17, 0, [65]⟩] := by kernel_rfl
theorem aw2_scan : scan aw2 = .inl (2, 62) := by kernel_rfl
theorem awk : kd [45, 62] = 21 := by decide
theorem awt : tx 14 = [119, 105, 116, 104] := by decide
theorem awq : qt [10] = [34, 92, 120, 48, 97, 34] := by decide

theorem byt_const (w : World) (l : Bs) (f : Nat × Nat) : Byt (w.alloc (.cells (l.map fun x => Value.int .u8 (x.toNat : Int)).toArray 5 f)) w.heap.size 0 l := fun i hi => by
  rw [Nat.zero_add, cell_new]
  simp [hi]

/-- A token in a row. -/
theorem tok_cell {W : World} {B g c n : Nat} {l : List Tok} (h : Toks W B (.slice (some ⟨g, 0, none⟩) n c) l) (i : Nat) (t : Tok) (ht : l[i]? = some t) :
    W.cell? ⟨g, i * 5, none⟩ = some (.int .i64 t.kind) ∧ W.cell? ⟨g, i * 5 + 1, none⟩ = some (.int .i64 t.pos) ∧ W.cell? ⟨g, i * 5 + 2, none⟩ = some (.int .i64 t.fin) ∧ W.cell? ⟨g, i * 5 + 3, none⟩ = some (.int .u64 t.num) ∧ W.cell? ⟨g, i * 5 + 4, none⟩ = some (.string (bs t.text)) := by
  have flat : ∀ (l : List Tok) (i : Nat) (t : Tok), l[i]? = some t → ∀ k, k < 5 → (l.flatMap tcells)[i * 5 + k]? = (tcells t)[k]? := by
    intro l
    induction l with
    | nil => intro i t h; simp at h
    | cons x r ih =>
      intro i t h k hk
      rw [List.flatMap_cons]
      have hx : (tcells x).length = 5 := rfl
      cases i with
      | zero =>
        simp at h; subst h
        rw [List.getElem?_append_left (by rw [hx]; omega)]
        simp
      | succ i =>
        rw [List.getElem?_append_right (by rw [hx]; omega), hx, show (i + 1) * 5 + k - 5 = i * 5 + k by omega]
        exact ih i t (by simpa using h) k hk
  obtain ⟨h1, ⟨h2, h3⟩ | ⟨g', cap, cur, h2, h3, h4, h5, h6, h7, h8⟩⟩ := h
  · cases h2
  · cases h2
    have hi : i < l.length := (List.getElem?_eq_some_iff.1 ht).1
    have key : ∀ k, k < 5 → W.cell? ⟨g, i * 5 + k, none⟩ = (tcells t)[k]? := fun k hk => by
      have h9 : (cur.toList.take (l.length * 5))[i * 5 + k]? = (l.flatMap tcells)[i * 5 + k]? := by rw [h8]
      rw [List.getElem?_take_of_lt (by omega), flat l i t ht k hk] at h9
      simp only [World.cell?, h4]
      simpa using h9
    exact ⟨key 0 (by decide), key 1 (by decide), key 2 (by decide), key 3 (by decide), key 4 (by decide)⟩

set_option maxRecDepth 100000 in
set_option maxHeartbeats 4000000 in
theorem awake_any (w : World) (hv : Sv w) : Calls Tryd.prog 5 #[] w fun e w' => e = .returned (.bool true) ∧ Below w.heap.size w w' := by
  have kc := fun (w : World) (C : Array Value) (n c : Nat) => Lib.run_convert_bytes_const (P := Tryd.prog) w 22 5 C n c und22 und5
  have K1 : Hid (∀ W : World, Sv W → Calls Tryd.prog 4 #[.slice (some ⟨W.heap.size, 0, none⟩) 19 19] (W.alloc (.cells #[.int .u8 104, .int .u8 97, .int .u8 110, .int .u8 100, .int .u8 108, .int .u8 101, .int .u8 114, .int .u8 32, .int .u8 97, .int .u8 49, .int .u8 61, .int .u8 34, .int .u8 92, .int .u8 120, .int .u8 52, .int .u8 49, .int .u8 34, .int .u8 35, .int .u8 120] 5 (19, 20))) fun e w' => Below W.heap.size W w' ∧ ∃ g c, e = .returned (.tuple #[.slice (some ⟨g, 0, none⟩) 4 c, .agg #[.int .i64 0, .int .i64 0]]) ∧ Toks w' W.heap.size (.slice (some ⟨g, 0, none⟩) 4 c) [⟨8, 0, 7, 0, []⟩, ⟨1, 8, 10, 0, []⟩, ⟨24, 10, 11, 0, []⟩, ⟨3, 11, 17, 0, [65]⟩]) := fun W hW => by
    have hb := byt_const W aw1 (19, 20)
    refine (scan_all (some ⟨W.heap.size, 0, none⟩) aw1 19 _ ⟨by decide, .inr ⟨_, _, rfl, hb⟩⟩ (by decide) (hW.below (below1 W _) (Nat.le_refl _))).mono ?_
    rw [aw1_scan]
    rintro e w' ⟨h1, v, h2, h3⟩
    have hB := (below1 W _).trans (h1.mono (by simp))
    obtain ⟨a, ⟨h4, h5⟩ | ⟨g, cap, cur, rfl, h6⟩⟩ := id h3
    · simp at h5
    · exact ⟨hB, g, cap, h2, own_mono h3 (by simp)⟩
  have K2 : Hid (∀ W : World, Sv W → Calls Tryd.prog 4 #[.slice (some ⟨W.heap.size, 0, none⟩) 6 6] (W.alloc (.cells #[.int .u8 120, .int .u8 32, .int .u8 47, .int .u8 42, .int .u8 32, .int .u8 121] 5 (6, 7))) fun e w' => Below W.heap.size W w' ∧ e = .returned (.tuple #[.slice none 0 0, .agg #[.int .i64 2, .int .i64 62]])) := fun W hW => by
    have hb := byt_const W aw2 (6, 7)
    refine (scan_all (some ⟨W.heap.size, 0, none⟩) aw2 6 _ ⟨by decide, .inr ⟨_, _, rfl, hb⟩⟩ (by decide) (hW.below (below1 W _) (Nat.le_refl _))).mono ?_
    rw [aw2_scan]
    rintro e w' ⟨h1, h2⟩
    exact ⟨(below1 W _).trans (h1.mono (by simp)), h2⟩
  have HV := Lib.hid hv
  clear hv
  go_enter Tryd.func5, Tryd.ntmps5
  go_wp2_with fail
  refine (K1.out w HV.out).mono ?_
  rintro e w2 ⟨b2, g, c, rfl, ht⟩
  have HV2 := Lib.hid (HV.out.below b2 (Nat.le_refl _))
  have kc2 := fun (ob : Obj) (C : Array Value) (n c : Nat) => kc (w2.alloc ob) C n c
  simp only [World.size_alloc] at kc2
  have HB1 := Lib.hid (below1 w2 (.cells #[.int .i64 0, .int .i64 0] 26))
  have K3 := Lib.hid (K2.out (w2.alloc (.cells #[.int .i64 0, .int .i64 0] 26)) (HV2.out.below HB1.out (Nat.le_refl _)))
  have HT := Lib.hid ht
  have HB2 := Lib.hid b2
  have F := Lib.hid (heap_alloc_new w2 (.cells #[.int .i64 0, .int .i64 0] 26))
  rw [World.size_alloc] at K3
  have hg : g < w2.heap.size := by
    obtain ⟨_, ⟨h4, _⟩ | ⟨g', cap, cur, h4, _, h6, _⟩⟩ := id ht
    · cases h4
    · cases h4; exact (Array.getElem?_eq_some_iff.1 h6).1
  clear ht b2 K1 K2
  go_wp2_with fail
  refine K3.out.mono ?_
  rintro e w3 ⟨b3, rfl⟩
  have B12 := HB1.out.trans (b3.mono (by simp))
  have HV3 := Lib.hid (HV2.out.below B12 (Nat.le_refl _))
  have T : Toks w3 w.heap.size (.slice (some ⟨g, 0, none⟩) 4 c) [⟨8, 0, 7, 0, []⟩, ⟨1, 8, 10, 0, []⟩, ⟨24, 10, 11, 0, []⟩, ⟨3, 11, 17, 0, [65]⟩] := owns_held HT.out B12
  obtain ⟨t00, -, -, -, -⟩ := tok_cell T 0 _ rfl
  obtain ⟨-, -, t32, -, t34⟩ := tok_cell T 3 _ rfl
  have hf : w3.heap[w2.heap.size]? = some (.cells #[.int .i64 0, .int .i64 0] 26 (0, 0)) := (b3.block w2.heap.size (by simp)).trans F.out
  have f0 : w3.cell? ⟨w2.heap.size, 0, none⟩ = some (.int .i64 0) := by simp only [World.cell?, hf]; rfl
  have f1 : w3.cell? ⟨w2.heap.size, 1, none⟩ = some (.int .i64 0) := by simp only [World.cell?, hf]; rfl
  have HW3 := Lib.hid (HB2.out.trans (B12.mono HB2.out.size))
  have hlt : w2.heap.size < w3.heap.size := Nat.lt_of_lt_of_le (by simp) b3.size
  have hgl : g < w3.heap.size := by omega
  simp only [Nat.zero_mul, Nat.reduceMul, Nat.reduceAdd] at t00 t32 t34
  clear T hf B12 b3 kc kc2 K3 HT HB2 HB1 F HV2 HV hg
  have e65 : (bs [65]).toList = [65] := tl_bs _
  have ew : (bs [119, 105, 116, 104]).toList = [119, 105, 116, 104] := tl_bs _
  have eq : (bs [34, 92, 120, 48, 97, 34]).toList = [34, 92, 120, 48, 97, 34] := tl_bs _
  have HB4 := Lib.hid (below1 w3 (.cells #[.int .i64 2, .int .i64 62] 26))
  have HV4 := HV3.out.below HB4.out (Nat.le_refl _)
  have KA : Hid (Calls Tryd.prog 8 #[.string ⟨#[45, 62]⟩] (w3.alloc (.cells #[.int .i64 2, .int .i64 62] 26)) fun e w' => e = .returned (.int .i64 21) ∧ w' = (w3.alloc (.cells #[.int .i64 2, .int .i64 62] 26))) := by
    have := kind_any ⟨#[45, 62]⟩ _ HV4.1
    rw [show tl ⟨#[45, 62]⟩ = [45, 62] from tl_bs [45, 62], awk] at this
    exact this
  have KB : Hid (Calls Tryd.prog 9 #[.int .i64 14] (w3.alloc (.cells #[.int .i64 2, .int .i64 62] 26)) fun e w' => e = .returned (.string (bs [119, 105, 116, 104])) ∧ w' = (w3.alloc (.cells #[.int .i64 2, .int .i64 62] 26))) := by
    have := text_kind 14 _ HV4.1
    rw [awt] at this
    exact this
  have KC : Hid (Calls Tryd.prog 10 #[.string ⟨#[10]⟩] (w3.alloc (.cells #[.int .i64 2, .int .i64 62] 26)) fun e w' => e = .returned (.string (bs [34, 92, 120, 48, 97, 34])) ∧ Below w.heap.size w w') := by
    have := quote_any ⟨#[10]⟩ (w3.alloc (.cells #[.int .i64 2, .int .i64 62] 26)) (by decide)
    rw [show tl ⟨#[10]⟩ = [10] from tl_bs [10], awq] at this
    have hB := HW3.out.trans (HB4.out.mono HW3.out.size)
    exact this.mono fun e w' ⟨h1, h2⟩ => ⟨h1, hB.trans (h2.mono hB.size)⟩
  clear HV4 HB4 HV3 HW3
  go_wp2_with fail
  refine KA.out.mono ?_
  rintro e w5 ⟨rfl, h5⟩
  have h5' := h5.symm
  subst h5'
  go_wp2_with fail
  refine KB.out.mono ?_
  rintro e w6 ⟨rfl, h6⟩
  have h6' := h6.symm
  subst h6'
  go_wp2_with fail
  refine KC.out.mono ?_
  rintro e w7 ⟨rfl, h7⟩
  go_wp2_with fail
  go_ret
  exact ⟨rfl, h7⟩
end Go.Proofs.YteohpiamfpnofabDoor
