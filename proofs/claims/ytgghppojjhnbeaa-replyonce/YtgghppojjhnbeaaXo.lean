/- The package's requests by their numbers; the conditions that each theorem names. -/
import Derived.Test.YtgghppojjhnbeaaXn
namespace Go.Proofs.Ytgghppojjhnbeaa
open Go.RowKit

/-- Where each request stands, by its number. -/
def plc (L : List Ak) : List (Int × Int) := L.zipIdx.map fun x => (x.1.co, (x.2 : Int))
theorem plc_take (L : List Ak) (j : Nat) (a : Ak) (hj : L[j]? = some a) : plc (L.take (j + 1)) = plc (L.take j) ++ [(a.co, (j : Int))] := by
  have hl := (List.getElem?_eq_some_iff.1 hj).1
  unfold plc
  rw [List.take_add_one, hj, List.zipIdx_append, List.map_append]
  simp
  omega
theorem plc_keys (L : List Ak) : (plc L).map (·.1) = L.map Ak.co := by
  unfold plc
  rw [List.map_map]
  have : ((fun x : Int × Int => x.1) ∘ fun x : Ak × Nat => (x.1.co, (x.2 : Int))) = Ak.co ∘ Prod.fst := rfl
  rw [this, ← List.map_map, List.zipIdx_map_fst]
theorem mem_plc {L : List Ak} {c i : Int} (h : (c, i) ∈ plc L) : ∃ (n : Nat) (a : Ak), i = n ∧ L[n]? = some a ∧ a.co = c := by
  unfold plc at h
  obtain ⟨⟨a, n⟩, hm, e⟩ := List.mem_map.1 h
  simp only [Prod.mk.injEq] at e
  refine ⟨n, a, e.2.symm, ?_, e.1⟩
  exact List.mem_zipIdx_iff_getElem?.1 hm
theorem lk_none {l : List (Int × Int)} {i : Int} (h : ∀ x ∈ l, x.1 ≠ i) : lk l i = none := by
  unfold lk
  rw [List.find?_eq_none.2 (fun x hx => by simpa using h x hx)]
  rfl
theorem none_lk {l : List (Int × Int)} {i : Int} (h : lk l i = none) : ∀ x ∈ l, x.1 ≠ i := fun x hx e => by
  unfold lk at h
  rw [Option.map_eq_none_iff, List.find?_eq_none] at h
  exact h x hx (by simpa using e)
theorem some_lk {l : List (Int × Int)} {i v : Int} (h : lk l i = some v) : (i, v) ∈ l := by
  unfold lk at h
  rw [Option.map_eq_some_iff] at h
  obtain ⟨⟨a, b⟩, h1, h2⟩ := h
  have h3 := List.find?_some h1
  simp only [beq_iff_eq] at h3
  simp only at h2
  subst h3 h2
  exact List.mem_of_find?_eq_some h1
theorem isSome_lk {l : List (Int × Int)} {i : Int} : (lk l i).isSome = true ↔ ∃ x ∈ l, x.1 = i := by
  constructor
  · intro h
    obtain ⟨v, hv⟩ := Option.isSome_iff_exists.1 h
    exact ⟨(i, v), some_lk hv, rfl⟩
  · rintro ⟨x, hx, rfl⟩
    cases h : lk l x.1 with
    | none => exact absurd rfl (none_lk h x hx)
    | some v => rfl
theorem fitL_up {nx : Int} : ∀ (l : Int) (L : List Ak), fitL nx l L = true → (∀ x ∈ L, l < x.co) ∧ (L.map Ak.co).Nodup
  | _, [], _ => ⟨fun x hx => by simp at hx, List.nodup_nil⟩
  | l, a :: r, h => by
    simp only [fitL, Bool.and_eq_true] at h
    obtain ⟨h1, h2⟩ := fitL_up a.co r h.2
    have h3 := h.1
    simp only [fit1, Bool.and_eq_true, decide_eq_true_eq] at h3
    refine ⟨fun x hx => ?_, ?_⟩
    · rcases List.mem_cons.1 hx with rfl | hx
      · omega
      · have := h1 x hx; omega
    · rw [List.map_cons, List.nodup_cons]
      refine ⟨fun hm => ?_, h2⟩
      obtain ⟨x, hx, e⟩ := List.mem_map.1 hm
      have := h1 x hx
      omega
theorem co_inj : ∀ {L : List Ak}, (L.map Ak.co).Nodup → ∀ {i j : Nat} {a b : Ak}, L[i]? = some a → L[j]? = some b → a.co = b.co → i = j
  | L, h, i, j, a, b, hi, hj, e => by
    have h1 : (L.map Ak.co)[i]? = some a.co := by rw [List.getElem?_map, hi]; rfl
    have h2 : (L.map Ak.co)[j]? = some a.co := by rw [List.getElem?_map, hj, e]; rfl
    have hl := (List.getElem?_eq_some_iff.1 h1).1
    exact (List.getElem?_inj hl h).1 (h1.trans h2.symm)
theorem lk_new {L : List Ak} (h : (L.map Ak.co).Nodup) {j : Nat} {a : Ak} (hj : L[j]? = some a) : lk (plc (L.take j)) a.co = none := by
  refine lk_none fun x hx e => ?_
  obtain ⟨c, i⟩ := x
  obtain ⟨n, b, rfl, h1, h2⟩ := mem_plc hx
  have hn : n < j := by
    have := (List.getElem?_eq_some_iff.1 h1).1
    rw [List.length_take] at this
    omega
  rw [List.getElem?_take, if_pos hn] at h1
  have := co_inj h h1 hj (h2.trans e)
  omega

set_option maxRecDepth 100000 in
set_option maxHeartbeats 4000000 in
theorem byNumber_any (sv : Value) (L : List Ak) (w : World) (h : Al w sv L) (hl : L.length ≤ 1024) (hn : (L.map Ak.co).Nodup) :
    Calls Try.prog 17 #[sv] w fun e w' => e = .returned (.map (some w.heap.size)) ∧ Lm w' w.heap.size (plc L) ∧ Below w.heap.size w w' := by
  have HA := Lib.hid h
  have HN := Lib.hid hn
  obtain ⟨ad, cap, rfl, -⟩ := h
  have b2 := below1 w (.map #[] 0)
  obtain ⟨w2, hw2⟩ : ∃ w2, w2 = w.alloc (.map #[] 0) := ⟨_, rfl⟩
  have m2 : Lm w2 w.heap.size [] := ⟨#[], 0, by rw [hw2]; exact heap_alloc_new w _, rfl⟩
  rw [← hw2] at b2
  have hmm : (Instr.makeMap 44 (some (.int .i64 (L.length : Int)))).run Try.prog w = .ok (.map (some w.heap.size)) w2 := by
    rw [hw2]
    simp [Instr.makeMap, run_underlying underL, asInt, asIntOf]
  have HM := Lib.hid m2
  have HB := Lib.hid b2
  clear hw2 m2 b2 hn
  go_enter Try.func17, Try.ntmps17
  go_wp2_with fail
  clear hmm
  go_loopg [11] L.length (fun g s11 wx => ∃ (j : Nat), j + g = L.length ∧ s11 = .int .i64 j ∧ Lm wx w.heap.size (plc (L.take j)) ∧ Below w.heap.size w wx)
  case atStart => exact ⟨0, by omega, rfl, HM.out, HB.out⟩
  case round =>
    obtain ⟨j, hjg, rfl, hm, hb⟩ := hrel
    clear HM HB
    cases gk with
    | zero =>
      obtain rfl : j = L.length := by omega
      rw [List.take_length] at hm
      go_wp2
      go_ret
      exact ⟨rfl, hm, hb⟩
    | succ g =>
      have hj : j < L.length := by omega
      obtain ⟨a, ha⟩ : ∃ a, L[j]? = some a := ⟨_, List.getElem?_eq_getElem hj⟩
      obtain ⟨b, of, cp, e, hc⟩ := (HA.out.below hb).at (by omega)
      simp only [Value.slice.injEq, true_and] at e
      obtain ⟨rfl, rfl⟩ := e
      obtain ⟨c0, c1, c2⟩ := a3 (hc j a ha)
      have hji : (j : Int) < (L.length : Int) := by omega
      have b1 := below1 wr (.cells a.cs 41)
      have n1 := Bk.new wr a.cs 41
      obtain ⟨w5, hw5⟩ : ∃ w5, w5 = wr.alloc (.cells a.cs 41) := ⟨_, rfl⟩
      rw [← hw5] at b1 n1
      have HW5 := Lib.hid hw5.symm
      obtain ⟨k0, k1, k2⟩ := a3 (b := wr.heap.size) (o := 0) (x := a) (fun q v hv => by rw [Nat.zero_add, n1.c q, ← Array.getElem?_toList]; exact hv)
      simp only [Nat.zero_add] at k1 k2
      have hsz := hb.size
      have m5 := hm.heap (b1.block w.heap.size hm.lt)
      obtain ⟨w6, hupd, hm6, hg6, hs6⟩ := upd_mp w5 w.heap.size _ m5 a.co (j : Int) (lk_new HN.out ha)
      have B5 : Below w.heap.size w w5 := hb.trans (b1.mono hb.size)
      have B6 : Below w.heap.size w w6 := ⟨hg6.os.trans B5.os, hg6.tape.trans B5.tape, hg6.output.trans B5.output, Nat.le_trans B5.size hg6.size, fun k hk => (hg6.block k (Nat.lt_of_lt_of_le hk B5.size) (by simp; omega)).trans (B5.block k hk)⟩
      rw [← plc_take L j a ha] at hm6
      have HM6 := Lib.hid hm6
      have HB6 := Lib.hid B6
      clear ha hc n1 hw5 b1 hm hb m5 B5 B6 hm6 hg6
      go_wp2_with (first | rw [HW5.out])
      go_roundg g
      case measure => omega
      case rel => exact ⟨j + 1, by omega, by simp, HM6.out, HB6.out⟩

/-- The row that grows while the list is gone through. -/
def inM (M : List (Int × Int)) (L : List Ak) : List Ak := L.filter fun a => (lk M a.co).isSome
set_option maxRecDepth 100000 in
set_option maxHeartbeats 4000000 in
theorem stillIn_any (r : Nat) (M : List (Int × Int)) (sv : Value) (L : List Ak) (w : World) (hM : Lm w r M) (h : Al w sv L) (hl : L.length ≤ 1024) :
    Calls Try.prog 18 #[.map (some r), sv] w fun e w' => ∃ s2, e = .returned s2 ∧ w'.ownsRow w.heap.size 41 3 s2 (inM M L).length (flk Ak.cl (inM M L)) ∧ Below w.heap.size w w' := by
  obtain ⟨i0, hi0, hz0, hz1, hz2⟩ := info_parts infoAk
  have HA := Lib.hid h
  have HM := Lib.hid hM
  have hrl := hM.lt
  obtain ⟨ad, cap, rfl, -⟩ := h
  clear hM
  go_enter Try.func18, Try.ntmps18
  go_wp2_with fail
  go_loopg [5, 12] L.length (fun g s5 s12 wx => ∃ (j : Nat), j + g = L.length ∧ s12 = .int .i64 j ∧ wx.ownsRow w.heap.size 41 3 s5 (inM M (L.take j)).length (flk Ak.cl (inM M (L.take j))) ∧ Below w.heap.size w wx)
  case atStart => exact ⟨0, by omega, rfl, World.ownsRow_nil _ _ _ _, Below.refl _ _⟩
  case round =>
    obtain ⟨j, hjg, rfl, ho, hb⟩ := hrel
    have HO := Lib.hid ho
    have HB := Lib.hid hb
    obtain ⟨ga, gc, rfl⟩ := row_form ho
    cases gk with
    | zero =>
      obtain rfl : j = L.length := by omega
      rw [List.take_length] at HO ⊢
      clear ho
      go_wp2_with fail
      go_ret
      exact ⟨_, rfl, HO.out, HB.out⟩
    | succ g =>
      have hj : j < L.length := by omega
      obtain ⟨a, ha⟩ : ∃ a, L[j]? = some a := ⟨_, List.getElem?_eq_getElem hj⟩
      obtain ⟨b, of, cp, e, hc⟩ := (HA.out.below hb).at (by omega)
      simp only [Value.slice.injEq, true_and] at e
      obtain ⟨rfl, rfl⟩ := e
      obtain ⟨c0, c1, c2⟩ := a3 (hc j a ha)
      have hl0 : inM M (L.take (j + 1)) = inM M (L.take j) ++ (if (lk M a.co).isSome = true then [a] else []) := flt_take (fun a => (lk M a.co).isSome) L j a ha
      have hn0 : (inM M (L.take j)).length ≤ j := flt_len (fun a => (lk M a.co).isSome) L j
      have hji : (j : Int) < (L.length : Int) := by omega
      have b1 := below1 wr (.cells a.cs 41)
      have n1 := Bk.new wr a.cs 41
      obtain ⟨w5, hw5⟩ : ∃ w5, w5 = wr.alloc (.cells a.cs 41) := ⟨_, rfl⟩
      rw [← hw5] at b1 n1
      have HW5 := Lib.hid hw5.symm
      obtain ⟨k0, k1, k2⟩ := a3 (b := wr.heap.size) (o := 0) (x := a) (fun q v hv => by rw [Nat.zero_add, n1.c q, ← Array.getElem?_toList]; exact hv)
      simp only [Nat.zero_add] at k1 k2
      have HL0 := Lib.hid hl0
      have hsz := hb.size
      have B5 : Below w.heap.size w w5 := hb.trans (b1.mono hb.size)
      have hsz5 := B5.size
      have m5 := HM.out.heap (B5.block r hrl)
      have hown5 := own_below ho b1
      have hlook := look_mp w5 r M m5 a.co true
      have HB5 := Lib.hid B5
      clear ha hc hl0 n1 hw5 b1 hb ho m5 B5 HO HB
      cases hlk : lk M a.co with
      | none =>
        rw [hlk] at hlook HL0
        simp only [Option.getD_none, Option.isSome_none, if_true] at hlook
        have HO5 := Lib.hid hown5
        clear hown5
        go_wp2_with (first | rw [HW5.out])
        go_roundg g
        case measure => omega
        case rel =>
          refine ⟨j + 1, by omega, by simp, ?_, HB5.out⟩
          rw [HL0.out]
          simpa using HO5.out
      | some v =>
        rw [hlk] at hlook HL0
        simp only [Option.getD_some, Option.isSome_some, if_true] at hlook
        go_wp2_with (first | rw [HW5.out] | (at_builtin; refine wpList_append_near _ rfl _ _ 22 rfl w.heap.size 41 i0 _ 3 32 Try.underlying22 hi0 hz0 hz1 hz2 rfl (by decide) _ _ _ rfl (hown5.alloc _) ⟨w5.heap.size, 0, none⟩ 1 1 a.cl rfl rfl (new_cells _ _ _) a.one (by unfold maxLen; omega) (by omega) (by simp; omega) ?_; intro v1 w7 hown7 hgrow7 hnear7; obtain ⟨va, vc, rfl⟩ := row_form hown7))
        go_roundg g
        case measure => omega
        case rel =>
          refine ⟨j + 1, by omega, by simp, ?_, ?_⟩
          · rw [HL0.out]
            simp only [Option.isSome_some, if_true]
            rw [List.length_append, flk_app]
            simpa [flk] using hown7
          · exact below_grown (HB5.out.trans ((below1 w5 _).mono hsz5)) hgrow7 (hown5.alloc _) (Nat.le_refl _)

end Go.Proofs.Ytgghppojjhnbeaa
