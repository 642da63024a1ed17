/- The document's Word: a text into a rising row, once; no condition but those that each theorem names. -/
import Derived.Test.YtcnglhlljmfanaaGreatDoorMc
import Derived.Test.YtcnglhlljmfanaaGreatDoorKt
import Derived.Test.YtcnglhlljmfanaaGreatDoorKw
import Derived.Maps.AppendAt
namespace Go.Proofs.YtcnglhlljmfanaaGreatDoor
open Go.RowKit Tp Go.Maps Go.Shelf

theorem infoInt : (Tryz.prog.info? 3).map (fun i => (i.zero, i.size, i.bytes)) = some (some (.int .i64 0), 1, 8) := by kernel_rfl

/-- Where a number goes. -/
theorem spot (l : List Int) (x : Int) : ∃ k, k ≤ l.length ∧ (∀ (j : Nat) y, j < k → l[j]? = some y → y < x) ∧ (∀ y, l[k]? = some y → ¬ y < x) := by
  induction l with
  | nil => exact ⟨0, by simp, by simp, by simp⟩
  | cons a l ih =>
    by_cases ha : a < x
    · obtain ⟨k, h1, h2, h3⟩ := ih
      refine ⟨k + 1, by simp; omega, fun j y hj hy => ?_, fun y hy => h3 y (by simpa using hy)⟩
      cases j with
      | zero => simp at hy; omega
      | succ j => exact h2 j y (by omega) (by simpa using hy)
    · exact ⟨0, by simp, by simp, fun y hy => by simp at hy; omega⟩

theorem rise_put {l : List Int} {x : Int} {k : Nat} (hr : Rise l) (h1 : k ≤ l.length) (h2 : ∀ (j : Nat) y, j < k → l[j]? = some y → y < x) (h3 : ∀ y, l[k]? = some y → x < y) : Rise (l.take k ++ x :: l.drop k) := by
  unfold Rise at hr ⊢
  rw [List.pairwise_append]
  have hd : ∀ y ∈ l.drop k, x < y := fun y hy => by
    obtain ⟨j, hj⟩ := List.getElem?_of_mem hy
    rw [List.getElem?_drop] at hj
    by_cases hj0 : j = 0
    · subst hj0; exact h3 y hj
    · have hlt := (List.getElem?_eq_some_iff.1 hj).1
      have hk : k < l.length := by omega
      have := h3 l[k] (List.getElem?_eq_getElem hk)
      have h4 := List.pairwise_iff_getElem.1 hr k (k + j) hk hlt (by omega)
      rw [(List.getElem?_eq_some_iff.1 hj).2] at h4
      omega
  have ht : ∀ y ∈ l.take k, y < x := fun y hy => by
    obtain ⟨j, hj⟩ := List.getElem?_of_mem hy
    have hlt := (List.getElem?_eq_some_iff.1 hj).1
    rw [List.length_take] at hlt
    rw [List.getElem?_take_of_lt (by omega)] at hj
    exact h2 j y (by omega) hj
  refine ⟨hr.sublist (List.take_sublist _ _), List.pairwise_cons.2 ⟨hd, hr.sublist (List.drop_sublist _ _)⟩, fun a ha b hb => ?_⟩
  have := ht a ha
  rcases List.mem_cons.1 hb with rfl | hb
  · exact this
  · have := hd b hb; omega

theorem put_mem (l : List Int) (x : Int) (k : Nat) (i : Int) : i ∈ l.take k ++ x :: l.drop k ↔ i ∈ l ∨ i = x := by
  rw [List.mem_append, List.mem_cons]
  constructor
  · rintro (h | h | h)
    · exact .inl (List.mem_of_mem_take h)
    · exact .inr h
    · exact .inl (List.mem_of_mem_drop h)
  · rintro (h | h)
    · rw [← List.take_append_drop k l] at h
      rcases List.mem_append.1 h with h | h
      · exact .inl h
      · exact .inr (.inr h)
    · exact .inr (.inl h)

theorem below_row {w W W' : World} {row : Option Nat} (hb : Below w.heap.size w W) (hg : W.grownBy W' row) (hr : ∀ g, row = some g → w.heap.size ≤ g) : Below w.heap.size w W' :=
  ⟨hg.os.trans hb.os, hg.tape.trans hb.tape, hg.output.trans hb.output, Nat.le_trans hb.size hg.size, fun k hk => (hg.block k (by have := hb.size; omega) (fun e => by have := hr k e.symm; omega)).trans (hb.block k hk)⟩
theorem row_ge {W : World} {B : Nat} {e : TypeId} {z : Nat} {v : Value} {n : Nat} {xs : List Value} (h : W.ownsRow B e z v n xs) : ∀ g, v.ownBlock = some g → B ≤ g := fun g e => by
  obtain ⟨_, ⟨rfl, _⟩ | ⟨g', c', cur, rfl, h3, _⟩⟩ := h
  · cases e
  · cases e; exact h3
theorem row_below {W W' : World} {B : Nat} {e : TypeId} {z : Nat} {v : Value} {n : Nat} {xs : List Value} (h : W.ownsRow B e z v n xs) (hB : Below W.heap.size W W') : W'.ownsRow B e z v n xs := by
  obtain ⟨h1, h2 | ⟨g', c', cur, rfl, h3, h4, h5⟩⟩ := h
  · exact ⟨h1, .inl h2⟩
  · exact ⟨h1, .inr ⟨g', c', cur, rfl, h3, (hB.block g' (Array.getElem?_eq_some_iff.1 h4).1).trans h4, h5⟩⟩
theorem ints_one (l : List Int) : ∀ u ∈ l.map (Value.int .i64), u.oneCell' = true := fun u hu => by obtain ⟨_, _, rfl⟩ := List.mem_map.1 hu; rfl
theorem row_lower {W : World} {B B' : Nat} {e : TypeId} {z : Nat} {v : Value} {n : Nat} {xs : List Value} (h : W.ownsRow B e z v n xs) (hB : B' ≤ B) : W.ownsRow B' e z v n xs := by
  obtain ⟨h1, h2 | ⟨g', c', cur, rfl, h3, h4⟩⟩ := h
  · exact ⟨h1, .inl h2⟩
  · exact ⟨h1, .inr ⟨g', c', cur, rfl, by omega, h4⟩⟩

set_option maxRecDepth 100000 in
set_option maxHeartbeats 4000000 in
theorem rput_any (w : World) (B : Nat) (hBw : B ≤ w.heap.size) (v : Value) (l : List Int) (x : Int) (h : IntsAt w B v l) (hr : Rise l) (hl : l.length ≤ 4398046511104) :
    Calls Tryz.prog 36 #[v, .int .i64 x] w fun e w' => ∃ a c l', e = .returned (.slice a l'.length c) ∧ Rise l' ∧ (∀ i, i ∈ l' ↔ i ∈ l ∨ i = x) ∧ l'.length ≤ l.length + 1 ∧ IntsAt w' B (.slice a l'.length c) l' ∧ Below w.heap.size w w' := by
  obtain ⟨i0, hi0, hz0, hz1, hz2⟩ := info_parts infoInt
  obtain ⟨k, hk1, hk2, hk3⟩ := spot l x
  obtain ⟨av, cv, rfl⟩ := row_slice h
  rcases h.2 with ⟨e0, e1⟩ | ⟨g, cp, cur, e0, hBg, hg, hlc, hcm, hcs, htk⟩
  · obtain rfl : l = [] := List.eq_nil_of_length_eq_zero e1
    simp only [List.length_nil, Value.slice.injEq, true_and] at e0
    obtain ⟨rfl, rfl⟩ := e0
    obtain rfl : k = 0 := by simpa using hk1
    go_enter Tryz.func36, Tryz.ntmps36
    go_wp2
    go_loopg [5] 0 (fun gk s5 wx => s5 = .int .i64 0 ∧ wx = w)
    case atStart => exact ⟨rfl, rfl⟩
    case round =>
      obtain ⟨rfl, rfl⟩ := hrel
      go_wp2_with (first
        | (at_builtin; refine wpList_append_own_at _ rfl _ _ 43 rfl wr.heap.size 3 i0 (.int .i64 0) 1 8 Tryz.underlying43 hi0 hz0 hz1 hz2 rfl (by decide) (.slice none 0 0) 0 [] rfl (World.ownsRow_nil _ _ _ _) ⟨wr.heap.size, 0, none⟩ 1 1 [.int .i64 x] rfl rfl (cell_one_new _ _ _) (by simp [Value.oneCell']) (by unfold maxLen; omega) (by omega) (by simp) ?_; intro v4 w4 ho4 hg4 hn4 ha4
           have hb4 : Below wr.heap.size wr w4 := below_row ((Below.refl _ _).alloc (Nat.le_refl _) _) hg4 (fun _ e => by cases e)
           obtain ⟨g4, c4, rfl, hc4⟩ := (show ∃ g c, v4 = .slice (some ⟨g, 0, none⟩) 1 c ∧ 1 ≤ c from by
             rcases ho4.2 with ⟨_, e⟩ | ⟨g', c', cur', e, _, _, e2, _⟩
             · omega
             · exact ⟨g', c', e, e2⟩)
           have O4 := Lib.hid ho4
           clear ho4 ha4 hn4 hg4))
      go_ret
      exact ⟨_, _, [x], rfl, by simp [Rise], by simp, by simp, row_lower O4.out hBw, hb4⟩
  · simp only [Value.slice.injEq, true_and] at e0
    obtain ⟨rfl, rfl⟩ := e0
    have hgl := (Array.getElem?_eq_some_iff.1 hg).1
    have cl : ∀ W, Below w.heap.size w W → ∀ (j : Nat) y, l[j]? = some y → W.cell? ⟨g, j, none⟩ = some (.int .i64 y) := fun W hW j y hj => by
      rw [cell_at ((hW.block g hgl).trans hg) j]
      have hjl := (List.getElem?_eq_some_iff.1 hj).1
      have : (cur.toList.take (l.length * 1))[j]? = (l.map (Value.int .i64))[j]? := by rw [htk]
      rw [List.getElem?_take_of_lt (by omega), List.getElem?_map, hj] at this
      simpa using this
    have CL := Lib.hid cl
    have NT : Hid (∀ W, Below w.heap.size w W → ∀ j u, ((l.take k).map (Value.int .i64))[j]? = some u → W.cell? ((⟨g, 0, none⟩ : Addr).add j) = some u) := fun W hW j u hj => by
      rw [List.getElem?_map] at hj
      obtain ⟨y, hy, rfl⟩ := Option.map_eq_some_iff.1 hj
      have hjl := (List.getElem?_eq_some_iff.1 hy).1
      rw [List.length_take] at hjl
      rw [List.getElem?_take_of_lt (by omega)] at hy
      rw [addr_add, Nat.zero_add]; exact cl W hW j y hy
    have ND : Hid (∀ W, Below w.heap.size w W → ∀ j u, ((l.drop k).map (Value.int .i64))[j]? = some u → W.cell? ((⟨g, k, none⟩ : Addr).add j) = some u) := fun W hW j u hj => by
      rw [List.getElem?_map] at hj
      obtain ⟨y, hy, rfl⟩ := Option.map_eq_some_iff.1 hj
      rw [List.getElem?_drop] at hy
      rw [addr_add]; exact cl W hW _ y hy
    have L1 : ((l.take k).map (Value.int .i64)).length = k * 1 := by simp; omega
    have L2 : ((l.drop k).map (Value.int .i64)).length = (l.length - k) * 1 := by simp
    have FN : Hid (∀ (w5 : World) (v5 : Value), (∀ y, l[k]? = some y → x < y) → Below w.heap.size w w5 → w5.ownsRow w.heap.size 3 1 v5 (0 + k + 1 + (l.length - k)) ([] ++ (l.take k).map (Value.int .i64) ++ [.int .i64 x] ++ (l.drop k).map (Value.int .i64)) →
        ∃ a c l', v5 = .slice a l'.length c ∧ Rise l' ∧ (∀ i, i ∈ l' ↔ i ∈ l ∨ i = x) ∧ l'.length ≤ l.length + 1 ∧ IntsAt w5 B (.slice a l'.length c) l' ∧ Below w.heap.size w w5) := fun w5 v5 hy hb ho => by
      have e1 : (l.take k ++ x :: l.drop k).length = 0 + k + 1 + (l.length - k) := by simp; omega
      have e2 : (l.take k ++ x :: l.drop k).map (Value.int .i64) = [] ++ (l.take k).map (Value.int .i64) ++ [.int .i64 x] ++ (l.drop k).map (Value.int .i64) := by simp
      rw [← e1, ← e2] at ho
      obtain ⟨a, c, rfl⟩ := row_slice ho
      exact ⟨a, c, _, rfl, rise_put hr hk1 hk2 hy, put_mem l x k, by rw [e1]; omega, row_lower ho hBw, hb⟩
    have HI := Lib.hid h
    clear cl htk hcs
    go_enter Tryz.func36, Tryz.ntmps36
    go_wp2
    go_loopg [5] k (fun gk s5 wx => ∃ j : Nat, j + gk = k ∧ s5 = .int .i64 j ∧ wx = w)
    case atStart => exact ⟨0, by omega, rfl, rfl⟩
    case round =>
      obtain ⟨j, hjg, rfl, rfl⟩ := hrel
      cases gk with
      | succ gq =>
        have hj : j < l.length := by omega
        have hj' : ((j : Nat) : Int) < (l.length : Int) := by omega
        have q0 := CL.out _ (Below.refl _ _) j l[j] (List.getElem?_eq_getElem hj)
        have q1 := hk2 j l[j] (by omega) (List.getElem?_eq_getElem hj)
        clear h hk2 hk3 hr
        go_wp2
        go_roundg gq
        case measure => omega
        case rel => exact ⟨j + 1, by omega, by first | rfl | rw [wrap64_nat (by omega)] | simp, rfl⟩
      | zero =>
        obtain rfl : k = j := by omega
        have k0 : (0 : Int) ≤ ((k : Nat) : Int) := by omega
        have k1 : ((k : Nat) : Int) ≤ (cv : Int) := by omega
        have k2 : k ≤ cv := by omega
        have k4 : ((k : Nat) : Int) ≤ (l.length : Int) := by omega
        have k5 : (l.length : Int) ≤ (cv : Int) := by omega
        by_cases hke : k = l.length
        · have i1 : ¬ ((k : Nat) : Int) < (l.length : Int) := by omega
          have hy : Hid (∀ y, l[k]? = some y → x < y) := fun y h => by rw [List.getElem?_eq_none (by omega)] at h; cases h
          have hdl : Hid (l.length - k = 0) := (show l.length - k = 0 by omega)
          have hke' : Hid (k = l.length) := hke
          clear hk2 hk3 hr h hke
          by_cases hcp : cv = k
          · have hke2 := hke'.out
            subst hke2
            subst hcp
            go_wp2_with (first
            | (at_builtin; refine wpList_append_own_at _ rfl _ _ 43 rfl wr.heap.size 3 i0 (.int .i64 0) 1 8 Tryz.underlying43 hi0 hz0 hz1 hz2 rfl (by decide) (.slice none 0 0) 0 [] rfl (World.ownsRow_nil _ _ _ _) ⟨g, 0, none⟩ l.length _ ((l.take l.length).map (Value.int .i64)) rfl L1 (NT.out _ (Below.refl _ _)) (ints_one _) (by unfold maxLen; omega) (by omega) (Nat.le_refl _) ?_; intro v1 w3 ho1 hg1 hn1 ha1
               have hb3 : Below wr.heap.size wr w3 := below_row (Below.refl _ _) hg1 (fun _ e => by cases e)
               have hz3 := hb3.size
               have O1 : Hid ((w3.alloc (.cells #[.int .i64 x] 3)).ownsRow wr.heap.size 3 1 v1 (0 + l.length) ([] ++ (l.take l.length).map (Value.int .i64))) := row_below ho1 (below1 _ _)
               have G1 := Lib.hid (row_ge ho1)
               clear ho1 ha1 hn1 hg1)
            | (at_builtin; refine wpList_append_own_at _ rfl _ _ 43 rfl wr.heap.size 3 i0 (.int .i64 0) 1 8 Tryz.underlying43 hi0 hz0 hz1 hz2 rfl (by decide) v1 (0 + l.length) _ rfl O1.out ⟨w3.heap.size, 0, none⟩ 1 1 [.int .i64 x] rfl rfl (cell_one_new _ _ _) (by simp [Value.oneCell']) (by unfold maxLen; omega) (by omega) (by simp; omega) ?_; intro v4 w4 ho4 hg4 hn4 ha4
               have hb4 : Below wr.heap.size wr w4 := below_row (hb3.alloc hb3.size _) hg4 G1.out
               have hz4 := hb4.size
               have O4 := Lib.hid ho4
               have G4 := Lib.hid (row_ge ho4)
               clear ho4 ha4 hn4 hg4)
            | (at_builtin; refine wpList_append_own_at _ rfl _ _ 43 rfl wr.heap.size 3 i0 (.int .i64 0) 1 8 Tryz.underlying43 hi0 hz0 hz1 hz2 rfl (by decide) v4 (0 + l.length + 1) _ rfl O4.out ⟨g, 0, none⟩ 0 0 [] rfl rfl (by simp) (by simp) (by unfold maxLen; omega) (by omega) hz4 ?_; intro v5 w5 ho5 hg5 hn5 ha5
               have hb5 : Below wr.heap.size wr w5 := below_row hb4 hg5 G4.out))
            go_ret
            have e5 : l.drop l.length = [] := List.drop_length
            have e6 : l.length - l.length = 0 := Nat.sub_self _
            obtain ⟨a, c, l', rfl, r⟩ := FN.out w5 v5 hy.out hb5 (by rw [e5, e6]; simpa using ho5)
            exact ⟨a, c, l', rfl, r⟩
          · have hcp' : ¬ k = cv := fun e => hcp e.symm
            go_wp2_with (first
            | (at_builtin; refine wpList_append_own_at _ rfl _ _ 43 rfl wr.heap.size 3 i0 (.int .i64 0) 1 8 Tryz.underlying43 hi0 hz0 hz1 hz2 rfl (by decide) (.slice none 0 0) 0 [] rfl (World.ownsRow_nil _ _ _ _) ⟨g, 0, none⟩ k _ ((l.take k).map (Value.int .i64)) rfl L1 (NT.out _ (Below.refl _ _)) (ints_one _) (by unfold maxLen; omega) (by omega) (Nat.le_refl _) ?_; intro v1 w3 ho1 hg1 hn1 ha1
               have hb3 : Below wr.heap.size wr w3 := below_row (Below.refl _ _) hg1 (fun _ e => by cases e)
               have hz3 := hb3.size
               have O1 : Hid ((w3.alloc (.cells #[.int .i64 x] 3)).ownsRow wr.heap.size 3 1 v1 (0 + k) ([] ++ (l.take k).map (Value.int .i64))) := row_below ho1 (below1 _ _)
               have G1 := Lib.hid (row_ge ho1)
               clear ho1 ha1 hn1 hg1)
            | (at_builtin; refine wpList_append_own_at _ rfl _ _ 43 rfl wr.heap.size 3 i0 (.int .i64 0) 1 8 Tryz.underlying43 hi0 hz0 hz1 hz2 rfl (by decide) v1 (0 + k) _ rfl O1.out ⟨w3.heap.size, 0, none⟩ 1 1 [.int .i64 x] rfl rfl (cell_one_new _ _ _) (by simp [Value.oneCell']) (by unfold maxLen; omega) (by omega) (by simp; omega) ?_; intro v4 w4 ho4 hg4 hn4 ha4
               have hb4 : Below wr.heap.size wr w4 := below_row (hb3.alloc hb3.size _) hg4 G1.out
               have hz4 := hb4.size
               have O4 := Lib.hid ho4
               have G4 := Lib.hid (row_ge ho4)
               clear ho4 ha4 hn4 hg4)
            | (at_builtin; refine wpList_append_own_at _ rfl _ _ 43 rfl wr.heap.size 3 i0 (.int .i64 0) 1 8 Tryz.underlying43 hi0 hz0 hz1 hz2 rfl (by decide) v4 (0 + k + 1) _ rfl O4.out ⟨g, k, none⟩ (l.length - k) _ ((l.drop k).map (Value.int .i64)) rfl L2 (ND.out _ hb4) (ints_one _) (by unfold maxLen; omega) (by omega) hz4 ?_; intro v5 w5 ho5 hg5 hn5 ha5
               have hb5 : Below wr.heap.size wr w5 := below_row hb4 hg5 G4.out))
            go_ret
            obtain ⟨a, c, l', rfl, r⟩ := FN.out w5 v5 hy.out hb5 ho5
            exact ⟨a, c, l', rfl, r⟩
        · have hkl : k < l.length := by omega
          have i1 : ((k : Nat) : Int) < (l.length : Int) := by omega
          have q0 := CL.out _ (Below.refl _ _) k l[k] (List.getElem?_eq_getElem hkl)
          have q1 := hk3 l[k] (List.getElem?_eq_getElem hkl)
          by_cases hx : l[k] = x
          · have q2 : (l[k] == x) = true := by simp [hx]
            clear hk2 hk3 h
            go_wp2
            go_ret
            exact ⟨_, _, l, rfl, hr, fun i => ⟨.inl, fun h => h.elim id (fun e => e ▸ hx ▸ List.getElem_mem hkl)⟩, by omega, HI.out, Below.refl _ _⟩
          · have q2 : (l[k] == x) = false := by simp [hx]
            have hy : Hid (∀ y, l[k]? = some y → x < y) := fun y h => by rw [List.getElem?_eq_getElem hkl] at h; cases h; omega
            have hcp' : ¬ k = cv := by omega
            have hcp : ¬ cv = k := by omega
            clear hk2 hk3 hr h
            go_wp2_with (first
            | (at_builtin; refine wpList_append_own_at _ rfl _ _ 43 rfl wr.heap.size 3 i0 (.int .i64 0) 1 8 Tryz.underlying43 hi0 hz0 hz1 hz2 rfl (by decide) (.slice none 0 0) 0 [] rfl (World.ownsRow_nil _ _ _ _) ⟨g, 0, none⟩ k _ ((l.take k).map (Value.int .i64)) rfl L1 (NT.out _ (Below.refl _ _)) (ints_one _) (by unfold maxLen; omega) (by omega) (Nat.le_refl _) ?_; intro v1 w3 ho1 hg1 hn1 ha1
               have hb3 : Below wr.heap.size wr w3 := below_row (Below.refl _ _) hg1 (fun _ e => by cases e)
               have hz3 := hb3.size
               have O1 : Hid ((w3.alloc (.cells #[.int .i64 x] 3)).ownsRow wr.heap.size 3 1 v1 (0 + k) ([] ++ (l.take k).map (Value.int .i64))) := row_below ho1 (below1 _ _)
               have G1 := Lib.hid (row_ge ho1)
               clear ho1 ha1 hn1 hg1)
            | (at_builtin; refine wpList_append_own_at _ rfl _ _ 43 rfl wr.heap.size 3 i0 (.int .i64 0) 1 8 Tryz.underlying43 hi0 hz0 hz1 hz2 rfl (by decide) v1 (0 + k) _ rfl O1.out ⟨w3.heap.size, 0, none⟩ 1 1 [.int .i64 x] rfl rfl (cell_one_new _ _ _) (by simp [Value.oneCell']) (by unfold maxLen; omega) (by omega) (by simp; omega) ?_; intro v4 w4 ho4 hg4 hn4 ha4
               have hb4 : Below wr.heap.size wr w4 := below_row (hb3.alloc hb3.size _) hg4 G1.out
               have hz4 := hb4.size
               have O4 := Lib.hid ho4
               have G4 := Lib.hid (row_ge ho4)
               clear ho4 ha4 hn4 hg4)
            | (at_builtin; refine wpList_append_own_at _ rfl _ _ 43 rfl wr.heap.size 3 i0 (.int .i64 0) 1 8 Tryz.underlying43 hi0 hz0 hz1 hz2 rfl (by decide) v4 (0 + k + 1) _ rfl O4.out ⟨g, k, none⟩ (l.length - k) _ ((l.drop k).map (Value.int .i64)) rfl L2 (ND.out _ hb4) (ints_one _) (by unfold maxLen; omega) (by omega) hz4 ?_; intro v5 w5 ho5 hg5 hn5 ha5
               have hb5 : Below wr.heap.size wr w5 := below_row hb4 hg5 G4.out))
            go_ret
            obtain ⟨a, c, l', rfl, r⟩ := FN.out w5 v5 hy.out hb5 ho5
            exact ⟨a, c, l', rfl, r⟩

/-- Where a number goes. -/
theorem spotW (l : List Bs) (x : Bs) : ∃ k, k ≤ l.length ∧ (∀ (j : Nat) y, j < k → l[j]? = some y → y < x) ∧ (∀ y, l[k]? = some y → ¬ y < x) := by
  induction l with
  | nil => exact ⟨0, by simp, by simp, by simp⟩
  | cons a l ih =>
    by_cases ha : a < x
    · obtain ⟨k, h1, h2, h3⟩ := ih
      refine ⟨k + 1, by simp; omega, fun j y hj hy => ?_, fun y hy => h3 y (by simpa using hy)⟩
      cases j with
      | zero => simp at hy; subst hy; exact ha
      | succ j => exact h2 j y (by omega) (by simpa using hy)
    · exact ⟨0, by simp, by simp, fun y hy => by simp at hy; subst hy; exact ha⟩

theorem rise_word {l : List Bs} {x : Bs} {k : Nat} (hr : TRise l) (h1 : k ≤ l.length) (h2 : ∀ (j : Nat) y, j < k → l[j]? = some y → y < x) (h3 : ∀ y, l[k]? = some y → x < y) : TRise (l.take k ++ x :: l.drop k) := by
  unfold TRise at hr ⊢
  rw [List.pairwise_append]
  have hd : ∀ y ∈ l.drop k, x < y := fun y hy => by
    obtain ⟨j, hj⟩ := List.getElem?_of_mem hy
    rw [List.getElem?_drop] at hj
    by_cases hj0 : j = 0
    · subst hj0; exact h3 y hj
    · have hlt := (List.getElem?_eq_some_iff.1 hj).1
      have hk : k < l.length := by omega
      have := h3 l[k] (List.getElem?_eq_getElem hk)
      have h4 := List.pairwise_iff_getElem.1 hr k (k + j) hk hlt (by omega)
      rw [(List.getElem?_eq_some_iff.1 hj).2] at h4
      exact blt_tr _ _ _ this h4
  have ht : ∀ y ∈ l.take k, y < x := fun y hy => by
    obtain ⟨j, hj⟩ := List.getElem?_of_mem hy
    have hlt := (List.getElem?_eq_some_iff.1 hj).1
    rw [List.length_take] at hlt
    rw [List.getElem?_take_of_lt (by omega)] at hj
    exact h2 j y (by omega) hj
  refine ⟨hr.sublist (List.take_sublist _ _), List.pairwise_cons.2 ⟨hd, hr.sublist (List.drop_sublist _ _)⟩, fun a ha b hb => ?_⟩
  have := ht a ha
  rcases List.mem_cons.1 hb with rfl | hb
  · exact this
  · exact blt_tr _ _ _ this (hd b hb)

theorem word_mem (l : List Bs) (x : Bs) (k : Nat) (i : Bs) : i ∈ l.take k ++ x :: l.drop k ↔ i ∈ l ∨ i = x := by
  rw [List.mem_append, List.mem_cons]
  constructor
  · rintro (h | h | h)
    · exact .inl (List.mem_of_mem_take h)
    · exact .inr h
    · exact .inl (List.mem_of_mem_drop h)
  · rintro (h | h)
    · rw [← List.take_append_drop k l] at h
      rcases List.mem_append.1 h with h | h
      · exact .inl h
      · exact .inr (.inr h)
    · exact .inr (.inl h)

theorem bless (a b : Bs) : Op.bytesLess (bs a).toList (bs b).toList = decide (a < b) := by
  rw [bytesLess_eq]; simp [bs]
theorem beqq (a b : Bs) : ((bs a).toList == (bs b).toList) = decide (a = b) := by
  have h1 : (bs a).toList = a := by simp [bs]
  have h2 : (bs b).toList = b := by simp [bs]
  rw [h1, h2]
  by_cases h : a = b <;> simp [h]
theorem texts_one (l : List Bs) : ∀ u ∈ l.map (fun x => Value.string (bs x)), u.oneCell' = true := fun u hu => by obtain ⟨_, _, rfl⟩ := List.mem_map.1 hu; rfl

set_option maxRecDepth 100000 in
set_option maxHeartbeats 4000000 in
theorem rword_any (w : World) (B : Nat) (hBw : B ≤ w.heap.size) (v : Value) (l : List Bs) (x : Bs) (h : TextsAt w B v l) (hr : TRise l) (hl : l.length ≤ 4398046511104) :
    Calls Tryz.prog 42 #[v, .string (bs x)] w fun e w' => ∃ a c l', e = .returned (.slice a l'.length c) ∧ TRise l' ∧ (∀ i, i ∈ l' ↔ i ∈ l ∨ i = x) ∧ l'.length ≤ l.length + 1 ∧ TextsAt w' B (.slice a l'.length c) l' ∧ Below w.heap.size w w' := by
  obtain ⟨i0, hi0, hz0, hz1, hz2⟩ := info_parts infoStr
  obtain ⟨k, hk1, hk2, hk3⟩ := spotW l x
  obtain ⟨av, cv, rfl⟩ := row_slice h
  rcases h.2 with ⟨e0, e1⟩ | ⟨g, cp, cur, e0, hBg, hg, hlc, hcm, hcs, htk⟩
  · obtain rfl : l = [] := List.eq_nil_of_length_eq_zero e1
    simp only [List.length_nil, Value.slice.injEq, true_and] at e0
    obtain ⟨rfl, rfl⟩ := e0
    obtain rfl : k = 0 := by simpa using hk1
    go_enter Tryz.func42, Tryz.ntmps42
    go_wp2
    go_loopg [5] 0 (fun gk s5 wx => s5 = .int .i64 0 ∧ wx = w)
    case atStart => exact ⟨rfl, rfl⟩
    case round =>
      obtain ⟨rfl, rfl⟩ := hrel
      go_wp2_with (first
        | (at_builtin; refine wpList_append_own_at _ rfl _ _ 47 rfl wr.heap.size 9 i0 (.string ⟨#[]⟩) 1 16 Tryz.underlying47 hi0 hz0 hz1 hz2 rfl (by decide) (.slice none 0 0) 0 [] rfl (World.ownsRow_nil _ _ _ _) ⟨wr.heap.size, 0, none⟩ 1 1 [.string (bs x)] rfl rfl (cell_one_new _ _ _) (by simp [Value.oneCell']) (by unfold maxLen; omega) (by omega) (by simp) ?_; intro v4 w4 ho4 hg4 hn4 ha4
           have hb4 : Below wr.heap.size wr w4 := below_row ((Below.refl _ _).alloc (Nat.le_refl _) _) hg4 (fun _ e => by cases e)
           obtain ⟨g4, c4, rfl, hc4⟩ := (show ∃ g c, v4 = .slice (some ⟨g, 0, none⟩) 1 c ∧ 1 ≤ c from by
             rcases ho4.2 with ⟨_, e⟩ | ⟨g', c', cur', e, _, _, e2, _⟩
             · omega
             · exact ⟨g', c', e, e2⟩)
           have O4 := Lib.hid ho4
           clear ho4 ha4 hn4 hg4))
      go_ret
      exact ⟨_, _, [x], rfl, by simp [TRise], by simp, by simp, row_lower O4.out hBw, hb4⟩
  · simp only [Value.slice.injEq, true_and] at e0
    obtain ⟨rfl, rfl⟩ := e0
    have hgl := (Array.getElem?_eq_some_iff.1 hg).1
    have cl : ∀ W, Below w.heap.size w W → ∀ (j : Nat) y, l[j]? = some y → W.cell? ⟨g, j, none⟩ = some (.string (bs y)) := fun W hW j y hj => by
      rw [cell_at ((hW.block g hgl).trans hg) j]
      have hjl := (List.getElem?_eq_some_iff.1 hj).1
      have : (cur.toList.take (l.length * 1))[j]? = (l.map (fun x => Value.string (bs x)))[j]? := by rw [htk]
      rw [List.getElem?_take_of_lt (by omega), List.getElem?_map, hj] at this
      simpa using this
    have CL := Lib.hid cl
    have NT : Hid (∀ W, Below w.heap.size w W → ∀ j u, ((l.take k).map (fun x => Value.string (bs x)))[j]? = some u → W.cell? ((⟨g, 0, none⟩ : Addr).add j) = some u) := fun W hW j u hj => by
      rw [List.getElem?_map] at hj
      obtain ⟨y, hy, rfl⟩ := Option.map_eq_some_iff.1 hj
      have hjl := (List.getElem?_eq_some_iff.1 hy).1
      rw [List.length_take] at hjl
      rw [List.getElem?_take_of_lt (by omega)] at hy
      rw [addr_add, Nat.zero_add]; exact cl W hW j y hy
    have ND : Hid (∀ W, Below w.heap.size w W → ∀ j u, ((l.drop k).map (fun x => Value.string (bs x)))[j]? = some u → W.cell? ((⟨g, k, none⟩ : Addr).add j) = some u) := fun W hW j u hj => by
      rw [List.getElem?_map] at hj
      obtain ⟨y, hy, rfl⟩ := Option.map_eq_some_iff.1 hj
      rw [List.getElem?_drop] at hy
      rw [addr_add]; exact cl W hW _ y hy
    have L1 : ((l.take k).map (fun x => Value.string (bs x))).length = k * 1 := by simp; omega
    have L2 : ((l.drop k).map (fun x => Value.string (bs x))).length = (l.length - k) * 1 := by simp
    have FN : Hid (∀ (w5 : World) (v5 : Value), (∀ y, l[k]? = some y → x < y) → Below w.heap.size w w5 → w5.ownsRow w.heap.size 9 1 v5 (0 + k + 1 + (l.length - k)) ([] ++ (l.take k).map (fun x => Value.string (bs x)) ++ [.string (bs x)] ++ (l.drop k).map (fun x => Value.string (bs x))) →
        ∃ a c l', v5 = .slice a l'.length c ∧ TRise l' ∧ (∀ i, i ∈ l' ↔ i ∈ l ∨ i = x) ∧ l'.length ≤ l.length + 1 ∧ TextsAt w5 B (.slice a l'.length c) l' ∧ Below w.heap.size w w5) := fun w5 v5 hy hb ho => by
      have e1 : (l.take k ++ x :: l.drop k).length = 0 + k + 1 + (l.length - k) := by simp; omega
      have e2 : (l.take k ++ x :: l.drop k).map (fun x => Value.string (bs x)) = [] ++ (l.take k).map (fun x => Value.string (bs x)) ++ [.string (bs x)] ++ (l.drop k).map (fun x => Value.string (bs x)) := by simp
      rw [← e1, ← e2] at ho
      obtain ⟨a, c, rfl⟩ := row_slice ho
      exact ⟨a, c, _, rfl, rise_word hr hk1 hk2 hy, word_mem l x k, by rw [e1]; omega, row_lower ho hBw, hb⟩
    have HI := Lib.hid h
    clear cl htk hcs
    go_enter Tryz.func42, Tryz.ntmps42
    go_wp2
    go_loopg [5] k (fun gk s5 wx => ∃ j : Nat, j + gk = k ∧ s5 = .int .i64 j ∧ wx = w)
    case atStart => exact ⟨0, by omega, rfl, rfl⟩
    case round =>
      obtain ⟨j, hjg, rfl, rfl⟩ := hrel
      cases gk with
      | succ gq =>
        have hj : j < l.length := by omega
        have hj' : ((j : Nat) : Int) < (l.length : Int) := by omega
        have q0 := CL.out _ (Below.refl _ _) j l[j] (List.getElem?_eq_getElem hj)
        have q1 := hk2 j l[j] (by omega) (List.getElem?_eq_getElem hj)
        have b1 : Op.bytesLess (bs l[j]).toList (bs x).toList = true := by rw [bless]; exact decide_eq_true q1
        clear h hk2 hk3 hr
        go_wp2
        go_roundg gq
        case measure => omega
        case rel => exact ⟨j + 1, by omega, by first | rfl | rw [wrap64_nat (by omega)] | simp, rfl⟩
      | zero =>
        obtain rfl : k = j := by omega
        have k0 : (0 : Int) ≤ ((k : Nat) : Int) := by omega
        have k1 : ((k : Nat) : Int) ≤ (cv : Int) := by omega
        have k2 : k ≤ cv := by omega
        have k4 : ((k : Nat) : Int) ≤ (l.length : Int) := by omega
        have k5 : (l.length : Int) ≤ (cv : Int) := by omega
        by_cases hke : k = l.length
        · have i1 : ¬ ((k : Nat) : Int) < (l.length : Int) := by omega
          have hy : Hid (∀ y, l[k]? = some y → x < y) := fun y h => by rw [List.getElem?_eq_none (by omega)] at h; cases h
          have hdl : Hid (l.length - k = 0) := (show l.length - k = 0 by omega)
          have hke' : Hid (k = l.length) := hke
          clear hk2 hk3 hr h hke
          by_cases hcp : cv = k
          · have hke2 := hke'.out
            subst hke2
            subst hcp
            go_wp2_with (first
            | (at_builtin; refine wpList_append_own_at _ rfl _ _ 47 rfl wr.heap.size 9 i0 (.string ⟨#[]⟩) 1 16 Tryz.underlying47 hi0 hz0 hz1 hz2 rfl (by decide) (.slice none 0 0) 0 [] rfl (World.ownsRow_nil _ _ _ _) ⟨g, 0, none⟩ l.length _ ((l.take l.length).map (fun x => Value.string (bs x))) rfl L1 (NT.out _ (Below.refl _ _)) (texts_one _) (by unfold maxLen; omega) (by omega) (Nat.le_refl _) ?_; intro v1 w3 ho1 hg1 hn1 ha1
               have hb3 : Below wr.heap.size wr w3 := below_row (Below.refl _ _) hg1 (fun _ e => by cases e)
               have hz3 := hb3.size
               have O1 : Hid ((w3.alloc (.cells #[.string (bs x)] 9)).ownsRow wr.heap.size 9 1 v1 (0 + l.length) ([] ++ (l.take l.length).map (fun x => Value.string (bs x)))) := row_below ho1 (below1 _ _)
               have G1 := Lib.hid (row_ge ho1)
               clear ho1 ha1 hn1 hg1)
            | (at_builtin; refine wpList_append_own_at _ rfl _ _ 47 rfl wr.heap.size 9 i0 (.string ⟨#[]⟩) 1 16 Tryz.underlying47 hi0 hz0 hz1 hz2 rfl (by decide) v1 (0 + l.length) _ rfl O1.out ⟨w3.heap.size, 0, none⟩ 1 1 [.string (bs x)] rfl rfl (cell_one_new _ _ _) (by simp [Value.oneCell']) (by unfold maxLen; omega) (by omega) (by simp; omega) ?_; intro v4 w4 ho4 hg4 hn4 ha4
               have hb4 : Below wr.heap.size wr w4 := below_row (hb3.alloc hb3.size _) hg4 G1.out
               have hz4 := hb4.size
               have O4 := Lib.hid ho4
               have G4 := Lib.hid (row_ge ho4)
               clear ho4 ha4 hn4 hg4)
            | (at_builtin; refine wpList_append_own_at _ rfl _ _ 47 rfl wr.heap.size 9 i0 (.string ⟨#[]⟩) 1 16 Tryz.underlying47 hi0 hz0 hz1 hz2 rfl (by decide) v4 (0 + l.length + 1) _ rfl O4.out ⟨g, 0, none⟩ 0 0 [] rfl rfl (by simp) (by simp) (by unfold maxLen; omega) (by omega) hz4 ?_; intro v5 w5 ho5 hg5 hn5 ha5
               have hb5 : Below wr.heap.size wr w5 := below_row hb4 hg5 G4.out))
            go_ret
            have e5 : l.drop l.length = [] := List.drop_length
            have e6 : l.length - l.length = 0 := Nat.sub_self _
            obtain ⟨a, c, l', rfl, r⟩ := FN.out w5 v5 hy.out hb5 (by rw [e5, e6]; simpa using ho5)
            exact ⟨a, c, l', rfl, r⟩
          · have hcp' : ¬ k = cv := fun e => hcp e.symm
            go_wp2_with (first
            | (at_builtin; refine wpList_append_own_at _ rfl _ _ 47 rfl wr.heap.size 9 i0 (.string ⟨#[]⟩) 1 16 Tryz.underlying47 hi0 hz0 hz1 hz2 rfl (by decide) (.slice none 0 0) 0 [] rfl (World.ownsRow_nil _ _ _ _) ⟨g, 0, none⟩ k _ ((l.take k).map (fun x => Value.string (bs x))) rfl L1 (NT.out _ (Below.refl _ _)) (texts_one _) (by unfold maxLen; omega) (by omega) (Nat.le_refl _) ?_; intro v1 w3 ho1 hg1 hn1 ha1
               have hb3 : Below wr.heap.size wr w3 := below_row (Below.refl _ _) hg1 (fun _ e => by cases e)
               have hz3 := hb3.size
               have O1 : Hid ((w3.alloc (.cells #[.string (bs x)] 9)).ownsRow wr.heap.size 9 1 v1 (0 + k) ([] ++ (l.take k).map (fun x => Value.string (bs x)))) := row_below ho1 (below1 _ _)
               have G1 := Lib.hid (row_ge ho1)
               clear ho1 ha1 hn1 hg1)
            | (at_builtin; refine wpList_append_own_at _ rfl _ _ 47 rfl wr.heap.size 9 i0 (.string ⟨#[]⟩) 1 16 Tryz.underlying47 hi0 hz0 hz1 hz2 rfl (by decide) v1 (0 + k) _ rfl O1.out ⟨w3.heap.size, 0, none⟩ 1 1 [.string (bs x)] rfl rfl (cell_one_new _ _ _) (by simp [Value.oneCell']) (by unfold maxLen; omega) (by omega) (by simp; omega) ?_; intro v4 w4 ho4 hg4 hn4 ha4
               have hb4 : Below wr.heap.size wr w4 := below_row (hb3.alloc hb3.size _) hg4 G1.out
               have hz4 := hb4.size
               have O4 := Lib.hid ho4
               have G4 := Lib.hid (row_ge ho4)
               clear ho4 ha4 hn4 hg4)
            | (at_builtin; refine wpList_append_own_at _ rfl _ _ 47 rfl wr.heap.size 9 i0 (.string ⟨#[]⟩) 1 16 Tryz.underlying47 hi0 hz0 hz1 hz2 rfl (by decide) v4 (0 + k + 1) _ rfl O4.out ⟨g, k, none⟩ (l.length - k) _ ((l.drop k).map (fun x => Value.string (bs x))) rfl L2 (ND.out _ hb4) (texts_one _) (by unfold maxLen; omega) (by omega) hz4 ?_; intro v5 w5 ho5 hg5 hn5 ha5
               have hb5 : Below wr.heap.size wr w5 := below_row hb4 hg5 G4.out))
            go_ret
            obtain ⟨a, c, l', rfl, r⟩ := FN.out w5 v5 hy.out hb5 ho5
            exact ⟨a, c, l', rfl, r⟩
        · have hkl : k < l.length := by omega
          have i1 : ((k : Nat) : Int) < (l.length : Int) := by omega
          have q0 := CL.out _ (Below.refl _ _) k l[k] (List.getElem?_eq_getElem hkl)
          have q1 := hk3 l[k] (List.getElem?_eq_getElem hkl)
          have b1 : Op.bytesLess (bs l[k]).toList (bs x).toList = false := by rw [bless]; exact decide_eq_false q1
          by_cases hx : l[k] = x
          · have q2 : ((bs l[k]).toList == (bs x).toList) = true := by rw [beqq]; exact decide_eq_true hx
            have HX := Lib.hid hx
            clear hk2 hk3 h hx
            go_wp2
            go_ret
            exact ⟨_, _, l, rfl, hr, fun i => ⟨.inl, fun h => h.elim id (fun e => e ▸ HX.out ▸ List.getElem_mem hkl)⟩, by omega, HI.out, Below.refl _ _⟩
          · have q2 : ((bs l[k]).toList == (bs x).toList) = false := by rw [beqq]; exact decide_eq_false hx
            have hy : Hid (∀ y, l[k]? = some y → x < y) := fun y h => by rw [List.getElem?_eq_getElem hkl] at h; cases h; exact blt_of (List.not_lt.1 q1) (fun e => hx e.symm)
            have hcp' : ¬ k = cv := by omega
            have hcp : ¬ cv = k := by omega
            clear hk2 hk3 hr h
            go_wp2_with (first
            | (at_builtin; refine wpList_append_own_at _ rfl _ _ 47 rfl wr.heap.size 9 i0 (.string ⟨#[]⟩) 1 16 Tryz.underlying47 hi0 hz0 hz1 hz2 rfl (by decide) (.slice none 0 0) 0 [] rfl (World.ownsRow_nil _ _ _ _) ⟨g, 0, none⟩ k _ ((l.take k).map (fun x => Value.string (bs x))) rfl L1 (NT.out _ (Below.refl _ _)) (texts_one _) (by unfold maxLen; omega) (by omega) (Nat.le_refl _) ?_; intro v1 w3 ho1 hg1 hn1 ha1
               have hb3 : Below wr.heap.size wr w3 := below_row (Below.refl _ _) hg1 (fun _ e => by cases e)
               have hz3 := hb3.size
               have O1 : Hid ((w3.alloc (.cells #[.string (bs x)] 9)).ownsRow wr.heap.size 9 1 v1 (0 + k) ([] ++ (l.take k).map (fun x => Value.string (bs x)))) := row_below ho1 (below1 _ _)
               have G1 := Lib.hid (row_ge ho1)
               clear ho1 ha1 hn1 hg1)
            | (at_builtin; refine wpList_append_own_at _ rfl _ _ 47 rfl wr.heap.size 9 i0 (.string ⟨#[]⟩) 1 16 Tryz.underlying47 hi0 hz0 hz1 hz2 rfl (by decide) v1 (0 + k) _ rfl O1.out ⟨w3.heap.size, 0, none⟩ 1 1 [.string (bs x)] rfl rfl (cell_one_new _ _ _) (by simp [Value.oneCell']) (by unfold maxLen; omega) (by omega) (by simp; omega) ?_; intro v4 w4 ho4 hg4 hn4 ha4
               have hb4 : Below wr.heap.size wr w4 := below_row (hb3.alloc hb3.size _) hg4 G1.out
               have hz4 := hb4.size
               have O4 := Lib.hid ho4
               have G4 := Lib.hid (row_ge ho4)
               clear ho4 ha4 hn4 hg4)
            | (at_builtin; refine wpList_append_own_at _ rfl _ _ 47 rfl wr.heap.size 9 i0 (.string ⟨#[]⟩) 1 16 Tryz.underlying47 hi0 hz0 hz1 hz2 rfl (by decide) v4 (0 + k + 1) _ rfl O4.out ⟨g, k, none⟩ (l.length - k) _ ((l.drop k).map (fun x => Value.string (bs x))) rfl L2 (ND.out _ hb4) (texts_one _) (by unfold maxLen; omega) (by omega) hz4 ?_; intro v5 w5 ho5 hg5 hn5 ha5
               have hb5 : Below wr.heap.size wr w5 := below_row hb4 hg5 G4.out))
            go_ret
            obtain ⟨a, c, l', rfl, r⟩ := FN.out w5 v5 hy.out hb5 ho5
            exact ⟨a, c, l', rfl, r⟩
end Go.Proofs.YtcnglhlljmfanaaGreatDoor
