/- A trie that New did not give: its calls do nothing and answer so; what is asked of the world: the two tables of unicode/utf8 as their text lays them. -/
import Derived.Test.YtnlplnlclnbdiaaGreatDoorKr
namespace Go.Proofs.YtnlplnlclnbdiaaGreatDoor
open Go.RowKit Tp Go.Maps Go.Shelf

/-- nil, or a plain one. -/
def Nob (W : World) (v : Value) : Prop := v = .pointer none ∨ ∃ t, v = .pointer (some ⟨t, 0, none⟩) ∧ W.heap[t]? = some (.cells #[.pointer none] 55 (0, 0))
theorem Nob.below {W W' : World} {v : Value} (h : Nob W v) (hB : Below W.heap.size W W') : Nob W' v := by
  rcases h with h | ⟨t, h1, h2⟩
  · exact .inl h
  · exact .inr ⟨t, h1, (hB.block t (Array.getElem?_eq_some_iff.1 h2).1).trans h2⟩

section
variable {w : World} {v : Value}

set_option maxRecDepth 100000 in
set_option maxHeartbeats 2000000 in
theorem startOf_nob (h : Nob w v) (f : ByteArray) :
    Calls Tryz.prog 30 #[v, .string f] w fun e w' => e = .returned (.tuple #[.agg #[.pointer none, .slice none 0 0], .bool false]) ∧ Below w.heap.size w w' := by
  rcases h with rfl | ⟨t, rfl, hc⟩
  · go_enter Tryz.func30, Tryz.ntmps30
    go_wp2
    refine bodyPost_ret (v := .tuple #[.agg #[.pointer none, .slice none 0 0], .bool false]) ?_ rfl ⟨rfl, below1 _ _⟩
    simp [results, Tryz.f30, go_sem]
  · have hlt := (Array.getElem?_eq_some_iff.1 hc).1
    have hc0 : w.cell? ⟨t, 0, none⟩ = some (.pointer none) := by rw [cell_at hc 0]; rfl
    have hc1 : ∀ ob, (w.alloc ob).cell? ⟨t, 0, none⟩ = some (.pointer none) := fun ob => cell_below hc0 (below1 w ob) hlt
    go_enter Tryz.func30, Tryz.ntmps30
    go_wp2
    refine bodyPost_ret (v := .tuple #[.agg #[.pointer none, .slice none 0 0], .bool false]) ?_ rfl ⟨rfl, below1 _ _⟩
    simp [results, Tryz.f30, go_sem]

theorem Nob.ptr (h : Nob w v) : ∃ a, v = .pointer a := by
  rcases h with rfl | ⟨t, rfl, hc⟩ <;> exact ⟨_, rfl⟩

set_option maxRecDepth 100000 in
set_option maxHeartbeats 2000000 in
theorem add_nob (h : Nob w v) (f : ByteArray) (i : Int) :
    Calls Tryz.prog 13 #[v, .string f, .int .i64 i] w fun e w' => e = .returned (.bool false) ∧ Below w.heap.size w w' := by
  have hs := startOf_nob h f
  obtain ⟨a, rfl⟩ := h.ptr
  go_enter Tryz.func13, Tryz.ntmps13
  go_wp2_with (first
    | (go_at_call 30; refine hs.mono ?_; rintro e w1 ⟨rfl, hb1⟩))
  go_ret
  exact ⟨rfl, hb1.alloc hb1.size _⟩

set_option maxRecDepth 100000 in
set_option maxHeartbeats 2000000 in
theorem rem_nob (h : Nob w v) (f : ByteArray) (i : Int) :
    Calls Tryz.prog 19 #[v, .string f, .int .i64 i] w fun e w' => e = .returned (.bool false) ∧ Below w.heap.size w w' := by
  have hs := startOf_nob h f
  obtain ⟨a, rfl⟩ := h.ptr
  go_enter Tryz.func19, Tryz.ntmps19
  go_wp2_with (first
    | (go_at_call 30; refine hs.mono ?_; rintro e w1 ⟨rfl, hb1⟩))
  go_ret
  exact ⟨rfl, hb1.alloc hb1.size _⟩

set_option maxRecDepth 100000 in
set_option maxHeartbeats 2000000 in
theorem match_nob (h : Nob w v) (nm : ByteArray) (hf : nm.size ≤ 9223372036854775807) (hT : Tabs w) :
    Calls Tryz.prog 15 #[v, .string nm] w fun e w' => e = .returned (.slice none 0 0) ∧ Below w.heap.size w w' := by
  cases hN : isName (tl nm) with
  | false => exact match_no nm hf hT v h.ptr hN
  | true =>
    have hn := name_any nm w hf hT
    rw [hN] at hn
    have hs : Hid (∀ W, Below w.heap.size w W → Calls Tryz.prog 30 #[v, .string nm] W fun e w' => e = .returned (.tuple #[.agg #[.pointer none, .slice none 0 0], .bool false]) ∧ Below W.heap.size W w') := fun W hW => startOf_nob (h.below hW) nm
    obtain ⟨a, rfl⟩ := h.ptr
    go_enter Tryz.func15, Tryz.ntmps15
    go_wp2_with (first
      | (go_at_call 33; refine hn.mono ?_; rintro e w1 ⟨rfl, hb1⟩)
      | (go_at_call 30; refine (hs.out _ hb1).mono ?_; rintro e w2 ⟨rfl, hb2⟩))
    go_ret
    have hb := hb1.trans (hb2.mono hb1.size)
    exact ⟨rfl, hb.alloc hb.size _⟩

set_option maxRecDepth 100000 in
set_option maxHeartbeats 2000000 in
theorem under_nob (h : Nob w v) (nm : ByteArray) :
    Calls Tryz.prog 21 #[v, .string nm] w fun e w' => e = .returned (.slice none 0 0) ∧ Below w.heap.size w w' := by
  have hs := startOf_nob h nm
  obtain ⟨a, rfl⟩ := h.ptr
  go_enter Tryz.func21, Tryz.ntmps21
  go_wp2_with (first
    | (go_at_call 30; refine hs.mono ?_; rintro e w1 ⟨rfl, hb1⟩))
  refine wp_loop_rounds 1 ?_
  rw [rounds_succ]
  go_wp2
  go_ret
  exact ⟨rfl, hb1.alloc hb1.size _⟩

set_option maxRecDepth 100000 in
set_option maxHeartbeats 2000000 in
theorem each_nob (h : Nob w v) (u : Value) (hu : ∃ F cap, u = .func (.func F) #[] cap) :
    Calls Tryz.prog 39 #[v, u] w fun e w' => e = .returned (.tuple #[]) ∧ w' = w := by
  obtain ⟨F, cap, rfl⟩ := hu
  rcases h with rfl | ⟨t, rfl, hc⟩
  · go_enter Tryz.func39, Tryz.ntmps39
    go_wp2
    go_end0
    exact ⟨rfl, rfl⟩
  · have hc0 : w.cell? ⟨t, 0, none⟩ = some (.pointer none) := by rw [cell_at hc 0]; rfl
    go_enter Tryz.func39, Tryz.ntmps39
    go_wp2
    go_end0
    exact ⟨rfl, rfl⟩

set_option maxRecDepth 100000 in
set_option maxHeartbeats 2000000 in
theorem nodes_nob (h : Nob w v) : Calls Tryz.prog 16 #[v] w fun e w' => e = .returned (.int .i64 0) ∧ Below w.heap.size w w' := by
  have he := Lib.hid (fun u hu => each_nob (h.below (below1 w (.cells #[.int .i64 0] 3))) u hu)
  have hmf : ∀ (fn : Fn) (first cap : Array Value) (w : World), (Instr.makeFunc fn first cap).run Tryz.prog w = .ok (.func fn first cap) w := fun _ _ _ _ => rfl
  obtain ⟨a, rfl⟩ := h.ptr
  go_enter Tryz.func16, Tryz.ntmps16
  go_wp2_with (first
    | (go_at_call 39; refine (he.out _ ⟨_, _, rfl⟩).mono ?_; rintro e w2 ⟨rfl, rfl⟩))
  go_ret
  exact ⟨rfl, below1 _ _⟩

set_option maxRecDepth 100000 in
set_option maxHeartbeats 2000000 in
theorem len_nob (h : Nob w v) : Calls Tryz.prog 23 #[v] w fun e w' => e = .returned (.int .i64 0) ∧ Below w.heap.size w w' := by
  have he := Lib.hid (fun u hu => each_nob (h.below (below1 w (.cells #[.int .i64 0] 3))) u hu)
  have hmf : ∀ (fn : Fn) (first cap : Array Value) (w : World), (Instr.makeFunc fn first cap).run Tryz.prog w = .ok (.func fn first cap) w := fun _ _ _ _ => rfl
  obtain ⟨a, rfl⟩ := h.ptr
  go_enter Tryz.func23, Tryz.ntmps23
  go_wp2_with (first
    | (go_at_call 39; refine (he.out _ ⟨_, _, rfl⟩).mono ?_; rintro e w2 ⟨rfl, rfl⟩))
  go_ret
  exact ⟨rfl, below1 _ _⟩

set_option maxRecDepth 100000 in
set_option maxHeartbeats 2000000 in
theorem filters_nob (h : Nob w v) : Calls Tryz.prog 18 #[v] w fun e w' => e = .returned (.slice none 0 0) ∧ Below w.heap.size w w' := by
  have he := Lib.hid (fun u hu => each_nob (h.below (below1 w (.cells #[.slice none 0 0] 35))) u hu)
  have hmf : ∀ (fn : Fn) (first cap : Array Value) (w : World), (Instr.makeFunc fn first cap).run Tryz.prog w = .ok (.func fn first cap) w := fun _ _ _ _ => rfl
  obtain ⟨a, rfl⟩ := h.ptr
  go_enter Tryz.func18, Tryz.ntmps18
  go_wp2_with (first
    | (go_at_call 39; refine (he.out _ ⟨_, _, rfl⟩).mono ?_; rintro e w2 ⟨rfl, rfl⟩)
    | (go_at_call 43; refine (Tryz.slices_Sort_string_none none 0 _).mono ?_; rintro e w3 ⟨rfl, rfl⟩))
  go_ret
  exact ⟨rfl, below1 _ _⟩
end
end Go.Proofs.YtnlplnlclnbdiaaGreatDoor
