/- strings.SplitSeq at the blank: the pieces of a text, one after another; no condition but those that each theorem names. -/
import Derived.Test.YtanjkljcoccblaaDoorCv
import Derived.Test.YtanjkljcoccblaaDoorCr
import Derived.Sort.LoopGhostIn
namespace Go.Proofs.YtanjkljcoccblaaDoor
open Go.RowKit Go.Maps
attribute [local go_sem] Oper.semAt_some

/-- What stands between the blanks. -/
def spl : Bs → List Bs
  | [] => [[]]
  | b :: r => if b = 32 then [] :: spl r else (b :: (spl r).headD []) :: (spl r).tail
theorem spl_ne (l : Bs) : spl l ≠ [] := by
  cases l with
  | nil => simp [spl]
  | cons b r => unfold spl; split <;> simp
theorem spl_flat : ∀ (a : Bs), (32 : UInt8) ∉ a → spl a = [a]
  | [], _ => rfl
  | b :: r, h => by
    have hb : b ≠ 32 := fun e => h (by simp [e])
    have hr : (32 : UInt8) ∉ r := fun e => h (List.mem_cons_of_mem _ e)
    rw [spl, if_neg hb, spl_flat r hr]; rfl
theorem spl_cut : ∀ (a b : Bs), (32 : UInt8) ∉ a → spl (a ++ 32 :: b) = a :: spl b
  | [], b, _ => by simp [spl]
  | c :: r, b, h => by
    have hc : c ≠ 32 := fun e => h (by simp [e])
    have hr : (32 : UInt8) ∉ r := fun e => h (List.mem_cons_of_mem _ e)
    rw [List.cons_append, spl, if_neg hc, spl_cut r b hr]; rfl

theorem idx_cases (c : UInt8) : ∀ l : Bs, (c ∉ l ∧ Lib.indexByte l c = -1) ∨ ∃ a b, l = a ++ c :: b ∧ c ∉ a ∧ Lib.indexByte l c = (a.length : Int)
  | [] => .inl ⟨by simp, rfl⟩
  | x :: l => by
    by_cases hx : x = c
    · subst hx
      exact .inr ⟨[], l, rfl, by simp, by simp [Lib.indexByte]⟩
    · have hx' : (x == c) = false := by simpa using hx
      rcases idx_cases c l with ⟨h1, h2⟩ | ⟨a, b, rfl, h2, h3⟩
      · refine .inl ⟨?_, by simp [Lib.indexByte, hx', h2]⟩
        intro h
        rcases List.mem_cons.1 h with e | h
        · exact hx e.symm
        · exact h1 h
      · refine .inr ⟨x :: a, b, rfl, ?_, ?_⟩
        · intro h
          rcases List.mem_cons.1 h with e | h
          · exact hx e.symm
          · exact h2 h
        · rw [Lib.indexByte, hx', h3]
          have : ((a.length : Int) == -1) = false := by simp
          simp [this]
theorem tl_ext (s : ByteArray) (i j : Nat) : tl (s.extract i j) = ((tl s).drop i).take (j - i) := by
  rw [tl_data, tl_data, ByteArray.data_extract, Array.toList_extract, List.extract_eq_take_drop]
theorem frozen_at {w : World} {g : Nat} {cs : Array Value} {t : TypeId} (h : w.heap[g]? = some (.cells cs t (0, 0))) (i : Nat) : w.frozen? ⟨g, i, none⟩ = false := by simp [World.frozen?, h]
theorem block_set {w : World} {g i : Nat} {cs : Array Value} {t : TypeId} {fr : Nat × Nat} (h : w.heap[g]? = some (.cells cs t fr)) (v : Value) : (w.setCell ⟨g, i, none⟩ v).heap[g]? = some (.cells (cs.setIfInBounds i v) t fr) := by
  obtain ⟨hlt, hk⟩ := Array.getElem?_eq_some_iff.1 h
  show (w.heap.modify g _)[g]? = _
  rw [Array.getElem?_eq_getElem (by rw [Array.size_modify]; exact hlt), Array.getElem_modify_self, hk]
  rfl

/-- The iterator's three boxes. -/
def Bxs (W : World) (b : Nat) (r : ByteArray) : Prop := W.heap[b]? = some (.cells #[.string r] 9 (0, 0)) ∧ W.heap[b + 1]? = some (.cells #[.string ⟨#[32]⟩] 9 (0, 0)) ∧ W.heap[b + 1 + 1]? = some (.cells #[.int .i64 0] 3 (0, 0))
def Kb (b k : Nat) : Prop := k = b ∨ k = b + 1 ∨ k = b + 1 + 1
theorem Bxs.kept {W W' : World} {b : Nat} {r : ByteArray} (h : Bxs W b r) (hk : ∀ k, Kb b k → W'.heap[k]? = W.heap[k]?) : Bxs W' b r :=
  ⟨(hk _ (.inl rfl)).trans h.1, (hk _ (.inr (.inl rfl))).trans h.2.1, (hk _ (.inr (.inr rfl))).trans h.2.2⟩
theorem Bxs.c {W : World} {b : Nat} {r : ByteArray} (h : Bxs W b r) : W.cell? ⟨b, 0, none⟩ = some (.string r) ∧ W.cell? ⟨b + 1, 0, none⟩ = some (.string ⟨#[32]⟩) ∧ W.cell? ⟨b + 1 + 1, 0, none⟩ = some (.int .i64 0) ∧ W.frozen? ⟨b, 0, none⟩ = false :=
  ⟨by rw [cell_at h.1 0]; rfl, by rw [cell_at h.2.1 0]; rfl, by rw [cell_at h.2.2 0]; rfl, frozen_at h.1 0⟩
theorem Bxs.set {W : World} {b : Nat} {r : ByteArray} (h : Bxs W b r) (x : ByteArray) : Bxs (W.setCell ⟨b, 0, none⟩ (.string x)) b x :=
  ⟨by have := block_set (i := 0) h.1 (.string x); simpa using this, by rw [Below.heap_setCell _ _ _ _ (by show b + 1 ≠ b; omega)]; exact h.2.1, by rw [Below.heap_setCell _ _ _ _ (by show b + 1 + 1 ≠ b; omega)]; exact h.2.2⟩

set_option maxRecDepth 100000 in
set_option maxHeartbeats 4000000 in
theorem seq_gives (n b : Nat) (hn : 1 ≤ n) (s : ByteArray) (hs : s.size ≤ 9223372036854775807) (w : World) (hb : Bxs w b s) :
    Gives Tryd.prog n 43 #[.pointer (some ⟨b + 1, 0, none⟩), .pointer (some ⟨b, 0, none⟩), .pointer (some ⟨b + 1 + 1, 0, none⟩)] (fun x : ByteArray => #[.string x]) b (Kb b) ((spl (tl s)).map bs) w := fun l J W hW hJd hJs hY h0 => by
  have hbW : Bxs W b s := hb.kept fun k hk => hW.block k (by
    have h2 := (Array.getElem?_eq_some_iff.1 hb.2.2).1
    rcases hk with rfl | rfl | rfl <;> omega)
  have HY := Lib.hid hY
  have HJ := Lib.hid hJs
  clear hY hJs hJd hb hW
  refine callsIn_of_wp Tryd.func43 rfl trivial ?_ rfl
  simp only [Tryd.ntmps43, List.size_toArray, List.length_cons, List.length_nil, Nat.reduceAdd, Nat.reduceSub, Array.replicate_succ, Array.replicate_zero, List.push_toArray, List.append_toArray, List.nil_append, List.cons_append]
  obtain ⟨c0, c1, c2, c3⟩ := hbW.c
  gi_wp2
  clear c0 c1 c2 c3
  gi_loopg [7] s.size (fun gk s7 wx => ∃ pre r, r.size ≤ gk ∧ gk ≤ s.size ∧ (spl (tl s)).map bs = pre ++ (spl (tl r)).map bs ∧ Bxs wx b r ∧ J pre wx)
  case atStart => exact ⟨[], s, Nat.le_refl _, Nat.le_refl _, rfl, hbW, h0⟩
  case round =>
    obtain ⟨pre, r, hrg, hgs, hx, hbx, hJp⟩ := hrel
    obtain ⟨c0, c1, c2, c3⟩ := hbx.c
    rcases idx_cases 32 (tl r) with ⟨h1, h2⟩ | ⟨a, q, h1, h2, h3⟩
    · rw [tl_data] at h2
      rw [spl_flat _ h1, List.map_cons, bs_tl, List.map_nil] at hx
      obtain ⟨fn, tmps, assign, body, hy, hR⟩ := HY.out pre r wr (by rw [hx]; simp) hJp
      gi_wp2_with (first
        | (refine ⟨trivial, ?_⟩; gi_at_call 45; refine (callsIn_wide.2 (Tryd.strings_Index_one _ _ _)).mono ?_; rintro e w' ⟨rfl, rfl⟩; rw [h2]))
      refine hR.mono ?_
      rintro e W3 ⟨rfl, hJ3, hk3⟩
      gi_wp2
      go_end0
      exact ⟨⟨_, rfl⟩, by rw [hx]; exact hJ3⟩
    · have hl := congrArg List.length h1
      rw [tl_size, List.length_append, List.length_cons] at hl
      have hx2 : (spl (tl s)).map bs = pre ++ bs a :: (spl q).map bs := by rw [hx, h1, spl_cut _ _ h2]; rfl
      have e1 : r.extract 0 a.length = bs a := by rw [← tl_inj, tl_ext, tl_bs, h1]; simp
      have e2 : r.extract (a.length + 1) r.size = bs q := by rw [← tl_inj, tl_ext, tl_bs, h1, show r.size - (a.length + 1) = q.length by omega]; simp
      obtain ⟨fn, tmps, assign, body, hy, hR⟩ := HY.out pre (bs a) wr (by rw [hx2]; simp) hJp
      rw [tl_data] at h3
      have c4 : (0 : Int) ≤ (a.length : Int) := by omega
      have c5 : (a.length : Int) ≤ (r.size : Int) := by omega
      have c6 : (0 : Int) ≤ (a.length : Int) + 1 := by omega
      have c7 : (a.length : Int) + 1 ≤ (r.size : Int) := by omega
      have HX := Lib.hid hx2
      clear hx hx2 h1
      gi_wp2_with (first
        | (refine ⟨trivial, ?_⟩; gi_at_call 45; refine (callsIn_wide.2 (Tryd.strings_Index_one _ _ _)).mono ?_; rintro e w' ⟨rfl, rfl⟩; rw [h3]))
      refine hR.mono ?_
      rintro e W3 ⟨rfl, hJ3, hk3⟩
      have hbx3 := hbx.kept hk3
      obtain ⟨d0, d1, d2, d3⟩ := hbx3.c
      clear c0 c1 c2 c3
      have e3 : r.extract (a.length + 1) (a.length + (q.length + 1)) = bs q := by rw [← hl]; exact e2
      clear e2
      gi_wp2
      gi_roundg q.length
      case measure => omega
      case rel => exact ⟨pre ++ [bs a], bs q, by rw [bs_size]; exact Nat.le_refl _, by omega, by rw [HX.out, tl_bs]; simp, hbx3.set _, HJ.out _ _ _ hJ3⟩

set_option maxHeartbeats 1000000 in
theorem splitSeq_any (s : ByteArray) (w : World) :
    Calls Tryd.prog 39 #[.string s, .string ⟨#[32]⟩, .int .i64 0] w fun e w' => e = .returned (.func (.func 43) #[] #[.pointer (some ⟨w.heap.size + 1, 0, none⟩), .pointer (some ⟨w.heap.size, 0, none⟩), .pointer (some ⟨w.heap.size + 1 + 1, 0, none⟩)]) ∧ Bxs w' w.heap.size s ∧ Below w.heap.size w w' ∧ w'.heap.size = w.heap.size + 3 := by
  go_enter Tryd.func39, Tryd.ntmps39
  go_wp2
  go_ret
  refine ⟨rfl, ⟨?_, ?_, ?_⟩, ((below1 _ _).alloc (by simp) _).alloc (by simp; omega) _, by simp⟩
  · rw [Below.heap_alloc _ _ _ (by simp; omega), Below.heap_alloc _ _ _ (by simp)]; exact heap_alloc_new w _
  · have := heap_alloc_new (w.alloc (.cells #[.string s] 9)) (.cells #[.string ⟨#[32]⟩] 9)
    rw [World.size_alloc] at this
    rw [Below.heap_alloc _ _ _ (by simp)]; exact this
  · have := heap_alloc_new ((w.alloc (.cells #[.string s] 9)).alloc (.cells #[.string ⟨#[32]⟩] 9)) (.cells #[.int .i64 0] 3)
    rw [World.size_alloc, World.size_alloc] at this
    exact this
set_option maxHeartbeats 1000000 in
theorem SplitSeq_any (s : ByteArray) (w : World) :
    Calls Tryd.prog 27 #[.string s, .string ⟨#[32]⟩] w fun e w' => e = .returned (.func (.func 43) #[] #[.pointer (some ⟨w.heap.size + 1, 0, none⟩), .pointer (some ⟨w.heap.size, 0, none⟩), .pointer (some ⟨w.heap.size + 1 + 1, 0, none⟩)]) ∧ Bxs w' w.heap.size s ∧ Below w.heap.size w w' ∧ w'.heap.size = w.heap.size + 3 := by
  have K := Lib.hid (splitSeq_any s w)
  go_enter Tryd.func27, Tryd.ntmps27
  go_wp2_with (first
    | (go_at_call 39; refine K.out.mono ?_; rintro e w2 ⟨rfl, h2⟩))
  go_ret
  exact ⟨rfl, h2⟩
end Go.Proofs.YtanjkljcoccblaaDoor
